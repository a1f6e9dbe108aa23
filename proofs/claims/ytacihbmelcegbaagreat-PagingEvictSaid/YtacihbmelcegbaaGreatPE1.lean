import Derived.Test.YtacihbmelcegbaaGreatPE0
import Derived.BigQuiet
import Derived.WalkSmall
import Derived.Deep.Cut
import Derived.ChangeKeysEq
import Derived.Deep.MidRow
import Derived.Laws.ResultCell
import Derived.OrdersHeld
import Derived.Deep.QuietTactic
namespace Go.Proofs.YtacihbmelcegbaaGreat
open Go.Value renaming slice→O,int→Xe,bool→Xh,agg→Xi,pointer→Xj,tuple→Xm
open Go.IntKind renaming i64→Xf,u8→Xg
open Go.Obj renaming cells→Xk
open Go.Ending renaming returned→Xl
open Go renaming World→Xo,Calls→Xq,Value→Xr
open Go.RowKit renaming Hid→Xp
open Option renaming some→Xa,none→Xb
open Bool renaming true→Xc,false→Xd
open List renaming replicate→Xs
open _root_.List renaming mem_append→Xt,mem_range→Xu,getElem?_range→Xv,getElem?_of_mem→Xw,mem_or_eq_of_mem_set→Xx,mem_map→Xy,getElem?_map→Xz,range→Ya,pairwise_cons→Yb,any_eq_true→Yc,countP_append→Yd,length_nil→Ye,append_assoc→Yf,filter_append→Yh,getElem?_replicate→Yi,nodup_append→Yj,map_congr_left→Yk,mem_replicate→Ym,getElem?_append_left→Yn,filter_cons_of_pos→Yo,filter_cons_of_neg→Yp,length_cons→Yq,cons_append→Yr,drop_of_length_le→Ys,zipWith→Yt,zipWith_cons_cons→Yu,mem_filter→Yv,length_set→Yw,set_getElem_self→Yx,mem_cons_of_mem→Yy,countP_eq_zero→Yz,countP_pos_iff→Oa,takeWhile_cons→Ob,dropWhile_cons→Oc,mem_singleton→Od,mem_cons_self→Oe,flatMap_cons→Of,take_add_one→Og,ext_getElem?→Oi,any_eq_false→Oj
open _root_.Bool renaming and_eq_true→Yg
open Go.Sem renaming run_bind→Yl,run_pure→Oh
set_option maxRecDepth 100000
set_option maxHeartbeats 4000000
variable{A0 A1 B0 B1 b base' j kk:Nat} {Q:Exit->Act->Xo->Prop} {l:List Ar} {m m':Ma} {o:Oper} {ops:Array Oper} {us vs:List Xr} {w' w1:Xo} {z:Int}
open Go.Proofs.Tryz
section
open Go.RowKit
def siv (z:Int):List Xr:=[Xe Xf z]
theorem zor:(Tryz.prog.info? 3).map (fun i=>(i.zero,i.size,i.bytes))=Xa (Xa (Xe Xf 0),1,8):=by kernel_rfl
def slE:Elt Int where
 enc:=siv
 k:=1
 ty:=3
 st:=30
 bytes:=8
 zv:= Xe Xf 0
 zero:=0
 len:=fun _=>rfl
 one:=fun a u hu=>by
  simp only[siv,mC,nM,or_false]at hu;subst hu;rfl
 und:=underlying30
 info:=zor
 zok:=rfl
 few:=by decide
 pos:=by decide
def zaK (w:Xo) (a:Option Addr) (l:List Int):Prop:=∀(j:Nat) x,l[j]? =Xa x->∃ad,a=Xa ad/\∀W,zc w W->W.cell? (ad.add j)=Xa (Xe Xf x)
theorem zm.sls {w:Xo} {v:Xr} {l:List Int} (h:zm slE w v l):∃a c,v= O a l.length c/\zaK w a l:=by
 obtain⟨a,c,h1,h2⟩:=h.rows;refine⟨a,c,h1,fun j x hj=>?_⟩
 obtain⟨ad,h3,h4⟩:=h2 j x hj;refine⟨ad,h3,fun W hW=>?_⟩
 have:=h4 W hW 0 _ rfl;rw[zX,show j*slE.k+0=j from by show j*1+0=j;omega]at this
 exact this
def niv (z:Int):List Xr:=[Xe Xf z]
theorem zos:(Tryz.prog.info? 3).map (fun i=>(i.zero,i.size,i.bytes))=Xa (Xa (Xe Xf 0),1,8):=by kernel_rfl
def blE:Elt Int where
 enc:=niv
 k:=1
 ty:=3
 st:=29
 bytes:=8
 zv:= Xe Xf 0
 zero:=0
 len:=fun _=>rfl
 one:=fun a u hu=>by
  simp only[niv,mC,nM,or_false]at hu;subst hu;rfl
 und:=underlying29
 info:=zos
 zok:=rfl
 few:=by decide
 pos:=by decide
def zab (w:Xo) (a:Option Addr) (l:List Int):Prop:=∀(j:Nat) x,l[j]? =Xa x->∃ad,a=Xa ad/\∀W,zc w W->W.cell? (ad.add j)=Xa (Xe Xf x)
theorem zm.nums {w:Xo} {v:Xr} {l:List Int} (h:zm blE w v l):∃a c,v= O a l.length c/\zab w a l:=by
 obtain⟨a,c,h1,h2⟩:=h.rows;refine⟨a,c,h1,fun j x hj=>?_⟩
 obtain⟨ad,h3,h4⟩:=h2 j x hj;refine⟨ad,h3,fun W hW=>?_⟩
 have:=h4 W hW 0 _ rfl;rw[zX,show j*blE.k+0=j from by show j*1+0=j;omega]at this
 exact this
end
section
def inL (n:Nat) (k:Int):Bool:=decide (0<=k) && decide (k< (n:Int))
def zi2 (fs:List Fl) (k:Int):List Int:=match fs[k.toNat]? with | some f=>f.bl | none=>[]
def znJ (fs:List Fl) (k:Int):Int:=match fs[k.toNat]? with | some f=>f.size | none=>0
def zfX (fs:List Fl) (cnt k n:Int):Int:=if stW fs cnt=0 then(if inL fs.length k=Xc then(if 0<=n/\n<=96 then 0 else 3)else 5)else stW fs cnt
def znE (fs:List Fl) (cnt k n:Int):List Fl:=if zfX fs cnt k n=0 then fs.set k.toNat ⟨n,znK (zi2 fs k) (JK n).toNat⟩else []
def znM (fs:List Fl) (cnt k n:Int):Int:=if zfX fs cnt k n=0 then cnt else 0
def QY (fs:List Fl) (cnt k x:Int):Int:=if stW fs cnt=0 then(if inL fs.length k=Xc then(if inL (zi2 fs k).length x=Xc then(if(zi2 fs k).getD x.toNat 0=-1 then(if Zc fs cnt=[]then 10 else 0)else 0)else 9)else 5)else stW fs cnt
def zmP (fs:List Fl) (cnt k x:Int):Int:=if(zi2 fs k).getD x.toNat 0=-1 then(((Zc fs cnt).headD 0:Nat):Int)else(zi2 fs k).getD x.toNat 0
def zgX (fs:List Fl) (cnt k x:Int):Int:=if QY fs cnt k x=0 then zmP fs cnt k x else 0
def zeu (fs:List Fl) (cnt k x:Int):List Fl:=if QY fs cnt k x=0 then fs.set k.toNat ⟨znJ fs k,(zi2 fs k).set x.toNat (zmP fs cnt k x)⟩else []
def zja (fs:List Fl) (cnt k x:Int):Int:=if QY fs cnt k x=0 then cnt else 0
theorem Zu {n:Nat} {k:Int}:inL n k=Xc↔0<=k/\k< (n:Int):=by simp[inL]
theorem znL (fs:List Fl) (cnt k n:Int):
  (stW fs cnt≠0/\zfX fs cnt k n=stW fs cnt/\znE fs cnt k n=[]/\znM fs cnt k n=0)\/
  (stW fs cnt=0/\¬(0<=k/\k< (fs.length:Int))/\zfX fs cnt k n=5/\znE fs cnt k n=[]/\znM fs cnt k n=0)\/
  (stW fs cnt=0/\∃(i:Nat) (f:Fl),k=(i:Int)/\fs[i]? =Xa f/\¬(0<=n/\n<=96)/\zfX fs cnt k n=3/\znE fs cnt k n=[]/\znM fs cnt k n=0)\/
  (stW fs cnt=0/\∃(i:Nat) (f:Fl),k=(i:Int)/\fs[i]? =Xa f/\(0<=n/\n<=96)/\zfX fs cnt k n=0/\znE fs cnt k n=fs.set i ⟨n,znK f.bl (JK n).toNat⟩/\znM fs cnt k n=cnt):=by
 have no:∀z,zfX fs cnt k n=z->z≠0->znE fs cnt k n=[]/\znM fs cnt k n=0:=fun z h hz=>by
  have:¬zfX fs cnt k n=0:=by omega
  exact⟨kF this,kF this⟩
 by_cases h1:stW fs cnt=0
 ·by_cases h2:0<=k/\k< (fs.length:Int)
  ·obtain⟨i,rfl⟩:∃i:Nat,k=(i:Int):=⟨k.toNat,by omega⟩
   obtain⟨f,hf⟩:∃f,fs[i]? =Xa f:=⟨_,gE (by omega)⟩
   have hl:inL fs.length (i:Int)=Xc:=Zu.2 h2
   by_cases h3:0<=n/\n<=96
   ·have h:zfX fs cnt i n=0:=by unfold zfX;rw[kE h1,kE hl,kE h3]
    refine .inr (.inr (.inr ⟨h1,i,f,rfl,hf,h3,h,?_,kE h⟩));unfold znE zi2;rw[kE h,tN,hf]
   have h:zfX fs cnt i n=3:=by unfold zfX;rw[kE h1,kE hl,kF h3]
   exact .inr (.inr (.inl ⟨h1,i,f,rfl,hf,h3,h,no _ h (by decide)⟩))
  have h:zfX fs cnt k n=5:=by unfold zfX;rw[kE h1,kF (by rw[Zu];exact h2)]
  exact .inr (.inl ⟨h1,h2,h,no _ h (by decide)⟩)
 have h:zfX fs cnt k n=stW fs cnt:=by unfold zfX;rw[kF h1]
 exact .inl ⟨h1,h,no _ h h1⟩
theorem zkW (fs:List Fl) (cnt k x:Int):
  (stW fs cnt≠0/\QY fs cnt k x=stW fs cnt/\zeu fs cnt k x=[]/\zja fs cnt k x=0/\zgX fs cnt k x=0)\/
  (stW fs cnt=0/\¬(0<=k/\k< (fs.length:Int))/\QY fs cnt k x=5/\zeu fs cnt k x=[]/\zja fs cnt k x=0/\zgX fs cnt k x=0)\/
  (stW fs cnt=0/\∃(i:Nat) (f:Fl),k=(i:Int)/\fs[i]? =Xa f/\¬(0<=x/\x< (f.bl.length:Int))/\QY fs cnt k x=9/\zeu fs cnt k x=[]/\zja fs cnt k x=0/\zgX fs cnt k x=0)\/
  (stW fs cnt=0/\∃(i:Nat) (f:Fl) (j:Nat) (b:Int),k=(i:Int)/\fs[i]? =Xa f/\x=(j:Int)/\f.bl[j]? =Xa b/\0<=b/\b<cnt/\QY fs cnt k x=0/\zeu fs cnt k x=fs/\zja fs cnt k x=cnt/\zgX fs cnt k x=b)\/
  (stW fs cnt=0/\∃(i:Nat) (f:Fl) (j:Nat),k=(i:Int)/\fs[i]? =Xa f/\x=(j:Int)/\f.bl[j]? =Xa (-1)/\Zc fs cnt=[]/\QY fs cnt k x=10/\zeu fs cnt k x=[]/\zja fs cnt k x=0/\zgX fs cnt k x=0)\/
  (stW fs cnt=0/\∃(i:Nat) (f:Fl) (j:Nat) (b:Nat) (l:List Nat),k=(i:Int)/\fs[i]? =Xa f/\x=(j:Int)/\f.bl[j]? =Xa (-1)/\Zc fs cnt=b :: l/\QY fs cnt k x=0/\zeu fs cnt k x=fs.set i ⟨f.size,f.bl.set j (b:Int)⟩/\zja fs cnt k x=cnt/\zgX fs cnt k x=(b:Int)):=by
 have no:∀z,QY fs cnt k x=z->z≠0->zeu fs cnt k x=[]/\zja fs cnt k x=0/\zgX fs cnt k x=0:=fun z h hz=>by
  have:¬QY fs cnt k x=0:=by omega
  exact⟨kF this,kF this,kF this⟩
 by_cases h1:stW fs cnt=0
 ·by_cases h2:0<=k/\k< (fs.length:Int)
  ·obtain⟨i,rfl⟩:∃i:Nat,k=(i:Int):=⟨k.toNat,by omega⟩
   obtain⟨f,hf⟩:∃f,fs[i]? =Xa f:=⟨_,gE (by omega)⟩
   have hl:inL fs.length (i:Int)=Xc:=Zu.2 h2;have hb:zi2 fs (i:Int)=f.bl:=by unfold zi2;rw[tN,hf]
   have hs:znJ fs (i:Int)=f.size:=by unfold znJ;rw[tN,hf]
   by_cases h3:0<=x/\x< (f.bl.length:Int)
   ·obtain⟨j,rfl⟩:∃j:Nat,x=(j:Int):=⟨x.toNat,by omega⟩
    obtain⟨b,hj⟩:∃b,f.bl[j]? =Xa b:=⟨_,gE (by omega)⟩
    have hl2:inL f.bl.length (j:Int)=Xc:=Zu.2 h3;have hd:f.bl.getD (j:Int).toNat 0=b:=by rw[tN,gD,hj];rfl
    by_cases h4:b=-1
    ·subst h4
     cases h5:Zc fs cnt with
     | nil=>
      have h:QY fs cnt i j=10:=by unfold QY;rw[kE h1,kE hl,hb,kE hl2,hd,kE rfl,kE h5]
      exact .inr (.inr (.inr (.inr (.inl ⟨h1,i,f,j,rfl,hf,rfl,hj,rfl,h,no _ h (by decide)⟩))))
     | cons b l=>
      have h:QY fs cnt i j=0:=by unfold QY;rw[kE h1,kE hl,hb,kE hl2,hd,kE rfl,kF (by rw[h5];simp)]
      have hB:zmP fs cnt i j=(b:Int):=by unfold zmP;rw[hb,hd,kE rfl,h5];rfl
      refine .inr (.inr (.inr (.inr (.inr ⟨h1,i,f,j,b,l,rfl,hf,rfl,hj,rfl,h,?_,kE h,?_⟩))))
      ·unfold zeu;rw[kE h,hB,hb,hs,tN,tN]
      unfold zgX;rw[kE h,hB]
    have h:QY fs cnt i j=0:=by unfold QY;rw[kE h1,kE hl,hb,kE hl2,hd,kF h4]
    have hB:zmP fs cnt i j=b:=by unfold zmP;rw[hb,hd,kF h4]
    have hr:=(((qi fs cnt).1 h1).2.1 f (mG hf)).2.2 b (mG hj);refine .inr (.inr (.inr (.inl ⟨h1,i,f,j,b,rfl,hf,rfl,hj,by omega,by omega,h,?_,kE h,?_⟩)))
    ·unfold zeu;rw[kE h,hB,hb,hs,tN,tN];have e1:f.bl.set j b=f.bl:=by
      obtain⟨hh,rfl⟩:=gS.1 hj;exact Yx hh
     rw[e1];obtain⟨hh,rfl⟩:=gS.1 hf;exact Yx hh
    unfold zgX;rw[kE h,hB]
   have h:QY fs cnt i x=9:=by unfold QY;rw[kE h1,kE hl,hb,kF (by rw[Zu];exact h3)]
   exact .inr (.inr (.inl ⟨h1,i,f,rfl,hf,h3,h,no _ h (by decide)⟩))
  have h:QY fs cnt k x=5:=by unfold QY;rw[kE h1,kF (by rw[Zu];exact h2)]
  exact .inr (.inl ⟨h1,h2,h,no _ h (by decide)⟩)
 have h:QY fs cnt k x=stW fs cnt:=by unfold QY;rw[kF h1]
 exact .inl ⟨h1,h,no _ h h1⟩
theorem zhL (f:Fl):∀(fs:List Fl) (i:Nat) (f0:Fl),fs[i]? =Xa f0->Zo (fs.set i f)=Zo (fs.take i)++(f.bl++Zo (fs.drop (i+1)))/\Zo fs=Zo (fs.take i)++(f0.bl++Zo (fs.drop (i+1)))
 | [],i,f0,h=>by simp at h
 | a :: l,0,f0,h=>by
  simp at h
  subst h
  simp[Zo]
 | a :: l,i+1,f0,h=>by
  obtain⟨h1,h2⟩:=zhL f l i f0 (by simpa using h)
  unfold Zo at h1 h2⊢;simp only[sS,Of,List.take_succ_cons,List.drop_succ_cons,Yf];rw[h1,<-h2];exact⟨rfl,rfl⟩
theorem zlR {fs:List Fl} {cnt:Int} (h:b∈Zc fs cnt):(b:Int)<cnt/\(b:Int)∉Zo fs:=by
 unfold Zc at h;obtain⟨h1,h2⟩:=Yv.1 h;have:=Xu.1 h1;refine⟨by omega,fun h=>?_⟩
 rw[(ZX fs _).2 h]at h2;cases h2
theorem zm7 {A C l:List Int} {b:Int} (hj:l[j]? =Xa (-1)):∀x,x≠-1->(x∈A++(l.set j b++C)↔(x∈A++(l++C)\/x=b)):=fun x hx=>by
 have hlt:=(gS.1 hj).1;have:x∈l.set j b↔x∈l\/x=b:=by
  constructor
  ·intro h;exact(Xx h)
  rintro(h|rfl)
  ·obtain⟨i,hi⟩:=Xw h
   by_cases e:i=j
   ·subst e;rw[hj]at hi;cases hi;exact absurd rfl hx
   exact mG (i:=i) (by rw[sN (fun h=>e h.symm)];exact hi)
  exact mG (i:=j) (by rw[sF hlt])
 simp only[Xt,this];constructor
 ·rintro(h | (h|h) | h) <;> simp[h]
 rintro((h|h|h) | h) <;> simp[h]
theorem zh4 {l:List Int} (b:Int) (hb:b≠-1) (hj:l[j]? =Xa (-1)):Zb (l.set j b)=Zb (l.take j)++(b :: Zb (l.drop (j+1)))/\Zb l=Zb (l.take j)++Zb (l.drop (j+1)):=by
 obtain⟨hlt,he⟩:=gS.1 hj;have e1:l.set j b=l.take j++b :: l.drop (j+1):=List.set_eq_take_append_cons_drop.trans (kE hlt);have e2:l=l.take j++(-1) :: l.drop (j+1):=by
  rw[<-he,List.getElem_cons_drop,List.take_append_drop]
 unfold Zb;constructor
 ·rw[e1,Yh,Yo (by simpa using hb)]
 conv=>lhs;rw[e2]
 rw[Yh,Yp (by simp)]
theorem zjO {A B C:List Int} {b:Int} (h:(A++(B++C)).Nodup) (h1:b∉A) (h2:b∉B++C):(A++((B++(b :: C)))).Nodup:=by
 rw[Yj]at h⊢;obtain⟨k1,k2,k3⟩:=h;have k2':=k2;rw[Yj]at k2;obtain⟨m1,m2,m3⟩:=k2;have hB:b∉B:=fun h=>h2 (Xt.2 (.inl h))
 have hC:b∉C:=fun h=>h2 (Xt.2 (.inr h))
 refine⟨k1,?_,fun x hx y hy=>?_⟩
 ·rw[Yj];refine⟨m1,List.nodup_cons.2 ⟨hC,m2⟩,fun x hx y hy=>?_⟩
  rcases mC.1 hy with rfl|hy
  ·exact fun e=>hB (e ▸ hx)
  exact m3 x hx y hy
 rcases Xt.1 hy with hy|hy
 ·exact k3 x hx y (Xt.2 (.inl hy))
 rcases mC.1 hy with rfl|hy
 ·exact fun e=>h1 (e ▸ hx)
 exact k3 x hx y (Xt.2 (.inr hy))
theorem ziw {fs:List Fl} {cnt:Int} {i:Nat} {f:Fl} (h:stW fs cnt=0) (hf:fs[i]? =Xa f) (hj:f.bl[j]? =Xa (-1)) (hb:b∈Zc fs cnt):
  stW (fs.set i ⟨f.size,f.bl.set j (b:Int)⟩) cnt=0/\(Zc (fs.set i ⟨f.size,f.bl.set j (b:Int)⟩) cnt).length+1=(Zc fs cnt).length:=by
 obtain⟨hb1,hb2⟩:=zlR hb;obtain⟨⟨h1,h2,h3⟩,h4,h5⟩:=(qi fs cnt).1 h;obtain⟨e1,e2⟩:=zhL ⟨f.size,f.bl.set j (b:Int)⟩ fs i f hf;have hbn:(b:Int)≠-1:=by omega
 constructor
 ·refine(qi _ _).2 ⟨⟨by rw[Yw];exact h1,h2,h3⟩,fun f' hf'=>?_,?_⟩
  ·rcases Xx hf' with hf' | rfl
   ·exact h4 f' hf'
   obtain⟨k1,k2,k3⟩:=h4 f (mG hf);refine⟨k1,by simp only[Yw];exact k2,fun c hc=>?_⟩
   rcases Xx hc with hc|rfl
   ·exact k3 c hc
   exact .inr ⟨by omega,hb1⟩
  obtain⟨r1,r2⟩:=zh4 (b:Int) hbn hj;have hr:∀A B:List Int,Zb (A++B)=Zb A++Zb B:=fun A B=>Yh ..
  rw[e1,hr,hr,r1,Yf];rw[e2,hr,hr,r2,Yf]at h5;rw[e2]at hb2;have hm:∀L:List Int,(b:Int)∉L->(b:Int)∉Zb L:=fun L h h'=>h (Yv.1 h').1
  have hb3:(b:Int)∉Zb (f.bl.take j)++(Zb (f.bl.drop (j+1))++Zb (Zo (fs.drop (i+1)))):=by
   intro h;refine hm _ (fun h=>hb2 (Xt.2 (.inr h))) (?_:(b:Int)∈Zb (f.bl++Zo (fs.drop (i+1))))
   rw[hr,r2,Yf];exact h
  exact zjO h5 (hm _ (fun h=>hb2 (Xt.2 (.inl h)))) hb3
 have hu:∀c:Nat,zV (fs.set i ⟨f.size,f.bl.set j (b:Int)⟩) (c:Int)=(zV fs (c:Int) || decide (c=b)):=fun c=>by
  rw[Bool.eq_iff_iff,Bool.or_eq_true,ZX,ZX,e1,e2,zm7 hj _ (by omega),decide_eq_true_eq,Int.ofNat_inj]
 have hl:Zc (fs.set i ⟨f.size,f.bl.set j (b:Int)⟩) cnt=(Zc fs cnt).erase b:=by
  have nd:(Zc fs cnt).Nodup:=List.Nodup.sublist List.filter_sublist List.nodup_range;rw[List.Nodup.erase_eq_filter nd];unfold Zc;rw[List.filter_filter]
  congr 1
  funext c
  rw[hu c]
  by_cases hc:c=b <;> simp[hc]
 rw[hl,List.length_erase_of_mem hb];have:=List.length_pos_of_mem hb;omega
end
section
open Go.RowKit
structure FlV where
 size:Int
 a:Option Addr
 n:Nat
 c:Nat
def FlV.v (x:FlV):Xr:= O x.a x.n x.c
def flv (x:FlV):List Xr:=[Xe Xf x.size,O x.a x.n x.c]
theorem zot:(Tryz.prog.info? 84).map (fun i=>(i.zero,i.size,i.bytes))=Xa (Xa (Xi #[Xe Xf 0,O Xb 0 0]),2,32):=by kernel_rfl
def fvE:Elt FlV where
 enc:=flv
 k:=2
 ty:=84
 st:=35
 bytes:=32
 zv:= Xi #[Xe Xf 0,O Xb 0 0]
 zero:=⟨0,Xb,0,0⟩
 len:=fun _=>rfl
 one:=fun a u hu=>by
  simp only[flv,mC,nM,or_false]at hu
  rcases hu with rfl|rfl <;> rfl
 und:=underlying35
 info:=zot
 zok:=rfl
 few:=by decide
 pos:=by decide
def ja (B0 B1:Nat) (w:Xo) (v:Xr) (fs:List Fl):Prop:=
 Cap v/\∃xs:List FlV,zf1 fvE B0 B1 w v xs/\xs.length=fs.length/\∀(i:Nat) x f,xs[i]? =Xa x->fs[i]? =Xa f->x.size=f.size/\zf1 blE B0 B1 w (O x.a x.n x.c) f.bl
def qh (w:Xo) (v:Xr) (fs:List Fl):Prop:=ja 0 0 w v fs
theorem ja.out {w:Xo} {v:Xr} {fs:List Fl} (h:ja B0 B1 w v fs) (k:Out B0 B1 w w'):ja B0 B1 w' v fs:=by
 obtain⟨hc,xs,h1,h2,h3⟩:=h;exact⟨hc,xs,h1.out k,h2,fun i x f hx hf=>⟨(h3 i x f hx hf).1,(h3 i x f hx hf).2.out k⟩⟩
theorem ja.grew {w:Xo} {v:Xr} {fs:List Fl} (h:ja B0 B1 w v fs) (k:zc w w'):ja B0 B1 w' v fs:=h.out (Out.grew k)
theorem ja.less {w:Xo} {v:Xr} {fs:List Fl} (h:ja B0 B1 w v fs) (h0:B0<=A0) (h1:A1<=B1):ja A0 A1 w v fs:=by
 obtain⟨hc,xs,k1,k2,k3⟩:=h;exact⟨hc,xs,k1.less h0 h1,k2,fun i x f hx hf=>⟨(k3 i x f hx hf).1,(k3 i x f hx hf).2.less h0 h1⟩⟩
theorem qh.grew {w:Xo} {v:Xr} {fs:List Fl} (h:qh w v fs) (k:zc w w'):qh w' v fs:=ja.grew h k
theorem ja.nil (B0 B1:Nat) (w:Xo):ja B0 B1 w (O Xb 0 0) []:=⟨nR _,[],fun w' _=>zm.nil fvE w',rfl,fun i x f hx=>by simp at hx⟩
def zac (W:Xo) (y:Addr) (s:Int) (b:Xr):Prop:=W.cell? y=Xa (Xe Xf s)/\W.cell? { block:=y.block,off:=y.off+1 }=Xa b
def Qv (w:Xo) (a:Option Addr) (fs:List Fl):Prop:=∀(j:Nat) f,fs[j]? =Xa f->∃ad,a=Xa ad/\∃xa xc,zm blE w (O xa f.bl.length xc) f.bl/\∀W,zc w W->zac W (ad.add (j*2)) f.size (O xa f.bl.length xc)
theorem qh.rows {w:Xo} {v:Xr} {fs:List Fl} (h:qh w v fs):∃a c,v= O a fs.length c/\fs.length<=9223372036854775807/\Qv w a fs:=by
 obtain⟨_,xs,k1,k2,k3⟩:=h;obtain⟨a,c,h1,h2⟩:=k1.now.rows;refine⟨a,c,by rw[<-k2];exact h1,by rw[<-k2];exact k1.now.short,fun j f hf=>?_⟩
 obtain⟨x,hx⟩:∃x,xs[j]? =Xa x:=⟨_,gE (by rw[k2];exact(gS.1 hf).1)⟩
 obtain⟨ad,e1,e2⟩:=h2 j x hx;obtain⟨q1,q2⟩:=k3 j x f hx hf;have q3:=q2.now;obtain⟨⟨a',c',q4,_⟩,_⟩:=id q3;cases x;simp only at q1 q3 q4;cases q4;subst q1;refine⟨ad,e1,_,_,q3,fun W hW=>⟨?_,?_⟩⟩
 ·exact e2 W hW 0 _ rfl
 exact e2 W hW 1 _ rfl
theorem zcG (m n:Int) (w:Xo):
  Xq prog 170 #[Xe Xf m,Xe Xf n] w fun e w'=>e= Xl (Xh (bel m n))/\w'=w:=by
 have H:Xp (bel m n=(decide (0<=m) && decide (m<n))):=rfl
 by_cases h0:0<=m
 ·by_cases h1:m<n
  ·go_enter func170,ntmps170
   go_wp2;go_ret;exact⟨by rw[H.out];simp[*],rfl⟩
  go_enter func170,ntmps170
  go_wp2;go_ret;exact⟨by rw[H.out];simp[*],rfl⟩
 go_enter func170,ntmps170
 go_wp2;go_ret;exact⟨by rw[H.out];simp;omega,rfl⟩
theorem Zn {m n:Int} (h0:0<=m) (h1:m<n) (w:Xo):Xq prog 170 #[Xe Xf m,Xe Xf n] w fun e w'=>e= Xl (Xh Xc)/\w'=w:=by
 have:=zcG m n w;rw[Jq.2 ⟨h0,h1⟩]at this;exact this
theorem zaI {m n:Int} (h:¬(0<=m/\m<n)) (w:Xo):Xq prog 170 #[Xe Xf m,Xe Xf n] w fun e w'=>e= Xl (Xh Xd)/\w'=w:=by
 have:=zcG m n w;rw[zkY h]at this;exact this
theorem zbX {a b:Int} (h:a=b):Ending.returned (Xe Xf a)= Xl (Xe Xf b):=by rw[h]
theorem zkL (n:Int) (w:Xo) (h1:0<=n) (h2:n<=96):
  Xq prog 217 #[Xe Xf n] w fun e w'=>e= Xl (Xe Xf (JK n))/\w'=w:=by
 by_cases h:n<1
 ·have H:Xp (JK n=0):=dD<|by unfold JK;rw[kE h]
  go_enter func217,ntmps217
  go_wp2;go_ret;exact⟨zbX H.symm,rfl⟩
 have H:Xp (JK n=(n - 1) / 8+1):=dD<|by unfold JK;rw[kF h]
 go_enter func217,ntmps217
 go_wp2;go_ret;exact⟨zbX H.symm,rfl⟩
theorem zeV (n:Int) (w:Xo) (h1:0<=n) (h2:n<=96):
  Xq prog 37 #[Xe Xf n] w fun e w'=>e= Xl (Xe Xf (JK n))/\w'=w:=by
 by_cases h:n<1
 ·have H:Xp (JK n=0):=dD<|by unfold JK;rw[kE h]
  have h':n<=0:=by omega
  go_enter func37,ntmps37
  go_wp2;go_ret;exact⟨zbX H.symm,rfl⟩
 have H:Xp (JK n=(n - 1) / 8+1):=dD<|by unfold JK;rw[kF h]
 have h':¬n<=0:=by omega
 by_cases hr:0<n % 8
 ·have H':Xp (JK n=n / 8+1):=dD<|by rw[H.out];omega
  go_enter func37,ntmps37
  go_wp2;go_ret;exact⟨zbX H'.symm,rfl⟩
 have H':Xp (JK n=n / 8):=dD<|by rw[H.out];omega
 go_enter func37,ntmps37
 go_wp2;go_ret;exact⟨zbX H'.symm,rfl⟩
theorem zfL (v:Xr) (fs:List Int) (w:Xo) (hv:zm blE w v fs):
  Xq prog 100 #[v] w fun e w'=>∃v',e= Xl v'/\zb blE w.heap.size w' v' fs/\zc w w':=by
 have HV:Xp (zm blE w v fs):=hv;obtain⟨⟨a,c,rfl,hnone,hcells⟩,hbytes⟩:=hv;have q22:∀(w:Xo) (a:Option Addr) (n c n' c':Nat),(binOp .eql 29 (O a n c) (O Xb n' c')).run prog w= .ok (Xh a.isNone) w:=fun w a n c n' c'=>Lib.run_eql_slice_nil w _ _ a n c n' c' underlying29
 cases a with
 | none=>
  have hps:=hnone rfl;subst hps;clear hcells hnone hbytes
  go_enter func100,ntmps100
  go_wp2;go_ret;exact⟨_,rfl,zb.nil _ _ _,zc.refl w⟩
 | some x=>
  have HB:Xp (fs.length*8<=140737488355328):=hbytes;clear hcells hnone hbytes
  go_enter func100,ntmps100
  go_wp2_with (at_builtin;refine zw (E:=blE) rfl (.tmp 5) (.tmp 6) rfl w.heap.size _ [] rfl (zb.made blE w) _ fs rfl (HV.grew (za _ _)) ?qb (by simp) ?_)
  case qb=>rw[Ye,zA];exact HB.out
  intro v' w1 hown hgrow;go_wp2;go_ret;exact⟨v',rfl,by simpa using hown,((bR _ w).alloc (nR _) _).grown hgrow (by simp) (by intro k hk;simp[Value.ownBlock]at hk;omega)⟩
theorem zes (v:Xr) (fs:List FlV) (w:Xo) (hv:zm fvE w v fs):
  Xq prog 99 #[v] w fun e w'=>∃v',e= Xl v'/\zb fvE w.heap.size w' v' fs/\zc w w':=by
 have HV:Xp (zm fvE w v fs):=hv;obtain⟨⟨a,c,rfl,hnone,hcells⟩,hbytes⟩:=hv;have q22:∀(w:Xo) (a:Option Addr) (n c n' c':Nat),(binOp .eql 35 (O a n c) (O Xb n' c')).run prog w= .ok (Xh a.isNone) w:=fun w a n c n' c'=>Lib.run_eql_slice_nil w _ _ a n c n' c' underlying35
 cases a with
 | none=>
  have hps:=hnone rfl;subst hps;clear hcells hnone hbytes
  go_enter func99,ntmps99
  go_wp2;go_ret;exact⟨_,rfl,zb.nil _ _ _,zc.refl w⟩
 | some x=>
  have HB:Xp (fs.length*32<=140737488355328):=hbytes;clear hcells hnone hbytes
  go_enter func99,ntmps99
  go_wp2_with (at_builtin;refine zw (E:=fvE) rfl (.tmp 5) (.tmp 6) rfl w.heap.size _ [] rfl (zb.made fvE w) _ fs rfl (HV.grew (za _ _)) ?qb (by simp) ?_)
  case qb=>rw[Ye,zA];exact HB.out
  intro v' w1 hown hgrow;go_wp2;go_ret;exact⟨v',rfl,by simpa using hown,((bR _ w).alloc (nR _) _).grown hgrow (by simp) (by intro k hk;simp[Value.ownBlock]at hk;omega)⟩
def qU (base:Nat) (w:Xo) (v:Xr) (fs:List Fl):Prop:=
 ∃xs:List FlV,zb fvE base w v xs/\xs.length=fs.length/\(∀(i:Nat) x f,xs[i]? =Xa x->fs[i]? =Xa f->x.size=f.size/\zb blE base w x.v f.bl)/\
  ∀(i j:Nat) x y,i≠j->xs[i]? =Xa x->xs[j]? =Xa y->∀g,x.v.ownBlock=Xa g->y.v.ownBlock≠Xa g
theorem qU.new {base:Nat} {w:Xo} {v:Xr} {fs:List Fl} (h:qU base w v fs):ja 0 base w v fs:=by
 obtain⟨xs,h1,h2,h3,_⟩:=h;exact⟨h1.cap,xs,h1.new.stays,h2,fun i x f hx hf=>⟨(h3 i x f hx hf).1,(h3 i x f hx hf).2.new.stays⟩⟩
theorem qU.grew {base:Nat} {w:Xo} {v:Xr} {fs:List Fl} (h:qU base w v fs) (k:zc w w'):qU base w' v fs:=by
 obtain⟨xs,h1,h2,h3,h4⟩:=h;exact⟨xs,h1.grew k,h2,fun i x f hx hf=>⟨(h3 i x f hx hf).1,(h3 i x f hx hf).2.grew k⟩,h4⟩
theorem qU.setCell {base:Nat} {w:Xo} {v:Xr} {fs:List Fl} (h:qU base w v fs) {a:Addr} (ha:a.block<base) (u:Xr):qU base (w.setCell a u) v fs:=by
 obtain⟨xs,h1,h2,h3,h4⟩:=h;exact⟨xs,h1.setCell ha u,h2,fun i x f hx hf=>⟨(h3 i x f hx hf).1,(h3 i x f hx hf).2.setCell ha u⟩,h4⟩
theorem zeL:blE.ty≠fvE.ty:=by decide
structure znB (base:Nat) (w:Xo) (kk:Nat) (xs ys:List FlV) (fs:List Fl):Prop where
 len:ys.length=xs.length
 own:∀(i:Nat) y f,i<kk->ys[i]? =Xa y->fs[i]? =Xa f->y.size=f.size/\zb blE base w y.v f.bl
 rest:∀(i:Nat),kk<=i->ys[i]? =xs[i]?
 two:∀(i j:Nat) x y,i<kk->j<kk->i≠j->ys[i]? =Xa x->ys[j]? =Xa y->∀g,x.v.ownBlock=Xa g->y.v.ownBlock≠Xa g
theorem znB.step {base:Nat} {w w2:Xo} {xs ys:List FlV} {fs:List Fl} (h:znB base w kk xs ys fs) (hg:zc w w1) {g:Nat} (hg2:w1.grownBy w2 (Xa g)) {f:Fl} {x:FlV} (hf:fs[kk]? =Xa f) (hx:xs[kk]? =Xa x)
  (hs:x.size=f.size) {a:Option Addr} {n c:Nat} (hown:zb blE w.heap.size w1 (O a n c) f.bl) (hb:base<=w.heap.size) {v:Xr} (hv:zb fvE base w1 v ys) (hvg:v.ownBlock=Xa g):znB base w2 (kk+1) xs (ys.set kk ⟨x.size,a,n,c⟩) fs:=by
 have hk:kk<ys.length:=by rw[h.len];exact(gS.1 hx).1
 have keep:∀(y:FlV) (l:List Int),zb blE base w1 y.v l->zb blE base w2 y.v l:=fun y l o=>o.grown hg2 (fun g' h1 e=>by
  cases e;exact hv.apart o (Ne.symm zeL) g hvg h1)
 refine⟨by rw[Yw];exact h.len,fun i y f' hi hy hf'=>?_,fun i hi=>?_,fun i j p q hi hj hij hp hq g' hp'=>?_⟩
 ·by_cases e:i=kk
  ·subst e;rw[sF hk]at hy;cases hy;rw[hf]at hf';cases hf';exact⟨hs,keep ⟨x.size,a,n,c⟩ _ (hown.base hb)⟩
  rw[sN (fun h=>e h.symm)]at hy
  obtain⟨q1,q2⟩:=h.own i y f' (by omega) hy hf'
  exact⟨q1,keep y _ (q2.grew hg)⟩
 ·rw[sN (by omega)]
  exact h.rest i (by omega)
 have newer:∀(i:Nat) y f',i<kk->ys[i]? =Xa y->fs[i]? =Xa f'->∀b,y.v.ownBlock=Xa b->b<w.heap.size:=fun i y f' hi hy hf' b hb'=>((h.own i y f' hi hy hf').2.lt b hb').2
 have hfl:∀i,i<kk->∃f',fs[i]? =Xa f':=fun i hi=>⟨_,gE (by have:=(gS.1 hf).1;omega)⟩
 by_cases e1:i=kk
 ·subst e1;rw[sF hk]at hp;cases hp;rw[sN (by omega)]at hq
  obtain⟨f',hf'⟩:=hfl j (by omega)
  intro hq';have h1:=newer j q f' (by omega) hq hf' g' hq'
  have h2:=(hown.lt g' hp').1;omega
 rw[sN (by omega)]at hp
 by_cases e2:j=kk
 ·subst e2;rw[sF hk]at hq;cases hq;obtain⟨f',hf'⟩:=hfl i (by omega)
  intro hq';have h1:=newer i p f' (by omega) hp hf' g' hp'
  have h2:=(hown.lt g' hq').1;omega
 rw[sN (by omega)]at hq
 exact h.two i j p q (by omega) (by omega) hij hp hq g' hp'
theorem znB.all {base:Nat} {w:Xo} {xs ys:List FlV} {fs:List Fl} {v:Xr} (h:znB base w xs.length xs ys fs) (hl:xs.length=fs.length) (hv:zb fvE base w v ys):qU base w v fs:=by
 refine⟨ys,hv,h.len.trans hl,fun i y f hy hf=>h.own i y f (by rw[<-h.len];exact(gS.1 hy).1) hy hf,fun i j p q hij hp hq=>h.two i j p q ?_ ?_ hij hp hq⟩
 ·rw[<-h.len];exact(gS.1 hp).1
 rw[<-h.len];exact(gS.1 hq).1
theorem zb6 (v:Xr) (fs:List Fl) (cnt:Int) (w:Xo) (hv:qh w v fs):
  Xq prog 61 #[Xi #[v,Xe Xf cnt]] w fun e w'=>∃b,e= Xl (Xi #[b,Xe Xf cnt])/\qU (w.heap.size+2) w' b fs/\zc w w'/\w.heap.size+2<=w'.heap.size:=by
 obtain⟨_,xs,k1,k2,k3⟩:=hv;have HX:Xp (zm fvE w v xs):=k1.now;have HK:Xp (∀(i:Nat) x f,xs[i]? =Xa x->fs[i]? =Xa f->x.size=f.size/\zm blE w (O x.a x.n x.c) f.bl):=show∀(i:Nat) x f,_ from fun i x f hx hf=>⟨(k3 i x f hx hf).1,(k3 i x f hx hf).2.now⟩
 have HL:Xp (xs.length=fs.length):=k2;have hbig:=k1.now.short;obtain⟨a,c,rfl,_⟩:=k1.now.rows;clear k1 k2 k3;obtain⟨n,HN⟩:=kA xs.length;rw[HN.out]at hbig HX⊢;obtain⟨W0,hW0⟩:=kB ((w.alloc (Xk #[O a n c,Xe Xf cnt] 37)).alloc (Xk #[O Xb 0 0,Xe Xf 0] 37));have HG0:=gD2 hW0
 have X0:=x2a hW0
 have Y0:=x2b hW0
 have HS0:Xp (W0.heap.size=w.heap.size+2):=dD<|by rw[<-hW0];simp
 have HW0:Xp (_=W0):=hW0;clear hW0
 go_enter func61,ntmps61
 go_wp2_with fail;rw[HW0.out];refine(zes _ xs W0 (HX.grew HG0)).mono ?_;rintro e W1 ⟨v1,rfl,ow1,g1⟩;obtain⟨xa,xc,rfl⟩:=ow1.form;rw[HS0.out]at ow1;rw[HN.out]at ow1⊢;have O1:Xp (zb fvE (w.heap.size+2) W1 (O xa n xc) xs):=ow1;have G1:Xp (zc W0 W1):=g1;clear ow1 g1;go_wp2
 go_loopg [4,10] n (fun gg _ s10 wr=>∃(kk:Nat) (ys:List FlV),kk<=n/\n - kk<=gg/\s10= Xe Xf kk/\Xp (zc W0 wr)/\Xp (zb fvE (w.heap.size+2) wr (O xa n xc) ys)/\Xp (znB (w.heap.size+2) wr kk xs ys fs))
 case atStart=>exact⟨0,xs,nZ _,by omega,rfl,G1,O1,⟨rfl,fun i y f hi=>absurd hi (nL _),fun i _=>rfl,fun i j x y hi=>absurd hi (nL _)⟩⟩
 obtain⟨kk,ys,hkk,hgg,rfl,BW,OW,HH⟩:=hrel
 by_cases hlt:kk<n
 ·have hltz:=kC hlt
  obtain⟨q,HQ⟩:∃q,Xp (xs[kk]? =Xa q):=⟨_,gE (by rw[HN.out];exact hlt)⟩
  obtain⟨f,HF⟩:∃f,Xp (fs[kk]? =Xa f):=⟨_,gE (by rw[<-HL.out,HN.out];exact hlt)⟩
  have HY:Xp (ys[kk]? =Xa q):=dD<|by rw[HH.rest kk (nR _)];exact HQ.out
  obtain⟨g,xc',heq⟩:=OW.formS (by rw[HH.len,HN.out];omega)
  rw[HH.len,HN.out]at heq;cases heq;obtain⟨q1,q2⟩:=HK.out kk q f HQ HF.out;have Q1:Xp (q.size=f.size):=q1;have hcl:=zfL _ f.bl wr (q2.grew (HG0.trans BW));obtain⟨a0,c0,hsl,hrows⟩:=OW.at.rows;obtain⟨ad,had,hce⟩:=hrows kk q HY.out;rw[HH.len,HN.out]at hsl;cases hsl;cases had;have d1:wr.cell? ⟨g,kk*2+1,Xb⟩=Xa (O q.a q.n q.c):=by
   have:=hce wr (zc.refl _) 1 _ rfl;rw[zX,Addr.add_lit,zA]at this;exact this
  clear q1 q2 hrows hce;go_wp2_with fail;refine hcl.mono ?_;rintro e W2 ⟨v2,rfl,ow2,g2⟩;obtain⟨a2,c2,rfl⟩:=ow2.form;have O2:Xp (zb blE wr.heap.size W2 (O a2 f.bl.length c2) f.bl):=ow2;have G2:Xp (zc wr W2):=g2;have OF2:=dD (OW.grew g2);have HB:Xp (w.heap.size+2<=wr.heap.size):=show _<=_ by
   have:=bS BW.out;rw[HS0.out]at this;exact this
  clear ow2 g2 hcl d1
  generalize f.bl.length=nb at O2⊢
  go_wp2_with (refine zB (E:=fvE) rfl (.tmp 22) (.tmp 20) 29 rfl (w.heap.size+2) _ ys OF2 g kk 1 rfl q ⟨q.size,a2,nb,c2⟩ HY.out [O a2 nb c2] ?s1 rfl ?s2 ?s3 ⟨g,kk*2+1,Xb⟩ rfl rfl (O a2 nb c2) rfl rfl ?_)
  case s1=>kernel_rfl
  case s2=>exact nR 2
  case s3=>simp;rfl
  intro W3 ow3 gr3 _;have O3:Xp (zb fvE (w.heap.size+2) W3 (O (Xa ⟨g,0,Xb⟩) n xc) (ys.set kk ⟨q.size,a2,nb,c2⟩)):=ow3;have H3:Xp (znB (w.heap.size+2) W3 (kk+1) xs (ys.set kk ⟨q.size,a2,nb,c2⟩) fs):=HH.step G2 gr3 HF HQ Q1 O2 HB OF2 rfl;have G3:Xp (zc W0 W3):=show zc _ _ from ze (BW.trans G2) gr3 (by
   rw[HS0.out];exact(OF2.lt g rfl).1)
  clear ow3 gr3;go_wp2
  go_roundg (n -(kk+1))
  case measure=>omega
  exact⟨kk+1,_,by omega,by omega,by go_num,G3,O3,H3⟩
 have hltz:=kD hlt
 have:kk=n:=by omega
 subst this;have OA:Xp (qU (w.heap.size+2) wr (O xa kk xc) fs):=dD<|by
  have h1:=HH.out;rw[<-HN.out]at h1;exact h1.all HL OW.out
 have x1:=(X0.grew BW).c 1 rfl;have Y1:=Y0.grew BW.out;have y0:=Y1.c 0 rfl;have y1:=Y1.c 1 rfl;have yf:=Y1.f;have HG:=dD (HG0.trans BW);go_wp2;refine bodyPost_ret (v:= Xi #[O xa kk xc,Xe Xf cnt]) (by simp[results,Tryz.results61,go_sem, *]) rfl ⟨_,rfl,(OA.setCell (by simp) _).setCell (by simp) _,?_,?_⟩
 ·exact Below.setCell (Below.setCell HG (p:=⟨w.heap.size+1,0,Xb⟩) (by simp) _) (p:=⟨w.heap.size+1,1,Xb⟩) (by simp) _
 have:=bS BW.out;rw[HS0.out]at this
 simp[World.setCell]
 exact this
def env (e:En):List Xr:=[Xe Xf e.kind,Xe Xf e.n,Xh e.wr]
theorem zou:(Tryz.prog.info? 55).map (fun i=>(i.zero,i.size,i.bytes))=Xa (Xa (Xi #[Xe Xf 0,Xe Xf 0,Xh Xd]),3,24):=by kernel_rfl
def enE:Elt En where
 enc:=env
 k:=3
 ty:=55
 st:=59
 bytes:=24
 zv:= Xi #[Xe Xf 0,Xe Xf 0,Xh Xd]
 zero:=en0
 len:=fun _=>rfl
 one:=fun a u hu=>by
  simp only[env,mC,nM,or_false]at hu
  rcases hu with rfl|rfl|rfl <;> rfl
 und:=underlying59
 info:=zou
 zok:=rfl
 few:=by decide
 pos:=by decide
def znC (W:Xo) (y:Addr) (e:En):Prop:=W.cell? y=Xa (Xe Xf e.kind)/\W.cell? { block:=y.block,off:=y.off+1 }=Xa (Xe Xf e.n)/\W.cell? { block:=y.block,off:=y.off+2 }=Xa (Xh e.wr)
def zhP (w:Xo) (a:Option Addr) (l:List En):Prop:=∀(j:Nat) e,l[j]? =Xa e->∃ad,a=Xa ad/\∀W,zc w W->znC W (ad.add (j*3)) e
theorem zm.ens {w:Xo} {v:Xr} {l:List En} (h:zm enE w v l):∃a c,v= O a l.length c/\zhP w a l:=by
 obtain⟨a,c,h1,h2⟩:=h.rows;refine⟨a,c,h1,fun j x hj=>?_⟩
 obtain⟨ad,h3,h4⟩:=h2 j x hj;exact⟨ad,h3,fun W hW=>⟨h4 W hW 0 _ rfl,h4 W hW 1 _ rfl,h4 W hW 2 _ rfl⟩⟩
structure ZS (B0 B1:Nat) (w:Xo) (vs:List Xr) (t:List (List En)):Prop where
 len:vs.length=8
 tlen:t.length=8
 row:∀(i:Nat) v h,vs[i]? =Xa v->t[i]? =Xa h->zf1 enE B0 B1 w v h
def Qi (w:Xo) (vs:List Xr) (t:List (List En)):Prop:=ZS 0 0 w vs t
theorem ZS.out {w:Xo} {t:List (List En)} (h:ZS B0 B1 w vs t) (k:Out B0 B1 w w'):ZS B0 B1 w' vs t:=⟨h.len,h.tlen,fun i v x hv hx=>(h.row i v x hv hx).out k⟩
theorem ZS.grew {w:Xo} {t:List (List En)} (h:ZS B0 B1 w vs t) (k:zc w w'):ZS B0 B1 w' vs t:=h.out (Out.grew k)
theorem ZS.less {w:Xo} {t:List (List En)} (h:ZS B0 B1 w vs t) (h0:B0<=A0) (h1:A1<=B1):ZS A0 A1 w vs t:=⟨h.len,h.tlen,fun i v x hv hx=>(h.row i v x hv hx).less h0 h1⟩
theorem ZS.now {w:Xo} {t:List (List En)} (h:ZS B0 B1 w vs t):Qi w vs t:=⟨h.len,h.tlen,fun i v x hv hx=>(h.row i v x hv hx).now.s0⟩
theorem Qi.grew {w:Xo} {t:List (List En)} (h:Qi w vs t) (k:zc w w'):Qi w' vs t:=ZS.grew h k
def Qf:List Xr:=Xs 8 (O Xb 0 0)
theorem ZS.nil (B0 B1:Nat) (w:Xo):ZS B0 B1 w Qf qL:=⟨rfl,rfl,fun i v h hv hh=>by
 have h1:=mG hv;have h2:=mG hh;rw[Qf,Ym]at h1;rw[qL,Ym]at h2;rw[h1.2,h2.2];exact fun w' _=>zm.nil enE w'⟩
theorem Qi.half {w:Xo} {t:List (List En)} (h:Qi w vs t) {i:Nat} (hi:i<8):∃a c x,t[i]? =Xa x/\vs[i]? =Xa (O a x.length c)/\zm enE w (O a x.length c) x:=by
 obtain⟨v,hv⟩:∃v,vs[i]? =Xa v:=⟨_,gE (by rw[h.len];exact hi)⟩
 obtain⟨x,hx⟩:∃x,t[i]? =Xa x:=⟨_,gE (by rw[h.tlen];exact hi)⟩
 have hr:=(h.row i v x hv hx).now;obtain⟨a,c,rfl,_⟩:=hr.rows;exact⟨a,c,x,hx,hv,hr⟩
theorem zkF {α:Type}:∀{l:List α},l.length=8->∃a b c d e f g h,l=[a,b,c,d,e,f,g,h]
 | [a,b,c,d,e,f,g,h],_=>⟨a,b,c,d,e,f,g,h,rfl⟩
theorem zdy (m n:Int) (w:Xo):
  Xq prog 138 #[Xe Xf m,Xe Xf n] w fun e w'=>e= Xl (Xh (bel m n))/\w'=w:=by
 have H:Xp (bel m n=(decide (0<=m) && decide (m<n))):=rfl
 by_cases h0:0<=m
 ·by_cases h1:m<n
  ·go_enter func138,ntmps138
   go_wp2;go_ret;exact⟨by rw[H.out];simp[*],rfl⟩
  go_enter func138,ntmps138
  go_wp2;go_ret;exact⟨by rw[H.out];simp[*],rfl⟩
 go_enter func138,ntmps138
 go_wp2;go_ret;exact⟨by rw[H.out];simp;omega,rfl⟩
theorem Qs {m n:Int} (h0:0<=m) (h1:m<n) (w:Xo):Xq prog 138 #[Xe Xf m,Xe Xf n] w fun e w'=>e= Xl (Xh Xc)/\w'=w:=by
 have:=zdy m n w;rw[Jq.2 ⟨h0,h1⟩]at this;exact this
theorem zaJ {m n:Int} (h:¬(0<=m/\m<n)) (w:Xo):Xq prog 138 #[Xe Xf m,Xe Xf n] w fun e w'=>e= Xl (Xh Xd)/\w'=w:=by
 have:=zdy m n w;rw[zkY h]at this;exact this
theorem zaY (k n:Int) (b:Bool) (w:Xo):
  Xq prog 178 #[Xi #[Xe Xf k,Xe Xf n,Xh b]] w fun e w'=>e= Xl (Xh (enS ⟨k,n,b⟩))/\zc w w':=by
 have H:Xp (enS ⟨k,n,b⟩=(k != 0)):=rfl
 go_enter func178,ntmps178
 go_wp2;go_ret;exact⟨by rw[H.out];rfl,za _ _⟩
theorem zmj {e:En} (h:¬(0<=e.kind/\e.kind<=2)):enW e=1:=by unfold enW;rw[kF h]
theorem zfz {e:En} (h:0<=e.kind/\e.kind<=2) (h2:¬(0<=e.n/\e.n<=59/\(e.kind=1->e.n<=39))):enW e=3:=by unfold enW;rw[kE h,kF h2]
theorem zkB {e:En} (h:0<=e.kind/\e.kind<=2) (h2:0<=e.n/\e.n<=59/\(e.kind=1->e.n<=39)) (h3:(e.kind=0/\(e.n≠0\/e.wr=Xc))\/(e.kind=2/\e.wr=Xc)):enW e=7:=by unfold enW;rw[kE h,kE h2,kE h3]
def zkE (a b:En):Bool:=(a.kind == b.kind) &&((a.n == b.n) &&(a.wr == b.wr))
theorem zob (k n k' n':Int) (b b':Bool) (w:Xo):(Op.equalIn 10000 55 (Xi #[Xe Xf k,Xe Xf n,Xh b]) (Xi #[Xe Xf k',Xe Xf n',Xh b'])).run prog w= .ok (zkE ⟨k,n,b⟩ ⟨k',n',b'⟩) w:=by
 have hf : (Tryz.prog.fieldsOf 55).toList.map (fun f => (f.name, f.type, f.offset)) = [("Kind", 3, 0), ("N", 3, 1), ("Write", 4, 2)] := by kernel_rfl
 rw[run_equalIn_struct w 9999 55 _ _ (by kernel_rfl) (by kernel_rfl)]
 obtain⟨f0,f1,f2,hfs⟩:∃f0 f1 f2,(Tryz.prog.fieldsOf 55).toList=[f0,f1,f2]:=by
  match hq:(Tryz.prog.fieldsOf 55).toList with
  | [f0,f1,f2]=>exact⟨f0,f1,f2,rfl⟩
  | []=>rw[hq]at hf;simp at hf
  | [_]=>rw[hq]at hf;simp at hf
  | [_,_]=>rw[hq]at hf;simp at hf
  | _ :: _ :: _ :: _ :: _=>rw[hq]at hf;simp at hf
 rw[hfs]at hf⊢
 simp at hf
 obtain⟨⟨h1,h2,h3⟩,⟨h4,h5,h6⟩,h7,h8,h9⟩:=hf;have pI:∀(zs:Array Xr) (o:Nat) v,zs[o]? =Xa (Xe Xf v)->(part 3 zs o).run prog w= .ok (Xe Xf v) w:=fun zs o v hz=>run_part_plain w (by simp[Program.plainKey,underlying3]) hz
 have pB:∀(zs:Array Xr) (o:Nat) v,zs[o]? =Xa (Xh v)->(part 4 zs o).run prog w= .ok (Xh v) w:=fun zs o v hz=>run_part_plain w (by simp[Program.plainKey,underlying4]) hz
 simp only[Op.eqFields,h1,h2,h3,h4,h5,h6,h7,h8,h9]
 simp[pI,pB,run_equalIn_int w _ _ _ _ _ _ underlying3,run_equalIn_bool' w _ _ _ _ underlying4]
 unfold zkE
 by_cases e1:k=k' <;> by_cases e2:n=n' <;> cases b <;> cases b' <;> simp[e1,e2]
theorem JM (k n:Int) (b:Bool) (w:Xo):
  Xq prog 181 #[Xi #[Xe Xf k,Xe Xf n,Xh b]] w fun e w'=>e= Xl (Xe Xf (enW ⟨k,n,b⟩))/\zc w w':=by
 obtain⟨Z,HZ⟩:=kA (enW ⟨k,n,b⟩);rw[HZ.out]
 by_cases h1:0<=k/\k<=2
 ·have hb1:=fun W=>Qs (m:=k) (n:=3) h1.1 (by omega) W
  by_cases h2:0<=n/\n<=59
  ·have hb2:=fun W=>Qs (m:=n) (n:=60) h2.1 (by omega) W
   by_cases h3:k=1/\39<n
   ·have HF:Xp (Z=3):=dD<|by rw[<-HZ.out];exact zfz h1 (fun h=>by have:=h.2.2 h3.1;simp at this;omega)
    obtain⟨rfl,h3⟩:=h3;have h4:40<=n:=by omega
    clear h1 h2 h3
    go_enter func181,ntmps181
    go_wp2_with fail;refine(hb1 _).mono ?_;rintro e w' ⟨rfl,rfl⟩;go_wp2_with fail;refine(hb2 _).mono ?_;rintro e w' ⟨rfl,rfl⟩;go_wp2;go_ret;exact⟨by rw[HF.out];rfl,za _ _⟩
   have hr:0<=n/\n<=59/\(k=1->n<=39):=⟨h2.1,h2.2,fun h=>by omega⟩
   obtain rfl|rfl|rfl:k=0\/k=1\/k=2:=by omega
   ·have hq:=fun W=>zob 0 n 0 0 b Xd W
    by_cases hn:n=0/\b=Xd
    ·have HF:Xp (Z=0):=dD<|by rw[<-HZ.out];exact zbg h1 hr (fun h=>by simp[hn.1,hn.2]at h)
     obtain⟨rfl,rfl⟩:=hn;rw[show zkE ⟨0,0,Xd⟩ ⟨0,0,Xd⟩=Xc from rfl]at hq
     clear h1 h2 h3 hr
     go_enter func181,ntmps181
     go_wp2_with fail;refine(hb1 _).mono ?_;rintro e w' ⟨rfl,rfl⟩;go_wp2_with fail;refine(hb2 _).mono ?_;rintro e w' ⟨rfl,rfl⟩;go_wp2;go_ret;exact⟨by rw[HF.out];rfl,za _ _⟩
    have HF:Xp (Z=7):=dD<|by
     rw[<-HZ.out];refine zkB h1 hr (.inl ⟨rfl,?_⟩)
     cases b with
     | false=>exact .inl (fun h=>hn ⟨h,rfl⟩)
     | true=>exact .inr rfl
    have he:zkE ⟨0,n,b⟩ ⟨0,0,Xd⟩=Xd:=by
     unfold zkE
     cases b with
     | false=>simp;exact fun h=>hn ⟨h,rfl⟩
     | true=>simp
    rw[he]at hq;clear h1 h2 h3 hr hn he
    go_enter func181,ntmps181
    go_wp2_with fail;refine(hb1 _).mono ?_;rintro e w' ⟨rfl,rfl⟩;go_wp2_with fail;refine(hb2 _).mono ?_;rintro e w' ⟨rfl,rfl⟩;go_wp2;go_ret;exact⟨by rw[HF.out];rfl,za _ _⟩
   ·have HF:Xp (Z=0):=dD<|by rw[<-HZ.out];exact zbg h1 hr (fun h=>by simp at h)
    have h4:¬40<=n:=by omega
    clear h1 h2 h3 hr
    go_enter func181,ntmps181
    go_wp2_with fail;refine(hb1 _).mono ?_;rintro e w' ⟨rfl,rfl⟩;go_wp2_with fail;refine(hb2 _).mono ?_;rintro e w' ⟨rfl,rfl⟩;go_wp2;go_ret;exact⟨by rw[HF.out];rfl,za _ _⟩
   cases b with
   | false=>
    have HF:Xp (Z=0):=dD<|by rw[<-HZ.out];exact zbg h1 hr (fun h=>by simp at h)
    clear h1 h2 h3 hr
    go_enter func181,ntmps181
    go_wp2_with fail;refine(hb1 _).mono ?_;rintro e w' ⟨rfl,rfl⟩;go_wp2_with fail;refine(hb2 _).mono ?_;rintro e w' ⟨rfl,rfl⟩;go_wp2;go_ret;exact⟨by rw[HF.out];rfl,za _ _⟩
   | true=>
    have HF:Xp (Z=7):=dD<|by rw[<-HZ.out];exact zkB h1 hr (.inr ⟨rfl,rfl⟩)
    clear h1 h2 h3 hr
    go_enter func181,ntmps181
    go_wp2_with fail;refine(hb1 _).mono ?_;rintro e w' ⟨rfl,rfl⟩;go_wp2_with fail;refine(hb2 _).mono ?_;rintro e w' ⟨rfl,rfl⟩;go_wp2;go_ret;exact⟨by rw[HF.out];rfl,za _ _⟩
  have HF:Xp (Z=3):=dD<|by rw[<-HZ.out];exact zfz h1 (fun h=>h2 ⟨h.1,h.2.1⟩)
  have hb2:=fun W=>zaJ (m:=n) (n:=60) (by omega) W
  clear h1 h2
  go_enter func181,ntmps181
  go_wp2_with fail;refine(hb1 _).mono ?_;rintro e w' ⟨rfl,rfl⟩;go_wp2_with fail;refine(hb2 _).mono ?_;rintro e w' ⟨rfl,rfl⟩;go_wp2;go_ret;exact⟨by rw[HF.out];rfl,za _ _⟩
 have HF:Xp (Z=1):=dD<|by rw[<-HZ.out];exact zmj h1
 have hb1:=fun W=>zaJ (m:=k) (n:=3) (by omega) W
 clear h1
 go_enter func181,ntmps181
 go_wp2_with fail;refine(hb1 _).mono ?_;rintro e w' ⟨rfl,rfl⟩;go_wp2;go_ret;exact⟨by rw[HF.out];rfl,za _ _⟩
theorem zd8 (v:Xr) (fs:List En) (w:Xo) (hv:zm enE w v fs):
  Xq prog 233 #[v,.func (.func 178) #[] #[]] w fun e w'=>(∃z:Int,e= Xl (Xe Xf z)/\decide (0<=z)=zbk fs)/\zc w w':=by
 have hbig:=hv.short;obtain⟨a,c,rfl,hrow⟩:=hv.ens;have HR:Xp (zhP w a fs):=hrow;clear hrow hv;obtain⟨n,HN⟩:=kA fs.length;rw[HN.out]at hbig⊢;obtain⟨ANS,HANS⟩:=kA (zbk fs);rw[HANS.out];have eg:=enters_of func178 (by kernel_rfl) rfl
 go_enter func233,ntmps233
 go_wp2
 go_loopg [8] n (fun gg s8 wr=>∃kk:Nat,kk<=n/\n - kk<=gg/\s8= Xe Xf kk/\Xp (zc w wr)/\Xp (∀(j:Nat) q,j<kk->fs[j]? =Xa q->enS q=Xd))
 case atStart=>exact⟨0,nZ _,by omega,rfl,zc.refl w,fun j q hj=>absurd hj (nL _)⟩
 obtain⟨kk,hkk,hg,rfl,BW,A⟩:=hrel
 by_cases hlt:kk<n
 ·have hltz:=kC hlt
  obtain⟨q,HQ⟩:∃q,Xp (fs[kk]? =Xa q):=⟨_,gE (by rw[HN.out];exact hlt)⟩
  obtain⟨ad,rfl,hl⟩:=HR.out kk q HQ.out;obtain⟨d0,d1,d2⟩:=hl wr BW.out;clear hl;have hcall:=zaY q.kind q.n q.wr wr
  cases hq:enS q with
  | true=>
   have HF:Xp (decide (0<=(kk:Int))=ANS):=dD<|by
    rw[<-HANS.out,show zbk fs=Xc from znw HQ.out hq]
    simp
   rw[show enS ⟨q.kind,q.n,q.wr⟩=Xc from hq]at hcall
   clear hq;go_wp2_with fail;refine hcall.mono ?_;rintro e W2 ⟨rfl,k1⟩;have G2:=dD (BW.trans k1);clear k1 hcall d0 d1 d2;go_wp2;go_ret;exact⟨⟨_,rfl,HF⟩,G2⟩
  | false=>
   have HA:Xp (∀(j:Nat) q,j<kk+1->fs[j]? =Xa q->enS q=Xd):=dD<|fun j q' hj hq'=>by
    by_cases e:j=kk
    ·subst e;rw[HQ.out]at hq';cases hq';exact hq
    exact A j q' (by omega) hq'
   rw[show enS ⟨q.kind,q.n,q.wr⟩=Xd from hq]at hcall
   clear hq;go_wp2_with fail;refine hcall.mono ?_;rintro e W2 ⟨rfl,k1⟩;have G2:=dD (BW.trans k1);clear k1 hcall d0 d1 d2;go_wp2
   go_roundg (n -(kk+1))
   case measure=>omega
   exact⟨kk+1,by omega,by omega,by go_num,G2,HA⟩
 have hltz:=kD hlt
 have:kk=n:=by omega
 subst this;have HF:Xp (decide (0<=(-1:Int))=ANS):=dD<|by
  rw[<-HANS.out]
  symm
  exact znv (fun j x hx=>A.out j x (by rw[<-HN.out];exact(gS.1 hx).1) hx)
 go_wp2;go_ret;exact⟨⟨_,rfl,HF⟩,BW⟩
theorem Zw (v:Xr) (fs:List En) (w:Xo) (hv:zm enE w v fs):
  Xq prog 213 #[v,.func (.func 178) #[] #[]] w fun e w'=>e= Xl (Xh (zbk fs))/\zc w w':=by
 have hcall:=zd8 v fs w hv;obtain⟨a,c,rfl,_⟩:=hv.rows;clear hv
 generalize fs.length=n at*
 generalize zbk fs=A at*
 go_enter func213,ntmps213
 go_wp2_with fail;refine hcall.mono ?_;rintro e W2 ⟨⟨z,rfl,hz⟩,k1⟩;have HZ:Xp (decide (0<=z)=A):=hz;have G2:Xp (zc w W2):=k1;clear hz k1 hcall;go_wp2;go_ret;exact⟨by rw[<-HZ.out];rfl,G2⟩
theorem zc3 (v:Xr) (fs:List En) (w:Xo) (hv:zm enE w v fs):
  Xq prog 146 #[v] w fun e w'=>∃v',e= Xl v'/\zb enE w.heap.size w' v' fs/\zc w w':=by
 have HV:Xp (zm enE w v fs):=hv;obtain⟨⟨a,c,rfl,hnone,hcells⟩,hbytes⟩:=hv;have q22:∀(w:Xo) (a:Option Addr) (n c n' c':Nat),(binOp .eql 59 (O a n c) (O Xb n' c')).run prog w= .ok (Xh a.isNone) w:=fun w a n c n' c'=>Lib.run_eql_slice_nil w _ _ a n c n' c' underlying59
 cases a with
 | none=>
  have hps:=hnone rfl;subst hps;clear hcells hnone hbytes
  go_enter func146,ntmps146
  go_wp2;go_ret;exact⟨_,rfl,zb.nil _ _ _,zc.refl w⟩
 | some x=>
  have HB:Xp (fs.length*24<=140737488355328):=hbytes;clear hcells hnone hbytes
  go_enter func146,ntmps146
  go_wp2_with (at_builtin;refine zw (E:=enE) rfl (.tmp 5) (.tmp 6) rfl w.heap.size _ [] rfl (zb.made enE w) _ fs rfl (HV.grew (za _ _)) ?qb (by simp) ?_)
  case qb=>rw[Ye,zA];exact HB.out
  intro v' w1 hown hgrow;go_wp2;go_ret;exact⟨v',rfl,by simpa using hown,((bR _ w).alloc (nR _) _).grown hgrow (by simp) (by intro k hk;simp[Value.ownBlock]at hk;omega)⟩
theorem Box.range {w:Xo} {cs:List Xr} (h:Box w b cs):w.rangeAt b 0 cs:=fun j v hj=>by
 rw[zA];exact h.c j hj
theorem Box.there {w:Xo} {cs:List Xr} (h:Box w b cs):w.there b 0 cs.length:=fun j hj=>by
 rw[zA];exact⟨by rw[h.c j (gE hj)];rfl,h.f j⟩
theorem Box.part {w:Xo}:∀{ds cs:List Xr} {o:Nat},Box w b cs->o+ds.length<=cs.length->Box (w.setCells b o ds) b (splice cs o ds):=by
 have key:∀(ds cs:List Xr) (o:Nat) (w:Xo),Box w b cs->o+ds.length<=cs.length->Box (w.setCells b o ds) b (splice cs o ds):=fun ds=>by
  induction ds with
  | nil=>
   intro cs o w h hl;have:splice cs o []=cs:=by simp[splice]
   rw[this];exact h
  | cons d ds ih=>
   intro cs o w h hl;simp only[Yq]at hl;have h1:=h.set o d;have h2:=ih (cs.set o d) (o+1) (w.setCell ⟨b,o,Xb⟩ d) h1 (by simp;omega)
   have h3:splice (cs.set o d) (o+1) ds=splice cs o (d :: ds):=by
    unfold splice;rw[List.take_set,List.drop_set,kE (by omega),Og,gE (by omega)]
    simp only[Yq,Option.toList_some];rw[List.set_append_right _ _ (by simp;omega),show o+1+ds.length=o+(ds.length+1) by omega]
    simp[List.length_take,Nat.min_eq_left (show o<=cs.length by omega)]
   rw[h3]at h2;exact h2
 exact fun{ds cs o} h hl=>key ds cs o w h hl
theorem zT (b:Nat):∀(ds:List Xr) (o:Nat) (w:Xo),w.grownBy (w.setCells b o ds) (Xa b)/\(w.setCells b o ds).heap.size=w.heap.size
 | [],_,w=>⟨World.grownBy.rfl' _ _,rfl⟩
 | d :: ds,o,w=>by
  obtain⟨h1,h2⟩:=zT b ds (o+1) (w.setCell ⟨b,o,Xb⟩ d);have h3:w.grownBy (w.setCell ⟨b,o,Xb⟩ d) (Xa b):=⟨rfl,rfl,rfl,by simp[World.setCell],fun k _ hk=>Below.heap_setCell _ _ _ _ (fun e=>hk (by rw[e]))⟩
  exact⟨jE h3 h1,h2.trans (by simp[World.setCell])⟩
theorem zR {rest:List Oper} {a:Act} {w:Xo} (hgd:o.guard=Xb) (ty:TypeId) (x:Operand) (ho:o.op= .load ty x) (b:Nat) (hx:a.eval x= Xj (Xa ⟨b,0,Xb⟩)) (hb:Box w b vs) {d:TypeDesc} (hu:Tryz.prog.underlying ty=Xa d) (hd:d.isRow=Xc) (hi:(Tryz.prog.info? ty).map (·.size)=Xa vs.length)
  (h:wpList prog ops Q rest (a.put o.dst (Xi vs.toArray)) w):wpList prog ops Q (o :: rest) a w:=
 wpList_load_mid hgd ty x ho b 0 hx vs _ hb.range hu hd hi h
theorem Jw {cs:List Xr} (h:vs.length=cs.length):splice cs 0 vs=vs:=by
 unfold splice;rw[List.take_zero,List.nil_append,zA,Ys (by omega),List.append_nil]
theorem zK {rest:List Oper} {a:Act} {w:Xo} (hgd:o.guard=Xb) (ty:TypeId) (p x:Operand) (ho:o.op= .store ty p x) (b:Nat) (hp:a.eval p= Xj (Xa ⟨b,0,Xb⟩)) (vs:List Xr) (hx:a.eval x= Xi vs.toArray)
  {cs:List Xr} (hb:Box w b cs) (hl:vs.length=cs.length) (hi:(Tryz.prog.info? ty).map (·.size)=Xa cs.length) (h1:∀v∈vs,v.oneCell'=Xc)
  (h:∀w',Box w' b vs->w.grownBy w' (Xa b)->w'.heap.size=w.heap.size->wpList prog ops Q rest (a.put o.dst undef) w'):wpList prog ops Q (o :: rest) a w:=by
 refine wpList_store_mid hgd ty p x ho b 0 vs.toArray hp hx ?_ ?_ (all_oneCell_toArray h1) ?_
 ·simpa [hl]using hb.there
 ·simpa [hl]using hi
 have:=hb.part (ds:=vs) (o:=0) (by omega)
 rw[Jw hl]at this;exact h _ this (zT b vs 0 w).1 (zT b vs 0 w).2
theorem zf8 {rest:List Oper} {op:Oper} {a:Act} {w:Xo} (hgd:op.guard=Xb) (ty:TypeId) (p x:Operand) (ho:op.op= .store ty p x) (b o:Nat) (hp:a.eval p= Xj (Xa ⟨b,o,Xb⟩)) (vs:List Xr) (hx:a.eval x= Xi vs.toArray)
  {cs:List Xr} (hb:Box w b cs) (hl:o+vs.length<=cs.length) (hi:(Tryz.prog.info? ty).map (·.size)=Xa vs.length) (h1:∀v∈vs,v.oneCell'=Xc)
  (h:∀w',Box w' b (splice cs o vs)->w.grownBy w' (Xa b)->w'.heap.size=w.heap.size->wpList prog ops Q rest (a.put op.dst undef) w'):wpList prog ops Q (op :: rest) a w:=by
 refine wpList_store_mid hgd ty p x ho b o vs.toArray hp hx ?_ ?_ (all_oneCell_toArray h1) ?_
 ·intro j hj;have:=hb.there (o+j) (by simp at hj;omega)
  rw[zA]at this;exact this
 ·simpa using hi
 exact h _ (hb.part hl) (zT b vs o w).1 (zT b vs o w).2
theorem Box.mid {w:Xo} {cs:List Xr} (h:Box w b cs) (o:Nat) (hv:∀(j:Nat) v,vs[j]? =Xa v->cs[o+j]? =Xa v):w.rangeAt b o vs:=fun j v hj=>h.c _ (hv j v hj)
theorem zZ {fn:Func} {p:Tmp} {ty:TypeId} (h:fn.results=#[.cell p ty]) (tmps:Array Xr) {w:Xo} (hp:tmps.getD p undef= Xj (Xa ⟨b,0,Xb⟩)) (hb:Box w b vs) {d:TypeDesc} (hu:Tryz.prog.underlying ty=Xa d) (hd:d.isRow=Xc) (hi:(Tryz.prog.info? ty).map (·.size)=Xa vs.length):
  (results fn tmps).run prog w= .ok (Xi vs.toArray) w:=by
 have hp':tmps[p]?.getD undef= Xj (Xa ⟨b,0,Xb⟩):=by simpa using hp
 have hld:=run_loadVar_mid (P:=prog) w b 0 ty vs d hb.range hu hd hi
 simp[results,h,hp',asAddr,hld]
theorem jZ {P:Program} {i:Nat} {a:Act} {w:Xo} {next:Act->Xo->Prop} (d:Option Tmp) (K:Xr->Xo->Prop) (hi:ops[i]? =Xa o) (hd:o.dst=d) (hw:Region.wanted o (yielded ops a.tmps)=Xc) (h:zQ P o a w K) (hn:∀v w',K v w'->next (a.put d v) w'):wpOp P ops Q i next a w:=by
 subst hd;unfold wpOp;simp only[hi,hw,if_true];exact .inl (h.wp hn)
theorem zQ.storeAll {a:Act} {w:Xo} {K:Xr->Xo->Prop} (ty:TypeId) (p x:Operand) (ho:o.op= .store ty p x) (b:Nat) (hp:a.eval p= Xj (Xa ⟨b,0,Xb⟩)) (vs:List Xr) (hx:a.eval x= Xi vs.toArray)
  {cs:List Xr} (hb:Box w b cs) (hl:vs.length=cs.length) (hi:(Tryz.prog.info? ty).map (·.size)=Xa cs.length) (h1:∀v∈vs,v.oneCell'=Xc)
  (h:∀w',Box w' b vs->w.grownBy w' (Xa b)->w'.heap.size=w.heap.size->K undef w'):zQ prog o a w K:=by
 unfold zQ;have hr:(execOp a.eval o).run prog w= .ok .skip (w.setCells b 0 vs):=by
  have:=run_storeAt_mid (P:=prog) w b 0 ty vs.toArray (by simpa [hl]using hb.there) (by simpa [hl]using hi) (all_oneCell_toArray h1)
  simp only[execOp,ho,hp,hx,Yl,this,rA,Oh]
 rw[hr];have hp:=hb.part (ds:=vs) (o:=0) (by omega)
 rw[Jw hl]at hp;exact h _ hp (zT b vs 0 w).1 (zT b vs 0 w).2
theorem zov:(Tryz.prog.info? 61).map (·.size)=Xa 8:=by kernel_rfl
theorem qF {rest:List Oper} {a:Act} {w:Xo} (hgd:o.guard=Xb) (x:Operand) (ho:o.op= .load 61 x) (b:Nat) (hx:a.eval x= Xj (Xa ⟨b,0,Xb⟩)) (hb:Box w b vs) (hl:vs.length=8)
  (h:wpList prog ops Q rest (a.put o.dst (Xi vs.toArray)) w):wpList prog ops Q (o :: rest) a w:=
 wpList_load_mid hgd 61 x ho b 0 hx vs _ hb.range underlying61 rfl (by rw[hl];exact zov) h
theorem zln {w:Xo} (i:Nat) (hi:i<8) {v:Xr} (hv:vs[i]? =Xa v):(Instr.index 61 (Xi vs.toArray) (Xe Xf (i:Int))).run prog w= .ok v w:=by
 have ha:(isAgg 59).run prog w= .ok Xd w:=by
  unfold isAgg;rw[Yl,run_underlying underlying59 w];rfl
 have hs:(Go.sizeOf 59).run prog w= .ok 1 w:=by
  obtain⟨i0,h1,h2⟩:∃i0,Tryz.prog.info? 59=Xa i0/\i0.size=1:=by
   have:(Tryz.prog.info? 59).map (·.size)=Xa 1:=by kernel_rfl
   cases hq:Tryz.prog.info? 59 with
   | none=>rw[hq]at this;cases this
   | some i0=>rw[hq]at this;exact⟨i0,rfl,by simpa using this⟩
  simp[Go.sizeOf,typeInfo,h1,h2]
 have hlt:(0:Int)<=(i:Int)/\(i:Int)< ((8:Nat):Int):=by omega
 simp only[Instr.index,asIntOf,Yl,Oh,rA,run_underlying underlying61];rw[kE hlt];simp only[Yl,hs,rA,part,ha,Nat.mul_one,tN]
 simp[hv]
theorem zgb {rest:List Oper} {a:Act} {w:Xo} (hgd:o.guard=Xb) (x ix:Operand) (ho:o.op= .index 61 x ix) (vs:List Xr) (hx:a.eval x= Xi vs.toArray) (i:Nat) (hix:a.eval ix= Xe Xf (i:Int)) (hi:i<8) {v:Xr} (hv:vs[i]? =Xa v)
  (h:wpList prog ops Q rest (a.put o.dst v) w):wpList prog ops Q (o :: rest) a w:=by
 refine wpList_plain hgd fun K hK=>?_
 unfold Oper.wp execOp;simp only[ho,hx,hix,Yl,Oh,rA,zln i hi hv];exact hK _ _ h
theorem jj {fn:Func} {p u:Tmp} {ty:TypeId} (h:fn.results=#[.cell p ty,.tmp u]) (tmps:Array Xr) {w:Xo} (hp:tmps.getD p undef= Xj (Xa ⟨b,0,Xb⟩)) (hb:Box w b vs) {d:TypeDesc} (hu:Tryz.prog.underlying ty=Xa d) (hd:d.isRow=Xc) (hi:(Tryz.prog.info? ty).map (·.size)=Xa vs.length):
  (results fn tmps).run prog w= .ok (Xm #[Xi vs.toArray,tmps.getD u undef]) w:=by
 have hld:=run_loadVar_mid (P:=prog) w b 0 ty vs d hb.range hu hd hi;rw[results_cell_tmp h,hp]
 simp[asAddr,Result.andThen,hld]
theorem ZS.one {w:Xo} {t:List (List En)} (h:ZS B0 B1 w vs t):∀v∈vs,v.oneCell'=Xc:=fun v hv=>by
 obtain⟨i,hi⟩:=Xw hv;have hlt:i<8:=by rw[<-h.len];exact(gS.1 hi).1
 obtain⟨a,c,x,_,h2,_⟩:=h.now.half hlt;rw[h2]at hi;cases hi;rfl
structure jf (base:Nat) (w:Xo) (vs:List Xr) (t:List (List En)):Prop where
 len:vs.length=8
 tlen:t.length=8
 row:∀(i:Nat) v h,vs[i]? =Xa v->t[i]? =Xa h->zb enE base w v h
 two:∀(i j:Nat) u v,i≠j->vs[i]? =Xa u->vs[j]? =Xa v->∀g,u.ownBlock=Xa g->v.ownBlock≠Xa g
theorem jf.new {base:Nat} {w:Xo} {t:List (List En)} (h:jf base w vs t):ZS 0 base w vs t:=⟨h.len,h.tlen,fun i v x hv hx=>(h.row i v x hv hx).new.stays⟩
theorem jf.grew {base:Nat} {w:Xo} {t:List (List En)} (h:jf base w vs t) (k:zc w w'):jf base w' vs t:=⟨h.len,h.tlen,fun i v x hv hx=>(h.row i v x hv hx).grew k,h.two⟩
theorem jf.base {base:Nat} {w:Xo} {t:List (List En)} (h:jf base w vs t) (hb:base'<=base):jf base' w vs t:=⟨h.len,h.tlen,fun i v x hv hx=>(h.row i v x hv hx).base hb,h.two⟩
theorem jf.half {base:Nat} {w:Xo} {t:List (List En)} (h:jf base w vs t) {i:Nat} (hi:i<8):∃a c x,t[i]? =Xa x/\vs[i]? =Xa (O a x.length c)/\zb enE base w (O a x.length c) x:=by
 obtain⟨v,hv⟩:∃v,vs[i]? =Xa v:=⟨_,gE (by rw[h.len];exact hi)⟩
 obtain⟨x,hx⟩:∃x,t[i]? =Xa x:=⟨_,gE (by rw[h.tlen];exact hi)⟩
 have hr:=h.row i v x hv hx;obtain⟨a,c,rfl⟩:=hr.form;exact⟨a,c,x,hx,hv,hr⟩
theorem jf.one {base:Nat} {w:Xo} {t:List (List En)} (h:jf base w vs t) {i:Nat} {v v':Xr} {x':List En} (hi:i<8) (hv:vs[i]? =Xa v) (hg:w.grownBy w' v.ownBlock) (ho:zb enE base w' v' x') (hn:∀g,v'.ownBlock=Xa g->v.ownBlock=Xa g\/w.heap.size<=g):jf base w' (vs.set i v') (t.set i x'):=by
 have hlt:∀(j:Nat) u,vs[j]? =Xa u->∀g,u.ownBlock=Xa g->g<w.heap.size:=fun j u hu g hg=>by
  obtain⟨x,hx⟩:∃x,t[j]? =Xa x:=⟨_,gE (by rw[h.tlen,<-h.len];exact(gS.1 hu).1)⟩
  exact((h.row j u x hu hx).lt g hg).2
 refine⟨by simp[h.len],by simp[h.tlen],fun j u x hu hx=>?_,fun j k p q hjk hp hq g hpg hqg=>?_⟩
 ·by_cases e:j=i
  ·subst e;rw[sF (by rw[h.len];exact hi)]at hu
   rw[sF (by rw[h.tlen];exact hi)]at hx
   cases hu;cases hx;exact ho
  rw[sN (fun h=>e h.symm)]at hu hx
  exact(h.row j u x hu hx).grown hg (fun g hu' hv'=>h.two j i u v e hu hv g hu' hv')
 by_cases e1:j=i
 ·subst e1;rw[sF (by rw[h.len];exact hi)]at hp
  cases hp;rw[sN hjk]at hq
  rcases hn g hpg with h1|h1
  ·exact h.two j k v q hjk hv hq g h1 hqg
  have:=hlt k q hq g hqg;omega
 rw[sN (fun h=>e1 h.symm)]at hp
 by_cases e2:k=i
 ·subst e2;rw[sF (by rw[h.len];exact hi)]at hq
  cases hq
  rcases hn g hqg with h1|h1
  ·exact h.two j k p v hjk hp hv g hpg h1
  have:=hlt j p hp g hpg;omega
 rw[sN (fun h=>e2 h.symm)]at hq
 exact h.two j k p q hjk hp hq g hpg hqg
structure zk3 (base:Nat) (w:Xo) (kk:Nat) (vs us:List Xr) (t:List (List En)):Prop where
 len:us.length=8
 own:∀(i:Nat) v h,i<kk->us[i]? =Xa v->t[i]? =Xa h->zb enE base w v h
 two:∀(i j:Nat) u v,i<kk->j<kk->i≠j->us[i]? =Xa u->us[j]? =Xa v->∀g,u.ownBlock=Xa g->v.ownBlock≠Xa g
 one:∀v∈us,v.oneCell'=Xc
theorem zk3.step {base:Nat} {w:Xo} {t:List (List En)} (h:zk3 base w kk vs us t) (ht:t.length=8) (hg:zc w w1) {x:List En} {v:Xr} (hk:kk<8) (hx:t[kk]? =Xa x) (hown:zb enE w.heap.size w1 v x) (hb:base<=w.heap.size) {p:Addr} (hp:p.block<base) (u:Xr):zk3 base (w1.setCell p u) (kk+1) vs (us.set kk v) t:=by
 have hlt:∀(j:Nat) u,j<kk->us[j]? =Xa u->∀g,u.ownBlock=Xa g->g<w.heap.size:=fun j u hj hu g hg=>by
  obtain⟨y,hy⟩:∃y,t[j]? =Xa y:=⟨_,gE (by rw[ht,<-h.len];exact(gS.1 hu).1)⟩
  exact((h.own j u y hj hu hy).lt g hg).2
 refine⟨by simp[h.len],fun i y f hi hy hf=>?_,fun i j p' q hi hj hij hp' hq g h1 h2=>?_,fun y hy=>?_⟩
 ·by_cases e:i=kk
  ·subst e;rw[sF (by rw[h.len];exact hk)]at hy
   cases hy;rw[hx]at hf;cases hf;exact(hown.base hb).setCell hp u
  rw[sN (fun h=>e h.symm)]at hy
  exact((h.own i y f (by omega) hy hf).grew hg).setCell hp u
 ·by_cases e1:i=kk
  ·subst e1;rw[sF (by rw[h.len];exact hk)]at hp'
   cases hp';rw[sN hij]at hq;have:=hlt j q (by omega) hq g h2
   have:=(hown.lt g h1).1;omega
  rw[sN (fun h=>e1 h.symm)]at hp'
  by_cases e2:j=kk
  ·subst e2;rw[sF (by rw[h.len];exact hk)]at hq
   cases hq;have:=hlt i p' (by omega) hp' g h1
   have:=(hown.lt g h2).1;omega
  rw[sN (fun h=>e2 h.symm)]at hq
  exact h.two i j p' q (by omega) (by omega) hij hp' hq g h1 h2
 rcases Xx hy with h1|h1
 ·exact h.one y h1
 subst h1;obtain⟨a,c,rfl⟩:=hown.form;rfl
theorem ze6 (vs:List Xr) (t:List (List En)) (w:Xo) (hv:Qi w vs t):
  Xq prog 102 #[Xi vs.toArray] w fun e w'=>∃us,e= Xl (Xi us.toArray)/\jf (w.heap.size+2) w' us t/\zc w w'/\w.heap.size+2<=w'.heap.size:=by
 have HV:Xp (Qi w vs t):=hv;have HL:Xp (vs.length=8):=hv.len;clear hv;obtain⟨W0,hW0⟩:=kB ((w.alloc (Xk vs.toArray 61)).alloc (Xk #[O Xb 0 0,O Xb 0 0,O Xb 0 0,O Xb 0 0,O Xb 0 0,O Xb 0 0,O Xb 0 0,O Xb 0 0] 61));have HG0:=gD2 hW0
 have X0:=x2a hW0
 have Y0:Xp (Box W0 (w.heap.size+1) Qf):=dD<|by rw[<-hW0];exact Box.top _ Qf _ (by simp)
 have HS0:Xp (W0.heap.size=w.heap.size+2):=dD<|by rw[<-hW0];simp
 have HW0:Xp (_=W0):=hW0;clear hW0
 go_enter func102,ntmps102
 go_upto_region 1 with fail;rw[HW0.out]
 go_wp2_with (refine qF rfl (.tmp 1) rfl w.heap.size rfl X0 HL.out ?_)
 go_loopg [6] 8 (fun gg s6 wr=>∃(kk:Nat) (us:List Xr),kk<=8/\8 - kk<=gg/\s6= Xe Xf kk/\Xp (zc w wr)/\Xp (w.heap.size+2<=wr.heap.size)/\Xp (Box wr w.heap.size us)/\Xp (Box wr (w.heap.size+1) Qf)/\Xp (zk3 (w.heap.size+2) wr kk vs us t))
 case atStart=>exact⟨0,vs,nZ _,by omega,rfl,HG0,by rw[HS0.out];exact nR _,X0,Y0,⟨HL,fun i v h hi=>absurd hi (nL _),fun i j u v hi=>absurd hi (nL _),HV.one⟩⟩
 obtain⟨kk,us,hkk,hg,rfl,BW,SW,XW,YW,HH⟩:=hrel
 by_cases hlt:kk<8
 ·have hltz:(kk:Int)<8:=by omega
  obtain⟨xa,xc,q,hq,hvk,hr⟩:=HV.half hlt;have HQ:Xp (t[kk]? =Xa q):=hq;have HVK:Xp (vs[kk]? =Xa (O xa q.length xc)):=hvk;have hcall:=zc3 (O xa q.length xc) q wr (hr.grew BW);clear hq hvk hr
  generalize q.length=nq at hcall HVK
  go_wp2_with (refine zgb rfl (.tmp 5) (.tmp 6) rfl vs rfl kk rfl hlt HVK.out ?_)
  refine hcall.mono ?_;rintro e W2 ⟨v2,rfl,ow2,g2⟩;obtain⟨a2,c2,rfl⟩:=ow2.form;have O2:Xp (zb enE wr.heap.size W2 (O a2 q.length c2) q):=ow2;have G2:Xp (zc wr W2):=g2;have X2:=dD (XW.grew g2);clear ow2 g2 hcall
  generalize q.length=nb at O2⊢
  obtain⟨uk,huk⟩:∃uk,us[kk]? =Xa uk:=⟨_,gE (by rw[HH.len];exact hlt)⟩
  have x0:=X2.c kk huk;have xf:=X2.f;clear huk;go_wp2;have HH3:Xp (zk3 (w.heap.size+2) (W2.setCell ⟨w.heap.size,kk,Xb⟩ (O a2 nb c2)) (kk+1) vs (us.set kk (O a2 nb c2)) t):=HH.step HV.tlen G2 hlt HQ O2 SW (by simp) _
  have X3:Xp (Box (W2.setCell ⟨w.heap.size,kk,Xb⟩ (O a2 nb c2)) w.heap.size (us.set kk (O a2 nb c2))):=X2.set kk _;have Y3:Xp (Box (W2.setCell ⟨w.heap.size,kk,Xb⟩ (O a2 nb c2)) (w.heap.size+1) Qf):=(YW.grew G2).other (by simp) _
  have G3:Xp (zc w (W2.setCell ⟨w.heap.size,kk,Xb⟩ (O a2 nb c2))):=dD<|Below.setCell (BW.trans G2) (p:=⟨w.heap.size,kk,Xb⟩) (by simp) _
  have S3:Xp (w.heap.size+2<=(W2.setCell ⟨w.heap.size,kk,Xb⟩ (O a2 nb c2)).heap.size):=dD<|by
   have:=bS G2.out;have:=SW.out
   simp[World.setCell]
   omega
  go_roundg (8 -(kk+1))
  case measure=>omega
  exact⟨kk+1,_,by omega,by omega,by go_num,G3,S3,X3,Y3,HH3⟩
 have hltz:¬(kk:Int)<8:=by omega
 have:kk=8:=by omega
 subst this;have OA:Xp (jf (w.heap.size+2) wr us t):=dD<|⟨HH.len,HV.tlen,fun i v h hv' hh=>HH.own i v h (by rw[<-HH.len];exact(gS.1 hv').1) hv' hh,fun i j u v hij hu hv'=>HH.two i j u v (by rw[<-HH.len];exact(gS.1 hu).1) (by rw[<-HH.len];exact(gS.1 hv').1) hij hu hv'⟩
 go_wp2_with (first | refine qF rfl (.tmp 1) rfl w.heap.size rfl XW HH.len ?_ | refine zK rfl 61 (.tmp 2) (.tmp 15) rfl (w.heap.size+1) rfl us rfl YW HH.len zov HH.one ?_)
 intro W3 b3 g3 s3;have OB:Xp (jf (w.heap.size+2) W3 us t):=dD<|⟨OA.len,OA.tlen,fun i v h hv' hh=>(OA.row i v h hv' hh).grown g3 (fun g hg e=>by
  cases e;have:=((OA.row i v h hv' hh).lt _ hg).1
  omega),OA.two⟩
 have G3:Xp (zc w W3):=dD<|ze BW g3 (by simp)
 have S3:Xp (w.heap.size+2<=W3.heap.size):=dD<|by rw[s3];exact SW.out
 have B3:Xp (Box W3 (w.heap.size+1) us):=b3;clear b3 g3 s3;go_wp2;refine bodyPost_ret (zZ rfl _ rfl B3 underlying61 rfl (by rw[HH.len];exact zov)) rfl ⟨us,rfl,OB,G3,S3⟩
def arv (a:Ar):List Xr:=[Xe Xf a.fr,Xe Xf a.tz,Xh a.rd,Xh a.wr,Xh a.sh,Xe Xf a.file,Xe Xf a.base]
def arA (a:Ar):Xr:= Xi #[Xe Xf a.fr,Xe Xf a.tz,Xh a.rd,Xh a.wr,Xh a.sh,Xe Xf a.file,Xe Xf a.base]
theorem zow:(Tryz.prog.info? 91).map (fun i=>(i.zero,i.size,i.bytes))=Xa (Xa (Xi #[Xe Xf 0,Xe Xf 0,Xh Xd,Xh Xd,Xh Xd,Xe Xf 0,Xe Xf 0]),7,40):=by kernel_rfl
theorem zox:(Tryz.prog.info? 91).map (·.size)=Xa 7:=by kernel_rfl
theorem zoy:(Tryz.prog.info? 164).map (·.size)=Xa 2:=by kernel_rfl
theorem zoz:(Tryz.prog.info? 67).map (·.size)=Xa 6:=by kernel_rfl
theorem zoA:(Tryz.prog.info? 68).map (·.size)=Xa 384:=by kernel_rfl
def arE:Elt Ar where
 enc:=arv
 k:=7
 ty:=91
 st:=58
 bytes:=40
 zv:= Xi #[Xe Xf 0,Xe Xf 0,Xh Xd,Xh Xd,Xh Xd,Xe Xf 0,Xe Xf 0]
 zero:=ar0
 len:=fun _=>rfl
 one:=fun a u hu=>by
  simp only[arv,mC,nM,or_false]at hu
  rcases hu with rfl|rfl|rfl|rfl|rfl|rfl|rfl <;> rfl
 und:=underlying58
 info:=zow
 zok:=rfl
 few:=by decide
 pos:=by decide
def znD (W:Xo) (y:Addr) (e:Ar):Prop:=W.cell? y=Xa (Xe Xf e.fr)/\W.cell? { block:=y.block,off:=y.off+1 }=Xa (Xe Xf e.tz)/\W.cell? { block:=y.block,off:=y.off+2 }=Xa (Xh e.rd)/\W.cell? { block:=y.block,off:=y.off+3 }=Xa (Xh e.wr)/\W.cell? { block:=y.block,off:=y.off+4 }=Xa (Xh e.sh)/\W.cell? { block:=y.block,off:=y.off+5 }=Xa (Xe Xf e.file)/\W.cell? { block:=y.block,off:=y.off+6 }=Xa (Xe Xf e.base)
def zbn (w:Xo) (a:Option Addr) (l:List Ar):Prop:=∀(j:Nat) e,l[j]? =Xa e->∃ad,a=Xa ad/\∀W,zc w W->znD W (ad.add (j*7)) e
theorem zm.ars {w:Xo} {v:Xr} (h:zm arE w v l):∃a c,v= O a l.length c/\zbn w a l:=by
 obtain⟨a,c,h1,h2⟩:=h.rows;refine⟨a,c,h1,fun j x hj=>?_⟩
 obtain⟨ad,h3,h4⟩:=h2 j x hj;exact⟨ad,h3,fun W hW=>⟨h4 W hW 0 _ rfl,h4 W hW 1 _ rfl,h4 W hW 2 _ rfl,h4 W hW 3 _ rfl,h4 W hW 4 _ rfl,h4 W hW 5 _ rfl,h4 W hW 6 _ rfl⟩⟩
def onv (x:On):List Xr:=[Xh x.is,Xh x.rd,Xh x.wr,Xh x.sh,Xe Xf x.file,Xe Xf x.page]
def tab {α:Type} (f:Nat->α):List α:=(Ya 64).map f
theorem Qd {α:Type} (f:Nat->α):(tab f).length=64:=by simp[tab]
theorem Q5 {α:Type} {f:Nat->α} {k:Nat} (h:k<64):(tab f)[k]? =Xa (f k):=by
 unfold tab;rw[Xz,Xv h];rfl
theorem zmW {α:Type} {f g:Nat->α} (h:∀k,k<64->f k=g k):tab f=tab g:=by
 unfold tab;exact Yk fun k hk=>h k (Xu.1 hk)
def upd {α:Type} (f:Nat->α) (k:Nat) (x:α):Nat->α:=fun j=>if j=k then x else f j
theorem zgd {α:Type} (f:Nat->α) (k:Nat) (x:α):(tab f).set k x=tab (upd f k x):=by
 apply Oi
 intro j
 by_cases hj:j<64
 ·rw[Q5 hj];unfold upd
  by_cases e:j=k
  ·subst e;rw[sF (by rw[Qd];exact hj),kE rfl]
  rw[sN (fun h=>e h.symm),Q5 hj,kF e]
 rw[gN (by simp[tab];omega),gN (by simp[tab];omega)]
def zC (l:List On):List Xr:=l.flatMap onv
theorem ziU (l:List On):(zC l).length=l.length*6:=qI l (fun _ _=>rfl)
theorem zjK (x:On):∀u∈onv x,u.oneCell'=Xc:=fun u hu=>by
 simp only[onv,mC,nM,or_false]at hu
 rcases hu with rfl|rfl|rfl|rfl|rfl|rfl <;> rfl
theorem JF (l:List On):∀v∈zC l,v.oneCell'=Xc:=qT zjK l
def Qj:Elt Fr where
 enc:=frv
 k:=13
 ty:=53
 st:=26
 bytes:=40
 zv:=frz
 zero:=fr0
 len:=Zd
 one:=zek
 und:=underlying26
 info:=zon
 zok:=zkk
 few:=by decide
 pos:=by decide
def cav (c:Ca):List Xr:=[Xe Xf c.file,Xe Xf c.idx,Xe Xf c.fr]
theorem zoB:(Tryz.prog.info? 120).map (fun i=>(i.zero,i.size,i.bytes))=Xa (Xa (Xi #[Xe Xf 0,Xe Xf 0,Xe Xf 0]),3,24):=by kernel_rfl
def qJ:Elt Ca where
 enc:=cav
 k:=3
 ty:=120
 st:=38
 bytes:=24
 zv:= Xi #[Xe Xf 0,Xe Xf 0,Xe Xf 0]
 zero:=⟨0,0,0⟩
 len:=fun _=>rfl
 one:=fun a u hu=>by
  simp only[cav,mC,nM,or_false]at hu
  rcases hu with rfl|rfl|rfl <;> rfl
 und:=underlying38
 info:=zoB
 zok:=rfl
 few:=by decide
 pos:=by decide
def zg6 (W:Xo) (y:Addr) (c:Ca):Prop:=W.cell? y=Xa (Xe Xf c.file)/\W.cell? { block:=y.block,off:=y.off+1 }=Xa (Xe Xf c.idx)/\W.cell? { block:=y.block,off:=y.off+2 }=Xa (Xe Xf c.fr)
def zbm (w:Xo) (a:Option Addr) (l:List Ca):Prop:=∀(j:Nat) c,l[j]? =Xa c->∃ad,a=Xa ad/\∀W,zc w W->zg6 W (ad.add (j*3)) c
theorem zm.cas {w:Xo} {v:Xr} {l:List Ca} (h:zm qJ w v l):∃a c,v= O a l.length c/\zbm w a l:=by
 obtain⟨a,c,h1,h2⟩:=h.rows;refine⟨a,c,h1,fun j x hj=>?_⟩
 obtain⟨ad,h3,h4⟩:=h2 j x hj;exact⟨ad,h3,fun W hW=>⟨h4 W hW 0 _ rfl,h4 W hW 1 _ rfl,h4 W hW 2 _ rfl⟩⟩
structure Sli where
 a:Option Addr
 n:Nat
 c:Nat
abbrev Sli.x (s:Sli):Xr:= O s.a s.n s.c
abbrev eS:Xr:= O Xb 0 0
abbrev I6 (x:Int):Xr:= Xe Xf x
abbrev U8 (x:Int):Xr:= Xe Xg x
def Sli.v (s:Sli):Xr:= O s.a s.n s.c
def zy:Sli:=⟨Xb,0,0⟩
theorem zm.n {α:Type} {E:Elt α} {w:Xo} {a:Option Addr} {n c:Nat} {l:List α} (h:zm E w (O a n c) l):n=l.length:=by
 obtain⟨_,_,h1,_⟩:=h.rows;cases h1;rfl
theorem zb.n {α:Type} {E:Elt α} {w:Xo} {a:Option Addr} {n c:Nat} {l:List α} (h:zb E b w (O a n c) l):n=l.length:=h.at.n
structure SpV where
 live:Bool
 ar:Sli
 (t0 t1 t2 t3 t4 t5 t6 t7:Sli)
def SpV.tab (x:SpV):List Xr:=[x.t0.v,x.t1.v,x.t2.v,x.t3.v,x.t4.v,x.t5.v,x.t6.v,x.t7.v]
def spv (x:SpV):List Xr:=[Xh x.live,x.ar.v,x.t0.v,x.t1.v,x.t2.v,x.t3.v,x.t4.v,x.t5.v,x.t6.v,x.t7.v]
def spz:Xr:= Xi #[Xh Xd,eS,eS,eS,eS,eS,eS,eS,eS,eS]
theorem zoC:(Tryz.prog.info? 63).map (fun i=>(i.zero,i.size,i.bytes))=Xa (Xa spz,10,224):=by kernel_rfl
def Zh:Elt SpV where
 enc:=spv
 k:=10
 ty:=63
 st:=39
 bytes:=224
 zv:=spz
 zero:=⟨Xd,zy,zy,zy,zy,zy,zy,zy,zy,zy⟩
 len:=fun _=>rfl
 one:=fun a u hu=>by
  simp only[spv,mC,nM,or_false]at hu
  rcases hu with rfl|rfl|rfl|rfl|rfl|rfl|rfl|rfl|rfl|rfl <;> rfl
 und:=underlying39
 info:=zoC
 zok:=rfl
 few:=by decide
 pos:=by decide
structure qN (w:Xo) (x:SpV) (s:Sp):Prop where
 live:x.live=s.live
 ar:zm arE w (x.ar.x) s.ars
 cap:x.ar.n<=x.ar.c
 tb:Qi w x.tab s.tb
theorem qN.grew {w:Xo} {x:SpV} {s:Sp} (h:qN w x s) (k:zc w w'):qN w' x s:=⟨h.live,h.ar.grew k,h.cap,h.tb.grew k⟩
def QN (w:Xo) (v:Xr) (ss:List Sp):Prop:=∃xs:List SpV,zm Zh w v xs/\xs.length=ss.length/\∀(i:Nat) x s,xs[i]? =Xa x->ss[i]? =Xa s->qN w x s
theorem QN.grew {w:Xo} {v:Xr} {ss:List Sp} (h:QN w v ss) (k:zc w w'):QN w' v ss:=by
 obtain⟨xs,h1,h2,h3⟩:=h;exact⟨xs,h1.grew k,h2,fun i x s hx hs=>(h3 i x s hx hs).grew k⟩
structure MaV where
 (f s sb sq db dq fl ca sp:Sli)
structure zN (w:Xo) (V:MaV) (m:Ma):Prop where
 fs:zm Qj w (V.f.x) m.fs
 sl:zm slE w (V.s.x) m.sl
 sb:qK w (V.sb.x) m.sb
 sq:qH w (V.sq.x) m.sq
 db:qK w (V.db.x) m.db
 dq:qH w (V.dq.x) m.dq
 fl:qh w (V.fl.x) m.fl
 ca:zm qJ w (V.ca.x) m.ca
 sp:QN w (V.sp.x) m.sp
abbrev mL (V:MaV) (m:Ma):List Xr:=[V.f.x,I6 m.hand,V.s.x,V.sb.x,V.sq.x,V.db.x,V.dq.x,V.fl.x,I6 m.cnt,V.ca.x,V.sp.x]
abbrev zM:List Xr:=[eS,I6 0,eS,eS,eS,eS,eS,eS,I6 0,eS,eS]
theorem zN.grew {w:Xo} {V:MaV} (h:zN w V m) (k:zc w w'):zN w' V m:=⟨h.fs.grew k,h.sl.grew k,h.sb.grew k,h.sq.grew k,h.db.grew k,h.dq.grew k,ja.grew h.fl k,h.ca.grew k,h.sp.grew k⟩
theorem qK.n {w:Xo} {a:Option Addr} {n c:Nat} {l:List (List Int)} (h:qK w (O a n c) l):n=l.length:=by
 obtain⟨⟨_,_,h1,_⟩,_⟩:=h;cases h1;rfl
theorem qH.n {w:Xo} {a:Option Addr} {n c:Nat} {l:List (Int × List Int)} (h:qH w (O a n c) l):n=l.length:=by
 obtain⟨⟨_,_,h1,_⟩,_⟩:=h;cases h1;rfl
theorem qh.n {w:Xo} {a:Option Addr} {n c:Nat} {l:List Fl} (h:qh w (O a n c) l):n=l.length:=by
 obtain⟨_,xs,k1,k2,_⟩:=h;rw[k1.now.n,k2]
theorem QN.n {w:Xo} {a:Option Addr} {n c:Nat} {l:List Sp} (h:QN w (O a n c) l):n=l.length:=by
 obtain⟨xs,k1,k2,_⟩:=h;rw[k1.n,k2]
theorem zN.ns {w:Xo} {V:MaV} (h:zN w V m):V.f.n=m.fs.length/\V.s.n=m.sl.length/\V.sb.n=m.sb.length/\V.sq.n=m.sq.length/\V.db.n=m.db.length/\V.dq.n=m.dq.length/\V.fl.n=m.fl.length/\V.ca.n=m.ca.length/\V.sp.n=m.sp.length:=
 ⟨h.fs.n,h.sl.n,h.sb.n,h.sq.n,h.db.n,h.dq.n,qh.n h.fl,h.ca.n,h.sp.n⟩
theorem zm.rowsAt {α:Type} {E:Elt α} {w:Xo} {a:Option Addr} {n c:Nat} {l:List α} (h:zm E w (O a n c) l):zmR E w a l:=by
 obtain⟨_,_,h1,h2⟩:=h.rows;cases h1;exact h2
theorem zN.frs {w:Xo} {V:MaV} (h:zN w V m):zaM w V.f.a m.fs:=fun j x hj=>by
 obtain⟨ad,h3,h4⟩:=h.fs.rowsAt j x hj;exact⟨ad,h3,fun W hW=>(h4 W hW).fr⟩
theorem zN.cas {w:Xo} {V:MaV} (h:zN w V m):zbm w V.ca.a m.ca:=by
 obtain⟨_,_,h1,h2⟩:=h.ca.cas;simp only[vJ]at h1;rw[h1.1];exact h2
theorem zN.sls {w:Xo} {V:MaV} (h:zN w V m):zaK w V.s.a m.sl:=by
 obtain⟨_,_,h1,h2⟩:=h.sl.sls;simp only[vJ]at h1;rw[h1.1];exact h2
theorem zN.pgs {w:Xo} {V:MaV} (h:zN w V m):zbH w V.db.a m.db:=by
 obtain⟨_,_,h1,h2⟩:=h.db.rows;simp only[vJ]at h1;rw[h1.1];exact h2
theorem zN.puts {w:Xo} {V:MaV} (h:zN w V m):ZO w V.dq.a m.dq:=by
 obtain⟨_,_,h1,h2⟩:=h.dq.rows;simp only[vJ]at h1;rw[h1.1];exact h2
theorem zgP (v:Xr) (fs:List Ca) (w:Xo) (hv:zm qJ w v fs):
  Xq prog 62 #[v] w fun e w'=>∃v',e= Xl v'/\zb qJ w.heap.size w' v' fs/\zc w w':=by
 have HV:Xp (zm qJ w v fs):=hv;obtain⟨⟨a,c,rfl,hnone,hcells⟩,hbytes⟩:=hv;have q22:∀(w:Xo) (a:Option Addr) (n c n' c':Nat),(binOp .eql 38 (O a n c) (O Xb n' c')).run prog w= .ok (Xh a.isNone) w:=fun w a n c n' c'=>Lib.run_eql_slice_nil w _ _ a n c n' c' underlying38
 cases a with
 | none=>
  have hps:=hnone rfl;subst hps;clear hcells hnone hbytes
  go_enter func62,ntmps62
  go_wp2;go_ret;exact⟨_,rfl,zb.nil _ _ _,zc.refl w⟩
 | some x=>
  have HB:Xp (fs.length*24<=140737488355328):=hbytes;clear hcells hnone hbytes
  go_enter func62,ntmps62
  go_wp2_with (at_builtin;refine zw (E:=qJ) rfl (.tmp 5) (.tmp 6) rfl w.heap.size _ [] rfl (zb.made qJ w) _ fs rfl (HV.grew (za _ _)) ?qb (by simp) ?_)
  case qb=>rw[Ye,zA];exact HB.out
  intro v' w1 hown hgrow;go_wp2;go_ret;exact⟨v',rfl,by simpa using hown,((bR _ w).alloc (nR _) _).grown hgrow (by simp) (by intro k hk;simp[Value.ownBlock]at hk;omega)⟩
theorem zgO (v:Xr) (fs:List SpV) (w:Xo) (hv:zm Zh w v fs):
  Xq prog 101 #[v] w fun e w'=>∃v',e= Xl v'/\zb Zh w.heap.size w' v' fs/\zc w w':=by
 have HV:Xp (zm Zh w v fs):=hv;obtain⟨⟨a,c,rfl,hnone,hcells⟩,hbytes⟩:=hv;have q22:∀(w:Xo) (a:Option Addr) (n c n' c':Nat),(binOp .eql 39 (O a n c) (O Xb n' c')).run prog w= .ok (Xh a.isNone) w:=fun w a n c n' c'=>Lib.run_eql_slice_nil w _ _ a n c n' c' underlying39
 cases a with
 | none=>
  have hps:=hnone rfl;subst hps;clear hcells hnone hbytes
  go_enter func101,ntmps101
  go_wp2;go_ret;exact⟨_,rfl,zb.nil _ _ _,zc.refl w⟩
 | some x=>
  have HB:Xp (fs.length*224<=140737488355328):=hbytes;clear hcells hnone hbytes
  go_enter func101,ntmps101
  go_wp2_with (at_builtin;refine zw (E:=Zh) rfl (.tmp 5) (.tmp 6) rfl w.heap.size _ [] rfl (zb.made Zh w) _ fs rfl (HV.grew (za _ _)) ?qb (by simp) ?_)
  case qb=>rw[Ye,zA];exact HB.out
  intro v' w1 hown hgrow;go_wp2;go_ret;exact⟨v',rfl,by simpa using hown,((bR _ w).alloc (nR _) _).grown hgrow (by simp) (by intro k hk;simp[Value.ownBlock]at hk;omega)⟩
theorem zgQ (v:Xr) (fs:List Ar) (w:Xo) (hv:zm arE w v fs):
  Xq prog 68 #[v] w fun e w'=>∃v',e= Xl v'/\zb arE w.heap.size w' v' fs/\zc w w':=by
 have HV:Xp (zm arE w v fs):=hv;obtain⟨⟨a,c,rfl,hnone,hcells⟩,hbytes⟩:=hv;have q22:∀(w:Xo) (a:Option Addr) (n c n' c':Nat),(binOp .eql 58 (O a n c) (O Xb n' c')).run prog w= .ok (Xh a.isNone) w:=fun w a n c n' c'=>Lib.run_eql_slice_nil w _ _ a n c n' c' underlying58
 cases a with
 | none=>
  have hps:=hnone rfl;subst hps;clear hcells hnone hbytes
  go_enter func68,ntmps68
  go_wp2;go_ret;exact⟨_,rfl,zb.nil _ _ _,zc.refl w⟩
 | some x=>
  have HB:Xp (fs.length*40<=140737488355328):=hbytes;clear hcells hnone hbytes
  go_enter func68,ntmps68
  go_wp2_with (at_builtin;refine zw (E:=arE) rfl (.tmp 5) (.tmp 6) rfl w.heap.size _ [] rfl (zb.made arE w) _ fs rfl (HV.grew (za _ _)) ?qb (by simp) ?_)
  case qb=>rw[Ye,zA];exact HB.out
  intro v' w1 hown hgrow;go_wp2;go_ret;exact⟨v',rfl,by simpa using hown,((bR _ w).alloc (nR _) _).grown hgrow (by simp) (by intro k hk;simp[Value.ownBlock]at hk;omega)⟩
end
section
def zk4 (f:Fr):Prop:=0<=f.r/\(0<=f.x/\f.x<12)/\(f.f=-1\/(0<=f.f/\f.f<5))/\(f.r=0->f=frF)/\(f.f=-1->f.x=0)
theorem zkn {f:Fr} (h:zk4 f) (hr:f.r<=1000):frW f=0:=by
 obtain⟨h1,h2,h3,h4,h5⟩:=h;unfold frW;have e1:inB f.r 1001=Xc:=by simp[inB];omega
 have e2:inB f.x 12=Xc:=by simp[inB];omega
 rw[e1,e2,kF (by decide)]
 have e3:(!(f.f == -1) && !inB f.f 5)=Xd:=by
  rcases h3 with h|h
  ·simp[h]
  have:inB f.f 5=Xc:=by simp[inB];omega
  simp[this]
 rw[e3,kF (by decide)]
 have e4:(f.r == 0 && !zaF f frF)=Xd:=by
  by_cases h0:f.r=0
  ·rw[(zcs f frF).2 (h4 h0)];simp
  simp[h0]
 have e5:(f.f == -1 && !(f.x == 0))=Xd:=by
  by_cases h0:f.f=-1
  ·simp[h5 h0]
  simp[h0]
 rw[e4,e5];rfl
theorem zaB:∀{l:List Fr},zfp l=0↔∀f∈l,frW f=0
 | []=>by simp[zfp]
 | f :: l=>by
  unfold zfp
  by_cases h:frW f=0
  ·rw[kE h,zaB]
   simp[h]
  rw[kF h]
  simp[h]
def za9 (m:Ma) (x:On) (e:En):Prop:=enW e=0/\e.kind≠0/\zc2 m x e=0
structure qV (m:Ma) (T:List (Nat->En)):Prop where
 fs40:m.fs.length<=40
 fok:∀f∈m.fs,zk4 f
 sl60:m.sl.length<=60
 sbl:m.sb.length=m.sl.length
 sq:zJ m.sb.length m.sq=0
 dok:zJ m.db.length m.dq=0
 st:stW m.fl m.cnt=0
 cnt:m.cnt=(m.db.length:Int)
 blk:∀b:Nat,b<m.db.length->zV m.fl (b:Int)=Xd->m.db[b]? =Xa zx
 que:∀q∈m.dq,zV m.fl q.1=Xc
 spl:m.sp.length<=4
 spok:∀s∈m.sp,(wrL s.ars).1=0/\(s.live=Xd->s.ars=[])
 tl:T.length=m.sp.length
 ca:zbF m Xb m.ca=0
 ent:∀(p:Nat) s f,m.sp[p]? =Xa s->T[p]? =Xa f->∀n:Nat,n<64->f n=en0\/za9 m (zO s.ars n) (f n)
 cf:∀(k:Nat) f,m.fs[k]? =Xa f->f.r=((ju T 1 k+qk m.ca k:Nat):Int)/\(0<=f.f->qk m.ca k≠0)
 cs:∀(k:Nat) z,m.sl[k]? =Xa z->z=(ju T 2 k:Int)
theorem zL {m:Ma}:∀{l:List Ca} {p:Option Ca},zbF m p l=0↔(∀c∈l,caE m Xb c=0)/\(∀q c,p=Xa q->c∈l->qm q<qm c)/\l.Pairwise (fun a b=>qm a<qm b)
 | [],p=>by simp[zbF]
 | c :: l,p=>by
  unfold zbF;have hc:caE m p c=0↔caE m Xb c=0/\∀q,p=Xa q->qm q<qm c:=by
   unfold caE
   by_cases h1:c.file<0\/(m.fl.length:Int)<=c.file\/c.idx<0\/bkN m c.file<=c.idx\/c.fr<0\/(m.fs.length:Int)<=c.fr
   ·rw[kE h1,kE h1];simp
   rw[kF h1,kF h1]
   by_cases h2:(z8 m c.fr).r=0\/(z8 m c.fr).f≠c.file\/(z8 m c.fr).x≠c.idx
   ·rw[kE h2,kE h2];simp
   rw[kF h2,kF h2]
   cases p with
   | none=>simp
   | some q=>
    simp only[Option.some.injEq,forall_eq',true_and]
    by_cases h3:qm c<=qm q
    ·rw[kE h3];constructor
     ·intro h;cases h
     intro h;omega
    rw[kF h3];simp;omega
  by_cases h:caE m p c=0
  ·rw[kE h,zL];obtain⟨g1,g2⟩:=hc.1 h;constructor
   ·rintro⟨a1,a2,a3⟩;refine⟨?_,?_,?_⟩
    ·intro x hx
     rcases mC.1 hx with rfl|hx
     ·exact g1
     exact a1 x hx
    ·intro q x hq hx
     rcases mC.1 hx with rfl|hx
     ·exact g2 q hq
     have:=g2 q hq;have:=a2 c x rfl hx;omega
    exact Yb.2 ⟨fun x hx=>a2 c x rfl hx,a3⟩
   rintro⟨a1,a2,a3⟩;obtain⟨b1,b2⟩:=Yb.1 a3;exact⟨fun x hx=>a1 x (by simp[hx]),fun q x hq hx=>by cases hq;exact b1 x hx,b2⟩
  rw[kF h];constructor
  ·intro h';exact absurd h' h
  rintro⟨a1,a2,a3⟩;exact absurd (hc.2 ⟨a1 c (by simp),fun q hq=>a2 q c hq (by simp)⟩) h
theorem QX {c:Ca} (h:caE m Xb c=0):(0<=c.file/\c.file<m.fl.length/\0<=c.idx/\c.idx<bkN m c.file/\0<=c.fr/\c.fr<m.fs.length)/\(z8 m c.fr).r≠0/\(z8 m c.fr).f=c.file/\(z8 m c.fr).x=c.idx:=by
 unfold caE at h
 split at h
 ·cases h
 split at h
 ·cases h
 rename_i h1 h2
 refine⟨by omega,fun h=>h2 (.inl h),?_,?_⟩
 ·exact Classical.byContradiction fun h=>h2 (.inr (.inl h))
 exact Classical.byContradiction fun h=>h2 (.inr (.inr h))
theorem zbj {c:Ca} (h1:0<=c.file/\c.file<m.fl.length/\0<=c.idx/\c.idx<bkN m c.file/\0<=c.fr/\c.fr<m.fs.length) (h2:(z8 m c.fr).r≠0) (h3:(z8 m c.fr).f=c.file) (h4:(z8 m c.fr).x=c.idx):caE m Xb c=0:=by
 unfold caE;rw[kF (by omega),kF (by rintro(h | h | h);exact h2 h;exact h h3;exact h h4)]
theorem ziW (h:zbF m Xb m.ca=0) (k:Int):qk m.ca k<=1:=by
 obtain⟨h1,_,h3⟩:=zL.1 h;have key:∀(l:List Ca),(∀c∈l,caE m Xb c=0)->l.Pairwise (fun a b=>qm a<qm b)->qk l k<=1:=by
  intro l
  induction l with
  | nil=>intro _ _;simp[qk]
  | cons c l ih=>
   intro a1 a2;obtain⟨b1,b2⟩:=Yb.1 a2;have ih':=ih (fun x hx=>a1 x (by simp[hx])) b2
   unfold qk at ih'⊢;rw[List.countP_cons]
   by_cases hc:c.fr=k
   ·have:l.countP (fun c=>decide (c.fr=k))=0:=by
     rw[Yz];intro x hx hxk;have hxk':x.fr=k:=by simpa using hxk
     have e1:=QX (a1 c (by simp))
     have e2:=QX (a1 x (by simp[hx]))
     have hl:=b1 x hx;rw[hc]at e1;rw[hxk']at e2;unfold qm at hl;have:=e1.2.2.1;have:=e1.2.2.2;have:=e2.2.2.1;have:=e2.2.2.2;omega
    rw[this]
    simp[hc]
   simp[hc]
   exact ih'
 exact key m.ca h1 h3
theorem za6 {ca:List Ca} {c:Ca} (h:c∈ca):qk ca c.fr≠0:=by
 unfold qk;intro h0;rw[Yz]at h0;exact h0 c h (by simp)
theorem ziX {ca:List Ca} {k:Int} (h:qk ca k≠0):∃c∈ca,c.fr=k:=by
 unfold qk at h;have:0<ca.countP fun c=>decide (c.fr=k):=Nat.pos_of_ne_zero h
 rw[Oa]at this;obtain⟨c,h1,h2⟩:=this;exact⟨c,h1,by simpa using h2⟩
def jV (f:Nat->En):List (List En):=Za ((Ya 64).map f)
def jO (m:Ma) (T:List (Nat->En)) (h:Int):Ma:={ m with hand:=h,sp:=Yt (fun s f=>{ s with tb:=jV f }) m.sp T }
theorem zg9 {f:Nat->En} (h:∀n,n<64->enW (f n)=0) {n:Nat} (hn:n<64):zdo (jV f) (n / 8) (n % 8)=f n:=by
 unfold jV zdo Za;rw[Xz,Xv (by omega)]
 simp only[Option.map_some,Option.getD_some];have hc:∀e∈ZU ((Ya 64).map f) (n / 8),enW e=0:=by
  intro e he;unfold ZU at he;obtain⟨k,hk,rfl⟩:=Xy.1 he;rw[Xu]at hk;rw[Xz,Xv (by omega)]
  exact h _ (by omega)
 rw[zmG _ hc];unfold ZU;rw[Xz,Xv (by omega)]
 simp only[Option.map_some,Option.getD_some];rw[Xz,Xv (by omega)]
 simp only[Option.map_some,Option.getD_some]
 congr 1
 omega
theorem zlj {f:Nat->En} (h:∀n,n<64->enW (f n)=0):tbW (jV f)=0:=by
 rw[QB];intro x hx;unfold jV Za at hx;obtain⟨i,hi,rfl⟩:=Xy.1 hx;rw[Xu]at hi;refine znR (by simp[ZU]) ?_
 intro e he;unfold ZU at he;obtain⟨k,hk,rfl⟩:=Xy.1 he;rw[Xu]at hk;rw[Xz,Xv (by omega)]
 exact h _ (by omega)
theorem zge {f:Nat->En} (h:∀n,n<64->f n=en0):(jV f).all (·.isEmpty)=Xc:=by
 rw[List.all_eq_true];intro x hx;unfold jV Za at hx;obtain⟨i,hi,rfl⟩:=Xy.1 hx;rw[Xu]at hi;have:zbk (ZU ((Ya 64).map f) i)=Xd:=by
  unfold zbk;rw[Oj];intro e he;unfold ZU at he;obtain⟨k,hk,rfl⟩:=Xy.1 he;rw[Xu]at hk;rw[Xz,Xv (by omega)]
  simp only[Option.map_some,Option.getD_some];rw[h _ (by omega)]
  decide
 unfold mk;rw[kF (by rw[this];decide)]
 rfl
theorem zfJ {f g:Nat->En} (kind k:Int):∀{m:Nat},(∀n,n<m->f n=g n)->QM f kind k m=QM g kind k m
 | 0,_=>rfl
 | m+1,h=>by
  unfold QM;rw[zfJ kind k (fun n hn=>h n (by omega)),h m (by omega)]
section
variable{m:Ma} {T:List (Nat->En)}
theorem qV.en (h:qV m T) {p:Nat} {f:Nat->En} (hT:T[p]? =Xa f) {n:Nat} (hn:n<64):enW (f n)=0:=by
 have hp:p<m.sp.length:=by rw[<-h.tl];exact(gS.1 hT).1
 rcases h.ent p _ f (gE hp) hT n hn with h1|h1
 ·rw[h1];exact zkC
 exact h1.1
theorem zmK (h:qV m T) (hd:Int) {p:Nat} {s:Sp} (hs:(jO m T hd).sp[p]? =Xa s):∃s0 f,m.sp[p]? =Xa s0/\T[p]? =Xa f/\s={ s0 with tb:=jV f }:=by
 unfold jO at hs;simp only[List.getElem?_zipWith]at hs;have hp:p<m.sp.length:=by
  rcases Nat.lt_or_ge p m.sp.length with h1|h1
  ·exact h1
  rw[gN h1]at hs;cases hs
 have hq:p<T.length:=by rw[h.tl];exact hp
 rw[gE hp,gE hq]at hs;simp only[Option.some.injEq]at hs;exact⟨_,_,gE hp,gE hq,hs.symm⟩
theorem zhC (h:qV m T) (hd:Int) (kind k:Int):zcj (jO m T hd) kind k=ju T kind k:=by
 have key:∀(S:List Sp) (T:List (Nat->En)),T.length=S.length->(∀(p:Nat) f,T[p]? =Xa f->∀n,n<64->enW (f n)=0)->ju ((Yt (fun s f=>({ s with tb:=jV f }:Sp)) S T).map zD) kind k=ju T kind k:=by
  intro S
  induction S with
  | nil=>intro T hl _;rw[List.length_eq_zero_iff.1 hl];rfl
  | cons s S ih=>
   intro T hl he
   cases T with
   | nil=>simp at hl
   | cons f T=>
    have h1:=ih T (by simpa using hl) (fun p g hg=>he (p+1) g (by simpa using hg))
    have h2:QM (zD { s with tb:=jV f }) kind k 64=QM f kind k 64:=zfJ kind k fun n hn=>by
     unfold zD;exact zg9 (he 0 f rfl) hn
    simp only[Yu,mP,ju,List.sum_cons]at h1⊢;rw[h1,h2]
 exact key m.sp T h.tl fun p f hf n hn=>h.en hf hn
theorem qV.right (h:qV m T) {hd:Int} (h0:0<=hd) (h1:hd<max (m.fs.length:Int) 1):maW (jO m T hd)=0:=by
 have hT4:T.length<=4:=by rw[h.tl];exact h.spl
 unfold maW;rw[zF];intro e he;simp only[mC,nM,or_false]at he
 rcases he with rfl|rfl|rfl|rfl|rfl
 ·unfold zbr;rw[zF];intro e he;simp only[mC,nM,or_false]at he
  rcases he with rfl|rfl|rfl|rfl|rfl|rfl|rfl|rfl|rfl|rfl
  ·show ZR m.fs hd=0
   unfold ZR;have hfs:zfp m.fs=0:=zaB.2 fun f hf=>by
    obtain⟨k,hk⟩:=Xw hf;refine zkn (h.fok f hf) ?_;rw[(h.cf k f hk).1];have:=zck T 1 k;have:=ziW h.ca k;omega
   rw[kF (by have:=h.fs40;omega),kE hfs,kE]
   simp[inB]
   omega
  ·show slW m.sl=0
   unfold slW;rw[kF (by have:=h.sl60;omega),kF]
   rw[Yc];rintro⟨z,hz,hb⟩;obtain⟨k,hk⟩:=Xw hz;have h2:=h.cs k z hk;have:=zck T 2 k;unfold zdz at hb
   simp at hb
   omega
  ·exact h.sq
  ·exact h.dok
  ·exact h.st
  ·show zi8 m=0
   unfold zi8;rw[kF];have:=h.sbl;have:=h.cnt;omega
  ·show Jp m=0
   unfold Jp;rw[kF];rw[Yc];rintro⟨b,hb,hx⟩;rw[Xu]at hb;simp only[Yg,Bool.not_eq_true']at hx;have:=h.blk b hb hx.1;rw[gD,this]at hx
   simp at hx
  ·show Q8 m=0
   unfold Q8;rw[kF];rw[Yc];rintro⟨q,hq,hx⟩;rw[h.que q hq]at hx;cases hx
  ·have:(jO m T hd).sp.length<=4:=by
    unfold jO;simp;have:=h.spl;omega
   rw[kF (by omega)]
  rw[zF];intro e he;obtain⟨s,hs,rfl⟩:=Xy.1 he;obtain⟨p,hp⟩:=Xw hs;obtain⟨s0,f,a1,a2,rfl⟩:=zmK h hd hp;have hok:=h.spok s0 (mG a1);unfold spE;simp only;rw[kF (fun h=>h hok.1),kF (fun h'=>h' (zlj fun n hn=>h.en a2 hn)),kF]
  intro hx;rw[Yg]at hx;have hlive:s0.live=Xd:=by simpa using hx.1
  have hars:=hok.2 hlive;have hemp:(jV f).all (·.isEmpty)=Xc:=zge fun n hn=>by
   rcases h.ent p s0 f a1 a2 n hn with e|e
   ·exact e
   have:=e.2.2;unfold zc2 at this;rw[hars,kE (show(zO [] n).is=Xd from rfl)]at this
   cases this
  rw[hars,hemp]at hx
  simp at hx
 ·obtain⟨a1,a2,a3⟩:=zL.1 h.ca;exact zL.2 ⟨fun c hc=>a1 c hc,fun q c hq=>(by cases hq),a3⟩
 ·rw[zF];intro e he;obtain⟨s,hs,rfl⟩:=Xy.1 he;obtain⟨p,hp⟩:=Xw hs;obtain⟨s0,f,a1,a2,rfl⟩:=zmK h hd hp;unfold zaQ;rw[zF];intro e he;obtain⟨n,hn,rfl⟩:=Xy.1 he;rw[Xu]at hn;have hf:zD { s0 with tb:=jV f } n=f n:=by
   unfold zD;exact zg9 (fun n hn=>h.en a2 hn) hn
  rw[hf]
  rcases h.ent p s0 f a1 a2 n hn with h2|h2
  ·rw[h2,kE (show en0.kind=0 from rfl)]
  rw[kF h2.2.1];exact h2.2.2
 ·rw[zF];intro e he;obtain⟨k,hk,rfl⟩:=Xy.1 he;rw[Xu]at hk;have hk':k<m.fs.length:=hk;have hf:=h.cf k _ (gE hk');unfold frE;rw[zhC h hd];have e1:z8 (jO m T hd) k=m.fs[k]:=by
   show m.fs.getD (k:Int).toNat frF=_
   rw[tN,gD,gE hk'];rfl
  rw[e1,kF];rintro(h2|⟨h2,h3⟩)
  ·exact h2 hf.1
  exact hf.2 h2 h3
 rw[zF];intro e he;obtain⟨k,hk,rfl⟩:=Xy.1 he;rw[Xu]at hk;have hk':k<m.sl.length:=hk;have hs:=h.cs k _ (gE hk');unfold zgh;rw[zhC h hd];have e1:(jO m T hd).sl.getD k 0=m.sl[k]:=by
  show m.sl.getD k 0=_
  rw[gD,gE hk'];rfl
 rw[e1,kF (fun h2=>h2 hs)]
def J9 (m:Ma):List (Nat->En):=m.sp.map zD
theorem zbW {m:Ma} (h:maW m=0):qV m (J9 m)/\0<=m.hand/\m.hand<max (m.fs.length:Int) 1:=by
 unfold maW at h;rw[zF]at h;have h1:zbr m=0:=h _ (by simp)
 have h2:zbF m Xb m.ca=0:=h _ (by simp)
 have h3:=zF.1 (h (zu (m.sp.map (zaQ m))) (by simp))
 have h4:=zF.1 (h (zu ((Ya m.fs.length).map (frE m))) (by simp))
 have h5:=zF.1 (h (zu ((Ya m.sl.length).map (zgh m))) (by simp))
 unfold zbr at h1;rw[zF]at h1;have p1:ZR m.fs m.hand=0:=h1 _ (by simp)
 have p2:slW m.sl=0:=h1 _ (by simp)
 have p3:zJ m.sb.length m.sq=0:=h1 _ (by simp)
 have p4:zJ m.db.length m.dq=0:=h1 _ (by simp)
 have p5:stW m.fl m.cnt=0:=h1 _ (by simp)
 have p6:zi8 m=0:=h1 _ (by simp)
 have p7:Jp m=0:=h1 _ (by simp)
 have p8:Q8 m=0:=h1 _ (by simp)
 have p9:(if 4<m.sp.length then(4:Int)else 0)=0:=h1 _ (by simp)
 have p10:=zF.1 (h1 (zu (m.sp.map spE)) (by simp))
 have m1:m.fs.length<=40/\zfp m.fs=0/\0<=m.hand/\m.hand<max (m.fs.length:Int) 1:=by
  unfold ZR at p1
  split at p1
  ·cases p1
  split at p1
  ·rename_i a b
   split at p1
   ·rename_i c
    unfold inB at c
    simp at c
    exact⟨by omega,b,by omega,by omega⟩
   cases p1
  rename_i a b
  exact absurd p1 b
 have s1:m.sl.length<=60:=by
  unfold slW at p2
  split at p2
  ·cases p2
  omega
 have f1:m.sl.length=m.sb.length/\m.cnt=(m.db.length:Int):=by
  unfold zi8 at p6
  split at p6
  ·cases p6
  rename_i a
  constructor
  ·exact Classical.byContradiction fun h=>a (.inl h)
  exact Classical.byContradiction fun h=>a (.inr h)
 refine⟨⟨m1.1,fun f hf=>?_,s1,f1.1.symm,p3,p4,p5,f1.2,fun b hb hu=>?_,fun q hq=>?_,?_,fun s hs=>?_,by simp[J9],h2,fun p s f hs hT n hn=>?_,fun k f hk=>?_,fun k z hk=>?_⟩,m1.2.2.1,m1.2.2.2⟩
 ·have hw:=zaB.1 m1.2.1 f hf;unfold frW at hw
  split at hw
  ·cases hw
  rename_i a1
  split at hw
  ·cases hw
  rename_i a2
  split at hw
  ·cases hw
  rename_i a3
  have b1:inB f.r 1001=Xc/\inB f.x 12=Xc:=by
   cases e1:inB f.r 1001 <;> cases e2:inB f.x 12 <;> simp[e1,e2]at a1⊢
  have b2:f.f=-1\/inB f.f 5=Xc:=by
   by_cases e:f.f=-1
   ·exact .inl e
   right
   cases e2:inB f.f 5 with
   | true=>rfl
   | false=>simp[e,e2]at a2
  have b3:(f.r=0->f=frF)/\(f.f=-1->f.x=0):=by
   constructor
   ·intro e
    cases e2:zaF f frF with
    | true=>exact(zcs f frF).1 e2
    | false=>simp[e,e2]at a3
   intro e
   by_cases e2:f.x=0
   ·exact e2
   simp[e,e2]at a3
  unfold inB at b1 b2
  simp at b1 b2
  exact⟨by omega,by omega,by omega,b3.1,b3.2⟩
 ·unfold Jp at p7
  split at p7
  ·cases p7
  rename_i a
  have:¬(!zV m.fl (b:Int) && !(m.db.getD b [] == zx))=Xc:=fun h=>a (Yc.2 ⟨b,Xu.2 hb,h⟩)
  rw[hu,gD,gE hb]at this;rw[gE hb]
  simp at this
  rw[this]
 ·unfold Q8 at p8
  split at p8
  ·cases p8
  rename_i a
  cases e:zV m.fl q.1 with
  | true=>rfl
  | false=>exact absurd (Yc.2 ⟨q,hq,by simp[e]⟩) a
 ·split at p9
  ·cases p9
  omega
 ·have hs0:=p10 (spE s) (Xy.2 ⟨s,hs,rfl⟩);unfold spE at hs0
  split at hs0
  ·rename_i a;exact absurd hs0 a
  rename_i a
  split at hs0
  ·rename_i b;exact absurd hs0 b
  split at hs0
  ·cases hs0
  rename_i c
  refine⟨by simpa using a,fun hl=>?_⟩
  rw[hl]at c
  cases e:s.ars with
  | nil=>rfl
  | cons x y=>rw[e]at c;simp at c
 ·unfold J9 at hT;rw[Xz,hs]at hT;cases hT;have hmem:=mG hs;have hs0:=p10 (spE s) (Xy.2 ⟨s,hmem,rfl⟩);have htb:tbW s.tb=0:=by
   unfold spE at hs0
   split at hs0
   ·rename_i a;exact absurd hs0 a
   split at hs0
   ·rename_i b;exact absurd hs0 b
   rename_i b;simpa using b
  have hen:enW (zD s n)=0:=by
   unfold zD zdo;have hall:=QB.1 htb;have:zg4 (s.tb[n / 8]?.getD []):=by
    cases e:s.tb[n / 8]? with
    | none=>exact .inl rfl
    | some x=>exact hall x (mG e)
   exact this.get (n % 8)
  have h6:=zF.1 (h3 (zaQ m s) (Xy.2 ⟨s,hmem,rfl⟩)) _ (Xy.2 ⟨n,Xu.2 hn,rfl⟩)
  by_cases hk:(zD s n).kind=0
  ·left;exact zkA hen (by simp[enS,hk])
  right;rw[kF hk]at h6;exact⟨hen,hk,h6⟩
 ·have hkl:=(gS.1 hk).1;have:=h4 (frE m k) (Xy.2 ⟨k,Xu.2 hkl,rfl⟩);unfold frE at this;have e1:z8 m k=f:=by unfold z8;rw[tN,gD,hk];rfl
  rw[e1]at this
  split at this
  ·cases this
  rename_i a
  refine⟨Classical.byContradiction fun h=>a (.inl h),fun h1 h2=>a (.inr ⟨h1,h2⟩)⟩
 have hkl:=(gS.1 hk).1;have:=h5 (zgh m k) (Xy.2 ⟨k,Xu.2 hkl,rfl⟩);unfold zgh at this;rw[gD,hk]at this
 split at this
 ·cases this
 rename_i a
 exact Classical.byContradiction fun h=>a h
end
section
variable{m:Ma} {T:List (Nat->En)}
theorem jL {m:Ma} {k:Nat} {f:Fr} (h:m.fs[k]? =Xa f):z8 m (k:Int)=f:=by
 unfold z8;rw[tN,gD,h];rfl
theorem jw {m:Ma} {k:Nat} {f:Fr} (hk:k<m.fs.length) (z:Int) (hz:0<=z):z8 { m with fs:=m.fs.set k f } z=if z=(k:Int)then f else z8 m z:=by
 unfold z8;simp only[gD]
 by_cases e:z=(k:Int)
 ·subst e;rw[kE rfl,tN,sF hk];rfl
 rw[kF e,sN (by omega)]
theorem Zm {m:Ma} {x:On} {e:En} (h:zc2 m x e=0) (hs:m'.sl.length=m.sl.length) (hf:m'.fs.length=m.fs.length) (h1:e.kind≠2->(z8 m' e.n).f=(z8 m e.n).f/\(z8 m' e.n).x=(z8 m e.n).x/\(e.wr=Xc->(z8 m e.n).f=-1->(z8 m' e.n).r<=1)):zc2 m' x e=0:=by
 unfold zc2 at h⊢;rw[hs,hf]
 by_cases h0:x.is=Xd
 ·rw[kE h0]at h;cases h
 rw[kF h0]at h⊢
 by_cases h2:e.kind=2
 ·rw[kE h2]at h⊢;exact h
 rw[kF h2]at h⊢;obtain⟨g1,g2,g3⟩:=h1 h2
 by_cases h3:(m.fs.length:Int)<=e.n
 ·rw[kE h3]at h;cases h
 rw[kF h3]at h⊢;rw[g1,g2]
 split at h
 ·cases h
 rename_i hn
 rw[kF];rintro(h4|h4|h4|h4|h4)
 ·exact hn (.inl h4)
 ·exact hn (.inr (.inl h4))
 ·exact hn (.inr (.inr (.inl h4)))
 ·exact hn (.inr (.inr (.inr (.inl h4))))
 have:=g3 h4.1 h4.2.1;omega
theorem qo {m:Ma} {x:On} {e:En} (h:za9 m x e) (hk:e.kind≠2):e.kind=1/\0<=e.n/\e.n<m.fs.length/\(e.wr=Xc->(z8 m e.n).f=-1->(z8 m e.n).r<=1):=by
 obtain⟨h1,h2,h3⟩:=h;obtain⟨a1,a2,_⟩:=zaG h1;unfold zc2 at h3
 by_cases h0:x.is=Xd
 ·rw[kE h0]at h3;cases h3
 rw[kF h0,kF hk]at h3
 by_cases h4:(m.fs.length:Int)<=e.n
 ·rw[kE h4]at h3;cases h3
 rw[kF h4]at h3
 split at h3
 ·cases h3
 rename_i hn
 refine⟨by omega,by omega,by omega,fun g1 g2=>?_⟩
 have:¬1< (z8 m e.n).r:=fun h=>hn (.inr (.inr (.inr (.inr ⟨g1,g2,h⟩))))
 omega
theorem zeg {T:List (Nat->En)} {p:Nat} {f:Nat->En} (hT:T[p]? =Xa f) {n:Nat} (hn:n<64) (hk:(f n).kind=1):1<=ju T 1 (f n).n:=zed hT hn (by simp[isE,hk]) (by decide)
theorem qV.free (h:qV m T) {f:Fr} (hf:m.fs[j]? =Xa f) (h0:f.r=0):ju T 1 j=0/\qk m.ca j=0:=by
 have:=(h.cf j f hf).1;rw[h0]at this;omega
def Zt (ca:List Ca) (c:Ca):List Ca:=ca.takeWhile (fun d=>decide (qm d<qm c))++c :: ca.dropWhile (fun d=>decide (qm d<qm c))
theorem zio (ca:List Ca) (c:Ca) (k:Int):qk (Zt ca c) k=qk ca k+(if c.fr=k then 1 else 0):=by
 unfold Zt qk;have h:=List.takeWhile_append_dropWhile (p:=fun d=>decide (qm d<qm c)) (l:=ca)
 rw[Yd,List.countP_cons]
 conv=>rhs;rw[<-h,Yd]
 by_cases e:c.fr=k
 ·simp[e];omega
 simp[e]
theorem zj3 {ca:List Ca} {c d:Ca} (h:d∈Zt ca c):d=c\/d∈ca:=by
 unfold Zt at h;rw[Xt,mC]at h
 rcases h with h|h|h
 ·exact .inr ((List.takeWhile_sublist _).subset h)
 ·exact .inl h
 exact .inr ((List.dropWhile_sublist _).subset h)
theorem zdl {c:Ca}:∀{ca:List Ca},ca.Pairwise (fun a b=>qm a<qm b)->(∀d∈ca,qm d≠qm c)->(Zt ca c).Pairwise (fun a b=>qm a<qm b)
 | [],_,_=>by simp[Zt]
 | d :: ca,h,hne=>by
  obtain⟨h1,h2⟩:=Yb.1 h
  by_cases hd:qm d<qm c
  ·have e:Zt (d :: ca) c=d :: Zt ca c:=by
    unfold Zt;rw[Ob,Oc,kE (by simpa using hd),kE (by simpa using hd)]
    rfl
   rw[e];refine Yb.2 ⟨fun x hx=>?_,zdl h2 fun x hx=>hne x (by simp[hx])⟩
   rcases zj3 hx with rfl|hx
   ·exact hd
   exact h1 x hx
  have e:Zt (d :: ca) c=c :: d :: ca:=by
   unfold Zt;rw[Ob,Oc,kF (by simpa using hd),kF (by simpa using hd)]
   rfl
  rw[e];have:=hne d (by simp)
  refine Yb.2 ⟨fun x hx=>?_,h⟩
  rcases mC.1 hx with rfl|hx
  ·omega
  have:=h1 x hx;omega
theorem qV.pages (h:qV m T) {file:Int} (h0:0<=file) (h1:file<m.fl.length):bkN m file<=12/\file<5:=by
 obtain⟨⟨a1,a2,a3⟩,a4,a5⟩:=(qi m.fl m.cnt).1 h.st;have hlt:file.toNat<m.fl.length:=by omega
 have hok:=a4 _ (List.getElem_mem hlt);unfold bkN;rw[gD,gE hlt];simp only[Option.getD_some];obtain⟨b1,b2,b3⟩:=hok;unfold JK at b2
 split at b2 <;> omega
theorem qV.cache (h:qV m T) {f0:Fr} {p:Pg} {u d:Bool} {file idx:Int} (hj:m.fs[j]? =Xa f0) (h0:f0.r=0) (hf:0<=file/\file<m.fl.length) (hi:0<=idx/\idx<bkN m file) (hn:∀c∈m.ca,¬(c.file=file/\c.idx=idx)):
  qV { m with fs:=m.fs.set j ⟨p,1,u,d,file,idx⟩,ca:=Zt m.ca ⟨file,idx,j⟩ } T:=by
 have hjl:=(gS.1 hj).1;obtain⟨z1,z2⟩:=h.free hj h0;obtain⟨g1,g2⟩:=h.pages hf.1 hf.2;obtain⟨a1,a2,a3⟩:=zL.1 h.ca;have hcj:∀c∈m.ca,c.fr≠(j:Int):=fun c hc e=>by
  have:=za6 hc;rw[e]at this;exact this z2
 have hkey:∀c∈m.ca,qm c≠qm ⟨file,idx,j⟩:=fun c hc e=>by
  have h1:=(QX (a1 c hc)).1;have h2:=h.pages h1.1 h1.2.1;have:=hn c hc;unfold qm at e;simp only at e;omega
 refine⟨by simpa using h.fs40,fun f hf'=>?_,h.sl60,h.sbl,h.sq,h.dok,h.st,h.cnt,h.blk,h.que,h.spl,h.spok,h.tl,?_,fun q s f hs hT n hn'=>?_,fun k f hk=>?_,h.cs⟩
 ·rcases Xx hf' with hf' | rfl
  ·exact h.fok f hf'
  refine⟨by simp,by simp only;omega,.inr (by simp only;omega),fun h=>by simp at h,fun h=>by simp only at h;omega⟩
 ·refine zL.2 ⟨fun c hc=>?_,fun q c hq=>(by cases hq),zdl a3 hkey⟩
  rcases zj3 hc with rfl|hc
  ·refine zbj ⟨hf.1,hf.2,hi.1,hi.2,by simp,by simpa using hjl⟩ ?_ ?_ ?_ <;> rw[show z8 { m with fs:=m.fs.set j ⟨p,1,u,d,file,idx⟩,ca:=Zt m.ca ⟨file,idx,j⟩ } (⟨file,idx,(j:Int)⟩:Ca).fr=⟨p,1,u,d,file,idx⟩from by rw[show z8 { m with fs:=m.fs.set j ⟨p,1,u,d,file,idx⟩,ca:=Zt m.ca ⟨file,idx,j⟩ } (⟨file,idx,(j:Int)⟩:Ca).fr=z8 { m with fs:=m.fs.set j ⟨p,1,u,d,file,idx⟩ } (j:Int)from rfl,jw hjl _ (by omega),kE rfl]]
   simp
  obtain⟨b1,b2,b3,b4⟩:=QX (a1 c hc);have he:z8 { m with fs:=m.fs.set j ⟨p,1,u,d,file,idx⟩,ca:=Zt m.ca ⟨file,idx,j⟩ } c.fr=z8 m c.fr:=by
   rw[show z8 { m with fs:=m.fs.set j ⟨p,1,u,d,file,idx⟩,ca:=Zt m.ca ⟨file,idx,j⟩ } c.fr=z8 { m with fs:=m.fs.set j ⟨p,1,u,d,file,idx⟩ } c.fr from rfl,jw hjl _ b1.2.2.2.2.1,kF (hcj c hc)]
  exact zbj (by simpa [bkN]using b1) (by rw[he];exact b2) (by rw[he];exact b3) (by rw[he];exact b4)
 ·rcases h.ent q s f hs hT n hn' with e|e
  ·exact .inl e
  refine .inr ⟨e.1,e.2.1,Zm e.2.2 rfl (by simp) fun hk=>?_⟩
  obtain⟨c1,c2,c3,c4⟩:=qo e hk;have hne:(f n).n≠(j:Int):=fun e2=>by
   have:=zeg hT hn' c1;rw[e2]at this;omega
  have he:z8 { m with fs:=m.fs.set j ⟨p,1,u,d,file,idx⟩,ca:=Zt m.ca ⟨file,idx,j⟩ } (f n).n=z8 m (f n).n:=by
   rw[show z8 { m with fs:=m.fs.set j ⟨p,1,u,d,file,idx⟩,ca:=Zt m.ca ⟨file,idx,j⟩ } (f n).n=z8 { m with fs:=m.fs.set j ⟨p,1,u,d,file,idx⟩ } (f n).n from rfl,jw hjl _ c2,kF hne]
  rw[he];exact⟨rfl,rfl,c4⟩
 simp only at hk⊢;rw[zio]
 by_cases e:k=j
 ·subst e;rw[sF hjl]at hk;cases hk;refine⟨?_,fun _=>by simp⟩
  simp only[if_true];omega
 rw[sN (fun h=>e h.symm)]at hk
 have:=h.cf k f hk;rw[kF (by simp only;omega)]
 exact this
theorem za2 {T:List (Nat->En)} {p n:Nat} {f:Nat->En} {e:En} (hp:p<T.length) (hsp:m'.sp=m.sp) (hTp:T[p]? =Xa f)
  (hold:∀(q:Nat) s g,m.sp[q]? =Xa s->T[q]? =Xa g->∀j:Nat,j<64->(q≠p\/j≠n)->g j=en0\/za9 m' (zO s.ars j) (g j)) (hnew:∀s,m.sp[p]? =Xa s->za9 m' (zO s.ars n) e):
  ∀(q:Nat) s g,m'.sp[q]? =Xa s->(T.set p (qr f n e))[q]? =Xa g->∀j:Nat,j<64->g j=en0\/za9 m' (zO s.ars j) (g j):=by
 intro q s g hs hg j hj;rw[hsp]at hs
 by_cases eq:q=p
 ·subst eq;rw[sF hp]at hg;cases hg;unfold qr
  by_cases ej:j=n
  ·subst ej;rw[kE rfl];exact .inr (hnew s hs)
  rw[kF ej];exact hold q s f hs hTp j hj (.inr ej)
 rw[sN (fun h=>eq h.symm)]at hg
 exact hold q s g hs hg j hj (.inl eq)
theorem zd6 (k:Int) (kind:Int) (w:Bool):isE ⟨kind,k,w⟩ kind k=Xc:=by simp[isE]
theorem zaz {kind k:Int} {e:En} (h:e.kind≠kind):isE e kind k=Xd:=by simp[isE,h]
theorem Je {kind k:Int} {e:En} (h:e.n≠k):isE e kind k=Xd:=by simp[isE,h]
theorem qV.hold (h:qV m T) {k p n:Nat} {fr:Fr} {f:Nat->En} {s:Sp} {w:Bool} (hk:m.fs[k]? =Xa fr) (hff:0<=fr.f) (hs:m.sp[p]? =Xa s) (hT:T[p]? =Xa f) (hn:n<64) (h0:f n=en0)
  (hx:(zO s.ars n).is=Xc) (hxf:(zO s.ars n).file=fr.f) (hxp:(zO s.ars n).page=fr.x) (hw:w=Xc->(zO s.ars n).sh=Xc/\(zO s.ars n).wr=Xc):
  qV { m with fs:=m.fs.set k { fr with r:=fr.r+1 } } (T.set p (qr f n ⟨1,k,w⟩)):=by
 have hkl:=(gS.1 hk).1;have hpl:=(gS.1 hT).1;have hsh:=h.fok fr (mG hk);have hfa:∀z:Int,0<=z->(z8 { m with fs:=m.fs.set k { fr with r:=fr.r+1 } } z).f=(z8 m z).f/\(z8 { m with fs:=m.fs.set k { fr with r:=fr.r+1 } } z).x=(z8 m z).x/\((z8 m z).f=-1->(z8 { m with fs:=m.fs.set k { fr with r:=fr.r+1 } } z).r=(z8 m z).r):=fun z hz=>by
  rw[jw hkl z hz]
  by_cases e:z=(k:Int)
  ·subst e;rw[kE rfl,jL hk];exact⟨rfl,rfl,fun h=>by omega⟩
  rw[kF e];exact⟨rfl,rfl,fun _=>rfl⟩
 have hup:∀kind j:Int,ju (T.set p (qr f n ⟨1,k,w⟩)) kind j+(isE en0 kind j).toNat=ju T kind j+(isE ⟨1,k,w⟩ kind j).toNat:=fun kind j=>by
  have:=ZA ⟨1,k,w⟩ kind j hT hn;rw[h0]at this;exact this
 refine⟨by simpa using h.fs40,fun g hg=>?_,h.sl60,h.sbl,h.sq,h.dok,h.st,h.cnt,h.blk,h.que,h.spl,h.spok,by simpa using h.tl,?_,?_,fun j g hj=>?_,fun j z hj=>?_⟩
 ·rcases Xx hg with hg|rfl
  ·exact h.fok g hg
  obtain⟨c1,c2,c3,c4,c5⟩:=hsh;exact⟨by simp only;omega,c2,c3,fun h=>by simp only at h;omega,c5⟩
 ·obtain⟨a1,a2,a3⟩:=zL.1 h.ca;refine zL.2 ⟨fun c hc=>?_,fun q c hq=>(by cases hq),a3⟩
  obtain⟨b1,b2,b3,b4⟩:=QX (a1 c hc);obtain⟨e1,e2,e3⟩:=hfa c.fr b1.2.2.2.2.1;refine zbj (by simpa [bkN]using b1) ?_ (by rw[e1];exact b3) (by rw[e2];exact b4)
  rw[jw hkl _ b1.2.2.2.2.1]
  by_cases e:c.fr=(k:Int)
  ·rw[kE e];have:=hsh.1;simp only;omega
  rw[kF e];exact b2
 ·refine za2 hpl rfl hT (fun q s g hs hg j hj hne=>?_) (fun s' hs'=>?_)
  ·rcases h.ent q s g hs hg j hj with e|e
   ·exact .inl e
   refine .inr ⟨e.1,e.2.1,Zm e.2.2 rfl (by simp) fun hk2=>?_⟩
   obtain⟨c1,c2,c3,c4⟩:=qo e hk2;obtain⟨e1,e2,e3⟩:=hfa (g j).n c2;exact⟨e1,e2,fun g1 g2=>by rw[e3 g2];exact c4 g1 g2⟩
  rw[hs]at hs';cases hs';refine⟨zbg (by simp) ⟨by simp,by simp only;have:=h.fs40;omega,fun _=>by simp only;have:=h.fs40;omega⟩ (by simp),by simp,?_⟩
  have ef:z8 { m with fs:=m.fs.set k { fr with r:=fr.r+1 } } ((k:Nat):Int)={ fr with r:=fr.r+1 }:=by rw[jw hkl _ (by omega),kE rfl]
  unfold zc2;simp only;rw[kF (by rw[hx];decide),kF (by decide),kF (by simp;omega),ef,kF]
  simp only;rintro(h4|h4|h4|h4|h4)
  ·exact h4.2 ⟨by omega,hxf.symm,hxp.symm⟩
  ·exact h4.2 ⟨by omega,hxf.symm,hxp.symm⟩
  ·rw[(hw h4.1).2]at h4;cases h4.2
  ·rw[(hw h4.1).1]at h4;cases h4.2.2
  omega
 ·simp only at hj⊢;have hu:=hup 1 j;rw[jH 1 j (by decide)]at hu
  by_cases e:j=k
  ·subst e;rw[sF hkl]at hj;cases hj;rw[zd6]at hu;have:=h.cf j fr hk;refine⟨?_,this.2⟩
   simp at hu
   simp only;omega
  rw[sN (fun h=>e h.symm)]at hj
  rw[Je (e:=⟨1,(k:Int),w⟩) (by simp only;omega)]at hu
  have:=h.cf j g hj;refine⟨?_,this.2⟩
  simp at hu
  omega
 simp only at hj⊢;have hu:=hup 2 j;rw[jH 2 j (by decide),zaz (e:=⟨1,(k:Int),w⟩) (by simp)]at hu
 have:=h.cs j z hj
 simp at hu
 omega
theorem qV.mine (h:qV m T) {p n:Nat} {f0:Fr} {pg:Pg} {u w:Bool} {f:Nat->En} {s:Sp} (hj:m.fs[j]? =Xa f0) (hr:f0.r=0) (hs:m.sp[p]? =Xa s) (hT:T[p]? =Xa f) (hn:n<64) (h0:f n=en0)
  (hx:(zO s.ars n).is=Xc) (hsh:(zO s.ars n).sh=Xd) (hw:w=Xc->(zO s.ars n).wr=Xc):
  qV { m with fs:=m.fs.set j ⟨pg,1,u,Xd,-1,0⟩ } (T.set p (qr f n ⟨1,j,w⟩)):=by
 have hjl:=(gS.1 hj).1;have hpl:=(gS.1 hT).1;obtain⟨z1,z2⟩:=h.free hj hr;have hup:∀kind k:Int,ju (T.set p (qr f n ⟨1,j,w⟩)) kind k+(isE en0 kind k).toNat=ju T kind k+(isE ⟨1,j,w⟩ kind k).toNat:=fun kind k=>by
  have:=ZA ⟨1,j,w⟩ kind k hT hn;rw[h0]at this;exact this
 refine⟨by simpa using h.fs40,fun g hg=>?_,h.sl60,h.sbl,h.sq,h.dok,h.st,h.cnt,h.blk,h.que,h.spl,h.spok,by simpa using h.tl,?_,?_,fun k g hk=>?_,fun k z hk=>?_⟩
 ·rcases Xx hg with hg|rfl
  ·exact h.fok g hg
  exact⟨by simp,by simp,.inl rfl,fun h=>by simp at h,fun _=>rfl⟩
 ·obtain⟨a1,a2,a3⟩:=zL.1 h.ca;refine zL.2 ⟨fun c hc=>?_,fun q c hq=>(by cases hq),a3⟩
  obtain⟨b1,b2,b3,b4⟩:=QX (a1 c hc);have hne:c.fr≠(j:Int):=fun e=>by
   have:=za6 hc;rw[e]at this;exact this z2
  have he:z8 { m with fs:=m.fs.set j ⟨pg,1,u,Xd,-1,0⟩ } c.fr=z8 m c.fr:=by rw[jw hjl _ b1.2.2.2.2.1,kF hne]
  exact zbj (by simpa [bkN]using b1) (by rw[he];exact b2) (by rw[he];exact b3) (by rw[he];exact b4)
 ·refine za2 hpl rfl hT (fun q s g hs hg i hi hne=>?_) (fun s' hs'=>?_)
  ·rcases h.ent q s g hs hg i hi with e|e
   ·exact .inl e
   refine .inr ⟨e.1,e.2.1,Zm e.2.2 rfl (by simp) fun hk2=>?_⟩
   obtain⟨c1,c2,c3,c4⟩:=qo e hk2;have hne:(g i).n≠(j:Int):=fun e2=>by
    have:=zeg hg hi c1;rw[e2]at this;omega
   rw[jw hjl _ c2,kF hne];exact⟨rfl,rfl,c4⟩
  rw[hs]at hs';cases hs';refine⟨zbg (by simp) ⟨by simp,by simp only;have:=h.fs40;omega,fun _=>by simp only;have:=h.fs40;omega⟩ (by simp),by simp,?_⟩
  have ef:z8 { m with fs:=m.fs.set j ⟨pg,1,u,Xd,-1,0⟩ } ((j:Nat):Int)=⟨pg,1,u,Xd,-1,0⟩:=by rw[jw hjl _ (by omega),kE rfl]
  unfold zc2;simp only;rw[kF (by rw[hx];decide),kF (by decide),kF (by simp;omega),ef,kF]
  simp only;rintro(h4|h4|h4|h4|h4)
  ·exact h4.1 trivial
  ·rw[hsh]at h4;cases h4.1
  ·rw[hw h4.1]at h4;cases h4.2
  ·omega
  omega
 ·simp only at hk⊢;have hu:=hup 1 k;rw[jH 1 k (by decide)]at hu
  by_cases e:k=j
  ·subst e;rw[sF hjl]at hk;cases hk;rw[zd6]at hu;refine⟨?_,fun h=>by simp at h⟩
   simp at hu
   simp only;omega
  rw[sN (fun h=>e h.symm)]at hk
  rw[Je (e:=⟨1,(j:Int),w⟩) (by simp only;omega)]at hu
  have:=h.cf k g hk;refine⟨?_,this.2⟩
  simp at hu
  omega
 simp only at hk⊢;have hu:=hup 2 k;rw[jH 2 k (by decide),zaz (e:=⟨1,(j:Int),w⟩) (by simp)]at hu
 have:=h.cs k z hk
 simp at hu
 omega
theorem qV.swap (h:qV m T) {p n:Nat} {b:List Int} {f:Nat->En} {s:Sp} (hj:m.sl[j]? =Xa 0) (hs:m.sp[p]? =Xa s) (hT:T[p]? =Xa f) (hn:n<64) (h0:f n=en0)
  (hx:(zO s.ars n).is=Xc) (hsh:(zO s.ars n).sh=Xd):
  qV { m with sl:=m.sl.set j 1,sb:=m.sb.set j b } (T.set p (qr f n ⟨2,j,Xd⟩)):=by
 have hjl:=(gS.1 hj).1;have hpl:=(gS.1 hT).1;have hup:∀kind k:Int,ju (T.set p (qr f n ⟨2,j,Xd⟩)) kind k+(isE en0 kind k).toNat=ju T kind k+(isE ⟨2,j,Xd⟩ kind k).toNat:=fun kind k=>by
  have:=ZA ⟨2,j,Xd⟩ kind k hT hn;rw[h0]at this;exact this
 refine⟨h.fs40,h.fok,by simpa using h.sl60,by simpa using h.sbl,by simpa using h.sq,h.dok,h.st,h.cnt,h.blk,h.que,h.spl,h.spok,by simpa using h.tl,?_,?_,fun k g hk=>?_,fun k z hk=>?_⟩
 ·obtain⟨a1,a2,a3⟩:=zL.1 h.ca;exact zL.2 ⟨fun c hc=>a1 c hc,fun q c hq=>(by cases hq),a3⟩
 ·refine za2 hpl rfl hT (fun q s g hs hg i hi hne=>?_) (fun s' hs'=>?_)
  ·rcases h.ent q s g hs hg i hi with e|e
   ·exact .inl e
   refine .inr ⟨e.1,e.2.1,Zm e.2.2 (by simp) rfl fun hk2=>?_⟩
   obtain⟨c1,c2,c3,c4⟩:=qo e hk2;exact⟨rfl,rfl,c4⟩
  rw[hs]at hs';cases hs';refine⟨zbg (by simp) ⟨by simp,by simp only;have:=h.sl60;omega,fun h=>by simp at h⟩ (by simp),by simp,?_⟩
  unfold zc2;simp only;rw[kF (by rw[hx];decide),kE trivial,kF]
  rintro(h4|h4)
  ·simp at h4;omega
  rw[hsh]at h4;cases h4
 ·have hu:=hup 1 k;rw[jH 1 k (by decide),zaz (e:=⟨2,(j:Int),Xd⟩) (by simp)]at hu
  have:=h.cf k g hk;refine⟨?_,this.2⟩;simp only at this⊢
  simp at hu
  omega
 simp only at hk⊢;have hu:=hup 2 k;rw[jH 2 k (by decide)]at hu
 by_cases e:k=j
 ·subst e;rw[sF hjl]at hk;cases hk;rw[zd6]at hu;have:=h.cs k 0 hj
  simp at hu
  omega
 rw[sN (fun h=>e h.symm)]at hk
 rw[Je (e:=⟨2,(j:Int),Xd⟩) (by simp only;omega)]at hu
 have:=h.cs k z hk
 simp at hu
 omega
theorem qV.space (h:qV m T) (hl:(wrL l).1=0) (h4:m.sp.length<4):qV { m with sp:=m.sp++ [⟨Xc,l,qL⟩] } (T++ [fun _=>en0]):=by
 refine⟨h.fs40,h.fok,h.sl60,h.sbl,h.sq,h.dok,h.st,h.cnt,h.blk,h.que,by simp;omega,fun s hs=>?_,by simpa using h.tl,?_,fun p s f hs hT n hn=>?_,fun k f hk=>?_,fun k z hk=>?_⟩
 ·rcases Xt.1 hs with hs|hs
  ·exact h.spok s hs
  rw[Od]at hs;subst hs;exact⟨hl,fun h=>by cases h⟩
 ·obtain⟨a1,a2,a3⟩:=zL.1 h.ca;exact zL.2 ⟨fun c hc=>a1 c hc,fun q c hq=>(by cases hq),a3⟩
 ·have hp:p<m.sp.length+1:=by
   have:=(gS.1 hs).1
   simpa using this
  by_cases e:p<m.sp.length
  ·rw[Yn e]at hs;rw[Yn (by rw[h.tl];exact e)]at hT
   exact h.ent p s f hs hT n hn
  have:p=T.length:=by rw[h.tl];omega
  subst this;rw[aR (nR _),Nat.sub_self]at hT;cases hT;exact .inl rfl
 ·rw[zfo _ _ _ (by decide)]
  exact h.cf k f hk
 rw[zfo _ _ _ (by decide)]
 exact h.cs k z hk
end
section
variable{m:Ma} {T:List (Nat->En)}
theorem zlV {e e':En} (h1:e'.kind=e.kind) (h2:e'.n=e.n) (kind k:Int):isE e' kind k=isE e kind k:=by unfold isE;rw[h1,h2]
theorem zj4 {p n:Nat} {f:Nat->En} {e':En} (hT:T[p]? =Xa f) (hn:n<64) (h1:e'.kind=(f n).kind) (h2:e'.n=(f n).n) (kind k:Int):ju (T.set p (qr f n e')) kind k=ju T kind k:=by
 have:=ZA e' kind k hT hn;rw[zlV h1 h2]at this;omega
theorem qV.guard (h:qV m T) {p n:Nat} {f:Nat->En} (hT:T[p]? =Xa f) (hn:n<64) (h0:f n≠en0):qV m (T.set p (qr f n { f n with wr:=false })):=by
 have hpl:=(gS.1 hT).1;have hh:=zj4 (e':={ f n with wr:=false }) hT hn rfl rfl;refine⟨h.fs40,h.fok,h.sl60,h.sbl,h.sq,h.dok,h.st,h.cnt,h.blk,h.que,h.spl,h.spok,by simpa using h.tl,h.ca,?_,fun k g hk=>?_,fun k z hk=>?_⟩
 ·refine za2 hpl rfl hT (fun q s g hs hg j hj _=>h.ent q s g hs hg j hj) (fun s hs=>?_)
  rcases h.ent p s f hs hT n hn with e|e
  ·exact absurd e h0
  obtain⟨e1,e2,e3⟩:=e;obtain⟨a1,a2,a3⟩:=zaG e1;refine⟨zbg a1 a2 ?_,e2,?_⟩
  ·rintro(⟨g1,g2⟩|⟨g1,g2⟩)
   ·exact e2 g1
   simp at g2
  unfold zc2 at e3⊢;simp only at e3⊢
  by_cases c0:(zO s.ars n).is=Xd
  ·rw[kE c0]at e3;cases e3
  rw[kF c0]at e3⊢
  by_cases c1:(f n).kind=2
  ·rw[kE c1]at e3⊢;exact e3
  rw[kF c1]at e3⊢
  by_cases c2:(m.fs.length:Int)<=(f n).n
  ·rw[kE c2]at e3;cases e3
  rw[kF c2]at e3⊢
  split at e3
  ·cases e3
  rename_i hx
  rw[kF];rintro(h4|h4|h4|h4|h4)
  ·exact hx (.inl h4)
  ·exact hx (.inr (.inl h4))
  ·simp at h4
  ·simp at h4
  simp at h4
 ·rw[hh];exact h.cf k g hk
 rw[hh];exact h.cs k z hk
theorem qV.share (h:qV m T) {p q n k:Nat} {fr:Fr} {f g:Nat->En} {s:Sp} {e:En} (hk:m.fs[k]? =Xa fr) (hp:T[p]? =Xa f) (hpn:f n=e) (hq:T[q]? =Xa g) (hpq:p≠q) (hn:n<64) (h0:g n=en0) (hs:m.sp[q]? =Xa s)
  (he:za9 m (zO s.ars n) e) (hek:e.kind=1) (hen:e.n=(k:Int)) (hnm:e.wr=Xc->fr.f≠-1):
  qV { m with fs:=m.fs.set k { fr with r:=fr.r+1 } } (T.set q (qr g n e)):=by
 have hkl:=(gS.1 hk).1;have hql:=(gS.1 hq).1;have hsh:=h.fok fr (mG hk);have hpos:1<=ju T 1 k:=by
  have:=zeg hp hn (by rw[hpn];exact hek)
  rw[hpn,hen]at this;exact this
 have hfr:=h.cf k fr hk;have hup:∀kind j:Int,ju (T.set q (qr g n e)) kind j+(isE en0 kind j).toNat=ju T kind j+(isE e kind j).toNat:=fun kind j=>by
  have:=ZA e kind j hq hn;rw[h0]at this;exact this
 refine⟨by simpa using h.fs40,fun x hx=>?_,h.sl60,h.sbl,h.sq,h.dok,h.st,h.cnt,h.blk,h.que,h.spl,h.spok,by simpa using h.tl,?_,?_,fun j x hj=>?_,fun j z hj=>?_⟩
 ·rcases Xx hx with hx|rfl
  ·exact h.fok x hx
  obtain⟨c1,c2,c3,c4,c5⟩:=hsh;exact⟨by simp only;omega,c2,c3,fun h=>by simp only at h;omega,c5⟩
 ·obtain⟨a1,a2,a3⟩:=zL.1 h.ca;refine zL.2 ⟨fun c hc=>?_,fun q c hq=>(by cases hq),a3⟩
  obtain⟨b1,b2,b3,b4⟩:=QX (a1 c hc);have hf:=jw (f:={ fr with r:=fr.r+1 }) hkl c.fr b1.2.2.2.2.1
  by_cases ec:c.fr=(k:Int)
  ·rw[kE ec]at hf;rw[ec,jL hk]at b2 b3 b4;refine zbj (by simpa [bkN]using b1) ?_ ?_ ?_ <;> rw[hf]
   ·have:=hsh.1;simp only;omega
   ·exact b3
   exact b4
  rw[kF ec]at hf;exact zbj (by simpa [bkN]using b1) (by rw[hf];exact b2) (by rw[hf];exact b3) (by rw[hf];exact b4)
 ·have keep:∀(x:On) (e2:En),za9 m x e2->(e2.kind≠2->e2.n=(k:Int)->e2.wr=Xc->fr.f≠-1)->za9 { m with fs:=m.fs.set k { fr with r:=fr.r+1 } } x e2:=fun x e2 h2 hm=>by
   refine⟨h2.1,h2.2.1,Zm h2.2.2 rfl (by simp) fun hk2=>?_⟩
   obtain⟨c1,c2,c3,c4⟩:=qo h2 hk2;rw[jw hkl _ c2]
   by_cases ec:e2.n=(k:Int)
   ·rw[kE ec,ec,jL hk];exact⟨rfl,rfl,fun g1 g2=>absurd g2 (hm hk2 ec g1)⟩
   rw[kF ec];exact⟨rfl,rfl,c4⟩
  refine za2 hql rfl hq (fun q2 s2 g2 hs2 hg2 j hj hne=>?_) (fun s' hs'=>?_)
  ·rcases h.ent q2 s2 g2 hs2 hg2 j hj with e2|e2
   ·exact .inl e2
   refine .inr (keep _ _ e2 fun hk2 hz hw=>?_)
   obtain⟨c1,c2,c3,c4⟩:=qo e2 hk2
   by_cases same:q2=p/\j=n
   ·obtain⟨rfl,rfl⟩:=same;rw[hp]at hg2;cases hg2;rw[hpn]at hw;exact hnm hw
   intro hf1;have h2:=zlW hp hn (kind:=1) (k:=(k:Int)) (by rw[hpn];simp[isE,hek,hen]) hg2 hj (by simp[isE,c1,hz]) (by
    by_cases e3:p=q2
    ·right;intro e4;exact same ⟨e3.symm,e4.symm⟩
    exact .inl e3) (by decide)
   have h3:=c4 hw (by rw[hz,jL hk];exact hf1)
   rw[hz,jL hk]at h3;omega
  rw[hs]at hs';cases hs';exact keep _ _ he fun _ _ hw=>hnm hw
 ·simp only at hj⊢;have hu:=hup 1 j;rw[jH 1 j (by decide)]at hu
  by_cases ej:j=k
  ·subst ej;rw[sF hkl]at hj;cases hj;have:isE e 1 (j:Int)=Xc:=by simp[isE,hek,hen]
   rw[this]at hu;refine⟨?_,hfr.2⟩
   simp at hu
   simp only;omega
  rw[sN (fun h=>ej h.symm)]at hj
  rw[Je (by rw[hen];omega)]at hu
  have:=h.cf j x hj;refine⟨?_,this.2⟩
  simp at hu
  omega
 simp only at hj⊢;have hu:=hup 2 j;rw[jH 2 j (by decide),zaz (by rw[hek];decide)]at hu
 have:=h.cs j z hj
 simp at hu
 omega
theorem qV.shareS (h:qV m T) {q n k:Nat} {g:Nat->En} {s:Sp} {e:En} (hk:m.sl[k]? =Xa z) (hq:T[q]? =Xa g) (hn:n<64) (h0:g n=en0) (hs:m.sp[q]? =Xa s)
  (he:za9 m (zO s.ars n) e) (hek:e.kind=2) (hen:e.n=(k:Int)):
  qV { m with sl:=m.sl.set k (z+1) } (T.set q (qr g n e)):=by
 have hkl:=(gS.1 hk).1;have hql:=(gS.1 hq).1;have hup:∀kind j:Int,ju (T.set q (qr g n e)) kind j+(isE en0 kind j).toNat=ju T kind j+(isE e kind j).toNat:=fun kind j=>by
  have:=ZA e kind j hq hn;rw[h0]at this;exact this
 refine⟨h.fs40,h.fok,by simpa using h.sl60,by simpa using h.sbl,h.sq,h.dok,h.st,h.cnt,h.blk,h.que,h.spl,h.spok,by simpa using h.tl,?_,?_,fun j x hj=>?_,fun j x hj=>?_⟩
 ·obtain⟨a1,a2,a3⟩:=zL.1 h.ca;exact zL.2 ⟨fun c hc=>a1 c hc,fun q c hq=>(by cases hq),a3⟩
 ·have keep:∀(x:On) (e2:En),za9 m x e2->za9 { m with sl:=m.sl.set k (z+1) } x e2:=fun x e2 h2=>by
   refine⟨h2.1,h2.2.1,Zm h2.2.2 (by simp) rfl fun hk2=>?_⟩
   obtain⟨c1,c2,c3,c4⟩:=qo h2 hk2;exact⟨rfl,rfl,c4⟩
  refine za2 hql rfl hq (fun q2 s2 g2 hs2 hg2 j hj hne=>(h.ent q2 s2 g2 hs2 hg2 j hj).imp id (keep _ _)) (fun s' hs'=>?_)
  rw[hs]at hs';cases hs';exact keep _ _ he
 ·have hu:=hup 1 j;rw[jH 1 j (by decide),zaz (by rw[hek];decide)]at hu
  have:=h.cf j x hj;refine⟨?_,this.2⟩;simp only at this⊢
  simp at hu
  omega
 simp only at hj⊢;have hu:=hup 2 j;rw[jH 2 j (by decide)]at hu
 by_cases ej:j=k
 ·subst ej;rw[sF hkl]at hj;cases hj;have:isE e 2 (j:Int)=Xc:=by simp[isE,hek,hen]
  rw[this]at hu;have:=h.cs j z hk
  simp at hu
  omega
 rw[sN (fun h=>ej h.symm)]at hj
 rw[Je (by rw[hen];omega)]at hu
 have:=h.cs j x hj
 simp at hu
 omega
end
structure zex (fl:List Fl) (cnt:Int) (db:List (List Int)) (dq:List (Int × List Int)) (bl:List Int):Prop where
 st:stW fl cnt=0
 cn:cnt=(db.length:Int)
 ql:dq.length<=(Zo fl).length+bl.length
 blok:∀b∈bl,b=-1\/(0<=b/\b<cnt)
 nod:(Zb (Zo fl++bl)).Nodup
 blk:∀b:Nat,b<db.length->zV fl (b:Int)=Xd->(b:Int)∉bl->db[b]? =Xa zx
 que:∀q∈dq,(0<=q.1/\q.1<cnt)/\(zV fl q.1=Xc\/q.1∈bl)
theorem zex.none {fl:List Fl} {cnt:Int} {db:List (List Int)} {dq:List (Int × List Int)} {bl:List Int} (h:zex fl cnt db dq bl):zex fl cnt db dq (bl++ [-1]):=by
 refine⟨h.st,h.cn,by have:=h.ql;simp;omega,fun b hb=>?_,?_,fun b hb hu hn=>h.blk b hb hu (fun h2=>hn (by simp[h2])),fun q hq=>⟨(h.que q hq).1,(h.que q hq).2.imp id (fun h=>by simp[h])⟩⟩
 ·rcases Xt.1 hb with hb|hb
  ·exact h.blok b hb
  left;simpa using hb
 have:Zb (Zo fl++(bl++ [-1]))=Zb (Zo fl++bl):=by simp[Zb]
 rw[this];exact h.nod
theorem zex.block {fl:List Fl} {cnt:Int} {db:List (List Int)} {dq:List (Int × List Int)} {bl:List Int} (h:zex fl cnt db dq bl) {p:List Int} {more:Bool} (hb:b<db.length) (hu:zV fl (b:Int)=Xd) (hn:(b:Int)∉bl):
  zex fl cnt (db.set b p) (if more then dq++ [((b:Int),p)]else dq) (bl++ [(b:Int)]):=by
 refine⟨h.st,by simpa using h.cn,?_,fun x hx=>?_,?_,fun x hx hux hnx=>?_,fun q hq=>?_⟩
 ·have:=h.ql
  cases more <;> simp <;> omega
 ·rcases Xt.1 hx with hx|hx
  ·exact h.blok x hx
  right;have:x=(b:Int):=by simpa using hx
  have:=h.cn;omega
 ·have e:Zb (Zo fl++(bl++ [(b:Int)]))=Zb (Zo fl++bl)++ [(b:Int)]:=by
   unfold Zb;rw[<-Yf,Yh]
   congr 1
  rw[e,Yj];refine⟨h.nod,by simp,fun x hx y hy=>?_⟩
  have hy':y=(b:Int):=by simpa using hy
  subst hy';intro exy;subst exy;unfold Zb at hx;rw[Yv,Xt]at hx
  rcases hx.1 with h1|h1
  ·rw[(ZX fl (b:Int)).2 h1]at hu;cases hu
  exact hn h1
 ·have hne:b≠x:=fun e=>hnx (by simp[e])
  rw[sN hne];exact h.blk x (by simpa using hx) hux (fun h2=>hnx (by simp[h2]))
 have old:q∈dq->(0<=q.1/\q.1<cnt)/\(zV fl q.1=Xc\/q.1∈bl++ [(b:Int)]):=fun hq=>⟨(h.que q hq).1,(h.que q hq).2.imp id (fun h=>by simp[h])⟩
 cases more with
 | false=>exact old (by simpa using hq)
 | true=>
  rw[kE rfl]at hq
  rcases Xt.1 hq with hq|hq
  ·exact old hq
  have:q=((b:Int),p):=by simpa using hq
  subst this;have:=h.cn;exact⟨by simp only;omega,.inr (by simp)⟩
theorem zex.file {fl:List Fl} {cnt:Int} {db:List (List Int)} {dq:List (Int × List Int)} {bl:List Int} (h:zex fl cnt db dq bl) {size:Int} (h5:fl.length<5) (hs:0<=size/\size<=96) (hl:(bl.length:Int)=JK size):zex (fl++ [⟨size,bl⟩]) cnt db dq []:=by
 have ha:Zo (fl++ [⟨size,bl⟩])=Zo fl++bl:=by simp[Zo]
 have hu:∀b,zV (fl++ [⟨size,bl⟩]) b=Xc↔zV fl b=Xc\/b∈bl:=fun b=>by rw[ZX,ha,Xt,<-ZX]
 obtain⟨⟨a1,a2,a3⟩,a4,a5⟩:=(qi fl cnt).1 h.st;refine⟨(qi _ _).2 ⟨⟨by simp;omega,a2,a3⟩,fun f hf=>?_,by rw[ha];exact h.nod⟩,h.cn,by rw[ha];simpa using h.ql,by simp,by rw[ha];simpa using h.nod,fun b hb hub _=>?_,fun q hq=>⟨(h.que q hq).1,.inl ((hu _).2 (h.que q hq).2)⟩⟩
 ·rcases Xt.1 hf with hf|hf
  ·exact a4 f hf
  rw[Od]at hf;subst hf;exact⟨hs,hl,h.blok⟩
 refine h.blk b hb ?_ ?_
 ·cases e:zV fl (b:Int)with
  | false=>rfl
  | true=>rw[(hu _).2 (.inl e)]at hub;cases hub
 intro e;rw[(hu _).2 (.inr e)]at hub;cases hub
theorem zex.zero {n:Nat} (h:n<=80):zex [] (n:Int) (Xs n zx) [] []:=by
 refine⟨(qi _ _).2 ⟨⟨by simp,by omega,by omega⟩,by simp,by simp[Zo,Zb]⟩,by simp,by simp,by simp,by simp[Zo,Zb],fun b hb _ _=>?_,by simp⟩
 rw[Yi,kE (by simpa using hb)]
theorem zev {cnt:Int}:∀{fl:List Fl},(∀f∈fl,znG cnt f)->(Zo fl).length<=12*fl.length
 | [],_=>by simp[Zo]
 | f :: fl,h=>by
  have h1:=zev (fl:=fl) fun g hg=>h g (by simp[hg])
  obtain⟨b1,b2,b3⟩:=h f (by simp)
  unfold JK at b2;simp only[Zo,Of,lA,Yq]at h1⊢
  split at b2 <;> omega
theorem zex.start {fl:List Fl} {cnt:Int} {db:List (List Int)} {dq:List (Int × List Int)} (h:zex fl cnt db dq []) {n k:Nat} (hn:n<=40) (hk:k<=60) (hd:Int):qV ⟨Xs n frF,hd,Xs k 0,Xs k zx,[],db,dq,fl,cnt,[],[]⟩ []:=by
 obtain⟨⟨a1,a2,a3⟩,a4,a5⟩:=(qi fl cnt).1 h.st;refine⟨by simpa using hn,fun f hf=>?_,by simpa using hk,by simp,?_,?_,h.st,h.cn,fun b hb hu=>h.blk b hb hu (by simp),fun q hq=>?_,by simp,by simp,rfl,rfl,fun p s f hs=>by simp at hs,fun j f hj=>?_,fun j z hj=>?_⟩
 ·have:=(Ym.1 hf).2;subst this;exact⟨by decide,by decide,.inl rfl,fun _=>rfl,fun _=>rfl⟩
 ·show zJ (Xs k zx).length []=0
  unfold zJ;rw[kF (by simp;omega),kF (by simp)]
  rfl
 ·show zJ db.length dq=0
  have h1:=zev a4;have h2:=h.ql;have h3:=h.cn;unfold zJ;rw[kF (by omega),kF (by simp at h2;omega),kF]
  rw[Yc];rintro⟨q,hq,hb⟩;have:=(h.que q hq).1;unfold jo at hb
  simp at hb
  omega
 ·exact(h.que q hq).2.resolve_right (by simp)
 ·simp only at hj;rw[Yi]at hj
  split at hj
  ·cases hj;exact⟨rfl,fun h=>by simp[frF]at h⟩
  cases hj
 simp only at hj;rw[Yi]at hj
 split at hj
 ·cases hj;rfl
 cases hj
def pgL (p:Pg):List Int:=[p.b0,p.b1,p.b2,p.b3,p.b4,p.b5,p.b6,p.b7]
def Qr (p:List Int) (idx size:Int):List Int:=p.mapIdx fun i z=>if size<=8*idx+(i:Int)then 0 else z
def zfS (m:Ma) (file idx:Int):Int:=(m.fl.getD file.toNat ⟨0,[]⟩).bl.getD idx.toNat 0
def zcR (m:Ma) (file:Int):Int:=(m.fl.getD file.toNat ⟨0,[]⟩).size
def zc1 (file idx:Int) (c:Ca):Bool:=decide (c.file=file) && decide (c.idx=idx)
def jX (m:Ma) (file idx:Int):List Int:=
 match m.ca.find? (zc1 file idx)with
 | some c=>pgL (z8 m c.fr).p
 | none=>if zfS m file idx<0 then zx else Qr (jt m.db m.dq (zfS m file idx)) idx (zcR m file)
def Jn (m:Ma) (file idx:Int):List Int:=if zfS m file idx<0 then zx else Qr (jt m.db m.dq (zfS m file idx)) idx (zcR m file)
def jF (nf:Nat) (l:List Ar):Prop:=∀k:Nat,k<64->(zO l k).is=Xc->(zO l k).file< (nf:Int)
theorem zgG (nf:Nat):jF nf []:=fun k _ h=>by cases h
theorem zcw {nf:Nat} {a:Ar} (hl:jF nf l) (ha:a.file< (nf:Int)) (h:(zad l a).2=0):jF nf (zad l a).1:=by
 obtain⟨h1,h2,h3,h4,h5⟩:=zgv h;have hg:=zav (jY.1 h1).2 (ZD.1 h2);intro k hk his;rw[h5,zd5 hg hk]at his⊢;unfold zfY at his⊢
 by_cases e:Zf a k=Xc
 ·rw[kE e];exact ha
 rw[kF e]at his⊢;exact hl k hk his
theorem zmH {a:Ar} (h:(zad l a).2=0):(wrL (zad l a).1).1=0:=by
 obtain⟨h1,h2,h3,h4,h5⟩:=zgv h;rw[h5];exact zn6 (zav (jY.1 h1).2 (ZD.1 h2)) h4
theorem zhB (h:∀s∈m.sp,zcJ s.tb):jO m (J9 m) m.hand=m:=by
 have:Yt (fun s f=>({ s with tb:=jV f }:Sp)) m.sp (J9 m)=m.sp:=by
  have key:∀l:List Sp,(∀s∈l,zcJ s.tb)->Yt (fun s f=>({ s with tb:=jV f }:Sp)) l (l.map zD)=l:=by
   intro l
   induction l with
   | nil=>intro _;rfl
   | cons s l ih=>
    intro hl;have h1:=hl s (by simp)
    have h2:jV (zD s)=s.tb:=by
     unfold jV;refine zhW h1 fun j hj=>?_
     rw[Xz,Xv hj];rfl
    rw[mP,Yu,ih (fun x hx=>hl x (by simp[hx])),h2]
  exact key m.sp h
 unfold jO;rw[this]
theorem Zl {α:Type} {f:α->Int}:∀{l:List α} {k:Nat} {q:α},l[k]? =Xa q->(∀(j:Nat) x,j<k->l[j]? =Xa x->f x=0)->f q≠0->zu (l.map f)=f q
 | [],k,q,h,_,_=>by simp at h
 | a :: l,0,q,h,_,hn=>by
  simp at h
  subst h;simp only[mP,zu];rw[kF hn]
 | a :: l,k+1,q,h,hb,hn=>by
  simp only[mP,zu];rw[kE (hb 0 a (by omega) rfl)]
  exact Zl (by simpa using h) (fun j x hj hx=>hb (j+1) x (by omega) (by simpa using hx)) hn
theorem Qq {α:Type} {f:α->Int} {l:List α} (hb:∀(j:Nat) x,l[j]? =Xa x->f x=0):zu (l.map f)=0:=by
 rw[zF];intro e he;obtain⟨x,hx,rfl⟩:=Xy.1 he;obtain⟨j,hj⟩:=Xw hx;exact hb j x hj
theorem zbe {f:Nat->Int} {n k:Nat} (hk:k<n) (hb:∀j,j<k->f j=0) (hn:f k≠0):zu ((Ya n).map f)=f k:=
 Zl (Xv hk) (fun j x hj hx=>by
  rw[Xv (by omega)]at hx
  cases hx;exact hb j hj) hn
theorem Zv {f:Nat->Int} {n:Nat} (hb:∀j,j<n->f j=0):zu ((Ya n).map f)=0:=
 Qq fun j x hx=>by
  have hj:=(gS.1 hx).1;rw[Xv (by simpa using hj)]at hx
  cases hx;exact hb j (by simpa using hj)
theorem QK {α:Type} {p:α->Bool} {g:α->Int}:∀(l:List α),zu (l.map fun x=>if p x=Xc then g x else 0)=zu ((l.filter p).map g)
 | []=>rfl
 | a :: l=>by
  simp only[mP,zu]
  by_cases h:p a=Xc
  ·rw[kE h,Yo h];simp only[mP,zu];rw[QK l]
  rw[kF h,kE rfl,Yp h,QK l]
theorem zY (a:Int) (l:List Int):zu (a :: l)=if a=0 then zu l else a:=rfl
theorem za1:zu []=0:=rfl
def Zq (m:Ma):List Int:=[ZR m.fs m.hand,slW m.sl,zJ m.sb.length m.sq,zJ m.db.length m.dq,stW m.fl m.cnt]
def Qz (m:Ma):List Int:=[zi8 m,Jp m,Q8 m]
def Zp (m:Ma):Int:=if 4<m.sp.length then 4 else zu (m.sp.map spE)
def QA (m:Ma):Int:=if zu ((Ya m.fs.length).map (frE m))=0 then zu ((Ya m.sl.length).map (zgh m))else zu ((Ya m.fs.length).map (frE m))
def zba (m:Ma):Int:=zu (m.sp.map (zaQ m))
def zc7 (m:Ma):Int:=zbF m Xb m.ca
theorem zdq (l k:List Int):zu (l++k)=if zu l=0 then zu k else zu l:=by
 induction l with
 | nil=>simp[zu]
 | cons a l ih=>
  by_cases h:a=0
  ·have h1:zu (a :: l)=zu l:=by rw[zY,kE h]
   have h2:zu (a :: l++k)=zu (l++k):=by rw[Yr,zY,kE h]
   rw[h1,h2,ih]
  have h1:zu (a :: l)=a:=by rw[zY,kF h]
  have h2:zu (a :: l++k)=a:=by rw[Yr,zY,kF h]
  rw[h1,h2,kF h]
theorem zm8 (m:Ma):maW m=zu [zu (Zq m),zu (Qz m),Zp m,zc7 m,zba m,QA m]:=by
 have hp:zbr m=if zu (Zq m)=0 then(if zu (Qz m)=0 then Zp m else zu (Qz m))else zu (Zq m):=by
  have:zbr m=zu (Zq m++(Qz m++ [if 4<m.sp.length then 4 else 0,zu (m.sp.map spE)])):=rfl;rw[this,zdq,zdq]
  congr 1
  congr 1
  unfold Zp;rw[zY,zY,za1]
  split <;> simp_all
 unfold maW;simp only[zY,za1,hp];unfold QA zba zc7
 by_cases h1:zu (Zq m)=0 <;> by_cases h2:zu (Qz m)=0 <;> by_cases h3:Zp m=0 <;> simp only[h1,h2,h3,if_true,if_false] <;>(by_cases h4:zu ((Ya m.fs.length).map (frE m))=0 <;> by_cases h5:zu ((Ya m.sl.length).map (zgh m))=0 <;> simp[h4,h5])
structure zfW (m:Ma):Prop where
 mem:ZR m.fs m.hand=0
 sl:slW m.sl=0
 sq:zJ m.sb.length m.sq=0
 dq:zJ m.db.length m.dq=0
 st:stW m.fl m.cnt=0
theorem znN:zu (Zq m)=0↔zfW m:=by
 rw[zF];unfold Zq;constructor
 ·intro h;exact⟨h _ (by simp),h _ (by simp),h _ (by simp),h _ (by simp),h _ (by simp)⟩
 intro h e he;simp only[mC,nM,or_false]at he
 rcases he with rfl|rfl|rfl|rfl|rfl
 ·exact h.mem
 ·exact h.sl
 ·exact h.sq
 ·exact h.dq
 exact h.st
theorem ze8 {n:Nat}:∀{l:List Ar} {p:Option Ar} {k:Nat} {a:Ar},ZT p l->l[k]? =Xa a->Zf a n=Xc->zO l n=qp a n
 | [],_,_,_,_,h,_=>by simp at h
 | b :: l,p,0,a,_,h,hin=>by
  simp at h
  subst h;rw[qd]at hin;exact QE hin.1 hin.2
 | b :: l,p,k+1,a,hc,h,hin=>by
  have h':l[k]? =Xa a:=by simpa using h
  have ih:=ze8 hc.2.2 h' hin
  by_cases hb:(n:Int)<b.tz
  ·have:=hc.2.2.low rfl hb;rw[this]at ih;exact(ze7 ih.symm).elim
  rw[zar (.inr (by omega))]
  exact ih
def qw (s:Sp):List Nat:=(Ya 64).filter fun n=>enS (zD s n)
theorem JX (m:Ma) (s:Sp):zaQ m s=zu ((qw s).map fun n=>zc2 m (zO s.ars n) (zD s n)):=by
 unfold zaQ qw;rw[<-QK]
 congr 1
 apply Yk
 intro n _
 by_cases h:(zD s n).kind=0
 ·simp[enS,h]
 simp[enS,h]
theorem ze2 {s:Sp} (ht:tbW s.tb=0) (hl:s.tb.length=8):qw s=[]↔s.tb.all (·.isEmpty)=Xc:=by
 unfold qw;rw[List.filter_eq_nil_iff,List.all_eq_true];constructor
 ·intro h x hx;obtain⟨i,hi⟩:=Xw hx;have hi8:i<8:=by rw[<-hl];exact(gS.1 hi).1
  rcases QB.1 ht x hx with h0|⟨h1,h2,h3⟩
  ·rw[h0];rfl
  exfalso;unfold zbk at h3;rw[Yc]at h3;obtain⟨e,he,hs⟩:=h3;obtain⟨j,hj⟩:=Xw he;have hj8:j<8:=by rw[<-h1];exact(gS.1 hj).1
  refine h (8*i+j) (Xu.2 (by omega)) ?_
  unfold zD zdo;rw[show(8*i+j) / 8=i by omega,show(8*i+j) % 8=j by omega,hi]
  simp only[Option.getD_some];rw[hj];exact hs
 intro h n hn;rw[Xu]at hn;unfold zD zdo
 cases e:s.tb[n / 8]? with
 | none=>simp[enS,en0]
 | some x=>
  have:=h x (mG e);have:x=[]:=by simpa using this
  subst this
  simp[enS,en0]
def Zz (f:Fr) (a:Ar) (n:Nat):Bool:=if f.f<0 then !a.sh else f.f == a.file && f.x == a.base+(n:Int) - a.fr
def ZJ (f:Fr) (a:Ar):Bool:=a.wr &&(if f.f<0 then decide (f.r<=1)else a.sh)
def JN (m:Ma) (a:Ar) (n:Nat) (e:En):Int:=
 if e.kind=2 then(if(m.sl.length:Int)<=e.n\/a.sh=Xc then 7 else 0)
 else if(m.fs.length:Int)<=e.n then 3
 else if Zz (z8 m e.n) a n=Xd\/(e.wr=Xc/\ZJ (z8 m e.n) a=Xd)then 7 else 0
theorem znl (hm:ZR m.fs m.hand=0) (k:Int):(z8 m k).f=-1\/(0<=(z8 m k).f/\(z8 m k).f<5):=by
 unfold z8;rw[gD]
 cases h:m.fs[k.toNat]? with
 | none=>left;rfl
 | some f=>
  have hfs:zfp m.fs=0:=by
   unfold ZR at hm
   split at hm
   ·cases hm
   split at hm
   ·rename_i h;exact h
   rename_i h;exact absurd hm h
  have hf:=zaB.1 hfs f (mG h);simp only[Option.getD_some];unfold frW at hf
  split at hf
  ·cases hf
  split at hf
  ·cases hf
  rename_i a
  by_cases e:f.f=-1
  ·exact .inl e
  right
  cases e2:inB f.f 5 with
  | false=>simp[e,e2]at a
  | true=>simpa [inB]using e2
theorem zjo {a:Ar} {n:Nat} {e:En} (hm:ZR m.fs m.hand=0) (ha:jA a):zc2 m (qp a n) e=JN m a n e:=by
 unfold zc2 JN;rw[kF (by simp[qp])]
 by_cases hk:e.kind=2
 ·rw[kE hk,kE hk];rfl
 rw[kF hk,kF hk]
 by_cases hr:(m.fs.length:Int)<=e.n
 ·rw[kE hr,kE hr]
 rw[kF hr,kF hr];have hf:=znl hm e.n;obtain⟨f,hfe⟩:=kB (z8 m e.n);rw[hfe]at hf⊢;unfold Zz ZJ qp;simp only;obtain⟨h1,h2,h3,h4,h5,h6,h7,h8⟩:=ha
 rcases hf with hf|hf
 ·rw[hf];have hno:¬(0<=a.file/\(-1:Int)=a.file/\f.x=if 0<=a.file then a.base+((n:Int) - a.fr)else 0):=by omega
  simp only[hno]
  cases hw:e.wr <;> cases hs:a.sh <;> cases ht:a.wr <;> simp
 have hn1:¬f.f=-1:=by omega
 have hn2:¬f.f<0:=by omega
 rw[kF hn2,kF hn2]
 by_cases hi:f.f=a.file/\f.x=a.base+(n:Int) - a.fr
 ·have hits:0<=a.file/\f.f=a.file/\f.x=(if 0<=a.file then a.base+((n:Int) - a.fr)else 0):=by
   rw[kE (by omega)]
   omega
  have hb:(f.f == a.file && f.x == a.base+(n:Int) - a.fr)=Xc:=by simp[hi.1,hi.2]
  rw[hb];simp only[hits]
  cases hw:e.wr <;> cases hs:a.sh <;> cases ht:a.wr <;> simp <;>(intro;omega)
 have hits:¬(0<=a.file/\f.f=a.file/\f.x=(if 0<=a.file then a.base+((n:Int) - a.fr)else 0)):=by
  rintro⟨g1,g2,g3⟩;rw[kE g1]at g3;exact hi ⟨g2,by omega⟩
 have hb:(f.f == a.file && f.x == a.base+(n:Int) - a.fr)=Xd:=by
  cases h:(f.f == a.file && f.x == a.base+(n:Int) - a.fr)with
  | false=>rfl
  | true=>simp at h;exact absurd h hi
 rw[hb,kE (.inl ⟨hn1,hits⟩),kE (.inl rfl)]
def Qa (c d:Ca):Bool:=decide (c.file<d.file) || (c.file == d.file && decide (c.idx<d.idx))
theorem zk1 {c d:Ca} (h1:0<=c.idx/\c.idx<100) (h2:0<=d.idx/\d.idx<100):Qa c d=decide (¬qm d<=qm c):=by
 unfold Qa qm;rw[Bool.eq_iff_iff];simp;omega
theorem zns {p:Option Ca} {c:Ca} (hst:stW m.fl m.cnt=0) (h:caE m p c=0):0<=c.idx/\c.idx<100:=by
 unfold caE at h
 split at h
 ·cases h
 rename_i a
 have hb:bkN m c.file<=12:=by
  unfold bkN;rw[gD]
  cases e:m.fl[c.file.toNat]? with
  | none=>simp
  | some f=>
   have:=((qi _ _).1 hst).2.1 f (mG e);simp only[Option.getD_some];have h12:=zeq this.1.1 this.1.2;rw[this.2.1];exact h12.2
 omega
theorem zfI (f:Nat->En) (kind k:Int):∀m:Nat,QM f kind k m=(Ya m).countP fun n=>isE (f n) kind k
 | 0=>rfl
 | m+1=>by
  unfold QM;rw[zfI f kind k m,List.range_succ,Yd]
  cases h:isE (f m) kind k <;> simp[h]
theorem zkO (s:Sp) {kind k:Int} (hk:kind≠0):QM (zD s) kind k 64=(qw s).countP fun n=>isE (zD s n) kind k:=by
 rw[zfI];unfold qw;rw[List.countP_filter]
 apply List.countP_congr
 intro n _;constructor
 ·intro h;rw[Yg];refine⟨h,?_⟩;unfold isE at h;rw[Yg]at h;have:(zD s n).kind=kind:=by simpa using h.1
  simp[enS,this,hk]
 intro h;rw[Yg]at h;exact h.1
def qx (m:Ma) (i:Nat) (l:List Nat) (s:Sp) (key:Int × Int):Int:=
 ((if key.1=1 then(qk m.ca key.2:Nat)else 0:Nat):Int)+((((m.sp.take i).map fun s=>(qw s).countP fun n=>isE (zD s n) key.1 key.2).sum:Nat):Int)+((l.countP fun n=>isE (zD s n) key.1 key.2:Nat):Int)
theorem zj6 (m:Ma) (i:Nat) (l:List Nat) (s:Sp) (n:Nat) (key:Int × Int):qx m i (l++ [n]) s key=qx m i l s key+(if key=((zD s n).kind,(zD s n).n)then 1 else 0):=by
 unfold qx;rw[Yd]
 by_cases h:key=((zD s n).kind,(zD s n).n)
 ·subst h;have:isE (zD s n) (zD s n).kind (zD s n).n=Xc:=by simp[isE]
  simp[this]
  omega
 rw[kF h];have:isE (zD s n) key.1 key.2=Xd:=by
  cases h':isE (zD s n) key.1 key.2 with
  | false=>rfl
  | true=>
   unfold isE at h'
   simp at h'
   exact absurd (Prod.ext h'.1.symm h'.2.symm) h
 simp[this]
theorem zj7 (m:Ma) (i:Nat) (s s':Sp) (hs:m.sp[i]? =Xa s) (key:Int × Int):qx m i (qw s) s key=qx m (i+1) [] s' key:=by
 unfold qx;rw[Og,hs];simp;omega
theorem zhu (m:Ma) (s:Sp) {kind:Int} (k:Int) (hk:kind≠0):qx m m.sp.length [] s (kind,k)=((zcj m kind k+(if kind=1 then qk m.ca k else 0):Nat):Int):=by
 unfold qx zcj ju;rw[List.take_length];have:(m.sp.map zD).map (fun f=>QM f kind k 64)=m.sp.map fun s=>(qw s).countP fun n=>isE (zD s n) kind k:=by
  rw[List.map_map]
  apply Yk
  intro s _;exact zkO s hk
 rw[this];simp;omega
def Jg (l:List Ca) (key:Int × Int):Int:=if key.1=1 then(qk l key.2:Int)else 0
theorem zis (l:List Ca) (c:Ca) (key:Int × Int):Jg (l++ [c]) key=Jg l key+(if key=(1,c.fr)then 1 else 0):=by
 unfold Jg qk;obtain⟨a,b⟩:=key;simp only[Yd,pJ]
 by_cases h1:a=1
 ·rw[kE h1,kE h1]
  by_cases h2:b=c.fr
  ·simp[h1,h2]
  have:¬c.fr=b:=fun e=>h2 e.symm
  simp[h1,h2,this]
 rw[kF h1,kF h1]
 simp[h1]
theorem zj9 (m:Ma) (s:Sp) (key:Int × Int):Jg m.ca key=qx m 0 [] s key:=by
 unfold Jg qx;simp
 split <;> rfl
theorem zj8 (key:Int × Int):Jg [] key=0:=by
 unfold Jg qk;simp
def Jf:List Ca->Int × Int->Option Int
 | [],_=>Xb
 | c :: l,key=>match Jf l key with | some z=>Xa z | none=>if key=(c.file,c.idx)then Xa c.fr else Xb
theorem zfn (c:Ca) (key:Int × Int):∀(l:List Ca),Jf (l++ [c]) key=if key=(c.file,c.idx)then Xa c.fr else Jf l key
 | []=>by simp[Jf]
 | d :: l=>by
  simp only[Yr,Jf];rw[zfn c key l]
  by_cases h:key=(c.file,c.idx)
  ·rw[kE h,kE h]
  rw[kF h,kF h]
theorem zec {key:Int × Int} {z:Int}:∀{l:List Ca},Jf l key=Xa z->∃c∈l,key=(c.file,c.idx)/\c.fr=z
 | [],h=>by cases h
 | d :: l,h=>by
  unfold Jf at h
  cases e:Jf l key with
  | some y=>
   rw[e]at h;cases h;obtain⟨c,h1,h2⟩:=zec e;exact⟨c,Yy _ h1,h2⟩
  | none=>
   rw[e]at h;simp only at h
   split at h
   ·rename_i h'
    cases h;exact⟨d,Oe,h',rfl⟩
   cases h
theorem zci {key:Int × Int}:∀{l:List Ca},Jf l key=Xb↔∀c∈l,key≠(c.file,c.idx)
 | []=>by simp[Jf]
 | d :: l=>by
  unfold Jf;constructor
  ·intro h c hc
   cases e:Jf l key with
   | some y=>rw[e]at h;cases h
   | none=>
    rw[e]at h;simp only at h
    rcases mC.1 hc with rfl|hc
    ·intro h';rw[kE h']at h;cases h
    exact zci.1 e c hc
  intro h;rw[zci.2 fun c hc=>h c (Yy _ hc)]
  simp only;rw[kF (h d Oe)]
theorem zgU {l:List Ca} (h:l.Pairwise fun a b=>qm a<qm b) {c d:Ca} (hc:c∈l) (hd:d∈l) (hk:qm c=qm d):c=d:=by
 induction l with
 | nil=>cases hc
 | cons a l ih=>
  rw[Yb]at h
  rcases mC.1 hc with rfl|hc'
  ·rcases mC.1 hd with rfl|hd'
   ·rfl
   have:=h.1 d hd';omega
  rcases mC.1 hd with rfl|hd'
  ·have:=h.1 c hc';omega
  exact ih h.2 hc' hd'
theorem ziu (hca:zbF m Xb m.ca=0) (k:Nat):(Jf m.ca ((z8 m k).f,(z8 m k).x)=Xa (k:Int))↔qk m.ca k≠0:=by
 obtain⟨a1,_,a3⟩:=zL.1 hca;have hca':∀c∈m.ca,(z8 m c.fr).f=c.file/\(z8 m c.fr).x=c.idx:=by
  intro c hc;have:=a1 c hc;unfold caE at this
  split at this
  ·cases this
  split at this
  ·cases this
  rename_i h
  exact⟨Classical.byContradiction fun e=>h (.inr (.inl e)),Classical.byContradiction fun e=>h (.inr (.inr e))⟩
 have hcount:qk m.ca k≠0↔∃c∈m.ca,c.fr=(k:Int):=by
  unfold qk;rw[Nat.ne_zero_iff_zero_lt,Oa];simp
 rw[hcount];constructor
 ·intro h;obtain⟨c,h1,_,h3⟩:=zec h;exact⟨c,h1,h3⟩
 rintro⟨c,h1,h2⟩;obtain⟨b1,b2⟩:=hca' c h1;rw[h2]at b1 b2
 cases e:Jf m.ca ((z8 m k).f,(z8 m k).x)with
 | none=>
  have:=zci.1 e c h1;rw[b1,b2]at this;exact absurd rfl this
 | some z=>
  obtain⟨d,d1,d2,d3⟩:=zec e;rw[b1,b2]at d2;simp only[pJ]at d2;have:c=d:=zgU a3 h1 d1 (by unfold qm;rw[d2.1,d2.2])
  rw[<-d3,<-this,h2]
end
section
open Go.RowKit
theorem za7 (m n:Int) (w:Xo):
  Xq prog 83 #[I6 m,I6 n] w fun e w'=>e= Xl (Xh (bel m n))/\w'=w:=by
 have H:Xp (bel m n=(decide (0<=m) && decide (m<n))):=rfl
 by_cases h0:0<=m
 ·by_cases h1:m<n
  ·go_enter func83,ntmps83
   go_wp2;go_ret;exact⟨by rw[H.out];simp[*],rfl⟩
  go_enter func83,ntmps83
  go_wp2;go_ret;exact⟨by rw[H.out];simp[*],rfl⟩
 go_enter func83,ntmps83
 go_wp2;go_ret;exact⟨by rw[H.out];simp;omega,rfl⟩
theorem zoD:(Tryz.prog.info? 45).map (fun i=>(i.zero,i.size,i.bytes))=Xa (Xa (I6 0),1,8):=by kernel_rfl
def zi9:Elt Int where
 enc:=fun z=>[I6 z]
 k:=1
 ty:=45
 st:=233
 bytes:=8
 zv:=I6 0
 zero:=0
 len:=fun _=>rfl
 one:=fun a u hu=>by
  simp only[mC,nM,or_false]at hu;rw[hu];rfl
 und:=underlying233
 info:=zoD
 zok:=rfl
 few:=by decide
 pos:=by decide
theorem zm.errs {w:Xo} {v:Xr} {l:List Int} (h:zm zi9 w v l):∃a c,v= O a l.length c/\zaK w a l:=by
 obtain⟨a,c,h1,h2⟩:=h.rows;refine⟨a,c,h1,fun j x hj=>?_⟩
 obtain⟨ad,h3,h4⟩:=h2 j x hj;refine⟨ad,h3,fun W hW=>?_⟩
 have:=h4 W hW 0 _ rfl;rw[zX]at this
 simpa [zi9]using this
theorem zdO {α:Type} (E:Elt α) (w:Xo) (l:List α) (cs:Array Xr) (hcs:cs=(l.flatMap E.enc).toArray) (hb:l.length*E.bytes<=140737488355328):zm E (w.alloc (Xk cs E.ty)) (O (Xa ⟨w.heap.size,0,Xb⟩) l.length l.length) l:=by
 subst hcs;refine⟨⟨_,l.length,rfl,fun h=>(by cases h),fun y hy=>?_⟩,hb⟩
 cases hy;exact jz.top w (l.flatMap E.enc) E.ty rfl
theorem zct {l:List Int} {k:Nat} (hb:∀(j:Nat) x,j<k->l[j]? =Xa x->x=0) {q:Int} (hq:l[k]? =Xa q) (hn:q≠0):zu l=q:=by
 have:=Zl (f:=fun x=>x) hq hb hn
 simpa using this
theorem zcu {l:List Int} (hb:∀(j:Nat) x,l[j]? =Xa x->x=0):zu l=0:=by
 have:=Qq (f:=fun x=>x) hb
 simpa using this
theorem zb7 (v:Xr) (l:List Int) (w:Xo) (hv:zm zi9 w v l):
  Xq prog 126 #[v] w fun e w'=>e= Xl (I6 (zu l))/\w'=w:=by
 have hbig:=hv.short;obtain⟨a,c,rfl,hrow⟩:=hv.errs;have HR:Xp (zaK w a l):=hrow;clear hrow hv;obtain⟨n,HN⟩:=kA l.length;rw[HN.out]at hbig⊢;obtain⟨F,HF⟩:=kA (zu l);rw[HF.out]
 go_enter func126,ntmps126
 go_wp2
 go_loopg [5,8] n (fun gg _ s8 wr=>∃kk:Nat,kk<=n/\n - kk<=gg/\s8=I6 kk/\wr=w/\Xp (∀(j:Nat) x,j<kk->l[j]? =Xa x->x=0))
 case atStart=>exact⟨0,nZ _,by omega,rfl,rfl,fun j x hj=>absurd hj (nL _)⟩
 obtain⟨kk,hkk,hgg,rfl,rfl,A⟩:=hrel
 by_cases hlt:kk<n
 ·have hltz:=kC hlt
  obtain⟨q,HQ⟩:∃q,Xp (l[kk]? =Xa q):=⟨_,gE (by rw[HN.out];exact hlt)⟩
  obtain⟨x,rfl,hl⟩:=HR.out kk q HQ.out;have d0:=hl wr (zc.refl _);clear hl
  by_cases h0:q=0
  ·have h0e:(q != 0)=Xd:=by simp[h0]
   have HA:Xp (∀(j:Nat) x,j<kk+1->l[j]? =Xa x->x=0):=dD<|fun j x hj hx=>by
    by_cases e:j=kk
    ·subst e;rw[HQ.out]at hx;cases hx;exact h0
    exact A j x (by omega) hx
   clear h0;go_wp2
   go_roundg (n -(kk+1))
   case measure=>omega
   exact⟨kk+1,by omega,by omega,by go_num,rfl,HA⟩
  have h0e:(q != 0)=Xc:=by simp[h0]
  have HE:Xp (F=q):=dD<|by rw[<-HF.out];exact zct A HQ h0
  clear h0;go_wp2;go_ret;exact⟨by rw[HE.out];rfl,rfl⟩
 have hltz:=kD hlt
 have:kk=n:=by omega
 subst this;have HE:Xp (F=0):=dD<|by
  rw[<-HF.out];exact zcu fun j x hx=>A.out j x (by rw[<-HN.out];exact(gS.1 hx).1) hx
 go_wp2;go_ret;exact⟨by rw[HE.out];rfl,rfl⟩
theorem zch (a:Ar) (n:Int) (w:Xo) (h1:0<=a.base/\a.base<=100) (h2:0<=a.fr/\a.fr<=100) (h3:0<=n/\n<=100):
  Xq prog 135 #[Xi #[I6 a.fr,I6 a.tz,Xh a.rd,Xh a.wr,Xh a.sh,I6 a.file,I6 a.base],I6 n] w fun e w'=>e= Xl (I6 (a.base+n - a.fr))/\zc w w':=by
 obtain⟨fr,tz,rd,wr,sh,file,base⟩:=a;simp only at h1 h2
 go_enter func135,ntmps135
 go_wp2;go_ret;exact⟨rfl,za _ _⟩
theorem zgy (c d:Ca) (w:Xo):
  Xq prog 159 #[Xi #[I6 c.file,I6 c.idx,I6 c.fr],Xi #[I6 d.file,I6 d.idx,I6 d.fr]] w fun e w'=>e= Xl (Xh (Qa c d))/\zc w w':=by
 obtain⟨cf,ci,cr⟩:=c;obtain⟨df,di,dr⟩:=d
 by_cases h1:cf<df
 ·have hz:Qa ⟨cf,ci,cr⟩ ⟨df,di,dr⟩=Xc:=by simp[Qa,h1]
  rw[hz];clear hz
  go_enter func159,ntmps159
  go_wp2;go_ret;exact⟨rfl,(za _ _).trans (za _ _)⟩
 by_cases h2:cf=df
 ·subst h2
  by_cases h3:ci<di
  ·have hz:Qa ⟨cf,ci,cr⟩ ⟨cf,di,dr⟩=Xc:=by simp[Qa,h3]
   rw[hz];clear hz
   go_enter func159,ntmps159
   go_wp2;go_ret;exact⟨rfl,(za _ _).trans (za _ _)⟩
  have hz:Qa ⟨cf,ci,cr⟩ ⟨cf,di,dr⟩=Xd:=by simp[Qa,h3]
  rw[hz];clear hz
  go_enter func159,ntmps159
  go_wp2;go_ret;exact⟨rfl,(za _ _).trans (za _ _)⟩
 have hz:Qa ⟨cf,ci,cr⟩ ⟨df,di,dr⟩=Xd:=by simp[Qa,h1,h2]
 rw[hz];clear hz;have h2e:(cf == df)=Xd:=by simp[h2]
 clear h2
 go_enter func159,ntmps159
 go_wp2;go_ret;exact⟨rfl,(za _ _).trans (za _ _)⟩
theorem zfc (f:Fr) (a:Ar) (w:Xo):
  Xq prog 193 #[Xi (frv f).toArray,Xi #[I6 a.fr,I6 a.tz,Xh a.rd,Xh a.wr,Xh a.sh,I6 a.file,I6 a.base]] w fun e w'=>e= Xl (Xh (ZJ f a))/\zc w w':=by
 obtain⟨⟨b0,b1,b2,b3,b4,b5,b6,b7⟩,r,u,d,ff,x⟩:=f;obtain⟨fr,tz,rd,wr,sh,file,base⟩:=a;unfold frv ZJ;simp only;cases wr
 ·simp only[Bool.false_and]
  go_enter func193,ntmps193
  go_wp2;go_ret;exact⟨rfl,(za _ _).trans (za _ _)⟩
 simp only[Bool.true_and]
 by_cases h:ff<0
 ·rw[kE h];obtain⟨D,HD⟩:=kA (decide (r<=1));rw[HD.out]
  go_enter func193,ntmps193
  go_wp2;go_ret;exact⟨by rw[<-HD.out];rfl,(za _ _).trans (za _ _)⟩
 rw[kF h]
 go_enter func193,ntmps193
 go_wp2;go_ret;exact⟨rfl,(za _ _).trans (za _ _)⟩
theorem Ze (m n:Int) (w:Xo):
  Xq prog 179 #[I6 m,I6 n] w fun e w'=>e= Xl (Xh (inB m n))/\w'=w:=by
 have H:Xp (inB m n=(decide (0<=m) && decide (m<n))):=rfl
 by_cases h0:0<=m
 ·by_cases h1:m<n
  ·go_enter func179,ntmps179
   go_wp2;go_ret;exact⟨by rw[H.out];simp[*],rfl⟩
  go_enter func179,ntmps179
  go_wp2;go_ret;exact⟨by rw[H.out];simp[*],rfl⟩
 go_enter func179,ntmps179
 go_wp2;go_ret;exact⟨by rw[H.out];simp;omega,rfl⟩
theorem QJ (w:Xo):
  Xq prog 169 #[] w fun e w'=>e= Xl (Xi (frv frF).toArray)/\zc w w':=by
 go_enter func169,ntmps169
 go_wp2;refine bodyPost_ret (v:= Xi (frv frF).toArray) (by simp[results,Tryz.results169,go_sem,frv,frF,pg0]) rfl ⟨rfl,?_⟩
 exact(bR _ _).alloc (nR _) _
theorem wf5 (b0 b1 b2 b3 b4 b5 b6 b7 r:Int) (u d:Bool) (f x:Int) (w:Xo) (hb1:inB r 1001=Xc) (hb2:inB x 12=Xc) (hf:(f != -1)=Xc) (_hfe:(f == -1)=Xd) (hb3:inB f 5=Xc) (hr:(r == 0)=Xd):
  Xq prog 183 #[Xi #[U8 b0,U8 b1,U8 b2,U8 b3,U8 b4,U8 b5,U8 b6,U8 b7,I6 r,Xh u,Xh d,I6 f,I6 x]] w fun e w'=>e= Xl (I6 0)/\zc w w':=by
 go_enter func183,ntmps183
 go_wp2_with (go_at_call 179;refine(Ze _ _ _).mono ?_;rintro e w' ⟨rfl,rfl⟩)
 obtain⟨W0,hW0⟩:=kB (w.alloc (Xk #[U8 b0,U8 b1,U8 b2,U8 b3,U8 b4,U8 b5,U8 b6,U8 b7,I6 r,Xh u,Xh d,I6 f,I6 x] 53));have HG0:=gA hW0
 have X0:=xA hW0
 rw[hW0];clear hW0;have hx0:=X0.gw 0 rfl
 have hx1:=X0.gw 1 rfl
 have hx2:=X0.gw 2 rfl
 have hx3:=X0.gw 3 rfl
 have hx4:=X0.gw 4 rfl
 have hx5:=X0.gw 5 rfl
 have hx6:=X0.gw 6 rfl
 have hx7:=X0.gw 7 rfl
 have hx8:=X0.gw 8 rfl
 have hx9:=X0.gw 9 rfl
 have hx10:=X0.gw 10 rfl
 have hx11:=X0.gw 11 rfl
 have hx12:=X0.gw 12 rfl
 have hne:Nonempty (zn W0):=⟨⟨_,zc.refl _⟩⟩;refine ji [(5,⟨fun v=>v= Xi (frv frF).toArray,fun _ _=>True⟩)] zW (by kernel_rfl) ?_ ?_ ?_
 ·intro x hx
  simp at hx
  subst hx;exact⟨_,rfl⟩
 ·intro x hx
  simp at hx
  subst hx;exact fun _ _ _ _ h=>h
 iterate 4 (refine zd rfl rfl rfl (fun K hK=>?_);go_big_quiet_op;refine hK _ ?_;clear hK)
 iterate 3 (refine qa ?_ ?_;kernel_rfl;simp only[Act.put,sB,sS,sZ])
 iterate 6 (refine zd rfl rfl rfl (fun K hK=>?_);go_big_quiet_op;refine hK _ ?_;clear hK)
 iterate 3 (refine qa ?_ ?_;kernel_rfl;simp only[Act.put,sB,sS,sZ])
 iterate 2 (refine zd rfl rfl rfl (fun K hK=>?_);go_big_quiet_op;refine hK _ ?_;clear hK)
 refine z6 fun w1 hg1 hF=>?_
 have HG1:=dD (HG0.trans hg1);go_wp2;go_ret;exact⟨rfl,HG1⟩
theorem wf7 (b0 b1 b2 b3 b4 b5 b6 b7 r:Int) (u d:Bool) (f x:Int) (w:Xo) (hb1:inB r 1001=Xc) (hb2:inB x 12=Xc) (hf:(f != -1)=Xd) (_hfe:(f == -1)=Xc) (hr:(r == 0)=Xc) (hfr:zaF (⟨⟨b0,b1,b2,b3,b4,b5,b6,b7⟩,r,u,d,f,x⟩:Fr) frF=Xc) (hx:(x != 0)=Xd):
  Xq prog 183 #[Xi #[U8 b0,U8 b1,U8 b2,U8 b3,U8 b4,U8 b5,U8 b6,U8 b7,I6 r,Xh u,Xh d,I6 f,I6 x]] w fun e w'=>e= Xl (I6 0)/\zc w w':=by
 have HFR:Xp _:=hfr;clear hfr
 go_enter func183,ntmps183
 go_wp2_with (go_at_call 179;refine(Ze _ _ _).mono ?_;rintro e w' ⟨rfl,rfl⟩)
 obtain⟨W0,hW0⟩:=kB (w.alloc (Xk #[U8 b0,U8 b1,U8 b2,U8 b3,U8 b4,U8 b5,U8 b6,U8 b7,I6 r,Xh u,Xh d,I6 f,I6 x] 53));have HG0:=gA hW0
 have X0:=xA hW0
 rw[hW0];clear hW0;have hx0:=X0.gw 0 rfl
 have hx1:=X0.gw 1 rfl
 have hx2:=X0.gw 2 rfl
 have hx3:=X0.gw 3 rfl
 have hx4:=X0.gw 4 rfl
 have hx5:=X0.gw 5 rfl
 have hx6:=X0.gw 6 rfl
 have hx7:=X0.gw 7 rfl
 have hx8:=X0.gw 8 rfl
 have hx9:=X0.gw 9 rfl
 have hx10:=X0.gw 10 rfl
 have hx11:=X0.gw 11 rfl
 have hx12:=X0.gw 12 rfl
 have hne:Nonempty (zn W0):=⟨⟨_,zc.refl _⟩⟩;refine ji [(5,⟨fun v=>v= Xi (frv frF).toArray,fun _ _=>True⟩)] zW (by kernel_rfl) ?_ ?_ ?_
 ·intro x hx
  simp at hx
  subst hx;exact⟨_,rfl⟩
 ·intro x hx
  simp at hx
  subst hx;exact fun _ _ _ _ h=>h
 iterate 5 (refine zd rfl rfl rfl (fun K hK=>?_);go_big_quiet_op;refine hK _ ?_;clear hK)
 refine zE rfl rfl (fun w' hg hF=>?_) (fun v1 hv=>?_)
 ·refine zQ.call [] rfl func169 rfl rfl rfl ?_;refine(QJ w').mono ?_;rintro e w'' ⟨rfl,hg2⟩;exact⟨_,rfl,hg2,rfl,trivial⟩
 subst hv;have hq:=fun W=>zn9 b0 b1 b2 b3 b4 b5 b6 b7 r u d f x 0 0 0 0 0 0 0 0 0 Xd Xd (-1) 0 W
 simp only[show(⟨⟨0,0,0,0,0,0,0,0⟩,0,Xd,Xd,-1,0⟩:Fr)=frF from rfl,HFR.out]at hq
 simp only[Act.put,sB,sS,sZ,frv,frF,pg0];iterate 12 (refine zd rfl rfl rfl (fun K hK=>?_);go_big_quiet_op;refine hK _ ?_;clear hK)
 refine z6 fun w1 hg1 hF=>?_
 have HG1:=dD (HG0.trans hg1);go_wp2;go_ret;exact⟨rfl,HG1⟩
theorem wf9 (b0 b1 b2 b3 b4 b5 b6 b7 r:Int) (u d:Bool) (f x:Int) (w:Xo) (hb1:inB r 1001=Xc) (hb2:inB x 12=Xc) (hf:(f != -1)=Xd) (_hfe:(f == -1)=Xc) (hr:(r == 0)=Xd) (hx:(x != 0)=Xd):
  Xq prog 183 #[Xi #[U8 b0,U8 b1,U8 b2,U8 b3,U8 b4,U8 b5,U8 b6,U8 b7,I6 r,Xh u,Xh d,I6 f,I6 x]] w fun e w'=>e= Xl (I6 0)/\zc w w':=by
 go_enter func183,ntmps183
 go_wp2_with (go_at_call 179;refine(Ze _ _ _).mono ?_;rintro e w' ⟨rfl,rfl⟩)
 obtain⟨W0,hW0⟩:=kB (w.alloc (Xk #[U8 b0,U8 b1,U8 b2,U8 b3,U8 b4,U8 b5,U8 b6,U8 b7,I6 r,Xh u,Xh d,I6 f,I6 x] 53));have HG0:=gA hW0
 have X0:=xA hW0
 rw[hW0];clear hW0;have hx0:=X0.gw 0 rfl
 have hx1:=X0.gw 1 rfl
 have hx2:=X0.gw 2 rfl
 have hx3:=X0.gw 3 rfl
 have hx4:=X0.gw 4 rfl
 have hx5:=X0.gw 5 rfl
 have hx6:=X0.gw 6 rfl
 have hx7:=X0.gw 7 rfl
 have hx8:=X0.gw 8 rfl
 have hx9:=X0.gw 9 rfl
 have hx10:=X0.gw 10 rfl
 have hx11:=X0.gw 11 rfl
 have hx12:=X0.gw 12 rfl
 have hne:Nonempty (zn W0):=⟨⟨_,zc.refl _⟩⟩;refine ji [(5,⟨fun v=>v= Xi (frv frF).toArray,fun _ _=>True⟩)] zW (by kernel_rfl) ?_ ?_ ?_
 ·intro x hx
  simp at hx
  subst hx;exact⟨_,rfl⟩
 ·intro x hx
  simp at hx
  subst hx;exact fun _ _ _ _ h=>h
 iterate 4 (refine zd rfl rfl rfl (fun K hK=>?_);go_big_quiet_op;refine hK _ ?_;clear hK)
 iterate 3 (refine qa ?_ ?_;kernel_rfl;simp only[Act.put,sB,sS,sZ])
 iterate 11 (refine zd rfl rfl rfl (fun K hK=>?_);go_big_quiet_op;refine hK _ ?_;clear hK)
 refine z6 fun w1 hg1 hF=>?_
 have HG1:=dD (HG0.trans hg1);go_wp2;go_ret;exact⟨rfl,HG1⟩
theorem zeP (z:Int) (w:Xo):
  Xq prog 185 #[I6 z] w fun e w'=>e= Xl (Xh (zdz z))/\zc w w':=by
 by_cases h0:z<0
 ·have HF:Xp (zdz z=Xc):=dD<|by simp[zdz,h0]
  go_enter func185,ntmps185
  go_wp2;go_ret;exact⟨by rw[HF.out];rfl,zc.refl _⟩
 by_cases h1:1000<z
 ·have HF:Xp (zdz z=Xc):=dD<|by simp[zdz,h1]
  go_enter func185,ntmps185
  go_wp2;go_ret;exact⟨by rw[HF.out];rfl,zc.refl _⟩
 have HF:Xp (zdz z=Xd):=dD<|by simp[zdz];omega
 go_enter func185,ntmps185
 go_wp2;go_ret;exact⟨by rw[HF.out];rfl,zc.refl _⟩
theorem zmd {p:Int->Bool} {fs:List Int} {k:Nat} {q:Int} (h:fs[k]? =Xa q) (hq:p q=Xc) (hb:∀(j:Nat) x,j<k->fs[j]? =Xa x->p x=Xd):fs.findIdx p=k:=by
 obtain⟨hlt,rfl⟩:=gS.1 h;refine(List.findIdx_eq hlt).2 ⟨hq,fun j hj=>?_⟩
 exact hb j _ hj (gE (by omega))
theorem zmc {p:Int->Bool} {fs:List Int} (hb:∀(j:Nat) x,fs[j]? =Xa x->p x=Xd):fs.findIdx p=fs.length:=by
 refine List.findIdx_eq_length.2 fun x hx=>?_
 obtain⟨j,hj⟩:=Xw hx;exact hb j x hj
theorem zn2 {p:Int->Bool} {fs:List Int} {k:Nat} {q:Int} (h:fs[k]? =Xa q) (hq:p q=Xc):fs.any p=Xc:=Yc.2 ⟨q,mG h,hq⟩
theorem zn1 {p:Int->Bool} {fs:List Int} (hb:∀(j:Nat) x,fs[j]? =Xa x->p x=Xd):fs.any p=Xd:=Oj.2 fun x hx=>by
 obtain⟨j,hj⟩:=Xw hx;rw[hb j x hj]
 decide
theorem zfm (v:Xr) (fs:List Int) (w:Xo) (hv:zm slE w v fs):
  Xq prog 214 #[v,.func (.func 185) #[] #[]] w fun e w'=>(∃z:Int,e= Xl (I6 z)/\decide (0<=z)=fs.any zdz)/\zc w w':=by
 have hbig:=hv.short;obtain⟨a,c,rfl,hrow⟩:=hv.sls;have HR:Xp (zaK w a fs):=hrow;have eg:=enters_of func185 (by kernel_rfl) rfl
 clear hrow hv;obtain⟨n,HN⟩:=kA fs.length;rw[HN.out]at hbig⊢
 go_enter func214,ntmps214
 go_wp2
 go_loopg [5,8] n (fun gg _ s8 wr=>∃kk:Nat,kk<=n/\n - kk<=gg/\s8=I6 kk/\Xp (zc w wr)/\Xp (∀j q,j<kk->fs[j]? =Xa q->zdz q=Xd))
 case atStart=>exact⟨0,nZ _,by omega,rfl,zc.refl w,fun j q hj=>absurd hj (nL _)⟩
 obtain⟨kk,hkk,hg,rfl,BW,A⟩:=hrel
 by_cases hlt:kk<n
 ·have hltz:=kC hlt
  obtain⟨q,HQ⟩:∃q,Xp (fs[kk]? =Xa q):=⟨_,gE (by rw[HN.out];exact hlt)⟩
  obtain⟨ad,rfl,hl⟩:=HR.out kk q HQ.out;have d0:=hl wr BW.out;have hcall:Xq prog 185 #[I6 q] wr fun e w'=>e= Xl (Xh (zdz q))/\zc wr w':=zeP q wr
  clear hl
  cases hq:zdz q with
  | true=>
   rw[hq]at hcall;have HF:Xp (decide (0<=(kk:Int))=fs.any zdz):=dD<|by rw[zn2 HQ.out hq];simp
   clear hq
   go_wp2_with (go_at_call 185;refine hcall.mono ?_;rintro e w' ⟨rfl,hb'⟩)
   go_ret;exact⟨⟨_,rfl,HF⟩,BW.trans hb'⟩
  | false=>
   rw[hq]at hcall;have HA:Xp (∀(j:Nat) q,j<kk+1->fs[j]? =Xa q->zdz q=Xd):=dD<|fun j q' hj hq'=>by
    by_cases e:j=kk
    ·subst e;rw[HQ.out]at hq';cases hq';exact hq
    exact A j q' (by omega) hq'
   clear hq
   go_wp2_with (go_at_call 185;refine hcall.mono ?_;rintro e w' ⟨rfl,hb'⟩)
   go_roundg (n -(kk+1))
   case measure=>omega
   exact⟨kk+1,by omega,by omega,by go_num,BW.trans hb',HA⟩
 have hltz:=kD hlt
 have:kk=n:=by omega
 subst this;have HF:Xp (decide (0<=(-1:Int))=fs.any zdz):=dD<|by
  rw[zn1 (fun j q hj=>A.out j q (by rw[<-HN.out];exact(gS.1 hj).1) hj)]
  rfl
 go_wp2;go_ret;exact⟨⟨_,rfl,HF⟩,BW⟩
theorem zi5 (v:Xr) (fs:List Int) (w:Xo) (hv:zm slE w v fs):
  Xq prog 184 #[v,.func (.func 185) #[] #[]] w fun e w'=>e= Xl (Xh (fs.any zdz))/\zc w w':=by
 have h1:=zfm v fs w hv;obtain⟨a,c,rfl,_⟩:=hv.sls;clear hv
 generalize fs.any zdz=bb at h1⊢
 go_enter func184,ntmps184
 go_wp2_with fail;refine h1.mono ?_;rintro e W1 ⟨⟨z,rfl,hz⟩,g1⟩;have G1:Xp (zc w W1):=g1;have HF:Xp (decide (0<=z)=bb):=hz;clear g1 hz h1;go_wp2;go_ret;exact⟨by rw[HF.out];rfl,G1⟩
theorem zc4 (a:Option Addr) (c:Nat) (s:List Int) (w:Xo) (hv:zm slE w (O a s.length c) s):
  Xq prog 153 #[O a s.length c] w fun e w'=>e= Xl (I6 (slW s))/\zc w w':=by
 have h1:=zi5 _ s w hv;have HM:Xp (slW s=if 60<s.length then 4 else if s.any zdz then 3 else 0):=rfl;have hbig:=hv.short;obtain⟨n,HN⟩:=kA s.length;rw[HN.out]at h1 HM hbig⊢;clear hv
 generalize s.any zdz=bb at h1 HM
 by_cases h60:60<n
 ·have h60z:=kC h60
  have HF:Xp (slW s=4):=dD<|by rw[HM.out,kE h60]
  clear h1
  go_enter func153,ntmps153
  go_wp2;go_ret;exact⟨by rw[HF.out];rfl,zc.refl _⟩
 have h60z:=kD h60
 rw[kF h60]at HM
 cases bb with
 | true=>
  have HF:Xp (slW s=3):=HM.out
  go_enter func153,ntmps153
  go_wp2_with fail;refine h1.mono ?_;rintro e W1 ⟨rfl,g1⟩;have G1:Xp (zc w W1):=g1;clear g1 h1;go_wp2;go_ret;exact⟨by rw[HF.out];rfl,G1⟩
 | false=>
  have HF:Xp (slW s=0):=HM.out
  go_enter func153,ntmps153
  go_wp2_with fail;refine h1.mono ?_;rintro e W1 ⟨rfl,g1⟩;have G1:Xp (zc w W1):=g1;clear g1 h1;go_wp2;go_ret;exact⟨by rw[HF.out];rfl,G1⟩
def qD (n:Nat) (g:List Int):List Xr:=(Ya n).map fun(i:Nat)=> Xh (g.contains (i:Int))
theorem QF {n:Nat} (g:List Int) {i:Nat} (hi:i<n):(qD n g)[i]? =Xa (Xh (g.contains (i:Int))):=by
 unfold qD;rw[Xz,Xv hi];rfl
theorem zfd {n:Nat} (g:List Int) {i:Nat} (hi:i<n):(qD n g).set i (Xh Xc)=qD n ((i:Int) :: g):=by
 apply Oi
 intro j
 by_cases e:j=i
 ·subst e;rw[sF (by simp[qD,hi]),QF _ hi]
  simp
 rw[sN (fun h=>e h.symm)]
 rcases Nat.lt_or_ge j n with hj|hj
 ·rw[QF _ hj,QF _ hj];have:¬((j:Int)=(i:Int)):=by omega
  simp[this]
 rw[gN (by simp[qD,hj]),gN (by simp[qD,hj])]
theorem zca:qD 80 []=Xs 80 (Xh Xd):=by
 unfold qD
 simp[List.map_const']
theorem zl1 (b cnt:Int) (g:List Int) (pc pg:Nat) (w:Xo) (hc:Box w pc [I6 cnt]) (hg:Box w pg (qD 80 g)) (hn:cnt<=80):
  Xq prog 216 #[I6 b,Xj (Xa ⟨pc,0,Xb⟩),Xj (Xa ⟨pg,0,Xb⟩)] w fun e w'=>e= Xl (I6 (Q0 cnt g b))/\(Q0 cnt g b=0->Box w' pg (qD 80 (JI g b)))/\w.grownBy w' (Xa pg)/\w'.heap.size=w.heap.size:=by
 have c0:=hc.c 0 rfl;have HG:Xp (Box w pg (qD 80 g)):=hg
 rcases J7 cnt g b with⟨h1,h2,h3⟩|⟨h1,h2,h3⟩|⟨i,h1,h2,h3,h4⟩|⟨i,h1,h2,h3,h4,h5⟩
 ·rw[h2];have HP:Xp (Box w pg (qD 80 (JI g b))):=dD<|by rw[h3];exact hg
  subst h1;clear hc hg h2 h3
  generalize JI g (-1)=gg at HP⊢
  go_enter func216,ntmps216
  go_wp2;go_ret;exact⟨rfl,fun _=>HP.out,World.grownBy.rfl' _ _,rfl⟩
 ·rw[h3];have hb:=zaI h2 w;have hb1:(b == -1)=Xd:=by simpa using h1
  clear hc hg h2 h3
  generalize JI g b=gg
  go_enter func216,ntmps216
  go_wp2_with (go_at_call 170;refine hb.mono ?_;rintro e w' ⟨rfl,rfl⟩)
  go_ret;exact⟨rfl,fun h=>by omega,World.grownBy.rfl' _ _,rfl⟩
 ·rw[h4];subst h1;have hi:i<80:=by omega
  have hb:=Zn (m:=(i:Int)) (n:=cnt) (by omega) h2 w
  have hb1:((i:Int) == -1)=Xd:=by simp
  have d0:=hg.c i (QF g hi);rw[h3]at d0
  generalize JI g (i:Int)=gg
  clear hc hg h2 h3 h4
  go_enter func216,ntmps216
  go_wp2_with (go_at_call 170;refine hb.mono ?_;rintro e w' ⟨rfl,rfl⟩)
  go_ret;exact⟨rfl,fun h=>by omega,World.grownBy.rfl' _ _,rfl⟩
 rw[h4];subst h1;have hi:i<80:=by omega
 have hb:=Zn (m:=(i:Int)) (n:=cnt) (by omega) h2 w
 have hb1:((i:Int) == -1)=Xd:=by simp
 have d0:=hg.c i (QF g hi);have f0:=hg.f;rw[h3]at d0;have HP:Xp (Box (w.setCell ⟨pg,i,Xb⟩ (Xh Xc)) pg (qD 80 (JI g (i:Int)))):=dD<|by
  rw[h5,<-zfd g hi];exact hg.set i _
 generalize JI g (i:Int)=gg at HP
 clear hc hg h2 h3 h4 h5
 go_enter func216,ntmps216
 go_wp2_with (go_at_call 170;refine hb.mono ?_;rintro e w' ⟨rfl,rfl⟩)
 go_ret;exact⟨rfl,fun _=>HP.out,⟨rfl,rfl,rfl,by simp[World.setCell],fun k hk hne=>Below.heap_setCell _ _ _ _ (fun e=>hne (by rw[e]))⟩,by simp[World.setCell]⟩
def zez:Array Xr:=(Xs 80 (Xh Xd)).toArray
theorem zf3:(Tryz.prog.info? 220).map (fun i=>i.zero)=Xa (Xa (Xi zez)):=by kernel_rfl
theorem zaR (w:Xo):(zeroValue 220).run prog w= .ok (Xi zez) w:=by
 have h:=zf3
 cases hq:Tryz.prog.info? 220 with
 | none=>simp[hq]at h
 | some i=>
  simp[hq]at h
  simp[zeroValue,typeInfo,hq,h]
theorem zke (cnt:Int) (w:Xo):
  Xq prog 189 #[I6 cnt] w fun e w'=>e= Xl (.func (.func 216) #[] #[Xj (Xa ⟨w.heap.size,0,Xb⟩),Xj (Xa ⟨w.heap.size+1,0,Xb⟩)])/\Box w' w.heap.size [I6 cnt]/\Box w' (w.heap.size+1) (qD 80 [])/\zc w w'/\w'.heap.size=w.heap.size+2:=by
 have hmf:∀(fn:Fn) (first cap:Array Xr) (w:Xo),(Instr.makeFunc fn first cap).run prog w= .ok (.func fn first cap) w:=fun _ _ _ _=>rfl
 have hz:=zaR;rw[zca]
 go_enter func189,ntmps189
 go_wp2;go_ret;exact⟨rfl,(Box.top w _ _ rfl).alloc _,Box.top _ (Xs 80 (Xh Xd)) _ (by simp),(za _ _).trans (za _ _),by simp⟩
theorem zhI (g l:List Int) (b:Int):blG g (l++ [b])=JI (blG g l) b:=by
 unfold blG;rw[List.foldl_append];rfl
theorem zdE (f:Fl) (xa:Option Addr) (xc:Nat) (cnt:Int) (g:List Int) (pc pg:Nat) (w:Xo) (hc:Box w pc [I6 cnt]) (hg:Box w pg (qD 80 g)) (hne:pc≠pg) (hn:cnt<=80) (hr:zf1 blE pg (pg+1) w (O xa f.bl.length xc) f.bl):
  Xq prog 190 #[Xi #[I6 f.size,O xa f.bl.length xc],.func (.func 216) #[] #[Xj (Xa ⟨pc,0,Xb⟩),Xj (Xa ⟨pg,0,Xb⟩)]] w fun e w'=>e= Xl (I6 (flW cnt g f))/\(flW cnt g f=0->Box w' pg (qD 80 (blG g f.bl)))/\Out pg (pg+1) w w':=by
 obtain⟨sz,bl⟩:=f;have HD:Xp (flW cnt g ⟨sz,bl⟩=if 0<=sz/\sz<=96 then(if(bl.length:Int)=JK sz then blW cnt g bl else 2)else 3):=rfl;have HC:Xp (Box w pc [I6 cnt]):=hc;have HG:Xp (Box w pg (qD 80 g)):=hg;have HR:Xp (zf1 blE pg (pg+1) w (O xa bl.length xc) bl):=hr;have HNE:Xp (pc≠pg):=hne;have hbig:=(hr.now).short;clear hc hg hr hne;simp only at hbig
 show Xq _ _ #[Xi #[I6 sz,O xa bl.length xc],_] _ _
 generalize flW cnt g ⟨sz,bl⟩=Z at HD⊢
 simp only
 by_cases h1:0<=sz/\sz<=96
 ·rw[kE h1]at HD;obtain⟨h10,h11⟩:=h1;have hb:=fun W=>Zn (m:=sz) (n:=97) h10 (by omega) W
  have hcn:=fun W=>zkL sz W h10 h11
  by_cases h2:(bl.length:Int)=JK sz
  ·rw[kE h2]at HD;rw[<-h2]at hcn;clear h10 h11 h2;obtain⟨n,HN⟩:=kA bl.length;rw[HN.out]at hbig hcn HR⊢;obtain⟨W0,hW0⟩:=kB (w.alloc (Xk #[I6 sz,O xa n xc] 84));have HW0:Xp (_=W0):=hW0;have HG0:=gA hW0
   clear hW0;have eg:=enters_of func216 (by kernel_rfl) rfl
   have hnn:((n:Int) !=(n:Int))=Xd:=by simp
   go_enter func190,ntmps190
   go_wp2_with (go_at_call 170;refine(hb _).mono ?_;rintro e w' ⟨rfl,rfl⟩)
   go_quiet (first | (go_at_call 217;exact Calls.quiet_of_same (hcn _)))
   rw[HW0.out];obtain⟨W1,hW1⟩:=kB (W0.drewN nq);have X1:Xp (Box W1 w.heap.size [I6 sz,O xa n xc]):=dD<|by rw[<-hW1,<-HW0.out];exact(Box.top w _ _ rfl).grew (show Below _ _ _ from bD (bR _ _) _)
   have O1:Xp (Out pg (pg+1) w W1):=dD<|by rw[<-hW1];exact(Out.grew HG0).trans (Out.grew (show Below _ _ _ from bD (bR _ _) _))
   have C1:Xp (Box W1 pc [I6 cnt]):=dD<|HC.out.out O1 (by have:=HNE.out;omega)
   have G1:Xp (Box W1 pg (qD 80 g)):=dD<|by rw[<-hW1];exact(HG.grew HG0).grew (show Below _ _ _ from bD (bR _ _) _)
   rw[hW1];clear hW1 hcn hb;have x0:=X1.c 0 rfl;have x1:=X1.c 1 rfl;go_wp2
   go_loopg [6,7,22] n (fun gg _ _ s22 wr=>∃kk:Nat,kk<=n/\n - kk<=gg/\s22=I6 kk/\Xp (Out pg (pg+1) w wr)/\Xp (Box wr pg (qD 80 (blG g (bl.take kk))))/\Xp (blW cnt (blG g (bl.take kk)) (bl.drop kk)=blW cnt g bl)/\Xp (Box wr pc [I6 cnt]))
   case atStart=>exact⟨0,nZ _,by omega,rfl,O1,G1,rfl,C1⟩
   obtain⟨kk,hkk,hgg,rfl,OW,GW,AW,CW⟩:=hrel;clear x0 x1
   by_cases hlt:kk<n
   ·have hltz:=kC hlt
    obtain⟨q,HQ⟩:∃q,Xp (bl[kk]? =Xa q):=⟨_,gE (by rw[HN.out];exact hlt)⟩
    obtain⟨a',c',heq,hrow⟩:=(HR wr OW).nums;rw[HN.out]at heq;cases heq;obtain⟨ad,rfl,hl⟩:=hrow kk q HQ.out;have d0:=hl wr (zc.refl _);have hcall:=zl1 q cnt (blG g (bl.take kk)) pc pg wr CW GW hn;have HST:Xp (blW cnt (blG g (bl.take kk)) (bl.drop kk)=if Q0 cnt (blG g (bl.take kk)) q=0 then blW cnt (blG g (bl.take (kk+1))) (bl.drop (kk+1))else Q0 cnt (blG g (bl.take kk)) q):=dD<|by
     rw[jP HQ.out,jB HQ.out,zhI];rfl
    rw[<-zhI,<-jB HQ.out]at hcall;clear hl hrow
    generalize Q0 cnt (blG g (bl.take kk)) q=z at hcall HST
    by_cases hz:z=0
    ·have HA:Xp (blW cnt (blG g (bl.take (kk+1))) (bl.drop (kk+1))=blW cnt g bl):=dD<|by rw[<-AW.out,HST.out,kE hz]
     subst hz;go_wp2_with fail;refine hcall.mono ?_;rintro e W2 ⟨rfl,k1,k2,k3⟩;have G2:Xp (Box W2 pg (qD 80 (blG g (bl.take (kk+1))))):=k1 (by first | exact rfl | exact trivial)
     have O2:Xp (Out pg (pg+1) w W2):=OW.trans (Out.grown k2 (fun g hg=>by cases hg;omega))
     have C2:Xp (Box W2 pc [I6 cnt]):=CW.grown k2 HNE.out;clear k1 k2 k3 hcall;go_wp2
     go_roundg (n -(kk+1))
     case measure=>omega
     exact⟨kk+1,by omega,by omega,by go_num,O2,G2,HA,C2⟩
    have hzb:(z != 0)=Xc:=by simpa using hz
    have HF:Xp (Z=z):=dD<|by
     have h1:=AW.out;rw[HST.out,kF hz]at h1;rw[HD.out,<-h1]
    go_wp2_with fail;refine hcall.mono ?_;rintro e W2 ⟨rfl,k1,k2,k3⟩;have O2:Xp (Out pg (pg+1) w W2):=OW.trans (Out.grown k2 (fun g hg=>by cases hg;omega))
    clear k1 k2 k3 hcall;go_wp2;go_ret;exact⟨by rw[HF.out];rfl,fun h=>absurd (HF.symm.trans h) hz,O2⟩
   have hltz:=kD hlt
   have:kk=n:=by omega
   subst this;have HF:Xp (Z=0):=dD<|by
    rw[HD.out,<-AW.out,Ys (by rw[HN.out];exact nR _)]
    rfl
   have GE:Xp (Box wr pg (qD 80 (blG g bl))):=dD<|by
    have:=GW.out;rw[List.take_of_length_le (by rw[HN.out];exact nR _)]at this
    exact this
   go_wp2;go_ret;exact⟨by rw[HF.out];rfl,fun _=>GE.out,OW⟩
  rw[kF h2]at HD;have hnn:((bl.length:Int) != JK sz)=Xc:=by simpa using h2
  clear h2 h10 h11
  generalize JK sz=cp at*
  obtain⟨n,HN⟩:=kA bl.length;rw[HN.out]at hbig hnn HR⊢
  go_enter func190,ntmps190
  go_wp2_with (go_at_call 170;refine(hb _).mono ?_;rintro e w' ⟨rfl,rfl⟩)
  go_quiet (first | (go_at_call 217;exact Calls.quiet_of_same (hcn _)))
  go_wp2;go_ret;exact⟨by rw[HD.out];rfl,fun h=>(by rw[HD.out]at h;cases h),(Out.grew (za _ _)).trans (Out.grew (show Below _ _ _ from bD (bR _ _) _))⟩
 rw[kF h1]at HD;have hb:=fun W=>zaI (m:=sz) (n:=97) (by omega) W
 clear h1;obtain⟨n,HN⟩:=kA bl.length;rw[HN.out]at hbig HR⊢
 go_enter func190,ntmps190
 go_wp2_with (go_at_call 170;refine(hb _).mono ?_;rintro e w' ⟨rfl,rfl⟩)
 go_ret;exact⟨by rw[HD.out];rfl,fun h=>(by rw[HD.out]at h;cases h),Out.grew (za _ _)⟩
end
end Go.Proofs.YtacihbmelcegbaaGreat
