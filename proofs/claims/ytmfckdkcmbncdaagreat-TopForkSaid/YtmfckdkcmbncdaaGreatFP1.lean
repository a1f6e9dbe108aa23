import Derived.Test.YtmfckdkcmbncdaaGreatFP0
import Derived.BigQuiet
import Derived.WalkSmall
import Derived.Deep.Cut
import Derived.ChangeKeysEq
import Derived.Deep.MidRow
import Derived.Laws.ResultCell
import Derived.OrdersHeld
import Derived.Deep.QuietTactic
namespace Go.Proofs.YtmfckdkcmbncdaaGreat
open Go.Value renaming slice→O,int→Xe,bool→Xh,agg→Xi,pointer→Xj,tuple→Xm
open Go.IntKind renaming i64→Xf,u8→Xg
open Go.Obj renaming cells→Xk
open Go.Ending renaming returned→Xl
open Go renaming World→Xn,Calls→Xp,Value→Xq
open Go.RowKit renaming Hid→Xo
open Option renaming some→Xa,none→Xb
open Bool renaming true→Xc,false→Xd
open List renaming replicate→Xr
open _root_.List renaming getElem?_range→Xs,getElem?_of_mem→Xt,mem_range→Xu,mem_map→Xv,mem_or_eq_of_mem_set→Xw,getElem?_map→Xx,range→Xy,pairwise_cons→Xz,mem_append→Ya,any_eq_true→Yb,countP_append→Yc,length_nil→Yd,append_assoc→Yf,drop_of_length_le→Yg,takeWhile_append_dropWhile→Yh,filter_append→Yj,mem_of_find?_eq_some→Yk,nodup_append→Yl,take_add_one→Ym,filter_cons_of_pos→Yn,filter_cons_of_neg→Yo,cons_append→Yp,zipWith→Yq,zipWith_cons_cons→Yr,takeWhile_sublist→Ys,length_set→Yt,set_getElem_self→Yu,mem_cons_of_mem→Yv,countP_eq_zero→Yx,countP_pos_iff→Yy,takeWhile_cons→Yz,dropWhile_cons→Oa,map_congr_left→Ob,mem_replicate→Od,find?_eq_none→Oe,mem_cons_self→Of,ext_getElem?→Oh,any_eq_false→Oi,find?_append→Oj,foldl_append→Ok
open _root_.Bool renaming and_eq_true→Ye,false_and→Yw,true_and→Oc
open Go.Sem renaming run_bind→Yi,run_pure→Og
open Go.Act renaming put→Ol
set_option maxRecDepth 100000
set_option maxHeartbeats 4000000
variable{B0 B1 b base' g j kk:Nat} {Q:Exit->Act->Xn->Prop} {T:List (Nat->En)} {l:List Ar} {m m':Ma} {o:Oper} {ops:Array Oper} {t:TypeId} {us vs:List Xq} {w' w1 w2:Xn}
open Go.Proofs.Tryz
section
def zg1 (fs:List Fl) (cnt:Int):Int:=if stW fs cnt=0 then(if fs.length=5 then 4 else 0)else stW fs cnt
def zpC (fs:List Fl) (cnt:Int):List Fl:=if zg1 fs cnt=0 then fs++ [⟨0,[]⟩]else []
def zqG (fs:List Fl) (cnt:Int):Int:=if zg1 fs cnt=0 then cnt else 0
def zqF (fs:List Fl) (cnt:Int):Int:=if zg1 fs cnt=0 then(fs.length:Int)else 0
def inL (n:Nat) (k:Int):Bool:=decide (0<=k) && decide (k< (n:Int))
def znJ (fs:List Fl) (k:Int):List Int:=match fs[k.toNat]? with | some f=>f.bl | none=>[]
def zq2 (fs:List Fl) (k:Int):Int:=match fs[k.toNat]? with | some f=>f.size | none=>0
def zfR (fs:List Fl) (cnt k n:Int):Int:=if stW fs cnt=0 then(if inL fs.length k=Xc then(if 0<=n/\n<=96 then 0 else 3)else 5)else stW fs cnt
def zlz (fs:List Fl) (cnt k n:Int):List Fl:=if zfR fs cnt k n=0 then fs.set k.toNat ⟨n,zcu (znJ fs k) (zcl n).toNat⟩else []
def zn2 (fs:List Fl) (cnt k n:Int):Int:=if zfR fs cnt k n=0 then cnt else 0
def Jy (fs:List Fl) (cnt k x:Int):Int:=if stW fs cnt=0 then(if inL fs.length k=Xc then(if inL (znJ fs k).length x=Xc then(if(znJ fs k).getD x.toNat 0=-1 then(if Qa fs cnt=[]then 10 else 0)else 0)else 9)else 5)else stW fs cnt
def zpF (fs:List Fl) (cnt k x:Int):Int:=if(znJ fs k).getD x.toNat 0=-1 then(((Qa fs cnt).headD 0:Nat):Int)else(znJ fs k).getD x.toNat 0
def ziP (fs:List Fl) (cnt k x:Int):Int:=if Jy fs cnt k x=0 then zpF fs cnt k x else 0
def zho (fs:List Fl) (cnt k x:Int):List Fl:=if Jy fs cnt k x=0 then fs.set k.toNat ⟨zq2 fs k,(znJ fs k).set x.toNat (zpF fs cnt k x)⟩else []
def zlF (fs:List Fl) (cnt k x:Int):Int:=if Jy fs cnt k x=0 then cnt else 0
theorem Qv {n:Nat} {k:Int}:inL n k=Xc↔0<=k/\k< (n:Int):=by simp[inL]
theorem znu (fs:List Fl) (a:Int):
  (stW fs a≠0/\zg1 fs a=stW fs a/\zpC fs a=[]/\zqG fs a=0/\zqF fs a=0)\/
  (stW fs a=0/\fs.length=5/\zg1 fs a=4/\zpC fs a=[]/\zqG fs a=0/\zqF fs a=0)\/
  (stW fs a=0/\fs.length<5/\zg1 fs a=0/\zpC fs a=fs++ [⟨0,[]⟩]/\zqG fs a=a/\zqF fs a=(fs.length:Int)):=by
 have d:∀z,zg1 fs a=z->z≠0->zpC fs a=[]/\zqG fs a=0/\zqF fs a=0:=fun z h b=>by
  have:¬zg1 fs a=0:=by omega
  exact⟨kF this,kF this,kF this⟩
 by_cases b:stW fs a=0
 ·have c:=((qC fs a).1 b).1.1
  by_cases c:fs.length=5
  ·have h:zg1 fs a=4:=by unfold zg1;rw[kE b,kE c]
   exact .inr (.inl ⟨b,c,h,d _ h (by decide)⟩)
  have h:zg1 fs a=0:=by unfold zg1;rw[kE b,kF c]
  exact .inr (.inr ⟨b,by omega,h,kE h,kE h,kE h⟩)
 have h:zg1 fs a=stW fs a:=by unfold zg1;rw[kF b]
 exact .inl ⟨b,h,d _ h b⟩
theorem zmc (fs:List Fl) (a k n:Int):
  (stW fs a≠0/\zfR fs a k n=stW fs a/\zlz fs a k n=[]/\zn2 fs a k n=0)\/
  (stW fs a=0/\¬(0<=k/\k< (fs.length:Int))/\zfR fs a k n=5/\zlz fs a k n=[]/\zn2 fs a k n=0)\/
  (stW fs a=0/\∃(i:Nat) (f:Fl),k=(i:Int)/\fs[i]? =Xa f/\¬(0<=n/\n<=96)/\zfR fs a k n=3/\zlz fs a k n=[]/\zn2 fs a k n=0)\/
  (stW fs a=0/\∃(i:Nat) (f:Fl),k=(i:Int)/\fs[i]? =Xa f/\(0<=n/\n<=96)/\zfR fs a k n=0/\zlz fs a k n=fs.set i ⟨n,zcu f.bl (zcl n).toNat⟩/\zn2 fs a k n=a):=by
 have g:∀z,zfR fs a k n=z->z≠0->zlz fs a k n=[]/\zn2 fs a k n=0:=fun z h b=>by
  have:¬zfR fs a k n=0:=by omega
  exact⟨kF this,kF this⟩
 by_cases b:stW fs a=0
 ·by_cases d:0<=k/\k< (fs.length:Int)
  ·obtain⟨i,rfl⟩:∃i:Nat,k=(i:Int):=⟨k.toNat,by omega⟩
   obtain⟨f,e⟩:∃f,fs[i]? =Xa f:=⟨_,gE (by omega)⟩
   have j:=Qv.2 d
   by_cases c:0<=n/\n<=96
   ·have h:zfR fs a i n=0:=by unfold zfR;rw[kE b,kE j,kE c]
    refine .inr (.inr (.inr ⟨b,i,f,rfl,e,c,h,?_,kE h⟩));unfold zlz znJ;rw[kE h,tN,e]
   have h:zfR fs a i n=3:=by unfold zfR;rw[kE b,kE j,kF c]
   exact .inr (.inr (.inl ⟨b,i,f,rfl,e,c,h,g _ h (by decide)⟩))
  have h:zfR fs a k n=5:=by unfold zfR;rw[kE b,kF (by rw[Qv];exact d)]
  exact .inr (.inl ⟨b,d,h,g _ h (by decide)⟩)
 have h:zfR fs a k n=stW fs a:=by unfold zfR;rw[kF b]
 exact .inl ⟨b,h,g _ h b⟩
theorem znI (fs:List Fl) (a k x:Int):
  (stW fs a≠0/\Jy fs a k x=stW fs a/\zho fs a k x=[]/\zlF fs a k x=0/\ziP fs a k x=0)\/
  (stW fs a=0/\¬(0<=k/\k< (fs.length:Int))/\Jy fs a k x=5/\zho fs a k x=[]/\zlF fs a k x=0/\ziP fs a k x=0)\/
  (stW fs a=0/\∃(i:Nat) (f:Fl),k=(i:Int)/\fs[i]? =Xa f/\¬(0<=x/\x< (f.bl.length:Int))/\Jy fs a k x=9/\zho fs a k x=[]/\zlF fs a k x=0/\ziP fs a k x=0)\/
  (stW fs a=0/\∃(i:Nat) (f:Fl) (j:Nat) (b:Int),k=(i:Int)/\fs[i]? =Xa f/\x=(j:Int)/\f.bl[j]? =Xa b/\0<=b/\b<a/\Jy fs a k x=0/\zho fs a k x=fs/\zlF fs a k x=a/\ziP fs a k x=b)\/
  (stW fs a=0/\∃(i:Nat) (f:Fl) (j:Nat),k=(i:Int)/\fs[i]? =Xa f/\x=(j:Int)/\f.bl[j]? =Xa (-1)/\Qa fs a=[]/\Jy fs a k x=10/\zho fs a k x=[]/\zlF fs a k x=0/\ziP fs a k x=0)\/
  (stW fs a=0/\∃(i:Nat) (f:Fl) (j:Nat) (b:Nat) (l:List Nat),k=(i:Int)/\fs[i]? =Xa f/\x=(j:Int)/\f.bl[j]? =Xa (-1)/\Qa fs a=b :: l/\Jy fs a k x=0/\zho fs a k x=fs.set i ⟨f.size,f.bl.set j (b:Int)⟩/\zlF fs a k x=a/\ziP fs a k x=(b:Int)):=by
 have r:∀z,Jy fs a k x=z->z≠0->zho fs a k x=[]/\zlF fs a k x=0/\ziP fs a k x=0:=fun z h C=>by
  have:¬Jy fs a k x=0:=by omega
  exact⟨kF this,kF this,kF this⟩
 by_cases c:stW fs a=0
 ·by_cases s:0<=k/\k< (fs.length:Int)
  ·obtain⟨i,rfl⟩:∃i:Nat,k=(i:Int):=⟨k.toNat,by omega⟩
   obtain⟨f,e⟩:∃f,fs[i]? =Xa f:=⟨_,gE (by omega)⟩
   have q:=Qv.2 s;have d:znJ fs (i:Int)=f.bl:=by unfold znJ;rw[tN,e]
   have y:zq2 fs (i:Int)=f.size:=by unfold zq2;rw[tN,e]
   by_cases t:0<=x/\x< (f.bl.length:Int)
   ·obtain⟨j,rfl⟩:∃j:Nat,x=(j:Int):=⟨x.toNat,by omega⟩
    obtain⟨b,m⟩:∃b,f.bl[j]? =Xa b:=⟨_,gE (by omega)⟩
    have g:=Qv.2 t;have p:f.bl.getD (j:Int).toNat 0=b:=by rw[tN,gD,m];rfl
    by_cases u:b=-1
    ·subst u
     cases v:Qa fs a with
     | nil=>
      have h:Jy fs a i j=10:=by unfold Jy;rw[kE c,kE q,d,kE g,p,kE rfl,kE v]
      exact .inr (.inr (.inr (.inr (.inl ⟨c,i,f,j,rfl,e,rfl,m,rfl,h,r _ h (by decide)⟩))))
     | cons b l=>
      have h:Jy fs a i j=0:=by unfold Jy;rw[kE c,kE q,d,kE g,p,kE rfl,kF (by rw[v];simp)]
      have n:zpF fs a i j=(b:Int):=by unfold zpF;rw[d,p,kE rfl,v];rfl
      refine .inr (.inr (.inr (.inr (.inr ⟨c,i,f,j,b,l,rfl,e,rfl,m,rfl,h,?_,kE h,?_⟩))))
      ·unfold zho;rw[kE h,n,d,y,tN,tN]
      unfold ziP;rw[kE h,n]
    have h:Jy fs a i j=0:=by unfold Jy;rw[kE c,kE q,d,kE g,p,kF u]
    have n:zpF fs a i j=b:=by unfold zpF;rw[d,p,kF u]
    have B:=(((qC fs a).1 c).2.1 f (mG e)).2.2 b (mG m);refine .inr (.inr (.inr (.inl ⟨c,i,f,j,b,rfl,e,rfl,m,by omega,by omega,h,?_,kE h,?_⟩)))
    ·unfold zho;rw[kE h,n,d,y,tN,tN];have A:f.bl.set j b=f.bl:=by
      obtain⟨w,rfl⟩:=gS.1 m;exact Yu w
     rw[A];obtain⟨w,rfl⟩:=gS.1 e;exact Yu w
    unfold ziP;rw[kE h,n]
   have h:Jy fs a i x=9:=by unfold Jy;rw[kE c,kE q,d,kF (by rw[Qv];exact t)]
   exact .inr (.inr (.inl ⟨c,i,f,rfl,e,t,h,r _ h (by decide)⟩))
  have h:Jy fs a k x=5:=by unfold Jy;rw[kE c,kF (by rw[Qv];exact s)]
  exact .inr (.inl ⟨c,s,h,r _ h (by decide)⟩)
 have h:Jy fs a k x=stW fs a:=by unfold Jy;rw[kF c]
 exact .inl ⟨c,h,r _ h c⟩
theorem zjP (f:Fl):∀(fs:List Fl) (i:Nat) (b:Fl),fs[i]? =Xa b->zbB (fs.set i f)=zbB (fs.take i)++(f.bl++zbB (fs.drop (i+1)))/\zbB fs=zbB (fs.take i)++(b.bl++zbB (fs.drop (i+1)))
 | [],i,b,h=>by simp at h
 | a :: l,0,b,h=>by
  simp at h
  subst h
  simp[zbB]
 | a :: l,i+1,b,h=>by
  obtain⟨c,d⟩:=zjP f l i b (by simpa using h)
  unfold zbB at c d⊢;simp only[sS,List.flatMap_cons,List.take_succ_cons,List.drop_succ_cons,Yf];rw[c,<-d];exact⟨rfl,rfl⟩
theorem zoK {fs:List Fl} {a:Int} (h:b∈Qa fs a):(b:Int)<a/\(b:Int)∉zbB fs:=by
 unfold Qa at h;obtain⟨c,a⟩:=List.mem_filter.1 h;have:=Xu.1 c;refine⟨by omega,fun h=>?_⟩
 rw[(zeW fs _).2 h]at a;cases a
theorem zqa {A C l:List Int} {b:Int} (d:l[j]? =Xa (-1)):∀x,x≠-1->(x∈A++(l.set j b++C)↔(x∈A++(l++C)\/x=b)):=fun x g=>by
 have c:=(gS.1 d).1;have:x∈l.set j b↔x∈l\/x=b:=by
  constructor
  ·intro h;exact(Xw h)
  rintro(h|rfl)
  ·obtain⟨f,a⟩:=Xt h
   by_cases e:f=j
   ·subst e;rw[d]at a;cases a;exact absurd rfl g
   exact mG (i:=f) (by rw[sN (fun h=>e h.symm)];exact a)
  exact mG (i:=j) (by rw[sF c])
 simp only[Ya,this];constructor
 ·rintro(h | (h|h) | h) <;> simp[h]
 rintro((h|h|h) | h) <;> simp[h]
theorem zkk {l:List Int} (b:Int) (hb:b≠-1) (c:l[j]? =Xa (-1)):Jv (l.set j b)=Jv (l.take j)++(b :: Jv (l.drop (j+1)))/\Jv l=Jv (l.take j)++Jv (l.drop (j+1)):=by
 obtain⟨a,d⟩:=gS.1 c;have c:l.set j b=l.take j++b :: l.drop (j+1):=List.set_eq_take_append_cons_drop.trans (kE a);have a:l=l.take j++(-1) :: l.drop (j+1):=by
  rw[<-d,List.getElem_cons_drop,List.take_append_drop]
 unfold Jv;constructor
 ·rw[c,Yj,Yn (by simpa using hb)]
 conv=>lhs;rw[a]
 rw[Yj,Yo (by simp)]
theorem zmy {A B C:List Int} {b:Int} (h:(A++(B++C)).Nodup) (i:b∉A) (f:b∉B++C):(A++((B++(b :: C)))).Nodup:=by
 rw[Yl]at h⊢;obtain⟨l,d,g⟩:=h;have m:=d;rw[Yl]at d;obtain⟨n,p,q⟩:=d;have j:b∉B:=fun h=>f (Ya.2 (.inl h))
 have k:b∉C:=fun h=>f (Ya.2 (.inr h))
 refine⟨l,?_,fun x c y a=>?_⟩
 ·rw[Yl];refine⟨n,List.nodup_cons.2 ⟨k,p⟩,fun x c y a=>?_⟩
  rcases mC.1 a with rfl|a
  ·exact fun e=>j (e ▸ c)
  exact q x c y a
 rcases Ya.1 a with a|a
 ·exact g x c y (Ya.2 (.inl a))
 rcases mC.1 a with rfl|a
 ·exact fun e=>i (e ▸ c)
 exact g x c y (Ya.2 (.inr a))
theorem zkT {fs:List Fl} {a:Int} {i:Nat} {f:Fl} (h:stW fs a=0) (p:fs[i]? =Xa f) (q:f.bl[j]? =Xa (-1)) (hb:b∈Qa fs a):
  stW (fs.set i ⟨f.size,f.bl.set j (b:Int)⟩) a=0/\(Qa (fs.set i ⟨f.size,f.bl.set j (b:Int)⟩) a).length+1=(Qa fs a).length:=by
 obtain⟨g,d⟩:=zoK hb;obtain⟨⟨c,r,s⟩,e,n⟩:=(qC fs a).1 h;obtain⟨m,k⟩:=zjP ⟨f.size,f.bl.set j (b:Int)⟩ fs i f p;have l:(b:Int)≠-1:=by omega
 constructor
 ·refine(qC _ _).2 ⟨⟨by rw[Yt];exact c,r,s⟩,fun r c=>?_,?_⟩
  ·rcases Xw c with c | rfl
   ·exact e r c
   obtain⟨c,r,s⟩:=e f (mG p);refine⟨c,by simp only[Yt];exact r,fun c e=>?_⟩
   rcases Xw e with e|rfl
   ·exact s c e
   exact .inr ⟨by omega,g⟩
  obtain⟨p,r⟩:=zkk (b:Int) l q;have g:∀A B:List Int,Jv (A++B)=Jv A++Jv B:=fun A B=>Yj ..
  rw[m,g,g,p,Yf];rw[k,g,g,r,Yf]at n;rw[k]at d;have p:∀L:List Int,(b:Int)∉L->(b:Int)∉Jv L:=fun L h l=>h (List.mem_filter.1 l).1
  have l:(b:Int)∉Jv (f.bl.take j)++(Jv (f.bl.drop (j+1))++Jv (zbB (fs.drop (i+1)))):=by
   intro h;refine p _ (fun h=>d (Ya.2 (.inr h))) (?_:(b:Int)∈Jv (f.bl++zbB (fs.drop (i+1))))
   rw[g,r,Yf];exact h
  exact zmy n (p _ (fun h=>d (Ya.2 (.inl h)))) l
 have g:∀c:Nat,qe (fs.set i ⟨f.size,f.bl.set j (b:Int)⟩) (c:Int)=(qe fs (c:Int) || decide (c=b)):=fun c=>by
  rw[Bool.eq_iff_iff,Bool.or_eq_true,zeW,zeW,m,k,zqa q _ (by omega),decide_eq_true_eq,Int.ofNat_inj]
 have d:Qa (fs.set i ⟨f.size,f.bl.set j (b:Int)⟩) a=(Qa fs a).erase b:=by
  have h:(Qa fs a).Nodup:=List.Nodup.sublist List.filter_sublist List.nodup_range;rw[List.Nodup.erase_eq_filter h];unfold Qa;rw[List.filter_filter]
  congr 1
  funext c
  rw[g c]
  by_cases e:c=b <;> simp[e]
 rw[d,List.length_erase_of_mem hb];have:=List.length_pos_of_mem hb;omega
end
section
open Go.RowKit
structure FlV where
 size:Int
 a:Option Addr
 n:Nat
 c:Nat
def FlV.v (x:FlV):Xq:= O x.a x.n x.c
def flv (x:FlV):List Xq:=[Xe Xf x.size,O x.a x.n x.c]
theorem zsb:(Tryz.prog.info? 159).map (fun i=>(i.zero,i.size,i.bytes))=Xa (Xa (Xi #[Xe Xf 0,O Xb 0 0]),2,32):=by kernel_rfl
def fvE:Elt FlV where
 enc:=flv
 k:=2
 ty:=159
 st:=39
 bytes:=32
 zv:= Xi #[Xe Xf 0,O Xb 0 0]
 zero:=⟨0,Xb,0,0⟩
 len:=fun _=>rfl
 one:=fun a u hu=>by
  simp only[flv,mC,nM,or_false]at hu
  rcases hu with rfl|rfl <;> rfl
 und:=underlying39
 info:=zsb
 zok:=rfl
 few:=by decide
 pos:=by decide
def qp (B0 B1:Nat) (w:Xn) (v:Xq) (fs:List Fl):Prop:=
 Cap v/\∃xs:List FlV,ziV fvE B0 B1 w v xs/\xs.length=fs.length/\∀(i:Nat) x f,xs[i]? =Xa x->fs[i]? =Xa f->x.size=f.size/\ziV blE B0 B1 w (O x.a x.n x.c) f.bl
def qq (w:Xn) (v:Xq) (fs:List Fl):Prop:=qp 0 0 w v fs
theorem qp.out {w:Xn} {v:Xq} {fs:List Fl} (h:qp B0 B1 w v fs) (k:Out B0 B1 w w'):qp B0 B1 w' v fs:=by
 obtain⟨d,e,b,c,a⟩:=h;exact⟨d,e,b.out k,c,fun i x f c b=>⟨(a i x f c b).1,(a i x f c b).2.out k⟩⟩
theorem qp.grew {w:Xn} {v:Xq} {fs:List Fl} (h:qp B0 B1 w v fs) (k:zb w w'):qp B0 B1 w' v fs:=h.out (Out.grew k)
theorem qp.less {A0 A1:Nat} {w:Xn} {v:Xq} {fs:List Fl} (h:qp B0 B1 w v fs) (a:B0<=A0) (b:A1<=B1):qp A0 A1 w v fs:=by
 obtain⟨c,g,d,f,e⟩:=h;exact⟨c,g,d.less a b,f,fun i x f d c=>⟨(e i x f d c).1,(e i x f d c).2.less a b⟩⟩
theorem qq.grew {w:Xn} {v:Xq} {fs:List Fl} (h:qq w v fs) (k:zb w w'):qq w' v fs:=qp.grew h k
theorem qp.nil (B0 B1:Nat) (w):qp B0 B1 w (O Xb 0 0) []:=⟨nR _,[],fun a _=>zl.nil fvE a,rfl,fun i x f a=>by simp at a⟩
def znZ (W:Xn) (y:Addr) (s:Int) (b:Xq):Prop:=W.cell? y=Xa (Xe Xf s)/\W.cell? { block:=y.block,off:=y.off+1 }=Xa b
def zjW (w:Xn) (a:Option Addr) (fs:List Fl):Prop:=∀(j:Nat) f,fs[j]? =Xa f->∃ad,a=Xa ad/\∃xa xc,zl blE w (O xa f.bl.length xc) f.bl/\∀W,zb w W->znZ W (ad.add (j*2)) f.size (O xa f.bl.length xc)
theorem qq.rows {w:Xn} {v:Xq} {fs:List Fl} (h:qq w v fs):∃a c,v= O a fs.length c/\fs.length<=9223372036854775807/\zjW w a fs:=by
 obtain⟨_,i,d,b,l⟩:=h;obtain⟨a,c,e,g⟩:=d.now.rows;refine⟨a,c,by rw[<-b];exact e,by rw[<-b];exact d.now.short,fun j k e=>?_⟩
 obtain⟨x,f⟩:∃x,i[j]? =Xa x:=⟨_,gE (by rw[b];exact(gS.1 e).1)⟩
 obtain⟨h,i,d⟩:=g j x f;obtain⟨g,m⟩:=l j x k f e;have b:=m.now;obtain⟨⟨e,e,e,_⟩,_⟩:=id b;cases x;simp only at g b e;cases e;subst g;refine⟨h,i,_,_,b,fun W b=>⟨?_,?_⟩⟩
 ·exact d W b 0 _ rfl
 exact d W b 1 _ rfl
theorem zdP (m n:Int) (w):
  Xp prog 27 #[Xe Xf m,Xe Xf n] w fun e w'=>e= Xl (Xh (bel m n))/\w'=w:=by
 have H:Xo (bel m n=(decide (0<=m) && decide (m<n))):=rfl
 by_cases a:0<=m
 ·by_cases a:m<n
  ·go_enter func27,ntmps27
   go_wp2;go_ret;exact⟨by rw[H.out];simp[*],rfl⟩
  go_enter func27,ntmps27
  go_wp2;go_ret;exact⟨by rw[H.out];simp[*],rfl⟩
 go_enter func27,ntmps27
 go_wp2;go_ret;exact⟨by rw[H.out];simp;omega,rfl⟩
theorem j8 {m n:Int} (a:0<=m) (b:m<n) (w):Xp prog 27 #[Xe Xf m,Xe Xf n] w fun e w'=>e= Xl (Xh Xc)/\w'=w:=by
 have:=zdP m n w;rw[j9.2 ⟨a,b⟩]at this;exact this
theorem zak {m n:Int} (h:¬(0<=m/\m<n)) (w):Xp prog 27 #[Xe Xf m,Xe Xf n] w fun e w'=>e= Xl (Xh Xd)/\w'=w:=by
 have:=zdP m n w;rw[znL h]at this;exact this
theorem zmm {a b:Int} (h:a=b):Ending.returned (Xe Xf a)= Xl (Xe Xf b):=by rw[h]
theorem zbx (n:Int) (w) (a:0<=n) (b:n<=96):
  Xp prog 149 #[Xe Xf n] w fun e w'=>e= Xl (Xe Xf (zcl n))/\w'=w:=by
 by_cases h:n<1
 ·have H:Xo (zcl n=0):=dD<|by unfold zcl;rw[kE h]
  go_enter func149,ntmps149
  go_wp2;go_ret;exact⟨zmm H.symm,rfl⟩
 have H:Xo (zcl n=(n - 1) / 8+1):=dD<|by unfold zcl;rw[kF h]
 go_enter func149,ntmps149
 go_wp2;go_ret;exact⟨zmm H.symm,rfl⟩
theorem zg9 (v fs) (w:Xn) (h:zl blE w v fs):
  Xp prog 102 #[v] w fun e w'=>∃g,e= Xl g/\zc blE w.heap.size w' g fs/\zb w w':=by
 have j:=dD h;obtain⟨⟨d,f,rfl,b,c⟩,a⟩:=h;have h:∀(w:Xn) (d:Option Addr) (n f i h:Nat),(binOp .eql 33 (O d n f) (O Xb i h)).run prog w= .ok (Xh d.isNone) w:=fun w d n f i h=>Lib.run_eql_slice_nil w _ _ d n f i h underlying33
 cases d with
 | none=>
  have d:=b rfl;subst d;clear c b a
  go_enter func102,ntmps102
  go_wp2;go_ret;exact⟨_,rfl,zc.nil _ _ _,zb.refl w⟩
 | some x=>
  have d:=dD a;clear c b a
  go_enter func102,ntmps102
  go_wp2_with (at_builtin;refine zx (E:=blE) rfl (.tmp 5) (.tmp 6) rfl w.heap.size _ [] rfl (zc.made blE w) _ fs rfl (j.grew (za _ _)) ?qb (by simp) ?_)
  case qb=>rw[Yd,zA];exact d.out
  intro g a b a;go_wp2;go_ret;exact⟨g,rfl,by simpa using b,((bR _ w).alloc (nR _) _).grown a (by simp) (by intro k a;simp[Value.ownBlock]at a;omega)⟩
theorem zfJ (v) (fs:List FlV) (w:Xn) (h:zl fvE w v fs):
  Xp prog 101 #[v] w fun e w'=>∃g,e= Xl g/\zc fvE w.heap.size w' g fs/\zb w w':=by
 have j:=dD h;obtain⟨⟨d,f,rfl,b,c⟩,a⟩:=h;have h:∀(w:Xn) (d:Option Addr) (n f i h:Nat),(binOp .eql 39 (O d n f) (O Xb i h)).run prog w= .ok (Xh d.isNone) w:=fun w d n f i h=>Lib.run_eql_slice_nil w _ _ d n f i h underlying39
 cases d with
 | none=>
  have d:=b rfl;subst d;clear c b a
  go_enter func101,ntmps101
  go_wp2;go_ret;exact⟨_,rfl,zc.nil _ _ _,zb.refl w⟩
 | some x=>
  have d:=dD a;clear c b a
  go_enter func101,ntmps101
  go_wp2_with (at_builtin;refine zx (E:=fvE) rfl (.tmp 5) (.tmp 6) rfl w.heap.size _ [] rfl (zc.made fvE w) _ fs rfl (j.grew (za _ _)) ?qb (by simp) ?_)
  case qb=>rw[Yd,zA];exact d.out
  intro g a b a;go_wp2;go_ret;exact⟨g,rfl,by simpa using b,((bR _ w).alloc (nR _) _).grown a (by simp) (by intro k a;simp[Value.ownBlock]at a;omega)⟩
def z2 (base:Nat) (w:Xn) (v:Xq) (fs:List Fl):Prop:=
 ∃xs:List FlV,zc fvE base w v xs/\xs.length=fs.length/\(∀(i:Nat) x f,xs[i]? =Xa x->fs[i]? =Xa f->x.size=f.size/\zc blE base w x.v f.bl)/\
  ∀(i j:Nat) x y,i≠j->xs[i]? =Xa x->xs[j]? =Xa y->∀g,x.v.ownBlock=Xa g->y.v.ownBlock≠Xa g
theorem z2.new {base:Nat} {w:Xn} {v:Xq} {fs:List Fl} (h:z2 base w v fs):qp 0 base w v fs:=by
 obtain⟨d,a,c,b,_⟩:=h;exact⟨a.cap,d,a.new.stays,c,fun i x f c a=>⟨(b i x f c a).1,(b i x f c a).2.new.stays⟩⟩
theorem z2.grew {base:Nat} {w:Xn} {v:Xq} {fs:List Fl} (h:z2 base w v fs) (k:zb w w'):z2 base w' v fs:=by
 obtain⟨e,b,c,a,d⟩:=h;exact⟨e,b.grew k,c,fun i x f c b=>⟨(a i x f c b).1,(a i x f c b).2.grew k⟩,d⟩
theorem z2.setCell {base:Nat} {w:Xn} {v:Xq} {fs:List Fl} (h:z2 base w v fs) {a:Addr} (c:a.block<base) (u):z2 base (w.setCell a u) v fs:=by
 obtain⟨f,d,e,b,g⟩:=h;exact⟨f,d.setCell c u,e,fun i x f e d=>⟨(b i x f e d).1,(b i x f e d).2.setCell c u⟩,g⟩
theorem QC:blE.ty≠fvE.ty:=by decide
theorem z2.setBox {base:Nat} {w:Xn} {v:Xq} {fs:List Fl} (h:z2 base w v fs) {cs:List Xq} (hb:zn w b t cs) (c:t≠fvE.ty) (e:t≠blE.ty) (i:Nat) (u):z2 base (w.setCell ⟨b,i,Xb⟩ u) v fs:=by
 obtain⟨j,a,f,d,g⟩:=h;exact⟨j,a.setOther (a.ne hb c) u,f,fun i x f c a=>⟨(d i x f c a).1,(d i x f c a).2.setOther ((d i x f c a).2.ne hb e) u⟩,g⟩
structure zqU (base:Nat) (w:Xn) (kk:Nat) (xs ys:List FlV) (fs:List Fl):Prop where
 len:ys.length=xs.length
 own:∀(i:Nat) y f,i<kk->ys[i]? =Xa y->fs[i]? =Xa f->y.size=f.size/\zc blE base w y.v f.bl
 rest:∀(i:Nat),kk<=i->ys[i]? =xs[i]?
 two:∀(i j:Nat) x y,i<kk->j<kk->i≠j->ys[i]? =Xa x->ys[j]? =Xa y->∀g,x.v.ownBlock=Xa g->y.v.ownBlock≠Xa g
theorem zqU.step {base:Nat} {w:Xn} {xs z:List FlV} {fs:List Fl} (j:zqU base w kk xs z fs) (U:zb w w1) (F:w1.grownBy w2 (Xa g)) {f:Fl} {x:FlV} (M:fs[kk]? =Xa f) (X:xs[kk]? =Xa x)
  (V:x.size=f.size) {a:Option Addr} {n c:Nat} (e:zc blE w.heap.size w1 (O a n c) f.bl) (hb:base<=w.heap.size) {v:Xq} (W:zc fvE base w1 v z) (K:v.ownBlock=Xa g):zqU base w2 (kk+1) xs (z.set kk ⟨x.size,a,n,c⟩) fs:=by
 have H:kk<z.length:=by rw[j.len];exact(gS.1 X).1
 have k:∀(y:FlV) (L:List Int),zc blE base w1 y.v L->zc blE base w2 y.v L:=fun y L N=>N.grown F (fun p D B=>by
  cases B;exact W.apart N (Ne.symm QC) g K D)
 refine⟨by rw[Yt];exact j.len,fun i y d t r b=>?_,fun i t=>?_,fun i C P Q t I G u q p l=>?_⟩
 ·by_cases B:i=kk
  ·subst B;rw[sF H]at r;cases r;rw[M]at b;cases b;exact⟨V,k ⟨x.size,a,n,c⟩ _ (e.base hb)⟩
  rw[sN (fun j=>B j.symm)]at r
  obtain⟨Y,Z⟩:=j.own i y d (by omega) r b
  exact⟨Y,k y _ (Z.grew U)⟩
 ·rw[sN (by omega)]
  exact j.rest i (by omega)
 have h:∀(i:Nat) y d,i<kk->z[i]? =Xa y->fs[i]? =Xa d->∀A,y.v.ownBlock=Xa A->A<w.heap.size:=fun i y d t r b A E=>((j.own i y d t r b).2.lt A E).2
 have s:∀i,i<kk->∃d,fs[i]? =Xa d:=fun i t=>⟨_,gE (by have:=(gS.1 M).1;omega)⟩
 by_cases R:i=kk
 ·subst R;rw[sF H]at u;cases u;rw[sN (by omega)]at q
  obtain⟨d,b⟩:=s C (by omega)
  intro m;have D:=h C Q d (by omega) q b p m
  have T:=(e.lt p l).1;omega
 rw[sN (by omega)]at u
 by_cases S:C=kk
 ·subst S;rw[sF H]at q;cases q;obtain⟨d,b⟩:=s i (by omega)
  intro m;have D:=h i P d (by omega) u b p l
  have T:=(e.lt p m).1;omega
 rw[sN (by omega)]at q
 exact j.two i C P Q (by omega) (by omega) G u q p l
theorem zqU.all {base:Nat} {w:Xn} {xs a:List FlV} {fs:List Fl} {v:Xq} (h:zqU base w xs.length xs a fs) (b:xs.length=fs.length) (c:zc fvE base w v a):z2 base w v fs:=by
 refine⟨a,c,h.len.trans b,fun i y f a b=>h.own i y f (by rw[<-h.len];exact(gS.1 a).1) a b,fun i j p q a b c=>h.two i j p q ?_ ?_ a b c⟩
 ·rw[<-h.len];exact(gS.1 b).1
 rw[<-h.len];exact(gS.1 c).1
theorem za8 (v fs) (i:Int) (w:Xn) (b3:qq w v fs):
  Xp prog 54 #[Xi #[v,Xe Xf i]] w fun e w'=>∃b,e= Xl (Xi #[b,Xe Xf i])/\z2 (w.heap.size+2) w' b fs/\zb w w'/\w.heap.size+2<=w'.heap.size:=by
 obtain⟨_,y,S,ag,a1⟩:=b3;have a8:=dD S.now;have ao:Xo (∀(k:Nat) x f,y[k]? =Xa x->fs[k]? =Xa f->x.size=f.size/\zl blE w (O x.a x.n x.c) f.bl):=show∀(k:Nat) x f,_ from fun k x f af ae=>⟨(a1 k x f af ae).1,(a1 k x f af ae).2.now⟩
 have a7:=dD ag;have F:=S.now.short;obtain⟨ax,ay,rfl,_⟩:=S.now.rows;clear S ag a1;obtain⟨n,l⟩:=kA y.length;rw[l.out]at F a8⊢;obtain⟨R,c⟩:=kB ((w.alloc (Xk #[O ax n ay,Xe Xf i] 41)).alloc (Xk #[O Xb 0 0,Xe Xf 0] 41));have r:=gD2 c
 have av:=x2a c
 have aw:=x2b c
 have h:Xo (R.heap.size=w.heap.size+2):=dD<|by rw[<-c];simp
 have V:=dD c;clear c
 go_enter func54,ntmps54
 go_wp2_with fail;rw[V.out];refine(zfJ _ y R (a8.grew r)).mono ?_;rintro e b6 ⟨bc,rfl,g,ab⟩;obtain⟨a4,T,rfl⟩:=g.form;rw[h.out]at g;rw[l.out]at g⊢;have ap:=dD g;have aj:=dD ab;clear g ab;go_wp2
 go_loopg [4,10] n (fun b0 _ a3 wr=>∃(a:Nat) (z:List FlV),a<=n/\n - a<=b0/\a3= Xe Xf a/\Xo (zb R wr)/\Xo (zc fvE (w.heap.size+2) wr (O a4 n T) z)/\Xo (zqU (w.heap.size+2) wr a y z fs))
 case atStart=>exact⟨0,y,nZ _,by omega,rfl,aj,ap,⟨rfl,fun k b5 f I=>absurd I (nL _),fun k _=>rfl,fun k bb x b5 I=>absurd I (nL _)⟩⟩
 obtain⟨a,z,b2,b1,rfl,m,Q,A⟩:=hrel
 by_cases j:a<n
 ·have L:=kC j
  obtain⟨q,U⟩:∃q,Xo (y[a]? =Xa q):=⟨_,gE (by rw[l.out];exact j)⟩
  obtain⟨f,a6⟩:∃f,Xo (fs[a]? =Xa f):=⟨_,gE (by rw[<-a7.out,l.out];exact j)⟩
  have a9:Xo (z[a]? =Xa q):=dD<|by rw[A.rest a (nR _)];exact U.out
  obtain⟨D,b4,K⟩:=Q.formS (by rw[A.len,l.out];omega)
  rw[A.len,l.out]at K;cases K;obtain⟨ah,ai⟩:=ao.out a q f U a6.out;have au:=dD ah;have H:=zg9 _ f.bl wr (ai.grew (r.trans m));obtain⟨b8,ba,M,d⟩:=Q.at.rows;obtain⟨b9,Z,G⟩:=d a q a9.out;rw[A.len,l.out]at M;cases M;cases Z;have az:wr.cell? ⟨D,a*2+1,Xb⟩=Xa (O q.a q.n q.c):=by
   have:=G wr (zb.refl _) 1 _ rfl;rw[jb,Addr.add_lit,zA]at this;exact this
  clear ah ai d G;go_wp2_with fail;refine H.mono ?_;rintro e b7 ⟨bd,rfl,u,Y⟩;obtain⟨B,C,rfl⟩:=u.form;have aa:=dD u;have a5:=dD Y;have s:=dD (Q.grew Y);have am:Xo (w.heap.size+2<=wr.heap.size):=show _<=_ by
   have:=bS m.out;rw[h.out]at this;exact this
  clear u Y H az
  generalize f.bl.length=N at aa⊢
  go_wp2_with (refine z3 (E:=fvE) rfl (.tmp 22) (.tmp 20) 33 rfl (w.heap.size+2) _ z s D a 1 rfl q ⟨q.size,B,N,C⟩ a9.out [O B N C] ?s1 rfl ?s2 ?s3 ⟨D,a*2+1,Xb⟩ rfl rfl (O B N C) rfl rfl ?_)
  case s1=>kernel_rfl
  case s2=>exact nR 2
  case s3=>simp;rfl
  intro W P t _;have aq:Xo (zc fvE (w.heap.size+2) W (O (Xa ⟨D,0,Xb⟩) n T) (z.set a ⟨q.size,B,N,C⟩)):=P;have al:Xo (zqU (w.heap.size+2) W (a+1) y (z.set a ⟨q.size,B,N,C⟩) fs):=A.step a5 t a6 U au aa am s rfl;have ak:Xo (zb R W):=show zb _ _ from zd (m.trans a5) t (by
   rw[h.out];exact(s.lt D rfl).1)
  clear P t;go_wp2
  go_roundg (n -(a+1))
  case measure=>omega
  exact⟨a+1,_,by omega,by omega,by go_num,ak,aq,al⟩
 have L:=kD j
 have:a=n:=by omega
 subst this;have ar:Xo (z2 (w.heap.size+2) wr (O a4 a T) fs):=dD<|by
  have ac:=A.out;rw[<-l.out]at ac;exact ac.all a7 Q.out
 have be:=(av.grew m).c 1 rfl;have X:=aw.grew m.out;have bf:=X.c 0 rfl;have bg:=X.c 1 rfl;have bh:=X.f;have an:=dD (r.trans m);go_wp2;refine bodyPost_ret (v:= Xi #[O a4 a T,Xe Xf i]) (by simp[results,Tryz.results54,go_sem, *]) rfl ⟨_,rfl,(ar.setCell (by simp) _).setCell (by simp) _,?_,?_⟩
 ·exact Below.setCell (Below.setCell an (p:=⟨w.heap.size+1,0,Xb⟩) (by simp) _) (p:=⟨w.heap.size+1,1,Xb⟩) (by simp) _
 have:=bS m.out;rw[h.out]at this
 simp[World.setCell]
 exact this
def env (e:En):List Xq:=[Xe Xf e.kind,Xe Xf e.n,Xh e.wr]
theorem zsc:(Tryz.prog.info? 127).map (fun i=>(i.zero,i.size,i.bytes))=Xa (Xa (Xi #[Xe Xf 0,Xe Xf 0,Xh Xd]),3,24):=by kernel_rfl
def enE:Elt En where
 enc:=env
 k:=3
 ty:=127
 st:=72
 bytes:=24
 zv:= Xi #[Xe Xf 0,Xe Xf 0,Xh Xd]
 zero:=en0
 len:=fun _=>rfl
 one:=fun a u hu=>by
  simp only[env,mC,nM,or_false]at hu
  rcases hu with rfl|rfl|rfl <;> rfl
 und:=underlying72
 info:=zsc
 zok:=rfl
 few:=by decide
 pos:=by decide
def zqV (W:Xn) (y:Addr) (e:En):Prop:=W.cell? y=Xa (Xe Xf e.kind)/\W.cell? { block:=y.block,off:=y.off+1 }=Xa (Xe Xf e.n)/\W.cell? { block:=y.block,off:=y.off+2 }=Xa (Xh e.wr)
def zrx (w:Xn) (a:Option Addr) (l:List En):Prop:=∀(j:Nat) e,l[j]? =Xa e->∃ad,a=Xa ad/\∀W,zb w W->zqV W (ad.add (j*3)) e
theorem zl.ens {w:Xn} {v:Xq} {l:List En} (h:zl enE w v l):∃a c,v= O a l.length c/\zrx w a l:=by
 obtain⟨a,c,b,e⟩:=h.rows;refine⟨a,c,b,fun j x g=>?_⟩
 obtain⟨d,f,b⟩:=e j x g;exact⟨d,f,fun W d=>⟨b W d 0 _ rfl,b W d 1 _ rfl,b W d 2 _ rfl⟩⟩
structure zaB (B0 B1:Nat) (w:Xn) (vs:List Xq) (t:List (List En)):Prop where
 len:vs.length=8
 tlen:t.length=8
 row:∀(i:Nat) v h,vs[i]? =Xa v->t[i]? =Xa h->ziV enE B0 B1 w v h
def zat (w:Xn) (vs:List Xq) (t:List (List En)):Prop:=zaB 0 0 w vs t
theorem zaB.out {w:Xn} {t:List (List En)} (h:zaB B0 B1 w vs t) (k:Out B0 B1 w w'):zaB B0 B1 w' vs t:=⟨h.len,h.tlen,fun i v x a b=>(h.row i v x a b).out k⟩
theorem zaB.grew {w:Xn} {t:List (List En)} (h:zaB B0 B1 w vs t) (k:zb w w'):zaB B0 B1 w' vs t:=h.out (Out.grew k)
theorem zaB.less {A0 A1:Nat} {w:Xn} {t:List (List En)} (h:zaB B0 B1 w vs t) (a:B0<=A0) (b:A1<=B1):zaB A0 A1 w vs t:=⟨h.len,h.tlen,fun i v x c d=>(h.row i v x c d).less a b⟩
theorem zaB.now {w:Xn} {t:List (List En)} (h:zaB B0 B1 w vs t):zat w vs t:=⟨h.len,h.tlen,fun i v x a b=>(h.row i v x a b).now.s0⟩
theorem zat.grew {w:Xn} {t:List (List En)} (h:zat w vs t) (k:zb w w'):zat w' vs t:=zaB.grew h k
def zfe:List Xq:=Xr 8 (O Xb 0 0)
theorem zaB.nil (B0 B1:Nat) (w):zaB B0 B1 w zfe Jo:=⟨rfl,rfl,fun i v h b c=>by
 have a:=mG b;have b:=mG c;rw[zfe,Od]at a;rw[Jo,Od]at b;rw[a.2,b.2];exact fun a _=>zl.nil enE a⟩
theorem zat.half {w:Xn} {t:List (List En)} (h:zat w vs t) {i:Nat} (hi:i<8):∃a c x,t[i]? =Xa x/\vs[i]? =Xa (O a x.length c)/\zl enE w (O a x.length c) x:=by
 obtain⟨v,d⟩:∃v,vs[i]? =Xa v:=⟨_,gE (by rw[h.len];exact hi)⟩
 obtain⟨x,e⟩:∃x,t[i]? =Xa x:=⟨_,gE (by rw[h.tlen];exact hi)⟩
 have b:=(h.row i v x d e).now;obtain⟨a,c,rfl,_⟩:=b.rows;exact⟨a,c,x,e,d,b⟩
theorem zo9 {α:Type}:∀{l:List α},l.length=8->∃a b c d e f g h,l=[a,b,c,d,e,f,g,h]
 | [a,b,c,d,e,f,g,h],_=>⟨a,b,c,d,e,f,g,h,rfl⟩
theorem zeN (m n:Int) (w):
  Xp prog 127 #[Xe Xf m,Xe Xf n] w fun e w'=>e= Xl (Xh (bel m n))/\w'=w:=by
 have H:Xo (bel m n=(decide (0<=m) && decide (m<n))):=rfl
 by_cases a:0<=m
 ·by_cases a:m<n
  ·go_enter func127,ntmps127
   go_wp2;go_ret;exact⟨by rw[H.out];simp[*],rfl⟩
  go_enter func127,ntmps127
  go_wp2;go_ret;exact⟨by rw[H.out];simp[*],rfl⟩
 go_enter func127,ntmps127
 go_wp2;go_ret;exact⟨by rw[H.out];simp;omega,rfl⟩
theorem QQ {m n:Int} (a:0<=m) (b:m<n) (w):Xp prog 127 #[Xe Xf m,Xe Xf n] w fun e w'=>e= Xl (Xh Xc)/\w'=w:=by
 have:=zeN m n w;rw[j9.2 ⟨a,b⟩]at this;exact this
theorem zbz {m n:Int} (h:¬(0<=m/\m<n)) (w):Xp prog 127 #[Xe Xf m,Xe Xf n] w fun e w'=>e= Xl (Xh Xd)/\w'=w:=by
 have:=zeN m n w;rw[znL h]at this;exact this
theorem zbT (k n:Int) (b:Bool) (w):
  Xp prog 168 #[Xi #[Xe Xf k,Xe Xf n,Xh b]] w fun e w'=>e= Xl (Xh (enS ⟨k,n,b⟩))/\zb w w':=by
 have H:Xo (enS ⟨k,n,b⟩=(k != 0)):=rfl
 go_enter func168,ntmps168
 go_wp2;go_ret;exact⟨by rw[H.out];rfl,za _ _⟩
theorem zo7 {e:En} (h:¬(0<=e.kind/\e.kind<=2)):enW e=1:=by unfold enW;rw[kF h]
theorem zgS {e:En} (h:0<=e.kind/\e.kind<=2) (a:¬(0<=e.n/\e.n<=59/\(e.kind=1->e.n<=39))):enW e=3:=by unfold enW;rw[kE h,kF a]
theorem znj {e:En} (h:0<=e.kind/\e.kind<=2) (a:0<=e.n/\e.n<=59/\(e.kind=1->e.n<=39)) (b:(e.kind=0/\(e.n≠0\/e.wr=Xc))\/(e.kind=2/\e.wr=Xc)):enW e=7:=by unfold enW;rw[kE h,kE a,kE b]
def znl (a b:En):Bool:=(a.kind == b.kind) &&((a.n == b.n) &&(a.wr == b.wr))
theorem zrP (k n k' n':Int) (b b':Bool) (w):(Op.equalIn 10000 127 (Xi #[Xe Xf k,Xe Xf n,Xh b]) (Xi #[Xe Xf k',Xe Xf n',Xh b'])).run prog w= .ok (znl ⟨k,n,b⟩ ⟨k',n',b'⟩) w:=by
 have hf : (Tryz.prog.fieldsOf 127).toList.map (fun f => (f.name, f.type, f.offset)) = [("Kind", 3, 0), ("N", 3, 1), ("Write", 4, 2)] := by kernel_rfl
 rw[run_equalIn_struct w 9999 127 _ _ (by kernel_rfl) (by kernel_rfl)]
 obtain⟨f0,f1,f2,hfs⟩:∃f0 f1 f2,(Tryz.prog.fieldsOf 127).toList=[f0,f1,f2]:=by
  match hq:(Tryz.prog.fieldsOf 127).toList with
  | [f0,f1,f2]=>exact⟨f0,f1,f2,rfl⟩
  | []=>rw[hq]at hf;simp at hf
  | [_]=>rw[hq]at hf;simp at hf
  | [_,_]=>rw[hq]at hf;simp at hf
  | _ :: _ :: _ :: _ :: _=>rw[hq]at hf;simp at hf
 rw[hfs]at hf⊢
 simp at hf
 obtain⟨⟨h1,h2,h3⟩,⟨h4,h5,h6⟩,h7,h8,h9⟩:=hf;have pI:∀(zs:Array Xq) (o:Nat) v,zs[o]? =Xa (Xe Xf v)->(part 3 zs o).run prog w= .ok (Xe Xf v) w:=fun zs o v hz=>run_part_plain w (by simp[Program.plainKey,underlying3]) hz
 have pB:∀(zs:Array Xq) (o:Nat) v,zs[o]? =Xa (Xh v)->(part 4 zs o).run prog w= .ok (Xh v) w:=fun zs o v hz=>run_part_plain w (by simp[Program.plainKey,underlying4]) hz
 simp only[Op.eqFields,h1,h2,h3,h4,h5,h6,h7,h8,h9]
 simp[pI,pB,run_equalIn_int w _ _ _ _ _ _ underlying3,run_equalIn_bool' w _ _ _ _ underlying4]
 unfold znl
 by_cases e1:k=k' <;> by_cases e2:n=n' <;> cases b <;> cases b' <;> simp[e1,e2]
theorem zav (k n:Int) (b:Bool) (w):
  Xp prog 201 #[Xi #[Xe Xf k,Xe Xf n,Xh b]] w fun e w'=>e= Xl (Xe Xf (enW ⟨k,n,b⟩))/\zb w w':=by
 obtain⟨Z,j⟩:=kA (enW ⟨k,n,b⟩);rw[j.out]
 by_cases c:0<=k/\k<=2
 ·have a:=fun W=>QQ (m:=k) (n:=3) c.1 (by omega) W
  by_cases g:0<=n/\n<=59
  ·have d:=fun W=>QQ (m:=n) (n:=60) g.1 (by omega) W
   by_cases l:k=1/\39<n
   ·have f:Xo (Z=3):=dD<|by rw[<-j.out];exact zgS c (fun h=>by have:=h.2.2 l.1;simp at this;omega)
    obtain⟨rfl,l⟩:=l;have s:40<=n:=by omega
    clear c g l
    go_enter func201,ntmps201
    go_wp2_with fail;refine(a _).mono ?_;rintro e w' ⟨rfl,rfl⟩;go_wp2_with fail;refine(d _).mono ?_;rintro e w' ⟨rfl,rfl⟩;go_wp2;go_ret;exact⟨by rw[f.out];rfl,za _ _⟩
   have i:0<=n/\n<=59/\(k=1->n<=39):=⟨g.1,g.2,fun h=>by omega⟩
   obtain rfl|rfl|rfl:k=0\/k=1\/k=2:=by omega
   ·have r:=fun W=>zrP 0 n 0 0 b Xd W
    by_cases p:n=0/\b=Xd
    ·have f:Xo (Z=0):=dD<|by rw[<-j.out];exact JV c i (fun h=>by simp[p.1,p.2]at h)
     obtain⟨rfl,rfl⟩:=p;rw[show znl ⟨0,0,Xd⟩ ⟨0,0,Xd⟩=Xc from rfl]at r
     clear c g l i
     go_enter func201,ntmps201
     go_wp2_with fail;refine(a _).mono ?_;rintro e w' ⟨rfl,rfl⟩;go_wp2_with fail;refine(d _).mono ?_;rintro e w' ⟨rfl,rfl⟩;go_wp2;go_ret;exact⟨by rw[f.out];rfl,za _ _⟩
    have f:Xo (Z=7):=dD<|by
     rw[<-j.out];refine znj c i (.inl ⟨rfl,?_⟩)
     cases b with
     | false=>exact .inl (fun h=>p ⟨h,rfl⟩)
     | true=>exact .inr rfl
    have q:znl ⟨0,n,b⟩ ⟨0,0,Xd⟩=Xd:=by
     unfold znl
     cases b with
     | false=>simp;exact fun h=>p ⟨h,rfl⟩
     | true=>simp
    rw[q]at r;clear c g l i p q
    go_enter func201,ntmps201
    go_wp2_with fail;refine(a _).mono ?_;rintro e w' ⟨rfl,rfl⟩;go_wp2_with fail;refine(d _).mono ?_;rintro e w' ⟨rfl,rfl⟩;go_wp2;go_ret;exact⟨by rw[f.out];rfl,za _ _⟩
   ·have f:Xo (Z=0):=dD<|by rw[<-j.out];exact JV c i (fun h=>by simp at h)
    have s:¬40<=n:=by omega
    clear c g l i
    go_enter func201,ntmps201
    go_wp2_with fail;refine(a _).mono ?_;rintro e w' ⟨rfl,rfl⟩;go_wp2_with fail;refine(d _).mono ?_;rintro e w' ⟨rfl,rfl⟩;go_wp2;go_ret;exact⟨by rw[f.out];rfl,za _ _⟩
   cases b with
   | false=>
    have f:Xo (Z=0):=dD<|by rw[<-j.out];exact JV c i (fun h=>by simp at h)
    clear c g l i
    go_enter func201,ntmps201
    go_wp2_with fail;refine(a _).mono ?_;rintro e w' ⟨rfl,rfl⟩;go_wp2_with fail;refine(d _).mono ?_;rintro e w' ⟨rfl,rfl⟩;go_wp2;go_ret;exact⟨by rw[f.out];rfl,za _ _⟩
   | true=>
    have f:Xo (Z=7):=dD<|by rw[<-j.out];exact znj c i (.inr ⟨rfl,rfl⟩)
    clear c g l i
    go_enter func201,ntmps201
    go_wp2_with fail;refine(a _).mono ?_;rintro e w' ⟨rfl,rfl⟩;go_wp2_with fail;refine(d _).mono ?_;rintro e w' ⟨rfl,rfl⟩;go_wp2;go_ret;exact⟨by rw[f.out];rfl,za _ _⟩
  have f:Xo (Z=3):=dD<|by rw[<-j.out];exact zgS c (fun h=>g ⟨h.1,h.2.1⟩)
  have d:=fun W=>zbz (m:=n) (n:=60) (by omega) W
  clear c g
  go_enter func201,ntmps201
  go_wp2_with fail;refine(a _).mono ?_;rintro e w' ⟨rfl,rfl⟩;go_wp2_with fail;refine(d _).mono ?_;rintro e w' ⟨rfl,rfl⟩;go_wp2;go_ret;exact⟨by rw[f.out];rfl,za _ _⟩
 have f:Xo (Z=1):=dD<|by rw[<-j.out];exact zo7 c
 have a:=fun W=>zbz (m:=k) (n:=3) (by omega) W
 clear c
 go_enter func201,ntmps201
 go_wp2_with fail;refine(a _).mono ?_;rintro e w' ⟨rfl,rfl⟩;go_wp2;go_ret;exact⟨by rw[f.out];rfl,za _ _⟩
theorem zfo (v) (fs:List En) (w) (x:zl enE w v fs):
  Xp prog 231 #[v,.func (.func 168) #[] #[]] w fun e w'=>(∃F:Int,e= Xl (Xe Xf F)/\decide (0<=F)=zeP fs)/\zb w w':=by
 have k:=x.short;obtain⟨R,T,rfl,d⟩:=x.ens;have H:=dD d;clear d x;obtain⟨n,t⟩:=kA fs.length;rw[t.out]at k⊢;obtain⟨i,c⟩:=kA (zeP fs);rw[c.out];have U:=enters_of func168 (by kernel_rfl) rfl
 go_enter func231,ntmps231
 go_wp2
 go_loopg [8] n (fun L P wr=>∃b:Nat,b<=n/\n - b<=L/\P= Xe Xf b/\Xo (zb w wr)/\Xo (∀(j:Nat) q,j<b->fs[j]? =Xa q->enS q=Xd))
 case atStart=>exact⟨0,nZ _,by omega,rfl,zb.refl w,fun j q C=>absurd C (nL _)⟩
 obtain⟨b,M,V,rfl,p,A⟩:=hrel
 by_cases f:b<n
 ·have l:=kC f
  obtain⟨q,u⟩:∃q,Xo (fs[b]? =Xa q):=⟨_,gE (by rw[t.out];exact f)⟩
  obtain⟨S,rfl,D⟩:=H.out b q u.out;obtain⟨y,z,B⟩:=D wr p.out;clear D;have a:=zbT q.kind q.n q.wr wr
  cases h:enS q with
  | true=>
   have s:Xo (decide (0<=(b:Int))=i):=dD<|by
    rw[<-c.out,show zeP fs=Xc from zrs u.out h]
    simp
   rw[show enS ⟨q.kind,q.n,q.wr⟩=Xc from h]at a
   clear h;go_wp2_with fail;refine a.mono ?_;rintro e K ⟨rfl,m⟩;have r:=dD (p.trans m);clear m a y z B;go_wp2;go_ret;exact⟨⟨_,rfl,s⟩,r⟩
  | false=>
   have G:Xo (∀(j:Nat) q,j<b+1->fs[j]? =Xa q->enS q=Xd):=dD<|fun j N C g=>by
    by_cases e:j=b
    ·subst e;rw[u.out]at g;cases g;exact h
    exact A j N (by omega) g
   rw[show enS ⟨q.kind,q.n,q.wr⟩=Xd from h]at a
   clear h;go_wp2_with fail;refine a.mono ?_;rintro e K ⟨rfl,m⟩;have r:=dD (p.trans m);clear m a y z B;go_wp2
   go_roundg (n -(b+1))
   case measure=>omega
   exact⟨b+1,by omega,by omega,by go_num,r,G⟩
 have l:=kD f
 have:b=n:=by omega
 subst this;have s:Xo (decide (0<=(-1:Int))=i):=dD<|by
  rw[<-c.out]
  symm
  exact zrr (fun j Q E=>A.out j Q (by rw[<-t.out];exact(gS.1 E).1) E)
 go_wp2;go_ret;exact⟨⟨_,rfl,s⟩,p⟩
theorem ZD (v) (fs:List En) (w) (b:zl enE w v fs):
  Xp prog 202 #[v,.func (.func 168) #[] #[]] w fun e w'=>e= Xl (Xh (zeP fs))/\zb w w':=by
 have a:=zfo v fs w b;obtain⟨c,c,rfl,_⟩:=b.rows;clear b
 generalize fs.length=n at*
 generalize zeP fs=A at*
 go_enter func202,ntmps202
 go_wp2_with fail;refine a.mono ?_;rintro e b ⟨⟨z,rfl,b⟩,c⟩;have f:=dD b;have d:=dD c;clear b c a;go_wp2;go_ret;exact⟨by rw[<-f.out];rfl,d⟩
theorem zeb (v) (fs:List En) (w:Xn) (h:zl enE w v fs):
  Xp prog 162 #[v] w fun e w'=>∃g,e= Xl g/\zc enE w.heap.size w' g fs/\zb w w':=by
 have j:=dD h;obtain⟨⟨d,f,rfl,b,c⟩,a⟩:=h;have h:∀(w:Xn) (d:Option Addr) (n f i h:Nat),(binOp .eql 72 (O d n f) (O Xb i h)).run prog w= .ok (Xh d.isNone) w:=fun w d n f i h=>Lib.run_eql_slice_nil w _ _ d n f i h underlying72
 cases d with
 | none=>
  have d:=b rfl;subst d;clear c b a
  go_enter func162,ntmps162
  go_wp2;go_ret;exact⟨_,rfl,zc.nil _ _ _,zb.refl w⟩
 | some x=>
  have d:=dD a;clear c b a
  go_enter func162,ntmps162
  go_wp2_with (at_builtin;refine zx (E:=enE) rfl (.tmp 5) (.tmp 6) rfl w.heap.size _ [] rfl (zc.made enE w) _ fs rfl (j.grew (za _ _)) ?qb (by simp) ?_)
  case qb=>rw[Yd,zA];exact d.out
  intro g a b a;go_wp2;go_ret;exact⟨g,rfl,by simpa using b,((bR _ w).alloc (nR _) _).grown a (by simp) (by intro k a;simp[Value.ownBlock]at a;omega)⟩
theorem Box.range {w:Xn} {cs:List Xq} (h:Box w b cs):w.rangeAt b 0 cs:=fun j v a=>by
 rw[zA];exact h.c j a
theorem Box.there {w:Xn} {cs:List Xq} (h:Box w b cs):w.there b 0 cs.length:=fun j a=>by
 rw[zA];exact⟨by rw[h.c j (gE a)];rfl,h.f j⟩
theorem Box.part {w:Xn}:∀{ds cs:List Xq} {o:Nat},Box w b cs->o+ds.length<=cs.length->Box (w.setCells b o ds) b (splice cs o ds):=by
 have c:∀(ds cs:List Xq) (o:Nat) (w:Xn),Box w b cs->o+ds.length<=cs.length->Box (w.setCells b o ds) b (splice cs o ds):=fun ds=>by
  induction ds with
  | nil=>
   intro cs o w h a;have:splice cs o []=cs:=by simp[splice]
   rw[this];exact h
  | cons d ds g=>
   intro cs o w h a;simp only[List.length_cons]at a;have f:=h.set o d;have e:=g (cs.set o d) (o+1) (w.setCell ⟨b,o,Xb⟩ d) f (by simp;omega)
   have f:splice (cs.set o d) (o+1) ds=splice cs o (d :: ds):=by
    unfold splice;rw[List.take_set,List.drop_set,kE (by omega),Ym,gE (by omega)]
    simp only[List.length_cons,Option.toList_some];rw[List.set_append_right _ _ (by simp;omega),show o+1+ds.length=o+(ds.length+1) by omega]
    simp[List.length_take,Nat.min_eq_left (show o<=cs.length by omega)]
   rw[f]at e;exact e
 exact fun{ds cs o} h a=>c ds cs o w h a
theorem zV (b:Nat):∀(ds:List Xq) (o:Nat) (w:Xn),w.grownBy (w.setCells b o ds) (Xa b)/\(w.setCells b o ds).heap.size=w.heap.size
 | [],_,w=>⟨World.grownBy.rfl' _ _,rfl⟩
 | d :: ds,o,w=>by
  obtain⟨a,c⟩:=zV b ds (o+1) (w.setCell ⟨b,o,Xb⟩ d);have f:w.grownBy (w.setCell ⟨b,o,Xb⟩ d) (Xa b):=⟨rfl,rfl,rfl,by simp[World.setCell],fun k _ g=>Below.heap_setCell _ _ _ _ (fun e=>g (by rw[e]))⟩
  exact⟨Zj f a,c.trans (by simp[World.setCell])⟩
theorem zo {rest:List Oper} {a:Act} {w:Xn} (e:o.guard=Xb) (c x) (g:o.op= .load c x) (b:Nat) (j:a.eval x= Xj (Xa ⟨b,0,Xb⟩)) (hb:Box w b vs) {d:TypeDesc} (i:Tryz.prog.underlying c=Xa d) (f:d.isRow=Xc) (hi:(Tryz.prog.info? c).map (·.size)=Xa vs.length)
  (h:wpList prog ops Q rest (a.put o.dst (Xi vs.toArray)) w):wpList prog ops Q (o :: rest) a w:=
 wpList_load_mid e c x g b 0 j vs _ hb.range i f hi h
theorem J7 {cs:List Xq} (h:vs.length=cs.length):splice cs 0 vs=vs:=by
 unfold splice;rw[List.take_zero,List.nil_append,zA,Yg (by omega),List.append_nil]
theorem zz {rest:List Oper} {a:Act} {w:Xn} (c:o.guard=Xb) (e p x) (g:o.op= .store e p x) (b:Nat) (hp:a.eval p= Xj (Xa ⟨b,0,Xb⟩)) (vs:List Xq) (i:a.eval x= Xi vs.toArray)
  {cs:List Xq} (hb:Box w b cs) (d:vs.length=cs.length) (hi:(Tryz.prog.info? e).map (·.size)=Xa cs.length) (f:∀v∈vs,v.oneCell'=Xc)
  (h:∀w',Box w' b vs->w.grownBy w' (Xa b)->w'.heap.size=w.heap.size->wpList prog ops Q rest (a.put o.dst undef) w'):wpList prog ops Q (o :: rest) a w:=by
 refine wpList_store_mid c e p x g b 0 vs.toArray hp i ?_ ?_ (all_oneCell_toArray f) ?_
 ·simpa [d]using hb.there
 ·simpa [d]using hi
 have:=hb.part (ds:=vs) (o:=0) (by omega)
 rw[J7 d]at this;exact h _ this (zV b vs 0 w).1 (zV b vs 0 w).2
theorem zht {rest:List Oper} {c:Oper} {a:Act} {w:Xn} (d:c.guard=Xb) (e p x) (i:c.op= .store e p x) (b o:Nat) (hp:a.eval p= Xj (Xa ⟨b,o,Xb⟩)) (vs:List Xq) (j:a.eval x= Xi vs.toArray)
  {cs:List Xq} (hb:Box w b cs) (g:o+vs.length<=cs.length) (hi:(Tryz.prog.info? e).map (·.size)=Xa vs.length) (f:∀v∈vs,v.oneCell'=Xc)
  (h:∀w',Box w' b (splice cs o vs)->w.grownBy w' (Xa b)->w'.heap.size=w.heap.size->wpList prog ops Q rest (a.put c.dst undef) w'):wpList prog ops Q (c :: rest) a w:=by
 refine wpList_store_mid d e p x i b o vs.toArray hp j ?_ ?_ (all_oneCell_toArray f) ?_
 ·intro j c;have:=hb.there (o+j) (by simp at c;omega)
  rw[zA]at this;exact this
 ·simpa using hi
 exact h _ (hb.part g) (zV b vs o w).1 (zV b vs o w).2
theorem Box.mid {w:Xn} {cs:List Xq} (h:Box w b cs) (o:Nat) (c:∀(j:Nat) v,vs[j]? =Xa v->cs[o+j]? =Xa v):w.rangeAt b o vs:=fun j v a=>h.c _ (c j v a)
theorem zG {e:Func} {p:Tmp} {c:TypeId} (h:e.results=#[.cell p c]) (a:Array Xq) {w:Xn} (hp:a.getD p undef= Xj (Xa ⟨b,0,Xb⟩)) (hb:Box w b vs) {d:TypeDesc} (g:Tryz.prog.underlying c=Xa d) (f:d.isRow=Xc) (hi:(Tryz.prog.info? c).map (·.size)=Xa vs.length):
  (results e a).run prog w= .ok (Xi vs.toArray) w:=by
 have e:a[p]?.getD undef= Xj (Xa ⟨b,0,Xb⟩):=by simpa using hp
 have a:=run_loadVar_mid (P:=prog) w b 0 c vs d hb.range g f hi
 simp[results,h,e,asAddr,a]
theorem qk {P:Program} {i:Nat} {a:Act} {w:Xn} {next:Act->Xn->Prop} (d:Option Tmp) (K:Xq->Xn->Prop) (hi:ops[i]? =Xa o) (b:o.dst=d) (e:Region.wanted o (yielded ops a.tmps)=Xc) (h:zR P o a w K) (c:∀v w',K v w'->next (a.put d v) w'):wpOp P ops Q i next a w:=by
 subst b;unfold wpOp;simp only[hi,e,if_true];exact .inl (h.wp c)
theorem zR.storeAll {a:Act} {w:Xn} {K:Xq->Xn->Prop} (d p x) (f:o.op= .store d p x) (b:Nat) (hp:a.eval p= Xj (Xa ⟨b,0,Xb⟩)) (vs:List Xq) (i:a.eval x= Xi vs.toArray)
  {cs:List Xq} (hb:Box w b cs) (c:vs.length=cs.length) (hi:(Tryz.prog.info? d).map (·.size)=Xa cs.length) (e:∀v∈vs,v.oneCell'=Xc)
  (h:∀w',Box w' b vs->w.grownBy w' (Xa b)->w'.heap.size=w.heap.size->K undef w'):zR prog o a w K:=by
 unfold zR;have g:(execOp a.eval o).run prog w= .ok .skip (w.setCells b 0 vs):=by
  have:=run_storeAt_mid (P:=prog) w b 0 d vs.toArray (by simpa [c]using hb.there) (by simpa [c]using hi) (all_oneCell_toArray e)
  simp only[execOp,f,hp,i,Yi,this,rA,Og]
 rw[g];have hp:=hb.part (ds:=vs) (o:=0) (by omega)
 rw[J7 c]at hp;exact h _ hp (zV b vs 0 w).1 (zV b vs 0 w).2
theorem zsd:(Tryz.prog.info? 74).map (·.size)=Xa 8:=by kernel_rfl
theorem qH {rest:List Oper} {a:Act} {w:Xn} (c:o.guard=Xb) (x) (e:o.op= .load 74 x) (b:Nat) (f:a.eval x= Xj (Xa ⟨b,0,Xb⟩)) (hb:Box w b vs) (d:vs.length=8)
  (h:wpList prog ops Q rest (a.put o.dst (Xi vs.toArray)) w):wpList prog ops Q (o :: rest) a w:=
 wpList_load_mid c 74 x e b 0 f vs _ hb.range underlying74 rfl (by rw[d];exact zsd) h
theorem zoj {w:Xn} (i:Nat) (hi:i<8) {v:Xq} (g:vs[i]? =Xa v):(Instr.index 74 (Xi vs.toArray) (Xe Xf (i:Int))).run prog w= .ok v w:=by
 have e:(isAgg 72).run prog w= .ok Xd w:=by
  unfold isAgg;rw[Yi,run_underlying underlying72 w];rfl
 have f:(Go.sizeOf 72).run prog w= .ok 1 w:=by
  obtain⟨a,c,d⟩:∃a,Tryz.prog.info? 72=Xa a/\a.size=1:=by
   have:(Tryz.prog.info? 72).map (·.size)=Xa 1:=by kernel_rfl
   cases b:Tryz.prog.info? 72 with
   | none=>rw[b]at this;cases this
   | some a=>rw[b]at this;exact⟨a,rfl,by simpa using this⟩
  simp[Go.sizeOf,typeInfo,c,d]
 have a:(0:Int)<=(i:Int)/\(i:Int)< ((8:Nat):Int):=by omega
 simp only[Instr.index,asIntOf,Yi,Og,rA,run_underlying underlying74];rw[kE a];simp only[Yi,f,rA,part,e,Nat.mul_one,tN]
 simp[g]
theorem zhv {rest:List Oper} {a:Act} {w:Xn} (b:o.guard=Xb) (x ix) (d:o.op= .index 74 x ix) (vs:List Xq) (f:a.eval x= Xi vs.toArray) (i:Nat) (c:a.eval ix= Xe Xf (i:Int)) (hi:i<8) {v:Xq} (e:vs[i]? =Xa v)
  (h:wpList prog ops Q rest (a.put o.dst v) w):wpList prog ops Q (o :: rest) a w:=by
 refine wpList_plain b fun K b=>?_
 unfold Oper.wp execOp;simp only[d,f,c,Yi,Og,rA,zoj i hi e];exact b _ _ h
theorem qo {e:Func} {p u:Tmp} {c:TypeId} (h:e.results=#[.cell p c,.tmp u]) (a:Array Xq) {w:Xn} (hp:a.getD p undef= Xj (Xa ⟨b,0,Xb⟩)) (hb:Box w b vs) {d:TypeDesc} (g:Tryz.prog.underlying c=Xa d) (f:d.isRow=Xc) (hi:(Tryz.prog.info? c).map (·.size)=Xa vs.length):
  (results e a).run prog w= .ok (Xm #[Xi vs.toArray,a.getD u undef]) w:=by
 have a:=run_loadVar_mid (P:=prog) w b 0 c vs d hb.range g f hi;rw[results_cell_tmp h,hp]
 simp[asAddr,Result.andThen,a]
theorem zaB.one {w:Xn} {t:List (List En)} (h:zaB B0 B1 w vs t):∀v∈vs,v.oneCell'=Xc:=fun v b=>by
 obtain⟨i,a⟩:=Xt b;have b:i<8:=by rw[<-h.len];exact(gS.1 a).1
 obtain⟨c,c,x,_,c,_⟩:=h.now.half b;rw[c]at a;cases a;rfl
structure jk (base:Nat) (w:Xn) (vs:List Xq) (t:List (List En)):Prop where
 len:vs.length=8
 tlen:t.length=8
 row:∀(i:Nat) v h,vs[i]? =Xa v->t[i]? =Xa h->zc enE base w v h
 two:∀(i j:Nat) u v,i≠j->vs[i]? =Xa u->vs[j]? =Xa v->∀g,u.ownBlock=Xa g->v.ownBlock≠Xa g
theorem jk.new {base:Nat} {w:Xn} {t:List (List En)} (h:jk base w vs t):zaB 0 base w vs t:=⟨h.len,h.tlen,fun i v x a b=>(h.row i v x a b).new.stays⟩
theorem jk.grew {base:Nat} {w:Xn} {t:List (List En)} (h:jk base w vs t) (k:zb w w'):jk base w' vs t:=⟨h.len,h.tlen,fun i v x a b=>(h.row i v x a b).grew k,h.two⟩
theorem jk.base {base:Nat} {w:Xn} {t:List (List En)} (h:jk base w vs t) (hb:base'<=base):jk base' w vs t:=⟨h.len,h.tlen,fun i v x a b=>(h.row i v x a b).base hb,h.two⟩
theorem jk.half {base:Nat} {w:Xn} {t:List (List En)} (h:jk base w vs t) {i:Nat} (hi:i<8):∃a c x,t[i]? =Xa x/\vs[i]? =Xa (O a x.length c)/\zc enE base w (O a x.length c) x:=by
 obtain⟨v,d⟩:∃v,vs[i]? =Xa v:=⟨_,gE (by rw[h.len];exact hi)⟩
 obtain⟨x,e⟩:∃x,t[i]? =Xa x:=⟨_,gE (by rw[h.tlen];exact hi)⟩
 have b:=h.row i v x d e;obtain⟨a,c,rfl⟩:=b.form;exact⟨a,c,x,e,d,b⟩
theorem jk.one {base:Nat} {w:Xn} {t:List (List En)} (h:jk base w vs t) {i:Nat} {v a:Xq} {b:List En} (hi:i<8) (q:vs[i]? =Xa v) (p:w.grownBy w' v.ownBlock) (z:zc enE base w' a b) (y:∀g,a.ownBlock=Xa g->v.ownBlock=Xa g\/w.heap.size<=g):jk base w' (vs.set i a) (t.set i b):=by
 have l:∀(j:Nat) u,vs[j]? =Xa u->∀g,u.ownBlock=Xa g->g<w.heap.size:=fun j u d g p=>by
  obtain⟨x,k⟩:∃x,t[j]? =Xa x:=⟨_,gE (by rw[h.tlen,<-h.len];exact(gS.1 d).1)⟩
  exact((h.row j u x d k).lt g p).2
 refine⟨by simp[h.len],by simp[h.tlen],fun j u x d k=>?_,fun j m r s a f e g b c=>?_⟩
 ·by_cases n:j=i
  ·subst n;rw[sF (by rw[h.len];exact hi)]at d
   rw[sF (by rw[h.tlen];exact hi)]at k
   cases d;cases k;exact z
  rw[sN (fun h=>n h.symm)]at d k
  exact(h.row j u x d k).grown p (fun g k p=>h.two j i u v n d q g k p)
 by_cases k:j=i
 ·subst k;rw[sF (by rw[h.len];exact hi)]at f
  cases f;rw[sN a]at e
  rcases y g b with d|d
  ·exact h.two j m v s a q e g d c
  have:=l m s e g c;omega
 rw[sN (fun h=>k h.symm)]at f
 by_cases k:m=i
 ·subst k;rw[sF (by rw[h.len];exact hi)]at e
  cases e
  rcases y g c with d|d
  ·exact h.two j m r v a f q g b d
  have:=l j r f g b;omega
 rw[sN (fun h=>k h.symm)]at e
 exact h.two j m r s a f e g b c
structure znW (base:Nat) (w:Xn) (kk:Nat) (vs us:List Xq) (t:List (List En)):Prop where
 len:us.length=8
 own:∀(i:Nat) v h,i<kk->us[i]? =Xa v->t[i]? =Xa h->zc enE base w v h
 two:∀(i j:Nat) u v,i<kk->j<kk->i≠j->us[i]? =Xa u->us[j]? =Xa v->∀g,u.ownBlock=Xa g->v.ownBlock≠Xa g
 one:∀v∈us,v.oneCell'=Xc
theorem znW.step {base:Nat} {w:Xn} {t:List (List En)} (h:znW base w kk vs us t) (G:t.length=8) (n:zb w w1) {x:List En} {v:Xq} (q:kk<8) (H:t[kk]? =Xa x) (a:zc enE w.heap.size w1 v x) (hb:base<=w.heap.size) {p:Addr} (hp:p.block<base) (u):znW base (w1.setCell p u) (kk+1) vs (us.set kk v) t:=by
 have k:∀(j:Nat) u,j<kk->us[j]? =Xa u->∀g,u.ownBlock=Xa g->g<w.heap.size:=fun j u A B g n=>by
  obtain⟨y,c⟩:∃y,t[j]? =Xa y:=⟨_,gE (by rw[G,<-h.len];exact(gS.1 B).1)⟩
  exact((h.own j u y A B c).lt g n).2
 refine⟨by simp[h.len],fun i y E F c m=>?_,fun i j C D F A f b e g d l=>?_,fun y c=>?_⟩
 ·by_cases r:i=kk
  ·subst r;rw[sF (by rw[h.len];exact q)]at c
   cases c;rw[H]at m;cases m;exact(a.base hb).setCell hp u
  rw[sN (fun h=>r h.symm)]at c
  exact((h.own i y E (by omega) c m).grew n).setCell hp u
 ·by_cases s:i=kk
  ·subst s;rw[sF (by rw[h.len];exact q)]at b
   cases b;rw[sN f]at e;have:=k j D (by omega) e g l
   have:=(a.lt g d).1;omega
  rw[sN (fun h=>s h.symm)]at b
  by_cases z:j=kk
  ·subst z;rw[sF (by rw[h.len];exact q)]at e
   cases e;have:=k i C (by omega) b g d
   have:=(a.lt g l).1;omega
  rw[sN (fun h=>z h.symm)]at e
  exact h.two i j C D (by omega) (by omega) f b e g d l
 rcases Xw c with d|d
 ·exact h.one y d
 subst d;obtain⟨K,L,rfl⟩:=a.form;rfl
theorem zgm (vs:List Xq) (t:List (List En)) (w:Xn) (V:zat w vs t):
  Xp prog 105 #[Xi vs.toArray] w fun e w'=>∃f,e= Xl (Xi f.toArray)/\jk (w.heap.size+2) w' f t/\zb w w'/\w.heap.size+2<=w'.heap.size:=by
 have A:=dD V;have W:=dD V.len;clear V;obtain⟨N,d⟩:=kB ((w.alloc (Xk vs.toArray 74)).alloc (Xk #[O Xb 0 0,O Xb 0 0,O Xb 0 0,O Xb 0 0,O Xb 0 0,O Xb 0 0,O Xb 0 0,O Xb 0 0] 74));have F:=gD2 d
 have Y:=x2a d
 have ae:Xo (Box N (w.heap.size+1) zfe):=dD<|by rw[<-d];exact Box.top _ zfe _ (by simp)
 have H:Xo (N.heap.size=w.heap.size+2):=dD<|by rw[<-d];simp
 have K:Xo (_=N):=d;clear d
 go_enter func105,ntmps105
 go_upto_region 1 with fail;rw[K.out]
 go_wp2_with (refine qH rfl (.tmp 1) rfl w.heap.size rfl Y W.out ?_)
 go_loopg [6] 8 (fun ag ai wr=>∃(a:Nat) (f:List Xq),a<=8/\8 - a<=ag/\ai= Xe Xf a/\Xo (zb w wr)/\Xo (w.heap.size+2<=wr.heap.size)/\Xo (Box wr w.heap.size f)/\Xo (Box wr (w.heap.size+1) zfe)/\Xo (znW (w.heap.size+2) wr a vs f t))
 case atStart=>exact⟨0,vs,nZ _,by omega,rfl,F,by rw[H.out];exact nR _,Y,ae,⟨W,fun i v s T=>absurd T (nL _),fun i a6 a8 v T=>absurd T (nL _),A.one⟩⟩
 obtain⟨a,f,ah,a1,rfl,D,M,Z,I,g⟩:=hrel
 by_cases h:a<8
 ·have u:(a:Int)<8:=by omega
  obtain⟨aj,ak,C,a3,y,a4⟩:=A.half h;have ab:=dD a3;have n:=dD y;have c:=zeb (O aj C.length ak) C wr (a4.grew D);clear a3 y a4
  generalize C.length=nq at c n
  go_wp2_with (refine zhv rfl (.tmp 5) (.tmp 6) rfl vs rfl a rfl h n.out ?_)
  refine c.mono ?_;rintro e r ⟨am,rfl,m,R⟩;obtain⟨j,k,rfl⟩:=m.form;have X:=dD m;have z:=dD R;have Q:=dD (Z.grew R);clear m R c
  generalize C.length=l at X⊢
  obtain⟨a9,x⟩:∃a9,f[a]? =Xa a9:=⟨_,gE (by rw[g.len];exact h)⟩
  have an:=Q.c a x;have ao:=Q.f;clear x;go_wp2;have G:Xo (znW (w.heap.size+2) (r.setCell ⟨w.heap.size,a,Xb⟩ (O j l k)) (a+1) vs (f.set a (O j l k)) t):=g.step A.tlen z h ab X M (by simp) _
  have ad:Xo (Box (r.setCell ⟨w.heap.size,a,Xb⟩ (O j l k)) w.heap.size (f.set a (O j l k))):=Q.set a _;have af:Xo (Box (r.setCell ⟨w.heap.size,a,Xb⟩ (O j l k)) (w.heap.size+1) zfe):=(I.grew z).other (by simp) _
  have E:Xo (zb w (r.setCell ⟨w.heap.size,a,Xb⟩ (O j l k))):=dD<|Below.setCell (D.trans z) (p:=⟨w.heap.size,a,Xb⟩) (by simp) _
  have L:Xo (w.heap.size+2<=(r.setCell ⟨w.heap.size,a,Xb⟩ (O j l k)).heap.size):=dD<|by
   have:=bS z.out;have:=M.out
   simp[World.setCell]
   omega
  go_roundg (8 -(a+1))
  case measure=>omega
  exact⟨a+1,_,by omega,by omega,by go_num,E,L,ad,af,G⟩
 have u:¬(a:Int)<8:=by omega
 have:a=8:=by omega
 subst this;have q:Xo (jk (w.heap.size+2) wr f t):=dD<|⟨g.len,A.tlen,fun i v s b B=>g.own i v s (by rw[<-g.len];exact(gS.1 b).1) b B,fun i a6 a8 v U a5 b=>g.two i a6 a8 v (by rw[<-g.len];exact(gS.1 a5).1) (by rw[<-g.len];exact(gS.1 b).1) U a5 b⟩
 go_wp2_with (first | refine qH rfl (.tmp 1) rfl w.heap.size rfl Z g.len ?_ | refine zz rfl 74 (.tmp 2) (.tmp 15) rfl (w.heap.size+1) rfl f rfl I g.len zsd g.one ?_)
 intro P a0 S a7;have ac:Xo (jk (w.heap.size+2) P f t):=dD<|⟨q.len,q.tlen,fun i v s b B=>(q.row i v s b B).grown S (fun al a1 e=>by
  cases e;have:=((q.row i v s b B).lt _ a1).1
  omega),q.two⟩
 have E:Xo (zb w P):=dD<|zd D S (by simp)
 have L:Xo (w.heap.size+2<=P.heap.size):=dD<|by rw[a7];exact M.out
 have aa:=dD a0;clear a0 S a7;go_wp2;refine bodyPost_ret (zG rfl _ rfl aa underlying74 rfl (by rw[g.len];exact zsd)) rfl ⟨f,rfl,ac,E,L⟩
def arv (a:Ar):List Xq:=[Xe Xf a.fr,Xe Xf a.tz,Xh a.rd,Xh a.wr,Xh a.sh,Xe Xf a.file,Xe Xf a.base]
def arA (a:Ar):Xq:= Xi #[Xe Xf a.fr,Xe Xf a.tz,Xh a.rd,Xh a.wr,Xh a.sh,Xe Xf a.file,Xe Xf a.base]
theorem zse:(Tryz.prog.info? 125).map (fun i=>(i.zero,i.size,i.bytes))=Xa (Xa (Xi #[Xe Xf 0,Xe Xf 0,Xh Xd,Xh Xd,Xh Xd,Xe Xf 0,Xe Xf 0]),7,40):=by kernel_rfl
theorem zsf:(Tryz.prog.info? 125).map (·.size)=Xa 7:=by kernel_rfl
theorem zsg:(Tryz.prog.info? 187).map (·.size)=Xa 2:=by kernel_rfl
theorem zsh:(Tryz.prog.info? 233).map (·.size)=Xa 448:=by kernel_rfl
def arE:Elt Ar where
 enc:=arv
 k:=7
 ty:=125
 st:=71
 bytes:=40
 zv:= Xi #[Xe Xf 0,Xe Xf 0,Xh Xd,Xh Xd,Xh Xd,Xe Xf 0,Xe Xf 0]
 zero:=ar0
 len:=fun _=>rfl
 one:=fun a u hu=>by
  simp only[arv,mC,nM,or_false]at hu
  rcases hu with rfl|rfl|rfl|rfl|rfl|rfl|rfl <;> rfl
 und:=underlying71
 info:=zse
 zok:=rfl
 few:=by decide
 pos:=by decide
def ziZ (W:Xn) (y:Addr) (e:Ar):Prop:=W.cell? y=Xa (Xe Xf e.fr)/\W.cell? { block:=y.block,off:=y.off+1 }=Xa (Xe Xf e.tz)/\W.cell? { block:=y.block,off:=y.off+2 }=Xa (Xh e.rd)/\W.cell? { block:=y.block,off:=y.off+3 }=Xa (Xh e.wr)/\W.cell? { block:=y.block,off:=y.off+4 }=Xa (Xh e.sh)/\W.cell? { block:=y.block,off:=y.off+5 }=Xa (Xe Xf e.file)/\W.cell? { block:=y.block,off:=y.off+6 }=Xa (Xe Xf e.base)
def zjX (w:Xn) (a:Option Addr) (l:List Ar):Prop:=∀(j:Nat) e,l[j]? =Xa e->∃ad,a=Xa ad/\∀W,zb w W->ziZ W (ad.add (j*7)) e
theorem zl.ars {w:Xn} {v:Xq} (h:zl arE w v l):∃a c,v= O a l.length c/\zjX w a l:=by
 obtain⟨a,c,b,e⟩:=h.rows;refine⟨a,c,b,fun j x g=>?_⟩
 obtain⟨d,f,b⟩:=e j x g;exact⟨d,f,fun W d=>⟨b W d 0 _ rfl,b W d 1 _ rfl,b W d 2 _ rfl,b W d 3 _ rfl,b W d 4 _ rfl,b W d 5 _ rfl,b W d 6 _ rfl⟩⟩
def tab {α:Type} (f:Nat->α):List α:=(Xy 64).map f
theorem zhS {α:Type} (f:Nat->α):(tab f).length=64:=by simp[tab]
theorem zi2 {α:Type} {f:Nat->α} {k:Nat} (h:k<64):(tab f)[k]? =Xa (f k):=by
 unfold tab;rw[Xx,Xs h];rfl
def upd {α:Type} (f:Nat->α) (k:Nat) (x:α):Nat->α:=fun j=>if j=k then x else f j
theorem zpP {α:Type} (f:Nat->α) (k:Nat) (x:α):(tab f).set k x=tab (upd f k x):=by
 apply Oh
 intro j
 by_cases a:j<64
 ·rw[zi2 a];unfold upd
  by_cases e:j=k
  ·subst e;rw[sF (by rw[zhS];exact a),kE rfl]
  rw[sN (fun h=>e h.symm),zi2 a,kF e]
 rw[gN (by simp[tab];omega),gN (by simp[tab];omega)]
def qr (l:List Ar):List Xq:=l.flatMap arv
theorem zlo (l:List Ar):(qr l).length=l.length*7:=qT l (fun _ _=>rfl)
theorem zeJ (l):∀v∈qr l,v.oneCell'=Xc:=qJ arE.one l
def Qy:Elt Fr where
 enc:=frv
 k:=13
 ty:=93
 st:=30
 bytes:=40
 zv:=frz
 zero:=fr0
 len:=Zk
 one:=zfy
 und:=underlying30
 info:=zr5
 zok:=zm2
 few:=by decide
 pos:=by decide
def cav (c:Ca):List Xq:=[Xe Xf c.file,Xe Xf c.idx,Xe Xf c.fr]
theorem zsi:(Tryz.prog.info? 105).map (fun i=>(i.zero,i.size,i.bytes))=Xa (Xa (Xi #[Xe Xf 0,Xe Xf 0,Xe Xf 0]),3,24):=by kernel_rfl
def Jw:Elt Ca where
 enc:=cav
 k:=3
 ty:=105
 st:=42
 bytes:=24
 zv:= Xi #[Xe Xf 0,Xe Xf 0,Xe Xf 0]
 zero:=⟨0,0,0⟩
 len:=fun _=>rfl
 one:=fun a u hu=>by
  simp only[cav,mC,nM,or_false]at hu
  rcases hu with rfl|rfl|rfl <;> rfl
 und:=underlying42
 info:=zsi
 zok:=rfl
 few:=by decide
 pos:=by decide
def zn1 (W:Xn) (y:Addr) (c:Ca):Prop:=W.cell? y=Xa (Xe Xf c.file)/\W.cell? { block:=y.block,off:=y.off+1 }=Xa (Xe Xf c.idx)/\W.cell? { block:=y.block,off:=y.off+2 }=Xa (Xe Xf c.fr)
def zn0 (w:Xn) (a:Option Addr) (l:List Ca):Prop:=∀(j:Nat) c,l[j]? =Xa c->∃ad,a=Xa ad/\∀W,zb w W->zn1 W (ad.add (j*3)) c
theorem zl.cas {w:Xn} {v:Xq} {l:List Ca} (h:zl Jw w v l):∃a c,v= O a l.length c/\zn0 w a l:=by
 obtain⟨a,c,b,e⟩:=h.rows;refine⟨a,c,b,fun j x g=>?_⟩
 obtain⟨d,f,b⟩:=e j x g;exact⟨d,f,fun W d=>⟨b W d 0 _ rfl,b W d 1 _ rfl,b W d 2 _ rfl⟩⟩
structure Sli where
 a:Option Addr
 n:Nat
 c:Nat
abbrev Sli.x (s:Sli):Xq:= O s.a s.n s.c
abbrev eS:Xq:= O Xb 0 0
abbrev I6 (x:Int):Xq:= Xe Xf x
abbrev U8 (x:Int):Xq:= Xe Xg x
def Sli.v (s:Sli):Xq:= O s.a s.n s.c
def je:Sli:=⟨Xb,0,0⟩
theorem zl.n {α:Type} {E:Elt α} {w:Xn} {a:Option Addr} {n c:Nat} {l:List α} (h:zl E w (O a n c) l):n=l.length:=by
 obtain⟨_,_,b,_⟩:=h.rows;cases b;rfl
theorem zc.n {α:Type} {E:Elt α} {w:Xn} {a:Option Addr} {n c:Nat} {l:List α} (h:zc E b w (O a n c) l):n=l.length:=h.at.n
structure SpV where
 live:Bool
 ar:Sli
 (t0 t1 t2 t3 t4 t5 t6 t7:Sli)
def SpV.tab (x:SpV):List Xq:=[x.t0.v,x.t1.v,x.t2.v,x.t3.v,x.t4.v,x.t5.v,x.t6.v,x.t7.v]
def spv (x:SpV):List Xq:=[Xh x.live,x.ar.v,x.t0.v,x.t1.v,x.t2.v,x.t3.v,x.t4.v,x.t5.v,x.t6.v,x.t7.v]
def spz:Xq:= Xi #[Xh Xd,eS,eS,eS,eS,eS,eS,eS,eS,eS]
theorem zsj:(Tryz.prog.info? 76).map (fun i=>(i.zero,i.size,i.bytes))=Xa (Xa spz,10,224):=by kernel_rfl
def ZA:Elt SpV where
 enc:=spv
 k:=10
 ty:=76
 st:=43
 bytes:=224
 zv:=spz
 zero:=⟨Xd,je,je,je,je,je,je,je,je,je⟩
 len:=fun _=>rfl
 one:=fun a u hu=>by
  simp only[spv,mC,nM,or_false]at hu
  rcases hu with rfl|rfl|rfl|rfl|rfl|rfl|rfl|rfl|rfl|rfl <;> rfl
 und:=underlying43
 info:=zsj
 zok:=rfl
 few:=by decide
 pos:=by decide
def zru (w:Xn) (a:Option Addr) (l:List SpV):Prop:=∀(j:Nat) x,l[j]? =Xa x->∃ad,a=Xa ad/\∀W,zb w W->qW W (ad.add (j*10)) (spv x)
theorem zl.sps {w:Xn} {v:Xq} {l:List SpV} (h:zl ZA w v l):∃a c,v= O a l.length c/\zru w a l:=h.rows
structure jT (w:Xn) (x:SpV) (s:Sp):Prop where
 live:x.live=s.live
 ar:zl arE w (x.ar.x) s.ars
 cap:x.ar.n<=x.ar.c
 tb:zat w x.tab s.tb
theorem jT.grew {w:Xn} {x:SpV} {s:Sp} (h:jT w x s) (k:zb w w'):jT w' x s:=⟨h.live,h.ar.grew k,h.cap,h.tb.grew k⟩
def Qs (w:Xn) (v:Xq) (ss:List Sp):Prop:=∃xs:List SpV,zl ZA w v xs/\xs.length=ss.length/\∀(i:Nat) x s,xs[i]? =Xa x->ss[i]? =Xa s->jT w x s
theorem Qs.grew {w:Xn} {v:Xq} {a:List Sp} (h:Qs w v a) (k:zb w w'):Qs w' v a:=by
 obtain⟨d,a,b,c⟩:=h;exact⟨d,a.grew k,b,fun i x s b a=>(c i x s b a).grew k⟩
structure MaV where
 (f s sb sq db dq fl ca sp:Sli)
structure zE (w:Xn) (V:MaV) (m:Ma):Prop where
 fs:zl Qy w (V.f.x) m.fs
 sl:zl slE w (V.s.x) m.sl
 sb:jc w (V.sb.x) m.sb
 sq:jG w (V.sq.x) m.sq
 db:jc w (V.db.x) m.db
 dq:jG w (V.dq.x) m.dq
 fl:qq w (V.fl.x) m.fl
 ca:zl Jw w (V.ca.x) m.ca
 sp:Qs w (V.sp.x) m.sp
abbrev mL (V:MaV) (m:Ma):List Xq:=[V.f.x,I6 m.hand,V.s.x,V.sb.x,V.sq.x,V.db.x,V.dq.x,V.fl.x,I6 m.cnt,V.ca.x,V.sp.x]
abbrev zM:List Xq:=[eS,I6 0,eS,eS,eS,eS,eS,eS,I6 0,eS,eS]
theorem zE.grew {w:Xn} {V:MaV} (h:zE w V m) (k:zb w w'):zE w' V m:=⟨h.fs.grew k,h.sl.grew k,h.sb.grew k,h.sq.grew k,h.db.grew k,h.dq.grew k,qp.grew h.fl k,h.ca.grew k,h.sp.grew k⟩
theorem jc.n {w:Xn} {a:Option Addr} {n c:Nat} {l:List (List Int)} (h:jc w (O a n c) l):n=l.length:=by
 obtain⟨⟨_,_,b,_⟩,_⟩:=h;cases b;rfl
theorem jG.n {w:Xn} {a:Option Addr} {n c:Nat} {l:List (Int × List Int)} (h:jG w (O a n c) l):n=l.length:=by
 obtain⟨⟨_,_,b,_⟩,_⟩:=h;cases b;rfl
theorem qq.n {w:Xn} {a:Option Addr} {n c:Nat} {l:List Fl} (h:qq w (O a n c) l):n=l.length:=by
 obtain⟨_,b,b,d,_⟩:=h;rw[b.now.n,d]
theorem Qs.n {w:Xn} {a:Option Addr} {n c:Nat} {l:List Sp} (h:Qs w (O a n c) l):n=l.length:=by
 obtain⟨b,b,d,_⟩:=h;rw[b.n,d]
theorem zE.ns {w:Xn} {V:MaV} (h:zE w V m):V.f.n=m.fs.length/\V.s.n=m.sl.length/\V.sb.n=m.sb.length/\V.sq.n=m.sq.length/\V.db.n=m.db.length/\V.dq.n=m.dq.length/\V.fl.n=m.fl.length/\V.ca.n=m.ca.length/\V.sp.n=m.sp.length:=
 ⟨h.fs.n,h.sl.n,h.sb.n,h.sq.n,h.db.n,h.dq.n,qq.n h.fl,h.ca.n,h.sp.n⟩
theorem zl.rowsAt {α:Type} {E:Elt α} {w:Xn} {a:Option Addr} {n c:Nat} {l:List α} (h:zl E w (O a n c) l):zpH E w a l:=by
 obtain⟨_,_,b,d⟩:=h.rows;cases b;exact d
theorem zE.frs {w:Xn} {V:MaV} (h:zE w V m):zjV w V.f.a m.fs:=fun j x d=>by
 obtain⟨a,b,c⟩:=h.fs.rowsAt j x d;exact⟨a,b,fun W a=>(c W a).fr⟩
theorem zE.cas {w:Xn} {V:MaV} (h:zE w V m):zn0 w V.ca.a m.ca:=by
 obtain⟨_,_,a,b⟩:=h.ca.cas;simp only[vJ]at a;rw[a.1];exact b
theorem zE.sls {w:Xn} {V:MaV} (h:zE w V m):zjQ w V.s.a m.sl:=by
 obtain⟨_,_,a,b⟩:=h.sl.sls;simp only[vJ]at a;rw[a.1];exact b
theorem zE.pgs {w:Xn} {V:MaV} (h:zE w V m):zfN w V.db.a m.db:=by
 obtain⟨_,_,a,b⟩:=h.db.rows;simp only[vJ]at a;rw[a.1];exact b
theorem zE.puts {w:Xn} {V:MaV} (h:zE w V m):zb5 w V.dq.a m.dq:=by
 obtain⟨_,_,a,b⟩:=h.dq.rows;simp only[vJ]at a;rw[a.1];exact b
theorem ziJ (v fs) (w:Xn) (h:zl Jw w v fs):
  Xp prog 55 #[v] w fun e w'=>∃g,e= Xl g/\zc Jw w.heap.size w' g fs/\zb w w':=by
 have j:=dD h;obtain⟨⟨d,f,rfl,b,c⟩,a⟩:=h;have h:∀(w:Xn) (d:Option Addr) (n f i h:Nat),(binOp .eql 42 (O d n f) (O Xb i h)).run prog w= .ok (Xh d.isNone) w:=fun w d n f i h=>Lib.run_eql_slice_nil w _ _ d n f i h underlying42
 cases d with
 | none=>
  have d:=b rfl;subst d;clear c b a
  go_enter func55,ntmps55
  go_wp2;go_ret;exact⟨_,rfl,zc.nil _ _ _,zb.refl w⟩
 | some x=>
  have d:=dD a;clear c b a
  go_enter func55,ntmps55
  go_wp2_with (at_builtin;refine zx (E:=Jw) rfl (.tmp 5) (.tmp 6) rfl w.heap.size _ [] rfl (zc.made Jw w) _ fs rfl (j.grew (za _ _)) ?qb (by simp) ?_)
  case qb=>rw[Yd,zA];exact d.out
  intro g a b a;go_wp2;go_ret;exact⟨g,rfl,by simpa using b,((bR _ w).alloc (nR _) _).grown a (by simp) (by intro k a;simp[Value.ownBlock]at a;omega)⟩
theorem ziI (v) (fs:List SpV) (w:Xn) (h:zl ZA w v fs):
  Xp prog 103 #[v] w fun e w'=>∃g,e= Xl g/\zc ZA w.heap.size w' g fs/\zb w w':=by
 have j:=dD h;obtain⟨⟨d,f,rfl,b,c⟩,a⟩:=h;have h:∀(w:Xn) (d:Option Addr) (n f i h:Nat),(binOp .eql 43 (O d n f) (O Xb i h)).run prog w= .ok (Xh d.isNone) w:=fun w d n f i h=>Lib.run_eql_slice_nil w _ _ d n f i h underlying43
 cases d with
 | none=>
  have d:=b rfl;subst d;clear c b a
  go_enter func103,ntmps103
  go_wp2;go_ret;exact⟨_,rfl,zc.nil _ _ _,zb.refl w⟩
 | some x=>
  have d:=dD a;clear c b a
  go_enter func103,ntmps103
  go_wp2_with (at_builtin;refine zx (E:=ZA) rfl (.tmp 5) (.tmp 6) rfl w.heap.size _ [] rfl (zc.made ZA w) _ fs rfl (j.grew (za _ _)) ?qb (by simp) ?_)
  case qb=>rw[Yd,zA];exact d.out
  intro g a b a;go_wp2;go_ret;exact⟨g,rfl,by simpa using b,((bR _ w).alloc (nR _) _).grown a (by simp) (by intro k a;simp[Value.ownBlock]at a;omega)⟩
theorem zdM (v fs) (w:Xn) (h:zl arE w v fs):
  Xp prog 104 #[v] w fun e w'=>∃g,e= Xl g/\zc arE w.heap.size w' g fs/\zb w w':=by
 have j:=dD h;obtain⟨⟨d,f,rfl,b,c⟩,a⟩:=h;have h:∀(w:Xn) (d:Option Addr) (n f i h:Nat),(binOp .eql 71 (O d n f) (O Xb i h)).run prog w= .ok (Xh d.isNone) w:=fun w d n f i h=>Lib.run_eql_slice_nil w _ _ d n f i h underlying71
 cases d with
 | none=>
  have d:=b rfl;subst d;clear c b a
  go_enter func104,ntmps104
  go_wp2;go_ret;exact⟨_,rfl,zc.nil _ _ _,zb.refl w⟩
 | some x=>
  have d:=dD a;clear c b a
  go_enter func104,ntmps104
  go_wp2_with (at_builtin;refine zx (E:=arE) rfl (.tmp 5) (.tmp 6) rfl w.heap.size _ [] rfl (zc.made arE w) _ fs rfl (j.grew (za _ _)) ?qb (by simp) ?_)
  case qb=>rw[Yd,zA];exact d.out
  intro g a b a;go_wp2;go_ret;exact⟨g,rfl,by simpa using b,((bR _ w).alloc (nR _) _).grown a (by simp) (by intro k a;simp[Value.ownBlock]at a;omega)⟩
end
section
def znX (f:Fr):Prop:=0<=f.r/\(0<=f.x/\f.x<12)/\(f.f=-1\/(0<=f.f/\f.f<5))/\(f.r=0->f=frF)/\(f.f=-1->f.x=0)
theorem zgK {f:Fr} (h:znX f) (a:f.r<=1000):frW f=0:=by
 obtain⟨a,a,c,d,e⟩:=h;unfold frW;have a:inB f.r 1001=Xc:=by simp[inB];omega
 have b:inB f.x 12=Xc:=by simp[inB];omega
 rw[a,b,kF (by decide)]
 have a:(!(f.f == -1) && !inB f.f 5)=Xd:=by
  rcases c with h|h
  ·simp[h]
  have:inB f.f 5=Xc:=by simp[inB];omega
  simp[this]
 rw[a,kF (by decide)]
 have b:(f.r == 0 && !zbr f frF)=Xd:=by
  by_cases a:f.r=0
  ·rw[(zdy f frF).2 (d a)];simp
  simp[a]
 have c:(f.f == -1 && !(f.x == 0))=Xd:=by
  by_cases a:f.f=-1
  ·simp[e a]
  simp[a]
 rw[b,c];rfl
theorem QL:∀{l:List Fr},zfS l=0↔∀f∈l,frW f=0
 | []=>by simp[zfS]
 | f :: l=>by
  unfold zfS
  by_cases h:frW f=0
  ·rw[kE h,QL]
   simp[h]
  rw[kF h]
  simp[h]
def zau (m:Ma) (x:On) (e:En):Prop:=enW e=0/\e.kind≠0/\zdD m x e=0
structure jZ (m:Ma) (T:List (Nat->En)):Prop where
 fs40:m.fs.length<=40
 fok:∀f∈m.fs,znX f
 sl60:m.sl.length<=60
 sbl:m.sb.length=m.sl.length
 sq:zS m.sb.length m.sq=0
 dok:zS m.db.length m.dq=0
 st:stW m.fl m.cnt=0
 cnt:m.cnt=(m.db.length:Int)
 blk:∀b:Nat,b<m.db.length->qe m.fl (b:Int)=Xd->m.db[b]? =Xa z4
 que:∀q∈m.dq,qe m.fl q.1=Xc
 spl:m.sp.length<=4
 spok:∀s∈m.sp,(wrL s.ars).1=0/\(s.live=Xd->s.ars=[])
 tl:T.length=m.sp.length
 ca:zb4 m Xb m.ca=0
 ent:∀(p:Nat) s f,m.sp[p]? =Xa s->T[p]? =Xa f->∀n:Nat,n<64->f n=en0\/zau m (zD s.ars n) (f n)
 cf:∀(k:Nat) f,m.fs[k]? =Xa f->f.r=((qv T 1 k+zO m.ca k:Nat):Int)/\(0<=f.f->zO m.ca k≠0)
 cs:∀(k:Nat) z,m.sl[k]? =Xa z->z=(qv T 2 k:Int)
theorem zw {m:Ma}:∀{l:List Ca} {p:Option Ca},zb4 m p l=0↔(∀c∈l,caE m Xb c=0)/\(∀q c,p=Xa q->c∈l->z5 q<z5 c)/\l.Pairwise (fun a b=>z5 a<z5 b)
 | [],p=>by simp[zb4]
 | c :: l,p=>by
  unfold zb4;have s:caE m p c=0↔caE m Xb c=0/\∀q,p=Xa q->z5 q<z5 c:=by
   unfold caE
   by_cases j:c.file<0\/(m.fl.length:Int)<=c.file\/c.idx<0\/bkN m c.file<=c.idx\/c.fr<0\/(m.fs.length:Int)<=c.fr
   ·rw[kE j,kE j];simp
   rw[kF j,kF j]
   by_cases k:(zQ m c.fr).r=0\/(zQ m c.fr).f≠c.file\/(zQ m c.fr).x≠c.idx
   ·rw[kE k,kE k];simp
   rw[kF k,kF k]
   cases p with
   | none=>simp
   | some q=>
    simp only[Option.some.injEq,forall_eq',true_and]
    by_cases r:z5 c<=z5 q
    ·rw[kE r];constructor
     ·intro h;cases h
     intro h;omega
    rw[kF r];simp;omega
  by_cases h:caE m p c=0
  ·rw[kE h,zw];obtain⟨v,n⟩:=s.1 h;constructor
   ·rintro⟨f,g,i⟩;refine⟨?_,?_,?_⟩
    ·intro x d
     rcases mC.1 d with rfl|d
     ·exact v
     exact f x d
    ·intro q x e d
     rcases mC.1 d with rfl|d
     ·exact n q e
     have:=n q e;have:=g c x rfl d;omega
    exact Xz.2 ⟨fun x d=>g c x rfl d,i⟩
   rintro⟨f,g,i⟩;obtain⟨t,u⟩:=Xz.1 i;exact⟨fun x d=>f x (by simp[d]),fun q x e d=>by cases e;exact t x d,u⟩
  rw[kF h];constructor
  ·intro w;exact absurd w h
  rintro⟨f,g,i⟩;exact absurd (s.2 ⟨f c (by simp),fun q e=>g q c e (by simp)⟩) h
theorem jr {c:Ca} (h:caE m Xb c=0):(0<=c.file/\c.file<m.fl.length/\0<=c.idx/\c.idx<bkN m c.file/\0<=c.fr/\c.fr<m.fs.length)/\(zQ m c.fr).r≠0/\(zQ m c.fr).f=c.file/\(zQ m c.fr).x=c.idx:=by
 unfold caE at h
 split at h
 ·cases h
 split at h
 ·cases h
 rename_i a a
 refine⟨by omega,fun h=>a (.inl h),?_,?_⟩
 ·exact Classical.byContradiction fun h=>a (.inr (.inl h))
 exact Classical.byContradiction fun h=>a (.inr (.inr h))
theorem J0 {c:Ca} (e:0<=c.file/\c.file<m.fl.length/\0<=c.idx/\c.idx<bkN m c.file/\0<=c.fr/\c.fr<m.fs.length) (a:(zQ m c.fr).r≠0) (b:(zQ m c.fr).f=c.file) (d:(zQ m c.fr).x=c.idx):caE m Xb c=0:=by
 unfold caE;rw[kF (by omega),kF (by rintro(h | h | h);exact a h;exact h b;exact h d)]
theorem zeL (h:zb4 m Xb m.ca=0) (k:Int):zO m.ca k<=1:=by
 obtain⟨j,_,n⟩:=zw.1 h;have h:∀(l:List Ca),(∀c∈l,caE m Xb c=0)->l.Pairwise (fun a b=>z5 a<z5 b)->zO l k<=1:=by
  intro l
  induction l with
  | nil=>intro _ _;simp[zO]
  | cons c l d=>
   intro e a;obtain⟨i,f⟩:=Xz.1 a;have b:=d (fun x d=>e x (by simp[d])) f
   unfold zO at b⊢;rw[List.countP_cons]
   by_cases g:c.fr=k
   ·have:l.countP (fun c=>decide (c.fr=k))=0:=by
     rw[Yx];intro x d f;have a:x.fr=k:=by simpa using f
     have f:=jr (e c (by simp))
     have c:=jr (e x (by simp[d]))
     have e:=i x d;rw[g]at f;rw[a]at c;unfold z5 at e;have:=f.2.2.1;have:=f.2.2.2;have:=c.2.2.1;have:=c.2.2.2;omega
    rw[this]
    simp[g]
   simp[g]
   exact b
 exact h m.ca j n
theorem ZT {ca:List Ca} {c:Ca} (h:c∈ca):zO ca c.fr≠0:=by
 unfold zO;intro a;rw[Yx]at a;exact a c h (by simp)
theorem zb3 {ca:List Ca} {k:Int} (h:zO ca k≠0):∃c∈ca,c.fr=k:=by
 unfold zO at h;have:0<ca.countP fun c=>decide (c.fr=k):=Nat.pos_of_ne_zero h
 rw[Yy]at this;obtain⟨c,a,b⟩:=this;exact⟨c,a,by simpa using b⟩
def ZL (f:Nat->En):List (List En):=Qt ((Xy 64).map f)
def JU (m:Ma) (T:List (Nat->En)) (h:Int):Ma:={ m with hand:=h,sp:=Yq (fun s f=>{ s with tb:=ZL f }) m.sp T }
theorem ze1 {f:Nat->En} (h:∀n,n<64->enW (f n)=0) {n:Nat} (a:n<64):zdt (ZL f) (n / 8) (n % 8)=f n:=by
 unfold ZL zdt Qt;rw[Xx,Xs (by omega)]
 simp only[Option.map_some,Option.getD_some];have b:∀e∈zcB ((Xy 64).map f) (n / 8),enW e=0:=by
  intro e a;unfold zcB at a;obtain⟨k,c,rfl⟩:=Xv.1 a;rw[Xu]at c;rw[Xx,Xs (by omega)]
  exact h _ (by omega)
 rw[zpw _ b];unfold zcB;rw[Xx,Xs (by omega)]
 simp only[Option.map_some,Option.getD_some];rw[Xx,Xs (by omega)]
 simp only[Option.map_some,Option.getD_some]
 congr 1
 omega
theorem zi3 {f:Nat->En} (h:∀n,n<64->enW (f n)=0):tbW (ZL f)=0:=by
 rw[Qm];intro x a;unfold ZL Qt at a;obtain⟨i,b,rfl⟩:=Xv.1 a;rw[Xu]at b;refine zrb (by simp[zcB]) ?_
 intro e a;unfold zcB at a;obtain⟨k,b,rfl⟩:=Xv.1 a;rw[Xu]at b;rw[Xx,Xs (by omega)]
 exact h _ (by omega)
theorem zhT {f:Nat->En} (h:∀n,n<64->f n=en0):(ZL f).all (·.isEmpty)=Xc:=by
 rw[List.all_eq_true];intro x a;unfold ZL Qt at a;obtain⟨i,b,rfl⟩:=Xv.1 a;rw[Xu]at b;have:zeP (zcB ((Xy 64).map f) i)=Xd:=by
  unfold zeP;rw[Oi];intro e a;unfold zcB at a;obtain⟨k,b,rfl⟩:=Xv.1 a;rw[Xu]at b;rw[Xx,Xs (by omega)]
  simp only[Option.map_some,Option.getD_some];rw[h _ (by omega)]
  decide
 unfold mk;rw[kF (by rw[this];decide)]
 rfl
theorem zg7 {f g:Nat->En} (kind k:Int):∀{m:Nat},(∀n,n<m->f n=g n)->Zd f kind k m=Zd g kind k m
 | 0,_=>rfl
 | m+1,h=>by
  unfold Zd;rw[zg7 kind k (fun n a=>h n (by omega)),h m (by omega)]
section
variable{m:Ma} {T:List (Nat->En)}
theorem jZ.en (h:jZ m T) {p:Nat} {f:Nat->En} (a:T[p]? =Xa f) {n:Nat} (b:n<64):enW (f n)=0:=by
 have c:p<m.sp.length:=by rw[<-h.tl];exact(gS.1 a).1
 rcases h.ent p _ f (gE c) a n b with a|a
 ·rw[a];exact QP
 exact a.1
theorem zpz (h:jZ m T) (b:Int) {p:Nat} {s:Sp} (a:(JU m T b).sp[p]? =Xa s):∃b f,m.sp[p]? =Xa b/\T[p]? =Xa f/\s={ b with tb:=ZL f }:=by
 unfold JU at a;simp only[List.getElem?_zipWith]at a;have c:p<m.sp.length:=by
  rcases Nat.lt_or_ge p m.sp.length with b|b
  ·exact b
  rw[gN b]at a;cases a
 have b:p<T.length:=by rw[h.tl];exact c
 rw[gE c,gE b]at a;simp only[Option.some.injEq]at a;exact⟨_,_,gE c,gE b,a.symm⟩
theorem zjB (h:jZ m T) (a:Int) (kind k:Int):zdn (JU m T a) kind k=qv T kind k:=by
 have b:∀(S:List Sp) (T:List (Nat->En)),T.length=S.length->(∀(p:Nat) f,T[p]? =Xa f->∀n,n<64->enW (f n)=0)->qv ((Yq (fun s f=>({ s with tb:=ZL f }:Sp)) S T).map ze) kind k=qv T kind k:=by
  intro S
  induction S with
  | nil=>intro T a _;rw[List.length_eq_zero_iff.1 a];rfl
  | cons s S e=>
   intro T a d
   cases T with
   | nil=>simp at a
   | cons f T=>
    have c:=e T (by simpa using a) (fun p g a=>d (p+1) g (by simpa using a))
    have e:Zd (ze { s with tb:=ZL f }) kind k 64=Zd f kind k 64:=zg7 kind k fun n a=>by
     unfold ze;exact ze1 (d 0 f rfl) a
    simp only[Yr,mP,qv,List.sum_cons]at c⊢;rw[c,e]
 exact b m.sp T h.tl fun p f b n a=>h.en b a
theorem jZ.right (h:jZ m T) {d:Int} (a:0<=d) (b:d<max (m.fs.length:Int) 1):maW (JU m T d)=0:=by
 have a:T.length<=4:=by rw[h.tl];exact h.spl
 unfold maW;rw[zp];intro e a;simp only[mC,nM,or_false]at a
 rcases a with rfl|rfl|rfl|rfl|rfl
 ·unfold zam;rw[zp];intro e a;simp only[mC,nM,or_false]at a
  rcases a with rfl|rfl|rfl|rfl|rfl|rfl|rfl|rfl|rfl|rfl
  ·show Zb m.fs d=0
   unfold Zb;have b:zfS m.fs=0:=QL.2 fun f l=>by
    obtain⟨k,g⟩:=Xt l;refine zgK (h.fok f l) ?_;rw[(h.cf k f g).1];have:=zdp T 1 k;have:=zeL h.ca k;omega
   rw[kF (by have:=h.fs40;omega),kE b,kE]
   simp[inB]
   omega
  ·show slW m.sl=0
   unfold slW;rw[kF (by have:=h.sl60;omega),kF]
   rw[Yb];rintro⟨z,b,i⟩;obtain⟨k,g⟩:=Xt b;have c:=h.cs k z g;have:=zdp T 2 k;unfold zdU at i
   simp at i
   omega
  ·exact h.sq
  ·exact h.dok
  ·exact h.st
  ·show zlB m=0
   unfold zlB;rw[kF];have:=h.sbl;have:=h.cnt;omega
  ·show J4 m=0
   unfold J4;rw[kF];rw[Yb];rintro⟨j,i,b⟩;rw[Xu]at i;simp only[Ye,Bool.not_eq_true']at b;have:=h.blk j i b.1;rw[gD,this]at b
   simp at b
  ·show JJ m=0
   unfold JJ;rw[kF];rw[Yb];rintro⟨y,w,b⟩;rw[h.que y w]at b;cases b
  ·have:(JU m T d).sp.length<=4:=by
    unfold JU;simp;have:=h.spl;omega
   rw[kF (by omega)]
  rw[zp];intro e a;obtain⟨z,u,rfl⟩:=Xv.1 a;obtain⟨x,v⟩:=Xt u;obtain⟨s,f,q,r,rfl⟩:=zpz h d v;have t:=h.spok s (mG q);unfold spE;simp only;rw[kF (fun h=>h t.1),kF (fun i=>i (zi3 fun n i=>h.en r i)),kF]
  intro b;rw[Ye]at b;have p:s.live=Xd:=by simpa using b.1
  have j:=t.2 p;have p:(ZL f).all (·.isEmpty)=Xc:=zhT fun n i=>by
   rcases h.ent x s f q r n i with e|e
   ·exact e
   have:=e.2.2;unfold zdD at this;rw[j,kE (show(zD [] n).is=Xd from rfl)]at this
   cases this
  rw[j,p]at b
  simp at b
 ·obtain⟨q,r,j⟩:=zw.1 h.ca;exact zw.2 ⟨fun b p=>q b p,fun y b w=>(by cases w),j⟩
 ·rw[zp];intro e a;obtain⟨z,u,rfl⟩:=Xv.1 a;obtain⟨x,v⟩:=Xt u;obtain⟨s,f,q,r,rfl⟩:=zpz h d v;unfold zd3;rw[zp];intro e a;obtain⟨n,i,rfl⟩:=Xv.1 a;rw[Xu]at i;have l:ze { s with tb:=ZL f } n=f n:=by
   unfold ze;exact ze1 (fun n i=>h.en r i) i
  rw[l]
  rcases h.ent x s f q r n i with c|c
  ·rw[c,kE (show en0.kind=0 from rfl)]
  rw[kF c.2.1];exact c.2.2
 ·rw[zp];intro e a;obtain⟨k,g,rfl⟩:=Xv.1 a;rw[Xu]at g;have b:k<m.fs.length:=g;have l:=h.cf k _ (gE b);unfold frE;rw[zjB h d];have f:zQ (JU m T d) k=m.fs[k]:=by
   show m.fs.getD (k:Int).toNat frF=_
   rw[tN,gD,gE b];rfl
  rw[f,kF];rintro(c|⟨c,i⟩)
  ·exact c l.1
  exact l.2 c i
 rw[zp];intro e a;obtain⟨k,g,rfl⟩:=Xv.1 a;rw[Xu]at g;have b:k<m.sl.length:=g;have u:=h.cs k _ (gE b);unfold zhX;rw[zjB h d];have f:(JU m T d).sl.getD k 0=m.sl[k]:=by
  show m.sl.getD k 0=_
  rw[gD,gE b];rfl
 rw[f,kF (fun c=>c u)]
def jy (m:Ma):List (Nat->En):=m.sp.map ze
theorem za4 {m:Ma} (h:maW m=0):jZ m (jy m)/\0<=m.hand/\m.hand<max (m.fs.length:Int) 1:=by
 unfold maW at h;rw[zp]at h;have c:zam m=0:=h _ (by simp)
 have q:zb4 m Xb m.ca=0:=h _ (by simp)
 have C:=zp.1 (h (zu (m.sp.map (zd3 m))) (by simp))
 have D:=zp.1 (h (zu ((Xy m.fs.length).map (frE m))) (by simp))
 have E:=zp.1 (h (zu ((Xy m.sl.length).map (zhX m))) (by simp))
 unfold zam at c;rw[zp]at c;have a:Zb m.fs m.hand=0:=c _ (by simp)
 have f:slW m.sl=0:=c _ (by simp)
 have k:zS m.sb.length m.sq=0:=c _ (by simp)
 have l:zS m.db.length m.dq=0:=c _ (by simp)
 have n:stW m.fl m.cnt=0:=c _ (by simp)
 have g:zlB m=0:=c _ (by simp)
 have u:J4 m=0:=c _ (by simp)
 have v:JJ m=0:=c _ (by simp)
 have A:(if 4<m.sp.length then(4:Int)else 0)=0:=c _ (by simp)
 have j:=zp.1 (c (zu (m.sp.map spE)) (by simp))
 have e:m.fs.length<=40/\zfS m.fs=0/\0<=m.hand/\m.hand<max (m.fs.length:Int) 1:=by
  unfold Zb at a
  split at a
  ·cases a
  split at a
  ·rename_i b d
   split at a
   ·rename_i i
    unfold inB at i
    simp at i
    exact⟨by omega,d,by omega,by omega⟩
   cases a
  rename_i b d
  exact absurd a d
 have r:m.sl.length<=60:=by
  unfold slW at f
  split at f
  ·cases f
  omega
 have a:m.sl.length=m.sb.length/\m.cnt=(m.db.length:Int):=by
  unfold zlB at g
  split at g
  ·cases g
  rename_i b
  constructor
  ·exact Classical.byContradiction fun h=>b (.inl h)
  exact Classical.byContradiction fun h=>b (.inr h)
 refine⟨⟨e.1,fun f p=>?_,r,a.1.symm,k,l,n,a.2,fun d t H=>?_,fun B G=>?_,?_,fun s l=>?_,by simp[jy],q,fun a s f l r n F=>?_,fun k f g=>?_,fun k z g=>?_⟩,e.2.2.1,e.2.2.2⟩
 ·have a:=QL.1 e.2.1 f p;unfold frW at a
  split at a
  ·cases a
  rename_i e
  split at a
  ·cases a
  rename_i z
  split at a
  ·cases a
  rename_i w
  have x:inB f.r 1001=Xc/\inB f.x 12=Xc:=by
   cases p:inB f.r 1001 <;> cases a:inB f.x 12 <;> simp[p,a]at e⊢
  have y:f.f=-1\/inB f.f 5=Xc:=by
   by_cases e:f.f=-1
   ·exact .inl e
   right
   cases a:inB f.f 5 with
   | true=>rfl
   | false=>simp[e,a]at z
  have z:(f.r=0->f=frF)/\(f.f=-1->f.x=0):=by
   constructor
   ·intro e
    cases a:zbr f frF with
    | true=>exact(zdy f frF).1 a
    | false=>simp[e,a]at w
   intro e
   by_cases a:f.x=0
   ·exact a
   simp[e,a]at w
  unfold inB at x y
  simp at x y
  exact⟨by omega,by omega,by omega,z.1,z.2⟩
 ·unfold J4 at u
  split at u
  ·cases u
  rename_i b
  have:¬(!qe m.fl (d:Int) && !(m.db.getD d [] == z4))=Xc:=fun h=>b (Yb.2 ⟨d,Xu.2 t,h⟩)
  rw[H,gD,gE t]at this;rw[gE t]
  simp at this
  rw[this]
 ·unfold JJ at v
  split at v
  ·cases v
  rename_i b
  cases e:qe m.fl B.1 with
  | true=>rfl
  | false=>exact absurd (Yb.2 ⟨B,G,by simp[e]⟩) b
 ·split at A
  ·cases A
  omega
 ·have a:=j (spE s) (Xv.2 ⟨s,l,rfl⟩);unfold spE at a
  split at a
  ·rename_i b;exact absurd a b
  rename_i b
  split at a
  ·rename_i d;exact absurd a d
  split at a
  ·cases a
  rename_i i
  refine⟨by simpa using b,fun t=>?_⟩
  rw[t]at i
  cases e:s.ars with
  | nil=>rfl
  | cons x y=>rw[e]at i;simp at i
 ·unfold jy at r;rw[Xx,l]at r;cases r;have i:=mG l;have a:=j (spE s) (Xv.2 ⟨s,i,rfl⟩);have j:tbW s.tb=0:=by
   unfold spE at a
   split at a
   ·rename_i b;exact absurd a b
   split at a
   ·rename_i d;exact absurd a d
   rename_i d;simpa using d
  have d:enW (ze s n)=0:=by
   unfold ze zdt;have a:=Qm.1 j;have:ziY (s.tb[n / 8]?.getD []):=by
    cases e:s.tb[n / 8]? with
    | none=>exact .inl rfl
    | some x=>exact a x (mG e)
   exact this.get (n % 8)
  have a:=zp.1 (C (zd3 m s) (Xv.2 ⟨s,i,rfl⟩)) _ (Xv.2 ⟨n,Xu.2 F,rfl⟩)
  by_cases g:(ze s n).kind=0
  ·left;exact zni d (by simp[enS,g])
  right;rw[kF g]at a;exact⟨d,g,a⟩
 ·have a:=(gS.1 g).1;have:=D (frE m k) (Xv.2 ⟨k,Xu.2 a,rfl⟩);unfold frE at this;have p:zQ m k=f:=by unfold zQ;rw[tN,gD,g];rfl
  rw[p]at this
  split at this
  ·cases this
  rename_i b
  refine⟨Classical.byContradiction fun h=>b (.inl h),fun c q=>b (.inr ⟨c,q⟩)⟩
 have a:=(gS.1 g).1;have:=E (zhX m k) (Xv.2 ⟨k,Xu.2 a,rfl⟩);unfold zhX at this;rw[gD,g]at this
 split at this
 ·cases this
 rename_i b
 exact Classical.byContradiction fun h=>b h
end
section
variable{m:Ma} {T:List (Nat->En)}
theorem zJ {m:Ma} {k:Nat} {f:Fr} (h:m.fs[k]? =Xa f):zQ m (k:Int)=f:=by
 unfold zQ;rw[tN,gD,h];rfl
theorem qE {m:Ma} {k:Nat} {f:Fr} (a:k<m.fs.length) (z:Int) (b:0<=z):zQ { m with fs:=m.fs.set k f } z=if z=(k:Int)then f else zQ m z:=by
 unfold zQ;simp only[gD]
 by_cases e:z=(k:Int)
 ·subst e;rw[kE rfl,tN,sF a];rfl
 rw[kF e,sN (by omega)]
theorem j6 {m:Ma} {x:On} {e:En} (h:zdD m x e=0) (b:m'.sl.length=m.sl.length) (a:m'.fs.length=m.fs.length) (f:e.kind≠2->(zQ m' e.n).f=(zQ m e.n).f/\(zQ m' e.n).x=(zQ m e.n).x/\(e.wr=Xc->(zQ m e.n).f=-1->(zQ m' e.n).r<=1)):zdD m' x e=0:=by
 unfold zdD at h⊢;rw[b,a]
 by_cases a:x.is=Xd
 ·rw[kE a]at h;cases h
 rw[kF a]at h⊢
 by_cases a:e.kind=2
 ·rw[kE a]at h⊢;exact h
 rw[kF a]at h⊢;obtain⟨b,c,d⟩:=f a
 by_cases a:(m.fs.length:Int)<=e.n
 ·rw[kE a]at h;cases h
 rw[kF a]at h⊢;rw[b,c]
 split at h
 ·cases h
 rename_i b
 rw[kF];rintro(a|a|a|a|a)
 ·exact b (.inl a)
 ·exact b (.inr (.inl a))
 ·exact b (.inr (.inr (.inl a)))
 ·exact b (.inr (.inr (.inr (.inl a))))
 have:=d a.1 a.2.1;omega
theorem qd {m:Ma} {x:On} {e:En} (h:zau m x e) (c:e.kind≠2):e.kind=1/\0<=e.n/\e.n<m.fs.length/\(e.wr=Xc->(zQ m e.n).f=-1->(zQ m e.n).r<=1):=by
 obtain⟨b,a,a⟩:=h;obtain⟨d,d,_⟩:=jD b;unfold zdD at a
 by_cases b:x.is=Xd
 ·rw[kE b]at a;cases a
 rw[kF b,kF c]at a
 by_cases b:(m.fs.length:Int)<=e.n
 ·rw[kE b]at a;cases a
 rw[kF b]at a
 split at a
 ·cases a
 rename_i c
 refine⟨by omega,by omega,by omega,fun a b=>?_⟩
 have:¬1< (zQ m e.n).r:=fun h=>c (.inr (.inr (.inr (.inr ⟨a,b,h⟩))))
 omega
theorem Jb {T:List (Nat->En)} {p:Nat} {f:Nat->En} (a:T[p]? =Xa f) {n:Nat} (c:n<64) (b:(f n).kind=1):1<=qv T 1 (f n).n:=zaf a c (by simp[isE,b]) (by decide)
theorem jZ.free (h:jZ m T) {f:Fr} (b:m.fs[j]? =Xa f) (a:f.r=0):qv T 1 j=0/\zO m.ca j=0:=by
 have:=(h.cf j f b).1;rw[a]at this;omega
def Qc (ca:List Ca) (c:Ca):List Ca:=ca.takeWhile (fun d=>decide (z5 d<z5 c))++c :: ca.dropWhile (fun d=>decide (z5 d<z5 c))
theorem zkM (ca) (c:Ca) (k:Int):zO (Qc ca c) k=zO ca k+(if c.fr=k then 1 else 0):=by
 unfold Qc zO;have h:=Yh (p:=fun d=>decide (z5 d<z5 c)) (l:=ca)
 rw[Yc,List.countP_cons]
 conv=>rhs;rw[<-h,Yc]
 by_cases e:c.fr=k
 ·simp[e];omega
 simp[e]
theorem zmO {ca:List Ca} {c d:Ca} (h:d∈Qc ca c):d=c\/d∈ca:=by
 unfold Qc at h;rw[Ya,mC]at h
 rcases h with h|h|h
 ·exact .inr ((Ys _).subset h)
 ·exact .inl h
 exact .inr ((List.dropWhile_sublist _).subset h)
theorem zex {c:Ca}:∀{ca:List Ca},ca.Pairwise (fun a b=>z5 a<z5 b)->(∀d∈ca,z5 d≠z5 c)->(Qc ca c).Pairwise (fun a b=>z5 a<z5 b)
 | [],_,_=>by simp[Qc]
 | d :: ca,i,g=>by
  obtain⟨j,k⟩:=Xz.1 i
  by_cases f:z5 d<z5 c
  ·have h:Qc (d :: ca) c=d :: Qc ca c:=by
    unfold Qc;rw[Yz,Oa,kE (by simpa using f),kE (by simpa using f)]
    rfl
   rw[h];refine Xz.2 ⟨fun x e=>?_,zex k fun x e=>g x (by simp[e])⟩
   rcases zmO e with rfl|e
   ·exact f
   exact j x e
  have h:Qc (d :: ca) c=c :: d :: ca:=by
   unfold Qc;rw[Yz,Oa,kF (by simpa using f),kF (by simpa using f)]
   rfl
  rw[h];have:=g d (by simp)
  refine Xz.2 ⟨fun x e=>?_,i⟩
  rcases mC.1 e with rfl|e
  ·omega
  have:=j x e;omega
theorem jZ.pages (h:jZ m T) {file:Int} (a:0<=file) (b:file<m.fl.length):bkN m file<=12/\file<5:=by
 obtain⟨⟨a,a,a⟩,c,a⟩:=(qC m.fl m.cnt).1 h.st;have a:file.toNat<m.fl.length:=by omega
 have b:=c _ (List.getElem_mem a);unfold bkN;rw[gD,gE a];simp only[Option.getD_some];obtain⟨a,a,c⟩:=b;unfold zcl at a
 split at a <;> omega
theorem jZ.cache (h:jZ m T) {a:Fr} {p:Pg} {u d:Bool} {file idx:Int} (b:m.fs[j]? =Xa a) (e:a.r=0) (q:0<=file/\file<m.fl.length) (hi:0<=idx/\idx<bkN m file) (g:∀c∈m.ca,¬(c.file=file/\c.idx=idx)):
  jZ { m with fs:=m.fs.set j ⟨p,1,u,d,file,idx⟩,ca:=Qc m.ca ⟨file,idx,j⟩ } T:=by
 have a:=(gS.1 b).1;obtain⟨f,f⟩:=h.free b e;obtain⟨b,b⟩:=h.pages q.1 q.2;obtain⟨s,b,x⟩:=zw.1 h.ca;have r:∀c∈m.ca,c.fr≠(j:Int):=fun c b e=>by
  have:=ZT b;rw[e]at this;exact this f
 have k:∀c∈m.ca,z5 c≠z5 ⟨file,idx,j⟩:=fun c b e=>by
  have f:=(jr (s c b)).1;have i:=h.pages f.1 f.2.1;have:=g c b;unfold z5 at e;simp only at e;omega
 refine⟨by simpa using h.fs40,fun f g=>?_,h.sl60,h.sbl,h.sq,h.dok,h.st,h.cnt,h.blk,h.que,h.spl,h.spok,h.tl,?_,fun w A f z t n l=>?_,fun v f i=>?_,h.cs⟩
 ·rcases Xw g with g | rfl
  ·exact h.fok f g
  refine⟨by simp,by simp only;omega,.inr (by simp only;omega),fun h=>by simp at h,fun h=>by simp only at h;omega⟩
 ·refine zw.2 ⟨fun c b=>?_,fun w c g=>(by cases g),zex x k⟩
  rcases zmO b with rfl|b
  ·refine J0 ⟨q.1,q.2,hi.1,hi.2,by simp,by simpa using a⟩ ?_ ?_ ?_ <;> rw[show zQ { m with fs:=m.fs.set j ⟨p,1,u,d,file,idx⟩,ca:=Qc m.ca ⟨file,idx,j⟩ } (⟨file,idx,(j:Int)⟩:Ca).fr=⟨p,1,u,d,file,idx⟩from by rw[show zQ { m with fs:=m.fs.set j ⟨p,1,u,d,file,idx⟩,ca:=Qc m.ca ⟨file,idx,j⟩ } (⟨file,idx,(j:Int)⟩:Ca).fr=zQ { m with fs:=m.fs.set j ⟨p,1,u,d,file,idx⟩ } (j:Int)from rfl,qE a _ (by omega),kE rfl]]
   simp
  obtain⟨k,q,x,y⟩:=jr (s c b);have g:zQ { m with fs:=m.fs.set j ⟨p,1,u,d,file,idx⟩,ca:=Qc m.ca ⟨file,idx,j⟩ } c.fr=zQ m c.fr:=by
   rw[show zQ { m with fs:=m.fs.set j ⟨p,1,u,d,file,idx⟩,ca:=Qc m.ca ⟨file,idx,j⟩ } c.fr=zQ { m with fs:=m.fs.set j ⟨p,1,u,d,file,idx⟩ } c.fr from rfl,qE a _ k.2.2.2.2.1,kF (r c b)]
  exact J0 (by simpa [bkN]using k) (by rw[g];exact q) (by rw[g];exact x) (by rw[g];exact y)
 ·rcases h.ent w A f z t n l with e|e
  ·exact .inl e
  refine .inr ⟨e.1,e.2.1,j6 e.2.2 rfl (by simp) fun i=>?_⟩
  obtain⟨k,q,b,r⟩:=qd e i;have b:(f n).n≠(j:Int):=fun s=>by
   have:=Jb t l k;rw[s]at this;omega
  have g:zQ { m with fs:=m.fs.set j ⟨p,1,u,d,file,idx⟩,ca:=Qc m.ca ⟨file,idx,j⟩ } (f n).n=zQ m (f n).n:=by
   rw[show zQ { m with fs:=m.fs.set j ⟨p,1,u,d,file,idx⟩,ca:=Qc m.ca ⟨file,idx,j⟩ } (f n).n=zQ { m with fs:=m.fs.set j ⟨p,1,u,d,file,idx⟩ } (f n).n from rfl,qE a _ q,kF b]
  rw[g];exact⟨rfl,rfl,r⟩
 simp only at i⊢;rw[zkM]
 by_cases e:v=j
 ·subst e;rw[sF a]at i;cases i;refine⟨?_,fun _=>by simp⟩
  simp only[if_true];omega
 rw[sN (fun h=>e h.symm)]at i
 have:=h.cf v f i;rw[kF (by simp only;omega)]
 exact this
theorem zfG {T:List (Nat->En)} {p n:Nat} {f:Nat->En} {e:En} (hp:p<T.length) (h:m'.sp=m.sp) (k:T[p]? =Xa f)
  (a:∀(q:Nat) s g,m.sp[q]? =Xa s->T[q]? =Xa g->∀j:Nat,j<64->(q≠p\/j≠n)->g j=en0\/zau m' (zD s.ars j) (g j)) (b:∀s,m.sp[p]? =Xa s->zau m' (zD s.ars n) e):
  ∀(q:Nat) s g,m'.sp[q]? =Xa s->(T.set p (Jm f n e))[q]? =Xa g->∀j:Nat,j<64->g j=en0\/zau m' (zD s.ars j) (g j):=by
 intro q s g d c j l;rw[h]at d
 by_cases i:q=p
 ·subst i;rw[sF hp]at c;cases c;unfold Jm
  by_cases h:j=n
  ·subst h;rw[kE rfl];exact .inr (b s d)
  rw[kF h];exact a q s f d k j l (.inr h)
 rw[sN (fun h=>i h.symm)]at c
 exact a q s g d c j l (.inl i)
theorem zjo (k:Int) (kind:Int) (w:Bool):isE ⟨kind,k,w⟩ kind k=Xc:=by simp[isE]
theorem zbi {kind k:Int} {e:En} (h:e.kind≠kind):isE e kind k=Xd:=by simp[isE,h]
theorem JP {kind k:Int} {e:En} (h:e.n≠k):isE e kind k=Xd:=by simp[isE,h]
theorem jZ.hold (h:jZ m T) {k p n:Nat} {fr:Fr} {f:Nat->En} {s:Sp} {w:Bool} (x:m.fs[k]? =Xa fr) (a:0<=fr.f) (F:m.sp[p]? =Xa s) (D:T[p]? =Xa f) (g:n<64) (c:f n=en0)
  (S:(zD s.ars n).is=Xc) (t:(zD s.ars n).file=fr.f) (u:(zD s.ars n).page=fr.x) (L:w=Xc->(zD s.ars n).sh=Xc/\(zD s.ars n).wr=Xc):
  jZ { m with fs:=m.fs.set k { fr with r:=fr.r+1 } } (T.set p (Jm f n ⟨1,k,w⟩)):=by
 have d:=(gS.1 x).1;have E:=(gS.1 D).1;have l:=h.fok fr (mG x);have i:∀z:Int,0<=z->(zQ { m with fs:=m.fs.set k { fr with r:=fr.r+1 } } z).f=(zQ m z).f/\(zQ { m with fs:=m.fs.set k { fr with r:=fr.r+1 } } z).x=(zQ m z).x/\((zQ m z).f=-1->(zQ { m with fs:=m.fs.set k { fr with r:=fr.r+1 } } z).r=(zQ m z).r):=fun z a=>by
  rw[qE d z a]
  by_cases b:z=(k:Int)
  ·subst b;rw[kE rfl,zJ x];exact⟨rfl,rfl,fun h=>by omega⟩
  rw[kF b];exact⟨rfl,rfl,fun _=>rfl⟩
 have q:∀a j:Int,qv (T.set p (Jm f n ⟨1,k,w⟩)) a j+(isE en0 a j).toNat=qv T a j+(isE ⟨1,k,w⟩ a j).toNat:=fun a j=>by
  have:=ZP ⟨1,k,w⟩ a j D g;rw[c]at this;exact this
 refine⟨by simpa using h.fs40,fun g a=>?_,h.sl60,h.sbl,h.sq,h.dok,h.st,h.cnt,h.blk,h.que,h.spl,h.spok,by simpa using h.tl,?_,?_,fun j g c=>?_,fun j z c=>?_⟩
 ·rcases Xw a with a|rfl
  ·exact h.fok g a
  obtain⟨R,A,G,H,v⟩:=l;exact⟨by simp only;omega,A,G,fun h=>by simp only at h;omega,v⟩
 ·obtain⟨B,v,y⟩:=zw.1 h.ca;refine zw.2 ⟨fun v C=>?_,fun M v K=>(by cases K),y⟩
  obtain⟨y,N,P,Q⟩:=jr (B v C);obtain⟨B,C,K⟩:=i v.fr y.2.2.2.2.1;refine J0 (by simpa [bkN]using y) ?_ (by rw[B];exact P) (by rw[C];exact Q)
  rw[qE d _ y.2.2.2.2.1]
  by_cases b:v.fr=(k:Int)
  ·rw[kE b];have:=l.1;simp only;omega
  rw[kF b];exact N
 ·refine zfG E rfl D (fun M s g F a j c l=>?_) (fun l l=>?_)
  ·rcases h.ent M s g F a j c with b|b
   ·exact .inl b
   refine .inr ⟨b.1,b.2.1,j6 b.2.2 rfl (by simp) fun a=>?_⟩
   obtain⟨R,A,G,H⟩:=qd b a;obtain⟨B,C,K⟩:=i (g j).n A;exact⟨B,C,fun i a=>by rw[K a];exact H i a⟩
  rw[F]at l;cases l;refine⟨JV (by simp) ⟨by simp,by simp only;have:=h.fs40;omega,fun _=>by simp only;have:=h.fs40;omega⟩ (by simp),by simp,?_⟩
  have a:zQ { m with fs:=m.fs.set k { fr with r:=fr.r+1 } } ((k:Nat):Int)={ fr with r:=fr.r+1 }:=by rw[qE d _ (by omega),kE rfl]
  unfold zdD;simp only;rw[kF (by rw[S];decide),kF (by decide),kF (by simp;omega),a,kF]
  simp only;rintro(a|a|a|a|a)
  ·exact a.2 ⟨by omega,t.symm,u.symm⟩
  ·exact a.2 ⟨by omega,t.symm,u.symm⟩
  ·rw[(L a.1).2]at a;cases a.2
  ·rw[(L a.1).1]at a;cases a.2.2
  omega
 ·simp only at c⊢;have a:=q 1 j;rw[jq 1 j (by decide)]at a
  by_cases b:j=k
  ·subst b;rw[sF d]at c;cases c;rw[zjo]at a;have:=h.cf j fr x;refine⟨?_,this.2⟩
   simp at a
   simp only;omega
  rw[sN (fun h=>b h.symm)]at c
  rw[JP (e:=⟨1,(k:Int),w⟩) (by simp only;omega)]at a
  have:=h.cf j g c;refine⟨?_,this.2⟩
  simp at a
  omega
 simp only at c⊢;have a:=q 2 j;rw[jq 2 j (by decide),zbi (e:=⟨1,(k:Int),w⟩) (by simp)]at a
 have:=h.cs j z c
 simp at a
 omega
theorem jZ.mine (h:jZ m T) {p n:Nat} {a:Fr} {pg:Pg} {u w:Bool} {f:Nat->En} {s:Sp} (b:m.fs[j]? =Xa a) (i:a.r=0) (x:m.sp[p]? =Xa s) (r:T[p]? =Xa f) (g:n<64) (d:f n=en0)
  (F:(zD s.ars n).is=Xc) (y:(zD s.ars n).sh=Xd) (E:w=Xc->(zD s.ars n).wr=Xc):
  jZ { m with fs:=m.fs.set j ⟨pg,1,u,Xd,-1,0⟩ } (T.set p (Jm f n ⟨1,j,w⟩)):=by
 have c:=(gS.1 b).1;have v:=(gS.1 r).1;obtain⟨a,H⟩:=h.free b i;have q:∀a k:Int,qv (T.set p (Jm f n ⟨1,j,w⟩)) a k+(isE en0 a k).toNat=qv T a k+(isE ⟨1,j,w⟩ a k).toNat:=fun a k=>by
  have:=ZP ⟨1,j,w⟩ a k r g;rw[d]at this;exact this
 refine⟨by simpa using h.fs40,fun g i=>?_,h.sl60,h.sbl,h.sq,h.dok,h.st,h.cnt,h.blk,h.que,h.spl,h.spok,by simpa using h.tl,?_,?_,fun k g d=>?_,fun k G d=>?_⟩
 ·rcases Xw i with i|rfl
  ·exact h.fok g i
  exact⟨by simp,by simp,.inl rfl,fun h=>by simp at h,fun _=>rfl⟩
 ·obtain⟨a,b,b⟩:=zw.1 h.ca;refine zw.2 ⟨fun l t=>?_,fun A l z=>(by cases z),b⟩
  obtain⟨z,B,C,D⟩:=jr (a l t);have b:l.fr≠(j:Int):=fun a=>by
   have:=ZT t;rw[a]at this;exact this H
  have t:zQ { m with fs:=m.fs.set j ⟨pg,1,u,Xd,-1,0⟩ } l.fr=zQ m l.fr:=by rw[qE c _ z.2.2.2.2.1,kF b]
  exact J0 (by simpa [bkN]using z) (by rw[t];exact B) (by rw[t];exact C) (by rw[t];exact D)
 ·refine zfG v rfl r (fun A s g x i v t b=>?_) (fun l l=>?_)
  ·rcases h.ent A s g x i v t with a|a
   ·exact .inl a
   refine .inr ⟨a.1,a.2.1,j6 a.2.2 rfl (by simp) fun r=>?_⟩
   obtain⟨z,A,B,B⟩:=qd a r;have b:(g v).n≠(j:Int):=fun r=>by
    have:=Jb i t z;rw[r]at this;omega
   rw[qE c _ A,kF b];exact⟨rfl,rfl,B⟩
  rw[x]at l;cases l;refine⟨JV (by simp) ⟨by simp,by simp only;have:=h.fs40;omega,fun _=>by simp only;have:=h.fs40;omega⟩ (by simp),by simp,?_⟩
  have b:zQ { m with fs:=m.fs.set j ⟨pg,1,u,Xd,-1,0⟩ } ((j:Nat):Int)=⟨pg,1,u,Xd,-1,0⟩:=by rw[qE c _ (by omega),kE rfl]
  unfold zdD;simp only;rw[kF (by rw[F];decide),kF (by decide),kF (by simp;omega),b,kF]
  simp only;rintro(b|b|b|b|b)
  ·exact b.1 trivial
  ·rw[y]at b;cases b.1
  ·rw[E b.1]at b;cases b.2
  ·omega
  omega
 ·simp only at d⊢;have b:=q 1 k;rw[jq 1 k (by decide)]at b
  by_cases a:k=j
  ·subst a;rw[sF c]at d;cases d;rw[zjo]at b;refine⟨?_,fun h=>by simp at h⟩
   simp at b
   simp only;omega
  rw[sN (fun h=>a h.symm)]at d
  rw[JP (e:=⟨1,(j:Int),w⟩) (by simp only;omega)]at b
  have:=h.cf k g d;refine⟨?_,this.2⟩
  simp at b
  omega
 simp only at d⊢;have b:=q 2 k;rw[jq 2 k (by decide),zbi (e:=⟨1,(j:Int),w⟩) (by simp)]at b
 have:=h.cs k G d
 simp at b
 omega
end
section
variable{m:Ma} {T:List (Nat->En)}
theorem zoO {e e':En} (a:e'.kind=e.kind) (b:e'.n=e.n) (kind k:Int):isE e' kind k=isE e kind k:=by unfold isE;rw[a,b]
theorem zmP {p n:Nat} {f:Nat->En} {e':En} (c:T[p]? =Xa f) (d:n<64) (a:e'.kind=(f n).kind) (b:e'.n=(f n).n) (kind k:Int):qv (T.set p (Jm f n e')) kind k=qv T kind k:=by
 have:=ZP e' kind k c d;rw[zoO a b]at this;omega
end
def pgL (p:Pg):List Int:=[p.b0,p.b1,p.b2,p.b3,p.b4,p.b5,p.b6,p.b7]
def Qh (p:List Int) (idx size:Int):List Int:=p.mapIdx fun i z=>if size<=8*idx+(i:Int)then 0 else z
def zhf (m:Ma) (file idx:Int):Int:=(m.fl.getD file.toNat ⟨0,[]⟩).bl.getD idx.toNat 0
def QD (m:Ma) (file:Int):Int:=(m.fl.getD file.toNat ⟨0,[]⟩).size
def Jr (file idx:Int) (c:Ca):Bool:=decide (c.file=file) && decide (c.idx=idx)
def zT (m:Ma) (file idx:Int):List Int:=
 match m.ca.find? (Jr file idx)with
 | some c=>pgL (zQ m c.fr).p
 | none=>if zhf m file idx<0 then z4 else Qh (qY m.db m.dq (zhf m file idx)) idx (QD m file)
def Qk (m:Ma) (file idx:Int):List Int:=if zhf m file idx<0 then z4 else Qh (qY m.db m.dq (zhf m file idx)) idx (QD m file)
def znE (m:Ma) (file:Int):List Int:=(Xy (QD m file).toNat).map fun(k:Nat)=>(zT m file ((k / 8:Nat):Int)).getD (k % 8) 0
def Jj (m:Ma) (file:Int):Int:=if maW m≠0 then maW m else if file<0\/(m.fl.length:Int)<=file then 5 else 0
def J1 (m:Ma) (file:Int):List Int:=if Jj m file=0 then znE m file else []
def zhB (m:Ma) (p n:Int):List Int × Bool × Int:=
 if p<0\/(m.sp.length:Int)<=p\/n<0\/63<n then(z4,Xd,5)
 else
  let s:=m.sp.getD p.toNat ⟨Xd,[],[]⟩
  let x:=zD s.ars n.toNat
  let e:=ze s n.toNat
  if x.is=Xd then(z4,Xd,5)
  else if e.kind=1 then(pgL (zQ m e.n).p,decide ((zQ m e.n).f<0),0)
  else if e.kind=2 then(qY m.sb m.sq e.n,Xc,0)
  else if x.file<0 then(z4,Xd,0)
  else if bkN m x.file<=x.page then(z4,Xd,9)
  else(zT m x.file x.page,Xd,0)
def ZK (m:Ma) (p n:Int):List Int × Bool × Int:=if maW m≠0 then(z4,Xd,maW m)else zhB m p n
theorem zjA (h:∀s∈m.sp,ZU s.tb):JU m (jy m) m.hand=m:=by
 have:Yq (fun s f=>({ s with tb:=ZL f }:Sp)) m.sp (jy m)=m.sp:=by
  have a:∀l:List Sp,(∀s∈l,ZU s.tb)->Yq (fun s f=>({ s with tb:=ZL f }:Sp)) l (l.map ze)=l:=by
   intro l
   induction l with
   | nil=>intro _;rfl
   | cons s l e=>
    intro b;have c:=b s (by simp)
    have d:ZL (ze s)=s.tb:=by
     unfold ZL;refine zkb c fun j c=>?_
     rw[Xx,Xs c];rfl
    rw[mP,Yr,e (fun x c=>b x (by simp[c])),d]
  exact a m.sp h
 unfold JU;rw[this]
theorem Je (a:zb4 m Xb m.ca=0) {c:Ca} (g:c∈m.ca):m.ca.find? (Jr c.file c.idx)=Xa c:=by
 obtain⟨b,_,h⟩:=zw.1 a
 cases a:m.ca.find? (Jr c.file c.idx)with
 | none=>
  rw[Oe]at a;exact absurd (by simp[Jr]) (a c g)
 | some d=>
  have j:=Yk a;have b:d.file=c.file/\d.idx=c.idx:=by
   have:=List.find?_some a
   simpa [Jr]using this
  have a:z5 d=z5 c:=by unfold z5;rw[b.1,b.2]
  by_cases f:d=c
  ·rw[f]
  exfalso;have:∀l:List Ca,l.Pairwise (fun a b=>z5 a<z5 b)->c∈l->d∈l->False:=by
   intro l
   induction l with
   | nil=>intro _ b;cases b
   | cons x l l=>
    intro k b a;obtain⟨e,i⟩:=Xz.1 k
    rcases mC.1 b with b|b
    ·rcases mC.1 a with a|a
     ·exact f (by rw[b,a])
     have:=e d a;rw[<-b]at this;omega
    rcases mC.1 a with a|a
    ·have:=e c b;rw[<-a]at this;omega
    exact l i b a
  exact this m.ca h g j
theorem zjp {ca:List Ca} {c:Ca} (file idx:Int):(Qc ca c).find? (Jr file idx)=if Jr file idx c=Xc/\(ca.takeWhile (fun d=>decide (z5 d<z5 c))).find? (Jr file idx)=Xb then Xa c else ca.find? (Jr file idx):=by
 have a:=Yh (p:=fun d=>decide (z5 d<z5 c)) (l:=ca)
 unfold Qc;rw[Oj,List.find?_cons]
 conv=>rhs;rw[show ca.find? (Jr file idx)=((ca.takeWhile (fun d=>decide (z5 d<z5 c)))++(ca.dropWhile (fun d=>decide (z5 d<z5 c)))).find? (Jr file idx)from by rw[a],Oj]
 cases a:(ca.takeWhile (fun d=>decide (z5 d<z5 c))).find? (Jr file idx)with
 | some d=>simp
 | none=>
  cases a:Jr file idx c with
  | true=>simp
  | false=>simp
theorem zlp (h:jZ m T) {e:Fr} {p:Pg} {u d:Bool} {file idx:Int} (f:m.fs[j]? =Xa e) (g:e.r=0) (n:∀c∈m.ca,¬(c.file=file/\c.idx=idx)) (hp:pgL p=zT m file idx) (a b:Int):
  zT { m with fs:=m.fs.set j ⟨p,1,u,d,file,idx⟩,ca:=Qc m.ca ⟨file,idx,j⟩ } a b=zT m a b:=by
 have e:=(gS.1 f).1;obtain⟨i,r⟩:=h.free f g;obtain⟨k,f,f⟩:=zw.1 h.ca;have g:∀z:Int,0<=z->zQ { m with fs:=m.fs.set j ⟨p,1,u,d,file,idx⟩,ca:=Qc m.ca ⟨file,idx,j⟩ } z=if z=(j:Int)then⟨p,1,u,d,file,idx⟩else zQ m z:=fun z f=>qE e z f
 by_cases i:a=file/\b=idx
 ·obtain⟨rfl,rfl⟩:=i;have e:∀l:List Ca,(∀c∈l,c∈m.ca)->l.find? (Jr a b)=Xb:=fun l l=>by
   rw[Oe];intro c f q;exact n c (l c f) (by simpa [Jr]using q)
  rw[<-hp];unfold zT;simp only;rw[zjp,kE ⟨by simp[Jr],e _ fun c f=>(Ys _).subset f⟩]
  simp only;rw[g _ (by simp),kE rfl]
 unfold zT;simp only;rw[zjp,kF (fun h=>i (by have:=h.1;simp[Jr]at this;exact⟨this.1.symm,this.2.symm⟩))]
 cases e:m.ca.find? (Jr a b)with
 | none=>rfl
 | some c=>
  have f:=Yk e;have e:c.fr≠(j:Int):=fun h=>by
   have:=ZT f;rw[h]at this;exact this r
  simp only;rw[g _ (jr (k c f)).1.2.2.2.2.1,kF e]
theorem zbs {α:Type} {f:α->Int}:∀{l:List α} {k:Nat} {q:α},l[k]? =Xa q->(∀(j:Nat) x,j<k->l[j]? =Xa x->f x=0)->f q≠0->zu (l.map f)=f q
 | [],k,q,h,_,_=>by simp at h
 | a :: l,0,q,h,_,b=>by
  simp at h
  subst h;simp only[mP,zu];rw[kF b]
 | a :: l,k+1,q,h,hb,b=>by
  simp only[mP,zu];rw[kE (hb 0 a (by omega) rfl)]
  exact zbs (by simpa using h) (fun j x c c=>hb (j+1) x (by omega) (by simpa using c)) b
theorem zbY {α:Type} {f:α->Int} {l:List α} (hb:∀(j:Nat) x,l[j]? =Xa x->f x=0):zu (l.map f)=0:=by
 rw[zp];intro e a;obtain⟨x,b,rfl⟩:=Xv.1 a;obtain⟨j,a⟩:=Xt b;exact hb j x a
theorem zce {f:Nat->Int} {n k:Nat} (a:k<n) (hb:∀j,j<k->f j=0) (c:f k≠0):zu ((Xy n).map f)=f k:=
 zbs (Xs a) (fun j x b a=>by
  rw[Xs (by omega)]at a
  cases a;exact hb j b) c
theorem ZC {f:Nat->Int} {n:Nat} (hb:∀j,j<n->f j=0):zu ((Xy n).map f)=0:=
 zbY fun j x a=>by
  have b:=(gS.1 a).1;rw[Xs (by simpa using b)]at a
  cases a;exact hb j (by simpa using b)
theorem Jd {α:Type} {p:α->Bool} {g:α->Int}:∀(l:List α),zu (l.map fun x=>if p x=Xc then g x else 0)=zu ((l.filter p).map g)
 | []=>rfl
 | a :: l=>by
  simp only[mP,zu]
  by_cases h:p a=Xc
  ·rw[kE h,Yn h];simp only[mP,zu];rw[Jd l]
  rw[kF h,kE rfl,Yo h,Jd l]
theorem zY (a:Int) (l):zu (a :: l)=if a=0 then zu l else a:=rfl
theorem zbX:zu []=0:=rfl
def Zz (m:Ma):List Int:=[Zb m.fs m.hand,slW m.sl,zS m.sb.length m.sq,zS m.db.length m.dq,stW m.fl m.cnt]
def QZ (m:Ma):List Int:=[zlB m,J4 m,JJ m]
def Zy (m:Ma):Int:=if 4<m.sp.length then 4 else zu (m.sp.map spE)
def Q0 (m:Ma):Int:=if zu ((Xy m.fs.length).map (frE m))=0 then zu ((Xy m.sl.length).map (zhX m))else zu ((Xy m.fs.length).map (frE m))
def zf1 (m:Ma):Int:=zu (m.sp.map (zd3 m))
def zej (m:Ma):Int:=zb4 m Xb m.ca
theorem zeB (l k):zu (l++k)=if zu l=0 then zu k else zu l:=by
 induction l with
 | nil=>simp[zu]
 | cons a l d=>
  by_cases h:a=0
  ·have b:zu (a :: l)=zu l:=by rw[zY,kE h]
   have c:zu (a :: l++k)=zu (l++k):=by rw[Yp,zY,kE h]
   rw[b,c,d]
  have b:zu (a :: l)=a:=by rw[zY,kF h]
  have c:zu (a :: l++k)=a:=by rw[Yp,zY,kF h]
  rw[b,c,kF h]
theorem zqe (m):maW m=zu [zu (Zz m),zu (QZ m),Zy m,zej m,zf1 m,Q0 m]:=by
 have a:zam m=if zu (Zz m)=0 then(if zu (QZ m)=0 then Zy m else zu (QZ m))else zu (Zz m):=by
  have:zam m=zu (Zz m++(QZ m++ [if 4<m.sp.length then 4 else 0,zu (m.sp.map spE)])):=rfl;rw[this,zeB,zeB]
  congr 1
  congr 1
  unfold Zy;rw[zY,zY,zbX]
  split <;> simp_all
 unfold maW;simp only[zY,zbX,a];unfold Q0 zf1 zej
 by_cases a:zu (Zz m)=0 <;> by_cases b:zu (QZ m)=0 <;> by_cases c:Zy m=0 <;> simp only[a,b,c,if_true,if_false] <;>(by_cases a:zu ((Xy m.fs.length).map (frE m))=0 <;> by_cases b:zu ((Xy m.sl.length).map (zhX m))=0 <;> simp[a,b])
structure zjS (m:Ma):Prop where
 mem:Zb m.fs m.hand=0
 sl:slW m.sl=0
 sq:zS m.sb.length m.sq=0
 dq:zS m.db.length m.dq=0
 st:stW m.fl m.cnt=0
theorem zq5:zu (Zz m)=0↔zjS m:=by
 rw[zp];unfold Zz;constructor
 ·intro h;exact⟨h _ (by simp),h _ (by simp),h _ (by simp),h _ (by simp),h _ (by simp)⟩
 intro h e a;simp only[mC,nM,or_false]at a
 rcases a with rfl|rfl|rfl|rfl|rfl
 ·exact h.mem
 ·exact h.sl
 ·exact h.sq
 ·exact h.dq
 exact h.st
theorem za9 {n:Nat}:∀{l:List Ar} {p:Option Ar} {k:Nat} {a:Ar},Qz p l->l[k]? =Xa a->Jk a n=Xc->zD l n=qg a n
 | [],_,_,_,_,h,_=>by simp at h
 | b :: l,p,0,a,_,h,c=>by
  simp at h
  subst h;rw[ja]at c;exact Q6 c.1 c.2
 | b :: l,p,k+1,a,e,h,c=>by
  have f:l[k]? =Xa a:=by simpa using h
  have d:=za9 e.2.2 f c
  by_cases c:(n:Int)<b.tz
  ·have:=e.2.2.low rfl c;rw[this]at d;exact(zgn d.symm).elim
  rw[zcG (.inr (by omega))]
  exact d
def qM (s:Sp):List Nat:=(Xy 64).filter fun n=>enS (ze s n)
theorem zhW (m) (s:Sp):zd3 m s=zu ((qM s).map fun n=>zdD m (zD s.ars n) (ze s n)):=by
 unfold zd3 qM;rw[<-Jd]
 congr 1
 apply Ob
 intro n _
 by_cases h:(ze s n).kind=0
 ·simp[enS,h]
 simp[enS,h]
theorem zgk {s:Sp} (e:tbW s.tb=0) (d:s.tb.length=8):qM s=[]↔s.tb.all (·.isEmpty)=Xc:=by
 unfold qM;rw[List.filter_eq_nil_iff,List.all_eq_true];constructor
 ·intro h x a;obtain⟨i,b⟩:=Xt a;have c:i<8:=by rw[<-d];exact(gS.1 b).1
  rcases Qm.1 e x a with c|⟨d,a,a⟩
  ·rw[c];rfl
  exfalso;unfold zeP at a;rw[Yb]at a;obtain⟨e,c,f⟩:=a;obtain⟨j,a⟩:=Xt c;have c:j<8:=by rw[<-d];exact(gS.1 a).1
  refine h (8*i+j) (Xu.2 (by omega)) ?_
  unfold ze zdt;rw[show(8*i+j) / 8=i by omega,show(8*i+j) % 8=j by omega,b]
  simp only[Option.getD_some];rw[a];exact f
 intro h n a;rw[Xu]at a;unfold ze zdt
 cases e:s.tb[n / 8]? with
 | none=>simp[enS,en0]
 | some x=>
  have:=h x (mG e);have:x=[]:=by simpa using this
  subst this
  simp[enS,en0]
def Q7 (f:Fr) (a:Ar) (n:Nat):Bool:=if f.f<0 then !a.sh else f.f == a.file && f.x == a.base+(n:Int) - a.fr
def Z7 (f:Fr) (a:Ar):Bool:=a.wr &&(if f.f<0 then decide (f.r<=1)else a.sh)
def zei (m:Ma) (a:Ar) (n:Nat) (e:En):Int:=
 if e.kind=2 then(if(m.sl.length:Int)<=e.n\/a.sh=Xc then 7 else 0)
 else if(m.fs.length:Int)<=e.n then 3
 else if Q7 (zQ m e.n) a n=Xd\/(e.wr=Xc/\Z7 (zQ m e.n) a=Xd)then 7 else 0
theorem zqw (a:Zb m.fs m.hand=0) (k:Int):(zQ m k).f=-1\/(0<=(zQ m k).f/\(zQ m k).f<5):=by
 unfold zQ;rw[gD]
 cases h:m.fs[k.toNat]? with
 | none=>left;rfl
 | some f=>
  have b:zfS m.fs=0:=by
   unfold Zb at a
   split at a
   ·cases a
   split at a
   ·rename_i h;exact h
   rename_i h;exact absurd a h
  have a:=QL.1 b f (mG h);simp only[Option.getD_some];unfold frW at a
  split at a
  ·cases a
  split at a
  ·cases a
  rename_i b
  by_cases e:f.f=-1
  ·exact .inl e
  right
  cases a:inB f.f 5 with
  | false=>simp[e,a]at b
  | true=>simpa [inB]using a
theorem zlU {a:Ar} {n:Nat} {e:En} (c:Zb m.fs m.hand=0) (d:jN a):zdD m (qg a n) e=zei m a n e:=by
 unfold zdD zei;rw[kF (by simp[qg])]
 by_cases b:e.kind=2
 ·rw[kE b,kE b];rfl
 rw[kF b,kF b]
 by_cases b:(m.fs.length:Int)<=e.n
 ·rw[kE b,kE b]
 rw[kF b,kF b];have b:=zqw c e.n;obtain⟨f,c⟩:=kB (zQ m e.n);rw[c]at b⊢;unfold Q7 Z7 qg;simp only;obtain⟨c,c,c,c,c,c,c,c⟩:=d
 rcases b with b|b
 ·rw[b];have b:¬(0<=a.file/\(-1:Int)=a.file/\f.x=if 0<=a.file then a.base+((n:Int) - a.fr)else 0):=by omega
  simp only[b]
  cases j:e.wr <;> cases h:a.sh <;> cases i:a.wr <;> simp
 have g:¬f.f=-1:=by omega
 have b:¬f.f<0:=by omega
 rw[kF b,kF b]
 by_cases c:f.f=a.file/\f.x=a.base+(n:Int) - a.fr
 ·have b:0<=a.file/\f.f=a.file/\f.x=(if 0<=a.file then a.base+((n:Int) - a.fr)else 0):=by
   rw[kE (by omega)]
   omega
  have d:(f.f == a.file && f.x == a.base+(n:Int) - a.fr)=Xc:=by simp[c.1,c.2]
  rw[d];simp only[b]
  cases j:e.wr <;> cases h:a.sh <;> cases i:a.wr <;> simp <;>(intro;omega)
 have b:¬(0<=a.file/\f.f=a.file/\f.x=(if 0<=a.file then a.base+((n:Int) - a.fr)else 0)):=by
  rintro⟨h,i,j⟩;rw[kE h]at j;exact c ⟨i,by omega⟩
 have d:(f.f == a.file && f.x == a.base+(n:Int) - a.fr)=Xd:=by
  cases h:(f.f == a.file && f.x == a.base+(n:Int) - a.fr)with
  | false=>rfl
  | true=>simp at h;exact absurd h c
 rw[d,kE (.inl ⟨g,b⟩),kE (.inl rfl)]
def QU (c d:Ca):Bool:=decide (c.file<d.file) || (c.file == d.file && decide (c.idx<d.idx))
theorem znP {c d:Ca} (a:0<=c.idx/\c.idx<100) (b:0<=d.idx/\d.idx<100):QU c d=decide (¬z5 d<=z5 c):=by
 unfold QU z5;rw[Bool.eq_iff_iff];simp;omega
theorem zqL {p:Option Ca} {c:Ca} (a:stW m.fl m.cnt=0) (h:caE m p c=0):0<=c.idx/\c.idx<100:=by
 unfold caE at h
 split at h
 ·cases h
 rename_i b
 have b:bkN m c.file<=12:=by
  unfold bkN;rw[gD]
  cases e:m.fl[c.file.toNat]? with
  | none=>simp
  | some f=>
   have:=((qC _ _).1 a).2.1 f (mG e);simp only[Option.getD_some];have a:=zby this.1.1 this.1.2;rw[this.2.1];exact a.2
 omega
theorem zg6 (f:Nat->En) (kind k:Int):∀m:Nat,Zd f kind k m=(Xy m).countP fun n=>isE (f n) kind k
 | 0=>rfl
 | m+1=>by
  unfold Zd;rw[zg6 f kind k m,List.range_succ,Yc]
  cases h:isE (f m) kind k <;> simp[h]
theorem zny (s) {kind k:Int} (a:kind≠0):Zd (ze s) kind k 64=(qM s).countP fun n=>isE (ze s n) kind k:=by
 rw[zg6];unfold qM;rw[List.countP_filter]
 apply List.countP_congr
 intro n _;constructor
 ·intro h;rw[Ye];refine⟨h,?_⟩;unfold isE at h;rw[Ye]at h;have:(ze s n).kind=kind:=by simpa using h.1
  simp[enS,this,a]
 intro h;rw[Ye]at h;exact h.1
def qx (m:Ma) (i:Nat) (l:List Nat) (s:Sp) (key:Int × Int):Int:=
 ((if key.1=1 then(zO m.ca key.2:Nat)else 0:Nat):Int)+((((m.sp.take i).map fun s=>(qM s).countP fun n=>isE (ze s n) key.1 key.2).sum:Nat):Int)+((l.countP fun n=>isE (ze s n) key.1 key.2:Nat):Int)
theorem zmS (m) (i:Nat) (l:List Nat) (s) (n:Nat) (a:Int × Int):qx m i (l++ [n]) s a=qx m i l s a+(if a=((ze s n).kind,(ze s n).n)then 1 else 0):=by
 unfold qx;rw[Yc]
 by_cases h:a=((ze s n).kind,(ze s n).n)
 ·subst h;have:isE (ze s n) (ze s n).kind (ze s n).n=Xc:=by simp[isE]
  simp[this]
  omega
 rw[kF h];have:isE (ze s n) a.1 a.2=Xd:=by
  cases b:isE (ze s n) a.1 a.2 with
  | false=>rfl
  | true=>
   unfold isE at b
   simp at b
   exact absurd (Prod.ext b.1.symm b.2.symm) h
 simp[this]
theorem zmT (m:Ma) (i:Nat) (s c) (b:m.sp[i]? =Xa s) (a:Int × Int):qx m i (qM s) s a=qx m (i+1) [] c a:=by
 unfold qx;rw[Ym,b];simp;omega
theorem zjs (m:Ma) (s) {kind:Int} (k:Int) (a:kind≠0):qx m m.sp.length [] s (kind,k)=((zdn m kind k+(if kind=1 then zO m.ca k else 0):Nat):Int):=by
 unfold qx zdn qv;rw[List.take_length];have:(m.sp.map ze).map (fun f=>Zd f kind k 64)=m.sp.map fun s=>(qM s).countP fun n=>isE (ze s n) kind k:=by
  rw[List.map_map]
  apply Ob
  intro s _;exact zny s a
 rw[this];simp;omega
def JQ (l:List Ca) (key:Int × Int):Int:=if key.1=1 then(zO l key.2:Int)else 0
theorem zkQ (l) (c:Ca) (a:Int × Int):JQ (l++ [c]) a=JQ l a+(if a=(1,c.fr)then 1 else 0):=by
 unfold JQ zO;obtain⟨b,d⟩:=a;simp only[Yc,pJ]
 by_cases a:b=1
 ·rw[kE a,kE a]
  by_cases b:d=c.fr
  ·simp[a,b]
  have:¬c.fr=d:=fun e=>b e.symm
  simp[a,b,this]
 rw[kF a,kF a]
 simp[a]
theorem zmV (m:Ma) (s) (a:Int × Int):JQ m.ca a=qx m 0 [] s a:=by
 unfold JQ qx;simp
 split <;> rfl
theorem zmU (a:Int × Int):JQ [] a=0:=by
 unfold JQ zO;simp
def ZH:List Ca->Int × Int->Option Int
 | [],_=>Xb
 | c :: l,key=>match ZH l key with | some z=>Xa z | none=>if key=(c.file,c.idx)then Xa c.fr else Xb
theorem zgH (c:Ca) (a:Int × Int):∀(l:List Ca),ZH (l++ [c]) a=if a=(c.file,c.idx)then Xa c.fr else ZH l a
 | []=>by simp[ZH]
 | d :: l=>by
  simp only[Yp,ZH];rw[zgH c a l]
  by_cases h:a=(c.file,c.idx)
  ·rw[kE h,kE h]
  rw[kF h,kF h]
theorem zbk {a:Int × Int} {z:Int}:∀{l:List Ca},ZH l a=Xa z->∃c∈l,a=(c.file,c.idx)/\c.fr=z
 | [],h=>by cases h
 | d :: l,h=>by
  unfold ZH at h
  cases e:ZH l a with
  | some y=>
   rw[e]at h;cases h;obtain⟨c,a,b⟩:=zbk e;exact⟨c,Yv _ a,b⟩
  | none=>
   rw[e]at h;simp only at h
   split at h
   ·rename_i a
    cases h;exact⟨d,Of,a,rfl⟩
   cases h
theorem zbj {a:Int × Int}:∀{l:List Ca},ZH l a=Xb↔∀c∈l,a≠(c.file,c.idx)
 | []=>by simp[ZH]
 | d :: l=>by
  unfold ZH;constructor
  ·intro h c b
   cases e:ZH l a with
   | some y=>rw[e]at h;cases h
   | none=>
    rw[e]at h;simp only at h
    rcases mC.1 b with rfl|b
    ·intro a;rw[kE a]at h;cases h
    exact zbj.1 e c b
  intro h;rw[zbj.2 fun c b=>h c (Yv _ b)]
  simp only;rw[kF (h d Of)]
theorem ziM {l:List Ca} (h:l.Pairwise fun a b=>z5 a<z5 b) {c d:Ca} (e:c∈l) (g:d∈l) (f:z5 c=z5 d):c=d:=by
 induction l with
 | nil=>cases e
 | cons a l i=>
  rw[Xz]at h
  rcases mC.1 e with rfl|f
  ·rcases mC.1 g with rfl|e
   ·rfl
   have:=h.1 d e;omega
  rcases mC.1 g with rfl|e
  ·have:=h.1 c f;omega
  exact i h.2 f e
theorem zkS (a:zb4 m Xb m.ca=0) (k:Nat):(ZH m.ca ((zQ m k).f,(zQ m k).x)=Xa (k:Int))↔zO m.ca k≠0:=by
 obtain⟨d,_,i⟩:=zw.1 a;have b:∀c∈m.ca,(zQ m c.fr).f=c.file/\(zQ m c.fr).x=c.idx:=by
  intro c a;have:=d c a;unfold caE at this
  split at this
  ·cases this
  split at this
  ·cases this
  rename_i h
  exact⟨Classical.byContradiction fun e=>h (.inr (.inl e)),Classical.byContradiction fun e=>h (.inr (.inr e))⟩
 have a:zO m.ca k≠0↔∃c∈m.ca,c.fr=(k:Int):=by
  unfold zO;rw[Nat.ne_zero_iff_zero_lt,Yy];simp
 rw[a];constructor
 ·intro h;obtain⟨c,a,_,d⟩:=zbk h;exact⟨c,a,d⟩
 rintro⟨c,a,g⟩;obtain⟨d,f⟩:=b c a;rw[g]at d f
 cases e:ZH m.ca ((zQ m k).f,(zQ m k).x)with
 | none=>
  have:=zbj.1 e c a;rw[d,f]at this;exact absurd rfl this
 | some z=>
  obtain⟨h,j,b,l⟩:=zbk e;rw[d,f]at b;simp only[pJ]at b;have:c=h:=ziM i a j (by unfold z5;rw[b.1,b.2])
  rw[<-l,<-this,g]
end
section
open Go.RowKit
theorem QR (m n:Int) (w):
  Xp prog 120 #[I6 m,I6 n] w fun e w'=>e= Xl (Xh (bel m n))/\w'=w:=by
 have H:Xo (bel m n=(decide (0<=m) && decide (m<n))):=rfl
 by_cases a:0<=m
 ·by_cases a:m<n
  ·go_enter func120,ntmps120
   go_wp2;go_ret;exact⟨by rw[H.out];simp[*],rfl⟩
  go_enter func120,ntmps120
  go_wp2;go_ret;exact⟨by rw[H.out];simp[*],rfl⟩
 go_enter func120,ntmps120
 go_wp2;go_ret;exact⟨by rw[H.out];simp;omega,rfl⟩
theorem zsk:(Tryz.prog.info? 47).map (fun i=>(i.zero,i.size,i.bytes))=Xa (Xa (I6 0),1,8):=by kernel_rfl
def zlE:Elt Int where
 enc:=fun z=>[I6 z]
 k:=1
 ty:=47
 st:=96
 bytes:=8
 zv:=I6 0
 zero:=0
 len:=fun _=>rfl
 one:=fun a u hu=>by
  simp only[mC,nM,or_false]at hu;rw[hu];rfl
 und:=underlying96
 info:=zsk
 zok:=rfl
 few:=by decide
 pos:=by decide
theorem zl.errs {w:Xn} {v:Xq} {l:List Int} (h:zl zlE w v l):∃a c,v= O a l.length c/\zjQ w a l:=by
 obtain⟨a,c,b,d⟩:=h.rows;refine⟨a,c,b,fun j x g=>?_⟩
 obtain⟨b,e,f⟩:=d j x g;refine⟨b,e,fun W b=>?_⟩
 have:=f W b 0 _ rfl;rw[jb]at this
 simpa [zlE]using this
theorem zc3 {α:Type} (E:Elt α) (w:Xn) (l:List α) (cs:Array Xq) (a:cs=(l.flatMap E.enc).toArray) (hb:l.length*E.bytes<=140737488355328):zl E (w.alloc (Xk cs E.ty)) (O (Xa ⟨w.heap.size,0,Xb⟩) l.length l.length) l:=by
 subst a;refine⟨⟨_,l.length,rfl,fun h=>(by cases h),fun y a=>?_⟩,hb⟩
 cases a;exact qW.top w (l.flatMap E.enc) E.ty rfl
theorem zdz {l:List Int} {k:Nat} (hb:∀(j:Nat) x,j<k->l[j]? =Xa x->x=0) {q:Int} (b:l[k]? =Xa q) (a:q≠0):zu l=q:=by
 have:=zbs (f:=fun x=>x) b hb a
 simpa using this
theorem zdA {l:List Int} (hb:∀(j:Nat) x,l[j]? =Xa x->x=0):zu l=0:=by
 have:=zbY (f:=fun x=>x) hb
 simpa using this
theorem zdc (v l w) (s:zl zlE w v l):
  Xp prog 19 #[v] w fun e w'=>e= Xl (I6 (zu l))/\w'=w:=by
 have g:=s.short;obtain⟨G,H,rfl,b⟩:=s.errs;have z:=dD b;clear b s;obtain⟨n,m⟩:=kA l.length;rw[m.out]at g⊢;obtain⟨F,k⟩:=kA (zu l);rw[k.out]
 go_enter func19,ntmps19
 go_wp2
 go_loopg [5,8] n (fun B _ E wr=>∃a:Nat,a<=n/\n - a<=B/\E=I6 a/\wr=w/\Xo (∀(j:Nat) x,j<a->l[j]? =Xa x->x=0))
 case atStart=>exact⟨0,nZ _,by omega,rfl,rfl,fun j x t=>absurd t (nL _)⟩
 obtain⟨a,D,C,rfl,rfl,A⟩:=hrel
 by_cases c:a<n
 ·have h:=kC c
  obtain⟨q,p⟩:∃q,Xo (l[a]? =Xa q):=⟨_,gE (by rw[m.out];exact c)⟩
  obtain⟨x,rfl,u⟩:=z.out a q p.out;have K:=u wr (zb.refl _);clear u
  by_cases d:q=0
  ·have r:(q != 0)=Xd:=by simp[d]
   have y:Xo (∀(j:Nat) x,j<a+1->l[j]? =Xa x->x=0):=dD<|fun j x t f=>by
    by_cases e:j=a
    ·subst e;rw[p.out]at f;cases f;exact d
    exact A j x (by omega) f
   clear d;go_wp2
   go_roundg (n -(a+1))
   case measure=>omega
   exact⟨a+1,by omega,by omega,by go_num,rfl,y⟩
  have r:(q != 0)=Xc:=by simp[d]
  have i:Xo (F=q):=dD<|by rw[<-k.out];exact zdz A p d
  clear d;go_wp2;go_ret;exact⟨by rw[i.out];rfl,rfl⟩
 have h:=kD c
 have:a=n:=by omega
 subst this;have i:Xo (F=0):=dD<|by
  rw[<-k.out];exact zdA fun j x f=>A.out j x (by rw[<-m.out];exact(gS.1 f).1) f
 go_wp2;go_ret;exact⟨by rw[i.out];rfl,rfl⟩
theorem Ja (a:Ar) (n:Int) (w) (h1:0<=a.base/\a.base<=100) (h2:0<=a.fr/\a.fr<=100) (h3:0<=n/\n<=100):
  Xp prog 169 #[Xi #[I6 a.fr,I6 a.tz,Xh a.rd,Xh a.wr,Xh a.sh,I6 a.file,I6 a.base],I6 n] w fun e w'=>e= Xl (I6 (a.base+n - a.fr))/\zb w w':=by
 obtain⟨fr,tz,rd,wr,sh,file,base⟩:=a;simp only at h1 h2
 go_enter func169,ntmps169
 go_wp2;go_ret;exact⟨rfl,za _ _⟩
theorem zip (c d:Ca) (w):
  Xp prog 65 #[Xi #[I6 c.file,I6 c.idx,I6 c.fr],Xi #[I6 d.file,I6 d.idx,I6 d.fr]] w fun e w'=>e= Xl (Xh (QU c d))/\zb w w':=by
 obtain⟨b,f,i⟩:=c;obtain⟨g,h,j⟩:=d
 by_cases l:b<g
 ·have a:QU ⟨b,f,i⟩ ⟨g,h,j⟩=Xc:=by simp[QU,l]
  rw[a];clear a
  go_enter func65,ntmps65
  go_wp2;go_ret;exact⟨rfl,(za _ _).trans (za _ _)⟩
 by_cases k:b=g
 ·subst k
  by_cases m:f<h
  ·have a:QU ⟨b,f,i⟩ ⟨b,h,j⟩=Xc:=by simp[QU,m]
   rw[a];clear a
   go_enter func65,ntmps65
   go_wp2;go_ret;exact⟨rfl,(za _ _).trans (za _ _)⟩
  have a:QU ⟨b,f,i⟩ ⟨b,h,j⟩=Xd:=by simp[QU,m]
  rw[a];clear a
  go_enter func65,ntmps65
  go_wp2;go_ret;exact⟨rfl,(za _ _).trans (za _ _)⟩
 have a:QU ⟨b,f,i⟩ ⟨g,h,j⟩=Xd:=by simp[QU,l,k]
 rw[a];clear a;have a:(b == g)=Xd:=by simp[k]
 clear k
 go_enter func65,ntmps65
 go_wp2;go_ret;exact⟨rfl,(za _ _).trans (za _ _)⟩
theorem zgx (f) (a:Ar) (w):
  Xp prog 126 #[Xi (frv f).toArray,Xi #[I6 a.fr,I6 a.tz,Xh a.rd,Xh a.wr,Xh a.sh,I6 a.file,I6 a.base]] w fun e w'=>e= Xl (Xh (Z7 f a))/\zb w w':=by
 obtain⟨⟨b0,b1,b2,b3,b4,b5,b6,b7⟩,r,u,d,ff,x⟩:=f;obtain⟨fr,tz,rd,wr,sh,file,base⟩:=a;unfold frv Z7;simp only;cases wr
 ·simp only[Yw]
  go_enter func126,ntmps126
  go_wp2;go_ret;exact⟨rfl,(za _ _).trans (za _ _)⟩
 simp only[Oc]
 by_cases h:ff<0
 ·rw[kE h];obtain⟨D,HD⟩:=kA (decide (r<=1));rw[HD.out]
  go_enter func126,ntmps126
  go_wp2;go_ret;exact⟨by rw[<-HD.out];rfl,(za _ _).trans (za _ _)⟩
 rw[kF h]
 go_enter func126,ntmps126
 go_wp2;go_ret;exact⟨rfl,(za _ _).trans (za _ _)⟩
theorem Zl (m n:Int) (w):
  Xp prog 109 #[I6 m,I6 n] w fun e w'=>e= Xl (Xh (inB m n))/\w'=w:=by
 have H:Xo (inB m n=(decide (0<=m) && decide (m<n))):=rfl
 by_cases a:0<=m
 ·by_cases a:m<n
  ·go_enter func109,ntmps109
   go_wp2;go_ret;exact⟨by rw[H.out];simp[*],rfl⟩
  go_enter func109,ntmps109
  go_wp2;go_ret;exact⟨by rw[H.out];simp[*],rfl⟩
 go_enter func109,ntmps109
 go_wp2;go_ret;exact⟨by rw[H.out];simp;omega,rfl⟩
theorem Jc (w):
  Xp prog 26 #[] w fun e w'=>e= Xl (Xi (frv frF).toArray)/\zb w w':=by
 go_enter func26,ntmps26
 go_wp2;refine bodyPost_ret (v:= Xi (frv frF).toArray) (by simp[results,Tryz.results26,go_sem,frv,frF,pg0]) rfl ⟨rfl,?_⟩
 exact(bR _ _).alloc (nR _) _
theorem wf5 (a c g h i j k l r:Int) (u d:Bool) (f x:Int) (w) (b:inB r 1001=Xc) (m:inB x 12=Xc) (p:(f != -1)=Xc) (_hfe:(f == -1)=Xd) (n:inB f 5=Xc) (q:(r == 0)=Xd):
  Xp prog 108 #[Xi #[U8 a,U8 c,U8 g,U8 h,U8 i,U8 j,U8 k,U8 l,I6 r,Xh u,Xh d,I6 f,I6 x]] w fun e w'=>e= Xl (I6 0)/\zb w w':=by
 go_enter func108,ntmps108
 go_wp2_with (go_at_call 109;refine(Zl _ _ _).mono ?_;rintro e w' ⟨rfl,rfl⟩)
 obtain⟨m,b⟩:=kB (w.alloc (Xk #[U8 a,U8 c,U8 g,U8 h,U8 i,U8 j,U8 k,U8 l,I6 r,Xh u,Xh d,I6 f,I6 x] 93));have c:=gA b
 have a:=xA b
 rw[b];clear b;have b:=a.gw 0 rfl
 have b:=a.gw 1 rfl
 have b:=a.gw 2 rfl
 have b:=a.gw 3 rfl
 have b:=a.gw 4 rfl
 have b:=a.gw 5 rfl
 have b:=a.gw 6 rfl
 have b:=a.gw 7 rfl
 have b:=a.gw 8 rfl
 have b:=a.gw 9 rfl
 have b:=a.gw 10 rfl
 have b:=a.gw 11 rfl
 have b:=a.gw 12 rfl
 have a:Nonempty (zg m):=⟨⟨_,zb.refl _⟩⟩;refine qu [(5,⟨fun v=>v= Xi (frv frF).toArray,fun _ _=>True⟩)] zZ (by kernel_rfl) ?_ ?_ ?_
 ·intro x a
  simp at a
  subst a;exact⟨_,rfl⟩
 ·intro x a
  simp at a
  subst a;exact fun _ _ _ _ h=>h
 iterate 4 refine zf ?_
 iterate 3 (refine jo ?_ ?_;kernel_rfl;simp only[Ol,sB,sS,sZ])
 iterate 6 refine zf ?_
 iterate 3 (refine jo ?_ ?_;kernel_rfl;simp only[Ol,sB,sS,sZ])
 iterate 2 refine zf ?_
 refine zP fun a b a=>?_
 have a:=dD (c.trans b);go_wp2;go_ret;exact⟨rfl,a⟩
theorem wf7 (g h i j k l m n r:Int) (u d:Bool) (f x:Int) (w) (b:inB r 1001=Xc) (p:inB x 12=Xc) (q:(f != -1)=Xd) (_hfe:(f == -1)=Xc) (s:(r == 0)=Xc) (a:zbr (⟨⟨g,h,i,j,k,l,m,n⟩,r,u,d,f,x⟩:Fr) frF=Xc) (c:(x != 0)=Xd):
  Xp prog 108 #[Xi #[U8 g,U8 h,U8 i,U8 j,U8 k,U8 l,U8 m,U8 n,I6 r,Xh u,Xh d,I6 f,I6 x]] w fun e w'=>e= Xl (I6 0)/\zb w w':=by
 have p:Xo _:=a;clear a
 go_enter func108,ntmps108
 go_wp2_with (go_at_call 109;refine(Zl _ _ _).mono ?_;rintro e w' ⟨rfl,rfl⟩)
 obtain⟨s,b⟩:=kB (w.alloc (Xk #[U8 g,U8 h,U8 i,U8 j,U8 k,U8 l,U8 m,U8 n,I6 r,Xh u,Xh d,I6 f,I6 x] 93));have q:=gA b
 have a:=xA b
 rw[b];clear b;have b:=a.gw 0 rfl
 have b:=a.gw 1 rfl
 have b:=a.gw 2 rfl
 have b:=a.gw 3 rfl
 have b:=a.gw 4 rfl
 have b:=a.gw 5 rfl
 have b:=a.gw 6 rfl
 have b:=a.gw 7 rfl
 have b:=a.gw 8 rfl
 have b:=a.gw 9 rfl
 have b:=a.gw 10 rfl
 have b:=a.gw 11 rfl
 have b:=a.gw 12 rfl
 have a:Nonempty (zg s):=⟨⟨_,zb.refl _⟩⟩;refine qu [(5,⟨fun v=>v= Xi (frv frF).toArray,fun _ _=>True⟩)] zZ (by kernel_rfl) ?_ ?_ ?_
 ·intro x c
  simp at c
  subst c;exact⟨_,rfl⟩
 ·intro x c
  simp at c
  subst c;exact fun _ _ _ _ a=>a
 iterate 5 refine zf ?_
 refine zC rfl rfl (fun w' a c=>?_) (fun a b=>?_)
 ·refine zR.call [] rfl func26 rfl rfl rfl ?_;refine(Jc w').mono ?_;rintro e a ⟨rfl,a⟩;exact⟨_,rfl,a,rfl,trivial⟩
 subst b;have a:=fun W=>zrN g h i j k l m n r u d f x 0 0 0 0 0 0 0 0 0 Xd Xd (-1) 0 W
 simp only[show(⟨⟨0,0,0,0,0,0,0,0⟩,0,Xd,Xd,-1,0⟩:Fr)=frF from rfl,p.out]at a
 simp only[Ol,sB,sS,sZ,frv,frF,pg0];iterate 12 refine zf ?_
 refine zP fun a b c=>?_
 have a:=dD (q.trans b);go_wp2;go_ret;exact⟨rfl,a⟩
theorem wf9 (a g h i j k l m r:Int) (u d:Bool) (f x:Int) (w) (b:inB r 1001=Xc) (n:inB x 12=Xc) (p:(f != -1)=Xd) (_hfe:(f == -1)=Xc) (q:(r == 0)=Xd) (c:(x != 0)=Xd):
  Xp prog 108 #[Xi #[U8 a,U8 g,U8 h,U8 i,U8 j,U8 k,U8 l,U8 m,I6 r,Xh u,Xh d,I6 f,I6 x]] w fun e w'=>e= Xl (I6 0)/\zb w w':=by
 go_enter func108,ntmps108
 go_wp2_with (go_at_call 109;refine(Zl _ _ _).mono ?_;rintro e w' ⟨rfl,rfl⟩)
 obtain⟨n,b⟩:=kB (w.alloc (Xk #[U8 a,U8 g,U8 h,U8 i,U8 j,U8 k,U8 l,U8 m,I6 r,Xh u,Xh d,I6 f,I6 x] 93));have g:=gA b
 have a:=xA b
 rw[b];clear b;have b:=a.gw 0 rfl
 have b:=a.gw 1 rfl
 have b:=a.gw 2 rfl
 have b:=a.gw 3 rfl
 have b:=a.gw 4 rfl
 have b:=a.gw 5 rfl
 have b:=a.gw 6 rfl
 have b:=a.gw 7 rfl
 have b:=a.gw 8 rfl
 have b:=a.gw 9 rfl
 have b:=a.gw 10 rfl
 have b:=a.gw 11 rfl
 have b:=a.gw 12 rfl
 have a:Nonempty (zg n):=⟨⟨_,zb.refl _⟩⟩;refine qu [(5,⟨fun v=>v= Xi (frv frF).toArray,fun _ _=>True⟩)] zZ (by kernel_rfl) ?_ ?_ ?_
 ·intro x c
  simp at c
  subst c;exact⟨_,rfl⟩
 ·intro x c
  simp at c
  subst c;exact fun _ _ _ _ h=>h
 iterate 4 refine zf ?_
 iterate 3 (refine jo ?_ ?_;kernel_rfl;simp only[Ol,sB,sS,sZ])
 iterate 11 refine zf ?_
 refine zP fun a b a=>?_
 have a:=dD (g.trans b);go_wp2;go_ret;exact⟨rfl,a⟩
theorem zf7 (z:Int) (w):
  Xp prog 111 #[I6 z] w fun e w'=>e= Xl (Xh (zdU z))/\zb w w':=by
 by_cases b:z<0
 ·have a:Xo (zdU z=Xc):=dD<|by simp[zdU,b]
  go_enter func111,ntmps111
  go_wp2;go_ret;exact⟨by rw[a.out];rfl,zb.refl _⟩
 by_cases b:1000<z
 ·have a:Xo (zdU z=Xc):=dD<|by simp[zdU,b]
  go_enter func111,ntmps111
  go_wp2;go_ret;exact⟨by rw[a.out];rfl,zb.refl _⟩
 have a:Xo (zdU z=Xd):=dD<|by simp[zdU];omega
 go_enter func111,ntmps111
 go_wp2;go_ret;exact⟨by rw[a.out];rfl,zb.refl _⟩
theorem zo2 {p:Int->Bool} {fs:List Int} {k:Nat} {q:Int} (h:fs[k]? =Xa q) (b:p q=Xc) (hb:∀(j:Nat) x,j<k->fs[j]? =Xa x->p x=Xd):fs.findIdx p=k:=by
 obtain⟨a,rfl⟩:=gS.1 h;refine(List.findIdx_eq a).2 ⟨b,fun j a=>?_⟩
 exact hb j _ a (gE (by omega))
theorem zo1 {p:Int->Bool} {fs:List Int} (hb:∀(j:Nat) x,fs[j]? =Xa x->p x=Xd):fs.findIdx p=fs.length:=by
 refine List.findIdx_eq_length.2 fun x b=>?_
 obtain⟨j,a⟩:=Xt b;exact hb j x a
theorem zrq {p:Int->Bool} {fs:List Int} {k:Nat} {q:Int} (h:fs[k]? =Xa q) (a:p q=Xc):fs.any p=Xc:=Yb.2 ⟨q,mG h,a⟩
theorem zrp {p:Int->Bool} {fs:List Int} (hb:∀(j:Nat) x,fs[j]? =Xa x->p x=Xd):fs.any p=Xd:=Oi.2 fun x b=>by
 obtain⟨j,a⟩:=Xt b;rw[hb j x a]
 decide
theorem zgG (v) (fs:List Int) (w) (c:zl slE w v fs):
  Xp prog 163 #[v,.func (.func 111) #[] #[]] w fun e w'=>(∃z:Int,e= Xl (I6 z)/\decide (0<=z)=fs.any zdU)/\zb w w':=by
 have b:=c.short;obtain⟨a,a,rfl,a⟩:=c.sls;have f:=dD a;have d:=enters_of func111 (by kernel_rfl) rfl
 clear a c;obtain⟨n,m⟩:=kA fs.length;rw[m.out]at b⊢
 go_enter func163,ntmps163
 go_wp2
 go_loopg [5,8] n (fun a _ c wr=>∃b:Nat,b<=n/\n - b<=a/\c=I6 b/\Xo (zb w wr)/\Xo (∀j q,j<b->fs[j]? =Xa q->zdU q=Xd))
 case atStart=>exact⟨0,nZ _,by omega,rfl,zb.refl w,fun j q h=>absurd h (nL _)⟩
 obtain⟨b,a,a,rfl,k,A⟩:=hrel
 by_cases d:b<n
 ·have i:=kC d
  obtain⟨q,p⟩:∃q,Xo (fs[b]? =Xa q):=⟨_,gE (by rw[m.out];exact d)⟩
  obtain⟨a,rfl,c⟩:=f.out b q p.out;have a:=c wr k.out;have a:=zf7 q wr
  clear c
  cases g:zdU q with
  | true=>
   rw[g]at a;have l:Xo (decide (0<=(b:Int))=fs.any zdU):=dD<|by rw[zrq p.out g];simp
   clear g
   go_wp2_with (go_at_call 111;refine a.mono ?_;rintro e w' ⟨rfl,c⟩)
   go_ret;exact⟨⟨_,rfl,l⟩,k.trans c⟩
  | false=>
   rw[g]at a;have r:Xo (∀(j:Nat) q,j<b+1->fs[j]? =Xa q->zdU q=Xd):=dD<|fun j s h f=>by
    by_cases e:j=b
    ·subst e;rw[p.out]at f;cases f;exact g
    exact A j s (by omega) f
   clear g
   go_wp2_with (go_at_call 111;refine a.mono ?_;rintro e w' ⟨rfl,c⟩)
   go_roundg (n -(b+1))
   case measure=>omega
   exact⟨b+1,by omega,by omega,by go_num,k.trans c,r⟩
 have i:=kD d
 have:b=n:=by omega
 subst this;have l:Xo (decide (0<=(-1:Int))=fs.any zdU):=dD<|by
  rw[zrp (fun j q h=>A.out j q (by rw[<-m.out];exact(gS.1 h).1) h)]
  rfl
 go_wp2;go_ret;exact⟨⟨_,rfl,l⟩,k⟩
theorem zlv (v) (fs:List Int) (w) (b:zl slE w v fs):
  Xp prog 110 #[v,.func (.func 111) #[] #[]] w fun e w'=>e= Xl (Xh (fs.any zdU))/\zb w w':=by
 have a:=zgG v fs w b;obtain⟨c,c,rfl,_⟩:=b.sls;clear b
 generalize fs.any zdU=b at a⊢
 go_enter func110,ntmps110
 go_wp2_with fail;refine a.mono ?_;rintro e b ⟨⟨z,rfl,c⟩,b⟩;have d:=dD b;have f:=dD c;clear b c a;go_wp2;go_ret;exact⟨by rw[f.out];rfl,d⟩
theorem zbF (a) (c:Nat) (s:List Int) (w) (g:zl slE w (O a s.length c) s):
  Xp prog 59 #[O a s.length c] w fun e w'=>e= Xl (I6 (slW s))/\zb w w':=by
 have d:=zlv _ s w g;have f:Xo (slW s=if 60<s.length then 4 else if s.any zdU then 3 else 0):=rfl;have b:=g.short;obtain⟨n,h⟩:=kA s.length;rw[h.out]at d f b⊢;clear g
 generalize s.any zdU=i at d f
 by_cases b:60<n
 ·have h:=kC b
  have g:Xo (slW s=4):=dD<|by rw[f.out,kE b]
  clear d
  go_enter func59,ntmps59
  go_wp2;go_ret;exact⟨by rw[g.out];rfl,zb.refl _⟩
 have h:=kD b
 rw[kF b]at f
 cases i with
 | true=>
  have g:=dD f.out
  go_enter func59,ntmps59
  go_wp2_with fail;refine d.mono ?_;rintro e i ⟨rfl,b⟩;have h:=dD b;clear b d;go_wp2;go_ret;exact⟨by rw[g.out];rfl,h⟩
 | false=>
  have g:=dD f.out
  go_enter func59,ntmps59
  go_wp2_with fail;refine d.mono ?_;rintro e i ⟨rfl,b⟩;have h:=dD b;clear b d;go_wp2;go_ret;exact⟨by rw[g.out];rfl,h⟩
def qB (n:Nat) (g:List Int):List Xq:=(Xy n).map fun(i:Nat)=> Xh (g.contains (i:Int))
theorem Q8 {n:Nat} (g:List Int) {i:Nat} (hi:i<n):(qB n g)[i]? =Xa (Xh (g.contains (i:Int))):=by
 unfold qB;rw[Xx,Xs hi];rfl
theorem zgy {n:Nat} (g) {i:Nat} (hi:i<n):(qB n g).set i (Xh Xc)=qB n ((i:Int) :: g):=by
 apply Oh
 intro j
 by_cases e:j=i
 ·subst e;rw[sF (by simp[qB,hi]),Q8 _ hi]
  simp
 rw[sN (fun h=>e h.symm)]
 rcases Nat.lt_or_ge j n with a|a
 ·rw[Q8 _ a,Q8 _ a];have:¬((j:Int)=(i:Int)):=by omega
  simp[this]
 rw[gN (by simp[qB,a]),gN (by simp[qB,a])]
theorem zdi:qB 80 []=Xr 80 (Xh Xd):=by
 unfold qB
 simp[List.map_const']
theorem zoS (b a:Int) (g) (c pg:Nat) (w:Xn) (q:Box w c [I6 a]) (f:Box w pg (qB 80 g)) (d:a<=80):
  Xp prog 165 #[I6 b,Xj (Xa ⟨c,0,Xb⟩),Xj (Xa ⟨pg,0,Xb⟩)] w fun e w'=>e= Xl (I6 (Js a g b))/\(Js a g b=0->Box w' pg (qB 80 (zap g b)))/\w.grownBy w' (Xa pg)/\w'.heap.size=w.heap.size:=by
 have c:=q.c 0 rfl;have c:=dD f
 rcases zaO a g b with⟨h,c,d⟩|⟨h,c,d⟩|⟨i,h,c,d,k⟩|⟨i,h,c,d,k,u⟩
 ·rw[c];have j:Xo (Box w pg (qB 80 (zap g b))):=dD<|by rw[d];exact f
  subst h;clear q f c d
  generalize zap g (-1)=t at j⊢
  go_enter func165,ntmps165
  go_wp2;go_ret;exact⟨rfl,fun _=>j.out,World.grownBy.rfl' _ _,rfl⟩
 ·rw[d];have l:=zak c w;have p:(b == -1)=Xd:=by simpa using h
  clear q f c d
  generalize zap g b=t
  go_enter func165,ntmps165
  go_wp2_with (go_at_call 27;refine l.mono ?_;rintro e w' ⟨rfl,rfl⟩)
  go_ret;exact⟨rfl,fun v=>by omega,World.grownBy.rfl' _ _,rfl⟩
 ·rw[k];subst h;have r:i<80:=by omega
  have l:=j8 (m:=(i:Int)) (n:=a) (by omega) c w
  have p:((i:Int) == -1)=Xd:=by simp
  have s:=f.c i (Q8 g r);rw[d]at s
  generalize zap g (i:Int)=t
  clear q f c d k
  go_enter func165,ntmps165
  go_wp2_with (go_at_call 27;refine l.mono ?_;rintro e w' ⟨rfl,rfl⟩)
  go_ret;exact⟨rfl,fun v=>by omega,World.grownBy.rfl' _ _,rfl⟩
 rw[k];subst h;have r:i<80:=by omega
 have l:=j8 (m:=(i:Int)) (n:=a) (by omega) c w
 have p:((i:Int) == -1)=Xd:=by simp
 have s:=f.c i (Q8 g r);have a:=f.f;rw[d]at s;have j:Xo (Box (w.setCell ⟨pg,i,Xb⟩ (Xh Xc)) pg (qB 80 (zap g (i:Int)))):=dD<|by
  rw[u,<-zgy g r];exact f.set i _
 generalize zap g (i:Int)=t at j
 clear q f c d k u
 go_enter func165,ntmps165
 go_wp2_with (go_at_call 27;refine l.mono ?_;rintro e w' ⟨rfl,rfl⟩)
 go_ret;exact⟨rfl,fun _=>j.out,⟨rfl,rfl,rfl,by simp[World.setCell],fun k a a=>Below.heap_setCell _ _ _ _ (fun e=>a (by rw[e]))⟩,by simp[World.setCell]⟩
def zfU:Array Xq:=(Xr 80 (Xh Xd)).toArray
theorem zhq:(Tryz.prog.info? 114).map (fun i=>i.zero)=Xa (Xa (Xi zfU)):=by kernel_rfl
theorem zbK (w):(zeroValue 114).run prog w= .ok (Xi zfU) w:=by
 have h:=zhq
 cases a:Tryz.prog.info? 114 with
 | none=>simp[a]at h
 | some i=>
  simp[a]at h
  simp[zeroValue,typeInfo,a,h]
theorem zmZ (a:Int) (w:Xn):
  Xp prog 115 #[I6 a] w fun e w'=>e= Xl (.func (.func 165) #[] #[Xj (Xa ⟨w.heap.size,0,Xb⟩),Xj (Xa ⟨w.heap.size+1,0,Xb⟩)])/\Box w' w.heap.size [I6 a]/\Box w' (w.heap.size+1) (qB 80 [])/\zb w w'/\w'.heap.size=w.heap.size+2:=by
 have a:∀(b:Fn) (first a:Array Xq) (w:Xn),(Instr.makeFunc b first a).run prog w= .ok (.func b first a) w:=fun _ _ _ _=>rfl
 have a:=zbK;rw[zdi]
 go_enter func115,ntmps115
 go_wp2;go_ret;exact⟨rfl,(Box.top w _ _ rfl).alloc _,Box.top _ (Xr 80 (Xh Xd)) _ (by simp),(za _ _).trans (za _ _),by simp⟩
theorem zjM (g l) (b:Int):blG g (l++ [b])=zap (blG g l) b:=by
 unfold blG;rw[Ok];rfl
theorem zeT (f:Fl) (R) (S:Nat) (a:Int) (g) (E pg:Nat) (w) (ab:Box w E [I6 a]) (C:Box w pg (qB 80 g)) (N:E≠pg) (aq:a<=80) (a2:ziV blE pg (pg+1) w (O R f.bl.length S) f.bl):
  Xp prog 116 #[Xi #[I6 f.size,O R f.bl.length S],.func (.func 165) #[] #[Xj (Xa ⟨E,0,Xb⟩),Xj (Xa ⟨pg,0,Xb⟩)]] w fun e w'=>e= Xl (I6 (flW a g f))/\(flW a g f=0->Box w' pg (qB 80 (blG g f.bl)))/\Out pg (pg+1) w w':=by
 obtain⟨h,b⟩:=f;have k:Xo (flW a g ⟨h,b⟩=if 0<=h/\h<=96 then(if(b.length:Int)=zcl h then blW a g b else 2)else 3):=rfl;have ak:=dD ab;have al:=dD C;have V:=dD a2;have G:=dD N;have i:=(a2.now).short;clear ab C a2 N;simp only at i
 show Xp _ _ #[Xi #[I6 h,O R b.length S],_] _ _
 generalize flW a g ⟨h,b⟩=aa at k⊢
 simp only
 by_cases v:0<=h/\h<=96
 ·rw[kE v]at k;obtain⟨r,x⟩:=v;have K:=fun W=>j8 (m:=h) (n:=97) r (by omega) W
  have p:=fun W=>zbx h W r x
  by_cases B:(b.length:Int)=zcl h
  ·rw[kE B]at k;rw[<-B]at p;clear r x B;obtain⟨j,q⟩:=kA b.length;rw[q.out]at i p V⊢;obtain⟨am,y⟩:=kB (w.alloc (Xk #[I6 h,O R j S] 159));have H:=dD y;have F:=gA y
   clear y;have b1:=enters_of func165 (by kernel_rfl) rfl
   have P:((j:Int) !=(j:Int))=Xd:=by simp
   go_enter func116,ntmps116
   go_wp2_with (go_at_call 27;refine(K _).mono ?_;rintro e w' ⟨rfl,rfl⟩)
   go_quiet (first | (go_at_call 149;exact Calls.quiet_of_same (p _)))
   rw[H.out];obtain⟨Y,l⟩:=kB (am.drewN nq);have a9:Xo (Box Y w.heap.size [I6 h,O R j S]):=dD<|by rw[<-l,<-H.out];exact(Box.top w _ _ rfl).grew (show Below _ _ _ from bD (bR _ _) _)
   have a8:Xo (Out pg (pg+1) w Y):=dD<|by rw[<-l];exact(Out.grew F).trans (Out.grew (show Below _ _ _ from bD (bR _ _) _))
   have ae:Xo (Box Y E [I6 a]):=dD<|ak.out.out a8 (by have:=G.out;omega)
   have ag:Xo (Box Y pg (qB 80 g)):=dD<|by rw[<-l];exact(al.grew F).grew (show Below _ _ _ from bD (bR _ _) _)
   rw[l];clear l p K;have au:=a9.c 0 rfl;have av:=a9.c 1 rfl;go_wp2
   go_loopg [6,7,22] j (fun an _ _ a4 wr=>∃d:Nat,d<=j/\j - d<=an/\a4=I6 d/\Xo (Out pg (pg+1) w wr)/\Xo (Box wr pg (qB 80 (blG g (b.take d))))/\Xo (blW a (blG g (b.take d)) (b.drop d)=blW a g b)/\Xo (Box wr E [I6 a]))
   case atStart=>exact⟨0,nZ _,by omega,rfl,a8,ag,rfl,ae⟩
   obtain⟨d,ap,ao,rfl,X,a7,a0,a6⟩:=hrel;clear au av
   by_cases z:d<j
   ·have M:=kC z
    obtain⟨A,U⟩:∃A,Xo (b[d]? =Xa A):=⟨_,gE (by rw[q.out];exact z)⟩
    obtain⟨aw,ay,L,s⟩:=(V wr X).nums;rw[q.out]at L;cases L;obtain⟨ax,rfl,ac⟩:=s d A U.out;have b0:=ac wr (zb.refl _);have c:=zoS A a (blG g (b.take d)) E pg wr a6 a7 aq;have t:Xo (blW a (blG g (b.take d)) (b.drop d)=if Js a (blG g (b.take d)) A=0 then blW a (blG g (b.take (d+1))) (b.drop (d+1))else Js a (blG g (b.take d)) A):=dD<|by
     rw[jL U.out,j0 U.out,zjM];rfl
    rw[<-zjM,<-j0 U.out]at c;clear ac s
    generalize Js a (blG g (b.take d)) A=a5 at c t
    by_cases Q:a5=0
    ·have aj:Xo (blW a (blG g (b.take (d+1))) (b.drop (d+1))=blW a g b):=dD<|by rw[<-a0.out,t.out,kE Q]
     subst Q;go_wp2_with fail;refine c.mono ?_;rintro e Z ⟨rfl,I,D,a3⟩;have ah:Xo (Box Z pg (qB 80 (blG g (b.take (d+1))))):=I (by first | exact rfl | exact trivial)
     have a1:Xo (Out pg (pg+1) w Z):=X.trans (Out.grown D (fun g C=>by cases C;omega))
     have af:=dD<|a6.grown D G.out;clear I D a3 c;go_wp2
     go_roundg (j -(d+1))
     case measure=>omega
     exact⟨d+1,by omega,by omega,by go_num,a1,ah,aj,af⟩
    have ar:(a5 != 0)=Xc:=by simpa using Q
    have T:Xo (aa=a5):=dD<|by
     have v:=a0.out;rw[t.out,kF Q]at v;rw[k.out,<-v]
    go_wp2_with fail;refine c.mono ?_;rintro e Z ⟨rfl,I,D,a3⟩;have a1:Xo (Out pg (pg+1) w Z):=X.trans (Out.grown D (fun g C=>by cases C;omega))
    clear I D a3 c;go_wp2;go_ret;exact⟨by rw[T.out];rfl,fun u=>absurd (T.symm.trans u) Q,a1⟩
   have M:=kD z
   have:d=j:=by omega
   subst this;have T:Xo (aa=0):=dD<|by
    rw[k.out,<-a0.out,Yg (by rw[q.out];exact nR _)]
    rfl
   have ai:Xo (Box wr pg (qB 80 (blG g b))):=dD<|by
    have:=a7.out;rw[List.take_of_length_le (by rw[q.out];exact nR _)]at this
    exact this
   go_wp2;go_ret;exact⟨by rw[T.out];rfl,fun _=>ai.out,X⟩
  rw[kF B]at k;have P:((b.length:Int) != zcl h)=Xc:=by simpa using B
  clear B r x
  generalize zcl h=az at*
  obtain⟨j,q⟩:=kA b.length;rw[q.out]at i P V⊢
  go_enter func116,ntmps116
  go_wp2_with (go_at_call 27;refine(K _).mono ?_;rintro e w' ⟨rfl,rfl⟩)
  go_quiet (first | (go_at_call 149;exact Calls.quiet_of_same (p _)))
  go_wp2;go_ret;exact⟨by rw[k.out];rfl,fun u=>(by rw[k.out]at u;cases u),(Out.grew (za _ _)).trans (Out.grew (show Below _ _ _ from bD (bR _ _) _))⟩
 rw[kF v]at k;have K:=fun W=>zak (m:=h) (n:=97) (by omega) W
 clear v;obtain⟨j,q⟩:=kA b.length;rw[q.out]at i V⊢
 go_enter func116,ntmps116
 go_wp2_with (go_at_call 27;refine(K _).mono ?_;rintro e w' ⟨rfl,rfl⟩)
 go_ret;exact⟨by rw[k.out];rfl,fun u=>(by rw[k.out]at u;cases u),Out.grew (za _ _)⟩
def zkZ (g:List Int) (fs:List Fl):List Int:=fs.foldl (fun g f=>blG g f.bl) g
theorem zgQ (g fs) (f:Fl):zkZ g (fs++ [f])=blG (zkZ g fs) f.bl:=by
 unfold zkZ;rw[Ok];rfl
theorem zek {l:List Fl} {k:Nat} {q:Fl} (h:l[k]? =Xa q):l.take (k+1)=l.take k++ [q]:=by
 rw[Ym,h];rfl
theorem zaC (v fs) (a:Int) (w) (a7:qq w v fs):
  Xp prog 61 #[Xi #[v,I6 a]] w fun e w'=>e= Xl (I6 (stW fs a))/\zb w w':=by
 obtain⟨am,an,rfl,D,j⟩:=a7.rows;have aj:=dD j;have h:Xo (stW fs a=if fs.length<=5/\0<=a/\a<=80 then zgP a [] fs else 4):=rfl;clear j a7
 generalize stW fs a=a3 at h⊢
 obtain⟨f,T⟩:=kA fs.length;rw[T.out]at D h⊢;obtain⟨U,d⟩:=kB (w.alloc (Xk #[O am f an,I6 a] 41));have l:=gA d
 have al:=xA d
 have z:=sA d
 have s:Xo (_=U):=d;clear d
 by_cases a5:f<=5
 ·have C:¬(5:Int)< (f:Int):=by omega
  have ap:decide ((5:Int)< (f:Int))=Xd:=decide_eq_false C
  by_cases x:0<=a/\a<=80
  ·rw[kE ⟨a5,x⟩]at h;have M:=fun W=>j8 (m:=a) (n:=81) x.1 (by omega) W
   have E:a<=80:=x.2;clear x
   go_enter func61,ntmps61
   go_wp2_with (go_at_call 27;refine(M _).mono ?_;rintro e w' ⟨rfl,rfl⟩)
   rw[s.out];refine(zmZ a U).mono ?_;rintro e ak ⟨rfl,k,g,X,a8⟩;obtain⟨i,G⟩:=kB U.heap.size;rw[G]at k g a8 z⊢;have p:Xo (i=w.heap.size+1):=z;have ab:Xo (Box ak i [I6 a]):=k;have af:=dD g;have R:=dD (l.trans X);have a2:=dD (al.grew X);clear G k g X a8 M;have aw:=a2.c 0 rfl;have ax:=a2.c 1 rfl;go_wp2
   go_loopg [5,6,23] f (fun ao _ _ Y wr=>∃c:Nat,c<=f/\f - c<=ao/\Y=I6 c/\Xo (zb w wr)/\Xo (Box wr i [I6 a])/\Xo (Box wr (i+1) (qB 80 (zkZ [] (fs.take c))))/\Xo (zgP a (zkZ [] (fs.take c)) (fs.drop c)=zgP a [] fs))
   case atStart=>exact⟨0,nZ _,by omega,rfl,R,ab,af,rfl⟩
   obtain⟨c,ar,aq,rfl,K,a0,ah,P⟩:=hrel;clear aw ax
   by_cases u:c<f
   ·have F:=kC u
    obtain⟨q,L⟩:∃q,Xo (fs[c]? =Xa q):=⟨_,gE (by rw[T.out];exact u)⟩
    obtain⟨ay,rfl,a9,aa,H,a6⟩:=aj.out c q L.out;obtain⟨az,b0⟩:=a6 wr K.out;obtain⟨a1,t⟩:=kB (wr.alloc (Xk #[I6 q.size,O a9 q.bl.length aa] 159));have y:=gA t
    have b:=zeT q a9 aa a (zkZ [] (fs.take c)) i (i+1) a1 (a0.grew y) (ah.grew y) (by omega) E (H.stays (i+2) (by have:=p.out;omega) (K.trans y))
    have ac:=dD (a0.grew y);have I:=dD (K.trans y);have A:Xo (_=a1):=t;have r:Xo (zgP a (zkZ [] (fs.take c)) (fs.drop c)=if flW a (zkZ [] (fs.take c)) q=0 then zgP a (zkZ [] (fs.take (c+1))) (fs.drop (c+1))else flW a (zkZ [] (fs.take c)) q):=show _=_ by
     rw[jL L.out,zek L.out,zgQ];rfl
    rw[<-zgQ,<-zek L.out]at b;clear a6 t H
    generalize flW a (zkZ [] (fs.take c)) q=Z at b r
    have au:=q.bl.length
    by_cases N:Z=0
    ·have ai:Xo (zgP a (zkZ [] (fs.take (c+1))) (fs.drop (c+1))=zgP a [] fs):=dD<|by rw[<-P.out,r.out,kE N]
     subst N;go_wp2_with fail;rw[A.out];refine b.mono ?_;rintro e B ⟨rfl,k,g⟩;have ag:Xo (Box B (i+1) (qB 80 (zkZ [] (fs.take (c+1))))):=k (by first | exact rfl | exact trivial)
     have Q:Xo (zb w B):=dD<|Out.grew_of I (by have:=p.out;omega) g
     have ae:Xo (Box B i [I6 a]):=ac.out.out g (by omega)
     clear k g b;go_wp2
     go_roundg (f -(c+1))
     case measure=>omega
     exact⟨c+1,by omega,by omega,by go_num,Q,ae,ag,ai⟩
    have av:(Z != 0)=Xc:=by simpa using N
    have S:Xo (a3=Z):=dD<|by
     have a4:=P.out;rw[r.out,kF N]at a4;rw[h.out,<-a4]
    go_wp2_with fail;rw[A.out];refine b.mono ?_;rintro e B ⟨rfl,k,g⟩;have Q:Xo (zb w B):=dD<|Out.grew_of I (by have:=p.out;omega) g
    clear k g b;go_wp2;go_ret;exact⟨by rw[S.out];rfl,Q⟩
   have F:=kD u
   have:c=f:=by omega
   subst this;have S:Xo (a3=0):=dD<|by
    rw[h.out,<-P.out,Yg (by rw[T.out];exact nR _)]
    rfl
   go_wp2;go_ret;exact⟨by rw[S.out];rfl,K⟩
  rw[kF (fun V=>x V.2)]at h
  have M:=fun W=>zak (m:=a) (n:=81) (by omega) W
  clear x
  go_enter func61,ntmps61
  go_wp2_with (go_at_call 27;refine(M _).mono ?_;rintro e w' ⟨rfl,rfl⟩)
  rw[s.out];go_ret;exact⟨by rw[h.out];rfl,l⟩
 rw[kF (fun V=>a5 V.1)]at h
 have C:(5:Int)< (f:Int):=by omega
 go_enter func61,ntmps61
 go_wp2;rw[s.out];go_ret;exact⟨by rw[h.out];rfl,l⟩
theorem zie (f) (a:Ar) (n:Nat) (w) (h1:0<=a.base/\a.base<=100) (h2:0<=a.fr/\a.fr<=100) (h3:n<=64):
  Xp prog 125 #[Xi (frv f).toArray,Xi #[I6 a.fr,I6 a.tz,Xh a.rd,Xh a.wr,Xh a.sh,I6 a.file,I6 a.base],I6 (n:Int)] w fun e w'=>e= Xl (Xh (Q7 f a n))/\zb w w':=by
 have HIX:Xo (∀W,Xp prog 169 #[Xi #[I6 a.fr,I6 a.tz,Xh a.rd,Xh a.wr,Xh a.sh,I6 a.file,I6 a.base],I6 (n:Int)] W fun e w'=>e= Xl (I6 (a.base+n - a.fr))/\zb W w'):=dD<|fun W=>Ja a n W h1 h2 (by omega)
 clear h1 h2 h3;obtain⟨⟨b0,b1,b2,b3,b4,b5,b6,b7⟩,r,u,d,ff,x⟩:=f;obtain⟨fr,tz,rd,wr,sh,file,base⟩:=a;unfold frv Q7;simp only
 by_cases h:ff<0
 ·rw[kE h]
  go_enter func125,ntmps125
  go_wp2;go_ret;exact⟨rfl,(za _ _).trans (za _ _)⟩
 rw[kF h];obtain⟨W0,hW0⟩:=kB ((w.alloc (Xk #[U8 b0,U8 b1,U8 b2,U8 b3,U8 b4,U8 b5,U8 b6,U8 b7,I6 r,Xh u,Xh d,I6 ff,I6 x] 93)).alloc (Xk #[I6 fr,.int .i64 tz,Xh rd,Xh wr,Xh sh,I6 file,I6 base] 125));have HG0:=gD2 hW0
 have X0:=x2a hW0
 have Y0:=x2b hW0
 have HW0:=dD hW0;clear hW0
 by_cases he:ff=file
 ·have he1:(ff == file)=Xc:=by simp[he]
  rw[he1,Oc];clear he;obtain⟨D,HD⟩:=kA (x == base+(n:Int) - fr);rw[HD.out]
  go_enter func125,ntmps125
  go_upto_region 3 with fail;rw[HW0.out];have hx11:=X0.gw 11 rfl
  have hx12:=X0.gw 12 rfl
  have hy0:=Y0.gw 0 rfl
  have hy1:=Y0.gw 1 rfl
  have hy2:=Y0.gw 2 rfl
  have hy3:=Y0.gw 3 rfl
  have hy4:=Y0.gw 4 rfl
  have hy5:=Y0.gw 5 rfl
  have hy6:=Y0.gw 6 rfl
  have hne:Nonempty (zg W0):=⟨⟨_,zb.refl _⟩⟩;refine qu [(10,⟨fun v=>v=I6 (base+(n:Int) - fr),fun v w'=>True⟩)] zZ (by kernel_rfl) ?hS ?hp ?_
  case hS=>
   intro x hx;simp only[mC,nM,or_false]at hx;subst hx;exact⟨_,rfl⟩
  case hp=>
   intro x hx;simp only[mC,nM,or_false]at hx;subst hx;exact fun _ _ _ _ h=>h
  iterate 10 refine zf ?_
  refine zC rfl rfl (fun w' hg hF=>?_) (fun v1 hv=>?_)
  ·refine zR.call [Xi #[I6 fr,.int .i64 tz,Xh rd,Xh wr,Xh sh,I6 file,I6 base],I6 (n:Int)] rfl func169 rfl rfl rfl ?_;refine(HIX w').mono ?_;rintro e w'' ⟨rfl,hg2⟩;exact⟨_,rfl,hg2,rfl,trivial⟩
  subst hv;simp only[Ol,sB,sS,sZ];iterate 3 refine zf ?_
  refine zP fun W3 hg1 hF=>?_
  have G3:=dD (HG0.trans hg1);clear hg1 hF hx11 hx12 hy0 hy1 hy2 hy3 hy4 hy5 hy6 hne;go_wp2;go_ret;exact⟨by rw[<-HD.out];rfl,G3⟩
 have he1:(ff == file)=Xd:=by simp[he]
 rw[he1,Yw];clear he
 go_enter func125,ntmps125
 go_upto_region 3 with fail;rw[HW0.out];have hx11:=X0.c 11 rfl;have hx12:=X0.c 12 rfl;have hy0:=Y0.c 0 rfl;have hy1:=Y0.c 1 rfl;have hy2:=Y0.c 2 rfl;have hy3:=Y0.c 3 rfl;have hy4:=Y0.c 4 rfl;have hy5:=Y0.c 5 rfl;have hy6:=Y0.c 6 rfl;go_quiet (fail);go_wp2;go_ret;exact⟨rfl,HG0.trans (show Below _ _ _ from bD (bR _ _) _)⟩
def zoQ (fl:List Fl) (file idx:Int):Bool:=bel file fl.length && bel idx ((fl.getD file.toNat ⟨0,[]⟩).bl.length:Nat)
theorem zaN (v c) (b file idx:Int) (w) (f:qq w v c):
  Xp prog 119 #[Xi #[v,I6 b],I6 file,I6 idx] w fun e w'=>e= Xl (Xh (zoQ c file idx))/\zb w w':=by
 obtain⟨a,j,rfl,d,a⟩:=f.rows;have i:=dD a;clear a f;obtain⟨n,g⟩:=kA c.length;unfold zoQ;rw[g.out]at d⊢;have a:=QR file n
 cases h:bel file n with
 | false=>
  rw[h]at a;rw[Yw]
  go_enter func119,ntmps119
  go_wp2_with (go_at_call 120;refine(a _).mono ?_;rintro e w' ⟨rfl,rfl⟩)
  go_ret;exact⟨rfl,za _ _⟩
 | true=>
  rw[h]at a;rw[Oc];obtain⟨d,d⟩:=j9.1 h;obtain⟨k,rfl⟩:∃k:Nat,file=(k:Int):=⟨file.toNat,by omega⟩
  obtain⟨f,d⟩:∃f,Xo (c[k]? =Xa f):=⟨_,gE (by rw[g.out];omega)⟩
  have g:(c.getD ((k:Nat):Int).toNat ⟨0,[]⟩)=f:=by rw[tN,gD,d.out];rfl
  rw[g];clear g;obtain⟨g,rfl,c,c,_,c⟩:=i.out k f d.out;obtain⟨d,d⟩:=c (w.alloc (Xk #[O (Xa g) n j,I6 b] 41)) (za _ _);obtain⟨q,b⟩:=kA f.bl.length;rw[b.out]at d⊢;have b:=QR idx q;clear c
  go_enter func119,ntmps119
  go_wp2_with (go_at_call 120;first | (refine(a _).mono ?_;clear a;rintro e w' ⟨rfl,rfl⟩) | (refine(b _).mono ?_;rintro e w' ⟨rfl,rfl⟩))
  go_ret;exact⟨rfl,za _ _⟩
end
end Go.Proofs.YtmfckdkcmbncdaaGreat
