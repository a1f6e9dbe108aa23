import Derived.Test.YtmfckdkcmbncdaaGreatCC0
import Derived.RangeFuncNested
import Derived.RangeFuncBound
import Derived.RangeFuncCalls
import Derived.RangeFuncLeaves
import Derived.Shelf.RegionOpen
import Derived.OwnWalkIn
import Derived.TacticsInMore
import Derived.LoopNIn
import Derived.LoopIn
import Derived.Deep.DeepCutAuto
namespace Go.Proofs.YtmfckdkcmbncdaaGreat
open Go.Value renaming slice→O,int→Xe,bool→Xh,agg→Xi,pointer→Xj,tuple→Xm
open Go.IntKind renaming i64→Xf,u8→Xg
open Go.Obj renaming cells→Xk
open Go.Ending renaming returned→Xl
open Go renaming World→Xn,Calls→Xp,Value→Xq
open Go.RowKit renaming Hid→Xo
open Option renaming some→Xa,none→Xb
open Bool renaming true→Xc,false→Xd
open List renaming replicate→Xr
open Go.Region renaming wanted→Xs
open _root_.List renaming length_set→Xt,drop_of_length_le→Xu,getElem?_of_mem→Xw,eq_of_mem_replicate→Xx,cons_append→Xy,length_cons→Xz,length_nil→Yb,mem_map→Yc,ext_getElem?→Yd,range→Ye,all_eq_true→Yf,any_eq_true→Yg,mem_cons_of_mem→Yh,mem_append→Yi,nil_append→Yj,mem_range→Yl,countP_append→Ym,mem_cons_self→Yn,take_add_one→Yp,size_toArray→Yq,map_toArray→Yr,length_take→Ys,take_of_length_le→Yt,length_singleton→Yu,map_congr_left→Yz,append_toArray→Oa,find?_eq_none→Od,any_eq_false→Oe,getElem?_map→Of,foldl_append→Og,append_assoc→Oh,find?_append→Oi,push_toArray→Oj,map_nil→Ok,take→Ol,drop→Om
open Go.Sem renaming run_bind→Xv,run_pure→Ya
open Go.Addr renaming add_lit→Yk
open _root_.Nat renaming lt_of_lt_of_le→Yo,mul_le_mul_right→Yy
open _root_.Bool renaming false_and→Yv,true_and→Ob,false_eq_true→Oc
open _root_.Array renaming replicate_succ→Yw,replicate_zero→Yx
set_option maxRecDepth 100000
set_option maxHeartbeats 4000000
variable{B B0 B1 b base' g hi id j kk:Nat} {L:List Oper} {Q:Exit->Act->Xn->Prop} {V:MaV} {W w':Xn} {l:List Ar} {m:Ma} {o oj:Oper} {ops:Array Oper} {t:TypeId} {us vs xs:List Xq} {z:Int}
open Go.Proofs.Tryz
section
theorem zdO {α:Type} {f:α->Int}:∀{l:List α} {k:Nat} {q:α},l[k]? =Xa q->(∀(j:Nat) x,j<k->l[j]? =Xa x->f x=0)->f q≠0->zC (l.map f)=f q
 | [],k,q,h,_,_=>by simp at h
 | a :: l,0,q,h,_,b=>by
  simp at h
  subst h;simp only[mP,zC];rw[kF b]
 | a :: l,k+1,q,h,c,b=>by
  simp only[mP,zC];rw[kE (c 0 a Wm rfl)]
  exact zdO (Si h) (fun j x d d=>c (j+1) x Wm (Si d)) b
theorem ze3 {α:Type} {f:α->Int} {l:List α} (a:∀(j:Nat) x,l[j]? =Xa x->f x=0):zC (l.map f)=0:=by grind [zr,Yc.1,Xw]
theorem Q9 {α:Type} {p:α->Bool} {g:α->Int}:∀(l:List α),zC (l.map fun x=>if p x=Xc then g x else 0)=zC ((l.filter p).map g)
 | []=>rfl
 | a :: l=>by
  simp only[mP,zC]
  by_cases h:p a=Xc
  ·rw[kE h,List.filter_cons_of_pos h];simp only[mP,zC];rw[Q9 l]
  rw[kF h,kE rfl,List.filter_cons_of_neg h,Q9 l]
theorem Zt (a:Int) (l):zC (a :: l)=if a=0 then zC l else a:=rfl
theorem ze2:zC []=0:=rfl
def QW (m:Ma):List Int:=[Zi m.fs m.aB,slW m.sl,zB m.sb.length m.sq,zB m.db.length m.dq,stW m.fl m.cnt]
def Jy (m:Ma):List Int:=[zpY m,zbO m,zbn m]
def Qp (m:Ma):Int:=if 4<m.sp.length then 4 else zC (m.sp.map spE)
def zaN (m:Ma):Int:=if zC ((Ye m.fs.length).map (frE m))=0 then zC ((Ye m.sl.length).map (zoL m))else zC ((Ye m.fs.length).map (frE m))
def zgv (m:Ma):Int:=zC (m.sp.map (zel m))
def zeC (m:Ma):Int:=zcl m Xb m.ca
theorem zlu (l k):zC (l++k)=if zC l=0 then zC k else zC l:=by
 induction l with
 | nil=>simp[zC]
 | cons a l d=>
  by_cases h:a=0
  ·have b:zC (a :: l)=zC l:=by rw[Zt,kE h]
   have c:zC (a :: l++k)=zC (l++k):=by rw[Xy,Zt,kE h]
   rw[b,c,d]
  have b:zC (a :: l)=a:=by rw[Zt,kF h]
  have c:zC (a :: l++k)=a:=by rw[Xy,Zt,kF h]
  rw[b,c,kF h]
theorem zrf (m):maW m=zC [zC (QW m),zC (Jy m),Qp m,zeC m,zgv m,zaN m]:=by grind [zaR,zC,QW,Jy,Qp,spE,zlu,Zt,ze2,maW,zaN,zgv,zeC,Ye,frE,zoL]
structure zks (m:Ma):Prop where
 mem:Zi m.fs m.aB=0
 sl:slW m.sl=0
 sq:zB m.sb.length m.sq=0
 dq:zB m.db.length m.dq=0
 st:stW m.fl m.cnt=0
theorem zsh:zC (QW m)=0↔zks m:=by
 rw[zr];unfold QW;constructor
 ·intro h;exact⟨h _ Sm,h _ Sm,h _ Sm,h _ Sm,h _ Sm⟩
 intro h e a;simp only[mC,nM,or_false]at a
 rcases a with rfl|rfl|rfl|rfl|rfl
 ·exact h.mem
 ·exact h.sl
 ·exact h.sq
 ·exact h.dq
 exact h.st
theorem zbp {n:Nat}:∀{l:List Ar} {p:Option Ar} {k:Nat} {a:Ar},Qo p l->l[k]? =Xa a->Jt a n=Xc->zJ l n=qp a n
 | [],_,_,_,_,h,_=>by simp at h
 | b :: l,p,0,a,_,h,c=>by
  simp at h
  subst h;rw[jl]at c;exact Q4 c.1 c.2
 | b :: l,p,k+1,a,e,h,c=>by
  have f:l[k]? =Xa a:=Si h
  have d:=zbp e.2.2 f c
  by_cases c:(n:Int)<b.tz
  ·have:=e.2.2.low rfl c;rw[this]at d;exact(zg4 d.symm).elim
  rw[zcY (.inr Wm)]
  exact d
def qP (s:Sp):List Nat:=(Ye 64).filter fun n=>enS (zh s n)
theorem ziq (m) (s:Sp):zel m s=zC ((qP s).map fun n=>zgl m (zJ s.aD n) (zh s n)):=by grind [zel,qP,Q9,Yz,zh,enS]
theorem zg1 {s:Sp} (e:tbW s.tb=0) (d:s.tb.length=8):qP s=[]↔s.tb.all (·.isEmpty)=Xc:=by
 unfold qP;rw[List.filter_eq_nil_iff,Yf];constructor
 ·intro h x a;obtain⟨i,b⟩:=Xw a;have c:i<8:=by rw[<-d];exact(gS.1 b).1
  rcases Qj.1 e x a with a|⟨c,a,a⟩
  ·grind
  exfalso;unfold zgd at a;rw[Yg]at a;obtain⟨e,d,f⟩:=a;obtain⟨j,a⟩:=Xw d;have d:j<8:=by rw[<-c];exact(gS.1 a).1
  refine h (8*i+j) (Yl.2 Wm) ?_
  unfold zh zcZ;rw[show(8*i+j) / 8=i by omega,show(8*i+j) % 8=j by omega,b]
  simp only[Option.getD_some];rw[a];exact f
 intro h n a;rw[Yl]at a;unfold zh zcZ
 cases e:s.tb[n / 8]? with
 | none=>simp[enS,en0]
 | some x=>
  have:=h x (mG e);have:x=[]:=by simpa using this
  subst this
  simp[enS,en0]
def Ql (f:Fr) (a:Ar) (n:Nat):Bool:=if f.f<0 then !a.sh else f.f == a.file && f.x == a.base+(n:Int) - a.fr
def ZD (f:Fr) (a:Ar):Bool:=a.wr &&(if f.f<0 then decide (f.r<=1)else a.sh)
def zeB (m:Ma) (a:Ar) (n:Nat) (e:En):Int:=
 if e.kind=2 then(if(m.sl.length:Int)<=e.n\/a.sh=Xc then 7 else 0)
 else if(m.fs.length:Int)<=e.n then 3
 else if Ql (zQ m e.n) a n=Xd\/(e.wr=Xc/\ZD (zQ m e.n) a=Xd)then 7 else 0
theorem zrD (a:Zi m.fs m.aB=0) (k:Int):(zQ m k).f=-1\/(0<=(zQ m k).f/\(zQ m k).f<5):=by
 unfold zQ;rw[gD]
 cases h:m.fs[k.toNat]? with
 | none=>left;rfl
 | some f=>
  have b:zgk m.fs=0:=by grind [Zi]
  have a:=QK.1 b f (mG h);simp only[Option.getD_some];unfold frW at a
  split at a
  ·cases a
  grind [inB]
theorem zmm {a:Ar} {n:Nat} {e:En} (c:Zi m.fs m.aB=0) (d:jV a):zgl m (qp a n) e=zeB m a n e:=by
 unfold zgl zeB;rw[kF (by simp[qp])]
 by_cases b:e.kind=2
 ·rw[kE b,kE b];rfl
 rw[kF b,kF b]
 by_cases b:(m.fs.length:Int)<=e.n
 ·grind
 rw[kF b,kF b];have b:=zrD c e.n;obtain⟨f,c⟩:=kB (zQ m e.n);rw[c]at b⊢;unfold Ql ZD qp;simp only;obtain⟨c,c,c,c,c,c,c,c⟩:=d
 rcases b with b|b
 ·grind
 grind
def QT (c d:Ca):Bool:=decide (c.file<d.file) || (c.file == d.file && decide (c.idx<d.idx))
theorem zow {c d:Ca} (a:0<=c.idx/\c.idx<100) (b:0<=d.idx/\d.idx<100):QT c d=decide (¬qa d<=qa c):=by
 unfold QT qa;rw[Bool.eq_iff_iff];simp;omega
theorem zrW {p:Option Ca} {c:Ca} (a:stW m.fl m.cnt=0) (h:caE m p c=0):0<=c.idx/\c.idx<100:=by
 unfold caE at h
 split at h
 ·cases h
 rename_i b
 have b:bkN m c.file<=12:=by
  unfold bkN;rw[gD]
  cases e:m.fl[c.file.toNat]? with
  | none=>simp
  | some f=>
   have:=((zY _ _).1 a).2.1 f (mG e);simp only[Option.getD_some];have a:=Qm this.1.1 this.1.2;rw[this.2.1];exact a.2
 omega
theorem zhP (f:Nat->En) (kind k:Int):∀m:Nat,ZP f kind k m=(Ye m).countP fun n=>isE (f n) kind k
 | 0=>rfl
 | m+1=>by
  unfold ZP;rw[zhP f kind k m,List.range_succ,Ym]
  cases h:isE (f m) kind k <;> simp[h]
theorem zog (s) {kind k:Int} (a:kind≠0):ZP (zh s) kind k 64=(qP s).countP fun n=>isE (zh s n) kind k:=by
 rw[zhP];unfold qP;rw[List.countP_filter]
 apply List.countP_congr
 intro n _;constructor
 ·intro h;rw[Bool.and_eq_true];refine⟨h,?_⟩;unfold isE at h;rw[Bool.and_eq_true]at h
  grind [zh,enS]
 grind
def qz (m:Ma) (i:Nat) (l:List Nat) (s:Sp) (key:Int × Int):Int:=
 ((if key.1=1 then(zX m.ca key.2:Nat)else 0:Nat):Int)+((((m.sp.take i).map fun s=>(qP s).countP fun n=>isE (zh s n) key.1 key.2).sum:Nat):Int)+((l.countP fun n=>isE (zh s n) key.1 key.2:Nat):Int)
theorem znu (m) (i:Nat) (l:List Nat) (s) (n:Nat) (a:Int × Int):qz m i (l++ [n]) s a=qz m i l s a+(if a=((zh s n).kind,(zh s n).n)then 1 else 0):=by
 unfold qz;rw[Ym]
 by_cases h:a=((zh s n).kind,(zh s n).n)
 ·grind [isE,zh]
 grind [isE,zh]
theorem znv (m:Ma) (i:Nat) (s s') (b:m.sp[i]? =Xa s) (a:Int × Int):qz m i (qP s) s a=qz m (i+1) [] s' a:=by
 grind [qz,Yp]
theorem zj4 (m:Ma) (s) {kind:Int} (k:Int) (a:kind≠0):qz m m.sp.length [] s (kind,k)=((zdC m kind k+(if kind=1 then zX m.ca k else 0):Nat):Int):=by grind [qz,zdC,qZ,List.take_length,zh,ZP,qP,isE,List.map_map,Yz,zog]
def JS (l:List Ca) (key:Int × Int):Int:=if key.1=1 then(zX l key.2:Int)else 0
theorem zlk (l) (c:Ca) (a:Int × Int):JS (l++ [c]) a=JS l a+(if a=(1,c.fr)then 1 else 0):=by
 unfold JS zX;obtain⟨b,d⟩:=a;simp only[Ym,pJ]
 by_cases a:b=1
 ·grind
 grind
theorem znx (m:Ma) (s) (a:Int × Int):JS m.ca a=qz m 0 [] s a:=by
 unfold JS qz;simp
 split <;> rfl
theorem znw (a:Int × Int):JS [] a=0:=by
 unfold JS zX;simp
def ZI:List Ca->Int × Int->Option Int
 | [],_=>Xb
 | c :: l,key=>match ZI l key with | some z=>Xa z | none=>if key=(c.file,c.idx)then Xa c.fr else Xb
theorem zhp (c:Ca) (a:Int × Int):∀(l:List Ca),ZI (l++ [c]) a=if a=(c.file,c.idx)then Xa c.fr else ZI l a
 | []=>by simp[ZI]
 | d :: l=>by
  simp only[Xy,ZI];rw[zhp c a l]
  by_cases h:a=(c.file,c.idx)
  ·rw[kE h,kE h]
  rw[kF h,kF h]
theorem zbB {a:Int × Int} {z:Int}:∀{l:List Ca},ZI l a=Xa z->∃c∈l,a=(c.file,c.idx)/\c.fr=z
 | [],h=>by cases h
 | d :: l,h=>by
  unfold ZI at h
  cases e:ZI l a with
  | some y=>
   rw[e]at h;cases h;obtain⟨c,a,b⟩:=zbB e;exact⟨c,Yh _ a,b⟩
  | none=>
   rw[e]at h;simp only at h
   split at h
   ·rename_i a
    cases h;exact⟨d,Yn,a,rfl⟩
   cases h
theorem zbA {a:Int × Int}:∀{l:List Ca},ZI l a=Xb↔∀c∈l,a≠(c.file,c.idx)
 | []=>by simp[ZI]
 | d :: l=>by
  unfold ZI;constructor
  ·intro h c b
   cases e:ZI l a with
   | some y=>rw[e]at h;cases h
   | none=>
    rw[e]at h;simp only at h
    rcases mC.1 b with rfl|b
    ·intro a;rw[kE a]at h;cases h
    exact zbA.1 e c b
  intro h;rw[zbA.2 fun c b=>h c (Yh _ b)]
  simp only;rw[kF (h d Yn)]
theorem zjk {l:List Ca} (h:l.Pairwise fun a b=>qa a<qa b) {c d:Ca} (e:c∈l) (f:d∈l) (g:qa c=qa d):c=d:=by
 induction l with
 | nil=>cases e
 | cons a l f=>
  rw[List.pairwise_cons]at h
  rcases mC.1 e with rfl|e
  ·grind
  grind
theorem zlm (a:zcl m Xb m.ca=0) (k:Nat):(ZI m.ca ((zQ m k).f,(zQ m k).x)=Xa (k:Int))↔zX m.ca k≠0:=by
 obtain⟨b,_,h⟩:=zn.1 a;have b:∀c∈m.ca,(zQ m c.fr).f=c.file/\(zQ m c.fr).x=c.idx:=by grind [caE]
 have a:zX m.ca k≠0↔∃c∈m.ca,c.fr=(k:Int):=by grind [zX,Nat.ne_zero_iff_zero_lt,List.countP_pos_iff]
 rw[a];constructor
 ·grind [zbB]
 rintro⟨c,f,g⟩;obtain⟨d,e⟩:=b c f;rw[g]at d e
 cases b:ZI m.ca ((zQ m k).f,(zQ m k).x)with
 | none=>
  have:=zbA.1 b c f;rw[d,e]at this;exact absurd rfl this
 | some z=>
  obtain⟨i,j,a,l⟩:=zbB b;rw[d,e]at a;simp only[pJ]at a;have:c=i:=zjk h f j (by unfold qa;rw[a.1,a.2])
  rw[<-l,<-this,g]
end
section
open Go.RowKit
theorem QR (m n:Int) (w):
  Xp prog 120 #[I6 m,I6 n] w fun e w'=>e= Xl (Xh (bel m n))/\w'=w:=by
 have H:Xo (bel m n=(decide (0<=m) && decide (m<n))):=rfl
 by_cases a:0<=m
 ·by_cases a:m<n
  ·go_enter func120,ntmps120
   go_wp2;go_ret;exact⟨by rw[H.out];simp[*],rfl⟩
  go_enter func120,ntmps120
  go_wp2;go_ret;exact⟨by rw[H.out];simp[*],rfl⟩
 go_enter func120,ntmps120
 go_wp2;go_ret;exact⟨by rw[H.out];simp;omega,rfl⟩
theorem ztD:(Tryz.prog.info? 47).map (fun i=>(i.zero,i.size,i.bytes))=Xa (Xa (I6 0),1,8):=by kernel_rfl
def zl7:Elt Int where
 enc:=fun z=>[Xe Xf z]
 k:=1
 ty:=47
 st:=96
 bytes:=8
 zv:= Xe Xf 0
 zero:=0
 len:=fun _=>rfl
 one:=fun a u hu=>by
  simp only[mC,nM,or_false]at hu;rw[hu];rfl
 bV:=underlying96
 aF:=ztD
 zok:=rfl
 few:=by decide
 pos:=by decide
theorem zj.errs {w:Xn} {v:Xq} {l:List Int} (h:zj zl7 w v l):∃a c,v= O a l.length c/\zoA w a l:=by
 obtain⟨a,c,b,d⟩:=h.rows;refine⟨a,c,b,fun j x g=>?_⟩
 obtain⟨b,e,f⟩:=d j x g;refine⟨b,e,fun W b=>?_⟩
 have:=f W b 0 _ rfl
 grind [qO,zl7]
theorem zfx {α:Type} (E:Elt α) (w:Xn) (l:List α) (cs:Array Xq) (a:cs=(l.flatMap E.enc).toArray) (b:l.length*E.bytes<=140737488355328):zj E (w.alloc (Xk cs E.ty)) (O (Xa ⟨w.heap.size,0,Xb⟩) l.length l.length) l:=by
 subst a;refine⟨⟨_,l.length,rfl,fun h=>(by cases h),fun y a=>?_⟩,b⟩
 grind [jc.aE]
theorem zdM {l:List Int} {k:Nat} (a:∀(j:Nat) x,j<k->l[j]? =Xa x->x=0) {q:Int} (c:l[k]? =Xa q) (b:q≠0):zC l=q:=by
 have:=zdO (f:=fun x=>x) c a b
 simpa using this
theorem zdN {l:List Int} (a:∀(j:Nat) x,l[j]? =Xa x->x=0):zC l=0:=by
 have:=ze3 (f:=fun x=>x) a
 simpa using this
theorem zdn (v l w) (s:zj zl7 w v l):
  Xp prog 19 #[v] w fun e w'=>e= Xl (I6 (zC l))/\w'=w:=by
 have g:=s.short;obtain⟨G,H,rfl,b⟩:=s.errs;have z:=dD b;clear b s;obtain⟨n,m⟩:=kA l.length;rw[m.out]at g⊢;obtain⟨F,k⟩:=kA (zC l);rw[k.out]
 go_enter func19,ntmps19
 go_wp2
 go_loopg [5,8] n (fun B _ E wr=>∃a:Nat,a<=n/\n - a<=B/\E=I6 a/\wr=w/\Xo (∀(j:Nat) x,j<a->l[j]? =Xa x->x=0))
 exact⟨0,nZ _,Wm,rfl,rfl,fun j x t=>absurd t (nL _)⟩
 obtain⟨a,D,C,rfl,rfl,A⟩:=hrel
 by_cases c:a<n
 ·have h:=kC c
  obtain⟨q,p⟩:∃q,Xo (l[a]? =Xa q):=⟨_,gE (Rx m.out c)⟩
  obtain⟨x,rfl,u⟩:=z.out a q p.out;have K:=u wr (zc.refl _);clear u
  by_cases d:q=0
  ·have r:(q != 0)=Xd:=by simp[d]
   have y:Xo (∀(j:Nat) x,j<a+1->l[j]? =Xa x->x=0):=dD<|fun j x t f=>by
    by_cases e:j=a
    ·subst e;rw[p.out]at f;cases f;exact d
    exact A j x Wm f
   clear d;go_wp2
   go_roundg (n -(a+1));exact⟨a+1,Wm,Wm,Gn,rfl,y⟩;omega
  have r:(q != 0)=Xc:=by simp[d]
  have i:Xo (F=q):=dD<|by rw[<-k.out];exact zdM A p d
  clear d;go_wp2;go_ret;exact⟨Rr i.out,rfl⟩
 have h:=kD c
 have:a=n:=Wm
 subst this;have i:Xo (F=0):=dD<|by
  rw[<-k.out];exact zdN fun j x f=>A.out j x (by rw[<-m.out];exact(gS.1 f).1) f
 go_wp2;go_ret;exact⟨Rr i.out,rfl⟩
theorem za2 (a:Ar) (n:Int) (w) (b:0<=a.base/\a.base<=100) (c:0<=a.fr/\a.fr<=100) (d:0<=n/\n<=100):
  Xp prog 169 #[Xi #[I6 a.fr,I6 a.tz,Xh a.rd,Xh a.wr,Xh a.sh,I6 a.file,I6 a.base],I6 n] w fun e w'=>e= Xl (I6 (a.base+n - a.fr))/\zc w w':=by
 obtain⟨fr,d,d,wr,d,file,base⟩:=a;simp only at b c
 go_enter func169,ntmps169
 go_wp2;go_ret;exact⟨rfl,za _ _⟩
theorem ziQ (c d:Ca) (w):
  Xp prog 65 #[Xi #[I6 c.file,I6 c.idx,I6 c.fr],Xi #[I6 d.file,I6 d.idx,I6 d.fr]] w fun e w'=>e= Xl (Xh (QT c d))/\zc w w':=by
 obtain⟨b,f,i⟩:=c;obtain⟨g,h,j⟩:=d
 by_cases l:b<g
 ·have a:QT ⟨b,f,i⟩ ⟨g,h,j⟩=Xc:=by simp[QT,l]
  rw[a];clear a
  go_enter func65,ntmps65
  go_wp2;go_ret;exact⟨rfl,(za _ _).trans (za _ _)⟩
 by_cases k:b=g
 ·subst k
  by_cases m:f<h
  ·have a:QT ⟨b,f,i⟩ ⟨b,h,j⟩=Xc:=by simp[QT,m]
   rw[a];clear a
   go_enter func65,ntmps65
   go_wp2;go_ret;exact⟨rfl,(za _ _).trans (za _ _)⟩
  have a:QT ⟨b,f,i⟩ ⟨b,h,j⟩=Xd:=by simp[QT,m]
  rw[a];clear a
  go_enter func65,ntmps65
  go_wp2;go_ret;exact⟨rfl,(za _ _).trans (za _ _)⟩
 have a:QT ⟨b,f,i⟩ ⟨g,h,j⟩=Xd:=by simp[QT,l,k]
 rw[a];clear a;have a:(b == g)=Xd:=by simp[k]
 clear k
 go_enter func65,ntmps65
 go_wp2;go_ret;exact⟨rfl,(za _ _).trans (za _ _)⟩
theorem zhd (f) (a:Ar) (w):
  Xp prog 126 #[Xi (frv f).toArray,Xi #[I6 a.fr,I6 a.tz,Xh a.rd,Xh a.wr,Xh a.sh,I6 a.file,I6 a.base]] w fun e w'=>e= Xl (Xh (ZD f a))/\zc w w':=by
 obtain⟨⟨d,g,i,j,k,l,m,n⟩,r,u,p,c,x⟩:=f;obtain⟨fr,t,q,wr,s,file,base⟩:=a;unfold frv ZD;simp only;cases wr
 ·simp only[Yv]
  go_enter func126,ntmps126
  go_wp2;go_ret;exact⟨rfl,(za _ _).trans (za _ _)⟩
 simp only[Ob]
 by_cases h:c<0
 ·rw[kE h];obtain⟨D,b⟩:=kA (decide (r<=1));rw[b.out]
  go_enter func126,ntmps126
  go_wp2;go_ret;exact⟨by rw[<-b.out];rfl,(za _ _).trans (za _ _)⟩
 rw[kF h]
 go_enter func126,ntmps126
 go_wp2;go_ret;exact⟨rfl,(za _ _).trans (za _ _)⟩
theorem Zs (m n:Int) (w):
  Xp prog 109 #[I6 m,I6 n] w fun e w'=>e= Xl (Xh (inB m n))/\w'=w:=by
 have H:Xo (inB m n=(decide (0<=m) && decide (m<n))):=rfl
 by_cases a:0<=m
 ·by_cases a:m<n
  ·go_enter func109,ntmps109
   go_wp2;go_ret;exact⟨by rw[H.out];simp[*],rfl⟩
  go_enter func109,ntmps109
  go_wp2;go_ret;exact⟨by rw[H.out];simp[*],rfl⟩
 go_enter func109,ntmps109
 go_wp2;go_ret;exact⟨by rw[H.out];simp;omega,rfl⟩
theorem Q8 (w):
  Xp prog 26 #[] w fun e w'=>e= Xl (Xi (frv frF).toArray)/\zc w w':=by
 go_enter func26,ntmps26
 go_wp2;refine bodyPost_ret (v:= Xi (frv frF).toArray) (by simp[results,Tryz.results26,go_sem,frv,frF,pg0]) rfl ⟨rfl,?_⟩
 exact(bR _ _).alloc (nR _) _
theorem wf5 (a c g h i j k l r:Int) (u d:Bool) (f x:Int) (w) (b:inB r 1001=Xc) (m:inB x 12=Xc) (p:(f != -1)=Xc) (_hfe:(f == -1)=Xd) (n:inB f 5=Xc) (q:(r == 0)=Xd):
  Xp prog 108 #[Xi #[U8 a,U8 c,U8 g,U8 h,U8 i,U8 j,U8 k,U8 l,I6 r,Xh u,Xh d,I6 f,I6 x]] w fun e w'=>e= Xl (I6 0)/\zc w w':=by
 go_enter func108,ntmps108
 go_wp2_with (go_at_call 109;refine(Zs _ _ _).mono ?_;rintro e w' ⟨rfl,rfl⟩)
 obtain⟨m,b⟩:=kB (w.alloc (Xk #[U8 a,U8 c,U8 g,U8 h,U8 i,U8 j,U8 k,U8 l,I6 r,Xh u,Xh d,I6 f,I6 x] 93));have c:=gA b
 have a:=xA b
 rw[b];clear b;have b:=a.gw 0 rfl
 have b:=a.gw 1 rfl
 have b:=a.gw 2 rfl
 have b:=a.gw 3 rfl
 have b:=a.gw 4 rfl
 have b:=a.gw 5 rfl
 have b:=a.gw 6 rfl
 have b:=a.gw 7 rfl
 have b:=a.gw 8 rfl
 have b:=a.gw 9 rfl
 have b:=a.gw 10 rfl
 have b:=a.gw 11 rfl
 have b:=a.gw 12 rfl
 have a:Nonempty (zf m):=⟨⟨_,zc.refl _⟩⟩;refine qx [(5,⟨fun v=>v= Xi (frv frF).toArray,fun _ _=>True⟩)] zW Kr ?_ ?_ ?_
 ·intro x a
  simp at a
  subst a;exact⟨_,rfl⟩
 ·intro x a
  simp at a
  subst a;exact fun _ _ _ _ h=>h
 iterate 4 refine ze ?_
 iterate 3 (refine ji ?_ ?_;kernel_rfl;simp only[Act.put,sB,sS,sZ])
 iterate 6 refine ze ?_
 iterate 3 (refine ji ?_ ?_;kernel_rfl;simp only[Act.put,sB,sS,sZ])
 iterate 2 refine ze ?_
 refine zL fun a b a=>?_
 have a:=dD (c.trans b);go_wp2;go_ret;exact⟨rfl,a⟩
theorem wf7 (g h i j k l m n r:Int) (u d:Bool) (f x:Int) (w) (b:inB r 1001=Xc) (p:inB x 12=Xc) (q:(f != -1)=Xd) (_hfe:(f == -1)=Xc) (s:(r == 0)=Xc) (a:zbI (⟨⟨g,h,i,j,k,l,m,n⟩,r,u,d,f,x⟩:Fr) frF=Xc) (c:(x != 0)=Xd):
  Xp prog 108 #[Xi #[U8 g,U8 h,U8 i,U8 j,U8 k,U8 l,U8 m,U8 n,I6 r,Xh u,Xh d,I6 f,I6 x]] w fun e w'=>e= Xl (I6 0)/\zc w w':=by
 have p:Xo _:=a;clear a
 go_enter func108,ntmps108
 go_wp2_with (go_at_call 109;refine(Zs _ _ _).mono ?_;rintro e w' ⟨rfl,rfl⟩)
 obtain⟨s,b⟩:=kB (w.alloc (Xk #[U8 g,U8 h,U8 i,U8 j,U8 k,U8 l,U8 m,U8 n,I6 r,Xh u,Xh d,I6 f,I6 x] 93));have q:=gA b
 have a:=xA b
 rw[b];clear b;have b:=a.gw 0 rfl
 have b:=a.gw 1 rfl
 have b:=a.gw 2 rfl
 have b:=a.gw 3 rfl
 have b:=a.gw 4 rfl
 have b:=a.gw 5 rfl
 have b:=a.gw 6 rfl
 have b:=a.gw 7 rfl
 have b:=a.gw 8 rfl
 have b:=a.gw 9 rfl
 have b:=a.gw 10 rfl
 have b:=a.gw 11 rfl
 have b:=a.gw 12 rfl
 have a:Nonempty (zf s):=⟨⟨_,zc.refl _⟩⟩;refine qx [(5,⟨fun v=>v= Xi (frv frF).toArray,fun _ _=>True⟩)] zW Kr ?_ ?_ ?_
 ·intro x c
  simp at c
  subst c;exact⟨_,rfl⟩
 ·intro x c
  simp at c
  subst c;exact fun _ _ _ _ a=>a
 iterate 5 refine ze ?_
 refine zx rfl rfl (fun w' a c=>?_) (fun a b=>?_)
 ·refine zP.call [] rfl func26 rfl rfl rfl ?_;refine(Q8 w').mono ?_;rintro e a ⟨rfl,a⟩;exact⟨_,rfl,a,rfl,trivial⟩
 subst b;have a:=fun W=>zs1 g h i j k l m n r u d f x 0 0 0 0 0 0 0 0 0 Xd Xd (-1) 0 W
 simp only[show(⟨⟨0,0,0,0,0,0,0,0⟩,0,Xd,Xd,-1,0⟩:Fr)=frF from rfl,p.out]at a
 simp only[Act.put,sB,sS,sZ,frv,frF,pg0];iterate 12 refine ze ?_
 refine zL fun a b c=>?_
 have a:=dD (q.trans b);go_wp2;go_ret;exact⟨rfl,a⟩
theorem wf9 (a g h i j k l m r:Int) (u d:Bool) (f x:Int) (w) (b:inB r 1001=Xc) (n:inB x 12=Xc) (p:(f != -1)=Xd) (_hfe:(f == -1)=Xc) (q:(r == 0)=Xd) (c:(x != 0)=Xd):
  Xp prog 108 #[Xi #[U8 a,U8 g,U8 h,U8 i,U8 j,U8 k,U8 l,U8 m,I6 r,Xh u,Xh d,I6 f,I6 x]] w fun e w'=>e= Xl (I6 0)/\zc w w':=by
 go_enter func108,ntmps108
 go_wp2_with (go_at_call 109;refine(Zs _ _ _).mono ?_;rintro e w' ⟨rfl,rfl⟩)
 obtain⟨n,b⟩:=kB (w.alloc (Xk #[U8 a,U8 g,U8 h,U8 i,U8 j,U8 k,U8 l,U8 m,I6 r,Xh u,Xh d,I6 f,I6 x] 93));have g:=gA b
 have a:=xA b
 rw[b];clear b;have b:=a.gw 0 rfl
 have b:=a.gw 1 rfl
 have b:=a.gw 2 rfl
 have b:=a.gw 3 rfl
 have b:=a.gw 4 rfl
 have b:=a.gw 5 rfl
 have b:=a.gw 6 rfl
 have b:=a.gw 7 rfl
 have b:=a.gw 8 rfl
 have b:=a.gw 9 rfl
 have b:=a.gw 10 rfl
 have b:=a.gw 11 rfl
 have b:=a.gw 12 rfl
 have a:Nonempty (zf n):=⟨⟨_,zc.refl _⟩⟩;refine qx [(5,⟨fun v=>v= Xi (frv frF).toArray,fun _ _=>True⟩)] zW Kr ?_ ?_ ?_
 ·intro x c
  simp at c
  subst c;exact⟨_,rfl⟩
 ·intro x c
  simp at c
  subst c;exact fun _ _ _ _ h=>h
 iterate 4 refine ze ?_
 iterate 3 (refine ji ?_ ?_;kernel_rfl;simp only[Act.put,sB,sS,sZ])
 iterate 11 refine ze ?_
 refine zL fun a b a=>?_
 have a:=dD (g.trans b);go_wp2;go_ret;exact⟨rfl,a⟩
theorem zgD (z:Int) (w):
  Xp prog 111 #[I6 z] w fun e w'=>e= Xl (Xh (zeb z))/\zc w w':=by
 by_cases b:z<0
 ·have a:Xo (zeb z=Xc):=dD<|by simp[zeb,b]
  go_enter func111,ntmps111
  go_wp2;go_ret;exact⟨Rr a.out,zc.refl _⟩
 by_cases b:1000<z
 ·have a:Xo (zeb z=Xc):=dD<|by simp[zeb,b]
  go_enter func111,ntmps111
  go_wp2;go_ret;exact⟨Rr a.out,zc.refl _⟩
 have a:Xo (zeb z=Xd):=dD<|by simp[zeb];omega
 go_enter func111,ntmps111
 go_wp2;go_ret;exact⟨Rr a.out,zc.refl _⟩
theorem zp0 {p:Int->Bool} {fs:List Int} {k:Nat} {q:Int} (h:fs[k]? =Xa q) (b:p q=Xc) (a:∀(j:Nat) x,j<k->fs[j]? =Xa x->p x=Xd):fs.findIdx p=k:=by grind [gS.1,List.findIdx_eq,gE]
theorem zpZ {p:Int->Bool} {fs:List Int} (a:∀(j:Nat) x,fs[j]? =Xa x->p x=Xd):fs.findIdx p=fs.length:=by
 grind [List.findIdx_eq_length.2,Xw]
theorem zsF {p:Int->Bool} {fs:List Int} {k:Nat} {q:Int} (h:fs[k]? =Xa q) (a:p q=Xc):fs.any p=Xc:=Yg.2 ⟨q,mG h,a⟩
theorem zsE {p:Int->Bool} {fs:List Int} (a:∀(j:Nat) x,fs[j]? =Xa x->p x=Xd):fs.any p=Xd:=Oe.2 fun x a=>by grind [Xw]
theorem zho (v) (fs:List Int) (w) (c:zj slE w v fs):
  Xp prog 163 #[v,.func (.func 111) #[] #[]] w fun e w'=>(∃z:Int,e= Xl (I6 z)/\decide (0<=z)=fs.any zeb)/\zc w w':=by
 have b:=c.short;obtain⟨a,a,rfl,a⟩:=c.sls;have f:=dD a;have d:=enters_of func111 Kr rfl
 clear a c;obtain⟨n,m⟩:=kA fs.length;rw[m.out]at b⊢
 go_enter func163,ntmps163
 go_wp2
 go_loopg [5,8] n (fun a _ c wr=>∃b:Nat,b<=n/\n - b<=a/\c=I6 b/\Xo (zc w wr)/\Xo (∀j q,j<b->fs[j]? =Xa q->zeb q=Xd))
 exact⟨0,nZ _,Wm,rfl,zc.refl w,fun j q h=>absurd h (nL _)⟩
 obtain⟨b,a,a,rfl,k,A⟩:=hrel
 by_cases d:b<n
 ·have i:=kC d
  obtain⟨q,p⟩:∃q,Xo (fs[b]? =Xa q):=⟨_,gE (Rx m.out d)⟩
  obtain⟨a,rfl,c⟩:=f.out b q p.out;have a:=c wr k.out;have a:=zgD q wr
  clear c
  cases g:zeb q with
  | true=>
   rw[g]at a;have l:Xo (decide (0<=(b:Int))=fs.any zeb):=dD<|by rw[zsF p.out g];simp
   clear g
   go_wp2_with (go_at_call 111;refine a.mono ?_;rintro e w' ⟨rfl,c⟩)
   go_ret;exact⟨⟨_,rfl,l⟩,k.trans c⟩
  | false=>
   rw[g]at a;have r:Xo (∀(j:Nat) q,j<b+1->fs[j]? =Xa q->zeb q=Xd):=dD<|fun j s h f=>by
    by_cases e:j=b
    ·subst e;rw[p.out]at f;cases f;exact g
    exact A j s Wm f
   clear g
   go_wp2_with (go_at_call 111;refine a.mono ?_;rintro e w' ⟨rfl,c⟩)
   go_roundg (n -(b+1));exact⟨b+1,Wm,Wm,Gn,k.trans c,r⟩;omega
 have i:=kD d
 have:b=n:=Wm
 subst this;have l:Xo (decide (0<=(-1:Int))=fs.any zeb):=dD<|by
  rw[zsE (fun j q h=>A.out j q (by rw[<-m.out];exact(gS.1 h).1) h)]
  rfl
 go_wp2;go_ret;exact⟨⟨_,rfl,l⟩,k⟩
theorem zl0 (v) (fs:List Int) (w) (b:zj slE w v fs):
  Xp prog 110 #[v,.func (.func 111) #[] #[]] w fun e w'=>e= Xl (Xh (fs.any zeb))/\zc w w':=by
 have a:=zho v fs w b;obtain⟨c,c,rfl,_⟩:=b.sls;clear b
 generalize fs.any zeb=b at a⊢
 go_enter func110,ntmps110
 go_wp2_with fail;refine a.mono ?_;rintro e b ⟨⟨z,rfl,c⟩,b⟩;have d:=dD b;have f:=dD c;clear b c a;go_wp2;go_ret;exact⟨Rr f.out,d⟩
theorem zbT (a) (c:Nat) (s:List Int) (w) (g:zj slE w (O a s.length c) s):
  Xp prog 59 #[O a s.length c] w fun e w'=>e= Xl (I6 (slW s))/\zc w w':=by
 have d:=zl0 _ s w g;have f:Xo (slW s=if 60<s.length then 4 else if s.any zeb then 3 else 0):=rfl;have b:=g.short;obtain⟨n,h⟩:=kA s.length;rw[h.out]at d f b⊢;clear g
 generalize s.any zeb=i at d f
 by_cases b:60<n
 ·have h:=kC b
  have g:Xo (slW s=4):=dD<|by rw[f.out,kE b]
  clear d
  go_enter func59,ntmps59
  go_wp2;go_ret;exact⟨Rr g.out,zc.refl _⟩
 have h:=kD b
 rw[kF b]at f
 cases i with
 | true=>
  have g:=dD f.out
  go_enter func59,ntmps59
  go_wp2_with fail;refine d.mono ?_;rintro e i ⟨rfl,b⟩;have h:=dD b;clear b d;go_wp2;go_ret;exact⟨Rr g.out,h⟩
 | false=>
  have g:=dD f.out
  go_enter func59,ntmps59
  go_wp2_with fail;refine d.mono ?_;rintro e i ⟨rfl,b⟩;have h:=dD b;clear b d;go_wp2;go_ret;exact⟨Rr g.out,h⟩
def qL (n:Nat) (g:List Int):List Xq:=(Ye n).map fun(i:Nat)=> Xh (g.contains (i:Int))
theorem zbu {n:Nat} (g:List Int) {i:Nat} (hi:i<n):(qL n g)[i]? =Xa (Xh (g.contains (i:Int))):=by
 unfold qL;rw[Of,List.getElem?_range hi];rfl
theorem zhe {n:Nat} (g) {i:Nat} (hi:i<n):(qL n g).set i (Xh Xc)=qL n ((i:Int) :: g):=by
 apply Yd
 grind [sF,qL,zbu,sN,Nat.lt_or_ge,gN]
theorem zdv:qL 80 []=Xr 80 (Xh Xd):=by
 unfold qL
 simp[List.map_const']
theorem zpO (b a:Int) (g) (c pg:Nat) (w:Xn) (d:Box w c [I6 a]) (h:Box w pg (qL 80 g)) (f:a<=80):
  Xp prog 165 #[I6 b,Xj (Xa ⟨c,0,Xb⟩),Xj (Xa ⟨pg,0,Xb⟩)] w fun e w'=>e= Xl (I6 (JV a g b))/\(JV a g b=0->Box w' pg (qL 80 (zay g b)))/\w.grownBy w' (Xa pg)/\w'.heap.size=w.heap.size:=by
 have c:=d.c 0 rfl;have c:=dD h
 rcases za5 a g b with⟨c,d,f⟩|⟨c,d,f⟩|⟨i,c,d,f,s⟩|⟨i,c,d,f,s,u⟩
 ·rw[d];have j:Xo (Box w pg (qL 80 (zay g b))):=dD<|Rx f h
  subst c
  generalize zay g (-1)=r at j⊢
  go_enter func165,ntmps165
  go_wp2;go_ret;exact⟨rfl,fun _=>j.out,World.grownBy.rfl' _ _,rfl⟩
 ·rw[f];have k:=zau d w;have l:(b == -1)=Xd:=Si c
  generalize zay g b=r
  go_enter func165,ntmps165
  go_wp2_with (go_at_call 27;refine k.mono ?_;rintro e w' ⟨rfl,rfl⟩)
  go_ret;exact⟨rfl,fun t=>Wm,World.grownBy.rfl' _ _,rfl⟩
 ·rw[s];subst c;have p:i<80:=Wm
  have k:=Zd (m:=(i:Int)) (n:=a) Wm d w
  have l:((i:Int) == -1)=Xd:=Sm
  have q:=h.c i (zbu g p);rw[f]at q
  generalize zay g (i:Int)=r
  go_enter func165,ntmps165
  go_wp2_with (go_at_call 27;refine k.mono ?_;rintro e w' ⟨rfl,rfl⟩)
  go_ret;exact⟨rfl,fun t=>Wm,World.grownBy.rfl' _ _,rfl⟩
 rw[s];subst c;have p:i<80:=Wm
 have k:=Zd (m:=(i:Int)) (n:=a) Wm d w
 have l:((i:Int) == -1)=Xd:=Sm
 have q:=h.c i (zbu g p);have a:=h.f;rw[f]at q;have j:Xo (Box (w.setCell ⟨pg,i,Xb⟩ (Xh Xc)) pg (qL 80 (zay g (i:Int)))):=dD<|by
  rw[u,<-zhe g p];exact h.set i _
 generalize zay g (i:Int)=r at j
 go_enter func165,ntmps165
 go_wp2_with (go_at_call 27;refine k.mono ?_;rintro e w' ⟨rfl,rfl⟩)
 go_ret;exact⟨rfl,fun _=>j.out,⟨rfl,rfl,rfl,by simp[World.setCell],fun k a a=>Below.heap_setCell _ _ _ _ (fun e=>a (by rw[e]))⟩,by simp[World.setCell]⟩
def zgo:Array Xq:=(Xr 80 (Xh Xd)).toArray
theorem zh6:(Tryz.prog.info? 114).map (fun i=>i.zero)=Xa (Xa (Xi zgo)):=by kernel_rfl
theorem zbY (w):(zeroValue 114).run prog w= .ok (Xi zgo) w:=by
 have h:=zh6
 cases a:Tryz.prog.info? 114 with
 | none=>simp[a]at h
 | some i=>
  simp[a]at h
  simp[zeroValue,typeInfo,a,h]
theorem znC (a:Int) (w:Xn):
  Xp prog 115 #[I6 a] w fun e w'=>e= Xl (.func (.func 165) #[] #[Xj (Xa ⟨w.heap.size,0,Xb⟩),Xj (Xa ⟨w.heap.size+1,0,Xb⟩)])/\Box w' w.heap.size [I6 a]/\Box w' (w.heap.size+1) (qL 80 [])/\zc w w'/\w'.heap.size=w.heap.size+2:=by
 have a:∀(b:Fn) (first a:Array Xq) (w:Xn),(Instr.makeFunc b first a).run prog w= .ok (.func b first a) w:=fun _ _ _ _=>rfl
 have a:=zbY;rw[zdv]
 go_enter func115,ntmps115
 go_wp2;go_ret;exact⟨rfl,(Box.aE w _ _ rfl).alloc _,Box.aE _ (Xr 80 (Xh Xd)) _ Sm,(za _ _).trans (za _ _),Sm⟩
theorem zkn (g l) (b:Int):blG g (l++ [b])=zay (blG g l) b:=by
 unfold blG;rw[Og];rfl
theorem zfl (f:Fl) (R) (S:Nat) (a:Int) (g) (E pg:Nat) (w) (ab:Box w E [I6 a]) (C:Box w pg (qL 80 g)) (N:E≠pg) (aq:a<=80) (a2:zjv blE pg (pg+1) w (O R f.bl.length S) f.bl):
  Xp prog 116 #[Xi #[I6 f.size,O R f.bl.length S],.func (.func 165) #[] #[Xj (Xa ⟨E,0,Xb⟩),Xj (Xa ⟨pg,0,Xb⟩)]] w fun e w'=>e= Xl (I6 (flW a g f))/\(flW a g f=0->Box w' pg (qL 80 (blG g f.bl)))/\Out pg (pg+1) w w':=by
 obtain⟨h,b⟩:=f;have k:Xo (flW a g ⟨h,b⟩=if 0<=h/\h<=96 then(if(b.length:Int)=jH h then blW a g b else 2)else 3):=rfl;have ak:=dD ab;have al:=dD C;have V:=dD a2;have G:=dD N;have i:=(a2.now).short;clear ab C a2 N;simp only at i
 show Xp _ _ #[Xi #[I6 h,O R b.length S],_] _ _
 generalize flW a g ⟨h,b⟩=aa at k⊢
 simp only
 by_cases v:0<=h/\h<=96
 ·rw[kE v]at k;obtain⟨r,x⟩:=v;have K:=fun W=>Zd (m:=h) (n:=97) r Wm W
  have p:=fun W=>zbM h W r x
  by_cases B:(b.length:Int)=jH h
  ·rw[kE B]at k;rw[<-B]at p;clear r x B;obtain⟨j,q⟩:=kA b.length;rw[q.out]at i p V⊢;obtain⟨am,y⟩:=kB (w.alloc (Xk #[I6 h,O R j S] 159));have H:=dD y;have F:=gA y
   clear y;have b1:=enters_of func165 Kr rfl
   have P:((j:Int) !=(j:Int))=Xd:=Sm
   go_enter func116,ntmps116
   go_wp2_with (go_at_call 27;refine(K _).mono ?_;rintro e w' ⟨rfl,rfl⟩)
   go_quiet (first | (go_at_call 149;exact Calls.quiet_of_same (p _)))
   rw[H.out];obtain⟨Y,l⟩:=kB (am.drewN nq);have a9:Xo (Box Y w.heap.size [I6 h,O R j S]):=dD<|by rw[<-l,<-H.out];exact(Box.aE w _ _ rfl).aA (show Below _ _ _ from bD (bR _ _) _)
   have a8:Xo (Out pg (pg+1) w Y):=dD<|by rw[<-l];exact(Out.aA F).trans (Out.aA (show Below _ _ _ from bD (bR _ _) _))
   have ae:Xo (Box Y E [I6 a]):=dD<|ak.out.out a8 (Hm G.out)
   have ag:Xo (Box Y pg (qL 80 g)):=dD<|by rw[<-l];exact(al.aA F).aA (show Below _ _ _ from bD (bR _ _) _)
   rw[l];clear l p K;obtain⟨au,av⟩:=a9.k2;go_wp2
   go_loopg [6,7,22] j (fun an _ _ a4 wr=>∃d:Nat,d<=j/\j - d<=an/\a4=I6 d/\Xo (Out pg (pg+1) w wr)/\Xo (Box wr pg (qL 80 (blG g (b.take d))))/\Xo (blW a (blG g (b.take d)) (b.drop d)=blW a g b)/\Xo (Box wr E [I6 a]))
   exact⟨0,nZ _,Wm,rfl,a8,ag,rfl,ae⟩
   obtain⟨d,ap,ao,rfl,X,a7,a0,a6⟩:=hrel;clear au av
   by_cases z:d<j
   ·have M:=kC z
    obtain⟨A,U⟩:∃A,Xo (b[d]? =Xa A):=⟨_,gE (Rx q.out z)⟩
    obtain⟨aw,ay,L,s⟩:=(V wr X).bB;rw[q.out]at L;cases L;obtain⟨ax,rfl,ac⟩:=s d A U.out;have b0:=ac wr (zc.refl _);have c:=zpO A a (blG g (b.take d)) E pg wr a6 a7 aq;have t:Xo (blW a (blG g (b.take d)) (b.drop d)=if JV a (blG g (b.take d)) A=0 then blW a (blG g (b.take (d+1))) (b.drop (d+1))else JV a (blG g (b.take d)) A):=dD<|by
     rw[jR U.out,ZB U.out,zkn];rfl
    rw[<-zkn,<-ZB U.out]at c;clear ac s
    generalize JV a (blG g (b.take d)) A=a5 at c t
    by_cases Q:a5=0
    ·have aj:Xo (blW a (blG g (b.take (d+1))) (b.drop (d+1))=blW a g b):=dD<|by rw[<-a0.out,t.out,kE Q]
     subst Q;go_wp2_with fail;refine c.mono ?_;rintro e Z ⟨rfl,I,D,a3⟩;have ah:Xo (Box Z pg (qL 80 (blG g (b.take (d+1))))):=I (by first | exact rfl | exact trivial)
     have a1:Xo (Out pg (pg+1) w Z):=X.trans (Out.grown D (fun g C=>by cases C;omega))
     have af:=dD<|a6.grown D G.out;clear I D a3 c;go_wp2
     go_roundg (j -(d+1));exact⟨d+1,Wm,Wm,Gn,a1,ah,aj,af⟩;omega
    have ar:(a5 != 0)=Xc:=Si Q
    have T:Xo (aa=a5):=dD<|by
     have v:=a0.out;rw[t.out,kF Q]at v;rw[k.out,<-v]
    go_wp2_with fail;refine c.mono ?_;rintro e Z ⟨rfl,I,D,a3⟩;have a1:Xo (Out pg (pg+1) w Z):=X.trans (Out.grown D (fun g C=>by cases C;omega))
    clear I D a3 c;go_wp2;go_ret;exact⟨Rr T.out,fun u=>absurd (T.symm.trans u) Q,a1⟩
   have M:=kD z
   have:d=j:=Wm
   subst this;have T:Xo (aa=0):=dD<|by
    rw[k.out,<-a0.out,Xu (by rw[q.out];exact nR _)]
    rfl
   have ai:Xo (Box wr pg (qL 80 (blG g b))):=dD<|by
    have:=a7.out;rw[Yt (by rw[q.out];exact nR _)]at this
    exact this
   go_wp2;go_ret;exact⟨Rr T.out,fun _=>ai.out,X⟩
  rw[kF B]at k;have P:((b.length:Int) != jH h)=Xc:=Si B
  clear B r x
  generalize jH h=az at*
  obtain⟨j,q⟩:=kA b.length;rw[q.out]at i P V⊢
  go_enter func116,ntmps116
  go_wp2_with (go_at_call 27;refine(K _).mono ?_;rintro e w' ⟨rfl,rfl⟩)
  go_quiet (first | (go_at_call 149;exact Calls.quiet_of_same (p _)))
  go_wp2;go_ret;exact⟨Rr k.out,fun u=>(by rw[k.out]at u;cases u),(Out.aA (za _ _)).trans (Out.aA (show Below _ _ _ from bD (bR _ _) _))⟩
 rw[kF v]at k;have K:=fun W=>zau (m:=h) (n:=97) Wm W
 clear v;obtain⟨j,q⟩:=kA b.length;rw[q.out]at i V⊢
 go_enter func116,ntmps116
 go_wp2_with (go_at_call 27;refine(K _).mono ?_;rintro e w' ⟨rfl,rfl⟩)
 go_ret;exact⟨Rr k.out,fun u=>(by rw[k.out]at u;cases u),Out.aA (za _ _)⟩
def zlt (g:List Int) (fs:List Fl):List Int:=fs.foldl (fun g f=>blG g f.bl) g
theorem zhB (g fs) (f:Fl):zlt g (fs++ [f])=blG (zlt g fs) f.bl:=by
 unfold zlt;rw[Og];rfl
theorem zeD {l:List Fl} {k:Nat} {q:Fl} (h:l[k]? =Xa q):l.take (k+1)=l.take k++ [q]:=by
 rw[Yp,h];rfl
theorem zaK (v fs) (a:Int) (w) (a7:z7 w v fs):
  Xp prog 61 #[Xi #[v,I6 a]] w fun e w'=>e= Xl (I6 (stW fs a))/\zc w w':=by
 obtain⟨am,an,rfl,D,j⟩:=a7.rows;have aj:=dD j;have h:Xo (stW fs a=if fs.length<=5/\0<=a/\a<=80 then zhA a [] fs else 4):=rfl;clear j a7
 generalize stW fs a=a3 at h⊢
 obtain⟨f,T⟩:=kA fs.length;rw[T.out]at D h⊢;obtain⟨U,d⟩:=kB (w.alloc (Xk #[O am f an,I6 a] 41));have l:=gA d
 have al:=xA d
 have z:=sA d
 have s:Xo (_=U):=d;clear d
 by_cases a5:f<=5
 ·have C:¬(5:Int)< (f:Int):=Wm
  have ap:decide ((5:Int)< (f:Int))=Xd:=decide_eq_false C
  by_cases x:0<=a/\a<=80
  ·rw[kE ⟨a5,x⟩]at h;have M:=fun W=>Zd (m:=a) (n:=81) x.1 Wm W
   have E:a<=80:=x.2;clear x
   go_enter func61,ntmps61
   go_wp2_with (go_at_call 27;refine(M _).mono ?_;rintro e w' ⟨rfl,rfl⟩)
   rw[s.out];refine(znC a U).mono ?_;rintro e ak ⟨rfl,k,g,X,a8⟩;obtain⟨i,G⟩:=kB U.heap.size;rw[G]at k g a8 z⊢;have p:Xo (i=w.heap.size+1):=z;have ab:Xo (Box ak i [I6 a]):=k;have af:=dD g;have R:=dD (l.trans X);have a2:=dD (al.aA X);clear G k g X a8 M;obtain⟨aw,ax⟩:=a2.k2;go_wp2
   go_loopg [5,6,23] f (fun ao _ _ Y wr=>∃c:Nat,c<=f/\f - c<=ao/\Y=I6 c/\Xo (zc w wr)/\Xo (Box wr i [I6 a])/\Xo (Box wr (i+1) (qL 80 (zlt [] (fs.take c))))/\Xo (zhA a (zlt [] (fs.take c)) (fs.drop c)=zhA a [] fs))
   exact⟨0,nZ _,Wm,rfl,R,ab,af,rfl⟩
   obtain⟨c,ar,aq,rfl,K,a0,ah,P⟩:=hrel;clear aw ax
   by_cases u:c<f
   ·have F:=kC u
    obtain⟨q,L⟩:∃q,Xo (fs[c]? =Xa q):=⟨_,gE (Rx T.out u)⟩
    obtain⟨ay,rfl,a9,aa,H,a6⟩:=aj.out c q L.out;obtain⟨az,b0⟩:=a6 wr K.out;obtain⟨a1,t⟩:=kB (wr.alloc (Xk #[I6 q.size,O a9 q.bl.length aa] 159));have y:=gA t
    have b:=zfl q a9 aa a (zlt [] (fs.take c)) i (i+1) a1 (a0.aA y) (ah.aA y) Wm E (H.stays (i+2) (Hm p.out) (K.trans y))
    have ac:=dD (a0.aA y);have I:=dD (K.trans y);have A:Xo (_=a1):=t;have r:Xo (zhA a (zlt [] (fs.take c)) (fs.drop c)=if flW a (zlt [] (fs.take c)) q=0 then zhA a (zlt [] (fs.take (c+1))) (fs.drop (c+1))else flW a (zlt [] (fs.take c)) q):=show _=_ by
     rw[jR L.out,zeD L.out,zhB];rfl
    rw[<-zhB,<-zeD L.out]at b;clear a6 t H
    generalize flW a (zlt [] (fs.take c)) q=Z at b r
    have au:=q.bl.length
    by_cases N:Z=0
    ·have ai:Xo (zhA a (zlt [] (fs.take (c+1))) (fs.drop (c+1))=zhA a [] fs):=dD<|by rw[<-P.out,r.out,kE N]
     subst N;go_wp2_with fail;rw[A.out];refine b.mono ?_;rintro e B ⟨rfl,k,g⟩;have ag:Xo (Box B (i+1) (qL 80 (zlt [] (fs.take (c+1))))):=k (by first | exact rfl | exact trivial)
     have Q:Xo (zc w B):=dD<|Out.bK I (Hm p.out) g
     have ae:Xo (Box B i [I6 a]):=ac.out.out g Wm
     clear k g b;go_wp2
     go_roundg (f -(c+1));exact⟨c+1,Wm,Wm,Gn,Q,ae,ag,ai⟩;omega
    have av:(Z != 0)=Xc:=Si N
    have S:Xo (a3=Z):=dD<|by
     have a4:=P.out;rw[r.out,kF N]at a4;rw[h.out,<-a4]
    go_wp2_with fail;rw[A.out];refine b.mono ?_;rintro e B ⟨rfl,k,g⟩;have Q:Xo (zc w B):=dD<|Out.bK I (Hm p.out) g
    clear k g b;go_wp2;go_ret;exact⟨Rr S.out,Q⟩
   have F:=kD u
   have:c=f:=Wm
   subst this;have S:Xo (a3=0):=dD<|by
    rw[h.out,<-P.out,Xu (by rw[T.out];exact nR _)]
    rfl
   go_wp2;go_ret;exact⟨Rr S.out,K⟩
  rw[kF (fun V=>x V.2)]at h
  have M:=fun W=>zau (m:=a) (n:=81) Wm W
  clear x
  go_enter func61,ntmps61
  go_wp2_with (go_at_call 27;refine(M _).mono ?_;rintro e w' ⟨rfl,rfl⟩)
  rw[s.out];go_ret;exact⟨Rr h.out,l⟩
 rw[kF (fun V=>a5 V.1)]at h
 have C:(5:Int)< (f:Int):=Wm
 go_enter func61,ntmps61
 go_wp2;rw[s.out];go_ret;exact⟨Rr h.out,l⟩
theorem ziF (f) (a:Ar) (n:Nat) (w) (b:0<=a.base/\a.base<=100) (c:0<=a.fr/\a.fr<=100) (d:n<=64):
  Xp prog 125 #[Xi (frv f).toArray,Xi #[I6 a.fr,I6 a.tz,Xh a.rd,Xh a.wr,Xh a.sh,I6 a.file,I6 a.base],I6 (n:Int)] w fun e w'=>e= Xl (Xh (Ql f a n))/\zc w w':=by
 have z:Xo (∀W,Xp prog 169 #[Xi #[I6 a.fr,I6 a.tz,Xh a.rd,Xh a.wr,Xh a.sh,I6 a.file,I6 a.base],I6 (n:Int)] W fun e w'=>e= Xl (I6 (a.base+n - a.fr))/\zc W w'):=dD<|fun W=>za2 a n W b c Wm
 clear b c d;obtain⟨⟨b,d,g,h,i,l,m,p⟩,r,u,q,j,y⟩:=f;obtain⟨fr,E,C,wr,D,file,base⟩:=a;unfold frv Ql;simp only
 by_cases v:j<0
 ·rw[kE v]
  go_enter func125,ntmps125
  go_wp2;go_ret;exact⟨rfl,(za _ _).trans (za _ _)⟩
 rw[kF v];obtain⟨k,c⟩:=kB ((w.alloc (Xk #[U8 b,U8 d,U8 g,U8 h,U8 i,U8 l,U8 m,U8 p,I6 r,Xh u,Xh q,I6 j,I6 y] 93)).alloc (Xk #[I6 fr,I6 E,Xh C,Xh wr,Xh D,I6 file,I6 base] 125));have h:=gD2 c
 have u:=x2a c
 have b:=x2b c
 have i:=dD c;clear c
 by_cases x:j=file
 ·have g:(j == file)=Xc:=by simp[x]
  rw[g,Ob];clear x;obtain⟨c,B⟩:=kA (y == base+(n:Int) - fr);rw[B.out]
  go_enter func125,ntmps125
  go_upto_region 3 with fail;rw[i.out];have c:=u.gw 11 rfl
  have d:=u.gw 12 rfl
  have l:=b.gw 0 rfl
  have m:=b.gw 1 rfl
  have p:=b.gw 2 rfl
  have q:=b.gw 3 rfl
  have r:=b.gw 4 rfl
  have s:=b.gw 5 rfl
  have t:=b.gw 6 rfl
  have A:Nonempty (zf k):=⟨⟨_,zc.refl _⟩⟩;refine qx [(10,⟨fun k=>k=I6 (base+(n:Int) - fr),fun k w'=>True⟩)] zW Kr (Sa ⟨_,rfl⟩) ?hp ?_
  case hp=>
   intro y k;simp only[mC,nM,or_false]at k;subst k;exact fun _ _ _ _ v=>v
  iterate 10 refine ze ?_
  refine zx rfl rfl (fun w' k v=>?_) (fun k y=>?_)
  ·refine zP.call [Xi #[I6 fr,I6 E,Xh C,Xh wr,Xh D,I6 file,I6 base],I6 (n:Int)] rfl func169 rfl rfl rfl ?_;refine(z w').mono ?_;rintro e k ⟨rfl,k⟩;exact⟨_,rfl,k,rfl,trivial⟩
  subst y;refine Uq ?_;iterate 3 refine ze ?_
  refine zL fun k k v=>?_
  have y:=dD (h.trans k);clear k v c d l m p q r s t A;go_wp2;go_ret;exact⟨by rw[<-B.out];rfl,y⟩
 have g:(j == file)=Xd:=by simp[x]
 rw[g,Yv];clear x
 go_enter func125,ntmps125
 go_upto_region 3 with fail;rw[i.out];have c:=u.c 11 rfl;have d:=u.c 12 rfl;have l:=b.c 0 rfl;have m:=b.c 1 rfl;have p:=b.c 2 rfl;have q:=b.c 3 rfl;have r:=b.c 4 rfl;have s:=b.c 5 rfl;have t:=b.c 6 rfl;go_quiet (fail);go_wp2;go_ret;exact⟨rfl,h.trans (show Below _ _ _ from bD (bR _ _) _)⟩
def zoO (fl:List Fl) (file idx:Int):Bool:=bel file fl.length && bel idx ((fl.getD file.toNat ⟨0,[]⟩).bl.length:Nat)
theorem za3 (v fl) (b file idx:Int) (w) (d:z7 w v fl):
  Xp prog 119 #[Xi #[v,I6 b],I6 file,I6 idx] w fun e w'=>e= Xl (Xh (zoO fl file idx))/\zc w w':=by
 obtain⟨a,i,rfl,c,a⟩:=d.rows;have g:=dD a;clear a d;obtain⟨n,d⟩:=kA fl.length;unfold zoO;rw[d.out]at c⊢;have a:=QR file n
 cases h:bel file n with
 | false=>
  rw[h]at a;rw[Yv]
  go_enter func119,ntmps119
  go_wp2_with (go_at_call 120;refine(a _).mono ?_;rintro e w' ⟨rfl,rfl⟩)
  go_ret;exact⟨rfl,za _ _⟩
 | true=>
  rw[h]at a;rw[Ob];obtain⟨c,c⟩:=Zu.1 h;obtain⟨k,rfl⟩:∃k:Nat,file=(k:Int):=⟨file.toNat,Wm⟩
  obtain⟨f,c⟩:∃f,Xo (fl[k]? =Xa f):=⟨_,gE (by rw[d.out];omega)⟩
  have d:(fl.getD ((k:Nat):Int).toNat ⟨0,[]⟩)=f:=by rw[tN,gD,c.out];rfl
  rw[d];clear d;obtain⟨h,rfl,d,d,_,d⟩:=g.out k f c.out;obtain⟨c,c⟩:=d (w.alloc (Xk #[O (Xa h) n i,I6 b] 41)) (za _ _);obtain⟨q,b⟩:=kA f.bl.length;rw[b.out]at c⊢;have b:=QR idx q;clear d
  go_enter func119,ntmps119
  go_wp2_with (go_at_call 120;first | (refine(a _).mono ?_;clear a;rintro e w' ⟨rfl,rfl⟩) | (refine(b _).mono ?_;rintro e w' ⟨rfl,rfl⟩))
  go_ret;exact⟨rfl,za _ _⟩
theorem zqi (m:Ma) (c:Ca):caE m Xb c=if zoO m.fl c.file c.idx=Xd\/bel c.fr m.fs.length=Xd then 3 else if(zQ m c.fr).r=0\/(zQ m c.fr).f≠c.file\/(zQ m c.fr).x≠c.idx then 7 else 0:=by grind [caE,zoO,bel,Int.lt_or_le,zos,bkN,Bool.and_eq_false_iff]
theorem zc4 (V m) (c:Ca) (w) (G:zw w V m):
  Xp prog 64 #[Xi (mL V m).toArray,Xi #[I6 c.file,I6 c.idx,I6 c.fr]] w fun e w'=>e= Xl (I6 (caE m Xb c))/\zc w w':=by
 obtain⟨Y,-⟩:=G.ns;rw[zqi,<-Y];have L:=dD<|fun W (aw:zc w W)=>za3 _ m.fl m.cnt c.file c.idx W (G.aA aw).fl
 have f:=dD<|fun W=>QR c.fr V.f.n W
 have aa:=dD Y.symm;have ac:=dD G.bF;clear G Y;obtain⟨a2,d⟩:=kB ((w.alloc (Xk (mL V m).toArray 45)).alloc (Xk #[I6 c.file,I6 c.idx,I6 c.fr] 105));have g:=gD2 d
 have E:=x2a d
 have v:=x2b d
 have M:Xo (a2.heap.size=w.heap.size+1+1):=dD<|by rw[<-d];simp
 have n:=dD d;clear d;have b:=L.out a2 g.out;have I:=E.c 7 rfl;have a0:=E.c 8 rfl;obtain⟨C,D⟩:=v.k2
 cases a8:zoO m.fl c.file c.idx with
 | false=>
  rw[a8]at b;rw[kE (.inl rfl)]
  go_enter func64,ntmps64
  go_upto_region 1 with fail;rw[n.out]
  go_wp2_with (go_at_call 119;refine b.mono ?_;clear I a0 C D;rintro e s ⟨rfl,a⟩)
  go_ret;exact⟨rfl,g.trans a⟩
 | true=>
  rw[a8]at b
  cases F:bel c.fr V.f.n with
  | false=>
   rw[F]at f;rw[kE (.inr rfl)]
   go_enter func64,ntmps64
   go_upto_region 1 with fail;rw[n.out];go_wp2_with fail;refine b.mono ?_;clear I a0 C D;rintro e s ⟨rfl,a⟩;have i:=dD (g.trans a);have H:=(E.aA a).c 0 rfl;have a9:=(v.aA a).c 2 rfl;clear a
   go_wp2_with (go_at_call 120;refine(f _).mono ?_;rintro e w' ⟨rfl,rfl⟩)
   go_ret;exact⟨rfl,i⟩
  | true=>
   rw[F]at f;rw[kF Sm]
   obtain⟨au,av⟩:=Zu.1 F;clear F;obtain⟨x,y,a6⟩:=c;simp only at au av f b g v C D⊢;obtain⟨r,rfl⟩:∃r:Nat,a6=(r:Int):=⟨a6.toNat,Wm⟩
   have X:r<V.f.n:=Wm
   obtain⟨q,a1⟩:∃q,Xo (m.fs[r]? =Xa q):=⟨_,gE (Rx aa.out X)⟩
   have z:zQ m (r:Int)=q:=by unfold zQ;rw[tN,gD,a1.out];rfl
   rw[z];clear z;obtain⟨ax,A,a7⟩:=ac.out r q a1.out;have ab:=dD a7;have N:=dD A;clear a7 A;obtain⟨Z,u⟩:=kA (if q.r=0\/q.f≠x\/q.x≠y then(7:Int)else 0);rw[u.out]
   go_enter func64,ntmps64
   go_upto_region 1 with fail;rw[n.out];go_wp2_with fail;refine b.mono ?_;clear I a0 C D;rintro e s ⟨rfl,a⟩;have i:=dD (g.trans a);have af:=dD (E.aA a);have a4:=dD (v.aA a);have ae:Xo (w.heap.size+1+1<=s.heap.size):=show _<=_ by rw[<-M.out];exact bS a
   clear a;have H:=af.c 0 rfl;have a9:=a4.c 2 rfl
   go_upto_region 3 with(go_at_call 120;refine(f _).mono ?_;rintro e w' ⟨rfl,B⟩;rw[B];clear B w')
   (try simp only[Sli.x]at H);rw[N.out]at H;obtain⟨ag,ah,ai,aj,ak,al,am,an,ao,ap,P,Q,R⟩:=ab.out s i.out;go_upto_region 4 with fail;obtain⟨a3,h⟩:=kB (s.alloc (Xk #[U8 q.p.b0,U8 q.p.b1,U8 q.p.b2,U8 q.p.b3,U8 q.p.b4,U8 q.p.b5,U8 q.p.b6,U8 q.p.b7,I6 q.r,Xh q.u,Xh q.d,I6 q.f,I6 q.x] 93));have j:=gT h i
   have K:Box a3 s.heap.size [U8 q.p.b0,U8 q.p.b1,U8 q.p.b2,U8 q.p.b3,U8 q.p.b4,U8 q.p.b5,U8 q.p.b6,U8 q.p.b7,I6 q.r,Xh q.u,Xh q.d,I6 q.f,I6 q.x]:=by rw[<-h];exact Box.aE _ _ _ rfl
   have a5:Box a3 (w.heap.size+1) [I6 x,I6 y,I6 (r:Int)]:=by rw[<-h];exact a4.alloc _
   rw[h];clear h H a9 ag ah ai aj ak al am an ao ap P Q R;have ay:=K.c 8 rfl;have aq:=K.c 11 rfl;have ar:=K.c 12 rfl;obtain⟨C,D⟩:=a5.k2
   by_cases k:q.r=0
   ·have S:(q.r == 0)=Xc:=by simp[k]
    have l:Xo (Z=7):=dD<|by rw[<-u.out,kE (.inl k)]
    clear k;go_wp2;go_ret;exact⟨Rr l.out,j⟩
   have S:(q.r == 0)=Xd:=by simp[k]
   by_cases p:q.f=x
   ·have T:(q.f != x)=Xd:=by simp[p]
    by_cases t:q.x=y
    ·have U:(q.x != y)=Xd:=by simp[t]
     have l:Xo (Z=0):=dD<|by rw[<-u.out,kF (by simp[k,p,t])]
     clear k p t;go_wp2;go_ret;exact⟨Rr l.out,j⟩
    have U:(q.x != y)=Xc:=by simp[t]
    have l:Xo (Z=7):=dD<|by rw[<-u.out,kE (.inr (.inr t))]
    clear k p t;go_wp2;go_ret;exact⟨Rr l.out,j⟩
   have T:(q.f != x)=Xc:=by simp[p]
   have l:Xo (Z=7):=dD<|by rw[<-u.out,kE (.inr (.inl p))]
   clear k p;go_wp2;go_ret;exact⟨Rr l.out,j⟩
theorem zfj (V:MaV) (m:Ma) (w) (b:zw w V m) (c:∀W,zc w W->Xp prog 58 #[Xi #[V.f.x,I6 m.aB]] W fun e w'=>e= Xl (I6 (Zi m.fs m.aB))/\zc W w'):
  Xp prog 28 #[Xi (mL V m).toArray] w fun e w'=>e= Xl (I6 (zC (QW m)))/\zc w w':=by
 obtain⟨p,d,g,q,n,r,s,-⟩:=b.ns;have f:=dD c
 have i:Xo (∀W,zc w W->Xp prog 59 #[V.s.x] W fun e w'=>e= Xl (I6 (slW m.sl))/\zc W w'):=dD<|fun W a=>by
  have h:=(b.aA a).sl;(try simp only[Sli.x]at h⊢);rw[d]at h⊢;exact zbT _ _ m.sl W h
 have j:Xo (∀W,zc w W->Xp prog 60 #[Xi #[V.sb.x,V.sq.x]] W fun e w'=>e= Xl (I6 (zB m.sb.length m.sq))/\zc W w'):=dD<|fun W a=>by
  have h:=(b.aA a).sq;rw[<-g];exact zbb _ _ _ _ m.sq W h
 have k:Xo (∀W,zc w W->Xp prog 60 #[Xi #[V.db.x,V.dq.x]] W fun e w'=>e= Xl (I6 (zB m.db.length m.dq))/\zc W w'):=dD<|fun W a=>by
  have h:=(b.aA a).dq;rw[<-n];exact zbb _ _ _ _ m.dq W h
 have l:=dD<|fun W (a:zc w W)=>zaK _ m.fl m.cnt W (b.aA a).fl
 clear p d g q n r s b c;obtain⟨g,c⟩:=kB (w.alloc (Xk (mL V m).toArray 45));have b:=gA c
 have a:=xA c
 have d:=dD c;clear c;unfold QW
 go_enter func28,ntmps28
 go_upto_region 1 with fail;rw[d.out];have p:=a.gw 0 rfl
 have q:=a.gw 1 rfl
 have r:=a.gw 2 rfl
 have s:=a.gw 3 rfl
 have t:=a.gw 4 rfl
 have u:=a.gw 5 rfl
 have y:=a.gw 6 rfl
 have z:=a.gw 7 rfl
 have A:=a.gw 8 rfl
 have n:Nonempty (zf g):=⟨⟨_,zc.refl _⟩⟩;refine qx [(2,⟨fun a=>a=I6 (Zi m.fs m.aB),fun a w'=>True⟩),(5,⟨fun a=>a=I6 (slW m.sl),fun a w'=>True⟩),(8,⟨fun a=>a=I6 (zB m.sb.length m.sq),fun a w'=>True⟩),(11,⟨fun a=>a=I6 (zB m.db.length m.dq),fun a w'=>True⟩),(14,⟨fun a=>a=I6 (stW m.fl m.cnt),fun a w'=>True⟩),(15,⟨fun a=>∃g,a= O (Xa ⟨g,0,Xb⟩) 5 5,fun a w'=>zj zl7 w' a [Zi m.fs m.aB,slW m.sl,zB m.sb.length m.sq,zB m.db.length m.dq,stW m.fl m.cnt]⟩),(16,⟨fun a=>a=I6 (zC [Zi m.fs m.aB,slW m.sl,zB m.sb.length m.sq,zB m.db.length m.dq,stW m.fl m.cnt]),fun a w'=>True⟩)] zW Kr ?hS ?hp ?_
 case hS=>
  intro x a;simp only[mC,nM,or_false]at a
  rcases a with rfl|rfl|rfl|rfl|rfl|rfl|rfl
  ·exact⟨_,rfl⟩
  ·exact⟨_,rfl⟩
  ·exact⟨_,rfl⟩
  ·exact⟨_,rfl⟩
  ·exact⟨_,rfl⟩
  ·exact⟨_,0,rfl⟩
  exact⟨_,rfl⟩
 case hp=>
  intro x a;simp only[mC,nM,or_false]at a
  rcases a with rfl|rfl|rfl|rfl|rfl|rfl|rfl
  ·exact fun _ _ _ _ h=>h
  ·exact fun _ _ _ _ h=>h
  ·exact fun _ _ _ _ h=>h
  ·exact fun _ _ _ _ h=>h
  ·exact fun _ _ _ _ h=>h
  ·exact fun _ _ _ c h=>zj.aA h c
  exact fun _ _ _ _ h=>h
 iterate 2 refine ze ?_
 refine zx rfl rfl (fun w' c g=>?_) (fun h d=>?_)
 ·refine zP.call [Xi #[V.f.x,I6 m.aB]] rfl func58 rfl rfl rfl ?_;refine(f w' (b.trans c)).mono ?_;rintro e f ⟨rfl,a⟩;exact⟨_,rfl,a,rfl,trivial⟩
 subst d;refine Uq ?_;iterate 2 refine ze ?_
 refine zx rfl rfl (fun w' c g=>?_) (fun h d=>?_)
 ·refine zP.call [V.s.x] rfl func59 rfl rfl rfl ?_;refine(i w' (b.trans c)).mono ?_;rintro e f ⟨rfl,a⟩;exact⟨_,rfl,a,rfl,trivial⟩
 subst d;refine Uq ?_;iterate 2 refine ze ?_
 refine zx rfl rfl (fun w' c g=>?_) (fun h d=>?_)
 ·refine zP.call [Xi #[V.sb.x,V.sq.x]] rfl func60 rfl rfl rfl ?_;refine(j w' (b.trans c)).mono ?_;rintro e f ⟨rfl,a⟩;exact⟨_,rfl,a,rfl,trivial⟩
 subst d;refine Uq ?_;iterate 2 refine ze ?_
 refine zx rfl rfl (fun w' c g=>?_) (fun h d=>?_)
 ·refine zP.call [Xi #[V.db.x,V.dq.x]] rfl func60 rfl rfl rfl ?_;refine(k w' (b.trans c)).mono ?_;rintro e f ⟨rfl,a⟩;exact⟨_,rfl,a,rfl,trivial⟩
 subst d;refine Uq ?_;iterate 2 refine ze ?_
 refine zx rfl rfl (fun w' c g=>?_) (fun h d=>?_)
 ·refine zP.call [Xi #[V.fl.x,I6 m.cnt]] rfl func61 rfl rfl rfl ?_;refine(l w' (b.trans c)).mono ?_;rintro e f ⟨rfl,a⟩;exact⟨_,rfl,a,rfl,trivial⟩
 subst d;refine Uq ?_;refine zx rfl rfl (fun w' c g=>?_) (fun h d=>?_)
 ·have a:zj zl7 (w'.alloc (Xk #[I6 (Zi m.fs m.aB),I6 (slW m.sl),I6 (zB m.sb.length m.sq),I6 (zB m.db.length m.dq),I6 (stW m.fl m.cnt)] 47)) (O (Xa ⟨w'.heap.size,0,Xb⟩) 5 5) [Zi m.fs m.aB,slW m.sl,zB m.sb.length m.sq,zB m.db.length m.dq,stW m.fl m.cnt]:=zfx zl7 w' [Zi m.fs m.aB,slW m.sl,zB m.sb.length m.sq,zB m.db.length m.dq,stW m.fl m.cnt] _ rfl (show 5*8<=140737488355328 by decide)
  refine zP.step (v:= O (Xa ⟨w'.heap.size,0,Xb⟩) 5 5) (w':=w'.alloc (Xk #[I6 (Zi m.fs m.aB),I6 (slW m.sl),I6 (zB m.sb.length m.sq),I6 (zB m.db.length m.dq),I6 (stW m.fl m.cnt)] 47)) (by simp only[execOp];go_simp) ⟨za _ _,⟨_,rfl⟩,a⟩
 obtain⟨a,rfl⟩:=d;refine Uq ?_;refine zx rfl rfl (fun w' c g=>?_) (fun h d=>?_)
 ·have c:zj zl7 w' (O (Xa ⟨a,0,Xb⟩) 5 5) [Zi m.fs m.aB,slW m.sl,zB m.sb.length m.sq,zB m.db.length m.dq,stW m.fl m.cnt]:=g 15 Kr
  refine zP.call [O (Xa ⟨a,0,Xb⟩) 5 5] rfl func19 rfl rfl rfl ?_;refine(zdn _ _ w' c).mono ?_;rintro e f ⟨rfl,rfl⟩;exact⟨_,rfl,zc.refl _,rfl,trivial⟩
 subst d;refine Uq ?_;refine ze ?_
 refine zL fun a a g=>?_
 have c:=dD (b.trans a);clear a g p q r s t u y z A n;go_wp2;go_ret;exact⟨rfl,c⟩
theorem zbd (a:Ar) (w):Xp prog 129 #[Xi #[I6 a.fr,I6 a.tz,Xh a.rd,Xh a.wr,Xh a.sh,I6 a.file,I6 a.base]] w fun e w'=>e= Xl (I6 (arW a))/\zc w w':=by
 obtain⟨fr,c,d,wr,f,file,base⟩:=a
 by_cases b:fr<0
 ·have b:arW ⟨fr,c,d,wr,f,file,base⟩=3:=by unfold arW;simp only;rw[kE Wm]
  rw[b]
  go_enter func129,ntmps129
  go_wp2;go_ret;exact⟨rfl,za _ _⟩
 by_cases g:c<=fr
 ·have b:arW ⟨fr,c,d,wr,f,file,base⟩=3:=by unfold arW;simp only;rw[kE Wm]
  rw[b]
  go_enter func129,ntmps129
  go_wp2;go_ret;exact⟨rfl,za _ _⟩
 by_cases g:64<c
 ·have b:arW ⟨fr,c,d,wr,f,file,base⟩=3:=by unfold arW;simp only;rw[kE Wm]
  rw[b]
  go_enter func129,ntmps129
  go_wp2;go_ret;exact⟨rfl,za _ _⟩
 by_cases g:file< -1
 ·have b:arW ⟨fr,c,d,wr,f,file,base⟩=3:=by unfold arW;simp only;rw[kE Wm]
  rw[b]
  go_enter func129,ntmps129
  go_wp2;go_ret;exact⟨rfl,za _ _⟩
 by_cases g:5<=file
 ·have b:arW ⟨fr,c,d,wr,f,file,base⟩=3:=by unfold arW;simp only;rw[kE Wm]
  rw[b]
  go_enter func129,ntmps129
  go_wp2;go_ret;exact⟨rfl,za _ _⟩
 by_cases g:base<0
 ·have b:arW ⟨fr,c,d,wr,f,file,base⟩=3:=by unfold arW;simp only;rw[kE Wm]
  rw[b]
  go_enter func129,ntmps129
  go_wp2;go_ret;exact⟨rfl,za _ _⟩
 have k:¬(fr<0\/c<=fr\/64<c\/file< -1\/5<=file\/base<0):=Wm
 by_cases h:file<0
 ·by_cases g:base=0
  ·cases f
   ·have b:arW ⟨fr,c,d,wr,Xd,file,base⟩=0:=by unfold arW;simp only;rw[kF k,kE h,kF (by simp[g])]
    rw[b];have i:(base != 0)=Xd:=by simp[g]
    have j:¬0<base:=Wm
    go_enter func129,ntmps129
    go_wp2;go_ret;exact⟨rfl,za _ _⟩
   have b:arW ⟨fr,c,d,wr,Xc,file,base⟩=7:=by unfold arW;simp only;rw[kF k,kE h,kE Sm]
   rw[b];have i:(base != 0)=Xd:=by simp[g]
   have j:¬0<base:=Wm
   go_enter func129,ntmps129
   go_wp2;go_ret;exact⟨rfl,za _ _⟩
  have b:arW ⟨fr,c,d,wr,f,file,base⟩=7:=by unfold arW;simp only;rw[kF k,kE h,kE (by simp[g])]
  rw[b];have i:(base != 0)=Xc:=by simp[g]
  have j:0<base:=Wm
  go_enter func129,ntmps129
  go_wp2;go_ret;exact⟨rfl,za _ _⟩
 by_cases g:12 -(c - fr)<base
 ·have b:arW ⟨fr,c,d,wr,f,file,base⟩=7:=by unfold arW;simp only;rw[kF k,kF h,kE g]
  rw[b]
  go_enter func129,ntmps129
  go_wp2;go_ret;exact⟨rfl,za _ _⟩
 have b:arW ⟨fr,c,d,wr,f,file,base⟩=0:=by unfold arW;simp only;rw[kF k,kF h,kF g]
 rw[b]
 go_enter func129,ntmps129
 go_wp2;go_ret;exact⟨rfl,za _ _⟩
def jM (a:Ar) (n:Int):Ar:={ a with fr:=n,base:=if 0<=a.file then a.base+(n - a.fr)else a.base }
theorem zfh (a:Ar) (n:Int) (w) (d:jV a) (p:0<=n/\n<=64):Xp prog 172 #[Xi #[I6 a.fr,I6 a.tz,Xh a.rd,Xh a.wr,Xh a.sh,I6 a.file,I6 a.base],I6 n] w fun e w'=>e= Xl (arA (jM a n))/\zc w w':=by
 have b:=dD d;unfold jV at d;obtain⟨h,i,j,k,l,m,b,c⟩:=d;obtain⟨fr,g,d,wr,f,file,base⟩:=a;simp only at h i j k l m b c⊢;have h:base<=12:=by
  by_cases h:0<=file
  ·have:=c h;omega
  have:=b Wm;omega
 clear b c;obtain⟨b,b⟩:=p;obtain⟨A,b⟩:=kB ((w.alloc (Xk #[I6 fr,I6 g,Xh d,Xh wr,Xh f,I6 file,I6 base] 125)).alloc (Xk #[I6 0,I6 0,Xh Xd,Xh Xd,Xh Xd,I6 0,I6 0] 125));have j:=gD2 b
 have c:=x2a b
 have B:=x2b b
 have k:=dD b;clear b
 by_cases C:0<=file
 ·have r:Xo (jM ⟨fr,g,d,wr,f,file,base⟩ n=⟨n,g,d,wr,f,file,base+(n - fr)⟩):=dD<|by unfold jM;simp only;rw[kE C]
  go_enter func172,ntmps172
  go_upto_region 1 with fail;rw[k.out];have x:=c.c 0 rfl;have y:=c.c 5 rfl;have l:=c.c 6 rfl;have z:=c.f;go_upto_region 4 with fail;obtain⟨i,b⟩:=kB ((A.setCell ⟨w.heap.size,6,Xb⟩ (I6 (base+(n - fr)))).setCell ⟨w.heap.size,0,Xb⟩ (I6 n));have t:Xo (Box i w.heap.size [I6 n,I6 g,Xh d,Xh wr,Xh f,I6 file,I6 (base+(n - fr))]):=dD<|by rw[<-b];exact(c.set 6 _).set 0 _
  have u:Xo (Box i (w.heap.size+1) [I6 0,I6 0,Xh Xd,Xh Xd,Xh Xd,I6 0,I6 0]):=dD<|by rw[<-b];exact(B.other Sm _).other Sm _
  have h:Xo (zc w i):=dD<|by rw[<-b];exact zK (zK j Sm _) Sm _
  rw[b];clear b x y l z
  go_wp2_with (first | refine zp rfl 125 (.tmp 2) rfl w.heap.size rfl t underlying125 rfl zty ?_ | refine zz rfl 125 (.tmp 4) (.tmp 18) rfl (w.heap.size+1) rfl _ rfl u rfl zty (arE.one ⟨n,g,d,wr,f,file,base+(n - fr)⟩) ?_)
  intro s l m v;have q:Xo (zc w s):=zd h m Sm
  have p:=dD l;clear l m v;go_wp2;refine bodyPost_ret (zE rfl _ rfl p underlying125 rfl zty) rfl ⟨Rr r.out,q⟩
 have r:Xo (jM ⟨fr,g,d,wr,f,file,base⟩ n=⟨n,g,d,wr,f,file,base⟩):=dD<|by unfold jM;simp only;rw[kF C]
 go_enter func172,ntmps172
 go_upto_region 1 with fail;rw[k.out];have x:=c.c 0 rfl;have y:=c.c 5 rfl;have z:=c.f;go_upto_region 4 with fail;obtain⟨i,b⟩:=kB (A.setCell ⟨w.heap.size,0,Xb⟩ (I6 n));have t:Xo (Box i w.heap.size [I6 n,I6 g,Xh d,Xh wr,Xh f,I6 file,I6 base]):=dD<|by rw[<-b];exact c.set 0 _
 have u:Xo (Box i (w.heap.size+1) [I6 0,I6 0,Xh Xd,Xh Xd,Xh Xd,I6 0,I6 0]):=dD<|by rw[<-b];exact B.other Sm _
 have h:Xo (zc w i):=dD<|by rw[<-b];exact zK j Sm _
 rw[b];clear b x y z
 go_wp2_with (first | refine zp rfl 125 (.tmp 2) rfl w.heap.size rfl t underlying125 rfl zty ?_ | refine zz rfl 125 (.tmp 4) (.tmp 18) rfl (w.heap.size+1) rfl _ rfl u rfl zty (arE.one ⟨n,g,d,wr,f,file,base⟩) ?_)
 intro s l m v;have q:Xo (zc w s):=zd h m Sm
 have p:=dD l;clear l m v;go_wp2;refine bodyPost_ret (zE rfl _ rfl p underlying125 rfl zty) rfl ⟨Rr r.out,q⟩
def zqq (a b:Ar):Bool:=(a.fr == b.fr) &&(a.tz == b.tz) &&(a.rd == b.rd) &&(a.wr == b.wr) &&(a.sh == b.sh) &&(a.file == b.file) &&(a.base == b.base)
theorem zs5 (x0 y0:Int) (x1 y1:Int) (x2 y2:Bool) (x3 y3:Bool) (x4 y4:Bool) (x5 y5:Int) (x6 y6:Int) (w):(Op.equalIn 10000 125 (Xi #[I6 x0,I6 x1,Xh x2,Xh x3,Xh x4,I6 x5,I6 x6]) (Xi #[I6 y0,I6 y1,Xh y2,Xh y3,Xh y4,I6 y5,I6 y6])).run prog w= .ok (zqq ⟨x0,x1,x2,x3,x4,x5,x6⟩ ⟨y0,y1,y2,y3,y4,y5,y6⟩) w:=by
 have hf : (Tryz.prog.fieldsOf 125).toList.map (fun f => (f.name, f.type, f.offset)) = [("From", 3, 0), ("To", 3, 1), ("Read", 4, 2), ("Write", 4, 3), ("Shared", 4, 4), ("File", 3, 5), ("Base", 3, 6)] := by kernel_rfl
 rw[run_equalIn_struct w 9999 125 _ _ Kr Kr]
 obtain⟨f0,f1,f2,f3,f4,f5,f6,hfs⟩:∃f0 f1 f2 f3 f4 f5 f6,(Tryz.prog.fieldsOf 125).toList=[f0,f1,f2,f3,f4,f5,f6]:=by
  have hl:(Tryz.prog.fieldsOf 125).toList.length=7:=by have:=congrArg List.length hf;simpa using this
  match hq:(Tryz.prog.fieldsOf 125).toList,hl with
  | [f0,f1,f2,f3,f4,f5,f6],_=>exact⟨f0,f1,f2,f3,f4,f5,f6,rfl⟩
 rw[hfs]at hf⊢
 simp at hf
 obtain⟨⟨n0,t0,o0⟩,⟨n1,t1,o1⟩,⟨n2,t2,o2⟩,⟨n3,t3,o3⟩,⟨n4,t4,o4⟩,⟨n5,t5,o5⟩,⟨n6,t6,o6⟩⟩:=hf;have pI:=zdm w;have pB:=zeM w;simp only[Op.eqFields,n0,t0,o0,n1,t1,o1,n2,t2,o2,n3,t3,o3,n4,t4,o4,n5,t5,o5,n6,t6,o6]
 simp[pI,pB,run_equalIn_bool' w _ _ _ _ underlying4,run_equalIn_int w _ _ _ _ _ _ underlying3]
 unfold zqq;simp only
 by_cases e0:x0=y0
 case neg=>simp[e0]
 subst e0
 by_cases e1:x1=y1
 case neg=>simp[e1]
 subst e1
 by_cases e2:x2=y2
 case neg=>simp[e2]
 subst e2
 by_cases e3:x3=y3
 case neg=>simp[e3]
 subst e3
 by_cases e4:x4=y4
 case neg=>simp[e4]
 subst e4
 by_cases e5:x5=y5
 case neg=>simp[e5]
 subst e5
 by_cases e6:x6=y6
 case neg=>simp[e6]
 subst e6;simp
theorem zq8 {a:Ar} (b:jV a) (n:Nat):(⟨n,(n:Int)+1,a.rd,a.wr,a.sh,a.file,(jM a n).base⟩:Ar)=Jq n (qp a n):=by
 unfold Jq;rw[kE (zjQ a n)];unfold qp jM;simp only[Ar.mk.injEq,true_and]
 split
 ·rfl
 exact(b.2.2.2.2.2.2.1 Wm).1
theorem zrx {a b:Ar}:zqq a ⟨b.tz,a.tz,b.rd,b.wr,b.sh,b.file,(jM b b.tz).base⟩=goB a b:=by
 unfold zqq goB jM
 grind
theorem zcE (a:Ar) (n:Int):arA (jM a n)= Xi #[I6 n,I6 a.tz,Xh a.rd,Xh a.wr,Xh a.sh,I6 a.file,I6 (jM a n).base]:=rfl
theorem zjO (a:Ar) (n:Nat) (w:Xn) (m:jV a) (P:n<64):Xp prog 132 #[Xi #[I6 a.fr,I6 a.tz,Xh a.rd,Xh a.wr,Xh a.sh,I6 a.file,I6 a.base],I6 (n:Int)] w fun e w'=>e= Xl (arA (Jq n (qp a n)))/\zc w w':=by
 have f:∀W,Xp prog 172 #[Xi #[I6 a.fr,I6 a.tz,Xh a.rd,Xh a.wr,Xh a.sh,I6 a.file,I6 a.base],I6 (n:Int)] W fun e w'=>e= Xl (arA (jM a n))/\zc W w':=fun W=>zfh a n W m Wm
 rw[<-zq8 m n];rw[zcE]at f
 generalize(jM a n).base=nb at f⊢
 clear m;obtain⟨C,b⟩:=kB ((w.alloc (Xk #[I6 a.fr,I6 a.tz,Xh a.rd,Xh a.wr,Xh a.sh,I6 a.file,I6 a.base] 125)).alloc (Xk #[I6 0,I6 0,Xh Xd,Xh Xd,Xh Xd,I6 0,I6 0] 125));have g:=gD2 b
 have E:=x2a b
 have F:=x2b b
 have i:Xo (_=C):=b;clear b
 go_enter func132,ntmps132
 go_upto_region 1 with fail;rw[i.out]
 go_wp2_with (refine zp rfl 125 (.tmp 2) rfl w.heap.size rfl E underlying125 rfl zty ?_)
 refine(f _).mono ?_;rintro e r ⟨rfl,l⟩;have y:=dD (g.trans l);have t:=dD (F.aA l);clear l f;obtain⟨p,h⟩:=kA r.heap.size;have q:Xo (w.heap.size+1<p):=show _<_ by rw[<-h.out];exact t.lt
 go_upto_region 2 with fail;obtain⟨D,c⟩:=kB (r.alloc (Xk #[I6 (n:Int),I6 a.tz,Xh a.rd,Xh a.wr,Xh a.sh,I6 a.file,I6 nb] 125));have z:=gT c y
 have G:=yA c t
 have k:=xP c h
 rw[c,h.out];clear c;have M:=k.c 1 rfl;have N:=k.f;go_upto_region 3 with fail;obtain⟨j,d⟩:=kB (D.setCell ⟨p,1,Xb⟩ (I6 ((n:Int)+1)));have A:Xo (zc w j):=dD<|by rw[<-d];exact zK z (by have:=q.out;simp;omega) _
 have H:Xo (Box j (w.heap.size+1) [I6 0,I6 0,Xh Xd,Xh Xd,Xh Xd,I6 0,I6 0]):=dD<|by rw[<-d];exact G.other (by have:=q.out;simp;omega) _
 have K:Xo (Box j p [I6 (n:Int),I6 ((n:Int)+1),Xh a.rd,Xh a.wr,Xh a.sh,I6 a.file,I6 nb]):=dD<|by rw[<-d];exact k.set 1 _
 rw[d];clear d M N
 go_wp2_with (first | refine zp rfl 125 (.tmp 5) rfl p rfl K underlying125 rfl zty ?_ | refine zz rfl 125 (.tmp 4) (.tmp 12) rfl (w.heap.size+1) rfl _ rfl H rfl zty (arE.one ⟨n,(n:Int)+1,a.rd,a.wr,a.sh,a.file,nb⟩) ?_)
 intro s u v L;have B:Xo (zc w s):=zd A v Sm
 have x:Xo (Box s (w.heap.size+1) [I6 (n:Int),I6 ((n:Int)+1),Xh a.rd,Xh a.wr,Xh a.sh,I6 a.file,I6 nb]):=u;clear u v L;go_wp2;refine bodyPost_ret (zE rfl _ rfl x underlying125 rfl zty) rfl ⟨rfl,B⟩
theorem ze0 (a b:Ar) (w) (c:jV b):Xp prog 166 #[Xi #[I6 a.fr,I6 a.tz,Xh a.rd,Xh a.wr,Xh a.sh,I6 a.file,I6 a.base],Xi #[I6 b.fr,I6 b.tz,Xh b.rd,Xh b.wr,Xh b.sh,I6 b.file,I6 b.base]] w fun e w'=>e= Xl (Xh (goB a b))/\zc w w':=by
 have d:∀W,Xp prog 172 #[Xi #[I6 b.fr,I6 b.tz,Xh b.rd,Xh b.wr,Xh b.sh,I6 b.file,I6 b.base],I6 b.tz] W fun e w'=>e= Xl (arA (jM b b.tz))/\zc W w':=fun W=>zfh b b.tz W c (by have:=c;unfold jV at this;omega)
 have f:=fun W=>zs5 a.fr b.tz a.tz a.tz a.rd b.rd a.wr b.wr a.sh b.sh a.file b.file a.base (jM b b.tz).base W
 have g:=zrx (a:=a) (b:=b);rw[show(⟨a.fr,a.tz,a.rd,a.wr,a.sh,a.file,a.base⟩:Ar)=a from rfl]at f
 rw[g]at f;rw[zcE]at d
 generalize(jM b b.tz).base=nb at d f
 clear g c
 generalize goB a b=R at f⊢
 obtain⟨c,c⟩:=kB ((w.alloc (Xk #[I6 a.fr,I6 a.tz,Xh a.rd,Xh a.wr,Xh a.sh,I6 a.file,I6 a.base] 125)).alloc (Xk #[I6 b.fr,I6 b.tz,Xh b.rd,Xh b.wr,Xh b.sh,I6 b.file,I6 b.base] 125));have f:=gD2 c
 have j:=x2a c
 have h:=x2b c
 have g:=dD c;clear c
 go_enter func166,ntmps166
 go_upto_region 1 with fail;rw[g.out];have g:=h.c 1 rfl
 go_wp2_with (refine zp rfl 125 (.tmp 3) rfl (w.heap.size+1) rfl h underlying125 rfl zty ?_)
 refine(d _).mono ?_;rintro e h ⟨rfl,c⟩;have i:=dD (f.trans c);have f:=dD (j.aA c);clear c d g;obtain⟨p,d⟩:=kA h.heap.size;have g:Xo (w.heap.size<p):=show _<_ by rw[<-d.out];exact f.lt
 go_upto_region 2 with fail;obtain⟨k,c⟩:=kB (h.alloc (Xk #[I6 b.tz,I6 b.tz,Xh b.rd,Xh b.wr,Xh b.sh,I6 b.file,I6 nb] 125));have j:=gT c i
 have h:=yA c f
 have f:=xP c d
 rw[c,d.out];clear c;have l:=h.c 1 rfl;have m:=f.c 1 rfl;have n:=f.f;go_upto_region 3 with fail;obtain⟨d,c⟩:=kB (k.setCell ⟨p,1,Xb⟩ (I6 a.tz));have i:Xo (zc w d):=dD<|by rw[<-c];exact zK j (by have:=g.out;simp;omega) _
 have j:Xo (Box d w.heap.size [I6 a.fr,I6 a.tz,Xh a.rd,Xh a.wr,Xh a.sh,I6 a.file,I6 a.base]):=dD<|by rw[<-c];exact h.other (by have:=g.out;simp;omega) _
 have g:Xo (Box d p [I6 b.tz,I6 a.tz,Xh b.rd,Xh b.wr,Xh b.sh,I6 b.file,I6 nb]):=dD<|by rw[<-c];exact f.set 1 _
 rw[c];clear c l m n
 go_wp2_with (first | refine zp rfl 125 (.tmp 5) rfl p rfl g underlying125 rfl zty ?_ | refine zp rfl 125 (.tmp 2) rfl w.heap.size rfl j underlying125 rfl zty ?_)
 go_ret;exact⟨rfl,i⟩
def inZ (a:Ar) (n:Int):Bool:=decide (a.fr<=n) && decide (n<a.tz)
theorem zce {a:Ar} {n:Int}:inZ a n=Xc↔a.fr<=n/\n<a.tz:=by simp[inZ]
theorem ziR (a) (n:Nat):inZ a (n:Int)=Jt a n:=rfl
def zcF (l:List Ar) (n z:Int):Prop:=(∃(k:Nat) (a:Ar),z=k/\l[k]? =Xa a/\inZ a n=Xc)\/(z=-1/\∀a∈l,inZ a n=Xd)
theorem zf3 {k:Nat} (h:zcF l k z):decide (0<=z)=(zJ l k).is:=by
 rcases h with⟨j,a,rfl,b,c⟩|⟨rfl,b⟩
 ·have:∀(m:List Ar),a∈m->(zJ m k).is=Xc:=by
   intro m
   induction m with
   | nil=>intro c;cases c
   | cons d m e=>
    intro c
    by_cases c:Jt d k=Xc
    ·rw[zJ,kE c];rfl
    grind [zJ,mC.1,ziR]
  rw[this l (mG b)];simp
 rw[zbq (fun a c=>b a c)]
 rfl
theorem znM (a:Ar) (n:Int) (p:Nat) (w) (h:Box w p [I6 n]):
  Xp prog 124 #[Xi #[I6 a.fr,I6 a.tz,Xh a.rd,Xh a.wr,Xh a.sh,I6 a.file,I6 a.base],Xj (Xa ⟨p,0,Xb⟩)] w fun e w'=>e= Xl (Xh (inZ a n))/\zc w w':=by
 have H:Xo (inZ a n=(decide (a.fr<=n) && decide (n<a.tz))):=rfl;obtain⟨d,b⟩:=kB (w.alloc (Xk #[I6 a.fr,I6 a.tz,Xh a.rd,Xh a.wr,Xh a.sh,I6 a.file,I6 a.base] 125));have c:=gA b
 have f:=xA b
 have g:Xo (Box d p [I6 n]):=dD<|by rw[<-b];exact h.alloc _
 have d:=dD b;clear b h
 by_cases b:a.fr<=n
 ·by_cases b:n<a.tz
  ·go_enter func124,ntmps124
   go_upto_region 1 with fail;rw[d.out];obtain⟨h,i⟩:=f.k2;have b:=g.c 0 rfl;go_wp2;go_ret;exact⟨by rw[H.out];simp[*],c⟩
  go_enter func124,ntmps124
  go_upto_region 1 with fail;rw[d.out];obtain⟨h,i⟩:=f.k2;have b:=g.c 0 rfl;go_wp2;go_ret;exact⟨by rw[H.out];simp[*],c⟩
 go_enter func124,ntmps124
 go_upto_region 1 with fail;rw[d.out];obtain⟨h,i⟩:=f.k2;have b:=g.c 0 rfl;go_wp2;go_ret;exact⟨by rw[H.out];simp;omega,c⟩
theorem zfU (v l) (m:Int) (p:Nat) (w) (d:Box w p [I6 m]) (c:zj arE w v l):
  Xp prog 123 #[v,.func (.func 124) #[] #[Xj (Xa ⟨p,0,Xb⟩)]] w fun e w'=>(∃z:Int,e= Xl (I6 z)/\zcF l m z)/\zc w w':=by
 have b:=c.short;obtain⟨a,a,rfl,a⟩:=c.aD;have k:=dD a;have h:=dD d;have f:=enters_of func124 Kr rfl
 clear a c d;obtain⟨n,x⟩:=kA l.length;rw[x.out]at b⊢;obtain⟨d,c⟩:∃d:Int->Prop,Xo (∀z,zcF l m z=d z):=⟨zcF l m,fun _=>rfl⟩
 simp only[c.out]
 go_enter func123,ntmps123
 go_wp2
 go_loopg [5,8] n (fun a _ f wr=>∃b:Nat,b<=n/\n - b<=a/\f=I6 b/\Xo (zc w wr)/\Xo (∀(j:Nat) (q:Ar),j<b->l[j]? =Xa q->inZ q m=Xd))
 exact⟨0,nZ _,Wm,rfl,zc.refl w,fun j q r=>absurd r (nL _)⟩
 obtain⟨b,a,a,rfl,i,A⟩:=hrel
 by_cases f:b<n
 ·have s:=kC f
  obtain⟨q,y⟩:∃q,Xo (l[b]? =Xa q):=⟨_,gE (Rx x.out f)⟩
  obtain⟨a,rfl,g⟩:=k.out b q y.out;obtain⟨B,C,D,E,F,G,H⟩:=g wr i.out;have a:=znM q m p wr (h.aA i);clear g
  cases h:inZ q m with
  | true=>
   rw[h]at a;have u:Xo (d (b:Int)):=dD<|by
    rw[<-c.out];exact .inl ⟨b,q,rfl,y,h⟩
   clear h;go_wp2_with fail;refine a.mono ?_;rintro e L ⟨rfl,k⟩;have t:=dD (i.trans k);clear k a B C D E F G H;go_wp2;go_ret;exact⟨⟨_,rfl,u⟩,t⟩
  | false=>
   rw[h]at a;have K:Xo (∀(j:Nat) (q:Ar),j<b+1->l[j]? =Xa q->inZ q m=Xd):=dD<|fun j q r g=>by
    by_cases e:j=b
    ·subst e;rw[y.out]at g;cases g;exact h
    exact A j q Wm g
   clear h;go_wp2_with fail;refine a.mono ?_;rintro e L ⟨rfl,k⟩;have t:=dD (i.trans k);clear k a B C D E F G H;go_wp2
   go_roundg (n -(b+1));exact⟨b+1,Wm,Wm,Gn,t,K⟩;omega
 have s:=kD f
 have:b=n:=Wm
 subst this;have u:Xo (d (-1:Int)):=dD<|by
  rw[<-c.out];refine .inr ⟨rfl,fun b a=>?_⟩
  obtain⟨j,r⟩:=Xw a;exact A j b (by rw[<-x.out];exact(gS.1 r).1) r
 go_wp2;go_ret;exact⟨⟨_,rfl,u⟩,i⟩
theorem zc0 (v l) (m:Int) (w) (b:zj arE w v l):
  Xp prog 67 #[v,I6 m] w fun e w'=>(∃z:Int,e= Xl (I6 z)/\zcF l m z)/\zc w w':=by
 have a:∀(c:Fn) (first a:Array Xq) (w:Xn),(Instr.makeFunc c first a).run prog w= .ok (.func c first a) w:=fun _ _ _ _=>rfl
 have a:Xp prog 123 #[v,.func (.func 124) #[] #[Xj (Xa ⟨w.heap.size,0,Xb⟩)]] (w.alloc (Xk #[I6 m] 3)) fun e w'=>(∃z:Int,e= Xl (I6 z)/\zcF l m z)/\zc (w.alloc (Xk #[I6 m] 3)) w':=zfU v l m _ _ (Box.aE w _ _ rfl) (b.aA (za _ _))
 obtain⟨c,c,rfl,_⟩:=b.aD;clear b
 generalize l.length=n at a⊢
 go_enter func67,ntmps67
 go_wp2_with fail;refine a.mono ?_;rintro e f ⟨⟨z,rfl,c⟩,b⟩;have d:Xo (zc w f):=(za _ _).trans b;have f:=dD c;clear b a c;go_wp2;go_ret;exact⟨⟨_,rfl,f⟩,d⟩
def jS (l:List Ar) (s:Nat):Nat->Nat
 | 0=>0
 | n+1=>jS l s n+if(zJ l (s+n)).is=Xc then 1 else 0
theorem zhN (l:List Ar) (s:Nat):∀n,jS l s n<=n
 | 0=>nR _
 | n+1=>by
  have:=zhN l s n;unfold jS
  split <;> omega
theorem zdX {l:List Ar} {s:Nat}:∀{n:Nat},jS l s n=0↔∀j,j<n->(zJ l (s+j)).is=Xd
 | 0=>by simp[jS]
 | n+1=>by
  unfold jS;have a:=zdX (l:=l) (s:=s) (n:=n);constructor
  ·intro h j b
   by_cases e:j=n
   ·subst e
    cases c:(zJ l (s+j)).is with
    | false=>rfl
    | true=>rw[c]at h;simp at h
   exact a.1 Wm j Wm
  intro h;rw[a.2 fun j b=>h j Wm,h n Wm]
  simp
theorem zod {s n:Nat} (h:s+n<=64):jS l s n=0↔zr7 l s n=Xd:=by
 rw[zdX,zrs];constructor
 ·intro a k d b;have:=a (k - s) Wm
  rw[show s+(k - s)=k by omega]at this
  exact this
 intro a j c;exact a (s+j) Wm Wm
theorem zmt (v:Xq) (l:List Ar) (s n:Nat) (w:Xn) (t:zj arE w v l) (N:s+n<=64):
  Xp prog 128 #[v,I6 (s:Int),I6 ((s:Int)+(n:Int))] w fun e w'=>e= Xl (I6 (jS l s n:Int))/\zc w w':=by
 have y:Xo (zj arE w v l):=t;have r:∀W (k:Int),zc w W->Xp prog 67 #[v,I6 k] W fun e w'=>(∃z:Int,e= Xl (I6 z)/\zcF l k z)/\zc W w':=fun W k D=>zc0 v l k W (y.aA D)
 have x:Xo _:=r;clear t r;obtain⟨g,c⟩:=kA (jS l s n);rw[c.out]
 go_enter func128,ntmps128
 go_wp2
 go_loopg [7,8] n (fun B G H wr=>∃(a C:Nat),a<=n/\n - a<=B/\H=I6 ((s:Int)+(a:Int))/\G=I6 (C:Int)/\C<=a/\Xo (zc w wr)/\Xo (jS l s a=C))
 exact⟨0,0,nZ _,Wm,Sm,rfl,nR _,zc.refl w,rfl⟩
 obtain⟨a,C,E,M,rfl,rfl,L,h,A⟩:=hrel
 by_cases F:a<n
 ·have f:(s:Int)+(a:Int)< (s:Int)+(n:Int):=Wm
  go_wp2_with fail;refine(x wr _ h).mono ?_;rintro e K ⟨⟨z,rfl,j⟩,q⟩;have p:=dD (h.trans q);rw[show(s:Int)+(a:Int)=((s+a:Nat):Int) by omega]at j
  have b:=zf3 j;clear q j
  cases d:(zJ l (s+a)).is with
  | true=>
   rw[d]at b;have m:0<=z:=Si b
   have i:Xo (jS l s (a+1)=C+1):=dD<|by unfold jS;rw[d,A.out];rfl
   clear d b;go_wp2
   go_roundg (n -(a+1));exact⟨a+1,C+1,Wm,Wm,Gn,Gn,Wm,p,i⟩;omega
  | false=>
   rw[d]at b;have m:¬0<=z:=Si b
   have i:Xo (jS l s (a+1)=C):=dD<|by unfold jS;rw[d,A.out];rfl
   clear d b;go_wp2
   go_roundg (n -(a+1));exact⟨a+1,C,Wm,Wm,Gn,rfl,Wm,p,i⟩;omega
 have f:¬(s:Int)+(a:Int)< (s:Int)+(n:Int):=Wm
 have:a=n:=Wm
 subst this;have u:Xo ((C:Int)=(g:Int)):=dD<|by rw[<-c.out,A.out]
 go_wp2;go_ret;exact⟨Rr u.out,h⟩
def zaw (l:List Ar):Nat->Option Ar
 | 0=>Xb
 | k+1=>l[k]?
theorem zbf (p:Option Ar) (a:Ar) (l) (i:Nat):zc9 p (a :: l) i=if arW a≠0 then(arW a,(i:Int))else match p with | some b=>if a.fr<b.tz\/goB a b=Xc then(2,(i:Int))else zc9 (Xa a) l (i+1) | none=>zc9 (Xa a) l (i+1):=by
 cases p <;> rfl
theorem zqL {k:Nat} {q:Ar} {r:Int × Int} (h:zc9 (zaw l k) (l.drop k) k=r) (a:l[k]? =Xa q) (b:arW q≠0):r=(arW q,(k:Int)):=by
 rw[jR a,zbf,kE b]at h;exact h.symm
theorem zma {q:Ar} {r:Int × Int} (h:zc9 (zaw l 0) (l.drop 0) 0=r) (a:l[0]? =Xa q) (b:arW q=0):zc9 (zaw l 1) (l.drop 1) 1=r:=by
 rw[jR a,zbf,kF (fun h=>h b)]at h
 grind [zaw]
theorem zjA {b q:Ar} {r:Int × Int} (h:zc9 (zaw l (j+1)) (l.drop (j+1)) (j+1)=r) (d:l[j]? =Xa b) (a:l[j+1]? =Xa q) (c:arW q=0) (e:q.fr<b.tz\/goB q b=Xc):r=(2,((j+1:Nat):Int)):=by
 rw[jR a,zbf,kF (fun h=>h c)]at h
 grind [zaw]
theorem zoU {b q:Ar} {r:Int × Int} (h:zc9 (zaw l (j+1)) (l.drop (j+1)) (j+1)=r) (e:l[j]? =Xa b) (c:l[j+1]? =Xa q) (d:arW q=0) (f:¬q.fr<b.tz) (a:goB q b=Xd):zc9 (zaw l (j+1+1)) (l.drop (j+1+1)) (j+1+1)=r:=by
 rw[jR c,zbf,kF (fun h=>h d)]at h
 grind [zaw]
theorem zqK {r:Int × Int} (h:zc9 (zaw l l.length) (l.drop l.length) l.length=r):r=(0,0):=by
 rw[List.drop_length,zc9]at h;exact h.symm
theorem zmf (h:¬16<l.length):zc9 (zaw l 0) (l.drop 0) 0=wrL l:=by
 unfold wrL;rw[kF h];rfl
theorem zc5 (v l w) (a5:zj arE w v l):
  Xp prog 117 #[v] w fun e w'=>e= Xl (Xi #[I6 (wrL l).1,I6 (wrL l).2])/\zc w w':=by
 have a3:=a5.short;obtain⟨cd,ce,rfl,C⟩:=a5.aD;have Z:=dD C;have aw:Xo (∀(q:Ar) W,Xp prog 129 #[Xi #[I6 q.fr,I6 q.tz,Xh q.rd,Xh q.wr,Xh q.sh,I6 q.file,I6 q.base]] W fun e w'=>e= Xl (I6 (arW q))/\zc W w'):=fun q W=>zbd q W
 have aq:Xo (∀(q b:Ar) W,jV b->Xp prog 166 #[Xi #[I6 q.fr,I6 q.tz,Xh q.rd,Xh q.wr,Xh q.sh,I6 q.file,I6 q.base],Xi #[I6 b.fr,I6 b.tz,Xh b.rd,Xh b.wr,Xh b.sh,I6 b.file,I6 b.base]] W fun e w'=>e= Xl (Xh (goB q b))/\zc W w'):=fun q b W a2=>ze0 q b W a2
 clear C a5;have ak:Xo (¬16<l.length->zc9 (zaw l 0) (l.drop 0) 0=wrL l):=zmf;have ah:Xo (16<l.length->wrL l=(4,0)):=fun a2=>by unfold wrL;rw[kE a2]
 have V:Xo (∀T,zc9 (zaw l l.length) (l.drop l.length) l.length=T->T=(0,0)):=fun T=>zqK
 obtain⟨n,R⟩:=kA l.length;rw[R.out]at a3⊢;have A:Xo (¬16<n->zc9 (zaw l 0) (l.drop 0) 0=wrL l):=dD<|Ry R.out ak.out
 have z:Xo (16<n->wrL l=(4,0)):=dD<|Ry R.out ah.out
 have F:Xo (∀T,zc9 (zaw l n) (l.drop n) n=T->T=(0,0)):=dD<|Ry R.out V.out
 skip
 generalize c5:wrL l=D at A z⊢
 clear c5;obtain⟨al,s⟩:=kB (w.alloc (Xk #[I6 0,I6 0] 187));have X:=gA s
 have a1:=xA s
 have I:Xo (_=al):=s;clear s
 by_cases a:16<n
 ·have m:=dD<|z.out a;have ar:=kC a
  go_enter func117,ntmps117
  go_upto_region 1 with fail;rw[I.out];obtain⟨a8,a9⟩:=a1.k2;have aa:=a1.f;have p:Xo (Box ((al.setCell ⟨w.heap.size,0,Xb⟩ (I6 4)).setCell ⟨w.heap.size,1,Xb⟩ (I6 0)) w.heap.size [I6 4,I6 0]):=dD<|(a1.set 0 _).set 1 _
  have r:Xo (zc w ((al.setCell ⟨w.heap.size,0,Xb⟩ (I6 4)).setCell ⟨w.heap.size,1,Xb⟩ (I6 0))):=dD<|zK (zK X Sm _) Sm _
  go_wp2;refine bodyPost_ret (zE (vs:=[I6 4,I6 0]) rfl _ rfl p underlying187 rfl ztz) rfl ⟨?_,r⟩;rw[m.out]
 have ar:=kD a
 have bn:=dD<|A.out a
 go_enter func117,ntmps117
 go_upto_region 1 with fail;rw[I.out];go_wp2
 go_loopg [12] n (fun c4 be wr=>∃c:Nat,c<=n/\n - c<=c4/\be=I6 c/\Xo (zc w wr)/\Xo (Box wr w.heap.size [I6 0,I6 0])/\Xo (zc9 (zaw l c) (l.drop c) c=D)/\Xo (∀(j:Nat) q,j<c->l[j]? =Xa q->jV q))
 exact⟨0,nZ _,Wm,rfl,X,a1,bn,fun j q bi=>absurd bi (nL _)⟩
 obtain⟨c,c9,c6,rfl,af,Q,S,bf⟩:=hrel
 by_cases M:c<n
 ·have a4:=kC M
  obtain⟨q,H⟩:∃q,Xo (l[c]? =Xa q):=⟨_,gE (Rx R.out M)⟩
  obtain⟨d,rfl,f⟩:=Z.out c q H.out;obtain⟨bp,bq,br,bs,bt,bu,bv⟩:=f wr af.out;have bo:=dD Q.lt;obtain⟨ae,aj⟩:=kA wr.heap.size;have Y:Xo (w.heap.size<ae):=show _<_ by rw[<-aj.out];exact bo.out
  clear f;go_upto_region 6 with fail;obtain⟨cc,i⟩:=kB (wr.alloc (Xk #[I6 q.fr,I6 q.tz,Xh q.rd,Xh q.wr,Xh q.sh,I6 q.file,I6 q.base] 125));have bl:=gT i af
  have bk:=yA i Q
  have bg:=xP i aj
  rw[i,aj.out];clear i bp bq br bs bt bu bv
  go_wp2_with (refine zp rfl 125 (.tmp 4) rfl ae rfl bg underlying125 rfl zty ?_)
  refine(aw.out q _).mono ?_;rintro e h ⟨rfl,ab⟩;have g:=dD (bl.trans ab);have E:=dD (bk.aA ab);have B:=dD (bg.aA ab);clear ab;have bj:ae≠w.heap.size:=Hm Y.out
  have av:w.heap.size≠ae:=Hm Y.out
  by_cases N:arW q=0
  ·have a7:=dD N;have bd:(arW q != 0)=Xd:=by simp[N]
   have ai:=dD<|zbQ.1 N;have a0:Xo (∀(j:Nat) P,j<c+1->l[j]? =Xa P->jV P):=show∀(j:Nat) P,_ from fun j P bi x=>by
    by_cases e:j=c
    ·subst e;rw[H.out]at x;cases x;exact ai.out
    exact bf j P Wm x
   clear N;go_upto_region 9 with fail
   generalize arW q=cg
   cases c with
   | zero=>
    have G:=dD<|zma S H a7.out;have bb:¬(0:Int)< ((0:Nat):Int):=Dc
    have bc:decide ((0:Int)< ((0:Nat):Int))=Xd:=Dc
    go_quiet (fail);go_wp2
    go_roundg (n - 1);exact⟨1,Wm,Wm,Gn,g.trans (show Below _ _ _ from bD (bR _ _) _),E.aA (show Below _ _ _ from bD (bR _ _) _),G,a0⟩;omega
   | succ j=>
    obtain⟨b,U⟩:∃b,Xo (l[j]? =Xa b):=⟨_,gE (by rw[R.out];omega)⟩
    have ag:Xo (jV b):=bf.out j b Wm U.out
    have bb:(0:Int)< ((j+1:Nat):Int):=Wm
    have bc:decide ((0:Int)< ((j+1:Nat):Int))=Xc:=Sm
    have c7:((j+1:Nat):Int) - 1=(j:Int):=Wm
    have c8:(j:Int)< (n:Int):=Wm
    obtain⟨am,an,f⟩:=Z.out j b U.out;obtain rfl:d=am:=by cases an;rfl
    by_cases ac:q.fr<b.tz
    ·have m:Xo (D=(2,((j+1:Nat):Int))):=zjA S U H a7 (.inl ac);have ao:decide (q.fr<b.tz)=Xc:=Si ac
     obtain⟨bw,bx,bz,c0,c1,c2,c3⟩:=f h g.out;have ca:=B.c 0 rfl;clear f;go_quiet (fail);obtain⟨K,t⟩:=kB (h.drewN nq);have a6:Xo (zc w K):=dD<|by rw[<-t];exact g.trans (show Below _ _ _ from bD (bR _ _) _)
     have k:Xo (Box K w.heap.size [I6 0,I6 0]):=dD<|by rw[<-t];exact E.aA (show Below _ _ _ from bD (bR _ _) _)
     rw[t];clear t bw bx bz c0 c1 c2 c3 ca;obtain⟨a8,a9⟩:=k.k2;have aa:=k.f;have p:Xo (Box ((K.setCell ⟨w.heap.size,0,Xb⟩ (I6 2)).setCell ⟨w.heap.size,1,Xb⟩ (I6 ((j+1:Nat):Int))) w.heap.size [I6 2,I6 ((j+1:Nat):Int)]):=dD<|(k.set 0 _).set 1 _
     have r:Xo (zc w ((K.setCell ⟨w.heap.size,0,Xb⟩ (I6 2)).setCell ⟨w.heap.size,1,Xb⟩ (I6 ((j+1:Nat):Int)))):=dD<|zK (zK a6 Sm _) Sm _
     go_wp2;refine bodyPost_ret (zE (vs:=[I6 2,I6 ((j+1:Nat):Int)]) rfl _ rfl p underlying187 rfl ztz) rfl ⟨?_,r⟩;rw[m.out]
    have ao:decide (q.fr<b.tz)=Xd:=Si ac
    have bm:=dD ac;have ax:=B.gw 0 rfl
    have ay:=B.gw 1 rfl
    have az:=B.gw 2 rfl
    have b0:=B.gw 3 rfl
    have b1:=B.gw 4 rfl
    have b2:=B.gw 5 rfl
    have b3:=B.gw 6 rfl
    have b4:=fun y:zf h=>(f _ (g.trans y.aA)).1
    have b5:=fun y:zf h=>(f _ (g.trans y.aA)).2.1
    have b6:=fun y:zf h=>(f _ (g.trans y.aA)).2.2.1
    have b7:=fun y:zf h=>(f _ (g.trans y.aA)).2.2.2.1
    have b8:=fun y:zf h=>(f _ (g.trans y.aA)).2.2.2.2.1
    have b9:=fun y:zf h=>(f _ (g.trans y.aA)).2.2.2.2.2.1
    have ba:=fun y:zf h=>(f _ (g.trans y.aA)).2.2.2.2.2.2
    have au:Nonempty (zf h):=⟨⟨_,zc.refl _⟩⟩;clear f;refine qx [(19,⟨fun v=>v= Xh (goB q b),fun _ _=>True⟩)] zW Kr ?_ ?_ ?_
    ·intro P x
     simp at x
     subst x;exact⟨_,rfl⟩
    ·intro P x
     simp at x
     subst x;exact fun _ _ _ _ a2=>a2
    iterate 19 refine ze ?_
    refine zx rfl rfl (fun w' c6 bh=>?_) (fun cf a5=>?_)
    ·refine zP.call [Xi #[I6 q.fr,I6 q.tz,Xh q.rd,Xh q.wr,Xh q.sh,I6 q.file,I6 q.base],Xi #[I6 b.fr,I6 b.tz,Xh b.rd,Xh b.wr,Xh b.sh,I6 b.file,I6 b.base]] rfl func166 rfl rfl rfl ?_;refine(aq.out q b w' ag).mono ?_;rintro e cb ⟨rfl,ap⟩;exact⟨_,rfl,ap,rfl,trivial⟩
    subst a5;refine Uq ?_;iterate 2 refine ze ?_
    refine zL fun K L bh=>?_
    have a6:=dD (g.trans L);have k:=dD (E.aA L);clear L bh ax ay az b0 b1 b2 b3 b4 b5 b6 b7 b8 b9 ba au
    cases u:goB q b with
    | true=>
     have m:Xo (D=(2,((j+1:Nat):Int))):=zjA S U H a7 (.inr u);clear u;obtain⟨a8,a9⟩:=k.k2;have aa:=k.f;have p:Xo (Box ((K.setCell ⟨w.heap.size,0,Xb⟩ (I6 2)).setCell ⟨w.heap.size,1,Xb⟩ (I6 ((j+1:Nat):Int))) w.heap.size [I6 2,I6 ((j+1:Nat):Int)]):=show Box _ _ _ from(k.set 0 _).set 1 _
     have r:Xo (zc w ((K.setCell ⟨w.heap.size,0,Xb⟩ (I6 2)).setCell ⟨w.heap.size,1,Xb⟩ (I6 ((j+1:Nat):Int)))):=dD<|zK (zK a6 Sm _) Sm _
     go_wp2;refine bodyPost_ret (zE (vs:=[I6 2,I6 ((j+1:Nat):Int)]) rfl _ rfl p underlying187 rfl ztz) rfl ⟨?_,r⟩;rw[m.out]
    | false=>
     have G:=dD<|zoU S U H a7 bm u;clear u;go_wp2
     go_roundg (n -(j+1+1));exact⟨j+1+1,Wm,Wm,Gn,a6,k,G,a0⟩;omega
  have m:=dD<|zqL S H N;have bd:(arW q != 0)=Xc:=by simp[N]
  clear N;obtain⟨a8,a9⟩:=E.k2;have aa:=E.f;have p:Xo (Box ((h.setCell ⟨w.heap.size,0,Xb⟩ (I6 (arW q))).setCell ⟨w.heap.size,1,Xb⟩ (I6 (c:Int))) w.heap.size [I6 (arW q),I6 (c:Int)]):=dD<|(E.set 0 _).set 1 _
  have r:Xo (zc w ((h.setCell ⟨w.heap.size,0,Xb⟩ (I6 (arW q))).setCell ⟨w.heap.size,1,Xb⟩ (I6 (c:Int)))):=dD<|zK (zK g Sm _) Sm _
  go_wp2;refine bodyPost_ret (zE (vs:=[I6 (arW q),I6 (c:Int)]) rfl _ rfl p underlying187 rfl ztz) rfl ⟨?_,r⟩;rw[m.out]
 have a4:=kD M
 have:c=n:=Wm
 subst this;have m:=dD<|F.out _ S.out;obtain⟨a8,a9⟩:=Q.k2;have aa:=Q.f;have p:Xo (Box ((wr.setCell ⟨w.heap.size,0,Xb⟩ (I6 0)).setCell ⟨w.heap.size,1,Xb⟩ (I6 0)) w.heap.size [I6 0,I6 0]):=show Box _ _ _ from(Q.set 0 _).set 1 _
 have r:Xo (zc w ((wr.setCell ⟨w.heap.size,0,Xb⟩ (I6 0)).setCell ⟨w.heap.size,1,Xb⟩ (I6 0))):=dD<|zK (zK af Sm _) Sm _
 go_wp2;refine bodyPost_ret (zE (vs:=[I6 0,I6 0]) rfl _ rfl p underlying187 rfl ztz) rfl ⟨?_,r⟩;rw[m.out]
theorem zp2 (e) (l:List En):esW (e :: l)=if enW e=0 then esW l else enW e:=rfl
theorem zo1 (h:List En) (t:List (List En)):tbW (h :: t)=if haW h=0 then tbW t else haW h:=rfl
theorem zsr {h:List En} (a:h.length=8):haW h=if esW h=0 then(if zgd h=Xc then 0 else 2)else esW h:=by
 unfold haW;rw[kF Wm,kE a]
theorem zfk (v) (fs:List En) (w) (c:zj enE w v fs):
  Xp prog 167 #[v] w fun e w'=>e= Xl (I6 (haW fs))/\zc w w':=by
 have b:=c.short;have d:=dD c;obtain⟨g,i,rfl,a⟩:=c.ens;have m:=dD a;clear a c;obtain⟨n,h⟩:=kA fs.length;obtain⟨Z,p⟩:=kA (haW fs);rw[h.out]at b d⊢;rw[p.out]
 by_cases j:n=0
 ·have l:Xo (Z=0):=dD<|by rw[<-p.out];unfold haW;rw[kE (Rx h.out j)]
  subst j
  go_enter func167,ntmps167
  go_wp2;go_ret;exact⟨Rr l.out,zc.refl _⟩
 have a:((n:Int) == 0)=Xd:=Si j
 by_cases r:n=8
 ·have A:=dD (h.trans r);have x:((n:Int) != 8)=Xd:=by simp[r]
  clear j r;have f:=fun W (a:zc w W)=>ZO (O g n i) fs W (d.aA a)
  go_enter func167,ntmps167
  go_wp2
  go_loopg [14] n (fun b a wr=>∃c:Nat,c<=n/\n - c<=b/\a=I6 c/\Xo (zc w wr)/\Xo (esW (fs.drop c)=esW fs))
  exact⟨0,nZ _,Wm,rfl,zc.refl w,rfl⟩
  obtain⟨c,a,a,rfl,k,t⟩:=hrel
  by_cases i:c<n
  ·have s:=kC i
   obtain⟨q,g⟩:∃q,Xo (fs[c]? =Xa q):=⟨_,gE (Rx h.out i)⟩
   obtain⟨a,rfl,u⟩:=m.out c q g.out;obtain⟨B,C,D⟩:=u wr k.out;obtain⟨b,d⟩:=kB (wr.alloc (Xk #[I6 q.kind,I6 q.n,Xh q.wr] 127));have y:=gT d k
   have m:=dD d;have a:=zaC q.kind q.n q.wr b;have b:Xo (esW (fs.drop c)=if enW ⟨q.kind,q.n,q.wr⟩=0 then esW (fs.drop (c+1))else enW ⟨q.kind,q.n,q.wr⟩):=show _=_ by rw[jR g.out,zp2]
   clear u d
   generalize enW ⟨q.kind,q.n,q.wr⟩=z at a b
   by_cases q:z=0
   ·have E:Xo (esW (fs.drop (c+1))=esW fs):=dD<|by rw[<-t.out,b.out,kE q]
    subst q;go_wp2_with fail;rw[m.out];refine a.mono ?_;rintro e u ⟨rfl,d⟩;have g:=dD (y.trans d);clear d a B C D;go_wp2
    go_roundg (n -(c+1));exact⟨c+1,Wm,Wm,Gn,g,E⟩;omega
   have E:(z != 0)=Xc:=Si q
   have l:Xo (Z=z):=dD<|by
    have z:=t.out;rw[b.out,kF q]at z;rw[<-p.out,zsr A.out,<-z,kF q]
   go_wp2_with fail;rw[m.out];refine a.mono ?_;rintro e u ⟨rfl,d⟩;have g:=dD (y.trans d);clear d a B C D;go_wp2;go_ret;exact⟨Rr l.out,g⟩
  have s:=kD i
  have:c=n:=Wm
  subst this;have c:Xo (esW fs=0):=dD<|by
   rw[<-t.out,Xu (by rw[h.out];exact nR _)]
   rfl
  have a:=f wr k.out;have b:Xo (Z=if zgd fs=Xc then 0 else 2):=dD<|by rw[<-p.out,zsr A.out,c.out,kE rfl]
  generalize zgd fs=A at a b
  clear f
  cases A with
  | true=>
   go_wp2_with fail;refine a.mono ?_;rintro e u ⟨rfl,d⟩;have g:=dD (k.trans d);clear d a;go_wp2;go_ret;exact⟨Rr b.out,g⟩
  | false=>
   go_wp2_with fail;refine a.mono ?_;rintro e u ⟨rfl,d⟩;have g:=dD (k.trans d);clear d a;go_wp2;go_ret;exact⟨Rr b.out,g⟩
 have x:((n:Int) != 8)=Xc:=by simp;omega
 have l:Xo (Z=2):=dD<|by rw[<-p.out];unfold haW;rw[kF (Rx h.out j),kF (Rx h.out r)]
 clear j r
 go_enter func167,ntmps167
 go_wp2;go_ret;exact⟨Rr l.out,zc.refl _⟩
theorem zc2 (vs:List Xq) (t:List (List En)) (w) (a:zaB w vs t):
  Xp prog 118 #[Xi vs.toArray] w fun e w'=>e= Xl (I6 (tbW t))/\zc w w':=by
 have p:=dD a;have d:=dD a.len;clear a;obtain⟨Z,n⟩:=kA (tbW t);rw[n.out];obtain⟨a,a⟩:=kB (w.alloc (Xk vs.toArray 74));have c:=gA a
 have f:=xA a
 have b:=dD a;clear a
 go_enter func118,ntmps118
 go_upto_region 1 with fail;rw[b.out]
 go_wp2_with (refine qI rfl (.tmp 1) rfl w.heap.size rfl f d.out ?_)
 go_loopg [7] 8 (fun a d wr=>∃b:Nat,b<=8/\8 - b<=a/\d=I6 b/\Xo (zc w wr)/\Xo (tbW (t.drop b)=tbW t))
 exact⟨0,nZ _,Wm,rfl,c,rfl⟩
 obtain⟨b,a,a,rfl,i,k⟩:=hrel
 by_cases f:b<8
 ·have g:(b:Int)<8:=Wm
  obtain⟨c,r,q,j,h,l⟩:=p.half f;have m:=dD j;have d:=dD h;have a:=zfk (O c q.length r) q wr (l.aA i);have c:Xo (tbW (t.drop b)=if haW q=0 then tbW (t.drop (b+1))else haW q):=show _=_ by rw[jR m.out,zo1]
  clear j h l
  generalize haW q=z at a c
  generalize q.length=nq at a d
  by_cases j:z=0
  ·have m:Xo (tbW (t.drop (b+1))=tbW t):=dD<|by rw[<-k.out,c.out,kE j]
   subst j
   go_wp2_with (refine zib rfl (.tmp 6) (.tmp 7) rfl vs rfl b rfl f d.out ?_)
   refine a.mono ?_;rintro e r ⟨rfl,h⟩;have l:=dD (i.trans h);clear h a;go_wp2
   go_roundg (8 -(b+1));exact⟨b+1,Wm,Wm,Gn,l,m⟩;omega
  have m:(z != 0)=Xc:=Si j
  have m:Xo (Z=z):=dD<|by
   have q:=k.out;rw[c.out,kF j]at q;rw[<-n.out,<-q]
  skip
  go_wp2_with (refine zib rfl (.tmp 6) (.tmp 7) rfl vs rfl b rfl f d.out ?_)
  refine a.mono ?_;rintro e r ⟨rfl,h⟩;have l:=dD (i.trans h);clear h a;go_wp2;go_ret;exact⟨Rr m.out,l⟩
 have g:¬(b:Int)<8:=Wm
 have:b=8:=Wm
 subst this;have m:Xo (Z=0):=dD<|by
  rw[<-n.out,<-k.out,Xu (by rw[p.aO];exact nR _)]
  rfl
 go_wp2;go_ret;exact⟨Rr m.out,i⟩
theorem zmM (a b:Int) (W):(Instr.field 187 (Xi #[I6 a,I6 b]) 0).run prog W= .ok (I6 a) W:=by
 kernel_rfl
theorem Q2 (s:Sp):qX s.tb zcm 64=(qP s).map fun(n:Nat)=>(n:Int):=by
 unfold qX qP zh zcm;simp
theorem zo5 {s:Sp} (a:s.tb.length=8):spE s=if zC [(wrL s.aD).1,tbW s.tb]=0 then(if s.aH=Xd/\(0<s.aD.length\/0< (qX s.tb zcm 64).length)then 7 else 0)else zC [(wrL s.aD).1,tbW s.tb]:=by grind [spE,Zt,ze2,wrL,tbW,qX,zcm,Q2,List.length_map,zg1,List.length_pos_iff]
theorem zef (x:SpV) (s w) (n:Zf w x s):
  Xp prog 63 #[Xi #[Xh x.aH,x.ar.x,x.t0.x,x.t1.x,x.t2.x,x.t3.x,x.t4.x,x.t5.x,x.t6.x,x.t7.x]] w fun e w'=>e= Xl (I6 (spE s))/\zc w w':=by
 have K:=dD<|fun W (B:zc w W)=>zc5 _ s.aD W (n.aA B).ar
 have L:=dD<|fun W (B:zc w W)=>zc2 x.tab s.tb W (n.aA B).tb
 have u:=dD<|fun W (B:zc w W)=>zaT x.tab s.tb W (n.aA B).tb
 have b:=n.aH;have aj:=n.ar.n;rw[zo5 n.tb.aO,<-b,<-aj];clear n;obtain⟨r,y⟩:=kA (zC [(wrL s.aD).1,tbW s.tb]);obtain⟨H,A⟩:=kA (qX s.tb zcm 64);rw[y.out,A.out];rw[A.out]at u;clear b aj;obtain⟨ag,f⟩:=kB (w.alloc (Xk #[Xh x.aH,x.ar.x,x.t0.x,x.t1.x,x.t2.x,x.t3.x,x.t4.x,x.t5.x,x.t6.x,x.t7.x] 76));have g:=gA f
 have d:=xA f
 have N:=dD f;clear f;obtain⟨Z,c⟩:=kA (if r=0 then(if x.aH=Xd/\(0<x.ar.n\/0<H.length)then 7 else 0)else r);rw[c.out]
 go_enter func63,ntmps63
 go_upto_region 1 with fail;rw[N.out];have X:=d.gw 1 rfl
 have Y:=d.gw 2 rfl
 have I:=d.gw 3 rfl
 have a0:=d.gw 4 rfl
 have a1:=d.gw 5 rfl
 have a2:=d.gw 6 rfl
 have a3:=d.gw 7 rfl
 have a4:=d.gw 8 rfl
 have a5:=d.gw 9 rfl
 have V:Nonempty (zf ag):=⟨⟨_,zc.refl _⟩⟩;have U:=fun(ap:zf ag)=>zmM (wrL s.aD).1 (wrL s.aD).2 ap.world
 refine qx [(2,⟨fun a=>a= Xi #[I6 (wrL s.aD).1,I6 (wrL s.aD).2],fun a w'=>True⟩),(6,⟨fun a=>a=I6 (tbW s.tb),fun a w'=>True⟩),(7,⟨fun a=>∃am,a= O (Xa ⟨am,0,Xb⟩) 2 2,fun a w'=>zj zl7 w' a [(wrL s.aD).1,tbW s.tb]⟩),(8,⟨fun a=>a=I6 (zC [(wrL s.aD).1,tbW s.tb]),fun a w'=>True⟩)] zW Kr (Sd ⟨_,rfl⟩ ⟨_,rfl⟩ ⟨_,0,rfl⟩ ⟨_,rfl⟩) ?hp ?_
 case hp=>
  intro x E;simp only[mC,nM,or_false]at E
  rcases E with rfl|rfl|rfl|rfl
  ·exact fun _ _ _ _ h=>h
  ·exact fun _ _ _ _ h=>h
  ·exact fun _ _ _ k h=>zj.aA h k
  exact fun _ _ _ _ h=>h
 iterate 2 refine ze ?_
 refine zx rfl rfl (fun w' k q=>?_) (fun a6 p=>?_)
 ·refine zP.call [x.ar.x] rfl func117 rfl rfl rfl ?_;refine(K w' (g.trans k)).mono ?_;rintro e G ⟨rfl,m⟩;exact⟨_,rfl,m,rfl,trivial⟩
 subst p;refine Uq ?_;iterate 3 refine ze ?_
 refine zx rfl rfl (fun w' k q=>?_) (fun a6 p=>?_)
 ·refine zP.call [Xi #[x.t0.x,x.t1.x,x.t2.x,x.t3.x,x.t4.x,x.t5.x,x.t6.x,x.t7.x]] rfl func118 rfl rfl rfl ?_;refine(L w' (g.trans k)).mono ?_;rintro e G ⟨rfl,m⟩;exact⟨_,rfl,m,rfl,trivial⟩
 subst p;refine Uq ?_;refine zx rfl rfl (fun w' k q=>?_) (fun a6 p=>?_)
 ·have D:zj zl7 (w'.alloc (Xk #[I6 ((wrL s.aD).1),I6 (tbW s.tb)] 47)) (O (Xa ⟨w'.heap.size,0,Xb⟩) 2 2) [(wrL s.aD).1,tbW s.tb]:=zfx zl7 w' [(wrL s.aD).1,tbW s.tb] _ rfl (show 2*8<=140737488355328 by decide)
  refine zP.step (v:= O (Xa ⟨w'.heap.size,0,Xb⟩) 2 2) (w':=w'.alloc (Xk #[I6 ((wrL s.aD).1),I6 (tbW s.tb)] 47)) (by simp only[execOp];go_simp) ⟨za _ _,⟨_,rfl⟩,D⟩
 obtain⟨ai,rfl⟩:=p;refine Uq ?_;refine zx rfl rfl (fun w' k q=>?_) (fun a6 p=>?_)
 ·have an:zj zl7 w' (O (Xa ⟨ai,0,Xb⟩) 2 2) [(wrL s.aD).1,tbW s.tb]:=q 7 Kr
  refine zP.call [O (Xa ⟨ai,0,Xb⟩) 2 2] rfl func19 rfl rfl rfl ?_;refine(zdn _ _ w' an).mono ?_;rintro e G ⟨rfl,rfl⟩;exact⟨_,rfl,zc.refl _,rfl,trivial⟩
 subst p;refine Uq ?_;refine ze ?_
 refine zL fun ak l q=>?_
 have t:=dD (g.trans l);have al:=dD (d.aA l);clear l q X Y I a0 a1 a2 a3 a4 a5 V U;rw[y.out]
 by_cases j:r=0
 ·have P:(r != 0)=Xd:=by simp[j]
  rw[kE j]at c;have aq:=dD j;clear j;obtain⟨a7,ao,a8,a9,aa,ab,ac,ad,ae,af⟩:=al.c10
  cases b:x.aH with
  | true=>
   rw[b]at c a7;have i:Xo (Z=0):=dD<|by rw[<-c.out,kF Sm]
   clear a8 a9 aa ab ac ad ae af;go_wp2;go_ret;exact⟨Rr i.out,t⟩
  | false=>
   rw[b]at c a7
   by_cases Q:0<x.ar.n
   ·have R:(0:Int)< (x.ar.n:Int):=Wm
    have i:Xo (Z=7):=dD<|by rw[<-c.out,kE ⟨rfl,.inl Q⟩]
    clear a8 a9 aa ab ac ad ae af;go_wp2;go_ret;exact⟨Rr i.out,t⟩
   have R:¬(0:Int)< (x.ar.n:Int):=Wm
   have C:=u.out ak t.out;have M:=dD Q;clear Q;go_wp2_with fail;refine C.mono ?_;clear C a7 ao a8 a9 aa ab ac ad ae af;rintro e ar ⟨a,rfl,F,ah⟩;have z:=dD (t.trans ah);obtain⟨au,av,rfl⟩:=F.form;clear F ah
   by_cases S:0<H.length
   ·have T:(0:Int)< (H.length:Int):=Wm
    have i:Xo (Z=7):=dD<|by rw[<-c.out,kE (by first | exact⟨rfl,.inr S⟩ | exact⟨trivial,.inr S⟩)]
    go_wp2;go_ret;exact⟨Rr i.out,z⟩
   have T:¬(0:Int)< (H.length:Int):=Wm
   have i:Xo (Z=0):=dD<|by rw[<-c.out,kF (fun h=>h.2.elim M.out S)]
   go_wp2;go_ret;exact⟨Rr i.out,z⟩
 have P:(r != 0)=Xc:=by simp[j]
 rw[kF j]at c;clear j;go_wp2;go_ret;exact⟨by rw[<-c.out];rfl,t⟩
def zoz (W:Xn) (y:Addr) (x:SpV):Prop:=W.cell? y=Xa (Xh x.aH)/\W.cell? { block:=y.block,off:=y.off+1 }=Xa (O x.ar.a x.ar.n x.ar.c)/\W.cell? { block:=y.block,off:=y.off+2 }=Xa (O x.t0.a x.t0.n x.t0.c)/\W.cell? { block:=y.block,off:=y.off+3 }=Xa (O x.t1.a x.t1.n x.t1.c)/\W.cell? { block:=y.block,off:=y.off+4 }=Xa (O x.t2.a x.t2.n x.t2.c)/\W.cell? { block:=y.block,off:=y.off+5 }=Xa (O x.t3.a x.t3.n x.t3.c)/\W.cell? { block:=y.block,off:=y.off+6 }=Xa (O x.t4.a x.t4.n x.t4.c)/\W.cell? { block:=y.block,off:=y.off+7 }=Xa (O x.t5.a x.t5.n x.t5.c)/\W.cell? { block:=y.block,off:=y.off+8 }=Xa (O x.t6.a x.t6.n x.t6.c)/\W.cell? { block:=y.block,off:=y.off+9 }=Xa (O x.t7.a x.t7.n x.t7.c)
theorem jc.sp10 {y:Addr} {x:SpV} (h:jc W y (spv x)):zoz W y x:=⟨h 0 _ rfl,h 1 _ rfl,h 2 _ rfl,h 3 _ rfl,h 4 _ rfl,h 5 _ rfl,h 6 _ rfl,h 7 _ rfl,h 8 _ rfl,h 9 _ rfl⟩
theorem zw.bG {w:Xn} (h:zw w V m):∃a:List SpV,a.length=m.sp.length/\(∀(j:Nat) x,a[j]? =Xa x->∃b,V.sp.a=Xa b/\∀W,zc w W->zoz W (b.add (j*10)) x)/\∀(i:Nat) x s,a[i]? =Xa x->m.sp[i]? =Xa s->Zf w x s:=by
 obtain⟨a,c,d,e⟩:=h.sp;refine⟨a,d,fun j x f=>?_,e⟩
 obtain⟨b,a,d⟩:=c.bC j x f;exact⟨b,a,fun W a=>(d W a).sp10⟩
theorem zc3 (V m w) (N:zw w V m):
  Xp prog 30 #[Xi (mL V m).toArray] w fun e w'=>e= Xl (I6 (Qp m))/\zc w w':=by
 obtain⟨am,an,Y,I,U,W,X,T,⟨R,a,S⟩⟩:=V;dsimp only[mL];obtain⟨-,-,-,-,-,-,-,-,P⟩:=N.ns;dsimp only at P;obtain⟨ao,A,h,z⟩:=N.bG;have G:=dD A;have a5:=dD h;have F:=dD z;have D:=dD P.symm;obtain⟨Z,a1⟩:=kA (Qp m);rw[a1.out];have r:Xo ((if 4<a then 4 else zC (m.sp.map spE))=Z):=show _=_ by rw[<-a1.out,<-D.out];rfl
 clear N A h z P;obtain⟨ap,f⟩:=kB (w.alloc (Xk #[am.x,I6 m.aB,an.x,Y.x,I.x,U.x,W.x,X.x,I6 m.cnt,T.x,O R a S] 45));have n:=gA f
 have a2:=xA f
 have q:=dD f;clear f
 by_cases u:4<a
 ·have M:=kC u
  have l:Xo (Z=4):=dD<|by rw[<-r.out,kE u]
  go_enter func30,ntmps30
  go_upto_region 1 with fail;rw[q.out];have B:=a2.c 10 rfl;go_wp2;go_ret;exact⟨Rr l.out,n⟩
 have M:=kD u
 have al:a<=4:=Wm
 have t:Xo (zC (m.sp.map spE)=Z):=dD<|by rw[<-r.out,kF u]
 clear u
 go_enter func30,ntmps30
 go_upto_region 1 with fail;rw[q.out];have B:=a2.c 10 rfl;go_wp2;clear B
 go_loopg [13] a (fun ai Q wr=>∃c:Nat,c<=a/\a - c<=ai/\Q=I6 c/\Xo (zc w wr)/\Xo (∀(j:Nat) s,j<c->m.sp[j]? =Xa s->spE s=0))
 exact⟨0,nZ _,Wm,rfl,n,fun j s a3=>absurd a3 (nL _)⟩
 obtain⟨c,ak,aj,rfl,C,H⟩:=hrel
 by_cases g:c<a
 ·have y:=kC g
  obtain⟨s,E⟩:∃s,Xo (m.sp[c]? =Xa s):=⟨_,gE (Rx D.out g)⟩
  obtain⟨x,a0⟩:∃x,Xo (ao[c]? =Xa x):=⟨_,gE (by rw[G.out,D.out];exact g)⟩
  obtain⟨ar,rfl,a4⟩:=a5.out c x a0.out;obtain⟨a6,a7,a8,a9,aa,ab,ac,ae,af,ag⟩:=a4 wr C.out;have b:=zef x s _ ((F c x s a0 E).aA (C.trans (za wr (Xk #[Xh x.aH,x.ar.x,x.t0.x,x.t1.x,x.t2.x,x.t3.x,x.t4.x,x.t5.x,x.t6.x,x.t7.x] 76))));clear a4;obtain⟨e,d⟩:=kA (spE s);rw[d.out]at b;go_upto_region 6 with fail;clear a6 a7 a8 a9 aa ab ac ae af ag;go_wp2_with fail;refine b.mono ?_;clear b;rintro au aq ⟨rfl,v⟩;have p:=dD ((C.trans (za _ _)).trans v);clear v
  by_cases i:e=0
  ·have L:(e != 0)=Xd:=by simp[i]
   have K:Xo (∀(j:Nat) s,j<c+1->m.sp[j]? =Xa s->spE s=0):=dD<|fun j s a3 k=>by
    by_cases ah:j=c
    ·subst ah;rw[E.out]at k;cases k;rw[d.out];exact i
    exact H j s Wm k
   clear i;go_wp2
   go_roundg (a -(c+1));exact⟨c+1,Wm,Wm,Gn,p,K⟩;omega
  have L:(e != 0)=Xc:=by simp[i]
  have l:Xo (Z=e):=dD<|by rw[<-t.out,zdO E H (Rx d.out i)];exact d.out
  clear i;go_wp2;go_ret;exact⟨Rr l.out,p⟩
 have y:=kD g
 have:c=a:=Wm
 subst this;have l:Xo (Z=0):=dD<|by rw[<-t.out];exact ze3 fun j s k=>H.out j s (by rw[<-D.out];exact(gS.1 k).1) k
 go_wp2;go_ret;exact⟨Rr l.out,C⟩
def zb0 (l:List Ca) (k:Nat):Option Ca:=match k with | 0=>Xb | k+1=>l[k]?
theorem zrX {p:Option Ca} {c:Ca} (h:caE m Xb c≠0):caE m p c=caE m Xb c:=by
 unfold caE at h⊢
 grind
theorem zhV {q c:Ca} (h:caE m Xb c=0):caE m (Xa q) c=if qa c<=qa q then 2 else 0:=by grind [caE]
theorem zkj {l:List Ca} {k:Nat} {c:Ca} {Z:Int} (h:zcl m (zb0 l k) (l.drop k)=Z) (a:l[k]? =Xa c) (b:caE m (zb0 l k) c≠0):Z=caE m (zb0 l k) c:=by
 rw[jR a]at h
 grind [zcl]
theorem zhU {l:List Ca} {k:Nat} {c:Ca} {Z:Int} (h:zcl m (zb0 l k) (l.drop k)=Z) (a:l[k]? =Xa c) (b:caE m (zb0 l k) c=0):zcl m (zb0 l (k+1)) (l.drop (k+1))=Z:=by
 rw[jR a]at h;unfold zcl at h;rw[kE b]at h
 show zcl m (l[k]?) _=Z
 grind
theorem zej (V m w) (N:zw w V m) (b2:zks m):
  Xp prog 31 #[Xi (mL V m).toArray] w fun e w'=>e= Xl (I6 (zeC m))/\zc w w':=by
 have D:=dD<|fun (c:Ca) az (bl:zc w az)=>zc4 V m c az (N.aA bl)
 obtain⟨b7,b8,T,W,Q,R,S,⟨F,a,G⟩,U⟩:=V;dsimp only[mL]at D⊢;obtain⟨-,-,-,-,-,-,-,ar,-⟩:=N.ns;dsimp only at ar;have aw:=dD N.cas;have a6:=dD ar.symm;have b4:a<=9223372036854775807:=Hm N.ca.short
 have a5:=dD<|fun c br (ac:caE m br c=0)=>zrW b2.st ac
 obtain⟨Z,ax⟩:=kA (zeC m);rw[ax.out];have a9:=dD ax.out;clear N ar b2;obtain⟨c8,p⟩:=kB (w.alloc (Xk #[b7.x,I6 m.aB,b8.x,T.x,W.x,Q.x,R.x,S.x,I6 m.cnt,O F a G,U.x] 45));have a4:=gA p
 have b0:=xA p
 have a8:=dD p;clear p
 go_enter func31,ntmps31
 go_upto_region 1 with fail;rw[a8.out];have av:=b0.c 9 rfl;go_wp2;clear av
 go_loopg [9] a (fun bk bs wr=>∃d:Nat,d<=a/\a - d<=bk/\bs=I6 d/\Xo (zc w wr)/\Xo (Box wr w.heap.size [b7.x,I6 m.aB,b8.x,T.x,W.x,Q.x,R.x,S.x,I6 m.cnt,O F a G,U.x])/\Xo (zcl m (zb0 m.ca d) (m.ca.drop d)=Z)/\Xo (∀(j:Nat) c,j<d->m.ca[j]? =Xa c->0<=c.idx/\c.idx<100))
 exact⟨0,nZ _,Wm,rfl,a4,b0,a9,fun j c b5=>absurd b5 (nL _)⟩
 obtain⟨d,bp,bm,rfl,I,bb,x,ay⟩:=hrel
 by_cases t:d<a
 ·have M:=kC t
  obtain⟨c,u⟩:∃c,Xo (m.ca[d]? =Xa c):=⟨_,gE (Rx a6.out t)⟩
  obtain⟨v,rfl,s⟩:=aw.out d c u.out;obtain⟨bg,bh,bi⟩:=s wr I.out;clear s;go_upto_region 4 with fail;obtain⟨b9,i⟩:=kB (wr.alloc (Xk #[I6 c.file,I6 c.idx,I6 c.fr] 105));have B:=gT i I
  have b1:=yA i bb
  have a0:=xA i
  rw[i];clear i bg bh bi;obtain⟨cc,a7⟩:=kA wr.heap.size;rw[a7.out]at a0⊢;have f:=D.out c b9 B.out;obtain⟨e,n⟩:=kA (caE m Xb c);rw[n.out]at f;obtain⟨bv,bw,bx,bz,c3,c4,c5,c6,c7,av,au⟩:=b1.bL;obtain⟨bd,be,bf⟩:=a0.c3;go_wp2_with fail;refine f.mono ?_;clear f bv bw bx bz c3 c4 c5 c6 c7 av au bd be bf;rintro ca Y ⟨rfl,q⟩;have g:=dD (B.trans q);have aa:=dD (b1.aA q);have a1:=dD (a0.aA q);clear q
  by_cases r:e=0
  ·have ae:(e != 0)=Xd:=by simp[r]
   have l:Xo (caE m Xb c=0):=dD<|Rx n.out r
   have A:=dD<|a5.out c Xb l.out;have E:Xo (∀(j:Nat) c,j<d+1->m.ca[j]? =Xa c->0<=c.idx/\c.idx<100):=show∀(j:Nat) c,_ from fun j bc b5 af=>by
    by_cases bj:j=d
    ·subst bj;rw[u.out]at af;cases af;exact A.out
    exact ay j bc Wm af
   clear r;go_upto_region 7 with fail
   cases d with
   | zero=>
    have a2:=dD<|zhU x u l.out;have ap:¬(0:Int)< ((0:Nat):Int):=Dc
    have aq:decide ((0:Int)< ((0:Nat):Int))=Xd:=Dc
    go_quiet (fail);go_wp2
    go_roundg (a - 1);exact⟨1,Wm,Wm,Gn,g.trans (show Below _ _ _ from bD (bR _ _) _),aa.aA (show Below _ _ _ from bD (bR _ _) _),a2,E⟩;omega
   | succ j=>
    obtain⟨b,X⟩:∃b,Xo (m.ca[j]? =Xa b):=⟨_,gE (by rw[a6.out];omega)⟩
    have a3:Xo (0<=b.idx/\b.idx<100):=ay.out j b Wm X.out
    have ap:(0:Int)< ((j+1:Nat):Int):=Wm
    have aq:decide ((0:Int)< ((j+1:Nat):Int))=Xc:=Sm
    have bn:((j+1:Nat):Int) - 1=(j:Int):=Wm
    have bo:(j:Int)< (a:Int):=Wm
    obtain⟨ab,L,s⟩:=aw.out j b X.out;obtain rfl:v=ab:=by cases L;rfl
    have al:=aa.gw 9 rfl
    have ag:=a1.gw 0 rfl
    have ah:=a1.gw 1 rfl
    have ai:=a1.gw 2 rfl
    have am:=fun y:zf Y=>(s _ (g.trans y.aA)).1
    have an:=fun y:zf Y=>(s _ (g.trans y.aA)).2.1
    have ao:=fun y:zf Y=>(s _ (g.trans y.aA)).2.2
    have aj:Nonempty (zf Y):=⟨⟨_,zc.refl _⟩⟩;clear s L;have z:=dD<|zow a3 A.out;refine qx [(10,⟨fun b6=>b6= Xh (QT b c),fun b6 w'=>True⟩)] zW Kr (Sa ⟨_,rfl⟩) ?hp ?_
    case hp=>
     intro bu P;simp only[mC,nM,or_false]at P;subst P;exact fun _ _ _ _ ac=>ac
    iterate 10 refine ze ?_
    refine zx rfl rfl (fun w' cb b3=>?_) (fun cd bq=>?_)
    ·refine zP.call [Xi #[I6 b.file,I6 b.idx,I6 b.fr],Xi #[I6 c.file,I6 c.idx,I6 c.fr]] rfl func65 rfl rfl rfl ?_;refine(ziQ b c w').mono ?_;rintro e bt ⟨rfl,k⟩;exact⟨_,rfl,k,rfl,trivial⟩
    subst bq;refine Uq ?_;iterate 2 refine ze ?_
    refine zL fun c9 k b3=>?_
    have C:=dD (g.trans k);have ba:=dD (aa.aA k);clear k b3 al ag ah ai am an ao aj
    cases K:QT b c with
    | true=>
     have a2:Xo (zcl m (zb0 m.ca (j+1+1)) (m.ca.drop (j+1+1))=Z):=zhU x u (by
      have ak:zb0 m.ca (j+1)=Xa b:=X.out;rw[ak,zhV l.out,kF];have:=z.out;rw[K]at this
      simpa using this)
     go_wp2
     go_roundg (a -(j+1+1));exact⟨j+1+1,Wm,Wm,Gn,C,ba,a2,E⟩;omega
    | false=>
     have h:Xo (Z=2):=dD<|by
      have ak:zb0 m.ca (j+1)=Xa b:=X.out;have H:caE m (zb0 m.ca (j+1)) c=2:=by
       rw[ak,zhV l.out,kE];have:=z.out;rw[K]at this
       simpa using this
      rw[zkj x u (by rw[H];decide),H]
     go_wp2;go_ret;exact⟨Rr h.out,C⟩
  have ae:(e != 0)=Xc:=by simp[r]
  have h:Xo (Z=e):=dD<|by
   have H:caE m (zb0 m.ca d) c=e:=by rw[zrX (Rx n.out r),n.out]
   rw[zkj x u (Rx H r),H]
  clear r;go_wp2;go_ret;exact⟨Rr h.out,g⟩
 have M:=kD t
 have:d=a:=Wm
 subst this;have h:Xo (Z=0):=dD<|by
  rw[<-x.out,Xu (by rw[a6.out];exact nR _)]
  cases zb0 m.ca d <;> rfl
 go_wp2;go_ret;exact⟨Rr h.out,I⟩
structure Jf (lo hi:Nat) (w:Xn) (x:SpV) (s:Sp):Prop where
 aH:x.aH=s.aH
 ar:zb arE lo w x.ar.v s.aD
 tb:js lo w x.tab s.tb
 arh:∀g,x.ar.v.ownBlock=Xa g->g<hi
 tbh:∀(i:Nat) v,x.tab[i]? =Xa v->∀g,v.ownBlock=Xa g->g<hi
theorem Jf.aA {a:Nat} {w:Xn} {x:SpV} {s:Sp} (h:Jf a hi w x s) (k:zc w w'):Jf a hi w' x s:=⟨h.aH,h.ar.aA k,h.tb.aA k,h.arh,h.tbh⟩
theorem Jf.at {a:Nat} {w:Xn} {x:SpV} {s:Sp} (h:Jf a hi w x s):Zf w x s:=⟨h.aH,h.ar.at,h.ar.cap,h.tb.new.now⟩
theorem js.grown {base:Nat} {w:Xn} {t:List (List En)} (h:js base w vs t) (b:w.grownBy w' (Xa g)) (c:∀(i:Nat) v,vs[i]? =Xa v->v.ownBlock≠Xa g):js base w' vs t:=
 ⟨h.len,h.aO,fun i v x a d=>(h.row i v x a d).grown b (fun b b e=>by cases e;exact c i v a b),h.two⟩
theorem Jf.beside {a:Nat} {w:Xn} {x:SpV} {s:Sp} {cs:Array Xq} (h:Jf a hi w x s) (b:w.grownBy w' (Xa g)) (c:w.heap[g]? =Xa (Xk cs t (0,0))) (f:t≠arE.ty) (j:t≠enE.ty):Jf a hi w' x s:=by
 have a:∀{c:Type} {E:Elt c} {d:Nat} {v:Xq} {l:List c},zb E d w v l->t≠E.ty->∀k,v.ownBlock=Xa k->Xa g≠Xa k:=fun d c k c e=>by
  cases e;obtain⟨i,i⟩:=d.obj c
  grind
 refine⟨h.aH,h.ar.grown b (a h.ar f),h.tb.grown b (fun i v b e=>?_),h.arh,h.tbh⟩
 obtain⟨y,c⟩:∃y,s.tb[i]? =Xa y:=⟨_,gE (by rw[h.tb.aO,<-h.tb.len];exact(gS.1 b).1)⟩
 exact a (h.tb.row i v y b c) j g e rfl
def Jk (base:Nat) (w:Xn) (v:Xq) (ss:List Sp):Prop:=
 ∃(xs:List SpV) (B:Nat->Nat),zb Jm base w v xs/\xs.length=ss.length/\base<=B 0/\(∀i,B i<=B (i+1))/\∀(i:Nat) x s,xs[i]? =Xa x->ss[i]? =Xa s->Jf (B i) (B (i+1)) w x s
theorem Jk.aA {base:Nat} {w:Xn} {v:Xq} {a:List Sp} (h:Jk base w v a) (k:zc w w'):Jk base w' v a:=by
 obtain⟨f,B,a,b,c,d,e⟩:=h;exact⟨f,B,a.aA k,b,c,d,fun i x s b a=>(e i x s b a).aA k⟩
theorem Jk.base {base:Nat} {w:Xn} {v:Xq} {a:List Sp} (h:Jk base w v a) (e:base'<=base):Jk base' w v a:=by
 obtain⟨f,B,a,b,c,c,d⟩:=h;exact⟨f,B,a.base e,b,Wm,c,d⟩
structure zco (base:Nat) (w:Xn) (kk:Nat) (xs ys:List SpV) (ss:List Sp) (B:Nat->Nat):Prop where
 len:ys.length=xs.length
 own:∀(i:Nat) y s,i<kk->ys[i]? =Xa y->ss[i]? =Xa s->Jf (B i) (B (i+1)) w y s
 rest:∀(i:Nat),kk<=i->ys[i]? =xs[i]?
 b0:base<=B 0
 mono:∀i,B i<=B (i+1)
 aE:B kk<=w.heap.size
theorem zco.aA {base:Nat} {w:Xn} {xs b:List SpV} {a:List Sp} {B:Nat->Nat} (h:zco base w kk xs b a B) (k:zc w w'):zco base w' kk xs b a B:=⟨h.len,fun i y s a c b=>(h.own i y s a c b).aA k,h.rest,h.b0,h.mono,nT h.aE (bS k)⟩
theorem zdt {B:Nat->Nat} (h:∀i,B i<=B (i+1)):∀{i j:Nat},i<=j->B i<=B j
 | i,0,a=>by rw[show i=0 from Wm];exact nR _
 | i,j+1,a=>by
  by_cases e:i=j+1
  ·subst e;exact nR _
  exact nT (zdt h Wm) (h j)
theorem Z3:Jm.ty≠arE.ty/\Jm.ty≠enE.ty:=by decide
theorem zco.step {base:Nat} {w:Xn} {xs c:List SpV} {a:List Sp} {B:Nat->Nat} {cs:Array Xq} (h:zco base w kk xs c a B) (f:w.grownBy w' (Xa g)) (j:w.heap[g]? =Xa (Xk cs Jm.ty (0,0))) (b:w'.heap.size=w.heap.size) {x:SpV} {s:Sp} (e:xs[kk]? =Xa x) (k:a[kk]? =Xa s)
  {y:SpV} (d:Jf (B kk) w.heap.size w' y s):zco base w' (kk+1) xs (c.set kk y) a (fun i=>if i<=kk then B i else w.heap.size):=by
 have a:kk<c.length:=by rw[h.len];exact(gS.1 e).1
 refine⟨by simp[h.len],fun i z k d c a=>?_,fun i d=>?_,by simpa using h.b0,fun i=>?_,by rw[kF Wm,b];exact nR _⟩
 ·by_cases e:i=kk
  ·grind
  rw[sN (fun h=>e h.symm)]at c
  have b:=(h.own i z k Wm c a).beside f j Z3.1 Z3.2
  grind
 ·rw[sN Wm]
  exact h.rest i Wm
 by_cases a:i+1<=kk
 ·rw[kE Wm,kE a]
  exact h.mono i
 rw[kF a]
 by_cases a:i<=kk
 ·rw[kE a];exact nT (zdt h.mono a) h.aE
 grind
theorem zco.all {base:Nat} {w:Xn} {xs b:List SpV} {a:List Sp} {B:Nat->Nat} {v:Xq} (h:zco base w xs.length xs b a B) (c:xs.length=a.length) (d:zb Jm base w v b):Jk base w v a:=
 ⟨b,B,d,h.len.trans c,h.b0,h.mono,fun i y s a b=>h.own i y s (by rw[<-h.len];exact(gS.1 a).1) a b⟩
theorem zo3 {base:Nat} {w:Xn} {t:List (List En)} (h:js base w us t):∃a t1 t2 t3 b c d e:Sli,us=[a.v,t1.v,t2.v,t3.v,b.v,c.v,d.v,e.v]:=by
 obtain⟨u0,u1,u2,u3,u4,u5,u6,u7,rfl⟩:=zp5 h.len;obtain⟨a,a,a,a,a,a,a,a,rfl⟩:=zp5 h.aO;obtain⟨a,j,rfl⟩:=(h.row 0 _ _ rfl rfl).form;obtain⟨b,k,rfl⟩:=(h.row 1 _ _ rfl rfl).form;obtain⟨c,l,rfl⟩:=(h.row 2 _ _ rfl rfl).form;obtain⟨d,m,rfl⟩:=(h.row 3 _ _ rfl rfl).form;obtain⟨e,n,rfl⟩:=(h.row 4 _ _ rfl rfl).form;obtain⟨f,p,rfl⟩:=(h.row 5 _ _ rfl rfl).form;obtain⟨g,q,rfl⟩:=(h.row 6 _ _ rfl rfl).form;obtain⟨i,r,rfl⟩:=(h.row 7 _ _ rfl rfl).form;exact⟨⟨a,_,j⟩,⟨b,_,k⟩,⟨c,_,l⟩,⟨d,_,m⟩,⟨e,_,n⟩,⟨f,_,p⟩,⟨g,_,q⟩,⟨i,_,r⟩,rfl⟩
theorem zfC (v k) (w:Xn) (c8:Je w v k):
  Xp prog 56 #[v] w fun e w'=>∃bp,e= Xl bp/\Jk w.heap.size w' bp k/\zc w w':=by
 obtain⟨u,b8,c9,ca⟩:=c8;have bl:=dD b8;have bk:=dD c9;have ay:=dD ca;have a0:=b8.short;obtain⟨cd,ce,rfl,_⟩:=b8.rows;obtain⟨n,L⟩:=kA u.length;rw[L.out]at a0 bl⊢;have b5:=zje _ u w bl.out
 go_enter func56,ntmps56
 go_wp2_with fail;refine b5.mono ?_;rintro e c0 ⟨da,rfl,H,c3⟩;obtain⟨bq,al,rfl⟩:=H.form;rw[L.out]at H⊢;have bx:=dD H;have bi:=dD c3;go_wp2
 go_loopg [10] n (fun c4 bb wr=>∃(a:Nat) (b:List SpV) (B:Nat->Nat),a<=n/\n - a<=c4/\bb=I6 a/\Xo (zc w wr)/\Xo (zb Jm w.heap.size wr (O bq n al) b)/\Xo (zco w.heap.size wr a u b k B))
 exact⟨0,u,fun _=>c0.heap.size,nZ _,Wm,rfl,bi,bx,⟨rfl,fun i y cp a4=>absurd a4 (nL _),fun i _=>rfl,bS bi,fun i=>nR _,nR _⟩⟩
 obtain⟨a,b,B,c7,c6,rfl,bh,M,r⟩:=hrel
 by_cases d:a<n
 ·have a5:=kC d
  obtain⟨x,C⟩:∃x,Xo (u[a]? =Xa x):=⟨_,gE (Rx L.out d)⟩
  obtain⟨s,U⟩:∃s,Xo (k[a]? =Xa s):=⟨_,gE (by rw[<-bk.out,L.out];exact d)⟩
  have z:=dD<|ay.out a x s C U.out;have bm:Xo (b[a]? =Xa x):=show _=_ by rw[r.rest a (nR _)];exact C.out
  have D:Xo (b.length=n):=dD<|by rw[r.len,L.out]
  obtain⟨g,cc,a3⟩:=M.aJ (by rw[D.out];omega)
  rw[D.out]at a3;cases a3;have a1:zoz wr ((Addr.mk g 0 Xb).add (a*10)) x:=(M.one bm).sp10;rw[Yk,zA]at a1;obtain⟨cf,cg,ch,ci,cj,ck,cl,cm,cn,co⟩:=a1;have Q:Xo (w.heap.size<=g):=dD<|(M.lt g rfl).1
  go_upto_region 5 with fail;obtain⟨ab,c⟩:=kB (wr.alloc (Xk #[Xh x.aH,x.ar.x,x.t0.x,x.t1.x,x.t2.x,x.t3.x,x.t4.x,x.t5.x,x.t6.x,x.t7.x] 76));have N:=gT c bh
  have b3:=xA c
  have b0:Xo (zb Jm w.heap.size ab (O (Xa ⟨g,0,Xb⟩) n al) b):=dD<|by rw[<-c];exact M.aA (za _ _)
  have bj:Xo (zco w.heap.size ab a u b k B):=dD<|by rw[<-c];exact r.aA (za _ _)
  have R:=dD<|(M.lt g rfl).2
  rw[c];obtain⟨cb,av⟩:=kA wr.heap.size;rw[av.out]at b3 R⊢;have cq:=b3.c 1 rfl;have b4:=zjg (x.ar.x) s.aD ab (z.ar.aA N);go_wp2_with fail;refine b4.mono ?_;rintro e c1 ⟨db,rfl,q,Y⟩;have bw:=dD q.cap;obtain⟨f,h,rfl⟩:=q.form;obtain⟨j,aw⟩:=kA s.aD.length;rw[aw.out]at q⊢;have bf:=dD q;have an:=dD (N.trans Y);have bz:=dD (b3.aA Y);have F:=dD (b0.aA Y);have bs:=dD (bj.aA Y);have A:=dD bj.aE;have S:=dD<|bS Y
  go_wp2_with (refine zt (E:=Jm) rfl (.tmp 21) (.tmp 19) 71 rfl w.heap.size _ b F g a 1 rfl x { x with ar:=⟨f,j,h⟩ } bm.out [O f j h] ?s1 rfl ?s2 ?s3 ⟨g,a*10+1,Xb⟩ rfl rfl (O f j h) rfl rfl ?_)
  case s1=>kernel_rfl
  case s2=>show 1+1<=10;omega
  case s3=>simp;rfl
  intro l b9 m bc;have aq:Xo (∃X,c1.heap[g]? =Xa (Xk X Jm.ty (0,0))):=F.obj rfl;have P:=dD<|zd an m Q.out
  have t:Xo (Box l cb [Xh x.aH,x.ar.x,x.t0.x,x.t1.x,x.t2.x,x.t3.x,x.t4.x,x.t5.x,x.t6.x,x.t7.x]):=bz.grown m (Hm R.out)
  have b1:Xo (zb Jm w.heap.size l (O (Xa ⟨g,0,Xb⟩) n al) (b.set a { x with ar:=⟨f,j,h⟩ })):=b9;have br:Xo (zb arE ab.heap.size l (O f j h) s.aD):=bf.grown m (fun ac I e=>by
   cases e;exact F.apart bf Z3.1 g rfl I)
  have bt:Xo (∀(i:Nat) y K,i<a->b[i]? =Xa y->k[i]? =Xa K->Jf (B i) (B (i+1)) l y K):=dD<|fun i y K a4 a7 b7=>by
   obtain⟨X,p⟩:=aq.out;exact(bs.own i y K a4 a7 b7).beside m p Z3.1 Z3.2
  have T:=dD bc;have b6:=zg3 x.tab s.tb l (z.aA P).tb;have a2:Xp prog 105 #[Xi #[x.t0.x,x.t1.x,x.t2.x,x.t3.x,x.t4.x,x.t5.x,x.t6.x,x.t7.x]] l fun e w'=>∃be,e= Xl (Xi be.toArray)/\js (l.heap.size+2) w' be s.tb/\zc l w'/\l.heap.size+2<=w'.heap.size:=b6
  have cr:=t.c 2 rfl;have ct:=t.c 3 rfl;have cu:=t.c 4 rfl;have cv:=t.c 5 rfl;have cw:=t.c 6 rfl;have cx:=t.c 7 rfl;have cy:=t.c 8 rfl;have cz:=t.c 9 rfl;go_wp2_with fail;refine a2.mono ?_;rintro e W ⟨be,rfl,a8,Z,_⟩;obtain⟨ad,ae,af,ag,ah,ai,aj,ak,rfl⟩:=zo3 a8;have aa:=dD a8;have ao:=dD (P.trans Z);have V:=dD (b1.aA Z);have bg:=dD (br.aA Z);have bu:=dD<|fun (i:Nat) y K (a4:i<a) (a7:b[i]? =Xa y) (b7:k[i]? =Xa K)=>(bt i y K a4 a7 b7).aA Z
  have ax:=dD<|bS Z
  have az:Xo ((b.set a { x with ar:=⟨f,j,h⟩ })[a]? =Xa { x with ar:=⟨f,j,h⟩ }):=dD<|sF (Rx D.out d)
  go_wp2_with (refine zt (E:=Jm) rfl (.tmp 28) (.tmp 26) 74 rfl w.heap.size _ _ V g a 2 rfl { x with ar:=⟨f,j,h⟩ } ⟨x.aH,⟨f,j,h⟩,ad,ae,af,ag,ah,ai,aj,ak⟩ az.out [ad.v,ae.v,af.v,ag.v,ah.v,ai.v,aj.v,ak.v] ?s1 rfl ?s2 ?s3 ⟨g,a*10+2,Xb⟩ rfl rfl _ rfl rfl ?_)
  case s1=>kernel_rfl
  case s2=>show 2+8<=10;omega
  case s3=>
   intro bo a6;simp only[mC,nM,or_false]at a6
   rcases a6 with rfl|rfl|rfl|rfl|rfl|rfl|rfl|rfl <;> rfl
  intro c2 ba G bd;have au:Xo (∃X,W.heap[g]? =Xa (Xk X Jm.ty (0,0))):=V.obj rfl;have ap:=dD<|zd ao G Q.out
  have b2:=dD ba;have am:Xo (zco w.heap.size c2 (a+1) u (b.set a ⟨x.aH,⟨f,j,h⟩,ad,ae,af,ag,ah,ai,aj,ak⟩) k (fun i=>if i<=a then B i else W.heap.size)):=show zco _ _ _ _ _ _ _ by
   obtain⟨X,p⟩:=au.out;have c5:zco w.heap.size W a u b k B:=⟨r.len,bu,r.rest,r.b0,r.mono,by have:=A.out;have:=S.out;have:=T.out;have:=ax.out;omega⟩
   refine c5.step G p bd C U.out ?_;have a9:Jf (B a) W.heap.size W ⟨x.aH,⟨f,j,h⟩,ad,ae,af,ag,ah,ai,aj,ak⟩ s:=⟨z.aH,bg.base A,aa.base (by have:=A.out;have:=S.out;have:=T.out;omega),fun ac I=>(bg.lt ac I).2,fun i bo a6 ac I=>by
    obtain⟨y,a7⟩:∃y,s.tb[i]? =Xa y:=⟨_,gE (by rw[aa.aO,<-aa.len];exact(gS.1 a6).1)⟩
    exact((aa.row i bo y a6 a7).lt ac I).2⟩
   exact a9.beside G p Z3.1 Z3.2
  go_wp2
  go_roundg (n -(a+1));exact⟨a+1,_,_,Wm,Wm,Gn,ap,b2,am⟩;omega
 have a5:=kD d
 have:a=n:=Wm
 subst this;have bv:Xo (Jk w.heap.size wr (O bq a al) k):=dD<|by
  have bn:=r.out;rw[<-L.out]at bn;exact bn.all bk M.out
 go_wp2;go_ret;exact⟨_,rfl,bv,bh⟩
theorem zd0 (v fs) (w:Xn) (h:zj qi w v fs):
  Xp prog 98 #[v] w fun e w'=>∃d,e= Xl d/\zb qi w.heap.size w' d fs/\zc w w':=by
 have i:=dD h;obtain⟨⟨f,g,rfl,b,c⟩,a⟩:=h;have h:=fun w f n g j h=>Lib.run_eql_slice_nil w _ _ f n g j h underlying30
 cases f with
 | none=>
  have f:=b rfl;subst f;clear c b a
  go_enter func98,ntmps98
  go_wp2;go_ret;exact⟨_,rfl,zb.nil qi _ _,zc.refl w⟩
 | some x=>
  have f:=dD a;clear c b a
  go_enter func98,ntmps98
  go_wp2_with (at_builtin;refine zu (E:=qi) rfl (.tmp 5) (.tmp 6) rfl w.heap.size _ [] rfl (zb.made qi w) _ fs rfl (i.aA (za _ _)) ?qb Sm ?_)
  case qb=>rw[Yb,zA];exact f.out
  intro d a b a;go_wp2;go_ret;exact⟨d,rfl,Si b,((bR _ w).alloc (nR _) _).grown a Sm (by intro k a;simp[Value.ownBlock]at a;omega)⟩
theorem QF (a) (c:Nat) (fs:List Fr) (h:Int) (w:Xn) (i:zj qi w (O a fs.length c) fs):
  Xp prog 51 #[Xi #[O a fs.length c,I6 h]] w fun e w'=>∃b,e= Xl (Xi #[b,I6 h])/\zb qi w.heap.size w' b fs/\zc w w':=by
 have r:=dD i;clear i;obtain⟨n,d⟩:=kA fs.length;rw[d.out]at r⊢
 go_enter func51,ntmps51
 go_wp2;obtain⟨g,d⟩:=kB ((w.alloc (Xk #[O a n c,I6 h] 32)).alloc (Xk #[eS,I6 0] 32));have f:=gD2 d
 have l:Xo (g.heap.size=w.heap.size+2):=dD<|by rw[<-d];simp
 have j:=x2a d
 have s:=x2b d
 rw[d];clear d;have m:=fun x:zf g=>(j.aA x.aA).c 0 rfl
 have q:=fun x:zf g=>(j.aA x.aA).c 1 rfl
 have k:Nonempty (zf g):=⟨⟨_,zc.refl _⟩⟩;refine jf 6 [(2,⟨fun g=>∃a n c,g= O a n c,fun g w'=>zb qi (w.heap.size+2) w' g fs⟩)] zW Kr rfl rfl Dc ?_ ?_ ?_
 ·intro x d
  simp at d
  subst d;exact⟨_,Xb,0,0,rfl⟩
 ·intro x d
  simp at d
  subst d;intro g d d d h;exact h.aA d
 simp only[Ol,Om];iterate 2 refine ze ?_
 refine zx rfl rfl (fun w' d j=>?_) (fun g i=>?_)
 ·refine zP.call [O a n c] rfl func98 rfl rfl rfl ?_;refine(zd0 _ fs w' (r.aA (f.out.trans d))).mono ?_;rintro e g ⟨g,rfl,n,g⟩;obtain⟨r,r,rfl⟩:=n.form;exact⟨_,rfl,g,⟨_,_,_,rfl⟩,n.base (by have:=bS d;rw[l.out]at this;exact this)⟩
 obtain⟨l,r,n,rfl⟩:=i;refine Uq ?_;iterate 3 refine ze ?_
 refine zL fun w' d j=>?_
 have i:=dD<|j 2;have g:=s.aA d;obtain⟨s,s⟩:=g.k2;have s:=g.f;have g:=dD (f.out.trans d);clear j m q d k;go_wp2;refine bodyPost_ret (v:= Xi #[O l r n,I6 h]) (by simp[results,Tryz.results51,go_sem, *]) rfl ⟨_,rfl,((i.out.setCell Sm _).setCell Sm _).base Wm,?_⟩
 exact Below.setCell (Below.setCell g (p:=⟨w.heap.size+1,0,Xb⟩) Sm _) (p:=⟨w.heap.size+1,1,Xb⟩) Sm _
def isZ (z:Int):Bool:=z == 0
def zqw (fs:List Int):Int:=if fs.findIdx isZ<fs.length then(fs.findIdx isZ:Int)else -1
theorem zli (v fs w) (s:zj slE w v fs):
  Xp prog 247 #[v,I6 0] w fun e w'=>e= Xl (I6 (zqw fs))/\zc w w':=by
 have g:=s.short;obtain⟨E,G,rfl,c⟩:=s.sls;have y:=dD c;clear c s;obtain⟨n,m⟩:=kA fs.length;rw[m.out]at g⊢
 go_enter func247,ntmps247
 go_wp2
 go_loopg [5,8] n (fun z _ D wr=>∃a:Nat,a<=n/\n - a<=z/\D=I6 a/\Xo (zc w wr)/\Xo (∀j q,j<a->fs[j]? =Xa q->isZ q=Xd))
 exact⟨0,nZ _,Wm,rfl,zc.refl w,fun j q h=>absurd h (nL _)⟩
 obtain⟨a,B,K,rfl,l,A⟩:=hrel
 by_cases b:a<n
 ·have i:=kC b
  obtain⟨q,r⟩:∃q,Xo (fs[a]? =Xa q):=⟨_,gE (Rx m.out b)⟩
  obtain⟨F,rfl,u⟩:=y.out a q r.out;have H:=u wr l.out;clear u
  by_cases f:q=0
  ·have p:Xo (zqw fs=(a:Int)):=dD<|by unfold zqw;rw[zp0 r (by simp[isZ,f]) A,m,kE b]
   have t:(q == 0)=Xc:=by simp[f]
   have k:((0:Int) == q)=Xc:=by simp[f]
   clear f;go_wp2;go_ret;exact⟨Rr p.out,l⟩
  have x:Xo (∀(j:Nat) q,j<a+1->fs[j]? =Xa q->isZ q=Xd):=dD<|fun j C h d=>by
   by_cases e:j=a
   ·subst e;rw[r.out]at d;cases d
    simpa [isZ]using f
   exact A j C Wm d
  have t:(q == 0)=Xd:=by simp[f]
  have k:((0:Int) == q)=Xd:=by simp;omega
  clear f;go_wp2
  go_roundg (n -(a+1));exact⟨a+1,Wm,Wm,Gn,l,x⟩;omega
 have i:=kD b
 have:a=n:=Wm
 subst this;have p:Xo (zqw fs=-1):=dD<|by
  unfold zqw;rw[zpZ (fun j q h=>A.out j q (by rw[<-m.out];exact(gS.1 h).1) h),kF (Nat.lt_irrefl _)]
 go_wp2;go_ret;exact⟨Rr p.out,l⟩
theorem zcj (v fs) (w:Xn) (h:zj slE w v fs):
  Xp prog 52 #[v] w fun e w'=>∃d,e= Xl d/\zb slE w.heap.size w' d fs/\zc w w':=by
 have i:=dD h;obtain⟨⟨f,g,rfl,b,c⟩,a⟩:=h;have h:=fun w f n g j h=>Lib.run_eql_slice_nil w _ _ f n g j h underlying34
 cases f with
 | none=>
  have f:=b rfl;subst f;clear c b a
  go_enter func52,ntmps52
  go_wp2;go_ret;exact⟨_,rfl,zb.nil _ _ _,zc.refl w⟩
 | some x=>
  have f:=dD a;clear c b a
  go_enter func52,ntmps52
  go_wp2_with (at_builtin;refine zu (E:=slE) rfl (.tmp 5) (.tmp 6) rfl w.heap.size _ [] rfl (zb.made slE w) _ fs rfl (i.aA (za _ _)) ?qb Sm ?_)
  case qb=>rw[Yb,zA];exact f.out
  intro d a b a;go_wp2;go_ret;exact⟨d,rfl,Si b,((bR _ w).alloc (nR _) _).grown a Sm (by intro k a;simp[Value.ownBlock]at a;omega)⟩
section
variable(I:Xn->Prop) (P:Program) (ops:Array Oper) (S:Nat->Option (Xq->Prop)) (R:Nat->Bool)
def ja (i:Nat) (F:Xn->Prop) (a:Act) (K:(Xn->Prop)->Act->Prop):Prop:=
 match ops[i]? with
 | none=>False
 | some o=>
  if Xs o (yielded ops a.tmps)then
   match S i with
   | none=>∃v,(∀w,I w->(R i=Xc->F w)->(execOp a.eval o).run P w= .ok (.value v) w)/\K F (a.put o.dst v)
   | some s=>∃p:Xq->Xn->Prop,(∀w,I w->F w->zP P o a w fun v w'=>I w'/\s v/\p v w')/\∀v,s v->K (p v) (a.put o.dst v)
  else K F (a.put o.dst undef)
end
section
variable{I:Xn->Prop} {P:Program} {ops:Array Oper} {S:Nat->Option (Xq->Prop)} {R:Nat->Bool} {T:Nat}
theorem ja.mono {i:Nat} {F:Xn->Prop} {a:Act} {K d:(Xn->Prop)->Act->Prop}
  (h:∀c e,K c e->d c e) (b:ja I P ops S R i F a K):ja I P ops S R i F a d:=by
 unfold ja at*
 split
 ·grind
 rename_i c c
 simp only[c]at b
 split
 ·rename_i c
  simp only[c,if_true]at b
  split
  ·grind
  rename_i s c
  simp only[c]at b;obtain⟨p,c,b⟩:=b;exact⟨p,c,fun v c=>h _ _ (b v c)⟩
 grind
theorem ja.swap {i:Nat} {c:Oper} {F:Xn->Prop} {a:Act} {K:(Xn->Prop)->Act->Prop} {w:Xn}
  (hi:ops[i]? =Xa c) (t:ops[j]? =Xa oj) (f:c.apart ops oj=Xc)
  (g:∀cs b,c.op≠.select cs b) (k:∀cs b,oj.op≠.select cs b)
  (l:anc ops 9 i j=Xd) (m:anc ops 9 j i=Xd) (hS:∀s,S i=Xa s->∃v,s v) (n:S i≠Xb->(S j≠Xb\/R j=Xc)->anc ops 9 i j=Xc\/anc ops 9 j i=Xc) (x:R i=Xc->S j≠Xb->anc ops 9 i j=Xc\/anc ops 9 j i=Xc)
  (q:I w)
  (h:ja I P ops S R i F a fun d e=>ja I P ops S R j d e K):ja I P ops S R j F a fun d e=>ja I P ops S R i d e K:=by
 obtain⟨e,r,p⟩:=Oper.apart_spec f;have d:∀v,execOp (a.put oj.dst v).eval c=execOp a.eval c:=fun v=>execOp_put c g a oj.dst v p
 have f:∀v,execOp (a.put c.dst v).eval oj=execOp a.eval oj:=fun v=>execOp_put oj k a c.dst v e
 have y:∀v,Xs c (yielded ops (a.put oj.dst v).tmps)=Xs c (yielded ops a.tmps):=fun v=>wanted_put c a oj.dst v p
 have z:∀v,Xs oj (yielded ops (a.put c.dst v).tmps)=Xs oj (yielded ops a.tmps):=fun v=>wanted_put oj a c.dst v e
 have g:∀v w K,zP P c (a.put oj.dst v) w K=zP P c a w K:=fun v w K=>by unfold zP;rw[d]
 have k:∀v w K,zP P oj (a.put c.dst v) w K=zP P oj a w K:=fun v w K=>by unfold zP;rw[f]
 have p:∀v u,(a.put c.dst v).put oj.dst u=(a.put oj.dst u).put c.dst v:=fun v u=>Act.put_comm a v u r
 unfold ja at h⊢;simp only[hi,t,d,f,y,z,g,k,p]at h⊢
 cases d:Xs c (yielded ops a.tmps) <;> cases c:Xs oj (yielded ops a.tmps) <;>
  simp only[d,c,if_true,if_false,Oc]at h⊢
 ·exact h
 ·cases c:S j with
  | none=>simp only[c]at h⊢;exact h
  | some s=>simp only[c]at h⊢;exact h
 ·cases d:S i with
  | none=>simp only[d]at h⊢;exact h
  | some s=>simp only[d]at h⊢;exact h
 cases d:S i with
 | none=>
  simp only[d]at h;obtain⟨r,k,h⟩:=h
  cases c:S j with
  | none=>
   simp only[c]at h⊢;obtain⟨p,g,h⟩:=h;exact⟨p,g,r,k,h⟩
  | some s=>
   simp only[c]at h⊢;obtain⟨y,u,z⟩:=h;have t:R i≠Xc:=fun f=>by
    rcases x f (by rw[c];simp)with e|e
    ·rw[l]at e;cases e
    rw[m]at e;cases e
   exact⟨y,u,fun p u=>⟨r,fun w x _=>k w x (fun f=>absurd f t),z p u⟩⟩
 | some k=>
  simp only[d]at h;obtain⟨y,t,h⟩:=h;obtain⟨z,u⟩:=hS k d
  cases c:S j with
  | none=>
   simp only[c]at h⊢;have k:R j≠Xc:=fun f=>by
    rcases n (by rw[d];simp) (.inr f)with e|e
    ·rw[l]at e;cases e
    rw[m]at e;cases e
   obtain⟨p,g,_⟩:=h z u;refine⟨p,fun w x _=>g w x (fun f=>absurd f k),y,t,fun r t=>?_⟩
   obtain⟨p,p,u⟩:=h r t;have h:=g w q (fun f=>absurd f k)
   have g:=p w q (fun f=>absurd f k)
   rw[h]at g;simp only[Result.ok.injEq,Next.value.injEq,and_true]at g;subst g;exact u
  | some f=>
   exfalso
   rcases n (by rw[d];simp) (.inl (by rw[c];simp))with e|e
   ·rw[l]at e;cases e
   rw[m]at e;cases e
theorem zth (hS:∀k s,S k=Xa s->∃v,s v) (b:∀i k,i<k->(S i≠Xb/\(S k≠Xb\/R k=Xc))\/(R i=Xc/\S k≠Xb)->anc ops 9 i k=Xc):
  Way P ops (ja I P ops S R) (fun _ _=>∃w,I w) (fun _ F _ w=>I w/\F w) where
 mono h:=ja.mono fun c d=>h c d fun _ _ h=>h
 swap hi hj hlt hap hsi hsj hij hji:=fun⟨_,c⟩=>ja.swap hi hj hap hsi hsj hij hji (hS _) (fun d e=> .inl (b _ _ hlt (.inl ⟨d,e⟩))) (fun d e=> .inl (b _ _ hlt (.inr ⟨d,e⟩))) c
 lean _ h:=⟨_,h.1⟩
 step {listed F a w j oj K N Q} hsz hoj h0 hc hok hcm hN:=by
  obtain⟨c,d⟩:=hok;simp only[ja,hoj]at hcm
  split
  ·rename_i b
   simp only[b,if_true]at hcm
   cases f:S j with
   | none=>
    simp only[f]at hcm;obtain⟨v,b,e⟩:=hcm;unfold Oper.wp;rw[b w c fun _=>d]
    exact hN F _ w ⟨c,d⟩ e
   | some s=>
    simp only[f]at hcm;obtain⟨p,b,e⟩:=hcm;exact(b w c d).wp fun v f ⟨c,d,b⟩=>hN (p v) _ f ⟨c,b⟩ (e v d)
  grind
variable{Q:Act->Xn->Prop}
variable(I P ops S R Q)in
abbrev Jr:List Oper->Nat->(Xn->Prop)->Act->Prop:=zh1 ops (ja I P ops S R) fun F a=>∀w,I w->F w->Q a w
theorem Qi {Q:Exit->Act->Xn->Prop} {a:Act} {w:Xn} {l r:List Oper} (T:Nat) (S:List (Nat ×(Xq->Prop))) (b:List Nat) (F:Xn->Prop) (f:I w.drew) (d:F w.drew) (n:P.follows .mixedOrders=Xc) (c:Q7 L.toArray T=Xc) (m:L.take T=l) (p:L.drop T=r) (j:T<=L.length)
  (hS:∀x∈S,∃v,x.2 v) (g:((S.map (·.1)++b).all fun i=>(S.map (·.1)++b).all fun k=>!decide (i<k) || anc L.toArray 9 i k || (b.contains i && b.contains k))=Xc) (e:(b.all fun i=>(S.lookup i).isNone)=Xc)
  (h:Jr I P L.toArray (fun k=>S.lookup k) (fun k=>b.contains k) (fun a w=>wpList P L.toArray Q r a w) l 0 F a):(Code.region id L.toArray Xc).wp P Q a w:=by
 refine zmi (zth ?_ ?_) T n c m p j (fun _=>⟨f,d⟩) (fun _ _ _ _ c h=>h _ c.1 c.2) h
 ·intro k s d;obtain⟨x,f,rfl,_⟩:=zah d;exact hS x f
 intro i k h m;have c:∀k,S.lookup k≠Xb->k∈S.map (·.1)++b/\b.contains k=Xd:=fun k d=>by
  obtain⟨s,j⟩:=Option.ne_none_iff_exists'.1 d;obtain⟨x,f,_,rfl⟩:=zah j;refine⟨Yi.2 (.inl (Yc.2 ⟨x,f,rfl⟩)),?_⟩
  cases f:b.contains x.1 with
  | false=>rfl
  | true=>
   have:=Yf.1 e x.1 (Si f)
   rw[j]at this;cases this
 have f:∀k,b.contains k=Xc->k∈S.map (·.1)++b:=fun k d=>Yi.2 (.inr (Si d))
 have e:i∈S.map (·.1)++b->k∈S.map (·.1)++b->(b.contains i && b.contains k)=Xd->anc L.toArray 9 i k=Xc:=fun b d j=>by
  have:=Yf.1 (Yf.1 g i b) k d;rw[j]at this
  simpa [h]using this
 rcases m with⟨b,d|d⟩|⟨b,d⟩
 ·exact e (c i b).1 (c k d).1 (by rw[(c i b).2];rfl)
 ·exact e (c i b).1 (f k d) (by rw[(c i b).2];rfl)
 exact e (f i b) (c k d).1 (by rw[(c k d).2,Bool.and_false])
variable{o:Oper} {rest:List Oper} {k:Nat} {F:Xn->Prop} {a:Act}
theorem zdx (h:ops[k]? =Xa o->ja I P ops S R k F a (Jr I P ops S R Q rest (k+1))):Jr I P ops S R Q (o :: rest) k F a:=zh1.cons (fun h=>ja.mono h) h
theorem zbw (e:Xs o (yielded ops a.tmps)=Xc) (hS:S k=Xb) {v:Xq} (c:∀w,I w->(R k=Xc->F w)->(execOp a.eval o).run P w= .ok (.value v) w) (d:Jr I P ops S R Q rest (k+1) F (a.put o.dst v)):Jr I P ops S R Q (o :: rest) k F a:=zdx fun b=>by
 simp only[ja,b,e,if_true,hS];exact⟨v,c,d⟩
theorem Zq (e:zo2 o=Xc) (b:Xs o (yielded ops a.tmps)=Xc) (hS:S k=Xb)
  (h:∀K:Act->Prop,(∀a,Jr I P ops S R Q rest (k+1) F a->K a)->o.quiet P a (fun w'=>∃x:zq I,w'=x.world) K):Jr I P ops S R Q (o :: rest) k F a:=by
 obtain⟨v,c,d⟩:=zbm e (h _ fun _ h=>h)
 exact zbw b hS (fun w b _=>c w ⟨⟨w,b⟩,rfl⟩) d
theorem qF{P Q:Prop}(k:Q)(h:Go.RowKit.Hid Q->P:=by intro h;refine Zq rfl rfl rfl (fun K a=>?_);go_big_quiet_op;exact a _ h.out):P:=h k
theorem zbx (b:Xs o (yielded ops a.tmps)=Xc) (hS:S k=Xb) (f:R k=Xc) (v) (c:∀w,I w->F w->(execOp a.eval o).run P w= .ok (.value v) w) (d:Jr I P ops S R Q rest (k+1) F (a.put o.dst v)):Jr I P ops S R Q (o :: rest) k F a:=zbw b hS (fun w b e=>c w b (e f)) d
theorem zdy (b:Xs o (yielded ops a.tmps)=Xd) (h:Jr I P ops S R Q rest (k+1) F (a.put o.dst undef)):Jr I P ops S R Q (o :: rest) k F a:=zdx fun b=>by grind [ja,Oc]
theorem JQ {s:Xq->Prop} (d:Xs o (yielded ops a.tmps)=Xc) (hS:S k=Xa s) (p:Xq->Xn->Prop)
  (h:∀w,I w->F w->zP P o a w fun v w'=>I w'/\s v/\p v w')
  (c:∀v,s v->Jr I P ops S R Q rest (k+1) (p v) (a.put o.dst v)):Jr I P ops S R Q (o :: rest) k F a:=zdx fun b=>by
 simp only[ja,b,d,if_true,hS];exact⟨p,h,c⟩
theorem JR (x p) (b:o.op= .nilCheck x) (d:a.eval x= Xj (Xa p)) (c:Xs o (yielded ops a.tmps)=Xc) (hS:S k=Xb) (h:Jr I P ops S R Q rest (k+1) F (a.put o.dst (Xj (Xa p)))):Jr I P ops S R Q (o :: rest) k F a:=zbw c hS (fun _ _ _=>zjF x p b d) h
theorem zak (h:∀w,I w->F w->Q a w):Jr I P ops S R Q [] k F a:=⟨fun _=>h⟩
end
section
variable{I:Xn->Prop} {P:Program} {ops:Array Oper} {S:Nat->Option (Xq->Prop)} {Q:Act->Xn->Prop}
variable(I P ops S Q)in
structure zl1 (l:List Oper) (k:Nat) (F:Nat->Xn->Prop) (a:Act):Prop where
 out:(∀i w w',zc w w'->F i w->F i w')->Jr I P ops S (fun _=>Xd) Q l k (fun w=>∀i,F i w) a
theorem zgq {Q:Exit->Act->Xn->Prop} {a:Act} {w:Xn} {l r:List Oper} (T:Nat) (S:List (Nat ×(Xq->Prop))) (d:I w.drew) (g:P.follows .mixedOrders=Xc) (c:Q7 L.toArray T=Xc) (f:L.take T=l) (j:L.drop T=r) (e:T<=L.length)
  (hS:∀x∈S,∃v,x.2 v) (b:((S.map (·.1)).all fun i=>(S.map (·.1)).all fun k=>!decide (i<k) || anc L.toArray 9 i k)=Xc)
  (h:zl1 I P L.toArray (fun k=>S.lookup k) (fun a w=>wpList P L.toArray Q r a w) l 0 (fun _ _=>True) a):(Code.region id L.toArray Xc).wp P Q a w:=
 Qi T S [] _ d (fun _=>trivial) g c f j e hS (Si b) rfl (h.out fun _ _ _ _ h=>h)
variable{o:Oper} {rest:List Oper} {k:Nat} {F:Nat->Xn->Prop} {a:Act}
theorem zld (f:zo2 o=Xc) (b:Xs o (yielded ops a.tmps)=Xc) (hS:S k=Xb)
  (h:∀K:Act->Prop,(∀a,zl1 I P ops S Q rest (k+1) F a->K a)->o.quiet P a (fun w'=>∃x:zq I,w'=x.world) K):zl1 I P ops S Q (o :: rest) k F a:=⟨fun e=>by
 obtain⟨v,c,d⟩:=zbm f (h _ fun _ h=>h)
 exact zbw b hS (fun w b _=>c w ⟨⟨w,b⟩,rfl⟩) (d.out e)⟩
theorem j6{P Q:Prop}(k:Q)(h:Go.RowKit.Hid Q->P:=by intro h;refine zld rfl rfl rfl (fun K a=>?_);go_big_quiet_op;exact a _ h.out):P:=h k
theorem Z7 {s:Xq->Prop} (b:Xs o (yielded ops a.tmps)=Xc) (hS:S k=Xa s) (p:Xq->Xn->Prop) (hp:∀v w w',zc w w'->p v w->p v w')
  (h:∀w,I w->(∀m,anc ops 9 m k=Xc->F m w)->zP P o a w fun v w'=>I w'/\zc w w'/\s v/\p v w')
  (e:∀v,s v->zl1 I P ops S Q rest (k+1) (zdG F k (p v)) (a.put o.dst v)):zl1 I P ops S Q (o :: rest) k F a:=⟨fun c=>JQ b hS (fun v w=>∀i,zdG F k (p v) i w) (fun w d b=>(h w d fun m _=>b m).mono fun v w' ⟨d,f,g,h⟩=>⟨d,g,fun i=>by
 unfold zdG
 split
 ·exact h
 ·exact c i w w' f (b i)⟩) fun v b=>(e v b).out fun i w w' b=>by
 unfold zdG
 split
 ·exact hp v w w' b
 exact c i w w' b⟩
theorem zpJ (h:∀w,I w->(∀i,F i w)->Q a w):zl1 I P ops S Q [] k F a:=⟨fun _=>zak h⟩
end
structure zed (base:Nat) (w:Xn) (V:MaV) (m:Ma):Prop where
 fs:zb qi base w (O V.f.a V.f.n V.f.c) m.fs
 sl:zb slE base w (O V.s.a V.s.n V.s.c) m.sl
 sb:zs base w (O V.sb.a V.sb.n V.sb.c) m.sb
 sq:zo base w (O V.sq.a V.sq.n V.sq.c) m.sq
 db:zs base w (O V.db.a V.db.n V.db.c) m.db
 dq:zo base w (O V.dq.a V.dq.n V.dq.c) m.dq
 fl:∃lo,z4 lo w (O V.fl.a V.fl.n V.fl.c) m.fl/\base<=lo/\∀g,(O V.s.a V.s.n V.s.c).ownBlock=Xa g->g<lo
 ca:zb Zz base w (O V.ca.a V.ca.n V.ca.c) m.ca
 sp:Jk base w (O V.sp.a V.sp.n V.sp.c) m.sp
 ap:∀g,(O V.sb.a V.sb.n V.sb.c).ownBlock=Xa g->(O V.db.a V.db.n V.db.c).ownBlock≠Xa g
theorem qo.bQ {w:Xn} {v:Xq} {fs:List Fl} (h:qo B0 B1 w v fs):z7 w v fs:=by
 obtain⟨a,e,b,d,c⟩:=h;exact⟨a,e,b.now.s0,d,fun i x f b a=>⟨(c i x f b a).1,(c i x f b a).2.now.s0⟩⟩
theorem zed.aA {base:Nat} {w:Xn} (h:zed base w V m) (k:zc w w'):zed base w' V m:=by
 obtain⟨d,c,a,b⟩:=h.fl;exact⟨h.fs.aA k,h.sl.aA k,h.sb.aA k,h.sq.aA k,h.db.aA k,h.dq.aA k,⟨d,c.aA k,a,b⟩,h.ca.aA k,h.sp.aA k,h.ap⟩
theorem zjM {base:Nat} {w:Xn} {v:Xq} {l:List (List Int)} (h:zs base w v l):∀g,v.ownBlock=Xa g->base<=g/\g<w.heap.size:=h.1.lt
theorem Z6 {w:Xn} {base a n:Nat} {e:TypeId} {v:Xq} (h:w.ownsRow base e a v n xs) (i:w.grownBy w' (Xa g)) (b:g<base):w'.ownsRow base e a v n xs:=by
 refine⟨h.1,?_⟩
 rcases h.2 with a|⟨c,a,b,rfl,f,d,h⟩
 ·grind
 exact .inr ⟨c,a,b,rfl,f,by rw[i.block c (aS.1 d).1 (fun e=>by cases e;omega)];exact d,h⟩
theorem zb.low {α:Type} {E:Elt α} {base:Nat} {w:Xn} {v:Xq} {l:List α} (h:zb E base w v l) (b:w.grownBy w' (Xa g)) (a:g<base):zb E base w' v l:=⟨Z6 h.1 b a,h.2⟩
theorem Jf.low {b:Nat} {w:Xn} {x:SpV} {s:Sp} (h:Jf b hi w x s) (c:w.grownBy w' (Xa g)) (a:g<b):Jf b hi w' x s:=
 ⟨h.aH,h.ar.low c a,⟨h.tb.len,h.tb.aO,fun i v y b d=>(h.tb.row i v y b d).low c a,h.tb.two⟩,h.arh,h.tbh⟩
theorem zed.below {base:Nat} {w:Xn} (h:zed base w V m) (b:w.grownBy w' (Xa g)) (a:g<base) (c:base'<=base):zed base' w' V m:=by
 obtain⟨i,⟨j,d,f,e,l⟩,k,n⟩:=h.fl;obtain⟨s,B,p,q,k,k,r⟩:=h.sp;refine⟨(h.fs.low b a).base c,(h.sl.low b a).base c,⟨jz (Z6 h.sb.1 b a) c,h.sb.2⟩,⟨jz (Z6 h.sq.1 b a) c,h.sq.2⟩,⟨jz (Z6 h.db.1 b a) c,h.db.2⟩,⟨jz (Z6 h.dq.1 b a) c,h.dq.2⟩,⟨i,⟨j,d.low b Wm,f,fun i x f d j=>⟨(e i x f d j).1,(e i x f d j).2.low b Wm⟩,l⟩,Wm,n⟩,(h.ca.low b a).base c,⟨s,B,(p.low b a).base c,q,Wm,k,fun i x s d a=>(r i x s d a).low b ?_⟩,h.ap⟩
 have:=zdt k (nZ i);omega
theorem zfD (V m) (w:Xn) (b:zw w V m):
  Xp prog 23 #[Xi (mL V m).toArray] w fun e w'=>∃V':MaV,e= Xl (Xi (mL V' m).toArray)/\zed w.heap.size w' V' m/\zc w w':=by
 obtain⟨c,C,-⟩:=b.ns;have a:=dD b;have i:Xo (∀W,zc w W->Xp prog 51 #[Xi #[V.f.x,I6 m.aB]] W fun e w'=>∃f,e= Xl (Xi #[f,I6 m.aB])/\zb qi W.heap.size w' f m.fs/\zc W w'):=show∀W,_ from fun W a=>by
  have k:=(b.aA a).fs;(try simp only[Sli.x]at k⊢);rw[c]at k⊢;exact QF _ _ m.fs m.aB W k
 have y:=dD<|fun W (a:zc w W)=>zcj _ m.sl W (b.aA a).sl
 have D:=dD<|fun W (a:zc w W)=>zb2 _ m.sb m.sq W ⟨_,_,rfl,(b.aA a).sb,(b.aA a).sq⟩
 have T:=dD<|fun W (a:zc w W)=>zb2 _ m.db m.dq W ⟨_,_,rfl,(b.aA a).db,(b.aA a).dq⟩
 have X:=dD<|fun W (a:zc w W)=>JJ _ m.fl m.cnt W (b.aA a).fl
 have Y:=dD<|fun W (a:zc w W)=>zjf _ m.ca W (b.aA a).ca
 have Z:=dD<|fun W (a:zc w W)=>zfC _ m.sp W (b.aA a).sp
 clear b c C;obtain⟨g,a⟩:=kB ((w.alloc (Xk (mL V m).toArray 45)).alloc (Xk zM.toArray 45));have h:=gD2 a
 have b:=x2a a
 have ad:=x2b a
 have d:Xo (g.heap.size=(w.heap.size+1+1)):=dD<|by rw[<-a];simp
 have c:=dD a;clear a
 go_enter func23,ntmps23
 go_upto_region 1 with fail;rw[c.out];obtain⟨a,j⟩:∃a:Xn->Prop,a=fun u=>zc g u:=⟨_,rfl⟩
 have c:Xo (∀u,a u↔zc g u):=dD<|fun u=>by rw[j]
 clear j;have B:=(c _).2 (gW _)
 have a1:=b.h c 0 rfl
 have a4:=b.h c 1 rfl
 have a5:=b.h c 2 rfl
 have a6:=b.h c 3 rfl
 have a7:=b.h c 4 rfl
 have a8:=b.h c 5 rfl
 have a9:=b.h c 6 rfl
 have aa:=b.h c 7 rfl
 have ab:=b.h c 8 rfl
 have ac:=b.h c 9 rfl
 have P:=b.h c 10 rfl
 have a0:Nonempty (zq a):=⟨⟨_,B⟩⟩;have r:Xo (∀u,a u->(w.heap.size+1+1)<=u.heap.size):=dD<|fun u n=>by rw[<-d.out];exact bS ((c _).1 n)
 refine zgq (I:=a) 22 [(2,fun v=>∃s:Sli,v= Xi #[s.x,I6 m.aB]),(5,fun v=>∃s:Sli,v=s.x),(8,fun v=>∃f q:Sli,v= Xi #[f.x,q.x]),(11,fun v=>∃f q:Sli,v= Xi #[f.x,q.x]),(14,fun v=>∃s:Sli,v= Xi #[s.x,I6 m.cnt]),(17,fun v=>∃s:Sli,v=s.x),(20,fun v=>∃s:Sli,v=s.x)] B zW Kr rfl rfl Dc ?hS Kr ?_
 case hS=>
  intro x a;simp only[mC,nM,or_false]at a
  rcases a with rfl|rfl|rfl|rfl|rfl|rfl|rfl
  ·exact⟨_,ZH,rfl⟩
  ·exact⟨_,ZH,rfl⟩
  ·exact⟨_,ZH,ZH,rfl⟩
  ·exact⟨_,ZH,ZH,rfl⟩
  ·exact⟨_,ZH,rfl⟩
  ·exact⟨_,ZH,rfl⟩
  exact⟨_,ZH,rfl⟩
 simp only[Ol,Om];iterate 2 refine j6 ?_
 refine Z7 rfl rfl (fun v w'=>∃s:Sli,v= Xi #[s.x,I6 m.aB]/\zb qi (w.heap.size+1+1) w' (s.x) m.fs) (fun v u H n k=>by obtain⟨s,x,z⟩:=k;exact⟨s,x,z.aA n⟩) (fun w' a l=>?_) (fun K p=>?_)
 ·have g:=h.trans ((c _).1 a);have d:=r.out w' a;refine zP.call [Xi #[V.f.x,I6 m.aB]] rfl func51 rfl rfl rfl ?_;refine(i w' g).mono ?_;rintro e t ⟨f,rfl,A,b⟩;obtain⟨i,j,rfl⟩:=A.form;exact⟨_,rfl,(c _).2 (((c _).1 a).trans b),b,⟨⟨i,_,j⟩,rfl⟩,⟨i,_,j⟩,rfl,A.base d⟩
 obtain⟨U,rfl⟩:=p;refine Uq ?_;iterate 2 refine j6 ?_
 refine Z7 rfl rfl (fun v w'=>zb slE (w.heap.size+1+1) w' v m.sl) (fun v u H n k=>zb.aA k n) (fun w' a l=>?_) (fun K p=>?_)
 ·have g:=h.trans ((c _).1 a);have d:=r.out w' a;refine zP.call [V.s.x] rfl func52 rfl rfl rfl ?_;refine(y w' g).mono ?_;rintro e t ⟨f,rfl,A,b⟩;obtain⟨i,j,rfl⟩:=A.form;exact⟨_,rfl,(c _).2 (((c _).1 a).trans b),b,⟨⟨i,_,j⟩,rfl⟩,A.base d⟩
 obtain⟨G,rfl⟩:=p;refine Uq ?_;iterate 2 refine j6 ?_
 refine Z7 rfl rfl (fun v w'=>∃f q:Sli,v= Xi #[f.x,q.x]/\zs (w.heap.size+1+1) w' (f.x) m.sb/\zo (w.heap.size+1+1) w' (q.x) m.sq) (fun v u H n k=>by obtain⟨f,q,x,z,N⟩:=k;exact⟨f,q,x,z.aA n,N.aA n⟩) (fun w' a l=>?_) (fun K p=>?_)
 ·have g:=h.trans ((c _).1 a);have d:=r.out w' a;refine zP.call [Xi #[V.sb.x,V.sq.x]] rfl func53 rfl rfl rfl ?_;refine(D w' g).mono ?_;rintro e t ⟨D,rfl,⟨f,q,rfl,E,R⟩,b⟩;obtain⟨i,C,j,rfl⟩:=E.slice;obtain⟨L,Q,M,rfl⟩:=R.slice;exact⟨_,rfl,(c _).2 (((c _).1 a).trans b),b,⟨⟨i,C,j⟩,⟨L,Q,M⟩,rfl⟩,⟨i,C,j⟩,⟨L,Q,M⟩,rfl,E.base d,R.base d⟩
 obtain⟨F,S,rfl⟩:=p;refine Uq ?_;iterate 2 refine j6 ?_
 refine Z7 rfl rfl (fun v w'=>∃f q:Sli,v= Xi #[f.x,q.x]/\zs (w.heap.size+1+1) w' (f.x) m.db/\zo (w.heap.size+1+1) w' (q.x) m.dq/\∀y,(F.x).ownBlock=Xa y->(f.x).ownBlock≠Xa y) (fun v u H n k=>by obtain⟨f,q,x,z,N,W⟩:=k;exact⟨f,q,x,z.aA n,N.aA n,W⟩) (fun w' a l=>?_) (fun K p=>?_)
 ·have g:=h.trans ((c _).1 a);have d:=r.out w' a;refine zP.call [Xi #[V.db.x,V.dq.x]] rfl func53 rfl rfl rfl ?_;refine(T w' g).mono ?_;rintro e t ⟨D,rfl,⟨f,q,rfl,E,R⟩,b⟩;obtain⟨i,C,j,rfl⟩:=E.slice;obtain⟨L,Q,M,rfl⟩:=R.slice;obtain⟨ae,af,D,T,_⟩:∃f q:Sli,(Value.agg #[F.x,S.x])= Xi #[f.x,q.x]/\zs (w.heap.size+1+1) w' (f.x) m.sb/\zo (w.heap.size+1+1) w' (q.x) m.sq:=l 8 Kr
  refine⟨_,rfl,(c _).2 (((c _).1 a).trans b),b,⟨⟨i,C,j⟩,⟨L,Q,M⟩,rfl⟩,⟨i,C,j⟩,⟨L,Q,M⟩,rfl,E.base d,R.base d,fun y x z=>?_⟩
  simp only[Value.agg.injEq,Array.mk.injEq,List.cons.injEq]at D;rw[D.1]at x;have q:=(zjM T y x).2;have q:=(zjM E y z).1;omega
 obtain⟨C,E,rfl⟩:=p;refine Uq ?_;iterate 2 refine j6 ?_
 refine Z7 rfl rfl (fun v w'=>∃s:Sli,v= Xi #[s.x,I6 m.cnt]/\∃q,z4 q w' (s.x) m.fl/\(w.heap.size+1+1)<=q/\∀y,(G.x).ownBlock=Xa y->y<q) (fun v u H n k=>by obtain⟨s,x,q,z,N,W⟩:=k;exact⟨s,x,q,z.aA n,N,W⟩) (fun w' a l=>?_) (fun K p=>?_)
 ·have g:=h.trans ((c _).1 a);have d:=r.out w' a;refine zP.call [Xi #[V.fl.x,I6 m.cnt]] rfl func54 rfl rfl rfl ?_;refine(X w' g).mono ?_;rintro e t ⟨f,rfl,L,b,_⟩;have s:=L;obtain⟨M,z,_⟩:=L;obtain⟨i,j,rfl⟩:=z.form;have L:zb slE (w.heap.size+1+1) w' (G.x) m.sl:=l 5 Kr
  exact⟨_,rfl,(c _).2 (((c _).1 a).trans b),b,⟨⟨i,_,j⟩,rfl⟩,⟨i,_,j⟩,rfl,w'.heap.size+2,s,Wm,fun y x=>Hm ((L.lt y x).2)⟩
 obtain⟨x,rfl⟩:=p;refine Uq ?_;iterate 2 refine j6 ?_
 refine Z7 rfl rfl (fun v w'=>zb Zz (w.heap.size+1+1) w' v m.ca) (fun v u H n k=>zb.aA k n) (fun w' a l=>?_) (fun K p=>?_)
 ·have g:=h.trans ((c _).1 a);have d:=r.out w' a;refine zP.call [V.ca.x] rfl func55 rfl rfl rfl ?_;refine(Y w' g).mono ?_;rintro e t ⟨f,rfl,A,b⟩;obtain⟨i,j,rfl⟩:=A.form;exact⟨_,rfl,(c _).2 (((c _).1 a).trans b),b,⟨⟨i,_,j⟩,rfl⟩,A.base d⟩
 obtain⟨s,rfl⟩:=p;refine Uq ?_;iterate 2 refine j6 ?_
 refine Z7 rfl rfl (fun v w'=>Jk (w.heap.size+1+1) w' v m.sp) (fun v u H n k=>Jk.aA k n) (fun w' a l=>?_) (fun K p=>?_)
 ·have g:=h.trans ((c _).1 a);have d:=r.out w' a;refine zP.call [V.sp.x] rfl func56 rfl rfl rfl ?_;refine(Z w' g).mono ?_;rintro e t ⟨f,rfl,g,b⟩;have f:=g;obtain⟨M,k,z,_⟩:=g;obtain⟨i,j,rfl⟩:=z.form;exact⟨_,rfl,(c _).2 (((c _).1 a).trans b),b,⟨⟨i,_,j⟩,rfl⟩,f.base d⟩
 obtain⟨k,rfl⟩:=p;refine Uq ?_;refine j6 ?_
 refine zpJ fun g f l=>?_
 have b:=(c _).1 f;have a:=l 2;have L:=l 5;have c:=l 8;have d:=l 11;have n:=l 14;have r:=l 17;have t:=l 20;have u:Xo (zed (w.heap.size+1+1) g ⟨U,G,F,S,C,E,x,s,k⟩ m):=dD<|by
  obtain⟨g,A,H⟩:=a;obtain⟨ae,af,D,T,K⟩:=c;obtain⟨a,a,a,g,j,c⟩:=d;obtain⟨d,d,q,i,z,y⟩:=n;simp only[Value.agg.injEq,Array.mk.injEq,List.cons.injEq]at A D a d;rw[<-A.1]at H;rw[<-D.1]at T;rw[<-D.2.1]at K;rw[<-a.1]at g c;rw[<-a.2.1]at j;rw[<-d.1]at i;exact⟨H,L,T,K,g,j,⟨q,i,z,y⟩,r,t,c⟩
 have a:=dD (ad.aA b);have c:=dD (h.trans b);clear l f b a1 a4 a5 a6 a7 a8 a9 aa ab ac P a0 B
 go_wp2_with (refine zz rfl 45 (.tmp 2) (.tmp 24) rfl (w.heap.size+1) rfl [U.x,I6 m.aB,G.x,F.x,S.x,C.x,E.x,x.x,I6 m.cnt,s.x,k.x] rfl a rfl Kr (fun v p=>by
    simp only[mC,nM,or_false]at p
    rcases p with rfl|rfl|rfl|rfl|rfl|rfl|rfl|rfl|rfl|rfl|rfl <;> rfl) ?_)
 intro f d a b;have b:Xo (zc w f):=dD<|zd c a Wm
 have c:Xo (zed w.heap.size f ⟨U,G,F,S,C,E,x,s,k⟩ m):=dD<|u.below a Wm Wm
 go_wp2;refine bodyPost_ret (zE rfl _ rfl d underlying45 rfl Kr) rfl ⟨⟨U,G,F,S,C,E,x,s,k⟩,rfl,c,b⟩
def qj:List Xq:=[O Xb 0 0,Xe Xf 0,O Xb 0 0,O Xb 0 0,O Xb 0 0,O Xb 0 0,O Xb 0 0,O Xb 0 0,Xe Xf 0,O Xb 0 0,O Xb 0 0]
theorem ztE:(Tryz.prog.info? 5).map (fun i=>(i.zero,i.size,i.bytes))=Xa (Xa (U8 0),1,1):=by kernel_rfl
def byE:Elt Int where
 enc:=fun z=>[Xe Xg z]
 k:=1
 ty:=5
 st:=23
 bytes:=1
 zv:= Xe Xg 0
 zero:=0
 len:=fun _=>rfl
 one:=fun a u hu=>by
  simp only[mC,nM,or_false]at hu;rw[hu];rfl
 bV:=underlying23
 aF:=ztE
 zok:=rfl
 few:=by decide
 pos:=by decide
def ztm (m:Ma) (f:Fr):Prop:=(f.f=-1->f.d=Xd)/\(f.r≠0->f.f≠-1->qJ (pgL f.p) f.x (qW m f.f)=pgL f.p/\(f.d=Xd->z9 m f.f f.x=pgL f.p))
def zs8 (m:Ma):Prop:=∀f∈m.fs,ztm m f
def frH (q:Fr) (n:Int):Fr:=if q.r+n=0 then frF else{ q with r:=q.r+n }
def Zj (fs:List Fr) (h k n:Int):Int:=if Zi fs h=0 then(if inB k fs.length && !((fs.getD k.toNat fr0).r == 0)then(if -(fs.getD k.toNat fr0).r<=n/\n<=1000 -(fs.getD k.toNat fr0).r then 0 else 3)else 5)else Zi fs h
def QI (fs:List Fr) (h k n:Int):List Fr:=if Zj fs h k n=0 then fs.set k.toNat (frH (fs.getD k.toNat fr0) n)else []
def zns (fs:List Fr) (h k n:Int):Int:=if Zj fs h k n=0 then h else 0
theorem zj6:∀{fs:List Fr},zgk fs=0->∀q∈fs,frW q=0
 | [],_,_,c=>by cases c
 | a :: l,h,q,c=>by
  unfold zgk at h
  by_cases b:frW a=0
  ·rw[kE b]at h
   rcases mC.1 c with rfl|c
   ·exact b
   exact zj6 h q c
  rw[kF b]at h;exact absurd h b
theorem jn {fs:List Fr} {h:Int} (a:Zi fs h=0):fs.length<=40/\(∀q∈fs,frW q=0)/\0<=h/\h<max (fs.length:Int) 1:=by grind [Zi,zgk,inB,zj6]
theorem zbH {q:Fr} (h:frW q=0):0<=q.r/\q.r<=1000:=by grind [frW,inB]
theorem zb.frc {base:Nat} {w:Xn} {n c:Nat} {fs:List Fr} (h:zb qi base w (O (Xa ⟨g,0,Xb⟩) n c) fs) {i:Nat} {q:Fr} (e:fs[i]? =Xa q) (j:Nat) {u:Xq} (k:(frv q)[j]? =Xa u):w.cell? ⟨g,i*13+j,Xb⟩=Xa u:=by
 obtain⟨l,p,d,f⟩:=h.at.rows;obtain⟨m,a,b⟩:=f i q e;cases d;cases a;have:=b w (zc.refl _) j u k;rw[qO,Yk,zA]at this;exact this
def j2 (s:List Int) (n:Int):Int:=if slW s=0 then(if 1<=n/\n<=1000 then(if s.findIdx isZ<s.length then 0 else 10)else 3)else slW s
def Qk (s:List Int) (n:Int):List Int:=if j2 s n=0 then s.set (s.findIdx isZ) n else []
def zcr (s:List Int) (n:Int):Int:=if j2 s n=0 then(s.findIdx isZ:Int)else 0
theorem zft {s:List Int} {n:Int} (h:j2 s n=z) (a:z≠0):Qk s n=[]/\zcr s n=0:=by
 have:j2 s n≠0:=Rx h a
 exact⟨kF this,kF this⟩
theorem zde (s:List Int) (m:Int):
  (slW s≠0/\j2 s m=slW s/\Qk s m=[]/\zcr s m=0)\/(slW s=0/\¬(1<=m/\m<=1000)/\j2 s m=3/\Qk s m=[]/\zcr s m=0)\/
  (slW s=0/\(1<=m/\m<=1000)/\¬s.findIdx isZ<s.length/\j2 s m=10/\Qk s m=[]/\zcr s m=0)\/
  (slW s=0/\(1<=m/\m<=1000)/\s.findIdx isZ<s.length/\j2 s m=0/\Qk s m=s.set (s.findIdx isZ) m/\zcr s m=(s.findIdx isZ:Int)):=by
 by_cases a:slW s=0
 ·by_cases b:1<=m/\m<=1000
  ·by_cases c:s.findIdx isZ<s.length
   ·have h:j2 s m=0:=by unfold j2;rw[kE a,kE b,kE c]
    exact .inr (.inr (.inr ⟨a,b,c,h,kE h,kE h⟩))
   have h:j2 s m=10:=by unfold j2;rw[kE a,kE b,kF c]
   exact .inr (.inr (.inl ⟨a,b,c,h,zft h Dc⟩))
  have h:j2 s m=3:=by unfold j2;rw[kE a,kF b]
  exact .inr (.inl ⟨a,b,h,zft h Dc⟩)
 have h:j2 s m=slW s:=by unfold j2;rw[kF a]
 exact .inl ⟨a,h,zft h a⟩
theorem zmv (a) (c:Nat) (s:List Int) (m:Int) (w:Xn) (f:zj slE w (O a s.length c) s):
  Xp prog 240 #[O a s.length c,I6 m] w fun e w'=>∃b d,e= Xl (Xm #[.slice b (Qk s m).length d,I6 (zcr s m),I6 (j2 s m)])/\z3 slE w.heap.size w' (.slice b (Qk s m).length d) (Qk s m)/\zc w w':=by
 have d:=zbT a c s w f;have n:∀W,zc w W->Xp prog 247 #[O a s.length c,I6 0] W fun e w'=>e= Xl (I6 (zqw s))/\zc W w':=fun W b=>zli _ s W (f.aA b)
 have A:∀W,zc w W->Xp prog 52 #[O a s.length c] W fun e w'=>∃y,e= Xl y/\zb slE W.heap.size w' y s/\zc W w':=fun W b=>zcj _ s W (f.aA b)
 have b:=f.short;obtain⟨B,i⟩:=kA s.length
 rcases zde s m with⟨h,j,k,l⟩|⟨h,f,j,k,l⟩|⟨h,f,p,j,k,l⟩|⟨h,f,p,j,k,l⟩
 ·rw[j,k,l]
  generalize slW s=z at d h⊢
  have f:(z != 0)=Xc:=Si h
  rw[i.out]at d b⊢
  go_enter func240,ntmps240
  go_wp2_with fail;refine d.mono ?_;rintro e u ⟨rfl,g⟩;have f:=dD g;go_wp2;refine bodyPost_ret (v:= Xm #[eS,I6 0,I6 z]) (by simp[results,Tryz.results240,go_sem, *]) rfl ⟨Xb,0,rfl,z3.nil _ _ _,f⟩
 ·rw[h]at d;rw[j,k,l];rw[i.out]at d b⊢
  by_cases r:m<1
  ·go_enter func240,ntmps240
   go_wp2_with fail;refine d.mono ?_;rintro e u ⟨rfl,g⟩;have f:=dD g;go_wp2;refine bodyPost_ret (v:= Xm #[eS,I6 0,I6 3]) (by simp[results,Tryz.results240,go_sem, *]) rfl ⟨Xb,0,rfl,z3.nil _ _ _,f⟩
  have t:1000<m:=Wm
  go_enter func240,ntmps240
  go_wp2_with fail;refine d.mono ?_;rintro e u ⟨rfl,g⟩;have f:=dD g;go_wp2;refine bodyPost_ret (v:= Xm #[eS,I6 0,I6 3]) (by simp[results,Tryz.results240,go_sem, *]) rfl ⟨Xb,0,rfl,z3.nil _ _ _,f⟩
 ·rw[h]at d;rw[show zqw s=-1 from kF p]at n
  rw[j,k,l];rw[i.out]at d n b⊢;have r:¬m<1:=Wm
  have t:¬1000<m:=Wm
  go_enter func240,ntmps240
  go_wp2_with fail;refine d.mono ?_;rintro e u ⟨rfl,g⟩;have f:=dD g;go_wp2_with fail;refine(n _ f).mono ?_;rintro e z ⟨rfl,x⟩;have q:=dD (f.trans x);go_wp2;refine bodyPost_ret (v:= Xm #[eS,I6 0,I6 10]) (by simp[results,Tryz.results240,go_sem, *]) rfl ⟨Xb,0,rfl,z3.nil _ _ _,q⟩
 rw[h]at d;rw[show zqw s=(s.findIdx isZ:Int)from kE p]at n
 rw[j,k,l,Xt];obtain⟨h,j⟩:=kA (s.findIdx isZ);rw[j.out]at p n⊢;rw[i.out]at d n A p b⊢;have r:¬m<1:=Wm
 have t:¬1000<m:=Wm
 have b:(h:Int)< (B:Int):=Wm
 go_enter func240,ntmps240
 go_wp2_with fail;refine d.mono ?_;rintro e u ⟨rfl,g⟩;have f:=dD g;go_wp2_with fail;refine(n _ f).mono ?_;rintro e z ⟨rfl,x⟩;have q:=dD (f.trans x);go_wp2_with fail;refine(A _ q).mono ?_;rintro e b ⟨y,rfl,b,d⟩;obtain⟨g,l,rfl⟩:=b.aJ (by rw[i.out];omega)
 rw[i.out]at b⊢;have j:=dD b;have k:=dD d
 go_wp2_with (refine qg (E:=slE) rfl (.tmp 30) (.tmp 29) rfl z.heap.size _ s j g h rfl m (Rx i.out p) _ rfl (by simp[slE]) _ rfl rfl ?_)
 intro b i d _;have f:=(j.lt g rfl).1;have b:=dD i;have i:=dD<|zd k d f;go_wp2;refine bodyPost_ret (v:= Xm #[O (Xa ⟨g,0,Xb⟩) B l,I6 (h:Int),I6 0]) (by simp[results,Tryz.results240,go_sem, *]) rfl ⟨_,_,rfl,b.new.base (bS q),q.trans i⟩
def atS (s:List Int) (k:Int):Int:=if 0<=k then s.getD k.toNat 0 else 0
def Za (s:List Int) (k m:Int):Int:=if slW s=0 then(if atS s k=0 then 5 else if 0<=atS s k+m/\atS s k+m<=1000 then 0 else 3)else slW s
def ZS (s:List Int) (k m:Int):List Int:=if Za s k m=0 then s.set k.toNat (atS s k+m)else []
theorem zmD {s:List Int} (h:slW s=0) {k:Nat} {q:Int} (b:s[k]? =Xa q):0<=q/\q<=1000:=by
 have a:s.any zeb=Xd:=by grind [zeb,slW]
 have c:=Oe.1 a q (mG b)
 grind [zeb]
theorem ziT (s:List Int) (k m:Int):
  (slW s≠0/\Za s k m=slW s/\ZS s k m=[])\/
  (slW s=0/\(k<0\/(s.length:Int)<=k)/\Za s k m=5/\ZS s k m=[])\/
  (slW s=0/\∃i:Nat,k=(i:Int)/\s[i]? =Xa 0/\Za s k m=5/\ZS s k m=[])\/
  (slW s=0/\∃(i:Nat) (q:Int),k=(i:Int)/\s[i]? =Xa q/\q≠0/\0<=q/\q<=1000/\¬(0<=q+m/\q+m<=1000)/\Za s k m=3/\ZS s k m=[])\/
  (slW s=0/\∃(i:Nat) (q:Int),k=(i:Int)/\s[i]? =Xa q/\q≠0/\0<=q/\q<=1000/\(0<=q+m/\q+m<=1000)/\Za s k m=0/\ZS s k m=s.set i (q+m)):=by
 have g:∀z,Za s k m=z->z≠0->ZS s k m=[]:=fun z h f=>kF (Rx h f)
 by_cases b:slW s=0
 ·by_cases e:k<0\/(s.length:Int)<=k
  ·have a:atS s k=0:=by
    unfold atS
    split
    ·grind
    rfl
   have h:Za s k m=5:=by unfold Za;rw[kE b,kE a]
   exact .inr (.inl ⟨b,e,h,g _ h Dc⟩)
  obtain⟨i,rfl⟩:∃i:Nat,k=(i:Int):=⟨k.toNat,Wm⟩
  have c:i<s.length:=Wm
  obtain⟨q,d⟩:∃q,s[i]? =Xa q:=⟨_,gE c⟩;have a:atS s (i:Int)=q:=by
   unfold atS;rw[kE Wm,gD,tN,d]
   rfl
  by_cases j:q=0
  ·grind [Za]
  have n:=zmD b d
  by_cases l:0<=q+m/\q+m<=1000
  ·grind [Za,ZS,tN]
  grind [Za]
 grind [Za,slW]
theorem znr (a) (c:Nat) (s:List Int) (k m:Int) (w:Xn) (H:zj slE w (O a s.length c) s):
  Xp prog 174 #[O a s.length c,I6 k,I6 m] w fun e w'=>∃R S,e= Xl (Xm #[.slice R (ZS s k m).length S,I6 (Za s k m)])/\z3 slE w.heap.size w' (.slice R (ZS s k m).length S) (ZS s k m)/\zc w w':=by
 have d:=zbT a c s w H;have A:∀W,zc w W->Xp prog 52 #[O a s.length c] W fun e w'=>∃a3,e= Xl a3/\zb slE W.heap.size w' a3 s/\zc W w':=fun W ag=>zcj _ s W (H.aA ag)
 have f:=H.short;obtain⟨R,S,U,z⟩:=H.sls;cases U;have P:=dD z;clear z H;obtain⟨u,p⟩:=kA s.length
 rcases ziT s k m with⟨h,j,l⟩|⟨h,Y,j,l⟩|⟨h,i,rfl,n,j,l⟩|⟨h,i,q,rfl,n,C,a1,a2,G,j,l⟩|⟨h,i,q,rfl,n,C,a1,a2,a8,j,l⟩
 ·rw[j,l];clear j l A
  generalize slW s=a9 at d h⊢
  have aj:(a9 != 0)=Xc:=Si h
  rw[p.out]at d f⊢
  go_enter func174,ntmps174
  go_wp2_with fail;refine d.mono ?_;rintro e r ⟨rfl,b⟩;have g:=dD b;clear b d h;go_wp2;refine bodyPost_ret (v:= Xm #[eS,I6 a9]) (by simp[results,Tryz.results174,go_sem, *]) rfl ⟨Xb,0,rfl,z3.nil _ _ _,g⟩
 ·rw[h]at d;rw[j,l];clear j l A h;rw[p.out]at d f Y⊢
  by_cases ah:k<0
  ·go_enter func174,ntmps174
   go_wp2_with fail;refine d.mono ?_;rintro e r ⟨rfl,b⟩;have g:=dD b;clear b d Y;go_wp2;refine bodyPost_ret (v:= Xm #[eS,I6 5]) (by simp[results,Tryz.results174,go_sem, *]) rfl ⟨Xb,0,rfl,z3.nil _ _ _,g⟩
  have ai:(u:Int)<=k:=Wm
  go_enter func174,ntmps174
  go_wp2_with fail;refine d.mono ?_;rintro e r ⟨rfl,b⟩;have g:=dD b;clear b d Y;go_wp2;refine bodyPost_ret (v:= Xm #[eS,I6 5]) (by simp[results,Tryz.results174,go_sem, *]) rfl ⟨Xb,0,rfl,z3.nil _ _ _,g⟩
 ·rw[h]at d;rw[j,l];clear j l A h;have B:i<u:=by rw[<-p.out];exact(gS.1 n).1
  rw[p.out]at d f⊢;have y:¬(u:Int)<=(i:Int):=Wm
  have F:¬(i:Int)<0:=Wm
  have t:(i:Int)< (u:Int):=Wm
  obtain⟨a6,rfl,x⟩:=P.out i 0 n;clear n
  go_enter func174,ntmps174
  go_wp2_with fail;refine d.mono ?_;rintro e r ⟨rfl,b⟩;have g:=dD b;have M:=x r b;clear b d x;go_wp2;refine bodyPost_ret (v:= Xm #[eS,I6 5]) (by simp[results,Tryz.results174,go_sem, *]) rfl ⟨Xb,0,rfl,z3.nil _ _ _,g⟩
 ·rw[h]at d;rw[j,l];clear j l A h;have B:i<u:=by rw[<-p.out];exact(gS.1 n).1
  rw[p.out]at d f⊢;have y:¬(u:Int)<=(i:Int):=Wm
  have F:¬(i:Int)<0:=Wm
  have t:(i:Int)< (u:Int):=Wm
  obtain⟨a6,rfl,x⟩:=P.out i q n;have I:(q == 0)=Xd:=Si C
  by_cases Z:m< -q
  ·clear n C G
   go_enter func174,ntmps174
   go_wp2_with fail;refine d.mono ?_;rintro e r ⟨rfl,b⟩;have g:=dD b;have M:=x r b;clear b d x;go_wp2;refine bodyPost_ret (v:= Xm #[eS,I6 3]) (by simp[results,Tryz.results174,go_sem, *]) rfl ⟨Xb,0,rfl,z3.nil _ _ _,g⟩
  have X:1000 - q<m:=Wm
  clear n C G
  go_enter func174,ntmps174
  go_wp2_with fail;refine d.mono ?_;rintro e r ⟨rfl,b⟩;have g:=dD b;have M:=x r b;clear b d x;go_wp2;refine bodyPost_ret (v:= Xm #[eS,I6 3]) (by simp[results,Tryz.results174,go_sem, *]) rfl ⟨Xb,0,rfl,z3.nil _ _ _,g⟩
 rw[h]at d;rw[j,l,Xt];clear j l h;have B:i<u:=by rw[<-p.out];exact(gS.1 n).1
 rw[p.out]at d A f⊢;have y:¬(u:Int)<=(i:Int):=Wm
 have F:¬(i:Int)<0:=Wm
 have t:(i:Int)< (u:Int):=Wm
 obtain⟨a6,rfl,x⟩:=P.out i q n;have I:(q == 0)=Xd:=Si C
 have Z:¬m< -q:=Wm
 have X:¬1000 - q<m:=Wm
 have ac:=dD n;clear n C
 go_enter func174,ntmps174
 go_wp2_with fail;refine d.mono ?_;rintro e r ⟨rfl,b⟩;have g:=dD b;have M:=x r b;clear b d x;go_wp2_with fail;refine(A _ g).mono ?_;rintro e a5 ⟨a3,rfl,K,a7⟩;obtain⟨N,ae,rfl⟩:=K.aJ (by rw[p.out];omega)
 rw[p.out]at K⊢;have a4:=dD K;have aa:=dD a7;have af:a5.cell? ⟨N,i,Xb⟩=Xa (I6 q):=by
  obtain⟨al,an,T,a0⟩:=K.at.sls;cases T;obtain⟨am,T,a0⟩:=a0 i q ac.out;cases T;have:=a0 a5 (zc.refl _);rw[Yk,zA]at this;exact this
 clear a7 A K M
 go_wp2_with (refine qg (E:=slE) rfl (.tmp 54) (.tmp 53) rfl r.heap.size _ s a4 N i rfl (q+m) (Rx p.out B) _ rfl (by simp[slE]) _ rfl rfl ?_)
 intro ak L D _;have V:=(a4.lt N rfl).1;have Q:=dD L;have ab:=dD<|zd aa D V;clear L D af;go_wp2;refine bodyPost_ret (v:= Xm #[O (Xa ⟨N,0,Xb⟩) u ae,I6 0]) (by simp[results,Tryz.results174,go_sem, *]) rfl ⟨_,_,rfl,Q.new.base (bS g),g.trans ab⟩
theorem zfp (y) (j:Nat) (h:List En) (k:Nat) (S:k<8) (x:En) (base:Nat) (w:Xn) (a:zb enE base w (O y h.length j) h) (c:base<=w.heap.size) (v:h.length=0\/h.length=8):
  Xp prog 203 #[O y h.length j,I6 (k:Int),Xi #[I6 x.kind,I6 x.n,Xh x.wr]] w fun e w'=>∃b B,e= Xl (.slice b (mk ((zbG h).set k x)).length B)/\zb enE base w' (.slice b (mk ((zbG h).set k x)).length B) (mk ((zbG h).set k x))/\w.grownBy w' (O y h.length j).ownBlock/\(∀g,(Value.slice b (mk ((zbG h).set k x)).length B).ownBlock=Xa g->(O y h.length j).ownBlock=Xa g\/w.heap.size<=g):=by
 have d:=dD a;have t:=dD c;have b:Xo (mk ((zbG h).set k x)=if zgd ((zbG h).set k x)=Xc then(zbG h).set k x else []):=rfl;clear a c;obtain⟨f,a⟩:=kB (w.alloc (Xk #[I6 x.kind,I6 x.n,Xh x.wr] 127));have p:=gA a
 have R:=xA a
 have m:=sA a
 have A:=dD a;clear a;have a:(k:Int)<8:=Wm
 rcases v with c|v
 ·have a:=List.length_eq_zero_iff.1 c;subst a;obtain⟨L,l⟩:=kA ((zbG []).set k x);have q:Xo (L.length=8):=dD<|by rw[<-l.out];simp[zbG]
  rw[l.out]at b⊢
  generalize mk L=M at b⊢
  simp only[Yb]at d⊢;clear c
  go_enter func203,ntmps203
  go_upto_region 1 with fail;rw[A.out]
  go_wp2_with (refine qv enE rfl (.const (I6 8)) rfl 8 rfl Dc ?_)
  intro C s
  show wpList _ _ _ _ _ (f.alloc (Xk C 127))
  have a:zb enE f.heap.size (f.alloc (Xk C 127)) (O (Xa ⟨f.heap.size,0,Xb⟩) 8 8) (zbG []):=s;obtain⟨c,c⟩:=kB (f.alloc (Xk C 127));have r:=gA c
  rw[c]at a⊢;obtain⟨g,i⟩:=kA f.heap.size;rw[i.out]at a⊢;have D:=dD a;have f:=dD (R.aA r);have n:Xo (base<=g/\w.heap.size<=g):=show _/\_ by
   have:=m.out;have:=t.out;have:=i.out
   constructor <;> omega
  clear c s a;obtain⟨N,P,Q⟩:=f.c3
  go_wp2_with (refine qg (E:=enE) rfl (.tmp 14) (.tmp 13) rfl g _ (zbG []) D g k rfl x ?t1 ⟨g,k*3,Xb⟩ rfl rfl (Xi #[I6 x.kind,I6 x.n,Xh x.wr]) rfl rfl ?_)
  case t1=>exact S
  intro H c i u;rw[l.out]at c;have F:=dD<|c.base n.1;have z:=dD<|zd (p.trans r) i n.2
  have a:=ZO _ L H c.at;clear c i u N P Q
  generalize zgd L=C at a b
  cases C with
  | true=>
   have r:Xo (M=L):=dD<|by rw[b.out,kE rfl]
   go_wp2_with fail;refine a.mono ?_;rintro e s ⟨rfl,f⟩;have m:Xo (w.grownBy s _):=show World.grownBy _ _ (Value.ownBlock (O y 0 j))from zdF (z.trans f) _
   have G:=dD (F.aA f);clear f a;go_wp2;go_ret;rw[r.out,q.out];exact⟨Xa ⟨g,0,Xb⟩,8,rfl,G,m,fun K t=> .inr (by cases t;exact n.2)⟩
  | false=>
   have r:Xo (M=[]):=dD<|by rw[b.out,kF Dc]
   go_wp2_with fail;refine a.mono ?_;rintro e s ⟨rfl,f⟩;have m:Xo (w.grownBy s _):=show World.grownBy _ _ (Value.ownBlock (O y 0 j))from zdF (z.trans f) _
   clear f a;go_wp2;go_ret;rw[r.out];exact⟨Xb,0,rfl,zb.nil _ _ _,m,fun K t=>by cases t⟩
 obtain⟨L,l⟩:=kA ((zbG h).set k x);have n:Xo (zbG h=h):=dD<|by unfold zbG;rw[kF Wm]
 have q:Xo (L.length=8):=dD<|by rw[<-l.out,n.out];simp[v]
 rw[l.out]at b⊢
 generalize mk L=M at b⊢
 have y:=dD v;obtain⟨g,B,B⟩:=d.aJ Wm
 cases B;rw[v]at d⊢;clear v
 go_enter func203,ntmps203
 go_upto_region 1 with fail;rw[A.out];have D:=dD (d.aA p);obtain⟨N,P,Q⟩:=R.c3
 go_wp2_with (refine qg (E:=enE) rfl (.tmp 14) (.tmp 13) rfl base _ h D g k rfl x ?t1 ⟨g,k*3,Xb⟩ rfl rfl (Xi #[I6 x.kind,I6 x.n,Xh x.wr]) rfl rfl ?_)
 case t1=>rw[y.out];exact S
 intro H c i u;rw[n.out]at l;rw[l.out]at c;have F:=dD c;have z:=dD<|qM (zdF p _) i
 have a:=ZO _ L H c.at;clear c i u N P Q
 generalize zgd L=C at a b
 cases C with
 | true=>
  have r:Xo (M=L):=dD<|by rw[b.out,kE rfl]
  go_wp2_with fail;refine a.mono ?_;rintro e s ⟨rfl,f⟩;have m:Xo (w.grownBy s _):=show World.grownBy _ _ (Value.ownBlock (O (Xa ⟨g,0,Xb⟩) 8 j))from qM z (zdF f _)
  have G:=dD (F.aA f);clear f a;go_wp2;go_ret;rw[r.out,q.out];exact⟨Xa ⟨g,0,Xb⟩,j,rfl,G,m,fun K t=> .inl t⟩
 | false=>
  have r:Xo (M=[]):=dD<|by rw[b.out,kF Dc]
  go_wp2_with fail;refine a.mono ?_;rintro e s ⟨rfl,f⟩;have m:Xo (w.grownBy s _):=show World.grownBy _ _ (Value.ownBlock (O (Xa ⟨g,0,Xb⟩) 8 j))from qM z (zdF f _)
  clear f a;go_wp2;go_ret;rw[r.out];exact⟨Xb,0,rfl,zb.nil _ _ _,m,fun K t=>by cases t⟩
theorem zfF:∀v∈zfG,v.oneCell'=Xc:=fun v a=>by
 rw[zfG,List.mem_replicate]at a;rw[a.2];rfl
theorem zmF (t:List (List En)) (n:Int) (x):
  (tbW t≠0/\zl3 t n x=tbW t/\zjD t n x=Qt)\/
  (tbW t=0/\¬(0<=n/\n<64)/\zl3 t n x=3/\zjD t n x=Qt)\/
  (tbW t=0/\(0<=n/\n<64)/\enW x≠0/\zl3 t n x=enW x/\zjD t n x=Qt)\/
  (tbW t=0/\(0<=n/\n<64)/\enW x=0/\zl3 t n x=0/\zjD t n x=zjC t n.toNat x):=by
 by_cases a:tbW t=0
 ·by_cases a:0<=n/\n<64
  ·grind [zl3,enW,zjD]
  grind [zl3,zjD]
 grind [zl3,tbW,zjD]
theorem zmG (vs:List Xq) (t:List (List En)) (n:Int) (x:En) (w:Xn) (r:zaB w vs t):
  Xp prog 175 #[Xi vs.toArray,I6 n,Xi #[I6 x.kind,I6 x.n,Xh x.wr]] w fun e w'=>∃k,e= Xl (Xm #[Xi k.toArray,I6 (zl3 t n x)])/\za8 0 w.heap.size w' k (zjD t n x)/\zc w w':=by
 have G:=dD r.len;have H:=dD r.aO;have j:∀W,zc w W->Xp prog 118 #[Xi vs.toArray] W fun e w'=>e= Xl (I6 (tbW t))/\zc W w':=fun W a=>zc2 vs t W (r.aA a)
 have N:∀W,zc w W->Xp prog 105 #[Xi vs.toArray] W fun e w'=>∃k,e= Xl (Xi k.toArray)/\js (W.heap.size+2) w' k t/\zc W w'/\W.heap.size+2<=w'.heap.size:=fun W a=>zg3 vs t W (r.aA a)
 have v:=fun W=>zaC x.kind x.n x.wr W
 clear r;obtain⟨z,a⟩:=kB (((w.alloc (Xk vs.toArray 74)).alloc (Xk #[I6 x.kind,I6 x.n,Xh x.wr] 127)).alloc (Xk #[eS,eS,eS,eS,eS,eS,eS,eS] 74));have b:Xo (zc w z):=dD<|by rw[<-a];exact((za _ _).trans (za _ _)).trans (za _ _)
 have A:Xo (Box z w.heap.size vs):=dD<|by rw[<-a];exact((Box.aE w _ _ rfl).alloc _).alloc _
 have S:Xo (Box z (w.heap.size+1) [I6 x.kind,I6 x.n,Xh x.wr]):=dD<|by rw[<-a];exact(Box.aE _ _ _ Sm).alloc _
 have V:Xo (Box z (w.heap.size+2) zfG):=dD<|by rw[<-a];exact Box.aE _ zfG _ Sm
 have y:=dD a;clear a
 rcases zmF t n x with⟨l,d,f⟩|⟨l,g,d,f⟩|⟨l,g,R,d,f⟩|⟨l,g,R,d,f⟩
 ·rw[d,f];have q:(tbW t != 0)=Xc:=Si l
  clear d f l N v
  generalize tbW t=s at j q⊢
  go_enter func175,ntmps175
  go_upto_region 1 with fail;rw[y.out]
  go_wp2_with (refine qI rfl (.tmp 3) rfl w.heap.size rfl A G.out ?_)
  refine(j z b).mono ?_;rintro e K ⟨rfl,a⟩;have C:=dD (b.trans a);have M:=dD (A.aA a);have B:=dD (S.aA a);have D:=dD (V.aA a);clear a j
  go_wp2_with (refine zz rfl 74 (.tmp 6) (.tmp 15) rfl (w.heap.size+2) rfl zfG rfl D rfl ztq zfF ?_)
  intro L h i P;have E:=dD h;have F:Xo (zc w L):=show zc _ _ from zd C i Sm
  clear h i P;go_wp2;refine bodyPost_ret (z5 rfl _ rfl E underlying74 rfl ztq) rfl ⟨zfG,rfl,za8.nil _ _ _,F⟩
 ·rw[d,f];rw[l]at j;have Q:=fun W=>zbP (m:=n) (n:=64) g W
  clear d f l g N v
  go_enter func175,ntmps175
  go_upto_region 1 with fail;rw[y.out]
  go_wp2_with (refine qI rfl (.tmp 3) rfl w.heap.size rfl A G.out ?_)
  refine(j z b).mono ?_;rintro e K ⟨rfl,a⟩;have C:=dD (b.trans a);have M:=dD (A.aA a);have B:=dD (S.aA a);have D:=dD (V.aA a);clear a j;go_wp2_with fail;refine(Q _).mono ?_;rintro e w' ⟨rfl,c⟩;rw[c];clear c w'
  go_wp2_with (refine zz rfl 74 (.tmp 6) (.tmp 20) rfl (w.heap.size+2) rfl zfG rfl D rfl ztq zfF ?_)
  intro L h i P;have E:=dD h;have F:Xo (zc w L):=show zc _ _ from zd C i Sm
  clear h i P;go_wp2;refine bodyPost_ret (z5 rfl _ rfl E underlying74 rfl ztq) rfl ⟨zfG,rfl,za8.nil _ _ _,F⟩
 ·rw[d,f];rw[l]at j;have Q:=fun W=>QQ (m:=n) (n:=64) g.1 g.2 W
  change ∀W,Xp prog 201 _ W fun e w'=>e= Xl (I6 (enW x))/\zc W w' at v
  have q:(enW x != 0)=Xc:=Si R
  clear d f l g R N
  generalize enW x=s at v q⊢
  go_enter func175,ntmps175
  go_upto_region 1 with fail;rw[y.out]
  go_wp2_with (refine qI rfl (.tmp 3) rfl w.heap.size rfl A G.out ?_)
  refine(j z b).mono ?_;rintro e K ⟨rfl,a⟩;have C:=dD (b.trans a);have M:=dD (A.aA a);have B:=dD (S.aA a);have D:=dD (V.aA a);clear a j;go_wp2_with fail;refine(Q _).mono ?_;rintro e w' ⟨rfl,c⟩;rw[c];clear c w';obtain⟨Z,d,f⟩:=B.c3;go_wp2_with fail;refine(v K).mono ?_;rintro e s ⟨rfl,u⟩;have U:=dD (C.trans u);have a3:=dD (M.aA u);have a0:=dD (B.aA u);have X:=dD (D.aA u);clear u v Z d f
  go_wp2_with (refine zz rfl 74 (.tmp 6) (.tmp 25) rfl (w.heap.size+2) rfl zfG rfl X rfl ztq zfF ?_)
  intro L h i P;have E:=dD h;have F:Xo (zc w L):=show zc _ _ from zd U i Sm
  clear h i P;go_wp2;refine bodyPost_ret (z5 rfl _ rfl E underlying74 rfl ztq) rfl ⟨zfG,rfl,za8.nil _ _ _,F⟩
 rw[d,f];rw[l]at j;have Q:=fun W=>QQ (m:=n) (n:=64) g.1 g.2 W
 change ∀W,Xp prog 201 _ W fun e w'=>e= Xl (I6 (enW x))/\zc W w' at v
 rw[R]at v;obtain⟨i,W,Y,ag,F,h,h,h,h,L,a4⟩:=zeO g.1 g.2;obtain⟨q,E⟩:∃q,Xo (t[i]? =Xa q):=⟨_,gE (Rx H.out Y)⟩
 have ae:Xo (q.length=0\/q.length=8):=dD<|by
  rcases Qj.1 l q (mG E)with h|⟨h,_⟩
  ·exact .inl (Rr h)
  exact .inr h
 have P:Xo (zjC t n.toNat x=t.set i (mk ((zbG q).set W x))):=dD<|by
  unfold zjC;rw[L,a4,E.out];rfl
 rw[P.out];obtain⟨T,P⟩:=kA (mk ((zbG q).set W x));rw[P.out];have a5:=g.1;have a5:(i:Int)<8:=Wm
 clear d f l g R F L a4
 go_enter func175,ntmps175
 go_upto_region 1 with fail;rw[y.out]
 go_wp2_with (refine qI rfl (.tmp 3) rfl w.heap.size rfl A G.out ?_)
 refine(j z b).mono ?_;rintro e K ⟨rfl,a⟩;have C:=dD (b.trans a);have M:=dD (A.aA a);have B:=dD (S.aA a);have D:=dD (V.aA a);clear a j;go_wp2_with fail;refine(Q _).mono ?_;rintro e w' ⟨rfl,c⟩;rw[c];clear c w';obtain⟨Z,d,f⟩:=B.c3;go_wp2_with fail;refine(v K).mono ?_;rintro e s ⟨rfl,u⟩;have U:=dD (C.trans u);have a3:=dD (M.aA u);have a0:=dD (B.aA u);have X:=dD (D.aA u);clear u v Z d f
 go_wp2_with (refine qI rfl (.tmp 3) rfl w.heap.size rfl a3 G.out ?_)
 refine(N s U).mono ?_;rintro e g ⟨k,rfl,b,d,j⟩;have a:=dD b;have f:=dD d;have D:=dD j;have c:=dD X.lt;clear b d j N;obtain⟨K,d⟩:=kA g.heap.size
 go_wp2_with (refine zz rfl 74 (.tmp 10) (.tmp 28) rfl g.heap.size rfl k rfl (Box.aE g zfG 74 rfl) a.len ztq a.new.one ?_)
 intro u j l v;rw[d.out]at j l⊢;have aa:=dD j;have b:Xo (zc g u):=show zc _ _ from zd (za g _) l (by rw[d.out];exact nR _)
 have F:=dD j.lt;clear j l v;have G:=dD (a.aA b);have A:=dD ((a0.aA f).aA b);have af:=dD ((X.aA f).aA b);have ad:=dD ((U.trans f).trans b);have N:Xo (∀(j:Nat) C,k[j]? =Xa C->∀g,C.ownBlock=Xa g->s.heap.size+2<=g/\g<K):=show∀(j:Nat) C,_ from fun j C S g b=>by
  obtain⟨y,M⟩:∃y,t[j]? =Xa y:=⟨_,gE (by rw[H.out,<-a.len];exact(gS.1 S).1)⟩
  rw[<-d.out];exact(a.row j C y S M).lt g b
 obtain⟨v,z,f,a,l,b⟩:=G.half Y;obtain rfl:q=f:=by rw[E.out]at a;cases a;rfl
 have f:=dD l;have a9:=dD b;clear a l b;go_upto_region 10 with fail;obtain⟨g,H,a,a,Q⟩:∃g,(∀a,(O v q.length z).ownBlock=Xa a->a=g)/\g≠K/\s.heap.size+2<=g/\((O v q.length z).ownBlock=Xb->u.heap.size<=g):=by
  cases U:(O v q.length z).ownBlock with
  | none=>exact⟨u.heap.size,fun a h=>(by cases h),Hm F.out,by have:=F.out;have:=d.out;have:=D.out;omega,fun _=>nR _⟩
  | some g=>
   have:=N.out i _ f g U;exact⟨g,fun a h=>by cases h;rfl,Wm,Wm,fun h=>by cases h⟩
 have X:Xo (s.heap.size+2<=u.heap.size):=dD<|by have:=F.out;have:=d.out;have:=D.out;omega
 obtain⟨b,E⟩:=Wq fun w=>Out g (g+1) u w
 obtain⟨nq,L⟩:=kA q.length;rw[L.out]at H Q f a9;have a5:=fun y:zq b=>(aa.out.out ((E _).1 y.holds) Wm).c i f.out
 have l:w.heap.size+1<g:=Hm c.out
 have a6:=fun y:zq b=>(A.out.out ((E _).1 y.holds) Wm).c 0 rfl
 have a7:=fun y:zq b=>(A.out.out ((E _).1 y.holds) Wm).c 1 rfl
 have a8:=fun y:zq b=>(A.out.out ((E _).1 y.holds) Wm).c 2 rfl
 have R:Nonempty (zq b):=⟨⟨u,(E _).2 (Out.refl _ _ _)⟩⟩;obtain⟨B,V⟩:=kA T.length;refine j1 (I:=b) 11 [(9,⟨fun A=>∃Z a4,A= O Z B a4,fun A w'=>zb enE (s.heap.size+2) w' A T/\∀a,A.ownBlock=Xa a->(O v nq z).ownBlock=Xa a\/u.heap.size<=a,fun w w'=>w.grownBy w' (O v nq z).ownBlock,fun w=>zb enE (s.heap.size+2) w (O v nq z) q/\u.heap.size<=w.heap.size⟩)] ((E _).2 (Out.drew _)) zW Kr rfl rfl Dc ?hS ?hp ?hpre ?hpr0 ?_
 case hS=>
  intro y M
  simp at M
  subst M;exact⟨_,Xb,0,rfl⟩
 case hp=>
  intro ab ah j ac b M l _ A w w' y a0;have a0:=(zb7 b).1;have a3:=(zb7 M).1;exact absurd (a3.trans a0.symm) l
 case hpre=>
  intro j ac ab ah M b l w w' y y;have a0:=(zb7 b).1;have a3:=(zb7 M).1;exact absurd (a3.trans a0.symm) l
 case hpr0=>
  intro ab ac b;obtain⟨rfl,rfl⟩:=zb7 b;exact⟨a9.aA (gW _),nR _⟩
 simp only[Ol,Om];iterate 9 refine qY ?_
 refine j9 rfl rfl (fun w' a3 y a0=>?_) (fun b r=>?_)
 ·refine zP.call [O v nq z,I6 (W:Int),Xi #[I6 x.kind,I6 x.n,Xh x.wr]] rfl func203 rfl rfl rfl ?_;have l:zb enE (s.heap.size+2) w' (O v nq z) q/\u.heap.size<=w'.heap.size:=y;have b:=zfp v z q W ag x (s.heap.size+2) w' (Rx L.out l.1) (nT X l.2) ae.out
  rw[L.out,P.out,V.out]at b;refine b.mono ?_;rintro e b ⟨Z,a4,rfl,q,b,U⟩;refine⟨_,rfl,(E _).2 (((E _).1 a3).trans (Out.grown b (fun a h=>Hm (H a h)))),b,⟨Z,a4,rfl⟩,q,fun a b=>?_⟩
  rcases U a b with h|h
  ·exact .inl h
  exact .inr (nT l.2 h)
 obtain⟨y,L,rfl⟩:=r;refine Uq ?_;refine qY ?_
 refine zaj fun P V a0=>?_
 have W:zb enE (s.heap.size+2) P (O y B L) T/\∀a,(O y B L).ownBlock=Xa a->(O v nq z).ownBlock=Xa a\/u.heap.size<=a:=a0 9;have l:Xo (Out g (g+1) u P):=(E _).1 V;have q:Xo (js (s.heap.size+2) P (k.set i (O y B L)) (t.set i T)):=G.one Y f (by
  cases U:(O v nq z).ownBlock with
  | none=>exact⟨l.os,l.tape,l.output,l.size,fun j M _=>l.block j M (.inl (Yo M (Q U)))⟩
  | some g=>
   have:=H g U;subst this;exact⟨l.os,l.tape,l.output,l.size,fun j M R=>l.block j M (by
    have:j≠g:=fun e=>R (by rw[e])
    omega)⟩) W.1 W.2
 have u:Xo (∀(j:Nat) C,(k.set i (O y B L))[j]? =Xa C->∀a,C.ownBlock=Xa a->K≠a):=dD<|fun j C S a b=>by
  by_cases e:j=i
  ·subst e;rw[sF (by rw[G.len];exact Y)]at S
   cases S
   rcases W.2 a b with h|h
   ·have:=N.out j _ f a h;omega
   have:=F.out;omega
  rw[sN (fun h=>e h.symm)]at S
  have:=N.out j C S a b;omega
 have v:Xo (Box P K k):=aa.out.out l Wm
 have E:Xo (Box P (w.heap.size+2) zfG):=af.out.out l (Hm c.out)
 have z:Xo (zc w P):=dD<|Out.bK ad (Hm c.out) l.out
 clear a0 a5 a6 a7 a8 V R W H Q;have H:=v.c i f.out;have M:=v.f;go_upto_region 11 with fail;have hlen:(k.set i (O y B L)).length=8:=Rx Xt G.len
 have g:=dD hlen;clear hlen;obtain⟨l,f⟩:=kB (P.setCell ⟨K,i,Xb⟩ (O y B L));have C:Xo (Box l K (k.set i (O y B L))):=show Box _ _ _ by rw[<-f];exact v.set i _
 have F:Xo (Box l (w.heap.size+2) zfG):=dD<|by rw[<-f];exact E.other (by have:=d.out;have:=D.out;have:=c.out;simp;omega) _
 have v:Xo (zc w l):=dD<|by rw[<-f];exact Below.setCell z (p:=⟨K,i,Xb⟩) (by have:=d.out;have:=D.out;have:=c.out;simp;omega) _
 have d:Xo (js (s.heap.size+2) l (k.set i (O y B L)) (t.set i T)):=dD<|by
  rw[<-f];exact⟨q.len,q.aO,fun j A h r l=>(q.row j A h r l).aT (fun a b=>u.out j A r a b) _,q.two⟩
 rw[f];clear f H M
 go_wp2_with (first | refine qI rfl (.tmp 10) rfl K rfl C g.out ?_ | refine zz rfl 74 (.tmp 6) (.tmp 40) rfl (w.heap.size+2) rfl _ rfl F g ztq d.new.one ?_)
 intro q s f C;have u:=dD s;have z:Xo (zc w q):=show zc _ _ from zd v f Sm
 have v:Xo (za8 0 w.heap.size q (k.set i (O y B L)) (t.set i T)):=show za8 _ _ _ _ _ from
  ⟨d.len,d.aO,fun j A h r l=>(((d.row j A h r l).grown f (fun a b e=>by
   cases e;have:=((d.row j A h r l).lt _ b).1;have:=c.out
   omega)).new.stays).less (nR _) (Hm c.out)⟩
 clear s f C;go_wp2;refine bodyPost_ret (z5 rfl _ rfl u underlying74 rfl (Rx g.out ztq)) rfl ⟨_,rfl,v,z⟩
def chL (V:MaV) (m:Ma):List Xq:=[O V.f.a V.f.n V.f.c,Xe Xf m.aB,O V.s.a V.s.n V.s.c,O V.sb.a V.sb.n V.sb.c,O V.sq.a V.sq.n V.sq.c,O V.db.a V.db.n V.db.c,O V.dq.a V.dq.n V.dq.c,O V.fl.a V.fl.n V.fl.c,Xe Xf m.cnt,O V.ca.a V.ca.n V.ca.c,O V.sp.a V.sp.n V.sp.c]
theorem zk.grown {D:Nat->Prop} {w:Xn} (a:w.grownBy w' (Xa b)) (h:D b):zk D w w':=
 ⟨a.os,a.tape,a.output,a.size,fun k d c=>a.block k d (fun e=>by cases e;exact c h)⟩
theorem zl.aK {D:Nat->Prop} {w:Xn} {cs:List Xq} (h:zl w b t cs) (k:zk D w w') (a:¬D b):zl w' b t cs:=(k.block b h.box.lt a).trans h
theorem za8.aK {D:Nat->Prop} {w:Xn} {t:List (List En)} (h:za8 0 B w us t) (a:∀k,D k->k<B) (k:zk D w W):zaB W us t:=
 (h.out ⟨k.os,k.tape,k.output,k.size,fun i b c=>k.block i b (fun e=>Hm (a i e))⟩).now
def Qw (m:Ma) (e:En) (n:Int):Ma:=if e.kind=1 then{ m with fs:=QI m.fs m.aB e.n n,aB:=zns m.fs m.aB e.n n }else if e.kind=2 then{ m with sl:=ZS m.sl e.n n }else m
def Jo (m:Ma) (q:Nat) (n:Int):En:=zer (m.sp.getD q ⟨Xd,[],[]⟩).tb n
def jv (m:Ma) (q:Nat) (n:Int) (e:En):Ma:={ m with sp:=m.sp.set q { m.sp.getD q ⟨Xd,[],[]⟩with tb:=zjD (m.sp.getD q ⟨Xd,[],[]⟩).tb n e } }
def zlF (m:Ma) (p:Nat) (n:Int):Ma:=jv (Qw m (Jo m p n) (-1)) p n en0
theorem Sp.aP {l:List Sp} {q:Nat} {s d:Sp} (h:l[q]? =Xa s):l.getD q d=s:=by
 rw[gD,h];rfl
section
variable{I:Xn->Prop} {P:Program} {ops:Array Oper} {S:Nat->Option (Xq->Prop)} {Q:Act->Xn->Prop}
variable(I P ops S Q)in
abbrev zew:List Oper->Nat->(Xn->Prop)->Act->Prop:=Jr I P ops S (fun _=>Xd) Q
theorem qw {Q:Exit->Act->Xn->Prop} {a:Act} {w:Xn} {l r:List Oper} (T:Nat) (S:List (Nat ×(Xq->Prop))) (F:Xn->Prop) (e:I w.drew) (d:F w.drew) (j:P.follows .mixedOrders=Xc) (c:Q7 L.toArray T=Xc) (g:L.take T=l) (m:L.drop T=r) (f:T<=L.length)
  (hS:∀x∈S,∃v,x.2 v) (b:((S.map (·.1)).all fun i=>(S.map (·.1)).all fun k=>!decide (i<k) || anc L.toArray 9 i k)=Xc)
  (h:zew I P L.toArray (fun k=>S.lookup k) (fun a w=>wpList P L.toArray Q r a w) l 0 F a):(Code.region id L.toArray Xc).wp P Q a w:=
 Qi T S [] F e d j c g m f hS (Si b) rfl h
variable{o:Oper} {rest:List Oper} {k:Nat} {F:Xn->Prop} {a:Act}
theorem zb9 (b:zo2 o=Xc) (c:Xs o (yielded ops a.tmps)=Xc) (hS:S k=Xb)
  (h:∀K:Act->Prop,(∀a,zew I P ops S Q rest (k+1) F a->K a)->o.quiet P a (fun w'=>∃x:zq I,w'=x.world) K):zew I P ops S Q (o :: rest) k F a:=Zq b c hS h
theorem zy{P Q:Prop}(k:Q)(h:Go.RowKit.Hid Q->P:=by intro h;refine zb9 rfl rfl rfl (fun K a=>?_);go_big_quiet_op;exact a _ h.out):P:=h k
theorem zV {s:Xq->Prop} (c:Xs o (yielded ops a.tmps)=Xc) (hS:S k=Xa s) (p:Xq->Xn->Prop)
  (h:∀w,I w->F w->zP P o a w fun v w'=>I w'/\s v/\p v w')
  (b:∀v,s v->zew I P ops S Q rest (k+1) (p v) (a.put o.dst v)):zew I P ops S Q (o :: rest) k F a:=JQ c hS p h b
theorem qG (x p) (b:o.op= .nilCheck x) (d:a.eval x= Xj (Xa p)) (c:Xs o (yielded ops a.tmps)=Xc) (hS:S k=Xb) (h:zew I P ops S Q rest (k+1) F (a.put o.dst (Xj (Xa p)))):zew I P ops S Q (o :: rest) k F a:=JR x p b d c hS h
theorem jW (h:∀w,I w->F w->Q a w):zew I P ops S Q [] k F a:=zak h
theorem Zx (v) (b:Xs o (yielded ops a.tmps)=Xc) (hS:S k=Xb) (h:∀w,I w->(execOp a.eval o).run P w= .ok (.value v) w) (c:zew I P ops S Q rest (k+1) F (a.put o.dst v)):zew I P ops S Q (o :: rest) k F a:=zbw b hS (fun w b _=>h w b) c
end
theorem zq6 (q:List Int) (i:Nat) (z:Int):pgc (q.set i z)=(pgc q).set i (U8 z):=by
 unfold pgc;rw[List.map_set]
theorem zsl {q:List Int} {i:Nat} (h:q[i]? =Xa z):(pgc q)[i]? =Xa (U8 z):=by
 unfold pgc;rw[Of,h];rfl
theorem ztF:(Tryz.prog.info? 91).map (·.size)=Xa 8:=by kernel_rfl
theorem ziD {a:List (List Int)} {i:Nat} {l:List Int} (h:∀p∈a,p.length=8) (b:l.length=8):∀p∈a.set i l,p.length=8:=fun p a=>by grind
theorem Zo {w:Xn} {rest:List Oper} {a:Act} (f:o.guard=Xb) (p x) (m:o.op= .store 91 p x)
  (base:Nat) (v:Xq) (c:List (List Int)) (b:zs base w v c) (g i:Nat) (k:v.ownBlock=Xa g) (hi:i<c.length) (l:List Int) (h:l.length=8)
  (d:Addr) (hp:a.eval p= Xj (Xa d)) (e:d=⟨g,i*8,Xb⟩) (n:a.eval x= Xi (pgc l).toArray)
  (j:∀w',zs base w' v (c.set i l)->w.grownBy w' (Xa g)->w'.heap.size=w.heap.size->wpList prog ops Q rest (a.put o.dst undef) w'):wpList prog ops Q (o :: rest) a w:=by
 refine Jg f p x 91 m 8 Kr base v c.length _ b.1 g i k hi (pgc l) (by rw[ZL,h]) (jy l) d hp e n fun w' d e f=>?_
 rw[zac l (by rw[ZL,h]) c i (fun c k=>by rw[ZL,b.2.1 c k]) hi]at d
 refine j w' ⟨Rx Xt d,ziD b.2.1 h,Rx Xt b.2.2⟩ e f
def qB (keep:Nat->Bool):List (Int × List Int)->Nat->List (List Int)->List (List Int)
 | [],_,ps=>ps
 | q :: r,j,ps=>qB keep r (j+1) (if keep j then ps.set q.1.toNat q.2 else ps)
def jL (keep:Nat->Bool) (ps:List (List Int)) (qs:List (Int × List Int)):List (List Int):=if zB ps.length qs=0 then qB keep qs 0 ps else []
def zjt (g:Nat) (lb:Array Xq) (keep:Nat->Bool) (w:Xn):Prop:=
 ∀W (j:Nat),zc w W->j<=400->Xp prog g (#[Xe Xf (j:Int)]++lb) W fun e W'=>e= Xl (Xh (keep j))/\zc W W'
theorem qk {n:Nat} {qs:List (Int × List Int)} (h:zB n qs=0):n<=80/\qs.length<=400/\∀q∈qs,∃i:Nat,q.1=(i:Int)/\i<n:=by grind [zB,j0,Yg.2,Int.eq_ofNat_of_zero_le]
theorem zdp (base:Nat) (w):zO base w (Xi #[eS,eS]) [] []:=
 ⟨_,_,rfl,⟨⟨Xb,0,rfl,fun _=>rfl,fun x a=>by cases a⟩,Sm,Sm⟩,⟨⟨Xb,0,rfl,fun _=>rfl,fun x a=>by cases a⟩,Sm,Sm⟩,ZE _,ZE _⟩
theorem zm8 (w):jr w (eS) []:=⟨⟨Xb,0,rfl,fun _=>rfl,fun x a=>by cases a⟩,Sm,Sm⟩
theorem zeG (a:Nat->Bool) (g:Nat) (lb:Array Xq) (dk:∀G w,(callFunc g G).run prog w= .ok (.enter g G) w) (d) (l:List (List Int)) (qs:List (Int × List Int)) (w:Xn) (ce:ZG w d l qs) (bo:zjt g lb a w):
  Xp prog 196 #[d,.func (.func g) #[] lb] w fun e w'=>∃bk,e= Xl (Xm #[bk,I6 (zB l.length qs)])/\zO w.heap.size w' bk (jL a l qs) []/\zc w w':=by
 obtain⟨da,E,rfl,be,bf⟩:=ce;have bw:=dD be;have bz:=dD bf;have c1:=dD bo;obtain⟨U,V,rfl,_⟩:=be.rows;obtain⟨ae,ap,rfl,H⟩:=bf.rows;have c0:=dD H;clear be bf bo H;have S:Xo (jL a l qs=if zB l.length qs=0 then qB a qs 0 l else []):=rfl;obtain⟨B,q⟩:=kA l.length;obtain⟨nq,r⟩:=kA qs.length;have n:∀W,zc w W->Xp prog 60 #[Xi #[O U B V,O ae nq ap]] W fun e w'=>e= Xl (I6 (zB l.length qs))/\zc W w':=fun W bd=>by
  rw[<-q.out,<-r.out];exact zbb U l.length V _ qs W (bz.aA bd)
 have m:∀W,zc w W->Xp prog 99 #[O U B V] W fun e w'=>∃bq,e= Xl bq/\zs W.heap.size w' bq l/\zc W w':=fun W bd=>by
  rw[<-q.out];exact zaI _ l W (bw.aA bd)
 rw[q.out,r.out];obtain⟨aw,ad⟩:=kA (zB l.length qs);rw[ad.out]at S;simp only[ad.out]at n;have b9:Xo (zB B qs=aw):=dD<|Ry q.out ad.out
 rw[b9.out];have C:Xo (zc w ((w.alloc (Xk #[O U B V,O ae nq ap] 38)).alloc (Xk #[eS,eS] 38))):=dD<|(za _ _).trans (za _ _)
 by_cases bg:aw=0
 ·subst bg;rw[kE rfl]at S;obtain⟨aa,y,Y⟩:=qk ad.out;have b8:=dD Y;have ck:nq<=400:=Ry r.out y
  clear Y y aa
  go_enter func196,ntmps196
  go_wp2_with (first
   | (go_at_call 60;refine(n _ C).mono ?_;rintro e k ⟨rfl,b⟩;have c9:k.cell? ⟨w.heap.size,0,Xb⟩=Xa (O U B V):=(Below.cell b (by simp;omega)).trans Sm;have bb:k.cell? ⟨w.heap.size,1,Xb⟩=Xa (O ae nq ap):=(Below.cell b (by simp;omega)).trans Sm;have D:Xo (zc w k):=C.trans b)
   | (go_at_call 99;refine(m _ D).mono ?_;rintro e F ⟨v,rfl,bp,j⟩;have cl:F.cell? ⟨w.heap.size,1,Xb⟩=Xa (O ae nq ap):=(Below.cell j (World.block_lt_of_cell? _ _ bb)).trans bb;have c4:Xo (zs k.heap.size F v l):=bp;have ay:Xo (zc w F):=D.trans j))
  have i:Xo (w.heap.size+2<=k.heap.size):=dD<|by have:=bS b;simpa using this
  have M:=dD<|bS j;have an:F.cell? ⟨w.heap.size+1,0,Xb⟩=Xa (eS):=(Below.cell (b.trans j) Sm).trans Sm
  have ao:F.cell? ⟨w.heap.size+1,1,Xb⟩=Xa (eS):=(Below.cell (b.trans j) Sm).trans Sm
  have ar:F.frozen? ⟨w.heap.size+1,0,Xb⟩=Xd:=(Below.frozen (b.trans j) Sm).trans Sm
  have au:F.frozen? ⟨w.heap.size+1,1,Xb⟩=Xd:=(Below.frozen (b.trans j) Sm).trans Sm
  have bs:=dD an;have bt:=dD ao;have bu:=dD ar;have bv:=dD au;have bx:Xo (∀(ac:Nat) E,qs[ac]? =Xa E->qs.drop ac=E :: qs.drop (ac+1)):=show∀(ac:Nat) E,_ from fun ac E cc=>by
   obtain⟨u,rfl⟩:=gS.1 cc;exact List.drop_eq_getElem_cons u
  clear c9 bb cl b j an ao ar au n m bp
  go_loopg [8,9,22] nq (fun ca _ _ bi wr=>∃(f:Nat) (z:List (List Int)),f<=nq/\nq - f<=ca/\bi=I6 f/\Xo (Below k.heap.size F wr)/\Xo (zs k.heap.size wr v z)/\Xo (z.length=B)/\Xo (qB a (qs.drop f) f z=qB a qs 0 l))
  exact⟨0,l,nZ _,Wm,rfl,bR _ _,c4,q,rfl⟩
  obtain⟨f,z,ci,cf,rfl,A,Q,T,N⟩:=hrel;have ax:Xo (zc w wr):=dD<|Below.trans ay (A.mono (Hm i.out))
  by_cases u:f<nq
  ·have I:=kC u
   obtain⟨E,L⟩:∃E,Xo (qs[f]? =Xa E):=⟨_,gE (Rx r.out u)⟩
   obtain⟨br,dm,af,ag,ah,ai,aj,ak,al,am,rfl,rfl,bn⟩:=c0.out f E L.out;obtain⟨db,dc,dd,de,df,dg,dh,di,dj⟩:=bn wr ax.out;obtain⟨K,a9,bm⟩:=b8.out _ (mG L);simp only at a9;subst a9;have Z:K<B:=Ry q.out bm
   have ch:(K:Int)< (B:Int):=Wm
   have cg:(0:Int)<=(K:Int):=Wm
   have h:=c1.out (wr.alloc (Xk #[I6 (K:Int),U8 af,U8 ag,U8 ah,U8 ai,U8 aj,U8 ak,U8 al,U8 am] 117)) f (ax.trans (za _ _)) Wm
   have x:=bx.out f _ L.out;have bj:=dD x;clear bn x bm;obtain⟨P,t,rfl,X⟩:∃P t,v= O (Xa ⟨P,0,Xb⟩) B t/\k.heap.size<=P:=by
    rcases Q.1.2 with⟨_,bl⟩|⟨P,t,c7,bl,cd,_⟩
    ·have:=T.out;omega
    exact⟨P,t,by rw[bl,T.out],cd⟩
   have az:=dD X;clear X
   cases R:a f with
   | true=>
    rw[R]at h
    go_wp2_with (first
     | (
      go_at_fn g;refine h.mono ?_;rintro e s ⟨rfl,c⟩
      have cr:s.cell? ⟨wr.heap.size,0,Xb⟩=Xa (I6 (K:Int)):=(Below.cell c Sm).trans Sm
      have cs:s.cell? ⟨wr.heap.size,1,Xb⟩=Xa (U8 af):=(Below.cell c Sm).trans Sm
      have ct:s.cell? ⟨wr.heap.size,2,Xb⟩=Xa (U8 ag):=(Below.cell c Sm).trans Sm
      have cu:s.cell? ⟨wr.heap.size,3,Xb⟩=Xa (U8 ah):=(Below.cell c Sm).trans Sm
      have cw:s.cell? ⟨wr.heap.size,4,Xb⟩=Xa (U8 ai):=(Below.cell c Sm).trans Sm
      have cx:s.cell? ⟨wr.heap.size,5,Xb⟩=Xa (U8 aj):=(Below.cell c Sm).trans Sm
      have cy:s.cell? ⟨wr.heap.size,6,Xb⟩=Xa (U8 ak):=(Below.cell c Sm).trans Sm
      have cz:s.cell? ⟨wr.heap.size,7,Xb⟩=Xa (U8 al):=(Below.cell c Sm).trans Sm
      have d9:s.cell? ⟨wr.heap.size,8,Xb⟩=Xa (U8 am):=(Below.cell c Sm).trans Sm
      have ba:Xo (zs k.heap.size s (O (Xa ⟨P,0,Xb⟩) B t) z):=Q.aA ((za _ _).trans c))
     | (refine Zo rfl (.tmp 35) (.tmp 34) rfl k.heap.size _ z ba P K rfl (Rx T.out Z) [af,ag,ah,ai,aj,ak,al,am] rfl _ rfl Sm rfl ?_;intro cp bh bc co))
    go_roundg (nq -(f+1))
    case measure=>omega
    refine⟨f+1,z.set K [af,ag,ah,ai,aj,ak,al,am],Wm,Wm,Gn,?_,bh,(show Xo _ from Rx Xt T),?_⟩
    ·exact Below.grown (zko A (by have:=A.size;have:=M.out;omega) ((za _ _).trans c)) bc (by have:=A.size;have:=M.out;have:=bS ((za wr _).trans c);omega) (fun dl R=>by cases R;exact az)
    show qB a (qs.drop (f+1)) (f+1) (z.set K _)=_
    rw[<-N.out,bj.out]
    simp[qB,R]
   | false=>
    rw[R]at h
    go_wp2_with (go_at_fn g;refine h.mono ?_;rintro e s ⟨rfl,c⟩)
    go_roundg (nq -(f+1))
    case measure=>omega
    refine⟨f+1,z,Wm,Wm,Gn,?_,Q.aA ((za _ _).trans c),T,?_⟩
    ·exact zko A (by have:=A.size;have:=M.out;omega) ((za _ _).trans c)
    show qB a (qs.drop (f+1)) (f+1) z=_
    rw[<-N.out,bj.out]
    simp[qB,R]
  have I:=kD u
  have:f=nq:=Wm
  subst this;have an:wr.cell? ⟨w.heap.size+1,0,Xb⟩=Xa (eS):=(Below.cell A (p:=⟨w.heap.size+1,0,Xb⟩) (by have:=i.out;show w.heap.size+1<_;omega)).trans bs.out
  have ao:wr.cell? ⟨w.heap.size+1,1,Xb⟩=Xa (eS):=(Below.cell A (p:=⟨w.heap.size+1,1,Xb⟩) (by have:=i.out;show w.heap.size+1<_;omega)).trans bt.out
  have ar:wr.frozen? ⟨w.heap.size+1,0,Xb⟩=Xd:=(Below.frozen A (p:=⟨w.heap.size+1,0,Xb⟩) (by have:=i.out;show w.heap.size+1<_;omega)).trans bu.out
  have au:wr.frozen? ⟨w.heap.size+1,1,Xb⟩=Xd:=(Below.frozen A (p:=⟨w.heap.size+1,1,Xb⟩) (by have:=i.out;show w.heap.size+1<_;omega)).trans bv.out
  obtain⟨c5,cn,c8,rfl⟩:=Q.slice;go_wp2;refine bodyPost_ret (v:= Xm #[Xi #[O c5 cn c8,eS],I6 0]) (by simp[results,Tryz.results196,go_sem, *]) rfl ⟨_,rfl,⟨_,_,rfl,?_,zm8 _,fun br cm c6 e=>nT (Hm i.out) (Q.fresh br cm c6 e),ZE _⟩,?_⟩
  ·rw[S.out];have e:qB a qs 0 l=z:=by
    rw[<-N.out,Xu (by rw[r.out];exact nR _)]
    rfl
   rw[e];exact((Q.setCell (by have:=i.out;show w.heap.size+1<_;omega) _).setCell (by have:=i.out;show w.heap.size+1<_;omega) _).at
  exact Below.setCell (Below.setCell ax (p:=⟨w.heap.size+1,0,Xb⟩) Sm _) (p:=⟨w.heap.size+1,1,Xb⟩) Sm _
 have cj:(aw != 0)=Xc:=Si bg
 rw[kF bg]at S
 go_enter func196,ntmps196
 go_wp2_with (
  go_at_call 60;refine(n _ C).mono ?_;rintro e k ⟨rfl,b⟩
  have an:k.cell? ⟨w.heap.size+1,0,Xb⟩=Xa (eS):=(Below.cell b Sm).trans Sm
  have ao:k.cell? ⟨w.heap.size+1,1,Xb⟩=Xa (eS):=(Below.cell b Sm).trans Sm
  have ar:k.frozen? ⟨w.heap.size+1,0,Xb⟩=Xd:=(Below.frozen b Sm).trans Sm
  have au:k.frozen? ⟨w.heap.size+1,1,Xb⟩=Xd:=(Below.frozen b Sm).trans Sm
  have D:Xo (zc w k):=C.trans b)
 refine bodyPost_ret (v:= Xm #[Xi #[eS,eS],I6 aw]) (by simp[results,Tryz.results196,go_sem, *]) rfl ⟨_,rfl,?_,?_⟩
 ·rw[S.out];exact zdp _ _
 exact Below.setCell (Below.setCell D (p:=⟨w.heap.size+1,0,Xb⟩) Sm _) (p:=⟨w.heap.size+1,1,Xb⟩) Sm _
def JN (n:Int):Int:=if 0<=n/\n<=80 then 0 else 4
def znb (n:Int):List (List Int):=if 0<=n/\n<=80 then Xr n.toNat zI else []
theorem zla (n:Nat):(madeCells #[U8 0,U8 0,U8 0,U8 0,U8 0,U8 0,U8 0,U8 0] (n*8)).toList=(Xr n zI).flatMap pgc:=by
 have g:((Xr n zI).flatMap pgc).length=n*8:=by rw[qT (k:=8) _ (fun e b=>by rw[Xx b];rfl)];simp
 apply Yd
 intro j
 rcases Nat.lt_or_ge j (n*8)with h|h
 ·have f:j=j / 8*8+j % 8:=Wm
  have a:j % 8<8:=Nat.mod_lt _ Dc
  have i:j / 8<n:=Wm
  have l:(pgc zI)[j % 8]? =Xa (U8 0):=by
   generalize j % 8=c at a
   match c,a with
   | 0,_=>rfl
   | 1,_=>rfl
   | 2,_=>rfl
   | 3,_=>rfl
   | 4,_=>rfl
   | 5,_=>rfl
   | 6,_=>rfl
   | 7,_=>rfl
  have d:=ZF (enc:=pgc) (k:=8) (Xr n zI) (j / 8) zI (fun e b=>by rw[Xx b];rfl) (by simp[i]) (j % 8) _ l
  rw[<-f]at d;rw[d];have:(#[U8 0,U8 0,U8 0,U8 0,U8 0,U8 0,U8 0,U8 0]:Array Xq)[j % 8]! =U8 0:=by
   generalize j % 8=c at a
   match c,a with
   | 0,_=>rfl
   | 1,_=>rfl
   | 2,_=>rfl
   | 3,_=>rfl
   | 4,_=>rfl
   | 5,_=>rfl
   | 6,_=>rfl
   | 7,_=>rfl
  simp[madeCells,h]
  grind
 rw[gN (by simp[madeCells];exact h),gN (Rx g h)]
theorem zbU {w:Xn} {rest:List Oper} {a:Act} (b:o.guard=Xb) (l) (j:o.op= .makeSlice 35 l l) (n:Nat) (i:a.eval l=I6 n) (c:n<=80)
  (h:∀C,zs w.heap.size (w.alloc (Xk C 91)) (O (Xa ⟨w.heap.size,0,Xb⟩) n n) (Xr n zI)->wpList prog ops Q rest (a.put o.dst (O (Xa ⟨w.heap.size,0,Xb⟩) n n)) (w.alloc (Xk C 91))):wpList prog ops Q (o :: rest) a w:=by
 refine wpList_plain b fun K f=>?_
 obtain⟨m,g,c,d,e⟩:=info_parts ztt;have b:=run_make (P:=prog) w 35 91 m _ underlying35 g c .i64 .i64 n n Wm (Int.le_refl _) (by rw[e];omega) Wm
 rw[d,tN]at b;unfold Oper.wp;simp only[execOp,j,i,Xv,b,Result.andThen,Ya,Oper.upon];refine f _ _ (h _ ⟨⟨?_,.inr ⟨w.heap.size,n,madeCells #[U8 0,U8 0,U8 0,U8 0,U8 0,U8 0,U8 0,U8 0] (n*8),by rw[lR],nR _,?_,?_,?_,?_,?_⟩⟩,fun p b=>by rw[Xx b];rfl,by rw[lR];omega⟩)
 ·rw[qT (k:=8) _ (fun a b=>by rw[Xx b];rfl)]
 ·show(w.heap.push _)[w.heap.size]? =_
  simp[Value.cells]
 ·rw[lR];exact nR _
 ·exact jB Wm
 ·rw[size_madeCells]
 rw[lR]
 show(madeCells #[U8 0,U8 0,U8 0,U8 0,U8 0,U8 0,U8 0,U8 0] (n*8)).toList.take (n*8)=_
 rw[Yt (by simp[madeCells]),zla]
theorem zq9 (n:Int) (w:Xn):
  Xp prog 17 #[I6 n] w fun e w'=>∃a,e= Xl (Xm #[a,I6 (JN n)])/\zO w.heap.size w' a (znb n) []/\zc w w':=by
 by_cases h:0<=n/\n<=80
 ·have b:Xo (JN n=0):=dD<|by unfold JN;rw[kE h]
  have a:Xo (znb n=Xr n.toNat zI):=dD<|by unfold znb;rw[kE h]
  obtain⟨k,rfl⟩:=Int.eq_ofNat_of_zero_le h.1;have g:¬(k:Int)<0:=Wm
  have i:¬(80:Int)< (k:Int):=Wm
  have c:k<=80:=Wm
  have d:Xo (zc w (w.alloc (Xk #[eS,eS] 38))):=za _ _;rw[b.out]
  go_enter func17,ntmps17
  go_wp2_with (refine zbU rfl (.tmp 11) rfl k rfl c ?_;intro C d;have f:Xo (zs (w.alloc (Xk #[eS,eS] 38)).heap.size ((w.alloc (Xk #[eS,eS] 38)).alloc (Xk C 91)) (O (Xa ⟨(w.alloc (Xk #[eS,eS] 38)).heap.size,0,Xb⟩) k k) (Xr k zI)):=d;clear d)
  refine bodyPost_ret (v:= Xm #[Xi #[O (Xa ⟨w.heap.size+1,0,Xb⟩) k k,eS],I6 0]) (by simp[results,Tryz.results17,go_sem, *]) rfl ⟨_,rfl,?_,?_⟩
  ·rw[a.out];have d:=f.out;rw[World.size_alloc]at d;exact⟨_,_,rfl,zs.at (base:=w.heap.size+1) ⟨zg2 d.1 (fun k c=>zjq w _ _ _ k c),d.2⟩,zm8 _,fun x n c e=>by cases e;simp,ZE _⟩
  exact(za _ _).trans (za _ _)
 have b:Xo (JN n=4):=dD<|by unfold JN;rw[kF h]
 have a:Xo (znb n=[]):=dD<|by unfold znb;rw[kF h]
 rw[b.out,a.out]
 by_cases g:n<0
 ·clear h
  go_enter func17,ntmps17
  go_wp2;refine bodyPost_ret (v:= Xm #[Xi #[eS,eS],I6 4]) (by simp[results,Tryz.results17,go_sem]) rfl ⟨_,rfl,zdp _ _,?_⟩
  exact za _ _
 have i:(80:Int)<n:=Wm
 clear h
 go_enter func17,ntmps17
 go_wp2;refine bodyPost_ret (v:= Xm #[Xi #[eS,eS],I6 4]) (by simp[results,Tryz.results17,go_sem]) rfl ⟨_,rfl,zdp _ _,?_⟩
 exact za _ _
end
section
open Go.RowKit Go.Shelf
section
attribute [local go_sem] Oper.semAt_some
structure P9 where
  (i m b0 b1 b2 b3 b4 b5 b6 b7 : Int)
def P9.q (x : P9) : Int × List Int := (x.m, [x.b0, x.b1, x.b2, x.b3, x.b4, x.b5, x.b6, x.b7])
def P9.encs (x : P9) : Array Value := #[.int .i64 x.i, .agg #[.int .i64 x.m, .int .u8 x.b0, .int .u8 x.b1, .int .u8 x.b2, .int .u8 x.b3, .int .u8 x.b4, .int .u8 x.b5, .int .u8 x.b6, .int .u8 x.b7]]
theorem zkf {α : Type} (l : List α) (k : Nat) (q : α) (h : l[k]? = Xa q) : (l.drop k).reverse = (l.drop (k + 1)).reverse ++ [q] := by
  grind [List.getElem?_eq_some_iff.1, List.drop_eq_getElem_cons, List.reverse_cons]
theorem zp6 {α : Type} (l : List α) (k : Nat) : (l.drop k).reverse <+: l.reverse := by
  refine ⟨(l.take k).reverse, ?_⟩
  rw [<- List.reverse_append, List.take_append_drop]
theorem zqo (F : Fence) (n : Nat) (hF : F.fn 234) (hro : F.round = Xb) (hn : 1 <= n) (l Bs n₀ : Nat) (w : Xn) (a) (c : Nat) (qs : List (Int × List Int)) (hr : zd8 w a qs) (hbig : qs.length <= 9223372036854775807) (hw : w.heap.size <= n₀) (hBn : Bs < n₀) (J Jx : List P9 -> Xn -> Prop)
    (hY : ∀ pre x W, J pre W -> pre.length < qs.length -> YieldAt F (n - 1) Tryz.prog l (P9.encs x) W fun e W' =>
      (e = .returned (.bool true) /\ J (pre ++ [x]) W' /\ Below n₀ W W') \/ (e = .returned (.bool false) /\ Jx (pre ++ [x]) W'))
    (W : Xn) (hgW : zc w W) (hBs : W.cell? ⟨Bs, 0, Xb⟩ = Xa (O a qs.length c)) (h0 : J [] W) :
    CallsIn F n Tryz.prog 234 #[.func (.yield l) #[] #[], .pointer (some ⟨Bs, 0, none⟩)] W fun e W' => (∃ v, e = .returned v) /\
      ((∃ ys, ys.map P9.q = qs.reverse /\ J ys W') \/ (∃ pre, pre.map P9.q <+: qs.reverse /\ Jx pre W')) := by
  have HR : Xo (zd8 w a qs) := hr
  have HY : Hid _ := hY
  obtain ⟨nq, HN⟩ : ∃ nq, Hid (qs.length = nq) := ⟨_, rfl⟩
  rw [HN.out] at hbig hBs
  have HBS : Hid (W.cell? ⟨Bs, 0, none⟩ = some (.slice a nq c)) := hBs
  have HGW : Xo (zc w W) := hgW
  clear hr hY hgW
  refine callsIn_of_wp Tryz.func234 rfl hF ?_ hro
  simp only [Tryz.ntmps234, List.size_toArray, List.length_cons, List.length_nil, Nat.reduceAdd, Nat.reduceSub, Array.replicate_succ, Array.replicate_zero, List.push_toArray, List.append_toArray, List.nil_append, List.cons_append]
  gi_wp2
  clear hBs
  gi_loopw [3] (fun p wr => ∃ (r : Nat) (pre : List P9), r <= nq /\ p = .int .i64 ((r : Int) - 1) /\ Hid (pre.map P9.q = (qs.drop r).reverse) /\ Hid (J pre wr) /\ Hid (Below n₀ W wr))
    (fun p _ => ((intOf p) + 1).toNat)
  case atStart => exact ⟨nq, [], Nat.le_refl _, by go_num, (show Hid _ from by rw [List.drop_of_length_le (by rw [HN.out]; exact Nat.le_refl _)]; rfl), h0, Below.refl _ _⟩
  case round =>
    obtain ⟨r, pre, hrn, rfl, HP, HJ, HB⟩ := hrel
    cases r with
    | zero =>
      gi_wp2
      go_end0
      exact ⟨⟨_, rfl⟩, .inl ⟨pre, by rw [HP.out]; rfl, HJ.out⟩⟩
    | succ k =>
      obtain ⟨q, HQ⟩ : ∃ q, Hid (qs[k]? = some q) := ⟨_, List.getElem?_eq_getElem (by rw [HN.out]; omega)⟩
      obtain ⟨x, m, b0, b1, b2, b3, b4, b5, b6, b7, rfl, rfl, hl⟩ := HR.out k q HQ.out
      obtain ⟨d0, d1, d2, d3, d4, d5, d6, d7, d8⟩ := hl wr (Below.trans HGW.out (HB.out.mono hw))
      have hbs : wr.cell? ⟨Bs, 0, none⟩ = some (.slice (some x) nq c) := (HB.out.cell (p := ⟨Bs, 0, none⟩) hBn).trans HBS.out
      have hlen : pre.length < qs.length := by
        have := congrArg List.length HP.out
        rw [List.length_map, List.length_reverse, List.length_drop] at this
        have := HN.out
        omega
      obtain ⟨fn, tmps, assign, body, hy, hR⟩ := HY.out pre ⟨k, m, b0, b1, b2, b3, b4, b5, b6, b7⟩ wr HJ.out hlen
      simp only [P9.encs] at hy
      have hk1 : ((k + 1 : Nat) : Int) - 1 = (k : Int) := by omega
      have hkn : (k : Int) < (nq : Int) := by omega
      rw [hk1]
      clear hl
      gi_wp2
      refine hR.mono ?_
      rintro e W3 (⟨rfl, hJ3, hk3⟩ | ⟨rfl, hJx3⟩)
      · gi_wp2
        go_roundw
        case rel => exact ⟨k, _, by omega, by go_num, (show Xo _ from by rw [List.map_append, HP.out, zkf qs k _ HQ.out]; rfl), hJ3, (show Xo _ from HB.out.trans hk3)⟩
        case measure => simp [intOf]
      · gi_wp2
        refine bodyPost_ret (results_none rfl _ _ _) rfl ?_
        refine ⟨⟨_, rfl⟩, .inr ⟨_, ?_, hJx3⟩⟩
        rw [List.map_append, HP.out]
        have := zp6 qs k
        rw [zkf qs k _ HQ.out] at this
        exact this
theorem zrZ (F : Fence) (n : Nat) (hF : F.fn 211) (hro : F.round = Xb) (a : Option Addr) (len cap : Nat) (w : Xn) :
    CallsIn F n Tryz.prog 211 #[.slice a len cap] w fun e w' => e = .returned (.func (.func 234) #[] #[.pointer (some ⟨w.heap.size, 0, none⟩)]) /\ w' = w.alloc (.cells #[.slice a len cap] 36) := by
  refine callsIn_of_wp Tryz.func211 rfl hF ?_ hro
  simp only [Tryz.ntmps211, List.size_toArray, List.length_cons, List.length_nil, Nat.reduceAdd, Nat.reduceSub, Array.replicate_succ, Array.replicate_zero, List.push_toArray, List.append_toArray, List.nil_append, List.cons_append]
  gi_wp2
  go_ret
  exact ⟨rfl, rfl⟩
theorem zlZ (F : Fence) (n : Nat) (hF : F.fn 234) (hro : F.round = Xb) (hn : 1 <= n) (Bs n₀ : Nat) (w0 a) (c : Nat) (qs : List (Int × List Int)) (hr : zd8 w0 a qs) (hbig : qs.length <= 9223372036854775807) (w : Xn) (hg : zc w0 w) (hBs : Bs < n₀) (hn₀ : n₀ = w.heap.size)
    (hc : w.cell? ⟨Bs, 0, none⟩ = some (.slice a qs.length c)) :
    SeqStopsK F n Tryz.prog 234 #[.pointer (some ⟨Bs, 0, none⟩)] P9.encs (Below n₀) (fun ys => ys.map P9.q = qs.reverse) (fun pre => pre.map P9.q <+: qs.reverse) qs.length w := fun l J Jx W hW _ _ hY h0 => by
  subst hn₀
  exact zqo F n hF hro hn l Bs w.heap.size w0 a c qs hr hbig (Below.size hg) hBs J Jx hY W (hg.trans hW) ((hW.cell (p := ⟨Bs, 0, Xb⟩) hBs).trans hc) h0
end
section
attribute [local go_sem] Oper.semAt_some
theorem zgb {a:Type} (B:Nat) (f:a->List Xq):Own (fun s W=>Box W B (f s)):=fun s X Y a c d a=>by
 have b:=c.lt;obtain⟨t,h⟩:=c;refine⟨t,?_⟩;rw[d.block B b (fun e=>?_)]
 ·exact h
 obtain⟨b,b,c⟩:=a B e.symm;rw[h]at b;cases b;cases c
theorem Box.put {D:Nat} {cs:List Xq} {o:Obj} (h:Box W b cs) (o':Obj) (hD:W.heap[D]? =Xa o) (ho:o.isCells=Xd):Box (W.putObj D o') b cs:=
 zgb b (fun _:Unit=>cs) () W _ (Xa D) h (grownBy_putObj' W D o') (fun r e=>by cases e;exact⟨o,hD,ho⟩)
theorem jQ {A B:Xn} (h:KeepsOthers A B) (a u):KeepsOthers A (B.setCell a u):=h.trans (KeepsOthers.setCell _ _ _)
theorem znL {qs:List (Int × List Int)} {a:List P9} {m:Int} (h:a.map P9.q=qs.reverse) (b:∀x∈a,x.m≠m):qs.reverse.find? (fun q=>q.1 == m)=Xb:=by grind [Od,Yc.1,P9.q]
theorem znK {qs:List (Int × List Int)} {a:List P9} {x:P9} {m:Int} (h:(a++ [x]).map P9.q<+:qs.reverse) (b:∀y∈a,y.m≠m) (c:x.m=m):qs.reverse.find? (fun q=>q.1 == m)=Xa x.q:=by
 obtain⟨t,b⟩:=h;rw[<-b,List.map_append,Oh,Oi];have b:(a.map P9.q).find? (fun q=>q.1 == m)=Xb:=by grind [Od,Yc.1,P9.q]
 rw[b]
 simp[P9.q,c]
theorem qq {n:Nat} {qs:List (Int × List Int)} {m:Int} (h:zg n qs m=0):zB n qs=0/\∃i:Nat,m=(i:Int)/\i<n:=by grind [zg,zB,j0,Int.eq_ofNat_of_zero_le]
theorem zfy (d) (l:List (List Int)) (qs:List (Int × List Int)) (m:Int) (w) (dh:ZG w d l qs):
  Xp prog 184 #[d,I6 m] w fun e w'=>e= Xl (Xm #[Xi (pgc (zS l qs m)).toArray,I6 (zg l.length qs m)])/\zc w w':=by
 obtain⟨dt,ar,rfl,bp,br⟩:=dh;have dr:=dD bp;have ch:=dD br;obtain⟨V,X,rfl,ai⟩:=bp.rows;obtain⟨r,s,rfl,aj⟩:=br.rows;have ax:=dD ai;have ay:=dD aj;clear bp br ai aj;have H:Xo (zS l qs m=if zg l.length qs m=0 then(match qs.reverse.find? (fun ar=>ar.1 == m)with|some ar=>ar.2|none=>l.getD m.toNat zI)else zI):=rfl
 obtain⟨E,h⟩:=kB ((((w.alloc (Xk #[O V l.length X,O r qs.length s] 38)).alloc (Xk #[I6 m] 3)).alloc (Xk #[U8 0,U8 0,U8 0,U8 0,U8 0,U8 0,U8 0,U8 0] 91)).alloc (Xk #[I6 0] 47));have G:Xo (zc w E):=dD<|by rw[<-h];exact(((za _ _).trans (za _ _)).trans (za _ _)).trans (za _ _)
 have a4:Xo (Box E w.heap.size [O V l.length X,O r qs.length s]):=dD<|by rw[<-h];exact(((Box.aE w [O V l.length X,O r qs.length s] _ rfl).alloc _).alloc _).alloc _
 have an:Xo (Box E (w.heap.size+1) [I6 m]):=dD<|by rw[<-h];exact((Box.aE _ [I6 m] _ Sm).alloc _).alloc _
 have a5:Xo (Box E (w.heap.size+1+1) [U8 0,U8 0,U8 0,U8 0,U8 0,U8 0,U8 0,U8 0]):=dD<|by rw[<-h];exact(Box.aE _ [U8 0,U8 0,U8 0,U8 0,U8 0,U8 0,U8 0,U8 0] _ Sm).alloc _
 have U:Xo (Box E (w.heap.size+1+1+1) [I6 0]):=dD<|by rw[<-h];exact Box.aE _ [I6 0] _ Sm
 have i:=Zm V l.length X (O r qs.length s) qs m E (ch.aA G);have T:qs.length<=9223372036854775807:=Hm ch.2.2
 obtain⟨al,ci⟩:=kA (zg l.length qs m);rw[ci.out]at i H⊢;obtain⟨bu,a0⟩:=kA l.length;obtain⟨nq,a1⟩:=kA qs.length;rw[a0.out,a1.out]at i h a4⊢;have a2:=dD h;clear h
 by_cases D:al=0
 ·subst D;rw[kE rfl]at H;refine(callsIn_wide (n:=5)).1 ?_;refine callsIn_of_wp_marks func184 rfl trivial ?_ rfl;simp only[ntmps184,Yq,Xz,Yb,Nat.reduceAdd,Nat.reduceSub,Yw,Yx,Oj,Oa,Yj,Xy]
  gi_wp2_with (first
   | (
    refine⟨trivial,?_⟩;gi_at_call 210;rw[a2.out];refine(callsIn_wide.2 i).mono ?_;rintro e A ⟨rfl,j⟩;have q:Xo (zc E A):=j;have db:=(a4.aA j).c 0 rfl;have ae:=(a4.aA j).c 1 rfl)
   | (
    refine⟨trivial,?_⟩;gi_at_call 211;refine(zrZ Fence.wide _ trivial rfl _ _ _ _).mono ?_;rintro e p ⟨rfl,af⟩;have z:Xo (p=A.alloc (Xk #[O r nq s] 36)):=af;clear af))
  have g:Xo (zc w p):=dD<|by rw[z.out];exact(G.trans q).trans (za _ _)
  have c:Xo (zc E p):=dD<|by rw[z.out];exact q.trans (za _ _)
  have az:Xo (w.heap.size+4<=A.heap.size/\p.heap.size=A.heap.size+1):=dD<|⟨by have cl:=bS q.out;have cn:=U.lt;omega,by rw[z.out];simp⟩
  have bS:Box p A.heap.size [O r nq s]:=by rw[z.out];exact Box.aE _ [O r nq s] _ rfl
  have cp:=bS.c 0 rfl;obtain⟨_,Y,ah,t⟩:=qq ci.out;have ct:Xo (m=(Y:Int)/\Y<l.length):=⟨ah,t⟩;clear db ae i j ah t bS;refine wpIn_rangeFunc_ownH rfl Dc (gf:=234) (lb:=#[Xj (Xa ⟨A.heap.size,0,Xb⟩)]) rfl trivial (enters_of func234 Kr rfl)
   (zlZ Fence.wide 4 trivial rfl Dc A.heap.size p.heap.size w r s qs ay T p g (Hm az.2) rfl (Rx a1.out cp)) belowK_t (belowK_b (nR _)) (bR _ _) (fun _=>rfl)
   (fun k W=>(∀x∈k,x.m≠m)/\Below p.heap.size p W)
   (fun ba k W=>(ba= .ret/\∃u b,k=u++ [b]/\(∀x∈u,x.m≠m)/\b.m=m/\Box W (w.heap.size+1+1) [U8 b.b0,U8 b.b1,U8 b.b2,U8 b.b3,U8 b.b4,U8 b.b5,U8 b.b6,U8 b.b7]/\Box W (w.heap.size+1+1+1) [I6 0])/\Below w.heap.size w W)
   (OwnFrom.and (fun dm a3 a6 v ak ag D=>ak) (ownFrom_below (nR _) (nR _)))
   (fun ba=>OwnFrom.and (Own.from (fun dm a3 a6 v ak ag D=>by
    obtain⟨dg,u,b,ae,bk,bl,dc,dd⟩:=ak;exact⟨dg,u,b,ae,bk,bl,zgb _ (fun _:Unit=>_) () a3 a6 v dc ag D,zgb _ (fun _:Unit=>_) () a3 a6 v dd ag D⟩) _) (ownFrom_below (nR _) (bS g)))
   ⟨Sm,bR _ _⟩
   (fun x b9 W=>∃F,p.heap.size<=F/\Box W F [I6 x.m,U8 x.b0,U8 x.b1,U8 x.b2,U8 x.b3,U8 x.b4,U8 x.b5,U8 x.b6,U8 x.b7]/\
    b9={ tmps:=#[Xi #[O V bu X,O r nq s],I6 m,Xj (Xa ⟨w.heap.size,0,Xb⟩),Xj (Xa ⟨w.heap.size+1,0,Xb⟩),Xj (Xa ⟨w.heap.size+1+1,0,Xb⟩),Xj (Xa ⟨w.heap.size+1+1+1,0,Xb⟩),I6 0,undef,Xj (Xa ⟨F,0,Xb⟩),
     Xi #[O V bu X,O r nq s],I6 m,I6 0,I6 0,Xh Xd,undef,undef,Xj (Xa ⟨w.heap.size,1,Xb⟩),O r nq s,.func (.func 234) #[] #[Xj (Xa ⟨A.heap.size,0,Xb⟩)],I6 x.i,
     Xi #[I6 x.m,U8 x.b0,U8 x.b1,U8 x.b2,U8 x.b3,U8 x.b4,U8 x.b5,U8 x.b6,U8 x.b7],undef,undef,undef,undef,undef,undef,undef,undef,undef,undef,undef],defers:=[] })
   (fun x b9 _ a3 a6 v ak ag D=>by obtain⟨F,cl,cn,de⟩:=ak;exact⟨F,cl,zgb F (fun _:Unit=>_) () a3 a6 v cn ag (fun al e=>(D al e).2),de⟩)
   ?assign ?body ?done ?stop
  case assign=>
   rintro dl k x W ds ⟨R,f⟩ B;simp only[P9.encs]
   gi_wp2
   exact B _ _ ((KeepsOthers.alloc _ _).from _) ((bR _ W).alloc f.size _) ⟨R,f.alloc f.size _⟩ ⟨W.heap.size,f.size,Box.aE W [I6 x.m,U8 x.b0,U8 x.b1,U8 x.b2,U8 x.b3,U8 x.b4,U8 x.b5,U8 x.b6,U8 x.b7] _ rfl,rfl⟩
  case body=>
   rintro dl k x b9 W bq ⟨dv,bs⟩ ⟨R,f⟩ ⟨F,df,y,rfl⟩ di;have b8:=(an.aA c).below f ((an.aA c).lt);have M:=(a5.aA c).below f ((a5.aA c).lt);have N:=(U.aA c).below f ((U.aA c).lt);have K:=dD M;have L:=dD N;have Z:=dD f;obtain⟨bb,bc,bd,be,bf,bg,bh,bi⟩:=M.c8;have bm:=M.f;have bj:=N.c 0 rfl;have bn:=N.f 0;have du:=b8.c 0 rfl;have dw:=y.c 0 rfl;have dx:=y.c 1 rfl;have dy:=y.c 2 rfl;have dz:=y.c 3 rfl;have e6:=y.c 4 rfl;have e7:=y.c 5 rfl;have e8:=y.c 6 rfl;have e9:=y.c 7 rfl;have ea:=y.c 8 rfl;have cg:=dD R;clear R y f bs
   by_cases ap:x.m=m
   ·have bt:(x.m == m)=Xc:=Si ap
    gi_wp2
    refine⟨KeepsOthers.from ?_ _,⟨rfl,k,x,rfl,cg,ap,?_,?_⟩,?_⟩
    ·iterate 9 (refine jQ ?_ _ _)
     exact KeepsOthers.refl _
    ·exact((((((((K.set 0 _).set 1 _).set 2 _).set 3 _).set 4 _).set 5 _).set 6 _).set 7 _).other Sm _
    ·refine Box.set (cs:=[I6 0]) ?_ 0 _;iterate 8 (refine Box.other ?_ Sm _)
     exact L.out
    iterate 9 (refine zK ?_ (by simp;omega) _)
    exact Below.trans g (Z.mono (bS g))
   have bt:(x.m == m)=Xd:=Si ap
   gi_wp2
   exact⟨KeepsFrom.refl _ _,bR _ _,fun dn dk=>(Yi.1 dk).elim (cg dn) (fun e=>by simp at e;subst e;exact ap),Z⟩
  case done=>
   rintro am ec W bo ao ⟨R,f⟩ B;have cu:=(a4.aA c).below f ((a4.aA c).lt);have b8:=(an.aA c).below f ((an.aA c).lt);have M:=(a5.aA c).below f ((a5.aA c).lt);have N:=(U.aA c).below f ((U.aA c).lt);have K:=dD M;have L:=dD N;have I:=dD<|Below.trans g (f.mono (bS g))
   have cr:=znL ao R;obtain⟨rfl,t⟩:=ct.out;obtain⟨bv,S⟩:∃bv,l[Y]? =Xa bv:=⟨_,gE t⟩;obtain⟨eb,a7,a8,P,Q,a9,aa,ac,ad,rfl,rfl,bq⟩:=ax.out Y bv S;obtain⟨cv,cw,cx,cy,cz,d8,d9,da⟩:=bq W I.out;have co:(Y:Int)< (bu:Int):=by rw[<-a0.out];omega
   rw[cr,show l.getD (Int.toNat (Y:Int)) zI=[a7,a8,P,Q,a9,aa,ac,ad]from by simp[S]]at H
   have dp:=cu.c 0 rfl;have dq:=b8.c 0 rfl;obtain⟨bb,bc,bd,be,bf,bg,bh,bi⟩:=M.c8;have bm:=M.f;have bj:=N.c 0 rfl;have bn:=N.f 0;have aw:=dD B;clear bq S t ao R B f
   gi_wp2
   clear bb bc bd be bf bg bh bi bj bm bn dp dq cv cw cx cy cz d8 d9 da;have C:=(show KeepsOthers W _ from jQ (jQ (jQ (jQ (jQ (jQ (jQ (jQ (jQ (KeepsOthers.refl W) ⟨w.heap.size+1+1,0,Xb⟩ (U8 a7)) ⟨w.heap.size+1+1,1,Xb⟩ (U8 a8)) ⟨w.heap.size+1+1,2,Xb⟩ (U8 P)) ⟨w.heap.size+1+1,3,Xb⟩ (U8 Q)) ⟨w.heap.size+1+1,4,Xb⟩ (U8 a9)) ⟨w.heap.size+1+1,5,Xb⟩ (U8 aa)) ⟨w.heap.size+1+1,6,Xb⟩ (U8 ac)) ⟨w.heap.size+1+1,7,Xb⟩ (U8 ad)) ⟨w.heap.size+1+1+1,0,Xb⟩ (I6 0)).same am _ aw rfl
   refine⟨Sm,.inl ⟨_,_,rfl,run_takeDeferred C,?_⟩⟩
   have au:=(((((((((K.set 0 (U8 a7)).set 1 (U8 a8)).set 2 (U8 P)).set 3 (U8 Q)).set 4 (U8 a9)).set 5 (U8 aa)).set 6 (U8 ac)).set 7 (U8 ad)).other (a:=⟨w.heap.size+1+1+1,0,Xb⟩) Sm (I6 0)).put (.deferred Xb) C rfl
   have av:=((((((((((L.other (a:=⟨w.heap.size+1+1,0,Xb⟩) Sm (U8 a7)).other (a:=⟨w.heap.size+1+1,1,Xb⟩) Sm (U8 a8)).other (a:=⟨w.heap.size+1+1,2,Xb⟩) Sm (U8 P)).other (a:=⟨w.heap.size+1+1,3,Xb⟩) Sm (U8 Q)).other (a:=⟨w.heap.size+1+1,4,Xb⟩) Sm (U8 a9)).other (a:=⟨w.heap.size+1+1,5,Xb⟩) Sm (U8 aa)).other (a:=⟨w.heap.size+1+1,6,Xb⟩) Sm (U8 ac)).other (a:=⟨w.heap.size+1+1,7,Xb⟩) Sm (U8 ad)).set 0 (I6 0)).put (.deferred Xb) C rfl)
   obtain⟨bw,bx,bz,c9,ca,cc,cd,ce⟩:=au.c8;have cf:=av.c 0 rfl;refine⟨Xm #[Xi #[U8 a7,U8 a8,U8 P,U8 Q,U8 a9,U8 aa,U8 ac,U8 ad],I6 0],by simp[results,Tryz.f184,go_sem,bw,bx,bz,c9,ca,cc,cd,ce,cf],?_,?_⟩
   ·rw[H.out];rfl
   refine Below.trans ?_ (belowK_b (w:=p) (n₀:=w.heap.size) (bS g) _ am _ _ bo C rfl rfl);iterate 9 (refine zK ?_ (by simp;omega) _)
   exact I.out
  rintro am ba k W bo ao ⟨⟨rfl,u,b,ae,bk,bl,P,Q⟩,f⟩ B
  gi_wp2
  have au:=P.put (.deferred Xb) B rfl;have av:=Q.put (.deferred Xb) B rfl;obtain⟨bw,bx,bz,c9,ca,cc,cd,ce⟩:=au.c8;have cf:=av.c 0 rfl;refine⟨Sm,.inl ⟨_,_,rfl,run_takeDeferred B,?_⟩⟩
  refine⟨Xm #[Xi #[U8 b.b0,U8 b.b1,U8 b.b2,U8 b.b3,U8 b.b4,U8 b.b5,U8 b.b6,U8 b.b7],I6 0],by simp[results,Tryz.f184,go_sem,bw,bx,bz,c9,ca,cc,cd,ce,cf],?_,?_⟩
  ·subst ae;rw[H.out,znK ao bk bl];rfl
  exact Below.trans f (belowK_b (w:=p) (n₀:=w.heap.size) (bS g) W am _ _ bo B rfl rfl)
 have dj:(al != 0)=Xc:=Si D
 rw[kF D]at H;rw[H.out];refine(callsIn_wide (n:=5)).1 ?_;refine callsIn_of_wp_marks func184 rfl trivial ?_ rfl;simp only[ntmps184,Yq,Xz,Yb,Nat.reduceAdd,Nat.reduceSub,Yw,Yx,Oj,Oa,Yj,Xy]
 gi_wp2_with (
  refine⟨trivial,?_⟩;gi_at_call 210;rw[a2.out];refine(callsIn_wide.2 i).mono ?_;rintro e A ⟨rfl,j⟩;have cj:=dD (a5.aA j);have ck:=dD (U.aA j);obtain⟨bb,bc,bd,be,bf,bg,bh,bi⟩:=cj.c8;have bm:=cj.f;have bj:=ck.c 0 rfl;have bn:=ck.f 0)
 refine⟨Xm #[Xi #[U8 0,U8 0,U8 0,U8 0,U8 0,U8 0,U8 0,U8 0],I6 al],by simp[results,Tryz.f184,go_sem, *],rfl,?_⟩
 have q:=G.trans j;iterate 9 (refine zK ?_ (by simp;omega) _)
 exact q
end
end
section
open Go.RowKit
theorem zo.block {base:Nat} {w:Xn} {n cap:Nat} {qs:List (Int × List Int)} (h:zo base w (O (Xa ⟨g,0,Xb⟩) n cap) qs):
  n=qs.length/\base<=g/\qs.length<=cap/\cap<=maxLen/\∃cur,w.heap[g]? =Xa (Xk cur 117 (0,0))/\cur.size=cap*9/\cur.toList.take (qs.length*9)=qs.flatMap ptc:=by
 rcases h.1.2 with⟨b,_⟩|⟨a,a,cur,b,a,a,a,a,a,a⟩
 ·cases b
 grind
theorem zo.mk {base:Nat} {w:Xn} {cap:Nat} {qs:List (Int × List Int)} {cur:Array Xq} (c:base<=g) (d:w.heap[g]? =Xa (Xk cur 117 (0,0))) (f:qs.length<=cap) (e:cap<=maxLen) (i:cur.size=cap*9) (j:cur.toList.take (qs.length*9)=qs.flatMap ptc)
  (b:∀q∈qs,q.2.length=8) (a:qs.length*16<=140737488355328):zo base w (O (Xa ⟨g,0,Xb⟩) qs.length cap) qs:=
 ⟨⟨qT qs fun q h=>by rw[Q1,b q h],.inr ⟨g,cap,cur,rfl,c,d,f,e,i,j⟩⟩,b,a⟩
theorem zaM {w:Xn} {rest:List Oper} {a:Act} (c:o.guard=Xb) (s x) (D:o.op= .call { callee:= .builtin .append,args:=#[s,x],argTypes:=#[36,36] })
  (base g cap n:Nat) (j:Int × List Int) (r:List (Int × List Int)) (b:zo base w (O (Xa ⟨g,0,Xb⟩) n cap) (j :: r)) (E:a.eval s= O (Xa ⟨g,0,Xb⟩) 0 cap) (m:Nat) (F:a.eval x= O (Xa ⟨g,9,Xb⟩) r.length m)
  (y:∀w',zo base w' (O (Xa ⟨g,0,Xb⟩) r.length cap) r->w.grownBy w' (Xa g)->w'.heap.size=w.heap.size->wpList prog ops Q rest (a.put o.dst (O (Xa ⟨g,0,Xb⟩) r.length cap)) w'):wpList prog ops Q (o :: rest) a w:=by
 refine wpList_plain c fun K z=>?_
 obtain⟨c,A,c,C,e,i,d,v⟩:=b.block;obtain⟨G,B,d,l,d⟩:=info_parts ztu;have h:=b.2.1;have f:(r.flatMap ptc).length=r.length*9:=qT r fun q k=>by rw[Q1,h q (by simp[k])]
 have d:(ptc j).length=9:=by rw[Q1,h j Sm]
 simp only[Xz]at c v;have c:∀j u,(r.flatMap ptc)[j]? =Xa u->w.cell? ((⟨g,9,Xb⟩:Addr).add j)=Xa u:=fun j u t=>by
  have p:j<r.length*9:=by rw[<-f];exact(gS.1 t).1
  rw[Yk];have p:(e.toList.take ((r.length+1)*9))[9+j]? =Xa u:=by
   rw[v,List.flatMap_cons,aR Wm,d]
   simpa using t
  rw[List.getElem?_take_of_lt Wm]at p
  simp only[World.cell?,i]
  simpa using p
 have d:=run_append_room (P:=prog) w 36 o.type 117 G underlying36 B g 0 cap e i ⟨g,9,Xb⟩ r.length m (r.flatMap ptc) (Rx l f) c (qS zdl r) Wm (by rw[f];simp;omega)
 simp only[Nat.zero_mul,List.take_zero,Yj,zA]at d;unfold Oper.wp execOp;simp only[D,resolve,invoke,builtin,Xv,Ya,rA,Yr,mP,Ok,E,F,d];refine z _ _ (y _ (zo.mk A (setRow_heap w g e _ 117 _ i) Wm C ?_ ?_ (fun q k=>h q (by simp[k])) (by have:=b.2.2;simp at this;omega)) (j5 _ _ _) (by simp[World.setRow]))
 ·simp[f];omega
 rw[<-f];simp
theorem zfi (n:Nat):∀u∈(Builtin.zeroCells #[I6 0,U8 0,U8 0,U8 0,U8 0,U8 0,U8 0,U8 0,U8 0] n).toList,u.oneCell'=Xc:=fun u a=>by
 simp only[Builtin.zeroCells,Array.toList_map,Yc,Array.toList_range,Yl]at a;obtain⟨i,_,rfl⟩:=a;have a:i % 9<9:=Nat.mod_lt _ Dc
 show(#[I6 0,U8 0,U8 0,U8 0,U8 0,U8 0,U8 0,U8 0,U8 0]:Array Xq)[i % 9]!.oneCell'=Xc
 generalize i % 9=k at a
 match k,a with
 | 0,_=>rfl
 | 1,_=>rfl
 | 2,_=>rfl
 | 3,_=>rfl
 | 4,_=>rfl
 | 5,_=>rfl
 | 6,_=>rfl
 | 7,_=>rfl
 | 8,_=>rfl
theorem Jh {w:Xn} {rest:List Oper} {a:Act} (d:o.guard=Xb) (x) (s:o.op= .call { callee:= .builtin .clear,args:=#[x],argTypes:=#[36] })
  (base g cap n:Nat) (qs:List (Int × List Int)) (b:zo base w (O (Xa ⟨g,0,Xb⟩) n cap) qs) (c:Addr) (k j:Nat) (t:a.eval x= O (Xa c) k j) (f:qs.length+k<=cap) (e:0<k->c=⟨g,qs.length*9,Xb⟩)
  (p:∀w',zo base w' (O (Xa ⟨g,0,Xb⟩) n cap) qs->w.grownBy w' (Xa g)->w'.heap.size=w.heap.size->wpList prog ops Q rest (a.put o.dst (Xm #[])) w'):wpList prog ops Q (o :: rest) a w:=by
 refine wpList_plain d fun K q=>?_
 cases k with
 | zero=>
  have d:(Builtin.clear_ #[36] o.type #[O (Xa c) 0 j]).run prog w= .ok (Xm #[]) w:=by
   simp[Builtin.clear_,run_underlying underlying36]
  unfold Oper.wp execOp;simp only[s,resolve,invoke,builtin,Xv,Ya,rA,Yr,mP,Ok,t,d];exact q _ _ (p w b (World.grownBy.rfl' _ _) rfl)
 | succ k=>
  have c:=e Wm
  subst c;obtain⟨y,u,m,v,c,r,h,z⟩:=b.block;obtain⟨Z,l⟩:=kB ((Builtin.zeroCells #[I6 0,U8 0,U8 0,U8 0,U8 0,U8 0,U8 0,U8 0,U8 0] (k+1)).toList);have i:Z.length=(k+1)*9:=by
   rw[<-l,Array.length_toList,size_zeroCells];rfl
  have e:∀f∈Z,f.oneCell'=Xc:=by rw[<-l];exact zfi _
  have f:=run_storeCells_at prog g (qs.length*9) 117 Z 0 c w r (by rw[i,h];omega) e
  simp only[Nat.add_zero]at f;have d:(Builtin.clear_ #[36] o.type #[O (Xa ⟨g,qs.length*9,Xb⟩) (k+1) j]).run prog w= .ok (Xm #[]) (w.setRow g (c.toList.take (qs.length*9)++Z++c.toList.drop (qs.length*9+Z.length)).toArray):=by
   simp only[Builtin.clear_]
   simp[run_underlying underlying36,Tryz.zeroValue117,Value.cells,l,f]
  unfold Oper.wp execOp;simp only[s,resolve,invoke,builtin,Xv,Ya,rA,Yr,mP,Ok,t,d];subst y;have d:c.toList.length=cap*9:=Si h
  refine q _ _ (p _ (zo.mk u (setRow_heap w g c _ 117 _ r) m v ?_ ?_ b.2.1 b.2.2) (j5 _ _ _) (by simp[World.setRow]))
  ·simp only[Yq,lA,Ys,List.length_drop,i,d];omega
  rw[Oh,List.take_left' (by rw[Ys,d];omega)]
  exact z
theorem zeZ {a b c:Xn} (h:a.grownBy b (Xa g)) (k:zc b c):a.grownBy c (Xa g):=
 ⟨k.os.trans h.os,k.tape.trans h.tape,k.output.trans h.output,nT h.size k.size,fun i e d=>(k.block i (Yo e h.size)).trans (h.block i e d)⟩
theorem za4 {a b c:Xn} (h:zc a b) (k:b.grownBy c (Xa g)):a.grownBy c (Xa g):=
 ⟨k.os.trans h.os,k.tape.trans h.tape,k.output.trans h.output,nT h.size k.size,fun i e d=>(k.block i (Yo e h.size) d).trans (h.block i e)⟩
theorem zhJ (base g cap:Nat) (j:Int × List Int) (r:List (Int × List Int)) (w:Xn) (b:zo base w (O (Xa ⟨g,0,Xb⟩) (r.length+1) cap) (j :: r)) (l:1<=r.length) (f:r.length<=400):
  Xp prog 212 #[O (Xa ⟨g,0,Xb⟩) (r.length+1) cap,I6 0,I6 1] w fun e w'=>e= Xl (O (Xa ⟨g,0,Xb⟩) r.length cap)/\zo base w' (O (Xa ⟨g,0,Xb⟩) r.length cap) r/\w.grownBy w' (Xa g):=by
 obtain⟨_,_,a,c,_⟩:=b.block;have i:=dD b;simp only[Xz]at a;obtain⟨k,d⟩:=kA r.length;have h:cap<=9223372036854775807:=by simpa [maxLen]using c
 rw[d.out]at a l f i⊢;clear b c;have b:¬cap=1:=Wm
 have b:((k+1:Nat):Int)=(k:Int)+1:=Wm
 have b:(k:Int)+1<=(cap:Int):=Wm
 have b:(1:Int)<=(k:Int):=Wm
 go_enter func212,ntmps212
 go_wp2;have f:Nonempty (zf w):=⟨⟨_,zc.refl _⟩⟩;refine jf 6 [] zW Kr rfl rfl Dc Sm Sm ?_
 simp only[Ol,Om];iterate 6 refine ze ?_
 refine zL fun w' c _=>?_
 have b:=dD (i.aA c);have l:=dD c;clear c f
 go_wp2_with (first
  | (refine zaM rfl (.tmp 22) (.tmp 25) rfl base g cap (k+1) j r b rfl (cap - 1) (Rr d.out) ?_;intro h c b f;have j:Xo (zo base h (O (Xa ⟨g,0,Xb⟩) r.length cap) r):=c;have i:Xo (w'.grownBy h (Xa g)):=b;clear c b f;rw[d.out])
  | (refine Jh rfl (.tmp 31) rfl base g cap _ r j _ 1 _ rfl (Rx d.out a) (fun _=>by rw[d.out]) ?_;intro f b a c;have k:Xo (zo base f (O (Xa ⟨g,0,Xb⟩) r.length cap) r):=b;have j:Xo (h.grownBy f (Xa g)):=a;clear b a c))
 go_ret;exact⟨rfl,Ry d.out k,za4 l (qM i j)⟩
theorem zs.beside {base:Nat} {w:Xn} {a c:Xq} {b:List (List Int)} {qs:List (Int × List Int)} (h:zs base w a b) (k:zo base' w c qs) (i:w.grownBy w' c.ownBlock):zs base w' a b:=by
 refine⟨⟨h.1.1,?_⟩,h.2⟩
 rcases h.1.2 with d|⟨g,a,b,rfl,e,c,f⟩
 ·exact .inl d
 refine .inr ⟨g,a,b,rfl,e,?_,f⟩;rw[i.block g (aS.1 c).1 (fun e=>?_)]
 ·exact c
 rcases k.1.2 with⟨rfl,_⟩|⟨a,a,a,rfl,_,a,_⟩
 ·cases e
 simp only[Value.ownBlock,Option.some.injEq]at e
 grind
theorem zo.beside {base:Nat} {w:Xn} {a b:Xq} {c:List (List Int)} {qs:List (Int × List Int)} (k:zo base' w b qs) (h:zs base w a c) (i:w.grownBy w' a.ownBlock):zo base' w' b qs:=by
 refine⟨⟨k.1.1,?_⟩,k.2⟩
 rcases k.1.2 with d|⟨g,a,b,rfl,e,c,f⟩
 ·exact .inl d
 refine .inr ⟨g,a,b,rfl,e,?_,f⟩;rw[i.block g (aS.1 c).1 (fun e=>?_)]
 ·exact c
 rcases h.1.2 with⟨rfl,_⟩|⟨a,a,a,rfl,_,a,_⟩
 ·cases e
 simp only[Value.ownBlock,Option.some.injEq]at e
 grind
theorem zo.lt {base:Nat} {w:Xn} {v:Xq} {qs:List (Int × List Int)} (h:zo base w v qs):∀g,v.ownBlock=Xa g->base<=g/\g<w.heap.size:=h.1.lt
theorem zs.lt {base:Nat} {w:Xn} {v:Xq} {a:List (List Int)} (h:zs base w v a):∀g,v.ownBlock=Xa g->base<=g/\g<w.heap.size:=h.1.lt
theorem zo.ne {base:Nat} {w:Xn} {v:Xq} {qs:List (Int × List Int)} (h:zo base w v qs) {cs:List Xq} (d:zl w b 38 cs):∀g,v.ownBlock=Xa g->b≠g:=fun g a e=>by
 subst e
 rcases h.1.2 with⟨rfl,_⟩|⟨c,c,c,rfl,_,c,_⟩
 ·cases a
 simp only[Value.ownBlock,Option.some.injEq]at a;subst a;rw[d]at c;cases c
theorem zs.ne {base:Nat} {w:Xn} {v:Xq} {a:List (List Int)} (h:zs base w v a) {cs:List Xq} (d:zl w b 38 cs):∀g,v.ownBlock=Xa g->b≠g:=fun g a e=>by
 subst e
 rcases h.1.2 with⟨rfl,_⟩|⟨c,c,c,rfl,_,c,_⟩
 ·cases a
 simp only[Value.ownBlock,Option.some.injEq]at a;subst a;rw[d]at c;cases c
theorem zs.aT {base:Nat} {w:Xn} {v:Xq} {b:List (List Int)} (h:zs base w v b) {a:Addr} (c:∀g,v.ownBlock=Xa g->a.block≠g) (u):zs base (w.setCell a u) v b:=⟨ZM h.1 c u,h.2⟩
theorem zo.aT {base:Nat} {w:Xn} {v:Xq} {qs:List (Int × List Int)} (h:zo base w v qs) {a:Addr} (b:∀g,v.ownBlock=Xa g->a.block≠g) (u):zo base (w.setCell a u) v qs:=⟨ZM h.1 b u,h.2⟩
theorem zs.form {base:Nat} {w:Xn} {v:Xq} {b:List (List Int)} (h:zs base w v b):∃a c,v= O a b.length c:=by
 obtain⟨a,c,b,_⟩:=h.at.rows
 grind
theorem zo.form {base:Nat} {w:Xn} {v:Xq} {qs:List (Int × List Int)} (h:zo base w v qs):∃a c,v= O a qs.length c:=by
 obtain⟨a,c,b,_⟩:=h.at.rows
 grind
theorem zo.snoc {base:Nat} {w:Xn} {v:Xq} {qs:List (Int × List Int)} {q:Int × List Int} (h:w.ownsRow base 117 9 v (qs.length+1) (qs.flatMap ptc++ptc q)) (b:∀x∈qs,x.2.length=8) (c:q.2.length=8) (a:(qs.length+1)*16<=140737488355328):zo base w v (qs++ [q]):=by
 refine⟨Si h,fun x b=>?_,Si a⟩
 grind
theorem zi1 {base d R:Nat} {w:Xn} {c b:Xq} {f:List (List Int)} {qs:List (Int × List Int)} {cs:List Xq} (hp:zs base w c f) (i:zo base w b qs) (h:zl w d 38 cs) (e:R<base) (j:base'<=base):
  zO base' (((w.setCell ⟨d,1,Xb⟩ b).setCell ⟨R,0,Xb⟩ c).setCell ⟨R,1,Xb⟩ b) (Xi #[c,b]) f qs:=by
 have f:=((hp.aT (a:=⟨d,1,Xb⟩) (hp.ne h) b).setCell (a:=⟨R,0,Xb⟩) e c).setCell (a:=⟨R,1,Xb⟩) e b;have g:=((i.aT (a:=⟨d,1,Xb⟩) (i.ne h) b).setCell (a:=⟨R,0,Xb⟩) e c).setCell (a:=⟨R,1,Xb⟩) e b;exact zO.base (J9.new ⟨_,_,rfl,f,g⟩) j
theorem zo.head {base:Nat} {w:Xn} {n cap:Nat} {m c0 b c d e f h i:Int} {r:List (Int × List Int)} (k:zo base w (O (Xa ⟨g,0,Xb⟩) n cap) ((m,[c0,b,c,d,e,f,h,i]) :: r)):
  w.cell? ⟨g,0,Xb⟩=Xa (I6 m)/\w.cell? ⟨g,1,Xb⟩=Xa (U8 c0)/\w.cell? ⟨g,2,Xb⟩=Xa (U8 b)/\w.cell? ⟨g,3,Xb⟩=Xa (U8 c)/\w.cell? ⟨g,4,Xb⟩=Xa (U8 d)/\w.cell? ⟨g,5,Xb⟩=Xa (U8 e)/\w.cell? ⟨g,6,Xb⟩=Xa (U8 f)/\w.cell? ⟨g,7,Xb⟩=Xa (U8 h)/\w.cell? ⟨g,8,Xb⟩=Xa (U8 i):=by
 have a:∀(j:Nat) u,(((m,[c0,b,c,d,e,f,h,i]) :: r).flatMap ptc)[j]? =Xa u->w.cell? ⟨g,j,Xb⟩=Xa u:=fun j u b=>by
  have:=k.1.cells rfl j u b;rwa [Yk,zA]at this
 exact⟨a 0 _ rfl,a 1 _ rfl,a 2 _ rfl,a 3 _ rfl,a 4 _ rfl,a 5 _ rfl,a 6 _ rfl,a 7 _ rfl,a 8 _ rfl⟩
def qn (ps:List (List Int)) (qs:List (Int × List Int)):List (List Int):=if qs.length=400 then ps.set (qs.headD (0,[])).1.toNat (qs.headD (0,[])).2 else ps
def qh (qs:List (Int × List Int)) (m:Int) (p:List Int):List (Int × List Int):=(if qs.length=400 then qs.tail else qs)++ [(m,p)]
def qt (ps:List (List Int)) (qs:List (Int × List Int)) (m:Int):List (List Int):=if zg ps.length qs m=0 then qn ps qs else []
def qr (ps:List (List Int)) (qs:List (Int × List Int)) (m:Int) (p:List Int):List (Int × List Int):=if zg ps.length qs m=0 then qh qs m p else []
theorem zmc (d) (a:List (List Int)) (qs:List (Int × List Int)) (m:Int) (p:List Int) (hp:p.length=8) (w:Xn) (g:ZG w d a qs) (A:¬zg a.length qs m=0):
  Xp prog 185 #[d,I6 m,Xi (pgc p).toArray] w fun e w'=>∃y,e= Xl (Xm #[y,I6 (zg a.length qs m)])/\zO w.heap.size w' y (qt a qs m) (qr a qs m p)/\zc w w':=by
 obtain⟨c,n,q,r,s,t,u,x,rfl⟩:=zba p hp;have B:=dD g;obtain⟨b,b,rfl,f,b⟩:=g;have C:=dD b;obtain⟨i,k,rfl,_⟩:=f.rows;obtain⟨j,l,rfl,_⟩:=b.rows;clear f b hp
 show Xp prog 185 #[Xi #[O i a.length k,O j qs.length l],I6 m,Xi #[U8 c,U8 n,U8 q,U8 r,U8 s,U8 t,U8 u,U8 x]] w _
 have z:Xo (qt a qs m=if zg a.length qs m=0 then qn a qs else []):=rfl;have g:Xo (qr a qs m [c,n,q,r,s,t,u,x]=if zg a.length qs m=0 then qh qs m [c,n,q,r,s,t,u,x]else []):=rfl;obtain⟨h,b⟩:=kB (((w.alloc (Xk #[O i a.length k,O j qs.length l] 38)).alloc (Xk #[U8 c,U8 n,U8 q,U8 r,U8 s,U8 t,U8 u,U8 x] 91)).alloc (Xk #[eS,eS] 38));have f:Xo (zc w h):=show zc w h by rw[<-b];exact((za _ _).trans (za _ _)).trans (za _ _)
 have D:Xo (Box h w.heap.size [O i a.length k,O j qs.length l]):=dD<|by rw[<-b];exact((Box.aE w [O i a.length k,O j qs.length l] _ rfl).alloc _).alloc _
 have E:Xo (Box h (w.heap.size+1) [U8 c,U8 n,U8 q,U8 r,U8 s,U8 t,U8 u,U8 x]):=dD<|by rw[<-b];exact(Box.aE _ [U8 c,U8 n,U8 q,U8 r,U8 s,U8 t,U8 u,U8 x] _ Sm).alloc _
 have q:Xo (Box h (w.heap.size+1+1) [eS,eS]):=dD<|by rw[<-b];exact Box.aE _ [eS,eS] _ Sm
 have c:=Zm i a.length k (O j qs.length l) qs m h (C.aA f);have n:∀W,zc h W->Xp prog 53 #[Xi #[O i a.length k,O j qs.length l]] W fun e w'=>∃y,e= Xl y/\J9 W.heap.size w' y a qs/\zc W w':=fun W h=>zb2 _ a qs W (B.aA (f.trans h))
 obtain⟨r,i⟩:=kA (zg a.length qs m);rw[i.out]at c z g⊢;obtain⟨h,h⟩:=kA a.length;obtain⟨nq,a⟩:=kA qs.length;rw[h.out,a.out]at c b D⊢;simp only[h.out,a.out]at n;have a:=dD b;clear b;have b:¬r=0:=fun e=>A (i.trans e)
 have h:(r != 0)=Xc:=Si b
 rw[kF b]at z g;rw[z.out,g.out]
 go_enter func185,ntmps185
 go_wp2_with (
  go_at_call 210;rw[a.out];refine c.mono ?_;rintro e a ⟨rfl,a⟩
  have b:=q.aA a;obtain⟨c,c⟩:=b.k2;have c:=b.f)
 refine bodyPost_ret (v:= Xm #[Xi #[eS,eS],I6 r]) (by simp[results,Tryz.results185,go_sem, *]) rfl ⟨_,rfl,zdp _ _,?_⟩
 have b:=f.trans a;iterate 2 (refine zK ?_ (by simp;omega) _)
 exact b
theorem zmb (d) (a:List (List Int)) (qs:List (Int × List Int)) (m:Int) (p:List Int) (hp:p.length=8) (w:Xn) (b:ZG w d a qs) (G:zg a.length qs m=0) (P:¬qs.length=400):
  Xp prog 185 #[d,I6 m,Xi (pgc p).toArray] w fun e w'=>∃C,e= Xl (Xm #[C,I6 (zg a.length qs m)])/\zO w.heap.size w' C (qt a qs m) (qr a qs m p)/\zc w w':=by
 obtain⟨f,g,h,i,j,k,l,n,rfl⟩:=zba p hp;have B:=dD b;obtain⟨c,q,rfl,q,c⟩:=b;have u:=dD c;obtain⟨b,y,rfl,_⟩:=q.rows;obtain⟨x,z,rfl,_⟩:=c.rows;clear q c hp
 show Xp prog 185 #[Xi #[O b a.length y,O x qs.length z],I6 m,Xi #[U8 f,U8 g,U8 h,U8 i,U8 j,U8 k,U8 l,U8 n]] w _
 have A:Xo (qt a qs m=if zg a.length qs m=0 then qn a qs else []):=rfl;have s:Xo (qr a qs m [f,g,h,i,j,k,l,n]=if zg a.length qs m=0 then qh qs m [f,g,h,i,j,k,l,n]else []):=rfl;obtain⟨t,c⟩:=kB (((w.alloc (Xk #[O b a.length y,O x qs.length z] 38)).alloc (Xk #[U8 f,U8 g,U8 h,U8 i,U8 j,U8 k,U8 l,U8 n] 91)).alloc (Xk #[eS,eS] 38));have q:Xo (zc w t):=show zc w t by rw[<-c];exact((za _ _).trans (za _ _)).trans (za _ _)
 have D:Xo (Box t w.heap.size [O b a.length y,O x qs.length z]):=dD<|by rw[<-c];exact((Box.aE w [O b a.length y,O x qs.length z] _ rfl).alloc _).alloc _
 have S:Xo (Box t (w.heap.size+1) [U8 f,U8 g,U8 h,U8 i,U8 j,U8 k,U8 l,U8 n]):=dD<|by rw[<-c];exact(Box.aE _ [U8 f,U8 g,U8 h,U8 i,U8 j,U8 k,U8 l,U8 n] _ Sm).alloc _
 have F:Xo (Box t (w.heap.size+1+1) [eS,eS]):=dD<|by rw[<-c];exact Box.aE _ [eS,eS] _ Sm
 have r:=Zm b a.length y (O x qs.length z) qs m t (u.aA q);have u:∀W,zc t W->Xp prog 53 #[Xi #[O b a.length y,O x qs.length z]] W fun e w'=>∃C,e= Xl C/\J9 W.heap.size w' C a qs/\zc W w':=fun W b=>zb2 _ a qs W (B.aA (q.trans b))
 obtain⟨b,x⟩:=kA (zg a.length qs m);rw[x.out]at r A s⊢;obtain⟨E,z⟩:=kA a.length;obtain⟨nq,b⟩:=kA qs.length;rw[z.out,b.out]at r c D⊢;simp only[z.out,b.out]at u;have B:=dD c;clear c;have c:=x.symm.trans G;subst c;rw[kE rfl]at A s;obtain⟨y,c,H,G⟩:=qq x.out;obtain⟨x,c,K⟩:=qk y;obtain⟨W,V,L,M,N⟩:=info_parts ztu;rw[A.out,s.out];clear H G;have s:¬nq=400:=fun e=>P (b.trans e)
 have A:((nq:Int) == 400)=Xd:=by simp;omega
 have G:Xo (qn a qs=a):=dD<|by unfold qn;rw[kF (Rx b.out s)]
 have H:Xo (qh qs m [f,g,h,i,j,k,l,n]=qs++ [(m,[f,g,h,i,j,k,l,n])]):=dD<|by unfold qh;rw[kF (Rx b.out s)]
 have s:=dD c;clear c K x y
 go_enter func185,ntmps185
 go_wp2_with (first
  | (
   go_at_call 210;rw[B.out];refine r.mono ?_;rintro e B ⟨rfl,A⟩
   have x:Xo (zc t B):=A;have T:=(D.aA A).c 0 rfl;have U:=(D.aA A).c 1 rfl)
  | (
   go_at_call 53;refine(u B x).mono ?_;rintro e y ⟨C,rfl,c,D⟩
   obtain⟨r,r,rfl,P,Q⟩:=c;obtain⟨c,r,rfl⟩:=P.form;obtain⟨t,u,rfl⟩:=Q.form;have R:Xo (zs B.heap.size y (O c a.length r) a):=P;have K:Xo (zo B.heap.size y (O t qs.length u) qs):=Q;have C:Xo (zc B y):=D;rw[z.out]at R;rw[b.out]at K;rw[z.out,b.out];clear P Q A D T U;have a:=(S.aA x).aA C.out;have A:w.heap.size+1<y.heap.size:=a.lt;obtain⟨u0,u1,u2,u3,u4,u5,u6,u7⟩:=a.c8)
  | (
   at_builtin
   have z:=K.aA ((za y (Xk #[O c E r,O t nq u] 38)).trans (za _ (Xk #[I6 m,U8 f,U8 g,U8 h,U8 i,U8 j,U8 k,U8 l,U8 n] 117)));have P:=R.aA ((za y (Xk #[O c E r,O t nq u] 38)).trans (za _ (Xk #[I6 m,U8 f,U8 g,U8 h,U8 i,U8 j,U8 k,U8 l,U8 n] 117)));have D:=(zl.aE y [O c E r,O t nq u] 38 rfl).aA (za _ (Xk #[I6 m,U8 f,U8 g,U8 h,U8 i,U8 j,U8 k,U8 l,U8 n] 117));have Q:=((((F.aA x).aA C).aA (za y (Xk #[O c E r,O t nq u] 38))).aA (za _ (Xk #[I6 m,U8 f,U8 g,U8 h,U8 i,U8 j,U8 k,U8 l,U8 n] 117)));refine wpList_append_own _ rfl (.tmp 40) (.tmp 44) 36 rfl B.heap.size 117 W _ 9 16 underlying36 V L M N rfl Dc _ _ _ rfl z.1 ⟨y.heap.size+1,0,Xb⟩ 1 1 (ptc (m,[f,g,h,i,j,k,l,n])) rfl rfl (jc.aE _ (ptc (m,[f,g,h,i,j,k,l,n])) _ Sm) (zdl _) (jB (Hm s.out)) (Hm s.out) (by have:=bS C.out;simp;omega) ?_
   intro M u t a _;have L:Xo (zo B.heap.size u M (qs++ [(m,[f,g,h,i,j,k,l,n])])):=zo.snoc t K.2.1 rfl (Hm s.out)
   have n:=dD<|P.beside z a;have g:=dD<|D.beside a (z.ne D);have h:Xo (Box u (w.heap.size+1+1) [eS,eS]):=Q.beside a (fun f i=>by have j:=(z.lt f i).1;have k:=(F.aA x).lt;omega)
   have l:Xo (zc w u):=zU (((q.trans x).trans C).trans ((za _ _).trans (za _ _))) a (fun f i=>by have j:=(z.lt f i).1;have k:=bS (q.trans x);omega)
   obtain⟨i,s,f⟩:=L.form;rw[lA,b.out,Yu]at f;subst f;obtain⟨b,b⟩:=g.box.k2;have b:=g.box.f;obtain⟨b,b⟩:=h.k2;have b:=h.f;have b:w.heap.size+1+1≠y.heap.size:=by have:=((F.aA x).aA C).lt;omega
   clear t a u0 u1 u2 u3 u4 u5 u6 u7 A))
 refine bodyPost_ret (v:= Xm #[Xi #[O c E r,O i (nq+1) s],I6 0]) (by simp[results,Tryz.results185,go_sem, *]) rfl ⟨_,rfl,?_,?_⟩
 ·rw[G.out,H.out];exact zi1 n L g (F.aA x).lt (bS (q.trans x))
 have j:=bS (q.trans x);have k:=bS C.out;iterate 3 (refine zK ?_ (by simp;omega) _)
 exact l.out
theorem zkB (d) (f:List (List Int)) (qs:List (Int × List Int)) (m:Int) (p:List Int) (hp:p.length=8) (w:Xn) (cj:ZG w d f qs) (bu:zg f.length qs m=0) (d9:qs.length=400):
  Xp prog 185 #[d,I6 m,Xi (pgc p).toArray] w fun e w'=>∃aj,e= Xl (Xm #[aj,I6 (zg f.length qs m)])/\zO w.heap.size w' aj (qt f qs m) (qr f qs m p)/\zc w w':=by
 obtain⟨r,s,t,u,x,y,z,A,rfl⟩:=zba p hp;have cu:=dD cj;obtain⟨ds,dv,rfl,ci,bs⟩:=cj;have ce:=dD bs;obtain⟨af,ah,rfl,_⟩:=ci.rows;obtain⟨ag,ai,rfl,_⟩:=bs.rows;clear ci bs hp
 show Xp prog 185 #[Xi #[O af f.length ah,O ag qs.length ai],I6 m,Xi #[U8 r,U8 s,U8 t,U8 u,U8 x,U8 y,U8 z,U8 A]] w _
 have bb:Xo (qt f qs m=if zg f.length qs m=0 then qn f qs else []):=rfl;have a7:Xo (qr f qs m [r,s,t,u,x,y,z,A]=if zg f.length qs m=0 then qh qs m [r,s,t,u,x,y,z,A]else []):=rfl;obtain⟨Y,n⟩:=kB (((w.alloc (Xk #[O af f.length ah,O ag qs.length ai] 38)).alloc (Xk #[U8 r,U8 s,U8 t,U8 u,U8 x,U8 y,U8 z,U8 A] 91)).alloc (Xk #[eS,eS] 38));have j:Xo (zc w Y):=show zc w Y by rw[<-n];exact((za _ _).trans (za _ _)).trans (za _ _)
 have bi:Xo (Box Y w.heap.size [O af f.length ah,O ag qs.length ai]):=dD<|by rw[<-n];exact((Box.aE w [O af f.length ah,O ag qs.length ai] _ rfl).alloc _).alloc _
 have b6:Xo (Box Y (w.heap.size+1) [U8 r,U8 s,U8 t,U8 u,U8 x,U8 y,U8 z,U8 A]):=dD<|by rw[<-n];exact(Box.aE _ [U8 r,U8 s,U8 t,U8 u,U8 x,U8 y,U8 z,U8 A] _ Sm).alloc _
 have a8:Xo (Box Y (w.heap.size+1+1) [eS,eS]):=dD<|by rw[<-n];exact Box.aE _ [eS,eS] _ Sm
 have H:=Zm af f.length ah (O ag qs.length ai) qs m Y (ce.aA j);have a6:∀ae,zc Y ae->Xp prog 53 #[Xi #[O af f.length ah,O ag qs.length ai]] ae fun e w'=>∃aj,e= Xl aj/\J9 ae.heap.size w' aj f qs/\zc ae w':=fun ae da=>zb2 _ f qs ae (cu.aA (j.trans da))
 obtain⟨F,bd⟩:=kA (zg f.length qs m);rw[bd.out]at H bb a7⊢;obtain⟨W,B⟩:=kA f.length;obtain⟨nq,l⟩:=kA qs.length;rw[B.out,l.out]at H n bi⊢;simp only[B.out,l.out]at a6;have be:Xo (_=Y):=n;clear n;have dc:=bd.symm.trans bu;subst dc;rw[kE rfl]at bb a7;obtain⟨aw,du,br,bq⟩:=qq bd.out;obtain⟨ar,ad,ap⟩:=qk aw;obtain⟨dd,db,bw,bx,bz⟩:=info_parts ztu;rw[bb.out,a7.out];clear br bq;have am:=l.symm.trans d9;subst am;obtain⟨b0,F,rfl⟩:∃b0 F,qs=b0 :: F:=by
  cases qs with
  | nil=>exact absurd (show _ from l.out) Sm
  | cons b0 F=>exact⟨b0,F,rfl⟩
 have a2:Xo (F.length=399):=dD<|by have:=l.out;simpa using this
 obtain⟨dp,cm⟩:=b0;obtain⟨M,N,P,Q,R,S,T,U,rfl⟩:=zba cm (ce.2.1 (dp,cm) Sm)
 obtain⟨E,a5,a4⟩:=ap _ (Yn);simp only at a5;subst a5;have ao:E<W:=Ry B.out a4
 have ck:(E:Int)< (W:Int):=Wm
 have ba:Xo (qn f (((E:Int),[M,N,P,Q,R,S,T,U]) :: F)=f.set E [M,N,P,Q,R,S,T,U]):=dD<|by unfold qn;rw[kE l.out];rfl
 have bc:Xo (qh (((E:Int),[M,N,P,Q,R,S,T,U]) :: F) m [r,s,t,u,x,y,z,A]=F++ [(m,[r,s,t,u,x,y,z,A])]):=dD<|by unfold qh;rw[kE l.out];rfl
 clear ad ap ar aw a4
 go_enter func185,ntmps185
 go_wp2_with (first
  | (
   go_at_call 210;rw[be.out];refine H.mono ?_;rintro e Z ⟨rfl,a0⟩
   have i:Xo (zc Y Z):=a0;have d7:=(bi.aA a0).c 0 rfl;have d8:=(bi.aA a0).c 1 rfl)
  | (
   go_at_call 53;refine(a6 Z i).mono ?_;rintro e h ⟨aj,rfl,bn,an⟩
   obtain⟨d5,dq,rfl,ca,ax⟩:=bn;obtain⟨G,c,bm⟩:∃G c,d5= O (Xa ⟨G,0,Xb⟩) W c:=by
    rcases ca.1.2 with⟨_,ak⟩|⟨bk,a9,bj,ak,_⟩
    ·have:=B.out;omega
    exact⟨bk,a9,by rw[ak,B.out]⟩
   subst bm;obtain⟨k,b,bt⟩:∃k b,dq= O (Xa ⟨k,0,Xb⟩) 400 b:=by
    rcases ax.1.2 with⟨_,ak⟩|⟨bk,a9,bj,ak,_⟩
    ·simp at ak
    exact⟨bk,a9,by rw[ak,l.out]⟩
   subst bt;have cg:Xo (zs Z.heap.size h (O (Xa ⟨G,0,Xb⟩) W c) f):=ca;have cx:Xo (zo Z.heap.size h (O (Xa ⟨k,0,Xb⟩) 400 b) (((E:Int),[M,N,P,Q,R,S,T,U]) :: F)):=ax;have X:Xo (zc Z h):=an;obtain⟨de,df,dg,dh,di,dj,dk,dl,dm⟩:=ax.head;have dn:k<h.heap.size:=(ax.lt k rfl).2;clear ca ax a0 an d7 d8)
  | (
   refine Zo rfl (.tmp 34) (.tmp 33) rfl Z.heap.size _ f (cg.aA ((za h (Xk #[O (Xa ⟨G,0,Xb⟩) W c,O (Xa ⟨k,0,Xb⟩) 400 b] 38)).trans (za _ (Xk #[I6 (E:Int),U8 M,U8 N,U8 P,U8 Q,U8 R,U8 S,U8 T,U8 U] 117)))) G E rfl (Rx B.out ao) [M,N,P,Q,R,S,T,U] rfl _ rfl Sm rfl ?_
   intro b4 ay C _;have cw:=cx.aA ((za h (Xk #[O (Xa ⟨G,0,Xb⟩) W c,O (Xa ⟨k,0,Xb⟩) 400 b] 38)).trans (za _ (Xk #[I6 (E:Int),U8 M,U8 N,U8 P,U8 Q,U8 R,U8 S,U8 T,U8 U] 117)));have bg:=cg.aA ((za h (Xk #[O (Xa ⟨G,0,Xb⟩) W c,O (Xa ⟨k,0,Xb⟩) 400 b] 38)).trans (za _ (Xk #[I6 (E:Int),U8 M,U8 N,U8 P,U8 Q,U8 R,U8 S,U8 T,U8 U] 117)));have cc:=(zl.aE h [O (Xa ⟨G,0,Xb⟩) W c,O (Xa ⟨k,0,Xb⟩) 400 b] 38 rfl).aA (za _ (Xk #[I6 (E:Int),U8 M,U8 N,U8 P,U8 Q,U8 R,U8 S,U8 T,U8 U] 117));have bo:=bg.lt G rfl;have b3:=dD<|cw.beside bg C;have cy:=dD ay;have b1:=dD<|cc.beside C (bg.ne cc);have d1:Xo (Box b4 (w.heap.size+1+1) [eS,eS]):=((((a8.aA i).aA X).aA (za h _)).aA (za _ _)).beside C (fun I q=>by cases q;have V:=(a8.aA i).lt;omega)
   have co:Xo (Box b4 (w.heap.size+1) [U8 r,U8 s,U8 t,U8 u,U8 x,U8 y,U8 z,U8 A]):=((((b6.aA i).aA X).aA (za h _)).aA (za _ _)).beside C (fun I q=>by cases q;have V:=(b6.aA i).lt;omega)
   have cp:Xo (zc w b4):=zU (((j.trans i).trans X).trans ((za _ _).trans (za _ _))) C (fun I q=>by cases q;have V:=bS (j.trans i);omega)
   obtain⟨b7,b8⟩:=b1.box.k2;clear ay C de df dg dh di dj dk dl dm dn bo)
  | (
   go_at_call 212
   have K:=zhJ Z.heap.size k b ((E:Int),[M,N,P,Q,R,S,T,U]) F b4 (Rx a2.out b3) (by rw[a2.out];decide) (by rw[a2.out];decide)
   rw[a2.out]at K;refine K.mono ?_;rintro e a3 ⟨rfl,az,D⟩;have bp:=b3.lt k rfl;have bf:=dD az;have ch:=dD<|cy.beside b3 D;have a1:=dD<|b1.beside D (b3.ne b1);have d2:Xo (Box a3 (w.heap.size+1+1) [eS,eS]):=d1.beside D (fun I q=>by cases q;have V:=(a8.aA i).lt;omega)
   have b9:Xo (Box a3 (w.heap.size+1) [U8 r,U8 s,U8 t,U8 u,U8 x,U8 y,U8 z,U8 A]):=co.beside D (fun I q=>by cases q;have V:=(b6.aA i).lt;omega)
   have cr:Xo (zc w a3):=zU cp D (fun I q=>by cases q;have V:=bS (j.trans i);omega)
   clear K az D b7 b8 bp;obtain⟨b7,b8⟩:=a1.box.k2;have cn:=a1.box.f;have ac:w.heap.size+1≠h.heap.size:=by have:=((b6.aA i).aA X).lt;omega
   have c8:w.heap.size+1<a3.heap.size:=b9.lt;have c9:h.heap.size<a3.heap.size:=a1.box.lt;obtain⟨u0,u1,u2,u3,u4,u5,u6⟩:=b9.c7;have u7:=b9.c 7 rfl)
  | (
   at_builtin
   have aa:=za (a3.setCell ⟨h.heap.size,1,Xb⟩ (O (Xa ⟨k,0,Xb⟩) 399 b)) (Xk #[I6 m,U8 r,U8 s,U8 t,U8 u,U8 x,U8 y,U8 z,U8 A] 117);have al:=(bf.aT (a:=⟨h.heap.size,1,Xb⟩) (bf.ne a1) (O (Xa ⟨k,0,Xb⟩) 399 b)).aA aa;have cz:=(ch.aT (a:=⟨h.heap.size,1,Xb⟩) (ch.ne a1) (O (Xa ⟨k,0,Xb⟩) 399 b)).aA aa;have cd:=(a1.set 1 (O (Xa ⟨k,0,Xb⟩) 399 b)).aA aa;have d3:=(d2.other (a:=⟨h.heap.size,1,Xb⟩) (by have:=((a8.aA i).aA X).lt;show w.heap.size+1+1≠h.heap.size;omega) (O (Xa ⟨k,0,Xb⟩) 399 b)).aA aa
   have cs:=(show zc w (a3.setCell ⟨h.heap.size,1,Xb⟩ (O (Xa ⟨k,0,Xb⟩) 399 b))from zK cr (by have:=bS ((j.trans i).trans X);exact this) _).trans aa
   refine wpList_append_own _ rfl (.tmp 40) (.tmp 44) 36 rfl Z.heap.size 117 dd _ 9 16 underlying36 db bw bx bz rfl Dc _ _ _ rfl al.1 ⟨a3.heap.size,0,Xb⟩ 1 1 (ptc (m,[r,s,t,u,x,y,z,A])) rfl rfl (jc.aE _ (ptc (m,[r,s,t,u,x,y,z,A])) _ Sm) (zdl _) (jB (by rw[a2.out];decide)) (by rw[a2.out];decide) (by have bl:=bS X.out;have V:=bS aa;have dt:=a1.box.lt;simp at V⊢;omega) ?_
   intro dr b5 L g _;have cf:Xo (zo Z.heap.size b5 dr (F++ [(m,[r,s,t,u,x,y,z,A])])):=zo.snoc L bf.2.1 rfl (by rw[a2.out];decide)
   have d0:=dD<|cz.beside al g;have b2:Xo (zl b5 h.heap.size 38 [O (Xa ⟨G,0,Xb⟩) W c,O (Xa ⟨k,0,Xb⟩) 399 b]):=cd.beside g (al.ne cd);have bh:Xo (Box b5 (w.heap.size+1+1) [eS,eS]):=d3.beside g (fun I q=>by have bl:=(al.lt I q).1;have V:=(a8.aA i).lt;omega)
   have ct:Xo (zc w b5):=zU cs g (fun I q=>by have bl:=(al.lt I q).1;have V:=bS (j.trans i);omega)
   obtain⟨d4,d6,au⟩:=cf.form;rw[lA,a2.out,Yu]at au;subst au;clear b7 b8 cn;obtain⟨b7,b8⟩:=b2.box.k2;have cn:=b2.box.f;obtain⟨dw,dx⟩:=bh.k2;have dy:=bh.f;have cl:w.heap.size+1+1≠h.heap.size:=by have:=((a8.aA i).aA X).lt;omega
   clear aa L g u0 u1 u2 u3 u4 u5 u6 u7 c8 c9 ac))
 refine bodyPost_ret (v:= Xm #[Xi #[O (Xa ⟨G,0,Xb⟩) W c,O d4 400 d6],I6 0]) (by simp[results,Tryz.results185,go_sem, *]) rfl ⟨_,rfl,?_,?_⟩
 ·rw[ba.out,bc.out];exact zi1 d0 cf b2 (a8.aA i).lt (bS (j.trans i))
 have bl:=bS (j.trans i);have V:=bS X.out;iterate 3 (refine zK ?_ (by simp;omega) _)
 exact ct.out
theorem zc7 (d) (a:List (List Int)) (qs:List (Int × List Int)) (m:Int) (p:List Int) (hp:p.length=8) (w:Xn) (c:ZG w d a qs):
  Xp prog 185 #[d,I6 m,Xi (pgc p).toArray] w fun e w'=>∃b,e= Xl (Xm #[b,I6 (zg a.length qs m)])/\zO w.heap.size w' b (qt a qs m) (qr a qs m p)/\zc w w':=by
 by_cases b:zg a.length qs m=0
 ·by_cases f:qs.length=400
  ·exact zkB d a qs m p hp w c b f
  exact zmb d a qs m p hp w c b f
 exact zmc d a qs m p hp w c b
def J0 (m:Int) (j:Nat):Bool:=bits BinOp.and IntKind.i64 (m / 2 ^(j % 60)) 1 == 1
theorem zlP (m:Int) (B:Nat) (j:Nat) (b:j<=400) (w:Xn) (a:w.cell? ⟨B,0,Xb⟩=Xa (I6 m)):
  Xp prog 200 #[I6 (j:Int),Xj (Xa ⟨B,0,Xb⟩)] w fun e w'=>e= Xl (Xh (J0 m j))/\zc w w':=by
 have H:Xo (J0 m j=(bits BinOp.and IntKind.i64 (m / 2 ^(j % 60)) 1 == 1)):=rfl
 go_enter func200,ntmps200
 go_wp2;go_ret;rw[H.out];exact⟨rfl,zc.refl _⟩
theorem zgB (m:Int) (B:Nat) (w:Xn) (a:w.cell? ⟨B,0,Xb⟩=Xa (I6 m)):zjt 200 #[Xj (Xa ⟨B,0,Xb⟩)] (J0 m) w:=fun W j b c=>
 zlP m B j c W ((Below.cell b (World.block_lt_of_cell? _ _ a)).trans a)
theorem zob (d) (c:List (List Int)) (qs:List (Int × List Int)) (m:Int) (w:Xn) (b:ZG w d c qs):
  Xp prog 161 #[d,I6 m] w fun e w'=>∃a,e= Xl (Xm #[a,I6 (zB c.length qs)])/\zO w.heap.size w' a (jL (J0 m) c qs) []/\zc w w':=by
 have j:=dD b;obtain⟨a,q,rfl,a,f⟩:=b;obtain⟨b,h,rfl,_⟩:=a.rows;obtain⟨g,k,rfl,_⟩:=f.rows;clear a f;obtain⟨i,a⟩:=kB (((w.alloc (Xk #[O b c.length h,O g qs.length k] 38)).alloc (Xk #[I6 m] 3)).alloc (Xk #[eS,eS] 38));have f:Xo (zc w i):=show zc w i by rw[<-a];exact((za _ _).trans (za _ _)).trans (za _ _)
 have g:Box i (w.heap.size+1) [I6 m]:=by rw[<-a];exact(Box.aE _ [I6 m] _ Sm).alloc _
 have h:Box i (w.heap.size+1+1) [eS,eS]:=by rw[<-a];exact Box.aE _ [eS,eS] _ Sm
 have b:=zeG (J0 m) 200 #[Xj (Xa ⟨w.heap.size+1,0,Xb⟩)] (enters_of func200 Kr rfl) _ c qs i (j.aA f) (zgB m (w.heap.size+1) i (g.c 0 rfl))
 have j:=dD h;obtain⟨k,g⟩:=kA c.length;obtain⟨nq,h⟩:=kA qs.length;obtain⟨r,l⟩:=kA (zB k qs);rw[g.out,h.out,l.out]at b;rw[g.out,h.out]at a;have k:=dD a;clear a;rw[g.out,h.out,l.out]
 go_enter func161,ntmps161
 go_wp2_with (
  go_at_call 196;rw[k.out]
  refine b.mono ?_;rintro e h ⟨l,rfl,b,g⟩;have a:Box h (w.heap.size+1+1) [eS,eS]:=j.aA g;obtain⟨k,k⟩:=a.k2;have k:=a.f 0;have k:=a.f 1;have k:Xo (zO i.heap.size h l (jL (J0 m) c qs) []):=b;have i:=dD (f.trans g);obtain⟨g,g,rfl,g,h,_⟩:=b;obtain⟨b,n,rfl,_⟩:=g.rows;obtain⟨l,q,rfl,_⟩:=h.rows;clear g h a)
 refine bodyPost_ret (v:= Xm #[Xi #[.slice b (jL (J0 m) c qs).length n,O l 0 q],I6 r]) (by simp[results,Tryz.results161,go_sem, *]) rfl ⟨_,rfl,?_,?_⟩
 ·have:=j.lt;exact((k.setCell (Si this) _).setCell (Si this) _).base (bS f)
 exact Below.setCell (Below.setCell i (p:=⟨w.heap.size+1+1,0,Xb⟩) (by simp;omega) _) (p:=⟨w.heap.size+1+1,1,Xb⟩) (by simp;omega) _
theorem Jv {n:Nat} {qs:List (Int × List Int)} (b:n<=80) (c:qs.length<=400) (a:∀q∈qs,∃i:Nat,q.1=(i:Int)/\i<n):zB n qs=0:=by grind [zB,Yg.1,j0]
theorem zh8 {n:Nat} {qs:List (Int × List Int)} {m:Int} (h:zB n qs=0) {i:Nat} (a:m=(i:Int)) (hi:i<n):zg n qs m=0:=by
 grind [zg,j0]
theorem ZY {n:Nat} {qs:List (Int × List Int)} (h:zB n qs=0) (m:Int):zg n qs m=if j0 m n then 0 else 3:=by
 unfold zg;rw[kE h]
theorem jE (a:List (List Int)) (qs:List (Int × List Int)):(qn a qs).length=a.length:=by
 unfold qn
 split <;> simp
theorem jx {a:List (List Int)} {qs:List (Int × List Int)} {m:Int} {p:List Int} (h:zg a.length qs m=0):zB (qn a qs).length (qh qs m p)=0:=by
 obtain⟨a,i,b,b⟩:=qq h;obtain⟨b,c,c⟩:=qk a;rw[jE];refine Jv b ?_ fun q a=>?_
 ·grind [qh]
 unfold qh at a
 rcases Yi.1 a with a|a
 ·split at a
  ·exact c q (List.mem_of_mem_tail a)
  grind
 grind
def zgX:Option (Int × List Int)->List Int->List Int
 | some q,_=>q.2
 | none,d=>d
theorem Q0 {a:List (List Int)} {qs:List (Int × List Int)} {m:Int} (h:zg a.length qs m=0):zS a qs m=zgX (qs.reverse.find? (fun q=>q.1 == m)) (a.getD m.toNat zI):=by
 unfold zS;rw[kE h]
 cases qs.reverse.find? (fun q=>q.1 == m) <;> rfl
theorem zaa {a:List (List Int)} {qs:List (Int × List Int)} {m:Int} {p:List Int} (h:zg a.length qs m=0):zg (qn a qs).length (qh qs m p) m=0/\zS (qn a qs) (qh qs m p) m=p:=by grind [jx,qq,zg,qn,qh,zh8,jE,Q0,zgX]
theorem zc6 {a:List (List Int)} {qs:List (Int × List Int)} {m:Int} {p:List Int} (h:zg a.length qs m=0) (o:Int):zg (qn a qs).length (qh qs m p) o=zg a.length qs o:=by grind [ZY,jx,qq,jE]
theorem Zn {c:List (List Int)} {qs:List (Int × List Int)} {m:Int} {p:List Int} (i:zg c.length qs m=0) {o:Int} (r:¬o=m):zS (qn c qs) (qh qs m p) o=zS c qs o:=by
 have l:=zc6 (p:=p) i o
 by_cases h:zg c.length qs o=0
 ·rw[Q0 h,Q0 (l.trans h)];have g:(m == o)=Xd:=by simpa using fun k=>r (Eq.symm k)
  unfold qh qn
  by_cases e:qs.length=400
  ·rw[kE e,kE e]
   cases qs with
   | nil=>simp at e
   | cons d s=>
    obtain⟨_,u,b,n⟩:=qq h;obtain⟨v,a,f⟩:=(qk (qq i).1).2.2 d Sm
    simp only[List.tail_cons,List.headD_cons,List.reverse_append,List.reverse_cons,List.reverse_nil,Yj,Xy,List.find?_cons,g,Oi]
    cases t:s.reverse.find? (fun q=>q.1 == o)with
    | some q=>rfl
    | none=>
     simp only[Option.none_or]
     cases j:(d.1 == o)with
     | true=>
      have:d.1=o:=Si j
      subst this;simp only[a,tN,zgX]
      simp[f]
     | false=>
      have:d.1≠o:=Si j
      simp only[List.find?_nil,zgX];rw[gD,gD,sN];rw[a,b]at this;rw[a,b];simp only[tN];omega
  grind
 grind [zg,qn,qh,zS]
def zbK (p:List Int) (idx size:Int) (k:Nat):List Int:=p.mapIdx fun i z=>if i<k/\size<=8*idx+(i:Int)then 0 else z
theorem zn4 (p:List Int) (idx a:Int) (k:Nat):(zbK p idx a k).length=p.length:=by unfold zbK;simp
theorem zn6 {p:List Int} {idx a:Int} {k:Nat} (h:p.length<=k):zbK p idx a k=qJ p idx a:=by
 unfold zbK qJ
 apply Yd
 grind
theorem zn5 {p:List Int} {idx a:Int} {k:Nat} (b:k<p.length) (h:a<=8*idx+(k:Int)):(zbK p idx a k).set k 0=zbK p idx a (k+1):=by
 unfold zbK
 apply Yd
 grind
theorem zgO {a:List (List Int)} {qs:List (Int × List Int)} {b:Int} (c:∀p∈a,p.length=8) (d:∀q∈qs,q.2.length=8):(zS a qs b).length=8:=by
 unfold zS
 split
 ·cases h:qs.reverse.find? (fun q=>q.1 == b)with
  | some q=>exact d q (by have:=List.mem_of_find?_eq_some h;simpa using this)
  | none=>
   simp only;rw[gD]
   cases d:a[b.toNat]? with
   | none=>rfl
   | some p=>exact c p (mG d)
 rfl
theorem qe {α:Type} {k:Nat} {s:α}:∀{S:List (Nat × α)},S.lookup k=Xa s->(k,s)∈S
 | [],h=>by simp at h
 | (p,a) :: S,h=>by
  by_cases b:k=p
  ·subst b
   simp at h
   subst h;simp
  have c:(k == p)=Xd:=Si b
  rw[List.lookup_cons,c]at h;exact Yh _ (qe h)
theorem zl.part {w:Xn}:∀{ds cs:List Xq} {o:Nat},zl w b t cs->o+ds.length<=cs.length->zl (w.setCells b o ds) b t (splice cs o ds):=by
 have a:∀(ds cs:List Xq) (o:Nat) (w:Xn),zl w b t cs->o+ds.length<=cs.length->zl (w.setCells b o ds) b t (splice cs o ds):=fun ds=>by
  induction ds with
  | nil=>
   intro cs o w h a;have:splice cs o []=cs:=by simp[splice]
   rw[this];exact h
  | cons d ds e=>
   intro cs o w h a;simp only[Xz]at a;have c:=h.set o d;have a:=e (cs.set o d) (o+1) (w.setCell ⟨b,o,Xb⟩ d) c (by simp;omega)
   have c:splice (cs.set o d) (o+1) ds=splice cs o (d :: ds):=by
    unfold splice;rw[List.take_set,List.drop_set,kE Wm,Yp,gE Wm]
    simp only[Xz,Option.toList_some];rw[List.set_append_right _ _ (by simp;omega),show o+1+ds.length=o+(ds.length+1) by omega]
    simp[Ys,Nat.min_eq_left (show o<=cs.length by omega)]
   rw[c]at a;exact a
 grind
theorem zm {rest:List Oper} {a:Act} {w:Xn} (c:o.guard=Xb) (e p x) (i:o.op= .store e p x) (b:Nat) (hp:a.eval p= Xj (Xa ⟨b,0,Xb⟩)) (vs:List Xq) (j:a.eval x= Xi vs.toArray)
  {cs:List Xq} {t:TypeId} (f:zl w b t cs) (d:vs.length=cs.length) (hi:(Tryz.prog.info? e).map (·.size)=Xa cs.length) (g:∀v∈vs,v.oneCell'=Xc)
  (h:∀w',zl w' b t vs->w.grownBy w' (Xa b)->w'.heap.size=w.heap.size->wpList prog ops Q rest (a.put o.dst undef) w'):wpList prog ops Q (o :: rest) a w:=by
 refine wpList_store_mid c e p x i b 0 vs.toArray hp j ?_ ?_ (all_oneCell_toArray g) ?_
 ·simpa [d]using f.box.there
 ·simpa [d]using hi
 have:=f.part (ds:=vs) (o:=0) Wm
 rw[zad d]at this;exact h _ this (zZ b vs 0 w).1 (zZ b vs 0 w).2
theorem zeE (l:List Xq) {i:Nat} (h:i<l.length) (u):splice l i [u]=l.set i u:=by
 rw[List.set_eq_take_append_cons_drop,kE h]
 simp[splice]
theorem zb.box {α:Type} {E:Elt α} {w:Xn} {base:Nat} {v:Xq} {l:List α} (h:zb E base w v l) (b:v.ownBlock=Xa g):∃cs,zl w g E.ty cs:=by
 obtain⟨cs,a⟩:=h.obj b;exact⟨cs.toList,by unfold zl;rw[a]⟩
theorem zb.unfrozen {α:Type} {E:Elt α} {w:Xn} {base:Nat} {v:Xq} {l:List α} (h:zb E base w v l) (b:v.ownBlock=Xa g):∀j,w.frozen? ⟨g,j,Xb⟩=Xd:=by
 obtain⟨a,a⟩:=h.box b;exact a.box.f
theorem zb.cell {α:Type} {E:Elt α} {w:Xn} {base:Nat} {v:Xq} {l:List α} (h:zb E base w v l) {k o:Nat} (c:v.ownBlock=Xa g) {x y:α} (f:l[k]? =Xa x) {u:Xq} (s:E.enc y=(E.enc x).set o u) (r:o<E.k):
  zb E base (w.setCell ⟨g,k*E.k+o,Xb⟩ u) v (l.set k y)/\w.grownBy (w.setCell ⟨g,k*E.k+o,Xb⟩ u) (Xa g)/\(w.setCell ⟨g,k*E.k+o,Xb⟩ u).heap.size=w.heap.size:=by
 refine⟨⟨?_,Rx Xt h.2⟩,⟨rfl,rfl,rfl,by simp[World.setCell],fun j _ a=>Below.heap_setCell _ _ _ _ (fun e=>a (by rw[e]))⟩,by simp[World.setCell]⟩
 have d:=(gS.1 f).1;refine⟨by rw[Xt,qC,Xt],?_⟩
 rcases h.1.2 with⟨rfl,_⟩|⟨e,b,a,rfl,h,i,j,m,n,p⟩
 ·cases c
 simp only[Value.ownBlock,Option.some.injEq]at c;subst c;have q:zl w e E.ty a.toList:=by unfold zl;rw[i]
 have c:=q.set (k*E.k+o) u;refine .inr ⟨e,b,(a.toList.set (k*E.k+o) u).toArray,by rw[Xt],h,c,Rx Xt j,m,Si n,?_⟩
 rw[Xt,List.toList_toArray,List.take_set,p,<-zeE _ ?_ u]
 ·refine QY o [u] (y:=y) ?_ (by simp;omega) l k f
  rw[s,zeE _ (by rw[E.len];exact r)]
 rw[qC];have:(k+1)*E.k<=l.length*E.k:=Yy _ d
 grind
section
variable{α:Type} {E:Elt α}
theorem zen {w:Xn} {a:Act} (p x t) (A:o.op= .store t p x) (base:Nat) (v:Xq) (l:List α) (b:zb E base w v l)
  (g i j:Nat) (s:v.ownBlock=Xa g) (e y:α) (hi:l[i]? =Xa e) (cs:List Xq) (f:(Tryz.prog.info? t).map (·.size)=Xa cs.length) (D:E.enc y=splice (E.enc e) j cs) (z:j+cs.length<=E.k) (n:∀u∈cs,u.oneCell'=Xc)
  (d:Addr) (hp:a.eval p= Xj (Xa d)) (c:d=⟨g,i*E.k+j,Xb⟩) (k:Xq) (C:a.eval x=k) (h:k.cells=cs.toArray):
  ∃w',(execOp a.eval o).run prog w= .ok .skip w'/\zb E base w' v (l.set i y)/\w.grownBy w' (Xa g)/\w'.heap.size=w.heap.size:=by
 subst c;have d:=(gS.1 hi).1;have c:i*E.k+j+cs.length<=l.length*E.k:=by
  have:(i+1)*E.k<=l.length*E.k:=Yy _ d;rw[Nat.add_mul]at this;omega
 obtain⟨w',B,m,q,r⟩:=ju (P:=prog) b.1 s (i*E.k+j) cs c n;have d:(Go.sizeOf t).run prog w= .ok cs.length w:=by
  cases c:Tryz.prog.info? t with
  | none=>simp[c]at f
  | some i=>simp[c]at f;simp[Go.sizeOf,typeInfo,c,f]
 have c:(Instr.storeAt t (Xj (Xa ⟨g,i*E.k+j,Xb⟩)) k).run prog w= .ok () w':=by
  simp[Instr.storeAt,Instr.sureAddr,storeVar,Xv,d,Result.andThen,h,B]
 rw[QY j cs D z l i hi]at m;refine⟨w',?_,⟨Rx Xt m,Rx Xt b.2⟩,q,r⟩
 simp only[execOp,A,hp,C,Xv,c,Result.andThen,Ya]
theorem zhH {P:Program} {a:Act} {w:Xn} {K:Xq->Xn->Prop} (b:(execOp a.eval o).run P w= .ok .skip w') (h:K undef w'):zP P o a w K:=by
 unfold zP;rw[b];exact h
end
theorem jk {a:Act} {w:Xn} {K:Xq->Xn->Prop} (d p x) (n:o.op= .store d p x) (b c:Nat) (hp:a.eval p= Xj (Xa ⟨b,c,Xb⟩)) (g:Xq) (r:a.eval x=g) (vs:List Xq) (f:g.cells=vs.toArray)
  {t:TypeId} {cs:List Xq} (h:zl w b t cs) (m:c+vs.length<=cs.length) (hi:(Tryz.prog.info? d).map (·.size)=Xa vs.length) (j:∀v∈vs,v.oneCell'=Xc)
  (i:∀w',zl w' b t (splice cs c vs)->w.grownBy w' (Xa b)->w'.heap.size=w.heap.size->K undef w'):zP prog o a w K:=by
 have e:(Value.agg vs.toArray).cells=vs.toArray:=by
  unfold Value.cells;simp
 have q:(execOp a.eval o).run prog w= .ok .skip (w.setCells b c vs):=by
  have k:=run_storeAt_mid (P:=prog) w b c d vs.toArray (fun s l=>by
   have:=h.box.there (c+s) (by simp at l;omega)
   rw[zA]at this;exact this) (Si hi) (all_oneCell_toArray j)
  have j:(Instr.storeAt d (Xj (Xa ⟨b,c,Xb⟩)) g).run prog w=(Instr.storeAt d (Xj (Xa ⟨b,c,Xb⟩)) (Xi vs.toArray)).run prog w:=by
   simp only[Instr.storeAt,Instr.sureAddr,storeVar,f,e]
  simp only[execOp,n,hp,r,Xv,j,k,rA,Ya]
 exact zhH q (i _ (h.part (ds:=vs) (o:=c) m) (zZ b vs c w).1 (zZ b vs c w).2)
theorem qK {rest:List Oper} {a:Act} {w:Xn} (d:o.guard=Xb) (f p x) (l:o.op= .store f p x) (b c:Nat) (hp:a.eval p= Xj (Xa ⟨b,c,Xb⟩)) (g:Xq) (m:a.eval x=g) (vs:List Xq) (e:g.cells=vs.toArray)
  {t:TypeId} {cs:List Xq} (j:zl w b t cs) (k:c+vs.length<=cs.length) (hi:(Tryz.prog.info? f).map (·.size)=Xa vs.length) (i:∀v∈vs,v.oneCell'=Xc)
  (h:∀w',zl w' b t (splice cs c vs)->w.grownBy w' (Xa b)->w'.heap.size=w.heap.size->wpList prog ops Q rest (a.put o.dst undef) w'):wpList prog ops Q (o :: rest) a w:=
 wpList_plain d fun _ d=>(jk (K:=fun v w'=>v=undef/\wpList prog ops Q rest (a.put o.dst undef) w') f p x l b c hp g m vs e j k hi i (fun w' c e f=>⟨rfl,h w' c e f⟩)).wp (fun v w' c=>d _ _ (Rx c.1 c.2))
theorem QO {a:Act} {w:Xn} {K:Xq->Xn->Prop} (e x) (i:o.op= .load e x) (b c:Nat) (k:a.eval x= Xj (Xa ⟨b,c,Xb⟩)) (vs:List Xq) (f:w.rangeAt b c vs) {d:TypeDesc} (j:Tryz.prog.underlying e=Xa d) (g:d.isRow=Xc) (hi:(Tryz.prog.info? e).map (·.size)=Xa vs.length) (h:K (Xi vs.toArray) w):zP prog o a w K:=by
 have:=run_loadAt_mid (P:=prog) w b c e vs d f j g hi;exact zP.step (by simp only[execOp,i,k,Xv,this,rA,Ya]) h
theorem zlG {a:Act} {w:Xn} {K:Xq->Xn->Prop} (f:TypeId) (x:Operand) (j:o.op= .load f x) (b c:Nat) (l:a.eval x= Xj (Xa ⟨b,c,Xb⟩)) (v:Xq) (i:w.cell? ⟨b,c,Xb⟩=Xa v) {d:TypeDesc} (k:Tryz.prog.underlying f=Xa d) (m:d.isRow=Xd) (h:K v w):zP prog o a w K:=by
 have e:(isAgg f).run prog w= .ok Xd w:=by
  unfold isAgg;rw[Xv,run_underlying k w]
  cases d <;> simp_all [TypeDesc.isRow]
 have g:(loadVar f ⟨b,c,Xb⟩).run prog w= .ok v w:=by simp[loadVar,Xv,e,i]
 exact zP.step (by simp only[execOp,j,l,Instr.loadAt,Instr.sureAddr,Xv,Ya,g,rA]) h
theorem zcO {α:Type} {E:Elt α} {w:Xn} {a:Act} {K:Xq->Xn->Prop} (p x t) (s:o.op= .store t p x) (base:Nat) (v:Xq) (l:List α) (c:zb E base w v l)
  (g i j:Nat) (n:v.ownBlock=Xa g) (e y:α) (hi:l[i]? =Xa e) (cs:List Xq) (r:(Tryz.prog.info? t).map (·.size)=Xa cs.length) (A:E.enc y=splice (E.enc e) j cs) (q:j+cs.length<=E.k) (m:∀u∈cs,u.oneCell'=Xc)
  (b:Addr) (hp:a.eval p= Xj (Xa b)) (f:b=⟨g,i*E.k+j,Xb⟩) (d:Xq) (z:a.eval x=d) (h:d.cells=cs.toArray)
  (k:∀w',zb E base w' v (l.set i y)->w.grownBy w' (Xa g)->w'.heap.size=w.heap.size->K undef w'):zP prog o a w K:=by
 grind [zen,zhH]
theorem za8.form {w:Xn} {t:List (List En)} (h:za8 B0 B1 w us t):∃a t1 t2 t3 b c d e:Sli,us=[a.v,t1.v,t2.v,t3.v,b.v,c.v,d.v,e.v]:=by
 obtain⟨u0,u1,u2,u3,u4,u5,u6,u7,rfl⟩:=zp5 h.len;obtain⟨a,a,a,a,a,a,a,a,rfl⟩:=zp5 h.aO;obtain⟨a,j,rfl,_⟩:=(h.row 0 _ _ rfl rfl).now.rows;obtain⟨b,k,rfl,_⟩:=(h.row 1 _ _ rfl rfl).now.rows;obtain⟨c,l,rfl,_⟩:=(h.row 2 _ _ rfl rfl).now.rows;obtain⟨d,m,rfl,_⟩:=(h.row 3 _ _ rfl rfl).now.rows;obtain⟨e,n,rfl,_⟩:=(h.row 4 _ _ rfl rfl).now.rows;obtain⟨f,p,rfl,_⟩:=(h.row 5 _ _ rfl rfl).now.rows;obtain⟨g,q,rfl,_⟩:=(h.row 6 _ _ rfl rfl).now.rows;obtain⟨i,r,rfl,_⟩:=(h.row 7 _ _ rfl rfl).now.rows;exact⟨⟨a,_,j⟩,⟨b,_,k⟩,⟨c,_,l⟩,⟨d,_,m⟩,⟨e,_,n⟩,⟨f,_,p⟩,⟨g,_,q⟩,⟨i,_,r⟩,rfl⟩
theorem zj3 (m:Ma) (e:En) (n:Int):(Qw m e n).sp=m.sp:=by
 unfold Qw
 split
 ·rfl
 split <;> rfl
theorem zlC (m:Ma) (q:Nat) (n:Int) (e):(jv m q n e).sp.length=m.sp.length:=by simp[jv]
def zoB (m:Ma):Prop:=∀s∈m.sp,(wrL s.aD).1=0/\tbW s.tb=0
theorem zmN (h:Qp m=0):zoB m:=fun s a=>by
 unfold Qp at h
 split at h
 ·cases h
 have:=zr.1 h (spE s) (Yc.2 ⟨s,a,rfl⟩)
 grind [spE]
theorem zrE {s:Sp} (h:tbW s.tb=0) (n:Nat):enW (zh s n)=0:=by
 unfold zh zcZ;have a:=Qj.1 h;have:zjx (s.tb[n / 8]?.getD []):=by
  cases e:s.tb[n / 8]? with
  | none=>exact .inl rfl
  | some x=>exact a x (mG e)
 exact this.get (n % 8)
theorem zfY {s:Sp} {n:Nat} (h:n<64):zer s.tb (n:Int)=zh s n:=by
 unfold zer zh;rw[kE Wm,tN]
theorem zg0 {s:Sp} {n:Nat} (h:(qP s)[j]? =Xa n):n<64:=by
 have:=mG h;unfold qP at this;rw[List.mem_filter,Yl]at this;exact this.1
theorem zf9:∀{l:List Ar} {p:Option Ar} {k:Nat} {a:Ar},Qo p l->l[k]? =Xa a->jV a
 | [],_,_,_,_,h=>by simp at h
 | b :: l,p,0,a,c,h=>by
  simp at h
  subst h;exact c.1
 | b :: l,p,k+1,a,c,h=>zf9 c.2.2 (Si h)
end
end Go.Proofs.YtmfckdkcmbncdaaGreat
