import Derived.Test.YtjjdljjhmcegdaaGreatPY3
import Derived.Deep.CutRange
import Derived.Laws.BytesArg
namespace Go.Proofs.YtjjdljjhmcegdaaGreat
open Go.Value renaming slice→O,int→Xe,bool→Xh,agg→Xi,pointer→Xj,tuple→Xm
open Go.IntKind renaming i64→Xf,u8→Xg
open Go.Obj renaming cells→Xk
open Go.Ending renaming returned→Xl
open Go renaming World→Xn,Calls→Xp,Value→Xq
open Go.RowKit renaming Hid→Xo
open Option renaming some→Xa,none→Xb
open Bool renaming true→Xc,false→Xd
open List renaming replicate→Xr
open Go.Sem renaming run_bind→Xs,run_pure→Xv
open Go.Addr renaming add_lit→Xt
open _root_.List renaming drop_of_length_le→Xu,take_of_length_le→Xw,take→Xx,drop→Xy,any_append→Xz,map_nil→Ya,map_toArray→Yb,mem_append→Yc,getElem?_map→Yd,getElem?_of_mem→Yf,length_set→Yg,getElem?_range→Yh,getElem?_append_left→Yj,getElem?_replicate→Yl,contains_iff_mem→Ym,ext_getElem?→Yo,take_add_one→Yp
open _root_.Nat renaming le_of_ble_eq_true→Ye,lt_of_lt_of_le→Yi,mul_one→Yk
open Go.Act renaming put→Yn
set_option maxRecDepth 100000
set_option maxHeartbeats 4000000
variable{B B0 B1 b fi hi j kk:Nat} {L:List Int} {Q:Exit->Act->Xn->Prop} {T:List (Nat->En)} {V:MaV} {m:Ma} {o:Oper} {ops:Array Oper} {t:TypeId} {us vs:List Xq} {vl vt:Sli} {w' w0:Xn}
open Go.Proofs.Tryz
section
open Go.RowKit
open Go.Act renaming put→Gg
theorem zgg {w:Xn} (S:Mk w0 hi w b vl L V m vt T) (d:qH m T) (ba:m.sp.length<4):
  Xp prog 20 #[Xj (Xa ⟨b,0,Xb⟩)] w fun e w'=>(∃v,e= Xl v)/\Spc w0 hi b w L m T w':=by
 have f:=dD S;have bw:=dD d;have bv:=dD ba;have a:=qz 4 S;obtain⟨B,c⟩:=kA V.fl.n;have ak:Xo (m.fl.length=B):=show _=_ by rw[<-c.out];exact S.rows.at.ns.2.2.2.2.2.2.1.symm
 have g:B<=5:=by
  rw[<-ak.out];obtain⟨⟨c8,c9,ca⟩,ao,g⟩:=(z6 m.fl m.cnt).1 d.st;omega
 have an:=dD<|bS S.gr
 clear S d ba
 go_enter func20,ntmps20
 go_wp2_with fail;refine a.mono ?_;clear a;rintro e a ⟨k,q,af,rfl,d,a,h,l,j,yn,i⟩;obtain⟨Y,rfl⟩:∃Y:Nat,af=(Y:Int):=⟨af.toNat,by omega⟩
 have g:Y<4:=by rcases j with S | S <;> omega
 have av:Xo (L=[]->Y=0):=dD<|fun e=>by have:=yn e;omega
 have r:=dD d;have p:=dD<|f.keeps a;have g:=dD<|f.rows.spB.pick f a;have f:=dD i;clear d a h l j yn i;go_wp2
 go_loopg [2,11] Y (fun bi bc a wr=>∃(n h:Nat) (l:List Ar) (i:Option Addr) (j:Nat) (M:Sli) (ag:List Int),n<=Y/\Y - n<=bi/\a=I6 n/\bc=(O i h j)/\Xo (Mk w0 hi wr b M ag V m vt T)/\Xo (za7 L ag)/\Xo (zD hi w wr)/\Xo (SpB w0.heap.size w.heap.size wr V m)/\Xo (zb arE w0.heap.size wr (O i h j) l)/\Xo (Zv m.fl.length l/\(wrL l).1=0/\Qh l 64<=4*n)/\Xo (n=0->l=[]))
 case atStart=>exact⟨0,0,[],Xb,0,k,q,nZ _,by omega,rfl,rfl,r,f,p,g,zb.nil _ _ _,(show _/\_ from⟨zil _,rfl,by decide⟩),(fun _=>rfl)⟩
 obtain⟨n,h,l,i,j,q,au,a,a,rfl,rfl,Z,aw,bx,a,b9,f,cb⟩:=hrel
 by_cases b3:n<Y
 ·have b4:=kC b3
  have d:Xo (L≠[]):=dD<|fun e=>by have:=av.out e;omega
  go_upto_region 3 with fail;obtain⟨A,Q⟩:∃A:Xn->Prop,Xo (∀u,A u↔(MkE w0 hi b w L V m vt T u/\SpB w0.heap.size w.heap.size u V m/\zb arE w0.heap.size u (O i h j) l)):=⟨fun u=>(MkE w0 hi b w L V m vt T u/\SpB w0.heap.size w.heap.size u V m/\zb arE w0.heap.size u (O i h j) l),fun _=>Iff.rfl⟩
  have C:A wr.drew:=(Q _).2 ⟨⟨q,au,Z.grew (gW _),aw,bx.trans (zD.grew (gW _))⟩,a.grew (gW _),b9.grew (gW _)⟩
  have b0:∀af:zh A,af.world.cell? ⟨b,8,Xb⟩=Xa (O V.fl.a B V.fl.c):=fun af=>by
   obtain⟨⟨_,_,mk,_,_⟩,_⟩:=(Q _).1 af.holds;have:=mk.box.box.c 8 rfl;(try simp only[Sli.x]at this);rw[c.out]at this;exact this
  have ap:Nonempty (zh A):=⟨⟨_,C⟩⟩;have r:Xo (∀(N:Int) w',0<N->A w'->Xp prog 15 #[Xj (Xa ⟨b,0,Xb⟩),I6 N] w' fun e y=>∃x:Int,e= Xl (I6 x)/\0<=x/\x<N/\A y/\zD hi w' y):=dD<|fun N w' bb d=>by
   obtain⟨⟨M,ag,g,a9,U⟩,ac,W⟩:=(Q _).1 d;refine(qz N g).mono ?_;rintro e y ⟨ar,be,x,rfl,ai,a,_,ab,aj,_,a0⟩;exact⟨x,rfl,ab,by omega,(Q _).2 ⟨⟨ar,be,ai,a9.trans a0,U.trans (g.keeps a)⟩,ac.pick g a,W.pick g a⟩,g.keeps a⟩
  refine qK (I:=A) 21 [(1,⟨fun v=>∃x:Int,v=I6 x/\0<=x/\x<12,fun _ _=>True,fun K X=>zD hi K X,fun _=>True⟩),(3,⟨fun v=>∃x:Int,v=I6 x/\0<=x/\x<4,fun _ _=>True,fun K X=>zD hi K X,fun _=>True⟩),(6,⟨fun v=>∃x:Int,v=I6 x/\0<=x/\x<3,fun _ _=>True,fun K X=>zD hi K X,fun _=>True⟩),(17,⟨fun v=>∃x:Int,v=I6 x/\0<=x/\x< (B:Int)+1,fun _ _=>True,fun K X=>zD hi K X,fun _=>True⟩),(20,⟨fun v=>∃z,v= Xj (Xa ⟨z,0,Xb⟩),fun v u=>∃z,v= Xj (Xa ⟨z,0,Xb⟩)/\zx u z 105 [I6 0,I6 0,Xh Xd,Xh Xd,Xh Xd,I6 0,I6 0]/\w.heap.size<=z/\∀ae,(O i h j).ownBlock=Xa ae->ae<z,fun K X=>zc K X,fun _=>True⟩)] C zY (by kernel_rfl) rfl rfl (by decide) ?hS ?hp ?hpre ?hpr0 ?_
  case hS=>
   intro x aq;simp only[mC,nM,or_false]at aq
   rcases aq with rfl|rfl|rfl|rfl|rfl
   ·exact⟨_,0,rfl,by omega,by omega⟩
   ·exact⟨_,0,rfl,by omega,by omega⟩
   ·exact⟨_,0,rfl,by omega,by omega⟩
   ·exact⟨_,0,rfl,by omega,by omega⟩
   exact⟨_,0,rfl⟩
  case hp=>
   intro ae b6 H b7 P a7 ah az v K X G b5;have k:=zR P;have t:=zR a7;clear P a7;simp only[mC,pJ,nM,or_false]at k t
   rcases k with⟨rfl,rfl⟩|⟨rfl,rfl⟩|⟨rfl,rfl⟩|⟨rfl,rfl⟩|⟨rfl,rfl⟩
   ·trivial
   ·trivial
   ·trivial
   ·trivial
   obtain⟨z,c,s,a⟩:=b5
   rcases t with⟨rfl,rfl⟩|⟨rfl,rfl⟩|⟨rfl,rfl⟩|⟨rfl,rfl⟩|⟨rfl,rfl⟩
   ·exact⟨z,c,G.1 _ _ _ s JD,a⟩
   ·exact⟨z,c,G.1 _ _ _ s JD,a⟩
   ·exact⟨z,c,G.1 _ _ _ s JD,a⟩
   ·exact⟨z,c,G.1 _ _ _ s JD,a⟩
   exact absurd rfl ah
  case hpre=>
   intro H b7 ae b6 a7 P ah K X G F;have t:=zR a7;clear P a7;simp only[mC,pJ,nM,or_false]at t
   rcases t with⟨rfl,rfl⟩|⟨rfl,rfl⟩|⟨rfl,rfl⟩|⟨rfl,rfl⟩|⟨rfl,rfl⟩ <;> trivial
  case hpr0=>
   intro ae b7 P;have k:=zR P;clear P;simp only[mC,pJ,nM,or_false]at k
   rcases k with⟨rfl,rfl⟩|⟨rfl,rfl⟩|⟨rfl,rfl⟩|⟨rfl,rfl⟩|⟨rfl,rfl⟩ <;> trivial
  simp only[Xx,Xy];refine zm ?_
  refine zP rfl rfl (fun w' d F ad=>?_) (fun b8 a8=>?_)
  ·refine zQ.call [Xj (Xa ⟨b,0,Xb⟩),I6 12] rfl func15 rfl rfl rfl ?_;refine(r 12 w' (by omega) d).mono ?_
   rintro e y ⟨x,rfl,ab,aj,D,R⟩;exact⟨_,rfl,D,R,⟨x,rfl,ab,aj⟩,trivial⟩
  obtain⟨p,rfl,aa,aa⟩:=a8;refine Uq ?_;refine zm ?_
  refine zP rfl rfl (fun w' d F ad=>?_) (fun b8 a8=>?_)
  ·refine zQ.call [Xj (Xa ⟨b,0,Xb⟩),I6 4] rfl func15 rfl rfl rfl ?_;refine(r 4 w' (by omega) d).mono ?_
   rintro e y ⟨x,rfl,ab,aj,D,R⟩;exact⟨_,rfl,D,R,⟨x,rfl,ab,aj⟩,trivial⟩
  obtain⟨bm,rfl,aa,aa⟩:=a8;refine Uq ?_;iterate 2 refine zm ?_
  refine zP rfl rfl (fun w' d F ad=>?_) (fun b8 a8=>?_)
  ·refine zQ.call [Xj (Xa ⟨b,0,Xb⟩),I6 3] rfl func15 rfl rfl rfl ?_;refine(r 3 w' (by omega) d).mono ?_
   rintro e y ⟨x,rfl,ab,aj,D,R⟩;exact⟨_,rfl,D,R,⟨x,rfl,ab,aj⟩,trivial⟩
  obtain⟨bn,rfl,aa,aa⟩:=a8;refine Uq ?_;iterate 3 refine zm ?_
  refine Zk (.tmp 22) ⟨b,0,Xb⟩ rfl rfl rfl rfl ?_;refine Uq ?_;iterate 6 refine zm ?_
  refine zP rfl rfl (fun w' d F ad=>?_) (fun b8 a8=>?_)
  ·refine zQ.call [Xj (Xa ⟨b,0,Xb⟩),I6 ((B:Int)+1)] rfl func15 rfl rfl rfl ?_;refine(r ((B:Int)+1) w' (by omega) d).mono ?_
   rintro e y ⟨x,rfl,ab,aj,D,R⟩;exact⟨_,rfl,D,R,⟨x,rfl,ab,aj⟩,trivial⟩
  obtain⟨bg,rfl,ax,ay⟩:=a8;refine Uq ?_;iterate 2 refine zm ?_
  refine zP rfl rfl (fun w' d F ad=>?_) (fun b8 a8=>?_)
  ·obtain⟨⟨M,ag,g,a9,U⟩,ac,W⟩:=(Q _).1 d;refine zQ.step (v:= Xj (Xa ⟨w'.heap.size,0,Xb⟩)) (w':=w'.alloc (Xk #[I6 0,I6 0,Xh Xd,Xh Xd,Xh Xd,I6 0,I6 0] 105)) (by clear b0;simp only[execOp];go_simp) ⟨(Q _).2 ⟨⟨M,ag,g.grew (za _ _),a9,U.trans (zD.grew (za _ _))⟩,ac.grew (za _ _),W.grew (za _ _)⟩,za _ _,⟨_,rfl⟩,_,rfl,zx.top _ [I6 0,I6 0,Xh Xd,Xh Xd,Xh Xd,I6 0,I6 0] _ rfl,U.2,fun ae P=>(W.lt ae P).2⟩
  obtain⟨aa,rfl⟩:=a8;refine Uq ?_;refine Zq fun r r ad=>?_
  obtain⟨D,c,s,a,D⟩:=ad 20;simp only[Value.pointer.injEq,Option.some.injEq,Addr.mk.injEq,and_true]at c;subst c;obtain⟨⟨ar,be,ai,a0,c⟩,b2,b1⟩:=(Q _).1 r;have bk:=dD ai;have bf:=dD a0;have bj:=dD c;have bd:=dD b2;have bl:=dD b1;have bh:=dD s;have R:=dD a;have am:=dD D;have al:=dD<|nT an a
  clear s a D ai a0 c b2 b1 ad r b0 ap C;obtain⟨r,a⟩:=kA (decide ((0:Int)<bm));obtain⟨c,a0⟩:∃c,Xo (decide ((0:Int)<bn)=c):=⟨_,rfl⟩;rw[a.out,a0.out];obtain⟨a,a0⟩:=kB (bg - 1);have b1:a< (B:Int):=by omega
  have B:-1<=a:=by omega
  rw[a0];refine z9 rfl 105 (.tmp 3) (.tmp 32) rfl aa rfl [I6 p,I6 0,Xh r,Xh c,Xh Xd,I6 a,I6 0] rfl bh rfl zqN (arE.one ⟨p,0,r,c,Xd,a,0⟩) ?_;intro ai b0 D _;have B:=bk.area bd D bh R al.out;have bh:=dD B.1;have bg:=dD B.2;have bd:=dD<|bj.own D R.out;have bj:Xo (zb arE w0.heap.size ai (O i h j) l):=bl.grown D (fun z b2 e=>by cases e;have:=am.out _ b2;omega)
  have bk:=dD b0;clear B b0 D ax ay a0;go_upto_region 4 with fail;simp only[Yn];obtain⟨A,Q⟩:∃A:Xn->Prop,Xo (∀u,A u↔(MkE w0 hi b w L V m vt T u/\SpB w0.heap.size w.heap.size u V m/\zb arE w0.heap.size u (O i h j) l/\zx u aa 105 [I6 p,I6 0,Xh r,Xh c,Xh Xd,I6 a,I6 0])):=⟨fun u=>(MkE w0 hi b w L V m vt T u/\SpB w0.heap.size w.heap.size u V m/\zb arE w0.heap.size u (O i h j) l/\zx u aa 105 [I6 p,I6 0,Xh r,Xh c,Xh Xd,I6 a,I6 0]),fun _=>Iff.rfl⟩
  have C:A ai.drew:=(Q _).2 ⟨⟨ar,be,bh.grew (gW _),bf,bd.trans (zD.grew (gW _))⟩,bg.grew (gW _),bj.grew (gW _),bk.grew (gW _)⟩
  have a0:∀af:zh A,af.world.cell? ⟨aa,0,Xb⟩=Xa (I6 p):=fun af=>((Q _).1 af.holds).2.2.2.box.c 0 rfl
  have ap:Nonempty (zh A):=⟨⟨_,C⟩⟩;refine qK (I:=A) 7 [(4,⟨fun v=>∃x:Int,v=I6 x/\0<=x/\x<4,fun _ _=>True,fun _ _=>True,fun _=>True⟩)] C zY (by kernel_rfl) rfl rfl (by decide) ?hS ?hp ?hpre ?hpr0 ?_
  case hS=>
   intro x aq;simp only[mC,nM,or_false]at aq;subst aq;exact⟨_,0,rfl,by omega,by omega⟩
  case hp=>
   intro ae b6 H b7 P a7 ah az v K X G b5;have k:=zR P;simp only[mC,pJ,nM,or_false]at k;obtain⟨rfl,rfl⟩:=k;trivial
  case hpre=>
   intro H b7 ae b6 a7 P ah K X G F;have t:=zR a7;simp only[mC,pJ,nM,or_false]at t;obtain⟨rfl,rfl⟩:=t;trivial
  case hpr0=>
   intro ae b7 P;have k:=zR P;simp only[mC,pJ,nM,or_false]at k;obtain⟨rfl,rfl⟩:=k;trivial
  simp only[Xx,Xy];iterate 4 refine zm ?_
  refine zP rfl rfl (fun w' d F ad=>?_) (fun b8 a8=>?_)
  ·obtain⟨⟨M,ag,g,a9,U⟩,ac,W,A⟩:=(Q _).1 d;refine zQ.call [Xj (Xa ⟨b,0,Xb⟩),I6 4] rfl func15 rfl rfl rfl ?_;refine(qz 4 g).mono ?_;rintro e y ⟨D,az,x,rfl,t,d,_,ab,aj,_,k⟩;exact⟨_,rfl,(Q _).2 ⟨⟨D,az,t,a9.trans k,U.trans (g.keeps d)⟩,ac.pick g d,W.pick g d,(g.keeps d).1 _ _ _ A JD⟩,trivial,⟨x,rfl,ab,by omega⟩,trivial⟩
  obtain⟨U,rfl,d,d⟩:=a8;refine Uq ?_;iterate 2 refine zm ?_
  refine Zq fun F d ad=>?_
  obtain⟨⟨D,az,t,k,g⟩,B,y,A⟩:=(Q _).1 d;have ab:=dD t;have W:=dD k;have b5:=dD g;have P:=dD B;have Q:=dD y;have G:=dD A;clear t k g B y A ad d a0 ap C;obtain⟨d,g⟩:=kA (p+1+U);have ae:Xo ((d - p).toNat<=4):=show _<=_ by rw[<-g.out];omega
  have U:=G.box.c 1 rfl;have a9:=G.box.f;rw[g.out];go_upto_region 5 with fail;clear U a9;obtain⟨B,g⟩:=kB (F.setCell ⟨aa,1,Xb⟩ (I6 d));have k:F.grownBy B (Xa aa):=by rw[<-g];exact jC _ _ _ _
  have bf:Xo (zx B aa 105 [I6 p,I6 d,Xh r,Xh c,Xh Xd,I6 a,I6 0]):=dD<|by rw[<-g];exact G.set 1 _
  have t:=ab.area P k G R al.out;have ac:=dD t.1;have ap:=dD t.2;have af:=dD<|b5.own k R.out;have b0:Xo (zb arE w0.heap.size B (O i h j) l):=Q.grown k (fun z b2 e=>by cases e;have:=am.out _ b2;omega)
  rw[g];clear g k t;have ad:=bf.box.c 5 rfl
  by_cases ax:0<=a
  ·have bl:decide ((0:Int)<=a)=Xc:=by simpa using ax
   have g:=qz 2 ac.out;go_wp2_with fail;refine g.mono ?_;clear g ad;rintro e ar ⟨g,g,a0,rfl,t,g,_,_,_,_,k⟩;have C:=dD t;have A:=dD<|ap.pick ac g;have b7:=dD (af.trans (ac.keeps g));have G:=dD<|b0.pick ac g;have X:=dD<|(ac.keeps g).1 _ _ _ bf JD;have y:=dD (W.trans k);clear t g k;have g:=qz 4 C.out;go_wp2_with fail;refine g.mono ?_;clear g;rintro e bh ⟨ay,bz,P,rfl,t,g,_,k,k,_,k⟩;have be:=dD t;have Q:=dD<|A.pick C g;have b8:=dD (b7.trans (C.keeps g));have A:=dD<|G.pick C g;have P9:=dD<|(C.keeps g).1 _ _ _ X JD;have ah:=dD (y.trans k);clear t g k;obtain⟨y,g⟩:=kA (a0 == 1);try rw[g.out]
   have U:=P9.box.c 4 rfl;have k:=P9.box.c 6 rfl;have a9:=P9.box.f;go_upto_region 7 with fail;try rw[g.out]
   clear U k a9;obtain⟨G,g⟩:=kB ((bh.setCell ⟨aa,4,Xb⟩ (Xh y)).setCell ⟨aa,6,Xb⟩ (I6 P));have k:bh.grownBy G (Xa aa):=by rw[<-g];exact jY (jC _ _ _ _) (jC _ _ _ _)
   have X:Xo (zx G aa 105 [I6 p,I6 d,Xh r,Xh c,Xh y,I6 a,I6 P]):=dD<|by rw[<-g];exact(P9.set 4 _).set 6 _
   have t:=be.area Q k P9 R al.out;have aj:=dD t.1;have U:=dD t.2;have aa:=dD<|b8.own k R.out;have R:Xo (zb arE w0.heap.size G (O i h j) l):=A.grown k (fun z b2 e=>by cases e;have:=am.out _ b2;omega)
   rw[g];clear g k t;obtain⟨bn,bo,bp,bq,br,ad,bs⟩:=X.box.c7;have A:=zem (O i h j) l ⟨p,d,r,c,y,a,P⟩ G R.at R.cap;have Q:Xo ((za6 l ⟨p,d,r,c,y,a,P⟩).2=0->Zv m.fl.length (za6 l ⟨p,d,r,c,y,a,P⟩).1/\(wrL (za6 l ⟨p,d,r,c,y,a,P⟩).1).1=0/\Qh (za6 l ⟨p,d,r,c,y,a,P⟩).1 64<=4*(n+1)):=dD<|fun k=>⟨zdD f.1 (by show a<_;rw[ak.out];exact b1) k,zoD k,by have G:=zjC k;have bj:=ae.out;have bk:=f.2.2;dsimp only at G;omega⟩
   go_wp2_with fail;refine A.mono ?_;clear A bn bo bp bq br ad bs;rintro e c7 ⟨⟨u,rfl,g⟩,t⟩;obtain⟨bt,bu,rfl⟩:=g.form
   generalize za6 l ⟨p,d,r,c,y,a,P⟩=bg at Q g⊢
   obtain⟨am,a0⟩:=bg;dsimp only at Q g⊢;have X:=dD (aj.grew t);have y:=dD (U.grew t);have U:=dD (aa.trans (zD.grew t));have b2:=dD (R.grew t);have al:=dD<|g.base (nT an aa.2);clear t g;obtain⟨bm,P⟩:=kA am.length;rw[P.out]at al⊢
   by_cases k:a0=0
   ·have a8:(a0 == 0)=Xc:=by simp[k]
    have R:=dD<|Q.out k
    clear k;go_wp2
    go_roundg (Y -(n+1))
    case measure=>omega
    exact⟨n+1,bm,am,bt,bu,ay,bz,by omega,by omega,by go_num,rfl,X,ah,U,y,al,R,(fun S=>by omega)⟩
   have a8:(a0 == 0)=Xd:=by simp[k]
   clear k;go_wp2
   go_roundg (Y -(n+1))
   case measure=>omega
   exact⟨n+1,h,l,i,j,ay,bz,by omega,by omega,by go_num,rfl,X,ah,U,y,b2,(show _/\_ from⟨f.1,f.2.1,by have:=f.2.2;omega⟩),(fun S=>by omega)⟩
  have bl:decide ((0:Int)<=a)=Xd:=by simpa using ax
  go_upto_region 7 with fail;clear ad;obtain⟨bn,bo,bp,bq,br,ad,bs⟩:=bf.box.c7;have A:=zem (O i h j) l ⟨p,d,r,c,Xd,a,0⟩ B b0.at b0.cap;have Q:Xo ((za6 l ⟨p,d,r,c,Xd,a,0⟩).2=0->Zv m.fl.length (za6 l ⟨p,d,r,c,Xd,a,0⟩).1/\(wrL (za6 l ⟨p,d,r,c,Xd,a,0⟩).1).1=0/\Qh (za6 l ⟨p,d,r,c,Xd,a,0⟩).1 64<=4*(n+1)):=dD<|fun k=>⟨zdD f.1 (by show a<_;rw[ak.out];exact b1) k,zoD k,by have G:=zjC k;have bj:=ae.out;have bk:=f.2.2;dsimp only at G;omega⟩
  go_wp2_with fail;refine A.mono ?_;clear A bn bo bp bq br ad bs;rintro e c7 ⟨⟨u,rfl,g⟩,t⟩;obtain⟨bt,bu,rfl⟩:=g.form
  generalize za6 l ⟨p,d,r,c,Xd,a,0⟩=bg at Q g⊢
  obtain⟨am,a0⟩:=bg;dsimp only at Q g⊢;have X:=dD (ac.grew t);have y:=dD (ap.grew t);have U:=dD (af.trans (zD.grew t));have b2:=dD (b0.grew t);have al:=dD<|g.base (nT an af.2);clear t g;obtain⟨bm,P⟩:=kA am.length;rw[P.out]at al⊢
  by_cases k:a0=0
  ·have a8:(a0 == 0)=Xc:=by simp[k]
   have R:=dD<|Q.out k
   clear k;go_wp2
   go_roundg (Y -(n+1))
   case measure=>omega
   exact⟨n+1,bm,am,bt,bu,D,az,by omega,by omega,by go_num,rfl,X,W,U,y,al,R,(fun S=>by omega)⟩
  have a8:(a0 == 0)=Xd:=by simp[k]
  clear k;go_wp2
  go_roundg (Y -(n+1))
  case measure=>omega
  exact⟨n+1,h,l,i,j,D,az,by omega,by omega,by go_num,rfl,X,W,U,y,b2,(show _/\_ from⟨f.1,f.2.1,by have:=f.2.2;omega⟩),(fun S=>by omega)⟩
 have b4:=kD b3
 have Y:Xo (L=[]->l=[]):=dD<|fun e=>cb.out (by have:=av.out e;omega)
 obtain⟨d,a,bc,c⟩:=Z.rows.sp;have k:=dD a;have g:=dD bc;have y:=dD c
 clear a bc c;obtain⟨r,p⟩:=kA m.sp.length;have a:r<4:=by rw[<-p.out];exact bv.out
 have u:=Z.box.box.c 11 rfl;have a:=dD<|bS Z.gr
 go_wp2_with (at_builtin;refine zt (E:=Qz) rfl (.tmp 65) (.tmp 68) rfl w0.heap.size _ d rfl (k.grew (za _ _)) _ [⟨Xc,⟨i,h,j⟩,zK,zK,zK,zK,zK,zK,zK,zK⟩] rfl (jV Qz wr ⟨Xc,⟨i,h,j⟩,zK,zK,zK,zK,zK,zK,zK,zK⟩ _ _ rfl (by decide)) ?qb ?qc ?_)
 case qb=>
  rw[g.out,p.out]
  show(r+1)*224<=_
  omega
 case qc=>have:=a.out;omega
 intro a ai A a;obtain⟨ao,D,rfl⟩:=A.form;obtain⟨N,bb⟩:=kB ((d++ [(⟨Xc,⟨i,h,j⟩,zK,zK,zK,zK,zK,zK,zK,zK⟩:SpV)]).length);have c:(N:Int) - 1=(r:Int):=by
  have:N=r+1:=by rw[<-bb,lA,g.out,p.out];rfl
  omega
 rw[bb]at A⊢;clear bb;obtain⟨ak,d⟩:=kB (wr.alloc (Xk #[Xh Xc,O i h j,eS,eS,eS,eS,eS,eS,eS,eS] 79));have c:=gP d
 rw[d]at a;clear d;have P:zx ai b 58 [q.x,V.f.x,I6 m.hand,V.s.x,V.sb.x,V.sq.x,V.db.x,V.dq.x,V.fl.x,I6 m.cnt,V.ca.x,V.sp.x,vt.x]:=zx.row (k.grew c) a (Z.box.grew c) (by decide)
 have ac:Xo (MkR w0.heap.size hi ai { V with sp:=⟨ao,N,D⟩ } { m with sp:=m.sp++ [⟨Xc,l,qI⟩] } vt T):=(Z.rows.grew c).addSp (k.grew c) g (fun R x b6 aq g=>by
  obtain⟨c8,c9,ca⟩:=y.out R x b6 aq g;exact⟨c8,c9.grew c,ca⟩) a ⟨ao,N,D⟩ ⟨i,h,j⟩ (b9.grew c) A
 have a8:=dD<|zc.row (k.grew c) a (Z.gr.trans c);have bd:=dD<|(bx.trans (zD.grew c)).trans (zD.row (k.grew c) a (fun K Q=>Q.2.2.2.2.2.2.1 rfl))
 have W:Xo (zb arE w0.heap.size ai (O i h j) l):=dD<|by
  cases g:(V.sp.x).ownBlock with
  | none=>
   rw[g]at a;exact(b9.grew c).grew (qx a)
  | some z=>
   obtain⟨al,ah⟩:=(k.grew c).obj g;rw[g]at a;exact(b9.grew c).kind a ah (by decide)
 have k:=dD P;have y:Xo (w0.heap.size<=b/\zq byE w0 (q.x) au/\q.n<=q.c/\∀a0∈au,0<=a0/\a0<256):=show _/\_ from⟨Z.hb,Z.lr,Z.lc,Z.lb⟩
 clear P A a c u;have u:=k.box.c 11 rfl;have a9:=k.box.f;go_upto_region 12 with fail;clear u a9;obtain⟨F,A⟩:=kB (ai.setCell ⟨b,11,Xb⟩ (O ao N D));have a:ai.grownBy F (Xa b):=by rw[<-A];exact jC _ _ _ _
 have ab:Xo (Mk w0 hi F b q au { V with sp:=⟨ao,N,D⟩ } { m with sp:=m.sp++ [⟨Xc,l,qI⟩] } vt T):=dD<|⟨zd a8 a y.1,y.1,by rw[<-A];exact k.set 11 _,y.2.1,y.2.2.1,y.2.2.2,ac.var a k a.size (.inl rfl)⟩
 have b5:=dD<|bd.trans (zD.kind a k (fun _ Q=>absurd rfl Q.1))
 have Z:Xo (zb arE w0.heap.size F (O i h j) l):=W.kind a k (by decide)
 rw[A];clear A a;obtain⟨A,k⟩:=kA T.length;have P:Xo (A=r):=dD<|by rw[<-k.out,bw.tl,p.out]
 have W:=ab.box.box.c 12 rfl;have a:=dD<|bS ab.gr
 go_wp2_with (at_builtin;refine zt (E:=Jp) rfl (.tmp 77) (.tmp 79) rfl w0.heap.size _ T rfl (ab.rows.tt.grew (za _ _)) _ [fun _=>en0] rfl (jV Jp F (fun _=>en0) _ _ rfl (by decide)) ?qb ?qc ?_)
 case qb=>
  rw[k.out]
  show(A+1)*1536<=_
  have:=P.out;omega
 case qc=>exact nT a (bS (za _ _))
 intro a B A a0;obtain⟨ad,ae,rfl⟩:=A.form;obtain⟨ac,a8⟩:=kB ((T++ [fun _=>en0]).length)
 rw[a8]at A⊢;obtain⟨ak,d⟩:=kB (F.alloc (Xk (Jp.enc (fun _=>en0)).toArray 76))
 have c:=gP d
 have a:ak.grownBy B (vt.x).ownBlock:=by rw[<-d];exact a0
 clear a0 d a8;have d:=ab.grew c;have F:Xo (zx B b 58 [q.x,V.f.x,I6 m.hand,V.s.x,V.sb.x,V.sq.x,V.db.x,V.dq.x,V.fl.x,I6 m.cnt,V.ca.x,O ao N D,vt.x]):=zx.row d.rows.tt a d.box (by decide)
 have a8:=dD<|d.rows.addT a ⟨ad,ac,ae⟩ A
 have a0:=dD<|zc.row d.rows.tt a d.gr;have af:=dD<|(b5.trans (zD.grew c)).trans (zD.row d.rows.tt a (fun K Q=>Q.2.2.2.2.2.2.2.1 rfl))
 have K:Xo (zb arE w0.heap.size B (O i h j) l):=dD<|by
  cases g:(vt.x).ownBlock with
  | none=>
   rw[g]at a;exact(Z.grew c).grew (qx a)
  | some z=>
   obtain⟨al,ah⟩:=d.rows.tt.obj g;rw[g]at a;exact(Z.grew c).kind a ah (by decide)
 clear a A c W;have W:=F.box.c 12 rfl;have a9:=F.box.f;go_upto_region 13 with fail;clear W a9;obtain⟨ar,c⟩:=kB (B.setCell ⟨b,12,Xb⟩ (O ad ac ae));have a:B.grownBy ar (Xa b):=by rw[<-c];exact jC _ _ _ _
 have C:Xo (Mk w0 hi ar b q au { V with sp:=⟨ao,N,D⟩ } { m with sp:=m.sp++ [⟨Xc,l,qI⟩] } ⟨ad,ac,ae⟩ (T++ [fun _=>en0])):=dD<|⟨zd a0 a y.1,y.1,by rw[<-c];exact F.set 12 _,y.2.1,y.2.2.1,y.2.2.2,a8.var a F a.size (.inl rfl)⟩
 have b7:=dD<|af.trans (zD.kind a F (fun _ Q=>absurd rfl Q.1))
 have d:Xo (zb arE w0.heap.size ar (O i h j) l):=K.kind a F (by decide)
 rw[c];clear c a;obtain⟨y,a⟩:∃y:Sli,Xo (y=⟨ad,ac,ae⟩):=⟨_,rfl⟩;rw[<-a.out]at C;have z:=dD<|bw.space f.2.1 bv.out
 have u:=C.box.box.c 11 rfl;have a:=ZM (O i h j) l ar d.at (Zo.1 f.2.1).2.lies;go_wp2_with fail;refine a.mono ?_;clear a u;rintro e c7 ⟨rfl,t⟩;have X:=dD (C.grew t)
 have U:=dD (b7.trans (zD.grew t));clear t;have g:Xo (∀{c:Array Oper} {a:List Oper} {i:Oper} {d:Act} {w:Xn} {Q:Exit->Act->Xn->Prop} (_:i.guard=Xb) (x h:Operand) (_:i.op= .index 82 x h) (_:d.eval x= Xi (zC (tab (zE l))).toArray) (R:Nat) (_:d.eval h=I6 (R:Int)) (_:R<64) {v:Xq} (_: Xi (onv (zE l R)).toArray=v)
  (_:wpList prog c Q a (d.put i.dst v) w),wpList prog c Q (i :: a) d w):=fun G x h bj bk R ba a _ c d=>ze5 G x h bj (zE l) bk R ba a c d
 generalize zC (tab (zE l))=C at g⊢
 have A:Xo (({ m with sp:=m.sp++ [⟨Xc,l,qI⟩] }:Ma).sp[r]? =Xa ⟨Xc,l,qI⟩):=dD<|by
  show(m.sp++ [(⟨Xc,l,qI⟩:Sp)])[r]? =_
  rw[aR (by rw[p.out];exact nR _),p,Nat.sub_self]
  rfl
 have d:Xo ((T++ [fun _=>en0])[r]? =Xa (fun _=>en0)):=dD<|by
  rw[aR (by rw[k.out,P.out];exact nR _),k,P,Nat.sub_self]
  rfl
 go_wp2
 go_loopg [92] 64 (fun bi h wr=>∃(n:Nat) (M:Sli) (ag:List Int) (i:MaV) (a:Ma) (c:List (Nat->En)) (k:Nat->En),n<=64/\64 - n<=bi/\h=I6 n/\Xo (Mk w0 hi wr b M ag i a y c)/\Xo (za7 L ag)/\Xo (zD hi w wr)/\Xo (qH a c)/\Xo (a.sp=m.sp++ [⟨Xc,l,qI⟩]/\a.fl=m.fl/\a.hand=m.hand/\a.fs.length=m.fs.length)/\Xo (c[r]? =Xa k/\∀H,n<=H->k H=en0)/\Xo (L=[]->a={ m with sp:=m.sp++ [⟨Xc,l,qI⟩] }/\c=(T++ [fun _=>en0])))
 case atStart=>exact⟨0,q,au,_,_,_,fun _=>en0,nZ _,by omega,rfl,X,aw,U,z,(show _/\_ from⟨rfl,rfl,rfl,rfl⟩),(show _/\_ from⟨d,fun _ _=>rfl⟩),(fun _=>⟨rfl,rfl⟩)⟩
 obtain⟨c,B,N,Q,R,P,k,a,s,rfl,aj,j,aa,F,h,a,M⟩:=hrel
 by_cases d:c<64
 ·have n:(c:Int)<64:=by omega
  obtain⟨x,i⟩:=kA (zE l c);obtain⟨z,s,u,t,p,q⟩:=x;have x:Xo (Value.agg (onv (zE l c)).toArray= Xi #[Xh z,Xh s,Xh u,Xh t,I6 p,I6 q]):=dD<|by rw[i.out];rfl
  cases z with
  | false=>
   go_wp2_with (refine g rfl (.tmp 91) (.tmp 92) rfl rfl c rfl d x.out ?_)
   go_roundg (64 -(c+1))
   case measure=>omega
   exact⟨c+1,B,N,Q,R,P,k,by omega,by omega,by go_num,aj.grew (za _ _),j,aa.trans (zD.grew (za _ _)),F,h,(show _/\_ from⟨a.1,fun H a7=>a.2 H (by omega)⟩),M⟩
  | true=>
   have K:Xo (L≠[]):=dD<|fun e=>by
    have G:=i.out;rw[Y.out e]at G;cases G
   go_upto_region 17 with(refine g rfl (.tmp 91) (.tmp 92) rfl rfl c rfl d x.out ?_)
   obtain⟨g,z⟩:=kA wr.heap.size;obtain⟨bh,g⟩:=kB (wr.alloc (Xk #[Xh Xc,Xh s,Xh u,Xh t,I6 p,I6 q] 81));have C:=gP g
   have x:=xP g z
   rw[g,z.out];have be:=dD (aj.grew C);have b8:=dD (aa.trans (zD.grew C));clear g C;have z:=x.c 0 rfl;have C:=x.c 1 rfl;have G:=x.c 2 rfl;have U:=x.c 3 rfl;have D:=x.c 4 rfl;have W:=x.c 5 rfl;have g:=zmx r c ⟨Xc,l,qI⟩ k ⟨Xc,s,u,t,p,q⟩ be F (by rw[h.1];exact A) a.1 d (a.2 c (nR _)) i rfl (by rw[h.2.1];exact f.1)
   go_wp2_with fail;refine g.mono ?_;clear g z C G U D W;rintro e d ⟨⟨v,rfl⟩,D,U,Z,A,G,g,i,p,q,⟨s,t,u,x⟩,z,_⟩;obtain⟨C,d⟩:∃C,G[r]? =Xa C/\∀H,c+1<=H->C H=en0:=by
    rcases z with rfl|⟨e,rfl⟩
    ·exact⟨k,a.1,fun H a7=>a.2 H (by omega)⟩
    refine⟨qN k c e,sF (gS.1 a.1).1,fun H a7=>?_⟩
    unfold qN;rw[kF (by omega)]
    exact a.2 H (by omega)
   have W:=dD g;have a:=dD (j.trans i);have H:=dD (b8.trans p);have k:=dD q;have X:Xo (A.sp=m.sp++ [⟨Xc,l,qI⟩]/\A.fl=m.fl/\A.hand=m.hand/\A.fs.length=m.fs.length):=show _/\_ from⟨s.trans h.1,t.trans h.2.1,u.trans h.2.2.1,x.trans h.2.2.2⟩
   have r:=dD d;clear g i p q s t u x z d;go_wp2
   go_roundg (64 -(c+1))
   case measure=>omega
   exact⟨c+1,D,U,Z,A,G,C,by omega,by omega,by go_num,W,a,H,k,X,r,(fun S=>absurd S K)⟩
 have n:¬(c:Int)<64:=by omega
 have a:Xo (Spc w0 hi b w L m T wr):=dD<|⟨B,N,Q,R,y,P,l,aj,j,aa,F,h,⟨f.1,by have:=f.2.2;omega⟩,fun e=>by
  obtain⟨c,d⟩:=M.out e;rw[Y.out e]at c;exact⟨c,d⟩⟩
 go_wp2
 (first | go_end0 | ((try simp only[Exit.inBlock,Exit.then]);refine bodyPost_ret (results_none rfl _ _ _) rfl ?_))
 first | exact a.out | exact⟨⟨_,rfl⟩,a⟩
theorem zhR {a:Act} (x) (f:o.op= .load 76 x) (b c:Nat) (g:a.eval x= Xj (Xa ⟨b,c,Xb⟩)) {w:Xn} (d:w.rangeAt b c vs) (e:vs.length=192):(execOp a.eval o).run prog w= .ok (.value (Xi vs.toArray)) w:=by
 have:=run_loadAt_mid (P:=prog) w b c 76 vs _ d underlying76 rfl (by rw[e];exact zqU)
 simp only[execOp,f,g,Xs,this,rA,Xv]
theorem zb.range {α:Type} {E:Elt α} {base g n c:Nat} {w:Xn} {l:List α} (h:zb E base w (O (Xa ⟨g,0,Xb⟩) n c) l) {i:Nat} {x:α} (b:l[i]? =Xa x):w.rangeAt g (i*E.k) (E.enc x):=fun j v a=>by
 have:=h.one b j v a;rw[zV,Xt,zA]at this;exact this
structure MkT (base hi ht k:Nat) (w:Xn) (V:MaV) (m:Ma) (vt:Sli) (T:List (Nat->En)):Prop where
 fs:zb JR base w (O V.f.a V.f.n V.f.c) m.fs
 sl:zb slE base w (O V.s.a V.s.n V.s.c) m.sl
 slh:∀g,(O V.s.a V.s.n V.s.c).ownBlock=Xa g->g<hi
 sb:zj base w (O V.sb.a V.sb.n V.sb.c) m.sb
 sq:V.sq=zK/\m.sq=[]
 db:zj base w (O V.db.a V.db.n V.db.c) m.db
 dq:zr base w (O V.dq.a V.dq.n V.dq.c) m.dq
 fl:∃xs:List FlV,zb fvE base w (O V.fl.a V.fl.n V.fl.c) xs/\xs.length=m.fl.length/\∀(i:Nat) x f,xs[i]? =Xa x->m.fl[i]? =Xa f->x.size=f.size/\zb blE hi w x.v f.bl
 ca:zb qS base w (O V.ca.a V.ca.n V.ca.c) m.ca
 sp:∃xs:List SpV,zb Qz base w (O V.sp.a V.sp.n V.sp.c) xs/\xs.length=m.sp.length/\∀(i:Nat) x s f,xs[i]? =Xa x->m.sp[i]? =Xa s->T[i]? =Xa f->x.live=s.live/\zb arE base w x.ar.v s.ars/\(i<k->Ja 0 ht w x.tab (Zt f))/\(k<=i->x.tab=Jw)
 tt:zb Jp base w (O vt.a vt.n vt.c) T
 ap:(∀g,(O V.sb.a V.sb.n V.sb.c).ownBlock=Xa g->(O V.db.a V.db.n V.db.c).ownBlock≠Xa g)/\zdV m
 lo:∀g,(O V.f.a V.f.n V.f.c).ownBlock=Xa g\/(O V.s.a V.s.n V.s.c).ownBlock=Xa g\/(O V.fl.a V.fl.n V.fl.c).ownBlock=Xa g\/(O V.ca.a V.ca.n V.ca.c).ownBlock=Xa g\/(O V.sp.a V.sp.n V.sp.c).ownBlock=Xa g->g<ht
 hts:ht<=w.heap.size
section
variable{base hi ht k:Nat} {w w':Xn} {V:MaV} {m:Ma} {vt:Sli} {T:List (Nat->En)}
theorem MkR.start (h:MkR base hi w V m vt T) (ht:Nat) (b:w.heap.size=ht):MkT base hi ht 0 w V m vt T:=by
 have c:∀g,(V.f.x).ownBlock=Xa g\/(V.s.x).ownBlock=Xa g\/(V.fl.x).ownBlock=Xa g\/(V.ca.x).ownBlock=Xa g\/(V.sp.x).ownBlock=Xa g->g<ht:=fun g a=>by
  obtain⟨_,e,_⟩:=h.fl;obtain⟨_,d,_⟩:=h.sp
  rcases a with a|a|a|a|a
  ·have:=(h.fs.lt g a).2;omega
  ·have:=(h.sl.lt g a).2;omega
  ·have:=(e.lt g a).2;omega
  ·have:=(h.ca.lt g a).2;omega
  have:=(d.lt g a).2;omega
 obtain⟨f,d,a,e⟩:=h.sp;exact⟨h.fs,h.sl,h.slh,h.sb,h.sq,h.db,h.dq,h.fl,h.ca,⟨f,d,a,fun i x s f d a _=>⟨(e i x s d a).1,(e i x s d a).2.1,fun f=>absurd f (nL _),fun _=>(e i x s d a).2.2.1⟩⟩,h.tt,h.ap,c,Nat.le_of_eq b.symm⟩
theorem MkT.grew (h:MkT base hi ht k w V m vt T) (g:zc w w'):MkT base hi ht k w' V m vt T:=by
 obtain⟨f,a,c,b⟩:=h.fl;obtain⟨l,e,j,d⟩:=h.sp;exact⟨h.fs.grew g,h.sl.grew g,h.slh,h.sb.grew g,h.sq,h.db.grew g,h.dq.grew g,⟨f,a.grew g,c,fun i x f a c=>⟨(b i x f a c).1,(b i x f a c).2.grew g⟩⟩,h.ca.grew g,⟨l,e.grew g,j,fun i x s f a c b=>⟨(d i x s f a c b).1,(d i x s f a c b).2.1.grew g,fun e=>((d i x s f a c b).2.2.1 e).grew g,(d i x s f a c b).2.2.2⟩⟩,h.tt.grew g,h.ap,h.lo,nT h.hts (bS g)⟩
theorem MkT.table (h:MkT base hi ht k w V m vt T) {c:List SpV} (s2:c.length=m.sp.length) (s3:∀(i:Nat) x s f,c[i]? =Xa x->m.sp[i]? =Xa s->T[i]? =Xa f->x.live=s.live/\zb arE base w x.ar.v s.ars/\(i<k->Ja 0 ht w x.tab (Zt f))/\(k<=i->x.tab=Jw)) {g:Nat} {cs:Array Xq} (b:w.heap[g]? =Xa (Xk cs 79 (0,0))) (n:g<ht) (a:w.grownBy w' (Xa g)) {x y:SpV} {f:Nat->En} (l:c[k]? =Xa x) (d:T[k]? =Xa f) (t:y.live=x.live/\y.ar=x.ar) (v:Ja 0 ht w' y.tab (Zt f)) (u:zb Qz base w' (V.sp.x) (c.set k y)):MkT base hi ht (k+1) w' V m vt T:=by
 obtain⟨z,q,r,p⟩:=h.fl;have j:Out 0 ht w w':=Out.grown a (fun e e=>by cases e;exact⟨nZ _,n⟩)
 refine⟨h.fs.kind a b (by decide),h.sl.kind a b (by decide),h.slh,⟨qA h.sb.1 a b (by decide),h.sb.2⟩,h.sq,⟨qA h.db.1 a b (by decide),h.db.2⟩,⟨qA h.dq.1 a b (by decide),h.dq.2⟩,⟨z,q.kind a b (by decide),r,fun i x f l d=>⟨(p i x f l d).1,(p i x f l d).2.kind a b (by decide)⟩⟩,h.ca.kind a b (by decide),⟨c.set k y,u,by rw[Yg];exact s2,fun i z s u n r c=>?_⟩,h.tt.kind a b (by decide),h.ap,h.lo,nT h.hts a.size⟩
 by_cases e:i=k
 ·subst e;rw[sF (gS.1 l).1]at n;cases n;rw[d]at c;cases c;obtain⟨p,q,_⟩:=s3 i x s f l r d;exact⟨t.1.trans p,by rw[t.2];exact q.kind a b (by decide),fun _=>v,fun e=>by omega⟩
 rw[sN (fun h=>e h.symm)]at n
 obtain⟨p,q,d,e⟩:=s3 i z s u n r c;exact⟨p,q.kind a b (by decide),fun a=>(d (by omega)).out j,fun a=>e (by omega)⟩
theorem MkT.mach (h:MkT base hi ht m.sp.length w V m vt T) (q:T.length=m.sp.length) (p:Int):zN w V (Zn m T p):=by
 obtain⟨z,d,n,e⟩:=h.fl;obtain⟨A,v,j,y⟩:=h.sp;obtain⟨t,u⟩:=h.sq;refine⟨h.fs.at,h.sl.at,h.sb.at,?_,h.db.at,h.dq.at,⟨d.cap,z,d.at.s0,n,fun i x f b g=>⟨(e i x f b g).1,(e i x f b g).2.at.s0⟩⟩,h.ca.at,⟨A,v.at,by simp[Zn,q,j],fun i x s b r=>?_⟩⟩
 ·show jU w (V.sq.x) m.sq
  rw[t,u];exact⟨⟨Xb,0,rfl,fun _=>rfl,fun x b=>by cases b⟩,by simp,by simp⟩
 have a:(List.zipWith (fun s f=>({ s with tb:=Zt f }:Sp)) m.sp T)[i]? =Xa s:=r
 rw[List.getElem?_zipWith]at a;have hi:i<m.sp.length:=by rw[<-j];exact(gS.1 b).1
 rw[gE hi,gE (show i<T.length by omega)]at a
 simp only[Option.some.injEq]at a;obtain⟨k,c,l,_⟩:=y i x _ _ b (gE hi) (gE (show i<T.length by omega))
 subst a;exact⟨k,c.at,c.cap,(l hi).now⟩
end
structure zpF (w0 w:Xn) (b:Nat) (vl:Sli) (L:List Int) (cs:List Xq):Prop where
 gr:zc w0 w
 hb:w0.heap.size<=b
 box:zx w b 58 (O vl.a vl.n vl.c :: cs)
 lr:zq byE w0 (O vl.a vl.n vl.c) L
 lc:vl.n<=vl.c
 lb:∀z∈L,0<=z/\z<256
theorem Mk.nums {w:Xn} (h:Mk w0 hi w b vl L V m vt T):zpF w0 w b vl L [V.f.x,I6 m.hand,V.s.x,V.sb.x,V.sq.x,V.db.x,V.dq.x,V.fl.x,I6 m.cnt,V.ca.x,V.sp.x,vt.x]:=⟨h.gr,h.hb,h.box,h.lr,h.lc,h.lb⟩
theorem znt {w:Xn} {cs:List Xq} (n:Int) (j:zpF w0 w b vl L cs):
  Xp prog 15 #[Xj (Xa ⟨b,0,Xb⟩),I6 n] w fun e w'=>∃F g x,e= Xl (I6 x)/\zpF w0 w' b F g cs/\w.grownBy w' (Xa b)/\w'.heap.size=w.heap.size/\0<=x/\(x=0\/x<n)/\(L=[]->x=0)/\za7 L g:=by
 have d:=dD j;have l:=j.box.box;have I:=l.c 0 rfl;have a6:=l.f;have h:=j.lr.n;clear l;obtain⟨⟨a2,t,f⟩,D⟩:∃Z:Sli,vl=Z:=⟨_,rfl⟩;subst D;dsimp only[Sli.x]at I h d;clear j
 by_cases u:t=0
 ·subst u;clear h
  go_enter func15,ntmps15
  go_wp2;go_ret;exact⟨_,L,0,rfl,d,World.grownBy.rfl' _ _,rfl,Int.le_refl _,.inl rfl,fun _=>rfl,za7.refl L⟩
 have Q:((t:Int) == 0)=Xd:=by simp;omega
 have R:(t == 0)=Xd:=by simp[u]
 by_cases a1:n<1
 ·clear u h
  go_enter func15,ntmps15
  go_wp2;go_ret;exact⟨_,L,0,rfl,d,World.grownBy.rfl' _ _,rfl,Int.le_refl _,.inl rfl,fun _=>rfl,za7.refl L⟩
 obtain⟨z,g,rfl⟩:∃z g,L=z :: g:=by
  cases L with
  | nil=>simp at h;omega
  | cons z g=>exact⟨z,g,rfl⟩
 have U:=d.lb z (by simp)
 obtain⟨V,W⟩:=U;obtain⟨p,rfl,H⟩:=d.lr.rowsAt 0 z rfl;have a0:w.cell? p=Xa (U8 z):=by
  have:=H w d.gr 0 _ rfl;rw[zV]at this
  simpa [byE,Addr.add]using this
 obtain⟨k,rfl⟩:∃k,t=k+1:=⟨t - 1,by omega⟩
 have q:k+1<=f:=d.lc;have s:=zi2 (w:=w) (ad:=p) (n:=k) (c:=f);clear u H;have T:(0:Int)< ((k+1:Nat):Int):=by omega
 obtain⟨a,i⟩:∃a,(if f=1 then p else p.add 1)=a:=⟨_,rfl⟩;rw[i]at s;have A:Xo (zq byE w0 (O (Xa a) k (f - 1)) g):=dD<|by
  obtain⟨⟨a4,a5,K,a3,X⟩,M⟩:=d.lr;dsimp only[Sli.x]at K;cases K;have Y:=X p rfl;refine⟨⟨Xa a,f - 1,rfl,fun j=>(by cases j),fun P E=>?_⟩,?_⟩
  ·cases E
   by_cases S:f=1
   ·have:g=[]:=by
     have:g.length=0:=by omega
     exact eN this
    subst this;intro v N r
    simp at r
   rw[kF S]at i;subst i;intro v N r;rw[zV,Nat.add_comm 1 v];exact Y (v+1) N (by simpa [byE]using r)
  have:byE.bytes=1:=rfl;rw[this]at M⊢
  simp at M⊢
  omega
 have y:Xo (zx (w.setCell ⟨b,0,Xb⟩ (O (Xa a) k (f - 1))) b 58 (O (Xa a) k (f - 1) :: cs)):=d.box.set 0 _;have m:Xo (w.grownBy (w.setCell ⟨b,0,Xb⟩ (O (Xa a) k (f - 1))) (Xa b)):=⟨rfl,rfl,rfl,by simp[World.setCell],fun v _ r=>Below.heap_setCell _ _ _ _ (fun e=>r (by rw[e]))⟩
 have C:Xo ((w.setCell ⟨b,0,Xb⟩ (O (Xa a) k (f - 1))).heap.size=w.heap.size):=dD<|by simp[World.setCell]
 have B:Xo (zpF w0 (w.setCell ⟨b,0,Xb⟩ (O (Xa a) k (f - 1))) b ⟨Xa a,k,f - 1⟩ g cs):=show zpF _ _ _ _ _ _ from
  ⟨zd d.gr m d.hb,d.hb,y,A,(show k<=f - 1 by omega),fun P E=>d.lb P (by simp[E])⟩
 have G:Xo (0<=z % n/\z % n<n):=dD<|⟨Int.emod_nonneg _ (by omega),Int.emod_lt_of_pos _ (by omega)⟩
 clear h q i
 go_enter func15,ntmps15
 go_wp2;go_ret;exact⟨_,g,z % n,rfl,B,m,C,G.1,.inr G.2,fun j=>(by cases j)⟩
theorem zlh {w:Xn} {t:List (List En)} (h:Ja B0 B1 w us t):∃r t1 t2 u x z A B:Sli,us=[r.v,t1.v,t2.v,u.v,x.v,z.v,A.v,B.v]:=by
 have a:∀i v,us[i]? =Xa v->∃s:Sli,v=s.v:=fun i v b=>by
  obtain⟨y,f⟩:∃y,t[i]? =Xa y:=⟨_,gE (by rw[h.tlen,<-h.len];exact(gS.1 b).1)⟩
  obtain⟨⟨c,d,e,_⟩,_⟩:=(h.row i v y b f).now;exact⟨⟨c,y.length,d⟩,e⟩
 obtain⟨C,D,E,F,G,H,K,L,rfl⟩:=zmB h.len;obtain⟨g,rfl⟩:=a 0 C rfl;obtain⟨j,rfl⟩:=a 1 D rfl;obtain⟨k,rfl⟩:=a 2 E rfl;obtain⟨l,rfl⟩:=a 3 F rfl;obtain⟨m,rfl⟩:=a 4 G rfl;obtain⟨n,rfl⟩:=a 5 H rfl;obtain⟨p,rfl⟩:=a 6 K rfl;obtain⟨q,rfl⟩:=a 7 L rfl;exact⟨g,j,k,l,m,n,p,q,rfl⟩
theorem zb.outb {α:Type} {E:Elt α} {base:Nat} {w:Xn} {v:Xq} {l:List α} (h:zb E base w v l) (k:Out b (b+1) w w') (d:∀g,v.ownBlock=Xa g->g≠b):zb E base w' v l:=by
 refine⟨⟨h.1.1,?_⟩,h.2⟩
 rcases h.1.2 with f|⟨g,a,c,rfl,h,e,i⟩
 ·exact .inl f
 exact .inr ⟨g,a,c,rfl,h,by rw[k.block g (aS.1 e).1 (by have:=d g rfl;omega)];exact e,i⟩
theorem zx.outb {p:Nat} {w:Xn} {cs:List Xq} (h:zx w p t cs) (k:Out b (b+1) w w') (a:p≠b):zx w' p t cs:=by
 have c:=h.box.lt;have a:w.heap[p]? =_:=h
 show w'.heap[p]? =_
 rw[k.block p c (by omega)]
 exact a
structure FC (w:Xn) (hi b:Nat) (u:Xn) (vl:Sli) (L:List Int) (V:MaV) (m:Ma) (pf:Nat) (sz:Int) (bs:Sli) (bl:List Int):Prop where
 mm:Mk w hi u b vl L V m zK []
 hp:hi<=pf
 fb:FlB w.heap.size hi pf u V m
 fn:∀g,(O V.fl.a V.fl.n V.fl.c).ownBlock=Xa g->g<pf
 box:zx u pf 65 [Xe Xf sz,O bs.a bs.n bs.c]
 row:zb blE (pf+1) u (O bs.a bs.n bs.c) bl
section
variable{w u u':Xn} {hi b pf:Nat} {vl vl' bs:Sli} {L L':List Int} {V V':MaV} {m m':Ma} {sz:Int} {bl:List Int}
theorem FC.grew (h:FC w hi b u vl L V m pf sz bs bl) (k:zc u u'):FC w hi b u' vl L V m pf sz bs bl:=⟨h.mm.grew k,h.hp,h.fb.grew k,h.fn,h.box.grew k,h.row.grew k⟩
theorem FlB.as (h:FlB w.heap.size hi pf u V m) (a:V'.fl=V.fl) (b:m'.fl=m.fl):FlB w.heap.size hi pf u V' m':=by
 unfold FlB at h⊢;rw[a,b];exact h
theorem zx.kind {g p:Nat} {a:TypeId} {cs:List Xq} {ds:Array Xq} (h:zx u p t cs) (b:u.grownBy u' (Xa g)) (c:u.heap[g]? =Xa (Xk ds a (0,0))) (ht:a≠t):zx u' p t cs:=h.beside b (fun k e=>by
 cases e;intro e;subst e;have a:u.heap[p]? =_:=h;rw[c]at a;cases a;exact ht rfl)
theorem FC.kind (h:FC w hi b u vl L V m pf sz bs bl) {g:Nat} {cs:Array Xq} (c:u.grownBy u' (Xa g)) (d:u.heap[g]? =Xa (Xk cs t (0,0))) (ht:t≠65) (a:t≠3) (e:Mk w hi u' b vl' L' V' m' zK []) (f:V'.fl=V.fl) (i:m'.fl=m.fl):FC w hi b u' vl' L' V' m' pf sz bs bl:=
 ⟨e,h.hp,(h.fb.kind c d (.inl ht) (.inl a)).as f i,by rw[f];exact h.fn,h.box.kind c d ht,h.row.kind c d a⟩
theorem FC.pick (h:FC w hi b u vl L V m pf sz bs bl) (c:u.grownBy u' (Xa b)) (a:Mk w hi u' b vl' L' V m zK []):FC w hi b u' vl' L' V m pf sz bs bl:=h.kind c h.mm.box (by decide) (by decide) a rfl rfl
theorem FC.fresh (h:FC w hi b u vl L V m pf sz bs bl) {g:Nat} {cs:Array Xq} (a:u.grownBy u' (Xa g)) (c:u.heap[g]? =Xa (Xk cs 65 (0,0))) (d:pf<g):FC w hi b u' vl L V m pf sz bs bl:=by
 have d:(V.fl.x).ownBlock≠Xa g:=fun e=>by have:=h.fn g e;omega
 have f:w.heap.size<=g:=by have:=h.mm.rows.bh;have:=h.hp;omega
 exact⟨⟨zd h.mm.gr a f,h.mm.hb,h.mm.box.kind a c (by decide),h.mm.lr,h.mm.lc,h.mm.lb,h.mm.rows.fileVar a c d⟩,h.hp,h.fb.kind a c (.inr d) (.inl (by decide)),h.fn,h.box.beside a (fun k e=>by cases e;omega),h.row.kind a c (by decide)⟩
theorem znw (w:Xn) (x:FlV):zb fvE w.heap.size (w.alloc (Xk (fvE.enc x).toArray 65)) (O (Xa ⟨w.heap.size,0,Xb⟩) 1 1) [x]:=by
 refine⟨⟨rfl,.inr ⟨w.heap.size,1,(fvE.enc x).toArray,rfl,nR _,?_,nR _,qB (by omega),rfl,?_⟩⟩,by show 1*32<=_;omega⟩
 ·show(w.heap.push _)[w.heap.size]? =_
  simp;rfl
 simp[fvE,flv]
theorem FC.addB (h:FC w hi b u vl L V m pf sz bs bl) (a:u.grownBy u' (bs.x).ownBlock) (s:Sli) {c:List Int} (l:zb blE (pf+1) u' (s.x) c):
  zx u' pf 65 [I6 sz,bs.x]/\(∀p t cs,t≠3->t≠65->zx u p t cs->zx (u'.setCell ⟨pf,1,Xb⟩ (s.x)) p t cs)/\FC w hi b (u'.setCell ⟨pf,1,Xb⟩ (s.x)) vl L V m pf sz s c:=by
 have g:Mk w hi u' b vl L V m zK []/\FlB w.heap.size hi pf u' V m/\zx u' pf 65 [I6 sz,bs.x]/\(∀p t cs,t≠3->zx u p t cs->zx u' p t cs):=by
  cases c:(bs.x).ownBlock with
  | none=>
   rw[c]at a;have k:=qx a;exact⟨h.mm.grew k,h.fb.grew k,h.box.grew k,fun p t cs _ e=>e.grew k⟩
  | some i=>
   rw[c]at a;obtain⟨cs,d⟩:=h.row.obj c;have f:=(h.row.lt i c).1;have f:w.heap.size<=i:=by have:=h.mm.rows.bh;have:=h.hp;omega
   exact⟨⟨zd h.mm.gr a f,h.mm.hb,h.mm.box.kind a d (by decide),h.mm.lr,h.mm.lc,h.mm.lb,h.mm.rows.ints h.fb a d (by omega) (by have:=h.hp;omega)⟩,h.fb.kind a d (.inl (by decide)) (.inr (by omega)),h.box.kind a d (by decide),fun p t c c e=>e.kind a d (fun e=>c e.symm)⟩
 obtain⟨c,n,d,q⟩:=g;have a:=jC u' pf 1 (s.x);have g:(V.fl.x).ownBlock≠Xa pf:=fun e=>by have:=h.fn pf e;omega
 have f:w.heap.size<=pf:=by have:=h.mm.rows.bh;have:=h.hp;omega
 refine⟨d,fun p t cs i j k=>(q p t cs i k).kind a d (fun e=>j e.symm),⟨⟨zd c.gr a f,c.hb,c.box.kind a d (by decide),c.lr,c.lc,c.lb,c.rows.fileVar a d g⟩,h.hp,n.kind a d (.inr g) (.inl (by decide)),h.fn,d.set 1 _,l.kind a d (by decide)⟩⟩
def FCE (w:Xn) (hi b:Nat) (L0:List Int) (V:MaV) (m:Ma) (pf:Nat) (sz:Int) (bs:Sli) (bl:List Int) (u:Xn):Prop:=∃vl L,FC w hi b u vl L V m pf sz bs bl/\za7 L0 L
end
theorem MkT.other {base ht k:Nat} {w:Xn} (h:MkT base hi ht k w V m vt T) {g:Nat} {cs:Array Xq} (a:w.grownBy w' (Xa g)) (b:w.heap[g]? =Xa (Xk cs t (0,0))) (c:g<ht) (e:t=58\/t=41):MkT base hi ht k w' V m vt T:=by
 have d:t≠62/\t≠3/\t≠60/\t≠69/\t≠65/\t≠93/\t≠79/\t≠105/\t≠76:=by rcases e with rfl | rfl <;> decide
 obtain⟨i,e,f,p,q,r,s,u,v⟩:=d;obtain⟨B,x,y,j⟩:=h.fl;obtain⟨C,z,A,l⟩:=h.sp;have d:Out 0 ht w w':=Out.grown a (fun n n=>by cases n;exact⟨nZ _,c⟩)
 exact⟨h.fs.kind a b i,h.sl.kind a b e,h.slh,⟨qA h.sb.1 a b f,h.sb.2⟩,h.sq,⟨qA h.db.1 a b f,h.db.2⟩,⟨qA h.dq.1 a b p,h.dq.2⟩,⟨B,x.kind a b q,y,fun i x f c p=>⟨(j i x f c p).1,(j i x f c p).2.kind a b e⟩⟩,h.ca.kind a b r,⟨C,z.kind a b s,A,fun i x s f c j e=>⟨(l i x s f c j e).1,(l i x s f c j e).2.1.kind a b u,fun n=>((l i x s f c j e).2.2.1 n).out d,(l i x s f c j e).2.2.2⟩⟩,h.tt.kind a b v,h.ap,h.lo,nT h.hts a.size⟩
theorem zfq {p:Nat}:Loc hi p 41:=⟨by decide,by decide,by decide,by decide,by decide,by decide,by decide,by decide,fun h=>absurd h (by decide)⟩
theorem zq2:(Tryz.prog.info? 41).map (·.size)=Xa 11:=by kernel_rfl
def zgD (nf ns nb k:Nat):Ma:=⟨Xr nf frF,0,Xr ns 0,Xr ns zz,[],Xr nb zz,[],[],nb,[],Xr k ⟨Xc,[],qI⟩⟩
structure zm9 (w:Xn) (nf ns nb:Nat) (L:List Int) (w':Xn) (V:MaV) (m:Ma) (T:List (Nat->En)) (hd:Int) (hi ht:Nat) (vt:Sli):Prop where
 gr:zc w w'
 rows:MkT w.heap.size hi ht m.sp.length w' V m vt T
 inv:qH m T
 hand:0<=hd/\hd<max (m.fs.length:Int) 1
 fin:∀s∈m.sp,Zv m.fl.length s.ars/\Qh s.ars 64<=12
 fl2:m.fl.length<=2/\∀f∈m.fl,f.size<40
 sp:1<=m.sp.length/\m.sp.length<=2
 fsl:m.fs.length=nf
 new:L=[]->m=zgD nf ns nb 1/\T=[fun _=>en0]/\hd=0
theorem ziY (v fs) (cnt b:Int) (w) (hv:z5 w v fs):
  Xp prog 17 #[Xi #[v,I6 cnt],I6 b] w fun e w'=>e= Xl (Xh (zU fs b))/\zc w w':=by
 obtain⟨a,c,rfl,hbig,hrow⟩:=hv.rows;have HR:=dD hrow;clear hrow hv;obtain⟨n,HN⟩:=kA fs.length;rw[HN.out]at hbig⊢;obtain⟨ANS,HANS⟩:=kA (zU fs b);rw[HANS.out];obtain⟨W0,hW0⟩:=kB (w.alloc (Xk #[O a n c,I6 cnt] 37));have HG0:=gA hW0
 have HW0:=dD hW0;clear hW0
 go_enter func17,ntmps17
 go_wp2;rw[HW0.out]
 go_loopg [12] n (fun gg s12 wr=>∃kk:Nat,kk<=n/\n - kk<=gg/\s12=I6 kk/\Xo (zc w wr)/\Xo (∀(j:Nat) (q:Fl),j<kk->fs[j]? =Xa q->q.bl.contains b=Xd))
 case atStart=>exact⟨0,nZ _,by omega,rfl,HG0,fun j q hj=>absurd hj (nL _)⟩
 obtain⟨kk,hkk,hg,rfl,BW,A⟩:=hrel
 by_cases hlt:kk<n
 ·have hltz:=kC hlt
  obtain⟨q,HQ⟩:∃q,Xo (fs[kk]? =Xa q):=⟨_,gE (by rw[HN.out];exact hlt)⟩
  obtain⟨ad,rfl,xa,xc,hra,hl⟩:=HR.out kk q HQ.out;obtain⟨d0,d1⟩:=hl wr BW.out;have hqbig:=hra.short;obtain⟨a',c',heq,hnum⟩:=hra.nums;cases heq;have HRA:=dD hnum;clear hl hra hnum;obtain⟨nb,HNB⟩:=kA q.bl.length;rw[HNB.out]at d1 hqbig;obtain⟨W2,hW2⟩:=kB (wr.alloc (Xk #[I6 q.size,O xa nb xc] 65));have G2:=gT hW2 BW
  have HW2:=dD hW2;clear hW2;go_wp2;rw[HW2.out]
  go_loopg [19] nb (fun g2 s19 wr2=>∃k2:Nat,k2<=nb/\nb - k2<=g2/\s19=I6 k2/\Xo (zc w wr2)/\Xo (∀(j:Nat) z,j<k2->q.bl[j]? =Xa z->¬z=b))
  case atStart=>exact⟨0,nZ _,by omega,rfl,G2,fun j z hj=>absurd hj (nL _)⟩
  obtain⟨k2,hk2,hg2,rfl,BW2,A2⟩:=hrel;clear d0 d1
  by_cases hlt2:k2<nb
  ·have hltz2:=kC hlt2
   obtain⟨z,HZ⟩:∃z,Xo (q.bl[k2]? =Xa z):=⟨_,gE (by rw[HNB.out];exact hlt2)⟩
   obtain⟨ad2,rfl,hl2⟩:=HRA.out k2 z HZ.out;have d2:=hl2 _ BW2.out;clear hl2
   by_cases hz:z=b
   ·have hzb:(z == b)=Xc:=by simpa using hz
    have HF:Xo (ANS=Xc):=dD<|by
     rw[<-HANS.out];unfold zU;exact zpE HQ (Ym.2 (hz ▸ mG HZ))
    clear hz;go_wp2;go_ret;exact⟨by rw[HF.out];rfl,BW2⟩
   have hzb:(z == b)=Xd:=by simpa using hz
   have HA2:Xo (∀(j:Nat) z,j<k2+1->q.bl[j]? =Xa z->¬z=b):=dD<|fun j z' hj hz'=>by
    by_cases e:j=k2
    ·subst e;rw[HZ.out]at hz';cases hz';exact hz
    exact A2 j z' (by omega) hz'
   clear hz;go_wp2
   go_roundg (nb -(k2+1))
   case measure=>omega
   exact⟨k2+1,by omega,by omega,by go_num,BW2,HA2⟩
  have hltz2:=kD hlt2
  have:k2=nb:=by omega
  subst this;have HA:Xo (∀(j:Nat) (q:Fl),j<kk+1->fs[j]? =Xa q->q.bl.contains b=Xd):=dD<|fun j q' hj hq'=>by
   by_cases e:j=kk
   ·subst e;rw[HQ.out]at hq';cases hq'
    cases hb:q.bl.contains b with
    | false=>rfl
    | true=>
     obtain⟨p,hp⟩:=Yf (Ym.1 hb);exact absurd rfl (A2 p b (by rw[<-HNB.out];exact(gS.1 hp).1) hp)
   exact A j q' (by omega) hq'
  go_wp2
  go_roundg (n -(kk+1))
  case measure=>omega
  exact⟨kk+1,by omega,by omega,by go_num,BW2,HA⟩
 have hltz:=kD hlt
 have:kk=n:=by omega
 subst this;have HF:Xo (ANS=Xd):=dD<|by
  rw[<-HANS.out];unfold zU;rw[zpD (fun j q hj=>A.out j q (by rw[<-HN.out];exact(gS.1 hj).1) hj)]
 go_wp2;go_ret;exact⟨by rw[HF.out];rfl,BW⟩
theorem zmM (l:List En) (i:Nat):(QP l i).length=8:=by simp[QP]
theorem zot (l:List En) {i k:Nat} (a:k<8):(QP l i)[k]? =Xa (l[8*i+k]?.getD en0):=by
 unfold QP;rw[Yd,Yh a];rfl
structure zpG (l:List En) (kk:Nat) (t:List (List En)):Prop where
 len:t.length=8
 at':∀j,j<8->t[j]? =Xa (if j<kk then mk (QP l j)else [])
theorem zlQ (l:List En):zpG l 0 qI:=⟨rfl,fun j a=>by rw[kF (nL _),qI,Yl,kE a]⟩
theorem zgL {l:List En} {t:List (List En)} (h:zpG l kk t) (a:kk<8):zpG l (kk+1) (t.set kk (mk (QP l kk))):=by
 refine⟨by simp[h.len],fun j a=>?_⟩
 by_cases e:j=kk
 ·subst e;rw[sF (by rw[h.len];exact a),kE (Nat.lt_succ_self _)]
 rw[sN (fun h=>e h.symm),h.at' j a]
 by_cases a:j<kk
 ·rw[kE a,kE (by omega)]
 rw[kF a,kF (by omega)]
theorem znQ {l:List En} {t:List (List En)} (h:zpG l 8 t):t=Zs l:=by
 apply Yo
 intro j
 by_cases a:j<8
 ·rw[h.at' j a,kE a];unfold Zs;rw[Yd,Yh a];rfl
 rw[gN (by rw[h.len];omega),gN (by simp[Zs];omega)]
theorem zhI (l:List En) (w:Xn) (cq:l.length=64) (B:∀e∈l,0<=e.kind):
  Xp prog 21 #[Xi (qv l).toArray] w fun e w'=>∃k,e= Xl (Xi k.toArray)/\Ja 0 w.heap.size w' k (Zs l)/\zc w w':=by
 have bw:=dD cq;have cz:=dD B;have bu:Xo (∀(j:Nat) e,l[j]? =Xa e->(qv l)[j*3]? =Xa (I6 e.kind)/\(qv l)[j*3+1]? =Xa (I6 e.n)/\(qv l)[j*3+2]? =Xa (Xh e.wr)):=show∀(j:Nat) e,_ from fun j e t=>zdQ t
 clear cq B;obtain⟨cl,ap⟩:=kA (Zs l);rw[ap.out]
 generalize qv l=Y at bu⊢
 obtain⟨aw,x⟩:=kB (((w.alloc (Xk Y.toArray 76)).alloc (Xk #[eS,eS,eS,eS,eS,eS,eS,eS] 72)).alloc (Xk #[eS,eS,eS,eS,eS,eS,eS,eS] 72));have bv:Xo (zc w aw):=dD<|by rw[<-x];exact((za _ _).trans (za _ _)).trans (za _ _)
 have da:Xo (Box aw w.heap.size Y):=dD<|by rw[<-x];exact((Box.top w _ _ rfl).alloc _).alloc _
 have dc:Xo (Box aw (w.heap.size+1) Jw):=dD<|by rw[<-x];exact(Box.top _ Jw _ (by simp)).alloc _
 have d7:Xo (Box aw (w.heap.size+2) Jw):=dD<|by rw[<-x];exact Box.top _ Jw _ (by simp)
 have bz:Xo (_=aw):=x;clear x;obtain⟨dw,cy⟩:=kA (w.heap.size+2)
 go_enter func21,ntmps21
 go_upto_region 2 with fail;rw[bz.out];go_wp2
 go_loopg [8] 8 (fun df dr wr=>∃(a:Nat) (k:List Xq) (U:List (List En)),a<=8/\8 - a<=df/\dr=I6 a/\Xo (zc w wr)/\Xo (Box wr w.heap.size Y)/\Xo (Box wr (w.heap.size+1) Jw)/\Xo (Box wr (w.heap.size+2) k)/\Xo (Ja 0 (w.heap.size+3) wr k U)/\Xo (zpG l a U)/\Xo (∀j,a<=j->j<8->k[j]? =Xa (eS)))
 case atStart=>exact⟨0,Jw,qI,nZ _,by omega,rfl,bv,da,dc,d7,Ja.nil _ _ _,zlQ l,show∀j,_ from fun j _ ag=>by rw[Jw,Yl,kE ag]⟩
 obtain⟨a,k,U,dk,cp,rfl,bs,bm,bn,bl,au,af,c5⟩:=hrel
 by_cases n:a<8
 ·have b8:(a:Int)<8:=by omega
  obtain⟨f,P⟩:=kA (QP l a);have Z:Xo (f.length=8):=dD<|by rw[<-P.out];exact zmM _ _
  have am:Xo (∀D,D<8->∃e,f[D]? =Xa e/\l[8*a+D]? =Xa e/\0<=e.kind):=dD<|fun D B=>by
   obtain⟨e,cb⟩:∃e,l[8*a+D]? =Xa e:=⟨_,gE (by rw[bw.out];omega)⟩
   exact⟨e,by rw[<-P.out,zot l B,cb];rfl,cb,cz e (mG cb)⟩
  obtain⟨i,rfl⟩:∃i,i=wr:=⟨_,rfl⟩;go_wp2
  go_loopg [5,6] 8 (fun de dp dq ch=>∃(d:Nat) (ae:Bool),d<=8/\8 - d<=de/\dq=I6 d/\dp= Xh ae/\Xo (ae=Z5 (f.take d))/\Xo (ch=i))
  case atStart=>exact⟨0,Xd,nZ _,by omega,rfl,rfl,rfl,rfl⟩
  obtain⟨d,ae,di,dh,rfl,rfl,ak,cv⟩:=hrel;rw[cv.out]
  by_cases b6:d<8
  ·have ac:(d:Int)<8:=by omega
   obtain⟨e,z,A,b4⟩:=am.out d b6;have cj:Xo (Z5 (f.take (d+1))=(ae || enS e)):=dD<|by
    rw[qr z,ak.out];unfold Z5;rw[Xz];simp
   cases ae with
   | true=>
    have bx:Xo (Xc=Z5 (f.take (d+1))):=dD<|by rw[cj.out];rfl
    clear z A b4;go_wp2
    go_roundg (8 -(d+1))
    case measure=>omega
    exact⟨d+1,Xc,by omega,by omega,by go_num,rfl,bx,rfl⟩
   | false=>
    have H:(8:Int)*(a:Int)+(d:Int)=((8*a+d:Nat):Int):=by omega
    have G:8*a+d<64:=by omega
    obtain⟨a7,_,_⟩:=bu.out _ e A;obtain⟨aj,a1⟩:=kA (8*a+d);rw[a1.out]at H G a7;have ab:(aj:Int)<64:=by omega
    have dz:=bm.c _ a7;clear a7 z A;obtain⟨br,al⟩:=kA (enS e);have dg:decide (0<e.kind)=br:=by
     rw[<-al.out];unfold enS
     by_cases t:e.kind=0
     ·rw[t];rfl
     have:0<e.kind:=by omega
     rw[decide_eq_true this]
     simpa using t
    have bx:Xo (br=Z5 (f.take (d+1))):=dD<|by rw[cj.out,al.out];rfl
    clear b4;go_wp2
    go_roundg (8 -(d+1))
    case measure=>omega
    exact⟨d+1,br,by omega,by omega,by go_num,by first | rfl | rw[dg],bx,rfl⟩
  have ac:¬(d:Int)<8:=by omega
  have:d=8:=by omega
  subst this;have an:Xo (ae=Z5 f):=dD<|by rw[ak.out,Xw (by rw[Z.out];exact nR _)]
  cases ae with
  | false=>
   have a3:Xo (mk (QP l a)=[]):=dD<|by rw[P.out];unfold mk;rw[<-an.out,kF (by decide)]
   have a4:Xo (U.set a (mk (QP l a))=U):=dD<|by
    rw[a3.out];refine zfd ?_;rw[af.at' a n,kF (Nat.lt_irrefl _)]
   have d0:Xo (zpG l (a+1) U):=dD<|by rw[<-a4.out];exact zgL af n
   go_wp2
   go_loopg [7] 1 (fun a8 cg M=>1<=a8/\cg=I6 0/\Xo (M=i))
   case atStart=>exact⟨nR _,rfl,rfl⟩
   obtain⟨cc,rfl,bt⟩:=hrel;rw[bt.out];go_wp2
   go_roundg (8 -(a+1))
   case measure=>omega
   exact⟨a+1,k,U,by omega,by omega,by go_num,bs,bm,bn,bl,au,d0,show∀j,_ from fun j az bp=>c5.out j (by omega) bp⟩
  | true=>
   have a3:Xo (mk (QP l a)=f):=dD<|by rw[P.out];unfold mk;rw[<-an.out,kE rfl]
   have m:=dD au.len;go_wp2
   go_loopg [7] 8 (fun a8 cg M=>∃(b s:Nat) (q:Option Addr),b<=8/\8 - b<=a8/\cg=I6 b/\Xo (Out (w.heap.size+2) (w.heap.size+3) i M)/\Xo (Box M (w.heap.size+2) (k.set a (O q b s)))/\Xo (zb enE i.heap.size M (O q b s) (f.take b)))
   case atStart=>exact⟨0,0,Xb,nZ _,by omega,rfl,Out.refl _ _ _,by rw[zfd (c5.out a (nR _) n)];exact bl,zb.nil _ _ _⟩
   obtain⟨b,s,q,dj,cc,rfl,r,av,a5⟩:=hrel;have a2:Xo (w.heap.size+3<=i.heap.size):=bl.lt
   by_cases b7:b<8
   ·have ad:(b:Int)<8:=by omega
    obtain⟨e,z,A,_⟩:=am.out b b7;have H:(8:Int)*(a:Int)+(b:Int)=((8*a+b:Nat):Int):=by omega
    have G:8*a+b<64:=by omega
    obtain⟨a7,c8,c9⟩:=bu.out _ e A;obtain⟨aj,a1⟩:=kA (8*a+b);rw[a1.out]at H G a7 c8 c9;have ab:(aj:Int)<64:=by omega
    have a4:=dD<|qr z;have ao:Xo ((f.take b).length=b):=show _=_ by rw[List.length_take,Z.out];omega
    have c3:Xo (Box wr w.heap.size Y):=bm.out.out r (by omega)
    have c4:Xo (Box wr (w.heap.size+1) Jw):=bn.out.out r (by omega)
    have b5:∀F,(O q b s).ownBlock=Xa F->i.heap.size<=F/\F<wr.heap.size:=a5.lt;have a0:=dD b5;clear b5 z A;obtain⟨V,rfl⟩:∃V,V=wr:=⟨_,rfl⟩;obtain⟨Q,N⟩:∃Q:Xn->Prop,Xo (∀u,Q u↔(Box u w.heap.size Y/\Box u (w.heap.size+1) Jw/\Box u (w.heap.size+2) (k.set a (O q b s))/\Out (w.heap.size+2) (w.heap.size+3) i u/\V.heap.size<=u.heap.size)):=⟨fun u=>(Box u w.heap.size Y/\Box u (w.heap.size+1) Jw/\Box u (w.heap.size+2) (k.set a (O q b s))/\Out (w.heap.size+2) (w.heap.size+3) i u/\V.heap.size<=u.heap.size),fun _=>Iff.rfl⟩
    go_upto_region 13 with fail;have bg:∀y:zh Q,y.world.cell? ⟨w.heap.size+2,a,Xb⟩=Xa (O q b s):=fun y=>((N _).1 y.holds).2.2.1.c a (sF (by rw[m.out];exact n))
    have bd:∀y:zh Q,y.world.cell? ⟨w.heap.size,aj*3,Xb⟩=Xa (I6 e.kind):=fun y=>((N _).1 y.holds).1.c _ a7
    have be:∀y:zh Q,y.world.cell? ⟨w.heap.size,aj*3+1,Xb⟩=Xa (I6 e.n):=fun y=>((N _).1 y.holds).1.c _ c8
    have bf:∀y:zh Q,y.world.cell? ⟨w.heap.size,aj*3+2,Xb⟩=Xa (Xh e.wr):=fun y=>((N _).1 y.holds).1.c _ c9
    have aa:Q V.drew:=(N _).2 ⟨c3.grew (gW _),c4.grew (gW _),av.grew (gW _),r.trans (Out.drew _),nR _⟩
    have b9:Nonempty (zh Q):=⟨⟨_,aa⟩⟩;clear a7 c8 c9;refine qK (I:=Q) 13 [(10,⟨fun L=>∃F,L= O (Xa ⟨F,0,Xb⟩) 1 1,fun L w'=>Za enE V.heap.size w' L [e],fun p bk=>zc p bk,fun _=>True⟩),(11,⟨fun L=>∃bo a6,L= O bo (b+1) a6,fun L w'=>zb enE i.heap.size w' L (f.take b++ [e]),fun p bk=>p.grownBy bk (O q b s).ownBlock,fun u=>zb enE i.heap.size u (O q b s) (f.take b)⟩)] aa zY (by kernel_rfl) rfl rfl (by decide) ?hS ?hp ?hpre ?hpr0 ?_
    case hS=>
     intro y cr
     simp at cr
     rcases cr with rfl|rfl
     ·exact⟨_,0,rfl⟩
     exact⟨_,Xb,0,rfl⟩
    case hp=>
     intro D dm j ct B ag R _ L p bk T bb
     rcases zkd B with⟨rfl,rfl⟩|⟨rfl,rfl⟩
     ·rcases zkd ag with⟨rfl,rfl⟩|⟨rfl,rfl⟩
      ·exact absurd rfl R
      have az:Za enE V.heap.size p L [e]:=bb;exact⟨az.1.beside T (fun ci cs a6 cf t=>by
       have bp:=az.2 ci cs a6 cf;have dx:=(a0 ci.block t.symm).2
       omega),az.2⟩
     rcases zkd ag with⟨rfl,rfl⟩|⟨rfl,rfl⟩
     ·exact zb.grew bb T
     exact absurd rfl R
    case hpre=>
     intro j ct D dm ag B R p bk T S
     rcases zkd ag with⟨rfl,rfl⟩|⟨rfl,rfl⟩
     ·trivial
     rcases zkd B with⟨rfl,rfl⟩|⟨rfl,rfl⟩
     ·exact zb.grew S T
     exact absurd rfl R
    case hpr0=>
     intro D ct B
     rcases zkd B with⟨rfl,rfl⟩|⟨rfl,rfl⟩
     ·trivial
     exact a5.grew (gW _)
    simp only[Xx,Xy];iterate 10 refine zm ?_
    refine zP rfl rfl (fun w' a9 S b0=>?_) (fun du X=>?_)
    ·obtain⟨bh,bi,ah,C,ai⟩:=(N _).1 a9;have ba:Za enE V.heap.size (w'.alloc (Xk #[I6 e.kind,I6 e.n,Xh e.wr] 75)) (O (Xa ⟨w'.heap.size,0,Xb⟩) 1 1) [e]:=⟨jV enE w' e _ _ rfl (by decide),fun ci cs a6 cf=>by cases cf;exact ai⟩
     clear bg bd be bf b9;refine zQ.step (v:= O (Xa ⟨w'.heap.size,0,Xb⟩) 1 1) (w':=w'.alloc (Xk #[I6 e.kind,I6 e.n,Xh e.wr] 75)) (by simp only[execOp];go_simp) ⟨(N _).2 ⟨bh.alloc _,bi.alloc _,ah.alloc _,C.trans (Out.grew (za _ _)),nT ai (bS (za _ _))⟩,za _ _,⟨_,rfl⟩,ba⟩
    obtain⟨ay,rfl⟩:=X;refine Uq ?_;refine zP rfl rfl (fun w' a9 S b0=>?_) (fun du X=>?_)
    ·obtain⟨bh,bi,ah,C,ai⟩:=(N _).1 a9;have ca:Za enE V.heap.size w' (O (Xa ⟨ay,0,Xb⟩) 1 1) [e]:=b0 10 (by kernel_rfl)
     have bc:zb enE i.heap.size w' (O q b s) (f.take b):=S;obtain⟨dy,dv,W,ce,c,_⟩:=qk (E:=enE) (w:=w') 70 bc (O (Xa ⟨ay,0,Xb⟩) 1 1) [e] ca.1 (by rw[ao.out];show(b+1)*24<=_;omega) C.size
     obtain⟨bo,a6,rfl⟩:=ce.form;have cd:(f.take b++ [e]).length=b+1:=by rw[lA,ao.out];rfl
     rw[cd]at ce W;have K:∀c7,c7<w.heap.size+3->∀F,(O q b s).ownBlock=Xa F->c7≠F:=fun c7 co F cp=>by
      have:=(a0 F cp).1;have:=a2.out;omega
     refine zQ.step (v:= O bo (b+1) a6) (w':=dv) ?_ ⟨(N _).2 ⟨bh.beside c (K _ (by omega)),bi.beside c (K _ (by omega)),ah.beside c (K _ (by omega)),⟨c.os.trans C.os,c.tape.trans C.tape,c.output.trans C.output,nT C.size c.size,fun D B co=>(c.block D (Yi B C.size) (fun t=>by have:=(a0 D t.symm).1;omega)).trans (C.block D B co)⟩,nT ai c.size⟩,c,⟨bo,a6,rfl⟩,ce⟩
     simp only[execOp,resolve,invoke,builtin,pure_bind,Xs,Xv,Yb,mP,Ya];exact Eq.trans (congrArg (fun dl=>Result.andThen dl (fun q w'=>Result.ok (Next.value q) w')) W) rfl
    obtain⟨g,h,rfl⟩:=X;refine Uq ?_;refine zm ?_
    refine Zq fun ax b1 b0=>?_
    have bj:zb enE i.heap.size ax (O g (b+1) h) (f.take b++ [e]):=b0 11;obtain⟨bh,bi,ah,C,ai⟩:=(N _).1 b1;have d3:Xo (zb enE i.heap.size ax (O g (b+1) h) (f.take (b+1))):=dD<|by rw[a4.out];exact bj
    have c6:=dD ah;have aq:=dD C;clear b0 bg bd be bf b1 b9 aa bj bh bi ah C ai;have ds:=c6.c a (sF (by rw[m.out];exact n))
    have dt:=c6.f;go_upto_region 12 with fail;have d9:Xo (Box (ax.setCell ⟨w.heap.size+2,a,Xb⟩ (O g (b+1) h)) (w.heap.size+2) (k.set a (O g (b+1) h))):=dD<|by
     have:=c6.set a (O g (b+1) h);rw[List.set_set]at this;exact this
    have d4:Xo (zb enE i.heap.size (ax.setCell ⟨w.heap.size+2,a,Xb⟩ (O g (b+1) h)) (O g (b+1) h) (f.take (b+1))):=d3.setCell (by have:=a2.out;simp;omega) _
    have ar:Xo (Out (w.heap.size+2) (w.heap.size+3) i (ax.setCell ⟨w.heap.size+2,a,Xb⟩ (O g (b+1) h))):=aq.trans (Out.setCell _ _ _ (p:=⟨w.heap.size+2,a,Xb⟩) (nR _) (Nat.lt_succ_self _) _);clear ds dt;go_wp2
    go_roundg (8 -(b+1))
    case measure=>omega
    exact⟨b+1,h,g,by omega,by omega,by go_num,ar,d9,d4⟩
   have ad:¬(b:Int)<8:=by omega
   have:b=8:=by omega
   subst this;have d5:Xo (zb enE i.heap.size wr (O q 8 s) f):=dD<|by
    have:=a5.out;rw[Xw (by rw[Z.out];exact nR _)]at this
    exact this
   have d6:Xo (Ja 0 (w.heap.size+3) wr (k.set a (O q 8 s)) (U.set a f)):=dD<|⟨by simp[m.out],by simp[af.len],fun j L t X bq=>by
    by_cases e:j=a
    ·subst e;rw[sF (by rw[m.out];exact n)]at X
     rw[sF (by rw[af.len];exact n)]at bq
     cases X;cases bq;exact d5.new.stays.less (nZ _) a2.out
    rw[sN (fun t=>e t.symm)]at X bq
    exact(au.row j L t X bq).out (r.wide (by omega) (by omega))⟩
   have d1:Xo (zpG l (a+1) (U.set a f)):=dD<|by rw[<-a3.out];exact zgL af n
   have db:Xo (Box wr w.heap.size Y):=bm.out.out r (by omega)
   have dd:Xo (Box wr (w.heap.size+1) Jw):=bn.out.out r (by omega)
   have cx:Xo (zc w wr):=dD<|Out.grew_of bs (by omega) r.out
   have d2:Xo (∀j,a+1<=j->j<8->(k.set a (O q 8 s))[j]? =Xa (eS)):=dD<|fun j az bp=>by rw[sN (by omega)];exact c5 j (by omega) bp
   go_wp2
   go_roundg (8 -(a+1))
   case measure=>omega
   exact⟨a+1,_,_,by omega,by omega,by go_num,cx,db,dd,av,d6,d1,d2⟩
 have b8:¬(a:Int)<8:=by omega
 have:a=8:=by omega
 subst this;have ck:Xo (Ja 0 (w.heap.size+3) wr k cl):=dD<|by rw[<-ap.out,<-znQ af.out];exact au.out
 have m:=dD au.len
 go_wp2_with (first | refine qi rfl (.tmp 3) rfl (w.heap.size+2) rfl bl m.out ?_ | refine zF rfl 72 (.tmp 2) (.tmp 47) rfl (w.heap.size+1) rfl k rfl bn m zqL ck.one ?_)
 intro cm cn a8 dn;have cw:Xo (zc w cm):=dD<|zd bs a8 (by simp)
 have cu:=dD cn;have d8:Xo (Ja 0 w.heap.size cm k cl):=(ck.out.out (Out.grown a8 (fun F t=>by cases t;omega))).less (nR _) (by omega)
 clear cn a8 dn;go_wp2;refine bodyPost_ret (zX rfl _ rfl cu underlying72 rfl (by rw[m.out];exact zqL)) rfl ⟨k,rfl,d8,cw⟩
theorem zhl (F S B:Int) (nf ns nb:Nat) (hnf:max (min F 40) 0=(nf:Int)) (hns:max (min S 60) 0=(ns:Int)) (hnb:max (min B 80) 0=(nb:Int)) (vl:Sli) (L w) (lr:zq byE w (vl.x) L) (lc:vl.n<=vl.c) (lb:∀z∈L,0<=z/\z<256):
  Xp prog 6 #[I6 F,I6 S,I6 B,vl.x] w fun e w'=>∃(V:MaV) (m:Ma) (T:List (Nat->En)) (hd:Int) (hi ht:Nat) (vt:Sli),e= Xl (Xi #[V.f.x,I6 hd,V.s.x,V.sb.x,V.sq.x,V.db.x,V.dq.x,V.fl.x,I6 m.cnt,V.ca.x,V.sp.x])/\zm9 w nf ns nb L w' V m T hd hi ht vt:=by
 have hnf40:nf<=40:=by omega
 have hns60:ns<=60:=by omega
 have hnb80:nb<=80:=by omega
 obtain⟨W0,hW0⟩:=kB ((w.alloc (Xk zM.toArray 41)).alloc (Xk #[vl.x,eS,I6 0,eS,eS,eS,eS,eS,eS,I6 0,eS,eS,eS] 58));have G0:=gD2 hW0
 have X0:Xo (zx W0 w.heap.size 41 qo):=dD<|by rw[<-hW0];exact(zx.top _ qo _ rfl).grew (za _ _)
 have Y0:Xo (zx W0 (w.heap.size+1) 58 [vl.x,eS,I6 0,eS,eS,eS,eS,eS,eS,I6 0,eS,eS,eS]):=dD<|by rw[<-hW0];exact zx.top _ [vl.x,eS,I6 0,eS,eS,eS,eS,eS,eS,I6 0,eS,eS,eS] _ (by simp)
 have HW0:=dD hW0;have HLR:=dD lr;have HLC:=dD lc;have HLB:=dD lb
 clear hW0 lr lc lb
 go_enter func6,ntmps6
 go_upto_region 3 with fail;rw[HW0.out];try rw[hnf]
 try rw[hns]
 try rw[hnb]
 clear hnf hns hnb;obtain⟨b,HBB⟩:=kA (w.heap.size+1);rw[HBB.out]at Y0⊢;obtain⟨I,HI⟩:∃I:Xn->Prop,Xo (∀u,I u↔zc W0 u):=⟨fun u=>zc W0 u,fun _=>Iff.rfl⟩
 have hI0:=(HI _).2 (gW _)
 have hne:Nonempty (zh I):=⟨⟨_,hI0⟩⟩;refine zf6 (I:=I) (J:=JB nf ns nb) 17 [(2,⟨fun v=>∃g,v= O (Xa ⟨g,0,Xb⟩) nf nf,fun v u=>zb JR w.heap.size u v (Xr nf fr0),fun p q=>zc p q,fun _=>True⟩),(5,⟨fun v=>∃g,v= O (Xa ⟨g,0,Xb⟩) ns ns,fun v u=>zb slE w.heap.size u v (Xr ns 0),fun p q=>zc p q,fun _=>True⟩),(7,⟨fun v=>∃g,v= O (Xa ⟨g,0,Xb⟩) ns ns,fun v u=>zj w.heap.size u v (Xr ns zz),fun p q=>zc p q,fun _=>True⟩),(10,⟨fun v=>∃g,v= O (Xa ⟨g,0,Xb⟩) nb nb,fun v u=>zj w.heap.size u v (Xr nb zz),fun p q=>zc p q,fun _=>True⟩)] hI0 ?hJ0 ?hJq ?hJs ?hJu zY (by kernel_rfl) rfl rfl (by decide) ?hS ?hp ?hpre ?hpr0 ?_
 case hJ0=>
  refine⟨⟨rfl,rfl,rfl⟩,fun s hs=> .inl ?_,fun s hs x n c he=>?_,fun s hs t ht hst x n c y n' c' he=>?_⟩
  ·simp only[mC,nM,or_false]at hs
   rcases hs with rfl|rfl|rfl|rfl <;> rfl
  ·simp only[mC,nM,or_false]at hs
   rcases hs with rfl|rfl <;> cases he
  simp only[mC,nM,or_false]at hs
  rcases hs with rfl|rfl <;> cases he
 case hJq=>
  intro j o hj hS a v u hr hJ;exact hJ.quiet (znA (Sx:=[2,5,7,10]) (by kernel_rfl) hj (zkc hS)) (by omega) (by omega) hnb80 hr
 case hJs=>
  intro j o s hj hs a u K hJ hI hd;have hs':=zR hs;clear hs;simp only[mC,pJ,nM,or_false]at hs'
  rcases hs' with⟨rfl,rfl⟩|⟨rfl,rfl⟩|⟨rfl,rfl⟩|⟨rfl,rfl⟩
  ·cases hj;obtain⟨i0,hi,hz0,hz1,hz2⟩:=info_parts JR.info;exact hJ.make 26 62 i0 _ 32 rfl (by simp) JR.und hi hz0 (by rw[hz2];decide) (by decide) hd
  ·cases hj;obtain⟨i0,hi,hz0,hz1,hz2⟩:=info_parts slE.info;exact hJ.make 30 3 i0 _ 35 rfl (by simp) slE.und hi hz0 (by rw[hz2];decide) (by decide) hd
  ·cases hj;obtain⟨i0,hi,hz0,hz1,hz2⟩:=info_parts zqF;exact hJ.make 31 60 i0 _ 37 rfl (by simp) underlying31 hi hz0 (by rw[hz2];decide) (by decide) hd
  cases hj;obtain⟨i0,hi,hz0,hz1,hz2⟩:=info_parts zqF;exact hJ.make 31 60 i0 _ 40 rfl (by simp) underlying31 hi hz0 (by rw[hz2];decide) (by decide) hd
 case hJu=>
  intro j o hj a u hJ;exact hJ.undef (znB (by kernel_rfl) hj)
 case hS=>
  intro x hx;simp only[mC,nM,or_false]at hx
  rcases hx with rfl|rfl|rfl|rfl <;> exact⟨_,0,rfl⟩
 case hp=>
  intro k s j t hk hj hjk hanc v p q hst hpo;have hk':=zR hk;have hj':=zR hj;clear hk hj;simp only[mC,pJ,nM,or_false]at hk' hj';have hg:zc p q:=by rcases hj' with⟨rfl,rfl⟩ | ⟨rfl,rfl⟩ | ⟨rfl,rfl⟩ | ⟨rfl,rfl⟩ <;> exact hst
  rcases hk' with⟨rfl,rfl⟩|⟨rfl,rfl⟩|⟨rfl,rfl⟩|⟨rfl,rfl⟩
  ·exact zb.grew hpo hg
  ·exact zb.grew hpo hg
  ·exact zj.grew hpo hg
  exact zj.grew hpo hg
 case hpre=>
  intro j t k s hj hk hjk p q hst hpr;have hj':=zR hj;clear hk hj;simp only[mC,pJ,nM,or_false]at hj'
  rcases hj' with⟨rfl,rfl⟩|⟨rfl,rfl⟩|⟨rfl,rfl⟩|⟨rfl,rfl⟩ <;> trivial
 case hpr0=>
  intro k t hk;have hk':=zR hk;clear hk;simp only[mC,pJ,nM,or_false]at hk'
  rcases hk' with⟨rfl,rfl⟩|⟨rfl,rfl⟩|⟨rfl,rfl⟩|⟨rfl,rfl⟩ <;> trivial
 simp only[Xx,Xy];iterate 2 refine zm ?_
 refine zP rfl rfl (fun w' hI' hpr hF=>?_) (fun v1 hv=>?_)
 ·have hg:=(HI _).1 hI';exact zbF JR w' nf (by show nf*40<=_;omega) (.tmp 32) rfl rfl (fun C ho=>⟨(HI _).2 (hg.trans (za _ _)),za _ _,⟨_,rfl⟩,ho.base (nT (bS G0) (bS hg))⟩)
 obtain⟨gf,rfl⟩:=hv;refine Uq ?_;iterate 2 refine zm ?_
 refine zP rfl rfl (fun w' hI' hpr hF=>?_) (fun v1 hv=>?_)
 ·have hg:=(HI _).1 hI';exact zbF slE w' ns (by show ns*8<=_;omega) (.tmp 35) rfl rfl (fun C ho=>⟨(HI _).2 (hg.trans (za _ _)),za _ _,⟨_,rfl⟩,ho.base (nT (bS G0) (bS hg))⟩)
 obtain⟨gl,rfl⟩:=hv;refine Uq ?_;refine zm ?_
 refine zP rfl rfl (fun w' hI' hpr hF=>?_) (fun v1 hv=>?_)
 ·have hg:=(HI _).1 hI';exact zan w' ns (by omega) (.tmp 37) rfl rfl (fun C ho=>⟨(HI _).2 (hg.trans (za _ _)),za _ _,⟨_,rfl⟩,ho.base (nT (bS G0) (bS hg))⟩)
 obtain⟨gsb,rfl⟩:=hv;refine Uq ?_;iterate 2 refine zm ?_
 refine zP rfl rfl (fun w' hI' hpr hF=>?_) (fun v1 hv=>?_)
 ·have hg:=(HI _).1 hI';exact zan w' nb hnb80 (.tmp 40) rfl rfl (fun C ho=>⟨(HI _).2 (hg.trans (za _ _)),za _ _,⟨_,rfl⟩,ho.base (nT (bS G0) (bS hg))⟩)
 obtain⟨gdb,rfl⟩:=hv;refine Uq ?_;iterate 4 refine zm ?_
 refine Zk (.tmp 31) ⟨b,0,Xb⟩ rfl rfl rfl rfl ?_;refine Uq ?_;refine zm ?_
 refine Zq fun W1 hI1 hF hJ=>?_
 have hap:gsb≠gdb:=hJ.2.2.2 38 (by simp) 41 (by simp) (by decide) ⟨gsb,0,Xb⟩ ns ns ⟨gdb,0,Xb⟩ nb nb rfl rfl
 have o1:=hF 2;have o2:=hF 5;have o3:=hF 7;have o4:=hF 10;have g1:=(HI _).1 hI1;have Y1:=dD (Y0.grew g1);have X1:=dD (X0.grew g1);have G1:=dD (G0.trans g1);clear hF hJ hI1 hI0 hne g1;refine zf5 rfl 41 (.tmp 47) (.tmp 45) rfl b 1 rfl [O (Xa ⟨gf,0,Xb⟩) nf nf,I6 0,O (Xa ⟨gl,0,Xb⟩) ns ns,O (Xa ⟨gsb,0,Xb⟩) ns ns,eS,O (Xa ⟨gdb,0,Xb⟩) nb nb,eS,eS,I6 (nb:Int),eS,eS] rfl Y1 (by simp) (by kernel_rfl) (fun v hv=>by simp only[mC,nM,or_false]at hv;rcases hv with rfl | rfl | rfl | rfl | rfl | rfl | rfl | rfl | rfl | rfl | rfl <;> rfl) ?_
 intro W2 hb2 hg2 hs2;have B2:zx W2 b 58 [vl.x,O (Xa ⟨gf,0,Xb⟩) nf nf,I6 0,O (Xa ⟨gl,0,Xb⟩) ns ns,O (Xa ⟨gsb,0,Xb⟩) ns ns,eS,O (Xa ⟨gdb,0,Xb⟩) nb nb,eS,eS,I6 (nb:Int),eS,eS,eS]:=hb2;have M2:Xo (Mk w W2.heap.size W2 b vl L ⟨⟨Xa ⟨gf,0,Xb⟩,nf,nf⟩,⟨Xa ⟨gl,0,Xb⟩,ns,ns⟩,⟨Xa ⟨gsb,0,Xb⟩,ns,ns⟩,zK,⟨Xa ⟨gdb,0,Xb⟩,nb,nb⟩,zK,zK,zK,zK⟩ ⟨Xr nf fr0,0,Xr ns 0,Xr ns zz,[],Xr nb zz,[],[],nb,[],[]⟩ zK []):=znL (zd G1 hg2 (by have:=HBB.out;omega)) (by have:=HBB.out;omega) B2 HLR HLC HLB (o1.kind hg2 Y1 (by decide)) (o2.kind hg2 Y1 (by decide)) ⟨qA o3.1 hg2 Y1 (by decide),o3.2⟩ ⟨qA o4.1 hg2 Y1 (by decide),o4.2⟩ hap
 have X2:Xo (zx W2 w.heap.size 41 qo):=X1.beside hg2 (fun g e=>by cases e;have:=HBB.out;omega)
 clear hb2 hg2 hs2 o1 o2 o3 o4 hap;obtain⟨hi,HHI⟩:=kA W2.heap.size;rw[HHI.out]at M2;try simp only[Yn]
 have x1:=M2.box.box.c 1 rfl;go_wp2;clear x1
 go_loopg [55] nf (fun gg s55 wr=>∃kk:Nat,kk<=nf/\nf - kk<=gg/\s55=I6 kk/\Xo (Mk w hi wr b vl L ⟨⟨Xa ⟨gf,0,Xb⟩,nf,nf⟩,⟨Xa ⟨gl,0,Xb⟩,ns,ns⟩,⟨Xa ⟨gsb,0,Xb⟩,ns,ns⟩,zK,⟨Xa ⟨gdb,0,Xb⟩,nb,nb⟩,zK,zK,zK,zK⟩ ⟨zjn nf kk,0,Xr ns 0,Xr ns zz,[],Xr nb zz,[],[],nb,[],[]⟩ zK [])/\Xo (zx wr w.heap.size 41 qo))
 case atStart=>exact⟨0,nZ _,by omega,rfl,by rw[zmb];exact M2,X2⟩
 obtain⟨kk,hkk,hgg,rfl,MW,XW⟩:=hrel
 by_cases hlt:kk<nf
 ·have hltz:=kC hlt
  have x1:=MW.box.box.c 1 rfl;dsimp only[Sli.x]at x1;have R:=dD MW.rows.fs;have d:wr.cell? ⟨gf,kk*13+11,Xb⟩=Xa (I6 0):=by
   have:=R.one (zmd hlt) 11 _ rfl;rw[zV,Xt,zA]at this;exact this
  have xf:=R.unfrozen rfl;obtain⟨ow,gr,sz⟩:=R.cell (k:=kk) (o:=11) rfl (zmd hlt) (y:=frF) (u:=I6 (-1)) rfl (by decide)
  rw[zn6 hlt]at ow;have hM:=MW.setF rfl gr sz ow (zdV.free (zpm nf (kk+1)) (zmc nf (kk+1)));have M3:=dD hM.1;have X3:Xo (zx (wr.setCell ⟨gf,kk*13+11,Xb⟩ (I6 (-1))) w.heap.size 41 qo):=hM.2.1 _ _ _ XW ⟨by decide,by decide,by decide,by decide,by decide,by decide,by decide,by decide,fun h=>absurd h (by decide)⟩
  clear hM ow gr sz;go_wp2
  go_roundg (nf -(kk+1))
  case measure=>omega
  exact⟨kk+1,by omega,by omega,by go_num,M3,X3⟩
 have hltz:=kD hlt
 obtain rfl:nf=kk:=by omega
 rw[zn7]at MW;have hpk:=qz 3 MW.out;go_wp2_with fail;refine hpk.mono ?_;clear hpk;rintro e W3 ⟨vl1,L1,y,rfl,mk1,gr1,sz1,y0,y1,yn,ll⟩;obtain⟨c,rfl⟩:∃c:Nat,y=(c:Int):=⟨y.toNat,by omega⟩
 have hc3:c<3:=by rcases y1 with h | h <;> omega
 have HC0:Xo (L=[]->c=0):=dD<|fun e=>by have:=yn e;omega
 have M3:=dD mk1;have X3:Xo (zx W3 w.heap.size 41 qo):=XW.beside gr1 (fun g e=>by cases e;have:=HBB.out;omega)
 have LL3:=dD ll;clear mk1 gr1 sz1 y0 y1 yn ll;go_wp2
 go_loopg [70] c (fun gg s70 wr=>∃(k2:Nat) (vl':Sli) (L':List Int) (sd sf:Sli) (db:List (List Int)) (dq:List (Int × List Int)) (fl:List Fl),k2<=c/\c - k2<=gg/\s70=I6 k2/\Xo (Mk w hi wr b vl' L' ⟨⟨Xa ⟨gf,0,Xb⟩,nf,nf⟩,⟨Xa ⟨gl,0,Xb⟩,ns,ns⟩,⟨Xa ⟨gsb,0,Xb⟩,ns,ns⟩,zK,⟨Xa ⟨gdb,0,Xb⟩,nb,nb⟩,sd,sf,zK,zK⟩ ⟨Xr nf frF,0,Xr ns 0,Xr ns zz,[],db,dq,fl,nb,[],[]⟩ zK [])/\Xo (za7 L L')/\Xo (zx wr w.heap.size 41 qo)/\Xo (zeX fl nb db dq []/\fl.length<=k2/\db.length=nb/\∀f∈fl,f.size<40)/\Xo (k2=0->fl=[]/\dq=[]/\db=Xr nb zz))
 case atStart=>exact⟨0,vl1,L1,zK,zK,_,_,_,nZ _,by omega,rfl,M3,LL3,X3,(show _/\_ from⟨zeX.zero hnb80,nZ _,lR,fun f hf=>(by cases hf)⟩),(fun _=>⟨rfl,rfl,rfl⟩)⟩
 obtain⟨k2,vl2,L2,sd,sf,db,dq,fl,hk2,hg2,rfl,MW,LW,XW,FW,ZW⟩:=hrel
 by_cases hlt2:k2<c
 ·have hltz2:=kC hlt2
  have hpk2:=qz 40 MW.out;go_wp2_with fail;refine hpk2.mono ?_;clear hpk2;rintro e W4 ⟨vl4,L4,sz,rfl,mk4,gr4,-,s0,s1,-,ll4⟩;have hsz:sz<40:=by rcases s1 with h|h <;> omega
  have M4:=dD mk4;have X4:Xo (zx W4 w.heap.size 41 qo):=XW.beside gr4 (fun g e=>by cases e;have:=HBB.out;omega)
  have LL4:=dD (LW.trans ll4);clear mk4 gr4 ll4 s1;go_upto_region 12 with fail;obtain⟨pf,HPF⟩:=kA W4.heap.size;obtain⟨W5,hW5⟩:=kB (W4.alloc (Xk #[I6 sz,eS] 65));have g5:=gP hW5
  have P5:=xPT hW5 HPF
  have M5:=dD (M4.grew g5);have X5:=dD (X4.grew g5);have FB5:Xo (FlB w.heap.size hi pf W5 ⟨⟨Xa ⟨gf,0,Xb⟩,nf,nf⟩,⟨Xa ⟨gl,0,Xb⟩,ns,ns⟩,⟨Xa ⟨gsb,0,Xb⟩,ns,ns⟩,zK,⟨Xa ⟨gdb,0,Xb⟩,nb,nb⟩,sd,sf,zK,zK⟩ ⟨Xr nf frF,0,Xr ns 0,Xr ns zz,[],db,dq,fl,nb,[],[]⟩):=show FlB _ _ _ _ _ _ by rw[<-HPF.out];exact M4.rows.flB.grew g5
  have HHP:Xo (hi<=pf):=dD<|by rw[<-HPF.out];exact M4.rows.hw
  have HFN:Xo (∀g,(sf.x).ownBlock=Xa g->g<pf):=dD<|fun g hg=>by rw[<-HPF.out];obtain⟨xs,q1,-,-⟩:=M4.rows.fl;exact(q1.lt g hg).2
  rw[hW5,HPF.out];clear hW5 g5;have p0:=P5.box.c 0 rfl;have hcn:=zce sz W5 s0 (by omega)
  go_wp2_with fail;refine hcn.mono ?_;clear hcn p0;rintro e W6 ⟨rfl,hw6⟩;rw[hw6];clear hw6;have HC9:Xo (JI sz<=5):=dD<|by unfold JI;split <;> omega
  obtain⟨N3,HN3⟩:∃N3:Nat,Xo (JI sz=(N3:Int)):=⟨(JI sz).toNat,show _=_ by unfold JI;split <;> omega⟩
  rw[HN3.out];have HSZ:Xo (0<=sz/\sz<40):=dD<|⟨s0,hsz⟩
  have hN35:N3<=5:=by have:=HC9.out;have:=HN3.out;omega
  have F5:Xo (FC w hi b W5 vl4 L4 ⟨⟨Xa ⟨gf,0,Xb⟩,nf,nf⟩,⟨Xa ⟨gl,0,Xb⟩,ns,ns⟩,⟨Xa ⟨gsb,0,Xb⟩,ns,ns⟩,zK,⟨Xa ⟨gdb,0,Xb⟩,nb,nb⟩,sd,sf,zK,zK⟩ ⟨Xr nf frF,0,Xr ns 0,Xr ns zz,[],db,dq,fl,nb,[],[]⟩ pf sz zK []):=dD<|⟨M5,HHP,FB5,HFN,P5,zb.nil _ _ _⟩
  have HF0:Xo (zeX fl nb db dq []/\db.length=nb):=dD<|⟨FW.1,FW.2.2.1⟩
  have HF40:=dD FW.2.2.2
  have HFL:=dD FW.2.1
  clear s0 hsz;go_wp2
  go_loopg [78] N3 (fun gg s78 wr=>∃(k3:Nat) (vl':Sli) (L':List Int) (sd' bs:Sli) (db':List (List Int)) (dq':List (Int × List Int)) (bl:List Int),k3<=N3/\N3 - k3<=gg/\s78=I6 k3/\Xo (FC w hi b wr vl' L' ⟨⟨Xa ⟨gf,0,Xb⟩,nf,nf⟩,⟨Xa ⟨gl,0,Xb⟩,ns,ns⟩,⟨Xa ⟨gsb,0,Xb⟩,ns,ns⟩,zK,⟨Xa ⟨gdb,0,Xb⟩,nb,nb⟩,sd',sf,zK,zK⟩ ⟨Xr nf frF,0,Xr ns 0,Xr ns zz,[],db',dq',fl,nb,[],[]⟩ pf sz bs bl)/\Xo (za7 L L')/\Xo (zx wr w.heap.size 41 qo)/\Xo (zeX fl nb db' dq' bl/\bl.length=k3/\db'.length=nb))
  case atStart=>exact⟨0,vl4,L4,sd,zK,db,dq,[],nZ _,by omega,rfl,F5,LL4,X5,(show _/\_ from⟨HF0.1,rfl,HF0.2⟩)⟩
  obtain⟨k3,vl6,L6,sd6,bs,db6,dq6,bl,hk3,hg3,rfl,FX,LX,XX,FI⟩:=hrel
  by_cases hlt3:k3<N3
  ·have hltz3:=kC hlt3
   have hpk7:=qz (max (nb:Int) 1) FX.mm;go_wp2_with fail;refine hpk7.mono ?_;clear hpk7;rintro e W7 ⟨vl7,L7,x,rfl,mk7,gr7,-,x0,-,-,ll7⟩;obtain⟨n,rfl⟩:∃n:Nat,x=(n:Int):=⟨x.toNat,by omega⟩
   have F7:=dD<|FX.pick gr7 mk7;have X7:Xo (zx W7 w.heap.size 41 qo):=XX.kind gr7 FX.mm.box (by decide)
   have LL7:=dD (LX.trans ll7);clear mk7 gr7 ll7 x0;go_upto_region 17 with fail
   go_cut [78,109]from 78 to 160 (fun s78 s109 wx=>∃(tk:Bool) (vl':Sli) (L':List Int),s78=I6 k3/\s109= Xh tk/\Xo (FC w hi b wx vl' L' ⟨⟨Xa ⟨gf,0,Xb⟩,nf,nf⟩,⟨Xa ⟨gl,0,Xb⟩,ns,ns⟩,⟨Xa ⟨gsb,0,Xb⟩,ns,ns⟩,zK,⟨Xa ⟨gdb,0,Xb⟩,nb,nb⟩,sd6,sf,zK,zK⟩ ⟨Xr nf frF,0,Xr ns 0,Xr ns zz,[],db6,dq6,fl,nb,[],[]⟩ pf sz bs bl)/\Xo (za7 L L')/\Xo (zx wx w.heap.size 41 qo)/\Xo (tk=Xc->n<nb/\zU (fl++ [⟨sz,bl⟩]) (n:Int)=Xd))
   case first=>
    by_cases hn:n<nb
    ·have hnz:=kC hn
     have hnd:decide ((n:Int)< (nb:Int))=Xc:=by simpa using hnz
     obtain⟨xs,q1,q2,q3⟩:=F7.fb;have HX:=dD q1;obtain⟨nF,HNF⟩:=kA fl.length;have HXL:Xo (xs.length=nF):=show _=_ by rw[q2];exact HNF.out
     have hnF:nF<=10:=by have:=HFL.out;have:=HNF.out;omega
     have HSN:Xo (sf.n=nF):=dD<|by rw[q1.n];exact HXL.out
     have HX3:=dD<|fun (i:Nat) x f (hx:xs[i]? =Xa x) (hf:fl[i]? =Xa f)=>(q3 i x f hx hf).1
     clear q1 q2 q3;obtain⟨fx,HFX⟩:∃fx:FlV,Xo (fx=⟨sz,bs.a,bs.n,bs.c⟩):=⟨_,rfl⟩;obtain⟨UB,HUB⟩:∃UB,Xo (zU (fl++ [(⟨sz,bl⟩:Fl)]) (n:Int)=UB):=⟨zU (fl++ [(⟨sz,bl⟩:Fl)]) (n:Int),rfl⟩;have HB7:=dD F7.mm.box.box.lt;have HPB:Xo (pf≠b):=show _≠_ from fun e=>by
      have h1:W7.heap[pf]? =_:=F7.box;have h2:W7.heap[b]? =_:=F7.mm.box;rw[e,h2]at h1;cases h1
     have HXB:Xo (w.heap.size≠b):=dD<|by have:=HBB.out;omega
     obtain⟨I,HI⟩:∃I:Xn->Prop,Xo (∀u,I u↔Out b (b+1) W7 u/\FCE w hi b L ⟨⟨Xa ⟨gf,0,Xb⟩,nf,nf⟩,⟨Xa ⟨gl,0,Xb⟩,ns,ns⟩,⟨Xa ⟨gsb,0,Xb⟩,ns,ns⟩,zK,⟨Xa ⟨gdb,0,Xb⟩,nb,nb⟩,sd6,sf,zK,zK⟩ ⟨Xr nf frF,0,Xr ns 0,Xr ns zz,[],db6,dq6,fl,nb,[],[]⟩ pf sz bs bl u):=⟨fun u=>Out b (b+1) W7 u/\FCE w hi b L ⟨⟨Xa ⟨gf,0,Xb⟩,nf,nf⟩,⟨Xa ⟨gl,0,Xb⟩,ns,ns⟩,⟨Xa ⟨gsb,0,Xb⟩,ns,ns⟩,zK,⟨Xa ⟨gdb,0,Xb⟩,nb,nb⟩,sd6,sf,zK,zK⟩ ⟨Xr nf frF,0,Xr ns 0,Xr ns zz,[],db6,dq6,fl,nb,[],[]⟩ pf sz bs bl u,fun _=>Iff.rfl⟩
     have hI0:I W7.drew:=(HI _).2 ⟨Out.drew _,vl7,L7,F7.grew (gW _),LL7⟩
     have HIG:Xo (∀u u',I u->zc u u'->I u'):=dD<|fun u u' h k=>by
      obtain⟨h1,vl',L',h2,h3⟩:=(HI _).1 h;exact(HI _).2 ⟨h1.trans (Out.grew k),vl',L',h2.grew k,h3⟩
     have hx8:∀y:zh I,y.world.cell? ⟨b,8,Xb⟩=Xa (sf.x):=fun y=>by
      obtain⟨_,_,_,h2,_⟩:=(HI _).1 y.holds;exact h2.mm.box.box.c 8 rfl
     have hp0:∀y:zh I,y.world.cell? ⟨pf,0,Xb⟩=Xa (I6 sz):=fun y=>by
      obtain⟨_,_,_,h2,_⟩:=(HI _).1 y.holds;exact h2.box.box.c 0 rfl
     have hp1:∀y:zh I,y.world.cell? ⟨pf,1,Xb⟩=Xa (bs.x):=fun y=>by
      obtain⟨_,_,_,h2,_⟩:=(HI _).1 y.holds;exact h2.box.box.c 1 rfl
     have hne:Nonempty (zh I):=⟨⟨_,hI0⟩⟩;refine qK (I:=I) 25 [(4,⟨fun v=>∃g,v= O (Xa ⟨g,0,Xb⟩) 0 0,fun v u=>zb fvE W7.heap.size u v [],fun p q=>zc p q,fun _=>True⟩),(11,⟨fun v=>(∃a c,v= O a nF c)/\(nF=0->∃g,v= O (Xa ⟨g,0,Xb⟩) 0 0),fun v u=>zb fvE W7.heap.size u v xs,fun p q=>zc p q,fun _=>True⟩),(13,⟨fun v=>∃g,v= O (Xa ⟨g,0,Xb⟩) 1 1,fun v u=>zb fvE W7.heap.size u v [fx],fun p q=>zc p q,fun _=>True⟩),(14,⟨fun v=>∃a c,v= O a (nF+1) c,fun v u=>zb fvE W7.heap.size u v (xs++ [fx]),fun p q=>∀u m,m.length<=nF\/m.length<=1->zb fvE W7.heap.size p u m->zb fvE W7.heap.size q u m,fun _=>True⟩),(17,⟨fun v=>v= Xh UB,fun _ _=>True,fun p q=>zc p q,fun _=>True⟩),(22,⟨fun v=>∃x:Int,v=I6 x,fun _ _=>True,fun p q=>Out b (b+1) p q,fun _=>True⟩)] hI0 zY (by kernel_rfl) rfl rfl (by decide) ?hS ?hp ?hpre ?hpr0 ?_
     case hS=>
      intro x hx;simp only[mC,nM,or_false]at hx
      rcases hx with rfl|rfl|rfl|rfl|rfl|rfl
      ·exact⟨_,0,rfl⟩
      ·by_cases h0:nF=0
       ·exact⟨O (Xa ⟨0,0,Xb⟩) 0 0,⟨Xa ⟨0,0,Xb⟩,0,by rw[h0]⟩,fun _=>⟨0,rfl⟩⟩
       exact⟨O Xb nF 0,⟨_,_,rfl⟩,fun h=>absurd h h0⟩
      ·exact⟨_,0,rfl⟩
      ·exact⟨_,Xb,0,rfl⟩
      ·exact⟨_,rfl⟩
      exact⟨_,0,rfl⟩
     case hp=>
      intro k s j t hk hj hjk hanc v p q hst hpo;have hk':=zR hk;have hj':=zR hj;clear hk hj;simp only[mC,pJ,nM,or_false]at hk' hj';have keep:∀l:List FlV,l.length<=nF\/l.length<=1\/j≠14->zb fvE W7.heap.size p v l->zb fvE W7.heap.size q v l:=fun l hl ho=>by
       rcases hj' with⟨rfl,rfl⟩|⟨rfl,rfl⟩|⟨rfl,rfl⟩|⟨rfl,rfl⟩|⟨rfl,rfl⟩|⟨rfl,rfl⟩
       ·exact zb.grew ho hst
       ·exact zb.grew ho hst
       ·exact zb.grew ho hst
       ·exact hst v l (by omega) ho
       ·exact zb.grew ho hst
       exact ho.outb hst (fun g hg=>by have:=(ho.lt g hg).1;have:=HB7.out;omega)
      rcases hk' with⟨rfl,rfl⟩|⟨rfl,rfl⟩|⟨rfl,rfl⟩|⟨rfl,rfl⟩|⟨rfl,rfl⟩|⟨rfl,rfl⟩
      ·exact keep _ (.inl (nZ _)) hpo
      ·exact keep _ (.inl (by rw[HXL.out];exact nR _)) hpo
      ·exact keep _ (.inr (.inl (nR _))) hpo
      ·exact keep _ (.inr (.inr (fun e=>hjk e))) hpo
      ·trivial
      trivial
     case hpre=>
      intro j t k s hj hk hjk p q hst hpr;have hj':=zR hj;clear hk hj;simp only[mC,pJ,nM,or_false]at hj'
      rcases hj' with⟨rfl,rfl⟩|⟨rfl,rfl⟩|⟨rfl,rfl⟩|⟨rfl,rfl⟩|⟨rfl,rfl⟩|⟨rfl,rfl⟩ <;> trivial
     case hpr0=>
      intro k t hk;have hk':=zR hk;clear hk;simp only[mC,pJ,nM,or_false]at hk'
      rcases hk' with⟨rfl,rfl⟩|⟨rfl,rfl⟩|⟨rfl,rfl⟩|⟨rfl,rfl⟩|⟨rfl,rfl⟩|⟨rfl,rfl⟩ <;> trivial
     simp only[Xx,Xy];iterate 4 refine zm ?_
     refine zP rfl rfl (fun w' hI' hpr hF=>?_) (fun v1 hv=>?_)
     ·have hg:=((HI _).1 hI').1;exact zQ.step (v:= O (Xa ⟨w'.heap.size,0,Xb⟩) 0 0) (w':=w'.alloc (Xk #[] 65)) (by simp only[execOp];go_simp) ⟨HIG _ _ hI' (za _ _),za _ _,⟨_,rfl⟩,(zb.made fvE w').base hg.size⟩
     obtain⟨g0,rfl⟩:=hv;refine Uq ?_;refine zm ?_
     refine Zk (.tmp 90) ⟨b,0,Xb⟩ rfl rfl rfl rfl ?_;refine Uq ?_;iterate 4 refine zm ?_
     refine zP rfl rfl (fun w' hI' hpr hF=>?_) (fun v1 hv=>?_)
     ·have hg:=((HI _).1 hI').1;have h0:zb fvE W7.heap.size w' (O (Xa ⟨g0,0,Xb⟩) 0 0) []:=hF 4 (by kernel_rfl)
      have hX:=HX.outb hg (fun g hg' e=>by
       obtain⟨cs,hc⟩:=HX.obj hg';have h3:W7.heap[b]? =_:=F7.mm.box;rw[e,h3]at hc
       cases hc)
      obtain⟨v',w2,hrun,ho,hg2,hz⟩:=jN (E:=fvE) (w:=w') 35 h0 (sf.x) xs hX.at hg.size;obtain⟨a',c',rfl⟩:=ho.form;refine zQ.step (v:= O a' xs.length c') (w':=w2) ?_ ⟨HIG _ _ hI' hg2,hg2,⟨⟨a',c',by rw[HXL.out]⟩,fun h=>⟨g0,hz (eN (by rw[HXL.out];exact h))⟩⟩,ho⟩
      simp only[execOp,resolve,invoke,builtin,pure_bind,Xs,Xv,Yb,mP,Ya];exact Eq.trans (congrArg (fun r=>Result.andThen r (fun a w'=>Result.ok (Next.value a) w')) hrun) rfl
     obtain⟨⟨a3,c3,rfl⟩,hz3⟩:=hv;refine Uq ?_;refine zm ?_
     refine zP rfl rfl (fun w' hI' hpr hF=>?_) (fun v1 hv=>?_)
     ·have hg:=((HI _).1 hI').1;exact zQ.step (v:= O (Xa ⟨w'.heap.size,0,Xb⟩) 1 1) (w':=w'.alloc (Xk #[I6 sz,bs.x] 65)) (by simp only[execOp];go_simp) ⟨HIG _ _ hI' (za _ _),za _ _,⟨_,rfl⟩,by rw[HFX.out];exact(znw w' ⟨sz,bs.a,bs.n,bs.c⟩).base hg.size⟩
     obtain⟨g5,rfl⟩:=hv;refine Uq ?_;refine zP rfl rfl (fun w' hI' hpr hF=>?_) (fun v1 hv=>?_)
     ·have hg:=((HI _).1 hI').1;have o3:zb fvE W7.heap.size w' (O a3 nF c3) xs:=hF 11 (by kernel_rfl)
      have o5:zb fvE W7.heap.size w' (O (Xa ⟨g5,0,Xb⟩) 1 1) [fx]:=hF 13 (by kernel_rfl)
      have key:∃v' w2,(Builtin.append_ #[35,35] 35 #[O a3 nF c3,O (Xa ⟨g5,0,Xb⟩) 1 1]).run prog w'= .ok v' w2/\zb fvE W7.heap.size w2 v' (xs++ [fx])/\I w2/\∀u m,m.length<=nF\/m.length<=1->zb fvE W7.heap.size w' u m->zb fvE W7.heap.size w2 u m:=by
       by_cases h0:nF=0
       ·have hxs:xs=[]:=eN (by rw[HXL.out];exact h0)
        subst hxs;obtain⟨g,hgv⟩:=hz3 h0;rw[hgv]at o3⊢;obtain⟨v',w2,hrun,ho,hg2,_⟩:=jN (E:=fvE) (w:=w') 35 o3 (O (Xa ⟨g5,0,Xb⟩) 1 1) [fx] o5.at hg.size;exact⟨v',w2,hrun,ho,HIG _ _ hI' hg2,fun u m _ h=>h.grew hg2⟩
       obtain⟨v',w2,hrun,ho,hgr,hk⟩:=qk (E:=fvE) (w:=w') 35 o3 (O (Xa ⟨g5,0,Xb⟩) 1 1) [fx] o5.at (by rw[HXL.out];show(nF+1)*32<=_;omega) hg.size
       refine⟨v',w2,hrun,ho,?_,fun u m hm h=>hk u m (by rw[HXL.out];omega) h⟩
       obtain⟨h1,vl',L',h2,h3⟩:=(HI _).1 hI';obtain⟨gr,cr,hgr3⟩:=o3.formS (by rw[HXL.out];omega)
       obtain⟨cs,hcs⟩:=o3.obj (g:=gr) (by rw[hgr3];rfl)
       have hgr':w'.grownBy w2 (Xa gr):=by rw[hgr3]at hgr;exact hgr
       have hgl:=(o3.lt gr (by rw[hgr3];rfl)).1
       have hpl:=F7.box.box.lt;refine(HI _).2 ⟨⟨hgr'.os.trans h1.os,hgr'.tape.trans h1.tape,hgr'.output.trans h1.output,nT h1.size hgr'.size,fun k hk' hb'=>(hgr'.block k (Yi hk' h1.size) (fun e=>by cases e;omega)).trans (h1.block k hk' hb')⟩,vl',L',h2.fresh hgr' hcs (by omega),h3⟩
      obtain⟨v',w2,hrun,ho,hI2,hk⟩:=key;obtain⟨a',c',rfl⟩:=ho.form;refine zQ.step (v:= .slice a' (xs++ [fx]).length c') (w':=w2) ?_ ⟨hI2,hk,⟨a',c',by rw[lA,HXL.out];rfl⟩,ho⟩
      simp only[execOp,resolve,invoke,builtin,pure_bind,Xs,Xv,Yb,mP,Ya];exact Eq.trans (congrArg (fun r=>Result.andThen r (fun a w'=>Result.ok (Next.value a) w')) hrun) rfl
     obtain⟨a6,c6,rfl⟩:=hv;refine Uq ?_;iterate 2 refine zm ?_
     refine zP rfl rfl (fun w' hI' hpr hF=>?_) (fun v1 hv=>?_)
     ·obtain⟨h1,vl',L',h2,h3⟩:=(HI _).1 hI';have o6:zb fvE W7.heap.size w' (O a6 (nF+1) c6) (xs++ [fx]):=hF 14 (by kernel_rfl)
      have hfa:z5 w' (O a6 (nF+1) c6) (fl++ [⟨sz,bl⟩]):=by
       refine⟨o6.cap,xs++ [fx],o6.at.s0,by rw[lA,lA,HXL.out,HNF.out];rfl,fun i x f hx hf=>?_⟩
       rcases Nat.lt_or_ge i nF with hi' | hi'
       ·rw[Yj (by rw[HXL.out];exact hi')]at hx
        rw[Yj (by rw[HNF.out];exact hi')]at hf
        obtain⟨a1,a2⟩:=HX3.out i x f hx hf;exact⟨a1,(a2.outb h1 (fun g hg' e=>by
         obtain⟨cs,hc⟩:=a2.obj hg';have h3:W7.heap[b]? =_:=F7.mm.box;rw[e,h3]at hc
         cases hc)).at.s0⟩
       rw[aR (by rw[HXL.out];exact hi'),HXL.out]at hx
       rw[aR (by rw[HNF.out];exact hi'),HNF.out]at hf
       have hi0:i - nF=0:=by
        have:=(gS.1 hx).1
        simp at this
        omega
       rw[hi0]at hx hf;cases hx;cases hf;rw[HFX.out];exact⟨rfl,h2.row.at.s0⟩
      refine zQ.call [Xi #[O a6 (nF+1) c6,I6 0],I6 (n:Int)] rfl func17 rfl rfl rfl ?_;refine(ziY (O a6 (nF+1) c6) (fl++ [⟨sz,bl⟩]) 0 (n:Int) w' hfa).mono ?_;rintro e w'' ⟨rfl,hg2⟩;exact⟨_,rfl,HIG _ _ hI' hg2,hg2,by rw[HUB.out],trivial⟩
     subst hv;refine Uq ?_;iterate 3 refine zm ?_
     cases UB with
     | true=>
      refine zdi ?_;refine zdi ?_;refine zdi ?_;refine zm ?_
      refine Zq fun W8 hI8 hF8=>?_
      obtain⟨h1,vl8,L8,h2,h3⟩:=(HI _).1 hI8;have F8:=dD h2;have LL8:=dD h3;have X8:=dD<|X7.outb h1 HXB.out;clear hI8 hF8 hI0 hx8 hp0 hp1 hne h1 h2 h3 hz3;go_wp2
      go_meet
      exact⟨Xd,vl8,L8,rfl,rfl,F8,LL8,X8,fun h=>(by cases h)⟩
     | false=>
      refine zm ?_
      refine zP rfl rfl (fun w' hI' hpr hF=>?_) (fun v1 hv=>?_)
      ·obtain⟨h1,vl',L',h2,h3⟩:=(HI _).1 hI';refine zQ.call [Xj (Xa ⟨b,0,Xb⟩),I6 3] rfl func15 rfl rfl rfl ?_;refine(qz 3 h2.mm).mono ?_;rintro e w'' ⟨vl2,L2,y,rfl,mk2,gr2,-,-,-,-,ll2⟩;have ho2:Out b (b+1) w' w'':=Out.grown gr2 (fun g e=>by cases e;omega)
       exact⟨_,rfl,(HI _).2 ⟨h1.trans ho2,vl2,L2,h2.pick gr2 mk2,h3.trans ll2⟩,ho2,⟨y,rfl⟩,trivial⟩
      obtain⟨x,rfl⟩:=hv;refine Uq ?_;iterate 2 refine zm ?_
      refine Zq fun W8 hI8 hF8=>?_
      obtain⟨h1,vl8,L8,h2,h3⟩:=(HI _).1 hI8;have F8:=dD h2;have LL8:=dD h3;have X8:=dD<|X7.outb h1 HXB.out;have HUF:Xo (decide (0<x)=Xc->n<nb/\zU (fl++ [⟨sz,bl⟩]) (n:Int)=Xd):=show _->_ from fun _=>⟨hn,HUB⟩
      clear hI8 hF8 hI0 hx8 hp0 hp1 hne h1 h2 h3 hz3;go_wp2
      go_meet
      exact⟨decide (0<x),vl8,L8,rfl,rfl,F8,LL8,X8,HUF⟩
    have hnz:=kD hn
    have hnd:decide ((n:Int)< (nb:Int))=Xd:=by simpa using hnz
    clear hn;go_quiet (fail);go_wp2
    go_meet
    exact⟨Xd,vl7,L7,rfl,rfl,F7.grew (show Below _ _ _ from bD (bR _ _) _),LL7,X7.grew (show Below _ _ _ from bD (bR _ _) _),fun h=>(by cases h)⟩
   obtain⟨tk,vl8,L8,rfl,rfl,F8,LL8,X8,HTK⟩:=hcut
   go_upto_if 109 with fail
   go_cut [13,15,16,78]from 78 to 160 (fun s13 s15 s16 s78 wx=>∃(bx:Int) (vl':Sli) (L':List Int) (sd':Sli) (db':List (List Int)) (dq':List (Int × List Int)),s13=I6 bx/\s78=I6 k3/\Xo (FC w hi b wx vl' L' ⟨⟨Xa ⟨gf,0,Xb⟩,nf,nf⟩,⟨Xa ⟨gl,0,Xb⟩,ns,ns⟩,⟨Xa ⟨gsb,0,Xb⟩,ns,ns⟩,zK,⟨Xa ⟨gdb,0,Xb⟩,nb,nb⟩,sd',sf,zK,zK⟩ ⟨Xr nf frF,0,Xr ns 0,Xr ns zz,[],db',dq',fl,nb,[],[]⟩ pf sz bs bl)/\Xo (za7 L L')/\Xo (zx wx w.heap.size 41 qo)/\Xo (zeX fl nb db' dq' (bl++ [bx])/\db'.length=nb))
   case first=>
    cases tk with
    | false=>
     go_wp2
     go_meet
     exact⟨-1,vl8,L8,sd6,db6,dq6,rfl,rfl,F8,LL8,X8,(show _/\_ from⟨FI.1.none,FI.2.2⟩)⟩
    | true=>
     obtain⟨hn,hu⟩:=HTK.out rfl;have HUF:Xo (zU fl (n:Int)=Xd/\(n:Int)∉bl):=dD<|by
      have h2:¬(n:Int)∈QI (fl++ [⟨sz,bl⟩]):=fun h=>by rw[(QT _ _).2 h]at hu;cases hu
      have h3:QI (fl++ [⟨sz,bl⟩])=QI fl++bl:=by simp[QI]
      rw[h3,Yc]at h2;refine⟨?_,fun h=>h2 (.inr h)⟩
      cases e:zU fl (n:Int)with
      | false=>rfl
      | true=>exact absurd (.inl ((QT _ _).1 e)) h2
     have hnz:=kC hn
     clear hu;have hpg:=zcC F8.mm;go_wp2_with fail;refine hpg.mono ?_;clear hpg;rintro e W9 ⟨vl9,L9,q9,rfl,ql9,mk9,gr9,ll9⟩;have F9:=dD<|F8.pick gr9 mk9;have X9:Xo (zx W9 w.heap.size 41 qo):=X8.kind gr9 F8.mm.box (by decide)
     have LL9:=dD (LL8.trans ll9);clear mk9 gr9 ll9;obtain⟨o0,o1,o2,o3,o4,o5,o6,o7,rfl⟩:=zfr q9 ql9;clear ql9;simp only[pgc,mP,Ya];go_upto_region 20 with fail;obtain⟨pp,HPP⟩:=kA W9.heap.size;obtain⟨W10,hW10⟩:=kB (W9.alloc (Xk #[U8 o0,U8 o1,U8 o2,U8 o3,U8 o4,U8 o5,U8 o6,U8 o7] 60));have g10:=gP hW10
     have P10:Xo (zx W10 pp 60 (pgc [o0,o1,o2,o3,o4,o5,o6,o7])):=dD<|by rw[<-hW10];exact zx.top _ (pgc [o0,o1,o2,o3,o4,o5,o6,o7]) _ HPP.symm
     have F10:=dD (F9.grew g10);have X10:=dD (X9.grew g10);have HHP:Xo (hi<=pp):=show _<=_ by rw[<-HPP.out];exact F9.mm.rows.hw
     rw[hW10,HPP.out];clear hW10 g10;go_wp2
     go_loopg [113] 8 (fun gg s113 wr=>∃(i:Nat) (qq:List Int),i<=8/\8 - i<=gg/\s113=I6 i/\Xo (FC w hi b wr vl9 L9 ⟨⟨Xa ⟨gf,0,Xb⟩,nf,nf⟩,⟨Xa ⟨gl,0,Xb⟩,ns,ns⟩,⟨Xa ⟨gsb,0,Xb⟩,ns,ns⟩,zK,⟨Xa ⟨gdb,0,Xb⟩,nb,nb⟩,sd6,sf,zK,zK⟩ ⟨Xr nf frF,0,Xr ns 0,Xr ns zz,[],db6,dq6,fl,nb,[],[]⟩ pf sz bs bl)/\Xo (zx wr pp 60 (pgc qq))/\Xo (qq.length=8)/\Xo (zx wr w.heap.size 41 qo))
     case atStart=>exact⟨0,[o0,o1,o2,o3,o4,o5,o6,o7],nZ _,by omega,rfl,F10,P10,rfl,X10⟩
     obtain⟨i,qq,hi8,hg4,rfl,FW,PW,QW,XW⟩:=hrel
     by_cases hlt4:i<8
     ·have hltz4:(i:Int)<8:=by omega
      obtain⟨z,hz⟩:∃z,qq[i]? =Xa z:=⟨_,gE (by rw[QW.out];exact hlt4)⟩
      have z0:=PW.box.c i (zeo hz);have zf:=PW.box.f;have y0:=FW.box.box.c 0 rfl;clear hz
      by_cases hc:sz<=8*(k3:Int)+(i:Int)
      ·have hcd:decide (sz<=8*(k3:Int)+(i:Int))=Xc:=by simpa using hc
       have HG:=dD<|jC wr pp i (U8 0);have P11:Xo (zx (wr.setCell ⟨pp,i,Xb⟩ (U8 0)) pp 60 (pgc (qq.set i 0))):=show zx _ _ _ _ by rw[zc6];exact PW.set i _
       have F11:Xo (FC w hi b (wr.setCell ⟨pp,i,Xb⟩ (U8 0)) vl9 L9 ⟨⟨Xa ⟨gf,0,Xb⟩,nf,nf⟩,⟨Xa ⟨gl,0,Xb⟩,ns,ns⟩,⟨Xa ⟨gsb,0,Xb⟩,ns,ns⟩,zK,⟨Xa ⟨gdb,0,Xb⟩,nb,nb⟩,sd6,sf,zK,zK⟩ ⟨Xr nf frF,0,Xr ns 0,Xr ns zz,[],db6,dq6,fl,nb,[],[]⟩ pf sz bs bl):=FW.kind HG PW (by decide) (by decide) (FW.mm.page PW HHP HG) rfl rfl
       have X11:Xo (zx (wr.setCell ⟨pp,i,Xb⟩ (U8 0)) w.heap.size 41 qo):=XW.kind HG PW (by decide)
       go_wp2
       go_roundg (8 -(i+1))
       case measure=>omega
       exact⟨i+1,qq.set i 0,by omega,by omega,by go_num,F11,P11,(show(qq.set i 0).length=8 by rw[Yg];exact QW),X11⟩
      have hcd:decide (sz<=8*(k3:Int)+(i:Int))=Xd:=by simpa using hc
      go_wp2
      go_roundg (8 -(i+1))
      case measure=>omega
      exact⟨i+1,qq,by omega,by omega,by go_num,FW,PW,QW,XW⟩
     have hltz4:¬(i:Int)<8:=by omega
     obtain⟨p0,p1,p2,p3,p4,p5,p6,p7,rfl⟩:=zfr qq QW.out;go_upto_region 26 with fail;obtain⟨I,HI⟩:∃I:Xn->Prop,Xo (∀u,I u↔zc wr u):=⟨fun u=>zc wr u,fun _=>Iff.rfl⟩
     have hI0:=(HI _).2 (gW _)
     have HP:=dD<|fun u (hu:I u)=>PW.grew ((HI _).1 hu)
     have hx6:∀y:zh I,y.world.cell? ⟨b,6,Xb⟩=Xa (O (Xa ⟨gdb,0,Xb⟩) nb nb):=fun y=>(FW.mm.box.box.grew ((HI _).1 y.holds)).c 6 rfl
     have hf0:∀y:zh I,y.world.cell? ⟨pp,0,Xb⟩=Xa (U8 p0):=fun y=>(HP _ y.holds).box.c 0 rfl
     have hf1:∀y:zh I,y.world.cell? ⟨pp,1,Xb⟩=Xa (U8 p1):=fun y=>(HP _ y.holds).box.c 1 rfl
     have hf2:∀y:zh I,y.world.cell? ⟨pp,2,Xb⟩=Xa (U8 p2):=fun y=>(HP _ y.holds).box.c 2 rfl
     have hf3:∀y:zh I,y.world.cell? ⟨pp,3,Xb⟩=Xa (U8 p3):=fun y=>(HP _ y.holds).box.c 3 rfl
     have hf4:∀y:zh I,y.world.cell? ⟨pp,4,Xb⟩=Xa (U8 p4):=fun y=>(HP _ y.holds).box.c 4 rfl
     have hf5:∀y:zh I,y.world.cell? ⟨pp,5,Xb⟩=Xa (U8 p5):=fun y=>(HP _ y.holds).box.c 5 rfl
     have hf6:∀y:zh I,y.world.cell? ⟨pp,6,Xb⟩=Xa (U8 p6):=fun y=>(HP _ y.holds).box.c 6 rfl
     have hf7:∀y:zh I,y.world.cell? ⟨pp,7,Xb⟩=Xa (U8 p7):=fun y=>(HP _ y.holds).box.c 7 rfl
     have hne:Nonempty (zh I):=⟨⟨_,hI0⟩⟩;refine qK (I:=I) 9 [] hI0 zY (by kernel_rfl) rfl rfl (by decide) (fun x hx=>by cases hx) (fun k s j t hk=>by cases hk) (fun j t k s hj=>by cases hj) (fun k t hk=>by cases hk) ?_
     simp only[Xx,Xy];refine zm ?_
     refine Zk (.tmp 126) ⟨b,0,Xb⟩ rfl rfl rfl rfl ?_;refine Uq ?_;iterate 7 refine zm ?_
     refine Zq fun W11 hI11 _=>?_
     have g11:=(HI _).1 hI11;refine Zc rfl (.tmp 134) (.tmp 133) rfl w.heap.size (O (Xa ⟨gdb,0,Xb⟩) nb nb) db6 (FW.grew g11).mm.rows.db gdb n rfl (by rw[FI.2.2];exact hn) [p0,p1,p2,p3,p4,p5,p6,p7] rfl _ rfl (by first | rfl | simp) rfl ?_
     intro W12 op12 gr12 sz12;obtain⟨-,cs12,hc12⟩:=QZ (FW.grew g11).mm.rows.db (g:=gdb) rfl;have F12:Xo (FC w hi b W12 vl9 L9 ⟨⟨Xa ⟨gf,0,Xb⟩,nf,nf⟩,⟨Xa ⟨gl,0,Xb⟩,ns,ns⟩,⟨Xa ⟨gsb,0,Xb⟩,ns,ns⟩,zK,⟨Xa ⟨gdb,0,Xb⟩,nb,nb⟩,sd6,sf,zK,zK⟩ ⟨Xr nf frF,0,Xr ns 0,Xr ns zz,[],(db6.set n [p0,p1,p2,p3,p4,p5,p6,p7]),dq6,fl,nb,[],[]⟩ pf sz bs bl):=(FW.grew g11).kind gr12 hc12 (by decide) (by decide) ((FW.grew g11).mm.setDb rfl gr12 sz12 (zc1 nf) op12).1 rfl rfl
     have X12:=dD ((XW.grew g11).kind gr12 hc12 (by decide))
     have P12:Xo (zx W12 pp 60 (pgc [p0,p1,p2,p3,p4,p5,p6,p7])):=(PW.grew g11).beside gr12 (fun g e=>by cases e;have:=(FW.mm.rows.dbh gdb rfl);have:=HHP.out;omega)
     clear hI11 g11 op12 gr12 sz12 cs12 hc12 hI0 hx6 hne;clear hf0 hf1 hf2 hf3 hf4 hf5 hf6 hf7;have hpk12:=qz 2 F12.mm;go_wp2_with fail;refine hpk12.mono ?_;clear hpk12;rintro e W13 ⟨vl13,L13,y,rfl,mk13,gr13,-,-,-,-,ll13⟩;have F13:=dD<|F12.pick gr13 mk13;have X13:Xo (zx W13 w.heap.size 41 qo):=X12.kind gr13 F12.mm.box (by decide)
     have P13:Xo (zx W13 pp 60 (pgc [p0,p1,p2,p3,p4,p5,p6,p7])):=P12.kind gr13 F12.mm.box (by decide)
     have LL13:=dD (LL9.trans ll13);clear mk13 gr13 ll13;have HDL:Xo ((db6.set n [p0,p1,p2,p3,p4,p5,p6,p7]).length=nb):=show _=_ by rw[Yg];exact FI.2.2
     by_cases hy:y=1
     ·have hye:(y == 1)=Xc:=by simp[hy]
      clear hy;go_upto_region 28 with fail;have HDQ:=dD F13.mm.rows.dq;have HQL:Xo (dq6.length<=1000):=show _<=_ by
       have h1:=FI.1.ql;have h2:=zfT ((z6 _ _).1 FI.1.st).2.1;have h3:=((z6 _ _).1 FI.1.st).1.1;have h4:=FI.2.1;omega
      obtain⟨I,HI⟩:∃I:Xn->Prop,Xo (∀u,I u↔zx u b 58 [vl13.x,O (Xa ⟨gf,0,Xb⟩) nf nf,I6 0,O (Xa ⟨gl,0,Xb⟩) ns ns,O (Xa ⟨gsb,0,Xb⟩) ns ns,eS,O (Xa ⟨gdb,0,Xb⟩) nb nb,sd6.x,sf.x,I6 (nb:Int),eS,eS,eS]/\zx u pp 60 (pgc [p0,p1,p2,p3,p4,p5,p6,p7])):=⟨fun u=>zx u b 58 [vl13.x,O (Xa ⟨gf,0,Xb⟩) nf nf,I6 0,O (Xa ⟨gl,0,Xb⟩) ns ns,O (Xa ⟨gsb,0,Xb⟩) ns ns,eS,O (Xa ⟨gdb,0,Xb⟩) nb nb,sd6.x,sf.x,I6 (nb:Int),eS,eS,eS]/\zx u pp 60 (pgc [p0,p1,p2,p3,p4,p5,p6,p7]),fun _=>Iff.rfl⟩
      have hI0:I W13.drew:=(HI _).2 ⟨F13.mm.box.grew (gW _),P13.grew (gW _)⟩
      have HP:=dD<|fun u (hu:I u)=>((HI _).1 hu).2
      have hx7:∀y:zh I,y.world.cell? ⟨b,7,Xb⟩=Xa (sd6.x):=fun y=>((HI _).1 y.holds).1.box.c 7 rfl
      have hf0:∀y:zh I,y.world.cell? ⟨pp,0,Xb⟩=Xa (U8 p0):=fun y=>(HP _ y.holds).box.c 0 rfl
      have hf1:∀y:zh I,y.world.cell? ⟨pp,1,Xb⟩=Xa (U8 p1):=fun y=>(HP _ y.holds).box.c 1 rfl
      have hf2:∀y:zh I,y.world.cell? ⟨pp,2,Xb⟩=Xa (U8 p2):=fun y=>(HP _ y.holds).box.c 2 rfl
      have hf3:∀y:zh I,y.world.cell? ⟨pp,3,Xb⟩=Xa (U8 p3):=fun y=>(HP _ y.holds).box.c 3 rfl
      have hf4:∀y:zh I,y.world.cell? ⟨pp,4,Xb⟩=Xa (U8 p4):=fun y=>(HP _ y.holds).box.c 4 rfl
      have hf5:∀y:zh I,y.world.cell? ⟨pp,5,Xb⟩=Xa (U8 p5):=fun y=>(HP _ y.holds).box.c 5 rfl
      have hf6:∀y:zh I,y.world.cell? ⟨pp,6,Xb⟩=Xa (U8 p6):=fun y=>(HP _ y.holds).box.c 6 rfl
      have hf7:∀y:zh I,y.world.cell? ⟨pp,7,Xb⟩=Xa (U8 p7):=fun y=>(HP _ y.holds).box.c 7 rfl
      have hne:Nonempty (zh I):=⟨⟨_,hI0⟩⟩;refine zG (I:=I) 16 [(10,fun v=>∃g,v= O (Xa ⟨g,0,Xb⟩) 1 1),(11,fun v=>∃a n c,v= O a n c)] (fun u=>zc W13 u) hI0 (gW _) zY (by kernel_rfl) rfl rfl (by decide) ?hS (by kernel_rfl) ?_
      case hS=>
       intro x hx;simp only[mC,nM,or_false]at hx
       rcases hx with rfl|rfl
       ·exact⟨_,0,rfl⟩
       exact⟨_,Xb,0,0,rfl⟩
      simp only[Xx,Xy];iterate 2 refine ze ?_
      refine zJ (.tmp 139) ⟨b,0,Xb⟩ rfl rfl rfl rfl ?_;refine Uq ?_;iterate 7 refine ze ?_
      refine zI rfl rfl (fun v u=>zc W13 u/\∃g,v= O (Xa ⟨g,0,Xb⟩) 1 1/\Zf u ⟨g,0,Xb⟩ (ptc ((n:Int),[p0,p1,p2,p3,p4,p5,p6,p7]))) (fun w' hI' hF'=>?_) (fun v1 hv=>?_)
      ·exact zQ.step (v:= O (Xa ⟨w'.heap.size,0,Xb⟩) 1 1) (w':=w'.alloc (Xk #[I6 (n:Int),U8 p0,U8 p1,U8 p2,U8 p3,U8 p4,U8 p5,U8 p6,U8 p7] 69)) (by simp only[execOp];go_simp) ⟨(HI _).2 ⟨((HI _).1 hI').1.grew (za _ _),((HI _).1 hI').2.grew (za _ _)⟩,⟨_,rfl⟩,hF'.trans (za _ _),_,rfl,Zf.top w' (ptc ((n:Int),[p0,p1,p2,p3,p4,p5,p6,p7])) _ rfl⟩
      obtain⟨g5,rfl⟩:=hv;refine Uq ?_;refine zI rfl rfl (fun v u=>∃u0,zc W13 u0/\u0.grownBy u (sd6.x).ownBlock/\zr w.heap.size u v (dq6++ [((n:Int),[p0,p1,p2,p3,p4,p5,p6,p7])])) (fun w' hI' hF'=>?_) (fun v1 hv=>?_)
      ·obtain⟨hg',g,hge,hcl⟩:=hF';have hge':g5=g:=by
        simp only[vJ,Option.some.injEq,Addr.mk.injEq]at hge;exact hge.1.1
       subst hge';obtain⟨v',w2,hrun,ho,hgr⟩:=zd4 (w:=w') 32 (HDQ.grew hg') g5 ((n:Int),[p0,p1,p2,p3,p4,p5,p6,p7]) rfl hcl HQL (nT (bS F13.mm.gr) (bS hg'));obtain⟨a',n',c',rfl⟩:=ho.slice;have hbx:I w2:=by
        cases hob:(sd6.x).ownBlock with
        | none=>
         rw[hob]at hgr;exact(HI _).2 ⟨((HI _).1 hI').1.grew (qx hgr),((HI _).1 hI').2.grew (qx hgr)⟩
        | some gq=>
         rw[hob]at hgr;obtain⟨-,cs,hc⟩:=zaW (HDQ.grew hg') hob;exact(HI _).2 ⟨((HI _).1 hI').1.kind hgr hc (by decide),((HI _).1 hI').2.kind hgr hc (by decide)⟩
       refine zQ.step (v:= O a' n' c') (w':=w2) ?_ ⟨hbx,⟨a',n',c',rfl⟩,w',hg',hgr,ho⟩;simp only[execOp,resolve,invoke,builtin,pure_bind,Xs,Xv,Yb,mP,Ya];exact Eq.trans (congrArg (fun r=>Result.andThen r (fun a w'=>Result.ok (Next.value a) w')) hrun) rfl
      obtain⟨da,dn,dc,rfl⟩:=hv;refine Uq ?_;refine zJ (.tmp 138) ⟨b,0,Xb⟩ rfl rfl rfl rfl ?_;refine Uq ?_;iterate 3 refine ze ?_
      refine qe fun W14 hI14 hF14=>?_
      obtain⟨u0,g0,gr14,op14⟩:=hF14;have B14:=dD<|((HI _).1 hI14).1;have R14:=dD<|(F13.mm.rows.grew g0).addDq gr14 ⟨da,dn,dc⟩ (zc1 nf) op14;have hk14:zc w W14/\FlB w.heap.size hi pf W14 ⟨⟨Xa ⟨gf,0,Xb⟩,nf,nf⟩,⟨Xa ⟨gl,0,Xb⟩,ns,ns⟩,⟨Xa ⟨gsb,0,Xb⟩,ns,ns⟩,zK,⟨Xa ⟨gdb,0,Xb⟩,nb,nb⟩,sd6,sf,zK,zK⟩ ⟨Xr nf frF,0,Xr ns 0,Xr ns zz,[],db6.set n [p0,p1,p2,p3,p4,p5,p6,p7],dq6,fl,nb,[],[]⟩/\zx W14 pf 65 [I6 sz,bs.x]/\zb blE (pf+1) W14 (bs.x) bl/\zx W14 w.heap.size 41 qo:=by
       cases hob:(sd6.x).ownBlock with
       | none=>
        rw[hob]at gr14;have k:=qx gr14;exact⟨(F13.mm.gr.trans g0).trans k,(F13.fb.grew g0).grew k,(F13.box.grew g0).grew k,(F13.row.grew g0).grew k,(X13.grew g0).grew k⟩
       | some gq=>
        rw[hob]at gr14;obtain⟨hgq,cs,hc⟩:=zaW (HDQ.grew g0) hob;exact⟨zd (F13.mm.gr.trans g0) gr14 hgq,(F13.fb.grew g0).kind gr14 hc (.inl (by decide)) (.inl (by decide)),(F13.box.grew g0).kind gr14 hc (by decide),(F13.row.grew g0).kind gr14 hc (by decide),(X13.grew g0).kind gr14 hc (by decide)⟩
      obtain⟨e1,e2,e3,e4,e5⟩:=hk14;have GW14:=dD e1;have FB14:=dD e2;have PF14:=dD e3;have RW14:=dD e4;have X14:=dD e5;clear e1 e2 e3 e4 e5 u0 g0 gr14 op14 hI14 hI0 hx7 hne;clear hf0 hf1 hf2 hf3 hf4 hf5 hf6 hf7;obtain⟨W15,hW15⟩:=kB (W14.setCell ⟨b,7,Xb⟩ (O da dn dc));have hg15:W14.grownBy W15 (Xa b):=by rw[<-hW15];exact jC _ _ _ _
      have M15:Mk w hi W15 b vl13 L13 ⟨⟨Xa ⟨gf,0,Xb⟩,nf,nf⟩,⟨Xa ⟨gl,0,Xb⟩,ns,ns⟩,⟨Xa ⟨gsb,0,Xb⟩,ns,ns⟩,zK,⟨Xa ⟨gdb,0,Xb⟩,nb,nb⟩,⟨da,dn,dc⟩,sf,zK,zK⟩ ⟨Xr nf frF,0,Xr ns 0,Xr ns zz,[],db6.set n [p0,p1,p2,p3,p4,p5,p6,p7],dq6++ [((n:Int),[p0,p1,p2,p3,p4,p5,p6,p7])],fl,nb,[],[]⟩ zK []:=⟨zd GW14 hg15 F13.mm.hb,F13.mm.hb,by rw[<-hW15];exact B14.set 7 _,F13.mm.lr,F13.mm.lc,F13.mm.lb,R14.var hg15 B14 hg15.size (.inl rfl)⟩
      have F15:Xo (FC w hi b W15 vl13 L13 ⟨⟨Xa ⟨gf,0,Xb⟩,nf,nf⟩,⟨Xa ⟨gl,0,Xb⟩,ns,ns⟩,⟨Xa ⟨gsb,0,Xb⟩,ns,ns⟩,zK,⟨Xa ⟨gdb,0,Xb⟩,nb,nb⟩,⟨da,dn,dc⟩,sf,zK,zK⟩ ⟨Xr nf frF,0,Xr ns 0,Xr ns zz,[],(db6.set n [p0,p1,p2,p3,p4,p5,p6,p7]),(dq6++ [((n:Int),[p0,p1,p2,p3,p4,p5,p6,p7])]),fl,nb,[],[]⟩ pf sz bs bl):=dD<|⟨M15,F13.hp,(FB14.kind hg15 B14 (.inl (by decide)) (.inl (by decide))).as rfl rfl,F13.fn,PF14.kind hg15 B14 (by decide),RW14.kind hg15 B14 (by decide)⟩
      have X15:Xo (zx W15 w.heap.size 41 qo):=X14.kind hg15 B14 (by decide)
      have HW15:=dD hW15;have x7:=B14.box.c 7 rfl;have xf:=B14.box.f;clear hW15 hg15;go_wp2;rw[HW15.out]
      go_meet
      exact⟨(n:Int),vl13,L13,⟨da,dn,dc⟩,_,_,rfl,rfl,F15,LL13,X15,(show _/\_ from⟨FI.1.block (more:=true) (by rw[FI.2.2];exact hn) HUF.1 HUF.2,HDL⟩)⟩
     have hye:(y == 1)=Xd:=by simp[hy]
     clear hy;go_wp2
     go_meet
     exact⟨(n:Int),vl13,L13,sd6,_,_,rfl,rfl,F13,LL13,X13,(show _/\_ from⟨FI.1.block (more:=false) (by rw[FI.2.2];exact hn) HUF.1 HUF.2,HDL⟩)⟩
   obtain⟨bx,vl9,L9,sd9,db9,dq9,rfl,rfl,F9,LL9,X9,FI9⟩:=hcut;have y1:=F9.box.box.c 1 rfl;have HBL:=dD FI.2.1
   have HSW:=dD F9.box.box.lt
   go_wp2_with (at_builtin;refine zt (E:=blE) rfl (.tmp 155) (.tmp 157) rfl (pf+1) _ bl rfl (F9.row.grew (za _ _)) _ [bx] rfl (jV blE wc bx _ _ rfl (by decide)) ?qb ?qc ?_)
   case qb=>
    rw[HBL.out]
    show(k3+1)*8<=_
    omega
   case qc=>exact nT HSW (bS (za _ _))
   intro v4 W14 ow4 gr4;obtain⟨a4,c4,rfl⟩:=ow4.form;obtain⟨N4,hN4⟩:=kB ((bl++ [bx]).length);rw[hN4]at ow4⊢;clear hN4;obtain⟨WX,hWX⟩:=kB (wc.alloc (Xk #[I6 bx] 3));have gX:=gP hWX
   have gr4':WX.grownBy W14 (bs.x).ownBlock:=by rw[<-hWX];exact gr4
   clear gr4 hWX;obtain⟨b14,k14,f14⟩:=(F9.grew gX).addB gr4' ⟨a4,N4,c4⟩ ow4;have F14:=dD f14;have X14:Xo (zx (W14.setCell ⟨pf,1,Xb⟩ (O a4 N4 c4)) w.heap.size 41 qo):=k14 _ _ _ (by decide) (by decide) (X9.grew gX)
   have B14:=dD b14;clear b14 k14 f14 gr4' ow4 gX y1;have y1:=B14.box.c 1 rfl;have yf:=B14.box.f;go_wp2
   go_roundg (N3 -(k3+1))
   case measure=>omega
   exact⟨k3+1,vl9,L9,sd9,⟨a4,N4,c4⟩,db9,dq9,bl++ [bx],by omega,by omega,by go_num,F14,LL9,X14,(show _/\_ from⟨FI9.1,by rw[lA,HBL.out];rfl,FI9.2⟩)⟩
  have hltz3:=kD hlt3
  obtain rfl:k3=N3:=by omega
  go_upto_region 31 with fail;obtain⟨xs,q1,q2,q3⟩:=FX.fb;have HX:=dD q1;have HXL:=dD q2
  have HX3:=dD<|fun (i:Nat) x f (hx:xs[i]? =Xa x) (hf:fl[i]? =Xa f)=>(q3 i x f hx hf).1
  clear q1 q2 q3;obtain⟨fx,HFX⟩:∃fx:FlV,Xo (fx=⟨sz,bs.a,bs.n,bs.c⟩):=⟨_,rfl⟩;obtain⟨I,HI⟩:∃I:Xn->Prop,Xo (∀u,I u↔zx u b 58 [vl6.x,O (Xa ⟨gf,0,Xb⟩) nf nf,I6 0,O (Xa ⟨gl,0,Xb⟩) ns ns,O (Xa ⟨gsb,0,Xb⟩) ns ns,eS,O (Xa ⟨gdb,0,Xb⟩) nb nb,sd6.x,sf.x,I6 (nb:Int),eS,eS,eS]/\zx u pf 65 [I6 sz,bs.x]):=⟨fun u=>zx u b 58 [vl6.x,O (Xa ⟨gf,0,Xb⟩) nf nf,I6 0,O (Xa ⟨gl,0,Xb⟩) ns ns,O (Xa ⟨gsb,0,Xb⟩) ns ns,eS,O (Xa ⟨gdb,0,Xb⟩) nb nb,sd6.x,sf.x,I6 (nb:Int),eS,eS,eS]/\zx u pf 65 [I6 sz,bs.x],fun _=>Iff.rfl⟩
  have hI0:I wr.drew:=(HI _).2 ⟨FX.mm.box.grew (gW _),FX.box.grew (gW _)⟩
  have hx8:∀y:zh I,y.world.cell? ⟨b,8,Xb⟩=Xa (sf.x):=fun y=>((HI _).1 y.holds).1.box.c 8 rfl
  have hp0:∀y:zh I,y.world.cell? ⟨pf,0,Xb⟩=Xa (I6 sz):=fun y=>((HI _).1 y.holds).2.box.c 0 rfl
  have hp1:∀y:zh I,y.world.cell? ⟨pf,1,Xb⟩=Xa (bs.x):=fun y=>((HI _).1 y.holds).2.box.c 1 rfl
  have hne:Nonempty (zh I):=⟨⟨_,hI0⟩⟩;refine zG (I:=I) 14 [(8,fun v=>∃g,v= O (Xa ⟨g,0,Xb⟩) 1 1),(9,fun v=>∃a n c,v= O a n c)] (fun u=>zc wr u) hI0 (gW _) zY (by kernel_rfl) rfl rfl (by decide) ?hS (by kernel_rfl) ?_
  case hS=>
   intro x hx;simp only[mC,nM,or_false]at hx
   rcases hx with rfl|rfl
   ·exact⟨_,0,rfl⟩
   exact⟨_,Xb,0,0,rfl⟩
  simp only[Xx,Xy];iterate 2 refine ze ?_
  refine zJ (.tmp 162) ⟨b,0,Xb⟩ rfl rfl rfl rfl ?_;refine Uq ?_;iterate 5 refine ze ?_
  refine zI rfl rfl (fun v u=>zc wr u/\zq fvE u v [fx]) (fun w' hI' hF'=>?_) (fun v1 hv=>?_)
  ·exact zQ.step (v:= O (Xa ⟨w'.heap.size,0,Xb⟩) 1 1) (w':=w'.alloc (Xk #[I6 sz,bs.x] 65)) (by simp only[execOp];go_simp) ⟨(HI _).2 ⟨((HI _).1 hI').1.grew (za _ _),((HI _).1 hI').2.grew (za _ _)⟩,⟨_,rfl⟩,hF'.trans (za _ _),jV fvE w' fx _ _ (by rw[HFX.out];rfl) (by decide)⟩
  obtain⟨g5,rfl⟩:=hv;refine Uq ?_;refine zI rfl rfl (fun v u=>∃u0,zc wr u0/\u0.grownBy u (sf.x).ownBlock/\zb fvE w.heap.size u v (xs++ [fx])) (fun w' hI' hF'=>?_) (fun v1 hv=>?_)
  ·obtain⟨hg',hrw⟩:=hF';obtain⟨v',w2,hrun,ho,hgr,-⟩:=qk (E:=fvE) (w:=w') 35 (HX.grew hg') (O (Xa ⟨g5,0,Xb⟩) 1 1) [fx] hrw (by have:=HXL.out;have:=HFL.out;rw[HXL.out];show(fl.length+1)*32<=_;omega) (nT (bS FX.mm.gr) (bS hg'))
   obtain⟨a',c',rfl⟩:=ho.form;have hbx:I w2:=by
    cases hob:(sf.x).ownBlock with
    | none=>
     rw[hob]at hgr;exact(HI _).2 ⟨((HI _).1 hI').1.grew (qx hgr),((HI _).1 hI').2.grew (qx hgr)⟩
    | some gq=>
     rw[hob]at hgr;obtain⟨cs,hc⟩:=(HX.grew hg').obj hob;have hlt:=FX.fn gq hob;exact(HI _).2 ⟨((HI _).1 hI').1.kind hgr hc (by decide),((HI _).1 hI').2.beside hgr (fun k e=>by cases e;omega)⟩
   refine zQ.step (v:= .slice a' (xs++ [fx]).length c') (w':=w2) ?_ ⟨hbx,⟨a',_,c',rfl⟩,w',hg',hgr,ho⟩;simp only[execOp,resolve,invoke,builtin,pure_bind,Xs,Xv,Yb,mP,Ya];exact Eq.trans (congrArg (fun r=>Result.andThen r (fun a w'=>Result.ok (Next.value a) w')) hrun) rfl
  obtain⟨fa,fn,fc,rfl⟩:=hv;refine Uq ?_;refine zJ (.tmp 161) ⟨b,0,Xb⟩ rfl rfl rfl rfl ?_;refine Uq ?_;iterate 3 refine ze ?_
  refine qe fun W14 hI14 hF14=>?_
  obtain⟨u0,g0,gr14,op14⟩:=hF14;have B14:=dD<|((HI _).1 hI14).1;have R14:Xo (MkR w.heap.size hi W14 ⟨⟨Xa ⟨gf,0,Xb⟩,nf,nf⟩,⟨Xa ⟨gl,0,Xb⟩,ns,ns⟩,⟨Xa ⟨gsb,0,Xb⟩,ns,ns⟩,zK,⟨Xa ⟨gdb,0,Xb⟩,nb,nb⟩,sd6,⟨fa,fn,fc⟩,zK,zK⟩ ⟨Xr nf frF,0,Xr ns 0,Xr ns zz,[],db6,dq6,fl++ [⟨sz,bl⟩],nb,[],[]⟩ zK []):=(FX.mm.rows.grew g0).addFl (HX.grew g0) HXL (fun i x f hx hf=>⟨(HX3 i x f hx hf).1,(HX3 i x f hx hf).2.grew g0⟩) gr14 ⟨fa,fn,fc⟩ (x:=fx) (f:=⟨sz,bl⟩) (zc1 nf) (by rw[HFX.out]) (by rw[HFX.out];exact(FX.row.grew g0).base (by have:=FX.hp;omega)) op14
  have hk14:zc w W14/\zx W14 w.heap.size 41 qo:=by
   cases hob:(sf.x).ownBlock with
   | none=>
    rw[hob]at gr14;exact⟨(FX.mm.gr.trans g0).trans (qx gr14),(XX.grew g0).grew (qx gr14)⟩
   | some gq=>
    rw[hob]at gr14;obtain⟨cs,hc⟩:=(HX.grew g0).obj hob;exact⟨zd (FX.mm.gr.trans g0) gr14 ((HX.grew g0).lt gq hob).1,(XX.grew g0).kind gr14 hc (by decide)⟩
  obtain⟨e1,e5⟩:=hk14;have hg15:=jC W14 b 8 (O fa fn fc);have M15:Xo (Mk w hi (W14.setCell ⟨b,8,Xb⟩ (O fa fn fc)) b vl6 L6 ⟨⟨Xa ⟨gf,0,Xb⟩,nf,nf⟩,⟨Xa ⟨gl,0,Xb⟩,ns,ns⟩,⟨Xa ⟨gsb,0,Xb⟩,ns,ns⟩,zK,⟨Xa ⟨gdb,0,Xb⟩,nb,nb⟩,sd6,⟨fa,fn,fc⟩,zK,zK⟩ ⟨Xr nf frF,0,Xr ns 0,Xr ns zz,[],db6,dq6,fl++ [⟨sz,bl⟩],nb,[],[]⟩ zK []):=dD<|⟨zd e1 hg15 FX.mm.hb,FX.mm.hb,B14.set 8 _,FX.mm.lr,FX.mm.lc,FX.mm.lb,R14.var hg15 B14 hg15.size (.inl rfl)⟩
  have X15:Xo (zx (W14.setCell ⟨b,8,Xb⟩ (O fa fn fc)) w.heap.size 41 qo):=e5.kind hg15 B14 (by decide)
  have FI15:Xo (zeX (fl++ [⟨sz,bl⟩]) nb db6 dq6 []/\(fl++ [(⟨sz,bl⟩:Fl)]).length<=k2+1/\db6.length=nb/\∀f∈fl++ [(⟨sz,bl⟩:Fl)],f.size<40):=dD<|⟨FI.1.file (by have:=HFL.out;omega) (by have:=HSZ.out;omega) (by rw[FI.2.1,HN3.out]),by have:=HFL.out;simp;omega,FI.2.2,fun f hf=>by
   rcases Yc.1 hf with hf|hf
   ·exact HF40 f hf
   simp only[mC,nM,or_false]at hf;rw[hf];exact HSZ.2⟩
  clear u0 g0 gr14 op14 e1 e5 hg15 hI14 hI0 hx8 hp0 hp1 hne;have x8:=B14.box.c 8 rfl;have xf:=B14.box.f;go_wp2
  go_roundg (c -(k2+1))
  case measure=>omega
  exact⟨k2+1,vl6,L6,sd6,⟨fa,fn,fc⟩,db6,dq6,fl++ [(⟨sz,bl⟩:Fl)],by omega,by omega,by go_num,M15,LX,X15,FI15,(fun h=>absurd h (Nat.succ_ne_zero _))⟩
 have hltz2:=kD hlt2
 have BI:=dD<|FW.1.start hnf40 hns60 0;have HFL2:Xo (fl.length<=2/\∀f∈fl,f.size<40):=show _/\_ from⟨by have:=FW.2.1;omega,FW.2.2.2⟩
 have HE0:Xo (L=[]->fl=[]/\dq=[]/\db=Xr nb zz):=dD<|fun e=>ZW.out (by have:=HC0.out e;omega)
 have hpk3:=qz 2 MW.out;go_wp2_with fail;refine hpk3.mono ?_;clear hpk3;rintro e W4 ⟨vl4,L4,y,rfl,mk4,gr4,-,s0,s1,s2,ll4⟩;obtain⟨n5,hn5⟩:∃n5:Nat,1+y=(n5:Int):=⟨(1+y).toNat,by omega⟩
 have hn52:n5<=2:=by rcases s1 with h | h <;> omega
 have hn51:1<=n5:=by omega
 have HN1:Xo (L=[]->n5=1):=dD<|fun e=>by have:=s2 (LW e);omega
 have M4:=dD mk4;have X4:Xo (zx W4 w.heap.size 41 qo):=XW.beside gr4 (fun g e=>by cases e;have:=HBB.out;omega)
 have LL4:=dD (LW.trans ll4);clear mk4 gr4 ll4 s0 s1 s2;go_wp2
 go_loopg [179] n5 (fun gg s179 wr=>∃(k5:Nat) (vl':Sli) (L':List Int) (V':MaV) (m':Ma) (vt':Sli) (T':List (Nat->En)),k5<=n5/\n5 - k5<=gg/\s179=I6 k5/\Xo (Mk w hi wr b vl' L' V' m' vt' T')/\Xo (za7 L L')/\Xo (zx wr w.heap.size 41 qo)/\Xo (qH m' T')/\Xo (m'.sp.length=k5/\(∀s∈m'.sp,Zv m'.fl.length s.ars/\Qh s.ars 64<=12)/\m'.hand=0/\m'.fs.length=nf/\(m'.fl.length<=2/\∀f∈m'.fl,f.size<40))/\Xo (L=[]->m'=zgD nf ns nb k5/\T'=Xr k5 (fun _=>en0)))
 case atStart=>exact⟨0,vl4,L4,_,_,_,_,nZ _,by omega,rfl,M4,LL4,X4,BI,(show _/\_ from⟨rfl,fun s hs=>(by cases hs),rfl,lR,HFL2⟩),(show _->_ from fun e=>by obtain⟨a1,a2,a3⟩:=HE0.out e;rw[a1,a2,a3];exact⟨rfl,rfl⟩)⟩
 obtain⟨k5,vl5,L5,V5,m5,vt5,T5,hk5,hg5,rfl,MX,LX,XX,BX5,S5,E5⟩:=hrel;have HL5:=dD S5.1
 by_cases hlt5:k5<n5
 ·have hltz5:=kC hlt5
  by_cases h1:k5=1
  ·subst h1;have HL1:Xo (L≠[]):=dD<|fun e=>by have:=HN1.out e;omega
   have h1e:((((1:Nat):Int)) == 1)=Xc:=by decide
   have hpk4:=qz 2 MX.out;go_wp2_with fail;refine hpk4.mono ?_;clear hpk4;rintro e W7 ⟨vl7,L7,z,rfl,mk7,gr7,-,-,-,-,ll7⟩;have M7:=dD mk7;have X7:Xo (zx W7 w.heap.size 41 qo):=XX.beside gr7 (fun g e=>by cases e;have:=HBB.out;omega)
   have LL7:=dD (LX.trans ll7);clear mk7 gr7 ll7;obtain⟨MX,LX,XX⟩:Xo (Mk w hi W7 b vl7 L7 V5 m5 vt5 T5)/\Xo (za7 L L7)/\Xo (zx W7 w.heap.size 41 qo):=⟨M7,LL7,X7⟩
   by_cases hz:z=1
   ·have hze:(z == 1)=Xc:=by simp[hz]
    clear hz;obtain⟨s0,hs0⟩:=List.length_eq_one_iff.1 HL5.out;have HS0:Xo (m5.sp=[s0]):=hs0;clear hs0;have hfk:=zoc s0 MX BX5 HS0.out;go_wp2_with fail;refine hfk.mono ?_;clear hfk;rintro e W9 ⟨⟨v,rfl⟩,V9,m9,vt9,T9,q1,q3,q4,⟨q5,q6,q7,q8⟩⟩;have M9:Xo (Mk w hi W9 b vl7 L7 V9 m9 vt9 T9):=q1;have X9:Xo (zx W9 w.heap.size 41 qo):=q3.1 _ _ _ XX zfq;have B9:Xo (qH m9 T9):=q4;have S9:Xo (m9.sp.length=1+1/\(∀s∈m9.sp,Zv m9.fl.length s.ars/\Qh s.ars 64<=12)/\m9.hand=0/\m9.fs.length=nf/\(m9.fl.length<=2/\∀f∈m9.fl,f.size<40)):=show _/\_ from⟨by rw[q5,HS0.out];rfl,fun s hs=>by
     rw[q5]at hs;rw[q6]
     rcases Yc.1 hs with hs|hs
     ·exact S5.2.1 s hs
     simp only[mC,nM,or_false]at hs;rw[hs];exact S5.2.1 s0 (by rw[HS0.out];simp),q7.trans S5.2.2.1,q8.trans S5.2.2.2.1,by rw[q6];exact S5.2.2.2.2⟩
    have E9:Xo (L=[]->m9=zgD nf ns nb (1+1)/\T9=Xr (1+1) (fun _=>en0)):=dD<|fun e=>absurd e HL1.out
    clear q1 q3 q4 q5 q6 q7 q8;go_wp2
    go_roundg (n5 -(1+1))
    case measure=>omega
    exact⟨1+1,vl7,L7,V9,m9,vt9,T9,by omega,by omega,by go_num,M9,LX,X9,B9,S9,E9⟩
   have hze:(z == 1)=Xd:=by simp[hz]
   clear hz;have hsp:=zgg MX BX5 (by rw[HL5.out];omega)
   go_wp2_with fail;refine hsp.mono ?_;clear hsp;rintro e W9 ⟨⟨v,rfl⟩,vl9,L9,V9,m9,vt9,T9,l9,q1,q2,q3,q4,⟨q5,q6,q7,q8⟩,q9,q10⟩;have M9:Xo (Mk w hi W9 b vl9 L9 V9 m9 vt9 T9):=q1;have LL9:=dD (LX.trans q2);have X9:Xo (zx W9 w.heap.size 41 qo):=q3.1 _ _ _ XX zfq;have B9:Xo (qH m9 T9):=q4;have S9:Xo (m9.sp.length=1+1/\(∀s∈m9.sp,Zv m9.fl.length s.ars/\Qh s.ars 64<=12)/\m9.hand=0/\m9.fs.length=nf/\(m9.fl.length<=2/\∀f∈m9.fl,f.size<40)):=show _/\_ from⟨by rw[q5,lA,HL5.out];rfl,fun s hs=>by
    rw[q5]at hs;rw[q6]
    rcases Yc.1 hs with hs|hs
    ·exact S5.2.1 s hs
    simp only[mC,nM,or_false]at hs;rw[hs];exact q9,q7.trans S5.2.2.1,q8.trans S5.2.2.2.1,by rw[q6];exact S5.2.2.2.2⟩
   have E9:Xo (L=[]->m9=zgD nf ns nb (1+1)/\T9=Xr (1+1) (fun _=>en0)):=dD<|fun e=>absurd e HL1.out
   clear q1 q2 q3 q4 q5 q6 q7 q8 q9 q10;go_wp2
   go_roundg (n5 -(1+1))
   case measure=>omega
   exact⟨1+1,vl9,L9,V9,m9,vt9,T9,by omega,by omega,by go_num,M9,LL9,X9,B9,S9,E9⟩
  obtain rfl:k5=0:=by omega
  have h1e:((((0:Nat):Int)) == 1)=Xd:=by decide
  have hsp:=zgg MX BX5 (by rw[HL5.out];omega)
  go_wp2_with fail;refine hsp.mono ?_;clear hsp;rintro e W9 ⟨⟨v,rfl⟩,vl9,L9,V9,m9,vt9,T9,l9,q1,q2,q3,q4,⟨q5,q6,q7,q8⟩,q9,q10⟩;have M9:Xo (Mk w hi W9 b vl9 L9 V9 m9 vt9 T9):=q1;have LL9:=dD (LX.trans q2);have X9:Xo (zx W9 w.heap.size 41 qo):=q3.1 _ _ _ XX zfq;have B9:Xo (qH m9 T9):=q4;have S9:Xo (m9.sp.length=0+1/\(∀s∈m9.sp,Zv m9.fl.length s.ars/\Qh s.ars 64<=12)/\m9.hand=0/\m9.fs.length=nf/\(m9.fl.length<=2/\∀f∈m9.fl,f.size<40)):=show _/\_ from⟨by rw[q5,lA,HL5.out];rfl,fun s hs=>by
   rw[q5]at hs;rw[q6]
   rcases Yc.1 hs with hs|hs
   ·exact S5.2.1 s hs
   simp only[mC,nM,or_false]at hs;rw[hs];exact q9,q7.trans S5.2.2.1,q8.trans S5.2.2.2.1,by rw[q6];exact S5.2.2.2.2⟩
  have E9:Xo (L=[]->m9=zgD nf ns nb (0+1)/\T9=Xr (0+1) (fun _=>en0)):=dD<|fun e=>by
   obtain⟨a1,a2⟩:=q10 (LX e);obtain⟨b1,b2⟩:=E5.out e;rw[b1]at a1;rw[b2]at a2;exact⟨a1,a2⟩
  clear q1 q2 q3 q4 q5 q6 q7 q8 q9 q10;go_wp2
  go_roundg (n5 -(0+1))
  case measure=>omega
  exact⟨0+1,vl9,L9,V9,m9,vt9,T9,by omega,by omega,by go_num,M9,LL9,X9,B9,S9,E9⟩
 have hltz5:=kD hlt5
 obtain⟨ys0,z1,z2,-⟩:=MX.rows.sp;have HN5:Xo (V5.sp.n=k5):=dD<|by rw[z1.n,z2,HL5.out]
 obtain⟨ht,HHT⟩:=kA wr.heap.size;have HBT:Xo (b<ht):=dD<|by rw[<-HHT.out];exact MX.box.box.lt
 have HXT:Xo (w.heap.size<ht):=dD<|by rw[<-HHT.out];exact XX.box.lt
 have HZ1:Xo (∀g,(V5.sp.x).ownBlock=Xa g->g<ht):=dD<|fun g hg=>by rw[<-HHT.out];exact(z1.lt g hg).2
 have NX:=dD MX.nums;have TX:=dD<|MX.rows.start ht HHT.out;have HTL:Xo (T5.length=k5):=show _=_ by rw[BX5.tl,HL5.out]
 have HK:Xo (∀(p:Nat) f,T5[p]? =Xa f->∀e∈tab f,0<=e.kind):=dD<|fun p f hf e he=>by
  obtain⟨j,hj⟩:=Yf he;have hj64:j<64:=by have:=(gS.1 hj).1;rw[Q6]at this;exact this
  rw[JL hj64]at hj;cases hj;have hp:p<m5.sp.length:=by rw[<-BX5.tl];exact(gS.1 hf).1
  rcases BX5.ent p _ f (gE hp) hf j hj64 with e|e
  ·rw[e];decide
  by_cases hk:(f j).kind=2
  ·omega
  have:=(zZ e hk).1;omega
 have x11:=MX.box.box.c 11 rfl;(try simp only[Sli.x]at x11);rw[HN5.out]at x11;clear z1 z2 ys0;go_wp2;clear x11
 go_loopg [200] k5 (fun gg s200 wr=>∃p:Nat,p<=k5/\k5 - p<=gg/\s200=I6 p/\Xo (MkT w.heap.size hi ht p wr V5 m5 vt5 T5)/\Xo (zpF w wr b vl5 L5 [V5.f.x,I6 m5.hand,V5.s.x,V5.sb.x,V5.sq.x,V5.db.x,V5.dq.x,V5.fl.x,I6 m5.cnt,V5.ca.x,V5.sp.x,vt5.x])/\Xo (zx wr w.heap.size 41 qo)/\Xo (ht<=wr.heap.size))
 case atStart=>exact⟨0,nZ _,by omega,rfl,TX,NX,XX,(show _<=_ by rw[HHT.out];exact nR _)⟩
 obtain⟨p,hp,hg6,rfl,TW,NW,XW,HW⟩:=hrel
 by_cases hlt6:p<k5
 ·have hltz6:=kC hlt6
  obtain⟨f,HF⟩:∃f,Xo (T5[p]? =Xa f):=⟨_,gE (by rw[HTL.out];exact hlt6)⟩
  obtain⟨ys,s1,s2,s3⟩:=TW.sp;have hyl:ys.length=k5:=by rw[s2,HL5.out]
  obtain⟨x,HX⟩:∃x,Xo (ys[p]? =Xa x):=⟨_,gE (by omega)⟩
  obtain⟨gs,cs,hse⟩:=s1.formS (by omega)
  rw[hyl]at hse;have HSE:=dD hse;obtain⟨gt,ct,hte⟩:=TW.tt.formS (by rw[HTL.out];omega)
  rw[HTL.out]at hte;have HTE:=dD hte;have S1:Xo (zb Qz w.heap.size wr (O (Xa ⟨gs,0,Xb⟩) k5 cs) ys):=show zb _ _ _ _ _ by rw[<-HSE.out];exact s1
  have R1:Xo (zb Jp w.heap.size wr (O (Xa ⟨gt,0,Xb⟩) k5 ct) T5):=dD<|by rw[<-HTE.out];exact TW.tt
  have S2:=dD s2;have S3:=dD s3
  clear s1 s2 s3 hse hte hyl;go_upto_region 43 with fail;obtain⟨I,HI⟩:∃I:Xn->Prop,Xo (∀u,I u↔zc wr u):=⟨fun u=>zc wr u,fun _=>Iff.rfl⟩
  have hI0:=(HI _).2 (gW _)
  have hx11:∀y:zh I,y.world.cell? ⟨b,11,Xb⟩=Xa (O (Xa ⟨gs,0,Xb⟩) k5 cs):=fun y=>by
   have:=(NW.box.box.grew ((HI _).1 y.holds)).c 11 rfl;simp only[Sli.x]at this;rw[HSE.out]at this;exact this
  have hx12:∀y:zh I,y.world.cell? ⟨b,12,Xb⟩=Xa (O (Xa ⟨gt,0,Xb⟩) k5 ct):=fun y=>by
   have:=(NW.box.box.grew ((HI _).1 y.holds)).c 12 rfl;simp only[Sli.x]at this;rw[HTE.out]at this;exact this
  have hne:Nonempty (zh I):=⟨⟨_,hI0⟩⟩;refine zG (I:=I) 16 [(13,fun v=>∃us:List Xq,v= Xi us.toArray)] (fun _=>True) hI0 trivial zY (by kernel_rfl) rfl rfl (by decide) ?hS (by kernel_rfl) ?_
  case hS=>
   intro x hx;simp only[mC,nM,or_false]at hx;subst hx;exact⟨_,[],rfl⟩
  simp only[Xx,Xy];refine ze ?_
  refine zJ (.tmp 203) ⟨b,0,Xb⟩ rfl rfl rfl rfl ?_;refine Uq ?_;iterate 5 refine ze ?_
  refine zJ (.tmp 209) ⟨b,0,Xb⟩ rfl rfl rfl rfl ?_;refine Uq ?_;iterate 4 refine ze ?_
  refine znW (Xi (qv (tab f)).toArray) rfl rfl (fun u hu=>zhR (.tmp 214) rfl gt (p*192) rfl ((R1.grew ((HI _).1 hu)).range HF) (by rw[Qt,Q6])) ?_
  refine Uq ?_;refine zI rfl rfl (fun v u=>∃us:List Xq,v= Xi us.toArray/\Ja 0 ht u us (Zt f)) (fun w' hI' _=>?_) (fun v1 hv=>?_)
  ·refine zQ.call [Xi (qv (tab f)).toArray] rfl func21 rfl rfl rfl ?_;refine(zhI (tab f) w' (Q6 f) (HK p f HF)).mono ?_;rintro e w'' ⟨us,rfl,ht1,ht2⟩;exact⟨_,rfl,(HI _).2 (((HI _).1 hI').trans ht2),⟨us,rfl⟩,us,rfl,ht1.less (nR _) (nT HW (bS ((HI _).1 hI')))⟩
  obtain⟨us,rfl⟩:=hv;refine Uq ?_;iterate 2 refine ze ?_
  refine qe fun W1 hI1 hF1=>?_
  obtain⟨us',hus,ht1⟩:=hF1;have hue:us=us':=by
   simp only[Value.agg.injEq]at hus
   simpa using congrArg Array.toList hus
  subst hue;obtain⟨t0,t1,t2,t3,t4,t5,t6,t7,rfl⟩:=zlh ht1;have g1:=(HI _).1 hI1;have T1:=dD ht1;have G1:=dD g1;clear hus ht1 g1 hI1 hI0 hx11 hx12 hne;refine zw (E:=Qz) rfl (.tmp 218) (.tmp 216) 72 rfl w.heap.size _ ys (S1.grew G1) gs p 2 rfl x ⟨x.live,x.ar,t0,t1,t2,t3,t4,t5,t6,t7⟩ HX.out [t0.v,t1.v,t2.v,t3.v,t4.v,t5.v,t6.v,t7.v] (by kernel_rfl) rfl (by show 2+8<=10;omega) (fun u hu=>by simp only[mC,nM,or_false]at hu;rcases hu with rfl | rfl | rfl | rfl | rfl | rfl | rfl | rfl <;> rfl) _ rfl (by first | rfl | simp) _ rfl rfl ?_
  intro W2 ow2 gr2 sz2;obtain⟨cs',hcs⟩:=(S1.grew G1).obj (g:=gs) rfl;have hgl:gs<ht:=HZ1.out gs (by simp only[Sli.x];rw[HSE.out];rfl)
  have T2:Xo (MkT w.heap.size hi ht (p+1) W2 V5 m5 vt5 T5):=(TW.grew G1).table S2 (fun i x s f hx hs hf=>by
   obtain⟨a1,a2,a3,a4⟩:=S3.out i x s f hx hs hf;exact⟨a1,a2.grew G1,fun e=>(a3 e).grew G1,a4⟩) hcs hgl gr2 HX HF (y:=⟨x.live,x.ar,t0,t1,t2,t3,t4,t5,t6,t7⟩) ⟨rfl,rfl⟩ (T1.out.out (Out.grown gr2 (fun g e=>by cases e;exact⟨nZ _,hgl⟩))) (by simp only[Sli.x];rw[HSE.out];exact ow2)
  have N2:Xo (zpF w W2 b vl5 L5 [V5.f.x,I6 m5.hand,V5.s.x,V5.sb.x,V5.sq.x,V5.db.x,V5.dq.x,V5.fl.x,I6 m5.cnt,V5.ca.x,V5.sp.x,vt5.x]):=dD<|⟨zd (NW.gr.trans G1) gr2 ((S1.grew G1).lt gs rfl).1,NW.hb,(NW.box.grew G1).beside gr2 (fun g e=>by cases e;exact(S1.grew G1).ne (NW.box.grew G1) (by decide) gs rfl),NW.lr,NW.lc,NW.lb⟩
  have X2:Xo (zx W2 w.heap.size 41 qo):=(XW.grew G1).beside gr2 (fun g e=>by cases e;exact(S1.grew G1).ne (XW.grew G1) (by decide) gs rfl)
  have H2:Xo (ht<=W2.heap.size):=dD<|by rw[sz2];exact nT HW (bS G1)
  clear ow2 gr2 sz2 hcs hgl;go_wp2
  go_roundg (k5 -(p+1))
  case measure=>omega
  exact⟨p+1,by omega,by omega,by go_num,T2,N2,X2,H2⟩
 have hltz6:=kD hlt6
 obtain rfl:k5=p:=by omega
 have HSPL:Xo (1<=m5.sp.length/\m5.sp.length<=2):=dD<|by rw[HL5.out];omega
 by_cases h0:0<nf
 ·have h0d:decide ((0:Int)< (nf:Int))=Xc:=by simp;omega
  have hpk:=znt (nf:Int) NW.out;go_wp2_with fail;refine hpk.mono ?_;clear hpk;rintro e W20 ⟨vl20,L20,y,rfl,nm20,gr20,-,y0,y1,yn,-⟩;have T20:Xo (MkT w.heap.size hi ht k5 W20 V5 m5 vt5 T5):=TW.other gr20 NW.box HBT (.inl rfl);have X20:Xo (zx W20 w.heap.size 41 qo):=XW.kind gr20 NW.box (by decide)
  have N20:=dD nm20;have HY:Xo (0<=y/\y<max (m5.fs.length:Int) 1):=show _/\_ from⟨y0,by rw[S5.2.2.2.1];omega⟩
  have HY0:Xo (L=[]->y=0):=dD<|fun e=>yn (LX e)
  clear nm20 gr20 y0 y1 yn;have x2:=N20.box.box.c 2 rfl;have xf:=N20.box.box.f;go_upto_region 47 with fail;clear x2 xf;obtain⟨W21,hW21⟩:=kB (W20.setCell ⟨b,2,Xb⟩ (I6 y));have hg21:W20.grownBy W21 (Xa b):=by rw[<-hW21];exact jC _ _ _ _
  have B21:Xo (zx W21 b 58 [vl20.x,V5.f.x,I6 y,V5.s.x,V5.sb.x,V5.sq.x,V5.db.x,V5.dq.x,V5.fl.x,I6 m5.cnt,V5.ca.x,V5.sp.x,vt5.x]):=dD<|by rw[<-hW21];exact N20.box.set 2 _
  have T21:Xo (MkT w.heap.size hi ht k5 W21 V5 m5 vt5 T5):=T20.other hg21 N20.box HBT (.inl rfl);have X21:Xo (zx W21 w.heap.size 41 qo):=X20.kind hg21 N20.box (by decide)
  have G21:=dD<|zd N20.gr hg21 N20.hb;rw[hW21];clear hW21 hg21;have c1:=B21.box.c 1 rfl;have c2:=B21.box.c 2 rfl;have c3:=B21.box.c 3 rfl;have c4:=B21.box.c 4 rfl;have c5:=B21.box.c 5 rfl;have c6:=B21.box.c 6 rfl;have c7:=B21.box.c 7 rfl;have c8:=B21.box.c 8 rfl;have c9:=B21.box.c 9 rfl;have c10:=B21.box.c 10 rfl;have c11:=B21.box.c 11 rfl
  go_wp2_with (refine z9 rfl 41 (.tmp 8) (.tmp 233) rfl w.heap.size rfl [V5.f.x,I6 y,V5.s.x,V5.sb.x,V5.sq.x,V5.db.x,V5.dq.x,V5.fl.x,I6 m5.cnt,V5.ca.x,V5.sp.x] rfl X21 rfl zq2 (fun v hv=>by simp only[mC,nM,or_false]at hv;rcases hv with rfl | rfl | rfl | rfl | rfl | rfl | rfl | rfl | rfl | rfl | rfl <;> rfl) ?_)
  intro W22 hb22 hg22 _;have HRS:Xo (zm9 w nf ns nb L W22 V5 m5 T5 y hi ht vt5):=dD<|⟨zd G21 hg22 (nR _),by rw[HL5.out];exact T21.other hg22 X21 HXT (.inr rfl),BX5,HY,S5.2.1,S5.2.2.2.2,HSPL,S5.2.2.2.1,fun e=>by obtain⟨a1,a2⟩:=E5.out e;have h1:=HN1.out e;have h2:k5=1:=(by omega);rw[h2]at a1 a2;exact⟨a1,a2,HY0 e⟩⟩
  have B22:=dD hb22.box;clear hb22 hg22;clear c1 c2 c3 c4 c5 c6 c7 c8 c9 c10 c11;go_wp2;refine bodyPost_ret (zX rfl _ rfl B22 underlying41 rfl zq2) rfl ⟨V5,m5,T5,y,hi,ht,vt5,rfl,HRS⟩
 have h0d:decide ((0:Int)< (nf:Int))=Xd:=by simp;omega
 have B21:Xo (zx wr b 58 [vl5.x,V5.f.x,I6 0,V5.s.x,V5.sb.x,V5.sq.x,V5.db.x,V5.dq.x,V5.fl.x,I6 m5.cnt,V5.ca.x,V5.sp.x,vt5.x]):=dD<|by have:=NW.box;rw[S5.2.2.1]at this;exact this
 have G21:=dD NW.gr;have HY:Xo ((0:Int)<=0/\(0:Int)<max (m5.fs.length:Int) 1):=show _/\_ from⟨Int.le_refl _,by omega⟩
 have c1:=B21.box.c 1 rfl;have c2:=B21.box.c 2 rfl;have c3:=B21.box.c 3 rfl;have c4:=B21.box.c 4 rfl;have c5:=B21.box.c 5 rfl;have c6:=B21.box.c 6 rfl;have c7:=B21.box.c 7 rfl;have c8:=B21.box.c 8 rfl;have c9:=B21.box.c 9 rfl;have c10:=B21.box.c 10 rfl;have c11:=B21.box.c 11 rfl
 go_wp2_with (refine z9 rfl 41 (.tmp 8) (.tmp 233) rfl w.heap.size rfl [V5.f.x,I6 0,V5.s.x,V5.sb.x,V5.sq.x,V5.db.x,V5.dq.x,V5.fl.x,I6 m5.cnt,V5.ca.x,V5.sp.x] rfl XW rfl zq2 (fun v hv=>by simp only[mC,nM,or_false]at hv;rcases hv with rfl | rfl | rfl | rfl | rfl | rfl | rfl | rfl | rfl | rfl | rfl <;> rfl) ?_)
 intro W22 hb22 hg22 _;have HRS:Xo (zm9 w nf ns nb L W22 V5 m5 T5 0 hi ht vt5):=dD<|⟨zd G21 hg22 (nR _),by rw[HL5.out];exact TW.other hg22 XW HXT (.inr rfl),BX5,HY,S5.2.1,S5.2.2.2.2,HSPL,S5.2.2.2.1,fun e=>by obtain⟨a1,a2⟩:=E5.out e;have h1:=HN1.out e;have h2:k5=1:=(by omega);rw[h2]at a1 a2;exact⟨a1,a2,rfl⟩⟩
 have B22:=dD hb22.box;clear hb22 hg22;clear c1 c2 c3 c4 c5 c6 c7 c8 c9 c10 c11;go_wp2;refine bodyPost_ret (zX rfl _ rfl B22 underlying41 rfl zq2) rfl ⟨V5,m5,T5,0,hi,ht,vt5,rfl,HRS⟩
theorem zm9.at {w:Xn} {nf ns nb ht:Nat} {a:Int} (h:zm9 w nf ns nb L w' V m T a hi ht vt):zN w' V (Zn m T a)/\maW (Zn m T a)=0:=⟨h.rows.mach h.inv.tl a,h.inv.right h.hand.1 h.hand.2⟩
theorem zo6 {k:Nat} (h:k<8):Jw[k]? =Xa (eS):=by
 match k,h with
 | 0,_ | 1,_ | 2,_ | 3,_ | 4,_ | 5,_ | 6,_ | 7,_=>rfl
theorem zhQ (vs:List Xq) (t:List (List En)) (w) (C:JJ w vs t):
  Xp prog 55 #[Xi vs.toArray,Xi #[eS,eS,eS,eS,eS,eS,eS,eS]] w fun e w'=>e= Xl (Xh (t.all (·.isEmpty)))/\zc w w':=by
 have T:=dD C;have z:=dD C.tlen;clear C;obtain⟨k,b⟩:=kA (t.all (·.isEmpty));rw[b.out];obtain⟨v,c⟩:=kB ((w.alloc (Xk vs.toArray 72)).alloc (Xk Jw.toArray 72));have m:=gD2 c
 have M:=x2a c
 have V:=x2b c
 have A:=dD c;clear c
 go_enter func55,ntmps55
 go_upto_region 1 with fail;have R:(w.alloc (Xk vs.toArray 72)).alloc (Xk #[eS,eS,eS,eS,eS,eS,eS,eS] 72)=v:=A.out;rw[R];clear R;go_wp2
 go_loopg [7] 8 (fun W I wr=>∃a:Nat,a<=8/\8 - a<=W/\I=I6 a/\Xo (zc v wr)/\Xo (∀(j:Nat) h,j<a->t[j]? =Xa h->h=[]))
 case atStart=>exact⟨0,nZ _,by omega,rfl,zc.refl _,fun j h r=>absurd r (nL _)⟩
 obtain⟨a,X,a2,rfl,l,L⟩:=hrel
 by_cases s:a<8
 ·have u:(a:Int)<8:=by omega
  obtain⟨a3,a4,S,P,i,Q⟩:=T.half s;have g:=Q.short;have K:=dD P;obtain⟨D,d⟩:=kA S.length;rw[d.out]at i g;have n:=dD i;clear Q P i;have G:=(M.grew l).c a n.out;have a0:=(V.grew l).c a (zo6 s)
  by_cases p:D=0
  ·subst p;have B:Xo (∀(j:Nat) h,j<a+1->t[j]? =Xa h->h=[]):=dD<|fun j h r q=>by
    by_cases e:j=a
    ·subst e;rw[K.out]at q;cases q;exact eN d.out
    exact L j h (by omega) q
   go_wp2;go_quiet (fail);obtain⟨U,f⟩:=kB (wr.drewN nq);have H:Xo (zc v U):=dD<|by rw[<-f];exact l.trans (show Below _ _ _ from bD (bR _ _) _)
   rw[f];clear f G a0;have G:=(M.grew H).c a n.out;go_wp2
   go_loopg [23] 0 (fun a1 E F=>E=I6 0/\Xo (zc v F))
   case atStart=>exact⟨rfl,H⟩
   obtain⟨rfl,x⟩:=hrel;clear G;go_wp2
   go_roundg (8 -(a+1))
   case measure=>omega
   exact⟨a+1,by omega,by omega,by go_num,x,B⟩
  have Y:((D:Int) != 0)=Xc:=by simp[p]
  have y:Xo (k=Xd):=dD<|by
   rw[<-b.out]
   cases e:t.all (·.isEmpty)with
   | false=>rfl
   | true=>
    have:=List.all_eq_true.1 e S (mG K);have N:=d.out;rw[List.isEmpty_iff]at this;rw[this]at N;exact absurd N.symm p
  have Z:(D != 0)=Xc:=by simp[p]
  clear p;go_wp2;go_quiet (fail);go_wp2;go_ret;exact⟨by rw[y.out];rfl,m.trans (l.trans (show Below _ _ _ from bD (bR _ _) _))⟩
 have u:¬(a:Int)<8:=by omega
 have y:Xo (k=Xc):=dD<|by
  rw[<-b.out,List.all_eq_true];intro h q;obtain⟨j,r⟩:=Yf q;rw[L.out j h (by have:=(gS.1 r).1;have:=z.out;omega) r]
  rfl
 go_wp2;go_ret;exact⟨by rw[y.out];rfl,m.trans l⟩
theorem zc2 (a) (c:Nat) (fs:List Fr) (h:Int) (w) (E:qh w (O a fs.length c) fs):
  Xp prog 49 #[Xi #[O a fs.length c,I6 h]] w fun e w'=>e= Xl (I6 (Qa fs h))/\zc w w':=by
 have x:=E.short;obtain⟨a1,a3,D,l⟩:=E.frs;cases D;have S:=dD l;clear l E;have t:Xo (Qa fs h=if 40<fs.length then 4 else if zch fs=0 then(if inB h (max fs.length 1)then 0 else 3)else zch fs):=rfl;obtain⟨n,C⟩:=kA fs.length;rw[C.out]at x t⊢;obtain⟨T,k⟩:=kB (w.alloc (Xk #[O a n c,I6 h] 28));have f:=gA k
 have K:=xA k
 have u:=dD k;clear k
 by_cases j:40<n
 ·have v:=kC j
  go_enter func49,ntmps49
  go_wp2;go_ret;exact⟨by rw[t.out,kE j];rfl,by rw[u.out];exact f⟩
 have v:=kD j
 rw[kF j]at t
 go_enter func49,ntmps49
 go_wp2;rw[u.out]
 go_loopg [4,5,13] n (fun Y _ _ F wr=>∃b:Nat,b<=n/\n - b<=Y/\F=I6 b/\Xo (zc T wr)/\Xo (zch (fs.drop b)=zch fs))
 case atStart=>exact⟨0,nZ _,by omega,rfl,zc.refl _,rfl⟩
 obtain⟨b,I,ah,rfl,i,B⟩:=hrel
 by_cases s:b<n
 ·have A:=kC s
  obtain⟨q,H⟩:∃q,Xo (fs[b]? =Xa q):=⟨_,gE (by rw[C.out];exact s)⟩
  obtain⟨a2,rfl,N⟩:=S.out b q H.out;obtain⟨a4,a5,a6,a7,a8,a9,aa,ab,ac,ae,U,V,X⟩:=N wr (f.trans i);have g:∀W,Xp prog 94 #[Xi #[U8 q.p.b0,U8 q.p.b1,U8 q.p.b2,U8 q.p.b3,U8 q.p.b4,U8 q.p.b5,U8 q.p.b6,U8 q.p.b7,I6 q.r,Xh q.u,Xh q.d,I6 q.f,I6 q.x]] W fun e w'=>e= Xl (I6 (frW q))/\zc W w':=fun W=>zbR q W
  have p:Xo (zch (fs.drop b)=if frW q=0 then zch (fs.drop (b+1))else frW q):=dD<|by
   obtain⟨z,rfl⟩:=gS.1 H.out;rw[List.drop_eq_getElem_cons z];rfl
  clear N
  generalize frW q=G at g p
  by_cases m:G=0
  ·have Q:Xo (zch (fs.drop (b+1))=zch fs):=dD<|by rw[<-B.out,p.out,kE m]
   subst m
   go_wp2_with (go_at_call 94;refine(g _).mono ?_;rintro e w' ⟨rfl,r⟩)
   go_roundg (n -(b+1))
   case measure=>omega
   exact⟨b+1,by omega,by omega,by go_num,(i.trans (za _ _)).trans r,Q⟩
  have a0:(G != 0)=Xc:=by simpa using m
  have R:Xo (Qa fs h=G):=dD<|by
   have L:=B.out;rw[p.out,kF m]at L;rw[t.out,<-L,kF m]
  skip
  go_wp2_with (go_at_call 94;refine(g _).mono ?_;rintro e w' ⟨rfl,r⟩)
  go_ret;exact⟨by rw[R.out];rfl,((f.trans i).trans (za _ _)).trans r⟩
 have A:=kD s
 have:b=n:=by omega
 subst this;have af:=(K.grew i).c 0 rfl;have ag:=(K.grew i).c 1 rfl;have m:zch fs=0:=by rw[<-B.out,Xu (by rw[C.out];exact nR _)];rfl
 have d:Xo (Qa fs h=if inB h (max b 1)then 0 else 3):=dD<|by rw[t.out,kE m]
 clear m
 by_cases y:h=0
 ·subst y;rw[show inB 0 (max b 1)=Xc from by simp[inB];omega,kE rfl]at d
  go_wp2;go_ret;exact⟨by rw[d.out];rfl,f.trans i⟩
 have M:(h != 0)=Xc:=by simp[y]
 by_cases P:h<0
 ·rw[show inB h (max b 1)=Xd from by simp[inB];omega,kF (by decide)]at d
  go_wp2;go_ret;exact⟨by rw[d.out];rfl,f.trans i⟩
 by_cases Z:(b:Int)<=h
 ·rw[show inB h (max b 1)=Xd from by simp[inB];omega,kF (by decide)]at d
  go_wp2;go_ret;exact⟨by rw[d.out];rfl,f.trans i⟩
 rw[show inB h (max b 1)=Xc from by simp[inB];omega,kE rfl]at d
 go_wp2;go_ret;exact⟨by rw[d.out];rfl,f.trans i⟩
theorem zfg (a) (c:Nat) (s:List Int) (w) (B:zq slE w (O a s.length c) s):
  Xp prog 50 #[O a s.length c] w fun e w'=>e= Xl (I6 (slW s))/\zc w w':=by
 have m:Xo (slW s=if 60<s.length then 4 else if s.any zb8 then 3 else 0):=rfl;have r:=B.short;obtain⟨P,R,A,h⟩:=B.sls;cases A;have F:=dD h;clear h B;obtain⟨n,x⟩:=kA s.length;rw[x.out]at m r⊢
 by_cases f:60<n
 ·have p:=kC f
  have k:Xo (slW s=4):=dD<|by rw[m.out,kE f]
  skip
  go_enter func50,ntmps50
  go_wp2;go_ret;exact⟨by rw[k.out];rfl,zc.refl _⟩
 have p:=kD f
 rw[kF f]at m
 go_enter func50,ntmps50
 go_wp2
 go_loopg [4,10] n (fun G _ N wr=>∃b:Nat,b<=n/\n - b<=G/\N=I6 b/\Xo (zc w wr)/\Xo (∀j q,j<b->s[j]? =Xa q->zb8 q=Xd))
 case atStart=>exact⟨0,nZ _,by omega,rfl,zc.refl w,fun j q t=>absurd t (nL _)⟩
 obtain⟨b,L,T,rfl,l,C⟩:=hrel
 by_cases i:b<n
 ·have u:=kC i
  obtain⟨q,y⟩:∃q,Xo (s[b]? =Xa q):=⟨_,gE (by rw[x.out];exact i)⟩
  obtain⟨Q,rfl,D⟩:=F.out b q y.out;have S:=D wr l.out;clear D
  by_cases g:zb8 q=Xc
  ·have k:Xo (slW s=3):=dD<|by rw[m.out,zoN y.out g];rfl
   skip
   by_cases H:q<0
   ·clear g;go_wp2;go_ret;exact⟨by rw[k.out];rfl,l⟩
   have K:1000<q:=by simp[zb8]at g;omega
   clear g;go_wp2;go_ret;exact⟨by rw[k.out];rfl,l⟩
  have v:zb8 q=Xd:=by simpa using g
  have E:Xo (∀(j:Nat) q,j<b+1->s[j]? =Xa q->zb8 q=Xd):=dD<|fun j M t d=>by
   by_cases e:j=b
   ·subst e;rw[y.out]at d;cases d;exact v
   exact C j M (by omega) d
  have H:¬q<0:=by intro z;exact g (by simp[zb8,z])
  have K:¬1000<q:=by intro z;exact g (by simp[zb8,z])
  clear g v;go_wp2
  go_roundg (n -(b+1))
  case measure=>omega
  exact⟨b+1,by omega,by omega,by go_num,l,E⟩
 have u:=kD i
 have:b=n:=by omega
 subst this;have k:Xo (slW s=0):=dD<|by
  rw[m.out,zoM (fun j q t=>C.out j q (by rw[<-x.out];exact(gS.1 t).1) t)]
  rfl
 go_wp2;go_ret;exact⟨by rw[k.out];rfl,l⟩
def bov (b:Bool):List Xq:=[Xh b]
theorem zq3:(Tryz.prog.info? 4).map (fun i=>(i.zero,i.size,i.bytes))=Xa (Xa (Xh Xd),1,1):=by kernel_rfl
def boE:Elt Bool where
 enc:=bov
 k:=1
 ty:=4
 st:=86
 bytes:=1
 zv:= Xh Xd
 zero:=false
 len:=fun _=>rfl
 one:=fun a u hu=>by
  simp only[bov,mC,nM,or_false]at hu;subst hu;rfl
 und:=underlying86
 info:=zq3
 zok:=rfl
 few:=by decide
 pos:=by decide
def JX (n:Nat) (g:List Int):List Bool:=(List.range n).map fun(i:Nat)=>g.contains (i:Int)
theorem zbp {n:Nat} (g:List Int) {i:Nat} (hi:i<n):(JX n g)[i]? =Xa (g.contains (i:Int)):=by
 unfold JX;rw[Yd,Yh hi];rfl
theorem zbo (n:Nat) (g):(JX n g).length=n:=by simp[JX]
theorem zlN {n:Nat} (g) {i:Nat} (hi:i<n):(JX n g).set i Xc=JX n ((i:Int) :: g):=by
 apply Yo
 intro j
 by_cases e:j=i
 ·subst e;rw[sF (by rw[zbo];exact hi),zbp _ hi]
  simp
 rw[sN (fun h=>e h.symm)]
 rcases Nat.lt_or_ge j n with a|a
 ·rw[zbp _ a,zbp _ a];have:¬((j:Int)=(i:Int)):=by omega
  simp[this]
 rw[gN (by rw[zbo];exact a),gN (by rw[zbo];exact a)]
theorem zlO (n:Nat):JX n []=Xr n Xd:=by
 unfold JX
 simp[List.map_const']
theorem zd6 (v fs) (a:Int) (w) (d:z5 w v fs):
  Xp prog 52 #[Xi #[v,I6 a]] w fun e w'=>e= Xl (I6 (stW fs a))/\zc w w':=by
 obtain⟨f,g,rfl,c,b⟩:=d.rows;have i:=dD b;have H:Xo (stW fs a=if fs.length<=5/\0<=a/\a<=80 then zcG a [] fs else 4):=rfl;clear b d
 generalize stW fs a=Z at H⊢
 obtain⟨z,an⟩:=kA fs.length;rw[an.out]at c H⊢;obtain⟨k,b⟩:=kB (w.alloc (Xk #[O f z g,I6 a] 37));have h:=gA b
 have u:=xA b
 have K:=dD b;clear b
 by_cases a7:z<=5
 ·have a8:¬(5:Int)< (z:Int):=by omega
  have b:decide ((5:Int)< (z:Int))=Xd:=decide_eq_false a8;have b:decide (5<z)=Xd:=decide_eq_false (by omega)
  by_cases ah:0<=a/\a<=80
  ·rw[kE ⟨a7,ah⟩]at H;obtain⟨m,rfl⟩:∃m:Nat,a=(m:Int):=⟨a.toNat,by omega⟩
   have b:m<=80:=by omega
   have W:¬(m:Int)<0:=by omega
   have aa:decide ((m:Int)<0)=Xd:=decide_eq_false W;have ab:¬(80:Int)< (m:Int):=by omega
   have b:decide ((80:Int)< (m:Int))=Xd:=decide_eq_false ab;clear ah
   go_enter func52,ntmps52
   go_upto_region 3 with fail;rw[K.out];have g:=u.c 0 rfl;have ae:=u.c 1 rfl
   go_wp2_with (refine Qw boE rfl (.tmp 23) rfl m rfl (by show m*1<=_;omega) ?_)
   intro C f;rw[show Xr m boE.zero=JX m []from(zlO m).symm]at f
   show wpList _ _ _ _ _ (k.alloc (Xk C 4))
   obtain⟨l,c⟩:=kB (k.alloc (Xk C 4));have d:zb boE k.heap.size (k.alloc (Xk C 4)) (O (Xa ⟨k.heap.size,0,Xb⟩) m m) (JX m []):=f;have b:=gA c
   rw[c]at d⊢;obtain⟨x,T⟩:=kA k.heap.size;have j:Xo (zb boE k.heap.size l (O (Xa ⟨x,0,Xb⟩) m m) (JX m [])):=dD<|by rw[<-T.out];exact d
   rw[T.out];clear c f d g ae;have g:=(u.grew b).c 0 rfl;have ae:=(u.grew b).c 1 rfl;go_wp2
   go_loopg [28] z (fun f c wr=>∃d:Nat,d<=z/\z - d<=f/\c=I6 d/\Xo (zc k wr)/\Xo (zb boE k.heap.size wr (O (Xa ⟨x,0,Xb⟩) m m) (JX m (zci [] (fs.take d))))/\Xo (zcG (m:Int) (zci [] (fs.take d)) (fs.drop d)=zcG (m:Int) [] fs))
   case atStart=>exact⟨0,nZ _,by omega,rfl,b,j,rfl⟩
   obtain⟨d,b,b,rfl,al,l,ak⟩:=hrel;clear g ae
   by_cases X:d<z
   ·have ac:=kC X
    obtain⟨q,g⟩:∃q,Xo (fs[d]? =Xa q):=⟨_,gE (by rw[an.out];exact X)⟩
    obtain⟨b,rfl,r,s,f,j⟩:=i.out d q g.out;obtain⟨B,p⟩:=j wr (h.trans al);have c:=f.short;obtain⟨_,_,i,b⟩:=f.nums;cases i;have i:=dD b;obtain⟨A,n⟩:=kA q.bl.length;rw[n.out]at p c;clear j f b;have U:Xo (zcG (m:Int) (zci [] (fs.take d)) (fs.drop d)=if flW (m:Int) (zci [] (fs.take d)) q=0 then zcG (m:Int) (zci [] (fs.take (d+1))) (fs.drop (d+1))else flW (m:Int) (zci [] (fs.take d)) q):=show _=_ by
     rw[qR g.out,zat g.out,zbC];rfl
    have a4:Xo (zci [] (fs.take (d+1))=blG (zci [] (fs.take d)) q.bl):=dD<|by rw[zat g.out,zbC]
    have C:Xo (flW (m:Int) (zci [] (fs.take d)) q=if 0<=q.size/\q.size<=96 then(if(q.bl.length:Int)=JI q.size then blW (m:Int) (zci [] (fs.take d)) q.bl else 2)else 3):=rfl;obtain⟨j,am⟩:=kA (zci [] (fs.take d));rw[am.out]at U a4 C l;have f:∀c:Int,c≠0->flW (m:Int) j q=c->Z=c:=fun c I M=>by
     have y:=ak.out;rw[am.out,U.out,M,kF I]at y;rw[H.out,<-y]
    obtain⟨ag,b⟩:=kB (wr.alloc (Xk #[I6 q.size,O r A s] 65));have af:=gT b al
    have a0:=xA b
    have D:Xo (zb boE k.heap.size ag (O (Xa ⟨x,0,Xb⟩) m m) (JX m j)):=dD<|by rw[<-b];exact l.grew (za _ _)
    have L:=dD b;clear b
    by_cases b:q.size<0
    ·have t:Xo (Z=3):=f 3 (by decide) (by rw[C.out,kF (by omega)])
     have s:=dD (h.trans af);clear f;go_wp2;rw[L.out];go_ret;exact⟨by rw[t.out];rfl,s⟩
    have g:decide (q.size<0)=Xd:=decide_eq_false b
    by_cases b:96<q.size
    ·have t:Xo (Z=3):=f 3 (by decide) (by rw[C.out,kF (by omega)])
     have s:=dD (h.trans af);clear f;go_wp2;rw[L.out];go_ret;exact⟨by rw[t.out];rfl,s⟩
    have g:decide (96<q.size)=Xd:=decide_eq_false b;have P:=fun b=>zce q.size b (by omega) (by omega)
    by_cases r:(A:Int)=JI q.size
    ·rw[<-r]at P;have aq:((A:Int) !=(A:Int))=Xd:=by simp
     have a3:Xo (flW (m:Int) j q=blW (m:Int) j q.bl):=dD<|by rw[C.out,kE (by omega),n.out,kE r]
     clear r;have ai:=a0.c 0 rfl;have aj:=a0.c 1 rfl;go_upto_region 9 with fail;rw[L.out]
     go_quiet (first | (go_at_call 16;exact Calls.quiet_of_same (P _)))
     obtain⟨ao,l⟩:=kB (ag.drewN nq);have g:Xo (zc ag ao):=dD<|by rw[<-l];exact(show Below _ _ _ from bD (bR _ _) _)
     rw[l];clear l ai aj P B p;have ai:=(a0.grew g).c 0 rfl;have aj:=(a0.grew g).c 1 rfl;go_wp2
     go_loopg [50] A (fun F B p=>∃b:Nat,b<=A/\A - b<=F/\B=I6 b/\Xo (zc k p)/\Xo (zb boE k.heap.size p (O (Xa ⟨x,0,Xb⟩) m m) (JX m (blG j (q.bl.take b))))/\Xo (blW (m:Int) (blG j (q.bl.take b)) (q.bl.drop b)=blW (m:Int) j q.bl))
     case atStart=>exact⟨0,nZ _,by omega,rfl,af.trans g,D.grew g,rfl⟩
     obtain⟨b,g,g,rfl,B,p,R⟩:=hrel;clear ai aj;have ae:=(u.grew B).c 1 rfl;have s:=dD (h.trans B)
     by_cases G:b<A
     ·have Y:=kC G
      obtain⟨u,F⟩:∃u,Xo (q.bl[b]? =Xa u):=⟨_,gE (by rw[n.out];exact G)⟩
      obtain⟨g,rfl,g⟩:=i.out b u F.out;have au:=g _ s.out;have D:Xo (blW (m:Int) (blG j (q.bl.take b)) (q.bl.drop b)=if QN (m:Int) (blG j (q.bl.take b)) u=0 then blW (m:Int) (blG j (q.bl.take (b+1))) (q.bl.drop (b+1))else QN (m:Int) (blG j (q.bl.take b)) u):=dD<|by
       rw[qR F.out,qr F.out,zcJ];rfl
      have S:Xo (blG j (q.bl.take (b+1))=zag (blG j (q.bl.take b)) u):=dD<|by rw[qr F.out,zcJ]
      clear g;obtain⟨V,i⟩:=kA (blG j (q.bl.take b));rw[i.out]at D S p;have g:∀c:Int,c≠0->QN (m:Int) V u=c->Z=c:=fun c I M=>f c I (by
       have y:=R.out;rw[i.out,D.out,M,kF I]at y;rw[a3.out,<-y])
      have c:QN (m:Int) V u=0->blW (m:Int) (blG j (q.bl.take (b+1))) (q.bl.drop (b+1))=blW (m:Int) j q.bl:=fun M=>by
       rw[<-R.out,i.out,D.out,kE M]
      rcases JE (m:Int) V u with⟨y,a1,D⟩|⟨y,a1,D⟩|⟨i,y,a1,D,a6⟩|⟨i,y,a1,D,a6,a7⟩
      ·subst y;have a2:=dD<|c a1;have a5:Xo (zb boE k.heap.size _ (O (Xa ⟨x,0,Xb⟩) m m) (JX m (blG j (q.bl.take (b+1))))):=show zb _ _ _ _ _ by rw[S.out,D];exact p.out
       have F:¬(m:Int)<=-1:=by omega
       have N:decide ((m:Int)<=-1)=Xd:=decide_eq_false F;clear f g c a1 D;go_wp2
       go_roundg (A -(b+1))
       case measure=>omega
       exact⟨b+1,by omega,by omega,by go_num,B,a5,a2⟩
      ·have t:Xo (Z=3):=g 3 (by decide) D
       clear f g c D
       by_cases F:u< -1
       ·go_wp2;go_ret;exact⟨by rw[t.out];rfl,s⟩
       have Q:decide (u< -1)=Xd:=decide_eq_false F;have N:(m:Int)<=u:=by omega
       clear a1;go_wp2;go_ret;exact⟨by rw[t.out];rfl,s⟩
      ·subst y;have t:Xo (Z=7):=g 7 (by decide) a6
       have u:i<m:=by omega
       have F:¬(i:Int)< -1:=by omega
       have Q:decide ((i:Int)< -1)=Xd:=decide_eq_false F;have N:¬(m:Int)<=(i:Int):=by omega
       have a1:decide ((m:Int)<=(i:Int))=Xd:=decide_eq_false N;have a9:decide (m<=i)=Xd:=decide_eq_false (by omega)
       have ap:¬(i:Int)<0:=by omega
       have ar:wr.cell? ⟨x,i,Xb⟩=Xa (Xh Xc):=by
        have:=p.one (zbp V u) 0 _ rfl;rw[zV,Xt,zA,D]at this
        simpa [boE]using this
       clear f g c D a6;go_wp2;go_ret;exact⟨by rw[t.out];rfl,s⟩
      subst y;have a2:=dD<|c a6;have u:i<m:=by omega
      have F:¬(i:Int)< -1:=by omega
      have Q:decide ((i:Int)< -1)=Xd:=decide_eq_false F;have N:¬(m:Int)<=(i:Int):=by omega
      have a1:decide ((m:Int)<=(i:Int))=Xd:=decide_eq_false N;have a9:decide (m<=i)=Xd:=decide_eq_false (by omega)
      have ap:¬(i:Int)<0:=by omega
      have ar:wr.cell? ⟨x,i,Xb⟩=Xa (Xh Xd):=by
       have:=p.one (zbp V u) 0 _ rfl;rw[zV,Xt,zA,D]at this
       simpa [boE]using this
      have y:=dD a7;clear f g c D a6 a7
      go_wp2_with (refine qV (E:=boE) rfl (.tmp 70) (.const (Xh Xc)) rfl k.heap.size _ (JX m V) p x i rfl Xc ?t1 ⟨x,i,Xb⟩ rfl ?t2 (Xh Xc) rfl rfl ?_)
      case t1=>rw[zbo];exact u
      case t2=>first | exact(Yk i).symm | (show _=Addr.mk x (i*1) Xb;rw[Yk])
      intro i g c _;have a5:Xo (zb boE k.heap.size i (O (Xa ⟨x,0,Xb⟩) m m) (JX m (blG j (q.bl.take (b+1))))):=dD<|by rw[S.out,y.out,<-zlN V u];exact g
      have u:Xo (zc k i):=dD<|zd B c (by rw[T.out];exact nR _)
      clear g c ar au ae;go_wp2
      go_roundg (A -(b+1))
      case measure=>omega
      exact⟨b+1,by omega,by omega,by go_num,u,a5,a2⟩
     have Y:=kD G
     have:b=A:=by omega
     subst this;have I:flW (m:Int) j q=0:=by
      rw[a3.out,<-R.out,Xu (by rw[n.out];exact nR _)]
      rfl
     have a2:Xo (zcG (m:Int) (zci [] (fs.take (d+1))) (fs.drop (d+1))=zcG (m:Int) [] fs):=dD<|by rw[<-ak.out,am.out,U.out,kE I]
     have a5:Xo (zb boE k.heap.size wr (O (Xa ⟨x,0,Xb⟩) m m) (JX m (zci [] (fs.take (d+1))))):=dD<|by
      rw[a4.out];have:=p.out;rw[Xw (by rw[n.out];exact nR _)]at this
      exact this
     clear f I;go_wp2
     go_roundg (z -(d+1))
     case measure=>omega
     exact⟨d+1,by omega,by omega,by go_num,B,a5,a2⟩
    have t:Xo (Z=2):=f 2 (by decide) (by rw[C.out,kE (by omega),n.out,kF r])
    have aq:((A:Int) != JI q.size)=Xc:=by simpa using r
    clear f r
    generalize JI q.size=b at*
    have ai:=a0.c 0 rfl;have aj:=a0.c 1 rfl;go_upto_region 9 with fail;rw[L.out]
    go_quiet (first | (go_at_call 16;exact Calls.quiet_of_same (P _)))
    obtain⟨ao,l⟩:=kB (ag.drewN nq);have s:Xo (zc w ao):=dD<|by rw[<-l];exact(h.trans af).trans (show Below _ _ _ from bD (bR _ _) _)
    rw[l];clear l;go_wp2;go_ret;exact⟨by rw[t.out];rfl,s⟩
   have ac:=kD X
   have:d=z:=by omega
   subst this;have t:Xo (Z=0):=dD<|by
    rw[H.out,<-ak.out,Xu (by rw[an.out];exact nR _)]
    rfl
   have s:=dD (h.trans al);go_wp2;go_ret;exact⟨by rw[t.out];rfl,s⟩
  rw[kF (fun M=>ah M.2)]at H
  by_cases W:a<0
  ·go_enter func52,ntmps52
   go_wp2;rw[K.out];go_ret;exact⟨by rw[H.out];rfl,h⟩
  have aa:decide (a<0)=Xd:=decide_eq_false W;have ab:80<a:=by omega
  clear ah
  go_enter func52,ntmps52
  go_wp2;rw[K.out];go_ret;exact⟨by rw[H.out];rfl,h⟩
 rw[kF (fun M=>a7 M.1)]at H
 have a8:(5:Int)< (z:Int):=by omega
 go_enter func52,ntmps52
 go_wp2;rw[K.out];go_ret;exact⟨by rw[H.out];rfl,h⟩
theorem zd5 (vs:List Xq) (t:List (List En)) (w) (a:JJ w vs t):
  Xp prog 54 #[Xi vs.toArray] w fun e w'=>e= Xl (I6 (tbW t))/\zc w w':=by
 have ao:=dD a;have d:=dD a.len;clear a;obtain⟨Z,af⟩:=kA (tbW t);rw[af.out];obtain⟨a,a⟩:=kB (w.alloc (Xk vs.toArray 72));have b:=gA a
 have f:=xA a
 have c:=dD a;clear a
 go_enter func54,ntmps54
 go_upto_region 1 with fail;rw[c.out]
 go_wp2_with (refine qi rfl (.tmp 1) rfl w.heap.size rfl f d.out ?_)
 go_loopg [9] 8 (fun a c wr=>∃l:Nat,l<=8/\8 - l<=a/\c=I6 l/\Xo (zc w wr)/\Xo (tbW (t.drop l)=tbW t))
 case atStart=>exact⟨0,nZ _,by omega,rfl,b,rfl⟩
 obtain⟨l,a,a,rfl,ab,ac⟩:=hrel
 by_cases d:l<8
 ·have a8:(l:Int)<8:=by omega
  obtain⟨a,a,q,h,c,g⟩:=ao.half d;have i:=dD h;have b:=g.short;obtain⟨_,_,f,a⟩:=g.ens;cases f;have an:=dD a;obtain⟨nq,f⟩:=kA q.length;rw[f.out]at c b;have b:=dD c;have r:Xo (tbW (t.drop l)=if haW q=0 then tbW (t.drop (l+1))else haW q):=show _=_ by rw[qR i.out,ziZ]
  have C:Xo (∀z:Int,z≠0->haW q=z->Z=z):=dD<|fun z A i=>by
   have P:=ac.out;rw[r.out,i,kF A]at P;rw[<-af.out,<-P]
  have E:Xo (haW q=0->tbW (t.drop (l+1))=tbW t):=dD<|fun i=>by rw[<-ac.out,r.out,kE i]
  clear a g h c
  go_upto_region 4 with(refine zcT rfl (.tmp 8) (.tmp 9) rfl vs rfl l rfl d b.out ?_)
  by_cases N:nq=0
  ·have I:((nq:Int) != 0)=Xd:=by simp[N]
   have a4:((nq:Int) == 8)=Xd:=by simp[N]
   have aa:=dD N;clear N;have D:Xo (∀z:Int,z≠0->esW q=z->Z=z):=show∀z:Int,_ from fun z A i=>by
    have:q=[]:=List.length_eq_zero_iff.1 (by rw[f.out];exact aa)
    rw[this]at i;exact absurd i.symm A
   go_wp2
   go_loopg [5,22] nq (fun ai am X Y=>∃(c g:Nat),c<=nq/\nq - c<=ai/\X=I6 c/\am=I6 g/\g<=c/\Xo (zc w Y)/\Xo (esW (q.drop c)=esW q)/\Xo (g=0↔Z5 (q.take c)=Xd))
   case atStart=>exact⟨0,0,nZ _,by omega,rfl,rfl,nR _,ab,rfl,show(0=0↔Z5 (q.take 0)=Xd)from by simp[Z5]⟩
   obtain⟨c,g,a6,ak,rfl,rfl,aj,n,u,a0⟩:=hrel
   by_cases h:c<nq
   ·have x:=kC h
    obtain⟨M,W⟩:∃M,q[c]? =Xa M:=⟨_,gE (by rw[f.out];exact h)⟩
    obtain⟨ap,rfl,F⟩:=an.out c M W;obtain⟨a1,a2,a3⟩:=F wr n.out;obtain⟨k,m,s⟩:=M;have L:=dD W;simp only at a1 a2 a3;have r:Xo (esW (q.drop c)=if enW ⟨k,m,s⟩=0 then esW (q.drop (c+1))else enW ⟨k,m,s⟩):=show _=_ by rw[qR L.out,zfL]
    have b:∀z:Int,z≠0->enW ⟨k,m,s⟩=z->Z=z:=fun z A i=>by
     have P:=u.out;rw[r.out,i,kF A]at P;exact D.out z A P.symm
    have a:enW ⟨k,m,s⟩=0->esW (q.drop (c+1))=esW q:=fun i=>by
     rw[<-u.out,r.out,kE i]
    clear F W;go_upto_region 10 with fail;obtain⟨al,y⟩:=kB wr.heap.size;obtain⟨ah,j⟩:=kB (wr.alloc (Xk #[I6 k,I6 m,Xh s] 75));have K:=gT j n
    have p:=dD K.out;have ag:Xo (Box ah al [I6 k,I6 m,Xh s]):=show Box _ _ _ by rw[<-j];exact Box.top _ _ _ y.symm
    rw[j];rw[y];clear j y a1 a2 a3;obtain⟨ar,au,av⟩:=ag.c3
    by_cases R:k<0
    ·have d:Xo (Z=1):=b 1 (by decide) (zbE (by simp only;omega))
     clear b a;go_wp2;go_ret;exact⟨by rw[d.out];rfl,p⟩
    have a5:decide (k<0)=Xd:=decide_eq_false R
    by_cases S:2<k
    ·have d:Xo (Z=1):=b 1 (by decide) (zbE (by simp only;omega))
     clear b a;go_wp2;go_ret;exact⟨by rw[d.out];rfl,p⟩
    have a7:decide (2<k)=Xd:=decide_eq_false S
    by_cases T:m<0
    ·have d:Xo (Z=3):=b 3 (by decide) (ZY (by simp only;omega) (by simp only;omega))
     clear b a;go_wp2;go_ret;exact⟨by rw[d.out];rfl,p⟩
    have a9:decide (m<0)=Xd:=decide_eq_false T
    by_cases H:59<m
    ·have d:Xo (Z=3):=b 3 (by decide) (ZY (by simp only;omega) (by simp only;omega))
     clear b a;go_wp2;go_ret;exact⟨by rw[d.out];rfl,p⟩
    have V:decide (59<m)=Xd:=decide_eq_false H;obtain rfl|rfl|rfl:k=0\/k=1\/k=2:=by omega
    ·by_cases aq:0<m
     ·have d:Xo (Z=7):=b 7 (by decide) (zam (by simp only;omega) (by simp only;omega) (.inl ⟨rfl,.inl (by simp only;omega)⟩))
      clear b a;go_wp2;go_ret;exact⟨by rw[d.out];rfl,p⟩
     obtain rfl:m=0:=by omega
     cases s with
     | true=>
      have d:Xo (Z=7):=b 7 (by decide) (zam (by simp only;omega) (by simp only;omega) (.inl ⟨rfl,.inr rfl⟩))
      clear b a;go_wp2;go_ret;exact⟨by rw[d.out];rfl,p⟩
     | false=>
      have v:Xo (esW (q.drop (c+1))=esW q):=a (Qg (by simp only;omega) (by simp only;omega) (by simp))
      have B:Xo (Z5 (q.take (c+1))=Z5 (q.take c)):=dD<|by
       rw[qr L.out];unfold Z5;rw[Xz]
       simp[enS]
      clear b a;go_wp2
      go_roundg (nq -(c+1))
      case measure=>omega
      exact⟨c+1,g,by omega,by omega,by go_num,by go_num,by omega,K,v,by rw[B.out];exact a0⟩
    ·by_cases G:39<m
     ·have d:Xo (Z=3):=b 3 (by decide) (ZY (by simp only;omega) (fun i=>by have:=i.2.2 rfl;simp only at this;omega))
      clear b a;go_wp2;go_ret;exact⟨by rw[d.out];rfl,p⟩
     have U:decide (39<m)=Xd:=decide_eq_false G;have v:Xo (esW (q.drop (c+1))=esW q):=a (Qg (by simp only;omega) (by simp only;omega) (by simp))
     have B:Xo (Z5 (q.take (c+1))=Xc):=dD<|by
      rw[qr L.out];unfold Z5;rw[Xz]
      simp[enS]
     clear b a;go_wp2
     go_roundg (nq -(c+1))
     case measure=>omega
     exact⟨c+1,g+1,by omega,by omega,by go_num,by go_num,by omega,K,v,show(g+1=0↔Z5 (q.take (c+1))=Xd)from by rw[B.out];simp⟩
    cases s with
    | true=>
     have d:Xo (Z=7):=b 7 (by decide) (zam (by simp only;omega) (by simp only;omega) (.inr ⟨rfl,rfl⟩))
     clear b a;go_wp2;go_ret;exact⟨by rw[d.out];rfl,p⟩
    | false=>
     have v:Xo (esW (q.drop (c+1))=esW q):=a (Qg (by simp only;omega) (by simp only;omega) (by simp))
     have B:Xo (Z5 (q.take (c+1))=Xc):=dD<|by
      rw[qr L.out];unfold Z5;rw[Xz]
      simp[enS]
     clear b a;go_wp2
     go_roundg (nq -(c+1))
     case measure=>omega
     exact⟨c+1,g+1,by omega,by omega,by go_num,by go_num,by omega,K,v,show(g+1=0↔Z5 (q.take (c+1))=Xd)from by rw[B.out];simp⟩
   have x:=kD h
   have:c=nq:=by omega
   subst this;have Q:Xo (esW q=0):=dD<|by
    rw[<-u.out,Xu (by rw[f.out];exact nR _)]
    rfl
   have ae:Xo (g=0↔Z5 q=Xd):=dD<|by
    have:=a0.out;rw[Xw (by rw[f.out];exact nR _)]at this
    exact this
   have v:Xo (tbW (t.drop (l+1))=tbW t):=E.out (by unfold haW;rw[kE (by rw[f.out];exact aa)])
   go_wp2
   go_roundg (8 -(l+1))
   case measure=>omega
   exact⟨l+1,by omega,by omega,by go_num,n,v⟩
  have I:((nq:Int) != 0)=Xc:=by simpa using N
  by_cases I:nq=8
  ·have aa:((nq:Int) != 8)=Xd:=by simp[I]
   have a4:((nq:Int) == 8)=Xc:=by simp[I]
   have a4:=dD I;clear N I;have D:Xo (∀z:Int,z≠0->esW q=z->Z=z):=show∀z:Int,_ from fun z A i=>C.out z A (by rw[zl4 (by rw[f.out];exact a4),kF (by rw[i];exact A)];exact i)
   go_wp2
   go_loopg [5,22] nq (fun ai am X Y=>∃(c g:Nat),c<=nq/\nq - c<=ai/\X=I6 c/\am=I6 g/\g<=c/\Xo (zc w Y)/\Xo (esW (q.drop c)=esW q)/\Xo (g=0↔Z5 (q.take c)=Xd))
   case atStart=>exact⟨0,0,nZ _,by omega,rfl,rfl,nR _,ab,rfl,show(0=0↔Z5 (q.take 0)=Xd)from by simp[Z5]⟩
   obtain⟨c,g,a6,ak,rfl,rfl,aj,n,u,a0⟩:=hrel
   by_cases h:c<nq
   ·have x:=kC h
    obtain⟨M,W⟩:∃M,q[c]? =Xa M:=⟨_,gE (by rw[f.out];exact h)⟩
    obtain⟨ap,rfl,F⟩:=an.out c M W;obtain⟨a1,a2,a3⟩:=F wr n.out;obtain⟨k,m,s⟩:=M;have L:=dD W;simp only at a1 a2 a3;have r:Xo (esW (q.drop c)=if enW ⟨k,m,s⟩=0 then esW (q.drop (c+1))else enW ⟨k,m,s⟩):=show _=_ by rw[qR L.out,zfL]
    have b:∀z:Int,z≠0->enW ⟨k,m,s⟩=z->Z=z:=fun z A i=>by
     have P:=u.out;rw[r.out,i,kF A]at P;exact D.out z A P.symm
    have a:enW ⟨k,m,s⟩=0->esW (q.drop (c+1))=esW q:=fun i=>by
     rw[<-u.out,r.out,kE i]
    clear F W;go_upto_region 10 with fail;obtain⟨al,y⟩:=kB wr.heap.size;obtain⟨ah,j⟩:=kB (wr.alloc (Xk #[I6 k,I6 m,Xh s] 75));have K:=gT j n
    have p:=dD K.out;have ag:Xo (Box ah al [I6 k,I6 m,Xh s]):=show Box _ _ _ by rw[<-j];exact Box.top _ _ _ y.symm
    rw[j];rw[y];clear j y a1 a2 a3;obtain⟨ar,au,av⟩:=ag.c3
    by_cases R:k<0
    ·have d:Xo (Z=1):=b 1 (by decide) (zbE (by simp only;omega))
     clear b a;go_wp2;go_ret;exact⟨by rw[d.out];rfl,p⟩
    have a5:decide (k<0)=Xd:=decide_eq_false R
    by_cases S:2<k
    ·have d:Xo (Z=1):=b 1 (by decide) (zbE (by simp only;omega))
     clear b a;go_wp2;go_ret;exact⟨by rw[d.out];rfl,p⟩
    have a7:decide (2<k)=Xd:=decide_eq_false S
    by_cases T:m<0
    ·have d:Xo (Z=3):=b 3 (by decide) (ZY (by simp only;omega) (by simp only;omega))
     clear b a;go_wp2;go_ret;exact⟨by rw[d.out];rfl,p⟩
    have a9:decide (m<0)=Xd:=decide_eq_false T
    by_cases H:59<m
    ·have d:Xo (Z=3):=b 3 (by decide) (ZY (by simp only;omega) (by simp only;omega))
     clear b a;go_wp2;go_ret;exact⟨by rw[d.out];rfl,p⟩
    have V:decide (59<m)=Xd:=decide_eq_false H;obtain rfl|rfl|rfl:k=0\/k=1\/k=2:=by omega
    ·by_cases aq:0<m
     ·have d:Xo (Z=7):=b 7 (by decide) (zam (by simp only;omega) (by simp only;omega) (.inl ⟨rfl,.inl (by simp only;omega)⟩))
      clear b a;go_wp2;go_ret;exact⟨by rw[d.out];rfl,p⟩
     obtain rfl:m=0:=by omega
     cases s with
     | true=>
      have d:Xo (Z=7):=b 7 (by decide) (zam (by simp only;omega) (by simp only;omega) (.inl ⟨rfl,.inr rfl⟩))
      clear b a;go_wp2;go_ret;exact⟨by rw[d.out];rfl,p⟩
     | false=>
      have v:Xo (esW (q.drop (c+1))=esW q):=a (Qg (by simp only;omega) (by simp only;omega) (by simp))
      have B:Xo (Z5 (q.take (c+1))=Z5 (q.take c)):=dD<|by
       rw[qr L.out];unfold Z5;rw[Xz]
       simp[enS]
      clear b a;go_wp2
      go_roundg (nq -(c+1))
      case measure=>omega
      exact⟨c+1,g,by omega,by omega,by go_num,by go_num,by omega,K,v,by rw[B.out];exact a0⟩
    ·by_cases G:39<m
     ·have d:Xo (Z=3):=b 3 (by decide) (ZY (by simp only;omega) (fun i=>by have:=i.2.2 rfl;simp only at this;omega))
      clear b a;go_wp2;go_ret;exact⟨by rw[d.out];rfl,p⟩
     have U:decide (39<m)=Xd:=decide_eq_false G;have v:Xo (esW (q.drop (c+1))=esW q):=a (Qg (by simp only;omega) (by simp only;omega) (by simp))
     have B:Xo (Z5 (q.take (c+1))=Xc):=dD<|by
      rw[qr L.out];unfold Z5;rw[Xz]
      simp[enS]
     clear b a;go_wp2
     go_roundg (nq -(c+1))
     case measure=>omega
     exact⟨c+1,g+1,by omega,by omega,by go_num,by go_num,by omega,K,v,show(g+1=0↔Z5 (q.take (c+1))=Xd)from by rw[B.out];simp⟩
    cases s with
    | true=>
     have d:Xo (Z=7):=b 7 (by decide) (zam (by simp only;omega) (by simp only;omega) (.inr ⟨rfl,rfl⟩))
     clear b a;go_wp2;go_ret;exact⟨by rw[d.out];rfl,p⟩
    | false=>
     have v:Xo (esW (q.drop (c+1))=esW q):=a (Qg (by simp only;omega) (by simp only;omega) (by simp))
     have B:Xo (Z5 (q.take (c+1))=Xc):=dD<|by
      rw[qr L.out];unfold Z5;rw[Xz]
      simp[enS]
     clear b a;go_wp2
     go_roundg (nq -(c+1))
     case measure=>omega
     exact⟨c+1,g+1,by omega,by omega,by go_num,by go_num,by omega,K,v,show(g+1=0↔Z5 (q.take (c+1))=Xd)from by rw[B.out];simp⟩
   have x:=kD h
   have:c=nq:=by omega
   subst this;have Q:Xo (esW q=0):=dD<|by
    rw[<-u.out,Xu (by rw[f.out];exact nR _)]
    rfl
   have ae:Xo (g=0↔Z5 q=Xd):=dD<|by
    have:=a0.out;rw[Xw (by rw[f.out];exact nR _)]at this
    exact this
   by_cases a:g=0
   ·have d:Xo (Z=2):=C.out 2 (by decide) (by rw[zl4 (by rw[f.out];exact a4),Q,kE rfl,ae.1 a];rfl)
    have b:((g:Int) == 0)=Xc:=by simpa using a
    clear a;go_wp2;go_ret;exact⟨by rw[d.out];rfl,n⟩
   have v:Xo (tbW (t.drop (l+1))=tbW t):=E.out (by
    rw[zl4 (by rw[f.out];exact a4),Q,kE rfl]
    cases c:Z5 q with
    | true=>rfl
    | false=>exact absurd (ae.2 c) a)
   have b:((g:Int) == 0)=Xd:=by simpa using a
   clear a;go_wp2
   go_roundg (8 -(l+1))
   case measure=>omega
   exact⟨l+1,by omega,by omega,by go_num,n,v⟩
  have aa:((nq:Int) != 8)=Xc:=by simp;omega
  have d:Xo (Z=2):=C.out 2 (by decide) (by unfold haW;rw[kF (by rw[f.out];exact N),kF (by rw[f.out];exact I)])
  clear N I;go_wp2;go_ret;exact⟨by rw[d.out];rfl,ab⟩
 have a8:¬(l:Int)<8:=by omega
 have:l=8:=by omega
 subst this;have d:Xo (Z=0):=dD<|by
  rw[<-af.out,<-ac.out,Xu (by rw[ao.tlen];exact nR _)]
  rfl
 go_wp2;go_ret;exact⟨by rw[d.out];rfl,ab⟩
def JP (m:Ma) (kind k:Int) (p:Nat):Nat:=qO ((m.sp.take p).map zo) kind k
theorem zic {kind k:Int} {p:Nat} {s:Sp} (h:m.sp[p]? =Xa s):JP m kind k (p+1)=JP m kind k p+Ze (zo s) kind k 64:=by
 unfold JP qO;rw[Yp,h];simp
theorem zeA {kind k:Int}:JP m kind k m.sp.length=QE m kind k:=by
 unfold JP QE;rw[List.take_length]
theorem zgS {kind k:Int} (p:Nat):JP m kind k p<=64*p:=by
 have:=zb0 ((m.sp.take p).map zo) kind k;simp only[List.length_map,List.length_take]at this;unfold JP;omega
theorem zd7 (V) (m:Ma) (kind k:Int) (w) (hm:zN w V m) (h4:m.sp.length<=4) (h8:∀s∈m.sp,∀h∈s.tb,h.length<=8):
  Xp prog 30 #[Xi (mL V m).toArray,I6 kind,I6 k] w fun e w'=>e= Xl (I6 (QE m kind k:Int))/\zc w w':=by
 obtain⟨-,-,-,-,-,-,-,-,n9⟩:=hm.ns;obtain⟨xs,hxl,hrow,hsp⟩:=hm.spaces;have HR:=dD hrow
 have HS:=dD hsp
 obtain⟨N,HN⟩:=kA m.sp.length;have hN4:N<=4:=by rw[<-HN.out];exact h4
 have HXL:Xo (xs.length=N):=dD<|by rw[hxl];exact HN.out
 have H8:=dD h8
 obtain⟨vf,vs,vsb,vsq,vdb,vdq,vfl,vca,⟨spa,spn,spc⟩⟩:=V;dsimp only[mL]at n9 HR⊢;obtain rfl:spn=N:=by rw[n9];exact HN.out
 clear hm hrow hsp hxl n9 h8 h4;obtain⟨W0,hW0⟩:=kB (w.alloc (Xk #[vf.x,I6 m.hand,vs.x,vsb.x,vsq.x,vdb.x,vdq.x,vfl.x,I6 m.cnt,vca.x,O spa spn spc] 41));have HG0:=gA hW0
 have HW0:Xo (_=W0):=hW0;have X0:=xA hW0
 clear hW0
 go_enter func30,ntmps30
 go_upto_region 2 with fail;rw[HW0.out];have x10:=X0.c 10 rfl;go_wp2;clear x10
 go_loopg [7,15] spn (fun gg s7 s15 wr=>∃p:Nat,p<=spn/\spn - p<=gg/\s15=I6 p/\s7=I6 (JP m kind k p:Int)/\Xo (zc w wr))
 case atStart=>exact⟨0,nZ _,by omega,rfl,rfl,HG0⟩
 obtain⟨p,hp,hg,rfl,rfl,GW⟩:=hrel
 by_cases hlt:p<spn
 ·have hltz:=kC hlt
  obtain⟨x,hx⟩:∃x,xs[p]? =Xa x:=⟨_,gE (by rw[HXL.out];exact hlt)⟩
  obtain⟨s,hs⟩:∃s,m.sp[p]? =Xa s:=⟨_,gE (by rw[HN.out];exact hlt)⟩
  have HAT:=dD<|HS.out p x s hx hs;have HSS:=dD hs;obtain⟨ad,rfl,hl⟩:=HR.out p x hx;have hcl:=hl wr GW.out;obtain⟨d0,d1,d2,d3,d4,d5,d6,d7,d8,d9⟩:=hcl;clear hl hx hs;have HF64:Xo (∀j,j<64->(zct s.tb)[j]? =Xa (zo s j)):=show∀j,_ from fun j hj=>zfK s.tb hj
  have hfl:∀W,zc w W->Xp prog 28 #[Xi #[x.t0.x,x.t1.x,x.t2.x,x.t3.x,x.t4.x,x.t5.x,x.t6.x,x.t7.x]] W fun e w'=>e= Xl (Xi (qv (zct s.tb)).toArray)/\zc W w':=fun W hW=>zeG x.tab s.tb W ((HAT.grew hW).tb) (H8 s (mG HSS))
  have HFL:=dD hfl
  clear hfl;have hb0:=zgS (m:=m) (kind:=kind) (k:=k) p;have HSU:Xo (JP m kind k (p+1)=JP m kind k p+Ze (zo s) kind k 64):=zic HSS.out;obtain⟨H0,hH0⟩:=kB (JP m kind k p);rw[hH0]at hb0 HSU⊢;clear hH0;go_upto_region 5 with fail;obtain⟨W1,hW1⟩:=kB (wr.alloc (Xk #[Xh x.live,x.ar.x,x.t0.x,x.t1.x,x.t2.x,x.t3.x,x.t4.x,x.t5.x,x.t6.x,x.t7.x] 79));have G1:=gT hW1 GW
  have S1:=xA hW1
  rw[hW1];clear hW1 d0 d1 d2 d3 d4 d5 d6 d7 d8 d9;have s2:=S1.c 2 rfl;have s3:=S1.c 3 rfl;have s4:=S1.c 4 rfl;have s5:=S1.c 5 rfl;have s6:=S1.c 6 rfl;have s7:=S1.c 7 rfl;have s8:=S1.c 8 rfl;have s9:=S1.c 9 rfl;go_wp2_with fail;refine(HFL W1 G1).mono ?_;clear s2 s3 s4 s5 s6 s7 s8 s9;rintro e W2 ⟨rfl,g2⟩;have G2:=dD (G1.trans g2);clear g2;go_wp2
  go_loopg [7,22] 64 (fun gg s7 s22 wr=>∃n:Nat,n<=64/\64 - n<=gg/\s22=I6 n/\s7=I6 ((H0+Ze (zo s) kind k n:Nat):Int)/\Xo (zc w wr))
  case atStart=>exact⟨0,nZ _,by omega,rfl,rfl,G2⟩
  obtain⟨n,hn,hg2,rfl,rfl,GW2⟩:=hrel
  by_cases hlt2:n<64
  ·have hltz2:(n:Int)<64:=by omega
   obtain⟨e,HE⟩:=kA (zo s n);have HZF:Xo ((zct s.tb)[n]? =Xa e):=dD<|by rw[HF64.out n hlt2,HE.out]
   have hcl:=zmK (zo s) kind k n;have HCS:Xo (Ze (zo s) kind k (n+1)=Ze (zo s) kind k n+(isE e kind k).toNat):=dD<|by rw[<-HE.out];rfl
   obtain⟨c0,hc0⟩:=kB (Ze (zo s) kind k n);rw[hc0]at hcl HCS⊢;clear hc0
   go_upto_region 8 with(refine zcU rfl (.tmp 21) (.tmp 22) rfl (zct s.tb) rfl n rfl hlt2 HZF.out ?_)
   obtain⟨W3,hW3⟩:=kB (wr.alloc (Xk #[I6 e.kind,I6 e.n,Xh e.wr] 75));have G3:=gT hW3 GW2
   have E3:=xA hW3
   rw[hW3];clear hW3;have e0:=E3.c 0 rfl;have e1:=E3.c 1 rfl
   by_cases h1:e.kind=kind
   ·have h1e:(e.kind == kind)=Xc:=by simp[h1]
    by_cases h2:e.n=k
    ·have h2e:(e.n == k)=Xc:=by simp[h2]
     have HV:Xo (Ze (zo s) kind k (n+1)=c0+1):=dD<|by rw[HCS.out];simp[isE,h1,h2]
     clear h1 h2;go_wp2
     go_roundg (64 -(n+1))
     case measure=>omega
     exact⟨n+1,by omega,by omega,by go_num,by rw[HV.out];go_num,G3⟩
    have h2e:(e.n == k)=Xd:=by simp[h2]
    have HV:Xo (Ze (zo s) kind k (n+1)=c0):=dD<|by rw[HCS.out];simp[isE,h2]
    clear h1 h2;go_wp2
    go_roundg (64 -(n+1))
    case measure=>omega
    exact⟨n+1,by omega,by omega,by go_num,by rw[HV.out];go_num,G3⟩
   have h1e:(e.kind == kind)=Xd:=by simp[h1]
   have HV:Xo (Ze (zo s) kind k (n+1)=c0):=dD<|by rw[HCS.out];simp[isE,h1]
   clear h1;go_wp2
   go_roundg (64 -(n+1))
   case measure=>omega
   exact⟨n+1,by omega,by omega,by go_num,by rw[HV.out];go_num,G3⟩
  have hltz2:¬(n:Int)<64:=by omega
  obtain rfl:n=64:=by omega
  go_wp2
  go_roundg (spn -(p+1))
  case measure=>omega
  exact⟨p+1,by omega,by omega,by go_num,by rw[HSU.out];go_num,GW2⟩
 have hltz:=kD hlt
 obtain rfl:p=spn:=by omega
 have HF:Xo (JP m kind k p=QE m kind k):=dD<|by rw[<-HN.out];exact zeA
 rw[HF.out];go_wp2;go_ret;exact⟨rfl,GW⟩
def zqf (mi it sh ew xw big:Bool):Bool:=(!mi && !it) || (sh && !it) || (ew && !xw) || (ew && it && !sh) || (ew && mi && big)
theorem zp9 {x:On} {e:En} {q:Fr} (h:x.is=Xc) (i:¬e.kind=2) (j:¬(m.fs.length:Int)<=e.n) (k:zW m e.n=q):za4 m x e=if zqf (q.f == -1) (decide (0<=x.file) &&(q.f == x.file) &&(q.x == x.page)) x.sh e.wr x.wr (decide (1<q.r))=Xc then 7 else 0:=by
 have f:zqf (q.f == -1) (decide (0<=x.file) &&(q.f == x.file) &&(q.x == x.page)) x.sh e.wr x.wr (decide (1<q.r))=Xc↔((¬q.f=-1/\¬(0<=x.file/\q.f=x.file/\q.x=x.page))\/(x.sh=Xc/\¬(0<=x.file/\q.f=x.file/\q.x=x.page))\/(e.wr=Xc/\x.wr=Xd)\/(e.wr=Xc/\(0<=x.file/\q.f=x.file/\q.x=x.page)/\x.sh=Xd)\/(e.wr=Xc/\q.f=-1/\1<q.r)):=by
  have c:(decide (0<=x.file) &&(q.f == x.file) &&(q.x == x.page))=Xc↔(0<=x.file/\q.f=x.file/\q.x=x.page):=by simp[and_assoc]
  have d:(q.f == -1)=Xc↔q.f=-1:=by simp
  generalize a:decide (1<q.r)=g
  have b:g=Xc↔1<q.r:=by rw[<-a];simp
  rw[<-c,<-d,<-b];clear c d b a
  generalize(decide (0<=x.file) &&(q.f == x.file) &&(q.x == x.page))=it
  generalize(q.f == -1)=mi
  generalize x.sh=c
  generalize e.wr=b
  generalize x.wr=d
  cases mi <;> cases it <;> cases c <;> cases b <;> cases d <;> cases g <;> decide
 unfold za4;rw[kF (by rw[h];decide),kF i,kF j,k]
 by_cases a:zqf (q.f == -1) (decide (0<=x.file) &&(q.f == x.file) &&(q.x == x.page)) x.sh e.wr x.wr (decide (1<q.r))=Xc
 ·rw[kE a,kE (f.1 a)]
 rw[kF a,kF (fun h=>a (f.2 h))]
theorem zgo (V m) (x:On) (e:En) (w) (ab:zN w V m) (bo:0<=e.n):
  Xp prog 29 #[Xi (mL V m).toArray,Xi #[Xh x.is,Xh x.rd,Xh x.wr,Xh x.sh,I6 x.file,I6 x.page],Xi #[I6 e.kind,I6 e.n,Xh e.wr]] w fun bd w'=>bd= Xl (I6 (za4 m x e))/\zc w w':=by
 obtain⟨ar,au,-⟩:=ab.ns;have F:=dD ab.frs;obtain⟨⟨ao,bb,ap⟩,⟨av,bf,aw⟩,R,T,N,P,Q,M,S⟩:=V;dsimp only[mL]at ar au F⊢;obtain rfl:bb=m.fs.length:=ar;obtain rfl:bf=m.sl.length:=au;obtain⟨E,n⟩:=kA m.fs.length;obtain⟨K,s⟩:=kA m.sl.length;rw[n.out,s.out];clear ab;obtain⟨j,b⟩:=kA (za4 m x e);rw[b.out];obtain⟨t,g⟩:=kB (((w.alloc (Xk #[O ao E ap,I6 m.hand,O av K aw,R.x,T.x,N.x,P.x,Q.x,I6 m.cnt,M.x,S.x] 41)).alloc (Xk #[Xh x.is,Xh x.rd,Xh x.wr,Xh x.sh,I6 x.file,I6 x.page] 81)).alloc (Xk #[I6 e.kind,I6 e.n,Xh e.wr] 75));have r:Xo (zc w t):=show zc _ _ by rw[<-g];exact((za _ _).trans (za _ _)).trans (za _ _)
 have am:Xo (Box t w.heap.size [O ao E ap,I6 m.hand,O av K aw,R.x,T.x,N.x,P.x,Q.x,I6 m.cnt,M.x,S.x]):=dD<|by rw[<-g];exact((Box.top _ _ _ rfl).alloc _).alloc _
 have u:Xo (Box t (w.heap.size+1) [Xh x.is,Xh x.rd,Xh x.wr,Xh x.sh,I6 x.file,I6 x.page]):=dD<|by rw[<-g];exact(Box.top _ _ _ (by simp)).alloc _
 have an:Xo (Box t (w.heap.size+2) [I6 e.kind,I6 e.n,Xh e.wr]):=dD<|by rw[<-g];exact Box.top _ _ _ (by simp)
 have a2:=dD g;clear g
 go_enter func29,ntmps29
 go_upto_region 1 with fail;rw[a2.out];have bi:=am.c 0 rfl;have bj:=am.c 2 rfl;have ah:=u.c 0 rfl;have bk:=u.c 1 rfl;have ai:=u.c 2 rfl;have U:=u.c 3 rfl;have aj:=u.c 4 rfl;have ak:=u.c 5 rfl;obtain⟨bl,ay,al⟩:=an.c3
 cases f:x.is with
 | false=>
  have a:Xo (j=5):=dD<|by rw[<-b.out];unfold za4;rw[kE f]
  rw[f]at ah;go_wp2;go_ret;exact⟨by rw[a.out];rfl,r⟩
 | true=>
  rw[f]at ah
  by_cases v:e.kind=2
  ·have a8:(e.kind == 2)=Xc:=by simp[v]
   by_cases k:(K:Int)<=e.n
   ·have p:decide ((K:Int)<=e.n)=Xc:=by simpa using k
    have a:Xo (j=7):=dD<|by rw[<-b.out];unfold za4;rw[kF (by rw[f];decide),kE v,kE (.inl (by rw[s.out];exact k))]
    go_wp2;go_ret;exact⟨by rw[a.out];rfl,r⟩
   have p:decide ((K:Int)<=e.n)=Xd:=by simpa using k
   have a:Xo (j=if x.sh=Xc then 7 else 0):=dD<|by
    rw[<-b.out];unfold za4;rw[kF (by rw[f];decide),kE v]
    by_cases Z:x.sh=Xc
    ·rw[kE Z,kE (.inr Z)]
    rw[kF Z,kF (by rintro(a7 | a7) <;> first | exact k (by rw[<-s.out];exact a7) | exact Z a7)]
   cases i:x.sh with
   | true=>
    rw[i]at U a;go_wp2;go_ret;exact⟨by rw[a.out];rfl,r⟩
   | false=>
    rw[i]at U a;go_wp2;go_ret;exact⟨by rw[a.out];rfl,r⟩
  have a8:(e.kind == 2)=Xd:=by simp[v]
  by_cases k:(E:Int)<=e.n
  ·have p:decide ((E:Int)<=e.n)=Xc:=by simpa using k
   have a:Xo (j=3):=dD<|by rw[<-b.out];unfold za4;rw[kF (by rw[f];decide),kF v,kE (by rw[n.out];exact k)]
   go_wp2;go_ret;exact⟨by rw[a.out];rfl,r⟩
  have p:decide ((E:Int)<=e.n)=Xd:=by simpa using k
  have ac:e.n< (E:Int):=by omega
  obtain⟨I,Y⟩:∃I:Nat,e.n=(I:Int):=⟨e.n.toNat,by omega⟩
  obtain⟨q,ae⟩:∃q,m.fs[I]? =Xa q:=⟨_,gE (by rw[n.out];omega)⟩
  obtain⟨bn,rfl,aq⟩:=F.out I q ae;have aa:=aq t r.out;have a:Xo (j=if zqf (q.f == -1) (decide (0<=x.file) &&(q.f == x.file) &&(q.x == x.page)) x.sh e.wr x.wr (decide (1<q.r))=Xc then 7 else 0):=dD<|by rw[<-b.out];exact zp9 f v (by rw[n.out];exact k) (by rw[Y];exact z8 ae)
  obtain⟨b1,b2,b3,b4,b5,b6,b7,b8,b9,ba,a4,a5,a6⟩:=aa;rw[Y]at ay ac p k;have bm:=dD Y;clear aq ae v f Y;go_upto_region 10 with fail;obtain⟨az,h⟩:=kB (t.alloc (Xk #[U8 q.p.b0,U8 q.p.b1,U8 q.p.b2,U8 q.p.b3,U8 q.p.b4,U8 q.p.b5,U8 q.p.b6,U8 q.p.b7,I6 q.r,Xh q.u,Xh q.d,I6 q.f,I6 q.x] 62));obtain⟨bp,G⟩:=kA t.heap.size;have d:=gT h r
  have a3:=xP h G
  have W:=yA h u
  have b0:=yA h an
  rw[h,G.out];clear h b1 b2 b3 b4 b5 b6 b7 b8 b9 ba a4 a5 a6 bi bj ah bk ai U aj ak bl ay al;have bq:=a3.c 8 rfl;have af:=a3.c 11 rfl;have ag:=a3.c 12 rfl;have ai:=W.c 2 rfl;have U:=W.c 3 rfl;have aj:=W.c 4 rfl;have ak:=W.c 5 rfl;have al:=b0.c 2 rfl;go_upto_region 11 with fail;obtain⟨B,l⟩:=kA (decide (0<=x.file) &&(q.f == x.file) &&(q.x == x.page));rw[l.out]at a
  go_cut [9] (fun be bh=>be= Xh B/\bh=az)
  case first=>
   by_cases L:0<=x.file
   ·have C:decide ((0:Int)<=x.file)=Xc:=by simpa using L
    by_cases a0:q.f=x.file
    ·have D:(q.f == x.file)=Xc:=by simp[a0]
     have H:Xo ((q.x == x.page)=B):=dD<|by rw[<-l.out,C,D];rfl
     clear L a0;go_wp2
     go_meet
     exact⟨by rw[H.out],rfl⟩
    have D:(q.f == x.file)=Xd:=by simp[a0]
    have H:Xo (Xd=B):=dD<|by rw[<-l.out,D];simp
    clear L a0;go_wp2
    go_meet
    exact⟨by rw[<-H.out],rfl⟩
   have C:decide ((0:Int)<=x.file)=Xd:=by simpa using L
   have H:Xo (Xd=B):=dD<|by rw[<-l.out,C];rfl
   clear L;go_wp2
   go_meet
   exact⟨by rw[<-H.out],rfl⟩
  obtain⟨rfl,rfl⟩:=hcut;obtain⟨bc,z⟩:=kB (q.f == -1);obtain⟨c,a9⟩:=kB (decide (1<q.r));rw[z,a9]at a;try rw[z]
  obtain⟨ax,i⟩:=kB x.sh;obtain⟨X,y⟩:=kB e.wr;obtain⟨a1,A⟩:=kB x.wr;rw[i,y,A]at a;rw[i]at U;rw[y]at al;rw[A]at ai;clear i y A z aj ak af ag
  cases bc with
  | false=>
   cases B with
   | false=>
    (go_wp2;go_ret;exact⟨by rw[a.out];first | rfl | (cases c <;> rfl),d⟩)
   | true=>
    cases ax with
    | false=>
     cases X with
     | false=>
      (go_wp2;go_ret;exact⟨by rw[a.out];first | rfl | (cases c <;> rfl),d⟩)
     | true=>
      cases a1 with
      | false=>
       (go_wp2;go_ret;exact⟨by rw[a.out];first | rfl | (cases c <;> rfl),d⟩)
      | true=>
       (go_wp2;go_ret;exact⟨by rw[a.out];first | rfl | (cases c <;> rfl),d⟩)
    | true=>
     cases X with
     | false=>
      (go_wp2;go_ret;exact⟨by rw[a.out];first | rfl | (cases c <;> rfl),d⟩)
     | true=>
      cases a1 with
      | false=>
       (go_wp2;go_ret;exact⟨by rw[a.out];first | rfl | (cases c <;> rfl),d⟩)
      | true=>
       (go_wp2;go_ret;exact⟨by rw[a.out];first | rfl | (cases c <;> rfl),d⟩)
  | true=>
   cases ax with
   | false=>
    cases X with
    | false=>
     (go_wp2;go_ret;exact⟨by rw[a.out];first | rfl | (cases c <;> rfl),d⟩)
    | true=>
     cases a1 with
     | false=>
      (go_wp2;go_ret;exact⟨by rw[a.out];first | rfl | (cases c <;> rfl),d⟩)
     | true=>
      cases B with
      | false=>
       cases c with
       | false=>
        (go_wp2;go_ret;exact⟨by rw[a.out];first | rfl | (cases c <;> rfl),d⟩)
       | true=>
        (go_wp2;go_ret;exact⟨by rw[a.out];first | rfl | (cases c <;> rfl),d⟩)
      | true=>
       (go_wp2;go_ret;exact⟨by rw[a.out];first | rfl | (cases c <;> rfl),d⟩)
   | true=>
    cases B with
    | false=>
     (go_wp2;go_ret;exact⟨by rw[a.out];first | rfl | (cases c <;> rfl),d⟩)
    | true=>
     cases X with
     | false=>
      (go_wp2;go_ret;exact⟨by rw[a.out];first | rfl | (cases c <;> rfl),d⟩)
     | true=>
      cases a1 with
      | false=>
       (go_wp2;go_ret;exact⟨by rw[a.out];first | rfl | (cases c <;> rfl),d⟩)
      | true=>
       cases c with
       | false=>
        (go_wp2;go_ret;exact⟨by rw[a.out];first | rfl | (cases c <;> rfl),d⟩)
       | true=>
        (go_wp2;go_ret;exact⟨by rw[a.out];first | rfl | (cases c <;> rfl),d⟩)
theorem zml {s:Sp} (h:tbW s.tb=0) (n:Nat):enW (zo s n)=0:=by
 unfold zo zaL;have a:=ZS.1 h;have:zhA (s.tb[n / 8]?.getD []):=by
  cases e:s.tb[n / 8]? with
  | none=>exact .inl rfl
  | some x=>exact a x (mG e)
 exact this.get (n % 8)
theorem zqa {e:En} (h:enW e=0):0<=e.n:=by
 unfold enW at h
 split at h
 ·split at h
  ·omega
  cases h
 cases h
structure Pts (m:Ma):Prop where
 s4:m.sp.length<=4
 f40:m.fs.length<=40
 fr:∀(k:Nat) f,m.fs[k]? =Xa f->0<=f.r/\f.r<=1000
 fl:m.fl.length<=5/\∀f∈m.fl,f.bl.length<=12
 ar:∀s∈m.sp,(wrL s.ars).1=0/\tbW s.tb=0
theorem zpZ (h:J7 m=0):Pts m:=by
 unfold J7 at h;rw[zn]at h;have b:Qa m.fs m.hand=0:=h _ (by simp)
 have t:stW m.fl m.cnt=0:=h _ (by simp)
 have l:(if 4<m.sp.length then(4:Int)else 0)=0:=h _ (by simp)
 have j:=zn.1 (h (zu (m.sp.map spE)) (by simp))
 obtain⟨⟨n,u,v⟩,p,w⟩:=(z6 _ _).1 t;unfold Qa at b
 split at b
 ·cases b
 rename_i x
 split at b
 ·rename_i c
  refine⟨?_,by omega,fun y f g=>?_,⟨n,fun f g=>?_⟩,fun s r=>?_⟩
  ·split at l
   ·cases l
   omega
  ·have i:=zaj.1 c f (mG g);unfold frW at i
   split at i
   ·cases i
   rename_i q
   simp[inB]at q
   omega
  ·obtain⟨k,z,A⟩:=p f g;have:=zfP k.1 k.2;omega
  have a:=j (spE s) (List.mem_map.2 ⟨s,r,rfl⟩);unfold spE at a
  split at a
  ·rename_i d
   exact absurd a d
  rename_i d
  split at a
  ·rename_i e
   exact absurd a e
  rename_i e
  exact⟨Classical.byContradiction d,Classical.byContradiction e⟩
 rename_i c
 exact absurd b c
theorem tb8 {t:List (List En)} (h:tbW t=0):∀x∈t,x.length<=8:=fun x a=>by
 rcases ZS.1 h x a with e|e
 ·rw[e];simp
 rw[e.1];omega
theorem ziA {l:List Ca} {c:Ca} {k:Int} (h:l[j]? =Xa c):zL (l.take (j+1)) k=zL (l.take j) k+(decide (c.fr=k)).toNat:=by
 unfold zL;rw[Yp,h]
 simp[List.countP_append,List.countP_cons,Bool.toNat]
theorem zmO {l:List Ca} (j:Nat) {k:Int}:zL (l.take j) k<=j:=nT List.countP_le_length (by simp;omega)
theorem zqd (h:maW m=0):∀c∈m.ca,0<=c.fr/\c.fr< (m.fs.length:Int):=fun c b=>by
 unfold maW at h;rw[zn]at h;have a:=(zp.1 (h (zbH m Xb m.ca) (by simp))).1 c b
 unfold caE at a
 split at a
 ·cases a
 omega
theorem zlR (h:maW m=0):J7 m=0:=by
 unfold maW at h;rw[zn]at h;exact h _ (by simp)
theorem znm {w:Xn} (i:Nat) (hi:i<8) {v:Xq} (g:vs[i]? =Xa v):(Instr.index 60 (Xi vs.toArray) (I6 (i:Int))).run prog w= .ok v w:=by
 have e:(isAgg 5).run prog w= .ok Xd w:=by
  unfold isAgg;rw[Xs,run_underlying underlying5 w];rfl
 have f:(Go.sizeOf 5).run prog w= .ok 1 w:=by
  obtain⟨a,c,d⟩:∃a,Tryz.prog.info? 5=Xa a/\a.size=1:=by
   have:(Tryz.prog.info? 5).map (·.size)=Xa 1:=by kernel_rfl
   cases b:Tryz.prog.info? 5 with
   | none=>rw[b]at this;cases this
   | some a=>rw[b]at this;exact⟨a,rfl,by simpa using this⟩
  simp[Go.sizeOf,typeInfo,c,d]
 have a:(0:Int)<=(i:Int)/\(i:Int)< ((8:Nat):Int):=by omega
 simp only[Instr.index,asIntOf,Xs,Xv,rA,run_underlying underlying60];rw[kE a];simp only[Xs,f,rA,part,e,Yk,tN]
 simp[g]
theorem zoR {rest:List Oper} {a:Act} {w:Xn} (b:o.guard=Xb) (x ix) (d:o.op= .index 60 x ix) (vs:List Xq) (f:a.eval x= Xi vs.toArray) (i:Nat) (c:a.eval ix=I6 (i:Int)) (hi:i<8) {v:Xq} (e:vs[i]? =Xa v)
  (h:wpList prog ops Q rest (a.put o.dst v) w):wpList prog ops Q (o :: rest) a w:=by
 refine wpList_plain b fun K b=>?_
 unfold Oper.wp execOp;simp only[d,f,c,Xs,Xv,rA,znm i hi e];exact b _ _ h
def byD (m:Ma) (fi k:Nat):Int:=(qn m (fi:Int) ((k / 8:Nat):Int)).getD (k % 8) 0
def Byt (m:Ma) (file:Int) (w:Xn) (e:Ending) (w':Xn):Prop:=∃u,e= Xl (Xm #[u,Xe Xf (QH m file)])/\zb byE w.heap.size w' u (Q3 m file)
theorem zpq (h:maW m=0) {f:Fl} (c:m.fl[fi]? =Xa f):(0<=f.size/\f.size<=96)/\(f.bl.length:Int)=JI f.size:=by
 have a:=zlR h;unfold J7 at a;rw[zn]at a;have b:=((z6 _ _).1 (a (stW m.fl m.cnt) (by simp))).2.1 f (mG c)
 exact⟨b.1,b.2.1⟩
theorem zhk {w:Xn} {v:Xq} {l:List Int} (b:zq byE w v l):(convert 24 9 v).run prog w= .ok (.string (strOfNums l)) w:=by
 have h:=byE.und;have g:Tryz.prog.underlying 5=Xa (.int .u8):=underlying5;have f:Tryz.prog.underlying 9=Xa .string:=underlying9;obtain⟨a,d,c,e⟩:=b.rows;subst c
 cases a with
 | none=>
  have:l=[]:=by
   cases l with
   | nil=>rfl
   | cons x l=>
    obtain⟨i,b,_⟩:=e 0 x rfl;cases b
  subst this;exact run_convert_bytes_nil w 24 5 h g _ _ 9 f
 | some x=>
  have k:∀(j:Nat) u,(l.map (Value.int .u8))[j]? =Xa u->w.cell? (x.add j)=Xa u:=fun j u a=>by
   rw[Yd]at a
   cases c:l[j]? with
   | none=>rw[c]at a;cases a
   | some z=>
    rw[c]at a;simp only[Option.map_some,Option.some.injEq]at a;obtain⟨i,b,i⟩:=e j z c;cases b;have:=i w (zc.refl _) 0 u (by rw[<-a];rfl)
    simp only[byE,Yk,zV,Nat.add_zero]at this;exact this
  have a:=run_loadCells_list (P:=prog) w x (l.map (Value.int .u8)) k;rw[List.length_map]at a;rw[run_convert_bytes_string w 24 9 5 _ _ d h g f,run_bytesToString w x l.length d l a,foldl_push_bytes]
  simp[strOfNums,ByteArray.empty,ByteArray.emptyWithCapacity]
  rfl
theorem zo4 {α:Type} (E:Elt α) (w):zq E w (eS) ([]:List α):=(zb.nil E 0 w).at
theorem zjQ:Zt (fun _=>en0)=qI:=by kernel_rfl
theorem zoj {F S B:Int} (h:zpt F S B):Zn (zgD F.toNat S.toNat B.toNat 1) [fun _=>en0] 0=zcr F S B:=by
 unfold Zn zgD zcr;simp only[List.replicate_one,List.zipWith_cons_cons,List.zipWith_nil_left,zjQ]
 congr 1
 unfold zpt at h;omega
def nm2:Ma:=zcr 2 2 2
def sp2:Sp:=⟨Xc,[],qI⟩
theorem zkT (w):Xp prog 6 #[I6 2,I6 2,I6 2,eS] w fun e w'=>(∃V:MaV,e= Xl (Xi #[V.f.x,I6 0,V.s.x,V.sb.x,V.sq.x,V.db.x,V.dq.x,V.fl.x,I6 2,V.ca.x,V.sp.x])/\zN w' V nm2)/\Rt nm2/\zc w w':=by
 refine(zhl 2 2 2 2 2 2 (by decide) (by decide) (by decide) zK [] w (zo4 _ _) (nR _) (by simp)).mono ?_
 rintro e w' ⟨f,i,a,a,a,a,a,rfl,b⟩;obtain⟨c,g,d⟩:=b.new rfl;have a:=b.at;have h:Zn (zgD 2 2 2 1) [fun _=>en0] 0=nm2:=zoj (F:=2) (S:=2) (B:=2) (by unfold zpt;omega)
 rw[c,g,d,h]at a;have g:i.cnt=2:=by rw[c];rfl
 refine⟨⟨f,by rw[g,d],a.1⟩,⟨a.2,fun s a=>?_⟩,b.gr⟩
 have:s=sp2:=by
  have a:s∈[sp2]:=a
  simpa using a
 rw[this];rfl
theorem zo7:JV nm2.fs nm2.hand=-1/\(Zu nm2).fs.length=2/\Qa nm2.fs nm2.hand=0:=⟨by kernel_rfl,by kernel_rfl,by kernel_rfl⟩
theorem ziM (w):Xp prog 5 #[] w fun e w'=>e= Xl (Xh Xc)/\zc w w':=by
 have a:=zkT w
 go_enter func5,ntmps5
 go_wp2_with fail;refine a.mono ?_;clear a;rintro e b ⟨⟨V,rfl,d⟩,a,c⟩;have f:=dD c;have g:=dD d;have r:=dD a;clear c d a;go_upto_region 2 with fail;obtain⟨a,c⟩:=kA b.heap.size;obtain⟨d,a⟩:=kB (b.alloc (Xk #[V.f.x,I6 0,V.s.x,V.sb.x,V.sq.x,V.db.x,V.dq.x,V.fl.x,I6 2,V.ca.x,V.sp.x] 41));have b:=gP a
 have y:=xPT a c
 have A:=dD (f.trans b);have u:=dD (g.grew b);rw[a,c.out];clear a b;have a:=zeK V nm2 d u r.w (fun c b=>c=Xd/\b.fs.length=2) (fun b W p b b=>(zip b zo7.2.2 zo7.1 (by decide) (by decide) _).mono (by
  rintro e w' ⟨rfl,h⟩;exact⟨Xd,Zu nm2,rfl,⟨rfl,zo7.2.1⟩,h⟩))
 obtain⟨f,g,h,i,j,k,l,m,n,p,b⟩:=y.box.c11;go_wp2_with fail;refine a.mono ?_;clear a f g h i j k l m n p b;rintro e x ⟨⟨c,z,v,⟨rfl,a⟩,rfl,c⟩,d⟩;obtain⟨q,-⟩:=(c _ (qT.refl _ _)).ns;have s:Xo (v.f.n=2):=dD<|by rw[q,a]
 clear q a c;go_upto_region 3 with fail;obtain⟨c,t⟩:=kA x.heap.size;obtain⟨q,a⟩:=kB (x.alloc (Xk (mL v z).toArray 41));have c:=gP a
 have D:=xPT a t
 have z:=dD (y.grew (d.trans c));have C:=dD (A.trans (d.trans c));have x:=dD (u.grew (d.trans c));rw[a,t.out];clear a d c;have c:Xp prog 11 #[Xi #[V.f.x,I6 0,V.s.x,V.sb.x,V.sq.x,V.db.x,V.dq.x,V.fl.x,I6 2,V.ca.x,V.sp.x]] q fun e w'=>(∃a:MaV,e= Xl (Xm #[Xi #[a.f.x,I6 0,a.s.x,a.sb.x,a.sq.x,a.db.x,a.dq.x,a.fl.x,I6 2,a.ca.x,a.sp.x],Xh Xd,I6 0])/\zN w' a nm2)/\zc q w':=zkM V nm2 q x r.w rfl
 obtain⟨f,g,h,i,j,k,l,m,n,p,b⟩:=z.box.c11;go_wp2_with fail;refine c.mono ?_;clear c f g h i j k l m n p b;rintro e y ⟨⟨c,rfl,d⟩,q⟩;obtain⟨-,u,-⟩:=d.ns;have t:Xo (c.s.n=2):=u;clear u d;go_upto_region 4 with fail;obtain⟨d,v⟩:=kA y.heap.size;obtain⟨u,d⟩:=kB (y.alloc (Xk #[c.f.x,I6 0,c.s.x,c.sb.x,c.sq.x,c.db.x,c.dq.x,c.fl.x,I6 2,c.ca.x,c.sp.x] 41));have c:=gP d
 have B:=xPT d v
 have E:=dD (D.grew (q.trans c));have A:=dD (z.grew (q.trans c));have D:=dD (C.trans (q.trans c));have z:=dD (x.grew (q.trans c));rw[d,v.out];clear d q c;have c:Xp prog 14 #[Xi #[V.f.x,I6 0,V.s.x,V.sb.x,V.sq.x,V.db.x,V.dq.x,V.fl.x,I6 2,V.ca.x,V.sp.x],I6 0] u fun e w'=>(∃a:MaV,e= Xl (Xm #[Xi #[a.f.x,I6 0,a.s.x,a.sb.x,a.sq.x,a.db.x,a.dq.x,a.fl.x,I6 2,a.ca.x,a.sp.x],I6 0])/\zN w' a (Zx nm2 (jX (ZJ 0) nm2.db nm2.dq))/\∃d,a.sp=⟨Xa ⟨d,0,Xb⟩,1,1⟩)/\zc u w':=zeN V nm2 0 u z r.out
 obtain⟨f,g,h,i,j,k,l,m,n,p,b⟩:=A.box.c11;go_wp2_with fail;refine c.mono ?_;clear c f g h i j k l m n p b;rintro e x ⟨⟨a,rfl,c,-⟩,d⟩;obtain⟨-,-,-,-,v,-,-,-,y⟩:=c.ns;have q:Xo (a.db.n=2):=dD<|by
  rw[v]
  show(jX (ZJ 0) nm2.db nm2.dq).length=2
  kernel_rfl
 have u:Xo (a.sp.n=1):=y;clear v y c;go_upto_region 5 with fail;obtain⟨c,y⟩:=kA x.heap.size;obtain⟨v,c⟩:=kB (x.alloc (Xk #[a.f.x,I6 0,a.s.x,a.sb.x,a.sq.x,a.db.x,a.dq.x,a.fl.x,I6 2,a.ca.x,a.sp.x] 41));have a:=gP c
 have x:=xPT c y
 have C:=dD (B.grew (d.trans a));have F:=dD (E.grew (d.trans a));have E:=dD (A.grew (d.trans a));have A:=dD (D.trans (d.trans a));have B:=dD (z.grew (d.trans a));rw[c,y.out];clear c d a;have a:Xp prog 12 #[Xi #[V.f.x,I6 0,V.s.x,V.sb.x,V.sq.x,V.db.x,V.dq.x,V.fl.x,I6 2,V.ca.x,V.sp.x],I6 0] v fun e w'=>e= Xl (Xm #[Xi qo.toArray,I6 5])/\zc v w':=zgd V nm2 0 v B r.w (.inr (by decide))
 obtain⟨f,g,h,i,j,k,l,m,n,p,b⟩:=E.box.c11;go_wp2_with fail;refine a.mono ?_;clear a f g h i j k l m n p b;rintro e d ⟨rfl,c⟩;unfold qo;go_upto_region 6 with fail;obtain⟨a,b⟩:=kB (d.alloc (Xk zM.toArray 41));have a:=gP b
 have f:=dD (A.trans (c.trans a));have i:=(F.grew (c.trans a)).box.c 0 rfl;have g:=(C.grew (c.trans a)).box.c 2 rfl;have h:=(x.grew (c.trans a)).box.c 5 rfl;have d:=(x.grew (c.trans a)).box.c 10 rfl;(try simp only[Sli.x]at i g h d);rw[s.out]at i;rw[t.out]at g;rw[q.out]at h;rw[u.out]at d;rw[b];clear b c a;go_wp2;go_ret;exact⟨rfl,f⟩
theorem ziq {w:Xn} {p:Nat} (h:ChW w0 p w V m) (q:Nat) (t:q<m.sp.length) (n:Int):
  Xp prog 154 #[Xj (Xa ⟨p,0,Xb⟩),Xi #[I6 (q:Int),I6 n]] w fun e w'=>e= Xl (enV (zp8 m q n))/\zc w w':=by
 obtain⟨s,u⟩:∃s,m.sp[q]? =Xa s:=⟨_,gE t⟩;obtain⟨b,f,z,A⟩:=h.sp;obtain⟨x,d⟩:∃x,b[q]? =Xa x:=⟨_,gE (by rw[z];exact t)⟩
 have g:=dD<|A q x s d u w (qT.refl _ _);obtain⟨B,a⟩:=kA b.length;obtain⟨l,C,b⟩:=f.formS (by omega)
 rw[a.out]at b;have c:=h.box.box.c 10 rfl;rw[b]at c f;have i:(q:Int)< (B:Int):=by have:=a.out;omega
 have a:=dD c;have i:=dD h.box;have a:=(f.one d).sp10;rw[Xt,zA]at a;have j:Xo (∀W,zc w W->zoz W ⟨l,q*10,Xb⟩ x):=show∀W,_ from fun W r=>by
  have:=((f.grew r).one d).sp10;rw[Xt,zA]at this;exact this
 have k:=dD b;obtain⟨E,v⟩:=kA (zp8 m q n);have D:Xo (∀W,zc w W->Xp prog 82 #[Xi #[x.t0.x,x.t1.x,x.t2.x,x.t3.x,x.t4.x,x.t5.x,x.t6.x,x.t7.x],I6 n] W fun e w'=>e= Xl (enV E)/\zc W w'):=show∀W,_ from fun W r=>by
  have y:=zah x.tab s.tb n W (g.tb.grew r);rw[show zeC s.tb n=E from by rw[<-v.out];unfold zp8;rw[Sp.getD_of u]]at y
  exact y
 rw[v.out];clear h t u f z A d b c a;obtain⟨s,b⟩:=kB ((w.alloc (Xk #[I6 (q:Int),I6 n] 214)).alloc (Xk #[I6 0,I6 0,Xh Xd] 75));have g:=gD2 b
 have h:=x2a b
 have t:=x2b b
 have c:=dD b;clear b
 go_enter func154,ntmps154
 go_upto_region 1 with fail;rw[c.out];obtain⟨F,r⟩:=kA w.heap.size;rw[r.out]at h t⊢;obtain⟨f,b⟩:∃f:Xn->Prop,Xo (∀u,f u↔zc s u):=⟨fun u=>zc s u,fun _=>Iff.rfl⟩
 have c:=(b _).2 (gW _)
 have G:∀y:zh f,y.world.cell? ⟨p,10,Xb⟩=Xa (O (Xa ⟨l,0,Xb⟩) B C):=fun y=>by rw[<-k.out];exact(i.box.grew (g.trans ((b _).1 y.holds))).c 10 rfl
 have i:=h.h b 0 rfl
 have k:=h.h b 1 rfl
 have a:∀y:zh f,zoz y.world ⟨l,q*10,Xb⟩ x:=fun y=>j.out _ (g.trans ((b _).1 y.holds))
 have j:=fun y=>(a y).2.2.1
 have l:=fun y=>(a y).2.2.2.1
 have s:=fun y=>(a y).2.2.2.2.1
 have v:=fun y=>(a y).2.2.2.2.2.1
 have z:=fun y=>(a y).2.2.2.2.2.2.1
 have A:=fun y=>(a y).2.2.2.2.2.2.2.1
 have B:=fun y=>(a y).2.2.2.2.2.2.2.2.1
 have C:=fun y=>(a y).2.2.2.2.2.2.2.2.2
 dsimp only at j l s v z A B C;clear a;have h:Nonempty (zh f):=⟨⟨_,c⟩⟩;refine zG (I:=f) 13 [(12,fun a=>a=enV E)] (fun u=>True) c trivial zY (by kernel_rfl) rfl rfl (by decide) ?hS (by kernel_rfl) ?_
 case hS=>
  intro x d;simp only[mC,nM,or_false]at d;subst d;exact⟨_,rfl⟩
 simp only[Xx,Xy];refine ze ?_
 refine zJ (.tmp 5) ⟨p,0,Xb⟩ rfl rfl rfl rfl ?_;refine Uq ?_;iterate 10 refine ze ?_
 refine zI rfl rfl (fun _ u=>True) (fun w' a d=>?_) (fun d f=>?_)
 ·refine zQ.call [Xi #[x.t0.x,x.t1.x,x.t2.x,x.t3.x,x.t4.x,x.t5.x,x.t6.x,x.t7.x],I6 n] rfl func82 rfl rfl rfl ?_;refine(D w' (g.trans ((b _).1 a))).mono ?_;rintro e d ⟨rfl,d⟩;exact⟨_,rfl,(b _).2 (((b _).1 a).trans d),rfl,trivial⟩
 cases f;refine Uq ?_;refine qe fun a a d=>?_
 have f:=dD<|(b _).1 a;have b:=dD (t.grew f);clear a d c G i k j l s v z A B C h;unfold enV;refine zF rfl 75 (.tmp 4) (.tmp 17) rfl (F+1) rfl [I6 E.kind,I6 E.n,Xh E.wr] rfl b rfl (by kernel_rfl) (by simp[Value.oneCell']) ?_
 intro c a b _;have d:Xo (zc w c):=dD<|zd (g.trans f) b (by have:=r.out;omega)
 have c:=dD a;clear a b;go_wp2;refine bodyPost_ret (zX rfl _ rfl c underlying75 rfl (by kernel_rfl)) rfl ⟨rfl,d⟩
theorem hoF (a) (c:Nat) (fs:List Fr) (h:Int) (i:Nat) (q:Fr) (u:Int) (w:Xn) (E:qh w (O a fs.length c) fs) (S:Qa fs h=0) (P:fs[i]? =Xa q) (bo:(q.r == 0)=Xd) (bn:¬u< -q.r) (be:¬1000 - q.r<u) (au:q.r+u=0):
  Xp prog 151 #[Xi #[O a fs.length c,I6 h],I6 (i:Int),I6 u] w fun e w'=>∃b,e= Xl (Xm #[Xi #[b,I6 h],I6 0])/\zk w.heap.size w' b (fs.set i frF)/\zc w w':=by
 have a0:=dD E;have b5:=dD au;clear au;have Z:∀W,zc w W->Xp prog 71 #[Xi #[O a fs.length c,I6 h]] W fun e w'=>e= Xl (I6 (Qa fs h))/\zc W w':=fun W ae=>by rw[S];exact Jq a c fs h W (a0.grew ae) S
 have A:∀W,Xp prog 103 #[I6 (i:Int),I6 (fs.length:Int)] W fun e w'=>e= Xl (Xh (inB (i:Int) fs.length))/\w'=W:=fun W=>ZP (i:Int) _ W
 have ah:∀W,zc w W->Xp prog 86 #[Xi #[O a fs.length c,I6 h]] W fun e w'=>∃b,e= Xl (Xi #[b,I6 h])/\zk W.heap.size w' b fs/\zc W w':=fun W ae=>zaw a c fs h W (a0.grew ae)
 have s:=zbA ((Zj S).2.1 q (mG P));have t:=(gS.1 P).1;obtain⟨bk,bl,af,x⟩:=E.frs;cases af;obtain⟨b6,rfl,ar⟩:=x i q P;have b4:=dD ar;have am:=dD P;clear x ar P;simp only[show inB (i:Int) fs.length=Xc from by simp[inB];exact t]at A
 have M:=E.short;clear E;simp only[S]at Z;clear S;obtain⟨y,F⟩:=kA fs.length;simp only[F.out]at Z a0 M A ah t⊢;have bd:(i:Int)< (y:Int):=by omega
 obtain⟨ba,bb⟩:=s;obtain⟨an,j⟩:=kB ((w.alloc (Xk #[O (Xa b6) y c,I6 h] 28)).alloc (Xk #[eS,I6 0] 28));have g:=gD2 j
 have X:=x2a j
 have ao:=x2b j
 have a1:=dD j;clear j
 go_enter func151,ntmps151
 go_upto_region 1 with fail;rw[a1.out];have a9:=X.c 0 rfl;have aa:=X.c 1 rfl;go_wp2_with fail;refine(Z _ g).mono ?_;rintro e a5 ⟨rfl,ap⟩;have B:=dD ap;clear ap a9 aa Z;obtain⟨-,-,-,-,-,-,-,-,b7,-,-,-,-⟩:=b4.out a5 (g.trans B);have a9:=(X.grew B).c 0 rfl;have aa:=(X.grew B).c 1 rfl
 go_wp2_with (go_at_call 103;refine(A _).mono ?_;rintro e w' ⟨rfl,Q⟩;rw[Q];clear Q w')
 refine(ah _ (g.trans B)).mono ?_;rintro e C ⟨b,rfl,f,ac⟩;obtain⟨l,D,rfl⟩:=f.formS (by rw[F.out];omega)
 rw[F.out]at f⊢;have a2:=dD f;have al:=dD (B.trans ac);have ab:=dD<|bS ac;clear f ac a9 aa ah b7;have bc:=a2.lt l rfl;have bf:l≠C.heap.size:=by omega
 have u8:=(a2.grew (za C (Xk #[O (Xa ⟨l,0,Xb⟩) y D,I6 h] 28))).frc am 8 rfl
 go_wp2_with (refine qy rfl (.tmp 61) (.tmp 59) 3 rfl a5.heap.size (O (Xa ⟨l,0,Xb⟩) y D) fs (a2.grew (za _ _)) l i 8 rfl q { q with r:=q.r+u } am.out [I6 (q.r+u)] (by kernel_rfl) rfl (Ye rfl) (by intro bp av;simp at av;subst av;rfl) _ rfl (by simp) _ rfl rfl ?_)
 intro H T n aj;have G:=dD T;have b9:=ab.out;have b8:=bS B.out;have bh:=ao.lt;have Y:Xo (Box H C.heap.size [O (Xa ⟨l,0,Xb⟩) y D,I6 h]):=(Box.top C _ _ rfl).beside n (fun L d=>by cases d;omega)
 have m:Xo (Box H (w.heap.size+1) [eS,I6 0]):=((ao.grew al).alloc _).beside n (fun L d=>by cases d;omega)
 have b1:Xo (zc an H):=zT (al.trans (za _ _)) n (fun L d=>by cases d;omega)
 have I:Xo ((fs.set i { q with r:=q.r+u })[i]? =Xa { q with r:=q.r+u }):=dD<|by rw[sF (by rw[F.out];exact t)]
 clear T n aj u8;have u8:=G.frc I 8 rfl;have aw:=Y.c 0 rfl;have ax:=Y.c 1 rfl;have ay:=m.c 0 rfl;have az:=m.c 1 rfl;have b0:=m.f;simp only at u8;have bg:(q.r+u == 0)=Xc:=by simp[b5.out]
 go_wp2;have ai:∀V:zl H,V.world.cell? ⟨C.heap.size,0,Xb⟩=Xa (O (Xa ⟨l,0,Xb⟩) y D):=fun V=>(Y.grew V.grew).c 0 rfl
 have N:Nonempty (zl H):=⟨⟨_,zc.refl _⟩⟩;clear u8 aw ax ay az b0;refine Zr 5 [(3,⟨fun v=>v= Xi (frv frF).toArray,fun _ _=>True⟩)] zY (by kernel_rfl) rfl rfl (by decide) ?_ ?_ ?_
 ·intro V R
  simp at R
  subst R;exact⟨_,rfl⟩
 ·intro V R
  simp at R
  subst R;exact fun _ _ _ _ h=>h
 simp only[Xx,Xy];iterate 3 refine zg ?_
 refine zH rfl rfl (fun w' bm aq=>?_) (fun bq E=>?_)
 ·refine zQ.call [] rfl func100 rfl rfl rfl ?_;refine(JF w').mono ?_;rintro e bi ⟨rfl,ag⟩;exact⟨_,rfl,ag,rfl,trivial⟩
 subst E;simp only[Yn,sB,sS,sZ,frv,frF,pg0];refine zg ?_
 refine z7 fun bj k aq=>?_
 have a3:=dD (G.grew k);have a8:=dD (Y.grew k);have a7:=dD (m.grew k);have b2:=dD (b1.trans k);clear aq ai k N
 go_wp2_with (refine zbz rfl (.tmp 73) (.tmp 72) rfl a5.heap.size _ _ a3 l i rfl frF (by rw[Yg,F.out];exact t) _ rfl (by simp) _ rfl rfl ?_)
 intro a6 U p ak;have a4:=dD U;have K:Xo (Box a6 C.heap.size [O (Xa ⟨l,0,Xb⟩) y D,I6 h]):=a8.beside p (fun L d=>by cases d;omega)
 have z:Xo (Box a6 (w.heap.size+1) [eS,I6 0]):=a7.beside p (fun L d=>by cases d;omega)
 have b3:Xo (zc an a6):=zT b2 p (fun L d=>by cases d;omega)
 clear U p ak;have aw:=K.c 0 rfl;have ax:=K.c 1 rfl;have ay:=z.c 0 rfl;have az:=z.c 1 rfl;have b0:=z.f;go_wp2;refine bodyPost_ret (v:= Xm #[Xi #[O (Xa ⟨l,0,Xb⟩) y D,I6 h],I6 0]) (by simp[results,Tryz.results151,go_sem, *]) rfl ⟨_,rfl,?_,?_⟩
 ·exact((a4.setCell (a:=⟨w.heap.size+1,0,Xb⟩) (by show w.heap.size+1<_;omega) _).setCell (a:=⟨w.heap.size+1,1,Xb⟩) (by show w.heap.size+1<_;omega) _).base (by have:=bS g.out;omega)
 exact zy (zy (g.trans b3) (by simp) _) (by simp) _
theorem hoG (a) (c:Nat) (fs:List Fr) (h:Int) (i:Nat) (q:Fr) (m:Int) (w:Xn) (L:qh w (O a fs.length c) fs) (D:Qa fs h=0) (B:fs[i]? =Xa q) (au:(q.r == 0)=Xd) (ar:¬m< -q.r) (am:¬1000 - q.r<m) (av:(q.r+m == 0)=Xd):
  Xp prog 151 #[Xi #[O a fs.length c,I6 h],I6 (i:Int),I6 m] w fun e w'=>∃b,e= Xl (Xm #[Xi #[b,I6 h],I6 0])/\zk w.heap.size w' b (fs.set i { q with r:=q.r+m })/\zc w w':=by
 have P:=dD L;have M:∀W,zc w W->Xp prog 71 #[Xi #[O a fs.length c,I6 h]] W fun e w'=>e= Xl (I6 (Qa fs h))/\zc W w':=fun W Y=>by rw[D];exact Jq a c fs h W (P.grew Y) D
 have t:∀W,Xp prog 103 #[I6 (i:Int),I6 (fs.length:Int)] W fun e w'=>e= Xl (Xh (inB (i:Int) fs.length))/\w'=W:=fun W=>ZP (i:Int) _ W
 have I:∀W,zc w W->Xp prog 86 #[Xi #[O a fs.length c,I6 h]] W fun e w'=>∃b,e= Xl (Xi #[b,I6 h])/\zk W.heap.size w' b fs/\zc W w':=fun W Y=>zaw a c fs h W (P.grew Y)
 have l:=zbA ((Zj D).2.1 q (mG B));have u:=(gS.1 B).1;obtain⟨ap,aq,Z,n⟩:=L.frs;cases Z;obtain⟨ae,rfl,a8⟩:=n i q B;have ab:=dD a8;have a2:=dD B;clear n a8 B;simp only[show inB (i:Int) fs.length=Xc from by simp[inB];exact u]at t
 have A:=L.short;clear L;simp only[D]at M;clear D;obtain⟨y,F⟩:=kA fs.length;simp only[F.out]at M P A t I u⊢;have al:(i:Int)< (y:Int):=by omega
 obtain⟨ai,aj⟩:=l;obtain⟨ac,g⟩:=kB ((w.alloc (Xk #[O (Xa ae) y c,I6 h] 28)).alloc (Xk #[eS,I6 0] 28));have f:=gD2 g
 have H:=x2a g
 have a4:=x2b g
 have Q:=dD g;clear g
 go_enter func151,ntmps151
 go_upto_region 1 with fail;rw[Q.out];have T:=H.c 0 rfl;have U:=H.c 1 rfl;go_wp2_with fail;refine(M _ f).mono ?_;rintro e a3 ⟨rfl,a7⟩;have x:=dD a7;clear a7 T U M;obtain⟨-,-,-,-,-,-,-,-,af,-,-,-,-⟩:=ab.out a3 (f.trans x);have T:=(H.grew x).c 0 rfl;have U:=(H.grew x).c 1 rfl
 go_wp2_with (go_at_call 103;refine(t _).mono ?_;rintro e w' ⟨rfl,C⟩;rw[C];clear C w')
 refine(I _ (f.trans x)).mono ?_;rintro e G ⟨b,rfl,d,X⟩;obtain⟨s,K,rfl⟩:=d.formS (by rw[F.out];omega)
 rw[F.out]at d⊢;have R:=dD d;have a1:=dD (x.trans X);have V:=dD<|bS X;clear d X T U I af;have ak:=R.lt s rfl;have an:s≠G.heap.size:=by omega
 have u8:=(R.grew (za G (Xk #[O (Xa ⟨s,0,Xb⟩) y K,I6 h] 28))).frc a2 8 rfl
 go_wp2_with (refine qy rfl (.tmp 61) (.tmp 59) 3 rfl a3.heap.size (O (Xa ⟨s,0,Xb⟩) y K) fs (R.grew (za _ _)) s i 8 rfl q { q with r:=q.r+m } a2.out [I6 (q.r+m)] (by kernel_rfl) rfl (Ye rfl) (by intro b1 a9;simp at a9;subst a9;rfl) _ rfl (by simp) _ rfl rfl ?_)
 intro S E k a0;have z:=dD E;have ah:=V.out;have ag:=bS x.out;have ao:=a4.lt;have a5:Xo (Box S G.heap.size [O (Xa ⟨s,0,Xb⟩) y K,I6 h]):=(Box.top G _ _ rfl).beside k (fun a6 j=>by cases j;omega)
 have p:Xo (Box S (w.heap.size+1) [eS,I6 0]):=((a4.grew a1).alloc _).beside k (fun a6 j=>by cases j;omega)
 have aa:Xo (zc ac S):=zT (a1.trans (za _ _)) k (fun a6 j=>by cases j;omega)
 have N:Xo ((fs.set i { q with r:=q.r+m })[i]? =Xa { q with r:=q.r+m }):=dD<|by rw[sF (by rw[F.out];exact u)]
 clear E k a0 u8;have u8:=z.frc N 8 rfl;have aw:=a5.c 0 rfl;have ax:=a5.c 1 rfl;have ay:=p.c 0 rfl;have az:=p.c 1 rfl;have b0:=p.f;simp only at u8;go_wp2;refine bodyPost_ret (v:= Xm #[Xi #[O (Xa ⟨s,0,Xb⟩) y K,I6 h],I6 0]) (by simp[results,Tryz.results151,go_sem, *]) rfl ⟨_,rfl,?_,?_⟩
 ·exact((z.setCell (a:=⟨w.heap.size+1,0,Xb⟩) (by show w.heap.size+1<_;omega) _).setCell (a:=⟨w.heap.size+1,1,Xb⟩) (by show w.heap.size+1<_;omega) _).base (by have:=bS f.out;omega)
 exact zy (zy (f.trans aa) (by simp) _) (by simp) _
theorem zkl {fs:List Fr} {h k b:Int} (a:zgT fs h k b=0):∃(i:Nat) (q:Fr),k=(i:Int)/\fs[i]? =Xa q/\Qa fs h=0/\q.r≠0/\-q.r<=b/\b<=1000 - q.r/\zfE fs h k b=fs.set i (frH q b)/\zp4 fs h k b=h:=by
 have b:=a;unfold zgT at a
 split at a
 ·rename_i c
  split at a
  ·rename_i d
   simp only[inB,Bool.and_eq_true,decide_eq_true_eq,Bool.not_eq_true',beq_eq_false_iff_ne]at d;obtain⟨⟨e,e⟩,f⟩:=d
   split at a
   ·rename_i d
    have g:k.toNat<fs.length:=by omega
    have e:fs.getD k.toNat fr0=fs[k.toNat]:=by rw[gD,gE g];rfl
    rw[e]at f d;refine⟨k.toNat,fs[k.toNat],by omega,gE g,c,f,d.1,d.2,?_,?_⟩
    ·unfold zfE;rw[kE b,e]
    unfold zp4;rw[kE b]
   cases a
  cases a
 rename_i c
 exact absurd a c
theorem znZ (a) (c:Nat) (fs:List Fr) (h k d:Int) (w:Xn) (l:qh w (O a fs.length c) fs) (f:zgT fs h k d=0):
  Xp prog 151 #[Xi #[O a fs.length c,I6 h],I6 k,I6 d] w fun e w'=>∃b,e= Xl (Xm #[Xi #[b,I6 h],I6 0])/\zk w.heap.size w' b (zfE fs h k d)/\zc w w':=by
 obtain⟨m,q,rfl,i,g,j,n,n,n,_⟩:=zkl f;rw[n]
 by_cases f:q.r+d=0
 ·rw[show frH q d=frF from kE f]
  exact hoF a c fs h m q d w l g i (by simpa using j) (by omega) (by omega) f
 rw[show frH q d={ q with r:=q.r+d }from kF f]
 exact hoG a c fs h m q d w l g i (by simpa using j) (by omega) (by omega) (by simpa using f)
def zbM (w0:Xn) (p:Nat) (w:Xn) (V:MaV) (m':Ma) (w':Xn):Prop:=∃V':MaV,V'.ca=V.ca/\ChW w0 p w' V' m'/\qT (Dw p V) w w'/\∀k,Dw p V' k->Dw p V k\/w.heap.size<=k
section
variable{w0 w w1 w2:Xn} {p:Nat} {V V':MaV} {m m':Ma}
theorem zbM.chg (h:zbM w0 p w V m' w1):Chg w0 p w V m' w1:=by
 obtain⟨a,_,h⟩:=h;exact⟨a,h⟩
theorem zbM.refl (h:ChW w0 p w V m) (g:zc w w1):zbM w0 p w V m w1:=⟨V,rfl,h.grew g,qT.grew g,fun _ a=> .inl a⟩
theorem zbM.of_grew (g:zc w w1) (h:zbM w0 p w1 V m' w2):zbM w0 p w V m' w2:=by
 obtain⟨a,e,b,d,c⟩:=h;exact⟨a,e,b,(qT.grew g).trans d,Chg.far g c⟩
theorem zbM.step {b:MaV} (a:qT (Dw p V) w w1) (d:∀k,Dw p b k->Dw p V k\/w.heap.size<=k) (g:b.ca=V.ca) (i:zbM w0 p w1 b m' w2):zbM w0 p w V m' w2:=by
 obtain⟨c,f,e,b,h⟩:=i;refine⟨c,f.trans g,e,⟨b.os.trans a.os,b.tape.trans a.tape,b.output.trans a.output,nT a.size b.size,fun c f g=>(b.block c (Yi f a.size) (fun e=>?_)).trans (a.block c f g)⟩,fun k b=>?_⟩
 ·rcases d c e with e|e
  ·exact g e
  omega
 rcases h k b with e|e
 ·exact d k e
 exact .inr (nT a.size e)
theorem ChW.fieldC (h:ChW w0 p w V m) (k:zc w w1) (c:w1.grownBy w2 (Xa p)) (f:V'.f=V.f) (l:V'.ca=V.ca) (q:V'.sp=V.sp) (g:m'.fs=m.fs) (u:m'.ca=m.ca) (r:m'.sp=m.sp) (a:zx w2 p 91 (chL V' m')) (rs:∀W,qT (Dr w0.heap.size p V) w W->qT (Dr w0.heap.size p V) w1 W->zkY W V m->zkY W V' m'):zbM w0 p w V m' w2:=by
 have j:qT (Dw p V) w w2:=(qT.grew k).trans (qT.grown c (.inl rfl));have e:Dw p V'=Dw p V:=by unfold Dw;rw[f,l,q]
 have d:Dr w0.heap.size p V'=Dr w0.heap.size p V:=by unfold Dr;rw[e]
 obtain⟨i,x,b,y⟩:=h.sp;refine⟨V',l,⟨h.grOut j,h.lo,a,?_,?_,⟨i,?_,by rw[r];exact b,fun t z v s i W b=>?_⟩,fun W b=>?_⟩,j,fun n a=> .inl (by rw[e]at a;exact a)⟩
 ·rw[f,g];exact(h.fs.grew k).grown c (fun g f e=>h.nf g f (by cases e;rfl))
 ·rw[l,u];exact(h.ca.grew k).grown c (fun g f e=>h.nc g f (by cases e;rfl))
 ·rw[q];exact(x.grew k).grown c (fun g f e=>h.ns g f (by cases e;rfl))
 ·rw[d]at b;rw[r]at i;exact y t z v s i W ((j.wide fun n a=> .inr a).trans b)
 rw[d]at b;exact rs W ((j.wide fun n a=> .inr a).trans b) (((qT.grown c (.inr (.inl rfl)))).trans b) (h.rest W ((j.wide fun n a=> .inr a).trans b))
theorem ChW.frameC (h:ChW w0 p w V m) {fs:List Fr} {g:Nat} (c:oB V.f g) (b:w.grownBy w1 (Xa g)) (i:zb JR w0.heap.size w1 (V.f.x) fs):zbM w0 p w V { m with fs:=fs } w1:=by
 have d:qT (Dw p V) w w1:=qT.grown b (.inr (.inl c));have f:∀k,Dw p V k->Dw p V k\/w.heap.size<=k:=fun _ a=> .inl a
 obtain⟨q,j,l,n⟩:=h.sp;refine⟨V,rfl,⟨h.grOut d,h.lo,h.box.beside b (fun k e=>by cases e;exact h.nf g c),i,h.ca.grown b (fun k a e=>by cases e;exact h.fc _ c a),⟨q,j.grown b (fun k a e=>by cases e;exact h.fS _ c a),l,fun i x s c b W a=>n i x s c b W (ChW.key d f a)⟩,fun W a=>?_⟩,d,f⟩
 have r:=h.rest W (ChW.key d f a);exact⟨r.sl,r.sb,r.sq,r.db,r.dq,r.fl⟩
end
theorem znC {fs:List Fl} {a k:Int} (h:stW fs a≠0):znb fs a k=stW fs a:=by unfold znb;rw[kF h]
theorem zlF {fs:List Fl} {a k:Int} (h:stW fs a=0) (b:¬(0<=k/\k< (fs.length:Int))):znb fs a k=5:=by unfold znb;rw[kE h,kF (by rw[Q9];exact b)]
theorem zfl {fs:List Fl} {a:Int} {i:Nat} {f:Fl} (h:stW fs a=0) (b:fs[i]? =Xa f):znb fs a (i:Int)=0:=by
 have:=(gS.1 b).1;unfold znb;rw[kE h,kE (Q9.2 ⟨by omega,by omega⟩)]
theorem zev {fs:List Fl} {m:Nat}:Zg fs m=(QM fs (m:Int)).map fun(b:Nat)=>(b:Int):=zkf fs m
theorem ziH (v fs) (cnt k x:Int) (w:Xn) (hv:z5 w v fs):
  Xp prog 133 #[Xi #[v,I6 cnt],I6 k,I6 x] w fun e w'=>∃b,e= Xl (Xm #[Xi #[b,I6 (zk4 fs cnt k x)],I6 (ziI fs cnt k x),I6 (Qu fs cnt k x)])/\jM 0 w.heap.size w' b (zhz fs cnt k x)/\zc w w':=by
 have h1:∀W,zc w W->Xp prog 158 #[Xi #[v,I6 cnt],I6 k] W fun e w'=>e= Xl (I6 (znb fs cnt k))/\zc W w':=fun W hW=>zfZ v fs cnt k W (hv.grew hW)
 have h2:∀W,zc w W->Xp prog 36 #[Xi #[v,I6 cnt]] W fun e w'=>∃b,e= Xl (Xi #[b,I6 cnt])/\jA (W.heap.size+2) w' b fs/\zc W w'/\W.heap.size+2<=w'.heap.size:=fun W hW=>zdb v fs cnt W (hv.grew hW)
 have HV:=dD hv;obtain⟨a,c,rfl,hbig,hrow⟩:=hv.rows;have HR:=dD hrow;clear hv hrow;obtain⟨nF,HN⟩:=kA fs.length;rw[HN.out]at h1 h2 hbig HV⊢;obtain⟨W0,hW0⟩:=kB ((w.alloc (Xk #[O a nF c,I6 cnt] 37)).alloc (Xk #[eS,I6 0] 37));have HG0:=gD2 hW0
 have X0:=x2a hW0
 have Y0:=x2b hW0
 have HW0:Xo (_=W0):=hW0;clear hW0;have bad:∀z:Int,z≠0->(∀W,zc w W->Xp prog 158 #[Xi #[O a nF c,I6 cnt],I6 k] W fun e w'=>e= Xl (I6 z)/\zc W w')->Xp prog 133 #[Xi #[O a nF c,I6 cnt],I6 k,I6 x] w fun e w'=>∃b,e= Xl (Xm #[Xi #[b,I6 0],I6 0,I6 z])/\jM 0 w.heap.size w' b []/\zc w w':=fun z hz h1=>by
  have hzb:(z != 0)=Xc:=by simpa using hz
  clear h2
  go_enter func133,ntmps133
  go_wp2_with fail;rw[HW0.out];refine(h1 _ HG0).mono ?_;rintro e W1 ⟨rfl,g1⟩;have G1:=dD (HG0.trans g1);have Y1:=Y0.grew g1;have y0:=Y1.c 0 rfl;have y1:=Y1.c 1 rfl;have yf:=Y1.f;clear g1 h1;go_wp2;refine bodyPost_ret (v:= Xm #[Xi #[eS,I6 0],I6 0,I6 z]) (by simp[results,Tryz.results133,go_sem, *]) rfl ⟨_,rfl,jM.nil _ _ _,?_⟩
  exact Below.setCell (Below.setCell G1 (p:=⟨w.heap.size+1,0,Xb⟩) (by simp) _) (p:=⟨w.heap.size+1,1,Xb⟩) (by simp) _
 rcases zmQ fs cnt k x with⟨hw,e1,e2,e3,e4⟩|⟨hw,hk,e1,e2,e3,e4⟩|⟨hw,i,f,rfl,hf,hn,e1,e2,e3,e4⟩|⟨hw,i,f,j,b,rfl,hf,rfl,hj,hb0,hbc,e1,e2,e3,e4⟩|⟨hw,i,f,j,rfl,hf,rfl,hj,hlf,e1,e2,e3,e4⟩|⟨hw,i,f,j,b,l,rfl,hf,rfl,hj,hlf,e1,e2,e3,e4⟩
 ·rw[e1,e2,e3,e4];rw[znC hw]at h1;exact bad _ hw h1
 ·rw[e1,e2,e3,e4];rw[zlF hw hk]at h1;exact bad _ (by decide) h1
 ·rw[e1,e2,e3,e4];rw[zfl hw hf]at h1;have hil:i<nF:=by rw[<-HN.out];exact(gS.1 hf).1
  have hilz:(i:Int)< (nF:Int):=by omega
  obtain⟨ad,hada,xa0,xc0,hra,hce⟩:=HR.out i f hf;subst hada;have HCE:=dD hce;clear hce hra bad;obtain⟨nb,HNB⟩:=kA f.bl.length;have HF:=dD hf;clear hf;rw[HNB.out]at HCE;have hb:=fun W=>zbJ hn W
  rw[HNB.out]at hb;clear e1 e2 e3 e4 h2 hw hn
  go_enter func133,ntmps133
  go_wp2_with fail;rw[HW0.out];refine(h1 _ HG0).mono ?_;rintro e W1 ⟨rfl,g1⟩;have G1:=dD (HG0.trans g1);have x0:=(X0.grew g1).c 0 rfl;obtain⟨d0,d1⟩:=HCE.out W1 G1.out;have Y1:=Y0.grew g1;have y0:=Y1.c 0 rfl;have y1:=Y1.c 1 rfl;have yf:=Y1.f;clear g1 h1
  go_wp2_with (go_at_call 101;refine(hb _).mono ?_;rintro e w' ⟨rfl,hw'⟩;rw[hw'];clear hw' w')
  refine bodyPost_ret (v:= Xm #[Xi #[eS,I6 0],I6 0,I6 9]) (by simp[results,Tryz.results133,go_sem, *]) rfl ⟨_,rfl,jM.nil _ _ _,?_⟩
  exact Below.setCell (Below.setCell G1 (p:=⟨w.heap.size+1,0,Xb⟩) (by simp) _) (p:=⟨w.heap.size+1,1,Xb⟩) (by simp) _
 ·rw[e1,e2,e3,e4];rw[zfl hw hf]at h1;have hil:i<nF:=by rw[<-HN.out];exact(gS.1 hf).1
  have hilz:(i:Int)< (nF:Int):=by omega
  obtain⟨ad,hada,xa0,xc0,hra,hce⟩:=HR.out i f hf;subst hada;have HCE:=dD hce;clear hce hra bad;obtain⟨nb,HNB⟩:=kA f.bl.length;have HF:=dD hf;clear hf;rw[HNB.out]at HCE;have hjl:j<nb:=by rw[<-HNB.out];exact(gS.1 hj).1
  have hjz:(j:Int)< (nb:Int):=by omega
  have hb:=fun W=>Z4 (m:=(j:Int)) (n:=(nb:Int)) (by omega) (by omega) W
  have HJ:=dD hj;have hbb:(b == -1)=Xd:=by simp;omega
  clear hb0 hbc;clear e1 e2 e3 e4 hw hj
  go_enter func133,ntmps133
  go_wp2_with fail;rw[HW0.out];refine(h1 _ HG0).mono ?_;rintro e W1 ⟨rfl,g1⟩;have G1:=dD (HG0.trans g1);have X1:=dD (X0.grew g1);have Y1:=dD (Y0.grew g1);have x0:=X1.c 0 rfl;have x1:=X1.c 1 rfl;obtain⟨d0,d1⟩:=HCE.out W1 G1.out;clear g1 h1
  go_wp2_with (go_at_call 101;refine(hb _).mono ?_;rintro e w' ⟨rfl,hw'⟩;rw[hw'];clear hw' w')
  refine(h2 _ G1).mono ?_;rintro e W2 ⟨b1,rfl,of2,g2,s2⟩;have HB2:Xo (w.heap.size+2<=W1.heap.size):=Y1.lt;obtain⟨xs,k1,k2,k3,k4⟩:=of2;obtain⟨q,hx⟩:∃q,xs[i]? =Xa q:=⟨_,gE (by rw[k2,HN.out];exact hil)⟩
  obtain⟨G,bc,rfl⟩:=k1.formS (by rw[k2,HN.out];omega)
  rw[k2,HN.out]at k1⊢;obtain⟨q1,q2⟩:=k3 i q f hx HF.out;obtain⟨xs0,xa,xn,xc⟩:=q;obtain⟨g,qc,q3⟩:=q2.formS (by rw[HNB.out];omega)
  rw[HNB.out]at q3;have q4:O xa xn xc= O (Xa ⟨g,0,Xb⟩) nb qc:=q3;cases q4;have HX:=dD hx;have HXS:Xo (xs0=f.size):=q1;have K1:=dD k1;have K2:=dD k2;have K3:=dD k3;have K4:=dD k4;have KX:Xo (zb blE (W1.heap.size+2) W2 (O (Xa ⟨g,0,Xb⟩) nb xc) f.bl):=q2;have G2:=dD (G1.trans g2);have HS2:=dD s2;have G12:=dD g2;clear g2 s2 h2 x0 x1 d0 d1 k1 k2 k3 k4 q1 q2 q3 hx hb;go_upto_region 7 with fail;obtain⟨po,hpo⟩:=kB W2.heap.size;obtain⟨W3,hW3⟩:=kB (W2.alloc (Xk #[O (Xa ⟨G,0,Xb⟩) nF bc,I6 cnt] 37));have G23:=gA hW3
  have P3:Xo (zx W3 po 37 [O (Xa ⟨G,0,Xb⟩) nF bc,I6 cnt]):=dD<|by rw[<-hW3];exact zx.top _ _ _ hpo.symm
  have X3:=dD ((X1.grew G12).grew G23);have Y3:=dD ((Y1.grew G12).grew G23);have HPO:Xo (W1.heap.size+2<=po):=show _<=_ by rw[<-hpo];exact HS2.out
  have HP3:=dD P3.box.lt;have G3:=dD (G2.trans G23);have KF3:=dD (K1.grew G23);have KX3:=dD (KX.grew G23);rw[hW3];rw[hpo];clear hW3 hpo;have HCX:Xo (∀W,zc W3 W->W.cell? ⟨G,i*2+1,Xb⟩=Xa (O (Xa ⟨g,0,Xb⟩) nb xc)):=show∀W,_ from fun W hW=>by
   obtain⟨a0,c0,hsl,hrows⟩:=(KF3.grew hW).at.rows;obtain⟨ad,had,hce⟩:=hrows i _ HX.out;cases hsl;cases had;have:=hce _ (zc.refl _) 1 _ rfl;rw[zV,Xt,zA]at this;exact this
  have HCB:Xo (∀W,zc W3 W->W.cell? ⟨g,j,Xb⟩=Xa (I6 b)):=dD<|fun W hW=>by
   obtain⟨a0,c0,hsl,hrows⟩:=(KX3.grew hW).at.nums;obtain⟨ad,had,hce⟩:=hrows j _ HJ.out;cases hsl;cases had;have:=hce _ (zc.refl _);rw[Xt,zA]at this;exact this
  have p0:=P3.box.c 0 rfl;have d1:=HCX.out W3 (zc.refl _);have d2:=HCB.out W3 (zc.refl _);have F3:=dD<|(jA.grew ⟨xs,K1,K2,K3,K4⟩ G23).new
  have p1:=P3.box.c 1 rfl;have y0:=Y3.c 0 rfl;have y1:=Y3.c 1 rfl;have yf:=Y3.f;have hne2:po≠w.heap.size+1:=by have:=HPO.out;have:=HB2.out;omega
  have hne2':¬w.heap.size+1=po:=fun e=>hne2 e.symm
  have hne3:g≠w.heap.size+1:=by have:=(KX3.lt g rfl).1;have:=HB2.out;omega
  have hne3':¬w.heap.size+1=g:=fun e=>hne3 e.symm
  go_wp2
  go_region
  all_goals go_wp2
  all_goals
   refine bodyPost_ret (v:= Xm #[Xi #[O (Xa ⟨G,0,Xb⟩) nF bc,I6 cnt],I6 b,I6 0]) (by simp[results,Tryz.results133,go_sem, *]) rfl ⟨_,rfl,?_,?_⟩
   ·have F6:=F3.less (A0:=0) (A1:=w.heap.size+2) (nR _) (by have:=HB2.out;omega)
    exact(((F6.out (Out.setCell _ _ _ (p:=⟨w.heap.size+1,0,Xb⟩) (nZ _) (by simp) _)).out (Out.setCell _ _ _ (p:=⟨w.heap.size+1,1,Xb⟩) (nZ _) (by simp) _)).less (nR _) (by omega)).grew (gW _)
   exact(Below.setCell (Below.setCell G3 (p:=⟨w.heap.size+1,0,Xb⟩) (by simp) _) (p:=⟨w.heap.size+1,1,Xb⟩) (by simp) _).drew
 ·rw[e1,e2,e3,e4];rw[zfl hw hf]at h1;have hil:i<nF:=by rw[<-HN.out];exact(gS.1 hf).1
  have hilz:(i:Int)< (nF:Int):=by omega
  obtain⟨ad,hada,xa0,xc0,hra,hce⟩:=HR.out i f hf;subst hada;have HCE:=dD hce;clear hce hra bad;obtain⟨nb,HNB⟩:=kA f.bl.length;have HF:=dD hf;clear hf;rw[HNB.out]at HCE;have hjl:j<nb:=by rw[<-HNB.out];exact(gS.1 hj).1
  have hjz:(j:Int)< (nb:Int):=by omega
  have hb:=fun W=>Z4 (m:=(j:Int)) (n:=(nb:Int)) (by omega) (by omega) W
  have HJ:=dD hj;obtain⟨mc,hmc⟩:∃mc:Nat,cnt=(mc:Int):=⟨cnt.toNat,by have:=((z6 fs cnt).1 hw).1;omega⟩
  subst hmc;have hmc80:mc<=80:=by have:=((z6 fs (mc:Int)).1 hw).1;omega
  have h3:∀W,zc w W->Xp prog 159 #[Xi #[O (Xa ad) nF c,I6 (mc:Int)]] W fun e w'=>∃b,e= Xl b/\zb blE (W.heap.size+1) w' b (Zg fs mc)/\zc W w':=fun W hW=>zjg _ fs mc hmc80 W (HV.grew hW)
  rw[zev,hlf]at h3;clear hmc80 hlf;simp only[Ya]at h3;clear e1 e2 e3 e4 hw hj
  go_enter func133,ntmps133
  go_wp2_with fail;rw[HW0.out];refine(h1 _ HG0).mono ?_;rintro e W1 ⟨rfl,g1⟩;have G1:=dD (HG0.trans g1);have X1:=dD (X0.grew g1);have Y1:=dD (Y0.grew g1);have x0:=X1.c 0 rfl;have x1:=X1.c 1 rfl;obtain⟨d0,d1⟩:=HCE.out W1 G1.out;clear g1 h1
  go_wp2_with (go_at_call 101;refine(hb _).mono ?_;rintro e w' ⟨rfl,hw'⟩;rw[hw'];clear hw' w')
  refine(h2 _ G1).mono ?_;rintro e W2 ⟨b1,rfl,of2,g2,s2⟩;have HB2:Xo (w.heap.size+2<=W1.heap.size):=Y1.lt;obtain⟨xs,k1,k2,k3,k4⟩:=of2;obtain⟨q,hx⟩:∃q,xs[i]? =Xa q:=⟨_,gE (by rw[k2,HN.out];exact hil)⟩
  obtain⟨G,bc,rfl⟩:=k1.formS (by rw[k2,HN.out];omega)
  rw[k2,HN.out]at k1⊢;obtain⟨q1,q2⟩:=k3 i q f hx HF.out;obtain⟨xs0,xa,xn,xc⟩:=q;obtain⟨g,qc,q3⟩:=q2.formS (by rw[HNB.out];omega)
  rw[HNB.out]at q3;have q4:O xa xn xc= O (Xa ⟨g,0,Xb⟩) nb qc:=q3;cases q4;have HX:=dD hx;have HXS:Xo (xs0=f.size):=q1;have K1:=dD k1;have K2:=dD k2;have K3:=dD k3;have K4:=dD k4;have KX:Xo (zb blE (W1.heap.size+2) W2 (O (Xa ⟨g,0,Xb⟩) nb xc) f.bl):=q2;have G2:=dD (G1.trans g2);have HS2:=dD s2;have G12:=dD g2;clear g2 s2 h2 x0 x1 d0 d1 k1 k2 k3 k4 q1 q2 q3 hx hb;go_upto_region 7 with fail;obtain⟨po,hpo⟩:=kB W2.heap.size;obtain⟨W3,hW3⟩:=kB (W2.alloc (Xk #[O (Xa ⟨G,0,Xb⟩) nF bc,I6 (mc:Int)] 37));have G23:=gA hW3
  have P3:Xo (zx W3 po 37 [O (Xa ⟨G,0,Xb⟩) nF bc,I6 (mc:Int)]):=dD<|by rw[<-hW3];exact zx.top _ _ _ hpo.symm
  have X3:=dD ((X1.grew G12).grew G23);have Y3:=dD ((Y1.grew G12).grew G23);have HPO:Xo (W1.heap.size+2<=po):=show _<=_ by rw[<-hpo];exact HS2.out
  have HP3:=dD P3.box.lt;have G3:=dD (G2.trans G23);have KF3:=dD (K1.grew G23);have KX3:=dD (KX.grew G23);rw[hW3];rw[hpo];clear hW3 hpo;have HCX:Xo (∀W,zc W3 W->W.cell? ⟨G,i*2+1,Xb⟩=Xa (O (Xa ⟨g,0,Xb⟩) nb xc)):=show∀W,_ from fun W hW=>by
   obtain⟨a0,c0,hsl,hrows⟩:=(KF3.grew hW).at.rows;obtain⟨ad,had,hce⟩:=hrows i _ HX.out;cases hsl;cases had;have:=hce _ (zc.refl _) 1 _ rfl;rw[zV,Xt,zA]at this;exact this
  have HCB:Xo (∀W,zc W3 W->W.cell? ⟨g,j,Xb⟩=Xa (I6 (-1))):=dD<|fun W hW=>by
   obtain⟨a0,c0,hsl,hrows⟩:=(KX3.grew hW).at.nums;obtain⟨ad,had,hce⟩:=hrows j _ HJ.out;cases hsl;cases had;have:=hce _ (zc.refl _);rw[Xt,zA]at this;exact this
  have p0:=P3.box.c 0 rfl;have d1:=HCX.out W3 (zc.refl _);have d2:=HCB.out W3 (zc.refl _);have x0:=X3.c 0 rfl;have x1:=X3.c 1 rfl;go_wp2_with fail;refine(h3 _ G3).mono ?_;rintro e W4 ⟨fr,rfl,ow,g4⟩;obtain⟨fa,fc,rfl⟩:=ow.form;have G4:=dD (G3.trans g4);have Y4:=dD (Y3.grew g4);clear ow g4 h3 x0 x1 p0 d1 d2;have y0:=Y4.c 0 rfl;have y1:=Y4.c 1 rfl;have yf:=Y4.f;simp only[List.length_nil];go_wp2;refine bodyPost_ret (v:= Xm #[Xi #[eS,I6 0],I6 0,I6 10]) (by simp[results,Tryz.results133,go_sem, *]) rfl ⟨_,rfl,jM.nil _ _ _,?_⟩
  exact Below.setCell (Below.setCell G4 (p:=⟨w.heap.size+1,0,Xb⟩) (by simp) _) (p:=⟨w.heap.size+1,1,Xb⟩) (by simp) _
 rw[e1,e2,e3,e4];rw[zfl hw hf]at h1;have hil:i<nF:=by rw[<-HN.out];exact(gS.1 hf).1
 have hilz:(i:Int)< (nF:Int):=by omega
 obtain⟨ad,hada,xa0,xc0,hra,hce⟩:=HR.out i f hf;subst hada;have HCE:=dD hce;clear hce hra bad;obtain⟨nb,HNB⟩:=kA f.bl.length;have HF:=dD hf;clear hf;rw[HNB.out]at HCE;have hjl:j<nb:=by rw[<-HNB.out];exact(gS.1 hj).1
 have hjz:(j:Int)< (nb:Int):=by omega
 have hb:=fun W=>Z4 (m:=(j:Int)) (n:=(nb:Int)) (by omega) (by omega) W
 have HJ:=dD hj;obtain⟨mc,hmc⟩:∃mc:Nat,cnt=(mc:Int):=⟨cnt.toNat,by have:=((z6 fs cnt).1 hw).1;omega⟩
 subst hmc;have hmc80:mc<=80:=by have:=((z6 fs (mc:Int)).1 hw).1;omega
 have h3:∀W,zc w W->Xp prog 159 #[Xi #[O (Xa ad) nF c,I6 (mc:Int)]] W fun e w'=>∃b,e= Xl b/\zb blE (W.heap.size+1) w' b (Zg fs mc)/\zc W w':=fun W hW=>zjg _ fs mc hmc80 W (HV.grew hW)
 rw[zev,hlf]at h3;clear hmc80 hlf;rw[mP]at h3;obtain⟨lz,HLZ⟩:=kA ((b:Int) ::(l.map fun(b:Nat)=>(b:Int)))
 rw[HLZ.out]at h3;have HL0:Xo (lz[0]? =Xa (b:Int)):=dD<|by rw[<-HLZ.out];rfl
 have HL1:Xo (0<lz.length):=dD<|by rw[<-HLZ.out];simp
 clear e1 e2 e3 e4 hw hj
 go_enter func133,ntmps133
 go_wp2_with fail;rw[HW0.out];refine(h1 _ HG0).mono ?_;rintro e W1 ⟨rfl,g1⟩;have G1:=dD (HG0.trans g1);have X1:=dD (X0.grew g1);have Y1:=dD (Y0.grew g1);have x0:=X1.c 0 rfl;have x1:=X1.c 1 rfl;obtain⟨d0,d1⟩:=HCE.out W1 G1.out;clear g1 h1
 go_wp2_with (go_at_call 101;refine(hb _).mono ?_;rintro e w' ⟨rfl,hw'⟩;rw[hw'];clear hw' w')
 refine(h2 _ G1).mono ?_;rintro e W2 ⟨b1,rfl,of2,g2,s2⟩;have HB2:Xo (w.heap.size+2<=W1.heap.size):=Y1.lt;obtain⟨xs,k1,k2,k3,k4⟩:=of2;obtain⟨q,hx⟩:∃q,xs[i]? =Xa q:=⟨_,gE (by rw[k2,HN.out];exact hil)⟩
 obtain⟨G,bc,rfl⟩:=k1.formS (by rw[k2,HN.out];omega)
 rw[k2,HN.out]at k1⊢;obtain⟨q1,q2⟩:=k3 i q f hx HF.out;obtain⟨xs0,xa,xn,xc⟩:=q;obtain⟨g,qc,q3⟩:=q2.formS (by rw[HNB.out];omega)
 rw[HNB.out]at q3;have q4:O xa xn xc= O (Xa ⟨g,0,Xb⟩) nb qc:=q3;cases q4;have HX:=dD hx;have HXS:Xo (xs0=f.size):=q1;have K1:=dD k1;have K2:=dD k2;have K3:=dD k3;have K4:=dD k4;have KX:Xo (zb blE (W1.heap.size+2) W2 (O (Xa ⟨g,0,Xb⟩) nb xc) f.bl):=q2;have G2:=dD (G1.trans g2);have HS2:=dD s2;have G12:=dD g2;clear g2 s2 h2 x0 x1 d0 d1 k1 k2 k3 k4 q1 q2 q3 hx hb;go_upto_region 7 with fail;obtain⟨po,hpo⟩:=kB W2.heap.size;obtain⟨W3,hW3⟩:=kB (W2.alloc (Xk #[O (Xa ⟨G,0,Xb⟩) nF bc,I6 (mc:Int)] 37));have G23:=gA hW3
 have P3:Xo (zx W3 po 37 [O (Xa ⟨G,0,Xb⟩) nF bc,I6 (mc:Int)]):=dD<|by rw[<-hW3];exact zx.top _ _ _ hpo.symm
 have X3:=dD ((X1.grew G12).grew G23);have Y3:=dD ((Y1.grew G12).grew G23);have HPO:Xo (W1.heap.size+2<=po):=show _<=_ by rw[<-hpo];exact HS2.out
 have HP3:=dD P3.box.lt;have G3:=dD (G2.trans G23);have KF3:=dD (K1.grew G23);have KX3:=dD (KX.grew G23);rw[hW3];rw[hpo];clear hW3 hpo;have HCX:Xo (∀W,zc W3 W->W.cell? ⟨G,i*2+1,Xb⟩=Xa (O (Xa ⟨g,0,Xb⟩) nb xc)):=show∀W,_ from fun W hW=>by
  obtain⟨a0,c0,hsl,hrows⟩:=(KF3.grew hW).at.rows;obtain⟨ad,had,hce⟩:=hrows i _ HX.out;cases hsl;cases had;have:=hce _ (zc.refl _) 1 _ rfl;rw[zV,Xt,zA]at this;exact this
 have HCB:Xo (∀W,zc W3 W->W.cell? ⟨g,j,Xb⟩=Xa (I6 (-1))):=dD<|fun W hW=>by
  obtain⟨a0,c0,hsl,hrows⟩:=(KX3.grew hW).at.nums;obtain⟨ad,had,hce⟩:=hrows j _ HJ.out;cases hsl;cases had;have:=hce _ (zc.refl _);rw[Xt,zA]at this;exact this
 have p0:=P3.box.c 0 rfl;have d1:=HCX.out W3 (zc.refl _);have d2:=HCB.out W3 (zc.refl _);have x0:=X3.c 0 rfl;have x1:=X3.c 1 rfl;go_wp2_with fail;refine(h3 _ G3).mono ?_;rintro e W4 ⟨fr,rfl,ow,g4⟩;obtain⟨gf,fc,rfl⟩:=ow.formS HL1.out;have f0:W4.cell? ⟨gf,0,Xb⟩=Xa (I6 (b:Int)):=by
  obtain⟨a0,c0,hsl,hrows⟩:=ow.at.nums;obtain⟨ad,had,hce⟩:=hrows 0 _ HL0.out;cases hsl;cases had;have:=hce _ (zc.refl _);rw[Xt,zA]at this;exact this
 have G4:=dD (G3.trans g4);have G34:=dD g4;have KX4:=dD (KX3.grew g4);have KF4:=dD (KF3.grew g4);have P4:=dD (P3.grew g4);have Y4:=dD (Y3.grew g4);have hgb:=(KX3.lt g rfl).1;obtain⟨nl,HNL⟩:=kA lz.length;have hnl:0<nl:=by rw[<-HNL.out];exact HL1.out
 have hnlz:(0:Int)< (nl:Int):=by omega
 have hnlb:((nl:Int) == 0)=Xd:=by simp;omega
 rw[HNL.out];clear ow g4 h3 x0 x1 p0 d1 d2
 go_wp2_with (refine qV (E:=blE) rfl (.tmp 55) (.tmp 54) rfl (W1.heap.size+2) _ f.bl KX4 g j rfl (b:Int) ?t1 ⟨g,j,Xb⟩ rfl ?t2 (I6 (b:Int)) rfl rfl ?_)
 case t1=>rw[HNB.out];exact hjl
 case t2=>show _=Addr.mk g (j*1) Xb;rw[Yk]
 intro W5 ow5 gr5 _;have KX5:=dD ow5;have P5:Xo (Box W5 po [O (Xa ⟨G,0,Xb⟩) nF bc,I6 (mc:Int)]):=P4.box.grown gr5 (fun e=>KX4.ne P4 (by decide) g rfl e)
 have Y5:Xo (Box W5 (w.heap.size+1) [eS,I6 0]):=Y4.grown gr5 (by have:=HB2.out;omega)
 have G5:Xo (zc w W5):=dD<|zd G4 gr5 (by have:=HB2.out;omega)
 have F5:Xo (jM 0 (W1.heap.size+2) W5 (O (Xa ⟨G,0,Xb⟩) nF bc) (fs.set i ⟨f.size,f.bl.set j (b:Int)⟩)):=dD<|by
  have of5:=KF4.grown gr5 (fun g' hg' e'=>by cases e';exact KF4.apart KX4 (Ne.symm zgb) g hg' rfl)
  refine⟨of5.cap,xs,of5.new.stays,by simp[K2.out],fun p q f' hq hf'=>?_⟩
  by_cases e:p=i
  ·subst e;rw[sF (by rw[HN.out];exact hil)]at hf'
   rw[HX.out]at hq;cases hq;cases hf';exact⟨HXS,KX5.new.stays⟩
  rw[sN (fun h=>e h.symm)]at hf'
  obtain⟨q1,q2⟩:=K3.out p q f' hq hf';have o4:=q2.grew (G23.trans G34);exact⟨q1,(o4.grown gr5 (fun g' hg' e'=>by cases e';exact K4 i p _ q (fun h=>e h.symm) HX hq g rfl hg')).new.stays⟩
 have d2:W5.cell? ⟨g,j,Xb⟩=Xa (I6 (b:Int)):=by
  obtain⟨a0,c0,hsl,hrows⟩:=ow5.at.nums;obtain⟨ad,had,hce⟩:=hrows j (b:Int) (by rw[sF (by rw[HNB.out];exact hjl)])
  cases hsl;cases had;have:=hce _ (zc.refl _);rw[Xt,zA]at this;exact this
 clear ow5 gr5 f0;have p0:=P5.c 0 rfl;have p1:=P5.c 1 rfl;have y0:=Y5.c 0 rfl;have y1:=Y5.c 1 rfl;have yf:=Y5.f;have hne2:po≠w.heap.size+1:=by have:=HPO.out;have:=HB2.out;omega
 have hne2':¬w.heap.size+1=po:=fun e=>hne2 e.symm
 have hne3:g≠w.heap.size+1:=by have:=HB2.out;omega
 have hne3':¬w.heap.size+1=g:=fun e=>hne3 e.symm
 go_wp2
 go_region
 all_goals go_wp2
 all_goals
  refine bodyPost_ret (v:= Xm #[Xi #[O (Xa ⟨G,0,Xb⟩) nF bc,I6 (mc:Int)],I6 (b:Int),I6 0]) (by simp[results,Tryz.results133,go_sem, *]) rfl ⟨_,rfl,?_,?_⟩
  ·have F6:=F5.less (A0:=0) (A1:=w.heap.size+2) (nR _) (by have:=HB2.out;omega)
   exact(((F6.out (Out.setCell _ _ _ (p:=⟨w.heap.size+1,0,Xb⟩) (nZ _) (by simp) _)).out (Out.setCell _ _ _ (p:=⟨w.heap.size+1,1,Xb⟩) (nZ _) (by simp) _)).less (nR _) (by omega)).grew (gW _)
  exact(Below.setCell (Below.setCell G5 (p:=⟨w.heap.size+1,0,Xb⟩) (by simp) _) (p:=⟨w.heap.size+1,1,Xb⟩) (by simp) _).drew
section
variable{w0 w w1 w2:Xn} {p:Nat} {V:MaV} {m:Ma}
theorem ChW.setFl (h:ChW w0 p w V m) {b:Sli} {fl:List Fl} {c:Int} (d:zc w w1) (g:w.heap.size<=B) (f:jM 0 B w1 (b.x) fl) (e:w1.grownBy w2 (Xa p)) (a:zx w2 p 91 (chL { V with fl:=b } { m with fl:=fl,cnt:=c })):zbM w0 p w V { m with fl:=fl,cnt:=c } w2:=
 h.fieldC (V':={ V with fl:=b }) (m':={ m with fl:=fl,cnt:=c }) d e rfl rfl rfl rfl rfl rfl a (fun W _ a r=>⟨r.sl,r.sb,r.sq,r.db,r.dq,(f.out ⟨a.os,a.tape,a.output,a.size,fun k d e=>a.block k d (fun e=>by have:=h.drt k e;omega)⟩).now0⟩)
theorem ChW.setDk (h:ChW w0 p w V m) {d q:Sli} {a:List (List Int)} {b:List (Int × List Int)} (e:zc w w1) (i:w.heap.size<=B) (g:z3 B w1 (Xi #[d.x,q.x]) a b) (f:w1.grownBy w2 (Xa p)) (c:zx w2 p 91 (chL { V with db:=d,dq:=q } { m with db:=a,dq:=b })):zbM w0 p w V { m with db:=a,dq:=b } w2:=
 h.fieldC (V':={ V with db:=d,dq:=q }) (m':={ m with db:=a,dq:=b }) e f rfl rfl rfl rfl rfl rfl c (fun W _ b r=>by
  have k:=(g.staysD (fun k a=>by have:=h.drt k a;omega) b).rows
  exact⟨r.sl,r.sb,r.sq,k.1,k.2,r.fl⟩)
end
def wrM (m:Ma) (pg:List Int) (file idx:Int):Ma:=
 if Qu m.fl m.cnt file idx=0 then{ m with fl:=zhz m.fl m.cnt file idx,cnt:=zk4 m.fl m.cnt file idx,db:=qZ m.db m.dq (ziI m.fl m.cnt file idx),dq:=jB m.db m.dq (ziI m.fl m.cnt file idx) pg }else m
theorem zdJ {w:Xn} {p:Nat} (h:ChW w0 p w V m) (c:List Int) (hp:c.length=8) (file a:Int):
  Xp prog 96 #[Xj (Xa ⟨p,0,Xb⟩),Xi (pgc c).toArray,I6 file,I6 a] w fun e w'=>e= Xl (Xh (decide (Qu m.fl m.cnt file a=0)))/\zbM w0 p w V (wrM m c file a) w':=by
 have x:=dD h;obtain⟨E,d⟩:=kA (Qu m.fl m.cnt file a);obtain⟨C,u⟩:=kA (zk4 m.fl m.cnt file a);obtain⟨B,q⟩:=kA (ziI m.fl m.cnt file a);have D:Xo (∀W,zc w W->Xp prog 133 #[Xi #[V.fl.x,I6 m.cnt],I6 file,I6 a] W fun e w'=>∃b:Sli,e= Xl (Xm #[Xi #[b.x,I6 C],I6 B,I6 E])/\jM 0 W.heap.size w' (b.x) (zhz m.fl m.cnt file a)/\zc W w'):=show∀W,_ from fun W G=>by
  rw[<-d.out,<-u.out,<-q.out];refine(ziH _ m.fl m.cnt file a W (h.at.grew G).fl).mono ?_;rintro e w' ⟨b,rfl,F,L⟩;obtain⟨f,M,rfl,_⟩:=z5.rows F.now0;exact⟨⟨f,_,M⟩,rfl,F,L⟩
 have v:Xo (E=0->wrM m c file a={({ m with fl:=zhz m.fl m.cnt file a,cnt:=C }:Ma)with db:=qZ m.db m.dq B,dq:=jB m.db m.dq B c }):=dD<|fun h=>by
  unfold wrM;rw[kE (d.trans h),u.out,q.out]
 have A:Xo (E≠0->wrM m c file a=m):=dD<|fun h=>by
  unfold wrM;rw[kF (fun e=>h (d.symm.trans e))]
 rw[d.out];obtain⟨R,f⟩:=kA (decide (E=0));rw[f.out];have H:p<w.heap.size:=h.dlt p (.inl rfl);obtain⟨N,z⟩:=kA (wrM m c file a);rw[z.out]at v A⊢;obtain⟨i,j,k,l,n,r,s,t,d⟩:=zfr c hp;have y:=dD d;have g:pgc c=[U8 i,U8 j,U8 k,U8 l,U8 n,U8 r,U8 s,U8 t]:=by rw[d];rfl
 rw[g];clear h hp d g;obtain⟨b,q⟩:=kA w.heap.size;obtain⟨K,d⟩:=kB (w.alloc (Xk #[U8 i,U8 j,U8 k,U8 l,U8 n,U8 r,U8 s,U8 t] 60));have g:=gA d
 have P:=xP d q
 have h:=dD d;clear d;rw[q.out]at H
 go_enter func96,ntmps96
 go_upto_region 1 with fail;rw[h.out,q.out];have h:=(x.box.box.grew g).c 7 rfl;have q:=(x.box.box.grew g).c 8 rfl;have d:=D.out K g.out;go_wp2_with fail;refine d.mono ?_;clear d h q;rintro e q ⟨K,rfl,F,D⟩;have N:=dD F;have h:=dD D;clear F D;go_upto_region 2 with fail;obtain⟨M,u⟩:=kA q.heap.size;obtain⟨d,d⟩:=kB (q.alloc (Xk #[K.x,I6 C] 37));have q:=gA d
 have F:=xP d u
 rw[d,u.out];clear d
 by_cases d:E=0
 rotate_left
 ·have u:(E != 0)=Xc:=by simp[d]
  have H:=dD<|f.symm.trans (decide_eq_false d);have z:=dD<|A.out d;clear d;go_wp2;go_ret;exact⟨by rw[H.out];rfl,by rw[z.out];exact zbM.refl x (g.trans (h.trans q))⟩
 have u:(E != 0)=Xd:=by simp[d]
 have H:=dD<|f.symm.trans (decide_eq_true d);have z:=dD<|v.out d;clear d;have d:=dD (g.trans (h.trans q));have R:=F.c 0 rfl;have S:=F.c 1 rfl;have f:=dD (x.box.grew d)
 go_upto_region 5 with(refine ZU rfl 37 (.tmp 30) (.tmp 27) rfl p 7 rfl (Xi #[K.x,I6 C]) rfl [K.x,I6 C] rfl f (by simp[chL]) (by kernel_rfl) (by simp[Value.oneCell']) ?_)
 intro v u f _;have Q:Xo (Box v b [U8 i,U8 j,U8 k,U8 l,U8 n,U8 r,U8 s,U8 t]):=dD<|(P.grew (h.trans q)).grown f (by omega)
 obtain⟨h,F,A,M,E⟩:=x.setFl d (bS g) (N.grew q) f u;have Z:=dD F;have K:=dD A;have a0:=dD M;have Y:=dD E;have X:Xo (∀W,zc v W->Xp prog 128 #[Xi #[h.db.x,h.dq.x],I6 B,Xi #[U8 i,U8 j,U8 k,U8 l,U8 n,U8 r,U8 s,U8 t]] W fun e w'=>∃d q:Sli,e= Xl (Xm #[Xi #[d.x,q.x],I6 (zi m.db.length m.dq B)])/\z3 W.heap.size w' (Xi #[d.x,q.x]) (qZ m.db m.dq B) (jB m.db m.dq B c)/\zc W w'):=show∀W,_ from fun W G=>by
  have g:=zf2 (Xi #[h.db.x,h.dq.x]) m.db m.dq B c (by rw[y.out];rfl) W ⟨_,_,rfl,(A.at.grew G).db,(A.at.grew G).dq⟩
  rw[show pgc c=[U8 i,U8 j,U8 k,U8 l,U8 n,U8 r,U8 s,U8 t] by rw[y.out];rfl]at g
  refine g.mono ?_;rintro e w' ⟨g,rfl,g,L⟩;obtain⟨d,q,rfl,_,_⟩:=g.form;exact⟨d,q,rfl,g,L⟩
 have g:p<v.heap.size:=A.dlt p (.inl rfl);clear u f A M E F R S;try simp only[Yn]
 go_upto_region 5 with fail;obtain⟨U,f⟩:=kA (zi m.db.length m.dq B);rw[f.out]at X;obtain⟨g,f⟩:∃g:Xn->Prop,Xo (∀u,g u↔Box u b [U8 i,U8 j,U8 k,U8 l,U8 n,U8 r,U8 s,U8 t]):=⟨fun u=>Box u b [U8 i,U8 j,U8 k,U8 l,U8 n,U8 r,U8 s,U8 t],fun _=>Iff.rfl⟩
 have x:=(f _).2 (Q.grew (gW _))
 have A:zc v v.drew:=show Below _ _ _ from(bR _ _).drew
 have L:∀y:zh g,y.world.cell? ⟨b,0,Xb⟩=Xa (U8 i):=fun y=>((f _).1 y.holds).c 0 rfl
 have M:∀y:zh g,y.world.cell? ⟨b,1,Xb⟩=Xa (U8 j):=fun y=>((f _).1 y.holds).c 1 rfl
 have N:∀y:zh g,y.world.cell? ⟨b,2,Xb⟩=Xa (U8 k):=fun y=>((f _).1 y.holds).c 2 rfl
 have P:∀y:zh g,y.world.cell? ⟨b,3,Xb⟩=Xa (U8 l):=fun y=>((f _).1 y.holds).c 3 rfl
 have Q:∀y:zh g,y.world.cell? ⟨b,4,Xb⟩=Xa (U8 n):=fun y=>((f _).1 y.holds).c 4 rfl
 have R:∀y:zh g,y.world.cell? ⟨b,5,Xb⟩=Xa (U8 r):=fun y=>((f _).1 y.holds).c 5 rfl
 have S:∀y:zh g,y.world.cell? ⟨b,6,Xb⟩=Xa (U8 s):=fun y=>((f _).1 y.holds).c 6 rfl
 have T:∀y:zh g,y.world.cell? ⟨b,7,Xb⟩=Xa (U8 t):=fun y=>((f _).1 y.holds).c 7 rfl
 have G:Nonempty (zh g):=⟨⟨_,x⟩⟩;refine zG (I:=g) 16 [(5,fun y=>y= Xi #[h.db.x,h.dq.x]),(8,fun y=>∃d q:Sli,y= Xm #[Xi #[d.x,q.x],I6 U]),(15,fun _=>True)] (fun u=>zc v u) x A zY (by kernel_rfl) rfl rfl (by decide) ?hS (by kernel_rfl) ?_
 case hS=>
  intro b b;simp only[mC,nM,or_false]at b
  rcases b with rfl|rfl|rfl
  ·exact⟨_,rfl⟩
  ·exact⟨_,zK,zK,rfl⟩
  exact⟨undef,trivial⟩
 simp only[Xx,Xy];iterate 2 refine ze ?_
 refine zJ (.tmp 33) ⟨p,0,Xb⟩ rfl rfl rfl rfl ?_;refine Uq ?_;iterate 2 refine ze ?_
 refine zI rfl rfl (fun _ u=>zc v u) (fun w' g b=>?_) (fun W F=>?_)
 ·refine zdH 34 (.tmp 36) rfl p 5 rfl [h.db.x,h.dq.x] ((K.box.box.grew b).mid 5 (fun a4 y E=>by
   match a4,E with
   | 0,E=>exact E
   | 1,E=>exact E)) underlying34 rfl (by kernel_rfl) ⟨g,rfl,b⟩
 cases F;refine Uq ?_;iterate 2 refine ze ?_
 refine zI rfl rfl (fun y u=>∃(d q:Sli) (E:Xn),y= Xm #[Xi #[d.x,q.x],I6 U]/\zc v E/\zc E u/\z3 E.heap.size u (Xi #[d.x,q.x]) (qZ m.db m.dq B) (jB m.db m.dq B c)) (fun w' g b=>?_) (fun W F=>?_)
 ·refine zQ.call [Xi #[h.db.x,h.dq.x],I6 B,Xi #[U8 i,U8 j,U8 k,U8 l,U8 n,U8 r,U8 s,U8 t]] rfl func128 rfl rfl rfl ?_;refine(X w' b).mono ?_;rintro e h ⟨d,q,rfl,h,D⟩;exact⟨_,rfl,(f _).2 (((f _).1 g).grew D),⟨d,q,rfl⟩,d,q,w',rfl,b,D,h⟩
 obtain⟨d,q,rfl⟩:=F;refine Uq ?_;iterate 3 refine ze ?_
 refine zJ (.tmp 32) ⟨p,0,Xb⟩ rfl rfl rfl rfl ?_;refine Uq ?_;iterate 2 refine ze ?_
 refine zI rfl rfl (fun _ u=>zbM w0 p w V {({ m with fl:=zhz m.fl m.cnt file a,cnt:=C }:Ma)with db:=qZ m.db m.dq B,dq:=jB m.db m.dq B c } u) (fun w' g b=>?_) (fun W F=>?_)
 ·obtain⟨a,c,E,i,h,j,k⟩:=b;have b:a=d/\c=q:=by
   obtain⟨l,l,l⟩:=d;obtain⟨d,d,d⟩:=a;obtain⟨d,d,d⟩:=q;obtain⟨d,d,d⟩:=c;simp only[Value.tuple.injEq,Array.mk.injEq,List.cons.injEq,Value.agg.injEq,vJ,and_true]at i;obtain⟨⟨rfl,rfl,rfl⟩,rfl,rfl,rfl⟩:=i;exact⟨rfl,rfl⟩
  obtain⟨rfl,rfl⟩:=b;have d:=h.trans j;refine QG 34 (.tmp 45) (.tmp 41) rfl p 5 rfl (Xi #[a.x,c.x]) rfl [a.x,c.x] rfl (K.box.grew d) (by simp[chL]) (by kernel_rfl) (by simp[Value.oneCell']) ?_
  intro c b a _;exact⟨(f _).2 (((f _).1 g).grown a (by omega)),trivial,zbM.step a0 Y Z (K.setDk d (bS h) k a b)⟩
 clear F;try simp only[Yn]
 refine qe fun c b a=>?_
 have c:=dD a;clear b a x A L M N P Q R S T G;go_wp2;go_ret;exact⟨by rw[H.out];rfl,by rw[z.out];exact c⟩
theorem zck {w:Xn} {p:Nat} (u:ChW w0 p w V m) (f:Fr) (fi ix:Nat) (F:Fl) (X:f.f=(fi:Int)) (M:f.x=(ix:Int)) (K:m.fl[fi]? =Xa F) (b:0<=F.size/\F.size<=96) (hi:ix<=12):
  Xp prog 97 #[Xj (Xa ⟨p,0,Xb⟩),Xi (frv f).toArray] w fun e w'=>e= Xl (Xi (pgc (Zb (pgL f.p) (ix:Int) F.size)).toArray)/\(Zb (pgL f.p) (ix:Int) F.size).length=8/\zc w w':=by
 have Y:=dD u;obtain⟨a,c,a,_,h⟩:=z5.rows u.at.fl;simp only[vJ]at a;obtain⟨d,P,N⟩:=a;obtain⟨i,U,a,a,_,c⟩:=h fi F K;have y:=dD<|d.trans U;have a:(fi:Int)< (V.fl.n:Int):=by
  have:=(gS.1 K).1;omega
 obtain⟨s,a⟩:=kA F.size;rw[a.out]at b⊢;have g:Xo (∀W,zc w W->W.cell? (i.add (fi*2))=Xa (I6 s)):=dD<|fun W T=>by
  have:=(c W T).1;rw[a.out]at this;exact this
 have a:(Zb (pgL f.p) (ix:Int) s).length=8:=by unfold Zb;simp[pgL]
 have Q:Xo (∀W,Xp prog 134 #[Xi (pgc (pgL f.p)).toArray,I6 (s -(ix:Int)*8)] W fun e w'=>e= Xl (Xi (pgc (Zb (pgL f.p) (ix:Int) s)).toArray)/\zc W w'):=dD<|fun W=>by
  have k:=zc8 (pgL f.p) (s -(ix:Int)*8) W rfl (by omega) (by omega)
  rw[zmF]at k;exact k.mono fun e w' q=>⟨q.1,q.2.2⟩
 obtain⟨z,A,B,C,D,E,G,H,b⟩:=zfr _ a;rw[b]at Q⊢;obtain⟨⟨j,k,l,n,q,r,t,v⟩,R,S,L,Z,Z⟩:=f;dsimp only at X M;subst X;subst M;simp only[pgL,pgc,frv,mP,Ya]at Q⊢;have X:Xo ([z,A,B,C,D,E,G,H].length=8):=dD<|rfl
 clear u d P N U c h K a b;obtain⟨c,P⟩:=kA w.heap.size;obtain⟨d,a⟩:=kB ((w.alloc (Xk #[U8 j,U8 k,U8 l,U8 n,U8 q,U8 r,U8 t,U8 v,I6 R,Xh S,Xh L,I6 (fi:Int),I6 (ix:Int)] 62)).alloc (Xk #[U8 0,U8 0,U8 0,U8 0,U8 0,U8 0,U8 0,U8 0] 60));have N:=gD2 a
 have U:Xo (Box d c [U8 j,U8 k,U8 l,U8 n,U8 q,U8 r,U8 t,U8 v,I6 R,Xh S,Xh L,I6 (fi:Int),I6 (ix:Int)]):=dD<|by rw[<-a];exact(Box.top _ _ _ P.symm).alloc _
 have a5:Xo (zx d (c+1) 60 (pgc zz)):=dD<|by rw[<-a];exact zx.top _ (pgc zz) _ (by simp[P.out])
 have b:=dD a;clear a
 go_enter func97,ntmps97
 go_upto_region 1 with fail;rw[b.out,P.out];have K:zc d d.drew:=show Below _ _ _ from(bR _ _).drew
 obtain⟨b,a⟩:∃b:Xn->Prop,Xo (∀u,b u↔(Box u c [U8 j,U8 k,U8 l,U8 n,U8 q,U8 r,U8 t,U8 v,I6 R,Xh S,Xh L,I6 (fi:Int),I6 (ix:Int)])/\u.cell? ⟨p,7,Xb⟩=Xa (O (Xa i) V.fl.n V.fl.c)/\u.cell? (i.add (fi*2))=Xa (I6 s)):=⟨fun u=>_,fun _=>Iff.rfl⟩
 have h:∀W,zc w W->W.cell? ⟨p,7,Xb⟩=Xa (O (Xa i) V.fl.n V.fl.c):=fun W T=>by
  have:=(Y.box.box.grew T).c 7 rfl;rw[y.out]at this;exact this
 have R:=dD h
 clear h;have h:b d.drew:=(a _).2 ⟨U.grew K,R _ (N.trans K),g _ (N.trans K)⟩;have L:zc d d.drew:=K;have S:∀y:zh b,y.world.cell? ⟨c,0,Xb⟩=Xa (U8 j):=fun y=>((a _).1 y.holds).1.c 0 rfl
 have T:∀y:zh b,y.world.cell? ⟨c,1,Xb⟩=Xa (U8 k):=fun y=>((a _).1 y.holds).1.c 1 rfl
 have U:∀y:zh b,y.world.cell? ⟨c,2,Xb⟩=Xa (U8 l):=fun y=>((a _).1 y.holds).1.c 2 rfl
 have W:∀y:zh b,y.world.cell? ⟨c,3,Xb⟩=Xa (U8 n):=fun y=>((a _).1 y.holds).1.c 3 rfl
 have X:∀y:zh b,y.world.cell? ⟨c,4,Xb⟩=Xa (U8 q):=fun y=>((a _).1 y.holds).1.c 4 rfl
 have Y:∀y:zh b,y.world.cell? ⟨c,5,Xb⟩=Xa (U8 r):=fun y=>((a _).1 y.holds).1.c 5 rfl
 have Z:∀y:zh b,y.world.cell? ⟨c,6,Xb⟩=Xa (U8 t):=fun y=>((a _).1 y.holds).1.c 6 rfl
 have a0:∀y:zh b,y.world.cell? ⟨c,7,Xb⟩=Xa (U8 v):=fun y=>((a _).1 y.holds).1.c 7 rfl
 have a1:∀y:zh b,y.world.cell? ⟨c,11,Xb⟩=Xa (I6 (fi:Int)):=fun y=>((a _).1 y.holds).1.c 11 rfl
 have a4:∀y:zh b,y.world.cell? ⟨c,12,Xb⟩=Xa (I6 (ix:Int)):=fun y=>((a _).1 y.holds).1.c 12 rfl
 have a2:∀y:zh b,y.world.cell? ⟨p,7,Xb⟩=Xa (O (Xa i) V.fl.n V.fl.c):=fun y=>((a _).1 y.holds).2.1
 have a3:∀y:zh b,y.world.cell? (i.add (fi*2))=Xa (I6 s):=fun y=>((a _).1 y.holds).2.2
 have y:Nonempty (zh b):=⟨⟨_,h⟩⟩;refine zG (I:=b) 19 [(17,fun b=>b= Xi #[U8 z,U8 A,U8 B,U8 C,U8 D,U8 E,U8 G,U8 H]),(18,fun _=>True)] (fun u=>zc d u) h L zY (by kernel_rfl) rfl rfl (by decide) ?hS (by kernel_rfl) ?_
 case hS=>
  intro x M;simp only[mC,nM,or_false]at M
  rcases M with rfl|rfl
  ·exact⟨_,rfl⟩
  exact⟨undef,trivial⟩
 simp only[Xx,Xy];iterate 3 refine ze ?_
 refine zJ (.tmp 7) ⟨p,0,Xb⟩ rfl rfl rfl rfl ?_;refine Uq ?_;iterate 13 refine ze ?_
 refine zI rfl rfl (fun _ u=>zc d u) (fun w' d b=>?_) (fun a6 M=>?_)
 ·refine zQ.call [Xi #[U8 j,U8 k,U8 l,U8 n,U8 q,U8 r,U8 t,U8 v],I6 (s -(ix:Int)*8)] rfl func134 rfl rfl rfl ?_;refine(Q w').mono ?_;rintro e i ⟨rfl,i⟩;obtain⟨k,n,q⟩:=(a _).1 d;have j:=N.trans (b.trans i);exact⟨_,rfl,(a _).2 ⟨k.grew i,R _ j,g _ j⟩,rfl,b.trans i⟩
 subst M;refine Uq ?_;refine zI rfl rfl (fun _ u=>zc w u/\Box u (c+1) (pgc [z,A,B,C,D,E,G,H])) (fun w' d b=>?_) (fun a6 M=>?_)
 ·refine QG 60 (.tmp 4) (.tmp 22) rfl (c+1) 0 rfl (Xi #[U8 z,U8 A,U8 B,U8 C,U8 D,U8 E,U8 G,U8 H]) rfl [U8 z,U8 A,U8 B,U8 C,U8 D,U8 E,U8 G,U8 H] rfl (a5.grew b) (by simp[pgc,zz]) (by kernel_rfl) (by simp[Value.oneCell']) ?_
  intro l i c _;have j:zc w l:=zd (N.trans b) c (by have:=P.out;omega)
  obtain⟨k,n,q⟩:=(a _).1 d;exact⟨(a _).2 ⟨k.grown c (by omega),R _ j,g _ j⟩,trivial,j,i.box⟩
 clear M;try simp only[Yn]
 refine qe fun l b a=>?_
 have d:=dD a.1;have c:=dD a.2;clear b a h L S T U W X Y Z a0 a1 a4 a2 a3 y K;go_wp2;refine bodyPost_ret (zX rfl _ rfl c underlying60 rfl zqY) rfl ⟨rfl,by first | trivial | rfl,d⟩
theorem zjw {w:Xn} {p:Nat} (n:ChW w0 p w V m) (k:Nat) (f:Fr) (ak:m.fs[k]? =Xa f) (fi ix:Nat) (F:Fl) (a1:f.f=(fi:Int)) (q:f.x=(ix:Int)) (ba:m.fl[fi]? =Xa F) (bg:0<=F.size/\F.size<=96) (hi:ix<=12):
  Xp prog 56 #[Xj (Xa ⟨p,0,Xb⟩),I6 (k:Int)] w fun e w'=>e= Xl (Xh (decide (Qu m.fl m.cnt fi ix=0)))/\zbM w0 p w V (wrM m (Zb (pgL f.p) (ix:Int) F.size) fi ix) w':=by
 have am:=dD n;have g:Xo (∀W,zc w W->Xp prog 97 #[Xj (Xa ⟨p,0,Xb⟩),Xi (frv f).toArray] W fun e w'=>e= Xl (Xi (pgc (Zb (pgL f.p) (ix:Int) F.size)).toArray)/\zc W w'):=show∀W,_ from fun W Z=>(zck (n.grew Z) f fi ix F a1 q ba bg hi).mono fun e w' al=>⟨al.1,al.2.2⟩
 have s:(Zb (pgL f.p) (ix:Int) F.size).length=8:=by unfold Zb;simp[pgL]
 obtain⟨a7,a5⟩:=kA (wrM m (Zb (pgL f.p) (ix:Int) F.size) fi ix);obtain⟨a8,a6⟩:=kA (decide (Qu m.fl m.cnt fi ix=0));have h:Xo (∀W,zc w W->Xp prog 96 #[Xj (Xa ⟨p,0,Xb⟩),Xi (pgc (Zb (pgL f.p) (ix:Int) F.size)).toArray,I6 (fi:Int),I6 (ix:Int)] W fun e w'=>e= Xl (Xh a8)/\zbM w0 p W V a7 w'):=dD<|fun W Z=>by
  rw[<-a5.out,<-a6.out];exact zdJ (n.grew Z) _ s (fi:Int) (ix:Int)
 rw[a5.out,a6.out];have v:¬Dw p V w.heap.size:=fun e=>absurd (n.dlt _ e) (by omega)
 obtain⟨cb,-⟩:=n.at.ns;obtain⟨c8,bc,bd⟩:=n.at.frs k f ak;have Q:=dD bc;have R:=dD bd
 have be:(k:Int)< (V.f.n:Int):=by
  have:=(gS.1 ak).1;omega
 obtain⟨a9,aa,ab,ac,ae,af,ag,ah,a0⟩:=zfr _ s;rw[a0]at g h;obtain⟨⟨z,A,B,C,D,E,G,H⟩,L,M,K,c9,ca⟩:=f;dsimp only at a1 q;subst a1;subst q;simp only[pgc,frv,mP,Ya]at g h;have bw:=am.box.box.c 0 rfl;rw[Q.out]at bw;obtain⟨ap,aq,ar,au,av,aw,ax,ay,az,b8,S,T,U⟩:=R.out w (zc.refl _);dsimp only at ap aq ar au av aw ax ay az b8 S T U
 go_enter func56,ntmps56
 go_upto_region 2 with fail;obtain⟨c,P⟩:=kA w.heap.size;obtain⟨l,j⟩:=kB (w.alloc (Xk #[U8 z,U8 A,U8 B,U8 C,U8 D,U8 E,U8 G,U8 H,I6 L,Xh M,Xh K,I6 (fi:Int),I6 (ix:Int)] 62));have N:=gA j
 have ao:=xPT j P
 rw[j,P.out];rw[P.out]at v;have aj:zc l l.drew:=show Below _ _ _ from(bR _ _).drew
 obtain⟨b,a⟩:∃b:Xn->Prop,Xo (∀u,b u↔zx u c 62 [U8 z,U8 A,U8 B,U8 C,U8 D,U8 E,U8 G,U8 H,I6 L,Xh M,Xh K,I6 (fi:Int),I6 (ix:Int)]):=⟨fun u=>_,fun _=>Iff.rfl⟩
 have r:=(a _).2 (ao.grew aj);have X:zc l l.drew:=aj;have bh:∀y:zh b,y.world.cell? ⟨c,0,Xb⟩=Xa (U8 z):=fun y=>((a _).1 y.holds).box.c 0 rfl
 have bi:∀y:zh b,y.world.cell? ⟨c,1,Xb⟩=Xa (U8 A):=fun y=>((a _).1 y.holds).box.c 1 rfl
 have bj:∀y:zh b,y.world.cell? ⟨c,2,Xb⟩=Xa (U8 B):=fun y=>((a _).1 y.holds).box.c 2 rfl
 have bk:∀y:zh b,y.world.cell? ⟨c,3,Xb⟩=Xa (U8 C):=fun y=>((a _).1 y.holds).box.c 3 rfl
 have bl:∀y:zh b,y.world.cell? ⟨c,4,Xb⟩=Xa (U8 D):=fun y=>((a _).1 y.holds).box.c 4 rfl
 have bm:∀y:zh b,y.world.cell? ⟨c,5,Xb⟩=Xa (U8 E):=fun y=>((a _).1 y.holds).box.c 5 rfl
 have bn:∀y:zh b,y.world.cell? ⟨c,6,Xb⟩=Xa (U8 G):=fun y=>((a _).1 y.holds).box.c 6 rfl
 have bo:∀y:zh b,y.world.cell? ⟨c,7,Xb⟩=Xa (U8 H):=fun y=>((a _).1 y.holds).box.c 7 rfl
 have br:∀y:zh b,y.world.cell? ⟨c,8,Xb⟩=Xa (I6 L):=fun y=>((a _).1 y.holds).box.c 8 rfl
 have bs:∀y:zh b,y.world.cell? ⟨c,9,Xb⟩=Xa (Xh M):=fun y=>((a _).1 y.holds).box.c 9 rfl
 have bp:∀y:zh b,y.world.cell? ⟨c,10,Xb⟩=Xa (Xh K):=fun y=>((a _).1 y.holds).box.c 10 rfl
 have bq:∀y:zh b,y.world.cell? ⟨c,11,Xb⟩=Xa (I6 (fi:Int)):=fun y=>((a _).1 y.holds).box.c 11 rfl
 have bt:∀y:zh b,y.world.cell? ⟨c,12,Xb⟩=Xa (I6 (ix:Int)):=fun y=>((a _).1 y.holds).box.c 12 rfl
 have bf:Nonempty (zh b):=⟨⟨_,r⟩⟩;refine zG (I:=b) 9 [(3,fun a3=>a3= Xi #[U8 a9,U8 aa,U8 ab,U8 ac,U8 ae,U8 af,U8 ag,U8 ah]),(8,fun a3=>a3= Xh a8)] (fun u=>zc l u) r X zY (by kernel_rfl) rfl rfl (by decide) ?hS (by kernel_rfl) ?_
 case hS=>
  intro x q;simp only[mC,nM,or_false]at q
  rcases q with rfl|rfl
  ·exact⟨_,rfl⟩
  exact⟨_,rfl⟩
 simp only[Xx,Xy];iterate 3 refine ze ?_
 refine zI rfl rfl (fun _ u=>zc l u) (fun w' i d=>?_) (fun bv a2=>?_)
 ·refine zQ.call [Xj (Xa ⟨p,0,Xb⟩),Xi #[U8 z,U8 A,U8 B,U8 C,U8 D,U8 E,U8 G,U8 H,I6 L,Xh M,Xh K,I6 (fi:Int),I6 (ix:Int)]] rfl func97 rfl rfl rfl ?_;refine(g w' (N.trans d)).mono ?_;rintro e a4 ⟨rfl,ai⟩;exact⟨_,rfl,(a _).2 (((a _).1 i).grew ai),rfl,d.trans ai⟩
 subst a2;refine Uq ?_;iterate 4 refine ze ?_
 refine zI rfl rfl (fun _ u=>zbM w0 p w V a7 u) (fun w' i d=>?_) (fun bv a2=>?_)
 ·refine zQ.call [Xj (Xa ⟨p,0,Xb⟩),Xi #[U8 a9,U8 aa,U8 ab,U8 ac,U8 ae,U8 af,U8 ag,U8 ah],I6 (fi:Int),I6 (ix:Int)] rfl func96 rfl rfl rfl ?_;refine(h w' (N.trans d)).mono ?_;rintro e a4 ⟨rfl,t⟩;have b9:=zbM.of_grew (N.trans d) t;obtain⟨bx,_,_,bu,_⟩:=t;exact⟨_,rfl,(a _).2 (((a _).1 i).chg bu v),rfl,b9⟩
 subst a2;refine Uq ?_;refine qe fun bz bb Y=>?_
 have an:=dD Y;go_wp2;go_ret;exact⟨rfl,an⟩
theorem zla (m:Ma) (b) (file a:Int):(wrM m b file a).fs=m.fs/\(wrM m b file a).hand=m.hand/\(wrM m b file a).ca=m.ca/\(wrM m b file a).sp=m.sp/\(wrM m b file a).sl=m.sl:=by
 unfold wrM
 split <;> exact⟨rfl,rfl,rfl,rfl,rfl⟩
def clM (m:Ma) (k:Nat) (f:Fr) (F:Fl):Ma:=
 if Qu m.fl m.cnt f.f f.x=0 then{ wrM m (Zb (pgL f.p) f.x F.size) f.f f.x with fs:=m.fs.set k { f with d:=false } }else m
theorem zit {w:Xn} {p:Nat} (r:ChW w0 p w V m) (k:Nat) (f:Fr) (l:m.fs[k]? =Xa f) (fi ix:Nat) (F:Fl) (h:f.f=(fi:Int)) (i:f.x=(ix:Int)) (s:m.fl[fi]? =Xa F) (t:0<=F.size/\F.size<=96) (hi:ix<=12):
  Xp prog 31 #[Xj (Xa ⟨p,0,Xb⟩),I6 (k:Int)] w fun e w'=>e= Xl (Xh (decide (Qu m.fl m.cnt f.f f.x=0)))/\zbM w0 p w V (clM m k f F) w':=by
 have j:=zjw r k f l fi ix F h i s t hi;obtain⟨N,b⟩:=kA (wrM m (Zb (pgL f.p) (ix:Int) F.size) fi ix);have c:Xo (N.fs=m.fs):=dD<|by rw[<-b.out];exact(zla _ _ _ _).1
 have a:Xo (Qu m.fl m.cnt f.f f.x=0->clM m k f F={ N with fs:=m.fs.set k { f with d:=false } }):=dD<|fun e=>by
  unfold clM;rw[kE e,h,i,b.out]
 have g:Xo (Qu m.fl m.cnt f.f f.x≠0->clM m k f F=m/\N=m):=dD<|fun e=>⟨by
  unfold clM;rw[kF e],by
  rw[<-b.out];unfold wrM;rw[h,i]at e;rw[kF e]⟩
 rw[b.out,<-h,<-i]at j;obtain⟨M,n⟩:=kA (clM m k f F);rw[n.out]at a g⊢;obtain⟨R,q⟩:=kA (decide (Qu m.fl m.cnt f.f f.x=0));rw[q.out]at j⊢;have n:=dD l;have u:=(gS.1 l).1;clear r l h i s t hi
 go_enter func31,ntmps31
 go_upto_region 1 with fail;go_wp2_with fail;refine j.mono ?_;clear j;rintro e j ⟨rfl,i⟩;have h:=dD i;clear i
 cases R with
 | false=>
  have b:=dD<|g.out (of_decide_eq_false q)
  have g:Xo (zbM w0 p w V M j):=dD<|by rw[b.1,<-b.2];exact h.out
  go_wp2;go_ret;exact⟨rfl,g⟩
 | true=>
  have b:=dD<|a.out (of_decide_eq_true q)
  obtain⟨z,r,i,s,q⟩:=h.out;have u:=dD r;have x:=dD i;have y:=dD s;have t:=dD q;obtain⟨h,v,a⟩:=i.fs.formS (by rw[c.out];omega)
  have l:=i.box.box.c 0 rfl;rw[a]at l;have l:Xo (zb JR w0.heap.size j (O (Xa ⟨h,0,Xb⟩) N.fs.length v) m.fs):=dD<|by rw[<-a,<-c.out];exact i.fs
  have v:Xo (oB z.f h):=dD<|by unfold oB;rw[a];rfl
  have j:=dD a;have z:(k:Int)< (N.fs.length:Int):=by rw[c.out];omega
  clear i s q r a
  go_wp2_with (refine zw (E:=JR) rfl (.tmp 17) (.const (Xh Xd)) 4 rfl w0.heap.size _ m.fs l h k 10 rfl f { f with d:=false } n.out [Xh Xd] (by kernel_rfl) rfl (Ye rfl) (by intro a a;simp at a;subst a;rfl) ⟨h,k*13+10,Xb⟩ rfl rfl _ rfl rfl ?_)
  intro h c a _;have g:Xo (zbM w0 p w V M h):=dD<|by
   (first|rw[b.out]|(simp only[Sli.x];rw[b.out]));refine zbM.step y t u (x.frameC v a ?_);(first|rw[j.out]|(simp only[Sli.x];rw[j.out]));exact c
  go_wp2;go_ret;exact⟨rfl,g⟩
theorem zlr {a:Act} {w:Xn} (e x) (h:o.op= .load e x) (b c:Nat) (j:a.eval x= Xj (Xa ⟨b,c,Xb⟩)) (vs:List Xq) (f:w.rangeAt b c vs) {d:TypeDesc} (i:Tryz.prog.underlying e=Xa d) (g:d.isRow=Xc) (hi:(Tryz.prog.info? e).map (·.size)=Xa vs.length):(execOp a.eval o).run prog w= .ok (.value (Xi vs.toArray)) w:=by
 have:=run_loadAt_mid (P:=prog) w b c e vs d f i g hi;simp only[execOp,h,j,Xs,this,rA,Xv]
theorem zel {a:Act} {w:Xn} (f x) (i:o.op= .load f x) (b c:Nat) (j:a.eval x= Xj (Xa ⟨b,c,Xb⟩)) (v) (h:w.cell? ⟨b,c,Xb⟩=Xa v) {d:TypeDesc} (g:Tryz.prog.underlying f=Xa d) (e:d.isRow=Xd):(execOp a.eval o).run prog w= .ok (.value v) w:=by
 have e:(isAgg f).run prog w= .ok Xd w:=by
  unfold isAgg;rw[Xs,run_underlying g w]
  cases d <;> simp_all [TypeDesc.isRow]
 have g:(loadVar f ⟨b,c,Xb⟩).run prog w= .ok v w:=by simp[loadVar,Xs,e,h]
 simp only[execOp,i,j,Instr.loadAt,Instr.sureAddr,Xs,Xv,g,rA]
theorem zpU {s:Sp} (h:spE s=0):(wrL s.ars).1=0/\tbW s.tb=0/\(s.live=Xd->s.ars=[]/\s.tb.all (·.isEmpty)=Xc):=by
 unfold spE at h
 split at h
 ·rename_i e;exact absurd h e
 rename_i a
 split at h
 ·rename_i e;exact absurd h e
 rename_i b
 refine⟨Decidable.not_not.1 a,Decidable.not_not.1 b,fun a=>?_⟩
 rw[a]at h
 split at h
 ·cases h
 rename_i a
 simp at a
 exact⟨a.1,by simp;exact a.2⟩
theorem zmU (h:zap m=0) (a:b<m.db.length):zcm m b=Xd:=by
 cases e:zcm m b with
 | false=>rfl
 | true=>rw[zeU a e]at h;cases h
theorem znq (h:J6 m=0) {q:Int × List Int} (a:m.dq[j]? =Xa q):zU m.fl q.1=Xc:=by
 cases e:zU m.fl q.1 with
 | true=>rfl
 | false=>rw[zen a e]at h;cases h
theorem zhV (V m w) (A:zN w V m) (u:J7 m=0):
  Xp prog 27 #[Xi (mL V m).toArray] w fun e w'=>e= Xl (I6 0)/\zc w w':=by
 unfold J7 at u;rw[zn]at u;have e4:Qa m.fs m.hand=0:=u _ (by simp)
 have e5:slW m.sl=0:=u _ (by simp)
 have e6:zB m.sb.length m.sq=0:=u _ (by simp)
 have e7:zB m.db.length m.dq=0:=u _ (by simp)
 have e8:stW m.fl m.cnt=0:=u _ (by simp)
 have bf:zmn m=0:=u _ (by simp)
 have eh:Xo (zap m=0):=dD<|u _ (by simp)
 have ei:Xo (J6 m=0):=dD<|u _ (by simp)
 have bz:(if 4<m.sp.length then(4:Int)else 0)=0:=u _ (by simp)
 have cl:Xo (∀s∈m.sp,spE s=0):=dD<|fun s b9=>zn.1 (u (zu (m.sp.map spE)) (by simp)) _ (List.mem_map.2 ⟨s,b9,rfl⟩)
 have bn:=dD A;obtain⟨cw,bv,bw,-,be,cx,-,-,bx⟩:=A.ns;obtain⟨e9,bd,B,bb⟩:=A.spaces;have y:=A.fs;have C:=A.sl;have af:=dD A.pgs;have ah:=dD A.puts;have ba:=A.sp;have ct:V.dq.n<=9223372036854775807:=by have:=A.dq.2.2;omega
 have cs:V.db.n<=9223372036854775807:=by have:=A.db.2.2;omega
 obtain⟨bl,P,h,aa,⟨E,b,F⟩,⟨a1,i,a2⟩,a9,bk,⟨bi,d,bj⟩⟩:=V;dsimp only[mL]at cw bv bw be cx bx cs ct af ah y C B⊢;have c4:Xo (∀W,zc w W->Xp prog 49 #[Xi #[bl.x,I6 m.hand]] W fun e w'=>e= Xl (I6 0)/\zc W w'):=dD<|fun W c=>by (try simp only[Sli.x]at y⊢);rw[cw]at y⊢;rw[<-e4];exact zc2 bl.a bl.c m.fs m.hand W (zp7.1 (y.grew c))
 have c5:Xo (∀W,zc w W->Xp prog 50 #[P.x] W fun e w'=>e= Xl (I6 0)/\zc W w'):=dD<|fun W c=>by (try simp only[Sli.x]at C⊢);rw[bv]at C⊢;rw[<-e5];exact zfg P.a P.c m.sl W (C.grew c)
 have c6:Xo (∀W,zc w W->Xp prog 51 #[Xi #[h.x,aa.x]] W fun e w'=>e= Xl (I6 0)/\zc W w'):=dD<|fun W c=>by rw[<-e6,<-bw];exact QV h.a h.n h.c _ m.sq W (bn.grew c).sq
 have c7:Xo (∀W,zc w W->Xp prog 51 #[Xi #[O E b F,O a1 i a2]] W fun e w'=>e= Xl (I6 0)/\zc W w'):=dD<|fun W c=>by rw[<-e7,<-be];exact QV E b F _ m.dq W (bn.grew c).dq
 have c8:Xo (∀W,zc w W->Xp prog 52 #[Xi #[a9.x,I6 m.cnt]] W fun e w'=>e= Xl (I6 0)/\zc W w'):=dD<|fun W c=>by rw[<-e8];exact zd6 _ m.fl m.cnt W (bn.grew c).fl
 have ai:=dD<|fun W ep (c:zc w W)=>ziY _ m.fl m.cnt ep W (bn.grew c).fl
 have cb:=dD be.symm;have cc:=dD cx.symm;have ae:=dD bx.symm;have es:d<=4:=by
  rw[<-bx]at bz
  split at bz
  ·cases bz
  omega
 have cj:Xo (e9.length=d):=dD<|by rw[bd];exact ae.out
 have ce:=dD B
 have cf:=dD bb
 have az:P.n=h.n/\m.cnt=(b:Int):=by
  unfold zmn at bf;rw[<-bv,<-bw,<-be]at bf
  split at bf
  ·cases bf
  omega
 obtain⟨cm,du⟩:=az;have cn:((P.n:Int) !=(h.n:Int))=Xd:=by simp[cm]
 have co:(P.n != h.n)=Xd:=by simp[cm]
 have cp:(m.cnt !=(b:Int))=Xd:=by simp[du]
 have eu:d<=9223372036854775807:=by omega
 have et:decide ((4:Int)< (d:Int))=Xd:=by simp;omega
 clear A cw bv bw be cx bx bd B bb y C ba u e4 e5 e6 e7 e8 bf bz cm du es;obtain⟨al,H⟩:=kB (w.alloc (Xk #[bl.x,I6 m.hand,P.x,h.x,aa.x,O E b F,O a1 i a2,a9.x,I6 m.cnt,bk.x,O bi d bj] 41));have n:=gA H
 have f:Xo (∀W,zc al W->Box W w.heap.size [bl.x,I6 m.hand,P.x,h.x,aa.x,O E b F,O a1 i a2,a9.x,I6 m.cnt,bk.x,O bi d bj]):=dD<|fun W c=>by
  rw[<-H]at c;exact(Box.top _ _ _ rfl).grew c
 have ci:=dD H;clear H
 go_enter func27,ntmps27
 go_upto_region 1 with fail;rw[ci.out];have f1:=(f _ (zc.refl _)).c 0 rfl;have f2:=(f _ (zc.refl _)).c 1 rfl;have p:=c4.out al n.out;go_wp2_with fail;refine p.mono ?_;clear p f1 f2;rintro e ek ⟨rfl,j⟩;have ed:=dD j;have dl:=(f _ j).c 2 rfl;have p:=c5.out ek (n.trans j);go_wp2_with fail;refine p.mono ?_;clear p dl j;rintro e el ⟨rfl,j⟩;have bp:=dD (ed.trans j);clear j;have dm:=(f _ bp).c 3 rfl;have f3:=(f _ bp).c 4 rfl;have p:=c6.out el (n.trans bp);go_wp2_with fail;refine p.mono ?_;clear p dm f3;rintro e em ⟨rfl,j⟩;have bq:=dD (bp.trans j);clear j;have dn:=(f _ bq).c 5 rfl;have dp:=(f _ bq).c 6 rfl;have p:=c7.out em (n.trans bq);go_wp2_with fail;refine p.mono ?_;clear p dn dp;rintro e en ⟨rfl,j⟩;have br:=dD (bq.trans j);clear j;have bm:=(f _ br).c 7 rfl;have ab:=(f _ br).c 8 rfl;have p:=c8.out en (n.trans br);go_wp2_with fail;refine p.mono ?_;clear p bm ab;rintro e f4 ⟨rfl,j⟩;have ak:=dD (br.trans j);clear j;have dl:=(f _ ak).c 2 rfl;have dm:=(f _ ak).c 3 rfl;have dn:=(f _ ak).c 5 rfl;have ab:=(f _ ak).c 8 rfl;go_wp2;clear dl dm dn ab cn co cp
 go_loopg [68] b (fun aw df wr=>∃l:Nat,l<=b/\b - l<=aw/\df=I6 l/\Xo (zc al wr))
 case atStart=>exact⟨0,nZ _,by omega,rfl,ak⟩
 obtain⟨l,ey,ex,rfl,r⟩:=hrel
 by_cases a3:l<b
 ·have b8:=kC a3
  have ac:Xo (l<m.db.length):=dD<|by rw[cb.out];exact a3
  obtain⟨cy,dq⟩:∃cy,Xo (m.db[l]? =Xa cy):=⟨_,gE ac⟩;obtain⟨dt,S,T,U,X,Y,Z,I,a0,rfl,rfl,N⟩:=af.out l cy dq.out;have Q:Xo ((!zU m.fl (l:Int) && !([S,T,U,X,Y,Z,I,a0] == zz))=Xd):=dD<|by
   have:=zmU eh ac.out;unfold zcm at this;rw[gD,dq.out]at this;exact this
  obtain⟨am,an,ao,ap,aq,ar,au,av⟩:=N wr (n.trans r);have a7:=fun W=>Qr 9998 S T U X Y Z I a0 0 0 0 0 0 0 0 0 W
  simp only[zfW]at a7;obtain⟨eg,cd⟩:=kA ([S,T,U,X,Y,Z,I,a0] == zz);rw[cd.out]at a7 Q;clear N;go_upto_region 21 with fail;obtain⟨R,a⟩:=kB (wr.alloc (Xk #[U8 S,U8 T,U8 U,U8 X,U8 Y,U8 Z,U8 I,U8 a0] 60));have ee:=xA a
  have k:=gT a r
  rw[a];clear a am an ao ap aq ar au av;have g:=ai.out R (l:Int) (n.trans k);obtain⟨ej,bo⟩:=kA (zU m.fl (l:Int));rw[bo.out]at g Q;have bm:=(f _ k).c 7 rfl;have ab:=(f _ k).c 8 rfl;go_wp2_with fail;refine g.mono ?_;clear g bm ab;rintro e bu ⟨rfl,G⟩;have bs:=dD (k.trans G);have ef:=ee.grew G;obtain⟨e0,f8,f9,fa,fb,fc,fd,fe⟩:=ef.c8;clear G
  cases ej with
  | true=>
   clear a7;go_wp2
   go_roundg (b -(l+1))
   case measure=>omega
   exact⟨l+1,by omega,by omega,by go_num,bs⟩
  | false=>
   cases eg with
   | true=>
    go_wp2
    go_roundg (b -(l+1))
    case measure=>omega
    exact⟨l+1,by omega,by omega,by go_num,bs⟩
   | false=>cases Q.out
 have b8:=kD a3
 have dp:=(f _ r).c 6 rfl;go_wp2;clear dp
 go_loopg [88] i (fun aw di wr=>∃L:Nat,L<=i/\i - L<=aw/\di=I6 L/\Xo (zc al wr))
 case atStart=>exact⟨0,nZ _,by omega,rfl,r⟩
 obtain⟨L,f7,ev,rfl,r⟩:=hrel
 by_cases z:L<i
 ·have a4:=kC z
  obtain⟨cz,dr⟩:∃cz,Xo (m.dq[L]? =Xa cz):=⟨_,gE (by rw[cc.out];exact z)⟩
  have bo:=znq ei dr.out;obtain⟨dt,cv,S,T,U,X,Y,Z,I,a0,rfl,rfl,N⟩:=ah.out L cz dr.out;obtain⟨am,an,ao,ap,aq,ar,au,av,cq⟩:=N wr (n.trans r);have g:=fun W c=>ai.out W cv c
  dsimp only at bo;rw[bo]at g;clear N;go_upto_region 27 with fail;obtain⟨R,a⟩:=kB (wr.alloc (Xk #[I6 cv,U8 S,U8 T,U8 U,U8 X,U8 Y,U8 Z,U8 I,U8 a0] 69));have e0:=((show Box R wr.heap.size [I6 cv,U8 S,U8 T,U8 U,U8 X,U8 Y,U8 Z,U8 I,U8 a0] by rw[<-a];exact Box.top _ _ _ rfl)).c 0 rfl
  have k:=gT a r
  rw[a];clear a am an ao ap aq ar au av cq;have g:=g R (n.trans k);have bm:=(f _ k).c 7 rfl;have ab:=(f _ k).c 8 rfl;go_wp2_with fail;refine g.mono ?_;clear g bm ab e0;rintro e bu ⟨rfl,G⟩;have bs:=dD (k.trans G);clear G;go_wp2
  go_roundg (i -(L+1))
  case measure=>omega
  exact⟨L+1,by omega,by omega,by go_num,bs⟩
 have a4:=kD z
 have dk:=(f _ r).c 10 rfl;go_wp2;clear dk
 go_loopg [106] d (fun aw bh wr=>∃v:Nat,v<=d/\d - v<=aw/\bh=I6 v/\Xo (zc al wr))
 case atStart=>exact⟨0,nZ _,by omega,rfl,r⟩
 obtain⟨v,f6,ew,rfl,r⟩:=hrel
 by_cases q:v<d
 ·have a5:=kC q
  obtain⟨x,cu⟩:∃x,e9[v]? =Xa x:=⟨_,gE (by rw[cj.out];exact q)⟩
  obtain⟨s,b9⟩:∃s,m.sp[v]? =Xa s:=⟨_,gE (by rw[ae.out];exact q)⟩
  have t:=dD<|cf.out v x s cu b9;obtain⟨dv,dw,cr⟩:=zpU (cl s (mG b9));have c9:Xo (s.live=Xd->x.ar.n=0/\s.tb.all (·.isEmpty)=Xc):=show _->_ from fun dy=>⟨by rw[t.ar.n,(cr dy).1];rfl,(cr dy).2⟩
  obtain⟨dt,rfl,N⟩:=ce.out v x cu;obtain⟨am,an,ao,ap,aq,ar,au,av,cq,eq⟩:=N wr (n.trans r);clear N cu b9 cr;have ca:=dD t.live;have c3:Xo (∀W,zc w W->Xp prog 53 #[x.ar.x] W fun e w'=>e= Xl (Xi #[I6 0,I6 (wrL s.ars).2])/\zc W w'):=show∀W,_ from fun W c=>by rw[<-dv];exact zaJ _ s.ars W (t.grew c).ar (show Cap (x.ar.x)from t.cap)
  have ch:Xo (∀W,zc w W->Xp prog 54 #[Xi #[x.t0.x,x.t1.x,x.t2.x,x.t3.x,x.t4.x,x.t5.x,x.t6.x,x.t7.x]] W fun e w'=>e= Xl (I6 0)/\zc W w'):=dD<|fun W c=>by rw[<-dw];exact zd5 x.tab s.tb W (t.grew c).tb
  have cg:=dD<|fun W (c:zc w W)=>zhQ x.tab s.tb W (t.grew c).tb
  clear dv dw;go_upto_region 35 with fail;obtain⟨R,a⟩:=kB (wr.alloc (Xk #[Xh x.live,x.ar.x,x.t0.x,x.t1.x,x.t2.x,x.t3.x,x.t4.x,x.t5.x,x.t6.x,x.t7.x] 79));have k:=gT a r
  obtain⟨ez,ag⟩:=kA wr.heap.size;have bt:Xo (∀W,zc R W->Box W ez [Xh x.live,x.ar.x,x.t0.x,x.t1.x,x.t2.x,x.t3.x,x.t4.x,x.t5.x,x.t6.x,x.t7.x]):=dD<|fun W c=>by
   rw[<-a]at c;exact(Box.top _ _ _ ag.symm).grew c
  rw[a,ag.out];clear a am an ao ap aq ar au av cq eq;have ay:=c3.out R (n.trans k);have bg:=(bt _ (zc.refl _)).c 1 rfl;go_wp2_with fail;refine ay.mono ?_;clear ay bg;rintro e bu ⟨rfl,G⟩;have eb:=dD G;clear G;go_upto_region 36 with fail;obtain⟨ds,K⟩:=kB (bu.alloc (Xk #[I6 0,I6 (wrL s.ars).2] 122));have ck:=gT K eb
  have ea:Box ds bu.heap.size [I6 0,I6 (wrL s.ars).2]:=by rw[<-K];exact Box.top _ _ _ rfl
  have er:=ea.c 0 rfl;rw[K];clear K;have bc:=ch.out ds (n.trans (k.trans ck));have M:=bt.out _ ck.out;have da:=M.c 2 rfl;have db:=M.c 3 rfl;have dc:=M.c 4 rfl;have dd:=M.c 5 rfl;have de:=M.c 6 rfl;have dg:=M.c 7 rfl;have dh:=M.c 8 rfl;have dj:=M.c 9 rfl;go_wp2_with fail;refine bc.mono ?_;clear bc er da db dc dd de dg dh dj;rintro e eo ⟨rfl,dx⟩;have aj:=dD (ck.trans dx);clear dx;have c0:=(bt _ aj).c 0 rfl;rw[ca.out]at c0
  cases a6:s.live with
  | true=>
   rw[a6]at c0;go_wp2
   go_roundg (d -(v+1))
   case measure=>omega
   exact⟨v+1,by omega,by omega,by go_num,k.trans aj⟩
  | false=>
   rw[a6]at c0;obtain⟨dz,ax⟩:=c9.out a6;have D:=bt.out _ aj.out;have bg:=D.c 1 rfl;(try simp only[Sli.x]at bg);rw[dz]at bg;have a8:=cg.out eo (n.trans (k.trans aj));rw[ax]at a8;have da:=D.c 2 rfl;have db:=D.c 3 rfl;have dc:=D.c 4 rfl;have dd:=D.c 5 rfl;have de:=D.c 6 rfl;have dg:=D.c 7 rfl;have dh:=D.c 8 rfl;have dj:=D.c 9 rfl;clear dz ax;go_wp2_with fail;refine a8.mono ?_;clear a8 c0 bg da db dc dd de dg dh dj;rintro e f5 ⟨rfl,gA⟩;have ec:=dD (aj.trans gA);clear gA;go_wp2
   go_roundg (d -(v+1))
   case measure=>omega
   exact⟨v+1,by omega,by omega,by go_num,k.trans ec⟩
 have a5:=kD q
 go_wp2;go_ret;exact⟨rfl,n.trans r⟩
theorem zhW (V m) (x:On) (e:En) (w) (b:zN w V m) (a:0<=e.n) (c:za4 m x e=0):
  Xp prog 29 #[Xi (mL V m).toArray,Xi (onv x).toArray,Xi #[I6 e.kind,I6 e.n,Xh e.wr]] w fun r w'=>r= Xl (I6 0)/\zc w w':=by
 have:=zgo V m x e w b a;rw[c]at this;exact this
end
end Go.Proofs.YtjjdljjhmcegdaaGreat
