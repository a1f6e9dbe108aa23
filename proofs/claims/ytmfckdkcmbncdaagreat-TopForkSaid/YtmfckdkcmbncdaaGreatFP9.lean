import Derived.Test.YtmfckdkcmbncdaaGreatFP8
namespace Go.Proofs.YtmfckdkcmbncdaaGreat
open Go.Value renaming slice→O,int→Xe,bool→Xh,agg→Xi,pointer→Xj,tuple→Xm
open Go.IntKind renaming i64→Xf,u8→Xg
open Go.Obj renaming cells→Xk
open Go.Ending renaming returned→Xl
open Go renaming World→Xn,Calls→Xp,Value→Xq
open Go.RowKit renaming Hid→Xo
open Option renaming some→Xa,none→Xb
open Bool renaming true→Xc,false→Xd
open List renaming replicate→Xr
open Go.Act renaming put→Xs
open _root_.Nat renaming lt_of_lt_of_le→Xt
open Go.Addr renaming add_lit→Xu
open _root_.List renaming getElem?_append_left→Xv,getElem?_map→Xw,length_take→Xx,replicate_zero→Xz,getElem?_take→Ya,flatten_cons→Yb
open _root_.Array renaming replicate→Xy
open Go.Sem renaming run_bind→Yc
open Go.Region renaming noSelect→Yd
set_option maxRecDepth 100000
set_option maxHeartbeats 4000000
variable{B b g:Nat} {Q:Exit->Act->Xn->Prop} {V:MaV} {m m':Ma} {o:Oper} {ops:Array Oper} {t:TypeId} {u1 w' w0 w1 w2:Xn} {z:Int}
open Go.Proofs.Tryz
section
open Go.RowKit
def zpI (k q n:Nat) (mB:Ma):Prop:=∃(s:Sp) (fr:Fr) (we:Bool),Rt mB/\mB.sp[q]? =Xa s/\mB.fs[k]? =Xa fr/\ze s n=⟨1,(k:Int),we⟩
def jn (m:Ma) (BF:Nat->Nat->Ar->Pg->Bool->Bool × Nat × Ma) (p n:Int) (wr:Bool) (er:Int):Prop:=
 er≠0/\(js m p n wr ar0 er\/(∃a,js m p n wr a 0/\(ZK m p n).2.2=er)\/(er=10/\∃(q i:Nat) (a:Ar) (pg:Pg) (ic:Bool),p=(q:Int)/\n=(i:Int)/\js m p n wr a 0/\ZK m p n=(pgL pg,ic,0)/\(qN m (BF q i a pg wr) pg a ic wr q i).1=Xd))
def zcC (m:Ma) (BF:Nat->Nat->Ar->Pg->Bool->Bool × Nat × Ma) (p n:Int) (wr:Bool) (k:Nat) (m':Ma):Prop:=
 ∃(q i:Nat) (a:Ar) (pg:Pg) (ic:Bool) (fr:Fr),p=(q:Int)/\n=(i:Int)/\js m p n wr a 0/\ZK m p n=(pgL pg,ic,0)/\(qN m (BF q i a pg wr) pg a ic wr q i).1=Xc/\k=(qN m (BF q i a pg wr) pg a ic wr q i).2.1/\(qN m (BF q i a pg wr) pg a ic wr q i).2.2.fs[k]? =Xa fr/\m'=Zc (qN m (BF q i a pg wr) pg a ic wr q i).2.2 q i k fr wr a.sh
theorem zrH {l:List Int} (h:l.length=8):∃pg:Pg,l=pgL pg:=by
 obtain⟨a,b,c,d,f,g,i,j,e⟩:=zfh l h;exact⟨⟨a,b,c,d,f,g,i,j⟩,e⟩
theorem zhJ {p n:Int} {wr:Bool} {a:Ar} {b:Int} (h:js m p n wr a b) (c:b≠0):a=ar0:=by
 rcases h with⟨_,e,_⟩|⟨_,_,_,_,_,_,_,_,_,_,_,_,_,⟨_,e,_⟩|⟨e,_⟩⟩
 ·exact e
 ·exact e
 exact absurd e c
theorem zgb {w:Xn} {a:Act} (b:o.op= .alloc 245):(execOp a.eval o).run prog w= .ok (.value (Xj (Xa ⟨w.heap.size,0,Xb⟩))) (w.alloc (Xk #[Xj Xb,I6 0,I6 0,I6 0,I6 0,Xh Xd,Xh Xd,Xh Xd,I6 0,I6 0,U8 0,U8 0,U8 0,U8 0,U8 0,U8 0,U8 0,U8 0,Xh Xd,Xh Xd] 245)):=by
 simp only[execOp,b]
 go_simp
theorem zhF (V) (m:Ma) (p n:Int) (wr:Bool) (w) (r:zE w V m) (b:Rt m) (BF:Nat->Nat->Ar->Pg->Bool->Bool × Nat × Ma)
  (Z:∀(w0 W:Xn) (p:Nat) (d:MaV) (m1:Ma) (al:Xq) (l:List (Nat × Nat)),(∀x∈l,x.2<64/\∃s,m.sp[x.1]? =Xa s)->m1=zh m l->ChW w0 p W d m1->Rt m1->qL m1.fs=0->zjR zaw (Dw p d) W al l->Xp prog 160 #[Xj (Xa ⟨p,0,Xb⟩),al] W fun e w'=>e= Xl (Xh (Qe m1 l).1)/\Chg w0 p W d (Qe m1 l).2 w')
  (h:∀(q i:Nat) (a:Ar) (pg:Pg),p=(q:Int)->n=(i:Int)->js m p n wr a 0->ZK m p n=(pgL pg,Xd,0)->0<=a.file->a.sh=Xc\/wr=Xd->∀(w0 W:Xn) (p:Nat) (d:MaV),ChW w0 p W d m->Xp prog 205 #[Xi #[Xj (Xa ⟨p,0,Xb⟩),I6 (q:Int),I6 (i:Int),I6 a.fr,I6 a.tz,Xh a.rd,Xh a.wr,Xh a.sh,I6 a.file,I6 a.base,U8 pg.b0,U8 pg.b1,U8 pg.b2,U8 pg.b3,U8 pg.b4,U8 pg.b5,U8 pg.b6,U8 pg.b7,Xh Xd,Xh wr]] W fun e w'=>e= Xl (Xm #[I6 ((BF q i a pg wr).2.1:Int),I6 (if(BF q i a pg wr).1=Xc then 0 else 10)])/\Chg w0 p W d (BF q i a pg wr).2.2 w')
  (j:∀(q i:Nat) (a:Ar) (pg:Pg) (t:Bool),p=(q:Int)->n=(i:Int)->js m p n wr a 0->ZK m p n=(pgL pg,t,0)->(qN m (BF q i a pg wr) pg a t wr q i).1=Xc->zpI (qN m (BF q i a pg wr) pg a t wr q i).2.1 q i (qN m (BF q i a pg wr) pg a t wr q i).2.2):
  Xp prog 140 #[Xi (mL V m).toArray,I6 p,I6 n,Xh wr] w fun e w'=>((∃c:Int,e= Xl (Xm #[Xi zU.toArray,I6 0,I6 c])/\jn m BF p n wr c)\/(∃(V':MaV) (k f:Nat) (m':Ma),e= Xl (Xm #[Xi (mL V' m').toArray,I6 (k:Int),I6 0])/\zcC m BF p n wr k m'/\ChW w f w' V' m'))/\zb w w':=by
 have P:=dD r;have bs:=dD b;have an:=show Xo _ from Z
 have am:=show Xo _ from h
 have ao:=show Xo _ from j
 have g:=dD<|fun W (a8:zb w W)=>zj9 V m p n wr W (P.grew a8) b.w
 have u:=dD<|fun W (a8:zb w W)=>zn8 V m p n W (P.grew a8) b.w
 clear r b Z h j;obtain⟨h,a5⟩:=kA w.heap.size;obtain⟨j,b⟩:=kB ((w.alloc (Xk (mL V m).toArray 45)).alloc (Xk zM.toArray 45));have A:=gD2 b
 have C:Xo (zn j h 45 (mL V m)):=dD<|by rw[<-b];exact(zn.top w (mL V m) _ a5.symm).grew (za _ _)
 have S:Xo (zn j (h+1) 45 zU):=dD<|by rw[<-b];exact zn.top _ zU _ (by have:=a5.out;simp;omega)
 have r:=dD b;clear b;have b:=g.out j A.out
 go_enter func140,ntmps140
 go_upto_region 1 with fail;rw[r.out,a5.out];obtain⟨y,z,D,G,H,K,L,M,Q,R,g⟩:=C.box.c11;go_wp2_with fail;refine b.mono ?_;clear b y z D G H K L M Q R g;rintro ae ai ⟨⟨a,c,rfl,b⟩,F⟩;have a3:=dD b;clear b;go_upto_region 2 with fail;obtain⟨N,E⟩:=kA ai.heap.size;obtain⟨B,b⟩:=kB (ai.alloc (Xk #[I6 a.fr,I6 a.tz,Xh a.rd,Xh a.wr,Xh a.sh,I6 a.file,I6 a.base] 125));have r:zb j B:=by rw[<-b];exact F.trans (za _ _)
 have a2:=xPT b E
 have Y:=dD (C.grew r);have a1:=dD (S.grew r);have C:=dD (A.trans r);rw[b,E.out];clear b F r
 by_cases A:c=0
 rotate_left
 ·have a4:(c != 0)=Xc:=by simp[A]
  have af:Xo (jn m BF p n wr c):=dD<|⟨A,.inl (by have:=a3.out;rw[zhJ a3.out A]at this;exact this)⟩
  clear A
  go_wp2_with (refine zj rfl 45 (.tmp 8) (.tmp 27) rfl (h+1) rfl zU rfl a1 rfl (by kernel_rfl) (by unfold zU;simp[Value.oneCell']) ?_)
  intro ag j r _;have F:Xo (zb w ag):=dD<|zd C r (by have:=a5.out;omega)
  have E:=dD j;clear j r;go_wp2;refine bodyPost_ret (zN rfl _ rfl E.box underlying45 rfl (by kernel_rfl)) rfl ⟨.inl ⟨c,rfl,af⟩,F⟩
 subst A;have b:=u.out B C.out;obtain⟨y,z,D,G,H,K,L,M,Q,R,g⟩:=Y.box.c11;go_wp2_with fail;refine b.mono ?_;clear b y z D G H K L M Q R g;rintro ae c ⟨rfl,b,H⟩;obtain⟨g,a0⟩:=kA (ZK m p n);rw[a0.out]at b⊢;obtain⟨u,t,y⟩:=g;obtain⟨pg,rfl⟩:=zrH b;obtain⟨R,z,u,K,S,T,U,X⟩:=pg;clear b;simp only[zhA,pgL,pgc,List.map];go_upto_region 5 with fail;obtain⟨L,G⟩:=kA c.heap.size;obtain⟨D,b⟩:=kB (c.alloc (Xk #[U8 R,U8 z,U8 u,U8 K,U8 S,U8 T,U8 U,U8 X] 91));have c:zb B D:=by rw[<-b];exact H.trans (za _ _)
 have B:=xPT b G
 have g:=dD (Y.grew c);have ap:=dD (a1.grew c);have M:=dD (a2.grew c);have aa:=dD (C.trans c);rw[b,G.out];clear b H c
 by_cases A:y=0
 rotate_left
 ·have a4:(y != 0)=Xc:=by simp[A]
  have af:Xo (jn m BF p n wr y):=dD<|⟨A,.inr (.inl ⟨a,a3,by rw[a0.out]⟩)⟩
  clear A
  go_wp2_with (refine zj rfl 45 (.tmp 8) (.tmp 39) rfl (h+1) rfl zU rfl ap rfl (by kernel_rfl) (by unfold zU;simp[Value.oneCell']) ?_)
  intro ag j r _;have F:Xo (zb w ag):=dD<|zd aa r (by have:=a5.out;omega)
  have E:=dD j;clear j r;go_wp2;refine bodyPost_ret (zN rfl _ rfl E.box underlying45 rfl (by kernel_rfl)) rfl ⟨.inl ⟨y,rfl,af⟩,F⟩
 subst A;obtain⟨q,i,H,G,a2,s,bw⟩:∃q i:Nat,Xo (p=(q:Int))/\Xo (n=(i:Int))/\Xo (i<64)/\∃s,Xo (m.sp[q]? =Xa s):=by
  rcases a3 with⟨e,_⟩|⟨q,i,_,s,_,b,c,y,C,_⟩
  ·cases e
  exact⟨q,i,b,c,y,s,C⟩
 rw[H.out,G.out];have ad:=dD<|fun W (a8:zb w W)=>zgo V m W (P.grew a8)
 go_upto_region 7 with fail;obtain⟨c,b⟩:∃c:Xn->Prop,Xo (∀C,c C↔zb D C):=⟨fun C=>zb D C,fun _=>Iff.rfl⟩
 have a7:=(b _).2 (gW _)
 have aq:Nonempty (zk c):=⟨⟨_,a7⟩⟩;have ar:∀y:zk c,y.world.cell? ⟨h,0,Xb⟩=_:=fun y=>(g.box.grew ((b _).1 y.holds)).c 0 rfl
 have au:∀y:zk c,y.world.cell? ⟨h,1,Xb⟩=_:=fun y=>(g.box.grew ((b _).1 y.holds)).c 1 rfl
 have av:∀y:zk c,y.world.cell? ⟨h,2,Xb⟩=_:=fun y=>(g.box.grew ((b _).1 y.holds)).c 2 rfl
 have aw:∀y:zk c,y.world.cell? ⟨h,3,Xb⟩=_:=fun y=>(g.box.grew ((b _).1 y.holds)).c 3 rfl
 have ax:∀y:zk c,y.world.cell? ⟨h,4,Xb⟩=_:=fun y=>(g.box.grew ((b _).1 y.holds)).c 4 rfl
 have ay:∀y:zk c,y.world.cell? ⟨h,5,Xb⟩=_:=fun y=>(g.box.grew ((b _).1 y.holds)).c 5 rfl
 have az:∀y:zk c,y.world.cell? ⟨h,6,Xb⟩=_:=fun y=>(g.box.grew ((b _).1 y.holds)).c 6 rfl
 have b8:∀y:zk c,y.world.cell? ⟨h,7,Xb⟩=_:=fun y=>(g.box.grew ((b _).1 y.holds)).c 7 rfl
 have b9:∀y:zk c,y.world.cell? ⟨h,8,Xb⟩=_:=fun y=>(g.box.grew ((b _).1 y.holds)).c 8 rfl
 have ba:∀y:zk c,y.world.cell? ⟨h,9,Xb⟩=_:=fun y=>(g.box.grew ((b _).1 y.holds)).c 9 rfl
 have ah:∀y:zk c,y.world.cell? ⟨h,10,Xb⟩=_:=fun y=>(g.box.grew ((b _).1 y.holds)).c 10 rfl
 have bc:∀y:zk c,y.world.cell? ⟨N,0,Xb⟩=_:=fun y=>(M.box.grew ((b _).1 y.holds)).c 0 rfl
 have bd:∀y:zk c,y.world.cell? ⟨N,1,Xb⟩=_:=fun y=>(M.box.grew ((b _).1 y.holds)).c 1 rfl
 have be:∀y:zk c,y.world.cell? ⟨N,2,Xb⟩=_:=fun y=>(M.box.grew ((b _).1 y.holds)).c 2 rfl
 have bf:∀y:zk c,y.world.cell? ⟨N,3,Xb⟩=_:=fun y=>(M.box.grew ((b _).1 y.holds)).c 3 rfl
 have bg:∀y:zk c,y.world.cell? ⟨N,4,Xb⟩=_:=fun y=>(M.box.grew ((b _).1 y.holds)).c 4 rfl
 have bh:∀y:zk c,y.world.cell? ⟨N,5,Xb⟩=_:=fun y=>(M.box.grew ((b _).1 y.holds)).c 5 rfl
 have bi:∀y:zk c,y.world.cell? ⟨N,6,Xb⟩=_:=fun y=>(M.box.grew ((b _).1 y.holds)).c 6 rfl
 have bj:∀y:zk c,y.world.cell? ⟨L,0,Xb⟩=_:=fun y=>(B.box.grew ((b _).1 y.holds)).c 0 rfl
 have bk:∀y:zk c,y.world.cell? ⟨L,1,Xb⟩=_:=fun y=>(B.box.grew ((b _).1 y.holds)).c 1 rfl
 have bl:∀y:zk c,y.world.cell? ⟨L,2,Xb⟩=_:=fun y=>(B.box.grew ((b _).1 y.holds)).c 2 rfl
 have bm:∀y:zk c,y.world.cell? ⟨L,3,Xb⟩=_:=fun y=>(B.box.grew ((b _).1 y.holds)).c 3 rfl
 have bn:∀y:zk c,y.world.cell? ⟨L,4,Xb⟩=_:=fun y=>(B.box.grew ((b _).1 y.holds)).c 4 rfl
 have bo:∀y:zk c,y.world.cell? ⟨L,5,Xb⟩=_:=fun y=>(B.box.grew ((b _).1 y.holds)).c 5 rfl
 have bp:∀y:zk c,y.world.cell? ⟨L,6,Xb⟩=_:=fun y=>(B.box.grew ((b _).1 y.holds)).c 6 rfl
 have bq:∀y:zk c,y.world.cell? ⟨L,7,Xb⟩=_:=fun y=>(B.box.grew ((b _).1 y.holds)).c 7 rfl
 refine JC (I:=c) 12 [(1,⟨.const (Xh Xd),fun Q=>∃f:Nat,Q= Xj (Xa ⟨f,0,Xb⟩),fun _ Q C=>∃(f B:Nat) (d:MaV),Q= Xj (Xa ⟨f,0,Xb⟩)/\D.heap.size<=B/\D.heap.size<=f/\zdV B C d m/\zn C f 88 (chL d m),fun p q=>zb p q,fun _=>True⟩),(10,⟨.const (Xh Xd),fun Q=>∃g,Q= Xj (Xa ⟨g,0,Xb⟩),fun _ Q C=>∃g N,Q= Xj (Xa ⟨g,0,Xb⟩)/\D.heap.size<=g/\zn C g 245 N/\N.length=20,fun p q=>zb p q,fun _=>True⟩),(11,⟨.tmp 15,fun _=>True,fun ae _ C=>∃(g f B:Nat) (d:MaV),ae= Xj (Xa ⟨g,0,Xb⟩)/\D.heap.size<=g/\zn C g 245 [Xj (Xa ⟨f,0,Xb⟩),I6 (q:Int),I6 (i:Int),I6 a.fr,I6 a.tz,Xh a.rd,Xh a.wr,Xh a.sh,I6 a.file,I6 a.base,U8 R,U8 z,U8 u,U8 K,U8 S,U8 T,U8 U,U8 X,Xh t,Xh wr]/\D.heap.size<=B/\D.heap.size<=f/\zdV B C d m/\zn C f 88 (chL d m),fun p q=>∃g N ak,D.heap.size<=g/\p.grownBy q (Xa g)/\zn p g 245 ak/\zn q g 245 N/\N.length=20,fun _=>True⟩)] a7 zZ (by kernel_rfl) (by kernel_rfl) rfl rfl (by decide) ?hS ?hp ?hpre ?hpr0 ?_
 case hS=>
  intro x c;simp only[mC,nM,or_false]at c
  rcases c with rfl|rfl|rfl
  ·exact⟨_,0,rfl⟩
  ·exact⟨_,0,rfl⟩
  exact⟨Xh Xc,trivial⟩
 case hp=>
  intro k s c0 bv P ab a1 c ae Q p q c a6;have C:=z9 P;have y:=z9 ab;clear P ab;simp only[mC,pJ,nM,or_false]at C y
  rcases C with⟨rfl,rfl⟩|⟨rfl,rfl⟩|⟨rfl,rfl⟩
  ·obtain⟨f,B,d,L,M,Y,a4,a9⟩:=a6
   rcases y with⟨rfl,rfl⟩|⟨rfl,rfl⟩|⟨rfl,rfl⟩
   ·exact absurd rfl a1
   ·exact⟨f,B,d,L,M,Y,a4.grew c,a9.grew c⟩
   obtain⟨aj,N,ak,c1,ac,br,bt,bu⟩:=c;exact⟨f,B,d,L,M,Y,a4.other ac br,a9.beside ac fun k P=>by cases P;exact a9.off br (by decide)⟩
  ·obtain⟨g,N,L,M,Y,a4⟩:=a6
   rcases y with⟨rfl,rfl⟩|⟨rfl,rfl⟩|⟨rfl,rfl⟩
   ·exact⟨g,N,L,M,Y.grew c,a4⟩
   ·exact absurd rfl a1
   obtain⟨aj,bz,ak,c1,ac,br,bt,bu⟩:=c
   by_cases e:g=aj
   ·subst e;exact⟨g,_,L,M,bt,bu⟩
   exact⟨g,N,L,M,Y.beside ac (fun k P=>by cases P;exact e),a4⟩
  obtain⟨g,f,B,d,L,M,Y,a4,a9,ac,ak⟩:=a6
  rcases y with⟨rfl,rfl⟩|⟨rfl,rfl⟩|⟨rfl,rfl⟩
  ·exact⟨g,f,B,d,L,M,Y.grew c,a4,a9,ac.grew c,ak.grew c⟩
  ·exact⟨g,f,B,d,L,M,Y.grew c,a4,a9,ac.grew c,ak.grew c⟩
  exact absurd rfl a1
 case hpre=>
  intro c0 bv k s ab P a1 p q c a9;have y:=z9 ab;simp only[mC,pJ,nM,or_false]at y
  rcases y with⟨rfl,rfl⟩|⟨rfl,rfl⟩|⟨rfl,rfl⟩ <;> trivial
 case hpr0=>
  intro k bv P;have C:=z9 P;simp only[mC,pJ,nM,or_false]at C
  rcases C with⟨rfl,rfl⟩|⟨rfl,rfl⟩|⟨rfl,rfl⟩ <;> trivial
 simp only[List.take,List.drop];refine zae rfl rfl rfl (fun y c=>?_);go_big_quiet_op;refine c _ ?_;clear c y
 refine jw rfl rfl (fun w' c a9 Z=>?_) (fun C a1=>?_)
 ·refine zR.call [Xi (mL V m).toArray] rfl func24 rfl rfl rfl ?_;refine(ad w' (aa.trans ((b _).1 c))).mono ?_;rintro e br ⟨f,B,d,rfl,ad,ab,ac,a6,y⟩;have ak:=bS ((b _).1 c);exact⟨_,rfl,(b _).2 (((b _).1 c).trans y),y,⟨f,rfl⟩,f,B,d,rfl,nT ak ab,nT ak ac,ad,a6⟩
 obtain⟨f,rfl⟩:=a1;simp only[Xs,sB,sS,sZ];iterate 8 refine Zi ?_
 refine jw rfl rfl (fun w' c a9 Z=>?_) (fun C a1=>?_)
 ·refine zR.step (v:= Xj (Xa ⟨w'.heap.size,0,Xb⟩)) (w':=w'.alloc (Xk #[Xj Xb,I6 0,I6 0,I6 0,I6 0,Xh Xd,Xh Xd,Xh Xd,I6 0,I6 0,U8 0,U8 0,U8 0,U8 0,U8 0,U8 0,U8 0,U8 0,Xh Xd,Xh Xd] 245)) (zgb rfl) ⟨(b _).2 (((b _).1 c).trans (za _ _)),za _ _,⟨_,rfl⟩,_,_,rfl,bS ((b _).1 c),zn.top _ [Xj Xb,I6 0,I6 0,I6 0,I6 0,Xh Xd,Xh Xd,Xh Xd,I6 0,I6 0,U8 0,U8 0,U8 0,U8 0,U8 0,U8 0,U8 0,U8 0,Xh Xd,Xh Xd] _ rfl,rfl⟩
 obtain⟨a4,rfl⟩:=a1;simp only[Xs,sB,sS,sZ];refine jw rfl rfl (fun w' c a9 Z=>?_) (fun C a1=>?_)
 ·obtain⟨g,N,N,g,y,a9⟩:=Z 10 (by kernel_rfl)
  simp only[Value.pointer.injEq,Option.some.injEq,Addr.mk.injEq,and_true]at N;subst N;obtain⟨C,B,d,A,ab,ac,ad,a6⟩:=Z 1 (by kernel_rfl)
  simp only[Value.pointer.injEq,Option.some.injEq,Addr.mk.injEq,and_true]at A;subst A;refine zR.storeAllT 245 (.tmp 15) (.tmp 50) rfl a4 rfl [Xj (Xa ⟨f,0,Xb⟩),I6 (q:Int),I6 (i:Int),I6 a.fr,I6 a.tz,Xh a.rd,Xh a.wr,Xh a.sh,I6 a.file,I6 a.base,U8 R,U8 z,U8 u,U8 K,U8 S,U8 T,U8 U,U8 X,Xh t,Xh wr] rfl y (by rw[a9];rfl) (by rw[a9];kernel_rfl) (by simp[Value.oneCell']) fun br z u K=>?_
  exact⟨(b _).2 (zd ((b _).1 c) u g),⟨a4,_,_,g,u,y,z,rfl⟩,trivial,a4,f,B,d,rfl,g,z,ab,ac,ad.other u y,a6.beside u fun k P=>by cases P;exact a6.off y (by decide)⟩
 simp only[Xs];refine zbh fun c f Z=>?_
 obtain⟨aj,C,B,d,N,y,g,ab,ac,ad,a6⟩:=Z 11;have c:(Value.pointer (Xa ⟨a4,0,Xb⟩):Xq)= Xj (Xa ⟨aj,0,Xb⟩):=N;simp only[Value.pointer.injEq,Option.some.injEq,Addr.mk.injEq,and_true]at c;subst c;have c:=(b _).1 f;have B:=dD<|ChW.of ad ab c ac a6;have a9:=dD g;have aj:=dD (ap.grew c);have A:=dD ap.box.lt;have P:=dD<|bS aa.out
 have b:=dD (aa.trans c);clear Z f a7 aq c N g y ab ac ad a6 ar au av aw ax ay az b8 b9 ba ah bc bd be bf bg bh bi bj bk bl bm bn bo bp bq;obtain⟨pg,b⟩:∃pg:Pg,Xo ((⟨R,z,u,K,S,T,U,X⟩:Pg)=pg):=⟨_,rfl⟩;have f:Xo (ZK m p n=(pgL pg,t,0)):=show _=_ by rw[<-b.out];exact a0.out
 have c:=zf2 B bs q i s bw a2 a ⟨R,z,u,K,S,T,U,X⟩ t wr (fun l al y Z ai N g a1=>an.out D ai C N (zh m l) al l y rfl g (qG l bs y).1.rt Z a1) (BF q i a ⟨R,z,u,K,S,T,U,X⟩ wr) (fun g W a8=>by
  obtain⟨⟨L,M⟩,Y⟩:=g;have a1:=a0.out;rw[M]at a1⊢;exact am q i a ⟨R,z,u,K,S,T,U,X⟩ H G a3 a1 L Y D W C d (B.grew a8))
 simp only at c;rw[b.out]at c;obtain⟨g,b⟩:=kA (qN m (BF q i a pg wr) pg a t wr q i);have y:Xo (g.1=Xc->zpI g.2.1 q i g.2.2):=dD<|fun d=>by
  rw[<-b.out]at d⊢;exact ao q i a pg t H G a3 f d
 rw[b.out]at c;obtain⟨W,d⟩:=kA (if g.1=Xc then(0:Int)else 10);rw[d.out]at c
 go_wp2_with (refine zo rfl 245 (.tmp 15) rfl a4 rfl a9.box underlying245 rfl (by kernel_rfl) ?_)
 refine c.mono ?_;clear c;rintro ae D ⟨rfl,c,c,M,Z⟩;have L:Xo (zn D a4 245 [Xj (Xa ⟨C,0,Xb⟩),I6 (q:Int),I6 (i:Int),I6 a.fr,I6 a.tz,Xh a.rd,Xh a.wr,Xh a.sh,I6 a.file,I6 a.base,U8 R,U8 z,U8 u,U8 K,U8 S,U8 T,U8 U,U8 X,Xh t,Xh wr]):=a9.outD M (B.offB a9 (by decide) (by decide) (by decide) (by decide))
 have N:Xo (zn D (h+1) 45 zU):=aj.outD M (fun e=>by have:=B.dlo _ e;have:=A.out;omega)
 have D:=dD c;have Y:=dD<|aa.trans c.gr;clear c M Z;obtain⟨c,B,M⟩:=g;simp only at D y⊢
 cases c with
 | false=>
  have c:W=10:=by rw[<-d.out];rfl
  subst c;have af:Xo (jn m BF p n wr 10):=dD<|⟨by decide,.inr (.inr ⟨rfl,q,i,a,pg,t,H,G,a3,f,by rw[b.out]⟩)⟩
  go_wp2_with (refine zj rfl 45 (.tmp 8) (.tmp 58) rfl (h+1) rfl zU rfl N rfl (by kernel_rfl) (by unfold zU;simp[Value.oneCell']) ?_)
  intro ag j r _;have F:Xo (zb w ag):=dD<|zd Y r (by have:=a5.out;omega)
  have E:=dD j;clear j r;go_wp2;refine bodyPost_ret (zN rfl _ rfl E.box underlying45 rfl (by kernel_rfl)) rfl ⟨.inl ⟨10,rfl,af⟩,F⟩
 | true=>
  have c:W=0:=by rw[<-d.out];rfl
  subst c;obtain⟨d,fr,g,j,E,r,F⟩:=y.out rfl;have c:Xo (zcC m BF p n wr B (Zc M q i B fr wr a.sh)):=dD<|⟨q,i,a,pg,t,fr,H,G,a3,f,by rw[b.out],by rw[b.out],by rw[b.out];exact r,by rw[b.out]⟩
  have b:=zhG D q i B fr d g r j.inv.fs40 (fun s ak=>j.tb ak) E a2 F a ⟨R,z,u,K,S,T,U,X⟩ t wr
  obtain⟨g,d⟩:=kA (Zc M q i B fr wr a.sh);simp only at b;rw[d.out]at b c;clear j E r F
  go_wp2_with (refine zo rfl 245 (.tmp 15) rfl a4 rfl L.box underlying245 rfl (by kernel_rfl) ?_)
  refine b.mono ?_;clear b;rintro ae d ⟨⟨b,rfl⟩,f,r,b,E⟩;have y:Xo (zn d a4 245 [Xj (Xa ⟨C,0,Xb⟩),I6 (q:Int),I6 (i:Int),I6 a.fr,I6 a.tz,Xh a.rd,Xh a.wr,Xh a.sh,I6 a.file,I6 a.base,U8 R,U8 z,U8 u,U8 K,U8 S,U8 T,U8 U,U8 X,Xh t,Xh wr]):=L.outD b (D.offB L (by decide) (by decide) (by decide) (by decide))
  have t:Xo (zn d (h+1) 45 zU):=N.outD b (fun e=>by have:=D.dlo _ e;have:=A.out;omega)
  have j:=dD r;clear r b E;have u0:=y.box.c 0 rfl;obtain⟨r,u,y,z,D,E,F,G,H,K,d⟩:=j.box.box.c11;have b:Xo (∀Q∈chL f g,Q.oneCell'=Xc):=show∀Q∈chL f g,_ by simp[chL,Value.oneCell']
  go_wp2_with (refine zj rfl 45 (.tmp 8) (.tmp 67) rfl (h+1) rfl (chL f g) rfl t rfl (by kernel_rfl) b.out ?_)
  clear u0 r u y z D E F G H K d;intro r d b _;have h:Xo (zb w r):=dD<|zd (aa.trans j.gr) b (by have:=a5.out;omega)
  have r:=dD d;have t:=dD<|j.lower b A h P.out;clear d b;go_wp2;refine bodyPost_ret (zN rfl _ rfl r.box underlying45 rfl (by kernel_rfl)) rfl ⟨.inr ⟨f,B,C,g,rfl,c,t⟩,h⟩
theorem zsr:Tryz.prog.underlying 91=Xa (.array (Tryz.prog.arrayLen 91) (Tryz.prog.elem 91)):=by kernel_rfl
theorem zss:Tryz.prog.arrayLen 91=8:=by kernel_rfl
theorem zst:Tryz.prog.elem 91=5:=by kernel_rfl
theorem zod (B:Nat) (w):(Instr.sliceAt 91 (Xj (Xa ⟨B,0,Xb⟩)) (Xa (I6 0)) Xb Xb).run prog w= .ok (O (Xa ⟨B,0,Xb⟩) 8 8) w:=by
 obtain⟨a,a,b,b,c⟩:=info_parts zr6;rw[run_sliceAt_array_l w 91 ⟨B,0,Xb⟩ zsr .i64 0 (by omega) (by rw[zss];omega),zss,zst]
 simp[sizeOf,typeInfo,a,b,slicedAt,Result.andThen,Xu]
theorem zia (l:List Int) (n:Nat) (w:Xn) (h:l.length=8) (a:n<=8):
  Xp prog 82 #[Xi (pgc l).toArray,I6 0,I6 (n:Int)] w fun e w'=>∃v,e= Xl v/\zc byE w.heap.size w' v (l.take n)/\zb w w':=by
 have f:=dD h;obtain⟨g,a⟩:=kB (w.alloc (Xk (pgc l).toArray 91));have i:=gA a
 have j:=xA a
 have b:=sA a
 have c:=dD a;have k:decide ((n:Int)<0)=Xd:=decide_eq_false (by omega)
 have d:decide ((8:Int)< (n:Int))=Xd:=decide_eq_false (by omega)
 clear a h
 go_enter func82,ntmps82
 go_upto_region 3 with fail;rw[c.out];clear k d
 go_wp2_with (refine qX byE rfl (.tmp 20) rfl n rfl (by show n*1<=_;omega) ?_)
 intro C own;obtain⟨c,a⟩:=kB (g.alloc (Xk C byE.ty));have d:zb g c:=by rw[<-a];exact za _ _
 have g:Xo (zc byE (w.heap.size+1) c (O (Xa ⟨w.heap.size+1,0,Xb⟩) n n) (Xr n 0)):=dD<|by
  rw[a,b.out]at own;exact own
 have k:=dD (j.grew d);have h:=dD (i.trans d);rw[a,b.out];clear a own d;have a:=zod w.heap.size c;have b:Xo ((l.take n).length=n):=show _=_ by rw[Xx,f.out];omega
 have d:Xo (qW c ⟨w.heap.size,0,Xb⟩ ((l.take n).flatMap byE.enc)):=dD<|fun j u a=>by
  have c:(l.take n).flatMap byE.enc=pgc (l.take n):=by
   unfold pgc;rw[List.flatMap_def]
   induction(l.take n)with
   | nil=>rfl
   | cons x i i=>simp only[mP,Yb,i];rfl
  rw[c]at a;have c:(pgc l)[j]? =Xa u:=by
   unfold pgc at a⊢;rw[Xw]at a⊢;rw[Ya]at a
   split at a
   ·exact a
   cases a
  have:=k.c j c;rw[Xu,zA];exact this
 go_wp2_with (refine Zx (E:=byE) rfl (.tmp 22) (.tmp 24) rfl (w.heap.size+1) _ (Xr n 0) g (w.heap.size+1) rfl 0 n n ⟨w.heap.size+1,0,Xb⟩ rfl rfl ⟨w.heap.size,0,Xb⟩ 8 8 rfl (l.take n) ?qm d.out ?qf ?_)
 trace_state
 case qm=>
  rw[b.out]
  show n=min 8 n
  omega
 case qf=>
  rw[b.out,lR];omega
 intro d a g _;have c:Xo (zc byE w.heap.size d (O (Xa ⟨w.heap.size+1,0,Xb⟩) n n) (l.take n)):=dD<|by
  rw[f.out,show n - min n 8=0 by omega,Xz,List.append_nil]at a
  exact a.base (Nat.le_succ _)
 have b:Xo (zb w d):=dD<|zd h g (by omega)
 clear a g;go_wp2;refine bodyPost_ret (results_tmp rfl _ _ _) rfl ⟨O (Xa ⟨w.heap.size+1,0,Xb⟩) n n,rfl,c,b⟩
def qD (m n:Int):Bool:=decide (0<=m/\0<=n/\n<=8 - m % 8)
theorem zq6 {a b:Bool} (h:a=b):Ending.returned (Xh a)= Xl (Xh b):=by rw[h]
theorem zgi (m n:Int) (w) (a:-9223372036854775808<=m) (b:m<=9223372036854775807) (c:-9223372036854775808<=n) (d:n<=9223372036854775807):
  Xp prog 139 #[I6 m,I6 n] w fun e w'=>e= Xl (Xh (qD m n))/\w'=w:=by
 by_cases a:0<=m
 ·by_cases b:0<=n
  ·have H:Xo (qD m n=decide (n<=8 - m % 8)):=dD<|by unfold qD;simp[a,b]
   go_enter func139,ntmps139
   go_wp2;go_ret;exact⟨zq6 H.symm,rfl⟩
  have H:Xo (qD m n=Xd):=dD<|by unfold qD;simp;omega
  go_enter func139,ntmps139
  go_wp2;go_ret;exact⟨zq6 H.symm,rfl⟩
 have H:Xo (qD m n=Xd):=dD<|by unfold qD;simp;omega
 go_enter func139,ntmps139
 go_wp2;go_ret;exact⟨zq6 H.symm,rfl⟩
def zh9 (m:Int):Bool:=decide (0<=m/\m<8)
theorem zmr (m:Int) (w):Xp prog 141 #[I6 m] w fun e w'=>e= Xl (Xh (zh9 m))/\w'=w:=by
 by_cases a:0<=m
 ·have H:Xo (zh9 m=decide (m<8)):=dD<|by unfold zh9;simp[a]
  go_enter func141,ntmps141
  go_wp2;go_ret;exact⟨zq6 H.symm,rfl⟩
 have H:Xo (zh9 m=Xd):=dD<|by unfold zh9;simp;omega
 go_enter func141,ntmps141
 go_wp2;go_ret;exact⟨zq6 H.symm,rfl⟩
theorem zf6 (B i:Nat) (hi:i<8) (w):(Instr.sliceAt 91 (Xj (Xa ⟨B,0,Xb⟩)) (Xa (I6 (i:Int))) Xb Xb).run prog w= .ok (O (Xa ⟨B,i,Xb⟩) (8 - i) (8 - i)) w:=by
 obtain⟨a,a,b,b,c⟩:=info_parts zr6;rw[run_sliceAt_array_l w 91 ⟨B,0,Xb⟩ zsr .i64 i (by omega) (by rw[zss];omega),zss,zst]
 simp[sizeOf,typeInfo,a,b,slicedAt,Result.andThen,Xu]
 omega
theorem ze9 (l:List Int) (i n:Nat) (w:Xn) (k:l.length=8) (g:i<8) (a:i+n<=8):
  Xp prog 82 #[Xi (pgc l).toArray,I6 (i:Int),I6 (n:Int)] w fun e w'=>∃v,e= Xl v/\zc byE w.heap.size w' v ((l.drop i).take n)/\zb w w':=by
 have h:=dD k;obtain⟨j,a⟩:=kB (w.alloc (Xk (pgc l).toArray 91));have m:=gA a
 have p:=xA a
 have b:=sA a
 have c:=dD a;have q:decide ((n:Int)<0)=Xd:=decide_eq_false (by omega)
 have d:decide ((8:Int) -(i:Int)< (n:Int))=Xd:=decide_eq_false (by omega)
 have f:decide ((i:Int)<0)=Xd:=decide_eq_false (by omega)
 clear a k
 go_enter func82,ntmps82
 go_upto_region 3 with fail;rw[c.out];clear q d f
 go_wp2_with (refine qX byE rfl (.tmp 20) rfl n rfl (by show n*1<=_;omega) ?_)
 intro C own;obtain⟨c,a⟩:=kB (j.alloc (Xk C byE.ty));have d:zb j c:=by rw[<-a];exact za _ _
 have f:Xo (zc byE (w.heap.size+1) c (O (Xa ⟨w.heap.size+1,0,Xb⟩) n n) (Xr n 0)):=dD<|by
  rw[a,b.out]at own;exact own
 have q:=dD (p.grew d);have k:=dD (m.trans d);rw[a,b.out];clear a own d;have a:=zf6 w.heap.size i g c;have b:Xo (((l.drop i).take n).length=n):=show _=_ by rw[Xx,List.length_drop,h.out];omega
 have d:Xo (qW c ⟨w.heap.size,i,Xb⟩ (((l.drop i).take n).flatMap byE.enc)):=dD<|fun j u a=>by
  have c:((l.drop i).take n).flatMap byE.enc=pgc ((l.drop i).take n):=by
   unfold pgc;rw[List.flatMap_def]
   induction((l.drop i).take n)with
   | nil=>rfl
   | cons x g g=>simp only[mP,Yb,g];rfl
  rw[c]at a;have c:(pgc l)[i+j]? =Xa u:=by
   unfold pgc at a⊢;rw[Xw]at a⊢;rw[Ya]at a
   split at a
   ·rw[List.getElem?_drop]at a;exact a
   cases a
  have:=q.c (i+j) c;rw[Xu];exact this
 go_wp2_with (refine Zx (E:=byE) rfl (.tmp 22) (.tmp 24) rfl (w.heap.size+1) _ (Xr n 0) f (w.heap.size+1) rfl 0 n n ⟨w.heap.size+1,0,Xb⟩ rfl rfl ⟨w.heap.size,i,Xb⟩ (8 - i) (8 - i) rfl ((l.drop i).take n) ?qm d.out ?qf ?_)
 case qm=>
  rw[b.out]
  show n=min (8 - i) n
  omega
 case qf=>
  rw[b.out,lR];omega
 intro d a f _;have c:Xo (zc byE w.heap.size d (O (Xa ⟨w.heap.size+1,0,Xb⟩) n n) ((l.drop i).take n)):=dD<|by
  rw[h.out,show n - min n (8 - i)=0 by omega,Xz,List.append_nil]at a
  exact a.base (Nat.le_succ _)
 have b:Xo (zb w d):=dD<|zd k f (by omega)
 clear a f;go_wp2;refine bodyPost_ret (results_tmp rfl _ _ _) rfl ⟨O (Xa ⟨w.heap.size+1,0,Xb⟩) n n,rfl,c,b⟩
theorem zkC {α b:Type} (f:α->b) (L:List α) (a:Nat) (cs:List α):(splice L a cs).map f=splice (L.map f) a (cs.map f):=by
 simp[splice,List.map_take,List.map_drop]
theorem ze2 (w:Xn) (a cs:Array Xq) (t o):((w.alloc (Xk a t)).alloc o).setRow w.heap.size cs=(w.alloc (Xk cs t)).alloc o:=by
 unfold World.setRow World.alloc
 congr 1
 apply Array.ext
 ·simp
 intro i a b;simp only[Array.getElem_modify,Array.getElem_push,Array.size_push];simp only[Array.size_modify,Array.size_push]at a
 by_cases a:i=w.heap.size
 ·subst a;simp
 by_cases b:i<w.heap.size
 ·simp[b,Ne.symm a]
 have:i=w.heap.size+1:=by omega
 subst this;simp
theorem zcV {P:Program} {w:Xn} {rest:List Oper} {a:Act} (k:o.guard=Xb) (d s r y)
  (D:o.op= .call { callee:= .builtin .copy,args:=#[d,s],argTypes:=#[r,y] }) (c:TypeId) (F:P.underlying r=Xa (.slice c)) (n:(P.info? c).map (·.size)=Xa 1)
  (x z:Option Addr) (b f e g:Nat) (B:a.eval d= O x b f) (E:a.eval s= O z e g)
  (i:Nat) (h:List Xq) (t:TypeId) (G:Obj) (cs:List Xq) (C:cs.length=Nat.min e b)
  (l:0<cs.length->x=Xa ⟨w.heap.size,i,Xb⟩/\∃q,z=Xa q/\∀u v,cs[u]? =Xa v->w.cell? (q.add u)=Xa v)
  (j:i+cs.length<=h.length) (H:∀v∈cs,v.oneCell'=Xc) (p:List Xq) (m:splice h i cs=p)
  (A:wpList P ops Q rest (a.put o.dst (goInt cs.length)) ((w.alloc (Xk p.toArray t)).alloc G)):
  wpList P ops Q (o :: rest) a ((w.alloc (Xk h.toArray t)).alloc G):=by
 subst m
 by_cases m:cs.length=0
 ·obtain rfl:cs=[]:=eN m;refine wpList_copy_nothing k d s r y D c F n x z b f e g B E (by simpa using C.symm) ?_
  simpa [splice]using A
 obtain⟨rfl,q,rfl,m⟩:=l (by omega)
 refine wpList_copy_own k d s r y D c F n w.heap.size i b f q e g B E h.toArray t ?_ cs C (fun u v b=>?_) (by simpa using j) H ?_
 ·rw[Below.heap_alloc _ _ _ (by simp)]
  show(w.heap.push _)[w.heap.size]? =_
  simp
 ·have c:=m u v b;have b:=World.block_lt_of_cell? _ _ c;rw[World.cell?_alloc_lt _ _ _ (by simp;omega),World.cell?_alloc_lt _ _ _ b]
  exact c
 rw[ze2]
 simpa [splice]using A
theorem ze8 (b0 b1 b2 b3 b4 b5 b6 b7 c0 c1 c2 c3 c4 c5 c6 c7:Int) (i:Nat) (ns:List Int) (a:Option Addr) (cap:Nat) (w:Xn) (hi:i<8) (hl:i+ns.length<=8) (hv:zl byE w (O a ns.length cap) ns)
  (hc:splice [b0,b1,b2,b3,b4,b5,b6,b7] i ns=[c0,c1,c2,c3,c4,c5,c6,c7]):
  Xp prog 83 #[Xi #[U8 b0,U8 b1,U8 b2,U8 b3,U8 b4,U8 b5,U8 b6,U8 b7],I6 (i:Int),O a ns.length cap] w fun e w'=>
   e= Xl (Xi #[U8 c0,U8 c1,U8 c2,U8 c3,U8 c4,U8 c5,U8 c6,U8 c7])/\zb w w':=by
 have HH:Xo (zh9 i=Xc):=dD<|by unfold zh9;simp;omega
 have hcv:splice ([b0,b1,b2,b3,b4,b5,b6,b7].map (Value.int .u8)) i (ns.map (Value.int .u8))=[U8 c0,U8 c1,U8 c2,U8 c3,U8 c4,U8 c5,U8 c6,U8 c7]:=by
  rw[<-zkC,hc];rfl
 have HC:Xo (splice ([b0,b1,b2,b3,b4,b5,b6,b7].map (Value.int .u8)) i (ns.map (Value.int .u8))=[U8 c0,U8 c1,U8 c2,U8 c3,U8 c4,U8 c5,U8 c6,U8 c7]):=hcv;have HP:Xo (0< (ns.map (Value.int .u8)).length->∃ad,a=Xa ad/\∀j v,(ns.map (Value.int .u8))[j]? =Xa v->w.cell? (ad.add j)=Xa v):=show _->_ from fun hpos=>by
  rw[List.length_map]at hpos;obtain⟨ad,h1,_⟩:=hv.rowsAt 0 _ (gE hpos);refine⟨ad,h1,fun j u hj=>?_⟩
  rw[Xw]at hj
  cases hn:ns[j]? with
  | none=>rw[hn]at hj;cases hj
  | some z=>
   rw[hn]at hj;cases hj;obtain⟨ad',h2,h3⟩:=hv.rowsAt j z hn;rw[h1]at h2;cases h2;have:=h3 w (zb.refl _) 0 _ rfl;rw[show byE.k=1 from rfl,Nat.mul_one]at this
   simpa [Addr.add]using this
 have hsl:=fun W=>zf6 w.heap.size i hi W
 clear hcv hc hv
 go_enter func83,ntmps83
 go_wp2_with (first
  | (go_at_call 141;refine(zmr _ _).mono ?_;rintro e w' ⟨rfl,rfl⟩;rw[HH.out])
  | (refine zcV (w:=w) rfl (.tmp 12) (.tmp 13) 23 23 rfl 5 underlying23 (by kernel_rfl) _ _ _ _ _ _ rfl rfl i ([b0,b1,b2,b3,b4,b5,b6,b7].map (Value.int .u8)) 91 _ (ns.map (Value.int .u8)) (by simp;show _=min _ _;omega) (fun hp=>⟨rfl,HP hp⟩) (by simp;omega) (ints_oneCell _ _) _ HC.out ?_))
 exact bodyPost_ret (v:= Xi #[U8 c0,U8 c1,U8 c2,U8 c3,U8 c4,U8 c5,U8 c6,U8 c7]) (by simp[results,Tryz.results83,go_sem]) rfl ⟨rfl,(show Below _ _ _ from((bR _ _).alloc (nR _) _).alloc (by simp) _)⟩
theorem jl {P:Program} {f:Region.Mode} {S:Xn->Prop} (i:Nat) {g:Oper} (d:Option Tmp) (v) {e:Nat} {b:Array Bool} {a:Act} {w:Xn} (hi:ops[i]? =Xa g) (k:g.dst=d)
  (n:Yd ops=Xc) (l:Region.free f ops b i=Xc) (m:(Region.ready f ops b).contains i=Xc)
  (j:∀c a w,Q (.panic c) (a.put d v) w->Q (.panic c) a w) (p:YieldsIf P ops S g v a) (hS:S w)
  (h:wpAnyH P f ops Q S e (b.setIfInBounds i Xc) (a.put d v) w):wpAnyH P f ops Q S (e+1) b a w:=by
 subst k;exact wpAnyH_take hi n l m j p hS h
theorem qQ{P:Program}{ops:Array Oper}{Q:Exit->Act->Xn->Prop}{f:Region.Mode}{S:Xn->Prop}(i:Nat){g:Oper}(d:Option Tmp)(v:Xq){e:Nat}{b:Array Bool}{a:Act}{w:Xn}(hS:S w)(h:wpAnyH P f ops Q S e (b.setIfInBounds i Xc) (a.put d v) w)(hi:ops[i]? =Xa g:=by exact rfl)(k:g.dst=d:=by exact rfl)(n:Yd ops=Xc:=by kernel_rfl)(l:Region.free f ops b i=Xc:=by kernel_rfl)(m:(Region.ready f ops b).contains i=Xc:=by kernel_rfl)(j:∀c a w,Q (.panic c) (a.put d v) w->Q (.panic c) a w:=by exact fun _ _ _ h=>h)(p:YieldsIf P ops S g v a:=by exact .inl ⟨rfl,fun _ _=>rfl⟩):wpAnyH P f ops Q S (e+1) b a w:=jl i d v hi k n l m j p hS h
structure Cl where
 kind:Int
 proc:Int
 pt:Int
 n:Int
 file:Int
 base:Int
 rd:Bool
 wr:Bool
 sh:Bool
 dv:Sli
def clL (c:Cl):List Xq:=[I6 c.kind,I6 c.proc,I6 c.pt,I6 c.n,I6 c.file,I6 c.base,Xh c.rd,Xh c.wr,Xh c.sh,c.dv.x]
theorem ChW.rebase {u:Xn} {p:Nat} (h:ChW w1 p u V m) (d:zb w0 u) (b:w0.heap.size<=w1.heap.size):ChW w0 p u V m:=by
 obtain⟨i,f,g,j⟩:=h.sp;have c:∀{W:Xn},zm (Dr w0.heap.size p V) u W->zm (Dr w1.heap.size p V) u W:=fun a=>a.wide fun k e=>e.elim (fun e=> .inl (Xt e b)) .inr
 exact⟨d,nT b h.lo,h.box,h.fs.base b,h.ca.base b,⟨i,f.base b,g,fun i x s d b W a=>j i x s d b W (c a)⟩,fun W a=>h.rest W (c a)⟩
theorem ZN {w:Xn} {a:Act} (b:o.op= .alloc 45):(execOp a.eval o).run prog w= .ok (.value (Xj (Xa ⟨w.heap.size,0,Xb⟩))) (w.alloc (Xk zU.toArray 45)):=by
 simp only[execOp,b,zU]
 go_simp
theorem j4 {a:Act} {w:Xn} (c x) (g:o.op= .load c x) (b) (i:a.eval x= Xj (Xa b)) (v) (e:w.cell? b=Xa v) {d:TypeDesc} (h:Tryz.prog.underlying c=Xa d) (f:d.isRow=Xd):(execOp a.eval o).run prog w= .ok (.value v) w:=zkg c x g b i v e h f
def Qi (er n:Int) (s:Sli):Xq:= Xi #[I6 er,I6 n,s.x]
def noS:Sli:=⟨Xb,0,0⟩
theorem zm.beyond {D:Nat->Prop} {w:Xn} (o:zm D w w1) (b:w1.grownBy w2 (Xa g)) (a:w.heap.size<=g):zm D w w2:=by
 have a:=zm.grown (D:=fun k=>k=g) b rfl
 refine⟨a.os.trans o.os,a.tape.trans o.tape,a.output.trans o.output,nT o.size a.size,fun i b c=>?_⟩
 rw[a.block i (Xt b o.size) (fun e=>by have e:i=g:=e;omega)]
 exact o.block i b c
def ZE (K:Int->Int->List Int->Ma->Prop) (w0:Xn) (p:Nat) (w:Xn) (e:Ending) (w':Xn):Prop:=
 ∃(er n:Int) (s:Sli) (l:List Int) (V':MaV) (m':Ma),e= Xl (Qi er n s)/\K er n l m'/\zm (fun k=>k=p) w w'/\zb w0 w'/\(∀W,zm (fun k=>k<w.heap.size) w' W->zl byE W (s.x) l)/\(er=0->zn w' p 88 (chL V' m')/\∀W,zm (fun k=>k<w.heap.size) w' W->zE W V' m')
theorem ZE.err {K:Int->Int->List Int->Ma->Prop} {w0 w w':Xn} {p:Nat} {V:MaV} {m:Ma} {er:Int} (he:er≠0) (hk:K er 0 [] m) (o:zm (fun k=>k=p) w w') (g:zb w0 w'):ZE K w0 p w (Xl (Qi er 0 noS)) w':=
 ⟨er,0,noS,[],V,m,rfl,hk,o,g,fun _ _=>zl.nil _ _,fun h=>absurd h he⟩
theorem ZE.ok {K:Int->Int->List Int->Ma->Prop} {w:Xn} {p:Nat} {V':MaV} {n:Int} (a:K 0 n [] m') (o:zm (fun k=>k=p) w w') (g:zb w0 w') (b:zn w' p 88 (chL V' m')) (h:∀W,zm (fun k=>k<w.heap.size) w' W->zE W V' m'):ZE K w0 p w (Xl (Qi 0 n noS)) w':=
 ⟨0,n,noS,[],V',m',rfl,a,o,g,fun _ _=>zl.nil _ _,fun _=>⟨b,h⟩⟩
theorem jP (a:Int) (w):Xp prog 21 #[I6 a] w fun e w'=>e= Xl (Qi a 0 noS)/\zb w w':=by
 unfold Qi noS
 go_enter func21,ntmps21
 go_wp2;refine bodyPost_ret (zG rfl _ rfl (Box.top _ [I6 a,I6 0,eS] _ rfl) underlying54 rfl (by kernel_rfl)) rfl ⟨rfl,(show Below _ _ _ from(bR _ _).alloc (nR _) _)⟩
theorem QS (n m:Int) (w):Xp prog 74 #[I6 n,I6 m] w fun e w'=>e= Xl (Xh (decide (0<=n) && decide (n<m)))/\w'=w:=by
 by_cases h:0<=n
 ·have a:decide (0<=n)=Xc:=decide_eq_true h;rw[a,Bool.true_and]
  go_enter func74,ntmps74
  go_wp2;go_ret;exact⟨rfl,rfl⟩
 have a:decide (0<=n)=Xd:=decide_eq_false h;rw[a,Bool.false_and]
 go_enter func74,ntmps74
 go_wp2;go_ret;exact⟨rfl,rfl⟩
theorem zls (b n:Int) (p:Nat) (a:b≠0) (w):Xp prog 85 #[Xj (Xa ⟨p,0,Xb⟩),Xi zU.toArray,I6 n,I6 b] w fun e w'=>e= Xl (Qi b 0 noS)/\zb w w':=by
 have c:(b != 0)=Xc:=by simp[a]
 clear a;obtain⟨g,d⟩:=kA w.heap.size;obtain⟨f,a⟩:=kB ((w.alloc (Xk zU.toArray 45)).alloc (Xk #[I6 0,I6 0,eS] 54));have h:=gD2 a
 have A1:Xo (zn f (g+1) 54 [I6 0,I6 0,eS]):=dD<|by rw[<-a];exact zn.top _ [I6 0,I6 0,eS] _ (by have:=d.out;simp;omega)
 have c:=dD a;clear a;have a:=jP b f;unfold zU at c⊢
 go_enter func85,ntmps85
 go_upto_region 1 with fail;rw[c.out,d.out];go_wp2_with fail;refine a.mono ?_;rintro e c ⟨rfl,c⟩;have A2:=dD (A1.grew c);have f:=dD (h.trans c);clear a c;unfold Qi noS
 go_wp2_with (refine zj rfl 54 (.tmp 8) (.tmp 12) rfl (g+1) rfl [I6 b,I6 0,eS] rfl A2 rfl (by kernel_rfl) (by simp[Value.oneCell']) ?_)
 intro c a b _;have g:Xo (zb w c):=dD<|zd f b (by have:=d.out;omega)
 have c:=dD a;clear a b;go_wp2;refine bodyPost_ret (zG rfl _ rfl c.box underlying54 rfl (by kernel_rfl)) rfl ⟨rfl,g⟩
theorem zhg {w:Xn} {p:Nat} {V':MaV} (s:zn w p 88 (chL V m)) (u:w0.heap.size<=p) (t:zb w0 w) (n:Int):Xp prog 85 #[Xj (Xa ⟨p,0,Xb⟩),Xi (mL V' m').toArray,I6 n,I6 0] w fun e w'=>e= Xl (Qi 0 n noS)/\zn w' p 88 (chL V' m')/\zm (fun k=>k=p) w w'/\zb w0 w':=by
 have f:=dD u;have i:=dD t;obtain⟨c,d⟩:=kA w.heap.size;obtain⟨b,a⟩:=kB ((w.alloc (Xk (chL V' m').toArray 45)).alloc (Xk #[I6 0,I6 0,eS] 54));have h:=gD2 a
 have A1:Xo (zn b (c+1) 54 [I6 0,I6 0,eS]):=dD<|by rw[<-a];exact zn.top _ [I6 0,I6 0,eS] _ (by have:=d.out;simp;omega)
 have x:Xo (zn b c 45 (chL V' m')):=dD<|by rw[<-a];exact(zn.top w (chL V' m') _ d.symm).grew (za _ _)
 have y:=dD<|s.grew h.out;have b:Xo (p<c):=show _<_ by have:=s.box.lt;have:=d.out;omega
 have g:=dD a;have r:Xo (∀v∈chL V' m',v.oneCell'=Xc):=show∀v∈chL V' m',_ by simp[chL,Value.oneCell']
 have j:Xo ((chL V' m').length=(chL V m).length):=dD<|rfl
 have l:Xo ((Tryz.prog.info? 45).map (·.size)=Xa (chL V m).length):=dD<|by kernel_rfl
 have q:Xo ((Tryz.prog.info? 45).map (·.size)=Xa (chL V' m').length):=dD<|by kernel_rfl
 clear a s u t;unfold chL at g
 go_enter func85,ntmps85
 go_upto_region 1 with fail;rw[g.out,d.out]
 go_upto_region 4 with(first | refine zo rfl 45 (.tmp 5) rfl c rfl x.box underlying45 rfl q.out ?_ | refine zj rfl 45 (.tmp 16) (.tmp 14) rfl p rfl (chL V' m') rfl y j l r.out ?_)
 intro g j a l;clear l;have r:=dD j;have q:Xo (zm (fun k=>k=p) w g):=show zm _ _ _ from(zm.grew h).trans (zm.grown a rfl)
 have l:=dD<|zd (i.trans h) a f.out
 have A2:Xo (zn g (c+1) 54 [I6 0,I6 0,eS]):=dD<|A1.beside a (fun k e=>by cases e;have:=b.out;omega)
 have g:Xo (w0.heap.size<=c):=dD<|by have:=b.out;have:=f.out;omega
 clear j a
 go_wp2_with (refine zj rfl 54 (.tmp 8) (.tmp 18) rfl (c+1) rfl [I6 0,I6 n,eS] rfl A2 rfl (by kernel_rfl) (by simp[Value.oneCell']) ?_)
 intro c f a _;have h:Xo (zb w0 c):=dD<|zd l a (by have:=g.out;omega)
 have g:=dD f;have i:Xo (zn c p 88 (chL V' m')):=show zn _ _ _ _ from r.beside a (fun k e=>by cases e;have:=b.out;omega)
 have b:Xo (zm (fun k=>k=p) w c):=dD<|q.beyond a (by have:=d.out;omega)
 clear f a;go_wp2;refine bodyPost_ret (zG rfl _ rfl g.box underlying54 rfl (by kernel_rfl)) rfl ⟨rfl,i,b,h⟩
def znY (m:Ma) (p:Int) (w:Xn) (e:Ending) (w':Xn):Prop:=
 ((∀q s,¬qU m p q s)/\e= Xl (Xm #[Xi zU.toArray,I6 0,I6 5]))\/
 ∃q s k,qU m p q s/\Vac m.sp k/\((k=4/\e= Xl (Xm #[Xi zU.toArray,I6 0,I6 4]))\/(k<4/\∃V':MaV,e= Xl (Xm #[Xi #[V'.f.x,I6 (zcw m k q s).hand,V'.s.x,V'.sb.x,V'.sq.x,V'.db.x,V'.dq.x,V'.fl.x,I6 (zcw m k q s).cnt,V'.ca.x,V'.sp.x],I6 (k:Int),I6 0])/\∀W,zm (fun k=>k<w.heap.size) w' W->zE W V' (zcw m k q s)))
def FkA (w0:Xn) (m:Ma) (p:Int) (cs:List Xq) (k er:Int) (w:Xn):Prop:=
 (er≠0/\cs=zU/\((er=5/\∀q s,¬qU m p q s)\/(er=4/\∃q s,qU m p q s/\Vac m.sp 4)))\/(er=0/\∃(q:Nat) (s:Sp) (kk:Nat) (V':MaV),qU m p q s/\Vac m.sp kk/\kk<4/\k=(kk:Int)/\cs=chL V' (zcw m kk q s)/\∀W,zm (fun k=>k<w0.heap.size) w W->zE W V' (zcw m kk q s))
theorem FkA.by {w:Xn} {p:Int} {cs:List Xq} {k a:Int} (h:FkA w1 m p cs k a w) (g:∀W,zm (fun k=>k<w0.heap.size) w' W->zm (fun k=>k<w1.heap.size) w W):FkA w0 m p cs k a w':=by
 rcases h with h|⟨b,q,s,l,a,c,d,e,f,i,j⟩
 ·exact .inl h
 exact .inr ⟨b,q,s,l,a,c,d,e,f,i,fun W a=>j W (g W a)⟩
theorem zkq {w:Xn} (a:zb w w') (c:w0.heap.size<=w1.heap.size):∀W,zm (fun k=>k<w0.heap.size) w' W->zm (fun k=>k<w1.heap.size) w W:=fun _ b=>(zm.grew a).trans (b.wide fun _ a=>Xt a c)
theorem zkr {w:Xn} (a:w.grownBy w' (Xa g)) (c:g<w1.heap.size) (d:w0.heap.size<=w1.heap.size):∀W,zm (fun k=>k<w0.heap.size) w' W->zm (fun k=>k<w1.heap.size) w W:=fun _ b=>(zm.grown (D:=fun k=>k<w1.heap.size) a c).trans (b.wide fun _ a=>Xt a d)
def zqR (m:Ma) (pr er n:Int) (l:List Int) (m':Ma):Prop:=
 l=[]/\((er=5/\n=0/\∀q s,¬qU m pr q s)\/(er=4/\n=0/\∃q s,qU m pr q s/\Vac m.sp 4)\/(er=0/\∃(q:Nat) (s:Sp) (k:Nat),qU m pr q s/\Vac m.sp k/\k<4/\n=(k:Int)/\m'=zcw m k q s))
theorem zmL {w:Xn} {p:Nat} (t:ChW w0 p w V m) (c:Cl) (f:∀W,zE W V m->Xp prog 84 #[Xi (mL V m).toArray,I6 c.proc] W fun e w'=>znY m c.proc W e w'/\zb W w'):
  Xp prog 40 #[Xj (Xa ⟨p,0,Xb⟩),Xi #[I6 c.kind,I6 c.proc,I6 c.pt,I6 c.n,I6 c.file,I6 c.base,Xh c.rd,Xh c.wr,Xh c.sh,c.dv.x]] w fun e w'=>ZE (zqR m c.proc) w0 p w e w':=by
 have a1:=dD t;have a5:Xo (p<w.heap.size):=t.dlt p (.inl rfl);clear t;obtain⟨n,K⟩:=kA w.heap.size;obtain⟨b,a⟩:=kB ((w.alloc (Xk #[I6 c.kind,I6 c.proc,I6 c.pt,I6 c.n,I6 c.file,I6 c.base,Xh c.rd,Xh c.wr,Xh c.sh,c.dv.x] 25)).alloc (Xk #[I6 0,I6 0,eS] 54));have a0:=gD2 a
 have h:Xo (zn b n 25 [I6 c.kind,I6 c.proc,I6 c.pt,I6 c.n,I6 c.file,I6 c.base,Xh c.rd,Xh c.wr,Xh c.sh,c.dv.x]):=dD<|by rw[<-a];exact(zn.top w [I6 c.kind,I6 c.proc,I6 c.pt,I6 c.n,I6 c.file,I6 c.base,Xh c.rd,Xh c.wr,Xh c.sh,c.dv.x] _ K.symm).grew (za _ _)
 have A1:Xo (zn b (n+1) 54 [I6 0,I6 0,eS]):=dD<|by rw[<-a];exact zn.top _ [I6 0,I6 0,eS] _ (by have:=K.out;simp;omega)
 have a4:=dD A1.box.lt;have d:Xo (_=b):=a;clear a;have P:=dD (a1.grew a0);have N:=dD<|fun W (F:zb b W)=>f W (P.at.grew F)
 clear f
 go_enter func40,ntmps40
 go_upto_region 1 with fail;rw[d.out,K.out]
 go_cut [5,6,7] (fun i j l f=>∃(g:Nat) (k d:Int) (a:List Xq),i= Xj (Xa ⟨g,0,Xb⟩)/\j=I6 k/\l=I6 d/\Xo (zn f g 45 a)/\Xo (zb b f)/\Xo (FkA b m c.proc a k d f))
 case first=>
  refine wp_region_held (S:=fun W=>zb b W) zZ ?_
  show wpAnyH _ _ _ _ _ 15 (Xy 15 Xd) _ b.drew
  have l:zb b b.drew:=(gW _)
  refine qQ 0 (Xa 9) (Xj (Xa ⟨p,0,Xb⟩)) l ?_
  simp only[Xs,sB,sS,sZ];refine qQ 1 (Xa 10) (Xj (Xa ⟨p,0,Xb⟩)) l ?_
  simp only[Xs,sB,sS,sZ];refine qQ 2 (Xa 11) (Xj (Xa ⟨p,0,Xb⟩)) l ?_
  simp only[Xs,sB,sS,sZ];refine jl 3 (Xa 12) (Xi (chL V m).toArray) rfl rfl (by kernel_rfl) (by kernel_rfl) (by kernel_rfl) (fun _ _ _ t=>t) (yieldsIf_load_mid rfl 45 (.tmp 11) rfl p 0 rfl (chL V m) _ (fun W F=>(P.box.box.grew F).range) underlying45 rfl (by kernel_rfl)) l ?_
  simp only[Xs,sB,sS,sZ];refine qQ 4 (Xa 13) (Xj (Xa ⟨n,1,Xb⟩)) l ?_
  simp only[Xs,sB,sS,sZ];refine jl 5 (Xa 14) (I6 c.proc) rfl rfl (by kernel_rfl) (by kernel_rfl) (by kernel_rfl) (fun _ _ _ t=>t) (.inl ⟨rfl,fun W F=>j4 _ (.tmp 13) rfl ⟨n,1,Xb⟩ rfl (I6 c.proc) ((h.box.grew F).c 1 rfl) underlying3 rfl⟩) l ?_
  simp only[Xs,sB,sS,sZ];refine wpAnyH_all (rs:=[6,11]) (by kernel_rfl) (by simp) ?_
  intro a3 j;simp only[mC,nM,or_false]at j
  rcases j with rfl|rfl
  ·skip
   refine qk (Xa 15) (fun v w'=>(∃(a:List Xq) (k d:Int),v= Xm #[Xi a.toArray,I6 k,I6 d]/\a.length=11/\(∀x∈a,x.oneCell'=Xc)/\FkA b.drew m c.proc a k d w')/\zb b.drew w') rfl rfl rfl (zR.call [Xi (mL V m).toArray,I6 c.proc] rfl func84 rfl rfl rfl ((N _ l).mono ?_)) ?_
   ·rintro e w' ⟨t,h⟩
    rcases t with⟨M,rfl⟩|⟨q,s,k,Y,Z,⟨rfl,rfl⟩|⟨B,R,rfl,a7⟩⟩
    ·exact⟨_,rfl,⟨zU,0,5,rfl,rfl,by unfold zU;simp[Value.oneCell'],.inl ⟨by decide,rfl,.inl ⟨rfl,M⟩⟩⟩,h⟩
    ·exact⟨_,rfl,⟨zU,0,4,rfl,rfl,by unfold zU;simp[Value.oneCell'],.inl ⟨by decide,rfl,.inr ⟨rfl,q,s,Y,Z⟩⟩⟩,h⟩
    exact⟨_,rfl,⟨chL R (zcw m k q s),(k:Int),0,rfl,rfl,by simp[chL,Value.oneCell'],.inr ⟨rfl,q,s,k,R,Y,Z,B,rfl,rfl,a7⟩⟩,h⟩
   rintro v T ⟨⟨a,k,d,rfl,hlen,u,H⟩,a2⟩;have i:=l.trans a2;refine⟨i,?_⟩;simp only[Xs,sB,sS,sZ];refine qQ 7 (Xa 8) (Xm #[Xi a.toArray,I6 k,I6 d]) i ?_
   simp only[Xs,sB,sS,sZ];refine qQ 8 (Xa 16) (Xi a.toArray) i ?_
   simp only[Xs,sB,sS,sZ];refine qQ 9 (Xa 17) (I6 k) i ?_
   simp only[Xs,sB,sS,sZ];refine qQ 10 (Xa 18) (I6 d) i ?_
   simp only[Xs,sB,sS,sZ];refine wpAnyH_all (rs:=[11]) (by kernel_rfl) (by simp) ?_
   intro a3 j;simp only[mC,nM,or_false]at j;subst j;refine qk (Xa 5) (fun v w'=>v= Xj (Xa ⟨(T).heap.size,0,Xb⟩)/\w'=(T).alloc (Xk zU.toArray 45)) rfl rfl rfl (zR.step (ZN rfl) ⟨rfl,rfl⟩) ?_
   rintro v z ⟨rfl,f⟩;have E:zb b z:=by rw[f];exact i.trans (za _ _)
   have a8:zb T z:=by rw[f];exact za _ _
   obtain⟨g,A⟩:=kA ((T).heap.size);have L:zn z g 45 zU:=by rw[f];exact zn.top _ zU _ A.symm
   have G:b.heap.size<=g:=by rw[<-A.out];exact bS i
   rw[A.out];clear f;refine⟨E,?_⟩;simp only[Xs,sB,sS,sZ];refine wpAnyH_all (rs:=[12]) (by kernel_rfl) (by simp) ?_
   intro a3 j;simp only[mC,nM,or_false]at j;subst j;refine qk Xb (fun v w'=>zb b w'/\zn w' g 45 a/\FkA b m c.proc a k d w') rfl rfl rfl (zR.storeAllT 45 (.tmp 5) (.tmp 16) rfl g rfl a rfl L (by rw[hlen];rfl) (by kernel_rfl) u (fun w' a6 X aa=>⟨zd E X G,a6,H.by (zkq (zd a8 X (by rw[A.out];exact nR _)) (bS l))⟩)) ?_
   rintro v a9 ⟨r,U,I⟩;refine⟨r,?_⟩;simp only[Xs];refine qQ 13 (Xa 6) (I6 k) r ?_
   simp only[Xs,sB,sS,sZ];refine qQ 14 (Xa 7) (I6 d) r ?_
   simp only[Xs,sB,sS,sZ];refine wpAnyH_done (by kernel_rfl) ?_ _
   have C:=dD U;have y:=dD r;have Q:=dD I;clear r U I;go_wp2
   go_meet
   exact⟨g,k,d,a,rfl,rfl,rfl,C,y,Q⟩
  skip
  refine qk (Xa 5) (fun v w'=>v= Xj (Xa ⟨(b.drew).heap.size,0,Xb⟩)/\w'=(b.drew).alloc (Xk zU.toArray 45)) rfl rfl rfl (zR.step (ZN rfl) ⟨rfl,rfl⟩) ?_
  rintro v z ⟨rfl,f⟩;have E:zb b z:=by rw[f];exact l.trans (za _ _)
  have a8:zb b.drew z:=by rw[f];exact za _ _
  obtain⟨g,A⟩:=kA ((b.drew).heap.size);have L:zn z g 45 zU:=by rw[f];exact zn.top _ zU _ A.symm
  have G:b.heap.size<=g:=by rw[<-A.out];exact bS l
  rw[A.out];clear f;refine⟨E,?_⟩;simp only[Xs,sB,sS,sZ];refine wpAnyH_all (rs:=[6]) (by kernel_rfl) (by simp) ?_
  intro a3 j;simp only[mC,nM,or_false]at j;subst j;refine qk (Xa 15) (fun v w'=>(∃(a:List Xq) (k d:Int),v= Xm #[Xi a.toArray,I6 k,I6 d]/\a.length=11/\(∀x∈a,x.oneCell'=Xc)/\FkA z m c.proc a k d w')/\zb z w') rfl rfl rfl (zR.call [Xi (mL V m).toArray,I6 c.proc] rfl func84 rfl rfl rfl ((N _ E).mono ?_)) ?_
  ·rintro e w' ⟨t,h⟩
   rcases t with⟨M,rfl⟩|⟨q,s,k,Y,Z,⟨rfl,rfl⟩|⟨B,R,rfl,a7⟩⟩
   ·exact⟨_,rfl,⟨zU,0,5,rfl,rfl,by unfold zU;simp[Value.oneCell'],.inl ⟨by decide,rfl,.inl ⟨rfl,M⟩⟩⟩,h⟩
   ·exact⟨_,rfl,⟨zU,0,4,rfl,rfl,by unfold zU;simp[Value.oneCell'],.inl ⟨by decide,rfl,.inr ⟨rfl,q,s,Y,Z⟩⟩⟩,h⟩
   exact⟨_,rfl,⟨chL R (zcw m k q s),(k:Int),0,rfl,rfl,by simp[chL,Value.oneCell'],.inr ⟨rfl,q,s,k,R,Y,Z,B,rfl,rfl,a7⟩⟩,h⟩
  rintro v T ⟨⟨a,k,d,rfl,hlen,u,H⟩,a2⟩;have i:=E.trans a2;refine⟨i,?_⟩;simp only[Xs,sB,sS,sZ];have f:=L.box.lt;have L:=L.grew a2;refine qQ 7 (Xa 8) (Xm #[Xi a.toArray,I6 k,I6 d]) i ?_
  simp only[Xs,sB,sS,sZ];refine qQ 8 (Xa 16) (Xi a.toArray) i ?_
  simp only[Xs,sB,sS,sZ];refine qQ 9 (Xa 17) (I6 k) i ?_
  simp only[Xs,sB,sS,sZ];refine qQ 10 (Xa 18) (I6 d) i ?_
  simp only[Xs,sB,sS,sZ];refine wpAnyH_all (rs:=[12]) (by kernel_rfl) (by simp) ?_
  intro a3 j;simp only[mC,nM,or_false]at j;subst j;refine qk Xb (fun v w'=>zb b w'/\zn w' g 45 a/\FkA b m c.proc a k d w') rfl rfl rfl (zR.storeAllT 45 (.tmp 5) (.tmp 16) rfl g rfl a rfl L (by rw[hlen];rfl) (by kernel_rfl) u (fun w' a6 X aa=>⟨zd i X G,a6,H.by (zkr X f (bS E))⟩)) ?_
  rintro v a9 ⟨r,U,I⟩;refine⟨r,?_⟩;simp only[Xs];refine qQ 13 (Xa 6) (I6 k) r ?_
  simp only[Xs,sB,sS,sZ];refine qQ 14 (Xa 7) (I6 d) r ?_
  simp only[Xs,sB,sS,sZ];refine wpAnyH_done (by kernel_rfl) ?_ _
  have C:=dD U;have y:=dD r;have Q:=dD I;clear r U I;go_wp2
  go_meet
  exact⟨g,k,d,a,rfl,rfl,rfl,C,y,Q⟩
 obtain⟨g,k,d,a,rfl,rfl,rfl,C,y,Q⟩:=hcut;have R:=dD (A1.grew y);have a:Xo (p<n):=show _<_ by have:=a5.out;have:=K.out;omega
 skip
 rcases Q with⟨f,rfl,M⟩|⟨rfl,q,s,j,v,Q,T,U,rfl,rfl,X⟩
 ·have h:(d != 0)=Xc:=by simp[f]
  have h:=zls d k p f wc;have l:=show Xo _ from M
  have i:=dD f;clear M f
  go_wp2_with (first | refine zo rfl 45 (.tmp 5) rfl g rfl C.box underlying45 rfl (by kernel_rfl) ?_ | (go_at_call 85;refine h.mono ?_))
  clear h;rintro e N ⟨rfl,h⟩;have A2:=dD (R.grew h);have E:Xo (zb w0 N):=show zb _ _ from(P.gr.trans y).trans h
  have r:=dD<|(a0.trans y).trans h
  have H:Xo (w0.heap.size<=n):=dD<|by have:=a1.lo;have:=a.out;omega
  clear h;unfold Qi noS
  go_wp2_with (refine zj rfl 54 (.tmp 4) (.tmp 23) rfl (n+1) rfl [I6 d,I6 0,eS] rfl A2 rfl (by kernel_rfl) (by simp[Value.oneCell']) ?_)
  intro f u d _;have G:Xo (zb w0 f):=dD<|zd E d (by have:=H.out;omega)
  have z:=dD u;have M:Xo (zm (fun k=>k=p) w f):=show zm _ _ _ from zm.beyond (zm.grew r) d (by have:=K.out;omega)
  clear u d;go_wp2;refine bodyPost_ret (zG rfl _ rfl z.box underlying54 rfl (by kernel_rfl)) rfl (ZE.err (V:=V) (m:=m) i ⟨rfl,l.elim (fun e=> .inl ⟨e.1,rfl,e.2⟩) fun e=> .inr (.inl ⟨e.1,rfl,e.2⟩)⟩ M G)
 have i:=zhg (V':=v) (m':=(zcw m j q s)) (P.box.grew y) a1.lo (P.gr.trans y) (j:Int);have L:=show Xo (qU m c.proc q s)from Q
 have t:=show Xo (Vac m.sp j/\j<4)from⟨T,U⟩
 have l:=dD X
 obtain⟨A,r⟩:=kA (zcw m j q s);rw[r.out]at i l C;clear Q T U X
 go_wp2_with (first | refine zo rfl 45 (.tmp 5) rfl g rfl C.box underlying45 rfl (by kernel_rfl) ?_ | (go_at_call 85;refine i.mono ?_))
 clear i;rintro e N ⟨rfl,P,i,h⟩;have A2:Xo (zn N (n+1) 54 [I6 0,I6 0,eS]):=dD<|R.outD i (by have:=a.out;omega)
 have E:=dD h;have N:=dD P;have C:=dD i
 have H:Xo (w0.heap.size<=n):=dD<|by have:=a1.lo;have:=a.out;omega
 have g:Xo (n+1<b.heap.size):=a4;clear h P i;unfold Qi noS
 go_wp2_with (refine zj rfl 54 (.tmp 4) (.tmp 23) rfl (n+1) rfl [I6 0,I6 (j:Int),eS] rfl A2 rfl (by kernel_rfl) (by simp[Value.oneCell']) ?_)
 intro f u d _;have G:Xo (zb w0 f):=dD<|zd E d (by have:=H.out;omega)
 have z:=dD u;have i:Xo (zn f p 88 (chL v A)):=show zn _ _ _ _ from N.beside d (fun k e=>by cases e;have:=a.out;omega)
 have h:Xo (∀W,zm (fun k=>k<w.heap.size) f W->zE W v A):=dD<|fun W F=>l.out W (((C.wide fun k B=>by have B:k=p:=B;have:=a.out;have:=g.out;omega).trans (zm.grown (D:=fun k=>k<b.heap.size) d g)).trans (F.wide fun k B=>Xt B (bS a0)))
 have M:Xo (zm (fun k=>k=p) w f):=dD<|zm.beyond ((zm.grew (a0.trans y)).trans C) d (by have:=K.out;omega)
 clear u d;go_wp2;refine bodyPost_ret (zG rfl _ rfl z.box underlying54 rfl (by kernel_rfl)) rfl (ZE.ok (V':=v) (m':=A) ⟨rfl,.inr (.inr ⟨rfl,q,s,j,L,t.1,t.2,rfl,r.symm⟩)⟩ M G i h)
def zlx (w0:Xn) (m:Ma) (BF:Nat->Nat->Ar->Pg->Bool->Bool × Nat × Ma) (c:Cl) (wr:Bool) (cs:List Xq) (k er:Int) (w:Xn):Prop:=
 (er≠0/\jn m BF c.proc (c.pt / 8) wr er)\/(er=0/\∃(V':MaV) (kk pc:Nat) (m':Ma),cs=chL V' m'/\k=(kk:Int)/\zcC m BF c.proc (c.pt / 8) wr kk m'/\ChW w0 pc w V' m')
theorem zlx.lower {w:Xn} {BF:Nat->Nat->Ar->Pg->Bool->Bool × Nat × Ma} {c:Cl} {wr:Bool} {cs:List Xq} {k a:Int} (h:zlx w1 m BF c wr cs k a w) (b:w.grownBy w' (Xa g)) (n:g<w1.heap.size) (d:zb w0 w') (p:w0.heap.size<=w1.heap.size):zlx w0 m BF c wr cs k a w':=by
 rcases h with h|⟨e,a,q,s,r,f,i,j,l⟩
 ·exact .inl h
 exact .inr ⟨e,a,q,s,r,f,i,j,l.lower b n d p⟩
theorem zlx.newer {w:Xn} {BF:Nat->Nat->Ar->Pg->Bool->Bool × Nat × Ma} {c:Cl} {wr:Bool} {cs:List Xq} {k a:Int} (h:zlx w1 m BF c wr cs k a w) (b:zb w w') (d:zb w0 w') (l:w0.heap.size<=w1.heap.size):zlx w0 m BF c wr cs k a w':=by
 rcases h with h|⟨e,a,n,q,p,f,g,i,j⟩
 ·exact .inl h
 exact .inr ⟨e,a,n,q,p,f,g,i,(j.grew b).rebase d l⟩
theorem zc.range1 {α:Type} {E:Elt α} {base n c:Nat} {w:Xn} {l:List α} (h:zc E base w (O (Xa ⟨g,0,Xb⟩) n c) l) {i:Nat} {x:α} (b:l[i]? =Xa x):w.rangeAt g (i*E.k) (E.enc x):=fun j v a=>by
 have:=h.one b j v a;rw[jb,Xu,zA]at this;exact this
theorem zog (h:0<=z) (o:Oper) (a:Act) (x w) (c:o.op= .binOp .quo 3 x (.const (I6 8)) 3) (d:a.eval x=I6 z) (b:z<=9223372036854775807):(execOp a.eval o).run prog w= .ok (.value (I6 (z / 8))) w:=by
 have b:a.eval (.const (I6 8))=I6 8:=rfl;simp only[execOp,c,d,b]
 go_simp
 rw[Int.tdiv_eq_ediv_of_nonneg h];rw[IntKind.wrap_i64];omega
structure zhp (B:Nat) (w:Xn) (V:MaV) (m:Ma):Prop where
 fs:zc Qy B w (V.f.x) m.fs
 ca:zc Jw B w (V.ca.x) m.ca
 sp:∃xs:List SpV,zc ZA B w (V.sp.x) xs/\xs.length=m.sp.length/\∀(i:Nat) x s,xs[i]? =Xa x->m.sp[i]? =Xa s->∀W,zm (fun k=>k<B\/oB V.f k\/oB V.ca k\/oB V.sp k) w W->jT W x s
 rest:∀W,zm (fun k=>k<B\/oB V.f k\/oB V.ca k\/oB V.sp k) w W->ziW W V m
theorem ChW.ownB {u:Xn} {p:Nat} (h:ChW w1 p u V m):zhp w1.heap.size u V m:=by
 obtain⟨i,d,f,g⟩:=h.sp;have b:∀{W:Xn},zm (fun k=>k<w1.heap.size\/oB V.f k\/oB V.ca k\/oB V.sp k) u W->zm (Dr w1.heap.size p V) u W:=fun a=>a.wide fun k c=>c.elim .inl fun e=> .inr (.inr e)
 exact⟨h.fs,h.ca,⟨i,d,f,fun i x s d c W a=>g i x s d c W (b a)⟩,fun W a=>h.rest W (b a)⟩
theorem zhp.out {u:Xn} (h:zhp B u V m) (o:zm (fun k=>k<B) u u1):zhp B u1 V m:=by
 obtain⟨p,i,j,n⟩:=h.sp;have c:∀{W:Xn},zm (fun k=>k<B\/oB V.f k\/oB V.ca k\/oB V.sp k) u1 W->zm (fun k=>k<B\/oB V.f k\/oB V.ca k\/oB V.sp k) u W:=fun b=>(o.wide fun k a=> .inl a).trans b
 have a:∀{d:Type} {E:Elt d} {v:Xq} {l:List d},zc E B u v l->zc E B u1 v l:=fun d=>⟨jh d.1 o (fun g f e=>by have:=(d.lt g f).1;have e:g<B:=e;omega),d.2⟩
 exact⟨a h.fs,a h.ca,⟨p,a i,j,fun i x s d a W b=>n i x s d a W (c b)⟩,fun W b=>h.rest W (c b)⟩
theorem zhp.grew {u:Xn} (h:zhp B u V m) (g:zb u u1):zhp B u1 V m:=h.out (zm.grew g)
theorem zhp.at {u:Xn} (h:zhp B u V m):zE u V m:=by
 have r:=h.rest u (zm.refl _ _);obtain⟨d,a,b,c⟩:=h.sp;exact⟨h.fs.at,r.sl,r.sb,r.sq,r.db,r.dq,r.fl,h.ca.at,⟨d,a.at,b,fun i x s b a=>c i x s b a u (zm.refl _ _)⟩⟩
theorem zhp.frame {u:Xn} (h:zhp B u V m) {fs:List Fr} (b:oB V.f g) (a:u.grownBy u1 (Xa g)) (c:zc Qy B u1 (V.f.x) fs):zhp B u1 V { m with fs:=fs }:=by
 obtain⟨j,f,i,l⟩:=h.sp;have d:zm (fun k=>k<B\/oB V.f k\/oB V.ca k\/oB V.sp k) u u1:=zm.grown a (.inr (.inl b))
 refine⟨c,h.ca.grown a (fun k c e=>?_),⟨j,f.grown a (fun k c e=>?_),i,fun k x s j i W a=>l k x s j i W (d.trans a)⟩,fun W a=>?_⟩
 ·cases e;exact h.fs.apart h.ca (by decide) g b c
 ·cases e;exact h.fs.apart f (by decide) g b c
 have r:=h.rest W (d.trans a);exact⟨r.sl,r.sb,r.sq,r.db,r.dq,r.fl⟩
def zqT (m:Ma) (BF:Nat->Nat->Ar->Pg->Bool->Bool × Nat × Ma) (c:Cl) (n:Int) (wr:Bool) (er:Int):Prop:=
 (qD c.pt n=Xd/\er=2)\/(qD c.pt n=Xc/\jn m BF c.proc (c.pt / 8) wr er)\/
 (qD c.pt n=Xc/\er=9/\∃(kk:Nat) (m':Ma) (fr:Fr) (j:Nat) (fl:Fl),zcC m BF c.proc (c.pt / 8) wr kk m'/\m'.fs[kk]? =Xa fr/\fr.f=(j:Int)/\m'.fl[j]? =Xa fl/\fl.size<fr.x*8+c.pt % 8+n)
def zqS (m:Ma) (BF:Nat->Nat->Ar->Pg->Bool->Bool × Nat × Ma) (c:Cl) (n:Int) (wr:Bool) (kk:Nat) (m':Ma) (fr:Fr):Prop:=
 qD c.pt n=Xc/\zcC m BF c.proc (c.pt / 8) wr kk m'/\m'.fs[kk]? =Xa fr/\(fr.f=-1\/∃(j:Nat) (fl:Fl),fr.f=(j:Int)/\m'.fl[j]? =Xa fl/\fr.x*8+c.pt % 8+n<=fl.size)
theorem zqT.ne {BF:Nat->Nat->Ar->Pg->Bool->Bool × Nat × Ma} {c:Cl} {n:Int} {wr:Bool} {a:Int} (h:zqT m BF c n wr a):a≠0:=by
 rcases h with⟨_,rfl⟩|⟨_,h,_⟩|⟨_,rfl,_⟩
 ·decide
 ·exact h
 decide
def zrY (m:Ma) (BF:Nat->Nat->Ar->Pg->Bool->Bool × Nat × Ma) (c:Cl) (n:Int) (wr:Bool) (w0:Xn) (p:Nat) (w:Xn) (k er:Int) (w':Xn):Prop:=
 zm (fun k=>k=p) w w'/\zb w0 w'/\(zqT m BF c n wr er\/(er=0/\∃(kk:Nat) (m':Ma) (fr:Fr) (V':MaV) (B:Nat),k=(kk:Int)/\zqS m BF c n wr kk m' fr/\zn w' p 88 (chL V' m')/\w.heap.size<=B/\zhp B w' V' m'))
theorem zjn {w:Xn} {p:Nat} (s:ChW w0 p w V m) (c:Cl) (n:Int) (wr:Bool) (BF:Nat->Nat->Ar->Pg->Bool->Bool × Nat × Ma) (au:-9223372036854775808<=c.pt) (P:c.pt<=9223372036854775807) (av:-9223372036854775808<=n) (a2:n<=9223372036854775807)
  (d2:∀W,zb w W->Xp prog 140 #[Xi (mL V m).toArray,I6 c.proc,I6 (c.pt / 8),Xh wr] W fun e w'=>((∃a:Int,e= Xl (Xm #[Xi zU.toArray,I6 0,I6 a])/\jn m BF c.proc (c.pt / 8) wr a)\/(∃(V':MaV) (k ae:Nat) (m':Ma),e= Xl (Xm #[Xi (mL V' m').toArray,I6 (k:Int),I6 0])/\zcC m BF c.proc (c.pt / 8) wr k m'/\ChW W ae w' V' m'))/\zb W w')
  (cz:∀(G:Nat) (m':Ma),zcC m BF c.proc (c.pt / 8) wr G m'->∃fr:Fr,m'.fs[G]? =Xa fr/\(fr.f=-1\/∃(j:Nat) (h:Fl),fr.f=(j:Int)/\m'.fl[j]? =Xa h)/\0<=fr.x/\fr.x<1000):
  Xp prog 81 #[Xj (Xa ⟨p,0,Xb⟩),Xi #[I6 c.kind,I6 c.proc,I6 c.pt,I6 c.n,I6 c.file,I6 c.base,Xh c.rd,Xh c.wr,Xh c.sh,c.dv.x],I6 n,Xh wr] w fun e w'=>∃k a:Int,e= Xl (Xm #[I6 k,I6 a])/\zrY m BF c n wr w0 p w k a w':=by
 have bd:=dD s;have al:=show Xo _ from d2
 have aj:Xo (p<w.heap.size):=s.dlt p (.inl rfl);have bb:=fun W=>zgi c.pt n W au P av a2
 have ag:Xo (c.pt<=9223372036854775807/\n<=9223372036854775807):=dD<|⟨P,a2⟩
 have bm:=show Xo _ from cz
 clear s d2 cz au P av a2;obtain⟨aq,bi⟩:=kA w.heap.size;obtain⟨d,M⟩:=kB (w.alloc (Xk #[I6 c.kind,I6 c.proc,I6 c.pt,I6 c.n,I6 c.file,I6 c.base,Xh c.rd,Xh c.wr,Xh c.sh,c.dv.x] 25));have R:=gA M
 have be:=xPT M bi
 have bv:Xo (_=d):=M;clear M;have co:=dD (bd.grew R);have ak:Xo (∀W,zb d W->_):=show∀W,_ from fun W B=>al.out W (R.trans B)
 go_enter func81,ntmps81
 go_upto_region 1 with fail;rw[bv.out,bi.out];have d4:=be.box.c 2 rfl;have a7:=bb d;clear bb;obtain⟨da,z⟩:=kA (qD c.pt n);rw[z.out]at a7;go_wp2_with fail;refine a7.mono ?_;rintro bh w' ⟨rfl,ba⟩;rw[ba];clear ba w' a7 d4
 cases da with
 | false=>
  go_wp2
  go_ret2
  exact⟨0,2,rfl,zm.grew R,bd.gr.trans R,.inl (.inl ⟨z,rfl⟩)⟩
 | true=>
  have am:=dD<|of_decide_eq_true z.out
  have bo:Xo (∀(o:Oper) (ap:Act) (x:Operand) (w:Xn),o.op= .binOp .quo 3 x (.const (I6 8)) 3->ap.eval x=I6 c.pt->(execOp ap.eval o).run prog w= .ok (.value (I6 (c.pt / 8))) w):=show∀(o:Oper) (ap:Act) (x:Operand) (w:Xn),_ from fun o ap x w dg dh=>zog am.1 o ap x w dg dh ag.1
  go_upto_region 3 with fail
  go_cut [10,11,12] (fun cf cg ch cj=>∃(i:Nat) (k a:Int) (b:List Xq),cf= Xj (Xa ⟨i,0,Xb⟩)/\cg=I6 k/\ch=I6 a/\Xo (zn cj i 45 b)/\Xo (zb d cj)/\Xo (d.heap.size<=i)/\Xo (zlx d m BF c wr b k a cj)/\Xo (b.length=11/\∀x∈b,x.oneCell'=Xc))
  case first=>
   refine wp_region_held (S:=fun W=>zb d W) zZ ?_
   show wpAnyH _ _ _ _ _ 19 (Xy 19 Xd) _ d.drew
   have q:zb d d.drew:=(gW _)
   refine qQ 0 (Xa 22) (Xj (Xa ⟨p,0,Xb⟩)) q ?_
   simp only[Xs,sB,sS,sZ];refine qQ 1 (Xa 23) (Xj (Xa ⟨p,0,Xb⟩)) q ?_
   simp only[Xs,sB,sS,sZ];refine qQ 2 (Xa 24) (Xj (Xa ⟨p,0,Xb⟩)) q ?_
   simp only[Xs,sB,sS,sZ];refine jl 3 (Xa 25) (Xi (chL V m).toArray) rfl rfl (by kernel_rfl) (by kernel_rfl) (by kernel_rfl) (fun _ _ _ s=>s) (yieldsIf_load_mid rfl 45 (.tmp 24) rfl p 0 rfl (chL V m) _ (fun W B=>(co.box.box.grew B).range) underlying45 rfl (by kernel_rfl)) q ?_
   simp only[Xs,sB,sS,sZ];refine qQ 4 (Xa 26) (Xj (Xa ⟨aq,1,Xb⟩)) q ?_
   simp only[Xs,sB,sS,sZ];refine jl 5 (Xa 27) (I6 c.proc) rfl rfl (by kernel_rfl) (by kernel_rfl) (by kernel_rfl) (fun _ _ _ s=>s) (.inl ⟨rfl,fun W B=>j4 _ (.tmp 26) rfl ⟨aq,1,Xb⟩ rfl (I6 c.proc) ((be.box.grew B).c 1 rfl) underlying3 rfl⟩) q ?_
   simp only[Xs,sB,sS,sZ];refine qQ 6 (Xa 28) (Xj (Xa ⟨aq,2,Xb⟩)) q ?_
   simp only[Xs,sB,sS,sZ];refine jl 7 (Xa 29) (I6 c.pt) rfl rfl (by kernel_rfl) (by kernel_rfl) (by kernel_rfl) (fun _ _ _ s=>s) (.inl ⟨rfl,fun W B=>j4 _ (.tmp 28) rfl ⟨aq,2,Xb⟩ rfl (I6 c.pt) ((be.box.grew B).c 2 rfl) underlying3 rfl⟩) q ?_
   simp only[Xs,sB,sS,sZ];refine jl 8 (Xa 30) (I6 (c.pt / 8)) rfl rfl (by kernel_rfl) (by kernel_rfl) (by kernel_rfl) (fun _ _ _ s=>s) (.inl ⟨rfl,fun W _=>bo.out _ _ _ W rfl rfl⟩) q ?_
   simp only[Xs,sB,sS,sZ];refine qQ 9 (Xa 31) (Xh wr) q ?_
   simp only[Xs,sB,sS,sZ];refine wpAnyH_all (rs:=[10,15]) (by kernel_rfl) (by simp) ?_
   intro j u;simp only[mC,nM,or_false]at u
   rcases u with rfl|rfl
   ·skip
    refine qk (Xa 32) (fun v w'=>(∃(b:List Xq) (k a:Int),v= Xm #[Xi b.toArray,I6 k,I6 a]/\b.length=11/\(∀x∈b,x.oneCell'=Xc)/\zlx d.drew m BF c wr b k a w')/\zb d.drew w') rfl rfl rfl (zR.call [Xi (mL V m).toArray,I6 c.proc,I6 (c.pt / 8),Xh wr] rfl func140 rfl rfl rfl ((ak _ q).mono ?_)) ?_
    ·rintro e w' ⟨s,F⟩
     rcases s with⟨a,rfl,Z⟩|⟨V',k,ae,m',rfl,a5,ca⟩
     ·exact⟨_,rfl,⟨zU,0,a,rfl,rfl,by unfold zU;simp[Value.oneCell'],.inl ⟨Z.1,Z⟩⟩,F⟩
     exact⟨_,rfl,⟨chL V' m',(k:Int),0,rfl,rfl,by simp[chL,Value.oneCell'],.inr ⟨rfl,V',k,ae,m',rfl,rfl,a5,ca⟩⟩,F⟩
    rintro v ao ⟨⟨b,k,a,rfl,hlen,l,a6⟩,bg⟩;have r:=q.trans bg;refine⟨r,?_⟩;simp only[Xs,sB,sS,sZ];refine qQ 11 (Xa 21) (Xm #[Xi b.toArray,I6 k,I6 a]) r ?_
    simp only[Xs,sB,sS,sZ];refine qQ 12 (Xa 33) (Xi b.toArray) r ?_
    simp only[Xs,sB,sS,sZ];refine qQ 13 (Xa 34) (I6 k) r ?_
    simp only[Xs,sB,sS,sZ];refine qQ 14 (Xa 35) (I6 a) r ?_
    simp only[Xs,sB,sS,sZ];refine wpAnyH_all (rs:=[15]) (by kernel_rfl) (by simp) ?_
    intro j u;simp only[mC,nM,or_false]at u;subst u;refine qk (Xa 10) (fun v w'=>v= Xj (Xa ⟨(ao).heap.size,0,Xb⟩)/\w'=(ao).alloc (Xk zU.toArray 45)) rfl rfl rfl (zR.step (ZN rfl) ⟨rfl,rfl⟩) ?_
    rintro v L ⟨rfl,g⟩;have X:zb d L:=by rw[g];exact r.trans (za _ _)
    have cy:zb ao L:=by rw[g];exact za _ _
    obtain⟨i,U⟩:=kA ((ao).heap.size);have ab:zn L i 45 zU:=by rw[g];exact zn.top _ zU _ U.symm
    have t:d.heap.size<=i:=by rw[<-U.out];exact bS r
    rw[U.out];clear g;refine⟨X,?_⟩;simp only[Xs,sB,sS,sZ];refine wpAnyH_all (rs:=[16]) (by kernel_rfl) (by simp) ?_
    intro j u;simp only[mC,nM,or_false]at u;subst u;refine qk Xb (fun v w'=>zb d w'/\zn w' i 45 b/\zlx d m BF c wr b k a w') rfl rfl rfl (zR.storeAllT 45 (.tmp 10) (.tmp 33) rfl i rfl b rfl ab (by rw[hlen];rfl) (by kernel_rfl) l (fun w' bz a1 dr=>⟨zd X a1 t,bz,a6.newer (zd cy a1 (by rw[U.out];exact nR _)) (zd X a1 t) (bS q)⟩)) ?_
    rintro v db ⟨E,ar,bc⟩;refine⟨E,?_⟩;simp only[Xs];refine qQ 17 (Xa 11) (I6 k) E ?_
    simp only[Xs,sB,sS,sZ];refine qQ 18 (Xa 12) (I6 a) E ?_
    simp only[Xs,sB,sS,sZ];refine wpAnyH_done (by kernel_rfl) ?_ _
    have af:=dD ar;have T:=dD E;have K:=dD t;have an:=dD bc;have y:Xo (b.length=11/\∀x∈b,x.oneCell'=Xc):=show _/\_ from⟨hlen,l⟩
    clear E ar bc;go_wp2
    go_meet
    exact⟨i,k,a,b,rfl,rfl,rfl,af,T,K,an,y⟩
   skip
   refine qk (Xa 10) (fun v w'=>v= Xj (Xa ⟨(d.drew).heap.size,0,Xb⟩)/\w'=(d.drew).alloc (Xk zU.toArray 45)) rfl rfl rfl (zR.step (ZN rfl) ⟨rfl,rfl⟩) ?_
   rintro v L ⟨rfl,g⟩;have X:zb d L:=by rw[g];exact q.trans (za _ _)
   have cy:zb d.drew L:=by rw[g];exact za _ _
   obtain⟨i,U⟩:=kA ((d.drew).heap.size);have ab:zn L i 45 zU:=by rw[g];exact zn.top _ zU _ U.symm
   have t:d.heap.size<=i:=by rw[<-U.out];exact bS q
   rw[U.out];clear g;refine⟨X,?_⟩;simp only[Xs,sB,sS,sZ];refine wpAnyH_all (rs:=[10]) (by kernel_rfl) (by simp) ?_
   intro j u;simp only[mC,nM,or_false]at u;subst u;refine qk (Xa 32) (fun v w'=>(∃(b:List Xq) (k a:Int),v= Xm #[Xi b.toArray,I6 k,I6 a]/\b.length=11/\(∀x∈b,x.oneCell'=Xc)/\zlx L m BF c wr b k a w')/\zb L w') rfl rfl rfl (zR.call [Xi (mL V m).toArray,I6 c.proc,I6 (c.pt / 8),Xh wr] rfl func140 rfl rfl rfl ((ak _ X).mono ?_)) ?_
   ·rintro e w' ⟨s,F⟩
    rcases s with⟨a,rfl,Z⟩|⟨V',k,ae,m',rfl,a5,ca⟩
    ·exact⟨_,rfl,⟨zU,0,a,rfl,rfl,by unfold zU;simp[Value.oneCell'],.inl ⟨Z.1,Z⟩⟩,F⟩
    exact⟨_,rfl,⟨chL V' m',(k:Int),0,rfl,rfl,by simp[chL,Value.oneCell'],.inr ⟨rfl,V',k,ae,m',rfl,rfl,a5,ca⟩⟩,F⟩
   rintro v ao ⟨⟨b,k,a,rfl,hlen,l,a6⟩,bg⟩;have r:=X.trans bg;refine⟨r,?_⟩;simp only[Xs,sB,sS,sZ];have a4:=ab.box.lt;have ab:=ab.grew bg;refine qQ 11 (Xa 21) (Xm #[Xi b.toArray,I6 k,I6 a]) r ?_
   simp only[Xs,sB,sS,sZ];refine qQ 12 (Xa 33) (Xi b.toArray) r ?_
   simp only[Xs,sB,sS,sZ];refine qQ 13 (Xa 34) (I6 k) r ?_
   simp only[Xs,sB,sS,sZ];refine qQ 14 (Xa 35) (I6 a) r ?_
   simp only[Xs,sB,sS,sZ];refine wpAnyH_all (rs:=[16]) (by kernel_rfl) (by simp) ?_
   intro j u;simp only[mC,nM,or_false]at u;subst u;refine qk Xb (fun v w'=>zb d w'/\zn w' i 45 b/\zlx d m BF c wr b k a w') rfl rfl rfl (zR.storeAllT 45 (.tmp 10) (.tmp 33) rfl i rfl b rfl ab (by rw[hlen];rfl) (by kernel_rfl) l (fun w' bz a1 dr=>⟨zd r a1 t,bz,a6.lower a1 a4 (zd r a1 t) (bS X)⟩)) ?_
   rintro v db ⟨E,ar,bc⟩;refine⟨E,?_⟩;simp only[Xs];refine qQ 17 (Xa 11) (I6 k) E ?_
   simp only[Xs,sB,sS,sZ];refine qQ 18 (Xa 12) (I6 a) E ?_
   simp only[Xs,sB,sS,sZ];refine wpAnyH_done (by kernel_rfl) ?_ _
   have af:=dD ar;have T:=dD E;have K:=dD t;have an:=dD bc;have y:Xo (b.length=11/\∀x∈b,x.oneCell'=Xc):=show _/\_ from⟨hlen,l⟩
   clear E ar bc;go_wp2
   go_meet
   exact⟨i,k,a,b,rfl,rfl,rfl,af,T,K,an,y⟩
  obtain⟨i,k,a,b,rfl,rfl,rfl,af,T,K,an,y⟩:=hcut
  rcases an with⟨b8,Z⟩|⟨rfl,V',G,ae,m',rfl,rfl,a5,ax⟩
  ·have dy:(a != 0)=Xc:=by simp[b8]
   have d7:=dD Z;have cl:=dD<|R.trans T.out
   clear Z b8;go_wp2
   go_ret2
   exact⟨0,a,rfl,zm.grew cl,bd.gr.trans cl,.inl (.inr (.inl ⟨z,d7⟩))⟩
  obtain⟨fr,az,ay,a8,a9⟩:=bm.out G m' a5;have H:=dD az;have cm:=dD a5;have bj:=dD ax;have bk:=dD ay;have cn:Xo (0<=fr.x/\fr.x<1000):=show _/\_ from⟨a8,a9⟩
  clear az ay a8 a9 a5 ax;have d8:=dD (co.box.grew T);have bw:Xo (∀v∈chL V' m',v.oneCell'=Xc):=show∀v∈chL V' m',_ by simp[chL,Value.oneCell']
  have bn:Xo ((chL V' m').length=(chL V m).length):=dD<|rfl
  have bu:Xo ((Tryz.prog.info? 45).map (·.size)=Xa (chL V m).length):=dD<|by kernel_rfl
  go_wp2_with (first | refine zo rfl 45 (.tmp 10) rfl i rfl af.box underlying45 rfl (by kernel_rfl) ?_ | refine zj rfl 45 (.tmp 42) (.tmp 40) rfl p rfl (chL V' m') rfl d8 bn bu bw.out ?_)
  intro a0 aa bf ds;clear ds;have cq:Xo (zm (fun k=>k=p) w a0):=dD<|(zm.grew (R.trans T)).trans (zm.grown bf rfl)
  have d5:Xo (zb w0 a0):=dD<|bd.grOut (cq.wide fun k cc=> .inl cc)
  have cr:=dD aa;have bx:=dD<|bj.ownB.out (zm.grown bf (Xt aj (bS R)))
  have dc:Xo (zn a0 aq 25 [I6 c.kind,I6 c.proc,I6 c.pt,I6 c.n,I6 c.file,I6 c.base,Xh c.rd,Xh c.wr,Xh c.sh,c.dv.x]):=dD<|(be.grew T).outD (zm.grown (D:=fun k=>k=p) bf rfl) (by have:=bi.out;have:=aj.out;omega)
  clear aa bf;have cd:=(gS.1 H).1;obtain⟨c9,de,A⟩:=bx.fs.formS (by omega)
  have cw:=cr.box.c 0 rfl;rw[A]at cw;have ai:Xo (zc Qy d.heap.size a0 (O (Xa ⟨c9,0,Xb⟩) m'.fs.length de) m'.fs):=dD<|by rw[<-A];exact bx.fs
  have a4:(G:Int)< (m'.fs.length:Int):=by omega
  obtain⟨dx,bl⟩:=kA m'.fs.length;rw[bl.out]at ai cw a4;clear A cd;obtain⟨⟨c0,c1,c2,c3,c4,aa,c5,c6⟩,bh,ci,c8,f,x⟩:=fr;have bq:Xo (a0.rangeAt c9 (G*13) [U8 c0,U8 c1,U8 c2,U8 c3,U8 c4,U8 aa,U8 c5,U8 c6,I6 bh,Xh ci,Xh c8,I6 f,I6 x]):=dD<|ai.range1 H.out
  have bt:Xo ((Tryz.prog.info? 93).map (·.size)=Xa 13):=dD<|by kernel_rfl
  go_upto_region 8 with(refine wpList_load_mid rfl 93 (.tmp 50) rfl c9 (G*13) rfl [U8 c0,U8 c1,U8 c2,U8 c3,U8 c4,U8 aa,U8 c5,U8 c6,I6 bh,Xh ci,Xh c8,I6 f,I6 x] _ bq underlying93 rfl bt.out ?_)
  obtain⟨e0,ck⟩:=kA a0.heap.size;obtain⟨cu,N⟩:=kB (a0.alloc (Xk #[U8 c0,U8 c1,U8 c2,U8 c3,U8 c4,U8 aa,U8 c5,U8 c6,I6 bh,Xh ci,Xh c8,I6 f,I6 x] 93));have ac:=gP N
  have cv:=xPT N ck
  have ct:=dD (cr.grew ac);have cp:=dD (bx.grew ac);have d9:=dD<|cq.trans (zm.grew ac)
  have d6:=dD (d5.trans ac);have dd:=dD (dc.grew ac);rw[N,ck.out];clear N ac;have e3:=cv.box.c 11 rfl;have e4:=cv.box.c 12 rfl;have d4:=dd.box.c 2 rfl;obtain⟨di,dj,dk⟩:=am.out;have a8:0<=x:=cn.1;have a9:x<1000:=cn.2;have P:=ag.1;have Y:∀{W:Xn} {k a:Int},zb cu W->((a=9/\∃(j:Nat) (h:Fl),f=(j:Int)/\m'.fl[j]? =Xa h/\h.size<x*8+c.pt % 8+n)\/(a=0/\k=(G:Int)/\(f=-1\/∃(j:Nat) (h:Fl),f=(j:Int)/\m'.fl[j]? =Xa h/\x*8+c.pt % 8+n<=h.size)))->zrY m BF c n wr w0 p w k a W:=fun B cc=>by
   refine⟨d9.trans (zm.grew B),d6.trans B,?_⟩
   rcases cc with⟨rfl,j,h,dp,dq,ce⟩|⟨rfl,rfl,ce⟩
   ·exact .inl (.inr (.inr ⟨z,rfl,G,m',_,j,h,cm,H,dp,dq,ce⟩))
   exact .inr ⟨rfl,G,m',_,V',d.heap.size,rfl,⟨z,cm,H,ce⟩,ct.grew B,bS R,cp.grew B⟩
  have C:=show Xo _ from@Y
  clear Y
  rcases bk with a3|⟨j,h,a3,Q⟩
  ·have a3:f=-1:=a3;subst a3;go_upto_region 10 with fail;go_quiet (fail);go_wp2
   go_ret2
   exact⟨_,_,rfl,C (show Below _ _ _ from bD (bR _ _) _) (.inr ⟨rfl,rfl,.inl (by first | trivial | rfl)⟩)⟩
  have a3:f=(j:Int):=a3;subst a3;have ah:=dD Q;have dm:decide ((j:Int)=-1)=Xd:=decide_eq_false (by omega)
  have dn:((j:Int) == -1)=Xd:=beq_eq_false_iff_ne.2 (by omega)
  have cx:=ct.box.c 7 rfl;obtain⟨dv,dw,A,aw,I⟩:=cp.at.fl.rows;rw[A]at cx;obtain⟨dt,rfl,e1,e2,_,d3⟩:=I j h Q;obtain⟨du,df⟩:=d3 cu (bR _ _);have cb:(j:Int)< (m'.fl.length:Int):=by have:=(gS.1 Q).1;omega
  obtain⟨dz,y⟩:=kA m'.fl.length;rw[y.out]at cx cb aw;clear d3 I A Q df;go_upto_region 10 with fail
  by_cases b9:h.size<x*8+c.pt % 8+n
  ·have dl:decide (h.size<x*8+c.pt % 8+n)=Xc:=decide_eq_true b9;have br:=dD b9;clear b9;go_quiet (fail);go_wp2
   go_ret2
   exact⟨_,_,rfl,C (show Below _ _ _ from bD (bR _ _) _) (.inl ⟨rfl,j,h,rfl,ah,br⟩)⟩
  have dl:decide (h.size<x*8+c.pt % 8+n)=Xd:=decide_eq_false b9;have br:Xo (x*8+c.pt % 8+n<=h.size):=dD<|by omega
  clear b9;go_quiet (fail);go_wp2
  go_ret2
  exact⟨_,_,rfl,C (show Below _ _ _ from bD (bR _ _) _) (.inr ⟨rfl,rfl,.inr ⟨j,h,rfl,ah,br⟩⟩)⟩
def zqZ (w0 u:Xn) (k:Nat):Prop:=w0.heap.size<=k/\k<u.heap.size
def Aft (w0 u w:Xn) (k:Nat):Prop:=k<w0.heap.size\/(u.heap.size<=k/\k<w.heap.size)
def Ql (K:Int->Int->List Int->Ma->Prop) (w0:Xn) (p:Nat) (u w:Xn) (e:Ending) (w':Xn):Prop:=
 ∃(er n:Int) (s:Sli) (l:List Int) (V':MaV) (m':Ma),e= Xl (Qi er n s)/\K er n l m'/\zm (zqZ w0 u) w w'/\zb w0 w'/\(∀W,zm (Aft w0 u w) w' W->zl byE W (s.x) l)/\(er=0->zn w' p 88 (chL V' m')/\∀W,zm (Aft w0 u w) w' W->zE W V' m')
theorem ZE.more {K:Int->Int->List Int->Ma->Prop} {u w:Xn} {p:Nat} {e:Ending} (h:ZE K w0 p w e w') (s:w0.heap.size<=p) (hp:p<u.heap.size) (q:w0.heap.size<=w.heap.size):Ql K w0 p u w e w':=by
 obtain⟨g,v,x,r,f,t,i,j,l,m,n,d⟩:=h;have b:∀W,zm (Aft w0 u w) w' W->zm (fun k=>k<w.heap.size) w' W:=fun W a=>a.wide fun k c=>c.elim (fun h=>Xt h q) fun h=>h.2
 exact⟨g,v,x,r,f,t,i,j,l.wide fun k c=>by cases c;exact⟨s,hp⟩,m,fun W a=>n W (b W a),fun c=>⟨(d c).1,fun W a=>(d c).2 W (b W a)⟩⟩
def Jg (m:Ma) (pr:Int) (K:Int->Int->List Int->Ma->Prop) (er n:Int) (l:List Int) (m':Ma):Prop:=
 (er=5/\n=0/\l=[]/\∀q s,¬qU m pr q s)\/((∃q s,qU m pr q s)/\K er n l m')
theorem J9 {w:Xn} {p:Nat} (h:ChW w0 p w V m) (c:Cl) (g F:Nat) (K:Int->Int->List Int->Ma->Prop) (d:Enters prog F) (a1:zn w g 80 [.func (.func F) #[] #[]])
  (a0:∀W,zb w W->(∃q s,qU m c.proc q s)->Xp prog F #[Xj (Xa ⟨p,0,Xb⟩),Xi #[I6 c.kind,I6 c.proc,I6 c.pt,I6 c.n,I6 c.file,I6 c.base,Xh c.rd,Xh c.wr,Xh c.sh,c.dv.x]] W fun e w'=>Ql K w0 p w W e w'):
  Xp prog 73 #[Xj (Xa ⟨p,0,Xb⟩),Xi #[I6 c.kind,I6 c.proc,I6 c.pt,I6 c.n,I6 c.file,I6 c.base,Xh c.rd,Xh c.wr,Xh c.sh,c.dv.x],Xj (Xa ⟨g,0,Xb⟩)] w fun e w'=>Ql (Jg m c.proc K) w0 p w w e w':=by
 have L:=dD h;have N:Xo (p<w.heap.size):=h.dlt p (.inl rfl);have ab:=dD a1;have aa:=show Xo _ from a0
 have ap:Xo (∀(a:Array Xq) (w:Xn),(callFunc F a).run prog w= .ok (.enter F a) w):=d;obtain⟨t,v⟩:=kA w.heap.size;obtain⟨A,a⟩:=kB ((w.alloc (Xk #[I6 c.kind,I6 c.proc,I6 c.pt,I6 c.n,I6 c.file,I6 c.base,Xh c.rd,Xh c.wr,Xh c.sh,c.dv.x] 25)).alloc (Xk #[I6 0,I6 0,eS] 54));have a7:=gD2 a
 have al:Xo (zn A t 25 [I6 c.kind,I6 c.proc,I6 c.pt,I6 c.n,I6 c.file,I6 c.base,Xh c.rd,Xh c.wr,Xh c.sh,c.dv.x]):=dD<|by rw[<-a];exact(zn.top w [I6 c.kind,I6 c.proc,I6 c.pt,I6 c.n,I6 c.file,I6 c.base,Xh c.rd,Xh c.wr,Xh c.sh,c.dv.x] _ v.symm).grew (za _ _)
 have A1:Xo (zn A (t+1) 54 [I6 0,I6 0,eS]):=dD<|by rw[<-a];exact zn.top _ [I6 0,I6 0,eS] _ (by have:=v.out;simp;omega)
 have a9:=dD A1.box.lt;have U:Xo (p<t):=show _<_ by have:=N.out;have:=v.out;omega
 have ac:Xo (w0.heap.size<=t):=dD<|by have:=L.lo;have:=U.out;omega
 have a2:=dD<|h.grew a7.out;have b:Xo (_=A):=a;obtain⟨-,-,-,-,-,-,-,-,f⟩:=h.at.ns;have B:=dD f;obtain⟨r,z⟩:=kA V.sp.n;clear a h a0 a1 f d
 go_enter func73,ntmps73
 go_upto_region 1 with fail;rw[b.out,v.out];have C:∀y:zg A,y.world.cell? ⟨t,1,Xb⟩=Xa (I6 c.proc):=fun y=>(al.box.grew y.grew).c 1 rfl
 have b:∀y:zg A,y.world.cell? ⟨p,10,Xb⟩=Xa (O V.sp.a r V.sp.c):=fun y=>by rw[<-z.out];exact(a2.box.box.grew y.grew).c 10 rfl
 have R:Nonempty (zg A):=⟨⟨_,zb.refl _⟩⟩
 by_cases i:0<=c.proc/\c.proc< (r:Int)
 rotate_left
 ·have k:Xo ((Value.bool (decide (0<=c.proc) && decide (c.proc< (r:Int))))= Xh Xd):=dD<|by
   congr 1
   rw[Bool.and_eq_false_iff]
   by_cases I:0<=c.proc
   ·exact .inr (decide_eq_false fun a=>i ⟨I,a⟩)
   exact .inl (decide_eq_false I)
  have M:Xo (∀q s,¬qU m c.proc q s):=dD<|fun q s Q=>i (by
   have:=Q.1;have:=(gS.1 Q.2.1).1;have:=z.out;have:=B.out
   omega)
  clear i;refine qu [(8,⟨fun a5=>a5= Xh Xd,fun _ _=>True⟩)] zZ (by kernel_rfl) ?_ ?_ ?_
  ·intro x a
   simp at a
   subst a;exact⟨_,rfl⟩
  ·intro x a
   simp at a
   subst a;exact fun _ _ _ _ h=>h
  iterate 3 refine zf ?_
  refine Zp (.tmp 8) ⟨p,0,Xb⟩ rfl rfl rfl rfl ?_;simp only[Xs,sB,sS,sZ];iterate 4 refine zf ?_
  refine zC rfl rfl (fun w' a1 a0=>?_) (fun ao j=>?_)
  ·refine zR.call [I6 c.proc,I6 (r:Int)] rfl func74 rfl rfl rfl ?_;refine(QS c.proc (r:Int) w').mono ?_;rintro e a6 ⟨rfl,rfl⟩;exact⟨_,rfl,zb.refl _,k,trivial⟩
  subst j;simp only[Xs,sB,sS,sZ];iterate 2 refine zf ?_
  iterate 11 (refine jo rfl ?_;simp only[Xs,sB,sS,sZ])
  refine zf ?_
  refine zP fun P d _=>?_
  have A2:=dD (A1.grew d);have E:=dD (a7.trans d);clear d C b R;have l:=jP 5 P;go_wp2_with fail;refine l.mono ?_;rintro e Z ⟨rfl,u⟩;have S:=dD (A2.grew u);have Y:=dD (E.trans u);clear l u;unfold Qi noS
  go_wp2_with (refine zj rfl 54 (.tmp 5) (.tmp 29) rfl (t+1) rfl [I6 5,I6 0,eS] rfl S rfl (by kernel_rfl) (by simp[Value.oneCell']) ?_)
  intro G H f _;have a8:Xo (zb w0 G):=dD<|zd (L.gr.trans Y) f (by have:=ac.out;omega)
  have T:=dD H;have ag:Xo (zm (fun a4=>a4=p) w G):=show zm _ _ _ from zm.beyond (zm.grew Y) f (by have:=v.out;omega)
  clear H f;go_wp2;refine bodyPost_ret (zG rfl _ rfl T.box underlying54 rfl (by kernel_rfl)) rfl (ZE.more (ZE.err (V:=V) (m:=m) (by decide) (.inl ⟨rfl,rfl,rfl,M⟩) ag a8) L.lo N (bS L.gr))
 have k:Xo ((Value.bool (decide (0<=c.proc) && decide (c.proc< (r:Int))))= Xh Xc):=dD<|by
  rw[decide_eq_true i.1,decide_eq_true i.2];rfl
 obtain⟨q,X⟩:∃q:Nat,Xo (c.proc=(q:Int)):=⟨c.proc.toNat,show _=_ by omega⟩
 have a3:(q:Int)< (r:Int):=by have:=X.out;omega
 obtain⟨a3,aj,am,an⟩:=a2.sp;obtain⟨x,a⟩:∃x,a3[q]? =Xa x:=⟨_,gE (by rw[am,<-B.out,z.out];omega)⟩
 obtain⟨s,ai⟩:∃s,m.sp[q]? =Xa s:=⟨_,gE (by rw[<-B.out,z.out];omega)⟩
 have a2:=(an q x s a ai A (zm.refl _ _)).live;obtain⟨ah,B,z⟩:=aj.formS (by have:=(gS.1 a).1;omega)
 have ak:=dD ai;have ad:=dD a2;have ae:Xo (zc ZA w0.heap.size A (O (Xa ⟨ah,0,Xb⟩) a3.length B) a3):=show zc _ _ _ _ _ by rw[<-z];exact aj
 have af:=dD a;have a3:V.sp.a=Xa ⟨ah,0,Xb⟩:=by simp only[vJ]at z;exact z.1
 rw[a3]at b;rw[X.out]at C k;have B:∀y:zg A,y.world.cell? ⟨ah,q*10,Xb⟩=Xa (Xh s.live):=fun y=>by
  rw[<-ad.out];exact(ae.grew y.grew).range1 af 0 _ rfl
 clear i aj am an a ai a2 z a3;have i:decide ((0:Int)<=(q:Int))=Xc:=by simp
 have i:Xo (c.proc=(q:Int)):=X
 cases j:s.live with
 | false=>
  rw[j]at B;have M:Xo (∀i y,¬qU m c.proc i y):=dD<|fun i y Q=>by
   have e:i=q:=by have:=Q.1;have:=X.out;omega
   rw[e]at Q;have i:=Q.2.1;rw[ak.out]at i;cases i;have i:=Q.2.2;rw[j]at i;cases i
  clear j;refine qu [(8,⟨fun a5=>a5= Xh Xc,fun _ _=>True⟩)] zZ (by kernel_rfl) ?_ ?_ ?_
  ·intro x a
   simp at a
   subst a;exact⟨_,rfl⟩
  ·intro x a
   simp at a
   subst a;exact fun _ _ _ _ h=>h
  iterate 3 refine zf ?_
  refine Zp (.tmp 8) ⟨p,0,Xb⟩ rfl rfl rfl rfl ?_;simp only[Xs,sB,sS,sZ];iterate 4 refine zf ?_
  refine zC rfl rfl (fun w' a1 a0=>?_) (fun ao j=>?_)
  ·refine zR.call [I6 (q:Int),I6 (r:Int)] rfl func74 rfl rfl rfl ?_;refine(QS (q:Int) (r:Int) w').mono ?_;rintro e a6 ⟨rfl,rfl⟩;exact⟨_,rfl,zb.refl _,k,trivial⟩
  subst j;simp only[Xs,sB,sS,sZ];iterate 2 refine zf ?_
  refine zI rfl rfl rfl (fun K y=>?_);go_big_quiet_op;refine y _ ?_;clear y K
  refine Zp (.tmp 17) ⟨p,0,Xb⟩ rfl rfl rfl rfl ?_;simp only[Xs,sB,sS,sZ];iterate 10 refine zf ?_
  clear B;refine zP fun P d _=>?_
  have A2:=dD (A1.grew d);have E:=dD (a7.trans d);clear d C b R;have l:=jP 5 P;go_wp2_with fail;refine l.mono ?_;rintro e Z ⟨rfl,u⟩;have S:=dD (A2.grew u);have Y:=dD (E.trans u);clear l u;unfold Qi noS
  go_wp2_with (refine zj rfl 54 (.tmp 5) (.tmp 29) rfl (t+1) rfl [I6 5,I6 0,eS] rfl S rfl (by kernel_rfl) (by simp[Value.oneCell']) ?_)
  intro G H f _;have a8:Xo (zb w0 G):=dD<|zd (L.gr.trans Y) f (by have:=ac.out;omega)
  have T:=dD H;have ag:Xo (zm (fun a4=>a4=p) w G):=show zm _ _ _ from zm.beyond (zm.grew Y) f (by have:=v.out;omega)
  clear H f;go_wp2;refine bodyPost_ret (zG rfl _ rfl T.box underlying54 rfl (by kernel_rfl)) rfl (ZE.more (ZE.err (V:=V) (m:=m) (by decide) (.inl ⟨rfl,rfl,rfl,M⟩) ag a8) L.lo N (bS L.gr))
 | true=>
  rw[j]at B;have i:Xo (∃q s,qU m c.proc q s):=dD<|⟨q,s,X,ak,j⟩
  clear j;refine qu [(8,⟨fun a5=>a5= Xh Xc,fun _ _=>True⟩)] zZ (by kernel_rfl) ?_ ?_ ?_
  ·intro x a
   simp at a
   subst a;exact⟨_,rfl⟩
  ·intro x a
   simp at a
   subst a;exact fun _ _ _ _ h=>h
  iterate 3 refine zf ?_
  refine Zp (.tmp 8) ⟨p,0,Xb⟩ rfl rfl rfl rfl ?_;simp only[Xs,sB,sS,sZ];iterate 4 refine zf ?_
  refine zC rfl rfl (fun w' a1 a0=>?_) (fun ao j=>?_)
  ·refine zR.call [I6 (q:Int),I6 (r:Int)] rfl func74 rfl rfl rfl ?_;refine(QS (q:Int) (r:Int) w').mono ?_;rintro e a6 ⟨rfl,rfl⟩;exact⟨_,rfl,zb.refl _,k,trivial⟩
  subst j;simp only[Xs,sB,sS,sZ];iterate 2 refine zf ?_
  refine zI rfl rfl rfl (fun K y=>?_);go_big_quiet_op;refine y _ ?_;clear y K
  refine Zp (.tmp 17) ⟨p,0,Xb⟩ rfl rfl rfl rfl ?_;simp only[Xs,sB,sS,sZ];iterate 10 refine zf ?_
  clear B;refine zP fun P d _=>?_
  have A2:=dD (A1.grew d);have j:=dD (al.grew d);have E:=dD (a7.trans d);have y:=dD<|Xt a9 (bS d)
  clear d C b R;have a:=aa.out P E i.out;have b:=(ab.grew E).box.c 0 rfl
  go_wp2_with (first | refine zo rfl 25 (.tmp 4) rfl t rfl j.box underlying25 rfl (by kernel_rfl) ?_ | fail)
  rw[ap.out];refine a.mono ?_;clear a b;rintro e Z ⟨l,n,z,A,N,B,rfl,a,d,u,k,j⟩;have S:Xo (zn Z (t+1) 54 [I6 0,I6 0,eS]):=dD<|A2.outD d (fun a=>by have:=v.out;have:=a.2;omega)
  have L:Xo (K l n A B):=a;have M:Xo (zm (zqZ w0 w) w Z):=show zm _ _ _ from(zm.grew E).trans d
  have C:=dD u;have r:=show Xo _ from k
  have b:=show Xo _ from j
  clear a d u k j;unfold Qi
  go_wp2_with (refine zj rfl 54 (.tmp 5) (.tmp 33) rfl (t+1) rfl [I6 l,I6 n,z.x] rfl S rfl (by kernel_rfl) (by simp[Value.oneCell']) ?_)
  intro G H f _;have T:=dD H;have d:Xo (Ql (Jg m c.proc K) w0 p w w (Xl (Qi l n z)) G):=show Ql _ _ _ _ _ _ _ from by
   have k:∀W,zm (Aft w0 w w) G W->zm (Aft w0 w P) Z W:=fun W j=>(zm.grown (D:=Aft w0 w P) f (.inr ⟨by have:=v.out;omega,y⟩)).trans (j.wide fun a4 a=>a.imp id fun h=>⟨h.1,Xt h.2 (bS E)⟩)
   exact⟨l,n,z,A,N,B,rfl,.inr ⟨i,L⟩,M.beyond f (by have:=v.out;omega),zd C f (by have:=ac.out;omega),fun W j=>r.out W (k W j),fun I=>⟨(b I).1.beside f (fun a4 e=>by cases e;have:=U.out;omega),fun W j=>(b I).2 W (k W j)⟩⟩
  clear H f;go_wp2;refine bodyPost_ret (zG rfl _ rfl T.box underlying54 rfl (by kernel_rfl)) rfl d.out
def Qu:List (Int × Xq)->Int->Option Xq
 | [],_=>Xb
 | p :: l,k=>if k=p.1 then Xa p.2 else Qu l k
def zfF:List (Int × Xq)->Int->Nat->Option (Nat × Xq)
 | [],_,_=>Xb
 | p :: l,k,i=>if k=p.1 then Xa (i,p.2)else zfF l k (i+1)
theorem zbZ:∀(l:List (Int × Xq)) (k:Int) (i:Nat),(zfF l k i).map (·.2)=Qu l k
 | [],_,_=>rfl
 | p :: l,k,i=>by
  unfold zfF Qu
  by_cases e:k=p.1
  ·rw[kE e,kE e];rfl
  rw[kF e,kF e,zbZ l k (i+1)]
def zdW (w:Xn) (b:Nat) (l:List (Int × Xq)):Prop:=∃es clock,w.heap[b]? =Xa (.map es clock)/\es.toList.map (fun e=>(e.key,e.val))=l.map (fun p:Int × Xq=>(I6 p.1,p.2))
theorem zdW.lt {w:Xn} {l:List (Int × Xq)} (h:zdW w b l):b<w.heap.size:=by
 obtain⟨a,c,a,_⟩:=h;exact(aS.1 a).1
theorem zdW.made (w:Xn):zdW (w.alloc (.map #[] 0)) w.heap.size []:=⟨#[],0,by
 show(w.heap.push _)[w.heap.size]? =_
 simp,rfl⟩
theorem zdW.grew {w:Xn} {l:List (Int × Xq)} (h:zdW w b l) (g:zb w w'):zdW w' b l:=by
 have a:=h.lt;obtain⟨d,c,e,f⟩:=h;exact⟨d,c,(Below.block g b a).trans e,f⟩
theorem zjz {k:Int} {c:IntKind}:∀(l:List (Int × Xq)) (a:List MapEntry) (i:Nat),a.map (fun e=>(e.key,e.val))=l.map (fun p:Int × Xq=>(I6 p.1,p.2))->Instr.findNow (.int c) (I6 k) a i=Xa (zfF l k i)
 | [],[],i,_=>rfl
 | [],e :: a,i,h=>by simp at h
 | p :: l,[],i,h=>by simp at h
 | p :: l,e :: a,i,h=>by
  simp only[mP,List.cons.injEq,pJ]at h;obtain⟨⟨b,d⟩,f⟩:=h;unfold Instr.findNow zfF;rw[b]
  by_cases b:k=p.1
  ·rw[kE b];have:Instr.sameNow (.int c) (I6 k) (I6 p.1)=Xa Xc:=by simp[Instr.sameNow,b]
   rw[this,d]
  rw[kF b];have:Instr.sameNow (.int c) (I6 k) (I6 p.1)=Xa Xd:=by simp[Instr.sameNow,b]
  rw[this];exact zjz l a (i+1) f
theorem zc2 {d:IntKind} {b:TypeId} (c:Tryz.prog.underlying b=Xa (.int d)) (k:Int) (w) (l:List (Int × Xq)) (a:List MapEntry) (h:a.map (fun e=>(e.key,e.val))=l.map (fun p:Int × Xq=>(I6 p.1,p.2))):(Instr.findKey b (I6 k) a).run prog w= .ok (zfF l k 0) w:=by
 unfold Instr.findKey;simp only[Yc,run_underlying c,rA,zjz l a 0 h];rfl
theorem JG {d:IntKind} {a:TypeId} (c:Tryz.prog.underlying a=Xa (.int d)) (b:Bool) (k:Int) (w):(Instr.checkKey b 10000 a (I6 k)).run prog w= .ok () w:=by
 unfold Instr.checkKey;simp only[Yc,run_underlying c,rA];rfl
theorem zdW.look {w:Xn} {l:List (Int × Xq)} (g:zdW w b l) {c:IntKind} {a e:TypeId} {z:Xq} (d:Tryz.prog.underlying a=Xa (.int c)) (h:Tryz.prog.underlying t=Xa (.map a e)) (j:(zeroValue e).run prog w= .ok z w) (k:Int):
  (Instr.lookup t (.map (Xa b)) (I6 k) Xc).run prog w= .ok (Xm #[(Qu l k).getD z,Xh (Qu l k).isSome]) w:=by
 obtain⟨c,a,f,i⟩:=g;have a:=zc2 d k w l c.toList i;have c:=zbZ l k 0;unfold Instr.lookup
 cases g:zfF l k 0 with
 | none=>
  rw[g]at a c;rw[<-c]
  simp[run_underlying h,MapKept.run_getObj_map f,JG d,a,j]
 | some q=>
  rw[g]at a c;rw[<-c]
  simp[run_underlying h,MapKept.run_getObj_map f,JG d,a]
theorem zdW.put {w:Xn} {l:List (Int × Xq)} (g:zdW w b l) {c:IntKind} {a e:TypeId} (h:Tryz.prog.underlying a=Xa (.int c)) (m:Tryz.prog.underlying t=Xa (.map a e)) (k:Int) (v) (i:Qu l k=Xb):
  ∃w',(Instr.mapUpdate t (.map (Xa b)) (I6 k) v).run prog w= .ok () w'/\zdW w' b (l++ [(k,v)])/\w.grownBy w' (Xa b)/\w'.heap.size=w.heap.size:=by
 obtain⟨d,c,a,f⟩:=g;have g:=zc2 h k w l d.toList f;have j:zfF l k 0=Xb:=by
  have:=zbZ l k 0;rw[i]at this
  cases i:zfF l k 0 with
  | none=>rfl
  | some q=>rw[i]at this;cases this
 rw[j]at g;refine⟨ChangeMaps.setBlock w b (.map (d.push ⟨I6 k,v,c⟩) (c+1)),?_,⟨_,_,ChangeMaps.heap_setBlock_same a _,?_⟩,⟨rfl,rfl,rfl,by simp[ChangeMaps.setBlock],fun i _ c=>ChangeMaps.heap_setBlock_other a _ (fun e=>c (by rw[e]))⟩,by simp[ChangeMaps.setBlock]⟩
 ·simp[Instr.mapUpdate,run_underlying m,MapKept.run_getObj_map a,JG h,g,MapKept.run_setObj_map _ a,ChangeMaps.setBlock]
 simp[f]
theorem zH {w:Xn} {rest:List Oper} {a:Act} (d:o.guard=Xb) {s:IntKind} {c e:TypeId} (p:Tryz.prog.underlying c=Xa (.int s)) (n:Tryz.prog.underlying t=Xa (.map c e)) (m x v) (f:o.op= .insert t m x v) (b:Nat) (l:List (Int × Xq)) (h:zdW w b l) (k:Int) (u)
  (i:a.eval m= .map (Xa b)) (r:a.eval x=I6 k) (q:a.eval v=u) (j:Qu l k=Xb)
  (g:∀w',zdW w' b (l++ [(k,u)])->w.grownBy w' (Xa b)->wpList prog ops Q rest (a.put o.dst undef) w'):wpList prog ops Q (o :: rest) a w:=by
 refine wpList_plain d fun c d=>?_
 obtain⟨w',c,s,y,_⟩:=h.put p n k u j;unfold Oper.wp
 simp[execOp,f,i,r,q,c,Result.andThen]
 exact d _ _ (g w' s y)
def zrB:Int->Option Nat
 | 1=>Xa 35
 | 2=>Xa 36
 | 3=>Xa 37
 | 4=>Xa 38
 | 5=>Xa 39
 | 6=>Xa 40
 | 7=>Xa 41
 | _=>Xb
def zrD:Int->Option Nat
 | 9=>Xa 44
 | 10=>Xa 45
 | 11=>Xa 46
 | 12=>Xa 47
 | _=>Xb
def zrC:Int->Option Nat
 | 8=>Xa 42
 | 13=>Xa 48
 | 14=>Xa 49
 | 15=>Xa 50
 | _=>Xb
def qS (w:Xn) (k:Int) (v:Xq):Prop:=
 (k=1->∃g,v= .func (.func 73) #[] #[Xj (Xa ⟨g,0,Xb⟩)]/\zn w g 80 [.func (.func 35) #[] #[]])/\
 (k=2->∃g,v= .func (.func 73) #[] #[Xj (Xa ⟨g,0,Xb⟩)]/\zn w g 80 [.func (.func 36) #[] #[]])/\
 (k=3->∃g,v= .func (.func 73) #[] #[Xj (Xa ⟨g,0,Xb⟩)]/\zn w g 80 [.func (.func 37) #[] #[]])/\
 (k=4->∃g,v= .func (.func 73) #[] #[Xj (Xa ⟨g,0,Xb⟩)]/\zn w g 80 [.func (.func 38) #[] #[]])/\
 (k=5->∃g,v= .func (.func 73) #[] #[Xj (Xa ⟨g,0,Xb⟩)]/\zn w g 80 [.func (.func 39) #[] #[]])/\
 (k=6->∃g,v= .func (.func 73) #[] #[Xj (Xa ⟨g,0,Xb⟩)]/\zn w g 80 [.func (.func 40) #[] #[]])/\
 (k=7->∃g,v= .func (.func 73) #[] #[Xj (Xa ⟨g,0,Xb⟩)]/\zn w g 80 [.func (.func 41) #[] #[]])/\
 (k=8->v= .func (.func 42) #[] #[])/\
 (k=9->∃g,v= .func (.func 88) #[] #[Xj (Xa ⟨g,0,Xb⟩)]/\zn w g 80 [.func (.func 44) #[] #[]])/\
 (k=10->∃g,v= .func (.func 88) #[] #[Xj (Xa ⟨g,0,Xb⟩)]/\zn w g 80 [.func (.func 45) #[] #[]])/\
 (k=11->∃g,v= .func (.func 88) #[] #[Xj (Xa ⟨g,0,Xb⟩)]/\zn w g 80 [.func (.func 46) #[] #[]])/\
 (k=12->∃g,v= .func (.func 88) #[] #[Xj (Xa ⟨g,0,Xb⟩)]/\zn w g 80 [.func (.func 47) #[] #[]])/\
 (k=13->v= .func (.func 48) #[] #[])/\
 (k=14->v= .func (.func 49) #[] #[])/\
 (k=15->v= .func (.func 50) #[] #[])
theorem qS.grew {w:Xn} {k:Int} {v:Xq} (e:qS w k v) (g:zb w w'):qS w' k v:=by
 obtain⟨i,j,l,m,n,p,q,r,s,a,b,c,d,f,h⟩:=e;exact⟨fun e=>(i e).imp fun _ x=>⟨x.1,x.2.grew g⟩,fun e=>(j e).imp fun _ x=>⟨x.1,x.2.grew g⟩,fun e=>(l e).imp fun _ x=>⟨x.1,x.2.grew g⟩,fun e=>(m e).imp fun _ x=>⟨x.1,x.2.grew g⟩,fun e=>(n e).imp fun _ x=>⟨x.1,x.2.grew g⟩,fun e=>(p e).imp fun _ x=>⟨x.1,x.2.grew g⟩,fun e=>(q e).imp fun _ x=>⟨x.1,x.2.grew g⟩,r,fun e=>(s e).imp fun _ x=>⟨x.1,x.2.grew g⟩,fun e=>(a e).imp fun _ x=>⟨x.1,x.2.grew g⟩,fun e=>(b e).imp fun _ x=>⟨x.1,x.2.grew g⟩,fun e=>(c e).imp fun _ x=>⟨x.1,x.2.grew g⟩,d,f,h⟩
theorem q9 (n:Nat) (w:Xn):Xp prog 34 #[.func (.func n) #[] #[]] w fun e w'=>e= Xl (.func (.func 73) #[] #[Xj (Xa ⟨w.heap.size,0,Xb⟩)])/\w'=w.alloc (Xk #[.func (.func n) #[] #[]] 80):=by
 go_enter func34,ntmps34
 go_wp2;go_ret;exact⟨rfl,rfl⟩
theorem zaa (n:Nat) (w:Xn):Xp prog 43 #[.func (.func n) #[] #[]] w fun e w'=>e= Xl (.func (.func 88) #[] #[Xj (Xa ⟨w.heap.size,0,Xb⟩)])/\w'=w.alloc (Xk #[.func (.func n) #[] #[]] 80):=by
 go_enter func43,ntmps43
 go_wp2;go_ret;exact⟨rfl,rfl⟩
theorem J3 {w:Xn} {cs:List Xq} {l:List (Int × Xq)} (h:zn w g t cs) (k:zdW w b l):g≠b:=fun e=>by
 subst e;obtain⟨a,a,c,_⟩:=k;have a:w.heap[g]? =Xa (Xk cs.toArray t (0,0)):=h;rw[c]at a;cases a
theorem qS.proc {w:Xn} {k:Int} {f:Nat} (a:zrB k=Xa f) (x:zn w g 80 [.func (.func f) #[] #[]]):qS w k (.func (.func 73) #[] #[Xj (Xa ⟨g,0,Xb⟩)]):=by
 refine⟨fun e=>?_,fun e=>?_,fun e=>?_,fun e=>?_,fun e=>?_,fun e=>?_,fun e=>?_,fun e=>?_,fun e=>?_,fun e=>?_,fun e=>?_,fun e=>?_,fun e=>?_,fun e=>?_,fun e=>?_⟩ <;>(subst e;cases a) <;> exact⟨g,rfl,x⟩
theorem qS.file {w:Xn} {k:Int} {f:Nat} (a:zrD k=Xa f) (x:zn w g 80 [.func (.func f) #[] #[]]):qS w k (.func (.func 88) #[] #[Xj (Xa ⟨g,0,Xb⟩)]):=by
 refine⟨fun e=>?_,fun e=>?_,fun e=>?_,fun e=>?_,fun e=>?_,fun e=>?_,fun e=>?_,fun e=>?_,fun e=>?_,fun e=>?_,fun e=>?_,fun e=>?_,fun e=>?_,fun e=>?_,fun e=>?_⟩ <;>(subst e;cases a) <;> exact⟨g,rfl,x⟩
theorem qS.own {w:Xn} {k:Int} {f:Nat} (a:zrC k=Xa f):qS w k (.func (.func f) #[] #[]):=by
 refine⟨fun e=>?_,fun e=>?_,fun e=>?_,fun e=>?_,fun e=>?_,fun e=>?_,fun e=>?_,fun e=>?_,fun e=>?_,fun e=>?_,fun e=>?_,fun e=>?_,fun e=>?_,fun e=>?_,fun e=>?_⟩ <;>(subst e;cases a) <;> rfl
structure Wks (w0 w:Xn) (B:Nat) (n:Int) (l:List (Int × Xq)):Prop where
 gr:zb w0 w
 map:zdW w B l
 all:∀k v,Qu l k=Xa v->qS w k v
 dom:∀k,(Qu l k).isSome=decide (1<=k/\k<=n)
theorem Wks.grew {w:Xn} {n:Int} {l:List (Int × Xq)} (h:Wks w0 w B n l) (g:zb w w'):Wks w0 w' B n l:=⟨h.gr.trans g,h.map.grew g,fun k v a=>(h.all k v a).grew g,h.dom⟩
theorem zgA (l:List (Int × Xq)) (k j:Int) (v):Qu (l++ [(k,v)]) j=(Qu l j).or (if j=k then Xa v else Xb):=by
 induction l with
 | nil=>rfl
 | cons p l a=>
  simp only[List.cons_append,Qu]
  split
  ·rfl
  exact a
theorem Wks.no {w:Xn} {n:Int} {l:List (Int × Xq)} (h:Wks w0 w B n l):Qu l (n+1)=Xb:=by
 have:=h.dom (n+1);rw[decide_eq_false (by omega)]at this
 simpa using this
theorem qS.beside {w:Xn} {k:Int} {v:Xq} {l:List (Int × Xq)} (a:qS w k v) (b:zdW w B l) (g:w.grownBy w' (Xa B)):qS w' k v:=by
 obtain⟨m,n,p,q,r,s,t,u,z,c,d,f,h,i,j⟩:=a;exact⟨fun e=>(m e).imp fun _ x=>⟨x.1,x.2.beside g fun y a=>by cases a;exact J3 x.2 b⟩,fun e=>(n e).imp fun _ x=>⟨x.1,x.2.beside g fun y a=>by cases a;exact J3 x.2 b⟩,fun e=>(p e).imp fun _ x=>⟨x.1,x.2.beside g fun y a=>by cases a;exact J3 x.2 b⟩,fun e=>(q e).imp fun _ x=>⟨x.1,x.2.beside g fun y a=>by cases a;exact J3 x.2 b⟩,fun e=>(r e).imp fun _ x=>⟨x.1,x.2.beside g fun y a=>by cases a;exact J3 x.2 b⟩,fun e=>(s e).imp fun _ x=>⟨x.1,x.2.beside g fun y a=>by cases a;exact J3 x.2 b⟩,fun e=>(t e).imp fun _ x=>⟨x.1,x.2.beside g fun y a=>by cases a;exact J3 x.2 b⟩,u,fun e=>(z e).imp fun _ x=>⟨x.1,x.2.beside g fun y a=>by cases a;exact J3 x.2 b⟩,fun e=>(c e).imp fun _ x=>⟨x.1,x.2.beside g fun y a=>by cases a;exact J3 x.2 b⟩,fun e=>(d e).imp fun _ x=>⟨x.1,x.2.beside g fun y a=>by cases a;exact J3 x.2 b⟩,fun e=>(f e).imp fun _ x=>⟨x.1,x.2.beside g fun y a=>by cases a;exact J3 x.2 b⟩,h,i,j⟩
theorem Wks.put {w:Xn} {n:Int} {l:List (Int × Xq)} {v:Xq} (h:Wks w0 w B n l) (c:0<=n) (a:w0.heap.size<=B) (d:qS w (n+1) v) (b:zdW w' B (l++ [(n+1,v)])) (g:w.grownBy w' (Xa B)):Wks w0 w' B (n+1) (l++ [(n+1,v)]):=by
 refine⟨zd h.gr g a,b,fun j u a=>?_,fun j=>?_⟩
 ·rw[zgA]at a
  cases e:Qu l j with
  | some c=>
   rw[e]at a;have b:c=u:=by simpa using a
   subst b;exact(h.all j _ e).beside h.map g
  | none=>
   rw[e,Option.none_or]at a
   by_cases b:j=n+1
   ·rw[kE b]at a;cases a;rw[b];exact d.beside h.map g
   rw[kF b]at a;cases a
 have a:=h.dom j;rw[zgA]
 cases e:Qu l j with
 | some c=>
  rw[e]at a;have:=of_decide_eq_true a.symm;exact(decide_eq_true (by omega)).symm
 | none=>
  rw[e]at a;have:=of_decide_eq_false a.symm;rw[Option.none_or]
  by_cases b:j=n+1
  ·rw[kE b];exact(decide_eq_true (by omega)).symm
  rw[kF b];exact(decide_eq_false (by omega)).symm
theorem zlS (w):Xp prog 22 #[] w fun e w'=>(∃(B:Nat) (l:List (Int × Xq)),e= Xl (.map (Xa B))/\zdW w' B l/\(∀k v,Qu l k=Xa v->qS w' k v)/\∀k,(Qu l k).isSome=decide (1<=k/\k<=15))/\zb w w':=by
 obtain⟨b,c⟩:=kA w.heap.size;obtain⟨h,a⟩:=kB (w.alloc (.map #[] 0));have d:=@run_makeMap prog;have f:Xo (w.heap.size<=b):=dD<|by rw[c.out];exact nR _
 obtain⟨i,j⟩:∃l,Xo (Wks w h b 0 l):=⟨[],show Wks _ _ _ _ _ from⟨by rw[<-a];exact za _ _,by rw[<-a,<-c.out];exact zdW.made w,(fun _ _ d=>nomatch d),fun k=>(decide_eq_false (by omega)).symm⟩⟩
 go_enter func22,ntmps22
 go_wp2_with fail;rw[c.out];try rw[a]
 refine(q9 _ _).mono ?_;rintro r w' ⟨rfl,c⟩;rw[c];obtain⟨A,a⟩:=kB (h.alloc (Xk #[.func (.func 35) #[] #[]] 80));obtain⟨g,d⟩:=kA h.heap.size;have X:Xo (qS A 1 (.func (.func 73) #[] #[Xj (Xa ⟨g,0,Xb⟩)])):=dD<|qS.proc rfl (by rw[<-a];exact zn.top _ [.func (.func 35) #[] #[]] _ d.symm)
 have K:Xo (Wks w A b 0 i):=dD<|j.grew (by rw[<-a];exact za _ _)
 rw[a,d.out]
 go_wp2_with (refine zH rfl underlying3 underlying82 (.tmp 1) (.const (I6 1)) (.tmp 2) rfl b i K.map 1 (.func (.func 73) #[] #[Xj (Xa ⟨g,0,Xb⟩)]) rfl rfl rfl K.no ?_)
 intro j i h;obtain⟨m,n⟩:∃l,Xo (Wks w j b 1 l):=⟨_,K.put (by omega) f X i h⟩
 go_wp2_with fail;refine(q9 _ _).mono ?_;rintro r w' ⟨rfl,c⟩;rw[c];obtain⟨A,a⟩:=kB (j.alloc (Xk #[.func (.func 36) #[] #[]] 80));obtain⟨g,d⟩:=kA j.heap.size;have X:Xo (qS A 2 (.func (.func 73) #[] #[Xj (Xa ⟨g,0,Xb⟩)])):=dD<|qS.proc rfl (by rw[<-a];exact zn.top _ [.func (.func 36) #[] #[]] _ d.symm)
 have K:Xo (Wks w A b 1 m):=dD<|n.grew (by rw[<-a];exact za _ _)
 rw[a,d.out]
 go_wp2_with (refine zH rfl underlying3 underlying82 (.tmp 1) (.const (I6 2)) (.tmp 3) rfl b m K.map 2 (.func (.func 73) #[] #[Xj (Xa ⟨g,0,Xb⟩)]) rfl rfl rfl K.no ?_)
 intro j i h;obtain⟨m,n⟩:∃l,Xo (Wks w j b 2 l):=⟨_,K.put (by omega) f X i h⟩
 go_wp2_with fail;refine(q9 _ _).mono ?_;rintro r w' ⟨rfl,c⟩;rw[c];obtain⟨A,a⟩:=kB (j.alloc (Xk #[.func (.func 37) #[] #[]] 80));obtain⟨g,d⟩:=kA j.heap.size;have X:Xo (qS A 3 (.func (.func 73) #[] #[Xj (Xa ⟨g,0,Xb⟩)])):=dD<|qS.proc rfl (by rw[<-a];exact zn.top _ [.func (.func 37) #[] #[]] _ d.symm)
 have K:Xo (Wks w A b 2 m):=dD<|n.grew (by rw[<-a];exact za _ _)
 rw[a,d.out]
 go_wp2_with (refine zH rfl underlying3 underlying82 (.tmp 1) (.const (I6 3)) (.tmp 4) rfl b m K.map 3 (.func (.func 73) #[] #[Xj (Xa ⟨g,0,Xb⟩)]) rfl rfl rfl K.no ?_)
 intro j i h;obtain⟨m,n⟩:∃l,Xo (Wks w j b 3 l):=⟨_,K.put (by omega) f X i h⟩
 go_wp2_with fail;refine(q9 _ _).mono ?_;rintro r w' ⟨rfl,c⟩;rw[c];obtain⟨A,a⟩:=kB (j.alloc (Xk #[.func (.func 38) #[] #[]] 80));obtain⟨g,d⟩:=kA j.heap.size;have X:Xo (qS A 4 (.func (.func 73) #[] #[Xj (Xa ⟨g,0,Xb⟩)])):=dD<|qS.proc rfl (by rw[<-a];exact zn.top _ [.func (.func 38) #[] #[]] _ d.symm)
 have K:Xo (Wks w A b 3 m):=dD<|n.grew (by rw[<-a];exact za _ _)
 rw[a,d.out]
 go_wp2_with (refine zH rfl underlying3 underlying82 (.tmp 1) (.const (I6 4)) (.tmp 5) rfl b m K.map 4 (.func (.func 73) #[] #[Xj (Xa ⟨g,0,Xb⟩)]) rfl rfl rfl K.no ?_)
 intro j i h;obtain⟨m,n⟩:∃l,Xo (Wks w j b 4 l):=⟨_,K.put (by omega) f X i h⟩
 go_wp2_with fail;refine(q9 _ _).mono ?_;rintro r w' ⟨rfl,c⟩;rw[c];obtain⟨A,a⟩:=kB (j.alloc (Xk #[.func (.func 39) #[] #[]] 80));obtain⟨g,d⟩:=kA j.heap.size;have X:Xo (qS A 5 (.func (.func 73) #[] #[Xj (Xa ⟨g,0,Xb⟩)])):=dD<|qS.proc rfl (by rw[<-a];exact zn.top _ [.func (.func 39) #[] #[]] _ d.symm)
 have K:Xo (Wks w A b 4 m):=dD<|n.grew (by rw[<-a];exact za _ _)
 rw[a,d.out]
 go_wp2_with (refine zH rfl underlying3 underlying82 (.tmp 1) (.const (I6 5)) (.tmp 6) rfl b m K.map 5 (.func (.func 73) #[] #[Xj (Xa ⟨g,0,Xb⟩)]) rfl rfl rfl K.no ?_)
 intro j i h;obtain⟨m,n⟩:∃l,Xo (Wks w j b 5 l):=⟨_,K.put (by omega) f X i h⟩
 go_wp2_with fail;refine(q9 _ _).mono ?_;rintro r w' ⟨rfl,c⟩;rw[c];obtain⟨A,a⟩:=kB (j.alloc (Xk #[.func (.func 40) #[] #[]] 80));obtain⟨g,d⟩:=kA j.heap.size;have X:Xo (qS A 6 (.func (.func 73) #[] #[Xj (Xa ⟨g,0,Xb⟩)])):=dD<|qS.proc rfl (by rw[<-a];exact zn.top _ [.func (.func 40) #[] #[]] _ d.symm)
 have K:Xo (Wks w A b 5 m):=dD<|n.grew (by rw[<-a];exact za _ _)
 rw[a,d.out]
 go_wp2_with (refine zH rfl underlying3 underlying82 (.tmp 1) (.const (I6 6)) (.tmp 7) rfl b m K.map 6 (.func (.func 73) #[] #[Xj (Xa ⟨g,0,Xb⟩)]) rfl rfl rfl K.no ?_)
 intro j i h;obtain⟨m,n⟩:∃l,Xo (Wks w j b 6 l):=⟨_,K.put (by omega) f X i h⟩
 go_wp2_with fail;refine(q9 _ _).mono ?_;rintro r w' ⟨rfl,c⟩;rw[c];obtain⟨A,a⟩:=kB (j.alloc (Xk #[.func (.func 41) #[] #[]] 80));obtain⟨g,d⟩:=kA j.heap.size;have X:Xo (qS A 7 (.func (.func 73) #[] #[Xj (Xa ⟨g,0,Xb⟩)])):=dD<|qS.proc rfl (by rw[<-a];exact zn.top _ [.func (.func 41) #[] #[]] _ d.symm)
 have K:Xo (Wks w A b 6 m):=dD<|n.grew (by rw[<-a];exact za _ _)
 rw[a,d.out]
 go_wp2_with (refine zH rfl underlying3 underlying82 (.tmp 1) (.const (I6 7)) (.tmp 8) rfl b m K.map 7 (.func (.func 73) #[] #[Xj (Xa ⟨g,0,Xb⟩)]) rfl rfl rfl K.no ?_)
 intro m i h;obtain⟨n,j⟩:∃l,Xo (Wks w m b 7 l):=⟨_,K.put (by omega) f X i h⟩
 go_wp2_with (refine zH rfl underlying3 underlying82 (.tmp 1) (.const (I6 8)) (.func 42) rfl b n j.map 8 (.func (.func 42) #[] #[]) rfl rfl rfl j.no ?_)
 intro m i h;obtain⟨n,p⟩:∃l,Xo (Wks w m b 8 l):=⟨_,j.put (by omega) f (qS.own rfl) i h⟩
 go_wp2_with fail;refine(zaa _ _).mono ?_;rintro r w' ⟨rfl,c⟩;rw[c];obtain⟨A,a⟩:=kB (m.alloc (Xk #[.func (.func 44) #[] #[]] 80));obtain⟨g,d⟩:=kA m.heap.size;have X:Xo (qS A 9 (.func (.func 88) #[] #[Xj (Xa ⟨g,0,Xb⟩)])):=dD<|qS.file rfl (by rw[<-a];exact zn.top _ [.func (.func 44) #[] #[]] _ d.symm)
 have K:Xo (Wks w A b 8 n):=dD<|p.grew (by rw[<-a];exact za _ _)
 rw[a,d.out]
 go_wp2_with (refine zH rfl underlying3 underlying82 (.tmp 1) (.const (I6 9)) (.tmp 9) rfl b n K.map 9 (.func (.func 88) #[] #[Xj (Xa ⟨g,0,Xb⟩)]) rfl rfl rfl K.no ?_)
 intro j i h;obtain⟨m,n⟩:∃l,Xo (Wks w j b 9 l):=⟨_,K.put (by omega) f X i h⟩
 go_wp2_with fail;refine(zaa _ _).mono ?_;rintro r w' ⟨rfl,c⟩;rw[c];obtain⟨A,a⟩:=kB (j.alloc (Xk #[.func (.func 45) #[] #[]] 80));obtain⟨g,d⟩:=kA j.heap.size;have X:Xo (qS A 10 (.func (.func 88) #[] #[Xj (Xa ⟨g,0,Xb⟩)])):=dD<|qS.file rfl (by rw[<-a];exact zn.top _ [.func (.func 45) #[] #[]] _ d.symm)
 have K:Xo (Wks w A b 9 m):=dD<|n.grew (by rw[<-a];exact za _ _)
 rw[a,d.out]
 go_wp2_with (refine zH rfl underlying3 underlying82 (.tmp 1) (.const (I6 10)) (.tmp 10) rfl b m K.map 10 (.func (.func 88) #[] #[Xj (Xa ⟨g,0,Xb⟩)]) rfl rfl rfl K.no ?_)
 intro j i h;obtain⟨m,n⟩:∃l,Xo (Wks w j b 10 l):=⟨_,K.put (by omega) f X i h⟩
 go_wp2_with fail;refine(zaa _ _).mono ?_;rintro r w' ⟨rfl,c⟩;rw[c];obtain⟨A,a⟩:=kB (j.alloc (Xk #[.func (.func 46) #[] #[]] 80));obtain⟨g,d⟩:=kA j.heap.size;have X:Xo (qS A 11 (.func (.func 88) #[] #[Xj (Xa ⟨g,0,Xb⟩)])):=dD<|qS.file rfl (by rw[<-a];exact zn.top _ [.func (.func 46) #[] #[]] _ d.symm)
 have K:Xo (Wks w A b 10 m):=dD<|n.grew (by rw[<-a];exact za _ _)
 rw[a,d.out]
 go_wp2_with (refine zH rfl underlying3 underlying82 (.tmp 1) (.const (I6 11)) (.tmp 11) rfl b m K.map 11 (.func (.func 88) #[] #[Xj (Xa ⟨g,0,Xb⟩)]) rfl rfl rfl K.no ?_)
 intro j i h;obtain⟨m,n⟩:∃l,Xo (Wks w j b 11 l):=⟨_,K.put (by omega) f X i h⟩
 go_wp2_with fail;refine(zaa _ _).mono ?_;rintro r w' ⟨rfl,c⟩;rw[c];obtain⟨A,a⟩:=kB (j.alloc (Xk #[.func (.func 47) #[] #[]] 80));obtain⟨g,d⟩:=kA j.heap.size;have X:Xo (qS A 12 (.func (.func 88) #[] #[Xj (Xa ⟨g,0,Xb⟩)])):=dD<|qS.file rfl (by rw[<-a];exact zn.top _ [.func (.func 47) #[] #[]] _ d.symm)
 have K:Xo (Wks w A b 11 m):=dD<|n.grew (by rw[<-a];exact za _ _)
 rw[a,d.out]
 go_wp2_with (refine zH rfl underlying3 underlying82 (.tmp 1) (.const (I6 12)) (.tmp 12) rfl b m K.map 12 (.func (.func 88) #[] #[Xj (Xa ⟨g,0,Xb⟩)]) rfl rfl rfl K.no ?_)
 intro c i h;obtain⟨d,a⟩:∃l,Xo (Wks w c b 12 l):=⟨_,K.put (by omega) f X i h⟩
 go_wp2_with (refine zH rfl underlying3 underlying82 (.tmp 1) (.const (I6 13)) (.func 48) rfl b d a.map 13 (.func (.func 48) #[] #[]) rfl rfl rfl a.no ?_)
 intro d i h;obtain⟨g,c⟩:∃l,Xo (Wks w d b 13 l):=⟨_,a.put (by omega) f (qS.own rfl) i h⟩
 go_wp2_with (refine zH rfl underlying3 underlying82 (.tmp 1) (.const (I6 14)) (.func 49) rfl b g c.map 14 (.func (.func 49) #[] #[]) rfl rfl rfl c.no ?_)
 intro a i h;obtain⟨g,d⟩:∃l,Xo (Wks w a b 14 l):=⟨_,c.put (by omega) f (qS.own rfl) i h⟩
 go_wp2_with (refine zH rfl underlying3 underlying82 (.tmp 1) (.const (I6 15)) (.func 50) rfl b g d.map 15 (.func (.func 50) #[] #[]) rfl rfl rfl d.no ?_)
 intro c i h;obtain⟨g,a⟩:∃l,Xo (Wks w c b 15 l):=⟨_,d.put (by omega) f (qS.own rfl) i h⟩
 go_wp2;go_ret;exact⟨⟨b,g,rfl,a.map,a.all,a.dom⟩,a.gr⟩
theorem zi6 (h:0<=z) (o:Oper) (a:Act) (x w) (c:o.op= .binOp .rem 3 x (.const (I6 8)) 3) (d:a.eval x=I6 z):(execOp a.eval o).run prog w= .ok (.value (I6 (z % 8))) w:=by
 have b:a.eval (.const (I6 8))=I6 8:=rfl;simp only[execOp,c,d,b]
 go_simp
 exact Int.tmod_eq_emod_of_nonneg h
theorem zoh {n c k:Nat} (o:Oper) (a:Act) (x y w) (d:o.op= .indexAddr 30 x y) (e:a.eval x= O (Xa ⟨g,0,Xb⟩) n c) (f:a.eval y=I6 (k:Int)) (b:k<n):(execOp a.eval o).run prog w= .ok (.value (Xj (Xa ⟨g,k*13,Xb⟩))) w:=by
 have b:(k:Int)< (n:Int):=by omega
 simp only[execOp,d,e,f]
 go_simp
def ziX (m:Ma) (BF:Nat->Nat->Ar->Pg->Bool->Bool × Nat × Ma) (c:Cl) (er n:Int) (l:List Int) (m':Ma):Prop:=
 (n=0/\l=[]/\zqT m BF c c.n Xd er)\/(er=0/\n=c.n/\∃(kk:Nat) (fr:Fr),zqS m BF c c.n Xd kk m' fr/\l=((pgL fr.p).drop (c.pt % 8).toNat).take c.n.toNat)
theorem zki {n:Int} {b:Option Addr} {d c:Nat} (o:Oper) (a:Act) (x y w) (e:o.op= .build 54 #[(1,x),(2,y)]) (f:a.eval x=I6 n) (g:a.eval y= O b d c):(execOp a.eval o).run prog w= .ok (.value (Xi #[I6 0,I6 n,O b d c])) w:=by
 simp only[execOp,e,List.map_toArray,mP,List.map_nil,f,g]
 go_simp
theorem zmK {w:Xn} {p:Nat} (h:ChW w0 p w V m) (c:Cl) (BF:Nat->Nat->Ar->Pg->Bool->Bool × Nat × Ma) (i:-9223372036854775808<=c.pt) (g:c.pt<=9223372036854775807) (l:-9223372036854775808<=c.n) (r:c.n<=9223372036854775807)
  (A:∀W,zb w W->Xp prog 140 #[Xi (mL V m).toArray,I6 c.proc,I6 (c.pt / 8),Xh Xd] W fun e w'=>((∃n:Int,e= Xl (Xm #[Xi zU.toArray,I6 0,I6 n])/\jn m BF c.proc (c.pt / 8) Xd n)\/(∃(V':MaV) (k b:Nat) (m':Ma),e= Xl (Xm #[Xi (mL V' m').toArray,I6 (k:Int),I6 0])/\zcC m BF c.proc (c.pt / 8) Xd k m'/\ChW W b w' V' m'))/\zb W w')
  (z:∀(q:Nat) (m':Ma),zcC m BF c.proc (c.pt / 8) Xd q m'->∃fr:Fr,m'.fs[q]? =Xa fr/\(fr.f=-1\/∃(H:Nat) (a:Fl),fr.f=(H:Int)/\m'.fl[H]? =Xa a)/\0<=fr.x/\fr.x<1000):
  Xp prog 38 #[Xj (Xa ⟨p,0,Xb⟩),Xi #[I6 c.kind,I6 c.proc,I6 c.pt,I6 c.n,I6 c.file,I6 c.base,Xh c.rd,Xh c.wr,Xh c.sh,c.dv.x]] w fun e w'=>ZE (ziX m BF c) w0 p w e w':=by
 have s:=dD h;have a:Xo (p<w.heap.size):=h.dlt p (.inl rfl);obtain⟨b,K⟩:=kA w.heap.size;obtain⟨j,d⟩:=kB ((w.alloc (Xk #[I6 c.kind,I6 c.proc,I6 c.pt,I6 c.n,I6 c.file,I6 c.base,Xh c.rd,Xh c.wr,Xh c.sh,c.dv.x] 25)).alloc (Xk #[I6 0,I6 0,eS] 54));have t:=gD2 d
 have y:Xo (zn j b 25 [I6 c.kind,I6 c.proc,I6 c.pt,I6 c.n,I6 c.file,I6 c.base,Xh c.rd,Xh c.wr,Xh c.sh,c.dv.x]):=dD<|by rw[<-d];exact(zn.top w [I6 c.kind,I6 c.proc,I6 c.pt,I6 c.n,I6 c.file,I6 c.base,Xh c.rd,Xh c.wr,Xh c.sh,c.dv.x] _ K.symm).grew (za _ _)
 have A1:Xo (zn j (b+1) 54 [I6 0,I6 0,eS]):=dD<|by rw[<-d];exact zn.top _ [I6 0,I6 0,eS] _ (by have:=K.out;simp;omega)
 have v:=dD A1.box.lt;have j:Xo (p<b):=show _<_ by have:=a.out;have:=K.out;omega
 have a4:Xo (w0.heap.size<=b):=dD<|by have:=s.lo;have:=j.out;omega
 have u:=dD d;have s:=zjn (h.grew t) c c.n Xd BF i g l r (fun W a=>A W (t.trans a)) z
 have B:=dD g;clear d h A z i g;clear l r;have d:=y.box.c 3 rfl
 go_enter func38,ntmps38
 go_upto_region 1 with fail;rw[u.out,K.out]
 go_wp2_with (first | refine zo rfl 25 (.tmp 3) rfl b rfl y.box underlying25 rfl (by kernel_rfl) ?_ | (go_at_call 81;refine s.mono ?_))
 clear s d;rintro e g ⟨k,n,rfl,d,i,E⟩;have A2:Xo (zn g (b+1) 54 [I6 0,I6 0,eS]):=dD<|A1.outD d (by have:=j.out;omega)
 have Q:Xo (zn g b 25 [I6 c.kind,I6 c.proc,I6 c.pt,I6 c.n,I6 c.file,I6 c.base,Xh c.rd,Xh c.wr,Xh c.sh,c.dv.x]):=dD<|y.outD d (by have:=j.out;omega)
 have a3:=dD i;have a2:Xo (zm (fun k=>k=p) w g):=show zm _ _ _ from(zm.grew t).trans d
 clear d i
 rcases E with i|⟨rfl,q,m',fr,V',B,rfl,u,r,A,d⟩
 ·skip
  have l:=i.ne;have s:(n != 0)=Xc:=by simp[l]
  have s:=jP n g;have y:Xo _:=show zqT _ _ _ _ _ _ from i
  have z:=dD l;clear i l;go_wp2_with fail;refine s.mono ?_;rintro e i ⟨rfl,i⟩;have l:=dD (A2.grew i);have C:=dD (a3.trans i);have F:=dD i;clear s i;unfold Qi noS
  go_wp2_with (refine zj rfl 54 (.tmp 4) (.tmp 18) rfl (b+1) rfl [I6 n,I6 0,eS] rfl l rfl (by kernel_rfl) (by simp[Value.oneCell']) ?_)
  intro n l i _;have D:Xo (zb w0 n):=dD<|zd C i (by have:=a4.out;omega)
  have s:=dD l;have C:Xo (zm (fun k=>k=p) w n):=show zm _ _ _ from(a2.trans (zm.grew F)).beyond i (by have:=K.out;omega)
  clear l i;go_wp2;refine bodyPost_ret (zG rfl _ rfl s.box underlying54 rfl (by kernel_rfl)) rfl (ZE.err (V:=V) (m:=m) z (.inl ⟨rfl,rfl,y⟩) C D)
 have a7:=dD u;have a5:=dD r;have a1:=dD d;have L:Xo (b+1<B):=show _<_ by have:=v.out;omega
 have a0:=dD<|nT (bS t) A
 have N:=dD u.2.2.1;have i:=dD<|of_decide_eq_true u.1
 clear u r A d;obtain⟨n,X⟩:∃n:Nat,Xo (c.pt % 8=(n:Int)):=⟨(c.pt % 8).toNat,show _=_ by omega⟩
 obtain⟨r,Y⟩:∃r:Nat,Xo (c.n=(r:Int)):=⟨c.n.toNat,show _=_ by have:=i.2.1;omega⟩
 have P:Xo (n<8/\n+r<=8):=dD<|by have R:=i.out;have T:=X.out;have s:=Y.out;rw[T,s]at R;omega
 have Z:Xo (∀(t:Oper) (s:Act) (x:Operand) (w:Xn),t.op= .binOp .rem 3 x (.const (I6 8)) 3->s.eval x=I6 c.pt->(execOp s.eval t).run prog w= .ok (.value (I6 (n:Int))) w):=show∀(t:Oper) (s:Act) (x:Operand) (w:Xn),_ from fun t s x w R T=>by rw[<-X.out];exact zi6 i.1 t s x w R T
 have s:=(gS.1 N).1;obtain⟨C,U,i⟩:=a1.fs.formS (by omega)
 have M:Xo (∀W,zm (fun k=>k=b+1) g W->W.cell? ⟨p,0,Xb⟩=Xa (O (Xa ⟨C,0,Xb⟩) m'.fs.length U)):=dD<|fun W a=>by rw[<-i];exact(a5.outD a (by have:=j.out;omega)).box.c 0 rfl
 have F:Xo (∀W,zm (fun k=>k=b+1) g W->zc Qy B W (O (Xa ⟨C,0,Xb⟩) m'.fs.length U) m'.fs):=dD<|fun W a=>by rw[<-i];exact(a1.out.out (a.wide fun k E=>by have E:k=b+1:=E;have:=L.out;omega)).fs
 have G:Xo (∀W,zm (fun k=>k=b+1) g W->Box W b [I6 c.kind,I6 c.proc,I6 c.pt,I6 c.n,I6 c.file,I6 c.base,Xh c.rd,Xh c.wr,Xh c.sh,c.dv.x]):=dD<|fun W a=>(Q.outD a (by omega)).box
 have Q:Xo (q<m'.fs.length):=s;obtain⟨a6,t⟩:=kA m'.fs.length;rw[t.out]at F M Q;clear i s;obtain⟨⟨s,t,u,y,l,z,A,B⟩,aa,ab,a8,f,x⟩:=fr;have I:Xo (∀W,zm (fun k=>k=b+1) g W->W.rangeAt C (q*13) [U8 s,U8 t,U8 u,U8 y,U8 l,U8 z,U8 A,U8 B]):=show∀W,_ from fun W a H v D=>(F W a).range1 N H v (by
  have i:=(gS.1 D).1
  show([U8 s,U8 t,U8 u,U8 y,U8 l,U8 z,U8 A,U8 B]++ [I6 aa,Xh ab,Xh a8,I6 f,I6 x])[H]? =Xa v
  rw[Xv i];exact D)
 go_upto_region 4 with fail;refine wp_region_held (S:=fun W=>zm (fun k=>k=b+1) g W) zZ ?_
 show wpAnyH _ _ _ _ _ 20 (Xy 20 Xd) _ g.drew
 have F:zb g g.drew:=(gW _)
 have i:zm (fun k=>k=b+1) g g.drew:=zm.grew F
 refine qQ 0 (Xa 19) (Xj (Xa ⟨b,3,Xb⟩)) i ?_
 simp only[Xs,sB,sS,sZ];refine jl 1 (Xa 20) (I6 c.n) rfl rfl (by kernel_rfl) (by kernel_rfl) (by kernel_rfl) (fun _ _ _ h=>h) (.inl ⟨rfl,fun W a=>j4 _ (.tmp 19) rfl ⟨b,3,Xb⟩ rfl (I6 c.n) ((G W a).c 3 rfl) underlying3 rfl⟩) i ?_
 simp only[Xs,sB,sS,sZ];refine qQ 2 (Xa 21) (Xj (Xa ⟨p,0,Xb⟩)) i ?_
 simp only[Xs,sB,sS,sZ];refine qQ 3 (Xa 22) (Xj (Xa ⟨p,0,Xb⟩)) i ?_
 simp only[Xs,sB,sS,sZ];refine qQ 4 (Xa 23) (Xj (Xa ⟨p,0,Xb⟩)) i ?_
 simp only[Xs,sB,sS,sZ];refine qQ 5 (Xa 24) (Xj (Xa ⟨p,0,Xb⟩)) i ?_
 simp only[Xs,sB,sS,sZ];refine qQ 6 (Xa 25) (Xj (Xa ⟨p,0,Xb⟩)) i ?_
 simp only[Xs,sB,sS,sZ];refine jl 7 (Xa 26) (O (Xa ⟨C,0,Xb⟩) a6 U) rfl rfl (by kernel_rfl) (by kernel_rfl) (by kernel_rfl) (fun _ _ _ h=>h) (.inl ⟨rfl,fun W a=>j4 _ (.tmp 25) rfl ⟨p,0,Xb⟩ rfl (O (Xa ⟨C,0,Xb⟩) a6 U) (M W a) underlying30 rfl⟩) i ?_
 simp only[Xs,sB,sS,sZ];refine qQ 8 (Xa 27) (I6 (q:Int)) i ?_
 simp only[Xs,sB,sS,sZ];refine jl 9 (Xa 28) (Xj (Xa ⟨C,q*13,Xb⟩)) rfl rfl (by kernel_rfl) (by kernel_rfl) (by kernel_rfl) (fun _ _ _ h=>h) (.inl ⟨rfl,fun W _=>zoh _ _ _ _ W rfl rfl rfl Q⟩) i ?_
 simp only[Xs,sB,sS,sZ];refine qQ 10 (Xa 29) (Xj (Xa ⟨C,q*13,Xb⟩)) i ?_
 simp only[Xs,sB,sS,sZ];refine jl 11 (Xa 30) (Xi #[U8 s,U8 t,U8 u,U8 y,U8 l,U8 z,U8 A,U8 B]) rfl rfl (by kernel_rfl) (by kernel_rfl) (by kernel_rfl) (fun _ _ _ h=>h) (yieldsIf_load_mid rfl 91 (.tmp 29) rfl C (q*13) rfl [U8 s,U8 t,U8 u,U8 y,U8 l,U8 z,U8 A,U8 B] _ (fun W a=>I.out W a) underlying91 rfl (by kernel_rfl)) i ?_
 simp only[Xs,sB,sS,sZ];refine qQ 12 (Xa 31) (Xj (Xa ⟨b,2,Xb⟩)) i ?_
 simp only[Xs,sB,sS,sZ];refine jl 13 (Xa 32) (I6 c.pt) rfl rfl (by kernel_rfl) (by kernel_rfl) (by kernel_rfl) (fun _ _ _ h=>h) (.inl ⟨rfl,fun W a=>j4 _ (.tmp 31) rfl ⟨b,2,Xb⟩ rfl (I6 c.pt) ((G W a).c 2 rfl) underlying3 rfl⟩) i ?_
 simp only[Xs,sB,sS,sZ];refine jl 14 (Xa 33) (I6 (n:Int)) rfl rfl (by kernel_rfl) (by kernel_rfl) (by kernel_rfl) (fun _ _ _ h=>h) (.inl ⟨rfl,fun W _=>Z.out _ _ _ W rfl rfl⟩) i ?_
 simp only[Xs,sB,sS,sZ];refine qQ 15 (Xa 34) (Xj (Xa ⟨b,3,Xb⟩)) i ?_
 simp only[Xs,sB,sS,sZ];refine jl 16 (Xa 35) (I6 (r:Int)) rfl rfl (by kernel_rfl) (by kernel_rfl) (by kernel_rfl) (fun _ _ _ h=>h) (.inl ⟨rfl,fun W a=>j4 _ (.tmp 34) rfl ⟨b,3,Xb⟩ rfl (I6 (r:Int)) (by rw[<-Y.out];exact(G W a).c 3 rfl) underlying3 rfl⟩) i ?_
 simp only[Xs,sB,sS,sZ];refine wpAnyH_all (rs:=[17]) (by kernel_rfl) (by simp) ?_
 intro H D;simp only[mC,nM,or_false]at D;subst D;refine qk (Xa 36) (fun v w'=>∃C:Sli,v=C.x/\zl byE w' v (([s,t,u,y,l,z,A,B].drop n).take r)/\(zc byE g.heap.size w' v (([s,t,u,y,l,z,A,B].drop n).take r))/\zb g w') rfl rfl rfl (zR.call [Xi #[U8 s,U8 t,U8 u,U8 y,U8 l,U8 z,U8 A,U8 B],I6 (n:Int),I6 (r:Int)] rfl func82 rfl rfl rfl ((ze9 [s,t,u,y,l,z,A,B] n r g.drew rfl P.1 P.2).mono ?_)) ?_
 ·rintro e w' ⟨v,rfl,i,t⟩;obtain⟨l,s,rfl⟩:=i.form;exact⟨_,rfl,⟨l,_,s⟩,rfl,i.at,i.base (bS F),F.trans t⟩
 rintro v u ⟨C,rfl,s,d,l⟩;have i:zm (fun k=>k=b+1) g u:=zm.grew l
 refine⟨i,?_⟩;simp only[Xs,sB,sS,sZ];refine jl 18 (Xa 37) (Xi #[I6 0,I6 c.n,C.x]) rfl rfl (by kernel_rfl) (by kernel_rfl) (by kernel_rfl) (fun _ _ _ h=>h) (.inl ⟨rfl,fun W _=>zki _ _ _ _ W rfl rfl rfl⟩) i ?_
 simp only[Xs,sB,sS,sZ];refine wpAnyH_all (rs:=[19]) (by kernel_rfl) (by simp) ?_
 intro H D;simp only[mC,nM,or_false]at D;subst D;refine qk Xb (fun v w'=>zn w' (b+1) 54 [I6 0,I6 c.n,C.x]/\u.grownBy w' (Xa (b+1))) rfl rfl rfl (zR.storeAllT 54 (.tmp 4) (.tmp 37) rfl (b+1) rfl [I6 0,I6 c.n,C.x] rfl (A2.grew l) rfl (by kernel_rfl) (by simp[Value.oneCell']) (fun w' b h u=>⟨b,h⟩)) ?_
 rintro v v ⟨u,b⟩;have h:Xo (ZE (ziX m BF c) w0 p w (Xl (Qi 0 c.n C)) v):=dD<|by
  have v:(c.pt % 8).toNat=n:=by rw[X.out];rfl
  have y:c.n.toNat=r:=by rw[Y.out];rfl
  have n:=d.grown b (fun k E e=>by cases e;have R:=(d.lt _ E).1;have T:=A2.box.lt;omega)
  have r:=(a1.grew l).out (zm.grown b L);refine⟨0,c.n,C,_,V',m',rfl,.inr ⟨rfl,rfl,q,_,a7,rfl⟩,(a2.trans (zm.grew l)).beyond b (by have:=K.out;omega),zd (a3.trans l) b (by have:=a4.out;omega),fun W a=>?_,fun _=>⟨(a5.grew l).beside b (fun k e=>by cases e;have:=j.out;omega),fun W a=>(r.out (a.wide fun k E=>Xt E a0)).at⟩⟩
  rw[v,y];exact zc.at (base:=g.heap.size) ⟨jh n.1 a (fun g t e=>by have R:=(n.lt g t).1;have e:g<w.heap.size:=e;have T:=a2.size;omega),n.2⟩
 have a:=dD u;refine⟨i.trans (zm.grown b rfl),?_⟩;simp only[Xs];refine wpAnyH_done (by kernel_rfl) ?_ _
 clear u b s d l i;go_wp2;refine bodyPost_ret (zG rfl _ rfl a.box underlying54 rfl (by kernel_rfl)) rfl h.out
theorem zhV {cs vs:List Int} {o:Nat} (h:o+vs.length<=cs.length):(splice cs o vs).length=cs.length:=by
 unfold splice;simp only[lA,Xx,List.length_drop];omega
theorem zmj {a:Act} (w:Xn) (e x) (h:o.op= .load e x) (b c:Nat) (j:a.eval x= Xj (Xa ⟨b,c,Xb⟩)) (vs:List Xq) (f:w.rangeAt b c vs) {d:TypeDesc} (i:Tryz.prog.underlying e=Xa d) (g:d.isRow=Xc) (hi:(Tryz.prog.info? e).map (·.size)=Xa vs.length):(execOp a.eval o).run prog w= .ok (.value (Xi vs.toArray)) w:=by
 have:=run_loadAt_mid (P:=prog) w b c e vs d f i g hi;simp only[execOp,h,j,Yc,this,rA,Sem.run_pure]
def zdR (m:Ma) (BF:Nat->Nat->Ar->Pg->Bool->Bool × Nat × Ma) (c:Cl) (ns:List Int) (er n:Int) (l:List Int) (m'':Ma):Prop:=
 l=[]/\((n=0/\zqT m BF c (c.dv.n:Int) Xc er)\/(er=0/\n=(c.dv.n:Int)/\∃(kk:Nat) (m':Ma) (fr:Fr) (pg:Pg),zqS m BF c (c.dv.n:Int) Xc kk m' fr/\splice (pgL fr.p) (c.pt % 8).toNat ns=pgL pg/\m''={ m' with fs:=m'.fs.set kk { fr with p:=pg } }))
theorem zkJ {w:Xn} {p:Nat} (r:ChW w0 p w V m) (c:Cl) (T) (BF:Nat->Nat->Ar->Pg->Bool->Bool × Nat × Ma) (j:-9223372036854775808<=c.pt) (i:c.pt<=9223372036854775807) (z:zl byE w0 (O c.dv.a c.dv.n c.dv.c) T) (l:(c.dv.n:Int)<=9223372036854775807)
  (B:∀W,zb w W->Xp prog 140 #[Xi #[O V.f.a V.f.n V.f.c,Xe Xf m.hand,O V.s.a V.s.n V.s.c,O V.sb.a V.sb.n V.sb.c,O V.sq.a V.sq.n V.sq.c,O V.db.a V.db.n V.db.c,O V.dq.a V.dq.n V.dq.c,O V.fl.a V.fl.n V.fl.c,Xe Xf m.cnt,O V.ca.a V.ca.n V.ca.c,O V.sp.a V.sp.n V.sp.c],Xe Xf c.proc,Xe Xf (c.pt / 8),Xh Xc] W fun e w'=>((∃n:Int,e= Xl (Xm #[Xi zU.toArray,Xe Xf 0,Xe Xf n])/\jn m BF c.proc (c.pt / 8) Xc n)\/(∃(V':MaV) (k g:Nat) (m':Ma),e= Xl (Xm #[Xi #[O V'.f.a V'.f.n V'.f.c,Xe Xf m'.hand,O V'.s.a V'.s.n V'.s.c,O V'.sb.a V'.sb.n V'.sb.c,O V'.sq.a V'.sq.n V'.sq.c,O V'.db.a V'.db.n V'.db.c,O V'.dq.a V'.dq.n V'.dq.c,O V'.fl.a V'.fl.n V'.fl.c,Xe Xf m'.cnt,O V'.ca.a V'.ca.n V'.ca.c,O V'.sp.a V'.sp.n V'.sp.c],Xe Xf (k:Int),Xe Xf 0])/\zcC m BF c.proc (c.pt / 8) Xc k m'/\ChW W g w' V' m'))/\zb W w')
  (A:∀(d:Nat) (m':Ma),zcC m BF c.proc (c.pt / 8) Xc d m'->∃fr:Fr,m'.fs[d]? =Xa fr/\(fr.f=-1\/∃(a3:Nat) (b:Fl),fr.f=(a3:Int)/\m'.fl[a3]? =Xa b)/\0<=fr.x/\fr.x<1000):
  Xp prog 39 #[Xj (Xa ⟨p,0,Xb⟩),Xi #[Xe Xf c.kind,Xe Xf c.proc,Xe Xf c.pt,Xe Xf c.n,Xe Xf c.file,Xe Xf c.base,Xh c.rd,Xh c.wr,Xh c.sh,O c.dv.a c.dv.n c.dv.c]] w fun e w'=>ZE (zdR m BF c T) w0 p w e w':=by
 have u:=dD r;have b:Xo (p<w.heap.size):=r.dlt p (.inl rfl);obtain⟨g,U⟩:=kA w.heap.size;obtain⟨q,h⟩:=kB ((w.alloc (Xk #[Xe Xf c.kind,Xe Xf c.proc,Xe Xf c.pt,Xe Xf c.n,Xe Xf c.file,Xe Xf c.base,Xh c.rd,Xh c.wr,Xh c.sh,O c.dv.a c.dv.n c.dv.c] 25)).alloc (Xk #[Xe Xf 0,Xe Xf 0,O Xb 0 0] 54));have t:=gD2 h
 have y:Xo (zn q g 25 [Xe Xf c.kind,Xe Xf c.proc,Xe Xf c.pt,Xe Xf c.n,Xe Xf c.file,Xe Xf c.base,Xh c.rd,Xh c.wr,Xh c.sh,O c.dv.a c.dv.n c.dv.c]):=dD<|by rw[<-h];exact(zn.top w [Xe Xf c.kind,Xe Xf c.proc,Xe Xf c.pt,Xe Xf c.n,Xe Xf c.file,Xe Xf c.base,Xh c.rd,Xh c.wr,Xh c.sh,O c.dv.a c.dv.n c.dv.c] _ U.symm).grew (za _ _)
 have A1:Xo (zn q (g+1) 54 [Xe Xf 0,Xe Xf 0,O Xb 0 0]):=dD<|by rw[<-h];exact zn.top _ [Xe Xf 0,Xe Xf 0,O Xb 0 0] _ (by have:=U.out;simp;omega)
 have v:=dD A1.box.lt;have s:Xo (p<g):=show _<_ by have:=b.out;have:=U.out;omega
 have ac:Xo (w0.heap.size<=g):=dD<|by have:=u.lo;have:=s.out;omega
 have u:Xo (_=q):=h;have q:=zjn (r.grew t) c (c.dv.n:Int) Xc BF j i (by omega) l (fun W b=>B W (t.trans b)) A
 have C:=dD i;clear h r B A j i;clear l;have ap:=dD z;have Z:=dD z.n;clear z;have aj:=y.box.c 9 rfl
 go_enter func39,ntmps39
 go_upto_region 1 with fail;rw[u.out,U.out]
 go_wp2_with (first | refine zo rfl 25 (.tmp 3) rfl g rfl y.box underlying25 rfl (by kernel_rfl) ?_ | (go_at_call 81;refine q.mono ?_))
 clear q aj;rintro e C ⟨k,n,rfl,h,i,ai⟩;have A2:Xo (zn C (g+1) 54 [Xe Xf 0,Xe Xf 0,O Xb 0 0]):=dD<|A1.outD h (by have:=s.out;omega)
 have ah:Xo (zn C g 25 [Xe Xf c.kind,Xe Xf c.proc,Xe Xf c.pt,Xe Xf c.n,Xe Xf c.file,Xe Xf c.base,Xh c.rd,Xh c.wr,Xh c.sh,O c.dv.a c.dv.n c.dv.c]):=dD<|y.outD h (by have:=s.out;omega)
 have a8:=dD i;have al:Xo (zm (fun k=>k=p) w C):=show zm _ _ _ from(zm.grew t).trans h
 clear h i
 rcases ai with i|⟨rfl,d,m',fr,V',a6,rfl,u,r,A,h⟩
 ·skip
  have j:=i.ne;have l:(n != 0)=Xc:=by simp[j]
  have q:=jP n C;have y:Xo _:=show zqT _ _ _ _ _ _ from i
  have z:=dD j;clear i j;go_wp2_with fail;refine q.mono ?_;rintro e ar ⟨rfl,l⟩;have i:=dD (A2.grew l);have B:=dD (a8.trans l);have F:=dD l;clear q l;unfold Qi noS
  go_wp2_with (refine zj rfl 54 (.tmp 4) (.tmp 20) rfl (g+1) rfl [Xe Xf n,Xe Xf 0,O Xb 0 0] rfl i rfl (by kernel_rfl) (by simp[Value.oneCell']) ?_)
  intro D i j _;have a9:Xo (zb w0 D):=dD<|zd B j (by have:=ac.out;omega)
  have a7:=dD i;have ag:Xo (zm (fun k=>k=p) w D):=show zm _ _ _ from(al.trans (zm.grew F)).beyond j (by have:=U.out;omega)
  clear i j;go_wp2;refine bodyPost_ret (zG rfl _ rfl a7.box underlying54 rfl (by kernel_rfl)) rfl (ZE.err (V:=V) (m:=m) z ⟨rfl,.inl ⟨rfl,y⟩⟩ ag a9)
 have aq:=dD u;have am:=dD r;have af:=dD h;have q:Xo (g+1<a6):=show _<_ by have:=v.out;omega
 have a1:=dD<|nT (bS t) A
 have R:=dD u.2.2.1;have j:=dD<|of_decide_eq_true u.1
 clear u r A h;obtain⟨n,ab⟩:∃n:Nat,Xo (c.pt % 8=(n:Int)):=⟨(c.pt % 8).toNat,show _=_ by omega⟩
 have S:Xo (n<8/\n+T.length<=8):=dD<|by have X:=j.out;have r:=ab.out;have h:=Z.out;rw[r]at X;omega
 have ad:Xo (∀(h:Oper) (a:Act) (x:Operand) (w:Xn),h.op= .binOp .rem 3 x (.const (Xe Xf 8)) 3->a.eval x= Xe Xf c.pt->(execOp a.eval h).run prog w= .ok (.value (Xe Xf (n:Int))) w):=show∀(h:Oper) (a:Act) (x:Operand) (w:Xn),_ from fun h a x w X r=>by rw[<-ab.out];exact zi6 j.1 h a x w X r
 have u:=(gS.1 R).1;obtain⟨h,r,j⟩:=af.fs.formS (by omega)
 have an:C.cell? ⟨p,0,Xb⟩=Xa (O (Xa ⟨h,0,Xb⟩) m'.fs.length r):=by rw[<-j];exact am.box.c 0 rfl
 have B:Xo (zc Qy a6 C (O (Xa ⟨h,0,Xb⟩) m'.fs.length r) m'.fs):=dD<|by rw[<-j];exact af.fs
 have a0:Xo (O V'.f.a V'.f.n V'.f.c= O (Xa ⟨h,0,Xb⟩) m'.fs.length r):=j;have aa:Xo (oB V'.f h):=show oB _ _ by unfold oB;rw[j];rfl
 have r:=dD<|(B.lt h rfl).1
 have F:(d:Int)< (m'.fs.length:Int):=by omega
 obtain⟨t,t⟩:=kA m'.fs.length;rw[t.out]at B an F a0;clear j u;obtain⟨⟨t,u,v,y,i,j,z,A⟩,a4,Y,a2,f,x⟩:=fr;obtain⟨G,H,K,L,M,N,P,Q,a5⟩:=zfh (splice [t,u,v,y,i,j,z,A] n T) (by have:=S.out;rw[zhV (by simp;omega)];rfl)
 have ak:Xo (splice [t,u,v,y,i,j,z,A] n T=[G,H,K,L,M,N,P,Q]):=a5;clear a5;have ae:Xo (∀W,zb C W->W.rangeAt h (d*13) [Xe Xg t,Xe Xg u,Xe Xg v,Xe Xg y,Xe Xg i,Xe Xg j,Xe Xg z,Xe Xg A]):=show∀W,_ from fun W b a3 a5 ao=>(B.grew b).range1 R a3 a5 (by
  have F:=(gS.1 ao).1
  show([Xe Xg t,Xe Xg u,Xe Xg v,Xe Xg y,Xe Xg i,Xe Xg j,Xe Xg z,Xe Xg A]++ [Xe Xf a4,Xh Y,Xh a2,Xe Xf f,Xe Xf x])[a3]? =Xa a5
  rw[Xv F];exact ao)
 have a3:Xo (∀W,zb C W->Xp prog 83 #[Xi #[Xe Xg t,Xe Xg u,Xe Xg v,Xe Xg y,Xe Xg i,Xe Xg j,Xe Xg z,Xe Xg A],Xe Xf (n:Int),O c.dv.a c.dv.n c.dv.c] W fun e w'=>e= Xl (Xi #[Xe Xg G,Xe Xg H,Xe Xg K,Xe Xg L,Xe Xg M,Xe Xg N,Xe Xg P,Xe Xg Q])/\zb W w'):=dD<|fun W b=>by
  have X:=ap.grew (a8.trans b);rw[Z.out]at X⊢;exact ze8 t u v y i j z A G H K L M N P Q n T c.dv.a c.dv.c W S.1 S.2 X ak.out
 go_upto_region 5 with fail;clear an F;refine z7 (I:=fun W=>zb C W) 13 [(10,fun a5=>a5= Xi #[Xe Xg G,Xe Xg H,Xe Xg K,Xe Xg L,Xe Xg M,Xe Xg N,Xe Xg P,Xe Xg Q])] (fun _=>True) (gW _) trivial zZ (by kernel_rfl) rfl rfl (by decide) ?hS (by kernel_rfl) ?_
 case hS=>
  intro x C;simp only[mC,nM,or_false]at C;subst C;exact⟨_,rfl⟩
 simp only[List.take,List.drop];refine Zq (Xj (Xa ⟨h,d*13,Xb⟩)) rfl rfl (fun W b=>rfl) ?_
 simp only[Xs,sB,sS,sZ];refine Zq (Xj (Xa ⟨h,d*13,Xb⟩)) rfl rfl (fun W b=>rfl) ?_
 simp only[Xs,sB,sS,sZ];refine qa (.tmp 30) ⟨h,d*13,Xb⟩ rfl rfl rfl rfl ?_;simp only[Xs,sB,sS,sZ];refine Zq (Xj (Xa ⟨h,d*13,Xb⟩)) rfl rfl (fun W b=>rfl) ?_
 simp only[Xs,sB,sS,sZ];refine Zq (Xi #[Xe Xg t,Xe Xg u,Xe Xg v,Xe Xg y,Xe Xg i,Xe Xg j,Xe Xg z,Xe Xg A]) rfl rfl (fun W b=>zmj W 91 (.tmp 32) rfl h (d*13) rfl [Xe Xg t,Xe Xg u,Xe Xg v,Xe Xg y,Xe Xg i,Xe Xg j,Xe Xg z,Xe Xg A] (ae W b) underlying91 rfl (by kernel_rfl)) ?_
 simp only[Xs,sB,sS,sZ];refine Zq (Xj (Xa ⟨g,2,Xb⟩)) rfl rfl (fun W b=>rfl) ?_
 simp only[Xs,sB,sS,sZ];refine Zq (Xe Xf c.pt) rfl rfl (fun W b=>j4 _ (.tmp 34) rfl ⟨g,2,Xb⟩ rfl (Xe Xf c.pt) ((ah.box.grew b).c 2 rfl) underlying3 rfl) ?_
 simp only[Xs,sB,sS,sZ];refine Zq (Xe Xf (n:Int)) rfl rfl (fun W b=>ad.out _ _ _ W rfl rfl) ?_
 simp only[Xs,sB,sS,sZ];refine Zq (Xj (Xa ⟨g,9,Xb⟩)) rfl rfl (fun W b=>rfl) ?_
 simp only[Xs,sB,sS,sZ];refine Zq (O c.dv.a c.dv.n c.dv.c) rfl rfl (fun W b=>j4 _ (.tmp 37) rfl ⟨g,9,Xb⟩ rfl (O c.dv.a c.dv.n c.dv.c) ((ah.box.grew b).c 9 rfl) underlying23 rfl) ?_
 simp only[Xs,sB,sS,sZ];refine zK rfl rfl (fun _ _=>True) (fun W b _=>?_) (fun a5 F=>?_)
 ·refine zR.call [Xi #[Xe Xg t,Xe Xg u,Xe Xg v,Xe Xg y,Xe Xg i,Xe Xg j,Xe Xg z,Xe Xg A],Xe Xf (n:Int),O c.dv.a c.dv.n c.dv.c] rfl func83 rfl rfl rfl ?_;refine(a3 W b).mono ?_;rintro e C ⟨rfl,C⟩;exact⟨_,rfl,b.trans C,rfl,trivial⟩
 subst F;simp only[Xs,sB,sS,sZ];refine qa (.tmp 29) ⟨h,d*13,Xb⟩ rfl rfl rfl rfl ?_;simp only[Xs,sB,sS,sZ];refine Zq (Xj (Xa ⟨h,d*13,Xb⟩)) rfl rfl (fun W b=>rfl) ?_
 simp only[Xs,sB,sS,sZ];refine jp fun ar l _=>?_
 refine z3 (E:=Qy) rfl (.tmp 41) (.tmp 39) 91 rfl a6 _ m'.fs (B.grew l) h d 0 rfl ⟨⟨t,u,v,y,i,j,z,A⟩,a4,Y,a2,f,x⟩ ⟨⟨G,H,K,L,M,N,P,Q⟩,a4,Y,a2,f,x⟩ R.out [Xe Xg G,Xe Xg H,Xe Xg K,Xe Xg L,Xe Xg M,Xe Xg N,Xe Xg P,Xe Xg Q] (by kernel_rfl) rfl (Nat.le_of_ble_eq_true rfl) (by intro Y i;simp at i;rcases i with rfl | rfl | rfl | rfl | rfl | rfl | rfl | rfl <;> rfl) ⟨h,d*13,Xb⟩ rfl rfl _ rfl rfl ?_
 intro D i h _;have t:Xo (zhp a6 D V' { m' with fs:=m'.fs.set d ⟨⟨G,H,K,L,M,N,P,Q⟩,a4,Y,a2,f,x⟩ }):=dD<|(af.grew l).frame aa h (by (first|rw[a0.out]|(simp only[Sli.x];rw[a0.out]));exact i)
 have u:Xo (zn D p 88 (chL V' { m' with fs:=m'.fs.set d ⟨⟨G,H,K,L,M,N,P,Q⟩,a4,Y,a2,f,x⟩ })):=dD<|(am.grew l).beside h (fun k e=>by cases e;have:=s.out;have:=q.out;have:=r.out;omega)
 have a7:Xo (zn D (g+1) 54 [Xe Xf 0,Xe Xf 0,O Xb 0 0]):=dD<|(A2.grew l).beside h (fun k e=>by cases e;have:=q.out;have:=r.out;omega)
 have v:Xo (zn D g 25 [Xe Xf c.kind,Xe Xf c.proc,Xe Xf c.pt,Xe Xf c.n,Xe Xf c.file,Xe Xf c.base,Xh c.rd,Xh c.wr,Xh c.sh,O c.dv.a c.dv.n c.dv.c]):=dD<|(ah.grew l).beside h (fun k e=>by cases e;have:=q.out;have:=r.out;omega)
 have a9:Xo (zb w0 D):=dD<|zd (a8.trans l) h (by have:=ac.out;have:=q.out;have:=r.out;omega)
 have ag:Xo (zm (fun k=>k=p) w D):=dD<|(al.trans (zm.grew l)).beyond h (by have:=a1.out;have:=r.out;omega)
 clear i h l;try simp only[Xs]
 have aj:=v.box.c 9 rfl
 go_wp2_with (refine zj rfl 54 (.tmp 4) (.tmp 45) rfl (g+1) rfl [Xe Xf 0,Xe Xf (c.dv.n:Int),O Xb 0 0] rfl a7 rfl (by kernel_rfl) (by simp[Value.oneCell']) ?_)
 intro l j h _;clear aj;have i:=dD j;have g:Xo (ZE (zdR m BF c T) w0 p w (Xl (Qi 0 (c.dv.n:Int) noS)) l):=show ZE _ _ _ _ _ _ from by
  have l:(c.pt % 8).toNat=n:=by rw[ab.out];rfl
  refine ZE.ok (V':=V') ⟨rfl,.inr ⟨rfl,rfl,d,m',_,⟨G,H,K,L,M,N,P,Q⟩,aq,by rw[l];exact ak,rfl⟩⟩ (ag.beyond h (by have:=U.out;omega)) (zd a9 h (by have:=ac.out;omega)) (u.beside h (fun k e=>by cases e;have:=s.out;omega)) fun W b=>?_
  exact((t.out.out (zm.grown h q)).out (b.wide fun k ai=>Xt ai a1)).at
 clear j h;go_wp2;refine bodyPost_ret (zG rfl _ rfl i.box underlying54 rfl (by kernel_rfl)) rfl g.out
end
end Go.Proofs.YtmfckdkcmbncdaaGreat
