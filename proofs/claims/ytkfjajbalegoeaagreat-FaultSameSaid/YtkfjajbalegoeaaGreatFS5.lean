import Derived.Test.YtkfjajbalegoeaaGreatFS4
import Derived.Deep.CutRange
import Derived.Laws.BytesArg
namespace Go.Proofs.YtkfjajbalegoeaaGreat
open Go.Value renaming slice→O,int→Xe,bool→Xh,agg→Xi,pointer→Xj,tuple→Xm
open Go.IntKind renaming i64→Xf,u8→Xg
open Go.Obj renaming cells→Xk
open Go.Ending renaming returned→Xl
open Go renaming World→Xn,Calls→Xp,Value→Xq
open Go.RowKit renaming Hid→Xo
open Option renaming some→Xa,none→Xb
open Bool renaming true→Xc,false→Xd
open List renaming replicate→Xr
open _root_.List renaming eq_of_mem_replicate→Xs,map_nil→Xt,take→Xw,drop→Xx,mem_append→Xy,map_toArray→Ya,mem_singleton→Yb,length_eq_one_iff→Yc,take_of_length_le→Yd,length_set→Yf,range→Yg,contains_eq_mem→Yh,getElem?_append_left→Yj,getElem?_map→Yk,getElem?_replicate→Yl,getElem?_zipWith→Ym,getElem?_of_mem→Yn,getElem?_range→Yo
open Go.Sem renaming run_pure→Xu,run_bind→Xv
open Go.Addr renaming add_lit→Xz
open _root_.Array renaming getD_eq_getD_getElem?→Ye
open _root_.Nat renaming lt_of_lt_of_le→Yi,lt_irrefl→Yp,sub_self→Ys,mul_one→Yt
open Go.Region renaming ready→Yq
open _root_.Bool renaming not_eq_true'→Yr
open Go.Act renaming put→Yu
set_option maxRecDepth 100000
set_option maxHeartbeats 4000000
variable{α:Type}{a:Act}{C:Ar}{Y:Array Xq}{E:Elt α}{R z:Int}{g:List (Int×List Int)}{G:List (List En)}{H:List En}{L:List Int}{K:List Oper}{D:List Xq}{y:List α}{b k p:Nat}{w:Xn}{A:Xq}{M:Xq->Xn->Prop}
variable{B0 B1 b hi id j kk:Nat}{L:List Int}{Q:Exit->Act->Xn->Prop}{T:List (Nat->En)}{V:MaV}{W w' w0:Xn}{er hd:Int}{l:List Ar}{m m':Ma}{o:Oper}{ops:Array Oper}{t:TypeId}{us vs:List Xq}{vl vt:Sli}
open Go.Proofs.Tryz
section
open Go.RowKit
theorem zot(V m)(p n:Int)(w)(a4:zQ w V m)(al:maW m=0):
  Xp prog 31 #[Xi (mL V m).toArray,I6 p,I6 n] w fun e w'=>e=Xl (zbp (jR m p n))/\(jR m p n).1.length=8/\zc w w':=by
 have bq:=dD a4;have bt:=dD<|fun x e=>zqn a4.sb.2.1 a4.sq.2.1 a4.db.2.1 a4.dq.2.1 x e;have ae:Xo (∀W,zc w W->Xp prog 64 #[Xi (mL V m).toArray] W fun e w'=>e=Xl (I6 (maW m))/\zc W w'):=dD<|fun W U=>by rw[al];exact zg3 V m W (bq.aA U) al
 have ay:Xo (∀W,zc w W->Xp prog 67 #[Xi (mL V m).toArray] W fun e w'=>∃B,e=Xl (Xi #[V.f.x,I6 m.aB,V.s.x,V.sb.x,V.sq.x,V.db.x,V.dq.x,V.fl.x,I6 m.cnt,V.ca.x,V.sp.x,.map (Xa B)])/\QA plK w' B (Q7 m.ca)/\zc W w'):=dD<|fun W U=>zbP V m W (bq.aA U);have ac:Xo (maW m=0->∀W B(a:Ar)(n:Nat)(e:En),zc w W->jS a->(a.fr<=(n:Int)/\(n:Int)<a.tz)->(e.kind=1->0<=e.n/\e.n<(m.fs.length:Int))->(e.kind=2->0<=e.n/\e.n<(m.sb.length:Int))->QA plK W B (Q7 m.ca)->Xp prog 68 #[Xi #[V.f.x,I6 m.aB,V.s.x,V.sb.x,V.sq.x,V.db.x,V.dq.x,V.fl.x,I6 m.cnt,V.ca.x,V.sp.x,.map (Xa B)],Xi #[I6 a.fr,I6 a.tz,Xh a.rd,Xh a.wr,Xh a.sh,I6 a.file,I6 a.base],I6 (n:Int),Xi #[I6 e.kind,I6 e.n,Xh e.wr]] W fun a6 w'=>a6=Xl (zbp (ZZ m (z5 a n) e))/\(ZZ m (z5 a n) e).1.length=8/\zc W w'):=dD<|fun al W B a n e U ec cd af a2 L=>zgz V m B a n e W (bq.aA U) al ec cd af a2 L;obtain⟨-,-,-,-,-,-,-,-,dc⟩:=a4.ns;obtain⟨dt,be,M,ba⟩:=a4.aP;obtain⟨ao,ap,u,v,r,s,t,q,⟨i,d,l⟩⟩:=V;dsimp only[mL]at dc M ae ay ac⊢;have aa:=dD dc.symm;have bz:Xo (dt.length=d):=show _=_ by rw[be];exact aa.out
 have br:=dD M;have bu:=dD ba;obtain⟨df,bi⟩:=kA (maW m);rw[bi.out]at ae ac;clear a4 dc be M ba;obtain⟨c1,E⟩:=kB ((w.alloc (Xk #[ao.x,I6 m.aB,ap.x,u.x,v.x,r.x,s.x,t.x,I6 m.cnt,q.x,O i d l] 41)).alloc (Xk #[U8 0,U8 0,U8 0,U8 0,U8 0,U8 0,U8 0,U8 0] 44));have dg:=gD2 E;have dk:=x2a E;have dy:Xo (Box c1 (w.heap.size+1) (pgc zu)):=dD<|by rw[<-E];exact Box.aF _ (pgc zu) _ Sm
 have bx:Xo (_=c1):=E;clear E;go_enter func31,ntmps31;go_upto_region 1 with fail;rw[bx.out];obtain⟨es,et,eu,ev,ew,ex,ey,ez,f0,f1,Z⟩:=dk.aZ;have b7:=ae.out c1 dg.out;go_wp2_with fail;refine b7.mono ?_;clear b7 es et eu ev ew ex ey ez f0 f1 Z;rintro a6 bj⟨rfl,bk⟩;have bn:=dD (dg.trans bk);have dl:=dD (dk.aA bk);have dm:=dD (dy.aA bk);clear bk;have a5:df=0:=Ry bi.out al;clear al;have db:(df !=0)=Xd:=by simp[a5]
 have a9:Xo (maW m=0):=dD<|Rx bi.out a5;have ab:Xo (jR m p n=jW m p n):=dD<|by unfold jR;rw[bi.out,kF (fun c4=>c4 a5)]
 have bw:=show Xo _ from ac.out a5;clear a5;have Z:=dl.c 10 rfl;have a3:=za6 p (d:Int) bj;go_wp2_with fail;refine a3.mono ?_;rintro a6 w'⟨rfl,bc⟩;rw[bc];clear bc w' a3 db;cases b5:bel p (d:Int)with
 |false=>
  have a0:Xo (jR m p n=(zu,Xd,5)):=dD<|by
   rw[ab.out];refine zjV ?_;have af:¬(0<=p/\p<(d:Int)):=fun c4=>(by rw[Q1.2 c4]at b5;cases b5);rw[aa.out];omega
  clear b5;go_wp2_with(refine zn rfl 44 (.tmp 6) (.tmp 24) rfl (w.heap.size+1) rfl (pgc zu) rfl dm rfl zsE (qE _) ?_)
  intro az F G _;have C:Xo (zc w az):=dD<|zd bn G Wm;go_wp2;refine bodyPost_ret (zJ rfl _ rfl F underlying44 rfl zsE) rfl ⟨Rr a0.out,Rr a0.out,C⟩
 |true=>
 obtain⟨e1,f4⟩:=Q1.1 b5;obtain⟨Y,rfl⟩:∃Y:Nat,p=(Y:Int):=⟨p.toNat,Wm⟩;obtain⟨x,am⟩:∃x,dt[Y]?=Xa x:=⟨_,gE (by rw[bz.out];omega)⟩;obtain⟨N,ak⟩:∃N,Xo (m.sp[Y]?=Xa N):=⟨_,gE (by rw[aa.out];omega)⟩;have P:=dD<|bu.out Y x N am ak.out;obtain⟨c2,bs,dq⟩:∃c2,Xo (i=Xa c2)/\∀W,zc w W->zkC W (c2.add (Y*10)) x:=br.out Y x am;obtain⟨e2,e3,e4,e5,e6,e7,e8,e9,ea,eb⟩:=dq bj bn.out;rw[bs.out]at Z;clear dq am b5 e1;go_upto_region 7 with fail;clear e2 e3 e4 e5 e6 e7 e8 e9 ea eb Z;obtain⟨eo,av⟩:=kA bj.heap.size;refine nW fun dw X=>?_;have bl:=gP X;have di:=xP X av;have dh:=dD (bn.trans bl);have dx:=dD (dl.aA bl);have dz:=dD (dm.aA bl);rw[av.out];clear X bl;have er:=di.c 1 rfl;have b7:=zgM (x.ar.x) N.aC n dw (P.ar.aA dh);go_wp2_with fail;refine b7.mono ?_;clear b7 er;rintro a6 dj⟨⟨du,rfl,a5⟩,b2⟩;have au:=dD a5;have z:=dD (dh.trans b2);have D:=dD (dx.aA b2);have dn:=dD (dz.aA b2);have T:=dD (di.aA b2);clear b2 a5;by_cases bf:du<0
 ·have a0:Xo (jR m (Y:Int) n=(zu,Xd,5)):=dD<|by rw[ab.out];exact zmn ak au bf
  go_wp2_with(refine zn rfl 44 (.tmp 6) (.tmp 36) rfl (w.heap.size+1) rfl (pgc zu) rfl dn rfl zsE (qE _) ?_)
  intro az F G _;have C:Xo (zc w az):=dD<|zd z G Wm;go_wp2;refine bodyPost_ret (zJ rfl _ rfl F underlying44 rfl zsE) rfl ⟨Rr a0.out,Rr a0.out,C⟩
 obtain⟨k,a,rfl,S,R⟩:∃(k:Nat)(a:Ar),du=(k:Int)/\Xo (N.aC[k]?=Xa a)/\Xo (inZ a n=Xc):=by
  rcases au with⟨k,a,bg,dd,de⟩|⟨bg,_⟩;·exact⟨k,a,bg,dd,de⟩
  omega
 have aq:=dD<|(jL.1 ((zht (Qj a9)).ar N (mG ak)).1).2;have a8:=dD<|zgQ aq S.out;obtain⟨h,rfl⟩:∃h:Nat,n=(h:Int):=⟨n.toNat,by have af:=zcJ.1 R.out;have a2:=a8.out;unfold jS at a2;omega⟩;have j:h<64:=by have af:=zcJ.1 R.out;have a2:=a8.out;unfold jS at a2;omega
 obtain⟨e,Q⟩:=kA (zh N h);have ax:Xo (jR m (Y:Int) (h:Int)=ZZ m (z5 a h) e):=dD<|by rw[ab.out,zf6 ak j,zbZ aq S (Ry zjh R),Q.out]
 have ar:Xo (∀W B,zc w W->QA plK W B (Q7 m.ca)->Xp prog 68 #[Xi #[ao.x,I6 m.aB,ap.x,u.x,v.x,r.x,s.x,t.x,I6 m.cnt,q.x,O i d l,.map (Xa B)],Xi #[I6 a.fr,I6 a.tz,Xh a.rd,Xh a.wr,Xh a.sh,I6 a.file,I6 a.base],I6 (h:Int),Xi #[I6 e.kind,I6 e.n,Xh e.wr]] W fun a6 w'=>a6=Xl (zbp (ZZ m (z5 a h) e))/\(ZZ m (z5 a h) e).1.length=8/\zc W w'):=dD<|fun W B U L=>bw.out W B a h e U a8 (zcJ.1 R) (by rw[<-Q.out];exact(zpY a9 ak j).1) (by rw[<-Q.out];exact(zpY a9 ak j).2) L;have bo:Xo (∀W,zc w W->Xp prog 69 #[Xi #[x.t0.x,x.t1.x,x.t2.x,x.t3.x,x.t4.x,x.t5.x,x.t6.x,x.t7.x],I6 (h:Int)] W fun a6 w'=>a6=Xl (Xi #[I6 e.kind,I6 e.n,Xh e.wr])/\zc W w'):=dD<|fun W U=>by
  have:=JE x.tab N.tb (h:Int) W (P.aA U).tb;rw[zgH j,Q.out]at this;exact this
 have ed:k<x.ar.n:=by rw[P.ar.n];exact(gS.1 S).1
 have ee:(k:Int)<(x.ar.n:Int):=Wm;obtain⟨b,bv,g⟩:∃b,Xo (x.ar.a=Xa b)/\Xo (∀W,zc w W->zjS W (b.add (k*7)) a):=by
  obtain⟨_,_,bg,dd⟩:=P.ar.aC;simp only[vJ]at bg;obtain⟨b,de,ep⟩:=dd k a S.out;exact⟨b,Rx bg.1 de,ep⟩
 obtain⟨c0,aw⟩:=kA (ZZ m (z5 a h) e);have bp:Xo (c0.1.length=8):=dD<|by rw[<-aw.out];exact bt _ _
 rw[aw.out]at ax ar;clear bf;go_upto_region 10 with fail;obtain⟨A,c⟩:=Ww fun an=>zc dj an;have ag:=(c _).2 (gW _);have cr:=D.h c 0 rfl;have cs:=D.h c 1 rfl;have ct:=D.h c 2 rfl;have cu:=D.h c 3 rfl;have cv:=D.h c 4 rfl;have cw:=D.h c 5 rfl;have cx:=D.h c 6 rfl;have cy:=D.h c 7 rfl;have cz:=D.h c 8 rfl;have da:=D.h c 9 rfl;have bd:=D.h c 10 rfl;have cj:=T.h c 2 rfl;have ck:=T.h c 3 rfl;have cl:=T.h c 4 rfl;have cm:=T.h c 5 rfl;have cn:=T.h c 6 rfl;have co:=T.h c 7 rfl;have cp:=T.h c 8 rfl;have cq:=T.h c 9 rfl;have ci:∀y:zg A,y.world.cell? ⟨eo,1,Xb⟩=Xa (O (Xa b) x.ar.n x.ar.c):=fun y=>by rw[<-bv.out];exact(T.aA ((c _).1 y.holds)).c 1 rfl
 have c5:=fun y:zg A=>(g _ (z.trans ((c _).1 y.holds))).1;have c6:=fun y:zg A=>(g _ (z.trans ((c _).1 y.holds))).2.1;have c7:=fun y:zg A=>(g _ (z.trans ((c _).1 y.holds))).2.2.1;have c8:=fun y:zg A=>(g _ (z.trans ((c _).1 y.holds))).2.2.2.1;have c9:=fun y:zg A=>(g _ (z.trans ((c _).1 y.holds))).2.2.2.2.1;have ca:=fun y:zg A=>(g _ (z.trans ((c _).1 y.holds))).2.2.2.2.2.1;have cb:=fun y:zg A=>(g _ (z.trans ((c _).1 y.holds))).2.2.2.2.2.2;have cf:Nonempty (zg A):=⟨⟨_,ag⟩⟩;refine qX (I:=A) 16 [(1,⟨fun a7=>∃B,a7=Xi #[ao.x,I6 m.aB,ap.x,u.x,v.x,r.x,s.x,t.x,I6 m.cnt,q.x,O i d l,.map (Xa B)],fun a7 an=>∃B,a7=Xi #[ao.x,I6 m.aB,ap.x,u.x,v.x,r.x,s.x,t.x,I6 m.cnt,q.x,O i d l,.map (Xa B)]/\QA plK an B (Q7 m.ca),fun p aj=>zc p aj,fun _=>True⟩),(11,⟨fun a7=>a7=Xi #[I6 e.kind,I6 e.n,Xh e.wr],fun _ _=>True,fun p aj=>zc p aj,fun _=>True⟩),(12,⟨fun a7=>a7=zbp c0,fun _ _=>True,fun p aj=>zc p aj,fun _=>True⟩)] ag z1 Kr rfl rfl Dc (Sc ⟨_,0,rfl⟩ ⟨_,rfl⟩ ⟨_,rfl⟩) ?hp ?hpre ?hpr0 ?_;case hp=>
  intro k N ef dr b9 bm b8 dp a7 p aj ai cg;have K:=zB b9;have H:=zB bm;clear b9 bm;simp only[mC,pJ,nM,or_false]at K H;rcases K with⟨rfl,rfl⟩|⟨rfl,rfl⟩|⟨rfl,rfl⟩
  ·obtain⟨B,af,a2⟩:=cg
   rcases H with⟨rfl,rfl⟩|⟨rfl,rfl⟩|⟨rfl,rfl⟩;·exact absurd rfl b8
   ·exact⟨B,af,a2.aA ai⟩
   exact⟨B,af,a2.aA ai⟩
  ·trivial
  trivial
 case hpre=>
  intro ef dr k N bm b9 b8 p aj ai ah;have H:=zB bm;simp only[mC,pJ,nM,or_false]at H;rcases H with⟨rfl,rfl⟩|⟨rfl,rfl⟩|⟨rfl,rfl⟩<;>trivial
 case hpr0=>
  intro k dr b9;have K:=zB b9;simp only[mC,pJ,nM,or_false]at K;rcases K with⟨rfl,rfl⟩|⟨rfl,rfl⟩|⟨rfl,rfl⟩<;>trivial
 simp only[Xw,Xx];refine zs ?_;refine zR rfl rfl (fun w' f ah b3=>?_) (fun ds bb=>?_);·refine zL.call [Xi #[ao.x,I6 m.aB,ap.x,u.x,v.x,r.x,s.x,t.x,I6 m.cnt,q.x,O i d l]] rfl func67 rfl rfl rfl ?_;refine(ay w' (z.trans ((c _).1 f))).mono ?_;rintro e bh⟨B,rfl,L,a1⟩;exact⟨_,rfl,(c _).2 (((c _).1 f).trans a1),a1,⟨B,rfl⟩,B,rfl,L⟩
 obtain⟨B,rfl⟩:=bb;refine Uq ?_;iterate 9 refine zs ?_
 refine zR rfl rfl (fun w' f ah b3=>?_) (fun ds bb=>?_);·refine zL.call [Xi #[x.t0.x,x.t1.x,x.t2.x,x.t3.x,x.t4.x,x.t5.x,x.t6.x,x.t7.x],I6 (h:Int)] rfl func69 rfl rfl rfl ?_;refine(bo w' (z.trans ((c _).1 f))).mono ?_;rintro e bh⟨rfl,a1⟩;exact⟨_,rfl,(c _).2 (((c _).1 f).trans a1),a1,rfl,trivial⟩
 subst bb;refine Uq ?_;refine zR rfl rfl (fun w' f ah b3=>?_) (fun ds bb=>?_)
 ·obtain⟨f2,b6,cc⟩:=b3 1 Kr
  simp only[Value.agg.injEq,Array.mk.injEq,List.cons.injEq,Value.map.injEq,Option.some.injEq,and_true,true_and]at b6;subst b6;refine zL.call [Xi #[ao.x,I6 m.aB,ap.x,u.x,v.x,r.x,s.x,t.x,I6 m.cnt,q.x,O i d l,.map (Xa B)],Xi #[I6 a.fr,I6 a.tz,Xh a.rd,Xh a.wr,Xh a.sh,I6 a.file,I6 a.base],I6 (h:Int),Xi #[I6 e.kind,I6 e.n,Xh e.wr]] rfl func68 rfl rfl rfl ?_;refine(ar w' B (z.trans ((c _).1 f)) cc).mono ?_;rintro e bh⟨rfl,f5,a1⟩;exact⟨_,rfl,(c _).2 (((c _).1 f).trans a1),a1,rfl,trivial⟩
 obtain⟨eq,f6,f7⟩:=c0;have ce:=bp.out;obtain⟨eg,eh,ei,ej,ek,el,em,en,ch⟩:=zcE eq ce;subst ch;subst bb;simp only[zbp,pgc,mP,Xt];refine Uq ?_;iterate 3 refine zs ?_
 refine Zx fun f3 b4 b3=>?_;have c3:=(c _).1 b4;have dv:=dD (z.trans c3);have e0:=dD (dn.aA c3);have a0:=ax;clear b3 b4 ag cf c3 cr cs ct cu cv cw cx cy cz da bd ci cj ck cl cm cn co cp cq c5 c6 c7 c8 c9 ca cb;refine zn rfl 44 (.tmp 6) (.tmp 50) rfl (w.heap.size+1) rfl (pgc [eg,eh,ei,ej,ek,el,em,en]) rfl e0 rfl zsE (qE _) ?_;intro az F G _;have C:Xo (zc w az):=show zc _ _ from zd dv G Wm;go_wp2;refine bodyPost_ret (zJ rfl _ rfl F underlying44 rfl zsE) rfl ⟨Rr a0.out,Rr a0.out,C⟩
def zr2(k q n:Nat)(mB:Ma):Prop:=∃(s:Sp)(fr:Fr)(we:Bool),Rt mB/\mB.sp[q]?=Xa s/\mB.fs[k]?=Xa fr/\zh s n=⟨1,(k:Int),we⟩
def Q4(m:Ma)(BF:Nat->Nat->Ar->Pg->Bool->Bool×Nat×Ma)(p n:Int)(wr:Bool)(er:Int):Prop:=
 er≠0/\(Qo m p n wr ar0 er\/(∃a,Qo m p n wr a 0/\(jR m p n).2.2=er)\/(er=10/\∃(q i:Nat)(a:Ar)(pg:Pg)(ic:Bool),p=(q:Int)/\n=(i:Int)/\Qo m p n wr a 0/\jR m p n=(pgL pg,ic,0)/\(jB m (BF q i a pg wr) pg a ic wr q i).1=Xd))
def zp4(m:Ma)(BF:Nat->Nat->Ar->Pg->Bool->Bool×Nat×Ma)(p n:Int)(wr:Bool)(k:Nat)(m':Ma):Prop:=
 ∃(q i:Nat)(a:Ar)(pg:Pg)(ic:Bool)(fr:Fr),p=(q:Int)/\n=(i:Int)/\Qo m p n wr a 0/\jR m p n=(pgL pg,ic,0)/\(jB m (BF q i a pg wr) pg a ic wr q i).1=Xc/\k=(jB m (BF q i a pg wr) pg a ic wr q i).2.1/\(jB m (BF q i a pg wr) pg a ic wr q i).2.2.fs[k]?=Xa fr/\m'=Jo (jB m (BF q i a pg wr) pg a ic wr q i).2.2 q i k fr wr a.sh
theorem zqs(h:L.length=8):∃pg:Pg,L=pgL pg:=by obtain⟨a,b,c,d,f,g,i,j,e⟩:=zcE L h;exact⟨⟨a,b,c,d,f,g,i,j⟩,e⟩
theorem ziR{wr:Bool}(h:Qo m z R wr C er)(b:er≠0):C=ar0:=by
 rcases h with⟨_,e,_⟩|⟨_,_,_,_,_,_,_,_,_,_,_,_,_,⟨_,e,_⟩|⟨e,_⟩⟩;·exact e
 ·exact e
 grind
theorem zhn(b:o.op=.alloc 97):(execOp a.eval o).run prog w=.ok (.value (Xj (Xa ⟨w.heap.size,0,Xb⟩))) (w.alloc (Xk #[Xj Xb,I6 0,I6 0,I6 0,I6 0,Xh Xd,Xh Xd,Xh Xd,I6 0,I6 0,U8 0,U8 0,U8 0,U8 0,U8 0,U8 0,U8 0,U8 0,Xh Xd,Xh Xd] 97)):=by simp only[execOp,b];go_simp
theorem zqb(V)(m:Ma)(p n:Int)(wr:Bool)(w)(r:zQ w V m)(b:Rt m)(z:Nat->Nat->Ar->Pg->Bool->Bool×Nat×Ma)
  (a0:∀(w0 W:Xn)(p:Nat)(d:MaV)(m1:Ma)(am:Xq)(l:List (Nat×Nat)),(∀x∈l,x.2<64/\∃s,m.sp[x.1]?=Xa s)->m1=zi m l->ChW w0 p W d m1->Rt m1->jC m1.fs=0->zl8 za8 (Dw p d) W am l->Xp prog 168 #[Xj (Xa ⟨p,0,Xb⟩),am] W fun e w'=>e=Xl (Xh (QW m1 l).1)/\Chg w0 p W d (QW m1 l).2 w')
  (h:∀(q i:Nat)(a:Ar)(pg:Pg),p=(q:Int)->n=(i:Int)->Qo m p n wr a 0->jR m p n=(pgL pg,Xd,0)->0<=a.file->a.sh=Xc\/wr=Xd->∀(w0 W:Xn)(p:Nat)(d:MaV),ChW w0 p W d m->Xp prog 70 #[Xi #[Xj (Xa ⟨p,0,Xb⟩),I6 (q:Int),I6 (i:Int),I6 a.fr,I6 a.tz,Xh a.rd,Xh a.wr,Xh a.sh,I6 a.file,I6 a.base,U8 pg.b0,U8 pg.b1,U8 pg.b2,U8 pg.b3,U8 pg.b4,U8 pg.b5,U8 pg.b6,U8 pg.b7,Xh Xd,Xh wr]] W fun e w'=>e=Xl (Xm #[I6 ((z q i a pg wr).2.1:Int),I6 (if(z q i a pg wr).1=Xc then 0 else 10)])/\Chg w0 p W d (z q i a pg wr).2.2 w')
  (j:∀(q i:Nat)(a:Ar)(pg:Pg)(t:Bool),p=(q:Int)->n=(i:Int)->Qo m p n wr a 0->jR m p n=(pgL pg,t,0)->(jB m (z q i a pg wr) pg a t wr q i).1=Xc->zr2 (jB m (z q i a pg wr) pg a t wr q i).2.1 q i (jB m (z q i a pg wr) pg a t wr q i).2.2):
  Xp prog 11 #[Xi (mL V m).toArray,I6 p,I6 n,Xh wr] w fun e w'=>((∃c:Int,e=Xl (Xm #[Xi qC.toArray,I6 0,I6 c])/\Q4 m z p n wr c)\/(∃(V':MaV)(k f:Nat)(m':Ma),e=Xl (Xm #[Xi (mL V' m').toArray,I6 (k:Int),I6 0])/\zp4 m z p n wr k m'/\ChW w f w' V' m'))/\zc w w':=by
 have Q:=dD r;have bt:=dD b;have ao:=show Xo _ from a0;have an:=show Xo _ from h;have ap:=show Xo _ from j;have g:=dD<|fun W(a9:zc w W)=>zkO V m p n wr W (Q.aA a9) b.w;have u:=dD<|fun W(a9:zc w W)=>zot V m p n W (Q.aA a9) b.w;clear r b a0 h j;obtain⟨h,a6⟩:=kA w.heap.size;obtain⟨j,b⟩:=kB ((w.alloc (Xk (mL V m).toArray 41)).alloc (Xk zM.toArray 41));have C:=gD2 b;have D:Xo (zt j h 41 (mL V m)):=dD<|by rw[<-b];exact(zt.aF w (mL V m) _ a6.symm).aA (za _ _)
 have T:Xo (zt j (h+1) 41 qC):=dD<|by rw[<-b];exact zt.aF _ qC _ (by have:=a6.out;simp;omega)
 have r:=dD b;clear b;have b:=g.out j C.out;go_enter func11,ntmps11;go_upto_region 1 with fail;rw[r.out,a6.out];obtain⟨y,A,E,H,K,L,M,N,R,S,g⟩:=D.box.aZ;go_wp2_with fail;refine b.mono ?_;clear b y A E H K L M N R S g;rintro af aj⟨⟨a,c,rfl,b⟩,G⟩;have a4:=dD b;clear b;go_upto_region 2 with fail;obtain⟨P,F⟩:=kA aj.heap.size;obtain⟨B,b⟩:=kB (aj.alloc (Xk #[I6 a.fr,I6 a.tz,Xh a.rd,Xh a.wr,Xh a.sh,I6 a.file,I6 a.base] 77));have r:zc j B:=by rw[<-b];exact G.trans (za _ _)
 have a3:=xPT b F;have Z:=dD (D.aA r);have a2:=dD (T.aA r);have D:=dD (C.trans r);rw[b,F.out];clear b G r;by_cases C:c=0
 rotate_left
 ·have a5:(c !=0)=Xc:=by simp[C]
  have ag:Xo (Q4 m z p n wr c):=dD<|⟨C,.inl (by have:=a4.out;rw[ziR a4.out C]at this;exact this)⟩;clear C;go_wp2_with(refine z6 rfl 41 (.tmp 8) (.tmp 27) rfl (h+1) rfl qC rfl a2 rfl Kr (by unfold qC;simp[Value.oneCell']) ?_)
  intro ah j r _;have G:Xo (zc w ah):=dD<|zd D r (Hm a6.out);have F:=dD j;clear j r;go_wp2;refine bodyPost_ret (zJ rfl _ rfl F.box underlying41 rfl Kr) rfl ⟨.inl ⟨c,rfl,ag⟩,G⟩
 subst C;have b:=u.out B D.out;obtain⟨y,A,E,H,K,L,M,N,R,S,g⟩:=Z.box.aZ;go_wp2_with fail;refine b.mono ?_;clear b y A E H K L M N R S g;rintro af c⟨rfl,b,K⟩;obtain⟨g,a1⟩:=kA (jR m p n);rw[a1.out]at b⊢;obtain⟨u,t,y⟩:=g;obtain⟨pg,rfl⟩:=zqs b;obtain⟨S,A,u,L,T,U,X,Y⟩:=pg;clear b;simp only[zbp,pgL,pgc,List.map];go_upto_region 5 with fail;obtain⟨M,H⟩:=kA c.heap.size;obtain⟨E,b⟩:=kB (c.alloc (Xk #[U8 S,U8 A,U8 u,U8 L,U8 T,U8 U,U8 X,U8 Y] 44));have c:zc B E:=by rw[<-b];exact K.trans (za _ _)
 have B:=xPT b H;have g:=dD (Z.aA c);have aq:=dD (a2.aA c);have N:=dD (a3.aA c);have ab:=dD (D.trans c);rw[b,H.out];clear b K c;by_cases C:y=0
 rotate_left
 ·have a5:(y !=0)=Xc:=by simp[C]
  have ag:Xo (Q4 m z p n wr y):=dD<|⟨C,.inr (.inl ⟨a,a4,by rw[a1.out]⟩)⟩;clear C;go_wp2_with(refine z6 rfl 41 (.tmp 8) (.tmp 39) rfl (h+1) rfl qC rfl aq rfl Kr (by unfold qC;simp[Value.oneCell']) ?_)
  intro ah j r _;have G:Xo (zc w ah):=dD<|zd ab r (Hm a6.out);have F:=dD j;clear j r;go_wp2;refine bodyPost_ret (zJ rfl _ rfl F.box underlying41 rfl Kr) rfl ⟨.inl ⟨y,rfl,ag⟩,G⟩
 subst C;obtain⟨q,i,K,H,a3,s,bz⟩:∃q i:Nat,Xo (p=(q:Int))/\Xo (n=(i:Int))/\Xo (i<64)/\∃s,Xo (m.sp[q]?=Xa s):=by
  rcases a4 with⟨e,_⟩|⟨q,i,_,s,_,b,c,y,D,_⟩;·cases e
  exact⟨q,i,b,c,y,s,D⟩
 rw[K.out,H.out];have ae:=dD<|fun W(a9:zc w W)=>zmP V m W (Q.aA a9);go_upto_region 7 with fail;obtain⟨c,b⟩:=Ww fun D=>zc E D;have a8:=(b _).2 (gW _);have ar:Nonempty (zg c):=⟨⟨_,a8⟩⟩;have au:=fun y:zg c=>(g.box.aA ((b _).1 y.holds)).c 0 rfl;have av:=fun y:zg c=>(g.box.aA ((b _).1 y.holds)).c 1 rfl;have aw:=fun y:zg c=>(g.box.aA ((b _).1 y.holds)).c 2 rfl;have ax:=fun y:zg c=>(g.box.aA ((b _).1 y.holds)).c 3 rfl;have ay:=fun y:zg c=>(g.box.aA ((b _).1 y.holds)).c 4 rfl;have az:=fun y:zg c=>(g.box.aA ((b _).1 y.holds)).c 5 rfl;have b8:=fun y:zg c=>(g.box.aA ((b _).1 y.holds)).c 6 rfl;have b9:=fun y:zg c=>(g.box.aA ((b _).1 y.holds)).c 7 rfl;have ba:=fun y:zg c=>(g.box.aA ((b _).1 y.holds)).c 8 rfl;have bc:=fun y:zg c=>(g.box.aA ((b _).1 y.holds)).c 9 rfl;have ai:=fun y:zg c=>(g.box.aA ((b _).1 y.holds)).c 10 rfl;have bd:=fun y:zg c=>(N.box.aA ((b _).1 y.holds)).c 0 rfl;have be:=fun y:zg c=>(N.box.aA ((b _).1 y.holds)).c 1 rfl;have bf:=fun y:zg c=>(N.box.aA ((b _).1 y.holds)).c 2 rfl;have bg:=fun y:zg c=>(N.box.aA ((b _).1 y.holds)).c 3 rfl;have bh:=fun y:zg c=>(N.box.aA ((b _).1 y.holds)).c 4 rfl;have bi:=fun y:zg c=>(N.box.aA ((b _).1 y.holds)).c 5 rfl;have bj:=fun y:zg c=>(N.box.aA ((b _).1 y.holds)).c 6 rfl;have bk:=fun y:zg c=>(B.box.aA ((b _).1 y.holds)).c 0 rfl;have bl:=fun y:zg c=>(B.box.aA ((b _).1 y.holds)).c 1 rfl;have bm:=fun y:zg c=>(B.box.aA ((b _).1 y.holds)).c 2 rfl;have bn:=fun y:zg c=>(B.box.aA ((b _).1 y.holds)).c 3 rfl;have bo:=fun y:zg c=>(B.box.aA ((b _).1 y.holds)).c 4 rfl;have bp:=fun y:zg c=>(B.box.aA ((b _).1 y.holds)).c 5 rfl;have bq:=fun y:zg c=>(B.box.aA ((b _).1 y.holds)).c 6 rfl;have br:=fun y:zg c=>(B.box.aA ((b _).1 y.holds)).c 7 rfl;refine zao (I:=c) 12 [(1,⟨.const (Xh Xd),fun R=>∃f:Nat,R=Xj (Xa ⟨f,0,Xb⟩),fun _ R D=>∃(f B:Nat)(d:MaV),R=Xj (Xa ⟨f,0,Xb⟩)/\E.heap.size<=B/\E.heap.size<=f/\ziA B D d m/\zt D f 102 (chL d m),fun p q=>zc p q,fun _=>True⟩),(10,⟨.const (Xh Xd),fun R=>∃g,R=Xj (Xa ⟨g,0,Xb⟩),fun _ R D=>∃g P,R=Xj (Xa ⟨g,0,Xb⟩)/\E.heap.size<=g/\zt D g 97 P/\P.length=20,fun p q=>zc p q,fun _=>True⟩),(11,⟨.tmp 15,fun _=>True,fun af _ D=>∃(g f B:Nat)(d:MaV),af=Xj (Xa ⟨g,0,Xb⟩)/\E.heap.size<=g/\zt D g 97 [Xj (Xa ⟨f,0,Xb⟩),I6 (q:Int),I6 (i:Int),I6 a.fr,I6 a.tz,Xh a.rd,Xh a.wr,Xh a.sh,I6 a.file,I6 a.base,U8 S,U8 A,U8 u,U8 L,U8 T,U8 U,U8 X,U8 Y,Xh t,Xh wr]/\E.heap.size<=B/\E.heap.size<=f/\ziA B D d m/\zt D f 102 (chL d m),fun p q=>∃g P al,E.heap.size<=g/\p.grownBy q (Xa g)/\zt p g 97 al/\zt q g 97 P/\P.length=20,fun _=>True⟩)] a8 z1 Kr Kr rfl rfl Dc (Sc ⟨_,0,rfl⟩ ⟨_,0,rfl⟩ ⟨Xh Xc,trivial⟩) ?hp ?hpre ?hpr0 ?_;case hp=>
  intro k s c1 bw Q ac a2 c af R p q c a7;have D:=zB Q;have y:=zB ac;clear Q ac;simp only[mC,pJ,nM,or_false]at D y;rcases D with⟨rfl,rfl⟩|⟨rfl,rfl⟩|⟨rfl,rfl⟩
  ·obtain⟨f,B,d,M,N,Z,a5,aa⟩:=a7
   rcases y with⟨rfl,rfl⟩|⟨rfl,rfl⟩|⟨rfl,rfl⟩;·exact absurd rfl a2
   ·exact⟨f,B,d,M,N,Z,a5.aA c,aa.aA c⟩
   obtain⟨ak,P,al,c2,ad,bs,bu,bv⟩:=c;exact⟨f,B,d,M,N,Z,a5.other ad bs,aa.beside ad fun k Q=>by cases Q;exact aa.off bs Dc⟩
  ·obtain⟨g,P,M,N,Z,a5⟩:=a7
   rcases y with⟨rfl,rfl⟩|⟨rfl,rfl⟩|⟨rfl,rfl⟩;·exact⟨g,P,M,N,Z.aA c,a5⟩
   ·exact absurd rfl a2
   obtain⟨ak,c0,al,c2,ad,bs,bu,bv⟩:=c;by_cases e:g=ak;·subst e;exact⟨g,_,M,N,bu,bv⟩
   exact⟨g,P,M,N,Z.beside ad (fun k Q=>by cases Q;exact e),a5⟩
  obtain⟨g,f,B,d,M,N,Z,a5,aa,ad,al⟩:=a7;rcases y with⟨rfl,rfl⟩|⟨rfl,rfl⟩|⟨rfl,rfl⟩;·exact⟨g,f,B,d,M,N,Z.aA c,a5,aa,ad.aA c,al.aA c⟩
  ·exact⟨g,f,B,d,M,N,Z.aA c,a5,aa,ad.aA c,al.aA c⟩
  exact absurd rfl a2
 case hpre=>
  intro c1 bw k s ac Q a2 p q c aa;have y:=zB ac;simp only[mC,pJ,nM,or_false]at y;rcases y with⟨rfl,rfl⟩|⟨rfl,rfl⟩|⟨rfl,rfl⟩<;>trivial
 case hpr0=>
  intro k bw Q;have D:=zB Q;simp only[mC,pJ,nM,or_false]at D;rcases D with⟨rfl,rfl⟩|⟨rfl,rfl⟩|⟨rfl,rfl⟩<;>trivial
 simp only[Xw,Xx];refine za0 rfl rfl rfl (fun y c=>?_);go_big_quiet_op;refine c _ ?_;clear c y;refine Zq rfl rfl (fun w' c aa a0=>?_) (fun D a2=>?_);·refine zL.call [Xi (mL V m).toArray] rfl func32 rfl rfl rfl ?_;refine(ae w' (ab.trans ((b _).1 c))).mono ?_;rintro e bs⟨f,B,d,rfl,ae,ac,ad,a7,y⟩;have al:=bS ((b _).1 c);exact⟨_,rfl,(b _).2 (((b _).1 c).trans y),y,⟨f,rfl⟩,f,B,d,rfl,nT al ac,nT al ad,ae,a7⟩
 obtain⟨f,rfl⟩:=a2;refine Uq ?_;iterate 8 refine Qa ?_
 refine Zq rfl rfl (fun w' c aa a0=>?_) (fun D a2=>?_);·refine zL.step (v:=Xj (Xa ⟨w'.heap.size,0,Xb⟩)) (w':=w'.alloc (Xk #[Xj Xb,I6 0,I6 0,I6 0,I6 0,Xh Xd,Xh Xd,Xh Xd,I6 0,I6 0,U8 0,U8 0,U8 0,U8 0,U8 0,U8 0,U8 0,U8 0,Xh Xd,Xh Xd] 97)) (zhn rfl) ⟨(b _).2 (((b _).1 c).trans (za _ _)),za _ _,⟨_,rfl⟩,_,_,rfl,bS ((b _).1 c),zt.aF _ [Xj Xb,I6 0,I6 0,I6 0,I6 0,Xh Xd,Xh Xd,Xh Xd,I6 0,I6 0,U8 0,U8 0,U8 0,U8 0,U8 0,U8 0,U8 0,U8 0,Xh Xd,Xh Xd] _ rfl,rfl⟩
 obtain⟨a5,rfl⟩:=a2;refine Uq ?_;refine Zq rfl rfl (fun w' c aa a0=>?_) (fun D a2=>?_)
 ·obtain⟨g,P,P,g,y,aa⟩:=a0 10 Kr
  simp only[Value.pointer.injEq,Option.some.injEq,Addr.mk.injEq,and_true]at P;subst P;obtain⟨D,B,d,C,ac,ad,ae,a7⟩:=a0 1 Kr;simp only[Value.pointer.injEq,Option.some.injEq,Addr.mk.injEq,and_true]at C;subst C;refine zL.bM 97 (.tmp 15) (.tmp 50) rfl a5 rfl [Xj (Xa ⟨f,0,Xb⟩),I6 (q:Int),I6 (i:Int),I6 a.fr,I6 a.tz,Xh a.rd,Xh a.wr,Xh a.sh,I6 a.file,I6 a.base,U8 S,U8 A,U8 u,U8 L,U8 T,U8 U,U8 X,U8 Y,Xh t,Xh wr] rfl y (Rr aa) (by rw[aa];kernel_rfl) (by simp[Value.oneCell']) fun bs A u L=>?_;exact⟨(b _).2 (zd ((b _).1 c) u g),⟨a5,_,_,g,u,y,A,rfl⟩,trivial,a5,f,B,d,rfl,g,A,ac,ad,ae.other u y,a7.beside u fun k Q=>by cases Q;exact a7.off y Dc⟩
 simp only[Yu];refine zb9 fun c f a0=>?_;obtain⟨ak,D,B,d,P,y,g,ac,ad,ae,a7⟩:=a0 11;have c:(Value.pointer (Xa ⟨a5,0,Xb⟩):Xq)=Xj (Xa ⟨ak,0,Xb⟩):=P;simp only[Value.pointer.injEq,Option.some.injEq,Addr.mk.injEq,and_true]at c;subst c;have c:=(b _).1 f;have C:=dD<|ChW.of ae ac c ad a7;have aa:=dD g;have ak:=dD (aq.aA c);have B:=dD aq.box.lt;have Q:=dD<|bS ab.out;have b:=dD (ab.trans c);clear a0 f a8 ar c P g y ac ad ae a7 au av aw ax ay az b8 b9 ba bc ai bd be bf bg bh bi bj bk bl bm bn bo bp bq br;obtain⟨pg,b⟩:∃pg:Pg,Xo ((⟨S,A,u,L,T,U,X,Y⟩:Pg)=pg):=⟨_,rfl⟩;have f:Xo (jR m p n=(pgL pg,t,0)):=show _=_ by rw[<-b.out];exact a1.out
 have c:=zhe C bt q i s bz a3 a ⟨S,A,u,L,T,U,X,Y⟩ t wr (fun l am y a0 aj P g a2=>ao.out E aj D P (zi m l) am l y rfl g (qK l bt y).1.rt a0 a2) (z q i a ⟨S,A,u,L,T,U,X,Y⟩ wr) (fun g W a9=>by
  obtain⟨⟨M,N⟩,Z⟩:=g;have a2:=a1.out;rw[N]at a2⊢;exact an q i a ⟨S,A,u,L,T,U,X,Y⟩ K H a4 a2 M Z E W D d (C.aA a9))
 simp only at c;rw[b.out]at c;obtain⟨g,b⟩:=kA (jB m (z q i a pg wr) pg a t wr q i);have y:Xo (g.1=Xc->zr2 g.2.1 q i g.2.2):=dD<|fun d=>by
  rw[<-b.out]at d⊢;exact ap q i a pg t K H a4 f d
 rw[b.out]at c;obtain⟨W,d⟩:=kA (if g.1=Xc then(0:Int)else 10);rw[d.out]at c;go_wp2_with(refine zE rfl 97 (.tmp 15) rfl a5 rfl aa.box underlying97 rfl Kr ?_)
 refine c.mono ?_;clear c;rintro af E⟨rfl,c,c,N,a0⟩;have M:Xo (zt E a5 97 [Xj (Xa ⟨D,0,Xb⟩),I6 (q:Int),I6 (i:Int),I6 a.fr,I6 a.tz,Xh a.rd,Xh a.wr,Xh a.sh,I6 a.file,I6 a.base,U8 S,U8 A,U8 u,U8 L,U8 T,U8 U,U8 X,U8 Y,Xh t,Xh wr]):=aa.aV N (C.bW aa Dc Dc Dc Dc);have P:Xo (zt E (h+1) 41 qC):=ak.aV N (fun e=>by have:=C.dlo _ e;have:=B.out;omega);have E:=dD c;have Z:=dD<|ab.trans c.gr;clear c N a0;obtain⟨c,C,N⟩:=g;simp only at E y⊢;cases c with
 |false=>
  have c:W=10:=by rw[<-d.out];rfl
  subst c;have ag:Xo (Q4 m z p n wr 10):=dD<|⟨Dc,.inr (.inr ⟨rfl,q,i,a,pg,t,K,H,a4,f,by rw[b.out]⟩)⟩;go_wp2_with(refine z6 rfl 41 (.tmp 8) (.tmp 58) rfl (h+1) rfl qC rfl P rfl Kr (by unfold qC;simp[Value.oneCell']) ?_)
  intro ah j r _;have G:Xo (zc w ah):=dD<|zd Z r (Hm a6.out);have F:=dD j;clear j r;go_wp2;refine bodyPost_ret (zJ rfl _ rfl F.box underlying41 rfl Kr) rfl ⟨.inl ⟨10,rfl,ag⟩,G⟩
 |true=>
  have c:W=0:=by rw[<-d.out];rfl
  subst c;obtain⟨d,fr,g,j,F,r,G⟩:=y.out rfl;have c:Xo (zp4 m z p n wr C (Jo N q i C fr wr a.sh)):=dD<|⟨q,i,a,pg,t,fr,K,H,a4,f,by rw[b.out],by rw[b.out],Rx b.out r,by rw[b.out]⟩;have b:=ziP E q i C fr d g r j.inv.aL (fun s al=>j.tb al) F a3 G a ⟨S,A,u,L,T,U,X,Y⟩ t wr;obtain⟨g,d⟩:=kA (Jo N q i C fr wr a.sh);simp only at b;rw[d.out]at b c;clear j F r G;go_wp2_with(refine zE rfl 97 (.tmp 15) rfl a5 rfl M.box underlying97 rfl Kr ?_)
  refine b.mono ?_;clear b;rintro af d⟨⟨b,rfl⟩,f,r,b,z⟩;have y:Xo (zt d a5 97 [Xj (Xa ⟨D,0,Xb⟩),I6 (q:Int),I6 (i:Int),I6 a.fr,I6 a.tz,Xh a.rd,Xh a.wr,Xh a.sh,I6 a.file,I6 a.base,U8 S,U8 A,U8 u,U8 L,U8 T,U8 U,U8 X,U8 Y,Xh t,Xh wr]):=M.aV b (E.bW M Dc Dc Dc Dc);have t:Xo (zt d (h+1) 41 qC):=P.aV b (fun e=>by have:=E.dlo _ e;have:=B.out;omega);have j:=dD r;clear r b z;have u0:=y.box.c 0 rfl;obtain⟨r,u,y,z,A,E,F,G,H,K,d⟩:=j.box.box.aZ;have b:Xo (∀R∈chL f g,R.oneCell'=Xc):=show∀R∈chL f g,_ by simp[chL,Value.oneCell']
  go_wp2_with(refine z6 rfl 41 (.tmp 8) (.tmp 67) rfl (h+1) rfl (chL f g) rfl t rfl Kr b.out ?_)
  clear u0 r u y z A E F G H K d;intro r d b _;have h:Xo (zc w r):=dD<|zd (ab.trans j.gr) b (Hm a6.out);have r:=dD d;have t:=dD<|j.lower b B h Q.out;clear d b;go_wp2;refine bodyPost_ret (zJ rfl _ rfl r.box underlying41 rfl Kr) rfl ⟨.inr ⟨f,C,D,g,rfl,c,t⟩,h⟩
theorem zcT.inTo{wr ic:Bool}{a:Ma}{q:Nat}{x:On}{pg:Pg}(h:zcT wr m k p x pg ic q a):zr2 q k p a:=by obtain⟨f,e,w,b,c,d,_⟩:=h.into;exact⟨f,e,w,h.rt,b,c,d⟩
theorem zas{wr:Bool}(c:Qo m z R wr C 0)(u:z=(k:Int))(hi:R=(p:Int)):∃s,m.sp[k]?=Xa s/\p<64/\jS C/\(C.fr<=(p:Int)/\(p:Int)<C.tz)/\zl s.aC p=z5 C p/\(if wr=Xc then C.wr else C.rd)=Xc:=by
 rcases c with⟨e,_⟩|⟨x,v,w,s,y,d,f,g,h,j,q,l,r,⟨e,_⟩|⟨_,t,b⟩⟩;·cases e
 ·cases e
 grind
theorem Zu(h:Rt m){q i:Nat}{s:Sp}(a:m.sp[q]?=Xa s)(hi:i<64):jR m (q:Int) (i:Int)=ZZ m (zl s.aC i) (zh s i):=by unfold jR;rw[kF (by rw[h.w];simp)];exact zf6 a hi
theorem zf7(V:MaV)(m:Ma)(p n:Int)(wr:Bool)(w:Xn)(M:zQ w V m)(d:Rt m):
  Xp prog 11 #[Xi (mL V m).toArray,I6 p,I6 n,Xh wr] w fun e w'=>((∃E:Int,e=Xl (Xm #[Xi qC.toArray,I6 0,I6 E])/\Q4 m (ZP m) p n wr E)\/(∃(V':MaV)(k C:Nat)(m':Ma),e=Xl (Xm #[Xi (mL V' m').toArray,I6 (k:Int),I6 0])/\zp4 m (ZP m) p n wr k m'/\ChW w C w' V' m'))/\zc w w':=
 zqb V m p n wr w M d (ZP m) (fun Q W C H Z B P U e v N _ h=>zfM v N B P h)
  (fun q i a t r l z h T X Q W C H v=>by
   obtain⟨D,b,c,u,F,G,K⟩:=zas z r l;unfold jS at u;obtain⟨j,f⟩:∃j:Nat,a.file=(j:Int):=⟨a.file.toNat,Wm⟩;obtain⟨s,g⟩:∃s:Nat,a.base+(i:Int)-a.fr=(s:Int):=⟨(a.base+(i:Int)-a.fr).toNat,Wm⟩;have A:=zhd v d q i D b c a j s f g Wm Wm Wm t Xd wr (zjp (.inr Wm)) (fun _ B S R x y=>zfM x (qK [(q,i)] d (fun I A=>by rw[Yb.1 A];exact⟨c,D,b⟩)).1.rt B [(q,i)] y);have e:ZP m q i a t wr=zck m t (j:Int) (s:Int) q i:=by
    unfold ZP;rw[f,g]
   rw[e];exact A)
  (fun q i a t Y r l z h L=>by
   obtain⟨D,b,c,u,F,G,K⟩:=zas z r l;rw[r,l,Zu d b c]at h;exact(zkz d b c u F G h L).inTo)
theorem zhD(k:Rt m){wr:Bool}(a:Q4 m (ZP m) z R wr er):er=10->jC m.fs=0:=fun c=>by
 subst c;rcases a.2 with a|⟨b,a,d⟩|⟨_,q,i,b,v,t,s,r,a,d,l⟩;·rcases a with⟨e,_⟩|⟨_,_,_,_,_,_,_,_,_,_,_,_,_,⟨e,_⟩|⟨e,_⟩⟩<;>cases e
 ·rcases a with⟨e,_⟩|⟨q,i,u,w,x,f,g,h,j,_⟩
  ·cases e
  grind[Zu,ZZ]
 grind[zas,zl2]
theorem zqo{x:On}{e:En}(h:x.is=Xc):(ZZ m x e).2.2=0\/(ZZ m x e).2.2=9:=by grind[ZZ]
structure zcs(wr:Bool)(m:Ma)(q n:Nat)(s:Sp)(a:Ar)(pg:Pg)(ic:Bool)(k:Nat)(m':Ma):Prop where
 sp:m.sp[q]?=Xa s
 n64:n<64
 ok:jS a
 on:zl s.aC n=z5 a n
 may:(if wr=Xc then a.wr else a.rd)=Xc
 see:ZZ m (zl s.aC n) (zh s n)=(pgL pg,ic,0)
 rt:Rt m'
 aM:Sam (fun p j=>p=q/\j=n) m m'
 fsl:m'.fs.length=m.fs.length
 into:∃(s':Sp)(fr:Fr)(w:Bool),m'.sp[q]?=Xa s'/\m'.fs[k]?=Xa fr/\zh s' n=⟨1,(k:Int),w⟩/\fr.p=pg/\fr.r≠0/\(wr=Xc->w=Xc/\((fr.f=-1/\fr.r<=1)\/a.sh=Xc))/\(wr=Xd->0<=a.file->decide (fr.f<0)=ic)
theorem ziO(N:Rt m){wr:Bool}(a2:zp4 m (ZP m) z R wr k m'):∃(q i:Nat)(s:Sp)(a:Ar)(pg:Pg)(h:Bool),z=(q:Int)/\R=(i:Int)/\zcs wr m q i s a pg h k m':=by
 obtain⟨q,i,a,pg,h,a5,y,w,A,B,a0,a1,u,x⟩:=a2;obtain⟨s,g,e,P,I,d,r⟩:=zas A y w;rw[y,w,Zu N g e]at B;have b:=zkz N g e P I d B a0;rw[<-a1]at b;generalize(jB m (ZP m q i a pg wr) pg a h wr q i).2.2=mB at b u x;obtain⟨p,X,a8,j,F,S,T,l,G⟩:=b.into;rw[u]at F;cases F;have K:=(b.aM.sp q s p g j).2;have H:(zl p.aC i).sh=a.sh:=by rw[K,d];rfl
 have V:(zl s.aC i).sh=a.sh:=Rr d;have W:(zl s.aC i).file=a.file:=Rr d
 rw[V]at l;rw[W]at G;obtain⟨C,D,⟨a7,a4,E⟩,Q⟩:=zqy b.rt j e u S wr (fun f=>⟨by
  rw[K,d];rw[kE f]at r;exact r,by rw[H];exact l f⟩)
 rw[H,<-x]at C D E Q;have:∃t,m'.sp[q]?=Xa t:=⟨_,gE (by rw[D.aI];exact(gS.1 j).1)⟩;obtain⟨t,n⟩:=this;have v:m'.fs.length=mB.fs.length:=by
  rw[x];unfold Jo;split
  ·show(mB.fs.set _ _).length=_
   grind
  grind
 have c:=Q t n;obtain⟨a3,Y,L,M,a6,Z⟩:=C.aU n e (by rw[c]);rw[c]at L;have:k=a3:=Int.ofNat.inj L;subst this;rw[E]at M;cases M;exact⟨q,i,s,a,pg,h,y,w,g,e,P,d,r,B,C,(b.aM.trans D).mono (fun _ _ U=>U.elim id False.elim),v.trans b.fsl,t,_,_,n,E,c,T,Z,fun f=>⟨by rw[f,Bool.or_true],l f⟩,G⟩
theorem zd8(u:Rt m){wr:Bool}(k:Q4 m (ZP m) z R wr er):
  (er=5/\((z<0\/(m.sp.length:Int)<=z)\/∃(q:Nat)(s:Sp),z=(q:Int)/\m.sp[q]?=Xa s/\∀a∈s.aC,inZ a R=Xd))\/
  (∃(q i:Nat)(s:Sp),z=(q:Int)/\R=(i:Int)/\i<64/\m.sp[q]?=Xa s/\(zl s.aC i).is=Xc/\((er=8/\(if wr=Xc then(zl s.aC i).wr else(zl s.aC i).rd)=Xd)\/((if wr=Xc then(zl s.aC i).wr else(zl s.aC i).rd)=Xc/\((er=9/\(ZZ m (zl s.aC i) (zh s i)).2.2=9)\/(er=10/\(ZZ m (zl s.aC i) (zh s i)).2.2=0/\jC m.fs=0))))):=by
 have c:=zhD u k;rcases k.2 with b|⟨a,b,l⟩|⟨A,q,i,a,Q,P,w,v,b,l,N⟩
 ·rcases b with⟨e,_,f⟩|⟨q,i,H,s,K,g,f,h,j,B,C,D,d,⟨e,_,t⟩|⟨e,_⟩⟩
  ·grind
  ·exact .inr ⟨q,i,s,g,f,h,j,Rr d,.inl ⟨e,Rx d t⟩⟩
  exact absurd e k.1
 ·rcases b with⟨e,_⟩|⟨q,i,H,s,K,g,f,h,j,B,C,D,d,⟨e,_⟩|⟨_,t,r⟩⟩
  ·cases e
  ·cases e
  rw[g,f,Zu u j h]at l;refine .inr ⟨q,i,s,g,f,h,j,Rr d,.inr ⟨by rw[d];subst t;exact r,.inl ?_⟩⟩;have G:=k.1;have F:(zl s.aC i).is=Xc:=Rr d;grind[zqo,zh]
 obtain⟨s,x,y,L,M,p,E⟩:=zas b w v;rw[w,v,Zu u x y]at l;exact .inr ⟨q,i,s,w,v,y,x,Rr p,.inr ⟨Rx p E,.inr ⟨A,by rw[l],c A⟩⟩⟩
theorem zL.cC(c:o.op=.alloc 68)(h:M (Xj (Xa ⟨w.heap.size,0,Xb⟩)) (w.alloc (Xk (zD (tab fun _=>on0)).toArray 68))):zL prog o a w M:=by
 have b:=zbU w;generalize zD (tab fun _=>on0)=Z at b h;unfold zL;have:(execOp a.eval o).run prog w=.ok (.value (Xj (Xa ⟨w.heap.size,0,Xb⟩))) (w.alloc (Xk Z.toArray 68)):=by
  simp[execOp,c,go_sem,b]
 rw[this];exact h
theorem zL.oneArea(x)(b:o.op=.buildSlice 58 1 #[(0,x)])(q)(c:a.eval x=arA q)(h:M (O (Xa ⟨w.heap.size,0,Xb⟩) 1 1) (w.alloc (Xk (arv q).toArray 77))):zL prog o a w M:=by
 unfold zL;have:(execOp a.eval o).run prog w=.ok (.value (O (Xa ⟨w.heap.size,0,Xb⟩) 1 1)) (w.alloc (Xk (arv q).toArray 77)):=by
  simp only[execOp,b,Ya,mP,Xt,c];simp[go_sem,arA,arv]
 rw[this];exact h
theorem zL.val{v:Xq}(b:(execOp a.eval o).run prog w=.ok (.value v) w)(h:M v w):zL prog o a w M:=by unfold zL;rw[b];exact h
theorem zmG(x)(d:o.op=.load 77 x)(b:Nat)(e:a.eval x=Xj (Xa ⟨b,0,Xb⟩))(c:Box w b (arv C)):(execOp a.eval o).run prog w=.ok (.value (arA C)) w:=by have:=run_loadAt_mid (P:=prog) w b 0 77 (arv C) _ c.range underlying77 rfl zst;simp only[execOp,d,e,Xv,this,rA,Xu];rfl
def zhN:List Oper:=[
 {dst:=some 23,op:=.move (.tmp 0),type:=58,pos:="ref.go:325",after:=#[],guard:=none},
 {dst:=some 24,op:=.call {callee:=.value (.func 16),args:=#[.tmp 23],argTypes:=#[58]},type:=68,pos:="ref.go:325",after:=#[{on:=0,ground:=.data}],guard:=none},
 {dst:=some 25,op:=.load 77 (.tmp 3),type:=77,pos:="ref.go:325",after:=#[],guard:=none},
 {dst:=some 26,op:=.buildSlice 58 1 #[(0,.tmp 25)],type:=58,pos:="ref.go:325",after:=#[{on:=2,ground:=.data}],guard:=none},
 {dst:=some 27,op:=.call {callee:=.value (.func 16),args:=#[.tmp 26],argTypes:=#[58]},type:=68,pos:="ref.go:325",after:=#[{on:=3,ground:=.data},{on:=1,ground:=.chain}],guard:=none},
 {dst:=some 8,op:=.alloc 68,type:=0,pos:="ref.go:325",after:=#[],guard:=none},
 {dst:=some 9,op:=.alloc 68,type:=0,pos:="ref.go:325",after:=#[],guard:=none},
 {dst:=none,op:=.store 68 (.tmp 8) (.tmp 24),type:=0,pos:="ref.go:325",after:=#[{on:=5,ground:=.data},{on:=1,ground:=.data},{on:=4,ground:=.chain},{on:=0,ground:=.phase},{on:=1,ground:=.phase},{on:=2,ground:=.textOnly .lateStores},{on:=3,ground:=.textOnly .lateStores},{on:=4,ground:=.textOnly .lateStoresUnsure},{on:=5,ground:=.phase},{on:=6,ground:=.phase}],guard:=none},
 {dst:=none,op:=.store 68 (.tmp 9) (.tmp 27),type:=0,pos:="ref.go:325",after:=#[{on:=6,ground:=.data},{on:=4,ground:=.data},{on:=7,ground:=.chain},{on:=0,ground:=.phase},{on:=1,ground:=.phase},{on:=2,ground:=.phase},{on:=3,ground:=.phase},{on:=4,ground:=.phase},{on:=5,ground:=.phase},{on:=6,ground:=.phase},{on:=7,ground:=.phase}],guard:=none}]
theorem zo1:∀c a d b e f g:Bool,(Yq .any zhN.toArray #[c,a,d,b,e,f,g,Xd,Xd]).isEmpty=Xd\/(e=Xc/\(a=Xd\/b=Xd))\/(a=Xc/\c=Xd)\/(b=Xc/\d=Xd):=by decide+kernel
theorem zmZ:∀c a d b e f g:Bool,(!((!a||c)&&(!b||d)&&(!e||(a&&b)))||(Yq .any zhN.toArray #[c,a,d,b,e,f,g,Xd,Xd]).all fun i=>(i==0&&!c)||(i==1&&!a&&c)||(i==2&&!d)||(i==3&&!b&&d)||(i==4&&!e&&a&&b)||(i==5&&!f)||(i==6&&!g)||(i==7&&c&&a&&d&&b&&e&&f&&g))=Xc:=by decide+kernel
theorem zo2(l0 l1 l2 l3 l4 l5 l6:Bool)(i:Nat)(a:l1=Xc->l0=Xc)(b:l3=Xc->l2=Xc)(c:l4=Xc->l1=Xc/\l3=Xc)(hi:i∈Yq .any zhN.toArray #[l0,l1,l2,l3,l4,l5,l6,Xd,Xd]):(i=0/\l0=Xd)\/(i=1/\l1=Xd/\l0=Xc)\/(i=2/\l2=Xd)\/(i=3/\l3=Xd/\l2=Xc)\/(i=4/\l4=Xd/\l1=Xc/\l3=Xc)\/(i=5/\l5=Xd)\/(i=6/\l6=Xd)\/(i=7/\l0=Xc/\l1=Xc/\l2=Xc/\l3=Xc/\l4=Xc/\l5=Xc/\l6=Xc):=by
 have d:((!l1||l0)&&(!l3||l2)&&(!l4||(l1&&l3)))=Xc:=by
  cases l0<;>cases l1<;>cases l2<;>cases l3<;>cases l4<;>simp at a b c⊢
 have a:=zmZ l0 l1 l2 l3 l4 l5 l6;rw[d,Bool.not_true,Bool.false_or]at a;have h:=List.all_eq_true.1 a i hi;simpa[and_assoc,or_assoc]using h
structure zkH(W0:Xn)(v:Xq)(q:Ar)(O1 O2 Z0:List Xq)(l0 l1 l2 l3 l4 l5 l6:Bool)(t23 t24 t25 t26 t27 t8 t9:Xq)(W:Xn):Prop where
 g:zc W0 W
 h0:l0=Xc->t23=v
 h1:l1=Xc->t24=Xi O1.toArray
 h2:l2=Xc->t25=arA q
 h3:l3=Xc->zq arE W t26 [q]
 h4:l4=Xc->t27=Xi O2.toArray
 h5:l5=Xc->∃b,t8=Xj (Xa ⟨b,0,Xb⟩)/\Box W b Z0/\W0.heap.size<=b
 h6:l6=Xc->∃b,t9=Xj (Xa ⟨b,0,Xb⟩)/\Box W b Z0/\W0.heap.size<=b
 ne:l5=Xc->l6=Xc->t8≠t9
 c1:l1=Xc->l0=Xc
 c3:l3=Xc->l2=Xc
 c4:l4=Xc->l1=Xc/\l3=Xc
section
variable{W0:Xn}{v:Xq}{q:Ar}{O1 O2 Z0:List Xq}{l0 l1 l2 l3 l4 l5 l6:Bool}{t23 t24 t25 t26 t27 t8 t9:Xq}{W W':Xn}
theorem zkH.aA(h:zkH W0 v q O1 O2 Z0 l0 l1 l2 l3 l4 l5 l6 t23 t24 t25 t26 t27 t8 t9 W)(k:zc W W'):zkH W0 v q O1 O2 Z0 l0 l1 l2 l3 l4 l5 l6 t23 t24 t25 t26 t27 t8 t9 W':=
 ⟨h.g.trans k,h.h0,h.h1,h.h2,fun e=>(h.h3 e).aA k,h.h4,fun e=>by obtain⟨b,x,y,z⟩:=h.h5 e;exact⟨b,x,y.aA k,z⟩,fun e=>by obtain⟨b,x,y,z⟩:=h.h6 e;exact⟨b,x,y.aA k,z⟩,h.ne,h.c1,h.c3,h.c4⟩
def Jp(l0 l1 l2 l3 l4 l5 l6:Bool):Nat:=(!l0).toNat+(!l1).toNat+(!l2).toNat+(!l3).toNat+(!l4).toNat+(!l5).toNat+(!l6).toNat
theorem zlg{pa:Nat}(A:Xq->Xq->Xq->Xq->Xq->Xq->Xq->Act)
  (am:∀c d e b f i j,(A c d e b f i j).eval (.tmp 0)=v)(an:∀c d e b f i j,(A c d e b f i j).eval (.tmp 3)=Xj (Xa ⟨pa,0,Xb⟩))
  (I:∀c d e b f i j,(A c d e b f i j).eval (.tmp 23)=c)(a0:∀c d e b f i j,(A c d e b f i j).eval (.tmp 24)=d)(a1:∀c d e b f i j,(A c d e b f i j).eval (.tmp 25)=e)(a2:∀c d e b f i j,(A c d e b f i j).eval (.tmp 26)=b)(a3:∀c d e b f i j,(A c d e b f i j).eval (.tmp 27)=f)(ao:∀c d e b f i j,(A c d e b f i j).eval (.tmp 8)=i)(ap:∀c d e b f i j,(A c d e b f i j).eval (.tmp 9)=j)
  (ae:∀c d e b f i j y,(A c d e b f i j).put (Xa 23) y=A y d e b f i j)(af:∀c d e b f i j y,(A c d e b f i j).put (Xa 24) y=A c y e b f i j)(ag:∀c d e b f i j y,(A c d e b f i j).put (Xa 25) y=A c d y b f i j)(ah:∀c d e b f i j y,(A c d e b f i j).put (Xa 26) y=A c d e y f i j)(ai:∀c d e b f i j y,(A c d e b f i j).put (Xa 27) y=A c d e b y i j)(ba:∀c d e b f i j y,(A c d e b f i j).put (Xa 8) y=A c d e b f y j)(bb:∀c d e b f i j y,(A c d e b f i j).put (Xa 9) y=A c d e b f i y)
  (aj:∀c d e b f i j y,(A c d e b f i j).put Xb y=A c d e b f i j)
  (b5:zq arE W0 v l)(b2:zrk l)(ay:jS q)(az:Box W0 pa (arv q))
  (aw:∀W B C b,B≠C->zc W0 W->Box W B (zD (tab (zl l)))->Box W C (zD (tab (zl [q])))->W0.heap.size<=B->W0.heap.size<=C->Q .normal (A v (Xi (zD (tab (zl l))).toArray) (arA q) b (Xi (zD (tab (zl [q]))).toArray) (Xj (Xa ⟨B,0,Xb⟩)) (Xj (Xa ⟨C,0,Xb⟩))) W)
  (c d e b f i j:Xq):(Code.region id zhN.toArray Xc).wp prog Q (A c d e b f i j) W0:=by
 have a6:(zD (tab (zl l))).length=384:=Zk _;have a7:(zD (tab (zl [q]))).length=384:=Zk _;have X:(zD (tab fun _=>on0)).length=384:=Zk _;have aa:∀W,zc W0 W->Xp prog 16 #[v] W fun x m=>x=Xl (Xi (zD (tab (zl l))).toArray)/\zc W m:=fun W ax=>Zo v l W (b5.aA ax) b2;have ab:∀W Y,zq arE W Y [q]->Xp prog 16 #[Y] W fun x m=>x=Xl (Xi (zD (tab (zl [q]))).toArray)/\zc W m:=fun W Y b4=>Zo Y [q] W b4 (zo6 ay);have ac:=JM (tab (zl l));have ad:=JM (tab (zl [q]));have M:∀W:Xn,Box (W.alloc (Xk (zD (tab fun _=>on0)).toArray 68)) W.heap.size (zD (tab fun _=>on0)):=fun W=>Box.aF _ _ _ rfl;generalize zD (tab (zl l))=H at*;generalize zD (tab (zl [q]))=V at*;have T:∀(U:Nat)(s t u w n p r:Bool)(c d e b f i j:Xq)(W:Xn),Jp s t u w n p r=U->zkH W0 v q H V (zD (tab fun _=>on0)) s t u w n p r c d e b f i j W->wpAnyH prog .any zhN.toArray Q (fun _=>True) (U+2) #[s,t,u,w,n,p,r,Xd,Xd] (A c d e b f i j) W:=by
  intro U;induction U with
  |zero=>
   intro s t u w n p r c d e b f i j W h g;obtain⟨rfl,rfl,rfl,rfl,rfl,rfl,rfl⟩:s=Xc/\t=Xc/\u=Xc/\w=Xc/\n=Xc/\p=Xc/\r=Xc:=by
    revert h;unfold Jp;cases s<;>cases t<;>cases u<;>cases w<;>cases n<;>cases p<;>cases r<;>simp
   obtain⟨B,rfl,a8,P⟩:=g.h5 rfl;obtain⟨C,rfl,a9,R⟩:=g.h6 rfl;have F:B≠C:=fun x=>g.ne rfl rfl (by rw[x]);obtain rfl:=g.h0 rfl;obtain rfl:=g.h1 rfl;obtain rfl:=g.h2 rfl;obtain rfl:=g.h4 rfl;refine wpAnyH_all (rs:=[7]) Kr Sm ?_;intro b7 N;rw[Yb]at N;subst N;refine ZV Xb (fun _ m=>Box m B H/\Box m C (zD (tab fun _=>on0))/\zc W0 m) rfl rfl rfl (zL.storeAll 68 (.tmp 8) (.tmp 24) rfl B (ao ..) H (a0 ..) a8 (by rw[a6,X]) (Rx X zsw) ac (fun m Z K bc=>⟨Z,a9.grown K (fun x=>F x.symm),zd g.g K P⟩)) ?_;rintro y bd⟨ar,L,au⟩;rw[aj];refine⟨trivial,?_⟩;refine wpAnyH_all (rs:=[8]) Kr Sm ?_;intro b7 N;rw[Yb]at N;subst N;refine ZV Xb (fun _ m=>Box m B H/\Box m C V/\zc W0 m) rfl rfl rfl (zL.storeAll 68 (.tmp 9) (.tmp 27) rfl C (ap ..) V (a3 ..) L (by rw[a7,X]) (Rx X zsw) ad (fun m Z K bc=>⟨ar.grown K F,Z,zd au K R⟩)) ?_;rintro y ak⟨av,a4,a5⟩;rw[aj];refine⟨trivial,?_⟩;exact wpAnyH_done Kr (aw ak B C _ F a5 av a4 P R) _
  |succ U G=>
   intro s t u w n p r c d e b f i j W h g;refine⟨fun aq=>?_,fun b6 b1=>?_⟩
   ·rcases zo1 s t u w n p r with k|⟨k,z⟩|⟨k,z⟩|⟨k,z⟩
    ·rw[aq]at k;cases k
    ·have:=g.c4 k
     rcases z with z|z;·rw[this.1]at z;cases z
     rw[this.2]at z;cases z
    ·rw[g.c1 k]at z;cases z
    rw[g.c3 k]at z;cases z
   rcases zo2 s t u w n p r b6 g.c1 g.c3 g.c4 b1 with⟨rfl,rfl⟩|⟨rfl,rfl,rfl⟩|⟨rfl,rfl⟩|⟨rfl,rfl,rfl⟩|⟨rfl,rfl,rfl,rfl⟩|⟨rfl,rfl⟩|⟨rfl,rfl⟩|⟨rfl,rfl,rfl,rfl,rfl,rfl,rfl,rfl⟩
   ·refine ZV (Xa 23) (fun y m=>y=v/\m=W) rfl rfl rfl (zL.val (v:=v) (by rw[<-am c d e b f i j];rfl) ⟨rfl,rfl⟩) ?_
    rintro y m⟨rfl,rfl⟩;rw[ae];refine⟨trivial,G Xc t u w n p r _ _ _ _ _ _ _ _ (by unfold Jp at h⊢;simp at h⊢;omega) ⟨g.g,fun _=>rfl,g.h1,g.h2,g.h3,g.h4,g.h5,g.h6,g.ne,fun _=>rfl,g.c3,g.c4⟩⟩
   ·refine ZV (Xa 24) (fun y m=>y=Xi H.toArray/\zc W m) rfl rfl rfl (zL.call [v] rfl func16 rfl rfl (by rw[mP,Xt,I,g.h0 rfl]) ((aa W g.g).mono (fun x m k=>⟨_,k.1,rfl,k.2⟩))) ?_
    rintro y m⟨rfl,D⟩;rw[af];have a:=g.aA D;refine⟨trivial,G Xc Xc u w n p r _ _ _ _ _ _ _ _ (by unfold Jp at h⊢;simp at h⊢;omega) ⟨a.g,a.h0,fun _=>rfl,a.h2,a.h3,a.h4,a.h5,a.h6,a.ne,fun _=>rfl,a.c3,fun k=>⟨rfl,(a.c4 k).2⟩⟩⟩
   ·refine ZV (Xa 25) (fun y m=>y=arA q/\m=W) rfl rfl rfl (zL.val (v:=arA q) (zmG (.tmp 3) rfl pa (an ..) (az.aA g.g)) ⟨rfl,rfl⟩) ?_
    rintro y m⟨rfl,rfl⟩;rw[ag];refine⟨trivial,G s t Xc w n p r _ _ _ _ _ _ _ _ (by unfold Jp at h⊢;simp at h⊢;omega) ⟨g.g,g.h0,g.h1,fun _=>rfl,g.h3,g.h4,g.h5,g.h6,g.ne,g.c1,fun _=>rfl,g.c4⟩⟩
   ·refine ZV (Xa 26) (fun y m=>zq arE m y [q]/\zc W m) rfl rfl rfl (zL.oneArea (.tmp 25) rfl q (by rw[a1,g.h2 rfl]) ⟨q8 arE W q _ _ rfl (by show 40<=_;omega),za _ _⟩) ?_
    rintro y m⟨b3,D⟩;rw[ah];have a:=g.aA D;refine⟨trivial,G s t Xc Xc n p r _ _ _ _ _ _ _ _ (by unfold Jp at h⊢;simp at h⊢;omega) ⟨a.g,a.h0,a.h1,a.h2,fun _=>b3,a.h4,a.h5,a.h6,a.ne,a.c1,fun _=>rfl,fun k=>⟨(a.c4 k).1,rfl⟩⟩⟩
   ·refine ZV (Xa 27) (fun y m=>y=Xi V.toArray/\zc W m) rfl rfl rfl (zL.call [b] rfl func16 rfl rfl (by rw[mP,Xt,a2]) ((ab W b (g.h3 rfl)).mono (fun x m k=>⟨_,k.1,rfl,k.2⟩))) ?_
    rintro y m⟨rfl,D⟩;rw[ai];have a:=g.aA D;refine⟨trivial,G s Xc u Xc Xc p r _ _ _ _ _ _ _ _ (by unfold Jp at h⊢;simp at h⊢;omega) ⟨a.g,a.h0,a.h1,a.h2,a.h3,fun _=>rfl,a.h5,a.h6,a.ne,a.c1,a.c3,fun _=>⟨rfl,rfl⟩⟩⟩
   ·refine ZV (Xa 8) (fun y m=>y=Xj (Xa ⟨W.heap.size,0,Xb⟩)/\Box m W.heap.size (zD (tab fun _=>on0))/\zc W m) rfl rfl rfl (zL.cC rfl ⟨rfl,M W,za _ _⟩) ?_
    rintro y m⟨rfl,E,D⟩;rw[ba];have a:=g.aA D;refine⟨trivial,G s t u w n Xc r _ _ _ _ _ _ _ _ (by unfold Jp at h⊢;simp at h⊢;omega) ⟨a.g,a.h0,a.h1,a.h2,a.h3,a.h4,fun _=>⟨_,rfl,E,bS g.g⟩,a.h6,fun _ a5=>?_,a.c1,a.c3,a.c4⟩⟩;obtain⟨al,rfl,L,_⟩:=g.h6 a5;intro x;cases x;exact absurd L.lt (Yp _)
   ·refine ZV (Xa 9) (fun y m=>y=Xj (Xa ⟨W.heap.size,0,Xb⟩)/\Box m W.heap.size (zD (tab fun _=>on0))/\zc W m) rfl rfl rfl (zL.cC rfl ⟨rfl,M W,za _ _⟩) ?_
    rintro y m⟨rfl,E,D⟩;rw[bb];have a:=g.aA D;refine⟨trivial,G s t u w n p Xc _ _ _ _ _ _ _ _ (by unfold Jp at h⊢;simp at h⊢;omega) ⟨a.g,a.h0,a.h1,a.h2,a.h3,a.h4,a.h5,fun _=>⟨_,rfl,E,bS g.g⟩,fun a4 _=>?_,a.c1,a.c3,a.c4⟩⟩;obtain⟨al,rfl,L,_⟩:=g.h5 a4;intro x;cases x;exact absurd L.lt (Yp _)
   unfold Jp at h;simp at h
 refine wp_region_held (S:=fun _=>True) z1 ?_;have b0:zc W0 {W0 with drawn:=W0.drawn+1}:=show Below _ _ _ from Below.drew (bR _ _);exact T 7 Xd Xd Xd Xd Xd Xd Xd c d e b f i j _ rfl ⟨b0,fun k=>(by cases k),fun k=>(by cases k),fun k=>(by cases k),fun k=>(by cases k),fun k=>(by cases k),fun k=>(by cases k),fun k=>(by cases k),fun k=>(by cases k),fun k=>(by cases k),fun k=>(by cases k),fun k=>(by cases k)⟩
end
def zr3(R:List Ar×Int)(w:Xn)(e:Ending)(w':Xn):Prop:=(∃u,e=Xl (Xm #[u,Xe Xf R.2])/\zb arE w.heap.size w' u R.1)/\zc w w'
def zfN(l:List Ar)(a:Ar)(k:Nat):Nat->On:=fun j=>if j<k/\Z7 a j=Xc then z5 a j else zl l j
theorem zpD(l a):zfN l a 0=zl l:=by funext j;unfold zfN;rw[kF Wm]
theorem zrM(l a)(k:Nat):zfN l a k k=zl l k:=by unfold zfN;rw[kF Wm]
theorem zqY(h:Z7 C k=Xc):upd (zfN l C k) k (z5 C k)=zfN l C (k+1):=by grind[upd,zfN,Z7]
theorem zpE(h:Z7 C k=Xd):zfN l C k=zfN l C (k+1):=by grind[zfN,Z7,Nat.lt_or_ge]
theorem zqZ(l a):tab (zfN l a 64)=tab (zjc l a):=zqd fun k b=>by grind[zfN,zjc,Z7]
theorem zpS(a)(k:Nat):zl [a] k=if Z7 a k=Xc then z5 a k else on0:=rfl
theorem zmO(a)(k:Nat):(zl [a] k).is=Z7 a k:=by
 rw[zpS];cases h:Z7 a k with
 |true=>rfl
 |false=>rfl
theorem zrE(c:k<64)(h:Z7 C k=Xc)(b:(zl l k).is=Xc):zoq l C.fr (C.tz-C.fr)=Xc:=zpd.2 ⟨k,c,Hm (q5.1 h),b⟩
theorem zpc(h:∀k,k<64->Z7 C k=Xc->(zl l k).is=Xd):zoq l C.fr (C.tz-C.fr)=Xd:=zqD.2 fun k b c=>h k b (q5.2 Wm)
def Frk(w0:Xn)(hi b:Nat)(w:Xn)(vl:Sli)(L:List Int)(m:Ma)(l:List Ar)(w':Xn):Prop:=∃V' m' vt' T',Mk w0 hi w' b vl L V' m' vt' T'/\zK hi w w'/\qL m' T'/\(m'.sp=m.sp++[⟨Xc,l,qU⟩]/\m'.fl=m.fl/\m'.aB=m.aB/\m'.fs.length=m.fs.length)
theorem zeE(p x t)(r:o.op=.store t p x)(base:Nat)(v:Xq)(l:List α)(b:zb E base w v l)
  (g i j:Nat)(m:v.ownBlock=Xa g)(e y:α)(hi:l[i]?=Xa e)(cs:List Xq)(q:(Tryz.prog.info? t).map (·.size)=Xa cs.length)(z:E.enc y=splice (E.enc e) j cs)(n:j+cs.length<=E.k)(k:∀u∈cs,u.oneCell'=Xc)
  (ad:Addr)(hp:a.eval p=Xj (Xa ad))(d:ad=⟨g,i*E.k+j,Xb⟩)(c:Xq)(s:a.eval x=c)(f:c.cells=cs.toArray)
  (h:∀w',zb E base w' v (l.set i y)->w.grownBy w' (Xa g)->w'.heap.size=w.heap.size->M undef w'):zL prog o a w M:=by grind[zbe,zeF]
theorem Mk.entry(h:Mk w0 hi w b vl L V m vt T)(hp:zt w k 55 D)(f:hi<=k)(a:w.grownBy w' (Xa k)):Mk w0 hi w' b vl L V m vt T:=by
 have d:b≠k:=fun e=>by
  subst e;have k:w.heap[b]?=_:=h.box;rw[show w.heap[b]?=_ from hp]at k;cases k
 have r:=h.rows;obtain⟨k,g,i,j,cs,l,n,p,q⟩:=r.kept a hp;exact⟨zd h.gr a (nT r.bh f),h.hb,h.box.beside a (fun f e=>by cases e;exact d),h.lr,h.lc,h.lb,⟨nT r.hw a.size,r.bh,k Dc,g (.inl Dc),r.bA,i (.inl Dc),r.bG,r.sq,j (.inl Dc),r.bF,cs Dc,l Dc (.inl Dc),n Dc,p Dc Dc,q Dc,r.ap⟩⟩
theorem zpp(s0:Sp)(fn:Mk w0 hi w b vl L V m vt T)(d4:qL m T)(bz:m.sp=[s0]):
  Xp prog 26 #[Xj (Xa ⟨b,0,Xb⟩)] w fun e w'=>(∃v,e=Xl v)/\Frk w0 hi b w vl L m s0.aC w':=by
 have ah:=dD fn;have h8:=dD d4;have f3:=dD bz;obtain⟨H,rfl⟩:∃H,T=[H]:=Yc.1 (by rw[d4.tl,bz];rfl);obtain⟨j0,fz,g0,g3⟩:=fn.rows.sp;obtain⟨s,rfl⟩:∃s,j0=[s]:=Yc.1 (by rw[g0,bz];rfl);obtain⟨ce,eo,bq⟩:=fz.aG Sm;have bq:V.sp.x=(O (Xa ⟨ce,0,Xb⟩) 1 eo):=bq;have b4:=dD bq;have dq:Xo (zb Qg w0.heap.size w (V.sp.x) [s]):=fz;have i0:=dD g0;have i4:=dD g3;have g5:Xo (zb arE w0.heap.size w s.ar.v s0.aC):=(g3 0 s s0 rfl (Rr bz)).2.1;have dk:Xo ((wrL s0.aC).1=0):=(d4.aQ s0 (by rw[bz];simp)).1;have de:Xo (∀dr,zb arE w0.heap.size dr s.ar.v s0.aC->Xp prog 16 #[s.ar.x] dr fun e w'=>e=Xl (Xi (zD (tab (zl s0.aC))).toArray)/\zc dr w'):=dD<|fun dr ii=>Zo s.ar.v s0.aC dr ii.at (jL.1 dk).2.cE;have gm:=zbU;obtain⟨gh,dl⟩:=kA (zD (tab fun _=>on0));rw[dl.out]at gm;have dm:Xo (gh.length=384):=dD<|by rw[<-dl.out,Zk]
 have df:Xo ((zD (tab (zl s0.aC))).length=384):=Zk _;have dg:Xo (∀v∈zD (tab (zl s0.aC)),v.oneCell'=Xc):=JM _;have d9:Xo (∀c,c<64->(zD (tab (zl s0.aC)))[c*6+3]?=Xa (Xh (zl s0.aC c).sh)):=show∀c,_ from fun c fu=>Qn (zat fu) 3 _ rfl;generalize zD (tab (zl s0.aC))=ap at de df dg d9;clear fn d4 bz fz g0 g3 bq;go_enter func26,ntmps26;try go_upto_region 0 with fail
 obtain⟨h,l⟩:=Ww fun d=>zt d b 81 [vl.x,V.f.x,I6 m.aB,V.s.x,V.sb.x,V.sq.x,V.db.x,V.dq.x,V.fl.x,I6 m.cnt,V.ca.x,V.sp.x,vt.x]/\zb Qg w0.heap.size d (O (Xa ⟨ce,0,Xb⟩) 1 eo) [s];have j:h w.drew:=(l _).2 ⟨ah.box.aA (gW _),by rw[<-b4.out];exact dq.aA (gW _)⟩;have bc:∀a:zg h,a.world.cell? ⟨b,11,Xb⟩=Xa (O (Xa ⟨ce,0,Xb⟩) 1 eo):=fun a=>by
  have:=((l _).1 a.holds).1.box.c 11 rfl;rw[b4.out]at this;exact this
 have cp:∀a:zg h,a.world.cell? ⟨ce,1,Xb⟩=Xa (s.ar.x):=fun a=>by
  have:=((l _).1 a.holds).2.one (i:=0) (x:=s) rfl 1 _ rfl;rw[zX,Xz]at this;exact this
 have ab:Nonempty (zg h):=⟨⟨_,j⟩⟩;refine zN (I:=h) 20 [(15,fun v=>∃P,v=O (Xa ⟨P,0,Xb⟩) 1 1),(16,fun v=>∃P i9,v=O (Xa ⟨P,0,Xb⟩) 2 i9)] (fun d=>zc w d) j (gW _) z1 Kr rfl rfl Dc (Sb ⟨_,0,rfl⟩ ⟨_,0,0,rfl⟩) Kr ?_;simp only[Xw,Xx];iterate 2 refine zj ?_
 refine zW (.tmp 6) ⟨b,0,Xb⟩ rfl rfl rfl rfl ?_;refine Uq ?_;iterate 4 refine zj ?_
 refine zW (.tmp 11) ⟨b,0,Xb⟩ rfl rfl rfl rfl ?_;refine Uq ?_;iterate 7 refine zj ?_
 refine zC rfl rfl (fun v d=>zc w d/\zq Qg d v [⟨Xc,s.ar,zP,zP,zP,zP,zP,zP,zP,zP⟩]) (fun w' b9 b8=>?_) (fun gp et=>?_);·obtain⟨eu,cq⟩:=(l _).1 b9;refine zL.step (v:=O (Xa ⟨w'.heap.size,0,Xb⟩) 1 1) (w':=w'.alloc (Xk #[Xh Xc,s.ar.x,eS,eS,eS,eS,eS,eS,eS,eS] 63)) (by clear bc cp;simp only[execOp];go_simp) ⟨(l _).2 ⟨eu.aA (za _ _),cq.aA (za _ _)⟩,⟨_,rfl⟩,b8.trans (za _ _),q8 Qg w' ⟨Xc,s.ar,zP,zP,zP,zP,zP,zP,zP,zP⟩ _ _ rfl Dc⟩
 obtain⟨fl,rfl⟩:=et;refine Uq ?_;refine zC rfl rfl (fun v d=>∃ex,zc w ex/\ex.grownBy d (Xa ce)/\zb Qg w0.heap.size d v [s,⟨Xc,s.ar,zP,zP,zP,zP,zP,zP,zP,zP⟩]) (fun w' b9 b8=>?_) (fun gp et=>?_)
 ·obtain⟨eu,cq⟩:=(l _).1 b9;obtain⟨ec,fx⟩:=b8;obtain⟨j3,gq,eb,gl,e5,fu⟩:=qI (E:=Qg) (w:=w') 39 cq (O (Xa ⟨fl,0,Xb⟩) 1 1) [⟨Xc,s.ar,zP,zP,zP,zP,zP,zP,zP,zP⟩] fx (by show(1+1)*224<=_;omega) (nT (bS ah.gr) (bS ec));obtain⟨ic,ia,rfl⟩:=gl.aG Sm;refine zL.step (v:=O (Xa ⟨ic,0,Xb⟩) 2 ia) (w':=gq) ?_ ⟨(l _).2 ⟨zt.row cq e5 eu Dc,fu _ [s] (nR _) cq⟩,⟨_,_,rfl⟩,w',ec,e5,gl⟩;clear bc cp;simp only[execOp,resolve,invoke,builtin,pure_bind,Xv,Xu,Ya,mP,Xt];exact Eq.trans (congrArg (fun r=>Result.andThen r (fun d1 w'=>Result.ok (Next.value d1) w')) eb) rfl
 obtain⟨bj,bw,rfl⟩:=et;refine Uq ?_;refine zW (.tmp 5) ⟨b,0,Xb⟩ rfl rfl rfl rfl ?_;refine Uq ?_;iterate 2 refine zj ?_
 refine qN fun aq dy fp=>?_;obtain⟨ex,b6,cd,cu⟩:=fp;have c2:=dD<|((l _).1 dy).1;have af:ex.grownBy aq (V.sp.x).ownBlock:=Rx b4.out cd
 have hy:Xo (MkR w0.heap.size hi aq {V with sp:=⟨Xa ⟨bj,0,Xb⟩,2,bw⟩} {m with sp:=m.sp++[⟨Xc,s0.aC,qU⟩]} vt [H]):=(ah.rows.aA b6).addSp (dq.aA b6) i0 (fun i x iv cm bz=>by
  obtain⟨i6,i7,i8⟩:=i4.out i x iv cm bz;exact⟨i6,i7.aA b6,i8⟩) af ⟨Xa ⟨bj,0,Xb⟩,2,bw⟩ s.ar (g5.aA b6) cu
 have gz:=dD<|zc.row (dq.aA b6) af (ah.gr.trans b6);have f8:Xo (zK hi w aq):=(zK.aA b6).trans (zK.row (dq.aA b6) af (fun iu cj=>cj.2.2.2.2.2.2.1 rfl));have gu:Xo (zb arE w0.heap.size aq s.ar.v s0.aC):=dD<|by
  obtain⟨j2,ij⟩:=(dq.aA b6).obj (g:=ce) (Rr b4.out);exact(g5.aA b6).kind cd ij Dc
 have hh:=dD cu;clear b6 cd af cu dy j bc cp ab;have bu:=c2.box.c 11 rfl;rw[b4.out]at bu;have bv:=c2.box.f;go_upto_region 1 with fail;clear bu bv;obtain⟨ca,bn⟩:=kB (aq.setCell ⟨b,11,Xb⟩ (O (Xa ⟨bj,0,Xb⟩) 2 bw));have a9:aq.grownBy ca (Xa b):=by rw[<-bn];exact jX _ _ _ _
 have ga:Xo (Mk w0 hi ca b vl L {V with sp:=⟨Xa ⟨bj,0,Xb⟩,2,bw⟩} {m with sp:=m.sp++[⟨Xc,s0.aC,qU⟩]} vt [H]):=dD<|⟨zd gz a9 ah.hb,ah.hb,by rw[<-bn];exact c2.set 11 _,ah.lr,ah.lc,ah.lb,hy.var a9 c2 a9.size (.inl rfl)⟩;have h9:=dD<|f8.trans (zK.kind a9 c2 (fun _ cj=>absurd rfl cj.1));have gv:Xo (zb arE w0.heap.size ca s.ar.v s0.aC):=gu.kind a9 c2 Dc;have hn:Xo (zb Qg w0.heap.size ca (O (Xa ⟨bj,0,Xb⟩) 2 bw) [s,⟨Xc,s.ar,zP,zP,zP,zP,zP,zP,zP,zP⟩]):=hh.kind a9 c2 Dc;rw[bn];clear bn a9;have b2:Xo (w0.heap.size<=b/\zq byE w0 (vl.x) L/\vl.n<=vl.c/\∀ax∈L,0<=ax/\ax<256):=dD<|⟨ah.hb,ah.lr,ah.lc,ah.lb⟩;have bu:ca.cell? ⟨b,11,Xb⟩=Xa (O (Xa ⟨bj,0,Xb⟩) 2 bw):=ga.box.box.c 11 rfl;have iz:ca.cell? ⟨bj,1,Xb⟩=Xa (s.ar.x):=by
  have:=hn.one (i:=0) (x:=s) rfl 1 _ rfl;rw[zX,Xz]at this;exact this
 have e9:=de.out ca gv.out;go_wp2_with fail;refine e9.mono ?_;clear e9 bu iz;rintro e em⟨rfl,fm⟩;obtain⟨ao,dh⟩:=kA em.heap.size;have hg:=dD (ga.aA fm);have ha:=dD (h9.trans (zK.aA fm));clear fm;go_upto_region 2 with(refine z6 rfl 68 (.tmp 2) (.tmp 33) rfl em.heap.size rfl ap rfl (zt.aF em gh 68 rfl) (by rw[df.out,dm.out]) (Rx dm.out zsw) dg.out ?_)
 intro fh fi gj iw;have cc:zc em fh:=zd (za _ _) gj (nR _);have ej:=dD (hg.aA cc);have hb:=dD (ha.trans (zK.aA cc));rw[dh.out]at fi⊢;have hq:=dD fi;clear fi gj iw cc gm;try simp only[Yu]
 have be:=ej.box.box.c 12 rfl;have di:=dD<|bS ej.gr;go_wp2_with(at_builtin;refine zr (E:=zdf) rfl (.tmp 38) (.tmp 40) rfl w0.heap.size _ [H] rfl (ej.rows.tt.aA (za _ _)) _ [fun _=>en0] rfl (q8 zdf fh (fun _=>en0) _ _ rfl Dc) ?qb ?qc ?_)
 case qb=>
  show(1+1)*1536<=_;omega
 case qc=>exact nT di (bS (za _ _))
 intro j4 bg cv du;obtain⟨X,ar,rfl⟩:=cv.aG Sm;have c0:zb zdf w0.heap.size bg (O (Xa ⟨X,0,Xb⟩) 2 ar) ([H]++[fun _=>en0]):=cv;obtain⟨i5,ch⟩:=kB (fh.alloc (Xk (zdf.enc (fun _=>en0)).toArray 56));have er:=gP ch;have F:i5.grownBy bg (vt.x).ownBlock:=Ry ch du;clear du ch cv;have Z:=ej.aA er;have cy:Xo (zt bg b 81 [vl.x,V.f.x,I6 m.aB,V.s.x,V.sb.x,V.sq.x,V.db.x,V.dq.x,V.fl.x,I6 m.cnt,V.ca.x,O (Xa ⟨bj,0,Xb⟩) 2 bw,vt.x]):=zt.row Z.rows.tt F Z.box Dc;have ff:=dD<|Z.rows.addT F ⟨Xa ⟨X,0,Xb⟩,2,ar⟩ c0;have h0:=dD<|zc.row Z.rows.tt F Z.gr;have f9:=dD<|(hb.trans (zK.aA er)).trans (zK.row Z.rows.tt F (fun iu cj=>cj.2.2.2.2.2.2.2.1 rfl));have el:Xo (zt bg ao 68 ap):=zt.row Z.rows.tt F (hq.aA er) Dc;clear F c0 er be;have be:=cy.box.c 12 rfl;have bv:=cy.box.f;go_upto_region 3 with fail;clear be bv;obtain⟨cb,bo⟩:=kB (bg.setCell ⟨b,12,Xb⟩ (O (Xa ⟨X,0,Xb⟩) 2 ar));have am:bg.grownBy cb (Xa b):=by rw[<-bo];exact jX _ _ _ _
 obtain⟨p,dj⟩:∃p:Sli,Xo (p=⟨Xa ⟨X,0,Xb⟩,2,ar⟩):=⟨_,rfl⟩;obtain⟨ai,f5⟩:∃ai:MaV,Xo (ai={V with sp:=⟨Xa ⟨bj,0,Xb⟩,2,bw⟩}):=⟨_,rfl⟩;obtain⟨bs,c6⟩:∃bs:Ma,Xo (bs={m with sp:=m.sp++[⟨Xc,s0.aC,qU⟩]}):=⟨_,rfl⟩;have dn:Xo (Mk w0 hi cb b vl L ai bs p [H,fun _=>en0]):=dD<|by
  rw[dj.out,f5.out,c6.out];exact⟨zd h0 am b2.1,b2.1,by rw[<-bo];exact cy.set 12 _,b2.2.1,b2.2.2.1,b2.2.2.2,ff.var am cy am.size (.inl rfl)⟩
 have fa:=dD<|f9.trans (zK.kind am cy (fun _ cj=>absurd rfl cj.1))
 have P9:Xo (zt cb ao 68 ap):=el.beside am (fun P e=>by
  cases e;intro e;have K:bg.heap[ao]?=_:=el.out;rw[e,show bg.heap[b]?=_ from cy.out]at K
  cases K)
 have f1:Xo (qL bs [H,fun _=>en0]):=dD<|by
  rw[c6.out];exact h8.space dk (by rw[f3.out];simp)
 have f4:Xo (bs.sp=[s0,⟨Xc,s0.aC,qU⟩]/\bs.fl=m.fl/\bs.aB=m.aB/\bs.fs.length=m.fs.length):=dD<|by
  rw[c6.out];exact⟨by show m.sp++_=_;rw[f3.out];rfl,rfl,rfl,rfl⟩
 have n:Xo (p.x=O (Xa ⟨X,0,Xb⟩) 2 ar):=dD<|by rw[dj.out]
 rw[bo];clear bo am;have be:cb.cell? ⟨b,12,Xb⟩=Xa (O (Xa ⟨X,0,Xb⟩) 2 ar):=by rw[<-n.out];exact dn.box.box.c 12 rfl
 have ea:cb.rangeAt X 0 (qG (tab H)):=fun an v gk=>by
  have cl:=dn.rows.tt;(first|rw[n.out]at cl|rw[show O _ _ _=_ from n.out]at cl);have:=cl.one (i:=0) (x:=H) rfl an v gk;rw[zX,Xz]at this;simpa using this
 go_wp2_with(refine wpList_load_mid rfl 56 (.tmp 48) rfl X 0 rfl (qG (tab H)) _ ea underlying56 rfl (by rw[QF,Jm];exact zsA) ?_)
 clear ea be;have dd:Xo (∀{ed:Array Oper}{c1:List Oper}{o:Oper}{d1:Act}{w:Xn}{ge:Exit->Act->Xn->Prop}(_:o.guard=Xb)(x ev:Operand)(_:o.op=.index 56 x ev)(_:d1.eval x=Xi (qG (tab H)).toArray)(i:Nat)(_:d1.eval ev=I6 (i:Int))(_:i<64){e:En}(_:H i=e)
  (_:wpList prog ed ge c1 (d1.put o.dst (Xi #[I6 e.kind,I6 e.n,Xh e.wr])) w),wpList prog ed ge (o::c1) d1 w):=fun K x ev aw a6 i es dw _ d2 d3=>zap K x ev aw (tab H) a6 i es dw (by rw[zat dw,d2]) d3
 generalize qG (tab H)=j1 at dd⊢;go_wp2;go_loopg[50] 64 (fun ie bd wr=>∃(f:Nat)(q:Ma)(C:List (Nat->En))(a4 av:Nat->En),f<=64/\64-f<=ie/\bd=I6 f/\Xo (Mk w0 hi wr b vl L ai q p C)/\Xo (zK hi w wr)/\Xo (qL q C)/\Xo (q.sp=[s0,⟨Xc,s0.aC,qU⟩]/\q.fl=m.fl/\q.aB=m.aB/\q.fs.length=m.fs.length)/\Xo (C[0]?=Xa a4/\C[1]?=Xa av/\(∀an,f<=an->a4 an=H an/\av an=en0))/\Xo (zt wr ao 68 ap))
 exact⟨0,bs,_,H,fun _=>en0,nZ _,Wm,rfl,dn,fa,f1,f4,(show _/\_ from⟨rfl,rfl,fun _ _=>⟨rfl,rfl⟩⟩),P9⟩;obtain⟨f,q,C,a4,av,im,il,rfl,fc,fb,c3,D,ad,hw⟩:=hrel;by_cases aa:f<64
 ·have e8:(f:Int)<64:=Wm
  obtain⟨b5,bx,au,da⟩:∃b5 bx au,Xo (H f=⟨b5,bx,au⟩):=⟨_,_,_,rfl⟩;have N:Xo (a4 f=⟨b5,bx,au⟩):=dD (by rw[(ad.2.2 f (nR _)).1];exact da.out);have c5:=dD<|(ad.2.2 f (nR _)).2;have f2:Xo (∀U,(((C.set 0 (jJ a4 f U)).set 1 (jJ av f U))[0]?=Xa (jJ a4 f U)/\((C.set 0 (jJ a4 f U)).set 1 (jJ av f U))[1]?=Xa (jJ av f U)/\(∀an,f+1<=an->jJ a4 f U an=H an/\jJ av f U an=en0))):=show∀U,_ from fun U=>by
   have ih:=(gS.1 ad.1).1;have d4:=(gS.1 ad.2.1).1;refine⟨?_,?_,fun an gk=>?_⟩
   ·rw[sN Dc]
    exact sF ih
   ·exact sF (Si d4)
   unfold jJ;rw[kF Wm,kF Wm];exact ad.2.2 an Wm
  have ag:=c3.entry0 (s0:=s0) (Rr D.1) ad.1 aa;rw[N.out]at ag;obtain⟨ay,b0⟩:∃ay:Ma->En->Prop,Xo (∀B z,ay B z↔(qL B ((C.set 0 (jJ a4 f z)).set 1 (jJ av f z))/\B.sp=[s0,⟨Xc,s0.aC,qU⟩]/\B.fl=m.fl/\B.aB=m.aB/\B.fs.length=m.fs.length)):=⟨fun B z=>_,fun _ _=>Iff.rfl⟩;obtain⟨a0,b1⟩:∃a0:Ma->En->Prop,Xo (∀B z,a0 B z↔((z=⟨b5,bx,au⟩/\B=q/\b5=2)\/(z.kind≠2/\ay B z))):=⟨fun B z=>_,fun _ _=>Iff.rfl⟩;go_upto_region 6 with(refine dd rfl (.tmp 49) (.tmp 50) rfl rfl f rfl aa da.out ?_)
  obtain⟨R,c7⟩:=kA wr.heap.size;refine nW fun gf bl=>?_;have eq:=gP bl;have d7:=xPT bl c7;have cz:=dD (fc.aA eq);have f6:=dD (fb.trans (zK.aA eq));have fd:=dD (hw.aA eq);have db:Xo (hi<=R/\w.heap.size<=R):=show _/\_ by rw[<-c7.out];exact⟨fc.rows.hw,fb.2⟩
  rw[c7.out];clear bl eq;have ep:=d7.box.c 0 rfl;go_upto_if 56 with fail
  go_cut[50] (fun bd bt=>bd=I6 f/\∃(B:Ma)(z:En),Xo (Mk w0 hi bt b vl L ai B p C)/\Xo (zK hi w bt)/\Xo (zt bt R 55 [I6 z.kind,I6 z.n,Xh z.wr])/\Xo (zt bt ao 68 ap)/\Xo (a0 B z))
  case first=>
   rcases ag with d5|⟨c,W,K,aw,a6⟩|⟨c,ax,K,aw,a6,es,dw⟩
   ·have G:Xo (a0 q ⟨b5,bx,au⟩):=(b1 _ _).2 (.inr ⟨by rw[d5];decide,(b0 _ _).2 ⟨by rw[d5,znq ad.1 ad.2.1 (N.trans d5) c5.out];exact c3,D⟩⟩)
    cases d5;have e6:((0:Int)==1)=Xd:=Dc;go_wp2;go_meet;exact⟨rfl,q,⟨0,0,Xd⟩,cz,f6,d7,fd,G⟩
   ·dsimp only at K aw;subst K;subst aw;have bf:=dD a6;obtain⟨ip,iq⟩:=c3.refs a6;obtain⟨cr,Y⟩:=kA q.fs.length;have fv:c<cr:=(by rw[<-Y.out];exact(gS.1 a6).1);have fw:(c:Int)<(cr:Int):=Wm;clear a6;have e6:((1:Int)==1)=Xc:=Dc;have e7:((1:Int)==2)=Xd:=Dc;obtain⟨P,fj,a8⟩:=cz.rows.fs.aG (by rw[Y.out];omega);rw[Y.out]at a8;have t:=dD a8;have Q:=cz.rows.fs;(first|rw[t.out]at Q|rw[show O _ _ _=_ from t.out]at Q);have b3:=dD Q;clear Q a8;go_upto_region 7 with fail;clear ep;obtain⟨h,l⟩:=Ww fun d=>zc gf d;have j:=(l _).2 (gW _);have co:∀a:zg h,a.world.cell? ⟨b,1,Xb⟩=Xa (O (Xa ⟨P,0,Xb⟩) cr fj):=fun a=>(by rw[<-t.out];exact(cz.box.box.aA ((l _).1 a.holds)).c 1 rfl);have bb:=fun a:zg h=>(d7.box.aA ((l _).1 a.holds)).c 1 rfl;have ci:∀a:zg h,a.world.cell? ⟨P,c*13+8,Xb⟩=Xa (I6 W.r):=fun a=>by
     have:=(b3.aA ((l _).1 a.holds)).one bf 8 _ rfl;rw[zX,Xz,zA]at this;exact this
    have ab:Nonempty (zg h):=⟨⟨_,j⟩⟩;refine Jd (I:=h) 14 [] j z1 Kr rfl rfl Dc Sm Kr ?_;simp only[Xw,Xx];refine jK ?_;refine zek (.tmp 57) ⟨b,0,Xb⟩ rfl rfl rfl rfl ?_;refine Uq ?_;iterate 12 refine jK ?_
    refine zdw fun c9 ba fo=>?_;have al:=(l _).1 ba;have eh:=dD (cz.aA al);have f7:=dD (f6.trans (zK.aA al));have ez:=dD (d7.aA al);have fe:=dD (fd.aA al);have c8:=dD (b3.aA al);clear al ba fo co bb ci ab j;have bv:=c8.bJ rfl;have fk:c9.cell? ⟨P,c*13+8,Xb⟩=Xa (I6 W.r):=by
     have:=c8.one bf 8 _ rfl;rw[zX,Xz,zA]at this;exact this
    go_upto_region 8 with fail;clear fk bv;obtain⟨M,a5,ac⟩:=c8.cell (k:=c) (o:=8) rfl bf (y:={W with r:=W.r+1}) (u:=I6 (W.r+1)) rfl Dc;obtain⟨aj,a7⟩:=kB (c9.setCell ⟨P,c*13+8,Xb⟩ (I6 (W.r+1)));have dt:c9.setCell ⟨P,c*q7.k+8,Xb⟩ (I6 (W.r+1))=aj:=a7;rw[dt]at M a5 ac;rw[a7];rw[<-t.out]at M;have A:=eh.bN (by(first|rw[t.out]|rw[show O _ _ _=_ from t.out]|(simp only[Sli.x];rw[t.out])|(simp only[Sli.x];rw[show O _ _ _=_ from t.out]));rfl) a5 ac M (eh.rows.ap.2.inc c3 bf);have ei:=dD A.1;have eg:=dD<|f7.trans A.2;have bh:Xo (zt aj R 55 [I6 1,I6 (c:Int),Xh au]):=A.2.1 _ _ _ ez zef;have d0:Xo (zt aj ao 68 ap):=A.2.1 _ _ _ fe zdv;clear dt a7 M a5 ac A;have bi:Xo (∀U,U=(if(zl s0.aC f).sh=Xc then(⟨1,(c:Int),au⟩:En)else⟨1,(c:Int),Xd⟩)->qL {q with fs:=q.fs.set c {W with r:=W.r+1}} ((C.set 0 (jJ a4 f U)).set 1 (jJ av f U))):=show∀U,_ from fun U ik=>c3.forkP (s0:=s0) (s1:=⟨Xc,s0.aC,qU⟩) (Rr D.1) (Rr D.1) rfl ad.1 ad.2.1 aa c5 bf (by rw[N.out]) (by rw[N.out]) (Rx N.out ik);have fy:=d0.box.c _ (d9 f aa);have ep:=bh.box.c 0 rfl;cases br:(zl s0.aC f).sh with
    |true=>
     rw[br]at fy bi;have G:Xo (a0 {q with fs:=q.fs.set c {W with r:=W.r+1}} ⟨1,(c:Int),au⟩):=(b1 _ _).2 (.inr ⟨by show(1:Int)≠2;decide,(b0 _ _).2 ⟨bi _ (kE rfl).symm,D.1,D.2.1,D.2.2.1,by show(q.fs.set c _).length=_;rw[Yf];exact D.2.2.2⟩⟩);clear br;go_wp2;go_meet;exact⟨rfl,_,⟨1,(c:Int),au⟩,ei,eg,bh,d0,G⟩
    |false=>
     rw[br]at fy bi;have G:Xo (a0 {q with fs:=q.fs.set c {W with r:=W.r+1}} ⟨1,(c:Int),Xd⟩):=(b1 _ _).2 (.inr ⟨by show(1:Int)≠2;decide,(b0 _ _).2 ⟨bi _ (kF Dc).symm,D.1,D.2.1,D.2.2.1,by show(q.fs.set c _).length=_;rw[Yf];exact D.2.2.2⟩⟩);clear br;have z:=bh.box.c 2 rfl;have bv:=bh.box.f;go_upto_region 10 with fail;clear fy ep z bv;obtain⟨aq,bm⟩:=kB (aj.setCell ⟨R,2,Xb⟩ (Xh Xd));have bp:aj.grownBy aq (Xa R):=(by rw[<-bm];exact jX _ _ _ _);have gx:Xo (zt aq R 55 [I6 1,I6 (c:Int),Xh Xd]):=dD<|by rw[<-bm];exact bh.set 2 _
     have hf:Xo (Mk w0 hi aq b vl L ai {q with fs:=q.fs.set c {W with r:=W.r+1}} p C):=ei.entry bh db.1 bp;have f8:Xo (zK hi w aq):=eg.own bp db.2;have hp:Xo (zt aq ao 68 ap):=d0.beside bp (fun P e=>by
      cases e;intro e;have K:aj.heap[ao]?=_:=d0.out;rw[e,show aj.heap[R]?=_ from bh.out]at K
      cases K)
     rw[bm];clear bm bp;go_wp2;go_meet;exact⟨rfl,_,⟨1,(c:Int),Xd⟩,hf,f8,gx,hp,G⟩
   have G:Xo (a0 q ⟨b5,bx,au⟩):=(b1 _ _).2 (.inl ⟨rfl,rfl,K⟩);have e6:(b5==1)=Xd:=(by rw[show b5=2 from K];decide);clear K aw a6 es dw;go_wp2;go_meet;exact⟨rfl,q,⟨b5,bx,au⟩,cz,f6,d7,fd,G⟩
  clear ep;obtain⟨rfl,d6,ib,dp,g9,ef,gd,G⟩:=hcut;obtain⟨ae,ak,S⟩:=ib;have gi:=ef.box.c 0 rfl;go_upto_if 79 with fail
  go_cut[50] (fun bd bt=>bd=I6 f/\∃(B:Ma)(z:En),Xo (Mk w0 hi bt b vl L ai B p C)/\Xo (zK hi w bt)/\Xo (zt bt R 55 [I6 z.kind,I6 z.n,Xh z.wr])/\Xo (zt bt ao 68 ap)/\Xo (ay B z))
  case first=>
   rcases(b1 _ _).1 G with⟨d2,rfl,d3⟩|⟨d2,d3⟩
   ·obtain⟨K,aw,a6⟩:=(En.mk.injEq _ _ _ _ _ _).mp d2;subst K aw a6;subst d3;rcases ag with d5|⟨c,W,K,aw,a6⟩|⟨c,ax,K,aw,a6,es,dw⟩;·cases d5
    ·exact absurd (show(2:Int)=1 from K) Dc
    dsimp only at aw;subst aw;have bf:=dD a6;obtain⟨cr,Y⟩:=kA d6.sl.length;have fv:c<cr:=(by rw[<-Y.out];exact(gS.1 a6).1);have fw:(c:Int)<(cr:Int):=Wm;clear a6;have e7:((2:Int)==2)=Xc:=Dc;obtain⟨P,fj,a8⟩:=dp.rows.sl.aG (by rw[Y.out];omega);rw[Y.out]at a8;have t:=dD a8;have Q:=dp.rows.sl;(first|rw[t.out]at Q|rw[show O _ _ _=_ from t.out]at Q);have b3:=dD Q;clear Q a8;go_upto_region 11 with fail;clear gi;obtain⟨h,l⟩:=Ww fun d=>zc wc d;have j:=(l _).2 (gW _);have co:∀a:zg h,a.world.cell? ⟨b,3,Xb⟩=Xa (O (Xa ⟨P,0,Xb⟩) cr fj):=fun a=>(by rw[<-t.out];exact(dp.box.box.aA ((l _).1 a.holds)).c 3 rfl);have bb:=fun a:zg h=>(ef.box.aA ((l _).1 a.holds)).c 1 rfl;have ci:∀a:zg h,a.world.cell? ⟨P,c,Xb⟩=Xa (I6 ax):=fun a=>by
     have:=(b3.aA ((l _).1 a.holds)).one bf 0 _ rfl;rw[zX,Xz,zA]at this;simpa[slE,Yt]using this
    have ab:Nonempty (zg h):=⟨⟨_,j⟩⟩;refine Jd (I:=h) 11 [] j z1 Kr rfl rfl Dc Sm Kr ?_;simp only[Xw,Xx];refine jK ?_;refine zek (.tmp 80) ⟨b,0,Xb⟩ rfl rfl rfl rfl ?_;refine Uq ?_;iterate 9 refine jK ?_
    refine zdw fun c9 ba fo=>?_;have al:=(l _).1 ba;have eh:=dD (dp.aA al);have f7:=dD (g9.trans (zK.aA al));have ez:=dD (ef.aA al);have fe:=dD (gd.aA al);have c8:=dD (b3.aA al);clear al ba fo co bb ci ab j;have bv:=c8.bJ rfl;have fk:c9.cell? ⟨P,c,Xb⟩=Xa (I6 ax):=by
     have:=c8.one bf 0 _ rfl;rw[zX,Xz,zA]at this;simpa[slE,Yt]using this
    go_upto_region 12 with fail;clear fk bv;obtain⟨M,a5,ac⟩:=c8.cell (k:=c) (o:=0) rfl bf (y:=ax+1) (u:=I6 (ax+1)) rfl Dc;obtain⟨aj,a7⟩:=kB (c9.setCell ⟨P,c,Xb⟩ (I6 (ax+1)));have dt:c9.setCell ⟨P,c*slE.k+0,Xb⟩ (I6 (ax+1))=aj:=(by rw[<-a7];simp[slE]);rw[dt]at M a5 ac;rw[a7];rw[<-t.out]at M;have A:=eh.cA (by(first|rw[t.out]|rw[show O _ _ _=_ from t.out]|(simp only[Sli.x];rw[t.out])|(simp only[Sli.x];rw[show O _ _ _=_ from t.out]));rfl) a5 ac M
    have ei:Xo (Mk w0 hi aj b vl L ai {d6 with sl:=d6.sl.set c (ax+1)} p C):=A.1;have eg:Xo (zK hi w aj):=f7.trans A.2;have bh:Xo (zt aj R 55 [I6 2,I6 (c:Int),Xh S]):=A.2.1 _ _ _ ez zef;have d0:Xo (zt aj ao 68 ap):=A.2.1 _ _ _ fe zdv;clear dt a7 M a5 ac A;have az:Xo (ay {d6 with sl:=d6.sl.set c (ax+1)} ⟨2,(c:Int),S⟩):=(b0 _ _).2 ⟨by
     have:=c3.forkS (s0:=s0) (s1:=⟨Xc,s0.aC,qU⟩) (Rr D.1) (Rr D.1) rfl ad.1 ad.2.1 aa c5 bf (by rw[N.out]) (by rw[N.out])
     rw[N.out]at this;exact this,D.1,D.2.1,D.2.2.1,D.2.2.2⟩
    go_wp2;go_meet;exact⟨rfl,_,⟨2,(c:Int),S⟩,ei,eg,bh,d0,az⟩
   have e7:(ae==2)=Xd:=beq_eq_false_iff_ne.2 d2;have az:=dD d3;clear d2 d3 ag;go_wp2;go_meet;exact⟨rfl,d6,⟨ae,ak,S⟩,dp,g9,ef,gd,az⟩
  clear gi;obtain⟨rfl,B,z,gc,hd,gy,hu,az⟩:=hcut;obtain⟨ae,ak,S⟩:=z;go_upto_region 12 with fail;obtain⟨h,l⟩:=Ww fun d=>d.cell? ⟨b,12,Xb⟩=Xa (O (Xa ⟨X,0,Xb⟩) 2 ar)/\zt d R 55 [I6 ae,I6 ak,Xh S]/\zt d ao 68 ap;have dc:Xo (∀d q C,Mk w0 hi d b vl L ai q p C->d.cell? ⟨b,12,Xb⟩=Xa (O (Xa ⟨X,0,Xb⟩) 2 ar)):=dD<|fun d q C io=>by
   have:=io.box.box.c 12 rfl;(first|rw[n.out]at this|rw[show O _ _ _=_ from n.out]at this);exact this
  have j:h wc.drew:=(l _).2 ⟨dc _ _ _ (gc.aA (gW _)),gy.aA (gW _),hu.aA (gW _)⟩;have dx:Mk w0 hi wc.drew b vl L ai B p C/\zK hi w wc.drew:=⟨gc.aA (gW _),hd.trans (zK.aA (gW _))⟩;have ir:=fun a:zg h=>((l _).1 a.holds).1;have fq:=fun a:zg h=>((l _).1 a.holds).2.1.box.c 0 rfl;have bb:=fun a:zg h=>((l _).1 a.holds).2.1.box.c 1 rfl;have ft:=fun a:zg h=>((l _).1 a.holds).2.1.box.c 2 rfl;have ab:Nonempty (zg h):=⟨⟨_,j⟩⟩;refine zN (I:=h) 17 [(14,fun _=>True)] (fun d=>Mk w0 hi d b vl L ai B p C/\zK hi w d) j dx z1 Kr rfl rfl Dc (Sa ⟨undef,trivial⟩) Kr ?_;simp only[Xw,Xx];refine zj ?_;refine zW (.tmp 91) ⟨b,0,Xb⟩ rfl rfl rfl rfl ?_;refine Uq ?_;iterate 4 refine zj ?_
  refine zW (.tmp 96) ⟨b,0,Xb⟩ rfl rfl rfl rfl ?_;refine Uq ?_;iterate 7 refine zj ?_
  refine zC rfl rfl (fun _ d=>Mk w0 hi d b vl L ai B p (C.set 0 (jJ a4 f ⟨ae,ak,S⟩))/\zK hi w d) (fun w' b9 b8=>?_) (fun gp et=>?_)
  ·obtain⟨eu,cq,it⟩:=(l _).1 b9;obtain⟨ec,fx⟩:=b8;have cl:=ec.rows.tt;(first|rw[n.out]at cl|rw[show O _ _ _=_ from n.out]at cl);refine zeE (E:=zdf) (.tmp 104) (.tmp 101) 55 rfl w0.heap.size (O (Xa ⟨X,0,Xb⟩) 2 ar) C cl X 0 (f*3) rfl a4 (jJ a4 f ⟨ae,ak,S⟩) ad.1 (env ⟨ae,ak,S⟩) Kr (zcj a4 aa _) (by show f*3+3<=192;omega) (enE.one _) _ rfl (by first|rfl|simp) (Xi (env ⟨ae,ak,S⟩).toArray) rfl rfl (fun gq gn ig iy=>?_);rw[<-n.out]at gn;have e4:=ec.bT (by(first|rw[n.out]|rw[show O _ _ _=_ from n.out]|(simp only[Sli.x];rw[n.out])|(simp only[Sli.x];rw[show O _ _ _=_ from n.out]));rfl) ig iy gn;exact⟨(l _).2 ⟨dc _ _ _ e4.1,e4.2.1 _ _ _ cq zef,e4.2.1 _ _ _ it zdv⟩,trivial,e4.1,fx.trans e4.2⟩
  try simp only[Yu]
  iterate 2 refine zj ?_
  refine qN fun bg dz cg=>?_;have gb:=dD cg.1;have f9:=dD cg.2;have el:=dD<|((l _).1 dz).2.2;clear cg dz j dx ir fq bb ft ab;have ff:Xo (zb zdf w0.heap.size bg (O (Xa ⟨X,0,Xb⟩) 2 ar) (C.set 0 (jJ a4 f ⟨ae,ak,S⟩))):=show zb _ _ _ _ _ by rw[<-n.out];exact gb.rows.tt
  refine zx (E:=zdf) rfl (.tmp 106) (.tmp 102) 55 rfl w0.heap.size _ _ ff X 1 (f*3) rfl av (jJ av f ⟨ae,ak,S⟩) (by rw[sN Dc];exact ad.2.1) (env ⟨ae,ak,S⟩) Kr (zcj av aa _) (by show f*3+3<=192;omega) (enE.one _) _ rfl (by first|rfl|simp) (Xi (env ⟨ae,ak,S⟩).toArray) rfl rfl ?_;intro cb cx dv ee;rw[<-n.out]at cx;have bk:=gb.bT (by(first|rw[n.out]|rw[show O _ _ _=_ from n.out]|(simp only[Sli.x];rw[n.out])|(simp only[Sli.x];rw[show O _ _ _=_ from n.out]));rfl) dv ee cx;have dn:=dD bk.1;have fa:=dD<|f9.trans bk.2;have P9:Xo (zt cb ao 68 ap):=bk.2.1 _ _ _ el zdv;have g8:=(b0 _ _).1 az.out;have ey:=dD g8.1;have fg:=dD g8.2;clear bk cx dv ee;go_wp2;go_roundg (64-(f+1));exact⟨f+1,B,_,_,_,Wm,Wm,Gn,dn,fa,ey,fg,f2 _,P9⟩;omega
 have e8:¬(f:Int)<64:=Wm;have da:Xo (Frk w0 hi b w vl L m s0.aC wr):=dD<|⟨ai,q,p,C,fc,fb,c3,by rw[D.1,f3.out];rfl,D.2⟩;go_wp2;exact Wq da.out
theorem zg9{I:Xn->Prop}{P:Program}{J:Act->Xn->Prop}{l r:List Oper}(T:Nat)(S:List (Nat×zeS))(c:I w.drew)(hJ0:J a w.drew)(hJq:∀(j:Nat)o,K.toArray[j]?=Xa o->S.lookup j=Xb->∀a v w,(execOp a.eval o).run P w=.ok (.value v) w->J a w->J (a.put o.dst v) w)(hJs:∀(j:Nat)o s,K.toArray[j]?=Xa o->S.lookup j=Xa s->∀a w L,J a w->I w->zL P o a w L->zL P o a w fun v w'=>L v w'/\J (a.put o.dst v) w')(hJu:∀(j:Nat)o,K.toArray[j]?=Xa o->∀a w,J a w->J (a.put o.dst undef) w)(f:P.follows .mixedOrders=Xc)(b:Jr K.toArray T=Xc)(e:K.take T=l)(g:K.drop T=r)(d:T<=K.length)
  (hS:∀x∈S,∃v,x.2.pv v)(hp:∀k s j t,S.lookup k=Xa s->S.lookup j=Xa t->j≠k->anc K.toArray 9 j k=Xd->∀v w w',t.step w w'->s.post v w->s.post v w')(hpre:∀j t k s,S.lookup j=Xa t->S.lookup k=Xa s->j≠k->∀w w',s.step w w'->t.pre w->t.pre w')(hpr0:∀k t,S.lookup k=Xa t->t.pre w.drew)
  (h:zdl I P K.toArray (fun k=>S.lookup k) (fun a w=>J a w->wpList P K.toArray Q r a w) l 0 (fun _ _=>True) a):(Code.region id K.toArray Xc).wp P Q a w:=by
 refine zp9 (J:=J) T c hJ0 f b e g d ?_ ?_ ?_ ?_ ?_ ?_ ?_ hJu h;·intro k s o c _ d b;obtain⟨t,_,rfl⟩:=zbA c;cases b
 ·intro k s c;obtain⟨t,b,rfl⟩:=zbA c;obtain⟨x,d,rfl,_⟩:=JZ b;exact hS x d
 ·intro k s j t c f d g _ v;obtain⟨s,b,rfl⟩:=zbA c;obtain⟨t,e,rfl⟩:=zbA f;exact hp k s j t b e d g v
 ·intro j t k s f c d;obtain⟨s,b,rfl⟩:=zbA c;obtain⟨t,e,rfl⟩:=zbA f;exact hpre j t k s e b d
 ·intro k t c;obtain⟨t,b,rfl⟩:=zbA c;exact hpr0 k t b
 ·intro j o c d;exact hJq j o c (Si d)
 intro j o s c d;obtain⟨t,b,_⟩:=zbA d;exact hJs j o t c b
theorem zL.know{P:Program}{J:Act->Xn->Prop}(h:zL P o a w M)(c:∀n w',(execOp a.eval o).run P w=.ok n w'->(∃v,n=.value v/\J (a.put o.dst v) w')\/(n=.skip/\J (a.put o.dst undef) w')):zL P o a w fun v w'=>M v w'/\J (a.put o.dst v) w':=by
 unfold zL at h⊢;generalize(execOp a.eval o).run P w=r at h c⊢;cases r with
 |ok n w'=>
  rcases c n w' rfl with⟨v,rfl,b⟩|⟨rfl,b⟩;·exact⟨h,b⟩
  exact⟨h,b⟩
 |halt x w'=>exact h
def zbj(ss:List Nat)(a:Act)(w:Xn):Prop:=(∀s∈ss,∀x n c,a.tmps.getD s undef=O (Xa x) n c->x.block<w.heap.size)/\∀s∈ss,∀t∈ss,s≠t->∀x n c y n' c',a.tmps.getD s undef=O (Xa x) n c->a.tmps.getD t undef=O (Xa y) n' c'->x.block≠y.block
theorem Qx{d:Option Nat}{v:Xq}{s:Nat}:(a.put d v).tmps.getD s undef=a.tmps.getD s undef\/(d=Xa s/\(a.put d v).tmps.getD s undef=v):=by
 cases d with
 |none=>exact .inl rfl
 |some k=>
  by_cases e:k=s
  ·subst e
   by_cases b:k<a.tmps.size
   ·refine .inr ⟨rfl,?_⟩
    show(a.tmps.setIfInBounds k v).getD k undef=v;rw[Ye,Array.getElem?_setIfInBounds_self_of_lt b];rfl
   refine .inl ?_;show(a.tmps.setIfInBounds k v).getD k undef=_;rw[Array.setIfInBounds_eq_of_size_le Wm]
  refine .inl ?_;show(a.tmps.setIfInBounds k v).getD s undef=_;rw[Ye,Array.getElem?_setIfInBounds_ne e,<-Ye]
theorem zbj.other{b:List Nat}{d:Option Nat}(i:zbj b a w)(hd:∀s∈b,d≠Xa s)(m:w.heap.size<=w'.heap.size):zbj b (a.put d A) w':=by
 have c:∀s∈b,(a.put d A).tmps.getD s undef=a.tmps.getD s undef:=fun s b=>(Qx (a:=a) (d:=d) (v:=A) (s:=s)).resolve_right fun e=>hd s b e.1;refine⟨fun s b x n g j=>?_,fun s b t k h x n g y p l e f=>?_⟩;·rw[c s b]at j;exact Yi (i.1 s b x n g j) m
 rw[c s b]at e;rw[c t k]at f;exact i.2 s b t k h x n g y p l e f
theorem zbj.new{c:List Nat}{d:Option Nat}(l:zbj c a w)(j:w.heap.size<w'.heap.size):zbj c (a.put d (O (Xa ⟨w.heap.size,0,Xb⟩) k b)) w':=by
 have g:∀j∈c,∀x n c,(a.put d (O (Xa ⟨w.heap.size,0,Xb⟩) k b)).tmps.getD j undef=O (Xa x) n c->(a.tmps.getD j undef=O (Xa x) n c/\x.block<w.heap.size)\/(d=Xa j/\x.block=w.heap.size):=fun j f x n c h=>by
  rcases Qx (a:=a) (d:=d) (v:=O (Xa ⟨w.heap.size,0,Xb⟩) k b) (s:=j)with e|⟨e1,e2⟩;·rw[e]at h;exact .inl ⟨h,l.1 j f x n c h⟩
  grind
 refine⟨fun j f x n c h=>?_,fun j f t p k x n c y q i h b=>?_⟩;·grind
 rcases g j f x n c h with⟨m,h⟩|⟨m,h⟩<;>rcases g t p y q i b with⟨h,g⟩|⟨h,g⟩
 ·exact l.2 j f t p k x n c y q i m h
 ·omega
 ·omega
 grind
theorem zbj.undef{c:List Nat}{d:Option Nat}(k:zbj c a w):zbj c (a.put d Go.undef) w:=by
 have f:∀b∈c,∀x n c,(a.put d Go.undef).tmps.getD b Go.undef=O (Xa x) n c->a.tmps.getD b Go.undef=O (Xa x) n c:=fun b g x n c h=>by
  rcases Qx (a:=a) (d:=d) (v:=Go.undef) (s:=b)with e|⟨e1,e2⟩;·grind
  rw[e2]at h;cases h
 exact⟨fun b g x n c h=>k.1 b g x n c (f b g x n c h),fun b g t l j x n c y p m h i=>k.2 b g t l j x n c y p m (f b g _ _ _ h) (f t l _ _ _ i)⟩
theorem zo3{P:Program}{e:TypeId}{i:TypeInfo}(b:P.underlying t=Xa (.slice e))(hi:P.info? e=Xa i)(f:i.zero=Xa A)(x)(a:x=undef\/∃n:Nat,x=I6 n/\n*i.bytes<=140737488355328/\n<=1000){v:Xq}(h:(Instr.makeSlice t x x).run P w=.ok v w'):∃l c,v=O (Xa ⟨w.heap.size,0,Xb⟩) l c/\w.heap.size<w'.heap.size:=by
 rcases a with rfl|⟨n,rfl,a,a⟩
 ·exfalso
  simp[Instr.makeSlice,run_underlying b,asInt,asIntOf,undef]at h
 have d:((i.bytes:Int)*(n:Int))<=281474976710656:=by
  rw[<-Int.natCast_mul,Nat.mul_comm];omega
 have a:=run_make (P:=P) w t e i A b hi f .i64 .i64 n n Wm (Int.le_refl _) d Wm;rw[a]at h;cases h;exact⟨_,_,rfl,Sm⟩
def JB(nf ns nb:Nat)(a:Act)(w:Xn):Prop:=(a.tmps.getD 0 undef=Xe Xf nf/\a.tmps.getD 1 undef=Xe Xf ns/\a.tmps.getD 2 undef=Xe Xf nb)/\(∀s∈[32,35,37,40],a.tmps.getD s undef=undef\/∃n:Nat,a.tmps.getD s undef=Xe Xf n/\n<=80)/\zbj [38,41] a w
section
variable{nf ns nb:Nat}{a:Act}{w w':Xn}
theorem JB.other{d:Option Nat}(h:JB nf ns nb a w)(hd:∀s∈[0,1,2,32,35,37,40,38,41],d≠Xa s)(f:w.heap.size<=w'.heap.size):JB nf ns nb (a.put d A) w':=by have b:∀s∈[0,1,2,32,35,37,40,38,41],(a.put d A).tmps.getD s undef=a.tmps.getD s undef:=fun s c=>(Qx (a:=a) (d:=d) (v:=A) (s:=s)).resolve_right fun e=>hd s c e.1;refine⟨⟨by rw[b 0 Sm];exact h.1.1,by rw[b 1 Sm];exact h.1.2.1,by rw[b 2 Sm];exact h.1.2.2⟩,fun s c=>?_,h.2.2.other (fun s c=>hd s (by simp at c⊢;omega)) f⟩;rw[b s (by simp at c⊢;omega)];exact h.2.1 s c
theorem JB.num(h:JB nf ns nb a w)(f:k∈[32,35,37,40])(s:b<=80):JB nf ns nb (a.put (Xa k) (I6 b)) w:=by
 have s:∀t,t≠k->(a.put (Xa k) (I6 b)).tmps.getD t undef=a.tmps.getD t undef:=fun t c=>(Qx (a:=a) (d:=some k) (v:=I6 b) (s:=t)).resolve_right fun e=>c (Si e.1.symm);have g:k≠0/\k≠1/\k≠2/\k≠38/\k≠41:=by simp at f;omega
 refine⟨⟨by rw[s 0 Wm];exact h.1.1,by rw[s 1 Wm];exact h.1.2.1,by rw[s 2 Wm];exact h.1.2.2⟩,fun t c=>?_,h.2.2.other (fun t c e=>by simp only[Option.some.injEq]at e;subst e;simp only[mC,nM,or_false]at c;omega) (nR _)⟩;rcases Qx (a:=a) (d:=some k) (v:=I6 b) (s:=t)with e|⟨_,e⟩;·rw[e];exact h.2.1 t c
 grind
theorem JB.new{d:Option Nat}(h:JB nf ns nb a w)(hd:∀s∈[0,1,2,32,35,37,40],d≠Xa s)(f:w.heap.size<w'.heap.size):JB nf ns nb (a.put d (O (Xa ⟨w.heap.size,0,Xb⟩) k p)) w':=by have b:∀s∈[0,1,2,32,35,37,40],(a.put d (O (Xa ⟨w.heap.size,0,Xb⟩) k p)).tmps.getD s undef=a.tmps.getD s undef:=fun s p=>(Qx (a:=a) (d:=d) (s:=s)).resolve_right fun k=>hd s p k.1;refine⟨⟨by rw[b 0 Sm];exact h.1.1,by rw[b 1 Sm];exact h.1.2.1,by rw[b 2 Sm];exact h.1.2.2⟩,fun s p=>?_,h.2.2.new f⟩;rw[b s (by simp at p⊢;omega)];exact h.2.1 s p
def okQ(o:Oper):Bool:=
 match o.dst with
 |none=>Xc
 |some d=>!([0,1,2,32,35,37,40,38,41].contains d)||(match o.op with|.move (.tmp x)=>[(32,0),(35,1),(37,1),(40,2)].contains (d,x)|_=>Xd)
theorem JB.quiet(h:JB nf ns nb a w)(b:okQ o=Xc)(i:nf<=80)(d:ns<=80)(g:nb<=80)(f:(execOp a.eval o).run prog w=.ok (.value A) w):JB nf ns nb (a.put o.dst A) w:=by
 unfold okQ at b;cases c:o.dst with
 |none=>exact h.other (fun s _ e=>by cases e) (nR _)
 |some j=>
  rw[c]at b;simp only[Bool.or_eq_true]at b;rcases b with b|b
  ·refine h.other (fun s d e=>?_) (nR _)
   cases e;simp only[Yr,Yh,decide_eq_false_iff_not]at b;exact b d
  cases c:o.op with
  |move x=>
   rw[c]at b;cases x with
   |tmp x=>
    simp only[Yh,decide_eq_true_eq]at b;have e:A=a.tmps.getD x undef:=by
     simp only[execOp,c,Xu,Result.ok.injEq,Next.value.injEq,and_true]at f;exact f.symm
    simp only[mC,pJ,nM,or_false]at b;rcases b with⟨rfl,rfl⟩|⟨rfl,rfl⟩|⟨rfl,rfl⟩|⟨rfl,rfl⟩;·rw[e,h.1.1];exact h.num Sm i
    ·rw[e,h.1.2.1];exact h.num Sm d
    ·rw[e,h.1.2.1];exact h.num Sm d
    rw[e,h.1.2.2];exact h.num Sm g
   |_=>simp at b
  |_=>rw[c]at b;simp at b
theorem JB.undef{d:Option Nat}(h:JB nf ns nb a w)(hd:∀s∈[0,1,2],d≠Xa s):JB nf ns nb (a.put d Go.undef) w:=by
 have b:∀s∈[0,1,2],(a.put d Go.undef).tmps.getD s Go.undef=a.tmps.getD s Go.undef:=fun s c=>(Qx (a:=a) (d:=d) (s:=s)).resolve_right fun e=>hd s c e.1;refine⟨⟨by rw[b 0 Sm];exact h.1.1,by rw[b 1 Sm];exact h.1.2.1,by rw[b 2 Sm];exact h.1.2.2⟩,fun s c=>?_,h.2.2.undef⟩;rcases Qx (a:=a) (d:=d) (v:=Go.undef) (s:=s)with e|⟨_,e⟩;·rw[e];exact h.2.1 s c
 grind
theorem JB.make(h:JB nf ns nb a w)(t e)(i:TypeInfo)(z)(s:Nat)(c:o.op=.makeSlice t (.tmp s) (.tmp s))(f:s∈[32,35,37,40])(g:Tryz.prog.underlying t=Xa (.slice e))(hi:Tryz.prog.info? e=Xa i)(j:i.zero=Xa z)(d:i.bytes<=1000)(hd:∀s∈[0,1,2,32,35,37,40],o.dst≠Xa s)(b:zL prog o a w M):zL prog o a w fun v w'=>M v w'/\JB nf ns nb (a.put o.dst v) w':=by
 refine b.know fun n w' b=>?_;left;simp only[execOp,c,Xv]at b;cases c:(Instr.makeSlice t (a.eval (.tmp s)) (a.eval (.tmp s))).run prog w with
 |halt x k=>rw[c]at b;cases b
 |ok v k=>
  rw[c]at b;simp only[rA,Xu,Result.ok.injEq]at b;obtain⟨rfl,rfl⟩:=b;obtain⟨l,b,rfl,b⟩:=zo3 g hi j _ (by
   rcases h.2.1 s f with e|⟨n,e,f⟩;·exact .inl e
   refine .inr ⟨n,e,?_,Wm⟩;have:n*i.bytes<=80*1000:=Nat.mul_le_mul f d
   omega) c
  exact⟨_,rfl,h.new hd b⟩
end
def okL(L:List Oper)(Sx:List Nat):Bool:=L.zipIdx.all fun p=>Sx.contains p.2||okQ p.1
theorem zoT{Sx:List Nat}(h:okL K Sx=Xc)(a:K.toArray[j]?=Xa o)(b:j∉Sx):okQ o=Xc:=by
 unfold okL at h;have a:(o,j)∈K.zipIdx:=by grind
 grind
def okD(L:List Oper):Bool:=L.all fun o=>match o.dst with|none=>Xc|some d=>!([0,1,2].contains d)
theorem zoU(h:okD K=Xc)(a:K.toArray[j]?=Xa o):∀s∈[0,1,2],o.dst≠Xa s:=fun s b e=>by
 unfold okD at h;have:=List.all_eq_true.1 h o (by simp at a;exact mG a);rw[e]at this;simp only[Yr,Yh,decide_eq_false_iff_not]at this;exact this b
theorem zli{A B C D:α}(h:List.lookup j [(2,A),(5,B),(7,C),(10,D)]=Xb):j∉[2,5,7,10]:=fun a=>by grind
theorem zhm(E:Elt α)(w:Xn)(n:Nat)(hn:n*E.bytes<=140737488355328){l:Operand}(ho:o.op=.makeSlice E.st l l:=by rfl)(hl:a.eval l=I6 n:=by rfl):
  ∃C,(execOp a.eval o).run prog w=.ok (.value (O (Xa ⟨w.heap.size,0,Xb⟩) n n)) (w.alloc (Xk C E.ty))/\zb E w.heap.size (w.alloc (Xk C E.ty)) (O (Xa ⟨w.heap.size,0,Xb⟩) n n) (Xr n E.zero):=by
 obtain⟨i0,hi,hz0,hz1,hz2⟩:=info_parts E.aD;have h2:n*1<=n*E.bytes:=Nat.mul_le_mul_left _ (nT E.pos E.few);have hb:((E.bytes:Int)*(n:Int))<=140737488355328:=by
  obtain⟨B,hB⟩:=kB (n*E.bytes);rw[hB]at hn;rw[<-Int.natCast_mul,Nat.mul_comm,hB];omega
 have hrun:=run_make (P:=prog) w E.st E.ty i0 _ E.bI hi hz0 .i64 .i64 n n (by omega) (Int.le_refl _) (by rw[hz2];exact Int.le_trans hb (by omega)) (by omega);rw[hz1,tN]at hrun;refine⟨madeCells E.zv.cells (n*E.k),by simp only[execOp,ho,hl,Xv,hrun,Result.andThen,Xu],⟨⟨?_,.inr ⟨w.heap.size,n,madeCells E.zv.cells (n*E.k),by rw[lR],nR _,?_,?_,?_,?_,?_⟩⟩,by rw[lR];exact hn⟩⟩;·rw[qB E]
 ·show(w.heap.push _)[w.heap.size]?=_
  simp
 ·rw[lR];exact nR _
 ·exact q3 (by omega)
 ·rw[size_madeCells]
 rw[lR,Yd (by simp[madeCells]),zdu E]
theorem ze4(w)(n:Nat)(b:n<=80){l:Operand}(h:o.op=.makeSlice 31 l l:=by rfl)(g:a.eval l=I6 n:=by rfl):
  ∃C,(execOp a.eval o).run prog w=.ok (.value (O (Xa ⟨w.heap.size,0,Xb⟩) n n)) (w.alloc (Xk C 44))/\zm w.heap.size (w.alloc (Xk C 44)) (O (Xa ⟨w.heap.size,0,Xb⟩) n n) (Xr n zu):=by
 obtain⟨i,f,c,d,e⟩:=info_parts zsl;have b:=run_make (P:=prog) w 31 44 i _ underlying31 f c .i64 .i64 n n Wm (Int.le_refl _) (by rw[e];omega) Wm;rw[d,tN]at b;refine⟨madeCells #[U8 0,U8 0,U8 0,U8 0,U8 0,U8 0,U8 0,U8 0] (n*8),by simp only[execOp,h,g,Xv,b,Result.andThen,Xu,Value.cells],⟨⟨?_,.inr ⟨w.heap.size,n,madeCells #[U8 0,U8 0,U8 0,U8 0,U8 0,U8 0,U8 0,U8 0] (n*8),by rw[lR],nR _,?_,?_,?_,?_,?_⟩⟩,fun p b=>by rw[Xs b];rfl,by rw[lR];omega⟩⟩;·rw[jP (k:=8) _ (fun a b=>by rw[Xs b];rfl)]
 ·show(w.heap.push _)[w.heap.size]?=_
  simp
 ·rw[lR];exact nR _
 ·exact q3 Wm
 ·rw[size_madeCells]
 rw[lR];show(madeCells #[U8 0,U8 0,U8 0,U8 0,U8 0,U8 0,U8 0,U8 0] (n*8)).toList.take (n*8)=_;rw[Yd (by simp[madeCells]),zlh]
theorem zcl(E:Elt α)(w:Xn)(n:Nat)(c:n*E.bytes<=140737488355328)(l)(d:o.op=.makeSlice E.st l l)(b:a.eval l=I6 n)(h:∀C,zb E w.heap.size (w.alloc (Xk C E.ty)) (O (Xa ⟨w.heap.size,0,Xb⟩) n n) (Xr n E.zero)->M (O (Xa ⟨w.heap.size,0,Xb⟩) n n) (w.alloc (Xk C E.ty))):zL prog o a w M:=by obtain⟨C,e,e⟩:=zhm E w n c d b;grind[zL.step]
theorem zaP(w:Xn)(n:Nat)(c:n<=80)(l)(d:o.op=.makeSlice 31 l l)(b:a.eval l=I6 n)(h:∀C,zm w.heap.size (w.alloc (Xk C 44)) (O (Xa ⟨w.heap.size,0,Xb⟩) n n) (Xr n zu)->M (O (Xa ⟨w.heap.size,0,Xb⟩) n n) (w.alloc (Xk C 44))):zL prog o a w M:=by obtain⟨C,e,e⟩:=ze4 w n c d b;grind[zL.step]
theorem zg8{c:Oper}(d:c.guard=Xb)(e p x)(j:c.op=.store e p x)(b o:Nat)(hp:a.eval p=Xj (Xa ⟨b,o,Xb⟩))(vs:List Xq)(k:a.eval x=Xi vs.toArray)
  {cs:List Xq}{t:TypeId}(f:zt w b t cs)(i:o+vs.length<=cs.length)(hi:(Tryz.prog.info? e).map (·.size)=Xa vs.length)(g:∀v∈vs,v.oneCell'=Xc)
  (h:∀w',zt w' b t (splice cs o vs)->w.grownBy w' (Xa b)->w'.heap.size=w.heap.size->wpList prog ops Q K (a.put c.dst undef) w'):wpList prog ops Q (c::K) a w:=by
 refine wpList_store_mid d e p x j b o vs.toArray hp k ?_ ?_ (all_oneCell_toArray g) ?_
 ·intro j c;have:=f.box.there (o+j) (by simp at c;omega);rw[zA]at this;exact this
 ·simpa using hi
 exact h _ (f.part i) (zU b vs o w).1 (zU b vs o w).2
theorem zoY{c a nf ns nb:Nat}(f:zc w W)(gf:w.heap.size<=b)(d:zt W b 81 [vl.x,O (Xa ⟨k,0,Xb⟩) nf nf,I6 0,O (Xa ⟨p,0,Xb⟩) ns ns,O (Xa ⟨c,0,Xb⟩) ns ns,eS,O (Xa ⟨a,0,Xb⟩) nb nb,eS,eS,I6 (nb:Int),eS,eS,eS])(m:zq byE w (vl.x) L)(l:vl.n<=vl.c)(lb:∀z∈L,0<=z/\z<256)
  (n:zb q7 w.heap.size W (O (Xa ⟨k,0,Xb⟩) nf nf) (Xr nf fr0))(h:zb slE w.heap.size W (O (Xa ⟨p,0,Xb⟩) ns ns) (Xr ns 0))(i:zm w.heap.size W (O (Xa ⟨c,0,Xb⟩) ns ns) (Xr ns zu))(j:zm w.heap.size W (O (Xa ⟨a,0,Xb⟩) nb nb) (Xr nb zu))(g:c≠a):
  Mk w W.heap.size W b vl L ⟨⟨Xa ⟨k,0,Xb⟩,nf,nf⟩,⟨Xa ⟨p,0,Xb⟩,ns,ns⟩,⟨Xa ⟨c,0,Xb⟩,ns,ns⟩,zP,⟨Xa ⟨a,0,Xb⟩,nb,nb⟩,zP,zP,zP,zP⟩ ⟨Xr nf fr0,0,Xr ns 0,Xr ns zu,[],Xr nb zu,[],[],nb,[],[]⟩ zP []:=by
 have c:∀{v:Xq}{a:List (List Int)},zm w.heap.size W v a->∀g,v.ownBlock=Xa g->g<W.heap.size:=fun p g a=>by
  obtain⟨_,e,e⟩:=Ji p a;grind
 refine⟨f,gf,d,m,l,lb,⟨nR _,bS f,n,h,fun g a=>(h.lt g a).2,i,c i,⟨rfl,rfl⟩,j,c j,⟨World.ownsRow_nil _ _ _ _,Sm,Sm⟩,⟨[],zb.nil _ _ _,rfl,fun i x f c=>by cases c⟩,zb.nil _ _ _,⟨[],zb.nil _ _ _,rfl,fun i x s c=>by cases c⟩,zb.nil _ _ _,⟨fun g a p=>?_,zfX.free (fun f c _=>by rw[Xs c];rfl) (fun f c=>by rw[Xs c];rfl)⟩⟩⟩;simp only[Value.ownBlock,Option.some.injEq]at a p;grind
def zkk(n k:Nat):List Fr:=Xr k frF++Xr (n-k) fr0
theorem znk(n:Nat):zkk n 0=Xr n fr0:=by simp[zkk]
theorem zpk(n:Nat):zkk n n=Xr n frF:=by simp[zkk]
theorem zqK(n k:Nat):zeV (zkk n k):=fun f a _=>by
 unfold zkk at a;rcases Xy.1 a with e|e;·rw[Xs e];rfl
 rw[Xs e];rfl
theorem zdU(n:Nat):∀f∈Xr n frF,f.r=0:=fun f a=>by rw[Xs a];rfl
theorem znl(n k:Nat):∀f∈zkk n k,f.r=0:=fun f a=>by
 unfold zkk at a;rcases Xy.1 a with e|e;·rw[Xs e];rfl
 rw[Xs e];rfl
theorem znm(h:b<k):(zkk k b)[b]?=Xa fr0:=by unfold zkk;grind
theorem zpj(h:b<k):(zkk k b).set b frF=zkk k (b+1):=by unfold zkk;rw[List.set_append_right _ _ Sm,lR,Ys];obtain⟨j,a⟩:∃j,k-b=j+1:=⟨k-b-1,Wm⟩;rw[a,show k-(b+1)=j by omega,List.replicate_succ,sZ,List.replicate_succ',List.append_assoc];rfl
theorem ze6(j)(h:zw k w A g)(v:Nat)(q:Int×List Int)(i:q.2.length=8)(p:Zt w ⟨v,0,Xb⟩ (ptc q))(c:g.length<=1000)(a:k<=w.heap.size):
  ∃c w',(Builtin.append_ #[32,32] j #[A,O (Xa ⟨v,0,Xb⟩) 1 1]).run prog w=.ok c w'/\zw k w' c (g++[q])/\w.grownBy w' A.ownBlock:=by
 obtain⟨r,l,d,e,f⟩:=info_parts zsm;obtain⟨c,w',n,m,base,_⟩:=run_append_own (P:=prog) w k 32 j 88 r _ 9 16 underlying32 l d e f rfl Dc A g.length _ h.1 ⟨v,0,Xb⟩ 1 1 (ptc q) (by rw[zcA,i]) p (zd3 _) (q3 Wm) Wm a;refine⟨c,w',n,⟨?_,fun x a=>?_,by simp;omega⟩,base⟩
 ·rw[lA,List.flatMap_append]
  simpa using m
 rcases Xy.1 a with a|a;·exact h.2.1 x a
 simp only[mC,nM,or_false]at a;rw[a];exact i
section
variable{base hi:Nat}{w w':Xn}{V:MaV}{m:Ma}{vt:Sli}{T:List (Nat->En)}
theorem zbv(h:zw base w A g)(a:A.ownBlock=Xa k):base<=k/\∃cs,w.heap[k]?=Xa (Xk cs 88 (0,0)):=by
 rcases h.1.2 with⟨rfl,_⟩|⟨v,g,g,rfl,g,g,_⟩;·cases a
 simp only[Value.ownBlock,Option.some.injEq]at a;grind
theorem MkR.addDq(h:MkR base hi w V m vt T)(c:w.grownBy w' (V.dq.x).ownBlock)(s:Sli)(d:∀f∈m.fs,f.r=0)(e:zw base w' (s.x) g):MkR base hi w' {V with dq:=s} {m with dq:=g} vt T:=by
 cases b:(V.dq.x).ownBlock with
 |none=>
  rw[b]at c;have g:=h.aA (qP c);exact⟨g.hw,g.bh,g.fs,g.sl,g.bA,g.sb,g.bG,g.sq,g.db,g.bF,e,g.fl,g.ca,g.sp,g.tt,⟨g.ap.1,g.ap.2.bare d rfl⟩⟩
 |some a=>
  rw[b]at c;obtain⟨_,g,g⟩:=zbv h.dq b;obtain⟨b,a,i,j,k,k,l,n,p⟩:=h.kept c g;exact⟨nT h.hw c.size,h.bh,b Dc,a (.inl Dc),h.bA,i (.inl Dc),h.bG,h.sq,j (.inl Dc),h.bF,e,k Dc (.inl Dc),l Dc,n Dc Dc,p Dc,⟨h.ap.1,h.ap.2.bare d rfl⟩⟩
theorem MkR.addFl{xs:List FlV}(h:MkR base hi w V m vt T)(g:zb fvE base w (V.fl.x) xs)(a:xs.length=m.fl.length)(b:∀(i:Nat)x f,xs[i]?=Xa x->m.fl[i]?=Xa f->x.size=f.size/\zb blE hi w x.v f.bl)
  (c:w.grownBy w' (V.fl.x).ownBlock)(s:Sli){x:FlV}{f:Fl}(e:∀f∈m.fs,f.r=0)(k:x.size=f.size)(d:zb blE hi w x.v f.bl)(j:zb fvE base w' (s.x) (xs++[x])):MkR base hi w' {V with fl:=s} {m with fl:=m.fl++[f]} vt T:=by
 have d:(∀{y:FlV}{q:Fl},zb blE hi w y.v q.bl->zb blE hi w' y.v q.bl)->∃a:List FlV,zb fvE base w' (s.x) a/\a.length=(m.fl++[f]).length/\∀(i:Nat)y q,a[i]?=Xa y->(m.fl++[f])[i]?=Xa q->y.size=q.size/\zb blE hi w' y.v q.bl:=fun k=>by grind
 cases b:(V.fl.x).ownBlock with
 |none=>
  rw[b]at c;have k:=qP c;have a:=h.aA k;exact⟨a.hw,a.bh,a.fs,a.sl,a.bA,a.sb,a.bG,a.sq,a.db,a.bF,a.dq,d (fun h=>h.aA k),a.ca,a.sp,a.tt,⟨a.ap.1,a.ap.2.bare e rfl⟩⟩
 |some a=>
  rw[b]at c;obtain⟨a,a⟩:=g.obj b;obtain⟨b,g,j,k,l,n,n,p,q⟩:=h.kept c a;exact⟨nT h.hw c.size,h.bh,b Dc,g (.inl Dc),h.bA,j (.inl Dc),h.bG,h.sq,k (.inl Dc),h.bF,l Dc,d (fun h=>h.kind c a Dc),n Dc,p Dc Dc,q Dc,⟨h.ap.1,h.ap.2.bare e rfl⟩⟩
end
section
variable{base hi S0:Nat}{w w':Xn}{V:MaV}{m:Ma}{vt:Sli}{T:List (Nat->En)}
def FlB(base hi S0:Nat)(w:Xn)(V:MaV)(m:Ma):Prop:=∃xs:List FlV,zb fvE base w (O V.fl.a V.fl.n V.fl.c) xs/\xs.length=m.fl.length/\∀(i:Nat)x f,xs[i]?=Xa x->m.fl[i]?=Xa f->(x.size=f.size/\zb blE hi w x.v f.bl)/\∀g,x.v.ownBlock=Xa g->g<S0
theorem MkR.flB(h:MkR base hi w V m vt T):FlB base hi w.heap.size w V m:=by obtain⟨d,b,c,a⟩:=h.fl;exact⟨d,b,c,fun i x f c b=>⟨a i x f c b,fun g d=>((a i x f c b).2.lt g d).2⟩⟩
theorem FlB.aA(h:FlB base hi S0 w V m)(k:zc w w'):FlB base hi S0 w' V m:=by obtain⟨c,a,b,d⟩:=h;refine⟨c,a.aA k,b,fun i x f g e=>?_⟩;obtain⟨⟨a,b⟩,c⟩:=d i x f g e;exact⟨⟨a,b.aA k⟩,c⟩
theorem FlB.kind(e:FlB base hi S0 w V m)(c:w.grownBy w' (Xa k))(h:w.heap[k]?=Xa (Xk Y t (0,0)))(a:t≠84\/(V.fl.x).ownBlock≠Xa k)(b:t≠3\/S0<=k):FlB base hi S0 w' V m:=by
 obtain⟨i,d,f,q⟩:=e;refine⟨i,?_,f,fun n x j l g=>?_⟩
 ·rcases a with a|a
  ·exact d.kind c h a
  exact d.grown c fun p d e=>by cases e;exact a d
 obtain⟨⟨i,a⟩,f⟩:=q n x j l g;refine⟨⟨i,?_⟩,f⟩;rcases b with b|b;·exact a.kind c h b
 exact a.grown c fun p d e=>by cases e;have:=f _ d;omega
theorem MkR.cL(h:MkR base hi w V m vt T)(a:w.grownBy w' (Xa k))(b:w.heap[k]?=Xa (Xk Y 84 (0,0)))(c:(V.fl.x).ownBlock≠Xa k):MkR base hi w' V m vt T:=by obtain⟨d,e,f,i,j,g,g,l,n⟩:=h.kept a b;obtain⟨s,p,q,r⟩:=h.flB.kind a b (.inr c) (.inl Dc);exact⟨nT h.hw a.size,h.bh,d Dc,e (.inl Dc),h.bA,f (.inl Dc),h.bG,h.sq,i (.inl Dc),h.bF,j Dc,⟨s,p,q,fun i x f b a=>(r i x f b a).1⟩,g Dc,l Dc Dc,n Dc,h.ap⟩
theorem MkR.ints(h:MkR base hi w V m vt T)(e:FlB base hi S0 w V m)(a:w.grownBy w' (Xa k))(b:w.heap[k]?=Xa (Xk Y 3 (0,0)))(c:S0<=k)(d:hi<=k):MkR base hi w' V m vt T:=by obtain⟨f,i,j,g,l,n,n,p,q⟩:=h.kept a b;obtain⟨u,r,s,t⟩:=e.kind a b (.inl Dc) (.inr c);exact⟨nT h.hw a.size,h.bh,f Dc,i (.inr d),h.bA,j (.inl Dc),h.bG,h.sq,g (.inl Dc),h.bF,l Dc,⟨u,r,s,fun i x f b a=>(t i x f b a).1⟩,n Dc,p Dc Dc,q Dc,h.ap⟩
end
section
variable{w0 w w':Xn}{hi b:Nat}{vl:Sli}{L:List Int}{V:MaV}{m:Ma}{vt:Sli}{T:List (Nat->En)}
theorem Mk.setDb(h:Mk w0 hi w b vl L V m vt T){g:Nat}(d:(V.db.x).ownBlock=Xa g)(a:w.grownBy w' (Xa g))(k:w'.heap.size=w.heap.size){e:List (List Int)}(c:∀f∈m.fs,f.r=0)(j:zm w0.heap.size w' (V.db.x) e):Mk w0 hi w' b vl L V {m with db:=e} vt T/\zK hi w w':=by
 obtain⟨e,i,i⟩:=Ji h.rows.db d;refine⟨⟨zd h.gr a e,h.hb,h.box.beside a (fun e e=>?_),h.lr,h.lc,h.lb,h.rows.setDb i d a k c j⟩,zK.kind a i (fun p a=>?_)⟩
 ·cases e;intro e;subst e;have c:w.heap[b]?=_:=h.box;grind
 have:=a.2.2.2.2.2.2.2.2 rfl;have:=h.rows.bF g d;omega
end
theorem zmJ(v l)(a:Ar)(w)(aw:zq arE w v l)(r:Cap v)(y:(wrL l).1=0):
  Xp prog 60 #[v,Xi #[I6 a.fr,I6 a.tz,Xh a.rd,Xh a.wr,Xh a.sh,I6 a.file,I6 a.base]] w (zr3 (zee l a) w):=by
 have an:=dD aw;have a7:Xo (∀W,zc w W->Xp prog 77 #[v] W fun f z=>f=Xl (Xi #[I6 0,I6 (wrL l).2])/\zc W z):=fun W bc=>zbV v l W (an.aA bc) r y;have s:Xo (∀W,Xp prog 94 #[Xi #[I6 a.fr,I6 a.tz,Xh a.rd,Xh a.wr,Xh a.sh,I6 a.file,I6 a.base]] W fun f z=>f=Xl (I6 (arW a))/\zc W z):=fun W=>J9 a W;clear aw r;obtain⟨ao,p⟩:=kB (w.alloc (Xk #[I6 a.fr,I6 a.tz,Xh a.rd,Xh a.wr,Xh a.sh,I6 a.file,I6 a.base] 77));have R:=gA p;have aq:=xA p;have E:=dD p;clear p;generalize(wrL l).2=I at a7;by_cases g:arW a=0
 ·rw[g]at s;have am:Xo (l.length<=16/\Q9 Xb l):=jL.1 y;have al:Xo (jS a):=Qz.1 g;have D:Xo (zee l a=if zoq l a.fr (a.tz-a.fr)=Xc then([],6)else zjt (zjc l a)):=show _=_ by unfold zee;rw[kF (fun k=>k y),kF (fun k=>k g)]
  have B:Xo (∀W,Xp prog 95 #[Xi (zD (tab (zfN l a 64))).toArray] W fun f z=>(∃ag,f=Xl (Xm #[ag,I6 (zjt (zjc l a)).2])/\zb arE W.heap.size z ag (zjt (zjc l a)).1)/\zc W z):=fun W=>by
   rw[zqZ];exact zk2 (zjc l a) W (zb5 am.2 al)
  clear y g;go_enter func60,ntmps60;go_upto_region 1 with fail;rw[E.out];go_wp2_with fail;refine(a7 ao R).mono ?_;rintro f G⟨rfl,h⟩;have Y:=dD (R.trans h);have a9:=dD (aq.aA h);clear h;obtain⟨bf,i⟩:=kA G.heap.size;go_upto_region 2 with fail;refine nW fun a8 c=>?_;have Z:=gT c Y;have X:=xP c i;have U:=yA c a9;rw[i.out];clear c;have ab:=X.c 0 rfl;go_wp2_with(refine zE rfl 77 (.tmp 3) rfl w.heap.size rfl U underlying77 rfl zst ?_)
  refine(s a8).mono ?_;rintro f b6⟨rfl,h⟩;have A:=dD (Z.trans h);have ba:=dD (U.aA h);clear h ab;go_upto_region 7 with fail;refine zlg (v:=v) (q:=a) (pa:=w.heap.size) (l:=l) (fun ah ai aj Q ak bh bi=>⟨#[_,_,_,_,_,_,_,_,bh,bi,_,_,_,_,_,_,_,_,_,_,_,_,_,ah,ai,aj,Q,ak,_,_,_,_,_,_,_,_,_,_,_,_,_,_,_,_,_,_,_,_,_,_,_,_,_,_,_],[]⟩) (fun _ _ _ _ _ _ _=>rfl) (fun _ _ _ _ _ _ _=>rfl) (fun _ _ _ _ _ _ _=>rfl) (fun _ _ _ _ _ _ _=>rfl) (fun _ _ _ _ _ _ _=>rfl) (fun _ _ _ _ _ _ _=>rfl) (fun _ _ _ _ _ _ _=>rfl) (fun _ _ _ _ _ _ _=>rfl) (fun _ _ _ _ _ _ _=>rfl) (fun _ _ _ _ _ _ _ _=>rfl) (fun _ _ _ _ _ _ _ _=>rfl) (fun _ _ _ _ _ _ _ _=>rfl) (fun _ _ _ _ _ _ _ _=>rfl) (fun _ _ _ _ _ _ _ _=>rfl) (fun _ _ _ _ _ _ _ _=>rfl) (fun _ _ _ _ _ _ _ _=>rfl) (fun _ _ _ _ _ _ _ _=>rfl) (an.aA A) am.2.cE al ba.out ?_ _ _ _ _ _ _ _;intro b7 t aa Q M au K L P ae;have b0:=dD (A.trans au);have ay:Xo (Box b7 t (zD (tab (zfN l a 0)))):=show Box _ _ _ by rw[zpD];exact K
  have az:=dD L;have a5:=dD<|nT (bS A) P;have u:aa≠t:=fun f=>M f.symm;have a3:=dD u;clear au K L P ae;go_wp2;go_loopg[28] 64 (fun bb af wr=>∃b:Nat,b<=64/\64-b<=bb/\af=I6 b/\Xo (zc w wr)/\Xo (Box wr t (zD (tab (zfN l a b))))/\Xo (Box wr aa (zD (tab (zl [a]))))/\Xo (∀j:Nat,j<b->Z7 a j=Xc->(zl l j).is=Xd))
  exact⟨0,nZ _,Wm,rfl,b0,ay,az,fun j ad=>absurd ad (nL _)⟩;obtain⟨b,bd,bl,rfl,x,T,F,a1⟩:=hrel;by_cases m:b<64
  ·have N:(b:Int)<64:=Wm
   have H:=T.c (b*6) (Qn (zat m) 0 (Xh (zl l b).is) (Rr zrM));have V:=F.c (b*6) (Qn (zat m) 0 (Xh (Z7 a b)) (by rw[<-zmO];rfl));cases d:Z7 a b with
   |true=>
    cases e:(zl l b).is with
    |true=>
     have C:Xo (zee l a=([],6)):=dD (by rw[D.out,zrE m d e,kE rfl]);rw[e]at H;rw[d]at V;clear d e;go_wp2;refine bodyPost_ret (results_tmp2 rfl _ _ _) rfl ?_;rw[C.out];exact⟨⟨_,rfl,zb.nil _ _ _⟩,x⟩
    |false=>
     have a6:Xo (upd (zfN l a b) b (z5 a b)=zfN l a (b+1)):=zqY d;have a4:Xo (zl [a] b=z5 a b):=show _=_ by rw[zpS,kE d]
     have n:Xo (∀j:Nat,j<b+1->Z7 a j=Xc->(zl l j).is=Xd):=dD<|fun j ad k=>by
      by_cases f:j=b;·rw[f];exact e
      exact a1 j Wm k
     rw[e]at H;rw[d]at V;clear d e;have a2:Xo (Value.agg (onv (zl [a] b)).toArray=Xi (onv (z5 a b)).toArray):=dD (by rw[a4.out]);go_wp2_with(first|refine zfl rfl (.tmp 47) rfl aa b m rfl F a2.out ?_|refine zfk rfl (.tmp 49) (.tmp 48) rfl t b m rfl (z5 a b) rfl T.out ?_)
     intro ap ar ac bg;have S:Xo (Box ap t (zD (tab (zfN l a (b+1))))):=dD<|Ry a6.out ar;have b4:=dD<|F.grown ac a3.out;have b1:Xo (zc w ap):=zd x ac a5.out;clear ar ac bg H V;go_wp2;go_roundg (64-(b+1));exact⟨b+1,Wm,Wm,Gn,b1,S,b4,n⟩;omega
   |false=>
    have S:Xo (Box wr t (zD (tab (zfN l a (b+1))))):=dD (by rw[<-zpE d];exact T.out);have n:Xo (∀j:Nat,j<b+1->Z7 a j=Xc->(zl l j).is=Xd):=dD<|fun j ad k=>by
     by_cases f:j=b;·rw[f,d]at k;cases k
     exact a1 j Wm k
    rw[d]at V;clear d;cases e:(zl l b).is with
    |true=>
     rw[e]at H;clear e;go_wp2;go_roundg (64-(b+1));exact⟨b+1,Wm,Wm,Gn,x,S,F,n⟩;omega
    |false=>
     rw[e]at H;clear e;go_wp2;go_roundg (64-(b+1));exact⟨b+1,Wm,Wm,Gn,x,S,F,n⟩;omega
  have N:¬(b:Int)<64:=Wm;have:b=64:=Wm;subst this;have C:Xo (zee l a=zjt (zjc l a)):=dD (by rw[D.out,zpc a1.out,kF Dc]);have a0:Xo ((zD (tab (zfN l a 64))).length=384):=Zk _;go_wp2_with(refine zE rfl 68 (.tmp 8) rfl t rfl T underlying68 rfl (Rx a0.out zsw) ?_)
  refine(B wr).mono ?_;rintro f bk⟨⟨ag,rfl,ax⟩,av⟩;have b2:=dD (x.trans av);have b3:=dD<|ax.base (bS x);clear av ax;go_wp2;refine bodyPost_ret (results_tmp2 rfl _ _ _) rfl ?_;rw[C.out];exact⟨⟨_,rfl,b3⟩,b2⟩
 have be:(arW a !=0)=Xc:=by simp[g]
 have C:Xo (zee l a=([],arW a)):=dD<|by unfold zee;rw[kF (fun k=>k y),kE g]
 clear y g;generalize arW a=bj at*;go_enter func60,ntmps60;go_upto_region 1 with fail;rw[E.out];go_wp2_with fail;refine(a7 ao R).mono ?_;rintro f G⟨rfl,h⟩;have Y:=dD (R.trans h);have a9:=dD (aq.aA h);clear h;obtain⟨bf,i⟩:=kA G.heap.size;go_upto_region 2 with fail;refine nW fun a8 c=>?_;have Z:=gT c Y;have X:=xP c i;have U:=yA c a9;rw[i.out];clear c;have ab:=X.c 0 rfl;go_wp2_with(refine zE rfl 77 (.tmp 3) rfl w.heap.size rfl U underlying77 rfl zst ?_)
 refine(s a8).mono ?_;rintro f b6⟨rfl,h⟩;have A:=dD (Z.trans h);clear h ab;go_wp2;refine bodyPost_ret (results_tmp2 rfl _ _ _) rfl ?_;rw[C.out];exact⟨⟨_,rfl,zb.nil _ _ _⟩,A⟩
theorem zhh(Z:Mk w0 hi w b vl L V m vt T)(d:qL m T)(bc:m.sp.length<4):
  Xp prog 27 #[Xj (Xa ⟨b,0,Xb⟩)] w fun e w'=>(∃v,e=Xl v)/\Spc w0 hi b w L m T w':=by
 have f:=dD Z;have bk:=dD d;have bj:=dD bc;have a:=qT 4 Z;obtain⟨A,c⟩:=kA V.fl.n;have aw:Xo (m.fl.length=A):=show _=_ by rw[<-c.out];exact Z.rows.at.ns.2.2.2.2.2.2.1.symm
 have g:A<=5:=by
  rw[<-aw.out];obtain⟨⟨bn,bo,bp⟩,am,g⟩:=(z8 m.fl m.cnt).1 d.st;omega
 have ax:=dD<|bS Z.gr;clear Z d bc;go_enter func27,ntmps27;go_wp2_with fail;refine a.mono ?_;clear a;rintro e a⟨k,q,af,rfl,d,a,g,l,i,yn,h⟩;obtain⟨ac,rfl⟩:∃ac:Nat,af=(ac:Int):=⟨af.toNat,Wm⟩;have j:ac<4:=by rcases i with Z|Z<;>omega
 have av:Xo (L=[]->ac=0):=dD<|fun e=>Hm (yn e);have r:=dD d;have n:=dD<|f.keeps a;have j:=dD<|f.rows.spB.pick f a;have f:=dD h;clear d a g l i yn h;go_wp2;go_loopg[2,11] ac (fun bi au ap wr=>∃(p g:Nat)(l:List Ar)(h:Option Addr)(i:Nat)(K:Sli)(ag:List Int),p<=ac/\ac-p<=bi/\ap=I6 p/\au=(O h g i)/\Xo (Mk w0 hi wr b K ag V m vt T)/\Xo (zbk L ag)/\Xo (zK hi w wr)/\Xo (SpB w0.heap.size w.heap.size wr V m)/\Xo (zb arE w0.heap.size wr (O h g i) l)/\Xo (jQ m.fl.length l/\(wrL l).1=0/\Q2 l 64<=4*p)/\Xo (p=0->l=[]))
 exact⟨0,0,[],Xb,0,k,q,nZ _,Wm,rfl,rfl,r,f,n,j,zb.nil _ _ _,(show _/\_ from⟨zjr _,rfl,Dc⟩),(fun _=>rfl)⟩;obtain⟨p,g,l,h,i,n,ar,a,a,rfl,rfl,Y,ay,bl,a,bb,j,bt⟩:=hrel;by_cases b4:p<ac
 ·have b5:=kC b4
  have d:Xo (L≠[]):=dD<|fun e=>Hm (av.out e);go_upto_region 3 with fail;obtain⟨z,P⟩:=Ww fun u=>MkE w0 hi b w L V m vt T u/\SpB w0.heap.size w.heap.size u V m/\zb arE w0.heap.size u (O h g i) l;have B:z wr.drew:=(P _).2 ⟨⟨n,ar,Y.aA (gW _),ay,bl.trans (zK.aA (gW _))⟩,a.aA (gW _),bb.aA (gW _)⟩;have b2:∀af:zg z,af.world.cell? ⟨b,8,Xb⟩=Xa (O V.fl.a A V.fl.c):=fun af=>by
   obtain⟨⟨_,_,mk,_,_⟩,_⟩:=(P _).1 af.holds;have:=mk.box.box.c 8 rfl;(try simp only[Sli.x]at this);rw[c.out]at this;exact this
  have an:Nonempty (zg z):=⟨⟨_,B⟩⟩;have C:Xo (∀(N:Int)w',0<N->z w'->Xp prog 22 #[Xj (Xa ⟨b,0,Xb⟩),I6 N] w' fun e s=>∃x:Int,e=Xl (I6 x)/\0<=x/\x<N/\z s/\zK hi w' s):=dD<|fun N w' bd d=>by
   obtain⟨⟨K,ag,f,a9,R⟩,ab,S⟩:=(P _).1 d;refine(qT N f).mono ?_;rintro e s⟨aq,be,x,rfl,a0,a,_,aa,ai,_,W⟩;exact⟨x,rfl,aa,Wm,(P _).2 ⟨⟨aq,be,a0,a9.trans W,R.trans (f.keeps a)⟩,ab.pick f a,S.pick f a⟩,f.keeps a⟩
  refine qX (I:=z) 21 [(1,⟨fun v=>∃x:Int,v=I6 x/\0<=x/\x<12,fun _ _=>True,fun H U=>zK hi H U,fun _=>True⟩),(3,⟨fun v=>∃x:Int,v=I6 x/\0<=x/\x<4,fun _ _=>True,fun H U=>zK hi H U,fun _=>True⟩),(6,⟨fun v=>∃x:Int,v=I6 x/\0<=x/\x<3,fun _ _=>True,fun H U=>zK hi H U,fun _=>True⟩),(17,⟨fun v=>∃x:Int,v=I6 x/\0<=x/\x<(A:Int)+1,fun _ _=>True,fun H U=>zK hi H U,fun _=>True⟩),(20,⟨fun v=>∃y,v=Xj (Xa ⟨y,0,Xb⟩),fun v u=>∃y,v=Xj (Xa ⟨y,0,Xb⟩)/\zt u y 77 [I6 0,I6 0,Xh Xd,Xh Xd,Xh Xd,I6 0,I6 0]/\w.heap.size<=y/\∀ae,(O h g i).ownBlock=Xa ae->ae<y,fun H U=>zc H U,fun _=>True⟩)] B z1 Kr rfl rfl Dc ?hS ?hp ?hpre ?hpr0 ?_;case hS=>
   intro x ao;simp only[mC,nM,or_false]at ao;rcases ao with rfl|rfl|rfl|rfl|rfl;·exact⟨_,0,rfl,Wm,Wm⟩
   ·exact⟨_,0,rfl,Wm,Wm⟩
   ·exact⟨_,0,rfl,Wm,Wm⟩
   ·exact⟨_,0,rfl,Wm,Wm⟩
   exact⟨_,0,rfl⟩
  case hp=>
   intro ae b7 G b9 M a7 ah b1 v H U F b6;have k:=zB M;have r:=zB a7;clear M a7;simp only[mC,pJ,nM,or_false]at k r;rcases k with⟨rfl,rfl⟩|⟨rfl,rfl⟩|⟨rfl,rfl⟩|⟨rfl,rfl⟩|⟨rfl,rfl⟩;·trivial
   ·trivial
   ·trivial
   ·trivial
   obtain⟨y,c,q,a⟩:=b6;rcases r with⟨rfl,rfl⟩|⟨rfl,rfl⟩|⟨rfl,rfl⟩|⟨rfl,rfl⟩|⟨rfl,rfl⟩;·exact⟨y,c,F.1 _ _ _ q J1,a⟩
   ·exact⟨y,c,F.1 _ _ _ q J1,a⟩
   ·exact⟨y,c,F.1 _ _ _ q J1,a⟩
   ·exact⟨y,c,F.1 _ _ _ q J1,a⟩
   exact absurd rfl ah
  case hpre=>
   intro G b9 ae b7 a7 M ah H U F D;have r:=zB a7;clear M a7;simp only[mC,pJ,nM,or_false]at r;rcases r with⟨rfl,rfl⟩|⟨rfl,rfl⟩|⟨rfl,rfl⟩|⟨rfl,rfl⟩|⟨rfl,rfl⟩<;>trivial
  case hpr0=>
   intro ae b9 M;have k:=zB M;clear M;simp only[mC,pJ,nM,or_false]at k;rcases k with⟨rfl,rfl⟩|⟨rfl,rfl⟩|⟨rfl,rfl⟩|⟨rfl,rfl⟩|⟨rfl,rfl⟩<;>trivial
  simp only[Xw,Xx];refine zs ?_;refine zR rfl rfl (fun w' d D ad=>?_) (fun ba a8=>?_)
  ·refine zL.call [Xj (Xa ⟨b,0,Xb⟩),I6 12] rfl func22 rfl rfl rfl ?_;refine(C 12 w' Wm d).mono ?_;rintro e s⟨x,rfl,aa,ai,Q,X⟩;exact⟨_,rfl,Q,X,⟨x,rfl,aa,ai⟩,trivial⟩
  obtain⟨t,rfl,aj,aj⟩:=a8;refine Uq ?_;refine zs ?_;refine zR rfl rfl (fun w' d D ad=>?_) (fun ba a8=>?_)
  ·refine zL.call [Xj (Xa ⟨b,0,Xb⟩),I6 4] rfl func22 rfl rfl rfl ?_;refine(C 4 w' Wm d).mono ?_;rintro e s⟨x,rfl,aa,ai,Q,X⟩;exact⟨_,rfl,Q,X,⟨x,rfl,aa,ai⟩,trivial⟩
  obtain⟨bu,rfl,aj,aj⟩:=a8;refine Uq ?_;iterate 2 refine zs ?_
  refine zR rfl rfl (fun w' d D ad=>?_) (fun ba a8=>?_)
  ·refine zL.call [Xj (Xa ⟨b,0,Xb⟩),I6 3] rfl func22 rfl rfl rfl ?_;refine(C 3 w' Wm d).mono ?_;rintro e s⟨x,rfl,aa,ai,Q,X⟩;exact⟨_,rfl,Q,X,⟨x,rfl,aa,ai⟩,trivial⟩
  obtain⟨bv,rfl,aj,aj⟩:=a8;refine Uq ?_;iterate 3 refine zs ?_
  refine QS (.tmp 22) ⟨b,0,Xb⟩ rfl rfl rfl rfl ?_;refine Uq ?_;iterate 6 refine zs ?_
  refine zR rfl rfl (fun w' d D ad=>?_) (fun ba a8=>?_)
  ·refine zL.call [Xj (Xa ⟨b,0,Xb⟩),I6 ((A:Int)+1)] rfl func22 rfl rfl rfl ?_;refine(C ((A:Int)+1) w' Wm d).mono ?_;rintro e s⟨x,rfl,aa,ai,Q,X⟩;exact⟨_,rfl,Q,X,⟨x,rfl,aa,ai⟩,trivial⟩
  obtain⟨bh,rfl,az,b0⟩:=a8;refine Uq ?_;iterate 2 refine zs ?_
  refine zR rfl rfl (fun w' d D ad=>?_) (fun ba a8=>?_);·obtain⟨⟨K,ag,f,a9,R⟩,ab,S⟩:=(P _).1 d;refine zL.step (v:=Xj (Xa ⟨w'.heap.size,0,Xb⟩)) (w':=w'.alloc (Xk #[I6 0,I6 0,Xh Xd,Xh Xd,Xh Xd,I6 0,I6 0] 77)) (by clear b2;simp only[execOp];go_simp) ⟨(P _).2 ⟨⟨K,ag,f.aA (za _ _),a9,R.trans (zK.aA (za _ _))⟩,ab.aA (za _ _),S.aA (za _ _)⟩,za _ _,⟨_,rfl⟩,_,rfl,zt.aF _ [I6 0,I6 0,Xh Xd,Xh Xd,Xh Xd,I6 0,I6 0] _ rfl,R.2,fun ae M=>(S.lt ae M).2⟩
  obtain⟨X,rfl⟩:=a8;refine Uq ?_;refine Zx fun C aj ad=>?_;obtain⟨C,c,q,a,C⟩:=ad 20;simp only[Value.pointer.injEq,Option.some.injEq,Addr.mk.injEq,and_true]at c;subst c;obtain⟨⟨aq,be,a0,W,c⟩,b8,b3⟩:=(P _).1 aj;have br:=dD a0;have bf:=dD W;have bq:=dD c;have bg:=dD b8;have bs:=dD b3;have bm:=dD q;have Q:=dD a;have al:=dD C;have ak:=dD<|nT ax a;clear q a C a0 W c b8 b3 ad aj b2 an B;obtain⟨W,a⟩:=kA (decide ((0:Int)<bu));obtain⟨c,a0⟩:∃c,Xo (decide ((0:Int)<bv)=c):=⟨_,rfl⟩;rw[a.out,a0.out];obtain⟨a,a0⟩:=kB (bh-1);have bh:a<(A:Int):=Wm;have A:-1<=a:=Wm;rw[a0];refine z6 rfl 77 (.tmp 3) (.tmp 32) rfl X rfl [I6 t,I6 0,Xh W,Xh c,Xh Xd,I6 a,I6 0] rfl bm rfl zst (arE.one ⟨t,0,W,c,Xd,a,0⟩) ?_;intro aj b2 C _;have A:=br.area bg C bm Q ak.out;have bm:=dD A.1;have bg:=dD A.2;have b8:=dD<|bq.own C Q.out;have bq:Xo (zb arE w0.heap.size aj (O h g i) l):=bs.grown C (fun y b3 e=>by cases e;have:=al.out _ b3;omega);have br:=dD b2;clear A b2 C az b0 a0;go_upto_region 4 with fail;simp only[Yu];obtain⟨z,P⟩:=Ww fun u=>MkE w0 hi b w L V m vt T u/\SpB w0.heap.size w.heap.size u V m/\zb arE w0.heap.size u (O h g i) l/\zt u X 77 [I6 t,I6 0,Xh W,Xh c,Xh Xd,I6 a,I6 0];have B:z aj.drew:=(P _).2 ⟨⟨aq,be,bm.aA (gW _),bf,b8.trans (zK.aA (gW _))⟩,bg.aA (gW _),bq.aA (gW _),br.aA (gW _)⟩;have a0:=fun af:zg z=>((P _).1 af.holds).2.2.2.box.c 0 rfl;have an:Nonempty (zg z):=⟨⟨_,B⟩⟩;refine qX (I:=z) 7 [(4,⟨fun v=>∃x:Int,v=I6 x/\0<=x/\x<4,fun _ _=>True,fun _ _=>True,fun _=>True⟩)] B z1 Kr rfl rfl Dc (Sa ⟨_,0,rfl,Wm,Wm⟩) ?hp ?hpre ?hpr0 ?_;case hp=>
   intro ae b7 G b9 M a7 ah b1 v H U F b6;have k:=zB M;simp only[mC,pJ,nM,or_false]at k;obtain⟨rfl,rfl⟩:=k;trivial
  case hpre=>
   intro G b9 ae b7 a7 M ah H U F D;have r:=zB a7;simp only[mC,pJ,nM,or_false]at r;obtain⟨rfl,rfl⟩:=r;trivial
  case hpr0=>
   intro ae b9 M;have k:=zB M;simp only[mC,pJ,nM,or_false]at k;obtain⟨rfl,rfl⟩:=k;trivial
  simp only[Xw,Xx];iterate 4 refine zs ?_
  refine zR rfl rfl (fun w' d D ad=>?_) (fun ba a8=>?_);·obtain⟨⟨K,ag,f,a9,R⟩,ab,S,z⟩:=(P _).1 d;refine zL.call [Xj (Xa ⟨b,0,Xb⟩),I6 4] rfl func22 rfl rfl rfl ?_;refine(qT 4 f).mono ?_;rintro e s⟨U,az,x,rfl,r,d,_,aa,ai,_,k⟩;exact⟨_,rfl,(P _).2 ⟨⟨U,az,r,a9.trans k,R.trans (f.keeps d)⟩,ab.pick f d,S.pick f d,(f.keeps d).1 _ _ _ z J1⟩,trivial,⟨x,rfl,aa,Wm⟩,trivial⟩
  obtain⟨R,rfl,d,d⟩:=a8;refine Uq ?_;iterate 2 refine zs ?_
  refine Zx fun M d ad=>?_;obtain⟨⟨U,az,r,k,f⟩,A,s,z⟩:=(P _).1 d;have a8:=dD r;have aa:=dD k;have aq:=dD f;have D:=dD A;have F:=dD s;have C:=dD z;clear r k f A s z ad d a0 an B;obtain⟨d,f⟩:=kA (t+1+R);have ai:Xo ((d-t).toNat<=4):=show _<=_ by rw[<-f.out];omega
  have b2:=C.box.c 1 rfl;have a0:=C.box.f;rw[f.out];go_upto_region 5 with fail;clear b2 a0;obtain⟨B,f⟩:=kB (M.setCell ⟨X,1,Xb⟩ (I6 d));have k:M.grownBy B (Xa X):=by rw[<-f];exact jX _ _ _ _
  have b1:Xo (zt B X 77 [I6 t,I6 d,Xh W,Xh c,Xh Xd,I6 a,I6 0]):=dD (by rw[<-f];exact C.set 1 _);have r:=a8.area D k C Q ak.out;have a9:=dD r.1;have ab:=dD r.2;have af:=dD<|aq.own k Q.out;have be:Xo (zb arE w0.heap.size B (O h g i) l):=F.grown k (fun y b3 e=>by cases e;have:=al.out _ b3;omega);rw[f];clear f k r;have ah:=b1.box.c 5 rfl;go_upto_if 42 with fail
  go_cut[2,11] (fun au ap s=>au=O h g i/\ap=I6 p/\∃(k:Bool)(r:Int)(f:Sli)(P:List Int),Xo (Mk w0 hi s b f P V m vt T)/\Xo (SpB w0.heap.size w.heap.size s V m)/\Xo (zK hi w s)/\Xo (zb arE w0.heap.size s (O h g i) l)/\Xo (zt s X 77 [I6 t,I6 d,Xh W,Xh c,Xh k,I6 a,I6 r])/\Xo (zbk L P))
  case first=>
   by_cases ae:0<=a
   ·have ba:decide ((0:Int)<=a)=Xc:=Si ae
    have s:=qT 2 a9.out;go_wp2_with fail;refine s.mono ?_;clear s ah;rintro e ad⟨s,s,bm,rfl,C,s,_,_,_,_,z⟩;have A:=dD C;have R:=dD<|ab.pick a9 s;have an:=dD (af.trans (a9.keeps s));have b9:=dD<|be.pick a9 s;have bg:=dD<|(a9.keeps s).1 _ _ _ b1 J1;have F:=dD (aa.trans z);clear C s z;have s:=qT 4 A.out;go_wp2_with fail;refine s.mono ?_;clear s;rintro e b6⟨f,P,r,rfl,D,s,_,z,z,_,C⟩;have b0:=dD D;have S:=dD<|R.pick A s;have ap:=dD (an.trans (A.keeps s));have bf:=dD<|b9.pick A s;have P9:=dD<|(A.keeps s).1 _ _ _ bg J1;have z:=dD (F.trans C);clear D s C;obtain⟨k,s⟩:=kA (bm==1);try rw[s.out]
    have b2:=P9.box.c 4 rfl;have C:=P9.box.c 6 rfl;have a0:=P9.box.f;go_upto_region 7 with fail;try rw[s.out]
    clear b2 C a0;obtain⟨b9,s⟩:=kB ((b6.setCell ⟨X,4,Xb⟩ (Xh k)).setCell ⟨X,6,Xb⟩ (I6 r));have C:b6.grownBy b9 (Xa X):=(by rw[<-s];exact Zc (jX _ _ _ _) (jX _ _ _ _));have b2:Xo (zt b9 X 77 [I6 t,I6 d,Xh W,Xh c,Xh k,I6 a,I6 r]):=dD (by rw[<-s];exact(P9.set 4 _).set 6 _);have D:=b0.area S C P9 Q ak.out;have R:=dD D.1;have S:=dD D.2;have F:=dD<|ap.own C Q.out;have Q:Xo (zb arE w0.heap.size b9 (O h g i) l):=bf.grown C (fun y b3 e=>by cases e;have:=al.out _ b3;omega);rw[s];clear s C D;try go_wp2
    go_meet;exact⟨rfl,rfl,k,r,f,P,R,S,F,Q,b2,z⟩
   have ba:decide ((0:Int)<=a)=Xd:=Si ae;try go_wp2
   go_meet;exact⟨rfl,rfl,Xd,0,U,az,a9,ab,af,be,b1,aa⟩
  clear ah;obtain⟨rfl,rfl,k,r,f,P,R,S,F,Q,b2,z⟩:=hcut;obtain⟨C,a9,aa,ab,ae,ah,ak⟩:=b2.box.c7;have s:=zmJ (O h g i) l ⟨t,d,W,c,k,a,r⟩ wc Q.at Q.cap j.2.1;have U:Xo ((zee l ⟨t,d,W,c,k,a,r⟩).2=0->jQ m.fl.length (zee l ⟨t,d,W,c,k,a,r⟩).1/\(wrL (zee l ⟨t,d,W,c,k,a,r⟩).1).1=0/\Q2 (zee l ⟨t,d,W,c,k,a,r⟩).1 64<=4*(p+1)):=dD<|fun D=>⟨zjs j.1 (by show a<_;rw[aw.out];exact bh) D,zrB D,by have X:=zpN D;have aw:=ai.out;have az:=j.2.2;dsimp only at X;omega⟩;go_wp2_with fail;refine s.mono ?_;clear s C a9 aa ab ae ah ak;rintro e b1⟨⟨u,rfl,s⟩,C⟩;obtain⟨a9,aa,rfl⟩:=s.form;generalize zee l ⟨t,d,W,c,k,a,r⟩=a at U s⊢;obtain⟨t,d⟩:=a;dsimp only at U s⊢;have ae:=dD (R.aA C);have a:=dD (S.aA C);have ab:=dD (F.trans (zK.aA C));have u:=dD (Q.aA C);have r:=dD<|s.base (nT ax F.2);clear C s;obtain⟨s,c⟩:=kA t.length;rw[c.out]at r⊢;by_cases D:d=0
  ·have k:(d==0)=Xc:=by simp[D]
   have c:=dD<|U.out D;clear D;go_wp2;go_roundg (ac-(p+1));exact⟨p+1,s,t,a9,aa,f,P,Wm,Wm,Gn,rfl,ae,z,ab,a,r,c,(fun Z=>Wm)⟩;omega
  have k:(d==0)=Xd:=by simp[D]
  clear D;go_wp2;go_roundg (ac-(p+1));exact⟨p+1,g,l,h,i,f,P,Wm,Wm,Gn,rfl,ae,z,ab,a,u,(show _/\_ from⟨j.1,j.2.1,Hm j.2.2⟩),(fun Z=>Wm)⟩;omega
 have b5:=kD b4;have W:Xo (L=[]->l=[]):=dD<|fun e=>bt.out (Hm (av.out e));obtain⟨d,a,au,c⟩:=Y.rows.sp;have k:=dD a;have f:=dD au;have u:=dD c;clear a au c;obtain⟨s,r⟩:=kA m.sp.length;have a:s<4:=Ry r.out bj.out;have t:=Y.box.box.c 11 rfl;have a:=dD<|bS Y.gr;go_wp2_with(at_builtin;refine zr (E:=Qg) rfl (.tmp 65) (.tmp 68) rfl w0.heap.size _ d rfl (k.aA (za _ _)) _ [⟨Xc,⟨h,g,i⟩,zP,zP,zP,zP,zP,zP,zP,zP⟩] rfl (q8 Qg wr ⟨Xc,⟨h,g,i⟩,zP,zP,zP,zP,zP,zP,zP,zP⟩ _ _ rfl Dc) ?qb ?qc ?_)
 case qb=>
  rw[f.out,r.out];show(s+1)*224<=_;omega
 case qc=>have:=a.out;omega
 intro a aj z a;obtain⟨am,D,rfl⟩:=z.form;obtain⟨N,bd⟩:=kB ((d++[(⟨Xc,⟨h,g,i⟩,zP,zP,zP,zP,zP,zP,zP,zP⟩:SpV)]).length);have c:(N:Int)-1=(s:Int):=by
  have:N=s+1:=by rw[<-bd,lA,f.out,r.out];rfl
  omega
 rw[bd]at z⊢;clear bd;obtain⟨al,d⟩:=kB (wr.alloc (Xk #[Xh Xc,O h g i,eS,eS,eS,eS,eS,eS,eS,eS] 63));have c:=gP d;rw[d]at a;clear d;have P:zt aj b 81 [n.x,V.f.x,I6 m.aB,V.s.x,V.sb.x,V.sq.x,V.db.x,V.dq.x,V.fl.x,I6 m.cnt,V.ca.x,V.sp.x,vt.x]:=zt.row (k.aA c) a (Y.box.aA c) Dc
 have ac:Xo (MkR w0.heap.size hi aj {V with sp:=⟨am,N,D⟩} {m with sp:=m.sp++[⟨Xc,l,qU⟩]} vt T):=(Y.rows.aA c).addSp (k.aA c) f (fun S x b7 ao f=>by
  obtain⟨bn,bo,bp⟩:=u.out S x b7 ao f;exact⟨bn,bo.aA c,bp⟩) a ⟨am,N,D⟩ ⟨h,g,i⟩ (bb.aA c) z
 have aa:=dD<|zc.row (k.aA c) a (Y.gr.trans c);have b8:=dD<|(bl.trans (zK.aA c)).trans (zK.row (k.aA c) a (fun H Q=>Q.2.2.2.2.2.2.1 rfl));have U:Xo (zb arE w0.heap.size aj (O h g i) l):=dD<|by
  cases f:(V.sp.x).ownBlock with
  |none=>
   rw[f]at a;exact(bb.aA c).aA (qP a)
  |some y=>
   obtain⟨ao,ak⟩:=(k.aA c).obj f;rw[f]at a;exact(bb.aA c).kind a ak Dc
 have k:=dD P;have u:Xo (w0.heap.size<=b/\zq byE w0 (n.x) ar/\n.n<=n.c/\∀a9∈ar,0<=a9/\a9<256):=show _/\_ from⟨Y.hb,Y.lr,Y.lc,Y.lb⟩;clear P z a c t;have t:=k.box.c 11 rfl;have a0:=k.box.f;go_upto_region 12 with fail;clear t a0;obtain⟨M,z⟩:=kB (aj.setCell ⟨b,11,Xb⟩ (O am N D));have a:aj.grownBy M (Xa b):=by rw[<-z];exact jX _ _ _ _
 have a8:Xo (Mk w0 hi M b n ar {V with sp:=⟨am,N,D⟩} {m with sp:=m.sp++[⟨Xc,l,qU⟩]} vt T):=dD<|⟨zd aa a u.1,u.1,by rw[<-z];exact k.set 11 _,u.2.1,u.2.2.1,u.2.2.2,ac.var a k a.size (.inl rfl)⟩;have aq:=dD<|b8.trans (zK.kind a k (fun _ Q=>absurd rfl Q.1));have Y:Xo (zb arE w0.heap.size M (O h g i) l):=U.kind a k Dc;rw[z];clear z a;obtain⟨z,k⟩:=kA T.length;have P:Xo (z=s):=dD<|by rw[<-k.out,bk.tl,r.out]
 have U:=a8.box.box.c 12 rfl;have a:=dD<|bS a8.gr;go_wp2_with(at_builtin;refine zr (E:=zdf) rfl (.tmp 77) (.tmp 79) rfl w0.heap.size _ T rfl (a8.rows.tt.aA (za _ _)) _ [fun _=>en0] rfl (q8 zdf M (fun _=>en0) _ _ rfl Dc) ?qb ?qc ?_)
 case qb=>
  rw[k.out];show(z+1)*1536<=_;have:=P.out;omega
 case qc=>exact nT a (bS (za _ _))
 intro a B z a9;obtain⟨ah,ai,rfl⟩:=z.form;obtain⟨ac,aa⟩:=kB ((T++[fun _=>en0]).length);rw[aa]at z⊢;obtain⟨al,d⟩:=kB (M.alloc (Xk (zdf.enc (fun _=>en0)).toArray 56));have c:=gP d;have a:al.grownBy B (vt.x).ownBlock:=Ry d a9;clear a9 d aa;have d:=a8.aA c;have M:Xo (zt B b 81 [n.x,V.f.x,I6 m.aB,V.s.x,V.sb.x,V.sq.x,V.db.x,V.dq.x,V.fl.x,I6 m.cnt,V.ca.x,O am N D,vt.x]):=zt.row d.rows.tt a d.box Dc;have a9:=dD<|d.rows.addT a ⟨ah,ac,ai⟩ z;have a8:=dD<|zc.row d.rows.tt a d.gr;have af:=dD<|(aq.trans (zK.aA c)).trans (zK.row d.rows.tt a (fun H Q=>Q.2.2.2.2.2.2.2.1 rfl));have H:Xo (zb arE w0.heap.size B (O h g i) l):=dD<|by
  cases f:(vt.x).ownBlock with
  |none=>
   rw[f]at a;exact(Y.aA c).aA (qP a)
  |some y=>
   obtain⟨ao,ak⟩:=d.rows.tt.obj f;rw[f]at a;exact(Y.aA c).kind a ak Dc
 clear a z c U;have U:=M.box.c 12 rfl;have a0:=M.box.f;go_upto_region 13 with fail;clear U a0;obtain⟨ad,c⟩:=kB (B.setCell ⟨b,12,Xb⟩ (O ah ac ai));have a:B.grownBy ad (Xa b):=by rw[<-c];exact jX _ _ _ _
 have A:Xo (Mk w0 hi ad b n ar {V with sp:=⟨am,N,D⟩} {m with sp:=m.sp++[⟨Xc,l,qU⟩]} ⟨ah,ac,ai⟩ (T++[fun _=>en0])):=dD<|⟨zd a8 a u.1,u.1,by rw[<-c];exact M.set 12 _,u.2.1,u.2.2.1,u.2.2.2,a9.var a M a.size (.inl rfl)⟩;have an:=dD<|af.trans (zK.kind a M (fun _ Q=>absurd rfl Q.1));have d:Xo (zb arE w0.heap.size ad (O h g i) l):=H.kind a M Dc;rw[c];clear c a;obtain⟨u,a⟩:∃u:Sli,Xo (u=⟨ah,ac,ai⟩):=⟨_,rfl⟩;rw[<-a.out]at A;have y:=dD<|bk.space j.2.1 bj.out;have t:=A.box.box.c 11 rfl;have a:=Zo (O h g i) l ad d.at (jL.1 j.2.1).2.cE;go_wp2_with fail;refine a.mono ?_;clear a t;rintro e b1⟨rfl,C⟩;have ae:=dD (A.aA C)
 have ab:=dD (an.trans (zK.aA C));clear C;have f:Xo (∀{c:Array Oper}{a:List Oper}{h:Oper}{d:Act}{w:Xn}{Q:Exit->Act->Xn->Prop}(_:h.guard=Xb)(x g:Operand)(_:h.op=.index 68 x g)(_:d.eval x=Xi (zD (tab (zl l))).toArray)(S:Nat)(_:d.eval g=I6 (S:Int))(_:S<64){v:Xq}(_:Xi (onv (zl l S)).toArray=v)
  (_:wpList prog c Q a (d.put h.dst v) w),wpList prog c Q (h::a) d w):=fun X x g aw az S bc a _ c d=>zbO X x g aw (zl l) az S bc a c d
 generalize zD (tab (zl l))=C at f⊢;have A:Xo (({m with sp:=m.sp++[⟨Xc,l,qU⟩]}:Ma).sp[s]?=Xa ⟨Xc,l,qU⟩):=dD<|by
  show(m.sp++[(⟨Xc,l,qU⟩:Sp)])[s]?=_;rw[aR (by rw[r.out];exact nR _),r,Ys];rfl
 have d:Xo ((T++[fun _=>en0])[s]?=Xa (fun _=>en0)):=dD<|by
  rw[aR (by rw[k.out,P.out];exact nR _),k,P,Ys];rfl
 go_wp2;go_loopg[92] 64 (fun bi g wr=>∃(p:Nat)(K:Sli)(ag:List Int)(h:MaV)(a:Ma)(c:List (Nat->En))(k:Nat->En),p<=64/\64-p<=bi/\g=I6 p/\Xo (Mk w0 hi wr b K ag h a u c)/\Xo (zbk L ag)/\Xo (zK hi w wr)/\Xo (qL a c)/\Xo (a.sp=m.sp++[⟨Xc,l,qU⟩]/\a.fl=m.fl/\a.aB=m.aB/\a.fs.length=m.fs.length)/\Xo (c[s]?=Xa k/\∀G,p<=G->k G=en0)/\Xo (L=[]->a={m with sp:=m.sp++[⟨Xc,l,qU⟩]}/\c=(T++[fun _=>en0])))
 exact⟨0,n,ar,_,_,_,fun _=>en0,nZ _,Wm,rfl,ae,ay,ab,y,(show _/\_ from⟨rfl,rfl,rfl,rfl⟩),(show _/\_ from⟨d,fun _ _=>rfl⟩),(fun _=>⟨rfl,rfl⟩)⟩;obtain⟨c,B,N,S,U,P,k,a,q,rfl,R,i,F,H,g,a,M⟩:=hrel;by_cases d:c<64
 ·have n:(c:Int)<64:=Wm
  obtain⟨y,h⟩:=kA (zl l c);obtain⟨z,r,x,t,p,q⟩:=y;have y:Xo (Value.agg (onv (zl l c)).toArray=Xi #[Xh z,Xh r,Xh x,Xh t,I6 p,I6 q]):=dD<|Rr h.out;cases z with
  |false=>
   go_wp2_with(refine f rfl (.tmp 91) (.tmp 92) rfl rfl c rfl d y.out ?_)
   go_roundg (64-(c+1));exact⟨c+1,B,N,S,U,P,k,Wm,Wm,Gn,R.aA (za _ _),i,F.trans (zK.aA (za _ _)),H,g,(show _/\_ from⟨a.1,fun G a7=>a.2 G Wm⟩),M⟩;omega
  |true=>
   have K:Xo (L≠[]):=dD<|fun e=>by
    have X:=h.out;rw[W.out e]at X;cases X
   go_upto_region 17 with(refine f rfl (.tmp 91) (.tmp 92) rfl rfl c rfl d y.out ?_)
   obtain⟨f,z⟩:=kA wr.heap.size;refine nW fun b6 f=>?_;have C:=gP f;have y:=xP f z;rw[z.out];have b0:=dD (R.aA C);have ap:=dD (F.trans (zK.aA C));clear f C;obtain⟨z,C,Q,X,D,Y⟩:=y.k6;have f:=znE s c ⟨Xc,l,qU⟩ k ⟨Xc,r,x,t,p,q⟩ b0 H (Rx g.1 A) a.1 d (a.2 c (nR _)) h rfl (Rx g.2.1 j.1);go_wp2_with fail;refine f.mono ?_;clear f z C Q X D Y;rintro e d⟨⟨v,rfl⟩,D,X,a8,A,Q,f,h,p,q,⟨r,t,x,y⟩,z,_⟩;obtain⟨C,d⟩:∃C,Q[s]?=Xa C/\∀G,c+1<=G->C G=en0:=by
    rcases z with rfl|⟨e,rfl⟩;·exact⟨k,a.1,fun G a7=>a.2 G Wm⟩
    refine⟨jJ k c e,sF (gS.1 a.1).1,fun G a7=>?_⟩;unfold jJ;rw[kF Wm];exact a.2 G Wm
   have Y:=dD f;have a:=dD (i.trans h);have G:=dD (ap.trans p);have k:=dD q;have a0:Xo (A.sp=m.sp++[⟨Xc,l,qU⟩]/\A.fl=m.fl/\A.aB=m.aB/\A.fs.length=m.fs.length):=show _/\_ from⟨r.trans g.1,t.trans g.2.1,x.trans g.2.2.1,y.trans g.2.2.2⟩;have s:=dD d;clear f h p q r t x y z d;go_wp2;go_roundg (64-(c+1));exact⟨c+1,D,X,a8,A,Q,C,Wm,Wm,Gn,Y,a,G,k,a0,s,(fun Z=>absurd Z K)⟩;omega
 have n:¬(c:Int)<64:=Wm
 have a:Xo (Spc w0 hi b w L m T wr):=dD<|⟨B,N,S,U,u,P,l,R,i,F,H,g,⟨j.1,Hm j.2.2⟩,fun e=>by
  obtain⟨c,d⟩:=M.out e;rw[W.out e]at c;exact⟨c,d⟩⟩
 go_wp2;exact Wq a.out
theorem ziZ(x)(f:o.op=.load 56 x)(b c:Nat)(g:a.eval x=Xj (Xa ⟨b,c,Xb⟩))(d:w.rangeAt b c vs)(e:vs.length=192):(execOp a.eval o).run prog w=.ok (.value (Xi vs.toArray)) w:=by have:=run_loadAt_mid (P:=prog) w b c 56 vs _ d underlying56 rfl (Rx e zsA);simp only[execOp,f,g,Xv,this,rA,Xu]
theorem zb.range{c:Nat}(h:zb E k w (O (Xa ⟨b,0,Xb⟩) p c) y){i:Nat}{x:α}(n:y[i]?=Xa x):w.rangeAt b (i*E.k) (E.enc x):=fun j v a=>by
 have:=h.one n j v a;rw[zX,Xz,zA]at this;exact this
structure MkT(base hi ht k:Nat)(w:Xn)(V:MaV)(m:Ma)(vt:Sli)(T:List (Nat->En)):Prop where
 fs:zb q7 base w (O V.f.a V.f.n V.f.c) m.fs
 sl:zb slE base w (O V.s.a V.s.n V.s.c) m.sl
 bA:∀g,(O V.s.a V.s.n V.s.c).ownBlock=Xa g->g<hi
 sb:zm base w (O V.sb.a V.sb.n V.sb.c) m.sb
 sq:V.sq=zP/\m.sq=[]
 db:zm base w (O V.db.a V.db.n V.db.c) m.db
 dq:zw base w (O V.dq.a V.dq.n V.dq.c) m.dq
 fl:∃xs:List FlV,zb fvE base w (O V.fl.a V.fl.n V.fl.c) xs/\xs.length=m.fl.length/\∀(i:Nat)x f,xs[i]?=Xa x->m.fl[i]?=Xa f->x.size=f.size/\zb blE hi w x.v f.bl
 ca:zb jI base w (O V.ca.a V.ca.n V.ca.c) m.ca
 sp:∃xs:List SpV,zb Qg base w (O V.sp.a V.sp.n V.sp.c) xs/\xs.length=m.sp.length/\∀(i:Nat)x s f,xs[i]?=Xa x->m.sp[i]?=Xa s->T[i]?=Xa f->x.aE=s.aE/\zb arE base w x.ar.v s.aC/\(i<k->Jv 0 ht w x.tab (ZO f))/\(k<=i->x.tab=JS)
 tt:zb zdf base w (O vt.a vt.n vt.c) T
 ap:(∀g,(O V.sb.a V.sb.n V.sb.c).ownBlock=Xa g->(O V.db.a V.db.n V.db.c).ownBlock≠Xa g)/\zfX m
 lo:∀g,(O V.f.a V.f.n V.f.c).ownBlock=Xa g\/(O V.s.a V.s.n V.s.c).ownBlock=Xa g\/(O V.fl.a V.fl.n V.fl.c).ownBlock=Xa g\/(O V.ca.a V.ca.n V.ca.c).ownBlock=Xa g\/(O V.sp.a V.sp.n V.sp.c).ownBlock=Xa g->g<ht
 hts:ht<=w.heap.size
section
variable{base hi ht k:Nat}{w w':Xn}{V:MaV}{m:Ma}{vt:Sli}{T:List (Nat->En)}
theorem MkR.start(h:MkR base hi w V m vt T)(ht:Nat)(b:w.heap.size=ht):MkT base hi ht 0 w V m vt T:=by
 have c:∀g,(V.f.x).ownBlock=Xa g\/(V.s.x).ownBlock=Xa g\/(V.fl.x).ownBlock=Xa g\/(V.ca.x).ownBlock=Xa g\/(V.sp.x).ownBlock=Xa g->g<ht:=fun g a=>by
  obtain⟨_,e,_⟩:=h.fl;obtain⟨_,d,_⟩:=h.sp;rcases a with a|a|a|a|a;·have:=(h.fs.lt g a).2;omega
  ·have:=(h.sl.lt g a).2;omega
  ·have:=(e.lt g a).2;omega
  ·have:=(h.ca.lt g a).2;omega
  have:=(d.lt g a).2;omega
 obtain⟨f,d,a,e⟩:=h.sp;exact⟨h.fs,h.sl,h.bA,h.sb,h.sq,h.db,h.dq,h.fl,h.ca,⟨f,d,a,fun i x s f d a _=>⟨(e i x s d a).1,(e i x s d a).2.1,fun f=>absurd f (nL _),fun _=>(e i x s d a).2.2.1⟩⟩,h.tt,h.ap,c,Nat.le_of_eq b.symm⟩
theorem MkT.aA(h:MkT base hi ht k w V m vt T)(g:zc w w'):MkT base hi ht k w' V m vt T:=by obtain⟨f,a,c,b⟩:=h.fl;obtain⟨l,e,j,d⟩:=h.sp;exact⟨h.fs.aA g,h.sl.aA g,h.bA,h.sb.aA g,h.sq,h.db.aA g,h.dq.aA g,⟨f,a.aA g,c,fun i x f a c=>⟨(b i x f a c).1,(b i x f a c).2.aA g⟩⟩,h.ca.aA g,⟨l,e.aA g,j,fun i x s f a c b=>⟨(d i x s f a c b).1,(d i x s f a c b).2.1.aA g,fun e=>((d i x s f a c b).2.2.1 e).aA g,(d i x s f a c b).2.2.2⟩⟩,h.tt.aA g,h.ap,h.lo,nT h.hts (bS g)⟩
theorem MkT.table(h:MkT base hi ht k w V m vt T){c:List SpV}(s2:c.length=m.sp.length)(s3:∀(i:Nat)x s f,c[i]?=Xa x->m.sp[i]?=Xa s->T[i]?=Xa f->x.aE=s.aE/\zb arE base w x.ar.v s.aC/\(i<k->Jv 0 ht w x.tab (ZO f))/\(k<=i->x.tab=JS)){g:Nat}{cs:Array Xq}(b:w.heap[g]?=Xa (Xk cs 63 (0,0)))(n:g<ht)(a:w.grownBy w' (Xa g)){x y:SpV}{f:Nat->En}(l:c[k]?=Xa x)(d:T[k]?=Xa f)(t:y.aE=x.aE/\y.ar=x.ar)(v:Jv 0 ht w' y.tab (ZO f))(u:zb Qg base w' (V.sp.x) (c.set k y)):MkT base hi ht (k+1) w' V m vt T:=by
 obtain⟨z,q,r,p⟩:=h.fl;have j:Out 0 ht w w':=Out.grown a (fun e e=>by cases e;exact⟨nZ _,n⟩);refine⟨h.fs.kind a b Dc,h.sl.kind a b Dc,h.bA,⟨qZ h.sb.1 a b Dc,h.sb.2⟩,h.sq,⟨qZ h.db.1 a b Dc,h.db.2⟩,⟨qZ h.dq.1 a b Dc,h.dq.2⟩,⟨z,q.kind a b Dc,r,fun i x f l d=>⟨(p i x f l d).1,(p i x f l d).2.kind a b Dc⟩⟩,h.ca.kind a b Dc,⟨c.set k y,u,Rx Yf s2,fun i z s u n r c=>?_⟩,h.tt.kind a b Dc,h.ap,h.lo,nT h.hts a.size⟩;by_cases e:i=k;·subst e;rw[sF (gS.1 l).1]at n;cases n;rw[d]at c;cases c;obtain⟨p,q,_⟩:=s3 i x s f l r d;exact⟨t.1.trans p,Rx t.2 (q.kind a b Dc),fun _=>v,fun e=>Wm⟩
 rw[sN (fun h=>e h.symm)]at n;obtain⟨p,q,d,e⟩:=s3 i z s u n r c;exact⟨p,q.kind a b Dc,fun a=>(d Wm).out j,fun a=>e Wm⟩
theorem MkT.mach(h:MkT base hi ht m.sp.length w V m vt T)(p:T.length=m.sp.length)(hd:Int):zQ w V (Ql m T hd):=by
 obtain⟨y,d,n,e⟩:=h.fl;obtain⟨z,u,j,v⟩:=h.sp;obtain⟨r,t⟩:=h.sq;refine⟨h.fs.at,h.sl.at,h.sb.at,?_,h.db.at,h.dq.at,⟨d.cap,y,d.at.s0,n,fun i x f b g=>⟨(e i x f b g).1,(e i x f b g).2.at.s0⟩⟩,h.ca.at,⟨z,u.at,by simp[Ql,p,j],fun i x s b q=>?_⟩⟩
 ·show Zs w (V.sq.x) m.sq
  rw[r,t];exact⟨⟨Xb,0,rfl,fun _=>rfl,fun x b=>by cases b⟩,Sm,Sm⟩
 have a:(List.zipWith (fun s f=>({s with tb:=ZO f}:Sp)) m.sp T)[i]?=Xa s:=q;rw[Ym]at a;have hi:i<m.sp.length:=by rw[<-j];exact(gS.1 b).1
 rw[gE hi,gE (show i<T.length by omega)]at a;simp only[Option.some.injEq]at a;obtain⟨k,c,l,_⟩:=v i x _ _ b (gE hi) (gE (show i<T.length by omega));subst a;exact⟨k,c.at,c.cap,(l hi).now⟩
end
structure zrc(w0 w:Xn)(b:Nat)(vl:Sli)(L:List Int)(cs:List Xq):Prop where
 gr:zc w0 w
 hb:w0.heap.size<=b
 box:zt w b 81 (O vl.a vl.n vl.c::cs)
 lr:zq byE w0 (O vl.a vl.n vl.c) L
 lc:vl.n<=vl.c
 lb:∀z∈L,0<=z/\z<256
theorem Mk.aW(h:Mk w0 hi w b vl L V m vt T):zrc w0 w b vl L [V.f.x,I6 m.aB,V.s.x,V.sb.x,V.sq.x,V.db.x,V.dq.x,V.fl.x,I6 m.cnt,V.ca.x,V.sp.x,vt.x]:=⟨h.gr,h.hb,h.box,h.lr,h.lc,h.lb⟩
theorem zoM(n:Int)(j:zrc w0 w b vl L D):
  Xp prog 22 #[Xj (Xa ⟨b,0,Xb⟩),I6 n] w fun e w'=>∃F g x,e=Xl (I6 x)/\zrc w0 w' b F g D/\w.grownBy w' (Xa b)/\w'.heap.size=w.heap.size/\0<=x/\(x=0\/x<n)/\(L=[]->x=0)/\zbk L g:=by
 have d:=dD j;have l:=j.box.box;have I:=l.c 0 rfl;have a6:=l.f;have h:=j.lr.n;clear l;obtain⟨⟨a2,t,f⟩,cs⟩:∃Z:Sli,vl=Z:=⟨_,rfl⟩;subst cs;dsimp only[Sli.x]at I h d;clear j;by_cases u:t=0
 ·subst u;clear h;go_enter func22,ntmps22;go_wp2;go_ret;exact⟨_,L,0,rfl,d,World.grownBy.rfl' _ _,rfl,Int.le_refl _,.inl rfl,fun _=>rfl,zbk.refl L⟩
 have Q:((t:Int)==0)=Xd:=by simp;omega
 have R:(t==0)=Xd:=by simp[u]
 by_cases a1:n<1
 ·clear u h
  go_enter func22,ntmps22;go_wp2;go_ret;exact⟨_,L,0,rfl,d,World.grownBy.rfl' _ _,rfl,Int.le_refl _,.inl rfl,fun _=>rfl,zbk.refl L⟩
 obtain⟨z,g,rfl⟩:∃z g,L=z::g:=by
  cases L with
  |nil=>simp at h;omega
  |cons z g=>exact⟨z,g,rfl⟩
 have U:=d.lb z Sm;obtain⟨V,W⟩:=U;obtain⟨p,rfl,H⟩:=d.lr.bX 0 z rfl;have a0:w.cell? p=Xa (U8 z):=by
  have:=H w d.gr 0 _ rfl;rw[zX]at this;simpa[byE,Addr.add]using this
 obtain⟨k,rfl⟩:∃k,t=k+1:=⟨t-1,Wm⟩;have q:k+1<=f:=d.lc;have s:=zj1 (w:=w) (ad:=p) (n:=k) (c:=f);clear u H;have T:(0:Int)<((k+1:Nat):Int):=Wm;obtain⟨a,i⟩:∃a,(if f=1 then p else p.add 1)=a:=⟨_,rfl⟩;rw[i]at s;have A:Xo (zq byE w0 (O (Xa a) k (f-1)) g):=dD<|by
  obtain⟨⟨a4,a5,K,a3,X⟩,M⟩:=d.lr;dsimp only[Sli.x]at K;cases K;have Y:=X p rfl;refine⟨⟨Xa a,f-1,rfl,fun j=>(by cases j),fun P E=>?_⟩,?_⟩
  ·cases E
   by_cases S:f=1
   ·have:g=[]:=by
     have:g.length=0:=Wm;exact eN this
    subst this;intro v N r;simp at r
   rw[kF S]at i;subst i;intro v N r;rw[zX,Nat.add_comm 1 v];exact Y (v+1) N (by simpa[byE]using r)
  have:byE.bytes=1:=rfl;rw[this]at M⊢;simp at M⊢;omega
 have y:Xo (zt (w.setCell ⟨b,0,Xb⟩ (O (Xa a) k (f-1))) b 81 (O (Xa a) k (f-1)::D)):=d.box.set 0 _;have m:Xo (w.grownBy (w.setCell ⟨b,0,Xb⟩ (O (Xa a) k (f-1))) (Xa b)):=⟨rfl,rfl,rfl,by simp[World.setCell],fun v _ r=>Below.heap_setCell _ _ _ _ (fun e=>r (by rw[e]))⟩;have C:Xo ((w.setCell ⟨b,0,Xb⟩ (O (Xa a) k (f-1))).heap.size=w.heap.size):=dD<|by simp[World.setCell]
 have B:Xo (zrc w0 (w.setCell ⟨b,0,Xb⟩ (O (Xa a) k (f-1))) b ⟨Xa a,k,f-1⟩ g D):=show zrc _ _ _ _ _ _ from
  ⟨zd d.gr m d.hb,d.hb,y,A,(show k<=f-1 by omega),fun P E=>d.lb P (by simp[E])⟩
 have G:Xo (0<=z%n/\z%n<n):=dD<|⟨Int.emod_nonneg _ Wm,Int.emod_lt_of_pos _ Wm⟩;clear h q i;go_enter func22,ntmps22;go_wp2;go_ret;exact⟨_,g,z%n,rfl,B,m,C,G.1,.inr G.2,fun j=>(by cases j)⟩
theorem zmr(h:Jv B0 B1 w us G):∃g t1 t2 j k l m n:Sli,us=[g.v,t1.v,t2.v,j.v,k.v,l.v,m.v,n.v]:=by
 have a:∀i v,us[i]?=Xa v->∃s:Sli,v=s.v:=fun i v b=>by
  obtain⟨y,f⟩:∃y,G[i]?=Xa y:=⟨_,gE (by rw[h.aJ,<-h.len];exact(gS.1 b).1)⟩;obtain⟨⟨c,d,e,_⟩,_⟩:=(h.row i v y b f).now;exact⟨⟨c,y.length,d⟩,e⟩
 obtain⟨p,q,r,u,x,z,A,B,rfl⟩:=znK h.len;obtain⟨C,rfl⟩:=a 0 p rfl;obtain⟨D,rfl⟩:=a 1 q rfl;obtain⟨E,rfl⟩:=a 2 r rfl;obtain⟨F,rfl⟩:=a 3 u rfl;obtain⟨t,rfl⟩:=a 4 x rfl;obtain⟨H,rfl⟩:=a 5 z rfl;obtain⟨K,rfl⟩:=a 6 A rfl;obtain⟨L,rfl⟩:=a 7 B rfl;grind
theorem zb.cF(h:zb E k w A y)(v:Out b (b+1) w w')(d:∀g,A.ownBlock=Xa g->g≠b):zb E k w' A y:=by
 refine⟨⟨h.1.1,?_⟩,h.2⟩;rcases h.1.2 with a|⟨g,a,c,rfl,f,e,h⟩;·grind
 exact .inr ⟨g,a,c,rfl,f,by rw[v.block g (aS.1 e).1 (Hm (d g rfl))];exact e,h⟩
theorem zt.cF(h:zt w k t D)(p:Out b (b+1) w w')(a:k≠b):zt w' k t D:=by have c:=h.box.lt;have a:w.heap[k]?=_:=h;show w'.heap[k]?=_;rw[p.block k c Wm];exact a
structure FC(w:Xn)(hi b:Nat)(u:Xn)(vl:Sli)(L:List Int)(V:MaV)(m:Ma)(pf:Nat)(sz:Int)(bs:Sli)(bl:List Int):Prop where
 mm:Mk w hi u b vl L V m zP []
 hp:hi<=pf
 fb:FlB w.heap.size hi pf u V m
 fn:∀g,(O V.fl.a V.fl.n V.fl.c).ownBlock=Xa g->g<pf
 box:zt u pf 84 [Xe Xf sz,O bs.a bs.n bs.c]
 row:zb blE (pf+1) u (O bs.a bs.n bs.c) bl
section
variable{w u u':Xn}{hi b pf:Nat}{vl vl' bs:Sli}{L L':List Int}{V V':MaV}{m m':Ma}{sz:Int}{bl:List Int}
theorem FC.aA(h:FC w hi b u vl L V m pf sz bs bl)(k:zc u u'):FC w hi b u' vl L V m pf sz bs bl:=⟨h.mm.aA k,h.hp,h.fb.aA k,h.fn,h.box.aA k,h.row.aA k⟩
theorem FlB.as(h:FlB w.heap.size hi pf u V m)(a:V'.fl=V.fl)(b:m'.fl=m.fl):FlB w.heap.size hi pf u V' m':=by unfold FlB at h⊢;rw[a,b];exact h
theorem zt.kind{a:TypeId}(h:zt u p t D)(b:u.grownBy u' (Xa k))(c:u.heap[k]?=Xa (Xk Y a (0,0)))(ht:a≠t):zt u' p t D:=h.beside b (fun g e=>by
 cases e;intro e;subst e;have a:u.heap[p]?=_:=h;rw[c]at a;cases a;exact ht rfl)
theorem FC.kind(h:FC w hi b u vl L V m pf sz bs bl)(c:u.grownBy u' (Xa k))(d:u.heap[k]?=Xa (Xk Y t (0,0)))(ht:t≠84)(a:t≠3)(e:Mk w hi u' b vl' L' V' m' zP [])(f:V'.fl=V.fl)(i:m'.fl=m.fl):FC w hi b u' vl' L' V' m' pf sz bs bl:=
 ⟨e,h.hp,(h.fb.kind c d (.inl ht) (.inl a)).as f i,Rx f h.fn,h.box.kind c d ht,h.row.kind c d a⟩
theorem FC.pick(h:FC w hi b u vl L V m pf sz bs bl)(c:u.grownBy u' (Xa b))(a:Mk w hi u' b vl' L' V m zP []):FC w hi b u' vl' L' V m pf sz bs bl:=h.kind c h.mm.box Dc Dc a rfl rfl
theorem FC.fresh(h:FC w hi b u vl L V m pf sz bs bl)(a:u.grownBy u' (Xa k))(c:u.heap[k]?=Xa (Xk Y 84 (0,0)))(d:pf<k):FC w hi b u' vl L V m pf sz bs bl:=by
 have d:(V.fl.x).ownBlock≠Xa k:=fun e=>Hm (h.fn k e);have f:w.heap.size<=k:=by have:=h.mm.rows.bh;have:=h.hp;omega
 exact⟨⟨zd h.mm.gr a f,h.mm.hb,h.mm.box.kind a c Dc,h.mm.lr,h.mm.lc,h.mm.lb,h.mm.rows.cL a c d⟩,h.hp,h.fb.kind a c (.inr d) (.inl Dc),h.fn,h.box.beside a (fun g e=>by cases e;omega),h.row.kind a c Dc⟩
theorem zoP(w:Xn)(x:FlV):zb fvE w.heap.size (w.alloc (Xk (fvE.enc x).toArray 84)) (O (Xa ⟨w.heap.size,0,Xb⟩) 1 1) [x]:=by
 refine⟨⟨rfl,.inr ⟨w.heap.size,1,(fvE.enc x).toArray,rfl,nR _,?_,nR _,q3 Wm,rfl,?_⟩⟩,by show 1*32<=_;omega⟩
 ·show(w.heap.push _)[w.heap.size]?=_
  simp;rfl
 simp[fvE,flv]
theorem FC.addB(h:FC w hi b u vl L V m pf sz bs bl)(a:u.grownBy u' (bs.x).ownBlock)(s:Sli){c:List Int}(l:zb blE (pf+1) u' (s.x) c):
  zt u' pf 84 [I6 sz,bs.x]/\(∀p t cs,t≠3->t≠84->zt u p t cs->zt (u'.setCell ⟨pf,1,Xb⟩ (s.x)) p t cs)/\FC w hi b (u'.setCell ⟨pf,1,Xb⟩ (s.x)) vl L V m pf sz s c:=by
 have g:Mk w hi u' b vl L V m zP []/\FlB w.heap.size hi pf u' V m/\zt u' pf 84 [I6 sz,bs.x]/\(∀p t cs,t≠3->zt u p t cs->zt u' p t cs):=by
  cases c:(bs.x).ownBlock with
  |none=>
   rw[c]at a;have k:=qP a;exact⟨h.mm.aA k,h.fb.aA k,h.box.aA k,fun p t cs _ e=>e.aA k⟩
  |some i=>
   rw[c]at a;obtain⟨cs,d⟩:=h.row.obj c;have f:=(h.row.lt i c).1;have f:w.heap.size<=i:=(by have:=h.mm.rows.bh;have:=h.hp;omega);exact⟨⟨zd h.mm.gr a f,h.mm.hb,h.mm.box.kind a d Dc,h.mm.lr,h.mm.lc,h.mm.lb,h.mm.rows.ints h.fb a d Wm (Hm h.hp)⟩,h.fb.kind a d (.inl Dc) (.inr Wm),h.box.kind a d Dc,fun p t c c e=>e.kind a d (fun e=>c e.symm)⟩
 obtain⟨c,n,d,q⟩:=g;have a:=jX u' pf 1 (s.x);have g:(V.fl.x).ownBlock≠Xa pf:=fun e=>Hm (h.fn pf e);have f:w.heap.size<=pf:=by have:=h.mm.rows.bh;have:=h.hp;omega
 refine⟨d,fun p t cs i j k=>(q p t cs i k).kind a d (fun e=>j e.symm),⟨⟨zd c.gr a f,c.hb,c.box.kind a d Dc,c.lr,c.lc,c.lb,c.rows.cL a d g⟩,h.hp,n.kind a d (.inr g) (.inl Dc),h.fn,d.set 1 _,l.kind a d Dc⟩⟩
def FCE(w:Xn)(hi b:Nat)(L0:List Int)(V:MaV)(m:Ma)(pf:Nat)(sz:Int)(bs:Sli)(bl:List Int)(u:Xn):Prop:=∃vl L,FC w hi b u vl L V m pf sz bs bl/\zbk L0 L
end
theorem MkT.other(h:MkT k hi b p w V m vt T){g:Nat}(a:w.grownBy w' (Xa g))(ht:w.heap[g]?=Xa (Xk Y t (0,0)))(c:g<b)(e:t=81\/t=41):MkT k hi b p w' V m vt T:=by
 have d:t≠53/\t≠3/\t≠44/\t≠88/\t≠84/\t≠108/\t≠63/\t≠77/\t≠56:=by rcases e with rfl|rfl<;>decide
 obtain⟨i,e,f,cs,q,r,s,u,v⟩:=d;obtain⟨B,x,y,j⟩:=h.fl;obtain⟨C,z,A,l⟩:=h.sp;have d:Out 0 b w w':=Out.grown a (fun n n=>by cases n;exact⟨nZ _,c⟩);exact⟨h.fs.kind a ht i,h.sl.kind a ht e,h.bA,⟨qZ h.sb.1 a ht f,h.sb.2⟩,h.sq,⟨qZ h.db.1 a ht f,h.db.2⟩,⟨qZ h.dq.1 a ht cs,h.dq.2⟩,⟨B,x.kind a ht q,y,fun i x f c cs=>⟨(j i x f c cs).1,(j i x f c cs).2.kind a ht e⟩⟩,h.ca.kind a ht r,⟨C,z.kind a ht s,A,fun i x s f c j e=>⟨(l i x s f c j e).1,(l i x s f c j e).2.1.kind a ht u,fun n=>((l i x s f c j e).2.2.1 n).out d,(l i x s f c j e).2.2.2⟩⟩,h.tt.kind a ht v,h.ap,h.lo,nT h.hts a.size⟩
theorem zgq:Loc hi k 41:=⟨Dc,Dc,Dc,Dc,Dc,Dc,Dc,Dc,fun h=>absurd h Dc⟩
theorem zsL:(Tryz.prog.info? 41).map (·.size)=Xa 11:=by kernel_rfl
def zmT(nf ns nb k:Nat):Ma:=⟨Xr nf frF,0,Xr ns 0,Xr ns zu,[],Xr nb zu,[],[],nb,[],Xr k ⟨Xc,[],qU⟩⟩
structure zjR(w:Xn)(nf ns nb:Nat)(L:List Int)(w':Xn)(V:MaV)(m:Ma)(T:List (Nat->En))(hd:Int)(hi ht:Nat)(vt:Sli):Prop where
 gr:zc w w'
 rows:MkT w.heap.size hi ht m.sp.length w' V m vt T
 inv:qL m T
 aB:0<=hd/\hd<max (m.fs.length:Int) 1
 fin:∀s∈m.sp,jQ m.fl.length s.aC/\Q2 s.aC 64<=12
 fl2:m.fl.length<=2/\∀f∈m.fl,f.size<40
 sp:1<=m.sp.length/\m.sp.length<=2
 fsl:m.fs.length=nf
 new:L=[]->m=zmT nf ns nb 1/\T=[fun _=>en0]/\hd=0
theorem znW(l:List En)(i:Nat):(Jc l i).length=8:=by simp[Jc]
theorem zpJ(l:List En)(a:b<8):(Jc l k)[b]?=Xa (l[8*k+b]?.getD en0):=by unfold Jc;rw[Yk,Yo a];rfl
structure zrd(l:List En)(kk:Nat)(t:List (List En)):Prop where
 len:t.length=8
 at':∀j,j<8->t[j]?=Xa (if j<kk then mk (Jc l j)else[])
theorem zm0(l:List En):zrd l 0 qU:=⟨rfl,fun j a=>by rw[kF (nL _),qU,Yl,kE a]⟩
theorem zhO(h:zrd H kk G)(a:kk<8):zrd H (kk+1) (G.set kk (mk (Jc H kk))):=by
 refine⟨by simp[h.len],fun j a=>?_⟩;by_cases e:j=kk;·subst e;rw[sF (by rw[h.len];exact a),kE (Nat.lt_succ_self _)]
 rw[sN (fun h=>e h.symm),h.at' j a];grind
theorem zo4(h:zrd H 8 G):G=ZN H:=by
 apply List.ext_getElem?;intro j;by_cases a:j<8;·rw[h.at' j a,kE a];unfold ZN;rw[Yk,Yo a];rfl
 rw[gN (by rw[h.len];omega),gN (by simp[ZN];omega)]
theorem ziS(l:List En)(w:Xn)(cq:l.length=64)(B:∀e∈l,0<=e.kind):
  Xp prog 28 #[Xi (qG l).toArray] w fun e w'=>∃k,e=Xl (Xi k.toArray)/\Jv 0 w.heap.size w' k (ZN l)/\zc w w':=by
 have bw:=dD cq;have cz:=dD B;have bu:Xo (∀(j:Nat)e,l[j]?=Xa e->(qG l)[j*3]?=Xa (I6 e.kind)/\(qG l)[j*3+1]?=Xa (I6 e.n)/\(qG l)[j*3+2]?=Xa (Xh e.wr)):=show∀(j:Nat)e,_ from fun j e t=>zeN t;clear cq B;obtain⟨cl,ap⟩:=kA (ZN l);rw[ap.out];generalize qG l=Y at bu⊢;obtain⟨aw,x⟩:=kB (((w.alloc (Xk Y.toArray 56)).alloc (Xk #[eS,eS,eS,eS,eS,eS,eS,eS] 61)).alloc (Xk #[eS,eS,eS,eS,eS,eS,eS,eS] 61));have bv:Xo (zc w aw):=dD<|by rw[<-x];exact((za _ _).trans (za _ _)).trans (za _ _)
 have da:Xo (Box aw w.heap.size Y):=dD<|by rw[<-x];exact((Box.aF w _ _ rfl).alloc _).alloc _
 have dc:Xo (Box aw (w.heap.size+1) JS):=dD<|by rw[<-x];exact(Box.aF _ JS _ Sm).alloc _
 have d7:Xo (Box aw (w.heap.size+2) JS):=dD<|by rw[<-x];exact Box.aF _ JS _ Sm
 have bz:Xo (_=aw):=x;clear x;obtain⟨dw,cy⟩:=kA (w.heap.size+2);go_enter func28,ntmps28;go_upto_region 2 with fail;rw[bz.out];go_wp2;go_loopg[8] 8 (fun df dr wr=>∃(a:Nat)(k:List Xq)(U:List (List En)),a<=8/\8-a<=df/\dr=I6 a/\Xo (zc w wr)/\Xo (Box wr w.heap.size Y)/\Xo (Box wr (w.heap.size+1) JS)/\Xo (Box wr (w.heap.size+2) k)/\Xo (Jv 0 (w.heap.size+3) wr k U)/\Xo (zrd l a U)/\Xo (∀j,a<=j->j<8->k[j]?=Xa (eS)))
 exact⟨0,JS,qU,nZ _,Wm,rfl,bv,da,dc,d7,Jv.nil _ _ _,zm0 l,show∀j,_ from fun j _ ag=>by rw[JS,Yl,kE ag]⟩;obtain⟨a,k,U,dk,cp,rfl,bs,bm,bn,bl,au,af,c5⟩:=hrel;by_cases n:a<8
 ·have b8:(a:Int)<8:=Wm
  obtain⟨f,P⟩:=kA (Jc l a);have Z:Xo (f.length=8):=dD (by rw[<-P.out];exact znW _ _);have am:Xo (∀D,D<8->∃e,f[D]?=Xa e/\l[8*a+D]?=Xa e/\0<=e.kind):=dD<|fun D B=>by
   obtain⟨e,cb⟩:∃e,l[8*a+D]?=Xa e:=⟨_,gE (by rw[bw.out];omega)⟩;exact⟨e,by rw[<-P.out,zpJ l B,cb];rfl,cb,cz e (mG cb)⟩
  obtain⟨i,rfl⟩:∃i,i=wr:=⟨_,rfl⟩;go_wp2;go_loopg[5,6] 8 (fun de dp dq ch=>∃(d:Nat)(ae:Bool),d<=8/\8-d<=de/\dq=I6 d/\dp=Xh ae/\Xo (ae=zaS (f.take d))/\Xo (ch=i))
  exact⟨0,Xd,nZ _,Wm,rfl,rfl,rfl,rfl⟩;obtain⟨d,ae,di,dh,rfl,rfl,ak,cv⟩:=hrel;rw[cv.out];by_cases b6:d<8
  ·have ac:(d:Int)<8:=Wm
   obtain⟨e,z,A,b4⟩:=am.out d b6;have cj:Xo (zaS (f.take (d+1))=(ae||enS e)):=dD<|by
    rw[jE z,ak.out];unfold zaS;rw[List.any_append];simp
   cases ae with
   |true=>
    have bx:Xo (Xc=zaS (f.take (d+1))):=dD<|Rr cj.out;clear z A b4;go_wp2;go_roundg (8-(d+1));exact⟨d+1,Xc,Wm,Wm,Gn,rfl,bx,rfl⟩;omega
   |false=>
    have H:(8:Int)*(a:Int)+(d:Int)=((8*a+d:Nat):Int):=Wm;have G:8*a+d<64:=Wm;obtain⟨a7,_,_⟩:=bu.out _ e A;obtain⟨aj,a1⟩:=kA (8*a+d);rw[a1.out]at H G a7;have ab:(aj:Int)<64:=Wm;have dz:=bm.c _ a7;clear a7 z A;obtain⟨br,al⟩:=kA (enS e);have dg:decide (0<e.kind)=br:=by
     rw[<-al.out];unfold enS;by_cases t:e.kind=0;·rw[t];rfl
     have:0<e.kind:=Wm;rw[decide_eq_true this];simpa using t
    have bx:Xo (br=zaS (f.take (d+1))):=dD (by rw[cj.out,al.out];rfl);clear b4;go_wp2;go_roundg (8-(d+1));exact⟨d+1,br,Wm,Wm,Gn,by first|rfl|rw[dg],bx,rfl⟩;omega
  have ac:¬(d:Int)<8:=Wm;have:d=8:=Wm;subst this;have an:Xo (ae=zaS f):=dD (by rw[ak.out,Yd (by rw[Z.out];exact nR _)]);cases ae with
  |false=>
   have a3:Xo (mk (Jc l a)=[]):=dD (by rw[P.out];unfold mk;rw[<-an.out,kF Dc]);have a4:Xo (U.set a (mk (Jc l a))=U):=dD<|by
    rw[a3.out];refine zgc ?_;rw[af.at' a n,kF (Yp _)]
   have d0:Xo (zrd l (a+1) U):=dD (by rw[<-a4.out];exact zhO af n);go_wp2;go_loopg[7] 1 (fun a8 cg M=>1<=a8/\cg=I6 0/\Xo (M=i))
   exact⟨nR _,rfl,rfl⟩;obtain⟨cc,rfl,bt⟩:=hrel;rw[bt.out];go_wp2;go_roundg (8-(a+1));exact⟨a+1,k,U,Wm,Wm,Gn,bs,bm,bn,bl,au,d0,show∀j,_ from fun j az bp=>c5.out j Wm bp⟩;omega
  |true=>
   have a3:Xo (mk (Jc l a)=f):=dD (by rw[P.out];unfold mk;rw[<-an.out,kE rfl]);have m:=dD au.len;go_wp2;go_loopg[7] 8 (fun a8 cg M=>∃(b s:Nat)(q:Option Addr),b<=8/\8-b<=a8/\cg=I6 b/\Xo (Out (w.heap.size+2) (w.heap.size+3) i M)/\Xo (Box M (w.heap.size+2) (k.set a (O q b s)))/\Xo (zb enE i.heap.size M (O q b s) (f.take b)))
   exact⟨0,0,Xb,nZ _,Wm,rfl,Out.refl _ _ _,by rw[zgc (c5.out a (nR _) n)];exact bl,zb.nil _ _ _⟩;obtain⟨b,s,q,dj,cc,rfl,r,av,a5⟩:=hrel;have a2:Xo (w.heap.size+3<=i.heap.size):=bl.lt;by_cases b7:b<8
   ·have ad:(b:Int)<8:=Wm
    obtain⟨e,z,A,_⟩:=am.out b b7;have H:(8:Int)*(a:Int)+(b:Int)=((8*a+b:Nat):Int):=Wm;have G:8*a+b<64:=Wm;obtain⟨a7,c8,c9⟩:=bu.out _ e A;obtain⟨aj,a1⟩:=kA (8*a+b);rw[a1.out]at H G a7 c8 c9;have ab:(aj:Int)<64:=Wm;have a4:=dD<|jE z;have ao:Xo ((f.take b).length=b):=show _=_ by rw[List.length_take,Z.out];omega
    have c3:Xo (Box wr w.heap.size Y):=bm.out.out r Wm;have c4:Xo (Box wr (w.heap.size+1) JS):=bn.out.out r Wm;have b5:∀F,(O q b s).ownBlock=Xa F->i.heap.size<=F/\F<wr.heap.size:=a5.lt;have a0:=dD b5;clear b5 z A;obtain⟨V,rfl⟩:∃V,V=wr:=⟨_,rfl⟩;obtain⟨Q,N⟩:=Ww fun u=>Box u w.heap.size Y/\Box u (w.heap.size+1) JS/\Box u (w.heap.size+2) (k.set a (O q b s))/\Out (w.heap.size+2) (w.heap.size+3) i u/\V.heap.size<=u.heap.size;go_upto_region 13 with fail;have bg:=fun y:zg Q=>((N _).1 y.holds).2.2.1.c a (sF (Rx m.out n));have bd:=fun y:zg Q=>((N _).1 y.holds).1.c _ a7;have be:=fun y:zg Q=>((N _).1 y.holds).1.c _ c8;have bf:=fun y:zg Q=>((N _).1 y.holds).1.c _ c9;have aa:Q V.drew:=(N _).2 ⟨c3.aA (gW _),c4.aA (gW _),av.aA (gW _),r.trans (Out.drew _),nR _⟩;have b9:Nonempty (zg Q):=⟨⟨_,aa⟩⟩;clear a7 c8 c9;refine qX (I:=Q) 13 [(10,⟨fun L=>∃F,L=O (Xa ⟨F,0,Xb⟩) 1 1,fun L w'=>q6 enE V.heap.size w' L [e],fun p bk=>zc p bk,fun _=>True⟩),(11,⟨fun L=>∃bo a6,L=O bo (b+1) a6,fun L w'=>zb enE i.heap.size w' L (f.take b++[e]),fun p bk=>p.grownBy bk (O q b s).ownBlock,fun u=>zb enE i.heap.size u (O q b s) (f.take b)⟩)] aa z1 Kr rfl rfl Dc ?hS ?hp ?hpre ?hpr0 ?_;case hS=>
     intro y cr;simp at cr;rcases cr with rfl|rfl;·exact⟨_,0,rfl⟩
     exact⟨_,Xb,0,rfl⟩
    case hp=>
     intro D dm j ct B ag R _ L p bk T bb;rcases zlj B with⟨rfl,rfl⟩|⟨rfl,rfl⟩
     ·rcases zlj ag with⟨rfl,rfl⟩|⟨rfl,rfl⟩
      ·exact absurd rfl R
      have az:q6 enE V.heap.size p L [e]:=bb;exact⟨az.1.beside T (fun ci cs a6 cf t=>by
       have bp:=az.2 ci cs a6 cf;have dx:=(a0 ci.block t.symm).2
       omega),az.2⟩
     rcases zlj ag with⟨rfl,rfl⟩|⟨rfl,rfl⟩;·exact zb.aA bb T
     exact absurd rfl R
    case hpre=>
     intro j ct D dm ag B R p bk T S;rcases zlj ag with⟨rfl,rfl⟩|⟨rfl,rfl⟩;·trivial
     rcases zlj B with⟨rfl,rfl⟩|⟨rfl,rfl⟩;·exact zb.aA S T
     exact absurd rfl R
    case hpr0=>
     intro D ct B;rcases zlj B with⟨rfl,rfl⟩|⟨rfl,rfl⟩;·trivial
     exact a5.aA (gW _)
    simp only[Xw,Xx];iterate 10 refine zs ?_
    refine zR rfl rfl (fun w' a9 S b0=>?_) (fun du X=>?_)
    ·obtain⟨bh,bi,ah,C,ai⟩:=(N _).1 a9;have ba:q6 enE V.heap.size (w'.alloc (Xk #[I6 e.kind,I6 e.n,Xh e.wr] 55)) (O (Xa ⟨w'.heap.size,0,Xb⟩) 1 1) [e]:=⟨q8 enE w' e _ _ rfl Dc,fun ci cs a6 cf=>by cases cf;exact ai⟩;clear bg bd be bf b9;refine zL.step (v:=O (Xa ⟨w'.heap.size,0,Xb⟩) 1 1) (w':=w'.alloc (Xk #[I6 e.kind,I6 e.n,Xh e.wr] 55)) (by simp only[execOp];go_simp) ⟨(N _).2 ⟨bh.alloc _,bi.alloc _,ah.alloc _,C.trans (Out.aA (za _ _)),nT ai (bS (za _ _))⟩,za _ _,⟨_,rfl⟩,ba⟩
    obtain⟨ay,rfl⟩:=X;refine Uq ?_;refine zR rfl rfl (fun w' a9 S b0=>?_) (fun du X=>?_)
    ·obtain⟨bh,bi,ah,C,ai⟩:=(N _).1 a9;have ca:q6 enE V.heap.size w' (O (Xa ⟨ay,0,Xb⟩) 1 1) [e]:=b0 10 Kr;have bc:zb enE i.heap.size w' (O q b s) (f.take b):=S;obtain⟨dy,dv,W,ce,c,_⟩:=qI (E:=enE) (w:=w') 59 bc (O (Xa ⟨ay,0,Xb⟩) 1 1) [e] ca.1 (by rw[ao.out];show(b+1)*24<=_;omega) C.size;obtain⟨bo,a6,rfl⟩:=ce.form;have cd:(f.take b++[e]).length=b+1:=(by rw[lA,ao.out];rfl);rw[cd]at ce W;have K:∀c7,c7<w.heap.size+3->∀F,(O q b s).ownBlock=Xa F->c7≠F:=fun c7 co F cp=>by
      have:=(a0 F cp).1;have:=a2.out;omega
     refine zL.step (v:=O bo (b+1) a6) (w':=dv) ?_ ⟨(N _).2 ⟨bh.beside c (K _ Wm),bi.beside c (K _ Wm),ah.beside c (K _ Wm),⟨c.os.trans C.os,c.tape.trans C.tape,c.output.trans C.output,nT C.size c.size,fun D B co=>(c.block D (Yi B C.size) (fun t=>Hm ((a0 D t.symm).1))).trans (C.block D B co)⟩,nT ai c.size⟩,c,⟨bo,a6,rfl⟩,ce⟩;simp only[execOp,resolve,invoke,builtin,pure_bind,Xv,Xu,Ya,mP,Xt];exact Eq.trans (congrArg (fun dl=>Result.andThen dl (fun q w'=>Result.ok (Next.value q) w')) W) rfl
    obtain⟨g,h,rfl⟩:=X;refine Uq ?_;refine zs ?_;refine Zx fun ax b1 b0=>?_;have bj:zb enE i.heap.size ax (O g (b+1) h) (f.take b++[e]):=b0 11;obtain⟨bh,bi,ah,C,ai⟩:=(N _).1 b1;have d3:Xo (zb enE i.heap.size ax (O g (b+1) h) (f.take (b+1))):=dD<|Rx a4.out bj;have c6:=dD ah;have aq:=dD C;clear b0 bg bd be bf b1 b9 aa bj bh bi ah C ai;have ds:=c6.c a (sF (Rx m.out n));have dt:=c6.f;go_upto_region 12 with fail;have d9:Xo (Box (ax.setCell ⟨w.heap.size+2,a,Xb⟩ (O g (b+1) h)) (w.heap.size+2) (k.set a (O g (b+1) h))):=dD<|by
     have:=c6.set a (O g (b+1) h);rw[List.set_set]at this;exact this
    have d4:Xo (zb enE i.heap.size (ax.setCell ⟨w.heap.size+2,a,Xb⟩ (O g (b+1) h)) (O g (b+1) h) (f.take (b+1))):=d3.setCell (by have:=a2.out;simp;omega) _;have ar:Xo (Out (w.heap.size+2) (w.heap.size+3) i (ax.setCell ⟨w.heap.size+2,a,Xb⟩ (O g (b+1) h))):=aq.trans (Out.setCell _ _ _ (p:=⟨w.heap.size+2,a,Xb⟩) (nR _) (Nat.lt_succ_self _) _);clear ds dt;go_wp2;go_roundg (8-(b+1));exact⟨b+1,h,g,Wm,Wm,Gn,ar,d9,d4⟩;omega
   have ad:¬(b:Int)<8:=Wm;have:b=8:=Wm;subst this;have d5:Xo (zb enE i.heap.size wr (O q 8 s) f):=dD<|by
    have:=a5.out;rw[Yd (by rw[Z.out];exact nR _)]at this;exact this
   have d6:Xo (Jv 0 (w.heap.size+3) wr (k.set a (O q 8 s)) (U.set a f)):=dD<|⟨by simp[m.out],by simp[af.len],fun j L t X bq=>by
    by_cases e:j=a
    ·subst e;rw[sF (Rx m.out n)]at X;rw[sF (by rw[af.len];exact n)]at bq;cases X;cases bq;exact d5.new.stays.less (nZ _) a2.out
    rw[sN (fun t=>e t.symm)]at X bq
    exact(au.row j L t X bq).out (r.wide Wm Wm)⟩
   have d1:Xo (zrd l (a+1) (U.set a f)):=dD (by rw[<-a3.out];exact zhO af n);have db:Xo (Box wr w.heap.size Y):=bm.out.out r Wm;have dd:Xo (Box wr (w.heap.size+1) JS):=bn.out.out r Wm;have cx:Xo (zc w wr):=dD<|Out.bO bs Wm r.out;have d2:Xo (∀j,a+1<=j->j<8->(k.set a (O q 8 s))[j]?=Xa (eS)):=dD<|fun j az bp=>(by rw[sN Wm];exact c5 j Wm bp);go_wp2;go_roundg (8-(a+1));exact⟨a+1,_,_,Wm,Wm,Gn,cx,db,dd,av,d6,d1,d2⟩;omega
 have b8:¬(a:Int)<8:=Wm;have:a=8:=Wm;subst this;have ck:Xo (Jv 0 (w.heap.size+3) wr k cl):=dD<|by rw[<-ap.out,<-zo4 af.out];exact au.out
 have m:=dD au.len;go_wp2_with(first|refine qH rfl (.tmp 3) rfl (w.heap.size+2) rfl bl m.out ?_|refine zn rfl 61 (.tmp 2) (.tmp 47) rfl (w.heap.size+1) rfl k rfl bn m zsr ck.one ?_)
 intro cm cn a8 dn;have cw:Xo (zc w cm):=dD<|zd bs a8 Sm;have cu:=dD cn;have d8:Xo (Jv 0 w.heap.size cm k cl):=(ck.out.out (Out.grown a8 (fun F t=>by cases t;omega))).less (nR _) Wm;clear cn a8 dn;go_wp2;refine bodyPost_ret (z7 rfl _ rfl cu underlying61 rfl (Rx m.out zsr)) rfl ⟨k,rfl,d8,cw⟩
theorem zit(F S B:Int)(nf ns nb:Nat)(m7:max (min F 40) 0=(nf:Int))(m8:max (min S 60) 0=(ns:Int))(m6:max (min B 80) 0=(nb:Int))(vl:Sli)(L w)(rq:zq byE w (vl.x) L)(ro:vl.n<=vl.c)(lb:∀gm∈L,0<=gm/\gm<256):
  Xp prog 9 #[I6 F,I6 S,I6 B,vl.x] w fun e w'=>∃(f6:MaV)(m:Ma)(T:List (Nat->En))(j8:Int)(K bv:Nat)(tr:Sli),e=Xl (Xi #[f6.f.x,I6 j8,f6.s.x,f6.sb.x,f6.sq.x,f6.db.x,f6.dq.x,f6.fl.x,I6 m.cnt,f6.ca.x,f6.sp.x])/\zjR w nf ns nb L w' f6 m T j8 K bv tr:=by
 have jm:nf<=40:=Wm;have jn:ns<=60:=Wm;have cx:nb<=80:=Wm;obtain⟨n3,el⟩:=kB ((w.alloc (Xk zM.toArray 41)).alloc (Xk #[vl.x,eS,I6 0,eS,eS,eS,eS,eS,eS,I6 0,eS,eS,eS] 81));have km:=gD2 el;have sp:Xo (zt n3 w.heap.size 41 qC):=dD<|by rw[<-el];exact(zt.aF _ qC _ rfl).aA (za _ _)
 have rf:Xo (zt n3 (w.heap.size+1) 81 [vl.x,eS,I6 0,eS,eS,eS,eS,eS,eS,I6 0,eS,eS,eS]):=dD<|by rw[<-el];exact zt.aF _ [vl.x,eS,I6 0,eS,eS,eS,eS,eS,eS,I6 0,eS,eS,eS] _ Sm
 have oa:=dD el;have nx:=dD rq;have nw:=dD ro;have nv:=dD lb;clear el rq ro lb;go_enter func9,ntmps9;go_upto_region 3 with fail;rw[oa.out];try rw[m7]
 try rw[m8]
 try rw[m6]
 clear m7 m8 m6;obtain⟨j,bp⟩:=kA (w.heap.size+1);rw[bp.out]at rf⊢;obtain⟨l,h⟩:=Ww fun b=>zc n3 b;have z:=(h _).2 (gW _);have ax:Nonempty (zg l):=⟨⟨_,z⟩⟩;refine zg9 (I:=l) (J:=JB nf ns nb) 17 [(2,⟨fun i=>∃D,i=O (Xa ⟨D,0,Xb⟩) nf nf,fun i b=>zb q7 w.heap.size b i (Xr nf fr0),fun G ay=>zc G ay,fun _=>True⟩),(5,⟨fun i=>∃D,i=O (Xa ⟨D,0,Xb⟩) ns ns,fun i b=>zb slE w.heap.size b i (Xr ns 0),fun G ay=>zc G ay,fun _=>True⟩),(7,⟨fun i=>∃D,i=O (Xa ⟨D,0,Xb⟩) ns ns,fun i b=>zm w.heap.size b i (Xr ns zu),fun G ay=>zc G ay,fun _=>True⟩),(10,⟨fun i=>∃D,i=O (Xa ⟨D,0,Xb⟩) nb nb,fun i b=>zm w.heap.size b i (Xr nb zu),fun G ay=>zc G ay,fun _=>True⟩)] z ?hJ0 ?hJq ?hJs ?hJu z1 Kr rfl rfl Dc ?hS ?hp ?hpre ?hpr0 ?_;case hJ0=>
  refine⟨⟨rfl,rfl,rfl⟩,fun s Q=>.inl ?_,fun s Q x n c lz=>?_,fun s Q gh bv b6 x n c a qn dw lz=>?_⟩
  ·simp only[mC,nM,or_false]at Q
   rcases Q with rfl|rfl|rfl|rfl<;>rfl
  ·simp only[mC,nM,or_false]at Q
   rcases Q with rfl|rfl<;>cases lz
  simp only[mC,nM,or_false]at Q;rcases Q with rfl|rfl<;>cases lz
 case hJq=>
  intro dt o au sw ca i b tm ek;exact ek.quiet (zoT (Sx:=[2,5,7,10]) Kr au (zli sw)) Wm Wm cx tm
 case hJs=>
  intro dt o s au Q ca b tu ek tz j8;have mc:=zB Q;clear Q;simp only[mC,pJ,nM,or_false]at mc;rcases mc with⟨rfl,rfl⟩|⟨rfl,rfl⟩|⟨rfl,rfl⟩|⟨rfl,rfl⟩;·cases au;obtain⟨jt,K,cy,jr,cz⟩:=info_parts q7.aD;exact ek.make 26 53 jt _ 32 rfl Sm q7.bI K cy (by rw[cz];decide) Dc j8
  ·cases au;obtain⟨jt,K,cy,jr,cz⟩:=info_parts slE.aD;exact ek.make 30 3 jt _ 35 rfl Sm slE.bI K cy (by rw[cz];decide) Dc j8
  ·cases au;obtain⟨jt,K,cy,jr,cz⟩:=info_parts zsl;exact ek.make 31 44 jt _ 37 rfl Sm underlying31 K cy (by rw[cz];decide) Dc j8
  cases au;obtain⟨jt,K,cy,jr,cz⟩:=info_parts zsl;exact ek.make 31 44 jt _ 40 rfl Sm underlying31 K cy (by rw[cz];decide) Dc j8
 case hJu=>
  intro dt o au ca b ek;exact ek.undef (zoU Kr au)
 case hS=>
  intro x ab;simp only[mC,nM,or_false]at ab;rcases ab with rfl|rfl|rfl|rfl<;>exact⟨_,0,rfl⟩
 case hp=>
  intro k s dt gh aw au g2 lv i G ay b6 bu;have ag:=zB aw;have b4:=zB au;clear aw au;simp only[mC,pJ,nM,or_false]at ag b4;have aa:zc G ay:=by rcases b4 with⟨rfl,rfl⟩|⟨rfl,rfl⟩|⟨rfl,rfl⟩|⟨rfl,rfl⟩<;>exact b6
  rcases ag with⟨rfl,rfl⟩|⟨rfl,rfl⟩|⟨rfl,rfl⟩|⟨rfl,rfl⟩;·exact zb.aA bu aa
  ·exact zb.aA bu aa
  ·exact zm.aA bu aa
  exact zm.aA bu aa
 case hpre=>
  intro dt gh k s au aw g2 G ay b6 b5;have b4:=zB au;clear aw au;simp only[mC,pJ,nM,or_false]at b4;rcases b4 with⟨rfl,rfl⟩|⟨rfl,rfl⟩|⟨rfl,rfl⟩|⟨rfl,rfl⟩<;>trivial
 case hpr0=>
  intro k gh aw;have ag:=zB aw;clear aw;simp only[mC,pJ,nM,or_false]at ag;rcases ag with⟨rfl,rfl⟩|⟨rfl,rfl⟩|⟨rfl,rfl⟩|⟨rfl,rfl⟩<;>trivial
 simp only[Xw,Xx];iterate 2 refine zs ?_
 refine zR rfl rfl (fun w' d b5 bt=>?_) (fun dh R=>?_);·have aa:=(h _).1 d;exact zcl q7 w' nf (by show nf*40<=_;omega) (.tmp 32) rfl rfl (fun nd ad=>⟨(h _).2 (aa.trans (za _ _)),za _ _,⟨_,rfl⟩,ad.base (nT (bS km) (bS aa))⟩)
 obtain⟨ap,rfl⟩:=R;refine Uq ?_;iterate 2 refine zs ?_
 refine zR rfl rfl (fun w' d b5 bt=>?_) (fun dh R=>?_);·have aa:=(h _).1 d;exact zcl slE w' ns (by show ns*8<=_;omega) (.tmp 35) rfl rfl (fun nd ad=>⟨(h _).2 (aa.trans (za _ _)),za _ _,⟨_,rfl⟩,ad.base (nT (bS km) (bS aa))⟩)
 obtain⟨az,rfl⟩:=R;refine Uq ?_;refine zs ?_;refine zR rfl rfl (fun w' d b5 bt=>?_) (fun dh R=>?_);·have aa:=(h _).1 d;exact zaP w' ns Wm (.tmp 37) rfl rfl (fun nd ad=>⟨(h _).2 (aa.trans (za _ _)),za _ _,⟨_,rfl⟩,ad.base (nT (bS km) (bS aa))⟩)
 obtain⟨t,rfl⟩:=R;refine Uq ?_;iterate 2 refine zs ?_
 refine zR rfl rfl (fun w' d b5 bt=>?_) (fun dh R=>?_);·have aa:=(h _).1 d;exact zaP w' nb cx (.tmp 40) rfl rfl (fun nd ad=>⟨(h _).2 (aa.trans (za _ _)),za _ _,⟨_,rfl⟩,ad.base (nT (bS km) (bS aa))⟩)
 obtain⟨q,rfl⟩:=R;refine Uq ?_;iterate 4 refine zs ?_
 refine QS (.tmp 31) ⟨j,0,Xb⟩ rfl rfl rfl rfl ?_;refine Uq ?_;refine zs ?_;refine Zx fun sk ei bt ek=>?_;have lw:t≠q:=ek.2.2.2 38 Sm 41 Sm Dc ⟨t,0,Xb⟩ ns ns ⟨q,0,Xb⟩ nb nb rfl rfl;have ju:=bt 2;have jv:=bt 5;have d1:=bt 7;have i4:=bt 10;have j2:=(h _).1 ei;have lf:=dD (rf.aA j2);have sq:=dD (sp.aA j2);have cm:=dD (km.trans j2);clear bt ek ei z ax j2;refine zg8 rfl 41 (.tmp 47) (.tmp 45) rfl j 1 rfl [O (Xa ⟨ap,0,Xb⟩) nf nf,I6 0,O (Xa ⟨az,0,Xb⟩) ns ns,O (Xa ⟨t,0,Xb⟩) ns ns,eS,O (Xa ⟨q,0,Xb⟩) nb nb,eS,eS,I6 (nb:Int),eS,eS] rfl lf Sm Kr (fun i R=>by simp only[mC,nM,or_false]at R;rcases R with rfl|rfl|rfl|rfl|rfl|rfl|rfl|rfl|rfl|rfl|rfl<;>rfl) ?_;intro f7 lx Z qa;have rt:zt f7 j 81 [vl.x,O (Xa ⟨ap,0,Xb⟩) nf nf,I6 0,O (Xa ⟨az,0,Xb⟩) ns ns,O (Xa ⟨t,0,Xb⟩) ns ns,eS,O (Xa ⟨q,0,Xb⟩) nb nb,eS,eS,I6 (nb:Int),eS,eS,eS]:=lx;have og:Xo (Mk w f7.heap.size f7 j vl L ⟨⟨Xa ⟨ap,0,Xb⟩,nf,nf⟩,⟨Xa ⟨az,0,Xb⟩,ns,ns⟩,⟨Xa ⟨t,0,Xb⟩,ns,ns⟩,zP,⟨Xa ⟨q,0,Xb⟩,nb,nb⟩,zP,zP,zP,zP⟩ ⟨Xr nf fr0,0,Xr ns 0,Xr ns zu,[],Xr nb zu,[],[],nb,[],[]⟩ zP []):=zoY (zd cm Z (Hm bp.out)) (Hm bp.out) rt nx nw nv (ju.kind Z lf Dc) (jv.kind Z lf Dc) ⟨qZ d1.1 Z lf Dc,d1.2⟩ ⟨qZ i4.1 Z lf Dc,i4.2⟩ lw;have oz:Xo (zt f7 w.heap.size 41 qC):=sq.beside Z (fun D e=>by cases e;have:=bp.out;omega);clear lx Z qa ju jv d1 i4 lw;obtain⟨K,nu⟩:=kA f7.heap.size;rw[nu.out]at og;try simp only[Yu]
 have r7:=og.box.box.c 1 rfl;go_wp2;clear r7;go_loopg[55] nf (fun ef qr wr=>∃df:Nat,df<=nf/\nf-df<=ef/\qr=I6 df/\Xo (Mk w K wr j vl L ⟨⟨Xa ⟨ap,0,Xb⟩,nf,nf⟩,⟨Xa ⟨az,0,Xb⟩,ns,ns⟩,⟨Xa ⟨t,0,Xb⟩,ns,ns⟩,zP,⟨Xa ⟨q,0,Xb⟩,nb,nb⟩,zP,zP,zP,zP⟩ ⟨zkk nf df,0,Xr ns 0,Xr ns zu,[],Xr nb zu,[],[],nb,[],[]⟩ zP [])/\Xo (zt wr w.heap.size 41 qC))
 exact⟨0,nZ _,Wm,rfl,Rx znk og,oz⟩;obtain⟨df,th,tc,rfl,gv,cp⟩:=hrel;by_cases ds:df<nf
 ·have m4:=kC ds
  have r7:=gv.box.box.c 1 rfl;dsimp only[Sli.x]at r7;have oo:=dD gv.rows.fs;have tx:wr.cell? ⟨ap,df*13+11,Xb⟩=Xa (I6 0):=by
   have:=oo.one (znm ds) 11 _ rfl;rw[zX,Xz,zA]at this;exact this
  have na:=oo.bJ rfl;obtain⟨qo,kd,A⟩:=oo.cell (k:=df) (o:=11) rfl (znm ds) (y:=frF) (u:=I6 (-1)) rfl Dc;rw[zpj ds]at qo;have pr:=gv.bN rfl kd A qo (zfX.free (zqK nf (df+1)) (znl nf (df+1)));have oh:=dD pr.1;have p9:Xo (zt (wr.setCell ⟨ap,df*13+11,Xb⟩ (I6 (-1))) w.heap.size 41 qC):=pr.2.1 _ _ _ cp ⟨Dc,Dc,Dc,Dc,Dc,Dc,Dc,Dc,fun ak=>absurd ak Dc⟩;clear pr qo kd A;go_wp2;go_roundg (nf-(df+1));exact⟨df+1,Wm,Wm,Gn,oh,p9⟩;omega
 have m4:=kD ds;obtain rfl:nf=df:=Wm;rw[zpk]at gv;have er:=qT 3 gv.out;go_wp2_with fail;refine er.mono ?_;clear er;rintro e sm⟨r5,s5,a,rfl,mm,ls,qu,mz,k7,yn,rp⟩;obtain⟨c,rfl⟩:∃c:Nat,a=(c:Int):=⟨a.toNat,Wm⟩;have sy:c<3:=by rcases k7 with ak|ak<;>omega
 have nm:Xo (L=[]->c=0):=dD<|fun e=>Hm (yn e);have oh:=dD mm;have p9:Xo (zt sm w.heap.size 41 qC):=cp.beside ls (fun D e=>by cases e;have:=bp.out;omega);have oe:=dD rp;clear mm ls qu mz k7 yn rp;go_wp2;go_loopg[70] c (fun ef qs wr=>∃(f8:Nat)(af:Sli)(bj:List Int)(mu an:Sli)(ed:List (List Int))(fu:List (Int×List Int))(fl:List Fl),f8<=c/\c-f8<=ef/\qs=I6 f8/\Xo (Mk w K wr j af bj ⟨⟨Xa ⟨ap,0,Xb⟩,nf,nf⟩,⟨Xa ⟨az,0,Xb⟩,ns,ns⟩,⟨Xa ⟨t,0,Xb⟩,ns,ns⟩,zP,⟨Xa ⟨q,0,Xb⟩,nb,nb⟩,mu,an,zP,zP⟩ ⟨Xr nf frF,0,Xr ns 0,Xr ns zu,[],ed,fu,fl,nb,[],[]⟩ zP [])/\Xo (zbk L bj)/\Xo (zt wr w.heap.size 41 qC)/\Xo (zgX fl nb ed fu []/\fl.length<=f8/\ed.length=nb/\∀f∈fl,f.size<40)/\Xo (f8=0->fl=[]/\fu=[]/\ed=Xr nb zu))
 exact⟨0,r5,s5,zP,zP,_,_,_,nZ _,Wm,rfl,oh,oe,p9,(show _/\_ from⟨zgX.zero cx,nZ _,lR,fun f ar=>(by cases ar)⟩),(fun _=>⟨rfl,rfl,rfl⟩)⟩;obtain⟨f8,mw,rb,mu,an,ed,fu,fl,te,Z,rfl,gv,of,cp,bz,ss⟩:=hrel;by_cases h8:f8<c
 ·have jh:=kC h8
  have hb:=qT 40 gv.out;go_wp2_with fail;refine hb.mono ?_;clear hb;rintro e l8⟨gj,n0,A,rfl,ex,ce,-,gd,ge,-,ev⟩;have me:A<40:=by rcases ge with ak|ak<;>omega
  have k8:=dD ex;have pa:Xo (zt l8 w.heap.size 41 qC):=cp.beside ce (fun D e=>by cases e;have:=bp.out;omega);have io:=dD (of.trans ev);clear ex ce ev ge;go_upto_region 12 with fail;obtain⟨av,e6⟩:=kA l8.heap.size;obtain⟨ou,fw⟩:=kB (l8.alloc (Xk #[I6 A,eS] 84));have d5:=gP fw;have re:=xPT fw e6;have s7:=dD (k8.aA d5);have sr:=dD (pa.aA d5);have nk:Xo (FlB w.heap.size K av ou ⟨⟨Xa ⟨ap,0,Xb⟩,nf,nf⟩,⟨Xa ⟨az,0,Xb⟩,ns,ns⟩,⟨Xa ⟨t,0,Xb⟩,ns,ns⟩,zP,⟨Xa ⟨q,0,Xb⟩,nb,nb⟩,mu,an,zP,zP⟩ ⟨Xr nf frF,0,Xr ns 0,Xr ns zu,[],ed,fu,fl,nb,[],[]⟩):=show FlB _ _ _ _ _ _ by rw[<-e6.out];exact k8.rows.flB.aA d5
  have fg:Xo (K<=av):=dD<|Ry e6.out k8.rows.hw;have nr:Xo (∀D,(an.x).ownBlock=Xa D->D<av):=dD<|fun D aa=>by rw[<-e6.out];obtain⟨ck,ci,-,-⟩:=k8.rows.fl;exact(ci.lt D aa).2
  rw[fw,e6.out];clear fw d5;have b8:=re.box.c 0 rfl;have ly:=zcV A ou gd Wm;go_wp2_with fail;refine ly.mono ?_;clear ly b8;rintro e tv⟨rfl,mf⟩;rw[mf];clear mf;have nn:Xo (zam A<=5):=dD (by unfold zam;split<;>omega);obtain⟨fk,ih⟩:∃fk:Nat,Xo (zam A=(fk:Int)):=⟨(zam A).toNat,show _=_ by unfold zam;split<;>omega⟩;rw[ih.out];have kv:Xo (0<=A/\A<40):=dD<|⟨gd,me⟩;have rk:fk<=5:=by have:=nn.out;have:=ih.out;omega
  have rv:Xo (FC w K j ou gj n0 ⟨⟨Xa ⟨ap,0,Xb⟩,nf,nf⟩,⟨Xa ⟨az,0,Xb⟩,ns,ns⟩,⟨Xa ⟨t,0,Xb⟩,ns,ns⟩,zP,⟨Xa ⟨q,0,Xb⟩,nb,nb⟩,mu,an,zP,zP⟩ ⟨Xr nf frF,0,Xr ns 0,Xr ns zu,[],ed,fu,fl,nb,[],[]⟩ av A zP []):=dD<|⟨s7,fg,nk,nr,re,zb.nil _ _ _⟩;have kr:Xo (zgX fl nb ed fu []/\ed.length=nb):=dD<|⟨bz.1,bz.2.2.1⟩;have ks:=dD bz.2.2.2;have ff:=dD bz.2.1;clear gd me;go_wp2;go_loopg[78] fk (fun ef f2 wr=>∃(d0:Nat)(af:Sli)(bj:List Int)(k0 ah:Sli)(cu:List (List Int))(ee:List (Int×List Int))(a8:List Int),d0<=fk/\fk-d0<=ef/\f2=I6 d0/\Xo (FC w K j wr af bj ⟨⟨Xa ⟨ap,0,Xb⟩,nf,nf⟩,⟨Xa ⟨az,0,Xb⟩,ns,ns⟩,⟨Xa ⟨t,0,Xb⟩,ns,ns⟩,zP,⟨Xa ⟨q,0,Xb⟩,nb,nb⟩,k0,an,zP,zP⟩ ⟨Xr nf frF,0,Xr ns 0,Xr ns zu,[],cu,ee,fl,nb,[],[]⟩ av A ah a8)/\Xo (zbk L bj)/\Xo (zt wr w.heap.size 41 qC)/\Xo (zgX fl nb cu ee a8/\a8.length=d0/\cu.length=nb))
  exact⟨0,gj,n0,mu,zP,ed,fu,[],nZ _,Wm,rfl,rv,io,sr,(show _/\_ from⟨kr.1,rfl,kr.2⟩)⟩;obtain⟨d0,gk,rd,P,ah,Y,a9,a8,tf,t8,rfl,c0,f4,eb,cl⟩:=hrel;by_cases h9:d0<fk
  ·have ji:=kC h9
   have hw:=qT (max (nb:Int) 1) c0.mm;go_wp2_with fail;refine hw.mono ?_;clear hw;rintro e aj⟨du,im,x,rfl,ey,dr,-,ts,-,-,ew⟩;obtain⟨n,rfl⟩:∃n:Nat,x=(n:Int):=⟨x.toNat,Wm⟩;have fe:=dD<|c0.pick dr ey;have ld:Xo (zt aj w.heap.size 41 qC):=eb.kind dr c0.mm.box Dc;have fj:=dD (f4.trans ew);clear ey dr ew ts;go_upto_region 17 with fail;go_cut[78,109]from 78 to 160 (fun f2 mq my=>∃(n9:Bool)(af:Sli)(bj:List Int),f2=I6 d0/\mq=Xh n9/\Xo (FC w K j my af bj ⟨⟨Xa ⟨ap,0,Xb⟩,nf,nf⟩,⟨Xa ⟨az,0,Xb⟩,ns,ns⟩,⟨Xa ⟨t,0,Xb⟩,ns,ns⟩,zP,⟨Xa ⟨q,0,Xb⟩,nb,nb⟩,P,an,zP,zP⟩ ⟨Xr nf frF,0,Xr ns 0,Xr ns zu,[],Y,a9,fl,nb,[],[]⟩ av A ah a8)/\Xo (zbk L bj)/\Xo (zt my w.heap.size 41 qC)/\Xo (n9=Xc->n<nb/\z3 (fl++[⟨A,a8⟩]) (n:Int)=Xd))
   case first=>
    by_cases g3:n<nb
    ·have g4:=kC g3
     have pz:decide ((n:Int)<(nb:Int))=Xc:=Si g4;obtain⟨ck,ci,ez,dg⟩:=fe.fb;have e8:=dD ci;obtain⟨bb,dj⟩:=kA fl.length;have W:Xo (ck.length=bb):=show _=_ by rw[ez];exact dj.out
     have tj:bb<=10:=(by have:=ff.out;have:=dj.out;omega);have s4:Xo (an.n=bb):=dD (by rw[ci.n];exact W.out);have fh:=dD<|fun(N:Nat)x f(ab:ck[N]?=Xa x)(ar:fl[N]?=Xa f)=>(dg N x f ab ar).1;clear ci ez dg;obtain⟨bk,di⟩:∃bk:FlV,Xo (bk=⟨A,ah.a,ah.n,ah.c⟩):=⟨_,rfl⟩;obtain⟨n2,kx⟩:∃n2,Xo (z3 (fl++[(⟨A,a8⟩:Fl)]) (n:Int)=n2):=⟨z3 (fl++[(⟨A,a8⟩:Fl)]) (n:Int),rfl⟩;have nl:=dD fe.mm.box.box.lt;have rz:Xo (av≠j):=show _≠_ from fun e=>by
      have aq:aj.heap[av]?=_:=fe.box;have ac:aj.heap[j]?=_:=fe.mm.box;rw[e,ac]at aq;cases aq
     have kz:Xo (w.heap.size≠j):=dD<|Hm bp.out;obtain⟨l,h⟩:=Ww fun b=>Out j (j+1) aj b/\FCE w K j L ⟨⟨Xa ⟨ap,0,Xb⟩,nf,nf⟩,⟨Xa ⟨az,0,Xb⟩,ns,ns⟩,⟨Xa ⟨t,0,Xb⟩,ns,ns⟩,zP,⟨Xa ⟨q,0,Xb⟩,nb,nb⟩,P,an,zP,zP⟩ ⟨Xr nf frF,0,Xr ns 0,Xr ns zu,[],Y,a9,fl,nb,[],[]⟩ av A ah a8 b;have z:l aj.drew:=(h _).2 ⟨Out.drew _,du,im,fe.aA (gW _),fj⟩;have e0:Xo (∀b r3,l b->zc b r3->l r3):=dD<|fun b r3 ak k=>by
      obtain⟨aq,af,bj,ac,br⟩:=(h _).1 ak;exact(h _).2 ⟨aq.trans (Out.aA k),af,bj,ac.aA k,br⟩
     have g8:∀a:zg l,a.world.cell? ⟨j,8,Xb⟩=Xa (an.x):=fun a=>by
      obtain⟨_,_,_,ac,_⟩:=(h _).1 a.holds;exact ac.mm.box.box.c 8 rfl
     have g6:∀a:zg l,a.world.cell? ⟨av,0,Xb⟩=Xa (I6 A):=fun a=>by
      obtain⟨_,_,_,ac,_⟩:=(h _).1 a.holds;exact ac.box.box.c 0 rfl
     have g7:∀a:zg l,a.world.cell? ⟨av,1,Xb⟩=Xa (ah.x):=fun a=>by
      obtain⟨_,_,_,ac,_⟩:=(h _).1 a.holds;exact ac.box.box.c 1 rfl
     have ax:Nonempty (zg l):=⟨⟨_,z⟩⟩;refine qX (I:=l) 25 [(4,⟨fun i=>∃D,i=O (Xa ⟨D,0,Xb⟩) 0 0,fun i b=>zb fvE aj.heap.size b i [],fun G ay=>zc G ay,fun _=>True⟩),(11,⟨fun i=>(∃ca c,i=O ca bb c)/\(bb=0->∃D,i=O (Xa ⟨D,0,Xb⟩) 0 0),fun i b=>zb fvE aj.heap.size b i ck,fun G ay=>zc G ay,fun _=>True⟩),(13,⟨fun i=>∃D,i=O (Xa ⟨D,0,Xb⟩) 1 1,fun i b=>zb fvE aj.heap.size b i [bk],fun G ay=>zc G ay,fun _=>True⟩),(14,⟨fun i=>∃ca c,i=O ca (bb+1) c,fun i b=>zb fvE aj.heap.size b i (ck++[bk]),fun G ay=>∀b m,m.length<=bb\/m.length<=1->zb fvE aj.heap.size G b m->zb fvE aj.heap.size ay b m,fun _=>True⟩),(17,⟨fun i=>i=Xh n2,fun _ _=>True,fun G ay=>zc G ay,fun _=>True⟩),(22,⟨fun i=>∃x:Int,i=I6 x,fun _ _=>True,fun G ay=>Out j (j+1) G ay,fun _=>True⟩)] z z1 Kr rfl rfl Dc ?hS ?hp ?hpre ?hpr0 ?_;case hS=>
      intro x ab;simp only[mC,nM,or_false]at ab;rcases ab with rfl|rfl|rfl|rfl|rfl|rfl;·exact⟨_,0,rfl⟩
      ·by_cases h5:bb=0
       ·exact⟨O (Xa ⟨0,0,Xb⟩) 0 0,⟨Xa ⟨0,0,Xb⟩,0,by rw[h5]⟩,fun _=>⟨0,rfl⟩⟩
       exact⟨O Xb bb 0,⟨_,_,rfl⟩,fun ak=>absurd ak h5⟩
      ·exact⟨_,0,rfl⟩
      ·exact⟨_,Xb,0,rfl⟩
      ·exact⟨_,rfl⟩
      exact⟨_,0,rfl⟩
     case hp=>
      intro k s dt gh aw au g2 lv i G ay b6 bu;have ag:=zB aw;have b4:=zB au;clear aw au;simp only[mC,pJ,nM,or_false]at ag b4;have de:∀ke:List FlV,ke.length<=bb\/ke.length<=1\/dt≠14->zb fvE aj.heap.size G i ke->zb fvE aj.heap.size ay i ke:=fun ke v0 ad=>by
       rcases b4 with⟨rfl,rfl⟩|⟨rfl,rfl⟩|⟨rfl,rfl⟩|⟨rfl,rfl⟩|⟨rfl,rfl⟩|⟨rfl,rfl⟩;·exact zb.aA ad b6
       ·exact zb.aA ad b6
       ·exact zb.aA ad b6
       ·exact b6 i ke Wm ad
       ·exact zb.aA ad b6
       exact ad.cF b6 (fun D aa=>by have:=(ad.lt D aa).1;have:=nl.out;omega)
      rcases ag with⟨rfl,rfl⟩|⟨rfl,rfl⟩|⟨rfl,rfl⟩|⟨rfl,rfl⟩|⟨rfl,rfl⟩|⟨rfl,rfl⟩;·exact de _ (.inl (nZ _)) bu
      ·exact de _ (.inl (by rw[W.out];exact nR _)) bu
      ·exact de _ (.inr (.inl (nR _))) bu
      ·exact de _ (.inr (.inr (fun e=>g2 e))) bu
      ·trivial
      trivial
     case hpre=>
      intro dt gh k s au aw g2 G ay b6 b5;have b4:=zB au;clear aw au;simp only[mC,pJ,nM,or_false]at b4;rcases b4 with⟨rfl,rfl⟩|⟨rfl,rfl⟩|⟨rfl,rfl⟩|⟨rfl,rfl⟩|⟨rfl,rfl⟩|⟨rfl,rfl⟩<;>trivial
     case hpr0=>
      intro k gh aw;have ag:=zB aw;clear aw;simp only[mC,pJ,nM,or_false]at ag;rcases ag with⟨rfl,rfl⟩|⟨rfl,rfl⟩|⟨rfl,rfl⟩|⟨rfl,rfl⟩|⟨rfl,rfl⟩|⟨rfl,rfl⟩<;>trivial
     simp only[Xw,Xx];iterate 4 refine zs ?_
     refine zR rfl rfl (fun w' d b5 bt=>?_) (fun dh R=>?_);·have aa:=((h _).1 d).1;exact zL.step (v:=O (Xa ⟨w'.heap.size,0,Xb⟩) 0 0) (w':=w'.alloc (Xk #[] 84)) (by simp only[execOp];go_simp) ⟨e0 _ _ d (za _ _),za _ _,⟨_,rfl⟩,(zb.made fvE w').base aa.size⟩
     obtain⟨ai,rfl⟩:=R;refine Uq ?_;refine zs ?_;refine QS (.tmp 90) ⟨j,0,Xb⟩ rfl rfl rfl rfl ?_;refine Uq ?_;iterate 4 refine zs ?_
     refine zR rfl rfl (fun w' d b5 bt=>?_) (fun dh R=>?_)
     ·have aa:=((h _).1 d).1;have h5:zb fvE aj.heap.size w' (O (Xa ⟨ai,0,Xb⟩) 0 0) []:=bt 4 Kr
      have sx:=e8.cF aa (fun D al e=>by
       obtain⟨ft,bm⟩:=e8.obj al;have br:aj.heap[j]?=_:=fe.mm.box;rw[e,br]at bm
       cases bm)
      obtain⟨fb,bw,a5,ad,Z,g9⟩:=Qe (E:=fvE) (w:=w') 35 h5 (an.x) ck sx.at aa.size;obtain⟨ec,dw,rfl⟩:=ad.form;refine zL.step (v:=O ec ck.length dw) (w':=bw) ?_ ⟨e0 _ _ d Z,Z,⟨⟨ec,dw,by rw[W.out]⟩,fun ak=>⟨ai,g9 (eN (Rx W.out ak))⟩⟩,ad⟩;simp only[execOp,resolve,invoke,builtin,pure_bind,Xv,Xu,Ya,mP,Xt];exact Eq.trans (congrArg (fun jz=>Result.andThen jz (fun ca w'=>Result.ok (Next.value ca) w')) a5) rfl
     obtain⟨⟨kb,kc,rfl⟩,js⟩:=R;refine Uq ?_;refine zs ?_;refine zR rfl rfl (fun w' d b5 bt=>?_) (fun dh R=>?_);·have aa:=((h _).1 d).1;exact zL.step (v:=O (Xa ⟨w'.heap.size,0,Xb⟩) 1 1) (w':=w'.alloc (Xk #[I6 A,ah.x] 84)) (by simp only[execOp];go_simp) ⟨e0 _ _ d (za _ _),za _ _,⟨_,rfl⟩,by rw[di.out];exact(zoP w' ⟨A,ah.a,ah.n,ah.c⟩).base aa.size⟩
     obtain⟨d5,rfl⟩:=R;refine Uq ?_;refine zR rfl rfl (fun w' d b5 bt=>?_) (fun dh R=>?_)
     ·have aa:=((h _).1 d).1;have d1:zb fvE aj.heap.size w' (O kb bb kc) ck:=bt 11 Kr;have jw:zb fvE aj.heap.size w' (O (Xa ⟨d5,0,Xb⟩) 1 1) [bk]:=bt 13 Kr;have qk:∃fb bw,(Builtin.append_ #[35,35] 35 #[O kb bb kc,O (Xa ⟨d5,0,Xb⟩) 1 1]).run prog w'=.ok fb bw/\zb fvE aj.heap.size bw fb (ck++[bk])/\l bw/\∀b m,m.length<=bb\/m.length<=1->zb fvE aj.heap.size w' b m->zb fvE aj.heap.size bw b m:=by
       by_cases h5:bb=0
       ·have qh:ck=[]:=eN (Rx W.out h5)
        subst qh;obtain⟨D,px⟩:=js h5;rw[px]at d1⊢;obtain⟨fb,bw,a5,ad,Z,_⟩:=Qe (E:=fvE) (w:=w') 35 d1 (O (Xa ⟨d5,0,Xb⟩) 1 1) [bk] jw.at aa.size;exact⟨fb,bw,a5,ad,e0 _ _ d Z,fun b m _ ak=>ak.aA Z⟩
       obtain⟨fb,bw,a5,ad,U,aw⟩:=qI (E:=fvE) (w:=w') 35 d1 (O (Xa ⟨d5,0,Xb⟩) 1 1) [bk] jw.at (by rw[W.out];show(bb+1)*32<=_;omega) aa.size;refine⟨fb,bw,a5,ad,?_,fun b m v2 ak=>aw b m (by rw[W.out];omega) ak⟩;obtain⟨aq,af,bj,ac,br⟩:=(h _).1 d;obtain⟨kd,tw,en⟩:=d1.aG (by rw[W.out];omega);obtain⟨ft,fy⟩:=d1.obj (g:=kd) (Rr en);have bn:w'.grownBy bw (Xa kd):=(by rw[en]at U;exact U);have fz:=(d1.lt kd (Rr en)).1;have tl:=fe.box.box.lt;refine(h _).2 ⟨⟨bn.os.trans aq.os,bn.tape.trans aq.tape,bn.output.trans aq.output,nT aq.size bn.size,fun k ag ps=>(bn.block k (Yi ag aq.size) (fun e=>by cases e;omega)).trans (aq.block k ag ps)⟩,af,bj,ac.fresh bn fy Wm,br⟩
      obtain⟨fb,bw,a5,ad,pq,aw⟩:=qk;obtain⟨ec,dw,rfl⟩:=ad.form;refine zL.step (v:=.slice ec (ck++[bk]).length dw) (w':=bw) ?_ ⟨pq,aw,⟨ec,dw,by rw[lA,W.out];rfl⟩,ad⟩;simp only[execOp,resolve,invoke,builtin,pure_bind,Xv,Xu,Ya,mP,Xt];exact Eq.trans (congrArg (fun jz=>Result.andThen jz (fun ca w'=>Result.ok (Next.value ca) w')) a5) rfl
     obtain⟨n4,gy,rfl⟩:=R;refine Uq ?_;iterate 2 refine zs ?_
     refine zR rfl rfl (fun w' d b5 bt=>?_) (fun dh R=>?_)
     ·obtain⟨aq,af,bj,ac,br⟩:=(h _).1 d;have jx:zb fvE aj.heap.size w' (O n4 (bb+1) gy) (ck++[bk]):=bt 14 Kr;have pv:qq w' (O n4 (bb+1) gy) (fl++[⟨A,a8⟩]):=by
       refine⟨jx.cap,ck++[bk],jx.at.s0,by rw[lA,lA,W.out,dj.out];rfl,fun N x f ab ar=>?_⟩;rcases Nat.lt_or_ge N bb with eo|eo
       ·rw[Yj (Rx W.out eo)]at ab
        rw[Yj (Rx dj.out eo)]at ar
        obtain⟨d4,cq⟩:=fh.out N x f ab ar;exact⟨d4,(cq.cF aq (fun D al e=>by
         obtain⟨ft,bm⟩:=cq.obj al;have br:aj.heap[j]?=_:=fe.mm.box;rw[e,br]at bm
         cases bm)).at.s0⟩
       rw[aR (Rx W.out eo),W.out]at ab;rw[aR (Rx dj.out eo),dj.out]at ar;have py:N-bb=0:=by
        have:=(gS.1 ab).1;simp at this;omega
       rw[py]at ab ar;cases ab;cases ar;rw[di.out];exact⟨rfl,ac.row.at.s0⟩
      refine zL.call [Xi #[O n4 (bb+1) gy,I6 0],I6 (n:Int)] rfl func24 rfl rfl rfl ?_;refine(zjW (O n4 (bb+1) gy) (fl++[⟨A,a8⟩]) 0 (n:Int) w' pv).mono ?_;rintro e k4⟨rfl,Z⟩;exact⟨_,rfl,e0 _ _ d Z,Z,by rw[kx.out],trivial⟩
     subst R;refine Uq ?_;iterate 3 refine zs ?_
     cases n2 with
     |true=>
      refine zeg ?_;refine zeg ?_;refine zeg ?_;refine zs ?_;refine Zx fun sn ej j5=>?_;obtain⟨aq,f3,l1,ac,br⟩:=(h _).1 ej;have gn:=dD ac;have dl:=dD br;have ka:=dD<|ld.cF aq kz.out;clear ej j5 z g8 g6 g7 ax aq ac br js;go_wp2;go_meet;exact⟨Xd,f3,l1,rfl,rfl,gn,dl,ka,fun ak=>(by cases ak)⟩
     |false=>
      refine zs ?_;refine zR rfl rfl (fun w' d b5 bt=>?_) (fun dh R=>?_)
      ·obtain⟨aq,af,bj,ac,br⟩:=(h _).1 d;refine zL.call [Xj (Xa ⟨j,0,Xb⟩),I6 3] rfl func22 rfl rfl rfl ?_;refine(qT 3 ac.mm).mono ?_;rintro e k4⟨mw,rb,a,rfl,qm,bq,-,-,-,-,ql⟩;have ma:Out j (j+1) w' k4:=Out.grown bq (fun D e=>by cases e;omega);exact⟨_,rfl,(h _).2 ⟨aq.trans ma,mw,rb,ac.pick bq qm,br.trans ql⟩,ma,⟨a,rfl⟩,trivial⟩
      obtain⟨x,rfl⟩:=R;refine Uq ?_;iterate 2 refine zs ?_
      refine Zx fun sn ej j5=>?_;obtain⟨aq,f3,l1,ac,br⟩:=(h _).1 ej;have gn:=dD ac;have dl:=dD br;have ka:=dD<|ld.cF aq kz.out;have dk:Xo (decide (0<x)=Xc->n<nb/\z3 (fl++[⟨A,a8⟩]) (n:Int)=Xd):=show _->_ from fun _=>⟨g3,kx⟩;clear ej j5 z g8 g6 g7 ax aq ac br js;go_wp2;go_meet;exact⟨decide (0<x),f3,l1,rfl,rfl,gn,dl,ka,dk⟩
    have g4:=kD g3;have pz:decide ((n:Int)<(nb:Int))=Xd:=Si g4;clear g3;go_quiet(fail);go_wp2;go_meet;exact⟨Xd,du,im,rfl,rfl,fe.aA (show Below _ _ _ from bD (bR _ _) _),fj,ld.aA (show Below _ _ _ from bD (bR _ _) _),fun ak=>(by cases ak)⟩
   obtain⟨n9,f3,l1,rfl,rfl,gn,dl,ka,o9⟩:=hcut;go_upto_if 109 with fail
   go_cut[13,15,16,78]from 78 to 160 (fun qp tp tq f2 my=>∃(gx:Int)(af:Sli)(bj:List Int)(k0:Sli)(cu:List (List Int))(ee:List (Int×List Int)),qp=I6 gx/\f2=I6 d0/\Xo (FC w K j my af bj ⟨⟨Xa ⟨ap,0,Xb⟩,nf,nf⟩,⟨Xa ⟨az,0,Xb⟩,ns,ns⟩,⟨Xa ⟨t,0,Xb⟩,ns,ns⟩,zP,⟨Xa ⟨q,0,Xb⟩,nb,nb⟩,k0,an,zP,zP⟩ ⟨Xr nf frF,0,Xr ns 0,Xr ns zu,[],cu,ee,fl,nb,[],[]⟩ av A ah a8)/\Xo (zbk L bj)/\Xo (zt my w.heap.size 41 qC)/\Xo (zgX fl nb cu ee (a8++[gx])/\cu.length=nb))
   case first=>
    cases n9 with
    |false=>
     go_wp2;go_meet;exact⟨-1,f3,l1,P,Y,a9,rfl,rfl,gn,dl,ka,(show _/\_ from⟨cl.1.none,cl.2.2⟩)⟩
    |true=>
     obtain⟨g3,dx⟩:=o9.out rfl;have dk:Xo (z3 fl (n:Int)=Xd/\(n:Int)∉a8):=dD<|by
      have ac:¬(n:Int)∈Q8 (fl++[⟨A,a8⟩]):=fun ak=>(by rw[(Je _ _).2 ak]at dx;cases dx);have br:Q8 (fl++[⟨A,a8⟩])=Q8 fl++a8:=(by simp[Q8]);rw[br,Xy]at ac;refine⟨?_,fun ak=>ac (.inr ak)⟩;cases e:z3 fl (n:Int)with
      |false=>rfl
      |true=>exact absurd (.inl ((Je _ _).1 e)) ac
     have g4:=kC g3;clear dx;have mb:=zds gn.mm;go_wp2_with fail;refine mb.mono ?_;clear mb;rintro e dv⟨b9,e9,jy,rfl,mp,mn,j4,ml⟩;have ib:=dD<|gn.pick j4 mn;have fq:Xo (zt dv w.heap.size 41 qC):=ka.kind j4 gn.mm.box Dc;have cn:=dD (dl.trans ml);clear mn j4 ml;obtain⟨n7,ju,jv,d1,i4,jw,jx,n8,rfl⟩:=zcE jy mp;clear mp;simp only[pgc,mP,Xt];go_upto_region 20 with fail;obtain⟨ae,ii⟩:=kA dv.heap.size;obtain⟨ot,d7⟩:=kB (dv.alloc (Xk #[U8 n7,U8 ju,U8 jv,U8 d1,U8 i4,U8 jw,U8 jx,U8 n8] 44));have j3:=gP d7;have oj:Xo (zt ot ae 44 (pgc [n7,ju,jv,d1,i4,jw,jx,n8])):=dD (by rw[<-d7];exact zt.aF _ (pgc [n7,ju,jv,d1,i4,jw,jx,n8]) _ ii.symm);have ng:=dD (ib.aA j3);have ov:=dD (fq.aA j3);have fg:Xo (K<=ae):=show _<=_ by rw[<-ii.out];exact ib.mm.rows.hw
     rw[d7,ii.out];clear d7 j3;go_wp2;go_loopg[113] 8 (fun ef mr wr=>∃(N:Nat)(gc:List Int),N<=8/\8-N<=ef/\mr=I6 N/\Xo (FC w K j wr b9 e9 ⟨⟨Xa ⟨ap,0,Xb⟩,nf,nf⟩,⟨Xa ⟨az,0,Xb⟩,ns,ns⟩,⟨Xa ⟨t,0,Xb⟩,ns,ns⟩,zP,⟨Xa ⟨q,0,Xb⟩,nb,nb⟩,P,an,zP,zP⟩ ⟨Xr nf frF,0,Xr ns 0,Xr ns zu,[],Y,a9,fl,nb,[],[]⟩ av A ah a8)/\Xo (zt wr ae 44 (pgc gc))/\Xo (gc.length=8)/\Xo (zt wr w.heap.size 41 qC))
     exact⟨0,[n7,ju,jv,d1,i4,jw,jx,n8],nZ _,Wm,rfl,ng,oj,rfl,ov⟩;obtain⟨N,gc,td,t9,rfl,bz,fm,n1,cp⟩:=hrel;by_cases m3:N<8
     ·have jj:(N:Int)<8:=Wm
      obtain⟨gm,g9⟩:∃gm,gc[N]?=Xa gm:=⟨_,gE (Rx n1.out m3)⟩;have v8:=fm.box.c N (zfu g9);have v9:=fm.box.f;have mz:=bz.box.box.c 0 rfl;clear g9;by_cases bm:A<=8*(d0:Int)+(N:Int)
      ·have pt:decide (A<=8*(d0:Int)+(N:Int))=Xc:=Si bm
       have nt:Xo (wr.grownBy (wr.setCell ⟨ae,N,Xb⟩ (U8 0)) (Xa ae)):=jX _ _ _ _;have ol:Xo (zt (wr.setCell ⟨ae,N,Xb⟩ (U8 0)) ae 44 (pgc (gc.set N 0))):=show zt _ _ _ _ by rw[zd5];exact fm.set N _
       have nh:Xo (FC w K j (wr.setCell ⟨ae,N,Xb⟩ (U8 0)) b9 e9 ⟨⟨Xa ⟨ap,0,Xb⟩,nf,nf⟩,⟨Xa ⟨az,0,Xb⟩,ns,ns⟩,⟨Xa ⟨t,0,Xb⟩,ns,ns⟩,zP,⟨Xa ⟨q,0,Xb⟩,nb,nb⟩,P,an,zP,zP⟩ ⟨Xr nf frF,0,Xr ns 0,Xr ns zu,[],Y,a9,fl,nb,[],[]⟩ av A ah a8):=bz.kind nt fm Dc Dc (bz.mm.page fm fg nt) rfl rfl;have ox:Xo (zt (wr.setCell ⟨ae,N,Xb⟩ (U8 0)) w.heap.size 41 qC):=cp.kind nt fm Dc;go_wp2;go_roundg (8-(N+1));exact⟨N+1,gc.set N 0,Wm,Wm,Gn,nh,ol,(show(gc.set N 0).length=8 by rw[Yf];exact n1),ox⟩;omega
      have pt:decide (A<=8*(d0:Int)+(N:Int))=Xd:=Si bm;go_wp2;go_roundg (8-(N+1));exact⟨N+1,gc,Wm,Wm,Gn,bz,fm,n1,cp⟩;omega
     have jj:¬(N:Int)<8:=Wm;obtain⟨b8,bc,bd,be,bf,bg,bh,bi,rfl⟩:=zcE gc n1.out;go_upto_region 26 with fail;obtain⟨l,h⟩:=Ww fun b=>zc wr b;have z:=(h _).2 (gW _);have cc:Xo (∀b,l b->zt b ae 44 (pgc [b8,bc,bd,be,bf,bg,bh,bi])):=dD<|fun b dx=>fm.aA ((h _).1 dx);have qf:=fun a:zg l=>(bz.mm.box.box.aA ((h _).1 a.holds)).c 6 rfl;have j9:=fun a:zg l=>(cc _ a.holds).box.c 0 rfl;have ja:=fun a:zg l=>(cc _ a.holds).box.c 1 rfl;have jb:=fun a:zg l=>(cc _ a.holds).box.c 2 rfl;have jc:=fun a:zg l=>(cc _ a.holds).box.c 3 rfl;have jd:=fun a:zg l=>(cc _ a.holds).box.c 4 rfl;have je:=fun a:zg l=>(cc _ a.holds).box.c 5 rfl;have jf:=fun a:zg l=>(cc _ a.holds).box.c 6 rfl;have jg:=fun a:zg l=>(cc _ a.holds).box.c 7 rfl;have ax:Nonempty (zg l):=⟨⟨_,z⟩⟩;refine qX (I:=l) 9 [] z z1 Kr rfl rfl Dc (fun x ab=>by cases ab) (fun k s dt gh aw=>by cases aw) (fun dt gh k s au=>by cases au) (fun k gh aw=>by cases aw) ?_;simp only[Xw,Xx];refine zs ?_;refine QS (.tmp 126) ⟨j,0,Xb⟩ rfl rfl rfl rfl ?_;refine Uq ?_;iterate 7 refine zs ?_
     refine Zx fun sl h6 _=>?_;have cv:=(h _).1 h6;refine Z8 rfl (.tmp 134) (.tmp 133) rfl w.heap.size (O (Xa ⟨q,0,Xb⟩) nb nb) Y (bz.aA cv).mm.rows.db q n rfl (Rx cl.2.2 g3) [b8,bc,bd,be,bf,bg,bh,bi] rfl _ rfl (by first|rfl|simp) rfl ?_;intro l7 i5 cd i9;obtain⟨-,li,em⟩:=Ji (bz.aA cv).mm.rows.db (g:=q) rfl;have fd:Xo (FC w K j l7 b9 e9 ⟨⟨Xa ⟨ap,0,Xb⟩,nf,nf⟩,⟨Xa ⟨az,0,Xb⟩,ns,ns⟩,⟨Xa ⟨t,0,Xb⟩,ns,ns⟩,zP,⟨Xa ⟨q,0,Xb⟩,nb,nb⟩,P,an,zP,zP⟩ ⟨Xr nf frF,0,Xr ns 0,Xr ns zu,[],(Y.set n [b8,bc,bd,be,bf,bg,bh,bi]),a9,fl,nb,[],[]⟩ av A ah a8):=(bz.aA cv).kind cd em Dc Dc ((bz.aA cv).mm.setDb rfl cd i9 (zdU nf) i5).1 rfl rfl;have oy:=dD ((cp.aA cv).kind cd em Dc);have om:Xo (zt l7 ae 44 (pgc [b8,bc,bd,be,bf,bg,bh,bi])):=(fm.aA cv).beside cd (fun D e=>by cases e;have:=(bz.mm.rows.bF q rfl);have:=fg.out;omega);clear h6 cv i5 cd i9 li em z qf ax;clear j9 ja jb jc jd je jf jg;have es:=qT 2 fd.mm;go_wp2_with fail;refine es.mono ?_;clear es;rintro e dp⟨bo,fi,a,rfl,i2,d6,-,-,-,-,i1⟩;have M:=dD<|fd.pick d6 i2;have it:Xo (zt dp w.heap.size 41 qC):=oy.kind d6 fd.mm.box Dc;have on:Xo (zt dp ae 44 (pgc [b8,bc,bd,be,bf,bg,bh,bi])):=om.kind d6 fd.mm.box Dc;have gu:=dD (cn.trans i1);clear i2 d6 i1;have kq:Xo ((Y.set n [b8,bc,bd,be,bf,bg,bh,bi]).length=nb):=show _=_ by rw[Yf];exact cl.2.2
     by_cases n6:a=1
     ·have qi:(a==1)=Xc:=by simp[n6]
      clear n6;go_upto_region 28 with fail;have ie:=dD M.mm.rows.dq;have nz:Xo (a9.length<=1000):=show _<=_ by
       have aq:=cl.1.ql;have ac:=zgV ((z8 _ _).1 cl.1.st).2.1;have br:=((z8 _ _).1 cl.1.st).1.1;have ty:=cl.2.1;omega
      obtain⟨l,h⟩:=Ww fun b=>zt b j 81 [bo.x,O (Xa ⟨ap,0,Xb⟩) nf nf,I6 0,O (Xa ⟨az,0,Xb⟩) ns ns,O (Xa ⟨t,0,Xb⟩) ns ns,eS,O (Xa ⟨q,0,Xb⟩) nb nb,P.x,an.x,I6 (nb:Int),eS,eS,eS]/\zt b ae 44 (pgc [b8,bc,bd,be,bf,bg,bh,bi]);have z:l dp.drew:=(h _).2 ⟨M.mm.box.aA (gW _),on.aA (gW _)⟩;have cc:Xo (∀b,l b->zt b ae 44 (pgc [b8,bc,bd,be,bf,bg,bh,bi])):=dD<|fun b dx=>((h _).1 dx).2;have qg:=fun a:zg l=>((h _).1 a.holds).1.box.c 7 rfl;have j9:=fun a:zg l=>(cc _ a.holds).box.c 0 rfl;have ja:=fun a:zg l=>(cc _ a.holds).box.c 1 rfl;have jb:=fun a:zg l=>(cc _ a.holds).box.c 2 rfl;have jc:=fun a:zg l=>(cc _ a.holds).box.c 3 rfl;have jd:=fun a:zg l=>(cc _ a.holds).box.c 4 rfl;have je:=fun a:zg l=>(cc _ a.holds).box.c 5 rfl;have jf:=fun a:zg l=>(cc _ a.holds).box.c 6 rfl;have jg:=fun a:zg l=>(cc _ a.holds).box.c 7 rfl;have ax:Nonempty (zg l):=⟨⟨_,z⟩⟩;refine zN (I:=l) 16 [(10,fun i=>∃D,i=O (Xa ⟨D,0,Xb⟩) 1 1),(11,fun i=>∃ca n c,i=O ca n c)] (fun b=>zc dp b) z (gW _) z1 Kr rfl rfl Dc (Sb ⟨_,0,rfl⟩ ⟨_,Xb,0,0,rfl⟩) Kr ?_;simp only[Xw,Xx];iterate 2 refine zj ?_
      refine zW (.tmp 139) ⟨j,0,Xb⟩ rfl rfl rfl rfl ?_;refine Uq ?_;iterate 7 refine zj ?_
      refine zC rfl rfl (fun i b=>zc dp b/\∃D,i=O (Xa ⟨D,0,Xb⟩) 1 1/\Zt b ⟨D,0,Xb⟩ (ptc ((n:Int),[b8,bc,bd,be,bf,bg,bh,bi]))) (fun w' d cw=>?_) (fun dh R=>?_);·exact zL.step (v:=O (Xa ⟨w'.heap.size,0,Xb⟩) 1 1) (w':=w'.alloc (Xk #[I6 (n:Int),U8 b8,U8 bc,U8 bd,U8 be,U8 bf,U8 bg,U8 bh,U8 bi] 88)) (by simp only[execOp];go_simp) ⟨(h _).2 ⟨((h _).1 d).1.aA (za _ _),((h _).1 d).2.aA (za _ _)⟩,⟨_,rfl⟩,cw.trans (za _ _),_,rfl,Zt.aF w' (ptc ((n:Int),[b8,bc,bd,be,bf,bg,bh,bi])) _ rfl⟩
      obtain⟨d5,rfl⟩:=R;refine Uq ?_;refine zC rfl rfl (fun i b=>∃u0,zc dp u0/\u0.grownBy b (P.x).ownBlock/\zw w.heap.size b i (a9++[((n:Int),[b8,bc,bd,be,bf,bg,bh,bi])])) (fun w' d cw=>?_) (fun dh R=>?_)
      ·obtain⟨al,D,m1,pu⟩:=cw;have m2:d5=D:=by
        simp only[vJ,Option.some.injEq,Addr.mk.injEq]at m1;exact m1.1.1
       subst m2;obtain⟨fb,bw,a5,ad,U⟩:=ze6 (w:=w') 32 (ie.aA al) d5 ((n:Int),[b8,bc,bd,be,bf,bg,bh,bi]) rfl pu nz (nT (bS M.mm.gr) (bS al));obtain⟨ec,qn,dw,rfl⟩:=ad.slice;have j7:l bw:=by
        cases a0:(P.x).ownBlock with
        |none=>
         rw[a0]at U;exact(h _).2 ⟨((h _).1 d).1.aA (qP U),((h _).1 d).2.aA (qP U)⟩
        |some lq=>
         rw[a0]at U;obtain⟨-,ft,bm⟩:=zbv (ie.aA al) a0;exact(h _).2 ⟨((h _).1 d).1.kind U bm Dc,((h _).1 d).2.kind U bm Dc⟩
       refine zL.step (v:=O ec qn dw) (w':=bw) ?_ ⟨j7,⟨ec,qn,dw,rfl⟩,w',al,U,ad⟩;simp only[execOp,resolve,invoke,builtin,pure_bind,Xv,Xu,Ya,mP,Xt];exact Eq.trans (congrArg (fun jz=>Result.andThen jz (fun ca w'=>Result.ok (Next.value ca) w')) a5) rfl
      obtain⟨lj,lm,lk,rfl⟩:=R;refine Uq ?_;refine zW (.tmp 138) ⟨j,0,Xb⟩ rfl rfl rfl rfl ?_;refine Uq ?_;iterate 3 refine zj ?_
      refine qN fun X cf eh=>?_;obtain⟨u0,ai,r,ch⟩:=eh;have V:=dD<|((h _).1 cf).1;have iq:=dD<|(M.mm.rows.aA ai).addDq r ⟨lj,lm,lk⟩ (zdU nf) ch;have ep:zc w X/\FlB w.heap.size K av X ⟨⟨Xa ⟨ap,0,Xb⟩,nf,nf⟩,⟨Xa ⟨az,0,Xb⟩,ns,ns⟩,⟨Xa ⟨t,0,Xb⟩,ns,ns⟩,zP,⟨Xa ⟨q,0,Xb⟩,nb,nb⟩,P,an,zP,zP⟩ ⟨Xr nf frF,0,Xr ns 0,Xr ns zu,[],Y.set n [b8,bc,bd,be,bf,bg,bh,bi],a9,fl,nb,[],[]⟩/\zt X av 84 [I6 A,ah.x]/\zb blE (av+1) X (ah.x) a8/\zt X w.heap.size 41 qC:=by
       cases a0:(P.x).ownBlock with
       |none=>
        rw[a0]at r;have k:=qP r;exact⟨(M.mm.gr.trans ai).trans k,(M.fb.aA ai).aA k,(M.box.aA ai).aA k,(M.row.aA ai).aA k,(it.aA ai).aA k⟩
       |some lq=>
        rw[a0]at r;obtain⟨pw,ft,bm⟩:=zbv (ie.aA ai) a0;exact⟨zd (M.mm.gr.trans ai) r pw,(M.fb.aA ai).kind r bm (.inl Dc) (.inl Dc),(M.box.aA ai).kind r bm Dc,(M.row.aA ai).kind r bm Dc,(it.aA ai).kind r bm Dc⟩
      obtain⟨ln,rh,ri,rj,lo⟩:=ep;have kn:=dD ln;have ki:=dD rh;have l3:=dD ri;have l4:=dD rj;have iu:=dD lo;clear ln rh ri rj lo u0 ai r ch cf z qg ax;clear j9 ja jb jc jd je jf jg;obtain⟨fo,d8⟩:=kB (X.setCell ⟨j,7,Xb⟩ (O lj lm lk));have H:X.grownBy fo (Xa j):=(by rw[<-d8];exact jX _ _ _ _);have ip:Mk w K fo j bo fi ⟨⟨Xa ⟨ap,0,Xb⟩,nf,nf⟩,⟨Xa ⟨az,0,Xb⟩,ns,ns⟩,⟨Xa ⟨t,0,Xb⟩,ns,ns⟩,zP,⟨Xa ⟨q,0,Xb⟩,nb,nb⟩,⟨lj,lm,lk⟩,an,zP,zP⟩ ⟨Xr nf frF,0,Xr ns 0,Xr ns zu,[],Y.set n [b8,bc,bd,be,bf,bg,bh,bi],a9++[((n:Int),[b8,bc,bd,be,bf,bg,bh,bi])],fl,nb,[],[]⟩ zP []:=⟨zd kn H M.mm.hb,M.mm.hb,by rw[<-d8];exact V.set 7 _,M.mm.lr,M.mm.lc,M.mm.lb,iq.var H V H.size (.inl rfl)⟩;have nj:Xo (FC w K j fo bo fi ⟨⟨Xa ⟨ap,0,Xb⟩,nf,nf⟩,⟨Xa ⟨az,0,Xb⟩,ns,ns⟩,⟨Xa ⟨t,0,Xb⟩,ns,ns⟩,zP,⟨Xa ⟨q,0,Xb⟩,nb,nb⟩,⟨lj,lm,lk⟩,an,zP,zP⟩ ⟨Xr nf frF,0,Xr ns 0,Xr ns zu,[],(Y.set n [b8,bc,bd,be,bf,bg,bh,bi]),(a9++[((n:Int),[b8,bc,bd,be,bf,bg,bh,bi])]),fl,nb,[],[]⟩ av A ah a8):=dD<|⟨ip,M.hp,(ki.kind H V (.inl Dc) (.inl Dc)).as rfl rfl,M.fn,l3.kind H V Dc,l4.kind H V Dc⟩;have iv:Xo (zt fo w.heap.size 41 qC):=iu.kind H V Dc;have ky:=dD d8;have v5:=V.box.c 7 rfl;have na:=V.box.f;clear d8 H;go_wp2;rw[ky.out];go_meet;exact⟨(n:Int),bo,fi,⟨lj,lm,lk⟩,_,_,rfl,rfl,nj,gu,iv,(show _/\_ from⟨cl.1.block (more:=true) (Rx cl.2.2 g3) dk.1 dk.2,kq⟩)⟩
     have qi:(a==1)=Xd:=(by simp[n6]);clear n6;go_wp2;go_meet;exact⟨(n:Int),bo,fi,P,_,_,rfl,rfl,M,gu,it,(show _/\_ from⟨cl.1.block (more:=false) (Rx cl.2.2 g3) dk.1 dk.2,kq⟩)⟩
   obtain⟨gx,b9,e9,qt,pi,pj,rfl,rfl,ib,cn,fq,kl⟩:=hcut;have k7:=ib.box.box.c 1 rfl;have ko:=dD cl.2.1;have o8:=dD ib.box.box.lt;go_wp2_with(at_builtin;refine zr (E:=blE) rfl (.tmp 155) (.tmp 157) rfl (av+1) _ a8 rfl (ib.row.aA (za _ _)) _ [gx] rfl (q8 blE wc gx _ _ rfl Dc) ?qb ?qc ?_)
   case qb=>
    rw[ko.out];show(d0+1)*8<=_;omega
   case qc=>exact nT o8 (bS (za _ _))
   intro v3 X ga ce;obtain⟨lg,iy,rfl⟩:=ga.form;obtain⟨oi,lu⟩:=kB ((a8++[gx]).length);rw[lu]at ga⊢;clear lu;obtain⟨so,j6⟩:=kB (wc.alloc (Xk #[I6 gx] 3));have pk:=gP j6;have gz:so.grownBy X (ah.x).ownBlock:=Ry j6 ce;clear ce j6;obtain⟨lh,mj,lp⟩:=(ib.aA pk).addB gz ⟨lg,oi,iy⟩ ga;have ni:=dD lp;have iu:Xo (zt (X.setCell ⟨av,1,Xb⟩ (O lg oi iy)) w.heap.size 41 qC):=mj _ _ _ Dc Dc (fq.aA pk);have V:=dD lh;clear lh mj lp gz ga pk k7;have k7:=V.box.c 1 rfl;have v7:=V.box.f;go_wp2;go_roundg (fk-(d0+1));exact⟨d0+1,b9,e9,qt,⟨lg,oi,iy⟩,pi,pj,a8++[gx],Wm,Wm,Gn,ni,cn,iu,(show _/\_ from⟨kl.1,by rw[lA,ko.out];rfl,kl.2⟩)⟩;omega
  have ji:=kD h9;obtain rfl:d0=fk:=Wm;go_upto_region 31 with fail;obtain⟨ck,ci,ez,dg⟩:=c0.fb;have e8:=dD ci;have W:=dD ez;have fh:=dD<|fun(N:Nat)x f(ab:ck[N]?=Xa x)(ar:fl[N]?=Xa f)=>(dg N x f ab ar).1;clear ci ez dg;obtain⟨bk,di⟩:∃bk:FlV,Xo (bk=⟨A,ah.a,ah.n,ah.c⟩):=⟨_,rfl⟩;obtain⟨l,h⟩:=Ww fun b=>zt b j 81 [gk.x,O (Xa ⟨ap,0,Xb⟩) nf nf,I6 0,O (Xa ⟨az,0,Xb⟩) ns ns,O (Xa ⟨t,0,Xb⟩) ns ns,eS,O (Xa ⟨q,0,Xb⟩) nb nb,P.x,an.x,I6 (nb:Int),eS,eS,eS]/\zt b av 84 [I6 A,ah.x];have z:l wr.drew:=(h _).2 ⟨c0.mm.box.aA (gW _),c0.box.aA (gW _)⟩;have g8:=fun a:zg l=>((h _).1 a.holds).1.box.c 8 rfl;have g6:=fun a:zg l=>((h _).1 a.holds).2.box.c 0 rfl;have g7:=fun a:zg l=>((h _).1 a.holds).2.box.c 1 rfl;have ax:Nonempty (zg l):=⟨⟨_,z⟩⟩;refine zN (I:=l) 14 [(8,fun i=>∃D,i=O (Xa ⟨D,0,Xb⟩) 1 1),(9,fun i=>∃ca n c,i=O ca n c)] (fun b=>zc wr b) z (gW _) z1 Kr rfl rfl Dc (Sb ⟨_,0,rfl⟩ ⟨_,Xb,0,0,rfl⟩) Kr ?_;simp only[Xw,Xx];iterate 2 refine zj ?_
  refine zW (.tmp 162) ⟨j,0,Xb⟩ rfl rfl rfl rfl ?_;refine Uq ?_;iterate 5 refine zj ?_
  refine zC rfl rfl (fun i b=>zc wr b/\zq fvE b i [bk]) (fun w' d cw=>?_) (fun dh R=>?_);·exact zL.step (v:=O (Xa ⟨w'.heap.size,0,Xb⟩) 1 1) (w':=w'.alloc (Xk #[I6 A,ah.x] 84)) (by simp only[execOp];go_simp) ⟨(h _).2 ⟨((h _).1 d).1.aA (za _ _),((h _).1 d).2.aA (za _ _)⟩,⟨_,rfl⟩,cw.trans (za _ _),q8 fvE w' bk _ _ (Rr di.out) Dc⟩
  obtain⟨d5,rfl⟩:=R;refine Uq ?_;refine zC rfl rfl (fun i b=>∃u0,zc wr u0/\u0.grownBy b (an.x).ownBlock/\zb fvE w.heap.size b i (ck++[bk])) (fun w' d cw=>?_) (fun dh R=>?_)
  ·obtain⟨al,q0⟩:=cw;obtain⟨fb,bw,a5,ad,U,-⟩:=qI (E:=fvE) (w:=w') 35 (e8.aA al) (O (Xa ⟨d5,0,Xb⟩) 1 1) [bk] q0 (by have:=W.out;have:=ff.out;rw[W.out];show(fl.length+1)*32<=_;omega) (nT (bS c0.mm.gr) (bS al));obtain⟨ec,dw,rfl⟩:=ad.form;have j7:l bw:=by
    cases a0:(an.x).ownBlock with
    |none=>
     rw[a0]at U;exact(h _).2 ⟨((h _).1 d).1.aA (qP U),((h _).1 d).2.aA (qP U)⟩
    |some lq=>
     rw[a0]at U;obtain⟨ft,bm⟩:=(e8.aA al).obj a0;have ds:=c0.fn lq a0;exact(h _).2 ⟨((h _).1 d).1.kind U bm Dc,((h _).1 d).2.beside U (fun k e=>by cases e;omega)⟩
   refine zL.step (v:=.slice ec (ck++[bk]).length dw) (w':=bw) ?_ ⟨j7,⟨ec,_,dw,rfl⟩,w',al,U,ad⟩;simp only[execOp,resolve,invoke,builtin,pure_bind,Xv,Xu,Ya,mP,Xt];exact Eq.trans (congrArg (fun jz=>Result.andThen jz (fun ca w'=>Result.ok (Next.value ca) w')) a5) rfl
  obtain⟨iz,j1,j0,rfl⟩:=R;refine Uq ?_;refine zW (.tmp 161) ⟨j,0,Xb⟩ rfl rfl rfl rfl ?_;refine Uq ?_;iterate 3 refine zj ?_
  refine qN fun X cf eh=>?_;obtain⟨u0,ai,r,ch⟩:=eh;have V:=dD<|((h _).1 cf).1;have iq:Xo (MkR w.heap.size K X ⟨⟨Xa ⟨ap,0,Xb⟩,nf,nf⟩,⟨Xa ⟨az,0,Xb⟩,ns,ns⟩,⟨Xa ⟨t,0,Xb⟩,ns,ns⟩,zP,⟨Xa ⟨q,0,Xb⟩,nb,nb⟩,P,⟨iz,j1,j0⟩,zP,zP⟩ ⟨Xr nf frF,0,Xr ns 0,Xr ns zu,[],Y,a9,fl++[⟨A,a8⟩],nb,[],[]⟩ zP []):=(c0.mm.rows.aA ai).addFl (e8.aA ai) W (fun N x f ab ar=>⟨(fh N x f ab ar).1,(fh N x f ab ar).2.aA ai⟩) r ⟨iz,j1,j0⟩ (x:=bk) (f:=⟨A,a8⟩) (zdU nf) (by rw[di.out]) (by rw[di.out];exact(c0.row.aA ai).base (Hm c0.hp)) ch;have ep:zc w X/\zt X w.heap.size 41 qC:=by
   cases a0:(an.x).ownBlock with
   |none=>
    rw[a0]at r;exact⟨(c0.mm.gr.trans ai).trans (qP r),(eb.aA ai).aA (qP r)⟩
   |some lq=>
    rw[a0]at r;obtain⟨ft,bm⟩:=(e8.aA ai).obj a0;exact⟨zd (c0.mm.gr.trans ai) r ((e8.aA ai).lt lq a0).1,(eb.aA ai).kind r bm Dc⟩
  obtain⟨ln,lo⟩:=ep;have H:=jX X j 8 (O iz j1 j0);have ip:Xo (Mk w K (X.setCell ⟨j,8,Xb⟩ (O iz j1 j0)) j gk rd ⟨⟨Xa ⟨ap,0,Xb⟩,nf,nf⟩,⟨Xa ⟨az,0,Xb⟩,ns,ns⟩,⟨Xa ⟨t,0,Xb⟩,ns,ns⟩,zP,⟨Xa ⟨q,0,Xb⟩,nb,nb⟩,P,⟨iz,j1,j0⟩,zP,zP⟩ ⟨Xr nf frF,0,Xr ns 0,Xr ns zu,[],Y,a9,fl++[⟨A,a8⟩],nb,[],[]⟩ zP []):=dD<|⟨zd ln H c0.mm.hb,c0.mm.hb,V.set 8 _,c0.mm.lr,c0.mm.lc,c0.mm.lb,iq.var H V H.size (.inl rfl)⟩;have iv:Xo (zt (X.setCell ⟨j,8,Xb⟩ (O iz j1 j0)) w.heap.size 41 qC):=lo.kind H V Dc
  have kj:Xo (zgX (fl++[⟨A,a8⟩]) nb Y a9 []/\(fl++[(⟨A,a8⟩:Fl)]).length<=f8+1/\Y.length=nb/\∀f∈fl++[(⟨A,a8⟩:Fl)],f.size<40):=dD<|⟨cl.1.file (Hm ff.out) (Hm kv.out) (by rw[cl.2.1,ih.out]),by have:=ff.out;simp;omega,cl.2.2,fun f ar=>by
   rcases Xy.1 ar with ar|ar;·exact ks f ar
   simp only[mC,nM,or_false]at ar;rw[ar];exact kv.2⟩
  clear u0 ai r ch ln lo H cf z g8 g6 g7 ax;have v6:=V.box.c 8 rfl;have na:=V.box.f;go_wp2;go_roundg (c-(f8+1));exact⟨f8+1,gk,rd,P,⟨iz,j1,j0⟩,Y,a9,fl++[(⟨A,a8⟩:Fl)],Wm,Wm,Gn,ip,f4,iv,kj,(fun ak=>absurd ak (Nat.succ_ne_zero _))⟩;omega
 have jh:=kD h8;have ru:=dD<|bz.1.start jm jn 0;have kt:Xo (fl.length<=2/\∀f∈fl,f.size<40):=show _/\_ from⟨Hm bz.2.1,bz.2.2.2⟩;have no:Xo (L=[]->fl=[]/\fu=[]/\ed=Xr nb zu):=dD<|fun e=>ss.out (Hm (nm.out e));have hh:=qT 2 gv.out;go_wp2_with fail;refine hh.mono ?_;clear hh;rintro e l8⟨gj,n0,a,rfl,ex,ce,-,gd,ge,kf,ev⟩;obtain⟨dy,ti⟩:∃dy:Nat,1+a=(dy:Int):=⟨(1+a).toNat,Wm⟩;have rm:dy<=2:=by rcases ge with ak|ak<;>omega
 have rl:1<=dy:=Wm;have ig:Xo (L=[]->dy=1):=dD<|fun e=>Hm (kf (of e));have k8:=dD ex;have pa:Xo (zt l8 w.heap.size 41 qC):=cp.beside ce (fun D e=>by cases e;have:=bp.out;omega);have io:=dD (of.trans ev);clear ex ce ev gd ge kf;go_wp2;go_loopg[179] dy (fun ef ms wr=>∃(am:Nat)(af:Sli)(bj:List Int)(sj:MaV)(f9:Ma)(r6:Sli)(op:List (Nat->En)),am<=dy/\dy-am<=ef/\ms=I6 am/\Xo (Mk w K wr j af bj sj f9 r6 op)/\Xo (zbk L bj)/\Xo (zt wr w.heap.size 41 qC)/\Xo (qL f9 op)/\Xo (f9.sp.length=am/\(∀s∈f9.sp,jQ f9.fl.length s.aC/\Q2 s.aC 64<=12)/\f9.aB=0/\f9.fs.length=nf/\(f9.fl.length<=2/\∀f∈f9.fl,f.size<40))/\Xo (L=[]->f9=zmT nf ns nb am/\op=Xr am (fun _=>en0)))
 exact⟨0,gj,n0,_,_,_,_,nZ _,Wm,rfl,k8,io,pa,ru,(show _/\_ from⟨rfl,fun s Q=>(by cases Q),rfl,lR,kt⟩),(show _->_ from fun e=>by obtain⟨d4,cq,kb⟩:=no.out e;rw[d4,cq,kb];exact⟨rfl,rfl⟩)⟩;obtain⟨am,k1,rc,p,b7,ao,dm,tg,ta,rfl,f5,f4,eb,cb,ba,ne⟩:=hrel;have b0:=dD ba.1;by_cases ha:am<dy
 ·have jk:=kC ha
  by_cases aq:am=1
  ·subst aq;have ku:Xo (L≠[]):=dD<|fun e=>Hm (ig.out e);have pn:((((1:Nat):Int))==1)=Xc:=Dc;have hq:=qT 2 f5.out;go_wp2_with fail;refine hq.mono ?_;clear hq;rintro e aj⟨du,im,gm,rfl,ey,dr,-,-,-,-,ew⟩;have s8:=dD ey;have ld:Xo (zt aj w.heap.size 41 qC):=eb.beside dr (fun D e=>by cases e;have:=bp.out;omega);have fj:=dD (f4.trans ew);clear ey dr ew;obtain⟨f5,f4,eb⟩:Xo (Mk w K aj j du im p b7 ao dm)/\Xo (zbk L im)/\Xo (zt aj w.heap.size 41 qC):=⟨s8,fj,ld⟩;by_cases g9:gm=1
   ·have qj:(gm==1)=Xc:=by simp[g9]
    clear g9;obtain⟨gd,md⟩:=Yc.1 b0.out;have ik:Xo (b7.sp=[gd]):=md;clear md;have m0:=zpp gd f5 cb ik.out;go_wp2_with fail;refine m0.mono ?_;clear m0;rintro e dv⟨⟨i,rfl⟩,gw,a7,cj,d3,ci,dg,i6,⟨f0,f1,i7,i8⟩⟩;have l2:Xo (Mk w K dv j du im gw a7 cj d3):=ci;have fq:Xo (zt dv w.heap.size 41 qC):=dg.1 _ _ _ eb zgq;have kg:Xo (qL a7 d3):=i6;have l6:Xo (a7.sp.length=1+1/\(∀s∈a7.sp,jQ a7.fl.length s.aC/\Q2 s.aC 64<=12)/\a7.aB=0/\a7.fs.length=nf/\(a7.fl.length<=2/\∀f∈a7.fl,f.size<40)):=show _/\_ from⟨by rw[f0,ik.out];rfl,fun s Q=>by
     rw[f0]at Q;rw[f1];rcases Xy.1 Q with Q|Q;·exact ba.2.1 s Q
     simp only[mC,nM,or_false]at Q;rw[Q];exact ba.2.1 gd (by rw[ik.out];simp),i7.trans ba.2.2.1,i8.trans ba.2.2.2.1,Rx f1 ba.2.2.2.2⟩
    have kh:Xo (L=[]->a7=zmT nf ns nb (1+1)/\d3=Xr (1+1) (fun _=>en0)):=dD<|fun e=>absurd e ku.out;clear ci dg i6 f0 f1 i7 i8;go_wp2;go_roundg (dy-(1+1));exact⟨1+1,du,im,gw,a7,cj,d3,Wm,Wm,Gn,l2,f4,fq,kg,l6,kh⟩;omega
   have qj:(gm==1)=Xd:=(by simp[g9]);clear g9;have et:=zhh f5 cb (by rw[b0.out];omega)
   go_wp2_with fail;refine et.mono ?_;clear et;rintro e dv⟨⟨i,rfl⟩,b9,e9,gw,a7,cj,d3,tn,ci,ez,dg,i6,⟨f0,f1,i7,i8⟩,jy,gb⟩;have l2:Xo (Mk w K dv j b9 e9 gw a7 cj d3):=ci;have cn:=dD (f4.trans ez);have fq:Xo (zt dv w.heap.size 41 qC):=dg.1 _ _ _ eb zgq;have kg:Xo (qL a7 d3):=i6;have l6:Xo (a7.sp.length=1+1/\(∀s∈a7.sp,jQ a7.fl.length s.aC/\Q2 s.aC 64<=12)/\a7.aB=0/\a7.fs.length=nf/\(a7.fl.length<=2/\∀f∈a7.fl,f.size<40)):=show _/\_ from⟨by rw[f0,lA,b0.out];rfl,fun s Q=>by
    rw[f0]at Q;rw[f1];rcases Xy.1 Q with Q|Q;·exact ba.2.1 s Q
    simp only[mC,nM,or_false]at Q;rw[Q];exact jy,i7.trans ba.2.2.1,i8.trans ba.2.2.2.1,Rx f1 ba.2.2.2.2⟩
   have kh:Xo (L=[]->a7=zmT nf ns nb (1+1)/\d3=Xr (1+1) (fun _=>en0)):=dD<|fun e=>absurd e ku.out;clear ci ez dg i6 f0 f1 i7 i8 jy gb;go_wp2;go_roundg (dy-(1+1));exact⟨1+1,b9,e9,gw,a7,cj,d3,Wm,Wm,Gn,l2,cn,fq,kg,l6,kh⟩;omega
  obtain rfl:am=0:=Wm;have pn:((((0:Nat):Int))==1)=Xd:=Dc;have et:=zhh f5 cb (by rw[b0.out];omega)
  go_wp2_with fail;refine et.mono ?_;clear et;rintro e dv⟨⟨i,rfl⟩,b9,e9,gw,a7,cj,d3,tn,ci,ez,dg,i6,⟨f0,f1,i7,i8⟩,jy,gb⟩;have l2:Xo (Mk w K dv j b9 e9 gw a7 cj d3):=ci;have cn:=dD (f4.trans ez);have fq:Xo (zt dv w.heap.size 41 qC):=dg.1 _ _ _ eb zgq;have kg:Xo (qL a7 d3):=i6;have l6:Xo (a7.sp.length=0+1/\(∀s∈a7.sp,jQ a7.fl.length s.aC/\Q2 s.aC 64<=12)/\a7.aB=0/\a7.fs.length=nf/\(a7.fl.length<=2/\∀f∈a7.fl,f.size<40)):=show _/\_ from⟨by rw[f0,lA,b0.out];rfl,fun s Q=>by
   rw[f0]at Q;rw[f1];rcases Xy.1 Q with Q|Q;·exact ba.2.1 s Q
   simp only[mC,nM,or_false]at Q;rw[Q];exact jy,i7.trans ba.2.2.1,i8.trans ba.2.2.2.1,Rx f1 ba.2.2.2.2⟩
  have kh:Xo (L=[]->a7=zmT nf ns nb (0+1)/\d3=Xr (0+1) (fun _=>en0)):=dD<|fun e=>by
   obtain⟨d4,cq⟩:=gb (f4 e);obtain⟨st,su⟩:=ne.out e;rw[st]at d4;rw[su]at cq;exact⟨d4,cq⟩
  clear ci ez dg i6 f0 f1 i7 i8 jy gb;go_wp2;go_roundg (dy-(0+1));exact⟨0+1,b9,e9,gw,a7,cj,d3,Wm,Wm,Gn,l2,cn,fq,kg,l6,kh⟩;omega
 have jk:=kD ha;obtain⟨r8,r9,rs,-⟩:=f5.rows.sp;have ny:Xo (p.sp.n=am):=dD<|by rw[r9.n,rs,b0.out]
 obtain⟨bv,dz⟩:=kA wr.heap.size;have kp:Xo (j<bv):=dD<|Ry dz.out f5.box.box.lt;have l0:Xo (w.heap.size<bv):=dD<|Ry dz.out eb.box.lt;have od:Xo (∀D,(p.sp.x).ownBlock=Xa D->D<bv):=dD<|fun D aa=>by rw[<-dz.out];exact(r9.lt D aa).2
 have sa:=dD f5.aW;have si:=dD<|f5.rows.start bv dz.out;have il:Xo (dm.length=am):=show _=_ by rw[cb.tl,b0.out]
 have ry:Xo (∀(G:Nat)f,dm[G]?=Xa f->∀e∈tab f,0<=e.kind):=dD<|fun G f ar e lz=>by
  obtain⟨dt,au⟩:=Yn lz;have h7:dt<64:=by have:=(gS.1 au).1;rw[Jm]at this;exact this
  rw[zat h7]at au;cases au;have rn:G<b7.sp.length:=by rw[<-cb.tl];exact(gS.1 ar).1
  rcases cb.aN G _ f (gE rn) ar dt h7 with e|e;·rw[e];decide
  by_cases aw:(f dt).kind=2;·omega
  have:=(zS e aw).1;omega
 have k6:=f5.box.box.c 11 rfl;(try simp only[Sli.x]at k6);rw[ny.out]at k6;clear r9 rs r8;go_wp2;clear k6;go_loopg[200] am (fun ef mt wr=>∃G:Nat,G<=am/\am-G<=ef/\mt=I6 G/\Xo (MkT w.heap.size K bv G wr p b7 ao dm)/\Xo (zrc w wr j k1 rc [p.f.x,I6 b7.aB,p.s.x,p.sb.x,p.sq.x,p.db.x,p.dq.x,p.fl.x,I6 b7.cnt,p.ca.x,p.sp.x,ao.x])/\Xo (zt wr w.heap.size 41 qC)/\Xo (bv<=wr.heap.size))
 exact⟨0,nZ _,Wm,rfl,si,sa,eb,(show _<=_ by rw[dz.out];exact nR _)⟩;obtain⟨G,rn,tb,rfl,k9,d2,cp,ra⟩:=hrel;by_cases eq:G<am
 ·have jl:=kC eq
  obtain⟨f,np⟩:∃f,Xo (dm[G]?=Xa f):=⟨_,gE (Rx il.out eq)⟩;obtain⟨nc,ge,kf,rr⟩:=k9.sp;have mi:nc.length=am:=by rw[kf,b0.out]
  obtain⟨x,e8⟩:∃x,Xo (nc[G]?=Xa x):=⟨_,gE Wm⟩;obtain⟨fv,ft,jo⟩:=ge.aG Wm;rw[mi]at jo;have e7:=dD jo;obtain⟨pl,rg,jp⟩:=k9.tt.aG (by rw[il.out];omega);rw[il.out]at jp;have kw:=dD jp;have l5:Xo (zb Qg w.heap.size wr (O (Xa ⟨fv,0,Xb⟩) am ft) nc):=show zb _ _ _ _ _ by rw[<-e7.out];exact ge
  have sb:Xo (zb zdf w.heap.size wr (O (Xa ⟨pl,0,Xb⟩) am rg) dm):=dD<|Ry kw.out k9.tt;have sc:=dD kf;have se:=dD rr;clear ge kf rr jo jp mi;go_upto_region 43 with fail;obtain⟨l,h⟩:=Ww fun b=>zc wr b;have z:=(h _).2 (gW _);have mg:∀a:zg l,a.world.cell? ⟨j,11,Xb⟩=Xa (O (Xa ⟨fv,0,Xb⟩) am ft):=fun a=>by
   have:=(d2.box.box.aA ((h _).1 a.holds)).c 11 rfl;(try unfold Sli.x at this);rw[e7.out]at this;exact this
  have mh:∀a:zg l,a.world.cell? ⟨j,12,Xb⟩=Xa (O (Xa ⟨pl,0,Xb⟩) am rg):=fun a=>by
   have:=(d2.box.box.aA ((h _).1 a.holds)).c 12 rfl;(try unfold Sli.x at this);rw[kw.out]at this;exact this
  have ax:Nonempty (zg l):=⟨⟨_,z⟩⟩;refine zN (I:=l) 16 [(13,fun i=>∃gi:List Xq,i=Xi gi.toArray)] (fun _=>True) z trivial z1 Kr rfl rfl Dc (Sa ⟨_,[],rfl⟩) Kr ?_;simp only[Xw,Xx];refine zj ?_;refine zW (.tmp 203) ⟨j,0,Xb⟩ rfl rfl rfl rfl ?_;refine Uq ?_;iterate 5 refine zj ?_
  refine zW (.tmp 209) ⟨j,0,Xb⟩ rfl rfl rfl rfl ?_;refine Uq ?_;iterate 4 refine zj ?_
  refine zo9 (Xi (qG (tab f)).toArray) rfl rfl (fun b dx=>ziZ (.tmp 214) rfl pl (G*192) rfl ((sb.aA ((h _).1 dx)).range np) (by rw[QF,Jm])) ?_;refine Uq ?_;refine zC rfl rfl (fun i b=>∃gi:List Xq,i=Xi gi.toArray/\Jv 0 bv b gi (ZO f)) (fun w' d _=>?_) (fun dh R=>?_);·refine zL.call [Xi (qG (tab f)).toArray] rfl func28 rfl rfl rfl ?_;refine(ziS (tab f) w' (Jm f) (ry G f np)).mono ?_;rintro e k4⟨gi,rfl,eu,qd⟩;exact⟨_,rfl,(h _).2 (((h _).1 d).trans qd),⟨gi,rfl⟩,gi,rfl,eu.less (nR _) (nT ra (bS ((h _).1 d)))⟩
  obtain⟨gi,rfl⟩:=R;refine Uq ?_;iterate 2 refine zj ?_
  refine qN fun sk ei po=>?_;obtain⟨r4,jq,eu⟩:=po;have qe:gi=r4:=by
   simp only[Value.agg.injEq]at jq;simpa using congrArg Array.toList jq
  subst qe;obtain⟨qv,qw,qx,qy,qz,r0,r1,r2,rfl⟩:=zmr eu;have j2:=(h _).1 ei;have sg:=dD eu;have cm:=dD j2;clear jq eu j2 ei z mg mh ax;refine zx (E:=Qg) rfl (.tmp 218) (.tmp 216) 61 rfl w.heap.size _ nc (l5.aA cm) fv G 2 rfl x ⟨x.aE,x.ar,qv,qw,qx,qy,qz,r0,r1,r2⟩ e8.out [qv.v,qw.v,qx.v,qy.v,qz.v,r0.v,r1.v,r2.v] Kr rfl (by show 2+8<=10;omega) (fun b dx=>by simp only[mC,nM,or_false]at dx;rcases dx with rfl|rfl|rfl|rfl|rfl|rfl|rfl|rfl<;>rfl) _ rfl (by first|rfl|simp) _ rfl rfl ?_;intro f7 mo bq mv;obtain⟨sv,fy⟩:=(l5.aA cm).obj (g:=fv) rfl;have fz:fv<bv:=od.out fv (Rr e7.out)
  have sh:Xo (MkT w.heap.size K bv (G+1) f7 p b7 ao dm):=(k9.aA cm).table sc (fun N x s f ab Q ar=>by
   obtain⟨d4,cq,kb,lg⟩:=se.out N x s f ab Q ar;exact⟨d4,cq.aA cm,fun e=>(kb e).aA cm,lg⟩) fy fz bq e8 np (y:=⟨x.aE,x.ar,qv,qw,qx,qy,qz,r0,r1,r2⟩) ⟨rfl,rfl⟩ (sg.out.out (Out.grown bq (fun D e=>by cases e;exact⟨nZ _,fz⟩))) (by(first|rw[e7.out]|rw[show O _ _ _=_ from e7.out]|(unfold Sli.x;rw[e7.out]));exact mo)
  have s9:Xo (zrc w f7 j k1 rc [p.f.x,I6 b7.aB,p.s.x,p.sb.x,p.sq.x,p.db.x,p.dq.x,p.fl.x,I6 b7.cnt,p.ca.x,p.sp.x,ao.x]):=dD<|⟨zd (d2.gr.trans cm) bq ((l5.aA cm).lt fv rfl).1,d2.hb,(d2.box.aA cm).beside bq (fun D e=>by cases e;exact(l5.aA cm).ne (d2.box.aA cm) Dc fv rfl),d2.lr,d2.lc,d2.lb⟩;have oz:Xo (zt f7 w.heap.size 41 qC):=(cp.aA cm).beside bq (fun D e=>by cases e;exact(l5.aA cm).ne (cp.aA cm) Dc fv rfl);have rx:Xo (bv<=f7.heap.size):=dD (by rw[mv];exact nT ra (bS cm));clear mo bq mv fy fz;go_wp2;go_roundg (am-(G+1));exact⟨G+1,Wm,Wm,Gn,sh,s9,oz,rx⟩;omega
 have jl:=kD eq;obtain rfl:am=G:=Wm;have gp:Xo (1<=b7.sp.length/\b7.sp.length<=2):=dD<|by rw[b0.out];omega
 by_cases h5:0<nf
 ·have pm:decide ((0:Int)<(nf:Int))=Xc:=by simp;omega
  have er:=zoM (nf:Int) d2.out;go_wp2_with fail;refine er.mono ?_;clear er;rintro e fp⟨mx,s6,a,rfl,i3,eg,-,mz,k7,yn,-⟩;have oq:Xo (MkT w.heap.size K bv am fp p b7 ao dm):=k9.other eg d2.box kp (.inl rfl);have p8:Xo (zt fp w.heap.size 41 qC):=cp.kind eg d2.box Dc;have co:=dD i3;have ob:Xo (0<=a/\a<max (b7.fs.length:Int) 1):=show _/\_ from⟨mz,by rw[ba.2.2.2.1];omega⟩;have oc:Xo (L=[]->a=0):=dD<|fun e=>yn (f4 e);clear i3 eg mz k7 yn;have tt:=co.box.box.c 2 rfl;have na:=co.box.box.f;go_upto_region 47 with fail;clear tt na;obtain⟨ea,d9⟩:=kB (fp.setCell ⟨j,2,Xb⟩ (I6 a));have dd:fp.grownBy ea (Xa j):=by rw[<-d9];exact jX _ _ _ _
  have C:Xo (zt ea j 81 [mx.x,p.f.x,I6 a,p.s.x,p.sb.x,p.sq.x,p.db.x,p.dq.x,p.fl.x,I6 b7.cnt,p.ca.x,p.sp.x,ao.x]):=dD (by rw[<-d9];exact co.box.set 2 _);have os:Xo (MkT w.heap.size K bv am ea p b7 ao dm):=oq.other dd co.box kp (.inl rfl);have la:Xo (zt ea w.heap.size 41 qC):=p8.kind dd co.box Dc;have ic:Xo (zc w ea):=zd co.gr dd co.hb;rw[d9];clear d9 dd;have pb:=C.box.c 1 rfl;have pc:=C.box.c 2 rfl;have kc:=C.box.c 3 rfl;have iy:=C.box.c 4 rfl;have pd:=C.box.c 5 rfl;have gy:=C.box.c 6 rfl;have pe:=C.box.c 7 rfl;have pg:=C.box.c 8 rfl;have ph:=C.box.c 9 rfl;have iw:=C.box.c 10 rfl;have ix:=C.box.c 11 rfl;go_wp2_with(refine z6 rfl 41 (.tmp 8) (.tmp 233) rfl w.heap.size rfl [p.f.x,I6 a,p.s.x,p.sb.x,p.sq.x,p.db.x,p.dq.x,p.fl.x,I6 b7.cnt,p.ca.x,p.sp.x] rfl la rfl zsL (fun i R=>by simp only[mC,nM,or_false]at R;rcases R with rfl|rfl|rfl|rfl|rfl|rfl|rfl|rfl|rfl|rfl|rfl<;>rfl) ?_)
  intro ir cg b3 _;have ij:Xo (zjR w nf ns nb L ir p b7 dm a K bv ao):=dD<|⟨zd ic b3 (nR _),by rw[b0.out];exact os.other b3 la l0 (.inr rfl),cb,ob,ba.2.1,ba.2.2.2.2,gp,ba.2.2.2.1,fun e=>by obtain⟨d4,cq⟩:=ne.out e;have aq:=ig.out e;have ac:am=1:=Wm;rw[ac]at d4 cq;exact⟨d4,cq,oc e⟩⟩;have ia:=dD cg.box;clear cg b3;clear pb pc kc iy pd gy pe pg ph iw ix;go_wp2;refine bodyPost_ret (z7 rfl _ rfl ia underlying41 rfl zsL) rfl ⟨p,b7,dm,a,K,bv,ao,rfl,ij⟩
 have pm:decide ((0:Int)<(nf:Int))=Xd:=by simp;omega
 have C:Xo (zt wr j 81 [k1.x,p.f.x,I6 0,p.s.x,p.sb.x,p.sq.x,p.db.x,p.dq.x,p.fl.x,I6 b7.cnt,p.ca.x,p.sp.x,ao.x]):=dD<|by have:=d2.box;rw[ba.2.2.1]at this;exact this
 have ic:=dD d2.gr;have ob:Xo ((0:Int)<=0/\(0:Int)<max (b7.fs.length:Int) 1):=show _/\_ from⟨Int.le_refl _,Wm⟩;have pb:=C.box.c 1 rfl;have pc:=C.box.c 2 rfl;have kc:=C.box.c 3 rfl;have iy:=C.box.c 4 rfl;have pd:=C.box.c 5 rfl;have gy:=C.box.c 6 rfl;have pe:=C.box.c 7 rfl;have pg:=C.box.c 8 rfl;have ph:=C.box.c 9 rfl;have iw:=C.box.c 10 rfl;have ix:=C.box.c 11 rfl;go_wp2_with(refine z6 rfl 41 (.tmp 8) (.tmp 233) rfl w.heap.size rfl [p.f.x,I6 0,p.s.x,p.sb.x,p.sq.x,p.db.x,p.dq.x,p.fl.x,I6 b7.cnt,p.ca.x,p.sp.x] rfl cp rfl zsL (fun i R=>by simp only[mC,nM,or_false]at R;rcases R with rfl|rfl|rfl|rfl|rfl|rfl|rfl|rfl|rfl|rfl|rfl<;>rfl) ?_)
 intro ir cg b3 _;have ij:Xo (zjR w nf ns nb L ir p b7 dm 0 K bv ao):=dD<|⟨zd ic b3 (nR _),by rw[b0.out];exact k9.other b3 cp l0 (.inr rfl),cb,ob,ba.2.1,ba.2.2.2.2,gp,ba.2.2.2.1,fun e=>by obtain⟨d4,cq⟩:=ne.out e;have aq:=ig.out e;have ac:am=1:=Wm;rw[ac]at d4 cq;exact⟨d4,cq,rfl⟩⟩;have ia:=dD cg.box;clear cg b3;clear pb pc kc iy pd gy pe pg ph iw ix;go_wp2;refine bodyPost_ret (z7 rfl _ rfl ia underlying41 rfl zsL) rfl ⟨p,b7,dm,0,K,bv,ao,rfl,ij⟩
theorem zjR.at{ht:Nat}(h:zjR w k b p L w' V m T hd hi ht vt):zQ w' V (Ql m T hd)/\maW (Ql m T hd)=0:=⟨h.rows.mach h.inv.tl hd,h.inv.right h.aB.1 h.aB.2⟩
theorem zeP(b:zq byE w A L):(convert 24 9 A).run prog w=.ok (.string (strOfNums L)) w:=by
 have h:=byE.bI;have g:Tryz.prog.underlying 5=Xa (.int .u8):=underlying5;have f:Tryz.prog.underlying 9=Xa .string:=underlying9;obtain⟨a,d,c,e⟩:=b.rows;subst c;cases a with
 |none=>
  have:L=[]:=by
   cases L with
   |nil=>rfl
   |cons x L=>
    obtain⟨i,b,_⟩:=e 0 x rfl;cases b
  subst this;exact run_convert_bytes_nil w 24 5 h g _ _ 9 f
 |some x=>
  have k:∀(j:Nat)u,(L.map (Value.int .u8))[j]?=Xa u->w.cell? (x.add j)=Xa u:=fun j u a=>by
   rw[Yk]at a;cases c:L[j]? with
   |none=>rw[c]at a;cases a
   |some z=>
    rw[c]at a;simp only[Option.map_some,Option.some.injEq]at a;obtain⟨i,b,i⟩:=e j z c;cases b;have:=i w (zc.refl _) 0 u (by rw[<-a];rfl);simp only[byE,Yt,zX,Nat.add_zero]at this;exact this
  have a:=run_loadCells_list (P:=prog) w x (L.map (Value.int .u8)) k;rw[List.length_map]at a;rw[run_convert_bytes_string w 24 9 5 _ _ d h g f,run_bytesToString w x L.length d L a,foldl_push_bytes];simp[strOfNums,ByteArray.empty,ByteArray.emptyWithCapacity];rfl
theorem zqr(E:Elt α)(w):zq E w (eS) ([]:List α):=(zb.nil E 0 w).at
theorem zkR:ZO (fun _=>en0)=qU:=by kernel_rfl
def nm2:Ma:=zrY 2 2 2
def zfW:Ar:=⟨3,5,Xc,Xc,Xd,-1,0⟩
def nmA:Ma:={nm2 with sp:=[⟨Xc,[zfW],qU⟩]}
theorem rtA:Rt nmA:=⟨Kr,fun s a=>by
 have a:s∈[(⟨Xc,[zfW],qU⟩:Sp)]:=a;rw[Yb.1 a]
 rfl⟩
theorem zjG(w:Xn):Xp prog 9 #[I6 2,I6 2,I6 2,eS] w fun e w'=>(∃(V:MaV)(d c:Nat)(x:SpV),e=Xl (Xi #[V.f.x,I6 0,V.s.x,V.sb.x,V.sq.x,V.db.x,V.dq.x,V.fl.x,I6 2,V.ca.x,V.sp.x])/\V.sp=⟨Xa ⟨d,0,Xb⟩,1,c⟩/\zb Qg w.heap.size w' (O (Xa ⟨d,0,Xb⟩) 1 c) [x]/\∀(W:Xn)(r:Sli)(l:List Ar),qR (fun k=>k=d) w' W->zq Qg W (O (Xa ⟨d,0,Xb⟩) 1 c) [{x with ar:=r}]->zq arE W (r.x) l->r.n<=r.c->zQ W V {nm2 with sp:=[⟨Xc,l,qU⟩]})/\zc w w':=by
 refine(zit 2 2 2 2 2 2 Dc Dc Dc zP [] w (zqr _ _) (nR _) Sm).mono ?_;rintro e w'⟨V,al,af,a0,a4,D,ad,rfl,g⟩;obtain⟨R,S,T⟩:=g.new rfl;subst R S T;have b:=g.rows;have A:=g.gr;have C:ZO (fun _=>en0)=qU:=zkR;clear g;obtain⟨ae,m,aa,ab⟩:=b.sp;obtain⟨x,rfl⟩:=Yc.1 (show ae.length=1 from aa);obtain⟨d,c,t⟩:=m.aG Nat.one_pos;have u:V.sp=⟨Xa ⟨d,0,Xb⟩,1,c⟩:=by
  generalize V.sp=ac at t;obtain⟨an,ap,ao⟩:=ac;simp only[vJ,List.length_singleton]at t;obtain⟨rfl,rfl,rfl⟩:=t;rfl
 have a5:d<D:=b.lo d (.inr (.inr (.inr (.inr (Rr u)))));rw[u]at m;have m:zb Qg w.heap.size w' (O (Xa ⟨d,0,Xb⟩) 1 c) [x]:=m;refine⟨⟨V,d,c,x,rfl,u,m,fun W r l j a7 Y Z=>?_⟩,A⟩;obtain⟨ag,a6⟩:=m.obj rfl;have h:∀{p i n:Nat}{e:TypeId}{v:Xq}{N:List Xq},w'.ownsRow p e i v n N->Qg.ty≠e->W.ownsRow p e i v n N:=fun q z=>zcY q j fun aj a2 I=>by
  subst I;obtain⟨_,_,ah,K⟩:=zbu q a2;rw[a6]at K;cases K;exact z rfl
 have a:∀{P:Type}{E:Elt P}{p:Nat}{v:Xq}{l:List P},zb E p w' v l->Qg.ty≠E.ty->zb E p W v l:=fun q z=>⟨h q.1 z,q.2⟩;obtain⟨y,U,X,ai⟩:=b.fl;obtain⟨a9,am⟩:=b.sq;have H:=a U Dc;refine⟨(a b.fs Dc).at,(a b.sl Dc).at,zm.at ⟨h b.sb.1 Dc,b.sb.2⟩,?_,zm.at ⟨h b.db.1 Dc,b.db.2⟩,zw.at ⟨h b.dq.1 Dc,b.dq.2⟩,⟨H.cap,y,H.at.s0,X,fun F x f L t=>by cases t⟩,(a b.ca Dc).at,⟨[{x with ar:=r}],Rx u a7,rfl,fun F aq s M a8=>?_⟩⟩
 ·show Zs W (V.sq.x) []
  rw[a9];exact⟨⟨Xb,0,rfl,fun _=>rfl,fun x L=>by cases L⟩,Sm,Sm⟩
 cases F with
 |succ F=>cases M
 |zero=>
  cases M;cases a8;obtain⟨Q,_,G,_⟩:=ab 0 x _ _ rfl rfl rfl;rw[C]at G;exact⟨Q,Y,Z,((G Dc).out ⟨j.os,j.tape,j.output,j.size,fun k B ak=>j.block k B (fun e=>Wm)⟩).now⟩
theorem onA(n:Nat)(h:n=3\/n=4):zl [zfW] n=z5 zfW n:=Jn (by show(3:Int)<=_;omega) (by show _<(5:Int);omega)
theorem zoW:¬Q4 nmA (ZP nmA) 0 4 Xc er:=fun h=>by
 rcases zd8 rtA h with⟨_,e|⟨q,s,d,a,b⟩⟩|⟨q,i,s,d,a,b,f,j,g⟩
 ·rcases e with e|e
  ·omega
  have:(1:Int)<=0:=e;omega
 ·have:q=0:=Wm
  subst this;cases a;have:=b zfW (Yb.2 rfl);cases this
 have:q=0:=Wm;subst this;have:i=4:=Wm;subst this;cases f;have c:zl [zfW] 4=z5 zfW 4:=onA 4 (.inr rfl);rcases g with⟨_,e⟩|⟨_,⟨_,e⟩|⟨_,_,e⟩⟩;·have e:(zl [zfW] 4).wr=Xd:=e;rw[c]at e;cases e
 ·have e:(ZZ nmA (zl [zfW] 4) (zh ⟨Xc,[zfW],qU⟩ 4)).2.2=9:=e;rw[c]at e;revert e;decide
 revert e;decide
theorem zrU(h:zp4 nmA (ZP nmA) 0 4 Xc k m'):Rt m'/\m'.fs.length=2/\∃fr,m'.fs[k]?=Xa fr/\fr.r=1:=by
 obtain⟨q,j,w,c,v,u,s,t,a⟩:=ziO rtA h;have:q=0:=Wm;subst this;have:j=4:=Wm;subst this;have i:=a.sp;cases i;have g:z5 zfW 4=z5 c 4:=(onA 4 (.inr rfl)).symm.trans a.on;have b:zfW.sh=c.sh:=congrArg On.sh g;obtain⟨x,fr,y,l,d,m,n,p,f,r⟩:=a.into;refine⟨a.rt,a.fsl,fr,d,?_⟩;rcases(f rfl).2 with⟨_,e⟩|e;·have:=(a.rt.refs d).1;omega
 rw[<-b]at e;cases e
theorem zmR(h:Q4 nmA (ZP nmA) 0 5 Xc er):er=5:=by
 rcases zd8 rtA h with⟨e,_⟩|⟨q,i,s,c,d,f,b,a,g⟩;·exact e
 have:q=0:=Wm;subst this;have:i=5:=Wm;subst this;cases b;have a:(zl [zfW] 5).is=Xc:=a;rw[show(zl [zfW] 5).is=Xd by decide]at a;cases a
theorem zrn(h:zp4 nmA (ZP nmA) 0 5 Xc k m'):False:=by
 obtain⟨q,i,s,d,j,g,e,f,a⟩:=ziO rtA h;have:q=0:=Wm;subst this;have:i=5:=Wm;subst this;have c:=a.sp;cases c;have b:(zl [zfW] 5).is=Xc:=by
  have:=a.on;grind[zl,zfW,z5]
 revert b;decide
theorem zl7(w:Xn):Xp prog 8 #[] w fun e w'=>e=Xl (Xh Xc)/\zc w w':=by
 have G:=zjG w;go_enter func8,ntmps8;go_wp2_with fail;refine G.mono ?_;clear G;rintro e s⟨⟨V,r,aj,a1,rfl,an,ac,Z⟩,ak⟩;have aw:Xo (zc w s):=ak;have ag:Xo (zb Qg w.heap.size s (O (Xa ⟨r,0,Xb⟩) 1 aj) [a1]):=ac;have b2:=show Xo _ from Z;have b3:Xo (V.sp=⟨Xa ⟨r,0,Xb⟩,1,aj⟩):=an;have y:Xo (r<s.heap.size):=(ac.lt r rfl).2;clear ak ac Z an;go_upto_region 2 with fail;obtain⟨bf,a2⟩:=kA s.heap.size;refine nW fun d h=>?_;have a9:=gP h;have ah:=xPT h a2;have ax:=dD (aw.trans a9);have j:Xo (zc s d):=a9;rw[a2.out];clear h a9;have a:=ah.box.c 10 rfl;(try unfold mL at a);(try unfold Sli.x at a);rw[b3.out]at a;have v:Xo (zb arE d.heap.size (d.alloc (Xk #[I6 3,I6 5,Xh Xc,Xh Xc,Xh Xd,I6 (-1),I6 0] 77)) (O (Xa ⟨d.heap.size,0,Xb⟩) 1 1) [zfW]):=show zb _ _ _ _ _ from zb.mk' (E:=arE) (base:=d.heap.size) (g:=d.heap.size) (cap:=1) (l:=[zfW]) (cur:=#[I6 3,I6 5,Xh Xc,Xh Xc,Xh Xd,I6 (-1),I6 0]) (nR _) (zt.aF d [I6 3,I6 5,Xh Xc,Xh Xc,Xh Xd,I6 (-1),I6 0] _ rfl) Dc Dc rfl rfl Dc;go_wp2_with(refine zx (E:=Qg) rfl (.tmp 14) (.tmp 12) 58 rfl w.heap.size _ [a1] (ag.aA (j.trans (za _ _))) r 0 1 rfl a1 {a1 with ar:=⟨Xa ⟨d.heap.size,0,Xb⟩,1,1⟩} rfl [O (Xa ⟨d.heap.size,0,Xb⟩) 1 1] Kr rfl (by show 1+1<=10;omega) (by simp[Value.oneCell']) _ rfl rfl _ rfl rfl ?_)
 clear a;intro f K b _;have D:=v.grown b (fun g bi e=>by
  cases e;have bo:=(v.lt r bi).1;have bp:=y.out;have bq:=bS j.out
  omega)
 have af:Xo (zQ f V nmA):=show zQ f V {nm2 with sp:=[⟨Xc,[zfW],qU⟩]}from b2.out f ⟨Xa ⟨d.heap.size,0,Xb⟩,1,1⟩ [zfW] ((qR.aA (j.trans (za _ _))).trans (qR.grown b rfl)) K.at D.at (nR _);have ai:Xo (zt f bf 41 [V.f.x,I6 0,V.s.x,V.sb.x,V.sq.x,V.db.x,V.dq.x,V.fl.x,I6 2,V.ca.x,V.sp.x]):=dD<|(ah.aA (za _ _)).beside b (fun k Z=>by cases Z;have:=y.out;have:=a2.out;omega);have ay:Xo (zc w f):=dD<|zd (ax.trans (za _ _)) b (ag.lt r rfl).1;clear K b D;have c:Xp prog 11 #[Xi #[V.f.x,I6 0,V.s.x,V.sb.x,V.sq.x,V.db.x,V.dq.x,V.fl.x,I6 2,V.ca.x,V.sp.x],I6 0,I6 4,Xh Xc] f fun e w'=>((∃m:Int,e=Xl (Xm #[Xi qC.toArray,I6 0,I6 m])/\Q4 nmA (ZP nmA) 0 4 Xc m)\/(∃(z:MaV)(k L:Nat)(q:Ma),e=Xl (Xm #[Xi (mL z q).toArray,I6 (k:Int),I6 0])/\zp4 nmA (ZP nmA) 0 4 Xc k q/\ChW f L w' z q))/\zc f w':=zf7 V nmA 0 4 Xc f af rtA;obtain⟨u,M,N,P,Q,R,S,T,U,W,a⟩:=ai.box.aZ;go_wp2_with fail;refine c.mono ?_;clear c u M N P Q R S T U W a;rintro e a5⟨⟨m,_,I⟩|⟨A,k,L,t,rfl,a0,H⟩,X⟩;·exact absurd I zoW
 obtain⟨au,ap,a8,a7,aq⟩:=zrU a0;have b5:Xo (zQ a5 A t):=H.at;have b9:Xo (Rt t):=au;have b4:Xo (t.fs.length=2):=ap;have av:Xo (t.fs[k]?=Xa a8):=a7;have b8:Xo (a8.r=1):=aq;have a3:Xo (k<2):=show k<2 by
  have:=(gS.1 a7).1;omega
 clear a0 H au ap a7 aq;go_upto_region 4 with fail;obtain⟨bn,ae⟩:=kA a5.heap.size;refine nW fun B i=>?_;have C:=gP i;have bc:=xPT i ae;have bb:=dD (ai.aA (X.trans C));have az:=dD (ay.trans (X.trans C));have b6:=dD (af.aA (X.trans C));have b7:=dD (b5.aA C);rw[ae.out];clear i X C;have c:Xp prog 11 #[Xi #[V.f.x,I6 0,V.s.x,V.sb.x,V.sq.x,V.db.x,V.dq.x,V.fl.x,I6 2,V.ca.x,V.sp.x],I6 0,I6 5,Xh Xc] B fun e w'=>((∃m:Int,e=Xl (Xm #[Xi qC.toArray,I6 0,I6 m])/\Q4 nmA (ZP nmA) 0 5 Xc m)\/(∃(z:MaV)(k L:Nat)(q:Ma),e=Xl (Xm #[Xi (mL z q).toArray,I6 (k:Int),I6 0])/\zp4 nmA (ZP nmA) 0 5 Xc k q/\ChW B L w' z q))/\zc B w':=zf7 V nmA 0 5 Xc B b6 rtA;obtain⟨u,M,N,P,Q,R,S,T,U,W,a⟩:=bb.box.aZ;go_wp2_with fail;refine c.mono ?_;clear c u M N P Q R S T U W a;rintro e ba⟨⟨m,rfl,I⟩|⟨bl,br,L,bs,rfl,a0,bh⟩,al⟩
 rotate_left
 ·exact(zrn a0).elim
 have aa:=zmR I;subst aa;clear I;unfold qC;go_upto_region 5 with fail;obtain⟨a6,n⟩:=kB (ba.alloc (Xk zM.toArray 41));have Y:zc B a6:=by rw[<-n];exact al.trans (za _ _)
 have bd:=dD (bc.aA Y);have b0:=dD (az.trans Y);have a4:=dD (b7.aA Y);rw[n];clear n al Y;have bj:(0:Int)<=(k:Int):=Wm;have bk:(k:Int)<2:=Hm a3.out;obtain⟨ab,-⟩:=a4.ns;(try unfold mL at ab);(try unfold Sli.x at ab);rw[b4.out]at ab;obtain⟨be,F,ao⟩:=a4.bB k a8 av.out;obtain⟨_,_,_,_,_,_,_,_,bg,_⟩:=ao a6 (zc.refl _);(try unfold mL at bg);(try unfold Sli.x at bg);rw[b8.out]at bg;have p:=Jh A t a6 a4 b9.w;have x:Xo (A.f.n=2/\A.f.a=Xa be):=dD<|⟨ab,F⟩;clear ab F ao;obtain⟨u,M,N,P,Q,R,S,T,U,W,a⟩:=bd.box.aZ;(try unfold mL at u);(try unfold Sli.x at u);(try unfold mL at p);(try unfold Sli.x at p);rw[x.1,x.2]at u p;go_wp2_with fail;refine p.mono ?_;clear p u M N P Q R S T U W a;rintro e bm⟨rfl,am⟩;have b1:=dD (b0.trans am);clear am;go_wp2;go_ret;exact⟨rfl,b1⟩
theorem zjR.filesIn{nb ht:Nat}(h:zjR w k p nb L w' V m T hd hi ht vt):∀s∈(Ql m T hd).sp,jQ (Ql m T hd).fl.length s.aC:=fun s c=>by
 obtain⟨i,hi⟩:=Yn c;have hi:(List.zipWith (fun s f=>{s with tb:=ZO f}) m.sp T)[i]?=Xa s:=hi;rw[Ym]at hi;cases a:m.sp[i]? with
 |none=>rw[a]at hi;simp at hi
 |some d=>
  cases b:T[i]? with
  |none=>rw[a,b]at hi;simp at hi
  |some f=>
   rw[a,b]at hi;simp only[Option.some.injEq]at hi;rw[<-hi];exact(h.fin d (mG a)).1
theorem zay(V m)(file:Int)(w)(ab:zQ w V m)(T:maW m=0):
  Xp prog 45 #[Xi (mL V m).toArray,I6 file] w fun e w'=>Byt m file w e w'/\zc w w':=by
 have bs:=dD ab;have r:Xo (∀W,zc w W->Xp prog 13 #[Xi (mL V m).toArray] W fun e w'=>e=Xl (I6 (maW m))/\zc W w'):=show∀W,_ from fun W b0=>by rw[T];exact Jh V m W (bs.aA b0) T
 have n:Xo (maW m=0->∀W(a y:Nat)f s,zc w W->m.fl[a]?=Xa f->f.bl[y]?=Xa s->y<=1000->Xp prog 63 #[Xi (mL V m).toArray,I6 (a:Int),I6 (y:Int)] W fun e w'=>e=Xl (Xi (pgc (zT m a y)).toArray)/\(zT m a y).length=8/\zc W w'):=dD<|fun T W a y f s b0 cb aa cf=>zbH V m a y f s W (bs.aA b0) (fun c4 t _=>zp0 T c4 t) cb aa cf;obtain⟨-,-,-,-,-,-,b3,-,-⟩:=ab.ns;obtain⟨_,_,u,_,U⟩:=qq.rows ab.fl;have H:Xo (zaV w V.fl.a m.fl):=dD<|by
  simp only[vJ]at u;rw[u.1];exact U
 obtain⟨⟨c6,c8,c7⟩,⟨cq,cs,cr⟩,⟨b4,b6,b5⟩,⟨bb,be,bd⟩,bf,bg,⟨aw,d,ax⟩,⟨ar,av,au⟩,⟨b7,b9,b8⟩⟩:=V;dsimp only[mL]at r n H b3⊢;have q:=dD b3.symm;obtain⟨E,ak⟩:=kA (maW m);rw[ak.out]at r n;clear ab b3 u U;obtain⟨ap,h⟩:=kB (w.alloc (Xk #[O c6 c8 c7,I6 m.aB,O cq cs cr,O b4 b6 b5,O bb be bd,bf.x,bg.x,O aw d ax,I6 m.cnt,O ar av au,O b7 b9 b8] 41));have B:=gA h;have c:=xA h;have L:=sA h;have an:=dD h;clear h;go_enter func45,ntmps45;go_upto_region 1 with fail;rw[an.out];obtain⟨bh,bi,bj,bl,bm,bn,bo,a3,bp,bq,A⟩:=c.aZ;have t:=r.out ap B.out;go_wp2_with fail;refine t.mono ?_;clear t bh bi bj bl bm bn bo a3 bp bq A;rintro cl a9⟨rfl,bx⟩;have a8:=dD bx;clear bx;have ac:=ak.out▸T;have b2:(E !=0)=Xd:=by simp[ac]
 have p:Xo (maW m=0):=dD<|Rx ak.out ac;have F:Xo (file<0\/(d:Int)<=file->∀W,Byt m file w (Xl (Xm #[eS,I6 5])) W):=dD<|fun S W=>by
  have aa:zcp m file=5:=by unfold zcp;rw[kF (fun S=>S p),kE (Rx q.out S)]
  refine⟨_,by rw[aa],?_⟩;unfold ZD;rw[kF (by rw[aa];decide)];exact zb.nil _ _ _
 have aj:=show Xo _ from n.out ac;clear ac;have a3:=(c.aA a8).c 7 rfl;by_cases C:file<0
 ·have M:decide (file<0)=Xc:=decide_eq_true C;have K:Xo (Byt m file w (Xl (Xm #[eS,I6 5])) a9):=F.out (.inl C) a9;clear C;go_wp2;go_ret2;exact⟨K,B.trans a8⟩
 have M:decide (file<0)=Xd:=decide_eq_false C;by_cases N:(d:Int)<=file
 ·have P:decide ((d:Int)<=file)=Xc:=decide_eq_true N;have K:Xo (Byt m file w (Xl (Xm #[eS,I6 5])) a9):=F.out (.inr N) a9;clear C N;go_wp2;go_ret2;exact⟨K,B.trans a8⟩
 have P:decide ((d:Int)<=file)=Xd:=decide_eq_false N;go_upto_region 6 with fail;clear M P a3 b2;obtain⟨a,rfl⟩:∃a:Nat,file=(a:Int):=⟨file.toNat,Wm⟩;obtain⟨f,a6⟩:∃f,Xo (m.fl[a]?=Xa f):=⟨_,gE (by rw[q.out];omega)⟩;obtain⟨⟨cm,cn⟩,ad⟩:=zqQ p a6.out;obtain⟨z,a7⟩:∃z:Nat,Xo (f.size=(z:Int)):=⟨f.size.toNat,show _=_ by omega⟩;have bz:z<=96:=Hm a7.out;have ah:Xo (∀k,k<z->k/8<f.bl.length):=dD<|fun k cg=>by
  have az:=a7.out;rw[az]at ad;unfold zam at ad;split at ad<;>omega
 have G:Xo (zcp m (a:Int)=0):=dD<|by unfold zcp;rw[kF (fun S=>S p),kF (by rw[q.out];omega)]
 have ai:Xo (ZD m (a:Int)=(Yg z).map (byD m a)):=dD<|by
  unfold ZD;rw[kE G.out];unfold zky;rw[show(Q6 m (a:Int)).toNat=z from by unfold Q6;rw[tN,gD,a6.out];show f.size.toNat=z;rw[a7.out];rfl];rfl
 obtain⟨aq,rfl,c2,c3,_,Y⟩:=H.out a f a6.out;have al:Xo (∀W,zc w W->zol W (aq.add (a*2)) (z:Int) (O c2 f.bl.length c3)):=dD<|Ry a7.out Y;have cc:(a:Int)<(d:Int):=Wm;clear C N cm cn ad Y;go_wp2;go_loopg[7,8] 96 (fun ca co cp wr=>∃(k:Nat)(ae:Option Addr)(af:Nat),k<=z/\z-k<=ca/\cp=I6 k/\co=O ae k af/\Xo (zc ap wr)/\Xo (zb byE (w.heap.size+1) wr (O ae k af) ((Yg k).map (byD m a))))
 exact⟨0,Xb,0,nZ _,Wm,rfl,rfl,a8,zb.nil _ _ _⟩;obtain⟨k,ae,af,cg,ce,rfl,rfl,b,bu⟩:=hrel;have a3:=(c.aA b).c 7 rfl;obtain⟨c5,-⟩:=al.out wr (B.trans b);by_cases x:k<z
 ·have Z:=kC x
  obtain⟨D,g⟩:=kA (k/8);obtain⟨a0,i⟩:=kA (k%8);have X:a0<8:=Hm i.out;have ch:(k:Int).tdiv 8=(D:Int):=by rw[Int.tdiv_eq_ediv_of_nonneg Wm];have:=g.out;omega
  have ci:(k:Int)/8=(D:Int):=Hm g.out;have cj:(k:Int).tmod 8=(a0:Int):=by rw[Int.tmod_eq_emod_of_nonneg Wm];have:=i.out;omega
  have ck:(k:Int)%8=(a0:Int):=Hm i.out;obtain⟨s,ag⟩:∃s,Xo (f.bl[D]?=Xa s):=⟨_,gE (by rw[<-g.out];exact ah k x)⟩;have t:=aj.out wr a D f s (B.trans b) a6 ag (Hm g.out);obtain⟨bh,bi,bj,bl,bm,bn,bo,_,bp,bq,A⟩:=(c.aA b).k11;go_wp2_with fail;refine t.mono ?_;clear t bh bi bj bl bm bn bo a3 bp bq A c5;rintro cl bv⟨rfl,v,ay⟩;have bt:=dD (b.trans ay);have ao:=dD (bu.aA ay);obtain⟨Q,br⟩:=kA (byD m a k);have b1:(pgc (zT m (a:Int) (D:Int)))[a0]?=Xa (U8 Q):=by
   rw[<-br.out];unfold byD;rw[g.out,i.out];exact zfu (by rw[gD,gE (Rx v X)];rfl)
  generalize zT m (a:Int) (D:Int)=c0 at b1 v⊢;have j:Xo ((Yg (k+1)).map (byD m a)=(Yg k).map (byD m a)++[Q]):=dD (by rw[List.range_succ,List.map_append,List.map_singleton,br.out]);have l:Xo (((Yg k).map (byD m a)).length=k):=dD<|Sm;generalize(Yg k).map (byD m a)=acc at ao j l;clear ay v;have am:Xo (w.heap.size+1<=bv.heap.size):=dD (by rw[<-L.out];exact bS bt.out);go_wp2_with(first|refine zp8 rfl (.tmp 40) (.tmp 42) rfl (pgc c0) rfl a0 rfl X b1 ?_|(at_builtin;refine zr (E:=byE) rfl (.tmp 35) (.tmp 44) rfl (w.heap.size+1) _ acc rfl (ao.aA (za _ _)) _ [Q] rfl (q8 byE bv Q _ _ rfl Dc) ?qb ?qc ?_))
  case qb=>
   show(acc.length+1)*1<=_;have:=l.out;omega
  case qc=>exact nT am (bS (za _ _))
  intro ct bw own R;obtain⟨a4,a5,I⟩:=own.form;rw[show(acc++[Q]).length=k+1 from by rw[lA,l.out];rfl]at I;subst I;have On:Xo (zb byE (w.heap.size+1) bw (O a4 (k+1) a5) ((Yg (k+1)).map (byD m a))):=dD<|Rx j.out own
  have c1:Xo (zc ap bw):=dD<|zV (bt.trans (za _ _)) R (fun c9 cd=>by
   have az:=(ao.lt c9 cd).1;rw[L.out];exact az)
  clear own R b1;go_wp2;go_roundg (z-(k+1));exact⟨k+1,a4,a5,Wm,Wm,Gn,rfl,c1,On⟩;omega
 have Z:=kD x;obtain rfl:z=k:=Wm;have K:Xo (Byt m (a:Int) w (Xl (Xm #[O ae z af,I6 0])) wr):=⟨_,by rw[G.out],by rw[ai.out];exact bu.base (Nat.le_succ _)⟩;go_wp2;go_ret2;exact⟨K,B.trans b⟩
theorem zbr(V)(m:Ma)(p n:Int)(w)(D:zQ w V m)(d:maW m=0)(a:∀s∈m.sp,jQ m.fl.length s.aC):
  Xp prog 10 #[Xi (mL V m).toArray,I6 p,I6 n] w fun e w'=>e=Xl (zbp (jR m p n))/\(jR m p n).1.length=8/\zc w w':=by
 have g:=dD D;have c:Xo (∀W,zc w W->Xp prog 13 #[Xi (mL V m).toArray] W fun e w'=>e=Xl (I6 (maW m))/\zc W w'):=show∀W,_ from fun W f=>by rw[d];exact Jh V m W (g.aA f) d
 have b:Xo (maW m=0->∀W,zc w W->Xp prog 29 #[Xi (mL V m).toArray,I6 p,I6 n] W fun e w'=>e=Xl (zbp (jW m p n))/\(jW m p n).1.length=8/\zc W w'):=dD<|fun d W f=>zdW V m p n W (g.aA f) d a;obtain⟨⟨F,H,G⟩,⟨K,M,L⟩,⟨q,t,r⟩,⟨y,A,z⟩,B,C,⟨j,l,k⟩,⟨f,i,h⟩,⟨u,x,v⟩⟩:=V;dsimp only[mL]at c b⊢;obtain⟨E,g⟩:=kA (maW m);rw[g.out]at c b;clear D a;obtain⟨D,a⟩:=kB ((w.alloc (Xk #[O F H G,I6 m.aB,O K M L,O q t r,O y A z,B.x,C.x,O j l k,I6 m.cnt,O f i h,O u x v] 41)).alloc (Xk #[U8 0,U8 0,U8 0,U8 0,U8 0,U8 0,U8 0,U8 0] 44));have x:=gD2 a;have z:=x2a a;have B:Xo (Box D (w.heap.size+1) (pgc zu)):=dD<|by rw[<-a];exact Box.aF _ (pgc zu) _ Sm
 have f:=dD a;clear a;go_enter func10,ntmps10;go_upto_region 1 with fail;rw[f.out];obtain⟨h,i,j,k,l,q,r,t,u,v,a⟩:=z.aZ;have f:=c.out D x.out;go_wp2_with fail;refine f.mono ?_;clear f h i j k l q r t u v a;rintro C A⟨rfl,c⟩;have y:=dD (x.trans c);have x:=dD (z.aA c);have z:=dD (B.aA c);clear c;have c:=g.out▸d;have d:(E !=0)=Xd:=by simp[c]
 have d:Xo (jR m p n=jW m p n):=dD<|by unfold jR;rw[g.out,kF (fun g=>g c)]
 obtain⟨h,i,j,k,l,q,r,t,u,v,a⟩:=x.aZ;have f:=b.out c A y.out;clear c;go_wp2_with fail;refine f.mono ?_;clear f h i j k l q r t u v a;rintro C a⟨rfl,a,c⟩;have t:=dD (y.trans c);have u:=dD (z.aA c);obtain⟨⟨y,v,x⟩,b⟩:∃f,Xo (jW m p n=f):=⟨_,rfl⟩;rw[b.out]at a⊢;obtain⟨g,h,i,j,k,l,q,r,f⟩:=zcE y a;subst f;have f:Xo (jR m p n=([g,h,i,j,k,l,q,r],v,x)):=show _=_ by rw[d.out,b.out]
 clear a c;simp only[zbp,pgc,mP,Xt];go_wp2_with(refine zn rfl 44 (.tmp 6) (.tmp 20) rfl (w.heap.size+1) rfl (pgc [g,h,i,j,k,l,q,r]) rfl u rfl zsE (qE _) ?_)
 intro d b c _;have a:Xo (zc w d):=dD<|zd t c Wm;go_wp2;refine bodyPost_ret (zJ rfl _ rfl b underlying44 rfl zsE) rfl ⟨Rr f.out,Rr f.out,a⟩
theorem zq6(E:Elt α)(h:Box w b D)(l:List α)(a:D=l.flatMap E.enc)(c:l.length*E.bytes<=140737488355328):zq E w (O (Xa ⟨b,0,Xb⟩) l.length l.length) l:=by refine⟨⟨_,l.length,rfl,fun h=>(by cases h),fun y e=>?_⟩,c⟩;cases e;intro j u d;rw[Xz,zA];exact h.c j (Rx a d)
end
end Go.Proofs.YtkfjajbalegoeaaGreat
