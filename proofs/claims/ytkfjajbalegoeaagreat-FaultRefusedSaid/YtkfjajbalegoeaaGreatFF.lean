/- FaultRefused,proved:who may not use a page may not,whatever the numbers and bytes. No condition. -/
import Derived.Test.YtkfjajbalegoeaaGreatFF4
import Derived.Deep.CutRange
import Derived.Laws.BytesArg
import Derived.Test.YtkfjajbalegoeaaGreatRows
import Derived.ProofKit
import Derived.OpenShut
import Derived.ShutString
import Derived.ChangeOld
import Derived.Carry
import Derived.SizedLaws
import Derived.Test.YtkfjajbalegoeaaGreatChecked
namespace Go.Proofs.YtkfjajbalegoeaaGreat
open Go.Value renaming slice→O,int→Xe,bool→Xh,agg→Xi,pointer→Xj,tuple→Xm
open Go.IntKind renaming i64→Xf,u8→Xg
open Go.Obj renaming cells→Xk
open Go.Ending renaming returned→Xl
open Go renaming World→Xn,Calls→Xp,Value→Xq
open Go.RowKit renaming Hid→Xo
open Option renaming some→Xa,none→Xb
open Bool renaming true→Xc,false→Xd
open List renaming replicate→Xr
open _root_.List renaming eq_of_mem_replicate→Xs,map_nil→Xt,take→Xw,drop→Xx,mem_append→Xy,map_toArray→Xz,mem_singleton→Yb,length_eq_one_iff→Yc,take_of_length_le→Yd,getElem?_append_left→Yf,length_set→Yg,contains_eq_mem→Yh,getElem?_of_mem→Yi,all_eq_true→Yk,getElem?_replicate→Yl,getElem?_zipWith→Ym,getElem?_range→Yn,getElem?_map→Yt
open Go.Sem renaming run_bind→Xu,run_pure→Xv
open Go.Addr renaming add_lit→Ya
open _root_.Array renaming getD_eq_getD_getElem?→Ye
open _root_.Nat renaming lt_of_lt_of_le→Yj,lt_irrefl→Yo,lt_or_ge→Yq,sub_self→Ys
open Go.Region renaming ready→Yp
open _root_.Bool renaming not_eq_true'→Yr
open Go.Act renaming put→Yu
set_option maxRecDepth 100000
set_option maxHeartbeats 4000000
variable{α:Type}{a:Act}{R:Ar}{Y:Array Xq}{E:Elt α}{H z:Int}{g:List (Int × List Int)}{G:List (List En)}{C:List En}{K:List Oper}{D:List Xq}{y:List α}{b k p:Nat}{w:Xn}{A:Xq}{M:Xq->Xn->Prop}
variable{B0 B1 b hi id j kk:Nat} {L:List Int} {Q:Exit->Act->Xn->Prop} {T:List (Nat->En)} {V:MaV} {W w' w0:Xn} {er hd:Int} {l:List Ar} {m m':Ma} {o:Oper} {ops:Array Oper} {t:TypeId} {us vs:List Xq} {vl vt:Sli}
open Go.Proofs.Tryz
section
open Go.RowKit
theorem zow (V:MaV) (m:Ma) (p n:Int) (w:Xn) (a4:zP w V m) (am:maW m=0):
  Xp prog 31 #[Xi (mL V m).toArray,I6 p,I6 n] w fun e w'=>e= Xl (zcw (Ql m p n))/\(Ql m p n).1.length=8/\zc w w':=by
 have bt:Xo (zP w V m):=a4;have bw:Xo (∀x e,(ZP m x e).1.length=8):=show∀x,_ from fun x e=>zql a4.sb.2.1 a4.sq.2.1 a4.db.2.1 a4.dq.2.1 x e;have ae:Xo (∀W,zc w W->Xp prog 64 #[Xi (mL V m).toArray] W fun e w'=>e= Xl (I6 (maW m))/\zc W w'):=dD<|fun W U=>by rw[am];exact zg9 V m W (bt.aA U) am
 have az:Xo (∀W,zc w W->Xp prog 67 #[Xi (mL V m).toArray] W fun e w'=>∃B,e= Xl (Xi #[V.f.x,I6 m.aB,V.s.x,V.sb.x,V.sq.x,V.db.x,V.dq.x,V.fl.x,I6 m.cnt,V.ca.x,V.sp.x,.map (Xa B)])/\QA plK w' B (QE m.ca)/\zc W w'):=dD<|fun W U=>zbQ V m W (bt.aA U);have ac:Xo (maW m=0->∀W B (a:Ar) (n:Nat) (e:En),zc w W->jU a->(a.fr<=(n:Int)/\(n:Int)<a.tz)->(e.kind=1->0<=e.n/\e.n< (m.fs.length:Int))->(e.kind=2->0<=e.n/\e.n< (m.sb.length:Int))->QA plK W B (QE m.ca)->Xp prog 68 #[Xi #[V.f.x,I6 m.aB,V.s.x,V.sb.x,V.sq.x,V.db.x,V.dq.x,V.fl.x,I6 m.cnt,V.ca.x,V.sp.x,.map (Xa B)],Xi #[I6 a.fr,I6 a.tz,Xh a.rd,Xh a.wr,Xh a.sh,I6 a.file,I6 a.base],I6 (n:Int),Xi #[I6 e.kind,I6 e.n,Xh e.wr]] W fun a6 w'=>a6= Xl (zcw (ZP m (z5 a n) e))/\(ZP m (z5 a n) e).1.length=8/\zc W w'):=dD<|fun am W B a n e U ee cg af a2 M=>zgA V m B a n e W (bt.aA U) am ee cg af a2 M;obtain⟨-,-,-,-,-,-,-,-,df⟩:=a4.ns;obtain⟨bp,bf,N,bb⟩:=a4.aT;obtain⟨ap,aq,z,A,t,u,v,r,⟨g,d,q⟩⟩:=V;dsimp only[mL]at df N ae az ac⊢;have aa:Xo (m.sp.length=d):=df.symm;have c2:Xo (bp.length=d):=show _=_ by rw[bf];exact aa.out
 have bu:Xo (∀(bo:Nat) x,bp[bo]? =Xa x->∃al,g=Xa al/\∀W,zc w W->zgY W (al.add (bo*10)) x):=dD<|N;have bx:Xo (∀(du:Nat) x s,bp[du]? =Xa x->m.sp[du]? =Xa s->jN w x s):=dD<|bb;obtain⟨dj,bj⟩:=kA (maW m);rw[bj.out]at ae ac;clear a4 df bf N bb;obtain⟨c4,F⟩:=kB ((w.alloc (Xk #[ap.x,I6 m.aB,aq.x,z.x,A.x,t.x,u.x,v.x,I6 m.cnt,r.x,O g d q] 41)).alloc (Xk #[U8 0,U8 0,U8 0,U8 0,U8 0,U8 0,U8 0,U8 0] 44));have dk:=gD2 F;have dn:=x2a F;have e0:Xo (Box c4 (w.heap.size+1) (pgc zq)):=dD<|by rw[<-F];exact Box.aE _ (pgc zq) _ Sm
 have c1:Xo (_=c4):=F;clear F;go_enter func31,ntmps31;go_upto_region 1 with fail;rw[c1.out];obtain⟨et,eu,ev,ew,ex,ey,ez,f0,f1,f2,Z⟩:=dn.bN;have b8:=ae.out c4 dk.out;go_wp2_with fail;refine b8.mono ?_;clear b8 et eu ev ew ex ey ez f0 f1 f2 Z;rintro a6 bk ⟨rfl,bl⟩;have bq:=dD (dk.trans bl);have dp:=dD (dn.aA bl);have dq:=dD (e0.aA bl);clear bl;have a5:dj=0:=Ry bj.out am;clear am;have de:(dj != 0)=Xd:=by simp[a5]
 have a9:Xo (maW m=0):=dD<|Rx bj.out a5;have ab:Xo (Ql m p n=Qd m p n):=dD<|by unfold Ql;rw[bj.out,kF (fun c7=>c7 a5)]
 have c0:=show Xo _ from ac.out a5;clear a5;have Z:=dp.c 10 rfl;have a3:=zba p (d:Int) bk;go_wp2_with fail;refine a3.mono ?_;rintro a6 w' ⟨rfl,bd⟩;rw[bd];clear bd w' a3 de;cases b6:bel p (d:Int)with
 | false=>
  have a0:Xo (Ql m p n=(zq,Xd,5)):=dD<|by
   rw[ab.out];refine zj5 ?_;have af:¬(0<=p/\p< (d:Int)):=fun c7=>(by rw[Jd.2 c7]at b6;cases b6);rw[aa.out];omega
  clear b6;go_wp2_with (refine zp rfl 44 (.tmp 6) (.tmp 24) rfl (w.heap.size+1) rfl (pgc zq) rfl dq rfl zsB (qJ _) ?_)
  intro b2 G H _;have D:Xo (zc w b2):=dD<|zd bq H Wm;go_wp2;refine bodyPost_ret (zL rfl _ rfl G underlying44 rfl zsB) rfl ⟨Rr a0.out,Rr a0.out,D⟩
 | true=>
 obtain⟨e3,f5⟩:=Jd.1 b6;obtain⟨Y,rfl⟩:∃Y:Nat,p=(Y:Int):=⟨p.toNat,Wm⟩;obtain⟨x,an⟩:∃x,bp[Y]? =Xa x:=⟨_,gE (by rw[c2.out];omega)⟩;obtain⟨s,ak⟩:∃s,Xo (m.sp[Y]? =Xa s):=⟨_,gE (by rw[aa.out];omega)⟩;have P:Xo (jN w x s):=bx.out Y x s an ak.out;obtain⟨al,bv,dt⟩:∃al,Xo (g=Xa al)/\∀W,zc w W->zgY W (al.add (Y*10)) x:=bu.out Y x an;obtain⟨e4,e5,e6,e7,e8,e9,ea,eb,ec,ed⟩:=dt bk bq.out;rw[bv.out]at Z;clear dt an b6 e3;go_upto_region 7 with fail;clear e4 e5 e6 e7 e8 e9 ea eb ec ed Z;obtain⟨ep,aw⟩:=kA bk.heap.size;refine nW fun dy X=>?_;have bm:=gP X;have dm:=xP X aw;have dl:=dD (bq.trans bm);have dz:=dD (dp.aA bm);have e1:=dD (dq.aA bm);rw[aw.out];clear X bm;have es:=dm.c 1 rfl;have b8:=zgN (x.ar.x) s.aC n dy (P.ar.aA dl);go_wp2_with fail;refine b8.mono ?_;clear b8 es;rintro a6 c5 ⟨⟨di,rfl,a5⟩,b3⟩;have av:Xo (zcu s.aC n di):=a5;have C:=dD (dl.trans b3);have E:=dD (dz.aA b3);have dr:=dD (e1.aA b3);have T:=dD (dm.aA b3);clear b3 a5;by_cases bg:di<0
 ·have a0:Xo (Ql m (Y:Int) n=(zq,Xd,5)):=dD<|by rw[ab.out];exact zmp ak av bg
  go_wp2_with (refine zp rfl 44 (.tmp 6) (.tmp 36) rfl (w.heap.size+1) rfl (pgc zq) rfl dr rfl zsB (qJ _) ?_)
  intro b2 G H _;have D:Xo (zc w b2):=dD<|zd C H Wm;go_wp2;refine bodyPost_ret (zL rfl _ rfl G underlying44 rfl zsB) rfl ⟨Rr a0.out,Rr a0.out,D⟩
 obtain⟨k,a,rfl,S,R⟩:∃(k:Nat) (a:Ar),di=(k:Int)/\Xo (s.aC[k]? =Xa a)/\Xo (inZ a n=Xc):=by
  rcases av with⟨k,a,bh,dg,dh⟩|⟨bh,_⟩;·exact⟨k,a,bh,dg,dh⟩
  omega
 have ar:Xo (QQ Xb s.aC):=(jJ.1 ((zhz (Q0 a9)).ar s (mG ak)).1).2;have a8:Xo (jU a):=zgR ar S.out;obtain⟨i,rfl⟩:∃i:Nat,n=(i:Int):=⟨n.toNat,by have af:=zcL.1 R.out;have a2:=a8.out;unfold jU at a2;omega⟩;have j:i<64:=by have af:=zcL.1 R.out;have a2:=a8.out;unfold jU at a2;omega
 obtain⟨e,Q⟩:=kA (zf s i);have ay:Xo (Ql m (Y:Int) (i:Int)=ZP m (z5 a i) e):=dD<|by rw[ab.out,zf7 ak j,zb2 ar S (Ry zgG R),Q.out]
 have au:Xo (∀W B,zc w W->QA plK W B (QE m.ca)->Xp prog 68 #[Xi #[ap.x,I6 m.aB,aq.x,z.x,A.x,t.x,u.x,v.x,I6 m.cnt,r.x,O g d q,.map (Xa B)],Xi #[I6 a.fr,I6 a.tz,Xh a.rd,Xh a.wr,Xh a.sh,I6 a.file,I6 a.base],I6 (i:Int),Xi #[I6 e.kind,I6 e.n,Xh e.wr]] W fun a6 w'=>a6= Xl (zcw (ZP m (z5 a i) e))/\(ZP m (z5 a i) e).1.length=8/\zc W w'):=dD<|fun W B U M=>c0.out W B a i e U a8 (zcL.1 R) (by rw[<-Q.out];exact(zpY a9 ak j).1) (by rw[<-Q.out];exact(zpY a9 ak j).2) M;have br:Xo (∀W,zc w W->Xp prog 69 #[Xi #[x.t0.x,x.t1.x,x.t2.x,x.t3.x,x.t4.x,x.t5.x,x.t6.x,x.t7.x],I6 (i:Int)] W fun a6 w'=>a6= Xl (Xi #[I6 e.kind,I6 e.n,Xh e.wr])/\zc W w'):=dD<|fun W U=>by
  have:=JL x.tab s.tb (i:Int) W (P.aA U).tb;rw[zgJ j,Q.out]at this;exact this
 have ef:k<x.ar.n:=by rw[P.ar.n];exact(gS.1 S).1
 have eg:(k:Int)< (x.ar.n:Int):=Wm;obtain⟨b,bz,h⟩:∃b,Xo (x.ar.a=Xa b)/\Xo (∀W,zc w W->zj2 W (b.add (k*7)) a):=by
  obtain⟨_,_,bh,dg⟩:=P.ar.aC;simp only[vJ]at bh;obtain⟨b,dh,eq⟩:=dg k a S.out;exact⟨b,Rx bh.1 dh,eq⟩
 obtain⟨c3,ax⟩:=kA (ZP m (z5 a i) e);have bs:Xo (c3.1.length=8):=dD<|by rw[<-ax.out];exact bw _ _
 rw[ax.out]at ay au;clear bg;go_upto_region 10 with fail;obtain⟨l,c⟩:=Ww fun ao=>zc c5 ao;have ag:l c5.drew:=(c _).2 (gW _);have cu:=E.h c 0 rfl;have cv:=E.h c 1 rfl;have cw:=E.h c 2 rfl;have cx:=E.h c 3 rfl;have cy:=E.h c 4 rfl;have cz:=E.h c 5 rfl;have da:=E.h c 6 rfl;have db:=E.h c 7 rfl;have dc:=E.h c 8 rfl;have dd:=E.h c 9 rfl;have be:=E.h c 10 rfl;have cm:=T.h c 2 rfl;have cn:=T.h c 3 rfl;have co:=T.h c 4 rfl;have cp:=T.h c 5 rfl;have cq:=T.h c 6 rfl;have cr:=T.h c 7 rfl;have cs:=T.h c 8 rfl;have ct:=T.h c 9 rfl;have cl:∀y:zg l,y.world.cell? ⟨ep,1,Xb⟩=Xa (O (Xa b) x.ar.n x.ar.c):=fun y=>by rw[<-bz.out];exact(T.aA ((c _).1 y.holds)).c 1 rfl
 have c8:=fun y:zg l=>(h _ (C.trans ((c _).1 y.holds))).1;have c9:=fun y:zg l=>(h _ (C.trans ((c _).1 y.holds))).2.1;have ca:=fun y:zg l=>(h _ (C.trans ((c _).1 y.holds))).2.2.1;have cb:=fun y:zg l=>(h _ (C.trans ((c _).1 y.holds))).2.2.2.1;have cc:=fun y:zg l=>(h _ (C.trans ((c _).1 y.holds))).2.2.2.2.1;have cd:=fun y:zg l=>(h _ (C.trans ((c _).1 y.holds))).2.2.2.2.2.1;have ce:=fun y:zg l=>(h _ (C.trans ((c _).1 y.holds))).2.2.2.2.2.2;have ci:Nonempty (zg l):=⟨⟨_,ag⟩⟩;refine qZ (I:=l) 16 [(1,⟨fun a7=>∃B,a7= Xi #[ap.x,I6 m.aB,aq.x,z.x,A.x,t.x,u.x,v.x,I6 m.cnt,r.x,O g d q,.map (Xa B)],fun a7 ao=>∃B,a7= Xi #[ap.x,I6 m.aB,aq.x,z.x,A.x,t.x,u.x,v.x,I6 m.cnt,r.x,O g d q,.map (Xa B)]/\QA plK ao B (QE m.ca),fun p aj=>zc p aj,fun _=>True⟩),(11,⟨fun a7=>a7= Xi #[I6 e.kind,I6 e.n,Xh e.wr],fun _ _=>True,fun p aj=>zc p aj,fun _=>True⟩),(12,⟨fun a7=>a7=zcw c3,fun _ _=>True,fun p aj=>zc p aj,fun _=>True⟩)] ag z3 Kr rfl rfl Dc (Sc ⟨_,0,rfl⟩ ⟨_,rfl⟩ ⟨_,rfl⟩) ?hp ?hpre ?hpr0 ?_;case hp=>
  intro k s bo dv ba bn b9 ds a7 p aj ai cj;have L:=zC ba;have K:=zC bn;clear ba bn;simp only[mC,pJ,nM,or_false]at L K;rcases L with⟨rfl,rfl⟩|⟨rfl,rfl⟩|⟨rfl,rfl⟩
  ·obtain⟨B,af,a2⟩:=cj
   rcases K with⟨rfl,rfl⟩|⟨rfl,rfl⟩|⟨rfl,rfl⟩;·exact absurd rfl b9
   ·exact⟨B,af,a2.aA ai⟩
   exact⟨B,af,a2.aA ai⟩
  ·trivial
  trivial
 case hpre=>
  intro bo dv k s bn ba b9 p aj ai ah;have K:=zC bn;simp only[mC,pJ,nM,or_false]at K;rcases K with⟨rfl,rfl⟩|⟨rfl,rfl⟩|⟨rfl,rfl⟩ <;> trivial
 case hpr0=>
  intro k dv ba;have L:=zC ba;simp only[mC,pJ,nM,or_false]at L;rcases L with⟨rfl,rfl⟩|⟨rfl,rfl⟩|⟨rfl,rfl⟩ <;> trivial
 simp only[Xw,Xx];refine zs ?_;refine zR rfl rfl (fun w' f ah b4=>?_) (fun dw bc=>?_);·refine zN.call [Xi #[ap.x,I6 m.aB,aq.x,z.x,A.x,t.x,u.x,v.x,I6 m.cnt,r.x,O g d q]] rfl func67 rfl rfl rfl ?_;refine(az w' (C.trans ((c _).1 f))).mono ?_;rintro e bi ⟨B,rfl,M,a1⟩;exact⟨_,rfl,(c _).2 (((c _).1 f).trans a1),a1,⟨B,rfl⟩,B,rfl,M⟩
 obtain⟨B,rfl⟩:=bc;refine Uq ?_;iterate 9 refine zs ?_
 refine zR rfl rfl (fun w' f ah b4=>?_) (fun dw bc=>?_);·refine zN.call [Xi #[x.t0.x,x.t1.x,x.t2.x,x.t3.x,x.t4.x,x.t5.x,x.t6.x,x.t7.x],I6 (i:Int)] rfl func69 rfl rfl rfl ?_;refine(br w' (C.trans ((c _).1 f))).mono ?_;rintro e bi ⟨rfl,a1⟩;exact⟨_,rfl,(c _).2 (((c _).1 f).trans a1),a1,rfl,trivial⟩
 subst bc;refine Uq ?_;refine zR rfl rfl (fun w' f ah b4=>?_) (fun dw bc=>?_)
 ·obtain⟨f3,b7,cf⟩:=b4 1 Kr
  simp only[Value.agg.injEq,Array.mk.injEq,List.cons.injEq,Value.map.injEq,Option.some.injEq,and_true,true_and]at b7;subst b7;refine zN.call [Xi #[ap.x,I6 m.aB,aq.x,z.x,A.x,t.x,u.x,v.x,I6 m.cnt,r.x,O g d q,.map (Xa B)],Xi #[I6 a.fr,I6 a.tz,Xh a.rd,Xh a.wr,Xh a.sh,I6 a.file,I6 a.base],I6 (i:Int),Xi #[I6 e.kind,I6 e.n,Xh e.wr]] rfl func68 rfl rfl rfl ?_;refine(au w' B (C.trans ((c _).1 f)) cf).mono ?_;rintro e bi ⟨rfl,f6,a1⟩;exact⟨_,rfl,(c _).2 (((c _).1 f).trans a1),a1,rfl,trivial⟩
 obtain⟨er,f7,f8⟩:=c3;have ch:=bs.out;obtain⟨eh,ei,ej,ek,el,em,en,eo,ck⟩:=zc4 er ch;subst ck;subst bc;simp only[zcw,pgc,mP,Xt];refine Uq ?_;iterate 3 refine zs ?_
 refine ZD fun f4 b5 b4=>?_;have c6:=(c _).1 b5;have dx:=dD (C.trans c6);have e2:=dD (dr.aA c6);have a0:=ay;clear b4 b5 ag ci c6 cu cv cw cx cy cz da db dc dd be cl cm cn co cp cq cr cs ct c8 c9 ca cb cc cd ce;refine zp rfl 44 (.tmp 6) (.tmp 50) rfl (w.heap.size+1) rfl (pgc [eh,ei,ej,ek,el,em,en,eo]) rfl e2 rfl zsB (qJ _) ?_;intro b2 G H _;have D:Xo (zc w b2):=show zc _ _ from zd dx H Wm;go_wp2;refine bodyPost_ret (zL rfl _ rfl G underlying44 rfl zsB) rfl ⟨Rr a0.out,Rr a0.out,D⟩
def zrZ (k q n:Nat) (mB:Ma):Prop:=∃(s:Sp) (fr:Fr) (we:Bool),Rt mB/\mB.sp[q]? =Xa s/\mB.fs[k]? =Xa fr/\zf s n=⟨1,(k:Int),we⟩
def Qz (m:Ma) (BF:Nat->Nat->Ar->Pg->Bool->Bool × Nat × Ma) (p n:Int) (wr:Bool) (er:Int):Prop:=
 er≠0/\(Z6 m p n wr ar0 er\/(∃a,Z6 m p n wr a 0/\(Ql m p n).2.2=er)\/(er=10/\∃(q i:Nat) (a:Ar) (pg:Pg) (ic:Bool),p=(q:Int)/\n=(i:Int)/\Z6 m p n wr a 0/\Ql m p n=(pgL pg,ic,0)/\(jG m (BF q i a pg wr) pg a ic wr q i).1=Xd))
def zpQ (m:Ma) (BF:Nat->Nat->Ar->Pg->Bool->Bool × Nat × Ma) (p n:Int) (wr:Bool) (k:Nat) (m':Ma):Prop:=
 ∃(q i:Nat) (a:Ar) (pg:Pg) (ic:Bool) (fr:Fr),p=(q:Int)/\n=(i:Int)/\Z6 m p n wr a 0/\Ql m p n=(pgL pg,ic,0)/\(jG m (BF q i a pg wr) pg a ic wr q i).1=Xc/\k=(jG m (BF q i a pg wr) pg a ic wr q i).2.1/\(jG m (BF q i a pg wr) pg a ic wr q i).2.2.fs[k]? =Xa fr/\m'=Jv (jG m (BF q i a pg wr) pg a ic wr q i).2.2 q i k fr wr a.sh
theorem zrq {l:List Int} (h:l.length=8):∃pg:Pg,l=pgL pg:=by obtain⟨a,b,c,d,f,g,i,j,e⟩:=zc4 l h;exact⟨⟨a,b,c,d,f,g,i,j⟩,e⟩
theorem zi0 {wr:Bool} (h:Z6 m z H wr R er) (b:er≠0):R=ar0:=by
 rcases h with⟨_,e,_⟩|⟨_,_,_,_,_,_,_,_,_,_,_,_,_,⟨_,e,_⟩|⟨e,_⟩⟩;·exact e
 ·exact e
 grind
theorem zht (b:o.op= .alloc 97):(execOp a.eval o).run prog w= .ok (.value (Xj (Xa ⟨w.heap.size,0,Xb⟩))) (w.alloc (Xk #[Xj Xb,I6 0,I6 0,I6 0,I6 0,Xh Xd,Xh Xd,Xh Xd,I6 0,I6 0,U8 0,U8 0,U8 0,U8 0,U8 0,U8 0,U8 0,U8 0,Xh Xd,Xh Xd] 97)):=by simp only[execOp,b];go_simp
theorem zp9 (V:MaV) (m:Ma) (p n:Int) (wr:Bool) (w:Xn) (fe:zP w V m) (cf:Rt m) (G:Nat->Nat->Ar->Pg->Bool->Bool × Nat × Ma)
  (ac:∀(w0 W:Xn) (p:Nat) (f:MaV) (m1:Ma) (ci:Xq) (l:List (Nat × Nat)),(∀x∈l,x.2<64/\∃s,m.sp[x.1]? =Xa s)->m1=ze m l->ChW w0 p W f m1->Rt m1->qL m1.fs=0->zg4 JZ (Dw p f) W ci l->Xp prog 168 #[Xj (Xa ⟨p,0,Xb⟩),ci] W fun e w'=>e= Xl (Xh (Qw m1 l).1)/\Chg w0 p W f (Qw m1 l).2 w')
  (f8:∀(q i:Nat) (a:Ar) (pg:Pg),p=(q:Int)->n=(i:Int)->Z6 m p n wr a 0->Ql m p n=(pgL pg,Xd,0)->0<=a.file->a.sh=Xc\/wr=Xd->∀(w0 W:Xn) (p:Nat) (f:MaV),ChW w0 p W f m->Xp prog 70 #[Xi #[Xj (Xa ⟨p,0,Xb⟩),I6 (q:Int),I6 (i:Int),I6 a.fr,I6 a.tz,Xh a.rd,Xh a.wr,Xh a.sh,I6 a.file,I6 a.base,U8 pg.b0,U8 pg.b1,U8 pg.b2,U8 pg.b3,U8 pg.b4,U8 pg.b5,U8 pg.b6,U8 pg.b7,Xh Xd,Xh wr]] W fun e w'=>e= Xl (Xm #[I6 ((G q i a pg wr).2.1:Int),I6 (if(G q i a pg wr).1=Xc then 0 else 10)])/\Chg w0 p W f (G q i a pg wr).2.2 w')
  (f9:∀(q i:Nat) (a:Ar) (pg:Pg) (C:Bool),p=(q:Int)->n=(i:Int)->Z6 m p n wr a 0->Ql m p n=(pgL pg,C,0)->(jG m (G q i a pg wr) pg a C wr q i).1=Xc->zrZ (jG m (G q i a pg wr) pg a C wr q i).2.1 q i (jG m (G q i a pg wr) pg a C wr q i).2.2):
  Xp prog 11 #[Xi (mL V m).toArray,I6 p,I6 n,Xh wr] w fun e w'=>((∃a3:Int,e= Xl (Xm #[Xi qY.toArray,I6 0,I6 a3])/\Qz m G p n wr a3)\/(∃(V':MaV) (k d:Nat) (m':Ma),e= Xl (Xm #[Xi (mL V' m').toArray,I6 (k:Int),I6 0])/\zpQ m G p n wr k m'/\ChW w d w' V' m'))/\zc w w':=by
 have co:Xo (zP w V m):=fe;have es:Xo (Rt m):=cf;have cm:=show Xo _ from ac;have cl:=show Xo _ from f8;have cn:=show Xo _ from f9;have cr:Xo (∀W,zc w W->Xp prog 30 #[Xi (mL V m).toArray,I6 p,I6 n,Xh wr] W fun e w'=>(∃(a:Ar) (a3:Int),e= Xl (Xm #[Xi #[I6 a.fr,I6 a.tz,Xh a.rd,Xh a.wr,Xh a.sh,I6 a.file,I6 a.base],I6 a3])/\Z6 m p n wr a a3)/\zc W w'):=dD<|fun W bd=>zkX V m p n wr W (co.aA bd) cf.w;have ct:Xo (∀W,zc w W->Xp prog 31 #[Xi (mL V m).toArray,I6 p,I6 n] W fun e w'=>e= Xl (zcw (Ql m p n))/\(Ql m p n).1.length=8/\zc W w'):=dD<|fun W bd=>zow V m p n W (co.aA bd) cf.w;clear fe cf ac f8 f9;obtain⟨h,ar⟩:=kA w.heap.size;obtain⟨bu,a6⟩:=kB ((w.alloc (Xk (mL V m).toArray 41)).alloc (Xk zM.toArray 41));have en:=gD2 a6;have ew:Xo (zt bu h 41 (mL V m)):=dD<|by rw[<-a6];exact(zt.aE w (mL V m) _ ar.symm).aA (za _ _)
 have fz:Xo (zt bu (h+1) 41 qY):=dD<|by rw[<-a6];exact zt.aE _ qY _ (by have:=ar.out;simp;omega)
 have cu:Xo (_=bu):=a6;clear a6;have c1:=cr.out bu en.out;go_enter func11,ntmps11;go_upto_region 1 with fail;rw[cu.out,ar.out];obtain⟨ed,ee,ef,eg,eh,ei,ej,ek,el,em,bi⟩:=ew.box.bN;go_wp2_with fail;refine c1.mono ?_;clear c1 ed ee ef eg eh ei ej ek el em bi;rintro bp c9 ⟨⟨a,a3,rfl,fb⟩,f2⟩;have al:Xo (Z6 m p n wr a a3):=fb;clear fb;go_upto_region 2 with fail;obtain⟨b8,ep⟩:=kA c9.heap.size;obtain⟨d0,ae⟩:=kB (c9.alloc (Xk #[I6 a.fr,I6 a.tz,Xh a.rd,Xh a.wr,Xh a.sh,I6 a.file,I6 a.base] 77));have cd:zc bu d0:=by rw[<-ae];exact f2.trans (za _ _)
 have fy:=xPT ae ep;have ex:=dD (ew.aA cd);have ey:=dD (fz.aA cd);have ck:=dD (en.trans cd);rw[ae,ep.out];clear ae f2 cd;by_cases L:a3=0
 rotate_left
 ·have gh:(a3 != 0)=Xc:=by simp[L]
  have br:Xo (Qz m G p n wr a3):=dD<|⟨L,.inl (by have:=al.out;rw[zi0 al.out L]at this;exact this)⟩;clear L;go_wp2_with (refine z6 rfl 41 (.tmp 8) (.tmp 27) rfl (h+1) rfl qY rfl ey rfl Kr (by unfold qY;simp[Value.oneCell']) ?_)
  intro an z A _;have S:Xo (zc w an):=dD<|zd ck A (Hm ar.out);have R:Xo (zt an (h+1) 41 qY):=z;clear z A;go_wp2;refine bodyPost_ret (zL rfl _ rfl R.box underlying41 rfl Kr) rfl ⟨.inl ⟨a3,rfl,br⟩,S⟩
 subst L;have c2:=ct.out d0 ck.out;obtain⟨ed,ee,ef,eg,eh,ei,ej,ek,el,em,bi⟩:=ex.box.bN;go_wp2_with fail;refine c2.mono ?_;clear c2 ed ee ef eg eh ei ej ek el em bi;rintro bp et ⟨rfl,be,f3⟩;obtain⟨fx,ad⟩:=kA (Ql m p n);rw[ad.out]at be⊢;obtain⟨gz,C,cb⟩:=fx;obtain⟨pg,rfl⟩:=zrq be;obtain⟨Y,H,D,Q,Z,a0,a1,a2⟩:=pg;clear be;simp only[zcw,pgL,pgc,List.map];go_upto_region 5 with fail;obtain⟨ao,eq⟩:=kA et.heap.size;obtain⟨t,af⟩:=kB (et.alloc (Xk #[U8 Y,U8 H,U8 D,U8 Q,U8 Z,U8 a0,U8 a1,U8 a2] 44));have bw:zc d0 t:=by rw[<-af];exact f3.trans (za _ _)
 have am:=xPT af eq;have X:=dD (ex.aA bw);have d3:=dD (ey.aA bw);have ay:=dD (fy.aA bw);have bk:=dD (ck.trans bw);rw[af,eq.out];clear af f3 bw;by_cases L:cb=0
 rotate_left
 ·have gh:(cb != 0)=Xc:=by simp[L]
  have br:Xo (Qz m G p n wr cb):=dD<|⟨L,.inr (.inl ⟨a,al,by rw[ad.out]⟩)⟩;clear L;go_wp2_with (refine z6 rfl 41 (.tmp 8) (.tmp 39) rfl (h+1) rfl qY rfl d3 rfl Kr (by unfold qY;simp[Value.oneCell']) ?_)
  intro an z A _;have S:Xo (zc w an):=dD<|zd bk A (Hm ar.out);have R:Xo (zt an (h+1) 41 qY):=z;clear z A;go_wp2;refine bodyPost_ret (zL rfl _ rfl R.box underlying41 rfl Kr) rfl ⟨.inl ⟨cb,rfl,br⟩,S⟩
 subst L;obtain⟨q,i,U,T,ak,s,fq⟩:∃q i:Nat,Xo (p=(q:Int))/\Xo (n=(i:Int))/\Xo (i<64)/\∃s,Xo (m.sp[q]? =Xa s):=by
  rcases al with⟨e,_⟩|⟨q,i,_,s,_,gb,gc,gd,ge,_⟩;·cases e
  exact⟨q,i,gb,gc,gd,s,ge⟩
 rw[U.out,T.out];have cq:Xo (∀W,zc w W->Xp prog 32 #[Xi (mL V m).toArray] W fun e w'=>∃(d B:Nat) (V':MaV),e= Xl (Xj (Xa ⟨d,0,Xb⟩))/\zg0 B w' V' m/\W.heap.size<=B/\W.heap.size<=d/\zt w' d 102 (chL V' m)/\zc W w'):=dD<|fun W bd=>zmR V m W (co.aA bd);go_upto_region 7 with fail;obtain⟨c,b⟩:=Ww fun P=>zc t P;have bc:c t.drew:=(b _).2 (gW _);have d9:Nonempty (zg c):=⟨⟨_,bc⟩⟩;have da:=fun y:zg c=>(X.box.aA ((b _).1 y.holds)).c 0 rfl;have db:=fun y:zg c=>(X.box.aA ((b _).1 y.holds)).c 1 rfl;have dc:=fun y:zg c=>(X.box.aA ((b _).1 y.holds)).c 2 rfl;have dd:=fun y:zg c=>(X.box.aA ((b _).1 y.holds)).c 3 rfl;have de:=fun y:zg c=>(X.box.aA ((b _).1 y.holds)).c 4 rfl;have df:=fun y:zg c=>(X.box.aA ((b _).1 y.holds)).c 5 rfl;have dg:=fun y:zg c=>(X.box.aA ((b _).1 y.holds)).c 6 rfl;have dh:=fun y:zg c=>(X.box.aA ((b _).1 y.holds)).c 7 rfl;have di:=fun y:zg c=>(X.box.aA ((b _).1 y.holds)).c 8 rfl;have dj:=fun y:zg c=>(X.box.aA ((b _).1 y.holds)).c 9 rfl;have c3:=fun y:zg c=>(X.box.aA ((b _).1 y.holds)).c 10 rfl;have dk:=fun y:zg c=>(ay.box.aA ((b _).1 y.holds)).c 0 rfl;have dl:=fun y:zg c=>(ay.box.aA ((b _).1 y.holds)).c 1 rfl;have dm:=fun y:zg c=>(ay.box.aA ((b _).1 y.holds)).c 2 rfl;have dn:=fun y:zg c=>(ay.box.aA ((b _).1 y.holds)).c 3 rfl;have dp:=fun y:zg c=>(ay.box.aA ((b _).1 y.holds)).c 4 rfl;have dq:=fun y:zg c=>(ay.box.aA ((b _).1 y.holds)).c 5 rfl;have dr:=fun y:zg c=>(ay.box.aA ((b _).1 y.holds)).c 6 rfl;have dt:=fun y:zg c=>(am.box.aA ((b _).1 y.holds)).c 0 rfl;have du:=fun y:zg c=>(am.box.aA ((b _).1 y.holds)).c 1 rfl;have dv:=fun y:zg c=>(am.box.aA ((b _).1 y.holds)).c 2 rfl;have dw:=fun y:zg c=>(am.box.aA ((b _).1 y.holds)).c 3 rfl;have dx:=fun y:zg c=>(am.box.aA ((b _).1 y.holds)).c 4 rfl;have dy:=fun y:zg c=>(am.box.aA ((b _).1 y.holds)).c 5 rfl;have dz:=fun y:zg c=>(am.box.aA ((b _).1 y.holds)).c 6 rfl;have e0:=fun y:zg c=>(am.box.aA ((b _).1 y.holds)).c 7 rfl;refine zaw (I:=c) 12 [(1,⟨.const (Xh Xd),fun v=>∃d:Nat,v= Xj (Xa ⟨d,0,Xb⟩),fun _ v P=>∃(d B:Nat) (f:MaV),v= Xj (Xa ⟨d,0,Xb⟩)/\t.heap.size<=B/\t.heap.size<=d/\zg0 B P f m/\zt P d 102 (chL f m),fun p q=>zc p q,fun _=>True⟩),(10,⟨.const (Xh Xd),fun v=>∃j,v= Xj (Xa ⟨j,0,Xb⟩),fun _ v P=>∃j aa,v= Xj (Xa ⟨j,0,Xb⟩)/\t.heap.size<=j/\zt P j 97 aa/\aa.length=20,fun p q=>zc p q,fun _=>True⟩),(11,⟨.tmp 15,fun _=>True,fun bp _ P=>∃(j d B:Nat) (f:MaV),bp= Xj (Xa ⟨j,0,Xb⟩)/\t.heap.size<=j/\zt P j 97 [Xj (Xa ⟨d,0,Xb⟩),I6 (q:Int),I6 (i:Int),I6 a.fr,I6 a.tz,Xh a.rd,Xh a.wr,Xh a.sh,I6 a.file,I6 a.base,U8 Y,U8 H,U8 D,U8 Q,U8 Z,U8 a0,U8 a1,U8 a2,Xh C,Xh wr]/\t.heap.size<=B/\t.heap.size<=d/\zg0 B P f m/\zt P d 102 (chL f m),fun p q=>∃j aa d5,t.heap.size<=j/\p.grownBy q (Xa j)/\zt p j 97 d5/\zt q j 97 aa/\aa.length=20,fun _=>True⟩)] bc z3 Kr Kr rfl rfl Dc (Sc ⟨_,0,rfl⟩ ⟨_,0,rfl⟩ ⟨Xh Xc,trivial⟩) ?hp ?hpre ?hpr0 ?_;case hp=>
  intro k s gi fl a8 cg ag fc bp v p q g bf;have a9:=zC a8;have F:=zC cg;clear a8 cg;simp only[mC,pJ,nM,or_false]at a9 F;rcases a9 with⟨rfl,rfl⟩|⟨rfl,rfl⟩|⟨rfl,rfl⟩
  ·obtain⟨d,B,f,a4,a5,ab,ap,bl⟩:=bf
   rcases F with⟨rfl,rfl⟩|⟨rfl,rfl⟩|⟨rfl,rfl⟩;·exact absurd rfl ag
   ·exact⟨d,B,f,a4,a5,ab,ap.aA g,bl.aA g⟩
   obtain⟨cc,aa,d5,gj,cj,e9,fj,fk⟩:=g;exact⟨d,B,f,a4,a5,ab,ap.other cj e9,bl.beside cj fun k a8=>by cases a8;exact bl.off e9 Dc⟩
  ·obtain⟨j,aa,a4,a5,ab,ap⟩:=bf
   rcases F with⟨rfl,rfl⟩|⟨rfl,rfl⟩|⟨rfl,rfl⟩;·exact⟨j,aa,a4,a5,ab.aA g,ap⟩
   ·exact absurd rfl ag
   obtain⟨cc,g8,d5,gj,cj,e9,fj,fk⟩:=g;by_cases e:j=cc;·subst e;exact⟨j,_,a4,a5,fj,fk⟩
   exact⟨j,aa,a4,a5,ab.beside cj (fun k a8=>by cases a8;exact e),ap⟩
  obtain⟨j,d,B,f,a4,a5,ab,ap,bl,f6,f7⟩:=bf;rcases F with⟨rfl,rfl⟩|⟨rfl,rfl⟩|⟨rfl,rfl⟩;·exact⟨j,d,B,f,a4,a5,ab.aA g,ap,bl,f6.aA g,f7.aA g⟩
  ·exact⟨j,d,B,f,a4,a5,ab.aA g,ap,bl,f6.aA g,f7.aA g⟩
  exact absurd rfl ag
 case hpre=>
  intro gi fl k s cg a8 ag p q g bg;have F:=zC cg;simp only[mC,pJ,nM,or_false]at F;rcases F with⟨rfl,rfl⟩|⟨rfl,rfl⟩|⟨rfl,rfl⟩ <;> trivial
 case hpr0=>
  intro k fl a8;have a9:=zC a8;simp only[mC,pJ,nM,or_false]at a9;rcases a9 with⟨rfl,rfl⟩|⟨rfl,rfl⟩|⟨rfl,rfl⟩ <;> trivial
 simp only[Xw,Xx];refine za5 rfl rfl rfl (fun ft fa=>?_);go_big_quiet_op;refine fa _ ?_;clear fa ft;refine Zy rfl rfl (fun w' u bg ac=>?_) (fun fm ai=>?_);·refine zN.call [Xi (mL V m).toArray] rfl func32 rfl rfl rfl ?_;refine(cq w' (bk.trans ((b _).1 u))).mono ?_;rintro e ec ⟨d,B,f,rfl,bo,bm,bn,az,f4⟩;have ch:=bS ((b _).1 u);exact⟨_,rfl,(b _).2 (((b _).1 u).trans f4),f4,⟨d,rfl⟩,d,B,f,rfl,nT ch bm,nT ch bn,bo,az⟩
 obtain⟨d,rfl⟩:=ai;refine Uq ?_;iterate 8 refine Qf ?_
 refine Zy rfl rfl (fun w' u bg ac=>?_) (fun fm ai=>?_);·refine zN.step (v:= Xj (Xa ⟨w'.heap.size,0,Xb⟩)) (w':=w'.alloc (Xk #[Xj Xb,I6 0,I6 0,I6 0,I6 0,Xh Xd,Xh Xd,Xh Xd,I6 0,I6 0,U8 0,U8 0,U8 0,U8 0,U8 0,U8 0,U8 0,U8 0,Xh Xd,Xh Xd] 97)) (zht rfl) ⟨(b _).2 (((b _).1 u).trans (za _ _)),za _ _,⟨_,rfl⟩,_,_,rfl,bS ((b _).1 u),zt.aE _ [Xj Xb,I6 0,I6 0,I6 0,I6 0,Xh Xd,Xh Xd,Xh Xd,I6 0,I6 0,U8 0,U8 0,U8 0,U8 0,U8 0,U8 0,U8 0,U8 0,Xh Xd,Xh Xd] _ rfl,rfl⟩
 obtain⟨aj,rfl⟩:=ai;refine Uq ?_;refine Zy rfl rfl (fun w' u bg ac=>?_) (fun fm ai=>?_)
 ·obtain⟨j,aa,a7,M,N,c0⟩:=ac 10 Kr
  simp only[Value.pointer.injEq,Option.some.injEq,Addr.mk.injEq,and_true]at a7;subst a7;obtain⟨r,B,f,L,bm,bn,bo,az⟩:=ac 1 Kr;simp only[Value.pointer.injEq,Option.some.injEq,Addr.mk.injEq,and_true]at L;subst L;refine zN.bL 97 (.tmp 15) (.tmp 50) rfl aj rfl [Xj (Xa ⟨d,0,Xb⟩),I6 (q:Int),I6 (i:Int),I6 a.fr,I6 a.tz,Xh a.rd,Xh a.wr,Xh a.sh,I6 a.file,I6 a.base,U8 Y,U8 H,U8 D,U8 Q,U8 Z,U8 a0,U8 a1,U8 a2,Xh C,Xh wr] rfl N (Rr c0) (by rw[c0];kernel_rfl) (by simp[Value.oneCell']) fun ec H D Q=>?_;exact⟨(b _).2 (zd ((b _).1 u) D M),⟨aj,_,_,M,D,N,H,rfl⟩,trivial,aj,d,B,f,rfl,M,H,bm,bn,bo.other D N,az.beside D fun k a8=>by cases a8;exact az.off N Dc⟩
 simp only[Yu];refine zcc fun eu bz ac=>?_;obtain⟨cc,r,B,f,a7,N,M,bm,bn,bo,az⟩:=ac 11;have aq:(Value.pointer (Xa ⟨aj,0,Xb⟩):Xq)= Xj (Xa ⟨cc,0,Xb⟩):=a7;simp only[Value.pointer.injEq,Option.some.injEq,Addr.mk.injEq,and_true]at aq;subst aq;have ce:=(b _).1 bz;have c5:Xo (ChW t r eu f m):=ChW.of bo bm ce bn az;have cy:Xo (zt eu aj 97 [Xj (Xa ⟨r,0,Xb⟩),I6 (q:Int),I6 (i:Int),I6 a.fr,I6 a.tz,Xh a.rd,Xh a.wr,Xh a.sh,I6 a.file,I6 a.base,U8 Y,U8 H,U8 D,U8 Q,U8 Z,U8 a0,U8 a1,U8 a2,Xh C,Xh wr]):=M;have g0:=dD (d3.aA ce);have aw:Xo (h+1<t.heap.size):=d3.box.lt;have cv:Xo (w.heap.size<=t.heap.size):=show _<=_ from bS bk.out;have gx:=dD (bk.trans ce);clear ac bz bc d9 ce a7 M N bm bn bo az da db dc dd de df dg dh di dj c3 dk dl dm dn dp dq dr dt du dv dw dx dy dz e0;obtain⟨pg,bs⟩:∃pg:Pg,Xo ((⟨Y,H,D,Q,Z,a0,a1,a2⟩:Pg)=pg):=⟨_,rfl⟩;have av:Xo (Ql m p n=(pgL pg,C,0)):=show _=_ by rw[<-bs.out];exact ad.out
 have K:=zhk c5 es q i s fq ak a ⟨Y,H,D,Q,Z,a0,a1,a2⟩ C wr (fun l ci fd gf c9 fv d8 ai=>cm.out t c9 r fv (ze m l) ci l fd rfl d8 (qO l es fd).1.rt gf ai) (G q i a ⟨Y,H,D,Q,Z,a0,a1,a2⟩ wr) (fun d8 W bd=>by
  obtain⟨⟨a4,a5⟩,ab⟩:=d8;have ai:=ad.out;rw[a5]at ai⊢;exact cl q i a ⟨Y,H,D,Q,Z,a0,a1,a2⟩ U T al ai a4 ab t W r f (c5.aA bd))
 simp only at K;rw[bs.out]at K;obtain⟨bj,E⟩:=kA (jG m (G q i a pg wr) pg a C wr q i);have bq:Xo (bj.1=Xc->zrZ bj.2.1 q i bj.2.2):=dD<|fun f5=>by
  rw[<-E.out]at f5⊢;exact cn q i a pg C U T al av f5
 rw[E.out]at K;obtain⟨f1,au⟩:=kA (if bj.1=Xc then(0:Int)else 10);rw[au.out]at K;go_wp2_with (refine zD rfl 97 (.tmp 15) rfl aj rfl cy.box underlying97 rfl Kr ?_)
 refine K.mono ?_;clear K;rintro bp ca ⟨rfl,fw,d4,e7,g9⟩;have cz:Xo (zt ca aj 97 [Xj (Xa ⟨r,0,Xb⟩),I6 (q:Int),I6 (i:Int),I6 a.fr,I6 a.tz,Xh a.rd,Xh a.wr,Xh a.sh,I6 a.file,I6 a.base,U8 Y,U8 H,U8 D,U8 Q,U8 Z,U8 a0,U8 a1,U8 a2,Xh C,Xh wr]):=cy.aU e7 (c5.bW cy Dc Dc Dc Dc);have ez:Xo (zt ca (h+1) 41 qY):=g0.aU e7 (fun e=>by have:=c5.dlo _ e;have:=aw.out;omega);have c8:Xo (ChW t r ca fw bj.2.2):=d4;have fo:Xo (zc w ca):=bk.trans d4.gr;clear d4 e7 g9;obtain⟨g7,c4,fi⟩:=bj;simp only at c8 bq⊢;cases g7 with
 | false=>
  have ba:f1=10:=by rw[<-au.out];rfl
  subst ba;have br:Xo (Qz m G p n wr 10):=dD<|⟨Dc,.inr (.inr ⟨rfl,q,i,a,pg,C,U,T,al,av,by rw[E.out]⟩)⟩;go_wp2_with (refine z6 rfl 41 (.tmp 8) (.tmp 58) rfl (h+1) rfl qY rfl ez rfl Kr (by unfold qY;simp[Value.oneCell']) ?_)
  intro an z A _;have S:Xo (zc w an):=dD<|zd fo A (Hm ar.out);have R:Xo (zt an (h+1) 41 qY):=z;clear z A;go_wp2;refine bodyPost_ret (zL rfl _ rfl R.box underlying41 rfl Kr) rfl ⟨.inl ⟨10,rfl,br⟩,S⟩
 | true=>
  have ba:f1=0:=by rw[<-au.out];rfl
  subst ba;obtain⟨gv,fr,gw,e5,fg,e6,fh⟩:=bq.out rfl;have bt:Xo (zpQ m G p n wr c4 (Jv fi q i c4 fr wr a.sh)):=dD<|⟨q,i,a,pg,C,fr,U,T,al,av,by rw[E.out],by rw[E.out],Rx E.out e6,by rw[E.out]⟩;have ah:=ziY c8 q i c4 fr gv gw e6 e5.inv.aL (fun s ch=>e5.tb ch) fg ak fh a ⟨Y,H,D,Q,Z,a0,a1,a2⟩ C wr;obtain⟨bh,cp⟩:=kA (Jv fi q i c4 fr wr a.sh);simp only at ah;rw[cp.out]at ah bt;clear e5 fg e6 fh;go_wp2_with (refine zD rfl 97 (.tmp 15) rfl aj rfl cz.box underlying97 rfl Kr ?_)
  refine ah.mono ?_;clear ah;rintro bp d1 ⟨⟨gy,rfl⟩,ax,f0,e8,ga⟩;have fu:Xo (zt d1 aj 97 [Xj (Xa ⟨r,0,Xb⟩),I6 (q:Int),I6 (i:Int),I6 a.fr,I6 a.tz,Xh a.rd,Xh a.wr,Xh a.sh,I6 a.file,I6 a.base,U8 Y,U8 H,U8 D,U8 Q,U8 Z,U8 a0,U8 a1,U8 a2,Xh C,Xh wr]):=cz.aU e8 (c8.bW cz Dc Dc Dc Dc);have g6:Xo (zt d1 (h+1) 41 qY):=ez.aU e8 (fun e=>by have:=c8.dlo _ e;have:=aw.out;omega);have cx:Xo (ChW t r d1 ax bh):=f0;clear f0 e8 ga;have u0:=fu.box.c 0 rfl;obtain⟨gk,gl,gm,gn,gp,gq,gr,gs,gt,gu,ea⟩:=cx.box.box.bN;have cw:Xo (∀v∈chL ax bh,v.oneCell'=Xc):=show∀v∈chL ax bh,_ by simp[chL,Value.oneCell']
  go_wp2_with (refine z6 rfl 41 (.tmp 8) (.tmp 67) rfl (h+1) rfl (chL ax bh) rfl g6 rfl Kr cw.out ?_)
  clear u0 gk gl gm gn gp gq gr gs gt gu ea;intro d2 bv b9 _;have eo:Xo (zc w d2):=dD<|zd (bk.trans cx.gr) b9 (Hm ar.out);have fn:Xo (zt d2 (h+1) 41 (chL ax bh)):=bv;have fp:Xo (ChW w r d2 ax bh):=cx.lower b9 aw eo cv.out;clear bv b9;go_wp2;refine bodyPost_ret (zL rfl _ rfl fn.box underlying41 rfl Kr) rfl ⟨.inr ⟨ax,c4,r,bh,rfl,bt,fp⟩,eo⟩
theorem zcX.inTo {wr ic:Bool} {a:Ma} {q:Nat} {x:On} {pg:Pg} (h:zcX wr m k p x pg ic q a):zrZ q k p a:=by obtain⟨f,e,w,b,c,d,_⟩:=h.into;exact⟨f,e,w,h.rt,b,c,d⟩
theorem zaz {wr:Bool} (c:Z6 m z H wr R 0) (u:z=(k:Int)) (hi:H=(p:Int)):∃s,m.sp[k]? =Xa s/\p<64/\jU R/\(R.fr<=(p:Int)/\(p:Int)<R.tz)/\zl s.aC p=z5 R p/\(if wr=Xc then R.wr else R.rd)=Xc:=by
 rcases c with⟨e,_⟩|⟨x,v,w,s,y,d,f,g,h,j,q,l,r,⟨e,_⟩|⟨_,t,b⟩⟩;·cases e
 ·cases e
 grind
theorem QI (h:Rt m) {q i:Nat} {s:Sp} (a:m.sp[q]? =Xa s) (hi:i<64):Ql m (q:Int) (i:Int)=ZP m (zl s.aC i) (zf s i):=by unfold Ql;rw[kF (by rw[h.w];simp)];exact zf7 a hi
theorem zf8 (V:MaV) (m:Ma) (p n:Int) (wr:Bool) (w:Xn) (M:zP w V m) (d:Rt m):
  Xp prog 11 #[Xi (mL V m).toArray,I6 p,I6 n,Xh wr] w fun e w'=>((∃E:Int,e= Xl (Xm #[Xi qY.toArray,I6 0,I6 E])/\Qz m (ZI m) p n wr E)\/(∃(V':MaV) (k C:Nat) (m':Ma),e= Xl (Xm #[Xi (mL V' m').toArray,I6 (k:Int),I6 0])/\zpQ m (ZI m) p n wr k m'/\ChW w C w' V' m'))/\zc w w':=
 zp9 V m p n wr w M d (ZI m) (fun Q W C H Z B P U e v N _ h=>zfL v N B P h)
  (fun q i a t r l z h T X Q W C H v=>by
   obtain⟨D,b,c,u,F,G,K⟩:=zaz z r l;unfold jU at u;obtain⟨j,f⟩:∃j:Nat,a.file=(j:Int):=⟨a.file.toNat,Wm⟩;obtain⟨s,g⟩:∃s:Nat,a.base+(i:Int) - a.fr=(s:Int):=⟨(a.base+(i:Int) - a.fr).toNat,Wm⟩;have A:=zhj v d q i D b c a j s f g Wm Wm Wm t Xd wr (zjz (.inr Wm)) (fun _ B S R x y=>zfL x (qO [(q,i)] d (fun I A=>by rw[Yb.1 A];exact⟨c,D,b⟩)).1.rt B [(q,i)] y);have e:ZI m q i a t wr=zcm m t (j:Int) (s:Int) q i:=by
    unfold ZI;rw[f,g]
   rw[e];exact A)
  (fun q i a t Y r l z h L=>by
   obtain⟨D,b,c,u,F,G,K⟩:=zaz z r l;rw[r,l,QI d b c]at h;exact(zkK d b c u F G h L).inTo)
theorem zhL (k:Rt m) {wr:Bool} (a:Qz m (ZI m) z H wr er):er=10->qL m.fs=0:=fun c=>by
 subst c;rcases a.2 with a|⟨b,a,d⟩|⟨_,q,i,b,v,t,s,r,a,d,l⟩;·rcases a with⟨e,_⟩|⟨_,_,_,_,_,_,_,_,_,_,_,_,_,⟨e,_⟩|⟨e,_⟩⟩ <;> cases e
 ·rcases a with⟨e,_⟩|⟨q,i,u,w,x,f,g,h,j,_⟩
  ·cases e
  grind [QI,ZP]
 grind [zaz,zl5]
theorem zqm {x:On} {e:En} (h:x.is=Xc):(ZP m x e).2.2=0\/(ZP m x e).2.2=9:=by grind [ZP]
structure zrM (wr:Bool) (m:Ma) (q n:Nat) (s:Sp) (a:Ar) (pg:Pg) (ic:Bool) (k:Nat) (m':Ma):Prop where
 sp:m.sp[q]? =Xa s
 n64:n<64
 ok:jU a
 on:zl s.aC n=z5 a n
 may:(if wr=Xc then a.wr else a.rd)=Xc
 see:ZP m (zl s.aC n) (zf s n)=(pgL pg,ic,0)
 rt:Rt m'
 aX:Sam (fun p j=>p=q/\j=n) m m'
 fsl:m'.fs.length=m.fs.length
 into:∃(s':Sp) (fr:Fr) (w:Bool),m'.sp[q]? =Xa s'/\m'.fs[k]? =Xa fr/\zf s' n=⟨1,(k:Int),w⟩/\fr.p=pg/\fr.r≠0/\(wr=Xc->w=Xc/\((fr.f=-1/\fr.r<=1)\/a.sh=Xc))/\(wr=Xd->0<=a.file->decide (fr.f<0)=ic)
theorem ziX (N:Rt m) {wr:Bool} (a2:zpQ m (ZI m) z H wr k m'):∃(q i:Nat) (s:Sp) (a:Ar) (pg:Pg) (h:Bool),z=(q:Int)/\H=(i:Int)/\zrM wr m q i s a pg h k m':=by
 obtain⟨q,i,a,pg,h,a5,y,w,A,B,a0,a1,u,x⟩:=a2;obtain⟨s,g,e,P,I,d,r⟩:=zaz A y w;rw[y,w,QI N g e]at B;have b:=zkK N g e P I d B a0;rw[<-a1]at b;generalize(jG m (ZI m q i a pg wr) pg a h wr q i).2.2=mB at b u x;obtain⟨R,X,a8,j,F,S,T,l,G⟩:=b.into;rw[u]at F;cases F;have K:=(b.aX.sp q s R g j).2;have p:(zl R.aC i).sh=a.sh:=by rw[K,d];rfl
 have V:(zl s.aC i).sh=a.sh:=Rr d;have W:(zl s.aC i).file=a.file:=Rr d
 rw[V]at l;rw[W]at G;obtain⟨C,D,⟨a7,a4,E⟩,Q⟩:=zqt b.rt j e u S wr (fun f=>⟨by
  rw[K,d];rw[kE f]at r;exact r,by rw[p];exact l f⟩)
 rw[p,<-x]at C D E Q;have:∃t,m'.sp[q]? =Xa t:=⟨_,gE (by rw[D.aI];exact(gS.1 j).1)⟩;obtain⟨t,n⟩:=this;have v:m'.fs.length=mB.fs.length:=by
  rw[x];unfold Jv;split
  ·show(mB.fs.set _ _).length=_
   grind
  grind
 have c:=Q t n;obtain⟨a3,Y,L,M,a6,Z⟩:=C.aQ n e (by rw[c]);rw[c]at L;have:k=a3:=Int.ofNat.inj L;subst this;rw[E]at M;cases M;exact⟨q,i,s,a,pg,h,y,w,g,e,P,d,r,B,C,(b.aX.trans D).mono (fun _ _ U=>U.elim id False.elim),v.trans b.fsl,t,_,_,n,E,c,T,Z,fun f=>⟨by rw[f,Bool.or_true],l f⟩,G⟩
theorem zbx (u:Rt m) {wr:Bool} (k:Qz m (ZI m) z H wr er):
  (er=5/\((z<0\/(m.sp.length:Int)<=z)\/∃(q:Nat) (s:Sp),z=(q:Int)/\m.sp[q]? =Xa s/\∀a∈s.aC,inZ a H=Xd))\/
  (∃(q i:Nat) (s:Sp),z=(q:Int)/\H=(i:Int)/\i<64/\m.sp[q]? =Xa s/\(zl s.aC i).is=Xc/\((er=8/\(if wr=Xc then(zl s.aC i).wr else(zl s.aC i).rd)=Xd)\/((if wr=Xc then(zl s.aC i).wr else(zl s.aC i).rd)=Xc/\((er=9/\(ZP m (zl s.aC i) (zf s i)).2.2=9)\/(er=10/\(ZP m (zl s.aC i) (zf s i)).2.2=0/\qL m.fs=0))))):=by
 have c:=zhL u k;rcases k.2 with b|⟨a,b,l⟩|⟨A,q,i,a,Q,P,w,v,b,l,N⟩
 ·rcases b with⟨e,_,f⟩|⟨q,i,p,s,K,g,f,h,j,B,C,D,d,⟨e,_,t⟩|⟨e,_⟩⟩
  ·grind
  ·exact .inr ⟨q,i,s,g,f,h,j,Rr d,.inl ⟨e,Rx d t⟩⟩
  exact absurd e k.1
 ·rcases b with⟨e,_⟩|⟨q,i,p,s,K,g,f,h,j,B,C,D,d,⟨e,_⟩|⟨_,t,r⟩⟩
  ·cases e
  ·cases e
  rw[g,f,QI u j h]at l;refine .inr ⟨q,i,s,g,f,h,j,Rr d,.inr ⟨by rw[d];subst t;exact r,.inl ?_⟩⟩;have G:=k.1;have F:(zl s.aC i).is=Xc:=Rr d;grind [zqm,zf]
 obtain⟨s,x,y,L,M,n,E⟩:=zaz b w v;rw[w,v,QI u x y]at l;exact .inr ⟨q,i,s,w,v,y,x,Rr n,.inr ⟨Rx n E,.inr ⟨A,by rw[l],c A⟩⟩⟩
theorem zN.cD (c:o.op= .alloc 68) (h:M (Xj (Xa ⟨w.heap.size,0,Xb⟩)) (w.alloc (Xk (zz (tab fun _=>on0)).toArray 68))):zN prog o a w M:=by
 have b:=zbW w;generalize zz (tab fun _=>on0)=Z at b h;unfold zN;have:(execOp a.eval o).run prog w= .ok (.value (Xj (Xa ⟨w.heap.size,0,Xb⟩))) (w.alloc (Xk Z.toArray 68)):=by
  simp[execOp,c,go_sem,b]
 rw[this];exact h
theorem zN.oneArea (x) (b:o.op= .buildSlice 58 1 #[(0,x)]) (q) (c:a.eval x=arA q) (h:M (O (Xa ⟨w.heap.size,0,Xb⟩) 1 1) (w.alloc (Xk (arv q).toArray 77))):zN prog o a w M:=by
 unfold zN;have:(execOp a.eval o).run prog w= .ok (.value (O (Xa ⟨w.heap.size,0,Xb⟩) 1 1)) (w.alloc (Xk (arv q).toArray 77)):=by
  simp only[execOp,b,Xz,mP,Xt,c];simp[go_sem,arA,arv]
 rw[this];exact h
theorem zN.val {v:Xq} (b:(execOp a.eval o).run prog w= .ok (.value v) w) (h:M v w):zN prog o a w M:=by unfold zN;rw[b];exact h
theorem zmE (x) (d:o.op= .load 77 x) (b:Nat) (e:a.eval x= Xj (Xa ⟨b,0,Xb⟩)) (c:Box w b (arv R)):(execOp a.eval o).run prog w= .ok (.value (arA R)) w:=by have:=run_loadAt_mid (P:=prog) w b 0 77 (arv R) _ c.range underlying77 rfl zsq;simp only[execOp,d,e,Xu,this,rA,Xv];rfl
def zhV:List Oper:=[
 { dst := some 23, op := .move (.tmp 0), type := 58, pos := "ref.go:325", after := #[], guard := none },
 { dst := some 24, op := .call { callee := .value (.func 16), args := #[.tmp 23], argTypes := #[58] }, type := 68, pos := "ref.go:325", after := #[{ on := 0, ground := .data }], guard := none },
 { dst := some 25, op := .load 77 (.tmp 3), type := 77, pos := "ref.go:325", after := #[], guard := none },
 { dst := some 26, op := .buildSlice 58 1 #[(0, .tmp 25)], type := 58, pos := "ref.go:325", after := #[{ on := 2, ground := .data }], guard := none },
 { dst := some 27, op := .call { callee := .value (.func 16), args := #[.tmp 26], argTypes := #[58] }, type := 68, pos := "ref.go:325", after := #[{ on := 3, ground := .data }, { on := 1, ground := .chain }], guard := none },
 { dst := some 8, op := .alloc 68, type := 0, pos := "ref.go:325", after := #[], guard := none },
 { dst := some 9, op := .alloc 68, type := 0, pos := "ref.go:325", after := #[], guard := none },
 { dst := none, op := .store 68 (.tmp 8) (.tmp 24), type := 0, pos := "ref.go:325", after := #[{ on := 5, ground := .data }, { on := 1, ground := .data }, { on := 4, ground := .chain }, { on := 0, ground := .phase }, { on := 1, ground := .phase }, { on := 2, ground := .textOnly .lateStores }, { on := 3, ground := .textOnly .lateStores }, { on := 4, ground := .textOnly .lateStoresUnsure }, { on := 5, ground := .phase }, { on := 6, ground := .phase }], guard := none },
 { dst := none, op := .store 68 (.tmp 9) (.tmp 27), type := 0, pos := "ref.go:325", after := #[{ on := 6, ground := .data }, { on := 4, ground := .data }, { on := 7, ground := .chain }, { on := 0, ground := .phase }, { on := 1, ground := .phase }, { on := 2, ground := .phase }, { on := 3, ground := .phase }, { on := 4, ground := .phase }, { on := 5, ground := .phase }, { on := 6, ground := .phase }, { on := 7, ground := .phase }], guard := none }]
theorem zo0:∀c a d b e f g:Bool,(Yp .any zhV.toArray #[c,a,d,b,e,f,g,Xd,Xd]).isEmpty=Xd\/(e=Xc/\(a=Xd\/b=Xd))\/(a=Xc/\c=Xd)\/(b=Xc/\d=Xd):=by decide+kernel
theorem zm1:∀c a d b e f g:Bool,(!((!a || c) &&(!b || d) &&(!e || (a && b))) || (Yp .any zhV.toArray #[c,a,d,b,e,f,g,Xd,Xd]).all fun i=>(i == 0 && !c) || (i == 1 && !a && c) || (i == 2 && !d) || (i == 3 && !b && d) || (i == 4 && !e && a && b) || (i == 5 && !f) || (i == 6 && !g) || (i == 7 && c && a && d && b && e && f && g))=Xc:=by decide+kernel
theorem zo1 (l0 l1 l2 l3 l4 l5 l6:Bool) (i:Nat) (a:l1=Xc->l0=Xc) (b:l3=Xc->l2=Xc) (c:l4=Xc->l1=Xc/\l3=Xc) (hi:i∈Yp .any zhV.toArray #[l0,l1,l2,l3,l4,l5,l6,Xd,Xd]):(i=0/\l0=Xd)\/(i=1/\l1=Xd/\l0=Xc)\/(i=2/\l2=Xd)\/(i=3/\l3=Xd/\l2=Xc)\/(i=4/\l4=Xd/\l1=Xc/\l3=Xc)\/(i=5/\l5=Xd)\/(i=6/\l6=Xd)\/(i=7/\l0=Xc/\l1=Xc/\l2=Xc/\l3=Xc/\l4=Xc/\l5=Xc/\l6=Xc):=by
 have d:((!l1 || l0) &&(!l3 || l2) &&(!l4 || (l1 && l3)))=Xc:=by
  cases l0 <;> cases l1 <;> cases l2 <;> cases l3 <;> cases l4 <;> simp at a b c⊢
 have a:=zm1 l0 l1 l2 l3 l4 l5 l6;rw[d,Bool.not_true,Bool.false_or]at a;have h:=Yk.1 a i hi;simpa [and_assoc,or_assoc]using h
structure zkQ (W0:Xn) (v:Xq) (q:Ar) (O1 O2 Z0:List Xq) (l0 l1 l2 l3 l4 l5 l6:Bool) (t23 t24 t25 t26 t27 t8 t9:Xq) (W:Xn):Prop where
 g:zc W0 W
 h0:l0=Xc->t23=v
 h1:l1=Xc->t24= Xi O1.toArray
 h2:l2=Xc->t25=arA q
 h3:l3=Xc->zr arE W t26 [q]
 h4:l4=Xc->t27= Xi O2.toArray
 h5:l5=Xc->∃b,t8= Xj (Xa ⟨b,0,Xb⟩)/\Box W b Z0/\W0.heap.size<=b
 h6:l6=Xc->∃b,t9= Xj (Xa ⟨b,0,Xb⟩)/\Box W b Z0/\W0.heap.size<=b
 ne:l5=Xc->l6=Xc->t8≠t9
 c1:l1=Xc->l0=Xc
 c3:l3=Xc->l2=Xc
 c4:l4=Xc->l1=Xc/\l3=Xc
section
variable{W0:Xn} {v:Xq} {q:Ar} {O1 O2 Z0:List Xq} {l0 l1 l2 l3 l4 l5 l6:Bool} {t23 t24 t25 t26 t27 t8 t9:Xq} {W W':Xn}
theorem zkQ.aA (h:zkQ W0 v q O1 O2 Z0 l0 l1 l2 l3 l4 l5 l6 t23 t24 t25 t26 t27 t8 t9 W) (k:zc W W'):zkQ W0 v q O1 O2 Z0 l0 l1 l2 l3 l4 l5 l6 t23 t24 t25 t26 t27 t8 t9 W':=
 ⟨h.g.trans k,h.h0,h.h1,h.h2,fun e=>(h.h3 e).aA k,h.h4,fun e=>by obtain⟨b,x,y,z⟩:=h.h5 e;exact⟨b,x,y.aA k,z⟩,fun e=>by obtain⟨b,x,y,z⟩:=h.h6 e;exact⟨b,x,y.aA k,z⟩,h.ne,h.c1,h.c3,h.c4⟩
def Jw (l0 l1 l2 l3 l4 l5 l6:Bool):Nat:=(!l0).toNat+(!l1).toNat+(!l2).toNat+(!l3).toNat+(!l4).toNat+(!l5).toNat+(!l6).toNat
theorem zlk {pa:Nat} (A:Xq->Xq->Xq->Xq->Xq->Xq->Xq->Act)
  (am:∀c d e b f i j,(A c d e b f i j).eval (.tmp 0)=v) (an:∀c d e b f i j,(A c d e b f i j).eval (.tmp 3)= Xj (Xa ⟨pa,0,Xb⟩))
  (I:∀c d e b f i j,(A c d e b f i j).eval (.tmp 23)=c) (a0:∀c d e b f i j,(A c d e b f i j).eval (.tmp 24)=d) (a1:∀c d e b f i j,(A c d e b f i j).eval (.tmp 25)=e) (a2:∀c d e b f i j,(A c d e b f i j).eval (.tmp 26)=b) (a3:∀c d e b f i j,(A c d e b f i j).eval (.tmp 27)=f) (ao:∀c d e b f i j,(A c d e b f i j).eval (.tmp 8)=i) (ap:∀c d e b f i j,(A c d e b f i j).eval (.tmp 9)=j)
  (ae:∀c d e b f i j y,(A c d e b f i j).put (Xa 23) y=A y d e b f i j) (af:∀c d e b f i j y,(A c d e b f i j).put (Xa 24) y=A c y e b f i j) (ag:∀c d e b f i j y,(A c d e b f i j).put (Xa 25) y=A c d y b f i j) (ah:∀c d e b f i j y,(A c d e b f i j).put (Xa 26) y=A c d e y f i j) (ai:∀c d e b f i j y,(A c d e b f i j).put (Xa 27) y=A c d e b y i j) (ba:∀c d e b f i j y,(A c d e b f i j).put (Xa 8) y=A c d e b f y j) (bb:∀c d e b f i j y,(A c d e b f i j).put (Xa 9) y=A c d e b f i y)
  (aj:∀c d e b f i j y,(A c d e b f i j).put Xb y=A c d e b f i j)
  (b5:zr arE W0 v l) (b2:zrc l) (ay:jU q) (az:Box W0 pa (arv q))
  (aw:∀W B C b,B≠C->zc W0 W->Box W B (zz (tab (zl l)))->Box W C (zz (tab (zl [q])))->W0.heap.size<=B->W0.heap.size<=C->Q .normal (A v (Xi (zz (tab (zl l))).toArray) (arA q) b (Xi (zz (tab (zl [q]))).toArray) (Xj (Xa ⟨B,0,Xb⟩)) (Xj (Xa ⟨C,0,Xb⟩))) W)
  (c d e b f i j:Xq):(Code.region id zhV.toArray Xc).wp prog Q (A c d e b f i j) W0:=by
 have a6:(zz (tab (zl l))).length=384:=Zs _;have a7:(zz (tab (zl [q]))).length=384:=Zs _;have X:(zz (tab fun _=>on0)).length=384:=Zs _;have aa:∀W,zc W0 W->Xp prog 16 #[v] W fun x m=>x= Xl (Xi (zz (tab (zl l))).toArray)/\zc W m:=fun W ax=>Ze v l W (b5.aA ax) b2;have ab:∀W Y,zr arE W Y [q]->Xp prog 16 #[Y] W fun x m=>x= Xl (Xi (zz (tab (zl [q]))).toArray)/\zc W m:=fun W Y b4=>Ze Y [q] W b4 (zo5 ay);have ac:=JT (tab (zl l));have ad:=JT (tab (zl [q]));have M:∀W:Xn,Box (W.alloc (Xk (zz (tab fun _=>on0)).toArray 68)) W.heap.size (zz (tab fun _=>on0)):=fun W=>Box.aE _ _ _ rfl;generalize zz (tab (zl l))=H at*;generalize zz (tab (zl [q]))=V at*;have T:∀(U:Nat) (s t u w n p r:Bool) (c d e b f i j:Xq) (W:Xn),Jw s t u w n p r=U->zkQ W0 v q H V (zz (tab fun _=>on0)) s t u w n p r c d e b f i j W->wpAnyH prog .any zhV.toArray Q (fun _=>True) (U+2) #[s,t,u,w,n,p,r,Xd,Xd] (A c d e b f i j) W:=by
  intro U;induction U with
  | zero=>
   intro s t u w n p r c d e b f i j W h g;obtain⟨rfl,rfl,rfl,rfl,rfl,rfl,rfl⟩:s=Xc/\t=Xc/\u=Xc/\w=Xc/\n=Xc/\p=Xc/\r=Xc:=by
    revert h;unfold Jw;cases s <;> cases t <;> cases u <;> cases w <;> cases n <;> cases p <;> cases r <;> simp
   obtain⟨B,rfl,a8,P⟩:=g.h5 rfl;obtain⟨C,rfl,a9,R⟩:=g.h6 rfl;have F:B≠C:=fun x=>g.ne rfl rfl (by rw[x]);obtain rfl:=g.h0 rfl;obtain rfl:=g.h1 rfl;obtain rfl:=g.h2 rfl;obtain rfl:=g.h4 rfl;refine wpAnyH_all (rs:=[7]) Kr Sm ?_;intro b7 N;rw[Yb]at N;subst N;refine ZX Xb (fun _ m=>Box m B H/\Box m C (zz (tab fun _=>on0))/\zc W0 m) rfl rfl rfl (zN.storeAll 68 (.tmp 8) (.tmp 24) rfl B (ao ..) H (a0 ..) a8 (by rw[a6,X]) (Rx X zst) ac (fun m Z K bc=>⟨Z,a9.grown K (fun x=>F x.symm),zd g.g K P⟩)) ?_;rintro y bd ⟨ar,L,au⟩;rw[aj];refine⟨trivial,?_⟩;refine wpAnyH_all (rs:=[8]) Kr Sm ?_;intro b7 N;rw[Yb]at N;subst N;refine ZX Xb (fun _ m=>Box m B H/\Box m C V/\zc W0 m) rfl rfl rfl (zN.storeAll 68 (.tmp 9) (.tmp 27) rfl C (ap ..) V (a3 ..) L (by rw[a7,X]) (Rx X zst) ad (fun m Z K bc=>⟨ar.grown K F,Z,zd au K R⟩)) ?_;rintro y ak ⟨av,a4,a5⟩;rw[aj];refine⟨trivial,?_⟩;exact wpAnyH_done Kr (aw ak B C _ F a5 av a4 P R) _
  | succ U G=>
   intro s t u w n p r c d e b f i j W h g;refine⟨fun aq=>?_,fun b6 b1=>?_⟩
   ·rcases zo0 s t u w n p r with k|⟨k,z⟩|⟨k,z⟩|⟨k,z⟩
    ·rw[aq]at k;cases k
    ·have:=g.c4 k
     rcases z with z | z;·rw[this.1]at z;cases z
     rw[this.2]at z;cases z
    ·rw[g.c1 k]at z;cases z
    rw[g.c3 k]at z;cases z
   rcases zo1 s t u w n p r b6 g.c1 g.c3 g.c4 b1 with⟨rfl,rfl⟩|⟨rfl,rfl,rfl⟩|⟨rfl,rfl⟩|⟨rfl,rfl,rfl⟩|⟨rfl,rfl,rfl,rfl⟩|⟨rfl,rfl⟩|⟨rfl,rfl⟩|⟨rfl,rfl,rfl,rfl,rfl,rfl,rfl,rfl⟩
   ·refine ZX (Xa 23) (fun y m=>y=v/\m=W) rfl rfl rfl (zN.val (v:=v) (by rw[<-am c d e b f i j];rfl) ⟨rfl,rfl⟩) ?_
    rintro y m ⟨rfl,rfl⟩;rw[ae];refine⟨trivial,G Xc t u w n p r _ _ _ _ _ _ _ _ (by unfold Jw at h⊢;simp at h⊢;omega) ⟨g.g,fun _=>rfl,g.h1,g.h2,g.h3,g.h4,g.h5,g.h6,g.ne,fun _=>rfl,g.c3,g.c4⟩⟩
   ·refine ZX (Xa 24) (fun y m=>y= Xi H.toArray/\zc W m) rfl rfl rfl (zN.call [v] rfl func16 rfl rfl (by rw[mP,Xt,I,g.h0 rfl]) ((aa W g.g).mono (fun x m k=>⟨_,k.1,rfl,k.2⟩))) ?_
    rintro y m ⟨rfl,D⟩;rw[af];have a:=g.aA D;refine⟨trivial,G Xc Xc u w n p r _ _ _ _ _ _ _ _ (by unfold Jw at h⊢;simp at h⊢;omega) ⟨a.g,a.h0,fun _=>rfl,a.h2,a.h3,a.h4,a.h5,a.h6,a.ne,fun _=>rfl,a.c3,fun k=>⟨rfl,(a.c4 k).2⟩⟩⟩
   ·refine ZX (Xa 25) (fun y m=>y=arA q/\m=W) rfl rfl rfl (zN.val (v:=arA q) (zmE (.tmp 3) rfl pa (an ..) (az.aA g.g)) ⟨rfl,rfl⟩) ?_
    rintro y m ⟨rfl,rfl⟩;rw[ag];refine⟨trivial,G s t Xc w n p r _ _ _ _ _ _ _ _ (by unfold Jw at h⊢;simp at h⊢;omega) ⟨g.g,g.h0,g.h1,fun _=>rfl,g.h3,g.h4,g.h5,g.h6,g.ne,g.c1,fun _=>rfl,g.c4⟩⟩
   ·refine ZX (Xa 26) (fun y m=>zr arE m y [q]/\zc W m) rfl rfl rfl (zN.oneArea (.tmp 25) rfl q (by rw[a1,g.h2 rfl]) ⟨Zw arE W q _ _ rfl (by show 40<=_;omega),za _ _⟩) ?_
    rintro y m ⟨b3,D⟩;rw[ah];have a:=g.aA D;refine⟨trivial,G s t Xc Xc n p r _ _ _ _ _ _ _ _ (by unfold Jw at h⊢;simp at h⊢;omega) ⟨a.g,a.h0,a.h1,a.h2,fun _=>b3,a.h4,a.h5,a.h6,a.ne,a.c1,fun _=>rfl,fun k=>⟨(a.c4 k).1,rfl⟩⟩⟩
   ·refine ZX (Xa 27) (fun y m=>y= Xi V.toArray/\zc W m) rfl rfl rfl (zN.call [b] rfl func16 rfl rfl (by rw[mP,Xt,a2]) ((ab W b (g.h3 rfl)).mono (fun x m k=>⟨_,k.1,rfl,k.2⟩))) ?_
    rintro y m ⟨rfl,D⟩;rw[ai];have a:=g.aA D;refine⟨trivial,G s Xc u Xc Xc p r _ _ _ _ _ _ _ _ (by unfold Jw at h⊢;simp at h⊢;omega) ⟨a.g,a.h0,a.h1,a.h2,a.h3,fun _=>rfl,a.h5,a.h6,a.ne,a.c1,a.c3,fun _=>⟨rfl,rfl⟩⟩⟩
   ·refine ZX (Xa 8) (fun y m=>y= Xj (Xa ⟨W.heap.size,0,Xb⟩)/\Box m W.heap.size (zz (tab fun _=>on0))/\zc W m) rfl rfl rfl (zN.cD rfl ⟨rfl,M W,za _ _⟩) ?_
    rintro y m ⟨rfl,E,D⟩;rw[ba];have a:=g.aA D;refine⟨trivial,G s t u w n Xc r _ _ _ _ _ _ _ _ (by unfold Jw at h⊢;simp at h⊢;omega) ⟨a.g,a.h0,a.h1,a.h2,a.h3,a.h4,fun _=>⟨_,rfl,E,bS g.g⟩,a.h6,fun _ a5=>?_,a.c1,a.c3,a.c4⟩⟩;obtain⟨al,rfl,L,_⟩:=g.h6 a5;intro x;cases x;exact absurd L.lt (Yo _)
   ·refine ZX (Xa 9) (fun y m=>y= Xj (Xa ⟨W.heap.size,0,Xb⟩)/\Box m W.heap.size (zz (tab fun _=>on0))/\zc W m) rfl rfl rfl (zN.cD rfl ⟨rfl,M W,za _ _⟩) ?_
    rintro y m ⟨rfl,E,D⟩;rw[bb];have a:=g.aA D;refine⟨trivial,G s t u w n p Xc _ _ _ _ _ _ _ _ (by unfold Jw at h⊢;simp at h⊢;omega) ⟨a.g,a.h0,a.h1,a.h2,a.h3,a.h4,a.h5,fun _=>⟨_,rfl,E,bS g.g⟩,fun a4 _=>?_,a.c1,a.c3,a.c4⟩⟩;obtain⟨al,rfl,L,_⟩:=g.h5 a4;intro x;cases x;exact absurd L.lt (Yo _)
   unfold Jw at h;simp at h
 refine wp_region_held (S:=fun _=>True) z3 ?_;have b0:zc W0 { W0 with drawn:=W0.drawn+1 }:=show Below _ _ _ from Below.drew (bR _ _);exact T 7 Xd Xd Xd Xd Xd Xd Xd c d e b f i j _ rfl ⟨b0,fun k=>(by cases k),fun k=>(by cases k),fun k=>(by cases k),fun k=>(by cases k),fun k=>(by cases k),fun k=>(by cases k),fun k=>(by cases k),fun k=>(by cases k),fun k=>(by cases k),fun k=>(by cases k),fun k=>(by cases k)⟩
end
def zr0 (R:List Ar × Int) (w:Xn) (e:Ending) (w':Xn):Prop:=(∃u,e= Xl (Xm #[u,Xe Xf R.2])/\zb arE w.heap.size w' u R.1)/\zc w w'
def zfM (l:List Ar) (a:Ar) (k:Nat):Nat->On:=fun j=>if j<k/\Z8 a j=Xc then z5 a j else zl l j
theorem zpC (l a):zfM l a 0=zl l:=by funext j;unfold zfM;rw[kF Wm]
theorem zrH (l a) (k:Nat):zfM l a k k=zl l k:=by unfold zfM;rw[kF Wm]
theorem zqS (h:Z8 R k=Xc):upd (zfM l R k) k (z5 R k)=zfM l R (k+1):=by grind [upd,zfM,Z8]
theorem zpD (h:Z8 R k=Xd):zfM l R k=zfM l R (k+1):=by grind [zfM,Z8,Yq]
theorem zqT (l a):tab (zfM l a 64)=tab (ziK l a):=zqb fun k b=>by grind [zfM,ziK,Z8]
theorem zpS (a) (k:Nat):zl [a] k=if Z8 a k=Xc then z5 a k else on0:=rfl
theorem zmP (a) (k:Nat):(zl [a] k).is=Z8 a k:=by
 rw[zpS];cases h:Z8 a k with
 | true=>rfl
 | false=>rfl
theorem zrz (c:k<64) (h:Z8 R k=Xc) (b:(zl l k).is=Xc):zor l R.fr (R.tz - R.fr)=Xc:=zpc.2 ⟨k,c,Hm (jC.1 h),b⟩
theorem zpb (h:∀k,k<64->Z8 R k=Xc->(zl l k).is=Xd):zor l R.fr (R.tz - R.fr)=Xd:=zqy.2 fun k b c=>h k b (jC.2 Wm)
def Frk (w0:Xn) (hi b:Nat) (w:Xn) (vl:Sli) (L:List Int) (m:Ma) (l:List Ar) (w':Xn):Prop:=∃V' m' vt' T',Mk w0 hi w' b vl L V' m' vt' T'/\zI hi w w'/\qF m' T'/\(m'.sp=m.sp++ [⟨Xc,l,qU⟩]/\m'.fl=m.fl/\m'.aB=m.aB/\m'.fs.length=m.fs.length)
theorem zeI (p x t) (r:o.op= .store t p x) (base:Nat) (v:Xq) (l:List α) (b:zb E base w v l)
  (g i j:Nat) (m:v.ownBlock=Xa g) (e y:α) (hi:l[i]? =Xa e) (cs:List Xq) (q:(Tryz.prog.info? t).map (·.size)=Xa cs.length) (z:E.enc y=splice (E.enc e) j cs) (n:j+cs.length<=E.k) (k:∀u∈cs,u.oneCell'=Xc)
  (ad:Addr) (hp:a.eval p= Xj (Xa ad)) (d:ad=⟨g,i*E.k+j,Xb⟩) (c:Xq) (s:a.eval x=c) (f:c.cells=cs.toArray)
  (h:∀w',zb E base w' v (l.set i y)->w.grownBy w' (Xa g)->w'.heap.size=w.heap.size->M undef w'):zN prog o a w M:=by grind [zbh,zeJ]
theorem Mk.entry (h:Mk w0 hi w b vl L V m vt T) (hp:zt w k 55 D) (f:hi<=k) (a:w.grownBy w' (Xa k)):Mk w0 hi w' b vl L V m vt T:=by
 have d:b≠k:=fun e=>by
  subst e;have k:w.heap[b]? =_:=h.box;rw[show w.heap[b]? =_ from hp]at k;cases k
 have r:=h.rows;obtain⟨k,g,i,j,cs,l,n,p,q⟩:=r.kept a hp;exact⟨zd h.gr a (nT r.bh f),h.hb,h.box.beside a (fun f e=>by cases e;exact d),h.lr,h.lc,h.lb,⟨nT r.hw a.size,r.bh,k Dc,g (.inl Dc),r.aZ,i (.inl Dc),r.bG,r.sq,j (.inl Dc),r.bE,cs Dc,l Dc (.inl Dc),n Dc,p Dc Dc,q Dc,r.ap⟩⟩
theorem zpo (s0:Sp) (fp:Mk w0 hi w b vl L V m vt T) (d6:qF m T) (c5:m.sp=[s0]):
  Xp prog 26 #[Xj (Xa ⟨b,0,Xb⟩)] w fun e w'=>(∃v,e= Xl v)/\Frk w0 hi b w vl L m s0.aC w':=by
 have aq:Xo (Mk w0 hi w b vl L V m vt T):=fp;have h9:Xo (qF m T):=d6;have f7:Xo (m.sp=[s0]):=c5;obtain⟨K,rfl⟩:∃K,T=[K]:=Yc.1 (by rw[d6.tl,c5];rfl);obtain⟨j0,g3,g5,g8⟩:=fp.rows.sp;obtain⟨q,rfl⟩:∃q,j0=[q]:=Yc.1 (by rw[g5,c5];rfl);obtain⟨c3,dw,bt⟩:=g3.aG Sm;have bt:V.sp.x=(O (Xa ⟨c3,0,Xb⟩) 1 dw):=bt;have b5:Xo (V.sp.x=(O (Xa ⟨c3,0,Xb⟩) 1 dw)):=bt;have dt:Xo (zb Qm w0.heap.size w (V.sp.x) [q]):=g3;have i4:Xo ([q].length=m.sp.length):=g5;have i5:Xo (∀(i:Nat) x d9,[q][i]? =Xa x->m.sp[i]? =Xa d9->x.aF=d9.aF/\zb arE w0.heap.size w x.ar.v d9.aC/\x.tab=JJ/\d9.tb=qU):=show∀i,_ from g8;have g9:Xo (zb arE w0.heap.size w q.ar.v s0.aC):=(g8 0 q s0 rfl (Rr c5)).2.1;have dm:Xo ((wrL s0.aC).1=0):=(d6.aO s0 (by rw[c5];simp)).1;have dg:Xo (∀du,zb arE w0.heap.size du q.ar.v s0.aC->Xp prog 16 #[q.ar.x] du fun e w'=>e= Xl (Xi (zz (tab (zl s0.aC))).toArray)/\zc du w'):=dD<|fun du ij=>Ze q.ar.v s0.aC du ij.at (jJ.1 dm).2.cA;have gn:=zbW;obtain⟨gi,dn⟩:=kA (zz (tab fun _=>on0));rw[dn.out]at gn;have dp:Xo (gi.length=384):=dD<|by rw[<-dn.out,Zs]
 have dh:Xo ((zz (tab (zl s0.aC))).length=384):=Zs _;have di:Xo (∀v∈zz (tab (zl s0.aC)),v.oneCell'=Xc):=JT _;have db:Xo (∀a,a<64->(zz (tab (zl s0.aC)))[a*6+3]? =Xa (Xh (zl s0.aC a).sh)):=show∀a,_ from fun a fw=>Qs (zaA fw) 3 _ rfl;generalize zz (tab (zl s0.aC))=al at dg dh di db;clear fp d6 c5 g3 g5 g8 bt;go_enter func26,ntmps26;try go_upto_region 0 with fail
 obtain⟨h,s⟩:=Ww fun f=>zt f b 81 [vl.x,V.f.x,I6 m.aB,V.s.x,V.sb.x,V.sq.x,V.db.x,V.dq.x,V.fl.x,I6 m.cnt,V.ca.x,V.sp.x,vt.x]/\zb Qm w0.heap.size f (O (Xa ⟨c3,0,Xb⟩) 1 dw) [q];have l:h w.drew:=(s _).2 ⟨aq.box.aA (gW _),by rw[<-b5.out];exact dt.aA (gW _)⟩;have be:∀d:zg h,d.world.cell? ⟨b,11,Xb⟩=Xa (O (Xa ⟨c3,0,Xb⟩) 1 dw):=fun d=>by
  have:=((s _).1 d.holds).1.box.c 11 rfl;rw[b5.out]at this;exact this
 have cu:∀d:zg h,d.world.cell? ⟨c3,1,Xb⟩=Xa (q.ar.x):=fun d=>by
  have:=((s _).1 d.holds).2.one (i:=0) (x:=q) rfl 1 _ rfl;rw[zZ,Ya]at this;exact this
 have ai:Nonempty (zg h):=⟨⟨_,l⟩⟩;refine zQ (I:=h) 20 [(15,fun v=>∃F,v= O (Xa ⟨F,0,Xb⟩) 1 1),(16,fun v=>∃F ia,v= O (Xa ⟨F,0,Xb⟩) 2 ia)] (fun f=>zc w f) l (gW _) z3 Kr rfl rfl Dc (Sb ⟨_,0,rfl⟩ ⟨_,0,0,rfl⟩) Kr ?_;simp only[Xw,Xx];iterate 2 refine zi ?_
 refine zW (.tmp 6) ⟨b,0,Xb⟩ rfl rfl rfl rfl ?_;refine Uq ?_;iterate 4 refine zi ?_
 refine zW (.tmp 11) ⟨b,0,Xb⟩ rfl rfl rfl rfl ?_;refine Uq ?_;iterate 7 refine zi ?_
 refine zH rfl rfl (fun v f=>zc w f/\zr Qm f v [⟨Xc,q.ar,zE,zE,zE,zE,zE,zE,zE,zE⟩]) (fun w' bb ba=>?_) (fun gq ey=>?_);·obtain⟨ez,cv⟩:=(s _).1 bb;refine zN.step (v:= O (Xa ⟨w'.heap.size,0,Xb⟩) 1 1) (w':=w'.alloc (Xk #[Xh Xc,q.ar.x,eS,eS,eS,eS,eS,eS,eS,eS] 63)) (by clear be cu;simp only[execOp];go_simp) ⟨(s _).2 ⟨ez.aA (za _ _),cv.aA (za _ _)⟩,⟨_,rfl⟩,ba.trans (za _ _),Zw Qm w' ⟨Xc,q.ar,zE,zE,zE,zE,zE,zE,zE,zE⟩ _ _ rfl Dc⟩
 obtain⟨fn,rfl⟩:=ey;refine Uq ?_;refine zH rfl rfl (fun v f=>∃f2,zc w f2/\f2.grownBy f (Xa c3)/\zb Qm w0.heap.size f v [q,⟨Xc,q.ar,zE,zE,zE,zE,zE,zE,zE,zE⟩]) (fun w' bb ba=>?_) (fun gq ey=>?_)
 ·obtain⟨ez,cv⟩:=(s _).1 bb;obtain⟨eg,fz⟩:=ba;obtain⟨j3,gu,ef,gm,e9,fw⟩:=jO (E:=Qm) (w:=w') 39 cv (O (Xa ⟨fn,0,Xb⟩) 1 1) [⟨Xc,q.ar,zE,zE,zE,zE,zE,zE,zE,zE⟩] fz (by show(1+1)*224<=_;omega) (nT (bS aq.gr) (bS eg));obtain⟨ie,ib,rfl⟩:=gm.aG Sm;refine zN.step (v:= O (Xa ⟨ie,0,Xb⟩) 2 ib) (w':=gu) ?_ ⟨(s _).2 ⟨zt.row cv e9 ez Dc,fw _ [q] (nR _) cv⟩,⟨_,_,rfl⟩,w',eg,e9,gm⟩;clear be cu;simp only[execOp,resolve,invoke,builtin,pure_bind,Xu,Xv,Xz,mP,Xt];exact Eq.trans (congrArg (fun r=>Result.andThen r (fun d3 w'=>Result.ok (Next.value d3) w')) ef) rfl
 obtain⟨b8,bk,rfl⟩:=ey;refine Uq ?_;refine zW (.tmp 5) ⟨b,0,Xb⟩ rfl rfl rfl rfl ?_;refine Uq ?_;iterate 2 refine zi ?_
 refine qV fun aa e6 ft=>?_;obtain⟨f2,b9,ci,cx⟩:=ft;have c8:Xo (zt aa b 81 [vl.x,V.f.x,I6 m.aB,V.s.x,V.sb.x,V.sq.x,V.db.x,V.dq.x,V.fl.x,I6 m.cnt,V.ca.x,V.sp.x,vt.x]):=((s _).1 e6).1;have an:f2.grownBy aa (V.sp.x).ownBlock:=Rx b5.out ci
 have i0:Xo (MkR w0.heap.size hi aa { V with sp:=⟨Xa ⟨b8,0,Xb⟩,2,bk⟩ } { m with sp:=m.sp++ [⟨Xc,s0.aC,qU⟩] } vt [K]):=(aq.rows.aA b9).addSp (dt.aA b9) i4 (fun i x d9 cq c5=>by
  obtain⟨i7,i8,i9⟩:=i5.out i x d9 cq c5;exact⟨i7,i8.aA b9,i9⟩) an ⟨Xa ⟨b8,0,Xb⟩,2,bk⟩ q.ar (g9.aA b9) cx
 have h0:Xo (zc w0 aa):=zc.row (dt.aA b9) an (aq.gr.trans b9);have fc:Xo (zI hi w aa):=(zI.aA b9).trans (zI.row (dt.aA b9) an (fun iv co=>co.2.2.2.2.2.2.1 rfl));have gv:Xo (zb arE w0.heap.size aa q.ar.v s0.aC):=dD<|by
  obtain⟨j2,ik⟩:=(dt.aA b9).obj (g:=c3) (Rr b5.out);exact(g9.aA b9).kind ci ik Dc
 have hn:Xo (zb Qm w0.heap.size aa (O (Xa ⟨b8,0,Xb⟩) 2 bk) [q,⟨Xc,q.ar,zE,zE,zE,zE,zE,zE,zE,zE⟩]):=cx;clear b9 ci an cx e6 l be cu ai;have bz:=c8.box.c 11 rfl;rw[b5.out]at bz;have c0:=c8.box.f;go_upto_region 1 with fail;clear bz c0;obtain⟨c1,bq⟩:=kB (aa.setCell ⟨b,11,Xb⟩ (O (Xa ⟨b8,0,Xb⟩) 2 bk));have ag:aa.grownBy c1 (Xa b):=by rw[<-bq];exact jY _ _ _ _
 have gc:Xo (Mk w0 hi c1 b vl L { V with sp:=⟨Xa ⟨b8,0,Xb⟩,2,bk⟩ } { m with sp:=m.sp++ [⟨Xc,s0.aC,qU⟩] } vt [K]):=dD<|⟨zd h0 ag aq.hb,aq.hb,by rw[<-bq];exact c8.set 11 _,aq.lr,aq.lc,aq.lb,i0.var ag c8 ag.size (.inl rfl)⟩;have ha:Xo (zI hi w c1):=fc.trans (zI.kind ag c8 (fun _ co=>absurd rfl co.1));have gx:Xo (zb arE w0.heap.size c1 q.ar.v s0.aC):=gv.kind ag c8 Dc;have hp:Xo (zb Qm w0.heap.size c1 (O (Xa ⟨b8,0,Xb⟩) 2 bk) [q,⟨Xc,q.ar,zE,zE,zE,zE,zE,zE,zE,zE⟩]):=hn.kind ag c8 Dc;rw[bq];clear bq ag;have b3:Xo (w0.heap.size<=b/\zr byE w0 (vl.x) L/\vl.n<=vl.c/\∀ax∈L,0<=ax/\ax<256):=dD<|⟨aq.hb,aq.lr,aq.lc,aq.lb⟩;have bz:c1.cell? ⟨b,11,Xb⟩=Xa (O (Xa ⟨b8,0,Xb⟩) 2 bk):=gc.box.box.c 11 rfl;have iz:c1.cell? ⟨b8,1,Xb⟩=Xa (q.ar.x):=by
  have:=hp.one (i:=0) (x:=q) rfl 1 _ rfl;rw[zZ,Ya]at this;exact this
 have ed:=dg.out c1 gx.out;go_wp2_with fail;refine ed.mono ?_;clear ed bz iz;rintro e es ⟨rfl,fo⟩;obtain⟨aj,dj⟩:=kA es.heap.size;have hh:=dD (gc.aA fo);have hb:=dD (ha.trans (zI.aA fo));clear fo;go_upto_region 2 with(refine z6 rfl 68 (.tmp 2) (.tmp 33) rfl es.heap.size rfl al rfl (zt.aE es gi 68 rfl) (by rw[dh.out,dp.out]) (Rx dp.out zst) di.out ?_)
 intro dv fl gk iw;have ch:zc es dv:=zd (za _ _) gk (nR _);have ep:=dD (hh.aA ch);have hd:=dD (hb.trans (zI.aA ch));rw[dj.out]at fl⊢;have hu:Xo (zt dv aj 68 al):=fl;clear fl gk iw ch gn;try simp only[Yu]
 have bh:=ep.box.box.c 12 rfl;have dk:Xo (w0.heap.size<=dv.heap.size):=dD<|bS ep.gr;go_wp2_with (at_builtin;refine zy (E:=zdl) rfl (.tmp 38) (.tmp 40) rfl w0.heap.size _ [K] rfl (ep.rows.tt.aA (za _ _)) _ [fun _=>en0] rfl (Zw zdl dv (fun _=>en0) _ _ rfl Dc) ?qb ?qc ?_)
 case qb=>
  show(1+1)*1536<=_;omega
 case qc=>exact nT dk (bS (za _ _))
 intro j4 a4 cy dy;obtain⟨Y,ar,rfl⟩:=cy.aG Sm;have c6:zb zdl w0.heap.size a4 (O (Xa ⟨Y,0,Xb⟩) 2 ar) ([K]++ [fun _=>en0]):=cy;obtain⟨i6,cl⟩:=kB (dv.alloc (Xk (zdl.enc (fun _=>en0)).toArray 56));have ev:=gP cl;have M:i6.grownBy a4 (vt.x).ownBlock:=Ry cl dy;clear dy cl cy;have a7:=ep.aA ev;have d0:Xo (zt a4 b 81 [vl.x,V.f.x,I6 m.aB,V.s.x,V.sb.x,V.sq.x,V.db.x,V.dq.x,V.fl.x,I6 m.cnt,V.ca.x,O (Xa ⟨b8,0,Xb⟩) 2 bk,vt.x]):=zt.row a7.rows.tt M a7.box Dc;have fj:Xo (MkR w0.heap.size hi a4 { V with sp:=⟨Xa ⟨b8,0,Xb⟩,2,bk⟩ } { m with sp:=m.sp++ [⟨Xc,s0.aC,qU⟩] } ⟨Xa ⟨Y,0,Xb⟩,2,ar⟩ ([K]++ [fun _=>en0])):=a7.rows.addT M ⟨Xa ⟨Y,0,Xb⟩,2,ar⟩ c6;have h8:Xo (zc w0 a4):=zc.row a7.rows.tt M a7.gr;have fd:Xo (zI hi w a4):=(hd.trans (zI.aA ev)).trans (zI.row a7.rows.tt M (fun iv co=>co.2.2.2.2.2.2.2.1 rfl));have eq:Xo (zt a4 aj 68 al):=zt.row a7.rows.tt M (hu.aA ev) Dc;clear M c6 ev bh;have bh:=d0.box.c 12 rfl;have c0:=d0.box.f;go_upto_region 3 with fail;clear bh c0;obtain⟨bj,br⟩:=kB (a4.setCell ⟨b,12,Xb⟩ (O (Xa ⟨Y,0,Xb⟩) 2 ar));have av:a4.grownBy bj (Xa b):=by rw[<-br];exact jY _ _ _ _
 obtain⟨j,dl⟩:∃j:Sli,Xo (j=⟨Xa ⟨Y,0,Xb⟩,2,ar⟩):=⟨_,rfl⟩;obtain⟨U,f9⟩:∃U:MaV,Xo (U={ V with sp:=⟨Xa ⟨b8,0,Xb⟩,2,bk⟩ }):=⟨_,rfl⟩;obtain⟨bw,cb⟩:∃bw:Ma,Xo (bw={ m with sp:=m.sp++ [⟨Xc,s0.aC,qU⟩] }):=⟨_,rfl⟩;have dq:Xo (Mk w0 hi bj b vl L U bw j [K,fun _=>en0]):=dD<|by
  rw[dl.out,f9.out,cb.out];exact⟨zd h8 av b3.1,b3.1,by rw[<-br];exact d0.set 12 _,b3.2.1,b3.2.2.1,b3.2.2.2,fj.var av d0 av.size (.inl rfl)⟩
 have fe:Xo (zI hi w bj):=fd.trans (zI.kind av d0 (fun _ co=>absurd rfl co.1))
 have P9:Xo (zt bj aj 68 al):=eq.beside av (fun F e=>by
  cases e;intro e;have R:a4.heap[aj]? =_:=eq.out;rw[e,show a4.heap[b]? =_ from d0.out]at R
  cases R)
 have f5:Xo (qF bw [K,fun _=>en0]):=dD<|by
  rw[cb.out];exact h9.space dm (by rw[f7.out];simp)
 have f8:Xo (bw.sp=[s0,⟨Xc,s0.aC,qU⟩]/\bw.fl=m.fl/\bw.aB=m.aB/\bw.fs.length=m.fs.length):=dD<|by
  rw[cb.out];exact⟨by show m.sp++_=_;rw[f7.out];rfl,rfl,rfl,rfl⟩
 have t:Xo (j.x= O (Xa ⟨Y,0,Xb⟩) 2 ar):=dD<|by rw[dl.out]
 rw[br];clear br av;have bh:bj.cell? ⟨b,12,Xb⟩=Xa (O (Xa ⟨Y,0,Xb⟩) 2 ar):=by rw[<-t.out];exact dq.box.box.c 12 rfl
 have ee:bj.rangeAt Y 0 (qG (tab K)):=fun aw v gl=>by
  have cp:=dq.rows.tt;(first|rw[t.out]at cp|rw[show O _ _ _=_ from t.out]at cp);have:=cp.one (i:=0) (x:=K) rfl aw v gl;rw[zZ,Ya]at this;simpa using this
 go_wp2_with (refine wpList_load_mid rfl 56 (.tmp 48) rfl Y 0 rfl (qG (tab K)) _ ee underlying56 rfl (by rw[QN,Jt];exact zsx) ?_)
 clear ee bh;have df:Xo (∀{eh:Array Oper} {c7:List Oper} {o:Oper} {d3:Act} {w:Xn} {gh:Exit->Act->Xn->Prop} (_:o.guard=Xb) (x f1:Operand) (_:o.op= .index 56 x f1) (_:d3.eval x= Xi (qG (tab K)).toArray) (i:Nat) (_:d3.eval f1=I6 (i:Int)) (_:i<64) {e:En} (_:K i=e)
  (_:wpList prog eh gh c7 (d3.put o.dst (Xi #[I6 e.kind,I6 e.n,Xh e.wr])) w),wpList prog eh gh (o :: c7) d3 w):=fun R x f1 az ad i ex e4 _ d4 d5=>zbP R x f1 az (tab K) ad i ex e4 (by rw[zaA e4,d4]) d5
 generalize qG (tab K)=j1 at df⊢;go_wp2;go_loopg [50] 64 (fun ig bg wr=>∃(c:Nat) (n:Ma) (z:List (Nat->En)) (W ab:Nat->En),c<=64/\64 - c<=ig/\bg=I6 c/\Xo (Mk w0 hi wr b vl L U n j z)/\Xo (zI hi w wr)/\Xo (qF n z)/\Xo (n.sp=[s0,⟨Xc,s0.aC,qU⟩]/\n.fl=m.fl/\n.aB=m.aB/\n.fs.length=m.fs.length)/\Xo (z[0]? =Xa W/\z[1]? =Xa ab/\(∀aw,c<=aw->W aw=K aw/\ab aw=en0))/\Xo (zt wr aj 68 al))
 exact⟨0,bw,_,K,fun _=>en0,nZ _,Wm,rfl,dq,fe,f5,f8,(show _/\_ from⟨rfl,rfl,fun _ _=>⟨rfl,rfl⟩⟩),P9⟩;obtain⟨c,n,z,W,ab,io,im,rfl,fg,ff,c9,G,am,hy⟩:=hrel;by_cases ah:c<64
 ·have ec:(c:Int)<64:=Wm
  obtain⟨b6,c2,ay,dc⟩:∃b6 c2 ay,Xo (K c=⟨b6,c2,ay⟩):=⟨_,_,_,rfl⟩;have X:Xo (W c=⟨b6,c2,ay⟩):=dD (by rw[(am.2.2 c (nR _)).1];exact dc.out);have ca:Xo (ab c=en0):=(am.2.2 c (nR _)).2;have f6:Xo (∀a5,(((z.set 0 (jM W c a5)).set 1 (jM ab c a5))[0]? =Xa (jM W c a5)/\((z.set 0 (jM W c a5)).set 1 (jM ab c a5))[1]? =Xa (jM ab c a5)/\(∀aw,c+1<=aw->jM W c a5 aw=K aw/\jM ab c a5 aw=en0))):=show∀a5,_ from fun a5=>by
   have ii:=(gS.1 am.1).1;have d6:=(gS.1 am.2.1).1;refine⟨?_,?_,fun aw gl=>?_⟩
   ·rw[sN Dc]
    exact sF ii
   ·exact sF (Si d6)
   unfold jM;rw[kF Wm,kF Wm];exact am.2.2 aw Wm
  have ao:=c9.entry0 (s0:=s0) (Rr G.1) am.1 ah;rw[X.out]at ao;obtain⟨ap,b1⟩:∃ap:Ma->En->Prop,Xo (∀p B,ap p B↔(qF p ((z.set 0 (jM W c B)).set 1 (jM ab c B))/\p.sp=[s0,⟨Xc,s0.aC,qU⟩]/\p.fl=m.fl/\p.aB=m.aB/\p.fs.length=m.fs.length)):=⟨fun p B=>_,fun _ _=>Iff.rfl⟩;obtain⟨a8,b2⟩:∃a8:Ma->En->Prop,Xo (∀p B,a8 p B↔((B=⟨b6,c2,ay⟩/\p=n/\b6=2)\/(B.kind≠2/\ap p B))):=⟨fun p B=>_,fun _ _=>Iff.rfl⟩;go_upto_region 6 with(refine df rfl (.tmp 49) (.tmp 50) rfl rfl c rfl ah dc.out ?_)
  obtain⟨a0,cc⟩:=kA wr.heap.size;obtain⟨er,bo⟩:=kB (wr.alloc (Xk #[I6 b6,I6 c2,Xh ay] 55));have eu:=gP bo;have da:=xPT bo cc;have d1:=dD (fg.aA eu);have fa:=dD (ff.trans (zI.aA eu));have fh:=dD (hy.aA eu);have dd:Xo (hi<=a0/\w.heap.size<=a0):=show _/\_ by rw[<-cc.out];exact⟨fg.rows.hw,ff.2⟩
  rw[bo,cc.out];clear bo eu;have et:=da.box.c 0 rfl;go_upto_if 56 with fail
  go_cut [50] (fun bg bx=>bg=I6 c/\∃(p:Ma) (B:En),Xo (Mk w0 hi bx b vl L U p j z)/\Xo (zI hi w bx)/\Xo (zt bx a0 55 [I6 B.kind,I6 B.n,Xh B.wr])/\Xo (zt bx aj 68 al)/\Xo (a8 p B))
  case first=>
   rcases ao with d7|⟨a,Q,R,az,ad⟩|⟨a,ax,R,az,ad,ex,e4⟩
   ·have N:Xo (a8 n ⟨b6,c2,ay⟩):=(b2 _ _).2 (.inr ⟨by rw[d7];decide,(b1 _ _).2 ⟨by rw[d7,znt am.1 am.2.1 (X.trans d7) ca.out];exact c9,G⟩⟩)
    cases d7;have ea:((0:Int) == 1)=Xd:=Dc;go_wp2;go_meet;exact⟨rfl,n,⟨0,0,Xd⟩,d1,fa,da,fh,N⟩
   ·dsimp only at R az;subst R;subst az;have bi:Xo (n.fs[a]? =Xa Q):=ad;obtain⟨iq,ir⟩:=c9.refs ad;obtain⟨bf,a6⟩:=kA n.fs.length;have fx:a<bf:=(by rw[<-a6.out];exact(gS.1 ad).1);have fy:(a:Int)< (bf:Int):=Wm;clear ad;have ea:((1:Int) == 1)=Xc:=Dc;have eb:((1:Int) == 2)=Xd:=Dc;obtain⟨F,cg,af⟩:=d1.rows.fs.aG (by rw[a6.out];omega);rw[a6.out]at af;have A:Xo (U.f.x= O (Xa ⟨F,0,Xb⟩) bf cg):=af;have Z:=d1.rows.fs;(first|rw[A.out]at Z|rw[show O _ _ _=_ from A.out]at Z);have b4:Xo (zb qR w0.heap.size er (O (Xa ⟨F,0,Xb⟩) bf cg) n.fs):=Z;clear Z af;go_upto_region 7 with fail;clear et;obtain⟨h,s⟩:=Ww fun f=>zc er f;have l:h er.drew:=(s _).2 (gW _);have cr:∀d:zg h,d.world.cell? ⟨b,1,Xb⟩=Xa (O (Xa ⟨F,0,Xb⟩) bf cg):=fun d=>(by rw[<-A.out];exact(d1.box.box.aA ((s _).1 d.holds)).c 1 rfl);have bd:=fun d:zg h=>(da.box.aA ((s _).1 d.holds)).c 1 rfl;have cm:∀d:zg h,d.world.cell? ⟨F,a*13+8,Xb⟩=Xa (I6 Q.r):=fun d=>by
     have:=(b4.aA ((s _).1 d.holds)).one bi 8 _ rfl;rw[zZ,Ya,zA]at this;exact this
    have ai:Nonempty (zg h):=⟨⟨_,l⟩⟩;refine Jk (I:=h) 14 [] l z3 Kr rfl rfl Dc Sm Kr ?_;simp only[Xw,Xx];refine jP ?_;refine zeo (.tmp 57) ⟨b,0,Xb⟩ rfl rfl rfl rfl ?_;refine Uq ?_;iterate 12 refine jP ?_
    refine zdC fun ce bc fq=>?_;have au:=(s _).1 bc;have em:=dD (d1.aA au);have fb:=dD (fa.trans (zI.aA au));have f4:=dD (da.aA au);have fi:=dD (fh.aA au);have cd:=dD (b4.aA au);clear au bc fq cr bd cm ai l;have c0:=cd.bJ rfl;have fm:ce.cell? ⟨F,a*13+8,Xb⟩=Xa (I6 Q.r):=by
     have:=cd.one bi 8 _ rfl;rw[zZ,Ya,zA]at this;exact this
    go_upto_region 8 with fail;clear fm c0;obtain⟨S,ac,ak⟩:=cd.cell (k:=a) (o:=8) rfl bi (y:={ Q with r:=Q.r+1 }) (u:=I6 (Q.r+1)) rfl Dc;obtain⟨a9,ae⟩:=kB (ce.setCell ⟨F,a*13+8,Xb⟩ (I6 (Q.r+1)));have dx:ce.setCell ⟨F,a*qR.k+8,Xb⟩ (I6 (Q.r+1))=a9:=ae;rw[dx]at S ac ak;rw[ae];rw[<-A.out]at S;have C:=em.bM (by (first|rw[A.out]|rw[show O _ _ _=_ from A.out]|(simp only[Sli.x];rw[A.out])|(simp only[Sli.x];rw[show O _ _ _=_ from A.out]));rfl) ac ak S (em.rows.ap.2.inc c9 bi);have eo:Xo (Mk w0 hi a9 b vl L U { n with fs:=n.fs.set a { Q with r:=Q.r+1 } } j z):=C.1;have el:Xo (zI hi w a9):=fb.trans C.2;have bl:Xo (zt a9 a0 55 [I6 1,I6 (a:Int),Xh ay]):=C.2.1 _ _ _ f4 zej;have d2:Xo (zt a9 aj 68 al):=C.2.1 _ _ _ fi zdB;clear dx ae S ac ak C;have bm:Xo (∀a5,a5=(if(zl s0.aC c).sh=Xc then(⟨1,(a:Int),ay⟩:En)else⟨1,(a:Int),Xd⟩)->qF { n with fs:=n.fs.set a { Q with r:=Q.r+1 } } ((z.set 0 (jM W c a5)).set 1 (jM ab c a5))):=show∀a5,_ from fun a5 il=>c9.forkP (s0:=s0) (s1:=⟨Xc,s0.aC,qU⟩) (Rr G.1) (Rr G.1) rfl am.1 am.2.1 ah ca bi (by rw[X.out]) (by rw[X.out]) (Rx X.out il);have g0:=d2.box.c _ (db c ah);have et:=bl.box.c 0 rfl;cases bu:(zl s0.aC c).sh with
    | true=>
     rw[bu]at g0 bm;have N:Xo (a8 { n with fs:=n.fs.set a { Q with r:=Q.r+1 } } ⟨1,(a:Int),ay⟩):=(b2 _ _).2 (.inr ⟨by show(1:Int)≠2;decide,(b1 _ _).2 ⟨bm _ (kE rfl).symm,G.1,G.2.1,G.2.2.1,by show(n.fs.set a _).length=_;rw[Yg];exact G.2.2.2⟩⟩);clear bu;go_wp2;go_meet;exact⟨rfl,_,⟨1,(a:Int),ay⟩,eo,el,bl,d2,N⟩
    | false=>
     rw[bu]at g0 bm;have N:Xo (a8 { n with fs:=n.fs.set a { Q with r:=Q.r+1 } } ⟨1,(a:Int),Xd⟩):=(b2 _ _).2 (.inr ⟨by show(1:Int)≠2;decide,(b1 _ _).2 ⟨bm _ (kF Dc).symm,G.1,G.2.1,G.2.2.1,by show(n.fs.set a _).length=_;rw[Yg];exact G.2.2.2⟩⟩);clear bu;have B:=bl.box.c 2 rfl;have c0:=bl.box.f;go_upto_region 10 with fail;clear g0 et B c0;obtain⟨aa,bp⟩:=kB (a9.setCell ⟨a0,2,Xb⟩ (Xh Xd));have bs:a9.grownBy aa (Xa a0):=(by rw[<-bp];exact jY _ _ _ _);have gy:Xo (zt aa a0 55 [I6 1,I6 (a:Int),Xh Xd]):=dD<|by rw[<-bp];exact bl.set 2 _
     have hg:Xo (Mk w0 hi aa b vl L U { n with fs:=n.fs.set a { Q with r:=Q.r+1 } } j z):=eo.entry bl dd.1 bs;have fc:Xo (zI hi w aa):=el.own bs dd.2;have hq:Xo (zt aa aj 68 al):=d2.beside bs (fun F e=>by
      cases e;intro e;have R:a9.heap[aj]? =_:=d2.out;rw[e,show a9.heap[a0]? =_ from bl.out]at R
      cases R)
     rw[bp];clear bp bs;go_wp2;go_meet;exact⟨rfl,_,⟨1,(a:Int),Xd⟩,hg,fc,gy,hq,N⟩
   have N:Xo (a8 n ⟨b6,c2,ay⟩):=(b2 _ _).2 (.inl ⟨rfl,rfl,R⟩);have ea:(b6 == 1)=Xd:=(by rw[show b6=2 from R];decide);clear R az ad ex e4;go_wp2;go_meet;exact⟨rfl,n,⟨b6,c2,ay⟩,d1,fa,da,fh,N⟩
  clear et;obtain⟨rfl,bv,ic,dr,gb,ej,gf,N⟩:=hcut;obtain⟨H,P,D⟩:=ic;have gj:=ej.box.c 0 rfl;go_upto_if 79 with fail
  go_cut [50] (fun bg bx=>bg=I6 c/\∃(p:Ma) (B:En),Xo (Mk w0 hi bx b vl L U p j z)/\Xo (zI hi w bx)/\Xo (zt bx a0 55 [I6 B.kind,I6 B.n,Xh B.wr])/\Xo (zt bx aj 68 al)/\Xo (ap p B))
  case first=>
   rcases(b2 _ _).1 N with⟨d4,rfl,d5⟩|⟨d4,d5⟩
   ·obtain⟨R,az,ad⟩:=(En.mk.injEq _ _ _ _ _ _).mp d4;subst R az ad;subst d5;rcases ao with d7|⟨a,Q,R,az,ad⟩|⟨a,ax,R,az,ad,ex,e4⟩;·cases d7
    ·exact absurd (show(2:Int)=1 from R) Dc
    dsimp only at az;subst az;have bi:Xo (bv.sl[a]? =Xa ax):=ad;obtain⟨bf,a6⟩:=kA bv.sl.length;have fx:a<bf:=(by rw[<-a6.out];exact(gS.1 ad).1);have fy:(a:Int)< (bf:Int):=Wm;clear ad;have eb:((2:Int) == 2)=Xc:=Dc;obtain⟨F,cg,af⟩:=dr.rows.sl.aG (by rw[a6.out];omega);rw[a6.out]at af;have A:Xo (U.s.x= O (Xa ⟨F,0,Xb⟩) bf cg):=af;have Z:=dr.rows.sl;(first|rw[A.out]at Z|rw[show O _ _ _=_ from A.out]at Z);have b4:Xo (zb slE w0.heap.size wc (O (Xa ⟨F,0,Xb⟩) bf cg) bv.sl):=Z;clear Z af;go_upto_region 11 with fail;clear gj;obtain⟨h,s⟩:=Ww fun f=>zc wc f;have l:h wc.drew:=(s _).2 (gW _);have cr:∀d:zg h,d.world.cell? ⟨b,3,Xb⟩=Xa (O (Xa ⟨F,0,Xb⟩) bf cg):=fun d=>(by rw[<-A.out];exact(dr.box.box.aA ((s _).1 d.holds)).c 3 rfl);have bd:=fun d:zg h=>(ej.box.aA ((s _).1 d.holds)).c 1 rfl;have cm:∀d:zg h,d.world.cell? ⟨F,a,Xb⟩=Xa (I6 ax):=fun d=>by
     have:=(b4.aA ((s _).1 d.holds)).one bi 0 _ rfl;rw[zZ,Ya,zA]at this;simpa [slE,Nat.mul_one]using this
    have ai:Nonempty (zg h):=⟨⟨_,l⟩⟩;refine Jk (I:=h) 11 [] l z3 Kr rfl rfl Dc Sm Kr ?_;simp only[Xw,Xx];refine jP ?_;refine zeo (.tmp 80) ⟨b,0,Xb⟩ rfl rfl rfl rfl ?_;refine Uq ?_;iterate 9 refine jP ?_
    refine zdC fun ce bc fq=>?_;have au:=(s _).1 bc;have em:=dD (dr.aA au);have fb:=dD (gb.trans (zI.aA au));have f4:=dD (ej.aA au);have fi:=dD (gf.aA au);have cd:=dD (b4.aA au);clear au bc fq cr bd cm ai l;have c0:=cd.bJ rfl;have fm:ce.cell? ⟨F,a,Xb⟩=Xa (I6 ax):=by
     have:=cd.one bi 0 _ rfl;rw[zZ,Ya,zA]at this;simpa [slE,Nat.mul_one]using this
    go_upto_region 12 with fail;clear fm c0;obtain⟨S,ac,ak⟩:=cd.cell (k:=a) (o:=0) rfl bi (y:=ax+1) (u:=I6 (ax+1)) rfl Dc;obtain⟨a9,ae⟩:=kB (ce.setCell ⟨F,a,Xb⟩ (I6 (ax+1)));have dx:ce.setCell ⟨F,a*slE.k+0,Xb⟩ (I6 (ax+1))=a9:=(by rw[<-ae];simp[slE]);rw[dx]at S ac ak;rw[ae];rw[<-A.out]at S;have C:=em.cE (by (first|rw[A.out]|rw[show O _ _ _=_ from A.out]|(simp only[Sli.x];rw[A.out])|(simp only[Sli.x];rw[show O _ _ _=_ from A.out]));rfl) ac ak S
    have eo:Xo (Mk w0 hi a9 b vl L U { bv with sl:=bv.sl.set a (ax+1) } j z):=C.1;have el:Xo (zI hi w a9):=fb.trans C.2;have bl:Xo (zt a9 a0 55 [I6 2,I6 (a:Int),Xh D]):=C.2.1 _ _ _ f4 zej;have d2:Xo (zt a9 aj 68 al):=C.2.1 _ _ _ fi zdB;clear dx ae S ac ak C;have b0:Xo (ap { bv with sl:=bv.sl.set a (ax+1) } ⟨2,(a:Int),D⟩):=(b1 _ _).2 ⟨by
     have:=c9.forkS (s0:=s0) (s1:=⟨Xc,s0.aC,qU⟩) (Rr G.1) (Rr G.1) rfl am.1 am.2.1 ah ca bi (by rw[X.out]) (by rw[X.out])
     rw[X.out]at this;exact this,G.1,G.2.1,G.2.2.1,G.2.2.2⟩
    go_wp2;go_meet;exact⟨rfl,_,⟨2,(a:Int),D⟩,eo,el,bl,d2,b0⟩
   have eb:(H == 2)=Xd:=beq_eq_false_iff_ne.2 d4;have b0:Xo (ap bv ⟨H,P,D⟩):=d5;clear d4 d5 ao;go_wp2;go_meet;exact⟨rfl,bv,⟨H,P,D⟩,dr,gb,ej,gf,b0⟩
  clear gj;obtain⟨rfl,p,B,ge,hf,gz,hw,b0⟩:=hcut;obtain⟨H,P,D⟩:=B;go_upto_region 12 with fail;obtain⟨h,s⟩:=Ww fun f=>f.cell? ⟨b,12,Xb⟩=Xa (O (Xa ⟨Y,0,Xb⟩) 2 ar)/\zt f a0 55 [I6 H,I6 P,Xh D]/\zt f aj 68 al;have de:Xo (∀f n z,Mk w0 hi f b vl L U n j z->f.cell? ⟨b,12,Xb⟩=Xa (O (Xa ⟨Y,0,Xb⟩) 2 ar)):=dD<|fun f n z ip=>by
   have:=ip.box.box.c 12 rfl;(first|rw[t.out]at this|rw[show O _ _ _=_ from t.out]at this);exact this
  have l:h wc.drew:=(s _).2 ⟨de _ _ _ (ge.aA (gW _)),gz.aA (gW _),hw.aA (gW _)⟩;have e5:Mk w0 hi wc.drew b vl L U p j z/\zI hi w wc.drew:=⟨ge.aA (gW _),hf.trans (zI.aA (gW _))⟩;have it:=fun d:zg h=>((s _).1 d.holds).1;have fu:=fun d:zg h=>((s _).1 d.holds).2.1.box.c 0 rfl;have bd:=fun d:zg h=>((s _).1 d.holds).2.1.box.c 1 rfl;have fv:=fun d:zg h=>((s _).1 d.holds).2.1.box.c 2 rfl;have ai:Nonempty (zg h):=⟨⟨_,l⟩⟩;refine zQ (I:=h) 17 [(14,fun _=>True)] (fun f=>Mk w0 hi f b vl L U p j z/\zI hi w f) l e5 z3 Kr rfl rfl Dc (Sa ⟨undef,trivial⟩) Kr ?_;simp only[Xw,Xx];refine zi ?_;refine zW (.tmp 91) ⟨b,0,Xb⟩ rfl rfl rfl rfl ?_;refine Uq ?_;iterate 4 refine zi ?_
  refine zW (.tmp 96) ⟨b,0,Xb⟩ rfl rfl rfl rfl ?_;refine Uq ?_;iterate 7 refine zi ?_
  refine zH rfl rfl (fun _ f=>Mk w0 hi f b vl L U p j (z.set 0 (jM W c ⟨H,P,D⟩))/\zI hi w f) (fun w' bb ba=>?_) (fun gq ey=>?_)
  ·obtain⟨ez,cv,iu⟩:=(s _).1 bb;obtain⟨eg,fz⟩:=ba;have cp:=eg.rows.tt;(first|rw[t.out]at cp|rw[show O _ _ _=_ from t.out]at cp);refine zeI (E:=zdl) (.tmp 104) (.tmp 101) 55 rfl w0.heap.size (O (Xa ⟨Y,0,Xb⟩) 2 ar) z cp Y 0 (c*3) rfl W (jM W c ⟨H,P,D⟩) am.1 (env ⟨H,P,D⟩) Kr (zcl W ah _) (by show c*3+3<=192;omega) (enE.one _) _ rfl (by first | rfl | simp) (Xi (env ⟨H,P,D⟩).toArray) rfl rfl (fun gu gp ih iy=>?_);rw[<-t.out]at gp;have e8:=eg.bQ (by (first|rw[t.out]|rw[show O _ _ _=_ from t.out]|(simp only[Sli.x];rw[t.out])|(simp only[Sli.x];rw[show O _ _ _=_ from t.out]));rfl) ih iy gp;exact⟨(s _).2 ⟨de _ _ _ e8.1,e8.2.1 _ _ _ cv zej,e8.2.1 _ _ _ iu zdB⟩,trivial,e8.1,fz.trans e8.2⟩
  try simp only[Yu]
  iterate 2 refine zi ?_
  refine qV fun a4 e7 cj=>?_;have gd:Xo (Mk w0 hi a4 b vl L U p j (z.set 0 (jM W c ⟨H,P,D⟩))):=cj.1;have fd:Xo (zI hi w a4):=cj.2;have eq:Xo (zt a4 aj 68 al):=((s _).1 e7).2.2;clear cj e7 l e5 it fu bd fv ai;have fj:Xo (zb zdl w0.heap.size a4 (O (Xa ⟨Y,0,Xb⟩) 2 ar) (z.set 0 (jM W c ⟨H,P,D⟩))):=show zb _ _ _ _ _ by rw[<-t.out];exact gd.rows.tt
  refine zx (E:=zdl) rfl (.tmp 106) (.tmp 102) 55 rfl w0.heap.size _ _ fj Y 1 (c*3) rfl ab (jM ab c ⟨H,P,D⟩) (by rw[sN Dc];exact am.2.1) (env ⟨H,P,D⟩) Kr (zcl ab ah _) (by show c*3+3<=192;omega) (enE.one _) _ rfl (by first | rfl | simp) (Xi (env ⟨H,P,D⟩).toArray) rfl rfl ?_;intro bj cz dz ei;rw[<-t.out]at cz;have bn:=gd.bQ (by (first|rw[t.out]|rw[show O _ _ _=_ from t.out]|(simp only[Sli.x];rw[t.out])|(simp only[Sli.x];rw[show O _ _ _=_ from t.out]));rfl) dz ei cz;have dq:Xo (Mk w0 hi bj b vl L U p j ((z.set 0 (jM W c ⟨H,P,D⟩)).set 1 (jM ab c ⟨H,P,D⟩))):=bn.1;have fe:Xo (zI hi w bj):=fd.trans bn.2;have P9:Xo (zt bj aj 68 al):=bn.2.1 _ _ _ eq zdB;have ga:=(b1 _ _).1 b0.out;have f3:Xo (qF p ((z.set 0 (jM W c ⟨H,P,D⟩)).set 1 (jM ab c ⟨H,P,D⟩))):=ga.1;have fk:Xo (p.sp=[s0,⟨Xc,s0.aC,qU⟩]/\p.fl=m.fl/\p.aB=m.aB/\p.fs.length=m.fs.length):=show _/\_ from ga.2;clear bn cz dz ei;go_wp2;go_roundg (64 -(c+1));exact⟨c+1,p,_,_,_,Wm,Wm,Gn,dq,fe,f3,fk,f6 _,P9⟩;omega
 have ec:¬(c:Int)<64:=Wm;have dc:Xo (Frk w0 hi b w vl L m s0.aC wr):=dD<|⟨U,n,j,z,fg,ff,c9,by rw[G.1,f7.out];rfl,G.2⟩;go_wp2;exact Wq dc.out
theorem zhf {I:Xn->Prop} {P:Program} {J:Act->Xn->Prop} {l r:List Oper} (T:Nat) (S:List (Nat × zeW)) (c:I w.drew) (hJ0:J a w.drew) (hJq:∀(j:Nat) o,K.toArray[j]? =Xa o->S.lookup j=Xb->∀a v w,(execOp a.eval o).run P w= .ok (.value v) w->J a w->J (a.put o.dst v) w) (hJs:∀(j:Nat) o s,K.toArray[j]? =Xa o->S.lookup j=Xa s->∀a w L,J a w->I w->zN P o a w L->zN P o a w fun v w'=>L v w'/\J (a.put o.dst v) w') (hJu:∀(j:Nat) o,K.toArray[j]? =Xa o->∀a w,J a w->J (a.put o.dst undef) w) (f:P.follows .mixedOrders=Xc) (b:Jz K.toArray T=Xc) (e:K.take T=l) (g:K.drop T=r) (d:T<=K.length)
  (hS:∀x∈S,∃v,x.2.pv v) (hp:∀k s j t,S.lookup k=Xa s->S.lookup j=Xa t->j≠k->anc K.toArray 9 j k=Xd->∀v w w',t.step w w'->s.post v w->s.post v w') (hpre:∀j t k s,S.lookup j=Xa t->S.lookup k=Xa s->j≠k->∀w w',s.step w w'->t.pre w->t.pre w') (hpr0:∀k t,S.lookup k=Xa t->t.pre w.drew)
  (h:zdq I P K.toArray (fun k=>S.lookup k) (fun a w=>J a w->wpList P K.toArray Q r a w) l 0 (fun _ _=>True) a):(Code.region id K.toArray Xc).wp P Q a w:=by
 refine zp6 (J:=J) T c hJ0 f b e g d ?_ ?_ ?_ ?_ ?_ ?_ ?_ hJu h;·intro k s o c _ d b;obtain⟨t,_,rfl⟩:=zbC c;cases b
 ·intro k s c;obtain⟨t,b,rfl⟩:=zbC c;obtain⟨x,d,rfl,_⟩:=J6 b;exact hS x d
 ·intro k s j t c f d g _ v;obtain⟨s,b,rfl⟩:=zbC c;obtain⟨t,e,rfl⟩:=zbC f;exact hp k s j t b e d g v
 ·intro j t k s f c d;obtain⟨s,b,rfl⟩:=zbC c;obtain⟨t,e,rfl⟩:=zbC f;exact hpre j t k s e b d
 ·intro k t c;obtain⟨t,b,rfl⟩:=zbC c;exact hpr0 k t b
 ·intro j o c d;exact hJq j o c (Si d)
 intro j o s c d;obtain⟨t,b,_⟩:=zbC d;exact hJs j o t c b
theorem zN.know {P:Program} {J:Act->Xn->Prop} (h:zN P o a w M) (c:∀n w',(execOp a.eval o).run P w= .ok n w'->(∃v,n= .value v/\J (a.put o.dst v) w')\/(n= .skip/\J (a.put o.dst undef) w')):zN P o a w fun v w'=>M v w'/\J (a.put o.dst v) w':=by
 unfold zN at h⊢;generalize(execOp a.eval o).run P w=r at h c⊢;cases r with
 | ok n w'=>
  rcases c n w' rfl with⟨v,rfl,b⟩|⟨rfl,b⟩;·exact⟨h,b⟩
  exact⟨h,b⟩
 | halt x w'=>exact h
def zbm (ss:List Nat) (a:Act) (w:Xn):Prop:=(∀s∈ss,∀x n c,a.tmps.getD s undef= O (Xa x) n c->x.block<w.heap.size)/\∀s∈ss,∀t∈ss,s≠t->∀x n c y n' c',a.tmps.getD s undef= O (Xa x) n c->a.tmps.getD t undef= O (Xa y) n' c'->x.block≠y.block
theorem QF {d:Option Nat} {v:Xq} {s:Nat}:(a.put d v).tmps.getD s undef=a.tmps.getD s undef\/(d=Xa s/\(a.put d v).tmps.getD s undef=v):=by
 cases d with
 | none=>exact .inl rfl
 | some k=>
  by_cases e:k=s
  ·subst e
   by_cases b:k<a.tmps.size
   ·refine .inr ⟨rfl,?_⟩
    show(a.tmps.setIfInBounds k v).getD k undef=v;rw[Ye,Array.getElem?_setIfInBounds_self_of_lt b];rfl
   refine .inl ?_;show(a.tmps.setIfInBounds k v).getD k undef=_;rw[Array.setIfInBounds_eq_of_size_le Wm]
  refine .inl ?_;show(a.tmps.setIfInBounds k v).getD s undef=_;rw[Ye,Array.getElem?_setIfInBounds_ne e,<-Ye]
theorem zbm.other {b:List Nat} {d:Option Nat} (i:zbm b a w) (hd:∀s∈b,d≠Xa s) (m:w.heap.size<=w'.heap.size):zbm b (a.put d A) w':=by
 have c:∀s∈b,(a.put d A).tmps.getD s undef=a.tmps.getD s undef:=fun s b=>(QF (a:=a) (d:=d) (v:=A) (s:=s)).resolve_right fun e=>hd s b e.1;refine⟨fun s b x n g j=>?_,fun s b t k h x n g y p l e f=>?_⟩;·rw[c s b]at j;exact Yj (i.1 s b x n g j) m
 rw[c s b]at e;rw[c t k]at f;exact i.2 s b t k h x n g y p l e f
theorem zbm.new {c:List Nat} {d:Option Nat} (l:zbm c a w) (j:w.heap.size<w'.heap.size):zbm c (a.put d (O (Xa ⟨w.heap.size,0,Xb⟩) k b)) w':=by
 have g:∀j∈c,∀x n c,(a.put d (O (Xa ⟨w.heap.size,0,Xb⟩) k b)).tmps.getD j undef= O (Xa x) n c->(a.tmps.getD j undef= O (Xa x) n c/\x.block<w.heap.size)\/(d=Xa j/\x.block=w.heap.size):=fun j f x n c h=>by
  rcases QF (a:=a) (d:=d) (v:= O (Xa ⟨w.heap.size,0,Xb⟩) k b) (s:=j)with e|⟨e1,e2⟩;·rw[e]at h;exact .inl ⟨h,l.1 j f x n c h⟩
  grind
 refine⟨fun j f x n c h=>?_,fun j f t p k x n c y q i h b=>?_⟩;·grind
 rcases g j f x n c h with⟨m,h⟩|⟨m,h⟩ <;> rcases g t p y q i b with⟨h,g⟩|⟨h,g⟩
 ·exact l.2 j f t p k x n c y q i m h
 ·omega
 ·omega
 grind
theorem zbm.undef {c:List Nat} {d:Option Nat} (k:zbm c a w):zbm c (a.put d Go.undef) w:=by
 have f:∀b∈c,∀x n c,(a.put d Go.undef).tmps.getD b Go.undef= O (Xa x) n c->a.tmps.getD b Go.undef= O (Xa x) n c:=fun b g x n c h=>by
  rcases QF (a:=a) (d:=d) (v:=Go.undef) (s:=b)with e|⟨e1,e2⟩;·grind
  rw[e2]at h;cases h
 exact⟨fun b g x n c h=>k.1 b g x n c (f b g x n c h),fun b g t l j x n c y p m h i=>k.2 b g t l j x n c y p m (f b g _ _ _ h) (f t l _ _ _ i)⟩
theorem zo2 {P:Program} {e:TypeId} {i:TypeInfo} (b:P.underlying t=Xa (.slice e)) (hi:P.info? e=Xa i) (f:i.zero=Xa A) (x) (a:x=undef\/∃n:Nat,x=I6 n/\n*i.bytes<=140737488355328/\n<=1000) {v:Xq} (h:(Instr.makeSlice t x x).run P w= .ok v w'):∃l c,v= O (Xa ⟨w.heap.size,0,Xb⟩) l c/\w.heap.size<w'.heap.size:=by
 rcases a with rfl|⟨n,rfl,a,a⟩
 ·exfalso
  simp[Instr.makeSlice,run_underlying b,asInt,asIntOf,undef]at h
 have d:((i.bytes:Int)*(n:Int))<=281474976710656:=by
  rw[<-Int.natCast_mul,Nat.mul_comm];omega
 have a:=run_make (P:=P) w t e i A b hi f .i64 .i64 n n Wm (Int.le_refl _) d Wm;rw[a]at h;cases h;exact⟨_,_,rfl,Sm⟩
def JB (nf ns nb:Nat) (a:Act) (w:Xn):Prop:=(a.tmps.getD 0 undef= Xe Xf nf/\a.tmps.getD 1 undef= Xe Xf ns/\a.tmps.getD 2 undef= Xe Xf nb)/\(∀s∈[32,35,37,40],a.tmps.getD s undef=undef\/∃n:Nat,a.tmps.getD s undef= Xe Xf n/\n<=80)/\zbm [38,41] a w
section
variable{nf ns nb:Nat} {a:Act} {w w':Xn}
theorem JB.other {d:Option Nat} (h:JB nf ns nb a w) (hd:∀s∈[0,1,2,32,35,37,40,38,41],d≠Xa s) (f:w.heap.size<=w'.heap.size):JB nf ns nb (a.put d A) w':=by have b:∀s∈[0,1,2,32,35,37,40,38,41],(a.put d A).tmps.getD s undef=a.tmps.getD s undef:=fun s c=>(QF (a:=a) (d:=d) (v:=A) (s:=s)).resolve_right fun e=>hd s c e.1;refine⟨⟨by rw[b 0 Sm];exact h.1.1,by rw[b 1 Sm];exact h.1.2.1,by rw[b 2 Sm];exact h.1.2.2⟩,fun s c=>?_,h.2.2.other (fun s c=>hd s (by simp at c⊢;omega)) f⟩;rw[b s (by simp at c⊢;omega)];exact h.2.1 s c
theorem JB.num (h:JB nf ns nb a w) (f:k∈[32,35,37,40]) (s:b<=80):JB nf ns nb (a.put (Xa k) (I6 b)) w:=by
 have s:∀t,t≠k->(a.put (Xa k) (I6 b)).tmps.getD t undef=a.tmps.getD t undef:=fun t c=>(QF (a:=a) (d:=some k) (v:=I6 b) (s:=t)).resolve_right fun e=>c (Si e.1.symm);have g:k≠0/\k≠1/\k≠2/\k≠38/\k≠41:=by simp at f;omega
 refine⟨⟨by rw[s 0 Wm];exact h.1.1,by rw[s 1 Wm];exact h.1.2.1,by rw[s 2 Wm];exact h.1.2.2⟩,fun t c=>?_,h.2.2.other (fun t c e=>by simp only[Option.some.injEq]at e;subst e;simp only[mC,nM,or_false]at c;omega) (nR _)⟩;rcases QF (a:=a) (d:=some k) (v:=I6 b) (s:=t)with e|⟨_,e⟩;·rw[e];exact h.2.1 t c
 grind
theorem JB.new {d:Option Nat} (h:JB nf ns nb a w) (hd:∀s∈[0,1,2,32,35,37,40],d≠Xa s) (f:w.heap.size<w'.heap.size):JB nf ns nb (a.put d (O (Xa ⟨w.heap.size,0,Xb⟩) k p)) w':=by have b:∀s∈[0,1,2,32,35,37,40],(a.put d (O (Xa ⟨w.heap.size,0,Xb⟩) k p)).tmps.getD s undef=a.tmps.getD s undef:=fun s p=>(QF (a:=a) (d:=d) (s:=s)).resolve_right fun k=>hd s p k.1;refine⟨⟨by rw[b 0 Sm];exact h.1.1,by rw[b 1 Sm];exact h.1.2.1,by rw[b 2 Sm];exact h.1.2.2⟩,fun s p=>?_,h.2.2.new f⟩;rw[b s (by simp at p⊢;omega)];exact h.2.1 s p
def okQ (o:Oper):Bool:=
 match o.dst with
 | none=>Xc
 | some d=>!([0,1,2,32,35,37,40,38,41].contains d) || (match o.op with | .move (.tmp x)=>[(32,0),(35,1),(37,1),(40,2)].contains (d,x) | _=>Xd)
theorem JB.quiet (h:JB nf ns nb a w) (b:okQ o=Xc) (i:nf<=80) (d:ns<=80) (g:nb<=80) (f:(execOp a.eval o).run prog w= .ok (.value A) w):JB nf ns nb (a.put o.dst A) w:=by
 unfold okQ at b;cases c:o.dst with
 | none=>exact h.other (fun s _ e=>by cases e) (nR _)
 | some j=>
  rw[c]at b;simp only[Bool.or_eq_true]at b;rcases b with b|b
  ·refine h.other (fun s d e=>?_) (nR _)
   cases e;simp only[Yr,Yh,decide_eq_false_iff_not]at b;exact b d
  cases c:o.op with
  | move x=>
   rw[c]at b;cases x with
   | tmp x=>
    simp only[Yh,decide_eq_true_eq]at b;have e:A=a.tmps.getD x undef:=by
     simp only[execOp,c,Xv,Result.ok.injEq,Next.value.injEq,and_true]at f;exact f.symm
    simp only[mC,pJ,nM,or_false]at b;rcases b with⟨rfl,rfl⟩|⟨rfl,rfl⟩|⟨rfl,rfl⟩|⟨rfl,rfl⟩;·rw[e,h.1.1];exact h.num Sm i
    ·rw[e,h.1.2.1];exact h.num Sm d
    ·rw[e,h.1.2.1];exact h.num Sm d
    rw[e,h.1.2.2];exact h.num Sm g
   | _=>simp at b
  | _=>rw[c]at b;simp at b
theorem JB.undef {d:Option Nat} (h:JB nf ns nb a w) (hd:∀s∈[0,1,2],d≠Xa s):JB nf ns nb (a.put d Go.undef) w:=by
 have b:∀s∈[0,1,2],(a.put d Go.undef).tmps.getD s Go.undef=a.tmps.getD s Go.undef:=fun s c=>(QF (a:=a) (d:=d) (s:=s)).resolve_right fun e=>hd s c e.1;refine⟨⟨by rw[b 0 Sm];exact h.1.1,by rw[b 1 Sm];exact h.1.2.1,by rw[b 2 Sm];exact h.1.2.2⟩,fun s c=>?_,h.2.2.undef⟩;rcases QF (a:=a) (d:=d) (v:=Go.undef) (s:=s)with e|⟨_,e⟩;·rw[e];exact h.2.1 s c
 grind
theorem JB.make (h:JB nf ns nb a w) (t e) (i:TypeInfo) (z) (s:Nat) (c:o.op= .makeSlice t (.tmp s) (.tmp s)) (f:s∈[32,35,37,40]) (g:Tryz.prog.underlying t=Xa (.slice e)) (hi:Tryz.prog.info? e=Xa i) (j:i.zero=Xa z) (d:i.bytes<=1000) (hd:∀s∈[0,1,2,32,35,37,40],o.dst≠Xa s) (b:zN prog o a w M):zN prog o a w fun v w'=>M v w'/\JB nf ns nb (a.put o.dst v) w':=by
 refine b.know fun n w' b=>?_;left;simp only[execOp,c,Xu]at b;cases c:(Instr.makeSlice t (a.eval (.tmp s)) (a.eval (.tmp s))).run prog w with
 | halt x k=>rw[c]at b;cases b
 | ok v k=>
  rw[c]at b;simp only[rA,Xv,Result.ok.injEq]at b;obtain⟨rfl,rfl⟩:=b;obtain⟨l,b,rfl,b⟩:=zo2 g hi j _ (by
   rcases h.2.1 s f with e|⟨n,e,f⟩;·exact .inl e
   refine .inr ⟨n,e,?_,Wm⟩;have:n*i.bytes<=80*1000:=Nat.mul_le_mul f d
   omega) c
  exact⟨_,rfl,h.new hd b⟩
end
def okL (L:List Oper) (Sx:List Nat):Bool:=L.zipIdx.all fun p=>Sx.contains p.2 || okQ p.1
theorem zoS {Sx:List Nat} (h:okL K Sx=Xc) (a:K.toArray[j]? =Xa o) (b:j∉Sx):okQ o=Xc:=by
 unfold okL at h;have a:(o,j)∈K.zipIdx:=by grind
 grind
def okD (L:List Oper):Bool:=L.all fun o=>match o.dst with | none=>Xc | some d=>!([0,1,2].contains d)
theorem zoT (h:okD K=Xc) (a:K.toArray[j]? =Xa o):∀s∈[0,1,2],o.dst≠Xa s:=fun s b e=>by
 unfold okD at h;have:=Yk.1 h o (by simp at a;exact mG a);rw[e]at this;simp only[Yr,Yh,decide_eq_false_iff_not]at this;exact this b
theorem zlm {A B C D:α} (h:List.lookup j [(2,A),(5,B),(7,C),(10,D)]=Xb):j∉ [2,5,7,10]:=fun a=>by grind
theorem zhs (E:Elt α) (w:Xn) (n:Nat) (hn:n*E.bytes<=140737488355328) {l:Operand} (ho:o.op= .makeSlice E.st l l:=by rfl) (hl:a.eval l=I6 n:=by rfl):
  ∃C,(execOp a.eval o).run prog w= .ok (.value (O (Xa ⟨w.heap.size,0,Xb⟩) n n)) (w.alloc (Xk C E.ty))/\zb E w.heap.size (w.alloc (Xk C E.ty)) (O (Xa ⟨w.heap.size,0,Xb⟩) n n) (Xr n E.zero):=by
 obtain⟨i0,hi,hz0,hz1,hz2⟩:=info_parts E.aD;have h2:n*1<=n*E.bytes:=Nat.mul_le_mul_left _ (nT E.pos E.few);have hb:((E.bytes:Int)*(n:Int))<=140737488355328:=by
  obtain⟨B,hB⟩:=kB (n*E.bytes);rw[hB]at hn;rw[<-Int.natCast_mul,Nat.mul_comm,hB];omega
 have hrun:=run_make (P:=prog) w E.st E.ty i0 _ E.bI hi hz0 .i64 .i64 n n (by omega) (Int.le_refl _) (by rw[hz2];exact Int.le_trans hb (by omega)) (by omega);rw[hz1,tN]at hrun;refine⟨madeCells E.zv.cells (n*E.k),by simp only[execOp,ho,hl,Xu,hrun,Result.andThen,Xv],⟨⟨?_,.inr ⟨w.heap.size,n,madeCells E.zv.cells (n*E.k),by rw[lR],nR _,?_,?_,?_,?_,?_⟩⟩,by rw[lR];exact hn⟩⟩;·rw[qD E]
 ·show(w.heap.push _)[w.heap.size]? =_
  simp
 ·rw[lR];exact nR _
 ·exact q9 (by omega)
 ·rw[size_madeCells]
 rw[lR,Yd (by simp[madeCells]),zdA E]
theorem ze7 (w) (n:Nat) (b:n<=80) {l:Operand} (h:o.op= .makeSlice 31 l l:=by rfl) (g:a.eval l=I6 n:=by rfl):
  ∃C,(execOp a.eval o).run prog w= .ok (.value (O (Xa ⟨w.heap.size,0,Xb⟩) n n)) (w.alloc (Xk C 44))/\zm w.heap.size (w.alloc (Xk C 44)) (O (Xa ⟨w.heap.size,0,Xb⟩) n n) (Xr n zq):=by
 obtain⟨i,f,c,d,e⟩:=info_parts zsi;have b:=run_make (P:=prog) w 31 44 i _ underlying31 f c .i64 .i64 n n Wm (Int.le_refl _) (by rw[e];omega) Wm;rw[d,tN]at b;refine⟨madeCells #[U8 0,U8 0,U8 0,U8 0,U8 0,U8 0,U8 0,U8 0] (n*8),by simp only[execOp,h,g,Xu,b,Result.andThen,Xv,Value.cells],⟨⟨?_,.inr ⟨w.heap.size,n,madeCells #[U8 0,U8 0,U8 0,U8 0,U8 0,U8 0,U8 0,U8 0] (n*8),by rw[lR],nR _,?_,?_,?_,?_,?_⟩⟩,fun p b=>by rw[Xs b];rfl,by rw[lR];omega⟩⟩;·rw[jT (k:=8) _ (fun a b=>by rw[Xs b];rfl)]
 ·show(w.heap.push _)[w.heap.size]? =_
  simp
 ·rw[lR];exact nR _
 ·exact q9 Wm
 ·rw[size_madeCells]
 rw[lR];show(madeCells #[U8 0,U8 0,U8 0,U8 0,U8 0,U8 0,U8 0,U8 0] (n*8)).toList.take (n*8)=_;rw[Yd (by simp[madeCells]),zll]
theorem zcn (E:Elt α) (w:Xn) (n:Nat) (c:n*E.bytes<=140737488355328) (l) (d:o.op= .makeSlice E.st l l) (b:a.eval l=I6 n) (h:∀C,zb E w.heap.size (w.alloc (Xk C E.ty)) (O (Xa ⟨w.heap.size,0,Xb⟩) n n) (Xr n E.zero)->M (O (Xa ⟨w.heap.size,0,Xb⟩) n n) (w.alloc (Xk C E.ty))):zN prog o a w M:=by obtain⟨C,e,e⟩:=zhs E w n c d b;grind [zN.step]
theorem zaT (w:Xn) (n:Nat) (c:n<=80) (l) (d:o.op= .makeSlice 31 l l) (b:a.eval l=I6 n) (h:∀C,zm w.heap.size (w.alloc (Xk C 44)) (O (Xa ⟨w.heap.size,0,Xb⟩) n n) (Xr n zq)->M (O (Xa ⟨w.heap.size,0,Xb⟩) n n) (w.alloc (Xk C 44))):zN prog o a w M:=by obtain⟨C,e,e⟩:=ze7 w n c d b;grind [zN.step]
theorem zhe {c:Oper} (d:c.guard=Xb) (e p x) (j:c.op= .store e p x) (b o:Nat) (hp:a.eval p= Xj (Xa ⟨b,o,Xb⟩)) (vs:List Xq) (k:a.eval x= Xi vs.toArray)
  {cs:List Xq} {t:TypeId} (f:zt w b t cs) (i:o+vs.length<=cs.length) (hi:(Tryz.prog.info? e).map (·.size)=Xa vs.length) (g:∀v∈vs,v.oneCell'=Xc)
  (h:∀w',zt w' b t (splice cs o vs)->w.grownBy w' (Xa b)->w'.heap.size=w.heap.size->wpList prog ops Q K (a.put c.dst undef) w'):wpList prog ops Q (c :: K) a w:=by
 refine wpList_store_mid d e p x j b o vs.toArray hp k ?_ ?_ (all_oneCell_toArray g) ?_
 ·intro j c;have:=f.box.there (o+j) (by simp at c;omega);rw[zA]at this;exact this
 ·simpa using hi
 exact h _ (f.part i) (zT b vs o w).1 (zT b vs o w).2
theorem zoX {c a nf ns nb:Nat} (f:zc w W) (gf:w.heap.size<=b) (d:zt W b 81 [vl.x,O (Xa ⟨k,0,Xb⟩) nf nf,I6 0,O (Xa ⟨p,0,Xb⟩) ns ns,O (Xa ⟨c,0,Xb⟩) ns ns,eS,O (Xa ⟨a,0,Xb⟩) nb nb,eS,eS,I6 (nb:Int),eS,eS,eS]) (m:zr byE w (vl.x) L) (l:vl.n<=vl.c) (lb:∀z∈L,0<=z/\z<256)
  (n:zb qR w.heap.size W (O (Xa ⟨k,0,Xb⟩) nf nf) (Xr nf fr0)) (h:zb slE w.heap.size W (O (Xa ⟨p,0,Xb⟩) ns ns) (Xr ns 0)) (i:zm w.heap.size W (O (Xa ⟨c,0,Xb⟩) ns ns) (Xr ns zq)) (j:zm w.heap.size W (O (Xa ⟨a,0,Xb⟩) nb nb) (Xr nb zq)) (g:c≠a):
  Mk w W.heap.size W b vl L ⟨⟨Xa ⟨k,0,Xb⟩,nf,nf⟩,⟨Xa ⟨p,0,Xb⟩,ns,ns⟩,⟨Xa ⟨c,0,Xb⟩,ns,ns⟩,zE,⟨Xa ⟨a,0,Xb⟩,nb,nb⟩,zE,zE,zE,zE⟩ ⟨Xr nf fr0,0,Xr ns 0,Xr ns zq,[],Xr nb zq,[],[],nb,[],[]⟩ zE []:=by
 have c:∀{v:Xq} {a:List (List Int)},zm w.heap.size W v a->∀g,v.ownBlock=Xa g->g<W.heap.size:=fun p g a=>by
  obtain⟨_,e,e⟩:=Jo p a;grind
 refine⟨f,gf,d,m,l,lb,⟨nR _,bS f,n,h,fun g a=>(h.lt g a).2,i,c i,⟨rfl,rfl⟩,j,c j,⟨World.ownsRow_nil _ _ _ _,Sm,Sm⟩,⟨[],zb.nil _ _ _,rfl,fun i x f c=>by cases c⟩,zb.nil _ _ _,⟨[],zb.nil _ _ _,rfl,fun i x s c=>by cases c⟩,zb.nil _ _ _,⟨fun g a p=>?_,zfY.free (fun f c _=>by rw[Xs c];rfl) (fun f c=>by rw[Xs c];rfl)⟩⟩⟩;simp only[Value.ownBlock,Option.some.injEq]at a p;grind
def ziL (n k:Nat):List Fr:=Xr k frF++Xr (n - k) fr0
theorem znm (n:Nat):ziL n 0=Xr n fr0:=by simp[ziL]
theorem zpj (n:Nat):ziL n n=Xr n frF:=by simp[ziL]
theorem zqF (n k:Nat):zeX (ziL n k):=fun f a _=>by
 unfold ziL at a;rcases Xy.1 a with e|e;·rw[Xs e];rfl
 rw[Xs e];rfl
theorem zd0 (n:Nat):∀f∈Xr n frF,f.r=0:=fun f a=>by rw[Xs a];rfl
theorem znn (n k:Nat):∀f∈ziL n k,f.r=0:=fun f a=>by
 unfold ziL at a;rcases Xy.1 a with e|e;·rw[Xs e];rfl
 rw[Xs e];rfl
theorem zno (h:b<k):(ziL k b)[b]? =Xa fr0:=by unfold ziL;grind
theorem zpi (h:b<k):(ziL k b).set b frF=ziL k (b+1):=by unfold ziL;rw[List.set_append_right _ _ Sm,lR,Ys];obtain⟨j,a⟩:∃j,k - b=j+1:=⟨k - b - 1,Wm⟩;rw[a,show k -(b+1)=j by omega,List.replicate_succ,sZ,List.replicate_succ',List.append_assoc];rfl
theorem ze9 (j) (h:zu k w A g) (v:Nat) (q:Int × List Int) (i:q.2.length=8) (p:Zh w ⟨v,0,Xb⟩ (ptc q)) (c:g.length<=1000) (a:k<=w.heap.size):
  ∃c w',(Builtin.append_ #[32,32] j #[A,O (Xa ⟨v,0,Xb⟩) 1 1]).run prog w= .ok c w'/\zu k w' c (g++ [q])/\w.grownBy w' A.ownBlock:=by
 obtain⟨r,l,d,e,f⟩:=info_parts zsj;obtain⟨c,w',n,m,base,_⟩:=run_append_own (P:=prog) w k 32 j 88 r _ 9 16 underlying32 l d e f rfl Dc A g.length _ h.1 ⟨v,0,Xb⟩ 1 1 (ptc q) (by rw[zcD,i]) p (zd7 _) (q9 Wm) Wm a;refine⟨c,w',n,⟨?_,fun x a=>?_,by simp;omega⟩,base⟩
 ·rw[lA,List.flatMap_append]
  simpa using m
 rcases Xy.1 a with a|a;·exact h.2.1 x a
 simp only[mC,nM,or_false]at a;rw[a];exact i
section
variable{base hi:Nat} {w w':Xn} {V:MaV} {m:Ma} {vt:Sli} {T:List (Nat->En)}
theorem zbw (h:zu base w A g) (a:A.ownBlock=Xa k):base<=k/\∃cs,w.heap[k]? =Xa (Xk cs 88 (0,0)):=by
 rcases h.1.2 with⟨rfl,_⟩|⟨v,g,g,rfl,g,g,_⟩;·cases a
 simp only[Value.ownBlock,Option.some.injEq]at a;grind
theorem MkR.addDq (h:MkR base hi w V m vt T) (c:w.grownBy w' (V.dq.x).ownBlock) (s:Sli) (d:∀f∈m.fs,f.r=0) (e:zu base w' (s.x) g):MkR base hi w' { V with dq:=s } { m with dq:=g } vt T:=by
 cases b:(V.dq.x).ownBlock with
 | none=>
  rw[b]at c;have g:=h.aA (qP c);exact⟨g.hw,g.bh,g.fs,g.sl,g.aZ,g.sb,g.bG,g.sq,g.db,g.bE,e,g.fl,g.ca,g.sp,g.tt,⟨g.ap.1,g.ap.2.bare d rfl⟩⟩
 | some a=>
  rw[b]at c;obtain⟨_,g,g⟩:=zbw h.dq b;obtain⟨b,a,i,j,k,k,l,n,p⟩:=h.kept c g;exact⟨nT h.hw c.size,h.bh,b Dc,a (.inl Dc),h.aZ,i (.inl Dc),h.bG,h.sq,j (.inl Dc),h.bE,e,k Dc (.inl Dc),l Dc,n Dc Dc,p Dc,⟨h.ap.1,h.ap.2.bare d rfl⟩⟩
theorem MkR.addFl {xs:List FlV} (h:MkR base hi w V m vt T) (g:zb fvE base w (V.fl.x) xs) (a:xs.length=m.fl.length) (b:∀(i:Nat) x f,xs[i]? =Xa x->m.fl[i]? =Xa f->x.size=f.size/\zb blE hi w x.v f.bl)
  (c:w.grownBy w' (V.fl.x).ownBlock) (s:Sli) {x:FlV} {f:Fl} (e:∀f∈m.fs,f.r=0) (k:x.size=f.size) (d:zb blE hi w x.v f.bl) (j:zb fvE base w' (s.x) (xs++ [x])):MkR base hi w' { V with fl:=s } { m with fl:=m.fl++ [f] } vt T:=by
 have d:(∀{y:FlV} {q:Fl},zb blE hi w y.v q.bl->zb blE hi w' y.v q.bl)->∃a:List FlV,zb fvE base w' (s.x) a/\a.length=(m.fl++ [f]).length/\∀(i:Nat) y q,a[i]? =Xa y->(m.fl++ [f])[i]? =Xa q->y.size=q.size/\zb blE hi w' y.v q.bl:=fun k=>by grind
 cases b:(V.fl.x).ownBlock with
 | none=>
  rw[b]at c;have k:=qP c;have a:=h.aA k;exact⟨a.hw,a.bh,a.fs,a.sl,a.aZ,a.sb,a.bG,a.sq,a.db,a.bE,a.dq,d (fun h=>h.aA k),a.ca,a.sp,a.tt,⟨a.ap.1,a.ap.2.bare e rfl⟩⟩
 | some a=>
  rw[b]at c;obtain⟨a,a⟩:=g.obj b;obtain⟨b,g,j,k,l,n,n,p,q⟩:=h.kept c a;exact⟨nT h.hw c.size,h.bh,b Dc,g (.inl Dc),h.aZ,j (.inl Dc),h.bG,h.sq,k (.inl Dc),h.bE,l Dc,d (fun h=>h.kind c a Dc),n Dc,p Dc Dc,q Dc,⟨h.ap.1,h.ap.2.bare e rfl⟩⟩
end
section
variable{base hi S0:Nat} {w w':Xn} {V:MaV} {m:Ma} {vt:Sli} {T:List (Nat->En)}
def FlB (base hi S0:Nat) (w:Xn) (V:MaV) (m:Ma):Prop:=∃xs:List FlV,zb fvE base w (O V.fl.a V.fl.n V.fl.c) xs/\xs.length=m.fl.length/\∀(i:Nat) x f,xs[i]? =Xa x->m.fl[i]? =Xa f->(x.size=f.size/\zb blE hi w x.v f.bl)/\∀g,x.v.ownBlock=Xa g->g<S0
theorem MkR.flB (h:MkR base hi w V m vt T):FlB base hi w.heap.size w V m:=by obtain⟨d,b,c,a⟩:=h.fl;exact⟨d,b,c,fun i x f c b=>⟨a i x f c b,fun g d=>((a i x f c b).2.lt g d).2⟩⟩
theorem FlB.aA (h:FlB base hi S0 w V m) (k:zc w w'):FlB base hi S0 w' V m:=by obtain⟨c,a,b,d⟩:=h;refine⟨c,a.aA k,b,fun i x f g e=>?_⟩;obtain⟨⟨a,b⟩,c⟩:=d i x f g e;exact⟨⟨a,b.aA k⟩,c⟩
theorem FlB.kind (e:FlB base hi S0 w V m) (c:w.grownBy w' (Xa k)) (h:w.heap[k]? =Xa (Xk Y t (0,0))) (a:t≠84\/(V.fl.x).ownBlock≠Xa k) (b:t≠3\/S0<=k):FlB base hi S0 w' V m:=by
 obtain⟨i,d,f,q⟩:=e;refine⟨i,?_,f,fun n x j l g=>?_⟩
 ·rcases a with a|a
  ·exact d.kind c h a
  exact d.grown c fun p d e=>by cases e;exact a d
 obtain⟨⟨i,a⟩,f⟩:=q n x j l g;refine⟨⟨i,?_⟩,f⟩;rcases b with b|b;·exact a.kind c h b
 exact a.grown c fun p d e=>by cases e;have:=f _ d;omega
theorem MkR.cL (h:MkR base hi w V m vt T) (a:w.grownBy w' (Xa k)) (b:w.heap[k]? =Xa (Xk Y 84 (0,0))) (c:(V.fl.x).ownBlock≠Xa k):MkR base hi w' V m vt T:=by obtain⟨d,e,f,i,j,g,g,l,n⟩:=h.kept a b;obtain⟨s,p,q,r⟩:=h.flB.kind a b (.inr c) (.inl Dc);exact⟨nT h.hw a.size,h.bh,d Dc,e (.inl Dc),h.aZ,f (.inl Dc),h.bG,h.sq,i (.inl Dc),h.bE,j Dc,⟨s,p,q,fun i x f b a=>(r i x f b a).1⟩,g Dc,l Dc Dc,n Dc,h.ap⟩
theorem MkR.ints (h:MkR base hi w V m vt T) (e:FlB base hi S0 w V m) (a:w.grownBy w' (Xa k)) (b:w.heap[k]? =Xa (Xk Y 3 (0,0))) (c:S0<=k) (d:hi<=k):MkR base hi w' V m vt T:=by obtain⟨f,i,j,g,l,n,n,p,q⟩:=h.kept a b;obtain⟨u,r,s,t⟩:=e.kind a b (.inl Dc) (.inr c);exact⟨nT h.hw a.size,h.bh,f Dc,i (.inr d),h.aZ,j (.inl Dc),h.bG,h.sq,g (.inl Dc),h.bE,l Dc,⟨u,r,s,fun i x f b a=>(t i x f b a).1⟩,n Dc,p Dc Dc,q Dc,h.ap⟩
end
section
variable{w0 w w':Xn} {hi b:Nat} {vl:Sli} {L:List Int} {V:MaV} {m:Ma} {vt:Sli} {T:List (Nat->En)}
theorem Mk.setDb (h:Mk w0 hi w b vl L V m vt T) {g:Nat} (d:(V.db.x).ownBlock=Xa g) (a:w.grownBy w' (Xa g)) (k:w'.heap.size=w.heap.size) {e:List (List Int)} (c:∀f∈m.fs,f.r=0) (j:zm w0.heap.size w' (V.db.x) e):Mk w0 hi w' b vl L V { m with db:=e } vt T/\zI hi w w':=by
 obtain⟨e,i,i⟩:=Jo h.rows.db d;refine⟨⟨zd h.gr a e,h.hb,h.box.beside a (fun e e=>?_),h.lr,h.lc,h.lb,h.rows.setDb i d a k c j⟩,zI.kind a i (fun p a=>?_)⟩
 ·cases e;intro e;subst e;have c:w.heap[b]? =_:=h.box;grind
 have:=a.2.2.2.2.2.2.2.2 rfl;have:=h.rows.bE g d;omega
end
theorem zmH (v:Xq) (l:List Ar) (a:Ar) (w:Xn) (ax:zr arE w v l) (s:Cap v) (z:(wrL l).1=0):
  Xp prog 60 #[v,Xi #[I6 a.fr,I6 a.tz,Xh a.rd,Xh a.wr,Xh a.sh,I6 a.file,I6 a.base]] w (zr0 (zei l a) w):=by
 have ap:Xo (zr arE w v l):=ax;have a9:Xo (∀W,zc w W->Xp prog 77 #[v] W fun f A=>f= Xl (Xi #[I6 0,I6 (wrL l).2])/\zc W A):=fun W bd=>zbY v l W (ap.aA bd) s z;have t:Xo (∀W,Xp prog 94 #[Xi #[I6 a.fr,I6 a.tz,Xh a.rd,Xh a.wr,Xh a.sh,I6 a.file,I6 a.base]] W fun f A=>f= Xl (I6 (arW a))/\zc W A):=fun W=>zah a W;clear ax s;obtain⟨aa,r⟩:=kB (w.alloc (Xk #[I6 a.fr,I6 a.tz,Xh a.rd,Xh a.wr,Xh a.sh,I6 a.file,I6 a.base] 77));have S:=gA r;have ar:=xA r;have F:Xo (_=aa):=r;clear r;generalize(wrL l).2=I at a9;by_cases g:arW a=0
 ·rw[g]at t;have ao:Xo (l.length<=16/\QQ Xb l):=jJ.1 z;have an:Xo (jU a):=QH.1 g;have E:Xo (zei l a=if zor l a.fr (a.tz - a.fr)=Xc then([],6)else ziM (ziK l a)):=show _=_ by unfold zei;rw[kF (fun k=>k z),kF (fun k=>k g)]
  have C:Xo (∀W,Xp prog 95 #[Xi (zz (tab (zfM l a 64))).toArray] W fun f A=>(∃Y,f= Xl (Xm #[Y,I6 (ziM (ziK l a)).2])/\zb arE W.heap.size A Y (ziM (ziK l a)).1)/\zc W A):=fun W=>by
   rw[zqT];exact zk8 (ziK l a) W (zb8 ao.2 an)
  clear z g;go_enter func60,ntmps60;go_upto_region 1 with fail;rw[F.out];go_wp2_with fail;refine(a9 aa S).mono ?_;rintro f H ⟨rfl,h⟩;have a0:=dD (S.trans h);have ad:=dD (ar.aA h);clear h;obtain⟨bg,i⟩:=kA H.heap.size;go_upto_region 2 with fail;refine nW fun ab c=>?_;have a1:=gT c a0;have Z:=xP c i;have V:=yA c ad;rw[i.out];clear c;have ae:=Z.c 0 rfl;go_wp2_with (refine zD rfl 77 (.tmp 3) rfl w.heap.size rfl V underlying77 rfl zsq ?_)
  refine(t ab).mono ?_;rintro f b7 ⟨rfl,h⟩;have B:=dD (a1.trans h);have bb:=dD (V.aA h);clear h ae;go_upto_region 7 with fail;refine zlk (v:=v) (q:=a) (pa:=w.heap.size) (l:=l) (fun aj ak al R am bi bj=>⟨#[_,_,_,_,_,_,_,_,bi,bj,_,_,_,_,_,_,_,_,_,_,_,_,_,aj,ak,al,R,am,_,_,_,_,_,_,_,_,_,_,_,_,_,_,_,_,_,_,_,_,_,_,_,_,_,_,_],[]⟩) (fun _ _ _ _ _ _ _=>rfl) (fun _ _ _ _ _ _ _=>rfl) (fun _ _ _ _ _ _ _=>rfl) (fun _ _ _ _ _ _ _=>rfl) (fun _ _ _ _ _ _ _=>rfl) (fun _ _ _ _ _ _ _=>rfl) (fun _ _ _ _ _ _ _=>rfl) (fun _ _ _ _ _ _ _=>rfl) (fun _ _ _ _ _ _ _=>rfl) (fun _ _ _ _ _ _ _ _=>rfl) (fun _ _ _ _ _ _ _ _=>rfl) (fun _ _ _ _ _ _ _ _=>rfl) (fun _ _ _ _ _ _ _ _=>rfl) (fun _ _ _ _ _ _ _ _=>rfl) (fun _ _ _ _ _ _ _ _=>rfl) (fun _ _ _ _ _ _ _ _=>rfl) (fun _ _ _ _ _ _ _ _=>rfl) (ap.aA B) ao.2.cA an bb.out ?_ _ _ _ _ _ _ _;intro aq p y R N av L M Q ah;have b1:=dD (B.trans av);have az:Xo (Box aq p (zz (tab (zfM l a 0)))):=show Box _ _ _ by rw[zpC];exact L
  have b0:Xo (Box aq y (zz (tab (zl [a])))):=M;have a7:Xo (w.heap.size<=p):=nT (bS B) Q;have u:y≠p:=fun f=>N f.symm;have a5:Xo (y≠p):=u;clear av L M Q ah;go_wp2;go_loopg [28] 64 (fun bc ai wr=>∃b:Nat,b<=64/\64 - b<=bc/\ai=I6 b/\Xo (zc w wr)/\Xo (Box wr p (zz (tab (zfM l a b))))/\Xo (Box wr y (zz (tab (zl [a]))))/\Xo (∀j:Nat,j<b->Z8 a j=Xc->(zl l j).is=Xd))
  exact⟨0,nZ _,Wm,rfl,b1,az,b0,fun j ag=>absurd ag (nL _)⟩;obtain⟨b,be,bl,rfl,x,U,G,a3⟩:=hrel;by_cases m:b<64
  ·have P:(b:Int)<64:=Wm
   have K:=U.c (b*6) (Qs (zaA m) 0 (Xh (zl l b).is) (Rr zrH));have X:=G.c (b*6) (Qs (zaA m) 0 (Xh (Z8 a b)) (by rw[<-zmP];rfl));cases d:Z8 a b with
   | true=>
    cases e:(zl l b).is with
    | true=>
     have D:Xo (zei l a=([],6)):=dD (by rw[E.out,zrz m d e,kE rfl]);rw[e]at K;rw[d]at X;clear d e;go_wp2;refine bodyPost_ret (results_tmp2 rfl _ _ _) rfl ?_;rw[D.out];exact⟨⟨_,rfl,zb.nil _ _ _⟩,x⟩
    | false=>
     have a8:Xo (upd (zfM l a b) b (z5 a b)=zfM l a (b+1)):=zqS d;have a6:Xo (zl [a] b=z5 a b):=show _=_ by rw[zpS,kE d]
     have n:Xo (∀j:Nat,j<b+1->Z8 a j=Xc->(zl l j).is=Xd):=dD<|fun j ag k=>by
      by_cases f:j=b;·rw[f];exact e
      exact a3 j Wm k
     rw[e]at K;rw[d]at X;clear d e;have a4:Xo (Value.agg (onv (zl [a] b)).toArray= Xi (onv (z5 a b)).toArray):=dD (by rw[a6.out]);go_wp2_with (first | refine zfn rfl (.tmp 47) rfl y b m rfl G a4.out ?_ | refine zfm rfl (.tmp 49) (.tmp 48) rfl p b m rfl (z5 a b) rfl U.out ?_)
     intro ac au af bh;have T:Xo (Box ac p (zz (tab (zfM l a (b+1))))):=dD<|Ry a8.out au;have b6:Xo (Box ac y (zz (tab (zl [a])))):=G.grown af a5.out;have b2:Xo (zc w ac):=zd x af a7.out;clear au af bh K X;go_wp2;go_roundg (64 -(b+1));exact⟨b+1,Wm,Wm,Gn,b2,T,b6,n⟩;omega
   | false=>
    have T:Xo (Box wr p (zz (tab (zfM l a (b+1))))):=dD (by rw[<-zpD d];exact U.out);have n:Xo (∀j:Nat,j<b+1->Z8 a j=Xc->(zl l j).is=Xd):=dD<|fun j ag k=>by
     by_cases f:j=b;·rw[f,d]at k;cases k
     exact a3 j Wm k
    rw[d]at X;clear d;cases e:(zl l b).is with
    | true=>
     rw[e]at K;clear e;go_wp2;go_roundg (64 -(b+1));exact⟨b+1,Wm,Wm,Gn,x,T,G,n⟩;omega
    | false=>
     rw[e]at K;clear e;go_wp2;go_roundg (64 -(b+1));exact⟨b+1,Wm,Wm,Gn,x,T,G,n⟩;omega
  have P:¬(b:Int)<64:=Wm;have:b=64:=Wm;subst this;have D:Xo (zei l a=ziM (ziK l a)):=dD (by rw[E.out,zpb a3.out,kF Dc]);have a2:Xo ((zz (tab (zfM l a 64))).length=384):=Zs _;go_wp2_with (refine zD rfl 68 (.tmp 8) rfl p rfl U underlying68 rfl (Rx a2.out zst) ?_)
  refine(C wr).mono ?_;rintro f ba ⟨⟨Y,rfl,ay⟩,aw⟩;have b3:=dD (x.trans aw);have b4:Xo (zb arE w.heap.size ba Y (ziM (ziK l a)).1):=ay.base (bS x);clear aw ay;go_wp2;refine bodyPost_ret (results_tmp2 rfl _ _ _) rfl ?_;rw[D.out];exact⟨⟨_,rfl,b4⟩,b3⟩
 have bf:(arW a != 0)=Xc:=by simp[g]
 have D:Xo (zei l a=([],arW a)):=dD<|by unfold zei;rw[kF (fun k=>k z),kE g]
 clear z g;generalize arW a=bk at*;go_enter func60,ntmps60;go_upto_region 1 with fail;rw[F.out];go_wp2_with fail;refine(a9 aa S).mono ?_;rintro f H ⟨rfl,h⟩;have a0:=dD (S.trans h);have ad:=dD (ar.aA h);clear h;obtain⟨bg,i⟩:=kA H.heap.size;go_upto_region 2 with fail;refine nW fun ab c=>?_;have a1:=gT c a0;have Z:=xP c i;have V:=yA c ad;rw[i.out];clear c;have ae:=Z.c 0 rfl;go_wp2_with (refine zD rfl 77 (.tmp 3) rfl w.heap.size rfl V underlying77 rfl zsq ?_)
 refine(t ab).mono ?_;rintro f b7 ⟨rfl,h⟩;have B:=dD (a1.trans h);clear h ae;go_wp2;refine bodyPost_ret (results_tmp2 rfl _ _ _) rfl ?_;rw[D.out];exact⟨⟨_,rfl,zb.nil _ _ _⟩,B⟩
theorem zhn (Z:Mk w0 hi w b vl L V m vt T) (d:qF m T) (bc:m.sp.length<4):
  Xp prog 27 #[Xj (Xa ⟨b,0,Xb⟩)] w fun e w'=>(∃v,e= Xl v)/\Spc w0 hi b w L m T w':=by
 have f:=dD Z;have bk:=dD d;have bj:=dD bc;have a:=qT 4 Z;obtain⟨A,c⟩:=kA V.fl.n;have aw:Xo (m.fl.length=A):=show _=_ by rw[<-c.out];exact Z.rows.at.ns.2.2.2.2.2.2.1.symm
 have g:A<=5:=by
  rw[<-aw.out];obtain⟨⟨bn,bo,bp⟩,am,g⟩:=(qC m.fl m.cnt).1 d.st;omega
 have ax:=dD<|bS Z.gr;clear Z d bc;go_enter func27,ntmps27;go_wp2_with fail;refine a.mono ?_;clear a;rintro e a ⟨k,q,af,rfl,d,a,g,l,i,yn,h⟩;obtain⟨ac,rfl⟩:∃ac:Nat,af=(ac:Int):=⟨af.toNat,Wm⟩;have j:ac<4:=by rcases i with Z | Z <;> omega
 have av:Xo (L=[]->ac=0):=dD<|fun e=>Hm (yn e);have r:=dD d;have n:=dD<|f.keeps a;have j:=dD<|f.rows.spB.pick f a;have f:=dD h;clear d a g l i yn h;go_wp2;go_loopg [2,11] ac (fun bi au ap wr=>∃(p g:Nat) (l:List Ar) (h:Option Addr) (i:Nat) (K:Sli) (ag:List Int),p<=ac/\ac - p<=bi/\ap=I6 p/\au=(O h g i)/\Xo (Mk w0 hi wr b K ag V m vt T)/\Xo (J0 L ag)/\Xo (zI hi w wr)/\Xo (SpB w0.heap.size w.heap.size wr V m)/\Xo (zb arE w0.heap.size wr (O h g i) l)/\Xo (ZA m.fl.length l/\(wrL l).1=0/\Qb l 64<=4*p)/\Xo (p=0->l=[]))
 exact⟨0,0,[],Xb,0,k,q,nZ _,Wm,rfl,rfl,r,f,n,j,zb.nil _ _ _,(show _/\_ from⟨zjB _,rfl,Dc⟩),(fun _=>rfl)⟩;obtain⟨p,g,l,h,i,n,ar,a,a,rfl,rfl,Y,ay,bl,a,bb,j,bt⟩:=hrel;by_cases b4:p<ac
 ·have b5:=kC b4
  have d:Xo (L≠[]):=dD<|fun e=>Hm (av.out e);go_upto_region 3 with fail;obtain⟨z,P⟩:=Ww fun u=>MkE w0 hi b w L V m vt T u/\SpB w0.heap.size w.heap.size u V m/\zb arE w0.heap.size u (O h g i) l;have B:z wr.drew:=(P _).2 ⟨⟨n,ar,Y.aA (gW _),ay,bl.trans (zI.aA (gW _))⟩,a.aA (gW _),bb.aA (gW _)⟩;have b2:∀af:zg z,af.world.cell? ⟨b,8,Xb⟩=Xa (O V.fl.a A V.fl.c):=fun af=>by
   obtain⟨⟨_,_,mk,_,_⟩,_⟩:=(P _).1 af.holds;have:=mk.box.box.c 8 rfl;(try simp only[Sli.x]at this);rw[c.out]at this;exact this
  have an:Nonempty (zg z):=⟨⟨_,B⟩⟩;have C:Xo (∀(N:Int) w',0<N->z w'->Xp prog 22 #[Xj (Xa ⟨b,0,Xb⟩),I6 N] w' fun e s=>∃x:Int,e= Xl (I6 x)/\0<=x/\x<N/\z s/\zI hi w' s):=dD<|fun N w' bd d=>by
   obtain⟨⟨K,ag,f,a9,R⟩,ab,S⟩:=(P _).1 d;refine(qT N f).mono ?_;rintro e s ⟨aq,be,x,rfl,a0,a,_,aa,ai,_,W⟩;exact⟨x,rfl,aa,Wm,(P _).2 ⟨⟨aq,be,a0,a9.trans W,R.trans (f.keeps a)⟩,ab.pick f a,S.pick f a⟩,f.keeps a⟩
  refine qZ (I:=z) 21 [(1,⟨fun v=>∃x:Int,v=I6 x/\0<=x/\x<12,fun _ _=>True,fun H U=>zI hi H U,fun _=>True⟩),(3,⟨fun v=>∃x:Int,v=I6 x/\0<=x/\x<4,fun _ _=>True,fun H U=>zI hi H U,fun _=>True⟩),(6,⟨fun v=>∃x:Int,v=I6 x/\0<=x/\x<3,fun _ _=>True,fun H U=>zI hi H U,fun _=>True⟩),(17,⟨fun v=>∃x:Int,v=I6 x/\0<=x/\x< (A:Int)+1,fun _ _=>True,fun H U=>zI hi H U,fun _=>True⟩),(20,⟨fun v=>∃y,v= Xj (Xa ⟨y,0,Xb⟩),fun v u=>∃y,v= Xj (Xa ⟨y,0,Xb⟩)/\zt u y 77 [I6 0,I6 0,Xh Xd,Xh Xd,Xh Xd,I6 0,I6 0]/\w.heap.size<=y/\∀ae,(O h g i).ownBlock=Xa ae->ae<y,fun H U=>zc H U,fun _=>True⟩)] B z3 Kr rfl rfl Dc ?hS ?hp ?hpre ?hpr0 ?_;case hS=>
   intro x ao;simp only[mC,nM,or_false]at ao;rcases ao with rfl|rfl|rfl|rfl|rfl;·exact⟨_,0,rfl,Wm,Wm⟩
   ·exact⟨_,0,rfl,Wm,Wm⟩
   ·exact⟨_,0,rfl,Wm,Wm⟩
   ·exact⟨_,0,rfl,Wm,Wm⟩
   exact⟨_,0,rfl⟩
  case hp=>
   intro ae b7 G b9 M a7 ah b1 v H U F b6;have k:=zC M;have r:=zC a7;clear M a7;simp only[mC,pJ,nM,or_false]at k r;rcases k with⟨rfl,rfl⟩|⟨rfl,rfl⟩|⟨rfl,rfl⟩|⟨rfl,rfl⟩|⟨rfl,rfl⟩;·trivial
   ·trivial
   ·trivial
   ·trivial
   obtain⟨y,c,q,a⟩:=b6;rcases r with⟨rfl,rfl⟩|⟨rfl,rfl⟩|⟨rfl,rfl⟩|⟨rfl,rfl⟩|⟨rfl,rfl⟩;·exact⟨y,c,F.1 _ _ _ q J8,a⟩
   ·exact⟨y,c,F.1 _ _ _ q J8,a⟩
   ·exact⟨y,c,F.1 _ _ _ q J8,a⟩
   ·exact⟨y,c,F.1 _ _ _ q J8,a⟩
   exact absurd rfl ah
  case hpre=>
   intro G b9 ae b7 a7 M ah H U F D;have r:=zC a7;clear M a7;simp only[mC,pJ,nM,or_false]at r;rcases r with⟨rfl,rfl⟩|⟨rfl,rfl⟩|⟨rfl,rfl⟩|⟨rfl,rfl⟩|⟨rfl,rfl⟩ <;> trivial
  case hpr0=>
   intro ae b9 M;have k:=zC M;clear M;simp only[mC,pJ,nM,or_false]at k;rcases k with⟨rfl,rfl⟩|⟨rfl,rfl⟩|⟨rfl,rfl⟩|⟨rfl,rfl⟩|⟨rfl,rfl⟩ <;> trivial
  simp only[Xw,Xx];refine zs ?_;refine zR rfl rfl (fun w' d D ad=>?_) (fun ba a8=>?_)
  ·refine zN.call [Xj (Xa ⟨b,0,Xb⟩),I6 12] rfl func22 rfl rfl rfl ?_;refine(C 12 w' Wm d).mono ?_;rintro e s ⟨x,rfl,aa,ai,Q,X⟩;exact⟨_,rfl,Q,X,⟨x,rfl,aa,ai⟩,trivial⟩
  obtain⟨t,rfl,aj,aj⟩:=a8;refine Uq ?_;refine zs ?_;refine zR rfl rfl (fun w' d D ad=>?_) (fun ba a8=>?_)
  ·refine zN.call [Xj (Xa ⟨b,0,Xb⟩),I6 4] rfl func22 rfl rfl rfl ?_;refine(C 4 w' Wm d).mono ?_;rintro e s ⟨x,rfl,aa,ai,Q,X⟩;exact⟨_,rfl,Q,X,⟨x,rfl,aa,ai⟩,trivial⟩
  obtain⟨bu,rfl,aj,aj⟩:=a8;refine Uq ?_;iterate 2 refine zs ?_
  refine zR rfl rfl (fun w' d D ad=>?_) (fun ba a8=>?_)
  ·refine zN.call [Xj (Xa ⟨b,0,Xb⟩),I6 3] rfl func22 rfl rfl rfl ?_;refine(C 3 w' Wm d).mono ?_;rintro e s ⟨x,rfl,aa,ai,Q,X⟩;exact⟨_,rfl,Q,X,⟨x,rfl,aa,ai⟩,trivial⟩
  obtain⟨bv,rfl,aj,aj⟩:=a8;refine Uq ?_;iterate 3 refine zs ?_
  refine Q2 (.tmp 22) ⟨b,0,Xb⟩ rfl rfl rfl rfl ?_;refine Uq ?_;iterate 6 refine zs ?_
  refine zR rfl rfl (fun w' d D ad=>?_) (fun ba a8=>?_)
  ·refine zN.call [Xj (Xa ⟨b,0,Xb⟩),I6 ((A:Int)+1)] rfl func22 rfl rfl rfl ?_;refine(C ((A:Int)+1) w' Wm d).mono ?_;rintro e s ⟨x,rfl,aa,ai,Q,X⟩;exact⟨_,rfl,Q,X,⟨x,rfl,aa,ai⟩,trivial⟩
  obtain⟨bh,rfl,az,b0⟩:=a8;refine Uq ?_;iterate 2 refine zs ?_
  refine zR rfl rfl (fun w' d D ad=>?_) (fun ba a8=>?_);·obtain⟨⟨K,ag,f,a9,R⟩,ab,S⟩:=(P _).1 d;refine zN.step (v:= Xj (Xa ⟨w'.heap.size,0,Xb⟩)) (w':=w'.alloc (Xk #[I6 0,I6 0,Xh Xd,Xh Xd,Xh Xd,I6 0,I6 0] 77)) (by clear b2;simp only[execOp];go_simp) ⟨(P _).2 ⟨⟨K,ag,f.aA (za _ _),a9,R.trans (zI.aA (za _ _))⟩,ab.aA (za _ _),S.aA (za _ _)⟩,za _ _,⟨_,rfl⟩,_,rfl,zt.aE _ [I6 0,I6 0,Xh Xd,Xh Xd,Xh Xd,I6 0,I6 0] _ rfl,R.2,fun ae M=>(S.lt ae M).2⟩
  obtain⟨X,rfl⟩:=a8;refine Uq ?_;refine ZD fun C aj ad=>?_;obtain⟨C,c,q,a,C⟩:=ad 20;simp only[Value.pointer.injEq,Option.some.injEq,Addr.mk.injEq,and_true]at c;subst c;obtain⟨⟨aq,be,a0,W,c⟩,b8,b3⟩:=(P _).1 aj;have br:=dD a0;have bf:=dD W;have bq:=dD c;have bg:=dD b8;have bs:=dD b3;have bm:=dD q;have Q:=dD a;have al:=dD C;have ak:=dD<|nT ax a;clear q a C a0 W c b8 b3 ad aj b2 an B;obtain⟨W,a⟩:=kA (decide ((0:Int)<bu));obtain⟨c,a0⟩:∃c,Xo (decide ((0:Int)<bv)=c):=⟨_,rfl⟩;rw[a.out,a0.out];obtain⟨a,a0⟩:=kB (bh - 1);have bh:a< (A:Int):=Wm;have A:-1<=a:=Wm;rw[a0];refine z6 rfl 77 (.tmp 3) (.tmp 32) rfl X rfl [I6 t,I6 0,Xh W,Xh c,Xh Xd,I6 a,I6 0] rfl bm rfl zsq (arE.one ⟨t,0,W,c,Xd,a,0⟩) ?_;intro aj b2 C _;have A:=br.area bg C bm Q ak.out;have bm:=dD A.1;have bg:=dD A.2;have b8:=dD<|bq.own C Q.out;have bq:Xo (zb arE w0.heap.size aj (O h g i) l):=bs.grown C (fun y b3 e=>by cases e;have:=al.out _ b3;omega);have br:=dD b2;clear A b2 C az b0 a0;go_upto_region 4 with fail;simp only[Yu];obtain⟨z,P⟩:=Ww fun u=>MkE w0 hi b w L V m vt T u/\SpB w0.heap.size w.heap.size u V m/\zb arE w0.heap.size u (O h g i) l/\zt u X 77 [I6 t,I6 0,Xh W,Xh c,Xh Xd,I6 a,I6 0];have B:z aj.drew:=(P _).2 ⟨⟨aq,be,bm.aA (gW _),bf,b8.trans (zI.aA (gW _))⟩,bg.aA (gW _),bq.aA (gW _),br.aA (gW _)⟩;have a0:=fun af:zg z=>((P _).1 af.holds).2.2.2.box.c 0 rfl;have an:Nonempty (zg z):=⟨⟨_,B⟩⟩;refine qZ (I:=z) 7 [(4,⟨fun v=>∃x:Int,v=I6 x/\0<=x/\x<4,fun _ _=>True,fun _ _=>True,fun _=>True⟩)] B z3 Kr rfl rfl Dc (Sa ⟨_,0,rfl,Wm,Wm⟩) ?hp ?hpre ?hpr0 ?_;case hp=>
   intro ae b7 G b9 M a7 ah b1 v H U F b6;have k:=zC M;simp only[mC,pJ,nM,or_false]at k;obtain⟨rfl,rfl⟩:=k;trivial
  case hpre=>
   intro G b9 ae b7 a7 M ah H U F D;have r:=zC a7;simp only[mC,pJ,nM,or_false]at r;obtain⟨rfl,rfl⟩:=r;trivial
  case hpr0=>
   intro ae b9 M;have k:=zC M;simp only[mC,pJ,nM,or_false]at k;obtain⟨rfl,rfl⟩:=k;trivial
  simp only[Xw,Xx];iterate 4 refine zs ?_
  refine zR rfl rfl (fun w' d D ad=>?_) (fun ba a8=>?_);·obtain⟨⟨K,ag,f,a9,R⟩,ab,S,z⟩:=(P _).1 d;refine zN.call [Xj (Xa ⟨b,0,Xb⟩),I6 4] rfl func22 rfl rfl rfl ?_;refine(qT 4 f).mono ?_;rintro e s ⟨U,az,x,rfl,r,d,_,aa,ai,_,k⟩;exact⟨_,rfl,(P _).2 ⟨⟨U,az,r,a9.trans k,R.trans (f.keeps d)⟩,ab.pick f d,S.pick f d,(f.keeps d).1 _ _ _ z J8⟩,trivial,⟨x,rfl,aa,Wm⟩,trivial⟩
  obtain⟨R,rfl,d,d⟩:=a8;refine Uq ?_;iterate 2 refine zs ?_
  refine ZD fun M d ad=>?_;obtain⟨⟨U,az,r,k,f⟩,A,s,z⟩:=(P _).1 d;have a8:=dD r;have aa:=dD k;have aq:=dD f;have D:=dD A;have F:=dD s;have C:=dD z;clear r k f A s z ad d a0 an B;obtain⟨d,f⟩:=kA (t+1+R);have ai:Xo ((d - t).toNat<=4):=show _<=_ by rw[<-f.out];omega
  have b2:=C.box.c 1 rfl;have a0:=C.box.f;rw[f.out];go_upto_region 5 with fail;clear b2 a0;obtain⟨B,f⟩:=kB (M.setCell ⟨X,1,Xb⟩ (I6 d));have k:M.grownBy B (Xa X):=by rw[<-f];exact jY _ _ _ _
  have b1:Xo (zt B X 77 [I6 t,I6 d,Xh W,Xh c,Xh Xd,I6 a,I6 0]):=dD (by rw[<-f];exact C.set 1 _);have r:=a8.area D k C Q ak.out;have a9:=dD r.1;have ab:=dD r.2;have af:=dD<|aq.own k Q.out;have be:Xo (zb arE w0.heap.size B (O h g i) l):=F.grown k (fun y b3 e=>by cases e;have:=al.out _ b3;omega);rw[f];clear f k r;have ah:=b1.box.c 5 rfl;go_upto_if 42 with fail
  go_cut [2,11] (fun au ap s=>au= O h g i/\ap=I6 p/\∃(k:Bool) (r:Int) (f:Sli) (P:List Int),Xo (Mk w0 hi s b f P V m vt T)/\Xo (SpB w0.heap.size w.heap.size s V m)/\Xo (zI hi w s)/\Xo (zb arE w0.heap.size s (O h g i) l)/\Xo (zt s X 77 [I6 t,I6 d,Xh W,Xh c,Xh k,I6 a,I6 r])/\Xo (J0 L P))
  case first=>
   by_cases ae:0<=a
   ·have ba:decide ((0:Int)<=a)=Xc:=Si ae
    have s:=qT 2 a9.out;go_wp2_with fail;refine s.mono ?_;clear s ah;rintro e ad ⟨s,s,bm,rfl,C,s,_,_,_,_,z⟩;have A:=dD C;have R:=dD<|ab.pick a9 s;have an:=dD (af.trans (a9.keeps s));have b9:=dD<|be.pick a9 s;have bg:=dD<|(a9.keeps s).1 _ _ _ b1 J8;have F:=dD (aa.trans z);clear C s z;have s:=qT 4 A.out;go_wp2_with fail;refine s.mono ?_;clear s;rintro e b6 ⟨f,P,r,rfl,D,s,_,z,z,_,C⟩;have b0:=dD D;have S:=dD<|R.pick A s;have ap:=dD (an.trans (A.keeps s));have bf:=dD<|b9.pick A s;have P9:=dD<|(A.keeps s).1 _ _ _ bg J8;have z:=dD (F.trans C);clear D s C;obtain⟨k,s⟩:=kA (bm == 1);try rw[s.out]
    have b2:=P9.box.c 4 rfl;have C:=P9.box.c 6 rfl;have a0:=P9.box.f;go_upto_region 7 with fail;try rw[s.out]
    clear b2 C a0;obtain⟨b9,s⟩:=kB ((b6.setCell ⟨X,4,Xb⟩ (Xh k)).setCell ⟨X,6,Xb⟩ (I6 r));have C:b6.grownBy b9 (Xa X):=(by rw[<-s];exact Zf (jY _ _ _ _) (jY _ _ _ _));have b2:Xo (zt b9 X 77 [I6 t,I6 d,Xh W,Xh c,Xh k,I6 a,I6 r]):=dD (by rw[<-s];exact(P9.set 4 _).set 6 _);have D:=b0.area S C P9 Q ak.out;have R:=dD D.1;have S:=dD D.2;have F:=dD<|ap.own C Q.out;have Q:Xo (zb arE w0.heap.size b9 (O h g i) l):=bf.grown C (fun y b3 e=>by cases e;have:=al.out _ b3;omega);rw[s];clear s C D;try go_wp2
    go_meet;exact⟨rfl,rfl,k,r,f,P,R,S,F,Q,b2,z⟩
   have ba:decide ((0:Int)<=a)=Xd:=Si ae;try go_wp2
   go_meet;exact⟨rfl,rfl,Xd,0,U,az,a9,ab,af,be,b1,aa⟩
  clear ah;obtain⟨rfl,rfl,k,r,f,P,R,S,F,Q,b2,z⟩:=hcut;obtain⟨C,a9,aa,ab,ae,ah,ak⟩:=b2.box.c7;have s:=zmH (O h g i) l ⟨t,d,W,c,k,a,r⟩ wc Q.at Q.cap j.2.1;have U:Xo ((zei l ⟨t,d,W,c,k,a,r⟩).2=0->ZA m.fl.length (zei l ⟨t,d,W,c,k,a,r⟩).1/\(wrL (zei l ⟨t,d,W,c,k,a,r⟩).1).1=0/\Qb (zei l ⟨t,d,W,c,k,a,r⟩).1 64<=4*(p+1)):=dD<|fun D=>⟨zjC j.1 (by show a<_;rw[aw.out];exact bh) D,zrw D,by have X:=zpM D;have aw:=ai.out;have az:=j.2.2;dsimp only at X;omega⟩;go_wp2_with fail;refine s.mono ?_;clear s C a9 aa ab ae ah ak;rintro e b1 ⟨⟨u,rfl,s⟩,C⟩;obtain⟨a9,aa,rfl⟩:=s.form;generalize zei l ⟨t,d,W,c,k,a,r⟩=a at U s⊢;obtain⟨t,d⟩:=a;dsimp only at U s⊢;have ae:=dD (R.aA C);have a:=dD (S.aA C);have ab:=dD (F.trans (zI.aA C));have u:=dD (Q.aA C);have r:=dD<|s.base (nT ax F.2);clear C s;obtain⟨s,c⟩:=kA t.length;rw[c.out]at r⊢;by_cases D:d=0
  ·have k:(d == 0)=Xc:=by simp[D]
   have c:=dD<|U.out D;clear D;go_wp2;go_roundg (ac -(p+1));exact⟨p+1,s,t,a9,aa,f,P,Wm,Wm,Gn,rfl,ae,z,ab,a,r,c,(fun Z=>Wm)⟩;omega
  have k:(d == 0)=Xd:=by simp[D]
  clear D;go_wp2;go_roundg (ac -(p+1));exact⟨p+1,g,l,h,i,f,P,Wm,Wm,Gn,rfl,ae,z,ab,a,u,(show _/\_ from⟨j.1,j.2.1,Hm j.2.2⟩),(fun Z=>Wm)⟩;omega
 have b5:=kD b4;have W:Xo (L=[]->l=[]):=dD<|fun e=>bt.out (Hm (av.out e));obtain⟨d,a,au,c⟩:=Y.rows.sp;have k:=dD a;have f:=dD au;have u:=dD c;clear a au c;obtain⟨s,r⟩:=kA m.sp.length;have a:s<4:=Ry r.out bj.out;have t:=Y.box.box.c 11 rfl;have a:=dD<|bS Y.gr;go_wp2_with (at_builtin;refine zy (E:=Qm) rfl (.tmp 65) (.tmp 68) rfl w0.heap.size _ d rfl (k.aA (za _ _)) _ [⟨Xc,⟨h,g,i⟩,zE,zE,zE,zE,zE,zE,zE,zE⟩] rfl (Zw Qm wr ⟨Xc,⟨h,g,i⟩,zE,zE,zE,zE,zE,zE,zE,zE⟩ _ _ rfl Dc) ?qb ?qc ?_)
 case qb=>
  rw[f.out,r.out];show(s+1)*224<=_;omega
 case qc=>have:=a.out;omega
 intro a aj z a;obtain⟨am,D,rfl⟩:=z.form;obtain⟨N,bd⟩:=kB ((d++ [(⟨Xc,⟨h,g,i⟩,zE,zE,zE,zE,zE,zE,zE,zE⟩:SpV)]).length);have c:(N:Int) - 1=(s:Int):=by
  have:N=s+1:=by rw[<-bd,lA,f.out,r.out];rfl
  omega
 rw[bd]at z⊢;clear bd;obtain⟨al,d⟩:=kB (wr.alloc (Xk #[Xh Xc,O h g i,eS,eS,eS,eS,eS,eS,eS,eS] 63));have c:=gP d;rw[d]at a;clear d;have P:zt aj b 81 [n.x,V.f.x,I6 m.aB,V.s.x,V.sb.x,V.sq.x,V.db.x,V.dq.x,V.fl.x,I6 m.cnt,V.ca.x,V.sp.x,vt.x]:=zt.row (k.aA c) a (Y.box.aA c) Dc
 have ac:Xo (MkR w0.heap.size hi aj { V with sp:=⟨am,N,D⟩ } { m with sp:=m.sp++ [⟨Xc,l,qU⟩] } vt T):=(Y.rows.aA c).addSp (k.aA c) f (fun S x b7 ao f=>by
  obtain⟨bn,bo,bp⟩:=u.out S x b7 ao f;exact⟨bn,bo.aA c,bp⟩) a ⟨am,N,D⟩ ⟨h,g,i⟩ (bb.aA c) z
 have aa:=dD<|zc.row (k.aA c) a (Y.gr.trans c);have b8:=dD<|(bl.trans (zI.aA c)).trans (zI.row (k.aA c) a (fun H Q=>Q.2.2.2.2.2.2.1 rfl));have U:Xo (zb arE w0.heap.size aj (O h g i) l):=dD<|by
  cases f:(V.sp.x).ownBlock with
  | none=>
   rw[f]at a;exact(bb.aA c).aA (qP a)
  | some y=>
   obtain⟨ao,ak⟩:=(k.aA c).obj f;rw[f]at a;exact(bb.aA c).kind a ak Dc
 have k:=dD P;have u:Xo (w0.heap.size<=b/\zr byE w0 (n.x) ar/\n.n<=n.c/\∀a9∈ar,0<=a9/\a9<256):=show _/\_ from⟨Y.hb,Y.lr,Y.lc,Y.lb⟩;clear P z a c t;have t:=k.box.c 11 rfl;have a0:=k.box.f;go_upto_region 12 with fail;clear t a0;obtain⟨M,z⟩:=kB (aj.setCell ⟨b,11,Xb⟩ (O am N D));have a:aj.grownBy M (Xa b):=by rw[<-z];exact jY _ _ _ _
 have a8:Xo (Mk w0 hi M b n ar { V with sp:=⟨am,N,D⟩ } { m with sp:=m.sp++ [⟨Xc,l,qU⟩] } vt T):=dD<|⟨zd aa a u.1,u.1,by rw[<-z];exact k.set 11 _,u.2.1,u.2.2.1,u.2.2.2,ac.var a k a.size (.inl rfl)⟩;have aq:=dD<|b8.trans (zI.kind a k (fun _ Q=>absurd rfl Q.1));have Y:Xo (zb arE w0.heap.size M (O h g i) l):=U.kind a k Dc;rw[z];clear z a;obtain⟨z,k⟩:=kA T.length;have P:Xo (z=s):=dD<|by rw[<-k.out,bk.tl,r.out]
 have U:=a8.box.box.c 12 rfl;have a:=dD<|bS a8.gr;go_wp2_with (at_builtin;refine zy (E:=zdl) rfl (.tmp 77) (.tmp 79) rfl w0.heap.size _ T rfl (a8.rows.tt.aA (za _ _)) _ [fun _=>en0] rfl (Zw zdl M (fun _=>en0) _ _ rfl Dc) ?qb ?qc ?_)
 case qb=>
  rw[k.out];show(z+1)*1536<=_;have:=P.out;omega
 case qc=>exact nT a (bS (za _ _))
 intro a B z a9;obtain⟨ah,ai,rfl⟩:=z.form;obtain⟨ac,aa⟩:=kB ((T++ [fun _=>en0]).length);rw[aa]at z⊢;obtain⟨al,d⟩:=kB (M.alloc (Xk (zdl.enc (fun _=>en0)).toArray 56));have c:=gP d;have a:al.grownBy B (vt.x).ownBlock:=Ry d a9;clear a9 d aa;have d:=a8.aA c;have M:Xo (zt B b 81 [n.x,V.f.x,I6 m.aB,V.s.x,V.sb.x,V.sq.x,V.db.x,V.dq.x,V.fl.x,I6 m.cnt,V.ca.x,O am N D,vt.x]):=zt.row d.rows.tt a d.box Dc;have a9:=dD<|d.rows.addT a ⟨ah,ac,ai⟩ z;have a8:=dD<|zc.row d.rows.tt a d.gr;have af:=dD<|(aq.trans (zI.aA c)).trans (zI.row d.rows.tt a (fun H Q=>Q.2.2.2.2.2.2.2.1 rfl));have H:Xo (zb arE w0.heap.size B (O h g i) l):=dD<|by
  cases f:(vt.x).ownBlock with
  | none=>
   rw[f]at a;exact(Y.aA c).aA (qP a)
  | some y=>
   obtain⟨ao,ak⟩:=d.rows.tt.obj f;rw[f]at a;exact(Y.aA c).kind a ak Dc
 clear a z c U;have U:=M.box.c 12 rfl;have a0:=M.box.f;go_upto_region 13 with fail;clear U a0;obtain⟨ad,c⟩:=kB (B.setCell ⟨b,12,Xb⟩ (O ah ac ai));have a:B.grownBy ad (Xa b):=by rw[<-c];exact jY _ _ _ _
 have A:Xo (Mk w0 hi ad b n ar { V with sp:=⟨am,N,D⟩ } { m with sp:=m.sp++ [⟨Xc,l,qU⟩] } ⟨ah,ac,ai⟩ (T++ [fun _=>en0])):=dD<|⟨zd a8 a u.1,u.1,by rw[<-c];exact M.set 12 _,u.2.1,u.2.2.1,u.2.2.2,a9.var a M a.size (.inl rfl)⟩;have an:=dD<|af.trans (zI.kind a M (fun _ Q=>absurd rfl Q.1));have d:Xo (zb arE w0.heap.size ad (O h g i) l):=H.kind a M Dc;rw[c];clear c a;obtain⟨u,a⟩:∃u:Sli,Xo (u=⟨ah,ac,ai⟩):=⟨_,rfl⟩;rw[<-a.out]at A;have y:=dD<|bk.space j.2.1 bj.out;have t:=A.box.box.c 11 rfl;have a:=Ze (O h g i) l ad d.at (jJ.1 j.2.1).2.cA;go_wp2_with fail;refine a.mono ?_;clear a t;rintro e b1 ⟨rfl,C⟩;have ae:=dD (A.aA C)
 have ab:=dD (an.trans (zI.aA C));clear C;have f:Xo (∀{c:Array Oper} {a:List Oper} {h:Oper} {d:Act} {w:Xn} {Q:Exit->Act->Xn->Prop} (_:h.guard=Xb) (x g:Operand) (_:h.op= .index 68 x g) (_:d.eval x= Xi (zz (tab (zl l))).toArray) (S:Nat) (_:d.eval g=I6 (S:Int)) (_:S<64) {v:Xq} (_: Xi (onv (zl l S)).toArray=v)
  (_:wpList prog c Q a (d.put h.dst v) w),wpList prog c Q (h :: a) d w):=fun X x g aw az S bc a _ c d=>zdt X x g aw (zl l) az S bc a c d
 generalize zz (tab (zl l))=C at f⊢;have A:Xo (({ m with sp:=m.sp++ [⟨Xc,l,qU⟩] }:Ma).sp[s]? =Xa ⟨Xc,l,qU⟩):=dD<|by
  show(m.sp++ [(⟨Xc,l,qU⟩:Sp)])[s]? =_;rw[aR (by rw[r.out];exact nR _),r,Ys];rfl
 have d:Xo ((T++ [fun _=>en0])[s]? =Xa (fun _=>en0)):=dD<|by
  rw[aR (by rw[k.out,P.out];exact nR _),k,P,Ys];rfl
 go_wp2;go_loopg [92] 64 (fun bi g wr=>∃(p:Nat) (K:Sli) (ag:List Int) (h:MaV) (a:Ma) (c:List (Nat->En)) (k:Nat->En),p<=64/\64 - p<=bi/\g=I6 p/\Xo (Mk w0 hi wr b K ag h a u c)/\Xo (J0 L ag)/\Xo (zI hi w wr)/\Xo (qF a c)/\Xo (a.sp=m.sp++ [⟨Xc,l,qU⟩]/\a.fl=m.fl/\a.aB=m.aB/\a.fs.length=m.fs.length)/\Xo (c[s]? =Xa k/\∀G,p<=G->k G=en0)/\Xo (L=[]->a={ m with sp:=m.sp++ [⟨Xc,l,qU⟩] }/\c=(T++ [fun _=>en0])))
 exact⟨0,n,ar,_,_,_,fun _=>en0,nZ _,Wm,rfl,ae,ay,ab,y,(show _/\_ from⟨rfl,rfl,rfl,rfl⟩),(show _/\_ from⟨d,fun _ _=>rfl⟩),(fun _=>⟨rfl,rfl⟩)⟩;obtain⟨c,B,N,S,U,P,k,a,q,rfl,R,i,F,H,g,a,M⟩:=hrel;by_cases d:c<64
 ·have n:(c:Int)<64:=Wm
  obtain⟨y,h⟩:=kA (zl l c);obtain⟨z,r,x,t,p,q⟩:=y;have y:Xo (Value.agg (onv (zl l c)).toArray= Xi #[Xh z,Xh r,Xh x,Xh t,I6 p,I6 q]):=dD<|Rr h.out;cases z with
  | false=>
   go_wp2_with (refine f rfl (.tmp 91) (.tmp 92) rfl rfl c rfl d y.out ?_)
   go_roundg (64 -(c+1));exact⟨c+1,B,N,S,U,P,k,Wm,Wm,Gn,R.aA (za _ _),i,F.trans (zI.aA (za _ _)),H,g,(show _/\_ from⟨a.1,fun G a7=>a.2 G Wm⟩),M⟩;omega
  | true=>
   have K:Xo (L≠[]):=dD<|fun e=>by
    have X:=h.out;rw[W.out e]at X;cases X
   go_upto_region 17 with(refine f rfl (.tmp 91) (.tmp 92) rfl rfl c rfl d y.out ?_)
   obtain⟨f,z⟩:=kA wr.heap.size;refine nW fun b6 f=>?_;have C:=gP f;have y:=xP f z;rw[z.out];have b0:=dD (R.aA C);have ap:=dD (F.trans (zI.aA C));clear f C;obtain⟨z,C,Q,X,D,Y⟩:=y.k6;have f:=znH s c ⟨Xc,l,qU⟩ k ⟨Xc,r,x,t,p,q⟩ b0 H (Rx g.1 A) a.1 d (a.2 c (nR _)) h rfl (Rx g.2.1 j.1);go_wp2_with fail;refine f.mono ?_;clear f z C Q X D Y;rintro e d ⟨⟨v,rfl⟩,D,X,a8,A,Q,f,h,p,q,⟨r,t,x,y⟩,z,_⟩;obtain⟨C,d⟩:∃C,Q[s]? =Xa C/\∀G,c+1<=G->C G=en0:=by
    rcases z with rfl|⟨e,rfl⟩;·exact⟨k,a.1,fun G a7=>a.2 G Wm⟩
    refine⟨jM k c e,sF (gS.1 a.1).1,fun G a7=>?_⟩;unfold jM;rw[kF Wm];exact a.2 G Wm
   have Y:=dD f;have a:=dD (i.trans h);have G:=dD (ap.trans p);have k:=dD q;have a0:Xo (A.sp=m.sp++ [⟨Xc,l,qU⟩]/\A.fl=m.fl/\A.aB=m.aB/\A.fs.length=m.fs.length):=show _/\_ from⟨r.trans g.1,t.trans g.2.1,x.trans g.2.2.1,y.trans g.2.2.2⟩;have s:=dD d;clear f h p q r t x y z d;go_wp2;go_roundg (64 -(c+1));exact⟨c+1,D,X,a8,A,Q,C,Wm,Wm,Gn,Y,a,G,k,a0,s,(fun Z=>absurd Z K)⟩;omega
 have n:¬(c:Int)<64:=Wm
 have a:Xo (Spc w0 hi b w L m T wr):=dD<|⟨B,N,S,U,u,P,l,R,i,F,H,g,⟨j.1,Hm j.2.2⟩,fun e=>by
  obtain⟨c,d⟩:=M.out e;rw[W.out e]at c;exact⟨c,d⟩⟩
 go_wp2;exact Wq a.out
theorem zi8 (x) (f:o.op= .load 56 x) (b c:Nat) (g:a.eval x= Xj (Xa ⟨b,c,Xb⟩)) (d:w.rangeAt b c vs) (e:vs.length=192):(execOp a.eval o).run prog w= .ok (.value (Xi vs.toArray)) w:=by have:=run_loadAt_mid (P:=prog) w b c 56 vs _ d underlying56 rfl (Rx e zsx);simp only[execOp,f,g,Xu,this,rA,Xv]
theorem zb.range {c:Nat} (h:zb E k w (O (Xa ⟨b,0,Xb⟩) p c) y) {i:Nat} {x:α} (n:y[i]? =Xa x):w.rangeAt b (i*E.k) (E.enc x):=fun j v a=>by
 have:=h.one n j v a;rw[zZ,Ya,zA]at this;exact this
structure MkT (base hi ht k:Nat) (w:Xn) (V:MaV) (m:Ma) (vt:Sli) (T:List (Nat->En)):Prop where
 fs:zb qR base w (O V.f.a V.f.n V.f.c) m.fs
 sl:zb slE base w (O V.s.a V.s.n V.s.c) m.sl
 aZ:∀g,(O V.s.a V.s.n V.s.c).ownBlock=Xa g->g<hi
 sb:zm base w (O V.sb.a V.sb.n V.sb.c) m.sb
 sq:V.sq=zE/\m.sq=[]
 db:zm base w (O V.db.a V.db.n V.db.c) m.db
 dq:zu base w (O V.dq.a V.dq.n V.dq.c) m.dq
 fl:∃xs:List FlV,zb fvE base w (O V.fl.a V.fl.n V.fl.c) xs/\xs.length=m.fl.length/\∀(i:Nat) x f,xs[i]? =Xa x->m.fl[i]? =Xa f->x.size=f.size/\zb blE hi w x.v f.bl
 ca:zb jA base w (O V.ca.a V.ca.n V.ca.c) m.ca
 sp:∃xs:List SpV,zb Qm base w (O V.sp.a V.sp.n V.sp.c) xs/\xs.length=m.sp.length/\∀(i:Nat) x s f,xs[i]? =Xa x->m.sp[i]? =Xa s->T[i]? =Xa f->x.aF=s.aF/\zb arE base w x.ar.v s.aC/\(i<k->Jr 0 ht w x.tab (ZH f))/\(k<=i->x.tab=JJ)
 tt:zb zdl base w (O vt.a vt.n vt.c) T
 ap:(∀g,(O V.sb.a V.sb.n V.sb.c).ownBlock=Xa g->(O V.db.a V.db.n V.db.c).ownBlock≠Xa g)/\zfY m
 lo:∀g,(O V.f.a V.f.n V.f.c).ownBlock=Xa g\/(O V.s.a V.s.n V.s.c).ownBlock=Xa g\/(O V.fl.a V.fl.n V.fl.c).ownBlock=Xa g\/(O V.ca.a V.ca.n V.ca.c).ownBlock=Xa g\/(O V.sp.a V.sp.n V.sp.c).ownBlock=Xa g->g<ht
 hts:ht<=w.heap.size
section
variable{base hi ht k:Nat} {w w':Xn} {V:MaV} {m:Ma} {vt:Sli} {T:List (Nat->En)}
theorem MkR.start (h:MkR base hi w V m vt T) (ht:Nat) (b:w.heap.size=ht):MkT base hi ht 0 w V m vt T:=by
 have c:∀g,(V.f.x).ownBlock=Xa g\/(V.s.x).ownBlock=Xa g\/(V.fl.x).ownBlock=Xa g\/(V.ca.x).ownBlock=Xa g\/(V.sp.x).ownBlock=Xa g->g<ht:=fun g a=>by
  obtain⟨_,e,_⟩:=h.fl;obtain⟨_,d,_⟩:=h.sp;rcases a with a|a|a|a|a;·have:=(h.fs.lt g a).2;omega
  ·have:=(h.sl.lt g a).2;omega
  ·have:=(e.lt g a).2;omega
  ·have:=(h.ca.lt g a).2;omega
  have:=(d.lt g a).2;omega
 obtain⟨f,d,a,e⟩:=h.sp;exact⟨h.fs,h.sl,h.aZ,h.sb,h.sq,h.db,h.dq,h.fl,h.ca,⟨f,d,a,fun i x s f d a _=>⟨(e i x s d a).1,(e i x s d a).2.1,fun f=>absurd f (nL _),fun _=>(e i x s d a).2.2.1⟩⟩,h.tt,h.ap,c,Nat.le_of_eq b.symm⟩
theorem MkT.aA (h:MkT base hi ht k w V m vt T) (g:zc w w'):MkT base hi ht k w' V m vt T:=by obtain⟨f,a,c,b⟩:=h.fl;obtain⟨l,e,j,d⟩:=h.sp;exact⟨h.fs.aA g,h.sl.aA g,h.aZ,h.sb.aA g,h.sq,h.db.aA g,h.dq.aA g,⟨f,a.aA g,c,fun i x f a c=>⟨(b i x f a c).1,(b i x f a c).2.aA g⟩⟩,h.ca.aA g,⟨l,e.aA g,j,fun i x s f a c b=>⟨(d i x s f a c b).1,(d i x s f a c b).2.1.aA g,fun e=>((d i x s f a c b).2.2.1 e).aA g,(d i x s f a c b).2.2.2⟩⟩,h.tt.aA g,h.ap,h.lo,nT h.hts (bS g)⟩
theorem MkT.table (h:MkT base hi ht k w V m vt T) {c:List SpV} (s2:c.length=m.sp.length) (s3:∀(i:Nat) x s f,c[i]? =Xa x->m.sp[i]? =Xa s->T[i]? =Xa f->x.aF=s.aF/\zb arE base w x.ar.v s.aC/\(i<k->Jr 0 ht w x.tab (ZH f))/\(k<=i->x.tab=JJ)) {g:Nat} {cs:Array Xq} (b:w.heap[g]? =Xa (Xk cs 63 (0,0))) (n:g<ht) (a:w.grownBy w' (Xa g)) {x y:SpV} {f:Nat->En} (l:c[k]? =Xa x) (d:T[k]? =Xa f) (t:y.aF=x.aF/\y.ar=x.ar) (v:Jr 0 ht w' y.tab (ZH f)) (u:zb Qm base w' (V.sp.x) (c.set k y)):MkT base hi ht (k+1) w' V m vt T:=by
 obtain⟨z,q,r,p⟩:=h.fl;have j:Out 0 ht w w':=Out.grown a (fun e e=>by cases e;exact⟨nZ _,n⟩);refine⟨h.fs.kind a b Dc,h.sl.kind a b Dc,h.aZ,⟨q7 h.sb.1 a b Dc,h.sb.2⟩,h.sq,⟨q7 h.db.1 a b Dc,h.db.2⟩,⟨q7 h.dq.1 a b Dc,h.dq.2⟩,⟨z,q.kind a b Dc,r,fun i x f l d=>⟨(p i x f l d).1,(p i x f l d).2.kind a b Dc⟩⟩,h.ca.kind a b Dc,⟨c.set k y,u,Rx Yg s2,fun i z s u n r c=>?_⟩,h.tt.kind a b Dc,h.ap,h.lo,nT h.hts a.size⟩;by_cases e:i=k;·subst e;rw[sF (gS.1 l).1]at n;cases n;rw[d]at c;cases c;obtain⟨p,q,_⟩:=s3 i x s f l r d;exact⟨t.1.trans p,Rx t.2 (q.kind a b Dc),fun _=>v,fun e=>Wm⟩
 rw[sN (fun h=>e h.symm)]at n;obtain⟨p,q,d,e⟩:=s3 i z s u n r c;exact⟨p,q.kind a b Dc,fun a=>(d Wm).out j,fun a=>e Wm⟩
theorem MkT.mach (h:MkT base hi ht m.sp.length w V m vt T) (p:T.length=m.sp.length) (hd:Int):zP w V (Qq m T hd):=by
 obtain⟨y,d,n,e⟩:=h.fl;obtain⟨z,u,j,v⟩:=h.sp;obtain⟨r,t⟩:=h.sq;refine⟨h.fs.at,h.sl.at,h.sb.at,?_,h.db.at,h.dq.at,⟨d.cap,y,d.at.s0,n,fun i x f b g=>⟨(e i x f b g).1,(e i x f b g).2.at.s0⟩⟩,h.ca.at,⟨z,u.at,by simp[Qq,p,j],fun i x s b q=>?_⟩⟩
 ·show Zu w (V.sq.x) m.sq
  rw[r,t];exact⟨⟨Xb,0,rfl,fun _=>rfl,fun x b=>by cases b⟩,Sm,Sm⟩
 have a:(List.zipWith (fun s f=>({ s with tb:=ZH f }:Sp)) m.sp T)[i]? =Xa s:=q;rw[Ym]at a;have hi:i<m.sp.length:=by rw[<-j];exact(gS.1 b).1
 rw[gE hi,gE (show i<T.length by omega)]at a;simp only[Option.some.injEq]at a;obtain⟨k,c,l,_⟩:=v i x _ _ b (gE hi) (gE (show i<T.length by omega));subst a;exact⟨k,c.at,c.cap,(l hi).now⟩
end
structure zpR (w0 w:Xn) (b:Nat) (vl:Sli) (L:List Int) (cs:List Xq):Prop where
 gr:zc w0 w
 hb:w0.heap.size<=b
 box:zt w b 81 (O vl.a vl.n vl.c :: cs)
 lr:zr byE w0 (O vl.a vl.n vl.c) L
 lc:vl.n<=vl.c
 lb:∀z∈L,0<=z/\z<256
theorem Mk.aV (h:Mk w0 hi w b vl L V m vt T):zpR w0 w b vl L [V.f.x,I6 m.aB,V.s.x,V.sb.x,V.sq.x,V.db.x,V.dq.x,V.fl.x,I6 m.cnt,V.ca.x,V.sp.x,vt.x]:=⟨h.gr,h.hb,h.box,h.lr,h.lc,h.lb⟩
theorem zoL (n:Int) (j:zpR w0 w b vl L D):
  Xp prog 22 #[Xj (Xa ⟨b,0,Xb⟩),I6 n] w fun e w'=>∃F g x,e= Xl (I6 x)/\zpR w0 w' b F g D/\w.grownBy w' (Xa b)/\w'.heap.size=w.heap.size/\0<=x/\(x=0\/x<n)/\(L=[]->x=0)/\J0 L g:=by
 have d:=dD j;have l:=j.box.box;have I:=l.c 0 rfl;have a6:=l.f;have h:=j.lr.n;clear l;obtain⟨⟨a2,t,f⟩,cs⟩:∃Z:Sli,vl=Z:=⟨_,rfl⟩;subst cs;dsimp only[Sli.x]at I h d;clear j;by_cases u:t=0
 ·subst u;clear h;go_enter func22,ntmps22;go_wp2;go_ret;exact⟨_,L,0,rfl,d,World.grownBy.rfl' _ _,rfl,Int.le_refl _,.inl rfl,fun _=>rfl,J0.refl L⟩
 have Q:((t:Int) == 0)=Xd:=by simp;omega
 have R:(t == 0)=Xd:=by simp[u]
 by_cases a1:n<1
 ·clear u h
  go_enter func22,ntmps22;go_wp2;go_ret;exact⟨_,L,0,rfl,d,World.grownBy.rfl' _ _,rfl,Int.le_refl _,.inl rfl,fun _=>rfl,J0.refl L⟩
 obtain⟨z,g,rfl⟩:∃z g,L=z :: g:=by
  cases L with
  | nil=>simp at h;omega
  | cons z g=>exact⟨z,g,rfl⟩
 have U:=d.lb z Sm;obtain⟨V,W⟩:=U;obtain⟨p,rfl,H⟩:=d.lr.bY 0 z rfl;have a0:w.cell? p=Xa (U8 z):=by
  have:=H w d.gr 0 _ rfl;rw[zZ]at this;simpa [byE,Addr.add]using this
 obtain⟨k,rfl⟩:∃k,t=k+1:=⟨t - 1,Wm⟩;have q:k+1<=f:=d.lc;have s:=zkb (w:=w) (ad:=p) (n:=k) (c:=f);clear u H;have T:(0:Int)< ((k+1:Nat):Int):=Wm;obtain⟨a,i⟩:∃a,(if f=1 then p else p.add 1)=a:=⟨_,rfl⟩;rw[i]at s;have A:Xo (zr byE w0 (O (Xa a) k (f - 1)) g):=dD<|by
  obtain⟨⟨a4,a5,K,a3,X⟩,M⟩:=d.lr;dsimp only[Sli.x]at K;cases K;have Y:=X p rfl;refine⟨⟨Xa a,f - 1,rfl,fun j=>(by cases j),fun P E=>?_⟩,?_⟩
  ·cases E
   by_cases S:f=1
   ·have:g=[]:=by
     have:g.length=0:=Wm;exact eN this
    subst this;intro v N r;simp at r
   rw[kF S]at i;subst i;intro v N r;rw[zZ,Nat.add_comm 1 v];exact Y (v+1) N (by simpa [byE]using r)
  have:byE.bytes=1:=rfl;rw[this]at M⊢;simp at M⊢;omega
 have y:Xo (zt (w.setCell ⟨b,0,Xb⟩ (O (Xa a) k (f - 1))) b 81 (O (Xa a) k (f - 1) :: D)):=d.box.set 0 _;have m:Xo (w.grownBy (w.setCell ⟨b,0,Xb⟩ (O (Xa a) k (f - 1))) (Xa b)):=⟨rfl,rfl,rfl,by simp[World.setCell],fun v _ r=>Below.heap_setCell _ _ _ _ (fun e=>r (by rw[e]))⟩;have C:Xo ((w.setCell ⟨b,0,Xb⟩ (O (Xa a) k (f - 1))).heap.size=w.heap.size):=dD<|by simp[World.setCell]
 have B:Xo (zpR w0 (w.setCell ⟨b,0,Xb⟩ (O (Xa a) k (f - 1))) b ⟨Xa a,k,f - 1⟩ g D):=show zpR _ _ _ _ _ _ from
  ⟨zd d.gr m d.hb,d.hb,y,A,(show k<=f - 1 by omega),fun P E=>d.lb P (by simp[E])⟩
 have G:Xo (0<=z % n/\z % n<n):=dD<|⟨Int.emod_nonneg _ Wm,Int.emod_lt_of_pos _ Wm⟩;clear h q i;go_enter func22,ntmps22;go_wp2;go_ret;exact⟨_,g,z % n,rfl,B,m,C,G.1,.inr G.2,fun j=>(by cases j)⟩
theorem zmt (h:Jr B0 B1 w us G):∃g t1 t2 j k l m n:Sli,us=[g.v,t1.v,t2.v,j.v,k.v,l.v,m.v,n.v]:=by
 have a:∀i v,us[i]? =Xa v->∃s:Sli,v=s.v:=fun i v b=>by
  obtain⟨y,f⟩:∃y,G[i]? =Xa y:=⟨_,gE (by rw[h.aJ,<-h.len];exact(gS.1 b).1)⟩;obtain⟨⟨c,d,e,_⟩,_⟩:=(h.row i v y b f).now;exact⟨⟨c,y.length,d⟩,e⟩
 obtain⟨p,q,r,u,x,z,A,B,rfl⟩:=znN h.len;obtain⟨C,rfl⟩:=a 0 p rfl;obtain⟨D,rfl⟩:=a 1 q rfl;obtain⟨E,rfl⟩:=a 2 r rfl;obtain⟨F,rfl⟩:=a 3 u rfl;obtain⟨t,rfl⟩:=a 4 x rfl;obtain⟨H,rfl⟩:=a 5 z rfl;obtain⟨K,rfl⟩:=a 6 A rfl;obtain⟨L,rfl⟩:=a 7 B rfl;grind
theorem zb.cG (h:zb E k w A y) (v:Out b (b+1) w w') (d:∀g,A.ownBlock=Xa g->g≠b):zb E k w' A y:=by
 refine⟨⟨h.1.1,?_⟩,h.2⟩;rcases h.1.2 with a|⟨g,a,c,rfl,f,e,h⟩;·grind
 exact .inr ⟨g,a,c,rfl,f,by rw[v.block g (aS.1 e).1 (Hm (d g rfl))];exact e,h⟩
theorem zt.cG (h:zt w k t D) (p:Out b (b+1) w w') (a:k≠b):zt w' k t D:=by have c:=h.box.lt;have a:w.heap[k]? =_:=h;show w'.heap[k]? =_;rw[p.block k c Wm];exact a
structure FC (w:Xn) (hi b:Nat) (u:Xn) (vl:Sli) (L:List Int) (V:MaV) (m:Ma) (pf:Nat) (sz:Int) (bs:Sli) (bl:List Int):Prop where
 mm:Mk w hi u b vl L V m zE []
 hp:hi<=pf
 fb:FlB w.heap.size hi pf u V m
 fn:∀g,(O V.fl.a V.fl.n V.fl.c).ownBlock=Xa g->g<pf
 box:zt u pf 84 [Xe Xf sz,O bs.a bs.n bs.c]
 row:zb blE (pf+1) u (O bs.a bs.n bs.c) bl
section
variable{w u u':Xn} {hi b pf:Nat} {vl vl' bs:Sli} {L L':List Int} {V V':MaV} {m m':Ma} {sz:Int} {bl:List Int}
theorem FC.aA (h:FC w hi b u vl L V m pf sz bs bl) (k:zc u u'):FC w hi b u' vl L V m pf sz bs bl:=⟨h.mm.aA k,h.hp,h.fb.aA k,h.fn,h.box.aA k,h.row.aA k⟩
theorem FlB.as (h:FlB w.heap.size hi pf u V m) (a:V'.fl=V.fl) (b:m'.fl=m.fl):FlB w.heap.size hi pf u V' m':=by unfold FlB at h⊢;rw[a,b];exact h
theorem zt.kind {a:TypeId} (h:zt u p t D) (b:u.grownBy u' (Xa k)) (c:u.heap[k]? =Xa (Xk Y a (0,0))) (ht:a≠t):zt u' p t D:=h.beside b (fun g e=>by
 cases e;intro e;subst e;have a:u.heap[p]? =_:=h;rw[c]at a;cases a;exact ht rfl)
theorem FC.kind (h:FC w hi b u vl L V m pf sz bs bl) (c:u.grownBy u' (Xa k)) (d:u.heap[k]? =Xa (Xk Y t (0,0))) (ht:t≠84) (a:t≠3) (e:Mk w hi u' b vl' L' V' m' zE []) (f:V'.fl=V.fl) (i:m'.fl=m.fl):FC w hi b u' vl' L' V' m' pf sz bs bl:=
 ⟨e,h.hp,(h.fb.kind c d (.inl ht) (.inl a)).as f i,Rx f h.fn,h.box.kind c d ht,h.row.kind c d a⟩
theorem FC.pick (h:FC w hi b u vl L V m pf sz bs bl) (c:u.grownBy u' (Xa b)) (a:Mk w hi u' b vl' L' V m zE []):FC w hi b u' vl' L' V m pf sz bs bl:=h.kind c h.mm.box Dc Dc a rfl rfl
theorem FC.fresh (h:FC w hi b u vl L V m pf sz bs bl) (a:u.grownBy u' (Xa k)) (c:u.heap[k]? =Xa (Xk Y 84 (0,0))) (d:pf<k):FC w hi b u' vl L V m pf sz bs bl:=by
 have d:(V.fl.x).ownBlock≠Xa k:=fun e=>Hm (h.fn k e);have f:w.heap.size<=k:=by have:=h.mm.rows.bh;have:=h.hp;omega
 exact⟨⟨zd h.mm.gr a f,h.mm.hb,h.mm.box.kind a c Dc,h.mm.lr,h.mm.lc,h.mm.lb,h.mm.rows.cL a c d⟩,h.hp,h.fb.kind a c (.inr d) (.inl Dc),h.fn,h.box.beside a (fun g e=>by cases e;omega),h.row.kind a c Dc⟩
theorem zoO (w:Xn) (x:FlV):zb fvE w.heap.size (w.alloc (Xk (fvE.enc x).toArray 84)) (O (Xa ⟨w.heap.size,0,Xb⟩) 1 1) [x]:=by
 refine⟨⟨rfl,.inr ⟨w.heap.size,1,(fvE.enc x).toArray,rfl,nR _,?_,nR _,q9 Wm,rfl,?_⟩⟩,by show 1*32<=_;omega⟩
 ·show(w.heap.push _)[w.heap.size]? =_
  simp;rfl
 simp[fvE,flv]
theorem FC.addB (h:FC w hi b u vl L V m pf sz bs bl) (a:u.grownBy u' (bs.x).ownBlock) (s:Sli) {c:List Int} (l:zb blE (pf+1) u' (s.x) c):
  zt u' pf 84 [I6 sz,bs.x]/\(∀p t cs,t≠3->t≠84->zt u p t cs->zt (u'.setCell ⟨pf,1,Xb⟩ (s.x)) p t cs)/\FC w hi b (u'.setCell ⟨pf,1,Xb⟩ (s.x)) vl L V m pf sz s c:=by
 have g:Mk w hi u' b vl L V m zE []/\FlB w.heap.size hi pf u' V m/\zt u' pf 84 [I6 sz,bs.x]/\(∀p t cs,t≠3->zt u p t cs->zt u' p t cs):=by
  cases c:(bs.x).ownBlock with
  | none=>
   rw[c]at a;have k:=qP a;exact⟨h.mm.aA k,h.fb.aA k,h.box.aA k,fun p t cs _ e=>e.aA k⟩
  | some i=>
   rw[c]at a;obtain⟨cs,d⟩:=h.row.obj c;have f:=(h.row.lt i c).1;have f:w.heap.size<=i:=(by have:=h.mm.rows.bh;have:=h.hp;omega);exact⟨⟨zd h.mm.gr a f,h.mm.hb,h.mm.box.kind a d Dc,h.mm.lr,h.mm.lc,h.mm.lb,h.mm.rows.ints h.fb a d Wm (Hm h.hp)⟩,h.fb.kind a d (.inl Dc) (.inr Wm),h.box.kind a d Dc,fun p t c c e=>e.kind a d (fun e=>c e.symm)⟩
 obtain⟨c,n,d,q⟩:=g;have a:=jY u' pf 1 (s.x);have g:(V.fl.x).ownBlock≠Xa pf:=fun e=>Hm (h.fn pf e);have f:w.heap.size<=pf:=by have:=h.mm.rows.bh;have:=h.hp;omega
 refine⟨d,fun p t cs i j k=>(q p t cs i k).kind a d (fun e=>j e.symm),⟨⟨zd c.gr a f,c.hb,c.box.kind a d Dc,c.lr,c.lc,c.lb,c.rows.cL a d g⟩,h.hp,n.kind a d (.inr g) (.inl Dc),h.fn,d.set 1 _,l.kind a d Dc⟩⟩
def FCE (w:Xn) (hi b:Nat) (L0:List Int) (V:MaV) (m:Ma) (pf:Nat) (sz:Int) (bs:Sli) (bl:List Int) (u:Xn):Prop:=∃vl L,FC w hi b u vl L V m pf sz bs bl/\J0 L0 L
end
theorem MkT.other (h:MkT k hi b p w V m vt T) {g:Nat} (a:w.grownBy w' (Xa g)) (ht:w.heap[g]? =Xa (Xk Y t (0,0))) (c:g<b) (e:t=81\/t=41):MkT k hi b p w' V m vt T:=by
 have d:t≠53/\t≠3/\t≠44/\t≠88/\t≠84/\t≠108/\t≠63/\t≠77/\t≠56:=by rcases e with rfl | rfl <;> decide
 obtain⟨i,e,f,cs,q,r,s,u,v⟩:=d;obtain⟨B,x,y,j⟩:=h.fl;obtain⟨C,z,A,l⟩:=h.sp;have d:Out 0 b w w':=Out.grown a (fun n n=>by cases n;exact⟨nZ _,c⟩);exact⟨h.fs.kind a ht i,h.sl.kind a ht e,h.aZ,⟨q7 h.sb.1 a ht f,h.sb.2⟩,h.sq,⟨q7 h.db.1 a ht f,h.db.2⟩,⟨q7 h.dq.1 a ht cs,h.dq.2⟩,⟨B,x.kind a ht q,y,fun i x f c cs=>⟨(j i x f c cs).1,(j i x f c cs).2.kind a ht e⟩⟩,h.ca.kind a ht r,⟨C,z.kind a ht s,A,fun i x s f c j e=>⟨(l i x s f c j e).1,(l i x s f c j e).2.1.kind a ht u,fun n=>((l i x s f c j e).2.2.1 n).out d,(l i x s f c j e).2.2.2⟩⟩,h.tt.kind a ht v,h.ap,h.lo,nT h.hts a.size⟩
theorem zgr:Loc hi k 41:=⟨Dc,Dc,Dc,Dc,Dc,Dc,Dc,Dc,fun h=>absurd h Dc⟩
theorem zsI:(Tryz.prog.info? 41).map (·.size)=Xa 11:=by kernel_rfl
def zmV (nf ns nb k:Nat):Ma:=⟨Xr nf frF,0,Xr ns 0,Xr ns zq,[],Xr nb zq,[],[],nb,[],Xr k ⟨Xc,[],qU⟩⟩
structure zj1 (w:Xn) (nf ns nb:Nat) (L:List Int) (w':Xn) (V:MaV) (m:Ma) (T:List (Nat->En)) (hd:Int) (hi ht:Nat) (vt:Sli):Prop where
 gr:zc w w'
 rows:MkT w.heap.size hi ht m.sp.length w' V m vt T
 inv:qF m T
 aB:0<=hd/\hd<max (m.fs.length:Int) 1
 fin:∀s∈m.sp,ZA m.fl.length s.aC/\Qb s.aC 64<=12
 fl2:m.fl.length<=2/\∀f∈m.fl,f.size<40
 sp:1<=m.sp.length/\m.sp.length<=2
 fsl:m.fs.length=nf
 new:L=[]->m=zmV nf ns nb 1/\T=[fun _=>en0]/\hd=0
theorem znZ (l:List En) (i:Nat):(Jj l i).length=8:=by simp[Jj]
theorem zpI (l:List En) (a:b<8):(Jj l k)[b]? =Xa (l[8*k+b]?.getD en0):=by unfold Jj;rw[Yt,Yn a];rfl
structure zq4 (l:List En) (kk:Nat) (t:List (List En)):Prop where
 len:t.length=8
 at':∀j,j<8->t[j]? =Xa (if j<kk then mk (Jj l j)else [])
theorem zm2 (l:List En):zq4 l 0 qU:=⟨rfl,fun j a=>by rw[kF (nL _),qU,Yl,kE a]⟩
theorem zhW (h:zq4 C kk G) (a:kk<8):zq4 C (kk+1) (G.set kk (mk (Jj C kk))):=by
 refine⟨by simp[h.len],fun j a=>?_⟩;by_cases e:j=kk;·subst e;rw[sF (by rw[h.len];exact a),kE (Nat.lt_succ_self _)]
 rw[sN (fun h=>e h.symm),h.at' j a];grind
theorem zo3 (h:zq4 C 8 G):G=ZR C:=by
 apply List.ext_getElem?;intro j;by_cases a:j<8;·rw[h.at' j a,kE a];unfold ZR;rw[Yt,Yn a];rfl
 rw[gN (by rw[h.len];omega),gN (by simp[ZR];omega)]
theorem zi1 (l:List En) (w:Xn) (cq:l.length=64) (B:∀e∈l,0<=e.kind):
  Xp prog 28 #[Xi (qG l).toArray] w fun e w'=>∃k,e= Xl (Xi k.toArray)/\Jr 0 w.heap.size w' k (ZR l)/\zc w w':=by
 have bw:=dD cq;have cz:=dD B;have bu:Xo (∀(j:Nat) e,l[j]? =Xa e->(qG l)[j*3]? =Xa (I6 e.kind)/\(qG l)[j*3+1]? =Xa (I6 e.n)/\(qG l)[j*3+2]? =Xa (Xh e.wr)):=show∀(j:Nat) e,_ from fun j e t=>zeS t;clear cq B;obtain⟨cl,ap⟩:=kA (ZR l);rw[ap.out];generalize qG l=Y at bu⊢;obtain⟨aw,x⟩:=kB (((w.alloc (Xk Y.toArray 56)).alloc (Xk #[eS,eS,eS,eS,eS,eS,eS,eS] 61)).alloc (Xk #[eS,eS,eS,eS,eS,eS,eS,eS] 61));have bv:Xo (zc w aw):=dD<|by rw[<-x];exact((za _ _).trans (za _ _)).trans (za _ _)
 have da:Xo (Box aw w.heap.size Y):=dD<|by rw[<-x];exact((Box.aE w _ _ rfl).alloc _).alloc _
 have dc:Xo (Box aw (w.heap.size+1) JJ):=dD<|by rw[<-x];exact(Box.aE _ JJ _ Sm).alloc _
 have d7:Xo (Box aw (w.heap.size+2) JJ):=dD<|by rw[<-x];exact Box.aE _ JJ _ Sm
 have bz:Xo (_=aw):=x;clear x;obtain⟨dw,cy⟩:=kA (w.heap.size+2);go_enter func28,ntmps28;go_upto_region 2 with fail;rw[bz.out];go_wp2;go_loopg [8] 8 (fun df dr wr=>∃(a:Nat) (k:List Xq) (U:List (List En)),a<=8/\8 - a<=df/\dr=I6 a/\Xo (zc w wr)/\Xo (Box wr w.heap.size Y)/\Xo (Box wr (w.heap.size+1) JJ)/\Xo (Box wr (w.heap.size+2) k)/\Xo (Jr 0 (w.heap.size+3) wr k U)/\Xo (zq4 l a U)/\Xo (∀j,a<=j->j<8->k[j]? =Xa (eS)))
 exact⟨0,JJ,qU,nZ _,Wm,rfl,bv,da,dc,d7,Jr.nil _ _ _,zm2 l,show∀j,_ from fun j _ ag=>by rw[JJ,Yl,kE ag]⟩;obtain⟨a,k,U,dk,cp,rfl,bs,bm,bn,bl,au,af,c5⟩:=hrel;by_cases n:a<8
 ·have b8:(a:Int)<8:=Wm
  obtain⟨f,P⟩:=kA (Jj l a);have Z:Xo (f.length=8):=dD (by rw[<-P.out];exact znZ _ _);have am:Xo (∀D,D<8->∃e,f[D]? =Xa e/\l[8*a+D]? =Xa e/\0<=e.kind):=dD<|fun D B=>by
   obtain⟨e,cb⟩:∃e,l[8*a+D]? =Xa e:=⟨_,gE (by rw[bw.out];omega)⟩;exact⟨e,by rw[<-P.out,zpI l B,cb];rfl,cb,cz e (mG cb)⟩
  obtain⟨i,rfl⟩:∃i,i=wr:=⟨_,rfl⟩;go_wp2;go_loopg [5,6] 8 (fun de dp dq ch=>∃(d:Nat) (ae:Bool),d<=8/\8 - d<=de/\dq=I6 d/\dp= Xh ae/\Xo (ae=zaW (f.take d))/\Xo (ch=i))
  exact⟨0,Xd,nZ _,Wm,rfl,rfl,rfl,rfl⟩;obtain⟨d,ae,di,dh,rfl,rfl,ak,cv⟩:=hrel;rw[cv.out];by_cases b6:d<8
  ·have ac:(d:Int)<8:=Wm
   obtain⟨e,z,A,b4⟩:=am.out d b6;have cj:Xo (zaW (f.take (d+1))=(ae || enS e)):=dD<|by
    rw[Zj z,ak.out];unfold zaW;rw[List.any_append];simp
   cases ae with
   | true=>
    have bx:Xo (Xc=zaW (f.take (d+1))):=dD<|Rr cj.out;clear z A b4;go_wp2;go_roundg (8 -(d+1));exact⟨d+1,Xc,Wm,Wm,Gn,rfl,bx,rfl⟩;omega
   | false=>
    have H:(8:Int)*(a:Int)+(d:Int)=((8*a+d:Nat):Int):=Wm;have G:8*a+d<64:=Wm;obtain⟨a7,_,_⟩:=bu.out _ e A;obtain⟨aj,a1⟩:=kA (8*a+d);rw[a1.out]at H G a7;have ab:(aj:Int)<64:=Wm;have dz:=bm.c _ a7;clear a7 z A;obtain⟨br,al⟩:=kA (enS e);have dg:decide (0<e.kind)=br:=by
     rw[<-al.out];unfold enS;by_cases t:e.kind=0;·rw[t];rfl
     have:0<e.kind:=Wm;rw[decide_eq_true this];simpa using t
    have bx:Xo (br=zaW (f.take (d+1))):=dD (by rw[cj.out,al.out];rfl);clear b4;go_wp2;go_roundg (8 -(d+1));exact⟨d+1,br,Wm,Wm,Gn,by first | rfl | rw[dg],bx,rfl⟩;omega
  have ac:¬(d:Int)<8:=Wm;have:d=8:=Wm;subst this;have an:Xo (ae=zaW f):=dD (by rw[ak.out,Yd (by rw[Z.out];exact nR _)]);cases ae with
  | false=>
   have a3:Xo (mk (Jj l a)=[]):=dD (by rw[P.out];unfold mk;rw[<-an.out,kF Dc]);have a4:Xo (U.set a (mk (Jj l a))=U):=dD<|by
    rw[a3.out];refine zgd ?_;rw[af.at' a n,kF (Yo _)]
   have d0:Xo (zq4 l (a+1) U):=dD (by rw[<-a4.out];exact zhW af n);go_wp2;go_loopg [7] 1 (fun a8 cg M=>1<=a8/\cg=I6 0/\Xo (M=i))
   exact⟨nR _,rfl,rfl⟩;obtain⟨cc,rfl,bt⟩:=hrel;rw[bt.out];go_wp2;go_roundg (8 -(a+1));exact⟨a+1,k,U,Wm,Wm,Gn,bs,bm,bn,bl,au,d0,show∀j,_ from fun j az bp=>c5.out j Wm bp⟩;omega
  | true=>
   have a3:Xo (mk (Jj l a)=f):=dD (by rw[P.out];unfold mk;rw[<-an.out,kE rfl]);have m:=dD au.len;go_wp2;go_loopg [7] 8 (fun a8 cg M=>∃(b s:Nat) (q:Option Addr),b<=8/\8 - b<=a8/\cg=I6 b/\Xo (Out (w.heap.size+2) (w.heap.size+3) i M)/\Xo (Box M (w.heap.size+2) (k.set a (O q b s)))/\Xo (zb enE i.heap.size M (O q b s) (f.take b)))
   exact⟨0,0,Xb,nZ _,Wm,rfl,Out.refl _ _ _,by rw[zgd (c5.out a (nR _) n)];exact bl,zb.nil _ _ _⟩;obtain⟨b,s,q,dj,cc,rfl,r,av,a5⟩:=hrel;have a2:Xo (w.heap.size+3<=i.heap.size):=bl.lt;by_cases b7:b<8
   ·have ad:(b:Int)<8:=Wm
    obtain⟨e,z,A,_⟩:=am.out b b7;have H:(8:Int)*(a:Int)+(b:Int)=((8*a+b:Nat):Int):=Wm;have G:8*a+b<64:=Wm;obtain⟨a7,c8,c9⟩:=bu.out _ e A;obtain⟨aj,a1⟩:=kA (8*a+b);rw[a1.out]at H G a7 c8 c9;have ab:(aj:Int)<64:=Wm;have a4:=dD<|Zj z;have ao:Xo ((f.take b).length=b):=show _=_ by rw[List.length_take,Z.out];omega
    have c3:Xo (Box wr w.heap.size Y):=bm.out.out r Wm;have c4:Xo (Box wr (w.heap.size+1) JJ):=bn.out.out r Wm;have b5:∀F,(O q b s).ownBlock=Xa F->i.heap.size<=F/\F<wr.heap.size:=a5.lt;have a0:=dD b5;clear b5 z A;obtain⟨V,rfl⟩:∃V,V=wr:=⟨_,rfl⟩;obtain⟨Q,N⟩:=Ww fun u=>Box u w.heap.size Y/\Box u (w.heap.size+1) JJ/\Box u (w.heap.size+2) (k.set a (O q b s))/\Out (w.heap.size+2) (w.heap.size+3) i u/\V.heap.size<=u.heap.size;go_upto_region 13 with fail;have bg:=fun y:zg Q=>((N _).1 y.holds).2.2.1.c a (sF (Rx m.out n));have bd:=fun y:zg Q=>((N _).1 y.holds).1.c _ a7;have be:=fun y:zg Q=>((N _).1 y.holds).1.c _ c8;have bf:=fun y:zg Q=>((N _).1 y.holds).1.c _ c9;have aa:Q V.drew:=(N _).2 ⟨c3.aA (gW _),c4.aA (gW _),av.aA (gW _),r.trans (Out.drew _),nR _⟩;have b9:Nonempty (zg Q):=⟨⟨_,aa⟩⟩;clear a7 c8 c9;refine qZ (I:=Q) 13 [(10,⟨fun L=>∃F,L= O (Xa ⟨F,0,Xb⟩) 1 1,fun L w'=>jD enE V.heap.size w' L [e],fun p bk=>zc p bk,fun _=>True⟩),(11,⟨fun L=>∃bo a6,L= O bo (b+1) a6,fun L w'=>zb enE i.heap.size w' L (f.take b++ [e]),fun p bk=>p.grownBy bk (O q b s).ownBlock,fun u=>zb enE i.heap.size u (O q b s) (f.take b)⟩)] aa z3 Kr rfl rfl Dc ?hS ?hp ?hpre ?hpr0 ?_;case hS=>
     intro y cr;simp at cr;rcases cr with rfl|rfl;·exact⟨_,0,rfl⟩
     exact⟨_,Xb,0,rfl⟩
    case hp=>
     intro D dm j ct B ag R _ L p bk T bb;rcases zln B with⟨rfl,rfl⟩|⟨rfl,rfl⟩
     ·rcases zln ag with⟨rfl,rfl⟩|⟨rfl,rfl⟩
      ·exact absurd rfl R
      have az:jD enE V.heap.size p L [e]:=bb;exact⟨az.1.beside T (fun ci cs a6 cf t=>by
       have bp:=az.2 ci cs a6 cf;have dx:=(a0 ci.block t.symm).2
       omega),az.2⟩
     rcases zln ag with⟨rfl,rfl⟩|⟨rfl,rfl⟩;·exact zb.aA bb T
     exact absurd rfl R
    case hpre=>
     intro j ct D dm ag B R p bk T S;rcases zln ag with⟨rfl,rfl⟩|⟨rfl,rfl⟩;·trivial
     rcases zln B with⟨rfl,rfl⟩|⟨rfl,rfl⟩;·exact zb.aA S T
     exact absurd rfl R
    case hpr0=>
     intro D ct B;rcases zln B with⟨rfl,rfl⟩|⟨rfl,rfl⟩;·trivial
     exact a5.aA (gW _)
    simp only[Xw,Xx];iterate 10 refine zs ?_
    refine zR rfl rfl (fun w' a9 S b0=>?_) (fun du X=>?_)
    ·obtain⟨bh,bi,ah,C,ai⟩:=(N _).1 a9;have ba:jD enE V.heap.size (w'.alloc (Xk #[I6 e.kind,I6 e.n,Xh e.wr] 55)) (O (Xa ⟨w'.heap.size,0,Xb⟩) 1 1) [e]:=⟨Zw enE w' e _ _ rfl Dc,fun ci cs a6 cf=>by cases cf;exact ai⟩;clear bg bd be bf b9;refine zN.step (v:= O (Xa ⟨w'.heap.size,0,Xb⟩) 1 1) (w':=w'.alloc (Xk #[I6 e.kind,I6 e.n,Xh e.wr] 55)) (by simp only[execOp];go_simp) ⟨(N _).2 ⟨bh.alloc _,bi.alloc _,ah.alloc _,C.trans (Out.aA (za _ _)),nT ai (bS (za _ _))⟩,za _ _,⟨_,rfl⟩,ba⟩
    obtain⟨ay,rfl⟩:=X;refine Uq ?_;refine zR rfl rfl (fun w' a9 S b0=>?_) (fun du X=>?_)
    ·obtain⟨bh,bi,ah,C,ai⟩:=(N _).1 a9;have ca:jD enE V.heap.size w' (O (Xa ⟨ay,0,Xb⟩) 1 1) [e]:=b0 10 Kr;have bc:zb enE i.heap.size w' (O q b s) (f.take b):=S;obtain⟨dy,dv,W,ce,c,_⟩:=jO (E:=enE) (w:=w') 59 bc (O (Xa ⟨ay,0,Xb⟩) 1 1) [e] ca.1 (by rw[ao.out];show(b+1)*24<=_;omega) C.size;obtain⟨bo,a6,rfl⟩:=ce.form;have cd:(f.take b++ [e]).length=b+1:=(by rw[lA,ao.out];rfl);rw[cd]at ce W;have K:∀c7,c7<w.heap.size+3->∀F,(O q b s).ownBlock=Xa F->c7≠F:=fun c7 co F cp=>by
      have:=(a0 F cp).1;have:=a2.out;omega
     refine zN.step (v:= O bo (b+1) a6) (w':=dv) ?_ ⟨(N _).2 ⟨bh.beside c (K _ Wm),bi.beside c (K _ Wm),ah.beside c (K _ Wm),⟨c.os.trans C.os,c.tape.trans C.tape,c.output.trans C.output,nT C.size c.size,fun D B co=>(c.block D (Yj B C.size) (fun t=>Hm ((a0 D t.symm).1))).trans (C.block D B co)⟩,nT ai c.size⟩,c,⟨bo,a6,rfl⟩,ce⟩;simp only[execOp,resolve,invoke,builtin,pure_bind,Xu,Xv,Xz,mP,Xt];exact Eq.trans (congrArg (fun dl=>Result.andThen dl (fun q w'=>Result.ok (Next.value q) w')) W) rfl
    obtain⟨g,h,rfl⟩:=X;refine Uq ?_;refine zs ?_;refine ZD fun ax b1 b0=>?_;have bj:zb enE i.heap.size ax (O g (b+1) h) (f.take b++ [e]):=b0 11;obtain⟨bh,bi,ah,C,ai⟩:=(N _).1 b1;have d3:Xo (zb enE i.heap.size ax (O g (b+1) h) (f.take (b+1))):=dD<|Rx a4.out bj;have c6:=dD ah;have aq:=dD C;clear b0 bg bd be bf b1 b9 aa bj bh bi ah C ai;have ds:=c6.c a (sF (Rx m.out n));have dt:=c6.f;go_upto_region 12 with fail;have d9:Xo (Box (ax.setCell ⟨w.heap.size+2,a,Xb⟩ (O g (b+1) h)) (w.heap.size+2) (k.set a (O g (b+1) h))):=dD<|by
     have:=c6.set a (O g (b+1) h);rw[List.set_set]at this;exact this
    have d4:Xo (zb enE i.heap.size (ax.setCell ⟨w.heap.size+2,a,Xb⟩ (O g (b+1) h)) (O g (b+1) h) (f.take (b+1))):=d3.setCell (by have:=a2.out;simp;omega) _;have ar:Xo (Out (w.heap.size+2) (w.heap.size+3) i (ax.setCell ⟨w.heap.size+2,a,Xb⟩ (O g (b+1) h))):=aq.trans (Out.setCell _ _ _ (p:=⟨w.heap.size+2,a,Xb⟩) (nR _) (Nat.lt_succ_self _) _);clear ds dt;go_wp2;go_roundg (8 -(b+1));exact⟨b+1,h,g,Wm,Wm,Gn,ar,d9,d4⟩;omega
   have ad:¬(b:Int)<8:=Wm;have:b=8:=Wm;subst this;have d5:Xo (zb enE i.heap.size wr (O q 8 s) f):=dD<|by
    have:=a5.out;rw[Yd (by rw[Z.out];exact nR _)]at this;exact this
   have d6:Xo (Jr 0 (w.heap.size+3) wr (k.set a (O q 8 s)) (U.set a f)):=dD<|⟨by simp[m.out],by simp[af.len],fun j L t X bq=>by
    by_cases e:j=a
    ·subst e;rw[sF (Rx m.out n)]at X;rw[sF (by rw[af.len];exact n)]at bq;cases X;cases bq;exact d5.new.stays.less (nZ _) a2.out
    rw[sN (fun t=>e t.symm)]at X bq
    exact(au.row j L t X bq).out (r.wide Wm Wm)⟩
   have d1:Xo (zq4 l (a+1) (U.set a f)):=dD (by rw[<-a3.out];exact zhW af n);have db:Xo (Box wr w.heap.size Y):=bm.out.out r Wm;have dd:Xo (Box wr (w.heap.size+1) JJ):=bn.out.out r Wm;have cx:Xo (zc w wr):=dD<|Out.bO bs Wm r.out;have d2:Xo (∀j,a+1<=j->j<8->(k.set a (O q 8 s))[j]? =Xa (eS)):=dD<|fun j az bp=>(by rw[sN Wm];exact c5 j Wm bp);go_wp2;go_roundg (8 -(a+1));exact⟨a+1,_,_,Wm,Wm,Gn,cx,db,dd,av,d6,d1,d2⟩;omega
 have b8:¬(a:Int)<8:=Wm;have:a=8:=Wm;subst this;have ck:Xo (Jr 0 (w.heap.size+3) wr k cl):=dD<|by rw[<-ap.out,<-zo3 af.out];exact au.out
 have m:=dD au.len;go_wp2_with (first | refine qM rfl (.tmp 3) rfl (w.heap.size+2) rfl bl m.out ?_ | refine zp rfl 61 (.tmp 2) (.tmp 47) rfl (w.heap.size+1) rfl k rfl bn m zso ck.one ?_)
 intro cm cn a8 dn;have cw:Xo (zc w cm):=dD<|zd bs a8 Sm;have cu:=dD cn;have d8:Xo (Jr 0 w.heap.size cm k cl):=(ck.out.out (Out.grown a8 (fun F t=>by cases t;omega))).less (nR _) Wm;clear cn a8 dn;go_wp2;refine bodyPost_ret (z8 rfl _ rfl cu underlying61 rfl (Rx m.out zso)) rfl ⟨k,rfl,d8,cw⟩
theorem ziA (F S B:Int) (nf ns nb:Nat) (mi:max (min F 40) 0=(nf:Int)) (mj:max (min S 60) 0=(ns:Int)) (mh:max (min B 80) 0=(nb:Int)) (vl:Sli) (L:List Int) (w:Xn) (rv:zr byE w (vl.x) L) (rt:vl.n<=vl.c) (lb:∀e0∈L,0<=e0/\e0<256):
  Xp prog 9 #[I6 F,I6 S,I6 B,vl.x] w fun e w'=>∃(fh:MaV) (m:Ma) (T:List (Nat->En)) (je:Int) (A bj:Nat) (tr:Sli),e= Xl (Xi #[fh.f.x,I6 je,fh.s.x,fh.sb.x,fh.sq.x,fh.db.x,fh.dq.x,fh.fl.x,I6 m.cnt,fh.ca.x,fh.sp.x])/\zj1 w nf ns nb L w' fh m T je A bj tr:=by
 have js:nf<=40:=Wm;have jt:ns<=60:=Wm;have d2:nb<=80:=Wm;obtain⟨kh,et⟩:=kB ((w.alloc (Xk zM.toArray 41)).alloc (Xk #[vl.x,eS,I6 0,eS,eS,eS,eS,eS,eS,I6 0,eS,eS,eS] 81));have ky:=gD2 et;have sp:Xo (zt kh w.heap.size 41 qY):=dD<|by rw[<-et];exact(zt.aE _ qY _ rfl).aA (za _ _)
 have rl:Xo (zt kh (w.heap.size+1) 81 [vl.x,eS,I6 0,eS,eS,eS,eS,eS,eS,I6 0,eS,eS,eS]):=dD<|by rw[<-et];exact zt.aE _ [vl.x,eS,I6 0,eS,eS,eS,eS,eS,eS,I6 0,eS,eS,eS] _ Sm
 have os:Xo (_=kh):=et;have om:Xo (zr byE w (vl.x) L):=rv;have ol:Xo (vl.n<=vl.c):=rt;have oj:Xo (∀e0∈L,0<=e0/\e0<256):=show∀e0,_ from lb;clear et rv rt lb;go_enter func9,ntmps9;go_upto_region 3 with fail;rw[os.out];try rw[mi]
 try rw[mj]
 try rw[mh]
 clear mi mj mh;obtain⟨j,br⟩:=kA (w.heap.size+1);rw[br.out]at rl⊢;obtain⟨q,p⟩:=Ww fun d=>zc kh d;have M:q kh.drew:=(p _).2 (gW _);have b4:Nonempty (zg q):=⟨⟨_,M⟩⟩;refine zhf (I:=q) (J:=JB nf ns nb) 17 [(2,⟨fun r=>∃Q,r= O (Xa ⟨Q,0,Xb⟩) nf nf,fun r d=>zb qR w.heap.size d r (Xr nf fr0),fun N bc=>zc N bc,fun _=>True⟩),(5,⟨fun r=>∃Q,r= O (Xa ⟨Q,0,Xb⟩) ns ns,fun r d=>zb slE w.heap.size d r (Xr ns 0),fun N bc=>zc N bc,fun _=>True⟩),(7,⟨fun r=>∃Q,r= O (Xa ⟨Q,0,Xb⟩) ns ns,fun r d=>zm w.heap.size d r (Xr ns zq),fun N bc=>zc N bc,fun _=>True⟩),(10,⟨fun r=>∃Q,r= O (Xa ⟨Q,0,Xb⟩) nb nb,fun r d=>zm w.heap.size d r (Xr nb zq),fun N bc=>zc N bc,fun _=>True⟩)] M ?hJ0 ?hJq ?hJs ?hJu z3 Kr rfl rfl Dc ?hS ?hp ?hpre ?hpr0 ?_;case hJ0=>
  refine⟨⟨rfl,rfl,rfl⟩,fun s Z=> .inl ?_,fun s Z x n c mb=>?_,fun s Z gv bj bh x n c a r4 e6 mb=>?_⟩
  ·simp only[mC,nM,or_false]at Z
   rcases Z with rfl|rfl|rfl|rfl <;> rfl
  ·simp only[mC,nM,or_false]at Z
   rcases Z with rfl|rfl <;> cases mb
  simp only[mC,nM,or_false]at Z;rcases Z with rfl|rfl <;> cases mb
 case hJq=>
  intro dy o az sw cb r d tm es;exact es.quiet (zoS (Sx:=[2,5,7,10]) Kr az (zlm sw)) Wm Wm d2 tm
 case hJs=>
  intro dy o s az Z cb d tu es tz je;have mn:=zC Z;clear Z;simp only[mC,pJ,nM,or_false]at mn;rcases mn with⟨rfl,rfl⟩|⟨rfl,rfl⟩|⟨rfl,rfl⟩|⟨rfl,rfl⟩;·cases az;obtain⟨jz,A,d3,jx,d4⟩:=info_parts qR.aD;exact es.make 26 53 jz _ 32 rfl Sm qR.bI A d3 (by rw[d4];decide) Dc je
  ·cases az;obtain⟨jz,A,d3,jx,d4⟩:=info_parts slE.aD;exact es.make 30 3 jz _ 35 rfl Sm slE.bI A d3 (by rw[d4];decide) Dc je
  ·cases az;obtain⟨jz,A,d3,jx,d4⟩:=info_parts zsi;exact es.make 31 44 jz _ 37 rfl Sm underlying31 A d3 (by rw[d4];decide) Dc je
  cases az;obtain⟨jz,A,d3,jx,d4⟩:=info_parts zsi;exact es.make 31 44 jz _ 40 rfl Sm underlying31 A d3 (by rw[d4];decide) Dc je
 case hJu=>
  intro dy o az cb d es;exact es.undef (zoT Kr az)
 case hS=>
  intro x aj;simp only[mC,nM,or_false]at aj;rcases aj with rfl|rfl|rfl|rfl <;> exact⟨_,0,rfl⟩
 case hp=>
  intro k s dy gv b3 az gb m6 r N bc bh bw;have ap:=zC b3;have bf:=zC az;clear b3 az;simp only[mC,pJ,nM,or_false]at ap bf;have ai:zc N bc:=by rcases bf with⟨rfl,rfl⟩ | ⟨rfl,rfl⟩ | ⟨rfl,rfl⟩ | ⟨rfl,rfl⟩ <;> exact bh
  rcases ap with⟨rfl,rfl⟩|⟨rfl,rfl⟩|⟨rfl,rfl⟩|⟨rfl,rfl⟩;·exact zb.aA bw ai
  ·exact zb.aA bw ai
  ·exact zm.aA bw ai
  exact zm.aA bw ai
 case hpre=>
  intro dy gv k s az b3 gb N bc bh bg;have bf:=zC az;clear b3 az;simp only[mC,pJ,nM,or_false]at bf;rcases bf with⟨rfl,rfl⟩|⟨rfl,rfl⟩|⟨rfl,rfl⟩|⟨rfl,rfl⟩ <;> trivial
 case hpr0=>
  intro k gv b3;have ap:=zC b3;clear b3;simp only[mC,pJ,nM,or_false]at ap;rcases ap with⟨rfl,rfl⟩|⟨rfl,rfl⟩|⟨rfl,rfl⟩|⟨rfl,rfl⟩ <;> trivial
 simp only[Xw,Xx];iterate 2 refine zs ?_
 refine zR rfl rfl (fun w' i bg bv=>?_) (fun dm a0=>?_);·have ai:=(p _).1 i;exact zcn qR w' nf (by show nf*40<=_;omega) (.tmp 32) rfl rfl (fun nw al=>⟨(p _).2 (ai.trans (za _ _)),za _ _,⟨_,rfl⟩,al.base (nT (bS ky) (bS ai))⟩)
 obtain⟨U,rfl⟩:=a0;refine Uq ?_;iterate 2 refine zs ?_
 refine zR rfl rfl (fun w' i bg bv=>?_) (fun dm a0=>?_);·have ai:=(p _).1 i;exact zcn slE w' ns (by show ns*8<=_;omega) (.tmp 35) rfl rfl (fun nw al=>⟨(p _).2 (ai.trans (za _ _)),za _ _,⟨_,rfl⟩,al.base (nT (bS ky) (bS ai))⟩)
 obtain⟨Y,rfl⟩:=a0;refine Uq ?_;refine zs ?_;refine zR rfl rfl (fun w' i bg bv=>?_) (fun dm a0=>?_);·have ai:=(p _).1 i;exact zaT w' ns Wm (.tmp 37) rfl rfl (fun nw al=>⟨(p _).2 (ai.trans (za _ _)),za _ _,⟨_,rfl⟩,al.base (nT (bS ky) (bS ai))⟩)
 obtain⟨l,rfl⟩:=a0;refine Uq ?_;iterate 2 refine zs ?_
 refine zR rfl rfl (fun w' i bg bv=>?_) (fun dm a0=>?_);·have ai:=(p _).1 i;exact zaT w' nb d2 (.tmp 40) rfl rfl (fun nw al=>⟨(p _).2 (ai.trans (za _ _)),za _ _,⟨_,rfl⟩,al.base (nT (bS ky) (bS ai))⟩)
 obtain⟨h,rfl⟩:=a0;refine Uq ?_;iterate 4 refine zs ?_
 refine Q2 (.tmp 31) ⟨j,0,Xb⟩ rfl rfl rfl rfl ?_;refine Uq ?_;refine zs ?_;refine ZD fun ix eq bv es=>?_;have m7:l≠h:=es.2.2.2 38 Sm 41 Sm Dc ⟨l,0,Xb⟩ ns ns ⟨h,0,Xb⟩ nb nb rfl rfl;have k0:zb qR w.heap.size ix (O (Xa ⟨U,0,Xb⟩) nf nf) (Xr nf fr0):=bv 2;have k1:zb slE w.heap.size ix (O (Xa ⟨Y,0,Xb⟩) ns ns) (Xr ns 0):=bv 5;have d5:zm w.heap.size ix (O (Xa ⟨l,0,Xb⟩) ns ns) (Xr ns zq):=bv 7;have i9:zm w.heap.size ix (O (Xa ⟨h,0,Xb⟩) nb nb) (Xr nb zq):=bv 10;have j8:=(p _).1 eq;have lu:=dD (rl.aA j8);have sq:=dD (sp.aA j8);have cp:=dD (ky.trans j8);clear bv es eq M b4 j8;refine zhe rfl 41 (.tmp 47) (.tmp 45) rfl j 1 rfl [O (Xa ⟨U,0,Xb⟩) nf nf,I6 0,O (Xa ⟨Y,0,Xb⟩) ns ns,O (Xa ⟨l,0,Xb⟩) ns ns,eS,O (Xa ⟨h,0,Xb⟩) nb nb,eS,eS,I6 (nb:Int),eS,eS] rfl lu Sm Kr (fun r a0=>by simp only[mC,nM,or_false]at a0;rcases a0 with rfl | rfl | rfl | rfl | rfl | rfl | rfl | rfl | rfl | rfl | rfl <;> rfl) ?_;intro fi m8 ac qt;have rz:zt fi j 81 [vl.x,O (Xa ⟨U,0,Xb⟩) nf nf,I6 0,O (Xa ⟨Y,0,Xb⟩) ns ns,O (Xa ⟨l,0,Xb⟩) ns ns,eS,O (Xa ⟨h,0,Xb⟩) nb nb,eS,eS,I6 (nb:Int),eS,eS,eS]:=m8;have pa:Xo (Mk w fi.heap.size fi j vl L ⟨⟨Xa ⟨U,0,Xb⟩,nf,nf⟩,⟨Xa ⟨Y,0,Xb⟩,ns,ns⟩,⟨Xa ⟨l,0,Xb⟩,ns,ns⟩,zE,⟨Xa ⟨h,0,Xb⟩,nb,nb⟩,zE,zE,zE,zE⟩ ⟨Xr nf fr0,0,Xr ns 0,Xr ns zq,[],Xr nb zq,[],[],nb,[],[]⟩ zE []):=zoX (zd cp ac (Hm br.out)) (Hm br.out) rz om ol oj (k0.kind ac lu Dc) (k1.kind ac lu Dc) ⟨q7 d5.1 ac lu Dc,d5.2⟩ ⟨q7 i9.1 ac lu Dc,i9.2⟩ m7;have pr:Xo (zt fi w.heap.size 41 qY):=sq.beside ac (fun Q e=>by cases e;have:=br.out;omega);clear m8 ac qt k0 k1 d5 i9 m7;obtain⟨A,oi⟩:=kA fi.heap.size;rw[oi.out]at pa;try simp only[Yu]
 have rd:=pa.box.box.c 1 rfl;go_wp2;clear rd;go_loopg [55] nf (fun en r7 wr=>∃cj:Nat,cj<=nf/\nf - cj<=en/\r7=I6 cj/\Xo (Mk w A wr j vl L ⟨⟨Xa ⟨U,0,Xb⟩,nf,nf⟩,⟨Xa ⟨Y,0,Xb⟩,ns,ns⟩,⟨Xa ⟨l,0,Xb⟩,ns,ns⟩,zE,⟨Xa ⟨h,0,Xb⟩,nb,nb⟩,zE,zE,zE,zE⟩ ⟨ziL nf cj,0,Xr ns 0,Xr ns zq,[],Xr nb zq,[],[],nb,[],[]⟩ zE [])/\Xo (zt wr w.heap.size 41 qY))
 exact⟨0,nZ _,Wm,rfl,Rx znm pa,pr⟩;obtain⟨cj,th,tc,rfl,h6,cx⟩:=hrel;by_cases dx:cj<nf
 ·have mg:=kC dx
  have rd:=h6.box.box.c 1 rfl;dsimp only[Sli.x]at rd;have ph:Xo (zb qR w.heap.size wr (O (Xa ⟨U,0,Xb⟩) nf nf) (ziL nf cj)):=h6.rows.fs;have tx:wr.cell? ⟨U,cj*13+11,Xb⟩=Xa (I6 0):=by
   have:=ph.one (zno dx) 11 _ rfl;rw[zZ,Ya,zA]at this;exact this
  have nv:=ph.bJ rfl;obtain⟨r5,kp,C⟩:=ph.cell (k:=cj) (o:=11) rfl (zno dx) (y:=frF) (u:=I6 (-1)) rfl Dc;rw[zpi dx]at r5;have qi:=h6.bM rfl kp C r5 (zfY.free (zqF nf (cj+1)) (znn nf (cj+1)));have pb:Xo (Mk w A (wr.setCell ⟨U,cj*13+11,Xb⟩ (I6 (-1))) j vl L ⟨⟨Xa ⟨U,0,Xb⟩,nf,nf⟩,⟨Xa ⟨Y,0,Xb⟩,ns,ns⟩,⟨Xa ⟨l,0,Xb⟩,ns,ns⟩,zE,⟨Xa ⟨h,0,Xb⟩,nb,nb⟩,zE,zE,zE,zE⟩ ⟨ziL nf (cj+1),0,Xr ns 0,Xr ns zq,[],Xr nb zq,[],[],nb,[],[]⟩ zE []):=qi.1;have pt:Xo (zt (wr.setCell ⟨U,cj*13+11,Xb⟩ (I6 (-1))) w.heap.size 41 qY):=qi.2.1 _ _ _ cx ⟨Dc,Dc,Dc,Dc,Dc,Dc,Dc,Dc,fun ar=>absurd ar Dc⟩;clear qi r5 kp C;go_wp2;go_roundg (nf -(cj+1));exact⟨cj+1,Wm,Wm,Gn,pb,pt⟩;omega
 have mg:=kD dx;obtain rfl:nf=cj:=Wm;rw[zpj]at h6;have ez:=qT 3 h6.out;go_wp2_with fail;refine ez.mono ?_;clear ez;rintro e rk ⟨n7,ox,a,rfl,mw,m3,r9,na,kd,yn,ru⟩;obtain⟨c,rfl⟩:∃c:Nat,a=(c:Int):=⟨a.toNat,Wm⟩;have sy:c<3:=by rcases kd with ar | ar <;> omega
 have oc:Xo (L=[]->c=0):=dD<|fun e=>Hm (yn e);have pb:Xo (Mk w A rk j n7 ox ⟨⟨Xa ⟨U,0,Xb⟩,nf,nf⟩,⟨Xa ⟨Y,0,Xb⟩,ns,ns⟩,⟨Xa ⟨l,0,Xb⟩,ns,ns⟩,zE,⟨Xa ⟨h,0,Xb⟩,nb,nb⟩,zE,zE,zE,zE⟩ ⟨Xr nf frF,0,Xr ns 0,Xr ns zq,[],(Xr nb zq),[],[],nb,[],[]⟩ zE []):=mw;have pt:Xo (zt rk w.heap.size 41 qY):=cx.beside m3 (fun Q e=>by cases e;have:=br.out;omega);have p8:Xo (J0 L ox):=ru;clear mw m3 r9 na kd yn ru;go_wp2;go_loopg [70] c (fun en r8 wr=>∃(f3:Nat) (an:Sli) (bm:List Int) (k9 X:Sli) (dd:List (List Int)) (e7:List (Int × List Int)) (fl:List Fl),f3<=c/\c - f3<=en/\r8=I6 f3/\Xo (Mk w A wr j an bm ⟨⟨Xa ⟨U,0,Xb⟩,nf,nf⟩,⟨Xa ⟨Y,0,Xb⟩,ns,ns⟩,⟨Xa ⟨l,0,Xb⟩,ns,ns⟩,zE,⟨Xa ⟨h,0,Xb⟩,nb,nb⟩,k9,X,zE,zE⟩ ⟨Xr nf frF,0,Xr ns 0,Xr ns zq,[],dd,e7,fl,nb,[],[]⟩ zE [])/\Xo (J0 L bm)/\Xo (zt wr w.heap.size 41 qY)/\Xo (zg2 fl nb dd e7 []/\fl.length<=f3/\dd.length=nb/\∀f∈fl,f.size<40)/\Xo (f3=0->fl=[]/\e7=[]/\dd=Xr nb zq))
 exact⟨0,n7,ox,zE,zE,_,_,_,nZ _,Wm,rfl,pb,p8,pt,(show _/\_ from⟨zg2.zero d2,nZ _,lR,fun f ay=>(by cases ay)⟩),(fun _=>⟨rfl,rfl,rfl⟩)⟩;obtain⟨f3,n8,rh,k9,X,dd,e7,fl,te,ac,rfl,h6,p9,cx,c0,ss⟩:=hrel;by_cases hq:f3<c
 ·have jn:=kC hq
  have i2:=qT 40 h6.out;go_wp2_with fail;refine i2.mono ?_;clear i2;rintro e iy ⟨dz,ke,C,rfl,f6,cg,-,gp,gu,-,f4⟩;have mp:C<40:=by rcases gu with ar|ar <;> omega
  have kf:Xo (Mk w A iy j dz ke ⟨⟨Xa ⟨U,0,Xb⟩,nf,nf⟩,⟨Xa ⟨Y,0,Xb⟩,ns,ns⟩,⟨Xa ⟨l,0,Xb⟩,ns,ns⟩,zE,⟨Xa ⟨h,0,Xb⟩,nb,nb⟩,k9,X,zE,zE⟩ ⟨Xr nf frF,0,Xr ns 0,Xr ns zq,[],dd,e7,fl,nb,[],[]⟩ zE []):=f6;have pu:Xo (zt iy w.heap.size 41 qY):=cx.beside cg (fun Q e=>by cases e;have:=br.out;omega);have iu:=dD (p9.trans f4);clear f6 cg f4 gu;go_upto_region 12 with fail;obtain⟨a5,ec⟩:=kA iy.heap.size;obtain⟨pm,g8⟩:=kB (iy.alloc (Xk #[I6 C,eS] 84));have de:=gP g8;have rj:=xPT g8 ec;have sa:=dD (kf.aA de);have sr:=dD (pu.aA de);have oa:Xo (FlB w.heap.size A a5 pm ⟨⟨Xa ⟨U,0,Xb⟩,nf,nf⟩,⟨Xa ⟨Y,0,Xb⟩,ns,ns⟩,⟨Xa ⟨l,0,Xb⟩,ns,ns⟩,zE,⟨Xa ⟨h,0,Xb⟩,nb,nb⟩,k9,X,zE,zE⟩ ⟨Xr nf frF,0,Xr ns 0,Xr ns zq,[],dd,e7,fl,nb,[],[]⟩):=show FlB _ _ _ _ _ _ by rw[<-ec.out];exact kf.rows.flB.aA de
  have fu:Xo (A<=a5):=dD<|Ry ec.out kf.rows.hw;have og:Xo (∀Q,(X.x).ownBlock=Xa Q->Q<a5):=dD<|fun Q ai=>by rw[<-ec.out];obtain⟨bq,cl,-,-⟩:=kf.rows.fl;exact(cl.lt Q ai).2
  rw[g8,ec.out];clear g8 de;have av:=rj.box.c 0 rfl;have ma:=zc0 C pm gp Wm;go_wp2_with fail;refine ma.mono ?_;clear ma av;rintro e tv ⟨rfl,mq⟩;rw[mq];clear mq;have od:Xo (zau C<=5):=dD (by unfold zau;split <;> omega);obtain⟨g2,io⟩:∃g2:Nat,Xo (zau C=(g2:Int)):=⟨(zau C).toNat,show _=_ by unfold zau;split <;> omega⟩;rw[io.out];have l7:Xo (0<=C/\C<40):=dD<|⟨gp,mp⟩;have rp:g2<=5:=by have:=od.out;have:=io.out;omega
  have s5:Xo (FC w A j pm dz ke ⟨⟨Xa ⟨U,0,Xb⟩,nf,nf⟩,⟨Xa ⟨Y,0,Xb⟩,ns,ns⟩,⟨Xa ⟨l,0,Xb⟩,ns,ns⟩,zE,⟨Xa ⟨h,0,Xb⟩,nb,nb⟩,k9,X,zE,zE⟩ ⟨Xr nf frF,0,Xr ns 0,Xr ns zq,[],dd,e7,fl,nb,[],[]⟩ a5 C zE []):=dD<|⟨sa,fu,oa,og,rj,zb.nil _ _ _⟩;have l3:Xo (zg2 fl nb dd e7 []/\dd.length=nb):=dD<|⟨c0.1,c0.2.2.1⟩;have l4:Xo (∀f∈fl,f.size<40):=dD<|c0.2.2.2;have ft:Xo (fl.length<=f3):=dD<|c0.2.1;clear gp mp;go_wp2;go_loopg [78] g2 (fun en fd wr=>∃(cu:Nat) (an:Sli) (bm:List Int) (ka a9:Sli) (cz:List (List Int)) (em:List (Int × List Int)) (V:List Int),cu<=g2/\g2 - cu<=en/\fd=I6 cu/\Xo (FC w A j wr an bm ⟨⟨Xa ⟨U,0,Xb⟩,nf,nf⟩,⟨Xa ⟨Y,0,Xb⟩,ns,ns⟩,⟨Xa ⟨l,0,Xb⟩,ns,ns⟩,zE,⟨Xa ⟨h,0,Xb⟩,nb,nb⟩,ka,X,zE,zE⟩ ⟨Xr nf frF,0,Xr ns 0,Xr ns zq,[],cz,em,fl,nb,[],[]⟩ a5 C a9 V)/\Xo (J0 L bm)/\Xo (zt wr w.heap.size 41 qY)/\Xo (zg2 fl nb cz em V/\V.length=cu/\cz.length=nb))
  exact⟨0,dz,ke,k9,zE,dd,e7,[],nZ _,Wm,rfl,s5,iu,sr,(show _/\_ from⟨l3.1,rfl,l3.2⟩)⟩;obtain⟨cu,fe,ri,z,a9,H,K,V,tf,t8,rfl,ca,ff,ek,co⟩:=hrel;by_cases hw:cu<g2
  ·have jo:=kC hw
   have i5:=qT (max (nb:Int) 1) ca.mm;go_wp2_with fail;refine i5.mono ?_;clear i5;rintro e ah ⟨cm,fw,x,rfl,f7,dw,-,ts,-,-,f5⟩;obtain⟨n,rfl⟩:∃n:Nat,x=(n:Int):=⟨x.toNat,Wm⟩;have fq:Xo (FC w A j ah cm fw ⟨⟨Xa ⟨U,0,Xb⟩,nf,nf⟩,⟨Xa ⟨Y,0,Xb⟩,ns,ns⟩,⟨Xa ⟨l,0,Xb⟩,ns,ns⟩,zE,⟨Xa ⟨h,0,Xb⟩,nb,nb⟩,z,X,zE,zE⟩ ⟨Xr nf frF,0,Xr ns 0,Xr ns zq,[],H,K,fl,nb,[],[]⟩ a5 C a9 V):=ca.pick dw f7;have ls:Xo (zt ah w.heap.size 41 qY):=ek.kind dw ca.mm.box Dc;have fz:=dD (ff.trans f5);clear f7 dw f5 ts;go_upto_region 17 with fail;go_cut [78,109]from 78 to 160 (fun fd n0 n9=>∃(nu:Bool) (an:Sli) (bm:List Int),fd=I6 cu/\n0= Xh nu/\Xo (FC w A j n9 an bm ⟨⟨Xa ⟨U,0,Xb⟩,nf,nf⟩,⟨Xa ⟨Y,0,Xb⟩,ns,ns⟩,⟨Xa ⟨l,0,Xb⟩,ns,ns⟩,zE,⟨Xa ⟨h,0,Xb⟩,nb,nb⟩,z,X,zE,zE⟩ ⟨Xr nf frF,0,Xr ns 0,Xr ns zq,[],H,K,fl,nb,[],[]⟩ a5 C a9 V)/\Xo (J0 L bm)/\Xo (zt n9 w.heap.size 41 qY)/\Xo (nu=Xc->n<nb/\z4 (fl++ [⟨C,V⟩]) (n:Int)=Xd))
   case first=>
    by_cases gc:n<nb
    ·have gd:=kC gc
     have qr:decide ((n:Int)< (nb:Int))=Xc:=Si gd;obtain⟨bq,cl,f8,dl⟩:=fq.fb;have ee:Xo (zb fvE w.heap.size ah (X.x) bq):=cl;obtain⟨bk,dr⟩:=kA fl.length;have ab:Xo (bq.length=bk):=show _=_ by rw[f8];exact dr.out
     have tj:bk<=10:=(by have:=ft.out;have:=dr.out;omega);have s9:Xo (X.n=bk):=dD (by rw[cl.n];exact ab.out);have fv:Xo (∀(G:Nat) x f,bq[G]? =Xa x->fl[G]? =Xa f->x.size=f.size/\zb blE A ah x.v f.bl):=dD<|fun G x f aj ay=>(dl G x f aj ay).1;clear cl f8 dl;obtain⟨bn,dp⟩:∃bn:FlV,Xo (bn=⟨C,a9.a,a9.n,a9.c⟩):=⟨_,rfl⟩;obtain⟨nd,la⟩:∃nd,Xo (z4 (fl++ [(⟨C,V⟩:Fl)]) (n:Int)=nd):=⟨z4 (fl++ [(⟨C,V⟩:Fl)]) (n:Int),rfl⟩;have ob:Xo (j<ah.heap.size):=fq.mm.box.box.lt;have s8:Xo (a5≠j):=show _≠_ from fun e=>by
      have ax:ah.heap[a5]? =_:=fq.box;have ak:ah.heap[j]? =_:=fq.mm.box;rw[e,ak]at ax;cases ax
     have lf:Xo (w.heap.size≠j):=dD<|Hm br.out;obtain⟨q,p⟩:=Ww fun d=>Out j (j+1) ah d/\FCE w A j L ⟨⟨Xa ⟨U,0,Xb⟩,nf,nf⟩,⟨Xa ⟨Y,0,Xb⟩,ns,ns⟩,⟨Xa ⟨l,0,Xb⟩,ns,ns⟩,zE,⟨Xa ⟨h,0,Xb⟩,nb,nb⟩,z,X,zE,zE⟩ ⟨Xr nf frF,0,Xr ns 0,Xr ns zq,[],H,K,fl,nb,[],[]⟩ a5 C a9 V d;have M:q ah.drew:=(p _).2 ⟨Out.drew _,cm,fw,fq.aA (gW _),fz⟩;have eb:Xo (∀d ra,q d->zc d ra->q ra):=dD<|fun d ra ar k=>by
      obtain⟨ax,an,bm,ak,bu⟩:=(p _).1 ar;exact(p _).2 ⟨ax.trans (Out.aA k),an,bm,ak.aA k,bu⟩
     have gi:∀a:zg q,a.world.cell? ⟨j,8,Xb⟩=Xa (X.x):=fun a=>by
      obtain⟨_,_,_,ak,_⟩:=(p _).1 a.holds;exact ak.mm.box.box.c 8 rfl
     have ge:∀a:zg q,a.world.cell? ⟨a5,0,Xb⟩=Xa (I6 C):=fun a=>by
      obtain⟨_,_,_,ak,_⟩:=(p _).1 a.holds;exact ak.box.box.c 0 rfl
     have gh:∀a:zg q,a.world.cell? ⟨a5,1,Xb⟩=Xa (a9.x):=fun a=>by
      obtain⟨_,_,_,ak,_⟩:=(p _).1 a.holds;exact ak.box.box.c 1 rfl
     have b4:Nonempty (zg q):=⟨⟨_,M⟩⟩;refine qZ (I:=q) 25 [(4,⟨fun r=>∃Q,r= O (Xa ⟨Q,0,Xb⟩) 0 0,fun r d=>zb fvE ah.heap.size d r [],fun N bc=>zc N bc,fun _=>True⟩),(11,⟨fun r=>(∃cb c,r= O cb bk c)/\(bk=0->∃Q,r= O (Xa ⟨Q,0,Xb⟩) 0 0),fun r d=>zb fvE ah.heap.size d r bq,fun N bc=>zc N bc,fun _=>True⟩),(13,⟨fun r=>∃Q,r= O (Xa ⟨Q,0,Xb⟩) 1 1,fun r d=>zb fvE ah.heap.size d r [bn],fun N bc=>zc N bc,fun _=>True⟩),(14,⟨fun r=>∃cb c,r= O cb (bk+1) c,fun r d=>zb fvE ah.heap.size d r (bq++ [bn]),fun N bc=>∀d m,m.length<=bk\/m.length<=1->zb fvE ah.heap.size N d m->zb fvE ah.heap.size bc d m,fun _=>True⟩),(17,⟨fun r=>r= Xh nd,fun _ _=>True,fun N bc=>zc N bc,fun _=>True⟩),(22,⟨fun r=>∃x:Int,r=I6 x,fun _ _=>True,fun N bc=>Out j (j+1) N bc,fun _=>True⟩)] M z3 Kr rfl rfl Dc ?hS ?hp ?hpre ?hpr0 ?_;case hS=>
      intro x aj;simp only[mC,nM,or_false]at aj;rcases aj with rfl|rfl|rfl|rfl|rfl|rfl;·exact⟨_,0,rfl⟩
      ·by_cases ha:bk=0
       ·exact⟨O (Xa ⟨0,0,Xb⟩) 0 0,⟨Xa ⟨0,0,Xb⟩,0,by rw[ha]⟩,fun _=>⟨0,rfl⟩⟩
       exact⟨O Xb bk 0,⟨_,_,rfl⟩,fun ar=>absurd ar ha⟩
      ·exact⟨_,0,rfl⟩
      ·exact⟨_,Xb,0,rfl⟩
      ·exact⟨_,rfl⟩
      exact⟨_,0,rfl⟩
     case hp=>
      intro k s dy gv b3 az gb m6 r N bc bh bw;have ap:=zC b3;have bf:=zC az;clear b3 az;simp only[mC,pJ,nM,or_false]at ap bf;have dk:∀kq:List FlV,kq.length<=bk\/kq.length<=1\/dy≠14->zb fvE ah.heap.size N r kq->zb fvE ah.heap.size bc r kq:=fun kq v0 al=>by
       rcases bf with⟨rfl,rfl⟩|⟨rfl,rfl⟩|⟨rfl,rfl⟩|⟨rfl,rfl⟩|⟨rfl,rfl⟩|⟨rfl,rfl⟩;·exact zb.aA al bh
       ·exact zb.aA al bh
       ·exact zb.aA al bh
       ·exact bh r kq Wm al
       ·exact zb.aA al bh
       exact al.cG bh (fun Q ai=>by have:=(al.lt Q ai).1;have:=ob.out;omega)
      rcases ap with⟨rfl,rfl⟩|⟨rfl,rfl⟩|⟨rfl,rfl⟩|⟨rfl,rfl⟩|⟨rfl,rfl⟩|⟨rfl,rfl⟩;·exact dk _ (.inl (nZ _)) bw
      ·exact dk _ (.inl (by rw[ab.out];exact nR _)) bw
      ·exact dk _ (.inr (.inl (nR _))) bw
      ·exact dk _ (.inr (.inr (fun e=>gb e))) bw
      ·trivial
      trivial
     case hpre=>
      intro dy gv k s az b3 gb N bc bh bg;have bf:=zC az;clear b3 az;simp only[mC,pJ,nM,or_false]at bf;rcases bf with⟨rfl,rfl⟩|⟨rfl,rfl⟩|⟨rfl,rfl⟩|⟨rfl,rfl⟩|⟨rfl,rfl⟩|⟨rfl,rfl⟩ <;> trivial
     case hpr0=>
      intro k gv b3;have ap:=zC b3;clear b3;simp only[mC,pJ,nM,or_false]at ap;rcases ap with⟨rfl,rfl⟩|⟨rfl,rfl⟩|⟨rfl,rfl⟩|⟨rfl,rfl⟩|⟨rfl,rfl⟩|⟨rfl,rfl⟩ <;> trivial
     simp only[Xw,Xx];iterate 4 refine zs ?_
     refine zR rfl rfl (fun w' i bg bv=>?_) (fun dm a0=>?_);·have ai:=((p _).1 i).1;exact zN.step (v:= O (Xa ⟨w'.heap.size,0,Xb⟩) 0 0) (w':=w'.alloc (Xk #[] 84)) (by simp only[execOp];go_simp) ⟨eb _ _ i (za _ _),za _ _,⟨_,rfl⟩,(zb.made fvE w').base ai.size⟩
     obtain⟨aq,rfl⟩:=a0;refine Uq ?_;refine zs ?_;refine Q2 (.tmp 90) ⟨j,0,Xb⟩ rfl rfl rfl rfl ?_;refine Uq ?_;iterate 4 refine zs ?_
     refine zR rfl rfl (fun w' i bg bv=>?_) (fun dm a0=>?_)
     ·have ai:=((p _).1 i).1;have ha:zb fvE ah.heap.size w' (O (Xa ⟨aq,0,Xb⟩) 0 0) []:=bv 4 Kr
      have sx:=ee.cG ai (fun Q au e=>by
       obtain⟨fj,bo⟩:=ee.obj au;have bu:ah.heap[j]? =_:=fq.mm.box;rw[e,bu]at bo
       cases bo)
      obtain⟨fo,bz,ae,al,ac,gj⟩:=Qj (E:=fvE) (w:=w') 35 ha (X.x) bq sx.at ai.size;obtain⟨el,e6,rfl⟩:=al.form;refine zN.step (v:= O el bq.length e6) (w':=bz) ?_ ⟨eb _ _ i ac,ac,⟨⟨el,e6,by rw[ab.out]⟩,fun ar=>⟨aq,gj (eN (Rx ab.out ar))⟩⟩,al⟩;simp only[execOp,resolve,invoke,builtin,pure_bind,Xu,Xv,Xz,mP,Xt];exact Eq.trans (congrArg (fun k8=>Result.andThen k8 (fun cb w'=>Result.ok (Next.value cb) w')) ae) rfl
     obtain⟨⟨kj,kl,rfl⟩,jy⟩:=a0;refine Uq ?_;refine zs ?_;refine zR rfl rfl (fun w' i bg bv=>?_) (fun dm a0=>?_);·have ai:=((p _).1 i).1;exact zN.step (v:= O (Xa ⟨w'.heap.size,0,Xb⟩) 1 1) (w':=w'.alloc (Xk #[I6 C,a9.x] 84)) (by simp only[execOp];go_simp) ⟨eb _ _ i (za _ _),za _ _,⟨_,rfl⟩,by rw[dp.out];exact(zoO w' ⟨C,a9.a,a9.n,a9.c⟩).base ai.size⟩
     obtain⟨de,rfl⟩:=a0;refine Uq ?_;refine zR rfl rfl (fun w' i bg bv=>?_) (fun dm a0=>?_)
     ·have ai:=((p _).1 i).1;have d5:zb fvE ah.heap.size w' (O kj bk kl) bq:=bv 11 Kr;have k4:zb fvE ah.heap.size w' (O (Xa ⟨de,0,Xb⟩) 1 1) [bn]:=bv 13 Kr;have r1:∃fo bz,(Builtin.append_ #[35,35] 35 #[O kj bk kl,O (Xa ⟨de,0,Xb⟩) 1 1]).run prog w'= .ok fo bz/\zb fvE ah.heap.size bz fo (bq++ [bn])/\q bz/\∀d m,m.length<=bk\/m.length<=1->zb fvE ah.heap.size w' d m->zb fvE ah.heap.size bz d m:=by
       by_cases ha:bk=0
       ·have qy:bq=[]:=eN (Rx ab.out ha)
        subst qy;obtain⟨Q,qo⟩:=jy ha;rw[qo]at d5⊢;obtain⟨fo,bz,ae,al,ac,_⟩:=Qj (E:=fvE) (w:=w') 35 d5 (O (Xa ⟨de,0,Xb⟩) 1 1) [bn] k4.at ai.size;exact⟨fo,bz,ae,al,eb _ _ i ac,fun d m _ ar=>ar.aA ac⟩
       obtain⟨fo,bz,ae,al,a7,b3⟩:=jO (E:=fvE) (w:=w') 35 d5 (O (Xa ⟨de,0,Xb⟩) 1 1) [bn] k4.at (by rw[ab.out];show(bk+1)*32<=_;omega) ai.size;refine⟨fo,bz,ae,al,?_,fun d m v2 ar=>b3 d m (by rw[ab.out];omega) ar⟩;obtain⟨ax,an,bm,ak,bu⟩:=(p _).1 i;obtain⟨kp,tw,ev⟩:=d5.aG (by rw[ab.out];omega);obtain⟨fj,g9⟩:=d5.obj (g:=kp) (Rr ev);have bp:w'.grownBy bz (Xa kp):=(by rw[ev]at a7;exact a7);have ga:=(d5.lt kp (Rr ev)).1;have tl:=fq.box.box.lt;refine(p _).2 ⟨⟨bp.os.trans ax.os,bp.tape.trans ax.tape,bp.output.trans ax.output,nT ax.size bp.size,fun k ap qj=>(bp.block k (Yj ap ax.size) (fun e=>by cases e;omega)).trans (ax.block k ap qj)⟩,an,bm,ak.fresh bp g9 Wm,bu⟩
      obtain⟨fo,bz,ae,al,qh,b3⟩:=r1;obtain⟨el,e6,rfl⟩:=al.form;refine zN.step (v:= .slice el (bq++ [bn]).length e6) (w':=bz) ?_ ⟨qh,b3,⟨el,e6,by rw[lA,ab.out];rfl⟩,al⟩;simp only[execOp,resolve,invoke,builtin,pure_bind,Xu,Xv,Xz,mP,Xt];exact Eq.trans (congrArg (fun k8=>Result.andThen k8 (fun cb w'=>Result.ok (Next.value cb) w')) ae) rfl
     obtain⟨ne,h8,rfl⟩:=a0;refine Uq ?_;iterate 2 refine zs ?_
     refine zR rfl rfl (fun w' i bg bv=>?_) (fun dm a0=>?_)
     ·obtain⟨ax,an,bm,ak,bu⟩:=(p _).1 i;have k6:zb fvE ah.heap.size w' (O ne (bk+1) h8) (bq++ [bn]):=bv 14 Kr;have qm:qE w' (O ne (bk+1) h8) (fl++ [⟨C,V⟩]):=by
       refine⟨k6.cap,bq++ [bn],k6.at.s0,by rw[lA,lA,ab.out,dr.out];rfl,fun G x f aj ay=>?_⟩;rcases Yq G bk with ew | ew
       ·rw[Yf (Rx ab.out ew)]at aj
        rw[Yf (Rx dr.out ew)]at ay
        obtain⟨d9,cy⟩:=fv.out G x f aj ay;exact⟨d9,(cy.cG ax (fun Q au e=>by
         obtain⟨fj,bo⟩:=cy.obj au;have bu:ah.heap[j]? =_:=fq.mm.box;rw[e,bu]at bo
         cases bo)).at.s0⟩
       rw[aR (Rx ab.out ew),ab.out]at aj;rw[aR (Rx dr.out ew),dr.out]at ay;have qp:G - bk=0:=by
        have:=(gS.1 aj).1;simp at this;omega
       rw[qp]at aj ay;cases aj;cases ay;rw[dp.out];exact⟨rfl,ak.row.at.s0⟩
      refine zN.call [Xi #[O ne (bk+1) h8,I6 0],I6 (n:Int)] rfl func24 rfl rfl rfl ?_;refine(zj6 (O ne (bk+1) h8) (fl++ [⟨C,V⟩]) 0 (n:Int) w' qm).mono ?_;rintro e kb ⟨rfl,ac⟩;exact⟨_,rfl,eb _ _ i ac,ac,by rw[la.out],trivial⟩
     subst a0;refine Uq ?_;iterate 3 refine zs ?_
     cases nd with
     | true=>
      refine zek ?_;refine zek ?_;refine zek ?_;refine zs ?_;refine ZD fun lp er jb=>?_;obtain⟨ax,d6,fy,ak,bu⟩:=(p _).1 er;have gy:Xo (FC w A j lp d6 fy ⟨⟨Xa ⟨U,0,Xb⟩,nf,nf⟩,⟨Xa ⟨Y,0,Xb⟩,ns,ns⟩,⟨Xa ⟨l,0,Xb⟩,ns,ns⟩,zE,⟨Xa ⟨h,0,Xb⟩,nb,nb⟩,z,X,zE,zE⟩ ⟨Xr nf frF,0,Xr ns 0,Xr ns zq,[],H,K,fl,nb,[],[]⟩ a5 C a9 V):=ak;have du:Xo (J0 L fy):=bu;have ki:Xo (zt lp w.heap.size 41 qY):=ls.cG ax lf.out;clear er jb M gi ge gh b4 ax ak bu jy;go_wp2;go_meet;exact⟨Xd,d6,fy,rfl,rfl,gy,du,ki,fun ar=>(by cases ar)⟩
     | false=>
      refine zs ?_;refine zR rfl rfl (fun w' i bg bv=>?_) (fun dm a0=>?_)
      ·obtain⟨ax,an,bm,ak,bu⟩:=(p _).1 i;refine zN.call [Xj (Xa ⟨j,0,Xb⟩),I6 3] rfl func22 rfl rfl rfl ?_;refine(qT 3 ak.mm).mono ?_;rintro e kb ⟨n8,rh,a,rfl,r3,bt,-,-,-,-,r2⟩;have ml:Out j (j+1) w' kb:=Out.grown bt (fun Q e=>by cases e;omega);exact⟨_,rfl,(p _).2 ⟨ax.trans ml,n8,rh,ak.pick bt r3,bu.trans r2⟩,ml,⟨a,rfl⟩,trivial⟩
      obtain⟨x,rfl⟩:=a0;refine Uq ?_;iterate 2 refine zs ?_
      refine ZD fun lp er jb=>?_;obtain⟨ax,d6,fy,ak,bu⟩:=(p _).1 er;have gy:Xo (FC w A j lp d6 fy ⟨⟨Xa ⟨U,0,Xb⟩,nf,nf⟩,⟨Xa ⟨Y,0,Xb⟩,ns,ns⟩,⟨Xa ⟨l,0,Xb⟩,ns,ns⟩,zE,⟨Xa ⟨h,0,Xb⟩,nb,nb⟩,z,X,zE,zE⟩ ⟨Xr nf frF,0,Xr ns 0,Xr ns zq,[],H,K,fl,nb,[],[]⟩ a5 C a9 V):=ak;have du:Xo (J0 L fy):=bu;have ki:Xo (zt lp w.heap.size 41 qY):=ls.cG ax lf.out;have ds:Xo (decide (0<x)=Xc->n<nb/\z4 (fl++ [⟨C,V⟩]) (n:Int)=Xd):=show _->_ from fun _=>⟨gc,la⟩;clear er jb M gi ge gh b4 ax ak bu jy;go_wp2;go_meet;exact⟨decide (0<x),d6,fy,rfl,rfl,gy,du,ki,ds⟩
    have gd:=kD gc;have qr:decide ((n:Int)< (nb:Int))=Xd:=Si gd;clear gc;go_quiet (fail);go_wp2;go_meet;exact⟨Xd,cm,fw,rfl,rfl,fq.aA (show Below _ _ _ from bD (bR _ _) _),fz,ls.aA (show Below _ _ _ from bD (bR _ _) _),fun ar=>(by cases ar)⟩
   obtain⟨nu,d6,fy,rfl,rfl,gy,du,ki,oq⟩:=hcut;go_upto_if 109 with fail
   go_cut [13,15,16,78]from 78 to 160 (fun r6 tp tq fd n9=>∃(g6:Int) (an:Sli) (bm:List Int) (ka:Sli) (cz:List (List Int)) (em:List (Int × List Int)),r6=I6 g6/\fd=I6 cu/\Xo (FC w A j n9 an bm ⟨⟨Xa ⟨U,0,Xb⟩,nf,nf⟩,⟨Xa ⟨Y,0,Xb⟩,ns,ns⟩,⟨Xa ⟨l,0,Xb⟩,ns,ns⟩,zE,⟨Xa ⟨h,0,Xb⟩,nb,nb⟩,ka,X,zE,zE⟩ ⟨Xr nf frF,0,Xr ns 0,Xr ns zq,[],cz,em,fl,nb,[],[]⟩ a5 C a9 V)/\Xo (J0 L bm)/\Xo (zt n9 w.heap.size 41 qY)/\Xo (zg2 fl nb cz em (V++ [g6])/\cz.length=nb))
   case first=>
    cases nu with
    | false=>
     go_wp2;go_meet;exact⟨-1,d6,fy,z,H,K,rfl,rfl,gy,du,ki,(show _/\_ from⟨co.1.none,co.2.2⟩)⟩
    | true=>
     obtain⟨gc,e8⟩:=oq.out rfl;have ds:Xo (z4 fl (n:Int)=Xd/\(n:Int)∉V):=dD<|by
      have ak:¬(n:Int)∈Jg (fl++ [⟨C,V⟩]):=fun ar=>(by rw[(Jl _ _).2 ar]at e8;cases e8);have bu:Jg (fl++ [⟨C,V⟩])=Jg fl++V:=(by simp[Jg]);rw[bu,Xy]at ak;refine⟨?_,fun ar=>ak (.inr ar)⟩;cases e:z4 fl (n:Int)with
      | false=>rfl
      | true=>exact absurd (.inl ((Jl _ _).1 e)) ak
     have gd:=kC gc;clear e8;have mm:=zdy gy.mm;go_wp2_with fail;refine mm.mono ?_;clear mm;rintro e dv ⟨aw,dt,k7,rfl,mz,mx,ja,mv⟩;have ij:Xo (FC w A j dv aw dt ⟨⟨Xa ⟨U,0,Xb⟩,nf,nf⟩,⟨Xa ⟨Y,0,Xb⟩,ns,ns⟩,⟨Xa ⟨l,0,Xb⟩,ns,ns⟩,zE,⟨Xa ⟨h,0,Xb⟩,nb,nb⟩,z,X,zE,zE⟩ ⟨Xr nf frF,0,Xr ns 0,Xr ns zq,[],H,K,fl,nb,[],[]⟩ a5 C a9 V):=gy.pick ja mx;have g4:Xo (zt dv w.heap.size 41 qY):=ki.kind ja gy.mm.box Dc;have cv:=dD (du.trans mv);clear mx ja mv;obtain⟨ni,k0,k1,d5,i9,k4,k6,nj,rfl⟩:=zc4 k7 mz;clear mz;simp only[pgc,mP,Xt];go_upto_region 20 with fail;obtain⟨am,ip⟩:=kA dv.heap.size;obtain⟨pl,dg⟩:=kB (dv.alloc (Xk #[U8 ni,U8 k0,U8 k1,U8 d5,U8 i9,U8 k4,U8 k6,U8 nj] 44));have j9:=gP dg;have pc:Xo (zt pl am 44 (pgc [ni,k0,k1,d5,i9,k4,k6,nj])):=dD (by rw[<-dg];exact zt.aE _ (pgc [ni,k0,k1,d5,i9,k4,k6,nj]) _ ip.symm);have ny:=dD (ij.aA j9);have pn:=dD (g4.aA j9);have fu:Xo (A<=am):=show _<=_ by rw[<-ip.out];exact ij.mm.rows.hw
     rw[dg,ip.out];clear dg j9;go_wp2;go_loopg [113] 8 (fun en n1 wr=>∃(G:Nat) (gn:List Int),G<=8/\8 - G<=en/\n1=I6 G/\Xo (FC w A j wr aw dt ⟨⟨Xa ⟨U,0,Xb⟩,nf,nf⟩,⟨Xa ⟨Y,0,Xb⟩,ns,ns⟩,⟨Xa ⟨l,0,Xb⟩,ns,ns⟩,zE,⟨Xa ⟨h,0,Xb⟩,nb,nb⟩,z,X,zE,zE⟩ ⟨Xr nf frF,0,Xr ns 0,Xr ns zq,[],H,K,fl,nb,[],[]⟩ a5 C a9 V)/\Xo (zt wr am 44 (pgc gn))/\Xo (gn.length=8)/\Xo (zt wr w.heap.size 41 qY))
     exact⟨0,[ni,k0,k1,d5,i9,k4,k6,nj],nZ _,Wm,rfl,ny,pc,rfl,pn⟩;obtain⟨G,gn,td,t9,rfl,c0,g3,nc,cx⟩:=hrel;by_cases mf:G<8
     ·have jp:(G:Int)<8:=Wm
      obtain⟨e0,gj⟩:∃e0,gn[G]? =Xa e0:=⟨_,gE (Rx nc.out mf)⟩;have v8:=g3.box.c G (zhC gj);have v9:=g3.box.f;have na:=c0.box.box.c 0 rfl;clear gj;by_cases bo:C<=8*(cu:Int)+(G:Int)
      ·have qk:decide (C<=8*(cu:Int)+(G:Int))=Xc:=Si bo
       have oh:Xo (wr.grownBy (wr.setCell ⟨am,G,Xb⟩ (U8 0)) (Xa am)):=jY _ _ _ _;have pd:Xo (zt (wr.setCell ⟨am,G,Xb⟩ (U8 0)) am 44 (pgc (gn.set G 0))):=show zt _ _ _ _ by rw[zea];exact g3.set G _
       have nz:Xo (FC w A j (wr.setCell ⟨am,G,Xb⟩ (U8 0)) aw dt ⟨⟨Xa ⟨U,0,Xb⟩,nf,nf⟩,⟨Xa ⟨Y,0,Xb⟩,ns,ns⟩,⟨Xa ⟨l,0,Xb⟩,ns,ns⟩,zE,⟨Xa ⟨h,0,Xb⟩,nb,nb⟩,z,X,zE,zE⟩ ⟨Xr nf frF,0,Xr ns 0,Xr ns zq,[],H,K,fl,nb,[],[]⟩ a5 C a9 V):=c0.kind oh g3 Dc Dc (c0.mm.page g3 fu oh) rfl rfl;have po:Xo (zt (wr.setCell ⟨am,G,Xb⟩ (U8 0)) w.heap.size 41 qY):=cx.kind oh g3 Dc;go_wp2;go_roundg (8 -(G+1));exact⟨G+1,gn.set G 0,Wm,Wm,Gn,nz,pd,(show(gn.set G 0).length=8 by rw[Yg];exact nc),po⟩;omega
      have qk:decide (C<=8*(cu:Int)+(G:Int))=Xd:=Si bo;go_wp2;go_roundg (8 -(G+1));exact⟨G+1,gn,Wm,Wm,Gn,c0,g3,nc,cx⟩;omega
     have jp:¬(G:Int)<8:=Wm;obtain⟨av,b5,b6,b7,b8,b9,ba,bb,rfl⟩:=zc4 gn nc.out;go_upto_region 26 with fail;obtain⟨q,p⟩:=Ww fun d=>zc wr d;have M:q wr.drew:=(p _).2 (gW _);have cd:Xo (∀d,q d->zt d am 44 (pgc [av,b5,b6,b7,b8,b9,ba,bb])):=dD<|fun d e8=>g3.aA ((p _).1 e8);have qw:=fun a:zg q=>(c0.mm.box.box.aA ((p _).1 a.holds)).c 6 rfl;have jf:=fun a:zg q=>(cd _ a.holds).box.c 0 rfl;have jg:=fun a:zg q=>(cd _ a.holds).box.c 1 rfl;have jh:=fun a:zg q=>(cd _ a.holds).box.c 2 rfl;have ji:=fun a:zg q=>(cd _ a.holds).box.c 3 rfl;have jj:=fun a:zg q=>(cd _ a.holds).box.c 4 rfl;have jk:=fun a:zg q=>(cd _ a.holds).box.c 5 rfl;have jl:=fun a:zg q=>(cd _ a.holds).box.c 6 rfl;have jm:=fun a:zg q=>(cd _ a.holds).box.c 7 rfl;have b4:Nonempty (zg q):=⟨⟨_,M⟩⟩;refine qZ (I:=q) 9 [] M z3 Kr rfl rfl Dc (fun x aj=>by cases aj) (fun k s dy gv b3=>by cases b3) (fun dy gv k s az=>by cases az) (fun k gv b3=>by cases b3) ?_;simp only[Xw,Xx];refine zs ?_;refine Q2 (.tmp 126) ⟨j,0,Xb⟩ rfl rfl rfl rfl ?_;refine Uq ?_;iterate 7 refine zs ?_
     refine ZD fun sn hb _=>?_;have d0:=(p _).1 hb;refine Qc rfl (.tmp 134) (.tmp 133) rfl w.heap.size (O (Xa ⟨h,0,Xb⟩) nb nb) H (c0.aA d0).mm.rows.db h n rfl (Rx co.2.2 gc) [av,b5,b6,b7,b8,b9,ba,bb] rfl _ rfl (by first | rfl | simp) rfl ?_;intro lo ia cf ig;obtain⟨-,lw,eu⟩:=Jo (c0.aA d0).mm.rows.db (g:=h) rfl;have fp:Xo (FC w A j lo aw dt ⟨⟨Xa ⟨U,0,Xb⟩,nf,nf⟩,⟨Xa ⟨Y,0,Xb⟩,ns,ns⟩,⟨Xa ⟨l,0,Xb⟩,ns,ns⟩,zE,⟨Xa ⟨h,0,Xb⟩,nb,nb⟩,z,X,zE,zE⟩ ⟨Xr nf frF,0,Xr ns 0,Xr ns zq,[],(H.set n [av,b5,b6,b7,b8,b9,ba,bb]),K,fl,nb,[],[]⟩ a5 C a9 V):=(c0.aA d0).kind cf eu Dc Dc ((c0.aA d0).mm.setDb rfl cf ig (zd0 nf) ia).1 rfl rfl;have pq:=dD ((cx.aA d0).kind cf eu Dc);have pe:Xo (zt lo am 44 (pgc [av,b5,b6,b7,b8,b9,ba,bb])):=(g3.aA d0).beside cf (fun Q e=>by cases e;have:=(c0.mm.rows.bE h rfl);have:=fu.out;omega);clear hb d0 ia cf ig lw eu M qw b4;clear jf jg jh ji jj jk jl jm;have f0:=qT 2 fp.mm;go_wp2_with fail;refine f0.mono ?_;clear f0;rintro e ce ⟨b0,ef,a,rfl,i7,df,-,-,-,-,i6⟩;have W:Xo (FC w A j ce b0 ef ⟨⟨Xa ⟨U,0,Xb⟩,nf,nf⟩,⟨Xa ⟨Y,0,Xb⟩,ns,ns⟩,⟨Xa ⟨l,0,Xb⟩,ns,ns⟩,zE,⟨Xa ⟨h,0,Xb⟩,nb,nb⟩,z,X,zE,zE⟩ ⟨Xr nf frF,0,Xr ns 0,Xr ns zq,[],(H.set n [av,b5,b6,b7,b8,b9,ba,bb]),K,fl,nb,[],[]⟩ a5 C a9 V):=fp.pick df i7;have iz:Xo (zt ce w.heap.size 41 qY):=pq.kind df fp.mm.box Dc;have pg:Xo (zt ce am 44 (pgc [av,b5,b6,b7,b8,b9,ba,bb])):=pe.kind df fp.mm.box Dc;have h5:=dD (cv.trans i6);clear i7 df i6;have l2:Xo ((H.set n [av,b5,b6,b7,b8,b9,ba,bb]).length=nb):=show _=_ by rw[Yg];exact co.2.2
     by_cases nh:a=1
     ·have qz:(a == 1)=Xc:=by simp[nh]
      clear nh;go_upto_region 28 with fail;have il:Xo (zu w.heap.size ce (z.x) K):=W.mm.rows.dq;have oo:Xo (K.length<=1000):=show _<=_ by
       have ax:=co.1.ql;have ak:=zgW ((qC _ _).1 co.1.st).2.1;have bu:=((qC _ _).1 co.1.st).1.1;have ty:=co.2.1;omega
      obtain⟨q,p⟩:=Ww fun d=>zt d j 81 [b0.x,O (Xa ⟨U,0,Xb⟩) nf nf,I6 0,O (Xa ⟨Y,0,Xb⟩) ns ns,O (Xa ⟨l,0,Xb⟩) ns ns,eS,O (Xa ⟨h,0,Xb⟩) nb nb,z.x,X.x,I6 (nb:Int),eS,eS,eS]/\zt d am 44 (pgc [av,b5,b6,b7,b8,b9,ba,bb]);have M:q ce.drew:=(p _).2 ⟨W.mm.box.aA (gW _),pg.aA (gW _)⟩;have cd:Xo (∀d,q d->zt d am 44 (pgc [av,b5,b6,b7,b8,b9,ba,bb])):=dD<|fun d e8=>((p _).1 e8).2;have qx:=fun a:zg q=>((p _).1 a.holds).1.box.c 7 rfl;have jf:=fun a:zg q=>(cd _ a.holds).box.c 0 rfl;have jg:=fun a:zg q=>(cd _ a.holds).box.c 1 rfl;have jh:=fun a:zg q=>(cd _ a.holds).box.c 2 rfl;have ji:=fun a:zg q=>(cd _ a.holds).box.c 3 rfl;have jj:=fun a:zg q=>(cd _ a.holds).box.c 4 rfl;have jk:=fun a:zg q=>(cd _ a.holds).box.c 5 rfl;have jl:=fun a:zg q=>(cd _ a.holds).box.c 6 rfl;have jm:=fun a:zg q=>(cd _ a.holds).box.c 7 rfl;have b4:Nonempty (zg q):=⟨⟨_,M⟩⟩;refine zQ (I:=q) 16 [(10,fun r=>∃Q,r= O (Xa ⟨Q,0,Xb⟩) 1 1),(11,fun r=>∃cb n c,r= O cb n c)] (fun d=>zc ce d) M (gW _) z3 Kr rfl rfl Dc (Sb ⟨_,0,rfl⟩ ⟨_,Xb,0,0,rfl⟩) Kr ?_;simp only[Xw,Xx];iterate 2 refine zi ?_
      refine zW (.tmp 139) ⟨j,0,Xb⟩ rfl rfl rfl rfl ?_;refine Uq ?_;iterate 7 refine zi ?_
      refine zH rfl rfl (fun r d=>zc ce d/\∃Q,r= O (Xa ⟨Q,0,Xb⟩) 1 1/\Zh d ⟨Q,0,Xb⟩ (ptc ((n:Int),[av,b5,b6,b7,b8,b9,ba,bb]))) (fun w' i d1=>?_) (fun dm a0=>?_);·exact zN.step (v:= O (Xa ⟨w'.heap.size,0,Xb⟩) 1 1) (w':=w'.alloc (Xk #[I6 (n:Int),U8 av,U8 b5,U8 b6,U8 b7,U8 b8,U8 b9,U8 ba,U8 bb] 88)) (by simp only[execOp];go_simp) ⟨(p _).2 ⟨((p _).1 i).1.aA (za _ _),((p _).1 i).2.aA (za _ _)⟩,⟨_,rfl⟩,d1.trans (za _ _),_,rfl,Zh.aE w' (ptc ((n:Int),[av,b5,b6,b7,b8,b9,ba,bb])) _ rfl⟩
      obtain⟨de,rfl⟩:=a0;refine Uq ?_;refine zH rfl rfl (fun r d=>∃u0,zc ce u0/\u0.grownBy d (z.x).ownBlock/\zu w.heap.size d r (K++ [((n:Int),[av,b5,b6,b7,b8,b9,ba,bb])])) (fun w' i d1=>?_) (fun dm a0=>?_)
      ·obtain⟨au,Q,md,ql⟩:=d1;have me:de=Q:=by
        simp only[vJ,Option.some.injEq,Addr.mk.injEq]at md;exact md.1.1
       subst me;obtain⟨fo,bz,ae,al,a7⟩:=ze9 (w:=w') 32 (il.aA au) de ((n:Int),[av,b5,b6,b7,b8,b9,ba,bb]) rfl ql oo (nT (bS W.mm.gr) (bS au));obtain⟨el,r4,e6,rfl⟩:=al.slice;have jd:q bz:=by
        cases ad:(z.x).ownBlock with
        | none=>
         rw[ad]at a7;exact(p _).2 ⟨((p _).1 i).1.aA (qP a7),((p _).1 i).2.aA (qP a7)⟩
        | some m2=>
         rw[ad]at a7;obtain⟨-,fj,bo⟩:=zbw (il.aA au) ad;exact(p _).2 ⟨((p _).1 i).1.kind a7 bo Dc,((p _).1 i).2.kind a7 bo Dc⟩
       refine zN.step (v:= O el r4 e6) (w':=bz) ?_ ⟨jd,⟨el,r4,e6,rfl⟩,w',au,a7,al⟩;simp only[execOp,resolve,invoke,builtin,pure_bind,Xu,Xv,Xz,mP,Xt];exact Eq.trans (congrArg (fun k8=>Result.andThen k8 (fun cb w'=>Result.ok (Next.value cb) w')) ae) rfl
      obtain⟨km,ko,kn,rfl⟩:=a0;refine Uq ?_;refine zW (.tmp 138) ⟨j,0,Xb⟩ rfl rfl rfl rfl ?_;refine Uq ?_;iterate 3 refine zi ?_
      refine qV fun D ch ep=>?_;obtain⟨u0,aq,t,ck⟩:=ep;have aa:Xo (zt D j 81 [b0.x,O (Xa ⟨U,0,Xb⟩) nf nf,I6 0,O (Xa ⟨Y,0,Xb⟩) ns ns,O (Xa ⟨l,0,Xb⟩) ns ns,eS,O (Xa ⟨h,0,Xb⟩) nb nb,z.x,X.x,I6 (nb:Int),eS,eS,eS]):=((p _).1 ch).1;have iw:Xo (MkR w.heap.size A D ⟨⟨Xa ⟨U,0,Xb⟩,nf,nf⟩,⟨Xa ⟨Y,0,Xb⟩,ns,ns⟩,⟨Xa ⟨l,0,Xb⟩,ns,ns⟩,zE,⟨Xa ⟨h,0,Xb⟩,nb,nb⟩,⟨km,ko,kn⟩,X,zE,zE⟩ ⟨Xr nf frF,0,Xr ns 0,Xr ns zq,[],H.set n [av,b5,b6,b7,b8,b9,ba,bb],K++ [((n:Int),[av,b5,b6,b7,b8,b9,ba,bb])],fl,nb,[],[]⟩ zE []):=(W.mm.rows.aA aq).addDq t ⟨km,ko,kn⟩ (zd0 nf) ck;have ex:zc w D/\FlB w.heap.size A a5 D ⟨⟨Xa ⟨U,0,Xb⟩,nf,nf⟩,⟨Xa ⟨Y,0,Xb⟩,ns,ns⟩,⟨Xa ⟨l,0,Xb⟩,ns,ns⟩,zE,⟨Xa ⟨h,0,Xb⟩,nb,nb⟩,z,X,zE,zE⟩ ⟨Xr nf frF,0,Xr ns 0,Xr ns zq,[],H.set n [av,b5,b6,b7,b8,b9,ba,bb],K,fl,nb,[],[]⟩/\zt D a5 84 [I6 C,a9.x]/\zb blE (a5+1) D (a9.x) V/\zt D w.heap.size 41 qY:=by
       cases ad:(z.x).ownBlock with
       | none=>
        rw[ad]at t;have k:=qP t;exact⟨(W.mm.gr.trans aq).trans k,(W.fb.aA aq).aA k,(W.box.aA aq).aA k,(W.row.aA aq).aA k,(iz.aA aq).aA k⟩
       | some m2=>
        rw[ad]at t;obtain⟨qn,fj,bo⟩:=zbw (il.aA aq) ad;exact⟨zd (W.mm.gr.trans aq) t qn,(W.fb.aA aq).kind t bo (.inl Dc) (.inl Dc),(W.box.aA aq).kind t bo Dc,(W.row.aA aq).kind t bo Dc,(iz.aA aq).kind t bo Dc⟩
      obtain⟨lz,rm,rn,ro,m0⟩:=ex;have kz:Xo (zc w D):=lz;have kv:Xo (FlB w.heap.size A a5 D ⟨⟨Xa ⟨U,0,Xb⟩,nf,nf⟩,⟨Xa ⟨Y,0,Xb⟩,ns,ns⟩,⟨Xa ⟨l,0,Xb⟩,ns,ns⟩,zE,⟨Xa ⟨h,0,Xb⟩,nb,nb⟩,z,X,zE,zE⟩ ⟨Xr nf frF,0,Xr ns 0,Xr ns zq,[],H.set n [av,b5,b6,b7,b8,b9,ba,bb],K,fl,nb,[],[]⟩):=rm;have lj:Xo (zt D a5 84 [I6 C,a9.x]):=rn;have lk:Xo (zb blE (a5+1) D (a9.x) V):=ro;have j0:Xo (zt D w.heap.size 41 qY):=m0;clear lz rm rn ro m0 u0 aq t ck ch M qx b4;clear jf jg jh ji jj jk jl jm;obtain⟨eg,dh⟩:=kB (D.setCell ⟨j,7,Xb⟩ (O km ko kn));have R:D.grownBy eg (Xa j):=(by rw[<-dh];exact jY _ _ _ _);have iv:Mk w A eg j b0 ef ⟨⟨Xa ⟨U,0,Xb⟩,nf,nf⟩,⟨Xa ⟨Y,0,Xb⟩,ns,ns⟩,⟨Xa ⟨l,0,Xb⟩,ns,ns⟩,zE,⟨Xa ⟨h,0,Xb⟩,nb,nb⟩,⟨km,ko,kn⟩,X,zE,zE⟩ ⟨Xr nf frF,0,Xr ns 0,Xr ns zq,[],H.set n [av,b5,b6,b7,b8,b9,ba,bb],K++ [((n:Int),[av,b5,b6,b7,b8,b9,ba,bb])],fl,nb,[],[]⟩ zE []:=⟨zd kz R W.mm.hb,W.mm.hb,by rw[<-dh];exact aa.set 7 _,W.mm.lr,W.mm.lc,W.mm.lb,iw.var R aa R.size (.inl rfl)⟩;have o9:Xo (FC w A j eg b0 ef ⟨⟨Xa ⟨U,0,Xb⟩,nf,nf⟩,⟨Xa ⟨Y,0,Xb⟩,ns,ns⟩,⟨Xa ⟨l,0,Xb⟩,ns,ns⟩,zE,⟨Xa ⟨h,0,Xb⟩,nb,nb⟩,⟨km,ko,kn⟩,X,zE,zE⟩ ⟨Xr nf frF,0,Xr ns 0,Xr ns zq,[],(H.set n [av,b5,b6,b7,b8,b9,ba,bb]),(K++ [((n:Int),[av,b5,b6,b7,b8,b9,ba,bb])]),fl,nb,[],[]⟩ a5 C a9 V):=dD<|⟨iv,W.hp,(kv.kind R aa (.inl Dc) (.inl Dc)).as rfl rfl,W.fn,lj.kind R aa Dc,lk.kind R aa Dc⟩;have j1:Xo (zt eg w.heap.size 41 qY):=j0.kind R aa Dc;have ld:Xo (_=eg):=dh;have v5:=aa.box.c 7 rfl;have nv:=aa.box.f;clear dh R;go_wp2;rw[ld.out];go_meet;exact⟨(n:Int),b0,ef,⟨km,ko,kn⟩,_,_,rfl,rfl,o9,h5,j1,(show _/\_ from⟨co.1.block (more:=true) (Rx co.2.2 gc) ds.1 ds.2,l2⟩)⟩
     have qz:(a == 1)=Xd:=(by simp[nh]);clear nh;go_wp2;go_meet;exact⟨(n:Int),b0,ef,z,_,_,rfl,rfl,W,h5,iz,(show _/\_ from⟨co.1.block (more:=false) (Rx co.2.2 gc) ds.1 ds.2,l2⟩)⟩
   obtain⟨g6,aw,dt,n4,lx,ly,rfl,rfl,ij,cv,g4,kx⟩:=hcut;have kd:=ij.box.box.c 1 rfl;have l0:Xo (V.length=cu):=dD<|co.2.1;have op:Xo (a5+1<=wc.heap.size):=ij.box.box.lt;go_wp2_with (at_builtin;refine zy (E:=blE) rfl (.tmp 155) (.tmp 157) rfl (a5+1) _ V rfl (ij.row.aA (za _ _)) _ [g6] rfl (Zw blE wc g6 _ _ rfl Dc) ?qb ?qc ?_)
   case qb=>
    rw[l0.out];show(cu+1)*8<=_;omega
   case qc=>exact nT op (bS (za _ _))
   intro v3 D gk cg;obtain⟨j2,g7,rfl⟩:=gk.form;obtain⟨li,m4⟩:=kB ((V++ [g6]).length);rw[m4]at gk⊢;clear m4;obtain⟨so,jc⟩:=kB (wc.alloc (Xk #[I6 g6] 3));have qd:=gP jc;have h9:so.grownBy D (a9.x).ownBlock:=Ry jc cg;clear cg jc;obtain⟨lv,mu,m1⟩:=(ij.aA qd).addB h9 ⟨j2,li,g7⟩ gk;have o8:Xo (FC w A j (D.setCell ⟨a5,1,Xb⟩ (O j2 li g7)) aw dt ⟨⟨Xa ⟨U,0,Xb⟩,nf,nf⟩,⟨Xa ⟨Y,0,Xb⟩,ns,ns⟩,⟨Xa ⟨l,0,Xb⟩,ns,ns⟩,zE,⟨Xa ⟨h,0,Xb⟩,nb,nb⟩,n4,X,zE,zE⟩ ⟨Xr nf frF,0,Xr ns 0,Xr ns zq,[],lx,ly,fl,nb,[],[]⟩ a5 C ⟨j2,li,g7⟩ (V++ [g6])):=m1;have j0:Xo (zt (D.setCell ⟨a5,1,Xb⟩ (O j2 li g7)) w.heap.size 41 qY):=mu _ _ _ Dc Dc (g4.aA qd);have aa:Xo (zt D a5 84 [I6 C,a9.x]):=lv;clear lv mu m1 h9 gk qd kd;have kd:=aa.box.c 1 rfl;have v7:=aa.box.f;go_wp2;go_roundg (g2 -(cu+1));exact⟨cu+1,aw,dt,n4,⟨j2,li,g7⟩,lx,ly,V++ [g6],Wm,Wm,Gn,o8,cv,j0,(show _/\_ from⟨kx.1,by rw[lA,l0.out];rfl,kx.2⟩)⟩;omega
  have jo:=kD hw;obtain rfl:cu=g2:=Wm;go_upto_region 31 with fail;obtain⟨bq,cl,f8,dl⟩:=ca.fb;have ee:Xo (zb fvE w.heap.size wr (X.x) bq):=cl;have ab:Xo (bq.length=fl.length):=show _=_ from f8;have fv:Xo (∀(G:Nat) x f,bq[G]? =Xa x->fl[G]? =Xa f->x.size=f.size/\zb blE A wr x.v f.bl):=dD<|fun G x f aj ay=>(dl G x f aj ay).1;clear cl f8 dl;obtain⟨bn,dp⟩:∃bn:FlV,Xo (bn=⟨C,a9.a,a9.n,a9.c⟩):=⟨_,rfl⟩;obtain⟨q,p⟩:=Ww fun d=>zt d j 81 [fe.x,O (Xa ⟨U,0,Xb⟩) nf nf,I6 0,O (Xa ⟨Y,0,Xb⟩) ns ns,O (Xa ⟨l,0,Xb⟩) ns ns,eS,O (Xa ⟨h,0,Xb⟩) nb nb,z.x,X.x,I6 (nb:Int),eS,eS,eS]/\zt d a5 84 [I6 C,a9.x];have M:q wr.drew:=(p _).2 ⟨ca.mm.box.aA (gW _),ca.box.aA (gW _)⟩;have gi:=fun a:zg q=>((p _).1 a.holds).1.box.c 8 rfl;have ge:=fun a:zg q=>((p _).1 a.holds).2.box.c 0 rfl;have gh:=fun a:zg q=>((p _).1 a.holds).2.box.c 1 rfl;have b4:Nonempty (zg q):=⟨⟨_,M⟩⟩;refine zQ (I:=q) 14 [(8,fun r=>∃Q,r= O (Xa ⟨Q,0,Xb⟩) 1 1),(9,fun r=>∃cb n c,r= O cb n c)] (fun d=>zc wr d) M (gW _) z3 Kr rfl rfl Dc (Sb ⟨_,0,rfl⟩ ⟨_,Xb,0,0,rfl⟩) Kr ?_;simp only[Xw,Xx];iterate 2 refine zi ?_
  refine zW (.tmp 162) ⟨j,0,Xb⟩ rfl rfl rfl rfl ?_;refine Uq ?_;iterate 5 refine zi ?_
  refine zH rfl rfl (fun r d=>zc wr d/\zr fvE d r [bn]) (fun w' i d1=>?_) (fun dm a0=>?_);·exact zN.step (v:= O (Xa ⟨w'.heap.size,0,Xb⟩) 1 1) (w':=w'.alloc (Xk #[I6 C,a9.x] 84)) (by simp only[execOp];go_simp) ⟨(p _).2 ⟨((p _).1 i).1.aA (za _ _),((p _).1 i).2.aA (za _ _)⟩,⟨_,rfl⟩,d1.trans (za _ _),Zw fvE w' bn _ _ (Rr dp.out) Dc⟩
  obtain⟨de,rfl⟩:=a0;refine Uq ?_;refine zH rfl rfl (fun r d=>∃u0,zc wr u0/\u0.grownBy d (X.x).ownBlock/\zb fvE w.heap.size d r (bq++ [bn])) (fun w' i d1=>?_) (fun dm a0=>?_)
  ·obtain⟨au,qs⟩:=d1;obtain⟨fo,bz,ae,al,a7,-⟩:=jO (E:=fvE) (w:=w') 35 (ee.aA au) (O (Xa ⟨de,0,Xb⟩) 1 1) [bn] qs (by have:=ab.out;have:=ft.out;rw[ab.out];show(fl.length+1)*32<=_;omega) (nT (bS ca.mm.gr) (bS au));obtain⟨el,e6,rfl⟩:=al.form;have jd:q bz:=by
    cases ad:(X.x).ownBlock with
    | none=>
     rw[ad]at a7;exact(p _).2 ⟨((p _).1 i).1.aA (qP a7),((p _).1 i).2.aA (qP a7)⟩
    | some m2=>
     rw[ad]at a7;obtain⟨fj,bo⟩:=(ee.aA au).obj ad;have dx:=ca.fn m2 ad;exact(p _).2 ⟨((p _).1 i).1.kind a7 bo Dc,((p _).1 i).2.beside a7 (fun k e=>by cases e;omega)⟩
   refine zN.step (v:= .slice el (bq++ [bn]).length e6) (w':=bz) ?_ ⟨jd,⟨el,_,e6,rfl⟩,w',au,a7,al⟩;simp only[execOp,resolve,invoke,builtin,pure_bind,Xu,Xv,Xz,mP,Xt];exact Eq.trans (congrArg (fun k8=>Result.andThen k8 (fun cb w'=>Result.ok (Next.value cb) w')) ae) rfl
  obtain⟨j5,j7,j6,rfl⟩:=a0;refine Uq ?_;refine zW (.tmp 161) ⟨j,0,Xb⟩ rfl rfl rfl rfl ?_;refine Uq ?_;iterate 3 refine zi ?_
  refine qV fun D ch ep=>?_;obtain⟨u0,aq,t,ck⟩:=ep;have aa:Xo (zt D j 81 [fe.x,O (Xa ⟨U,0,Xb⟩) nf nf,I6 0,O (Xa ⟨Y,0,Xb⟩) ns ns,O (Xa ⟨l,0,Xb⟩) ns ns,eS,O (Xa ⟨h,0,Xb⟩) nb nb,z.x,X.x,I6 (nb:Int),eS,eS,eS]):=((p _).1 ch).1;have iw:Xo (MkR w.heap.size A D ⟨⟨Xa ⟨U,0,Xb⟩,nf,nf⟩,⟨Xa ⟨Y,0,Xb⟩,ns,ns⟩,⟨Xa ⟨l,0,Xb⟩,ns,ns⟩,zE,⟨Xa ⟨h,0,Xb⟩,nb,nb⟩,z,⟨j5,j7,j6⟩,zE,zE⟩ ⟨Xr nf frF,0,Xr ns 0,Xr ns zq,[],H,K,fl++ [⟨C,V⟩],nb,[],[]⟩ zE []):=(ca.mm.rows.aA aq).addFl (ee.aA aq) ab (fun G x f aj ay=>⟨(fv G x f aj ay).1,(fv G x f aj ay).2.aA aq⟩) t ⟨j5,j7,j6⟩ (x:=bn) (f:=⟨C,V⟩) (zd0 nf) (by rw[dp.out]) (by rw[dp.out];exact(ca.row.aA aq).base (Hm ca.hp)) ck;have ex:zc w D/\zt D w.heap.size 41 qY:=by
   cases ad:(X.x).ownBlock with
   | none=>
    rw[ad]at t;exact⟨(ca.mm.gr.trans aq).trans (qP t),(ek.aA aq).aA (qP t)⟩
   | some m2=>
    rw[ad]at t;obtain⟨fj,bo⟩:=(ee.aA aq).obj ad;exact⟨zd (ca.mm.gr.trans aq) t ((ee.aA aq).lt m2 ad).1,(ek.aA aq).kind t bo Dc⟩
  obtain⟨lz,m0⟩:=ex;have R:=jY D j 8 (O j5 j7 j6);have iv:Xo (Mk w A (D.setCell ⟨j,8,Xb⟩ (O j5 j7 j6)) j fe ri ⟨⟨Xa ⟨U,0,Xb⟩,nf,nf⟩,⟨Xa ⟨Y,0,Xb⟩,ns,ns⟩,⟨Xa ⟨l,0,Xb⟩,ns,ns⟩,zE,⟨Xa ⟨h,0,Xb⟩,nb,nb⟩,z,⟨j5,j7,j6⟩,zE,zE⟩ ⟨Xr nf frF,0,Xr ns 0,Xr ns zq,[],H,K,fl++ [⟨C,V⟩],nb,[],[]⟩ zE []):=dD<|⟨zd lz R ca.mm.hb,ca.mm.hb,aa.set 8 _,ca.mm.lr,ca.mm.lc,ca.mm.lb,iw.var R aa R.size (.inl rfl)⟩;have j1:Xo (zt (D.setCell ⟨j,8,Xb⟩ (O j5 j7 j6)) w.heap.size 41 qY):=m0.kind R aa Dc
  have kw:Xo (zg2 (fl++ [⟨C,V⟩]) nb H K []/\(fl++ [(⟨C,V⟩:Fl)]).length<=f3+1/\H.length=nb/\∀f∈fl++ [(⟨C,V⟩:Fl)],f.size<40):=dD<|⟨co.1.file (Hm ft.out) (Hm l7.out) (by rw[co.2.1,io.out]),by have:=ft.out;simp;omega,co.2.2,fun f ay=>by
   rcases Xy.1 ay with ay|ay;·exact l4 f ay
   simp only[mC,nM,or_false]at ay;rw[ay];exact l7.2⟩
  clear u0 aq t ck lz m0 R ch M gi ge gh b4;have v6:=aa.box.c 8 rfl;have nv:=aa.box.f;go_wp2;go_roundg (c -(f3+1));exact⟨f3+1,fe,ri,z,⟨j5,j7,j6⟩,H,K,fl++ [(⟨C,V⟩:Fl)],Wm,Wm,Gn,iv,ff,j1,kw,(fun ar=>absurd ar (Nat.succ_ne_zero _))⟩;omega
 have jn:=kD hq;have s4:Xo (qF ⟨Xr nf frF,0,Xr ns 0,Xr ns zq,[],dd,e7,fl,nb,[],[]⟩ []):=c0.1.start js jt 0;have l5:Xo (fl.length<=2/\∀f∈fl,f.size<40):=show _/\_ from⟨Hm c0.2.1,c0.2.2.2⟩;have oe:Xo (L=[]->fl=[]/\e7=[]/\dd=Xr nb zq):=dD<|fun e=>ss.out (Hm (oc.out e));have i3:=qT 2 h6.out;go_wp2_with fail;refine i3.mono ?_;clear i3;rintro e iy ⟨dz,ke,a,rfl,f6,cg,-,gp,gu,kr,f4⟩;obtain⟨e9,ti⟩:∃e9:Nat,1+a=(e9:Int):=⟨(1+a).toNat,Wm⟩;have rr:e9<=2:=by rcases gu with ar | ar <;> omega
 have rq:1<=e9:=Wm;have im:Xo (L=[]->e9=1):=dD<|fun e=>Hm (kr (p9 e));have kf:Xo (Mk w A iy j dz ke ⟨⟨Xa ⟨U,0,Xb⟩,nf,nf⟩,⟨Xa ⟨Y,0,Xb⟩,ns,ns⟩,⟨Xa ⟨l,0,Xb⟩,ns,ns⟩,zE,⟨Xa ⟨h,0,Xb⟩,nb,nb⟩,k9,X,zE,zE⟩ ⟨Xr nf frF,0,Xr ns 0,Xr ns zq,[],dd,e7,fl,nb,[],[]⟩ zE []):=f6;have pu:Xo (zt iy w.heap.size 41 qY):=cx.beside cg (fun Q e=>by cases e;have:=br.out;omega);have iu:=dD (p9.trans f4);clear f6 cg f4 gp gu kr;go_wp2;go_loopg [179] e9 (fun en n2 wr=>∃(ao:Nat) (an:Sli) (bm:List Int) (sm:MaV) (fm:Ma) (rc:Sli) (pi:List (Nat->En)),ao<=e9/\e9 - ao<=en/\n2=I6 ao/\Xo (Mk w A wr j an bm sm fm rc pi)/\Xo (J0 L bm)/\Xo (zt wr w.heap.size 41 qY)/\Xo (qF fm pi)/\Xo (fm.sp.length=ao/\(∀s∈fm.sp,ZA fm.fl.length s.aC/\Qb s.aC 64<=12)/\fm.aB=0/\fm.fs.length=nf/\(fm.fl.length<=2/\∀f∈fm.fl,f.size<40))/\Xo (L=[]->fm=zmV nf ns nb ao/\pi=Xr ao (fun _=>en0)))
 exact⟨0,dz,ke,_,_,_,_,nZ _,Wm,rfl,kf,iu,pu,s4,(show _/\_ from⟨rfl,fun s Z=>(by cases Z),rfl,lR,l5⟩),(show _->_ from fun e=>by obtain⟨d9,cy,kj⟩:=oe.out e;rw[d9,cy,kj];exact⟨rfl,rfl⟩)⟩;obtain⟨ao,gx,oz,b,ag,a8,cq,tg,ta,rfl,fg,ff,ek,cc,bi,nx⟩:=hrel;have bd:Xo (ag.sp.length=ao):=bi.1;by_cases i1:ao<e9
 ·have jq:=kC i1
  by_cases ax:ao=1
  ·subst ax;have l6:Xo (L≠[]):=dD<|fun e=>Hm (im.out e);have qf:((((1:Nat):Int)) == 1)=Xc:=Dc;have i4:=qT 2 fg.out;go_wp2_with fail;refine i4.mono ?_;clear i4;rintro e ah ⟨cm,fw,e0,rfl,f7,dw,-,-,-,-,f5⟩;have sb:Xo (Mk w A ah j cm fw b ag a8 cq):=f7;have ls:Xo (zt ah w.heap.size 41 qY):=ek.beside dw (fun Q e=>by cases e;have:=br.out;omega);have fz:=dD (ff.trans f5);clear f7 dw f5;obtain⟨fg,ff,ek⟩:Xo (Mk w A ah j cm fw b ag a8 cq)/\Xo (J0 L fw)/\Xo (zt ah w.heap.size 41 qY):=⟨sb,fz,ls⟩;by_cases gj:e0=1
   ·have r0:(e0 == 1)=Xc:=by simp[gj]
    clear gj;obtain⟨gp,mo⟩:=Yc.1 bd.out;have ir:Xo (ag.sp=[gp]):=mo;clear mo;have mc:=zpo gp fg cc ir.out;go_wp2_with fail;refine mc.mono ?_;clear mc;rintro e dv ⟨⟨r,rfl⟩,h7,af,cn,d8,cl,dl,ib,⟨f9,fb,ic,ie⟩⟩;have lh:Xo (Mk w A dv j cm fw h7 af cn d8):=cl;have g4:Xo (zt dv w.heap.size 41 qY):=dl.1 _ _ _ ek zgr;have kt:Xo (qF af d8):=ib;have ln:Xo (af.sp.length=1+1/\(∀s∈af.sp,ZA af.fl.length s.aC/\Qb s.aC 64<=12)/\af.aB=0/\af.fs.length=nf/\(af.fl.length<=2/\∀f∈af.fl,f.size<40)):=show _/\_ from⟨by rw[f9,ir.out];rfl,fun s Z=>by
     rw[f9]at Z;rw[fb];rcases Xy.1 Z with Z|Z;·exact bi.2.1 s Z
     simp only[mC,nM,or_false]at Z;rw[Z];exact bi.2.1 gp (by rw[ir.out];simp),ic.trans bi.2.2.1,ie.trans bi.2.2.2.1,Rx fb bi.2.2.2.2⟩
    have ku:Xo (L=[]->af=zmV nf ns nb (1+1)/\d8=Xr (1+1) (fun _=>en0)):=dD<|fun e=>absurd e l6.out;clear cl dl ib f9 fb ic ie;go_wp2;go_roundg (e9 -(1+1));exact⟨1+1,cm,fw,h7,af,cn,d8,Wm,Wm,Gn,lh,ff,g4,kt,ln,ku⟩;omega
   have r0:(e0 == 1)=Xd:=(by simp[gj]);clear gj;have f1:=zhn fg cc (by rw[bd.out];omega)
   go_wp2_with fail;refine f1.mono ?_;clear f1;rintro e dv ⟨⟨r,rfl⟩,aw,dt,h7,af,cn,d8,tn,cl,f8,dl,ib,⟨f9,fb,ic,ie⟩,k7,gm⟩;have lh:Xo (Mk w A dv j aw dt h7 af cn d8):=cl;have cv:=dD (ff.trans f8);have g4:Xo (zt dv w.heap.size 41 qY):=dl.1 _ _ _ ek zgr;have kt:Xo (qF af d8):=ib;have ln:Xo (af.sp.length=1+1/\(∀s∈af.sp,ZA af.fl.length s.aC/\Qb s.aC 64<=12)/\af.aB=0/\af.fs.length=nf/\(af.fl.length<=2/\∀f∈af.fl,f.size<40)):=show _/\_ from⟨by rw[f9,lA,bd.out];rfl,fun s Z=>by
    rw[f9]at Z;rw[fb];rcases Xy.1 Z with Z|Z;·exact bi.2.1 s Z
    simp only[mC,nM,or_false]at Z;rw[Z];exact k7,ic.trans bi.2.2.1,ie.trans bi.2.2.2.1,Rx fb bi.2.2.2.2⟩
   have ku:Xo (L=[]->af=zmV nf ns nb (1+1)/\d8=Xr (1+1) (fun _=>en0)):=dD<|fun e=>absurd e l6.out;clear cl f8 dl ib f9 fb ic ie k7 gm;go_wp2;go_roundg (e9 -(1+1));exact⟨1+1,aw,dt,h7,af,cn,d8,Wm,Wm,Gn,lh,cv,g4,kt,ln,ku⟩;omega
  obtain rfl:ao=0:=Wm;have qf:((((0:Nat):Int)) == 1)=Xd:=Dc;have f1:=zhn fg cc (by rw[bd.out];omega)
  go_wp2_with fail;refine f1.mono ?_;clear f1;rintro e dv ⟨⟨r,rfl⟩,aw,dt,h7,af,cn,d8,tn,cl,f8,dl,ib,⟨f9,fb,ic,ie⟩,k7,gm⟩;have lh:Xo (Mk w A dv j aw dt h7 af cn d8):=cl;have cv:=dD (ff.trans f8);have g4:Xo (zt dv w.heap.size 41 qY):=dl.1 _ _ _ ek zgr;have kt:Xo (qF af d8):=ib;have ln:Xo (af.sp.length=0+1/\(∀s∈af.sp,ZA af.fl.length s.aC/\Qb s.aC 64<=12)/\af.aB=0/\af.fs.length=nf/\(af.fl.length<=2/\∀f∈af.fl,f.size<40)):=show _/\_ from⟨by rw[f9,lA,bd.out];rfl,fun s Z=>by
   rw[f9]at Z;rw[fb];rcases Xy.1 Z with Z|Z;·exact bi.2.1 s Z
   simp only[mC,nM,or_false]at Z;rw[Z];exact k7,ic.trans bi.2.2.1,ie.trans bi.2.2.2.1,Rx fb bi.2.2.2.2⟩
  have ku:Xo (L=[]->af=zmV nf ns nb (0+1)/\d8=Xr (0+1) (fun _=>en0)):=dD<|fun e=>by
   obtain⟨d9,cy⟩:=gm (ff e);obtain⟨st,su⟩:=nx.out e;rw[st]at d9;rw[su]at cy;exact⟨d9,cy⟩
  clear cl f8 dl ib f9 fb ic ie k7 gm;go_wp2;go_roundg (e9 -(0+1));exact⟨0+1,aw,dt,h7,af,cn,d8,Wm,Wm,Gn,lh,cv,g4,kt,ln,ku⟩;omega
 have jq:=kD i1;obtain⟨re,rf,ry,-⟩:=fg.rows.sp;have on:Xo (b.sp.n=ao):=dD<|by rw[rf.n,ry,bd.out]
 obtain⟨bj,ea⟩:=kA wr.heap.size;have l1:Xo (j<bj):=dD<|Ry ea.out fg.box.box.lt;have lg:Xo (w.heap.size<bj):=dD<|Ry ea.out ek.box.lt;have ov:Xo (∀Q,(b.sp.x).ownBlock=Xa Q->Q<bj):=dD<|fun Q ai=>by rw[<-ea.out];exact(rf.lt Q ai).2
 have se:Xo (zpR w wr j gx oz [b.f.x,I6 ag.aB,b.s.x,b.sb.x,b.sq.x,b.db.x,b.dq.x,b.fl.x,I6 ag.cnt,b.ca.x,b.sp.x,a8.x]):=fg.aV;have sl:Xo (MkT w.heap.size A bj 0 wr b ag a8 cq):=fg.rows.start bj ea.out;have it:Xo (cq.length=ao):=show _=_ by rw[cc.tl,bd.out]
 have s7:Xo (∀(N:Nat) f,cq[N]? =Xa f->∀e∈tab f,0<=e.kind):=dD<|fun N f ay e mb=>by
  obtain⟨dy,az⟩:=Yi mb;have hh:dy<64:=by have:=(gS.1 az).1;rw[Jt]at this;exact this
  rw[zaA hh]at az;cases az;have rs:N<ag.sp.length:=by rw[<-cc.tl];exact(gS.1 ay).1
  rcases cc.aM N _ f (gE rs) ay dy hh with e|e;·rw[e];decide
  by_cases b3:(f dy).kind=2;·omega
  have:=(zS e b3).1;omega
 have kc:=fg.box.box.c 11 rfl;(try simp only[Sli.x]at kc);rw[on.out]at kc;clear rf ry re;go_wp2;clear kc;go_loopg [200] ao (fun en n3 wr=>∃N:Nat,N<=ao/\ao - N<=en/\n3=I6 N/\Xo (MkT w.heap.size A bj N wr b ag a8 cq)/\Xo (zpR w wr j gx oz [b.f.x,I6 ag.aB,b.s.x,b.sb.x,b.sq.x,b.db.x,b.dq.x,b.fl.x,I6 ag.cnt,b.ca.x,b.sp.x,a8.x])/\Xo (zt wr w.heap.size 41 qY)/\Xo (bj<=wr.heap.size))
 exact⟨0,nZ _,Wm,rfl,sl,se,ek,(show _<=_ by rw[ea.out];exact nR _)⟩;obtain⟨N,rs,tb,rfl,kg,d7,cx,rg⟩:=hrel;by_cases ey:N<ao
 ·have jr:=kC ey
  obtain⟨f,of⟩:∃f,Xo (cq[N]? =Xa f):=⟨_,gE (Rx it.out ey)⟩;obtain⟨ks,gu,kr,rx⟩:=kg.sp;have mt:ks.length=ao:=by rw[kr,bd.out]
  obtain⟨x,ee⟩:∃x,Xo (ks[N]? =Xa x):=⟨_,gE Wm⟩;obtain⟨fk,fj,ju⟩:=gu.aG Wm;rw[mt]at ju;have ed:Xo (b.sp.x=(O (Xa ⟨fk,0,Xb⟩) ao fj)):=ju;obtain⟨ng,qa,jv⟩:=kg.tt.aG (by rw[it.out];omega);rw[it.out]at jv;have l8:Xo (a8.x=(O (Xa ⟨ng,0,Xb⟩) ao qa)):=jv;have lm:Xo (zb Qm w.heap.size wr (O (Xa ⟨fk,0,Xb⟩) ao fj) ks):=show zb _ _ _ _ _ by rw[<-ed.out];exact gu
  have sg:Xo (zb zdl w.heap.size wr (O (Xa ⟨ng,0,Xb⟩) ao qa) cq):=dD<|Ry l8.out kg.tt;have sh:Xo (ks.length=ag.sp.length):=kr;have si:Xo (∀(G:Nat) x s f,ks[G]? =Xa x->ag.sp[G]? =Xa s->cq[G]? =Xa f->x.aF=s.aF/\zb arE w.heap.size wr x.ar.v s.aC/\(G<N->Jr 0 bj wr x.tab (ZH f))/\(N<=G->x.tab=JJ)):=show∀G,_ from rx;clear gu kr rx ju jv mt;go_upto_region 43 with fail;obtain⟨q,p⟩:=Ww fun d=>zc wr d;have M:q wr.drew:=(p _).2 (gW _);have mr:∀a:zg q,a.world.cell? ⟨j,11,Xb⟩=Xa (O (Xa ⟨fk,0,Xb⟩) ao fj):=fun a=>by
   have:=(d7.box.box.aA ((p _).1 a.holds)).c 11 rfl;rw[ed.out]at this;exact this
  have ms:∀a:zg q,a.world.cell? ⟨j,12,Xb⟩=Xa (O (Xa ⟨ng,0,Xb⟩) ao qa):=fun a=>by
   have:=(d7.box.box.aA ((p _).1 a.holds)).c 12 rfl;rw[l8.out]at this;exact this
  have b4:Nonempty (zg q):=⟨⟨_,M⟩⟩;refine zQ (I:=q) 16 [(13,fun r=>∃gw:List Xq,r= Xi gw.toArray)] (fun _=>True) M trivial z3 Kr rfl rfl Dc (Sa ⟨_,[],rfl⟩) Kr ?_;simp only[Xw,Xx];refine zi ?_;refine zW (.tmp 203) ⟨j,0,Xb⟩ rfl rfl rfl rfl ?_;refine Uq ?_;iterate 5 refine zi ?_
  refine zW (.tmp 209) ⟨j,0,Xb⟩ rfl rfl rfl rfl ?_;refine Uq ?_;iterate 4 refine zi ?_
  refine zo8 (Xi (qG (tab f)).toArray) rfl rfl (fun d e8=>zi8 (.tmp 214) rfl ng (N*192) rfl ((sg.aA ((p _).1 e8)).range of) (by rw[QN,Jt])) ?_;refine Uq ?_;refine zH rfl rfl (fun r d=>∃gw:List Xq,r= Xi gw.toArray/\Jr 0 bj d gw (ZH f)) (fun w' i _=>?_) (fun dm a0=>?_);·refine zN.call [Xi (qG (tab f)).toArray] rfl func28 rfl rfl rfl ?_;refine(zi1 (tab f) w' (Jt f) (s7 N f of)).mono ?_;rintro e kb ⟨gw,rfl,f2,qu⟩;exact⟨_,rfl,(p _).2 (((p _).1 i).trans qu),⟨gw,rfl⟩,gw,rfl,f2.less (nR _) (nT rg (bS ((p _).1 i)))⟩
  obtain⟨gw,rfl⟩:=a0;refine Uq ?_;iterate 2 refine zi ?_
  refine qV fun ix eq qg=>?_;obtain⟨rb,jw,f2⟩:=qg;have qv:gw=rb:=by
   simp only[Value.agg.injEq]at jw;simpa using congrArg Array.toList jw
  subst qv;obtain⟨nk,nl,nm,nn,no,np,nr,nt,rfl⟩:=zmt f2;have j8:=(p _).1 eq;have sj:Xo (Jr 0 bj ix [nk.v,nl.v,nm.v,nn.v,no.v,np.v,nr.v,nt.v] (ZH f)):=f2;have cp:Xo (zc wr ix):=j8;clear jw f2 j8 eq M mr ms b4;refine zx (E:=Qm) rfl (.tmp 218) (.tmp 216) 61 rfl w.heap.size _ ks (lm.aA cp) fk N 2 rfl x ⟨x.aF,x.ar,nk,nl,nm,nn,no,np,nr,nt⟩ ee.out [nk.v,nl.v,nm.v,nn.v,no.v,np.v,nr.v,nt.v] Kr rfl (by show 2+8<=10;omega) (fun d e8=>by simp only[mC,nM,or_false]at e8;rcases e8 with rfl | rfl | rfl | rfl | rfl | rfl | rfl | rfl <;> rfl) _ rfl (by first | rfl | simp) _ rfl rfl ?_;intro fi my bt n6;obtain⟨sv,g9⟩:=(lm.aA cp).obj (g:=fk) rfl;have ga:fk<bj:=ov.out fk (Rr ed.out)
  have sk:Xo (MkT w.heap.size A bj (N+1) fi b ag a8 cq):=(kg.aA cp).table sh (fun G x s f aj Z ay=>by
   obtain⟨d9,cy,kj,j2⟩:=si.out G x s f aj Z ay;exact⟨d9,cy.aA cp,fun e=>(kj e).aA cp,j2⟩) g9 ga bt ee of (y:=⟨x.aF,x.ar,nk,nl,nm,nn,no,np,nr,nt⟩) ⟨rfl,rfl⟩ (sj.out.out (Out.grown bt (fun Q e=>by cases e;exact⟨nZ _,ga⟩))) (by (first|rw[ed.out]|rw[show O _ _ _=_ from ed.out]);exact my)
  have sc:Xo (zpR w fi j gx oz [b.f.x,I6 ag.aB,b.s.x,b.sb.x,b.sq.x,b.db.x,b.dq.x,b.fl.x,I6 ag.cnt,b.ca.x,b.sp.x,a8.x]):=dD<|⟨zd (d7.gr.trans cp) bt ((lm.aA cp).lt fk rfl).1,d7.hb,(d7.box.aA cp).beside bt (fun Q e=>by cases e;exact(lm.aA cp).ne (d7.box.aA cp) Dc fk rfl),d7.lr,d7.lc,d7.lb⟩;have pr:Xo (zt fi w.heap.size 41 qY):=(cx.aA cp).beside bt (fun Q e=>by cases e;exact(lm.aA cp).ne (cx.aA cp) Dc fk rfl);have s6:Xo (bj<=fi.heap.size):=dD (by rw[n6];exact nT rg (bS cp));clear my bt n6 g9 ga;go_wp2;go_roundg (ao -(N+1));exact⟨N+1,Wm,Wm,Gn,sk,sc,pr,s6⟩;omega
 have jr:=kD ey;obtain rfl:ao=N:=Wm;have gz:Xo (1<=ag.sp.length/\ag.sp.length<=2):=dD<|by rw[bd.out];omega
 by_cases ha:0<nf
 ·have qe:decide ((0:Int)< (nf:Int))=Xc:=by simp;omega
  have ez:=zoL (nf:Int) d7.out;go_wp2_with fail;refine ez.mono ?_;clear ez;rintro e eh ⟨ih,oy,a,rfl,i8,eo,-,na,kd,yn,-⟩;have pj:Xo (MkT w.heap.size A bj ao eh b ag a8 cq):=kg.other eo d7.box l1 (.inl rfl);have ps:Xo (zt eh w.heap.size 41 qY):=cx.kind eo d7.box Dc;have cw:Xo (zpR w eh j ih oy [b.f.x,I6 ag.aB,b.s.x,b.sb.x,b.sq.x,b.db.x,b.dq.x,b.fl.x,I6 ag.cnt,b.ca.x,b.sp.x,a8.x]):=i8;have ot:Xo (0<=a/\a<max (ag.fs.length:Int) 1):=show _/\_ from⟨na,by rw[bi.2.2.2.1];omega⟩;have ou:Xo (L=[]->a=0):=dD<|fun e=>yn (ff e);clear i8 eo na kd yn;have tt:=cw.box.box.c 2 rfl;have nv:=cw.box.box.f;go_upto_region 47 with fail;clear tt nv;obtain⟨ei,di⟩:=kB (eh.setCell ⟨j,2,Xb⟩ (I6 a));have dj:eh.grownBy ei (Xa j):=by rw[<-di];exact jY _ _ _ _
  have P:Xo (zt ei j 81 [ih.x,b.f.x,I6 a,b.s.x,b.sb.x,b.sq.x,b.db.x,b.dq.x,b.fl.x,I6 ag.cnt,b.ca.x,b.sp.x,a8.x]):=dD (by rw[<-di];exact cw.box.set 2 _);have pk:Xo (MkT w.heap.size A bj ao ei b ag a8 cq):=pj.other dj cw.box l1 (.inl rfl);have lq:Xo (zt ei w.heap.size 41 qY):=ps.kind dj cw.box Dc;have ik:Xo (zc w ei):=zd cw.gr dj cw.hb;rw[di];clear di dj;have pv:=P.box.c 1 rfl;have pw:=P.box.c 2 rfl;have kl:=P.box.c 3 rfl;have g7:=P.box.c 4 rfl;have px:=P.box.c 5 rfl;have h8:=P.box.c 6 rfl;have py:=P.box.c 7 rfl;have pz:=P.box.c 8 rfl;have q0:=P.box.c 9 rfl;have j3:=P.box.c 10 rfl;have j4:=P.box.c 11 rfl;go_wp2_with (refine z6 rfl 41 (.tmp 8) (.tmp 233) rfl w.heap.size rfl [b.f.x,I6 a,b.s.x,b.sb.x,b.sq.x,b.db.x,b.dq.x,b.fl.x,I6 ag.cnt,b.ca.x,b.sp.x] rfl lq rfl zsI (fun r a0=>by simp only[mC,nM,or_false]at a0;rcases a0 with rfl | rfl | rfl | rfl | rfl | rfl | rfl | rfl | rfl | rfl | rfl <;> rfl) ?_)
  intro ej ci be _;have iq:Xo (zj1 w nf ns nb L ej b ag cq a A bj a8):=dD<|⟨zd ik be (nR _),by rw[bd.out];exact pk.other be lq lg (.inr rfl),cc,ot,bi.2.1,bi.2.2.2.2,gz,bi.2.2.2.1,fun e=>by obtain⟨d9,cy⟩:=nx.out e;have ax:=im.out e;have ak:ao=1:=Wm;rw[ak]at d9 cy;exact⟨d9,cy,ou e⟩⟩;have ii:Xo (Box ej w.heap.size [b.f.x,I6 a,b.s.x,b.sb.x,b.sq.x,b.db.x,b.dq.x,b.fl.x,I6 ag.cnt,b.ca.x,b.sp.x]):=ci.box;clear ci be;clear pv pw kl g7 px h8 py pz q0 j3 j4;go_wp2;refine bodyPost_ret (z8 rfl _ rfl ii underlying41 rfl zsI) rfl ⟨b,ag,cq,a,A,bj,a8,rfl,iq⟩
 have qe:decide ((0:Int)< (nf:Int))=Xd:=by simp;omega
 have P:Xo (zt wr j 81 [gx.x,b.f.x,I6 0,b.s.x,b.sb.x,b.sq.x,b.db.x,b.dq.x,b.fl.x,I6 ag.cnt,b.ca.x,b.sp.x,a8.x]):=dD<|by have:=d7.box;rw[bi.2.2.1]at this;exact this
 have ik:Xo (zc w wr):=d7.gr;have ot:Xo ((0:Int)<=0/\(0:Int)<max (ag.fs.length:Int) 1):=show _/\_ from⟨Int.le_refl _,Wm⟩;have pv:=P.box.c 1 rfl;have pw:=P.box.c 2 rfl;have kl:=P.box.c 3 rfl;have g7:=P.box.c 4 rfl;have px:=P.box.c 5 rfl;have h8:=P.box.c 6 rfl;have py:=P.box.c 7 rfl;have pz:=P.box.c 8 rfl;have q0:=P.box.c 9 rfl;have j3:=P.box.c 10 rfl;have j4:=P.box.c 11 rfl;go_wp2_with (refine z6 rfl 41 (.tmp 8) (.tmp 233) rfl w.heap.size rfl [b.f.x,I6 0,b.s.x,b.sb.x,b.sq.x,b.db.x,b.dq.x,b.fl.x,I6 ag.cnt,b.ca.x,b.sp.x] rfl cx rfl zsI (fun r a0=>by simp only[mC,nM,or_false]at a0;rcases a0 with rfl | rfl | rfl | rfl | rfl | rfl | rfl | rfl | rfl | rfl | rfl <;> rfl) ?_)
 intro ej ci be _;have iq:Xo (zj1 w nf ns nb L ej b ag cq 0 A bj a8):=dD<|⟨zd ik be (nR _),by rw[bd.out];exact kg.other be cx lg (.inr rfl),cc,ot,bi.2.1,bi.2.2.2.2,gz,bi.2.2.2.1,fun e=>by obtain⟨d9,cy⟩:=nx.out e;have ax:=im.out e;have ak:ao=1:=Wm;rw[ak]at d9 cy;exact⟨d9,cy,rfl⟩⟩;have ii:Xo (Box ej w.heap.size [b.f.x,I6 0,b.s.x,b.sb.x,b.sq.x,b.db.x,b.dq.x,b.fl.x,I6 ag.cnt,b.ca.x,b.sp.x]):=ci.box;clear ci be;clear pv pw kl g7 px h8 py pz q0 j3 j4;go_wp2;refine bodyPost_ret (z8 rfl _ rfl ii underlying41 rfl zsI) rfl ⟨b,ag,cq,0,A,bj,a8,rfl,iq⟩
theorem zj1.at {ht:Nat} (h:zj1 w k b p L w' V m T hd hi ht vt):zP w' V (Qq m T hd)/\maW (Qq m T hd)=0:=⟨h.rows.mach h.inv.tl hd,h.inv.right h.aB.1 h.aB.2⟩
theorem zqn (E:Elt α) (w):zr E w (eS) ([]:List α):=(zb.nil E 0 w).at
theorem zk0:ZH (fun _=>en0)=qU:=by kernel_rfl
def nm2:Ma:=zrU 2 2 2
def zfW:Ar:=⟨3,5,Xc,Xc,Xd,-1,0⟩
def nmA:Ma:={ nm2 with sp:=[⟨Xc,[zfW],qU⟩] }
theorem rtA:Rt nmA:=⟨Kr,fun s a=>by
 have a:s∈[(⟨Xc,[zfW],qU⟩:Sp)]:=a;rw[Yb.1 a]
 rfl⟩
theorem zjQ (w:Xn):Xp prog 9 #[I6 2,I6 2,I6 2,eS] w fun e w'=>(∃(V:MaV) (d c:Nat) (x:SpV),e= Xl (Xi #[V.f.x,I6 0,V.s.x,V.sb.x,V.sq.x,V.db.x,V.dq.x,V.fl.x,I6 2,V.ca.x,V.sp.x])/\V.sp=⟨Xa ⟨d,0,Xb⟩,1,c⟩/\zb Qm w.heap.size w' (O (Xa ⟨d,0,Xb⟩) 1 c) [x]/\∀(W:Xn) (r:Sli) (l:List Ar),qH (fun k=>k=d) w' W->zr Qm W (O (Xa ⟨d,0,Xb⟩) 1 c) [{ x with ar:=r }]->zr arE W (r.x) l->r.n<=r.c->zP W V { nm2 with sp:=[⟨Xc,l,qU⟩] })/\zc w w':=by
 refine(ziA 2 2 2 2 2 2 Dc Dc Dc zE [] w (zqn _ _) (nR _) Sm).mono ?_;rintro e w' ⟨V,al,af,a0,a4,D,ad,rfl,g⟩;obtain⟨R,S,T⟩:=g.new rfl;subst R S T;have b:=g.rows;have A:=g.gr;have C:ZH (fun _=>en0)=qU:=zk0;clear g;obtain⟨ae,m,aa,ab⟩:=b.sp;obtain⟨x,rfl⟩:=Yc.1 (show ae.length=1 from aa);obtain⟨d,c,t⟩:=m.aG Nat.one_pos;have u:V.sp=⟨Xa ⟨d,0,Xb⟩,1,c⟩:=by
  generalize V.sp=ac at t;obtain⟨an,ap,ao⟩:=ac;simp only[vJ,List.length_singleton]at t;obtain⟨rfl,rfl,rfl⟩:=t;rfl
 have a5:d<D:=b.lo d (.inr (.inr (.inr (.inr (Rr u)))));rw[u]at m;have m:zb Qm w.heap.size w' (O (Xa ⟨d,0,Xb⟩) 1 c) [x]:=m;refine⟨⟨V,d,c,x,rfl,u,m,fun W r l j a7 Y Z=>?_⟩,A⟩;obtain⟨ag,a6⟩:=m.obj rfl;have h:∀{p i n:Nat} {e:TypeId} {v:Xq} {N:List Xq},w'.ownsRow p e i v n N->Qm.ty≠e->W.ownsRow p e i v n N:=fun q z=>zc3 q j fun aj a2 I=>by
  subst I;obtain⟨_,_,ah,K⟩:=zbv q a2;rw[a6]at K;cases K;exact z rfl
 have a:∀{P:Type} {E:Elt P} {p:Nat} {v:Xq} {l:List P},zb E p w' v l->Qm.ty≠E.ty->zb E p W v l:=fun q z=>⟨h q.1 z,q.2⟩;obtain⟨y,U,X,ai⟩:=b.fl;obtain⟨a9,am⟩:=b.sq;have H:=a U Dc;refine⟨(a b.fs Dc).at,(a b.sl Dc).at,zm.at ⟨h b.sb.1 Dc,b.sb.2⟩,?_,zm.at ⟨h b.db.1 Dc,b.db.2⟩,zu.at ⟨h b.dq.1 Dc,b.dq.2⟩,⟨H.cap,y,H.at.s0,X,fun F x f L t=>by cases t⟩,(a b.ca Dc).at,⟨[{ x with ar:=r }],Rx u a7,rfl,fun F aq s M a8=>?_⟩⟩
 ·show Zu W (V.sq.x) []
  rw[a9];exact⟨⟨Xb,0,rfl,fun _=>rfl,fun x L=>by cases L⟩,Sm,Sm⟩
 cases F with
 | succ F=>cases M
 | zero=>
  cases M;cases a8;obtain⟨Q,_,G,_⟩:=ab 0 x _ _ rfl rfl rfl;rw[C]at G;exact⟨Q,Y,Z,((G Dc).out ⟨j.os,j.tape,j.output,j.size,fun k B ak=>j.block k B (fun e=>Wm)⟩).now⟩
theorem onA (n:Nat) (h:n=3\/n=4):zl [zfW] n=z5 zfW n:=Ju (by show(3:Int)<=_;omega) (by show _< (5:Int);omega)
theorem zoV:¬Qz nmA (ZI nmA) 0 4 Xc er:=fun h=>by
 rcases zbx rtA h with⟨_,e|⟨q,s,d,a,b⟩⟩|⟨q,i,s,d,a,b,f,j,g⟩
 ·rcases e with e|e
  ·omega
  have:(1:Int)<=0:=e;omega
 ·have:q=0:=Wm
  subst this;cases a;have:=b zfW (Yb.2 rfl);cases this
 have:q=0:=Wm;subst this;have:i=4:=Wm;subst this;cases f;have c:zl [zfW] 4=z5 zfW 4:=onA 4 (.inr rfl);rcases g with⟨_,e⟩|⟨_,⟨_,e⟩|⟨_,_,e⟩⟩;·have e:(zl [zfW] 4).wr=Xd:=e;rw[c]at e;cases e
 ·have e:(ZP nmA (zl [zfW] 4) (zf ⟨Xc,[zfW],qU⟩ 4)).2.2=9:=e;rw[c]at e;revert e;decide
 revert e;decide
theorem zrR (h:zpQ nmA (ZI nmA) 0 4 Xc k m'):Rt m'/\m'.fs.length=2/\∃fr,m'.fs[k]? =Xa fr/\fr.r=1:=by
 obtain⟨q,j,w,c,v,u,s,t,a⟩:=ziX rtA h;have:q=0:=Wm;subst this;have:j=4:=Wm;subst this;have i:=a.sp;cases i;have g:z5 zfW 4=z5 c 4:=(onA 4 (.inr rfl)).symm.trans a.on;have b:zfW.sh=c.sh:=congrArg On.sh g;obtain⟨x,fr,y,l,d,m,n,p,f,r⟩:=a.into;refine⟨a.rt,a.fsl,fr,d,?_⟩;rcases(f rfl).2 with⟨_,e⟩|e;·have:=(a.rt.refs d).1;omega
 rw[<-b]at e;cases e
theorem zmT (h:Qz nmA (ZI nmA) 0 5 Xc er):er=5:=by
 rcases zbx rtA h with⟨e,_⟩|⟨q,i,s,c,d,f,b,a,g⟩;·exact e
 have:q=0:=Wm;subst this;have:i=5:=Wm;subst this;cases b;have a:(zl [zfW] 5).is=Xc:=a;rw[show(zl [zfW] 5).is=Xd by decide]at a;cases a
theorem zrf (h:zpQ nmA (ZI nmA) 0 5 Xc k m'):False:=by
 obtain⟨q,i,s,d,j,g,e,f,a⟩:=ziX rtA h;have:q=0:=Wm;subst this;have:i=5:=Wm;subst this;have c:=a.sp;cases c;have b:(zl [zfW] 5).is=Xc:=by
  have:=a.on;grind [zl,zfW,z5]
 revert b;decide
theorem zma (w:Xn):Xp Tryz.prog 8 #[] w fun e w'=>e= Xl (Xh Xc)/\zc w w':=by
 have hbu:=zjQ w;go_enter Tryz.func8,Tryz.ntmps8;go_wp2_with fail;refine hbu.mono ?_;clear hbu;rintro e W1 ⟨⟨V,ps,c,x,rfl,hV,s1,hk⟩,g1⟩;have G1:Xo (zc w W1):=g1;have S1:Xo (zb Qm w.heap.size W1 (O (Xa ⟨ps,0,Xb⟩) 1 c) [x]):=s1;have HK:=show Xo _ from hk;have HV:Xo (V.sp=⟨Xa ⟨ps,0,Xb⟩,1,c⟩):=hV;have HPS:Xo (ps<W1.heap.size):=(s1.lt ps rfl).2;clear g1 s1 hk hV;go_upto_region 2 with fail;obtain⟨b,HB⟩:∃b,Xo (W1.heap.size=b):=⟨_,rfl⟩;obtain⟨W2,hW2⟩:∃W2,W1.alloc (Xk #[O V.f.a V.f.n V.f.c,Xe Xf 0,O V.s.a V.s.n V.s.c,O V.sb.a V.sb.n V.sb.c,O V.sq.a V.sq.n V.sq.c,O V.db.a V.db.n V.db.c,O V.dq.a V.dq.n V.dq.c,O V.fl.a V.fl.n V.fl.c,Xe Xf 2,O V.ca.a V.ca.n V.ca.c,O V.sp.a V.sp.n V.sp.c] 41)=W2:=⟨_,rfl⟩;have g2:=gP hW2;have X2:=xPT hW2 HB;have G2:=dD (G1.out.trans g2);have G12:Xo (zc W1 W2):=g2;rw[hW2,HB.out];clear hW2 g2;have x10:=X2.out.box.c 10 rfl;rw[HV.out]at x10;have HAR:Xo (zb arE W2.heap.size (W2.alloc (Xk #[Xe Xf 3,Xe Xf 5,Xh Xc,Xh Xc,Xh Xd,Xe Xf (-1),Xe Xf 0] 77)) (O (Xa ⟨W2.heap.size,0,Xb⟩) 1 1) [zfW]):=show zb _ _ _ _ _ from zb.mk' (E:=arE) (base:=W2.heap.size) (g:=W2.heap.size) (cap:=1) (l:=[zfW]) (cur:=#[Xe Xf 3,Xe Xf 5,Xh Xc,Xh Xc,Xh Xd,Xe Xf (-1),Xe Xf 0]) (nR _) (zt.aE W2 [Xe Xf 3,Xe Xf 5,Xh Xc,Xh Xc,Xh Xd,Xe Xf (-1),Xe Xf 0] _ rfl) (by decide) (by decide) rfl rfl (by decide);go_wp2_with (refine zx (E:=Qm) rfl (.tmp 14) (.tmp 12) 58 rfl w.heap.size _ [x] (S1.out.aA (G12.out.trans (za _ _))) ps 0 1 rfl x { x with ar:=⟨Xa ⟨W2.heap.size,0,Xb⟩,1,1⟩ } rfl [O (Xa ⟨W2.heap.size,0,Xb⟩) 1 1] (by kernel_rfl) rfl (by show 1+1<=10;omega) (by simp[Value.oneCell']) _ rfl rfl _ rfl rfl ?_)
 clear x10;intro W4 ow4 gr4 _;have hA4:=HAR.out.grown gr4 (fun g hg e=>by
  cases e;have h1:=(HAR.out.lt ps hg).1;have h2:=HPS.out;have h3:=bS G12.out
  omega)
 have M4:Xo (zP W4 V nmA):=show zP W4 V { nm2 with sp:=[⟨Xc,[zfW],qU⟩] }from HK.out W4 ⟨Xa ⟨W2.heap.size,0,Xb⟩,1,1⟩ [zfW] ((qH.aA (G12.out.trans (za _ _))).trans (qH.grown gr4 rfl)) ow4.at hA4.at (nR _);have X4:Xo (zt W4 b 41 [O V.f.a V.f.n V.f.c,Xe Xf 0,O V.s.a V.s.n V.s.c,O V.sb.a V.sb.n V.sb.c,O V.sq.a V.sq.n V.sq.c,O V.db.a V.db.n V.db.c,O V.dq.a V.dq.n V.dq.c,O V.fl.a V.fl.n V.fl.c,Xe Xf 2,O V.ca.a V.ca.n V.ca.c,O V.sp.a V.sp.n V.sp.c]):=show zt _ _ _ _ from(X2.out.aA (za _ _)).beside gr4 (fun k hk=>by cases hk;have:=HPS.out;have:=HB.out;omega);have G4:Xo (zc w W4):=show zc _ _ from zd (G2.out.trans (za _ _)) gr4 (S1.out.lt ps rfl).1;clear ow4 gr4 hA4 HAR HK S1 X2 G12 G2 G1;have hus:Xp Tryz.prog 11 #[Xi #[O V.f.a V.f.n V.f.c,Xe Xf 0,O V.s.a V.s.n V.s.c,O V.sb.a V.sb.n V.sb.c,O V.sq.a V.sq.n V.sq.c,O V.db.a V.db.n V.db.c,O V.dq.a V.dq.n V.dq.c,O V.fl.a V.fl.n V.fl.c,Xe Xf 2,O V.ca.a V.ca.n V.ca.c,O V.sp.a V.sp.n V.sp.c],Xe Xf 0,Xe Xf 4,Xh Xc] W4 fun e w'=>((∃er:Int,e= Xl (Xm #[Xi qY.toArray,Xe Xf 0,Xe Xf er])/\Qz nmA (ZI nmA) 0 4 Xc er)\/(∃(V':MaV) (k pc:Nat) (m':Ma),e= Xl (Xm #[Xi #[O V'.f.a V'.f.n V'.f.c,Xe Xf m'.aB,O V'.s.a V'.s.n V'.s.c,O V'.sb.a V'.sb.n V'.sb.c,O V'.sq.a V'.sq.n V'.sq.c,O V'.db.a V'.db.n V'.db.c,O V'.dq.a V'.dq.n V'.dq.c,O V'.fl.a V'.fl.n V'.fl.c,Xe Xf m'.cnt,O V'.ca.a V'.ca.n V'.ca.c,O V'.sp.a V'.sp.n V'.sp.c],Xe Xf (k:Int),Xe Xf 0])/\zpQ nmA (ZI nmA) 0 4 Xc k m'/\ChW W4 pc w' V' m'))/\zc W4 w':=zf8 V nmA 0 4 Xc W4 M4.out rtA;obtain⟨x0,x1,x2,x3,x4,x5,x6,x7,x8,x9,x10⟩:=X4.out.box.bN;go_wp2_with fail;refine hus.mono ?_;clear hus x0 x1 x2 x3 x4 x5 x6 x7 x8 x9 x10;rintro e W5 ⟨⟨er,_,hn⟩ | ⟨V5,k,pc,m5,rfl,hu,hc5⟩,g5⟩;·exact absurd hn zoV
 obtain⟨r5,l5,fr,f5,q5⟩:=zrR hu;have M5:Xo (zP W5 V5 m5):=hc5.at;have R5:Xo (Rt m5):=r5;have L5:Xo (m5.fs.length=2):=l5;have F5:Xo (m5.fs[k]? =Xa fr):=f5;have Q5:Xo (fr.r=1):=q5;have HK2:Xo (k<2):=show k<2 by
  have:=(gS.1 f5).1;omega
 clear hu hc5 r5 l5 f5 q5;go_upto_region 4 with fail;obtain⟨d,HD⟩:∃d,Xo (W5.heap.size=d):=⟨_,rfl⟩;obtain⟨W6,hW6⟩:∃W6,W5.alloc (Xk #[O V5.f.a V5.f.n V5.f.c,Xe Xf m5.aB,O V5.s.a V5.s.n V5.s.c,O V5.sb.a V5.sb.n V5.sb.c,O V5.sq.a V5.sq.n V5.sq.c,O V5.db.a V5.db.n V5.db.c,O V5.dq.a V5.dq.n V5.dq.c,O V5.fl.a V5.fl.n V5.fl.c,Xe Xf m5.cnt,O V5.ca.a V5.ca.n V5.ca.c,O V5.sp.a V5.sp.n V5.sp.c] 41)=W6:=⟨_,rfl⟩;have g6:=gP hW6;have Y6:=xPT hW6 HD;have X6:=dD (X4.out.aA (g5.trans g6));have G6:=dD (G4.out.trans (g5.trans g6));have M6:=dD (M4.out.aA (g5.trans g6));have N6:=dD (M5.out.aA g6);rw[hW6,HD.out];clear hW6 g5 g6 X4 G4 M4 M5 HD;have hus:Xp Tryz.prog 11 #[Xi #[O V.f.a V.f.n V.f.c,Xe Xf 0,O V.s.a V.s.n V.s.c,O V.sb.a V.sb.n V.sb.c,O V.sq.a V.sq.n V.sq.c,O V.db.a V.db.n V.db.c,O V.dq.a V.dq.n V.dq.c,O V.fl.a V.fl.n V.fl.c,Xe Xf 2,O V.ca.a V.ca.n V.ca.c,O V.sp.a V.sp.n V.sp.c],Xe Xf 0,Xe Xf 5,Xh Xc] W6 fun e w'=>((∃er:Int,e= Xl (Xm #[Xi qY.toArray,Xe Xf 0,Xe Xf er])/\Qz nmA (ZI nmA) 0 5 Xc er)\/(∃(V':MaV) (k pc:Nat) (m':Ma),e= Xl (Xm #[Xi #[O V'.f.a V'.f.n V'.f.c,Xe Xf m'.aB,O V'.s.a V'.s.n V'.s.c,O V'.sb.a V'.sb.n V'.sb.c,O V'.sq.a V'.sq.n V'.sq.c,O V'.db.a V'.db.n V'.db.c,O V'.dq.a V'.dq.n V'.dq.c,O V'.fl.a V'.fl.n V'.fl.c,Xe Xf m'.cnt,O V'.ca.a V'.ca.n V'.ca.c,O V'.sp.a V'.sp.n V'.sp.c],Xe Xf (k:Int),Xe Xf 0])/\zpQ nmA (ZI nmA) 0 5 Xc k m'/\ChW W6 pc w' V' m'))/\zc W6 w':=zf8 V nmA 0 5 Xc W6 M6.out rtA;obtain⟨x0,x1,x2,x3,x4,x5,x6,x7,x8,x9,x10⟩:=X6.out.box.bN;go_wp2_with fail;refine hus.mono ?_;clear hus x0 x1 x2 x3 x4 x5 x6 x7 x8 x9 x10;rintro e W7 ⟨⟨er,rfl,hn⟩ | ⟨V7,k7,pc,m7,rfl,hu,hc7⟩,g7⟩
 rotate_left
 ·exact(zrf hu).elim
 have he5:=zmT hn;subst he5;clear hn;unfold qY;go_upto_region 5 with fail;obtain⟨W8,hW8⟩:∃W8,W7.alloc (Xk #[O Xb 0 0,Xe Xf 0,O Xb 0 0,O Xb 0 0,O Xb 0 0,O Xb 0 0,O Xb 0 0,O Xb 0 0,Xe Xf 0,O Xb 0 0,O Xb 0 0] 41)=W8:=⟨_,rfl⟩;have g8:zc W6 W8:=by rw[<-hW8];exact g7.trans (za _ _)
 have Y8:=dD (Y6.out.aA g8);have G8:=dD (G6.out.trans g8);have N8:=dD (N6.out.aA g8);rw[hW8];clear hW8 g7 g8 X6 Y6 G6 M6 N6;have hk0:(0:Int)<=(k:Int):=by omega
 have hk2:(k:Int)<2:=by have:=HK2.out;omega
 obtain⟨n5,-⟩:=N8.out.ns;rw[L5.out]at n5;obtain⟨ad,had,hl⟩:=N8.out.bA k fr F5.out;obtain⟨_,_,_,_,_,_,_,_,d8,_⟩:=hl W8 (zc.refl _);rw[Q5.out]at d8;have hwr:=zcZ V5 m5 W8 N8.out R5.out.w;have HN5:Xo (V5.f.n=2/\V5.f.a=Xa ad):=show _/\_ from⟨n5,had⟩;clear n5 had hl;obtain⟨x0,x1,x2,x3,x4,x5,x6,x7,x8,x9,x10⟩:=Y8.out.box.bN;rw[HN5.out.1,HN5.out.2]at x0 hwr;go_wp2_with fail;refine hwr.mono ?_;clear hwr x0 x1 x2 x3 x4 x5 x6 x7 x8 x9 x10;rintro e W9 ⟨rfl,g9⟩;have G9:=dD (G8.out.trans g9);clear g9;go_wp2;go_ret;exact⟨rfl,G9.out⟩
def zkN (m:Ma) (p n:Int) (wr:Bool) (er:Int):Prop:=
 (er=5/\((p<0\/(m.sp.length:Int)<=p)\/∃(q:Nat) (s:Sp),p=(q:Int)/\m.sp[q]? =Xa s/\∀a∈s.aC,inZ a n=Xd))\/
 (∃(q i:Nat) (s:Sp),p=(q:Int)/\n=(i:Int)/\i<64/\m.sp[q]? =Xa s/\(zl s.aC i).is=Xc/\(((if wr=Xc then(zl s.aC i).wr else(zl s.aC i).rd)=Xd/\er=8)\/((if wr=Xc then(zl s.aC i).wr else(zl s.aC i).rd)=Xc/\(((ZP m (zl s.aC i) (zf s i)).2.2=9/\er=9)\/((ZP m (zl s.aC i) (zf s i)).2.2=0/\(er=0\/(er=10/\qL m.fs=0)))))))
theorem zp8 (j:Rt m) {wr:Bool} (l:Qz m (ZI m) z H wr er):zkN m z H wr er:=by
 rcases zbx j l with a|⟨q,i,s,a,d,e,f,g,⟨c,b⟩|⟨c,⟨b,h⟩|⟨b,h,k⟩⟩⟩;·exact .inl a
 ·exact .inr ⟨q,i,s,a,d,e,f,g,.inl ⟨b,c⟩⟩
 ·exact .inr ⟨q,i,s,a,d,e,f,g,.inr ⟨c,.inl ⟨h,b⟩⟩⟩
 exact .inr ⟨q,i,s,a,d,e,f,g,.inr ⟨c,.inr ⟨h,.inr ⟨b,k⟩⟩⟩⟩
theorem zov (h:Rt m) {wr:Bool} (d:zpQ m (ZI m) z H wr k m'):zkN m z H wr 0:=by obtain⟨q,i,s,e,g,f,b,c,a⟩:=ziX h d;exact .inr ⟨q,i,s,b,c,a.n64,a.sp,by rw[a.on];rfl,.inr ⟨by rw[a.on];exact a.may,.inr ⟨by rw[a.see],.inl rfl⟩⟩⟩
theorem zox (V:MaV) (m:Ma) (p n:Int) (wr:Bool) (w:Xn) (f:zP w V m) (b:Rt m):
  Xp prog 11 #[Xi (mL V m).toArray,I6 p,I6 n,Xh wr] w fun e w'=>(∃(V':MaV) (h c k a:Int),e= Xl (Xm #[Xi #[V'.f.x,I6 h,V'.s.x,V'.sb.x,V'.sq.x,V'.db.x,V'.dq.x,V'.fl.x,I6 c,V'.ca.x,V'.sp.x],I6 k,I6 a])/\zkN m p n wr a)/\zc w w':=by
 refine(zf8 V m p n wr w f b).mono ?_;rintro e w' ⟨⟨a,rfl,i⟩|⟨V',k,l,d,rfl,j,_⟩,g⟩;·exact⟨⟨⟨zE,zE,zE,zE,zE,zE,zE,zE,zE⟩,0,0,0,a,rfl,zp8 b i⟩,g⟩
 exact⟨⟨V',d.aB,d.cnt,k,0,rfl,zov b j⟩,g⟩
theorem zj1.filesIn {nb ht:Nat} (h:zj1 w k p nb L w' V m T hd hi ht vt):∀s∈(Qq m T hd).sp,ZA (Qq m T hd).fl.length s.aC:=fun s c=>by
 obtain⟨i,hi⟩:=Yi c;have hi:(List.zipWith (fun s f=>{ s with tb:=ZH f }) m.sp T)[i]? =Xa s:=hi;rw[Ym]at hi;cases a:m.sp[i]? with
 | none=>rw[a]at hi;simp at hi
 | some d=>
  cases b:T[i]? with
  | none=>rw[a,b]at hi;simp at hi
  | some f=>
   rw[a,b]at hi;simp only[Option.some.injEq]at hi;rw[<-hi];exact(h.fin d (mG a)).1
theorem zmQ:∀{l:List Ar} {n:Nat},(∀a∈l,Z8 a n=Xd)->(zl l n).is=Xd
 | [],_,_=>rfl
 | a :: l,n,h=>by
  unfold zl;rw[kF (by rw[h a (List.mem_cons_self ..)];decide)]
  exact zmQ fun b c=>h b (List.mem_cons_of_mem _ c)
theorem zlK (x:On) (w:Xn):(Instr.field 67 (Xi #[Xh x.is,Xh x.rd,Xh x.wr,Xh x.sh,I6 x.file,I6 x.page]) 0).run prog w= .ok (Xh x.is) w:=by simp only[Instr.field,Xu,run_underlying underlying67,rA,asAgg];exact run_part_plain w (by simp[Program.plainKey,underlying4]) rfl
theorem zjb (V:MaV) (m:Ma) (p n:Int) (w:Xn) (ad:zP w V m) (h:maW m=0) (j:∀s∈m.sp,ZA m.fl.length s.aC):
  Xp prog 10 #[Xi (mL V m).toArray,I6 p,I6 n] w fun e w'=>e= Xl (zcw (Ql m p n))/\(Ql m p n).1.length=8/\zc w w':=by
 have aa:Xo (zP w V m):=ad;have c:Xo (∀W,zc w W->Xp prog 13 #[Xi (mL V m).toArray] W fun e w'=>e= Xl (I6 (maW m))/\zc W w'):=show∀W,_ from fun W E=>by rw[h];exact zcZ V m W (aa.aA E) h
 have b:Xo (maW m=0->∀W,zc w W->Xp prog 29 #[Xi (mL V m).toArray,I6 p,I6 n] W fun e w'=>e= Xl (zcw (Qd m p n))/\(Qd m p n).1.length=8/\zc W w'):=dD<|fun h W E=>zja V m p n W (aa.aA E) h j;obtain⟨⟨av,ax,aw⟩,⟨b5,b7,b6⟩,⟨K,M,L⟩,⟨R,T,S⟩,U,X,⟨A,C,B⟩,⟨x,z,y⟩,⟨N,Q,P⟩⟩:=V;dsimp only[mL]at c b⊢;obtain⟨a7,q⟩:=kA (maW m);rw[q.out]at c b;clear ad j;obtain⟨v,a⟩:=kB ((w.alloc (Xk #[O av ax aw,I6 m.aB,O b5 b7 b6,O K M L,O R T S,U.x,X.x,O A C B,I6 m.cnt,O x z y,O N Q P] 41)).alloc (Xk #[U8 0,U8 0,U8 0,U8 0,U8 0,U8 0,U8 0,U8 0] 44));have a8:=gD2 a;have ac:=x2a a;have aq:Xo (Box v (w.heap.size+1) (pgc zq)):=dD<|by rw[<-a];exact Box.aE _ (pgc zq) _ Sm
 have u:Xo (_=v):=a;clear a;go_enter func10,ntmps10;go_upto_region 1 with fail;rw[u.out];obtain⟨Y,Z,I,a0,a1,a2,a3,a4,a5,a6,f⟩:=ac.bN;have i:=c.out v a8.out;go_wp2_with fail;refine i.mono ?_;clear i Y Z I a0 a1 a2 a3 a4 a5 a6 f;rintro b0 an ⟨rfl,k⟩;have a9:=dD (a8.trans k);have ap:=dD (ac.aA k);have ar:=dD (aq.aA k);clear k;have l:a7=0:=q.out ▸ h;have az:(a7 != 0)=Xd:=by simp[l]
 have t:Xo (Ql m p n=Qd m p n):=dD<|by unfold Ql;rw[q.out,kF (fun ay=>ay l)]
 obtain⟨Y,Z,I,a0,a1,a2,a3,a4,a5,a6,f⟩:=ap.bN;have i:=b.out l an a9.out;clear l;go_wp2_with fail;refine i.mono ?_;clear i Y Z I a0 a1 a2 a3 a4 a5 a6 f;rintro b0 b8 ⟨rfl,d,D⟩;have am:=dD (a9.trans D);have au:=dD (ar.aA D);obtain⟨⟨b3,b1,b2⟩,g⟩:∃b4,Xo (Qd m p n=b4):=⟨_,rfl⟩;rw[g.out]at d⊢;obtain⟨ae,af,ag,ah,ai,aj,ak,al,H⟩:=zc4 b3 d;subst H;have ab:Xo (Ql m p n=([ae,af,ag,ah,ai,aj,ak,al],b1,b2)):=show _=_ by rw[t.out,g.out]
 clear d D;simp only[zcw,pgc,mP,Xt];go_wp2_with (refine zp rfl 44 (.tmp 6) (.tmp 20) rfl (w.heap.size+1) rfl (pgc [ae,af,ag,ah,ai,aj,ak,al]) rfl au rfl zsB (qJ _) ?_)
 intro ao F G _;have r:Xo (zc w ao):=dD<|zd am G Wm;go_wp2;refine bodyPost_ret (zL rfl _ rfl F underlying44 rfl zsB) rfl ⟨Rr ab.out,Rr ab.out,r⟩
theorem zfa (F S B:Int) (vl:Sli) (L:List Int) (p n:Int) (a0:Bool) (w:Xn) (de:zr byE w (vl.x) L) (dd:vl.n<=vl.c) (lb:∀aa∈L,0<=aa/\aa<256):
  Xp prog 4 #[Xi #[I6 F,I6 S,I6 B],vl.x,I6 p,I6 n,Xh a0] w fun e w'=>e= Xl (Xh Xc)/\zc w w':=by
 obtain⟨d3,E⟩:=kB (w.alloc (Xk #[I6 F,I6 S,I6 B] 23));have dn:=gA E;have dh:=xA E;have bx:Xo (_=d3):=E;have bt:Xo (zr byE w (vl.x) L):=de;have bs:Xo (vl.n<=vl.c):=dd;have br:Xo (∀aa∈L,0<=aa/\aa<256):=show∀aa,_ from lb;obtain⟨ce,af⟩:∃ce:Nat,Xo (max (min F 40) 0=(ce:Int)):=⟨(max (min F 40) 0).toNat,show _=_ by omega⟩;obtain⟨cf,bv⟩:∃cf:Nat,Xo (max (min S 60) 0=(cf:Int)):=⟨(max (min S 60) 0).toNat,show _=_ by omega⟩;obtain⟨cd,bu⟩:∃cd:Nat,Xo (max (min B 80) 0=(cd:Int)):=⟨(max (min B 80) 0).toNat,show _=_ by omega⟩;clear E de dd lb;have av:=zma d3;go_enter func4,ntmps4;go_wp2_with fail;rw[bx.out];refine av.mono ?_;clear av;rintro e dx ⟨rfl,c7⟩;have cw:=dD (dn.trans c7);have cv:=dD (dh.aA c7);clear c7;have aw:=ziA F S B ce cf cd af bv bu vl L dx (bt.aA cw) bs br.out;obtain⟨d5,eg,eh⟩:=cv.c3;go_wp2_with fail;refine aw.mono ?_;clear aw d5 eg eh;rintro e an ⟨a5,bl,dv,d8,a7,ex,f1,rfl,u⟩;obtain⟨ao,df⟩:=u.at;obtain⟨m,a3⟩:=kA (Qq bl dv d8);have ct:Xo (zP an a5 m):=show zP _ _ _ by rw[<-a3.out];exact ao
 have C:Xo (Rt m):=dD<|⟨Ry a3.out df,fun s a8=>by
  obtain⟨i,a7⟩:=Yi a8;obtain⟨a2,_,et,eu⟩:=ct.sp;have M:i<a2.length:=by rw[et];exact(gS.1 a7).1
  exact(eu i _ s (gE M) a7).tb.aJ⟩
 have dp:Xo (zc w an):=cw.trans u.gr;have dl:Xo (Box an w.heap.size [I6 F,I6 S,I6 B]):=cv.aA u.gr;have b8:d8=m.aB:=by rw[<-a3.out];rfl
 have az:bl.cnt=m.cnt:=by rw[<-a3.out];rfl
 rw[b8,az];have bq:Xo (∀s∈m.sp,ZA m.fl.length s.aC):=dD<|fun s a8=>by
  rw[<-a3.out]at a8⊢;exact u.filesIn s a8
 have bp:Xo (40<=F->qL m.fs≠0):=dD<|fun ew=>by
  have t:=zpd u.inv u.sp.2 (fun s a8=>(u.fin s a8).2) u.fl2.1 u.fl2.2;have l:=znr bl.fs;have au:=u.fsl;have j:=af.out;have a6:m.fs=bl.fs:=by rw[<-a3.out];rfl
  rw[a6];omega
 clear u ao df b8 az;go_upto_region 4 with fail;obtain⟨ez,ag⟩:=kA an.heap.size;refine nW fun d4 G=>?_;have bi:=gP G;have di:=dD (dl.aA bi);have d2:=xPT G ag;have cu:=dD (ct.aA bi);have dq:=dD (dp.trans bi);rw[ag.out];clear G bi;have ba:=zox a5 m p n a0 d4 cu C.out;obtain⟨cj,ck,cl,cm,cn,co,cp,cq,cr,cs,a1⟩:=d2.box.bN;go_wp2_with fail;refine ba.mono ?_;clear ba cj ck cl cm cn co cp cq cr cs a1;rintro e dy ⟨⟨D,j,ei,dc,h,rfl,P⟩,d6⟩;have al:Xo (zkN m p n a0 h):=P;go_upto_region 5 with fail;obtain⟨U,X⟩:=kB (dy.alloc (Xk #[D.f.x,I6 j,D.s.x,D.sb.x,D.sq.x,D.db.x,D.dq.x,D.fl.x,I6 ei,D.ca.x,D.sp.x] 41));have ap:zc d4 U:=by rw[<-X];exact d6.trans (za _ _)
 have bz:=dD (d2.aA ap);have bm:=dD (cu.aA ap);have dj:=dD (di.aA ap);have cx:=dD (dq.trans ap);rw[X];clear X d6 ap P;obtain⟨-,-,-,-,-,-,-,-,cc⟩:=bm.ns;obtain⟨a2,I,N,b9⟩:=bm.aT;obtain⟨a,r⟩:=kA m.sp.length;rw[r.out]at cc I;have ae:Xo (a5.sp.n=a):=cc;have am:Xo (a2.length=a):=I;have aj:Xo (∀(cb:Nat) x,a2[cb]? =Xa x->∃be,a5.sp.a=Xa be/\∀W,zc U W->zgY W (be.add (cb*10)) x):=show∀cb,_ from N;have ak:Xo (∀(i:Nat) x s,a2[i]? =Xa x->m.sp[i]? =Xa s->jN U x s):=dD<|b9;clear cc I N b9;have ai:Xo (Pts m):=zhz (Q0 C.w);obtain⟨y,A⟩:∃y:Bool,Xo ((y=Xc->h=5)/\(y=Xd->∃(q i:Nat) (s:Sp),p=(q:Int)/\n=(i:Int)/\i<64/\m.sp[q]? =Xa s/\(zl s.aC i).is=Xc/\(((if a0=Xc then(zl s.aC i).wr else(zl s.aC i).rd)=Xd/\h=8)\/((if a0=Xc then(zl s.aC i).wr else(zl s.aC i).rd)=Xc/\(((ZP m (zl s.aC i) (zf s i)).2.2=9/\h=9)\/((ZP m (zl s.aC i) (zf s i)).2.2=0/\(h=0\/(h=10/\qL m.fs=0)))))))/\(y=Xc->((p<0\/(m.sp.length:Int)<=p)\/∃(q:Nat) (s:Sp),p=(q:Int)/\m.sp[q]? =Xa s/\∀c3∈s.aC,inZ c3 n=Xd))):=by
  rcases al with⟨t,l⟩|l;·exact⟨Xc,⟨fun _=>t,(fun e=>by cases e),fun _=>l⟩⟩
  exact⟨Xd,⟨(fun e=>by cases e),fun _=>l,(fun e=>by cases e)⟩⟩
 go_upto_region 5 with fail;go_cut [67] (fun cg ci=>cg= Xh y/\Xo (zc U ci))
 case first=>
  have k:=bz.box.c 10 rfl;rw[ae.out]at k;have eo:(y=Xc/\((p<0)\/(0<=p/\(a:Int)<=p)\/(∃q:Nat,p=(q:Int)/\q<a/\(n<0\/64<=n))))\/∃(q i:Nat) (s:Sp),p=(q:Int)/\n=(i:Int)/\i<64/\m.sp[q]? =Xa s/\(zl s.aC i).is=!y:=by
   cases y with
   | true=>
    rcases A.2.2 rfl with(e|e) | ⟨q,s,bf,bg,bh⟩;·exact .inl ⟨rfl,.inl e⟩
    ·rw[r.out]at e
     by_cases ej:p<0;·exact .inl ⟨rfl,.inl ej⟩
     exact .inl ⟨rfl,.inr (.inl ⟨Wm,e⟩)⟩
    have g:q<a:=(by rw[<-r.out];exact(gS.1 bg).1);by_cases c6:n<0\/64<=n;·exact .inl ⟨rfl,.inr (.inr ⟨q,bf,g,c6⟩)⟩
    obtain⟨i,a7⟩:∃i:Nat,n=(i:Int):=⟨n.toNat,Wm⟩;refine .inr ⟨q,i,s,bf,a7,Wm,bg,?_⟩;rw[a7]at bh;exact zmQ (fun c3 en=>by rw[<-zgG];exact bh c3 en)
   | false=>
    obtain⟨q,i,s,bf,bg,bh,c6,ek,_⟩:=A.2.1 rfl;exact .inr ⟨q,i,s,bf,bg,bh,c6,ek⟩
  rcases eo with⟨rfl,t|⟨em,t⟩|⟨q,rfl,t,l⟩⟩|⟨q,i,s,rfl,rfl,au,j,a6⟩
  ·have bk:decide (p<0)=Xc:=decide_eq_true t;clear t;go_wp2;go_meet;exact⟨rfl,zc.refl _⟩
  ·have bk:decide (p<0)=Xd:=decide_eq_false Wm
   have da:decide ((a:Int)<=p)=Xc:=decide_eq_true t;clear em t;go_wp2;go_meet;exact⟨rfl,zc.refl _⟩
  ·have bk:decide ((q:Int)<0)=Xd:=decide_eq_false Wm
   have da:decide (a<=q)=Xd:=decide_eq_false Wm;rcases l with l|l
   ·have db:decide (n<0)=Xc:=decide_eq_true l;clear t l;go_wp2;go_meet;exact⟨rfl,zc.refl _⟩
   have db:decide (n<0)=Xd:=decide_eq_false Wm;have dc:decide (64<=n)=Xc:=decide_eq_true l;clear t l;go_wp2;go_meet;exact⟨rfl,zc.refl _⟩
  have g:q<a:=by rw[<-r.out];exact(gS.1 j).1
  have bk:decide ((q:Int)<0)=Xd:=decide_eq_false Wm;have da:decide (a<=q)=Xd:=decide_eq_false Wm;have db:decide ((i:Int)<0)=Xd:=decide_eq_false Wm;have dc:decide ((64:Int)<=(i:Int))=Xd:=decide_eq_false Wm;have ep:decide (64<=i)=Xd:=decide_eq_false Wm;have ca:(q:Int)< (a:Int):=Wm;obtain⟨x,M⟩:∃x,a2[q]? =Xa x:=⟨_,gE (Rx am.out g)⟩;have Q:=ak.out q x s M j;obtain⟨be,v,ay⟩:=aj.out q x M;obtain⟨_,c5,_⟩:=ay U (zc.refl _);rw[v]at k;have d:=Ze _ s.aC U Q.ar (jJ.1 (ai.ar s (mG j)).1).2.cA;obtain⟨b,a4⟩:=kA (zl s.aC i);have c:∀W,(Instr.index 68 (Xi (zz (tab (zl s.aC))).toArray) (I6 (i:Int))).run prog W= .ok (Xi #[Xh b.is,Xh b.rd,Xh b.wr,Xh b.sh,I6 b.file,I6 b.page]) W:=fun W=>by
   have:=zge (w:=W) (f:=zl s.aC) i au;rw[a4.out]at this;exact this
  have ax:=zlK b;rw[a4.out]at a6;rw[a6]at ax c;generalize zz (tab (zl s.aC))=dm at d c;clear j g M v ay;go_wp2_with fail;refine d.mono ?_;clear d;rintro e bd ⟨rfl,aq⟩;have dr:Xo (zc U bd):=aq;clear aq c5 k;cases y;all_goals (simp only[Bool.not_true,Bool.not_false]at ax c⊢;go_wp2;go_meet;exact⟨rfl,dr⟩)
 obtain⟨rfl,ab⟩:=hcut;have ds:=dD (cx.trans ab);cases y with
 | true=>
  have c9:=A.1 rfl;subst c9;go_wp2;go_ret;exact⟨rfl,ds⟩
 | false=>
 obtain⟨q,i,s,rfl,rfl,au,j,a6,bj⟩:=A.2.1 rfl;have g:q<a:=by rw[<-r.out];exact(gS.1 j).1
 obtain⟨x,M⟩:∃x,a2[q]? =Xa x:=⟨_,gE (Rx am.out g)⟩;have Q:=ak.out q x s M j;obtain⟨be,v,ay⟩:=aj.out q x M;obtain⟨_,c5,_⟩:=ay wc ab.out;have k:=(bz.box.aA ab).c 10 rfl;rw[ae.out,v]at k;have d:=Ze _ s.aC wc (Q.ar.aA ab) (jJ.1 (ai.ar s (mG j)).1).2.cA;have T:Xo ((Ql m (q:Int) (i:Int)).2.2=(ZP m (zl s.aC i) (zf s i)).2.2):=dD<|by rw[QI C.out j au]
 obtain⟨b,a4⟩:=kA (zl s.aC i);have c:∀W,(Instr.index 68 (Xi (zz (tab (zl s.aC))).toArray) (I6 (i:Int))).run prog W= .ok (Xi #[Xh b.is,Xh b.rd,Xh b.wr,Xh b.sh,I6 b.file,I6 b.page]) W:=fun W=>by
  have:=zge (w:=W) (f:=zl s.aC) i au;rw[a4.out]at this;exact this
 rw[a4.out]at bj;obtain⟨bc,R⟩:=kA ((Ql m (q:Int) (i:Int)).2.2);rw[R.out]at T;rw[a4.out]at T;obtain⟨a9,ac⟩:=kA (if a0=Xc then b.wr else b.rd);rw[ac.out,<-T.out]at bj;have cz:Xo ((a9=Xd/\h=8)\/(a9=Xc/\((bc=9/\h=9)\/(bc=0/\(h=0\/(h=10/\qL m.fs=0)))))):=bj;have ca:(q:Int)< (a:Int):=Wm;generalize zz (tab (zl s.aC))=dm at d c;clear j a6 bj M v ay g;go_wp2_with fail;refine d.mono ?_;clear d;rintro e bd ⟨rfl,aq⟩;have z:=dD (ab.trans aq);clear aq c5 k;go_upto_region 8 with fail;obtain⟨f0,ah⟩:=kA bd.heap.size;refine nW fun dz H=>?_;have ar:=gP H;have d0:=xP H ah;have du:=dD (bz.aA (z.trans ar));have dg:=dD (bm.aA (z.trans ar));have dk:=dD (dj.aA (z.trans ar));have cy:=dD (cx.trans (z.trans ar));rw[ah.out];clear H ar c;go_cut [93] (fun ch ci=>ch= Xh (!a9)/\ci=dz)
 case first=>
  have eq:=d0.c 1 rfl;have es:=d0.c 2 rfl;have K:=ac.out;cases a0
  ·rw[kF Dc]at K
   rw[K]at eq;cases a9;all_goals (go_wp2;go_meet;exact⟨rfl,rfl⟩)
  rw[kE rfl]at K;rw[K]at es;cases a9;all_goals (go_wp2;go_meet;exact⟨rfl,rfl⟩)
 case rest=>
 obtain⟨rfl,rfl⟩:=hcut;cases a9 with
 | false=>
  rcases cz with⟨_,V⟩|⟨V,_⟩
  rotate_left
  ·cases V
  subst V;go_wp2;go_ret;exact⟨rfl,cy⟩
 | true=>
 have dt:Xo ((bc=9/\h=9)\/(bc=0/\(h=0\/(h=10/\qL m.fs=0)))):=dD<|by
  rcases cz with⟨V,_⟩|⟨_,V⟩;·cases V
  exact V
 have bb:=zjb a5 m (q:Int) (i:Int) wc dg C.w bq.out;obtain⟨cj,ck,cl,cm,cn,co,cp,cq,cr,cs,a1⟩:=du.box.bN;go_wp2_with fail;refine bb.mono ?_;clear bb cj ck cl cm cn co cp cq cr cs a1;rintro e e6 ⟨rfl,Z,d7⟩;obtain⟨dw,bw⟩:=kA (Ql m (q:Int) (i:Int));rw[bw.out]at Z R⊢;obtain⟨f2,ey,el⟩:=dw;have c9:el=bc:=R.out;subst c9;obtain⟨⟨e8,e9,ea,eb,ec,ed,ee,ef⟩,rfl⟩:=zrq Z;simp only[zcw,pgL,pgc,List.map];go_upto_region 11 with fail;obtain⟨e7,Y⟩:=kB (e6.alloc (Xk #[U8 e8,U8 e9,U8 ea,U8 eb,U8 ec,U8 ed,U8 ee,U8 ef] 44));have c8:zc wc e7:=by rw[<-Y];exact d7.trans (za _ _)
 have bn:=dD (cy.trans c8);have d5:=(dk.aA c8).c 0 rfl;rw[Y];clear Y d7 c8 Z;rcases dt with⟨rfl,rfl⟩|⟨rfl,rfl|⟨rfl,d9⟩⟩;·go_wp2;go_ret;exact⟨rfl,bn⟩
 ·go_wp2;go_ret;exact⟨rfl,bn⟩
 have bk:decide (F<40)=Xc:=decide_eq_true (by
  by_cases e:40<=F;·exact absurd d9 (bp e)
  omega)
 clear d9;go_wp2;go_ret;exact⟨rfl,bn⟩
end
section
open Go.ChangeShapes Go.WideShapes Go.ChangeAt Go.RowKit
theorem zsJ:Tryz.prog.cellsOf 3=1:=by kernel_rfl
theorem zsK:Tryz.prog.cellsOf 5=1:=by kernel_rfl
theorem zsL:Tryz.prog.cellsOf 23=3:=by kernel_rfl
theorem zsM:Tryz.prog.bytesOf 5=1:=by kernel_rfl
section
variable{H:Type} {enc:TypeId × Xq->H} {w:Xn} {base:Nat} {spare:Nat->Bool} {zg3:Bool}
theorem zfO {b:α->List Xq}:∀(l:List α) (x:Addr),(∀a∈l,(b a).length=k)->(∀(i:Nat) a,l[i]? =Xa a->Zh w (x.add (i*k)) (b a))->Zh w x (l.flatMap b)
 | [],x,_,_=>fun j u b=>by simp at b
 | a :: l,x,d,h=>fun j u b=>by
  rw[List.flatMap_cons]at b;have e:=d a Sm
  rcases Yq j k with c|c
  ·rw[Yf Wm]at b
   have:=h 0 a rfl j u b;rw[zZ]at this;simpa using this
  rw[aR Wm,e]at b
  have e:=zfO l (x.add k) (fun c f=>d c (by simp[f])) (fun i c d=>by
   have:=h (i+1) c (Si d);rw[zZ];rw[show k+i*k=(i+1)*k by rw[Nat.add_mul];omega]
   exact this) (j - k) u b
  rw[zZ,show k+(j - k)=j by omega]at e;exact e
theorem zoQ [Inhabited α] (b:α->List Xq) (Q:α->Prop) (k:Nat) {e:TypeId} (M:Tryz.prog.underlying t=Xa (.slice e)) (G:Tryz.prog.cellsOf e=k) (c:∀n cs (x:DataW H × List MemPlace),cs.length=k->DataW.trod enc prog w base spare zg3 n e cs=Xa x->∃a,Q a/\cs=b a)
  {g:Nat} {cs:List Xq} {x:DataW H × List MemPlace} (m:DataW.trod enc prog w base spare zg3 g t cs=Xa x):
  ∃v l,cs=[v]/\Je b w v l/\(∀a∈l,Q a/\(b a).length=k)/\(l=[]\/∃y R,x.1= .slice y R/\y.length=l.length):=by
 rcases Go.Deep.open_slice M m with⟨rfl,_⟩|⟨a,d,j,P,n,S,T,rfl,A,W,X,r,s,p⟩;·exact⟨_,[],rfl,⟨Xb,0,rfl,fun _=>rfl,fun x s=>by cases s⟩,Sm,.inl rfl⟩
 have K:d<=P:=by rw[r];split <;> omega
 have q:∀i,i<d->∃f,Q f/\(b f).length=k/\Zh w (a.add (i*k)) (b f):=fun i F=>by
  obtain⟨B,z,D⟩:=p i Wm;rw[G]at z;obtain⟨_,h,E⟩:=World.cells?_some z;obtain⟨f,L,rfl⟩:=c _ _ _ h D;refine⟨f,L,h,fun Y Z V=>?_⟩;grind
 obtain⟨C,U⟩:=Go.Deep.choose_lt q;refine⟨_,(List.range d).map C,rfl,⟨Xa a,j,Sm,fun m=>(by cases m),fun I N=>?_⟩,fun u A=>?_,.inr ⟨_,_,by rw[s],Sm⟩⟩
 ·cases N;refine zfO (k:=k) _ _ (fun u A=>?_) (fun i u F=>?_);·grind
  grind
 grind
theorem zld {r:Reach} {d:DataW H} {p:List MemPlace} (v:Value.okWide prog w r k 24 A) (h:DataW.Trod enc prog w base spare zg3 24 A d p) (l:∀n∈d.weights prog 24,n<=reachBytes):
  ∃(k:Sli) (s:List Int),A=k.x/\zr byE w (k.x) s/\k.n<=k.c/\∀z∈s,0<=z/\z<256:=by
 obtain⟨k,g⟩:=h;obtain⟨k,k,j,h,q,u⟩:=zoQ byE.enc (fun z=>0<=z/\z<256) 1 underlying24 zsK (fun n b x _ e=>by
  obtain⟨z,f,b,b⟩:=DataW.trod_int underlying5 e;refine⟨z,?_,f⟩;have:=b;simp only[Lit.wf,Bool.and_eq_true,decide_eq_true_eq]at this;have e:IntKind.u8.min=0:=rfl;have b:IntKind.u8.max=255:=rfl;rw[e,b]at this;exact⟨this.1,Hm this.2⟩) g
 obtain⟨b,c,rfl,r,t⟩:=h;obtain⟨h,m,i,rfl⟩:=okWide_slice underlying24 v;have e:O h m i= O b k.length c:=by simpa [Value.cells]using j
 cases e;refine⟨⟨b,k.length,c⟩,k,rfl,⟨⟨b,c,rfl,r,t⟩,?_⟩,?_,fun z f=>(q z f).1⟩
 ·rcases u with rfl|⟨e,f,h,b⟩
  ·grind
  have b:d= .slice e f:=h;have:=l ((e.length+f.length)*Tryz.prog.bytesOf 5) (by rw[b];simp[DataW.weights,underlying24]);rw[zsM]at this;unfold reachBytes at this;show k.length*1<=_;omega
 rcases Go.Deep.open_slice underlying24 g with⟨b,_⟩|⟨k,k,k,_,_,_,_,b,_,k,_⟩;·grind
 grind
theorem zjj {r:Reach} {d:DataW H} {p:List MemPlace} (t:Value.okWide prog w r k 23 A) (m:DataW.Trod enc prog w base spare zg3 23 A d p):∃F S B:Int,A= Xi #[I6 F,I6 S,I6 B]:=by
 obtain⟨a,rfl,s,_⟩:∃a,A= Xi a/\a.size=Tryz.prog.cellsOf 23/\Row.okWide prog w r k 23 a:=by simpa [Value.okWide,underlying23]using t
 obtain⟨l,b⟩:=m;obtain⟨g,n,_,_,hlen,q,b⟩:=DataW.trod_struct underlying23 b;rw[zsL]at hlen;have u:g.length=3:=q;obtain⟨a⟩:=a;simp only[Value.cells]at hlen b;have h:DataW.trod enc prog w base spare zg3 n 3 ((a.drop 0).take (Tryz.prog.cellsOf 3))=g[0]?:=b 0 _ rfl;have i:DataW.trod enc prog w base spare zg3 n 3 ((a.drop 1).take (Tryz.prog.cellsOf 3))=g[1]?:=b 1 _ rfl;have j:DataW.trod enc prog w base spare zg3 n 3 ((a.drop 2).take (Tryz.prog.cellsOf 3))=g[2]?:=b 2 _ rfl;rw[zsJ]at h i j;rw[gE Wm]at h i j;obtain⟨v,x,_,_⟩:=DataW.trod_int underlying3 h;obtain⟨C,y,_,_⟩:=DataW.trod_int underlying3 i;obtain⟨D,z,_,_⟩:=DataW.trod_int underlying3 j;obtain⟨c,e,f,rfl⟩:∃c e f,a=[c,e,f]:=by
  match a,hlen with
  | [c,e,f],_=>exact⟨c,e,f,rfl⟩
 grind
end
theorem own:ownKnob Tryz.prog.godebug=Xb:=by kernel_rfl
theorem laidOut:laidOutB prog=Xc:=by kernel_rfl
theorem zbG (a0:Os) (f:a0.Started) (H:Type) (enc:TypeId × Xq->H):
  ReturnsInHanded {} Tryz.checked a0 4 .any (Rows.faultRefusedSpec.pre6 enc prog Tryz.f4 Rows.faultRefusedRow.domain Xd) (Rows.faultRefusedSpec.post enc prog Tryz.f4 Xd Xc Xd Xd):=by
 refine returnsInHanded_of_change_sized (C:=Tryz.checked) own f Kr func4
  (ChangeSpec.witness6 (enc:=enc) (C:=Tryz.checked) Xd ⟨#[],#[Xi #[I6 0,I6 0,I6 0],eS,I6 0,I6 0,Xh Xd],[]⟩ 8 Kr Kr Kr Kr) ?_
 intro W k c U ah s e X Y h _;have r:(DataW.weightsEach prog (Tryz.f4.params.toList++Rows.faultRefusedSpec.plain.varTypes prog) (U++ah)).all (·<=reachBytes)=Xc:=h;have a:∀(Z:Nat) i v,Tryz.f4.params[Z]? =Xa i->c[Z]? =Xa v->Value.okWide prog W .any k i v:=e;have u:=X;obtain⟨ay,bk,l,an,rfl,ap,ar⟩:=X;have V:DataW.TrodAll enc prog W 0 (fun _=>Xc) Xc Tryz.f4.params.toList c.toList U ay:=l;rw[Tryz.params4]at V a r;obtain⟨a1,ba,bf,ac,az,bl,w,rfl,rfl,A,b4⟩:=trodAll_cons V;obtain⟨a2,bb,ab,ad,b0,bm,rfl,rfl,rfl,B,b5⟩:=trodAll_cons b4;obtain⟨a3,bc,bg,ae,b1,bn,rfl,rfl,rfl,D,b6⟩:=trodAll_cons b5;obtain⟨a4,bd,bh,af,b2,bo,rfl,rfl,rfl,F,b7⟩:=trodAll_cons b6;obtain⟨a5,be,bi,ag,b3,bp,rfl,rfl,rfl,K,b8⟩:=trodAll_cons b7;obtain⟨rfl,rfl,rfl⟩:=trodAll_nil b8;obtain rfl:c=#[a1,a2,a3,a4,a5]:=by cases c;simp_all
 obtain⟨rfl,rfl⟩:=trodVars_none an;have M:∀x∈az,x.block<W.heap.size:=by obtain⟨m,g⟩:=A;exact DataW.trod_lt m _ _ _ g
 have N:∀x∈b0,x.block<W.heap.size:=by obtain⟨m,g⟩:=B;exact DataW.trod_lt m _ _ _ g
 have P:∀x∈b1,x.block<W.heap.size:=by obtain⟨m,g⟩:=D;exact DataW.trod_lt m _ _ _ g
 have Q:∀x∈b2,x.block<W.heap.size:=by obtain⟨m,g⟩:=F;exact DataW.trod_lt m _ _ _ g
 have R:∀x∈b3,x.block<W.heap.size:=by obtain⟨m,g⟩:=K;exact DataW.trod_lt m _ _ _ g
 obtain⟨a9,aa,a8,y⟩:=zjj (a 0 23 a1 rfl rfl) A;subst y;obtain⟨b9,au,z,q,p,n⟩:=zld (a 1 24 a2 rfl rfl) B (fun I aq=>by
  have:=Yk.1 r I (DataW.weights_mem_each (j:=1) (t:=24) (d:=ab) rfl rfl I aq)
  simpa using this)
 subst z;have E:=D;have G:=F;have L:=K;obtain⟨av,rfl,rfl,rfl,bq⟩:=open_int underlying3 (a 2 3 a3 rfl rfl) D;obtain⟨aw,rfl,rfl,rfl,br⟩:=open_int underlying3 (a 3 3 a4 rfl rfl) F;obtain⟨ax,rfl,rfl,rfl⟩:=open_bool underlying4 (a 4 4 a5 rfl rfl) K;clear l e h;refine(zfa a9 aa a8 b9 au av aw ax W q p n).mono fun bj a6 ⟨ao,bel⟩=>?_;subst ao;have b:∀{i:TypeId} {v:Xq} {T:DataW H} {S:List MemPlace},Tryz.prog.readableRec i=Xc->i<Tryz.prog.types.size->DataW.Trod enc prog W 0 (fun _=>Xc) Xc i v T S->(∀x∈S,x.block<W.heap.size)->DataW.Trod enc prog a6 0 (fun a7=>decide (a7<W.heap.size)) Xc i v T S:=
  fun aj ak al am=>Below.trod laidOut aj ak al bel am
 exact⟨_,rfl,_,_,_,[],_,[],u,trodAll_mk1 (shut_bool underlying4 _),(trodAll_cons_mk (b Kr (of_decide_eq_true Kr) A M) (trodAll_cons_mk (b Kr (of_decide_eq_true Kr) B N) (trodAll_cons_mk (b Kr (of_decide_eq_true Kr) E P) (trodAll_cons_mk (b Kr (of_decide_eq_true Kr) G Q) (trodAll_cons_mk (b Kr (of_decide_eq_true Kr) L R) trodAll_mk0))))),rfl,Below.frame bel _,fun ai=>by cases ai⟩
theorem zcQ:Rows.faultRefusedRow.holds Tryz.pinned (OpenSpec.ofChange Rows.faultRefusedSpec):=
 OpenClaim.holds_of_wide 4 Tryz.f4 rfl rfl rfl rfl rfl rfl rfl ⟨rfl,rfl,rfl,rfl,rfl⟩ rfl rfl rfl rfl rfl Kr func4 Kr
  (of_decide_eq_true Kr) (by unfold Func.isWrapper;first | (rw[kE (by decide+kernel)];kernel_rfl) | (rw[kF (by decide+kernel)];exact⟨rfl,rfl⟩))
  (fun c a H b _=>zbG c a H b)
theorem faultRefused_holds:Rows.FaultRefusedSaid:=zcQ
#print axioms faultRefused_holds
end
end Go.Proofs.YtkfjajbalegoeaaGreat
