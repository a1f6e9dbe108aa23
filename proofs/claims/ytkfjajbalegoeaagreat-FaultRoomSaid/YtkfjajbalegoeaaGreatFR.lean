/- FaultRoom,proved:a page that may be used is used where two frames are free,whatever the numbers and bytes. No condition. -/
import Derived.Test.YtkfjajbalegoeaaGreatFR4
import Derived.Deep.CutRange
import Derived.Laws.BytesArg
import Derived.Test.YtkfjajbalegoeaaGreatRows
import Derived.ProofKit
import Derived.OpenShut
import Derived.ShutString
import Derived.ChangeOld
import Derived.Carry
import Derived.SizedLaws
import Derived.Test.YtkfjajbalegoeaaGreatChecked
namespace Go.Proofs.YtkfjajbalegoeaaGreat
open Go.Value renaming slice→O,int→Xe,bool→Xh,agg→Xi,pointer→Xj,tuple→Xm
open Go.IntKind renaming i64→Xf,u8→Xg
open Go.Obj renaming cells→Xk
open Go.Ending renaming returned→Xl
open Go renaming World→Xn,Calls→Xp,Value→Xq
open Go.RowKit renaming Hid→Xo
open Option renaming some→Xa,none→Xb
open Bool renaming true→Xc,false→Xd
open List renaming replicate→Xr
open _root_.List renaming eq_of_mem_replicate→Xs,mem_append→Xv,map_nil→Xw,take→Xx,drop→Xy,map_toArray→Xz,mem_singleton→Yb,length_eq_one_iff→Yc,take_of_length_le→Yd,getElem?_append_left→Yf,length_set→Yg,contains_eq_mem→Yh,all_eq_true→Yj,getElem?_replicate→Yk,getElem?_of_mem→Yl,getElem?_range→Ym,getElem?_map→Ys
open Go.Sem renaming run_pure→Xt,run_bind→Xu
open Go.Addr renaming add_lit→Ya
open _root_.Array renaming getD_eq_getD_getElem?→Ye
open _root_.Nat renaming lt_of_lt_of_le→Yi,lt_irrefl→Yn,lt_or_ge→Yp,sub_self→Yr
open Go.Region renaming ready→Yo
open _root_.Bool renaming not_eq_true'→Yq
open Go.Act renaming put→Yt
set_option maxRecDepth 100000
set_option maxHeartbeats 4000000
variable{α:Type}{a:Act}{C:Ar}{Y:Array Xq}{E:Elt α}{R z:Int}{g:List (Int × List Int)}{G:List (List En)}{H:List En}{K:List Oper}{D:List Xq}{y:List α}{b k p:Nat}{w:Xn}{A:Xq}{M:Xq->Xn->Prop}
variable{B0 B1 b hi id j kk:Nat} {L:List Int} {Q:Exit->Act->Xn->Prop} {T:List (Nat->En)} {V:MaV} {W w' w0:Xn} {er:Int} {l:List Ar} {m m':Ma} {o:Oper} {ops:Array Oper} {t:TypeId} {us vs:List Xq} {vl vt:Sli}
open Go.Proofs.Tryz
section
open Go.RowKit
def zre (k q n:Nat) (mB:Ma):Prop:=∃(s:Sp) (fr:Fr) (we:Bool),Rt mB/\mB.sp[q]? =Xa s/\mB.fs[k]? =Xa fr/\zf s n=⟨1,(k:Int),we⟩
def JP (m:Ma) (BF:Nat->Nat->Ar->Pg->Bool->Bool × Nat × Ma) (p n:Int) (wr:Bool) (er:Int):Prop:=
 er≠0/\(ZE m p n wr ar0 er\/(∃a,ZE m p n wr a 0/\(JZ m p n).2.2=er)\/(er=10/\∃(q i:Nat) (a:Ar) (pg:Pg) (ic:Bool),p=(q:Int)/\n=(i:Int)/\ZE m p n wr a 0/\JZ m p n=(pgL pg,ic,0)/\(qN m (BF q i a pg wr) pg a ic wr q i).1=Xd))
def zqo (m:Ma) (BF:Nat->Nat->Ar->Pg->Bool->Bool × Nat × Ma) (p n:Int) (wr:Bool) (k:Nat) (m':Ma):Prop:=
 ∃(q i:Nat) (a:Ar) (pg:Pg) (ic:Bool) (fr:Fr),p=(q:Int)/\n=(i:Int)/\ZE m p n wr a 0/\JZ m p n=(pgL pg,ic,0)/\(qN m (BF q i a pg wr) pg a ic wr q i).1=Xc/\k=(qN m (BF q i a pg wr) pg a ic wr q i).2.1/\(qN m (BF q i a pg wr) pg a ic wr q i).2.2.fs[k]? =Xa fr/\m'=Jg (qN m (BF q i a pg wr) pg a ic wr q i).2.2 q i k fr wr a.sh
theorem zq8 {l:List Int} (h:l.length=8):∃pg:Pg,l=pgL pg:=by obtain⟨a,b,c,d,f,g,i,j,e⟩:=zdL l h;exact⟨⟨a,b,c,d,f,g,i,j⟩,e⟩
theorem zin {wr:Bool} (h:ZE m z R wr C er) (b:er≠0):C=ar0:=by
 rcases h with⟨_,e,_⟩|⟨_,_,_,_,_,_,_,_,_,_,_,_,_,⟨_,e,_⟩|⟨e,_⟩⟩;·exact e
 ·exact e
 grind
theorem zgU (b:o.op= .alloc 97):(execOp a.eval o).run prog w= .ok (.value (Xj (Xa ⟨w.heap.size,0,Xb⟩))) (w.alloc (Xk #[Xj Xb,I6 0,I6 0,I6 0,I6 0,Xh Xd,Xh Xd,Xh Xd,I6 0,I6 0,U8 0,U8 0,U8 0,U8 0,U8 0,U8 0,U8 0,U8 0,Xh Xd,Xh Xd] 97)):=by simp only[execOp,b];go_simp
theorem zpl (V:MaV) (m:Ma) (p n:Int) (wr:Bool) (w:Xn) (fe:zR w V m) (cf:Rt m) (G:Nat->Nat->Ar->Pg->Bool->Bool × Nat × Ma)
  (ac:∀(w0 W:Xn) (p:Nat) (f:MaV) (m1:Ma) (ci:Xq) (l:List (Nat × Nat)),(∀x∈l,x.2<64/\∃s,m.sp[x.1]? =Xa s)->m1=ze m l->ChW w0 p W f m1->Rt m1->qy m1.fs=0->zgu Ju (Dw p f) W ci l->Xp prog 168 #[Xj (Xa ⟨p,0,Xb⟩),ci] W fun e w'=>e= Xl (Xh (Z6 m1 l).1)/\Chg w0 p W f (Z6 m1 l).2 w')
  (f8:∀(q i:Nat) (a:Ar) (pg:Pg),p=(q:Int)->n=(i:Int)->ZE m p n wr a 0->JZ m p n=(pgL pg,Xd,0)->0<=a.file->a.sh=Xc\/wr=Xd->∀(w0 W:Xn) (p:Nat) (f:MaV),ChW w0 p W f m->Xp prog 70 #[Xi #[Xj (Xa ⟨p,0,Xb⟩),I6 (q:Int),I6 (i:Int),I6 a.fr,I6 a.tz,Xh a.rd,Xh a.wr,Xh a.sh,I6 a.file,I6 a.base,U8 pg.b0,U8 pg.b1,U8 pg.b2,U8 pg.b3,U8 pg.b4,U8 pg.b5,U8 pg.b6,U8 pg.b7,Xh Xd,Xh wr]] W fun e w'=>e= Xl (Xm #[I6 ((G q i a pg wr).2.1:Int),I6 (if(G q i a pg wr).1=Xc then 0 else 10)])/\Chg w0 p W f (G q i a pg wr).2.2 w')
  (f9:∀(q i:Nat) (a:Ar) (pg:Pg) (C:Bool),p=(q:Int)->n=(i:Int)->ZE m p n wr a 0->JZ m p n=(pgL pg,C,0)->(qN m (G q i a pg wr) pg a C wr q i).1=Xc->zre (qN m (G q i a pg wr) pg a C wr q i).2.1 q i (qN m (G q i a pg wr) pg a C wr q i).2.2):
  Xp prog 11 #[Xi (mL V m).toArray,I6 p,I6 n,Xh wr] w fun e w'=>((∃a3:Int,e= Xl (Xm #[Xi qF.toArray,I6 0,I6 a3])/\JP m G p n wr a3)\/(∃(V':MaV) (k d:Nat) (m':Ma),e= Xl (Xm #[Xi (mL V' m').toArray,I6 (k:Int),I6 0])/\zqo m G p n wr k m'/\ChW w d w' V' m'))/\zc w w':=by
 have co:Xo (zR w V m):=fe;have es:Xo (Rt m):=cf;have cm:=show Xo _ from ac;have cl:=show Xo _ from f8;have cn:=show Xo _ from f9;have cr:Xo (∀W,zc w W->Xp prog 30 #[Xi (mL V m).toArray,I6 p,I6 n,Xh wr] W fun e w'=>(∃(a:Ar) (a3:Int),e= Xl (Xm #[Xi #[I6 a.fr,I6 a.tz,Xh a.rd,Xh a.wr,Xh a.sh,I6 a.file,I6 a.base],I6 a3])/\ZE m p n wr a a3)/\zc W w'):=dD<|fun W bd=>zkg V m p n wr W (co.aA bd) cf.w;have ct:Xo (∀W,zc w W->Xp prog 31 #[Xi (mL V m).toArray,I6 p,I6 n] W fun e w'=>e= Xl (zgJ (JZ m p n))/\(JZ m p n).1.length=8/\zc W w'):=dD<|fun W bd=>znM V m p n W (co.aA bd) cf.w;clear fe cf ac f8 f9;obtain⟨h,ar⟩:=kA w.heap.size;obtain⟨bu,a6⟩:=kB ((w.alloc (Xk (mL V m).toArray 41)).alloc (Xk zM.toArray 41));have en:=gD2 a6;have ew:Xo (zr bu h 41 (mL V m)):=dD<|by rw[<-a6];exact(zr.aE w (mL V m) _ ar.symm).aA (za _ _)
 have fz:Xo (zr bu (h+1) 41 qF):=dD<|by rw[<-a6];exact zr.aE _ qF _ (by have:=ar.out;simp;omega)
 have cu:Xo (_=bu):=a6;clear a6;have c1:=cr.out bu en.out;go_enter func11,ntmps11;go_upto_region 1 with fail;rw[cu.out,ar.out];obtain⟨ed,ee,ef,eg,eh,ei,ej,ek,el,em,bi⟩:=ew.box.bQ;go_wp2_with fail;refine c1.mono ?_;clear c1 ed ee ef eg eh ei ej ek el em bi;rintro bp c9 ⟨⟨a,a3,rfl,fb⟩,f2⟩;have al:Xo (ZE m p n wr a a3):=fb;clear fb;go_upto_region 2 with fail;obtain⟨b8,ep⟩:=kA c9.heap.size;obtain⟨d0,ae⟩:=kB (c9.alloc (Xk #[I6 a.fr,I6 a.tz,Xh a.rd,Xh a.wr,Xh a.sh,I6 a.file,I6 a.base] 77));have cd:zc bu d0:=by rw[<-ae];exact f2.trans (za _ _)
 have fy:=xPT ae ep;have ex:=dD (ew.aA cd);have ey:=dD (fz.aA cd);have ck:=dD (en.trans cd);rw[ae,ep.out];clear ae f2 cd;by_cases L:a3=0
 rotate_left
 ·have gh:(a3 != 0)=Xc:=by simp[L]
  have br:Xo (JP m G p n wr a3):=dD<|⟨L,.inl (by have:=al.out;rw[zin al.out L]at this;exact this)⟩;clear L;go_wp2_with (refine z4 rfl 41 (.tmp 8) (.tmp 27) rfl (h+1) rfl qF rfl ey rfl Kr (by unfold qF;simp[Value.oneCell']) ?_)
  intro an z A _;have S:Xo (zc w an):=dD<|zd ck A (Hm ar.out);have R:Xo (zr an (h+1) 41 qF):=z;clear z A;go_wp2;refine bodyPost_ret (qd rfl _ rfl R.box underlying41 rfl Kr) rfl ⟨.inl ⟨a3,rfl,br⟩,S⟩
 subst L;have c2:=ct.out d0 ck.out;obtain⟨ed,ee,ef,eg,eh,ei,ej,ek,el,em,bi⟩:=ex.box.bQ;go_wp2_with fail;refine c2.mono ?_;clear c2 ed ee ef eg eh ei ej ek el em bi;rintro bp et ⟨rfl,be,f3⟩;obtain⟨fx,ad⟩:=kA (JZ m p n);rw[ad.out]at be⊢;obtain⟨gz,C,cb⟩:=fx;obtain⟨pg,rfl⟩:=zq8 be;obtain⟨Y,H,D,Q,Z,a0,a1,a2⟩:=pg;clear be;simp only[zgJ,pgL,pgc,List.map];go_upto_region 5 with fail;obtain⟨ao,eq⟩:=kA et.heap.size;obtain⟨t,af⟩:=kB (et.alloc (Xk #[U8 Y,U8 H,U8 D,U8 Q,U8 Z,U8 a0,U8 a1,U8 a2] 44));have bw:zc d0 t:=by rw[<-af];exact f3.trans (za _ _)
 have am:=xPT af eq;have X:=dD (ex.aA bw);have d3:=dD (ey.aA bw);have ay:=dD (fy.aA bw);have bk:=dD (ck.trans bw);rw[af,eq.out];clear af f3 bw;by_cases L:cb=0
 rotate_left
 ·have gh:(cb != 0)=Xc:=by simp[L]
  have br:Xo (JP m G p n wr cb):=dD<|⟨L,.inr (.inl ⟨a,al,by rw[ad.out]⟩)⟩;clear L;go_wp2_with (refine z4 rfl 41 (.tmp 8) (.tmp 39) rfl (h+1) rfl qF rfl d3 rfl Kr (by unfold qF;simp[Value.oneCell']) ?_)
  intro an z A _;have S:Xo (zc w an):=dD<|zd bk A (Hm ar.out);have R:Xo (zr an (h+1) 41 qF):=z;clear z A;go_wp2;refine bodyPost_ret (qd rfl _ rfl R.box underlying41 rfl Kr) rfl ⟨.inl ⟨cb,rfl,br⟩,S⟩
 subst L;obtain⟨q,i,U,T,ak,s,fq⟩:∃q i:Nat,Xo (p=(q:Int))/\Xo (n=(i:Int))/\Xo (i<64)/\∃s,Xo (m.sp[q]? =Xa s):=by
  rcases al with⟨e,_⟩|⟨q,i,_,s,_,gb,gc,gd,ge,_⟩;·cases e
  exact⟨q,i,gb,gc,gd,s,ge⟩
 rw[U.out,T.out];have cq:Xo (∀W,zc w W->Xp prog 32 #[Xi (mL V m).toArray] W fun e w'=>∃(d B:Nat) (V':MaV),e= Xl (Xj (Xa ⟨d,0,Xb⟩))/\zgq B w' V' m/\W.heap.size<=B/\W.heap.size<=d/\zr w' d 102 (chL V' m)/\zc W w'):=dD<|fun W bd=>zma V m W (co.aA bd);go_upto_region 7 with fail;obtain⟨c,b⟩:=Ww fun P=>zc t P;have bc:c t.drew:=(b _).2 (gW _);have d9:Nonempty (zg c):=⟨⟨_,bc⟩⟩;have da:=fun y:zg c=>(X.box.aA ((b _).1 y.holds)).c 0 rfl;have db:=fun y:zg c=>(X.box.aA ((b _).1 y.holds)).c 1 rfl;have dc:=fun y:zg c=>(X.box.aA ((b _).1 y.holds)).c 2 rfl;have dd:=fun y:zg c=>(X.box.aA ((b _).1 y.holds)).c 3 rfl;have de:=fun y:zg c=>(X.box.aA ((b _).1 y.holds)).c 4 rfl;have df:=fun y:zg c=>(X.box.aA ((b _).1 y.holds)).c 5 rfl;have dg:=fun y:zg c=>(X.box.aA ((b _).1 y.holds)).c 6 rfl;have dh:=fun y:zg c=>(X.box.aA ((b _).1 y.holds)).c 7 rfl;have di:=fun y:zg c=>(X.box.aA ((b _).1 y.holds)).c 8 rfl;have dj:=fun y:zg c=>(X.box.aA ((b _).1 y.holds)).c 9 rfl;have c3:=fun y:zg c=>(X.box.aA ((b _).1 y.holds)).c 10 rfl;have dk:=fun y:zg c=>(ay.box.aA ((b _).1 y.holds)).c 0 rfl;have dl:=fun y:zg c=>(ay.box.aA ((b _).1 y.holds)).c 1 rfl;have dm:=fun y:zg c=>(ay.box.aA ((b _).1 y.holds)).c 2 rfl;have dn:=fun y:zg c=>(ay.box.aA ((b _).1 y.holds)).c 3 rfl;have dp:=fun y:zg c=>(ay.box.aA ((b _).1 y.holds)).c 4 rfl;have dq:=fun y:zg c=>(ay.box.aA ((b _).1 y.holds)).c 5 rfl;have dr:=fun y:zg c=>(ay.box.aA ((b _).1 y.holds)).c 6 rfl;have dt:=fun y:zg c=>(am.box.aA ((b _).1 y.holds)).c 0 rfl;have du:=fun y:zg c=>(am.box.aA ((b _).1 y.holds)).c 1 rfl;have dv:=fun y:zg c=>(am.box.aA ((b _).1 y.holds)).c 2 rfl;have dw:=fun y:zg c=>(am.box.aA ((b _).1 y.holds)).c 3 rfl;have dx:=fun y:zg c=>(am.box.aA ((b _).1 y.holds)).c 4 rfl;have dy:=fun y:zg c=>(am.box.aA ((b _).1 y.holds)).c 5 rfl;have dz:=fun y:zg c=>(am.box.aA ((b _).1 y.holds)).c 6 rfl;have e0:=fun y:zg c=>(am.box.aA ((b _).1 y.holds)).c 7 rfl;refine J5 (I:=c) 12 [(1,⟨.const (Xh Xd),fun v=>∃d:Nat,v= Xj (Xa ⟨d,0,Xb⟩),fun _ v P=>∃(d B:Nat) (f:MaV),v= Xj (Xa ⟨d,0,Xb⟩)/\t.heap.size<=B/\t.heap.size<=d/\zgq B P f m/\zr P d 102 (chL f m),fun p q=>zc p q,fun _=>True⟩),(10,⟨.const (Xh Xd),fun v=>∃j,v= Xj (Xa ⟨j,0,Xb⟩),fun _ v P=>∃j aa,v= Xj (Xa ⟨j,0,Xb⟩)/\t.heap.size<=j/\zr P j 97 aa/\aa.length=20,fun p q=>zc p q,fun _=>True⟩),(11,⟨.tmp 15,fun _=>True,fun bp _ P=>∃(j d B:Nat) (f:MaV),bp= Xj (Xa ⟨j,0,Xb⟩)/\t.heap.size<=j/\zr P j 97 [Xj (Xa ⟨d,0,Xb⟩),I6 (q:Int),I6 (i:Int),I6 a.fr,I6 a.tz,Xh a.rd,Xh a.wr,Xh a.sh,I6 a.file,I6 a.base,U8 Y,U8 H,U8 D,U8 Q,U8 Z,U8 a0,U8 a1,U8 a2,Xh C,Xh wr]/\t.heap.size<=B/\t.heap.size<=d/\zgq B P f m/\zr P d 102 (chL f m),fun p q=>∃j aa d5,t.heap.size<=j/\p.grownBy q (Xa j)/\zr p j 97 d5/\zr q j 97 aa/\aa.length=20,fun _=>True⟩)] bc z2 Kr Kr rfl rfl Dc (Sc ⟨_,0,rfl⟩ ⟨_,0,rfl⟩ ⟨Xh Xc,trivial⟩) ?hp ?hpre ?hpr0 ?_;case hp=>
  intro k s gi fl a8 cg ag fc bp v p q g bf;have a9:=zz a8;have F:=zz cg;clear a8 cg;simp only[mC,pJ,nM,or_false]at a9 F;rcases a9 with⟨rfl,rfl⟩|⟨rfl,rfl⟩|⟨rfl,rfl⟩
  ·obtain⟨d,B,f,a4,a5,ab,ap,bl⟩:=bf
   rcases F with⟨rfl,rfl⟩|⟨rfl,rfl⟩|⟨rfl,rfl⟩;·exact absurd rfl ag
   ·exact⟨d,B,f,a4,a5,ab,ap.aA g,bl.aA g⟩
   obtain⟨cc,aa,d5,gj,cj,e9,fj,fk⟩:=g;exact⟨d,B,f,a4,a5,ab,ap.other cj e9,bl.beside cj fun k a8=>by cases a8;exact bl.off e9 Dc⟩
  ·obtain⟨j,aa,a4,a5,ab,ap⟩:=bf
   rcases F with⟨rfl,rfl⟩|⟨rfl,rfl⟩|⟨rfl,rfl⟩;·exact⟨j,aa,a4,a5,ab.aA g,ap⟩
   ·exact absurd rfl ag
   obtain⟨cc,g8,d5,gj,cj,e9,fj,fk⟩:=g;by_cases e:j=cc;·subst e;exact⟨j,_,a4,a5,fj,fk⟩
   exact⟨j,aa,a4,a5,ab.beside cj (fun k a8=>by cases a8;exact e),ap⟩
  obtain⟨j,d,B,f,a4,a5,ab,ap,bl,f6,f7⟩:=bf;rcases F with⟨rfl,rfl⟩|⟨rfl,rfl⟩|⟨rfl,rfl⟩;·exact⟨j,d,B,f,a4,a5,ab.aA g,ap,bl,f6.aA g,f7.aA g⟩
  ·exact⟨j,d,B,f,a4,a5,ab.aA g,ap,bl,f6.aA g,f7.aA g⟩
  exact absurd rfl ag
 case hpre=>
  intro gi fl k s cg a8 ag p q g bg;have F:=zz cg;simp only[mC,pJ,nM,or_false]at F;rcases F with⟨rfl,rfl⟩|⟨rfl,rfl⟩|⟨rfl,rfl⟩ <;> trivial
 case hpr0=>
  intro k fl a8;have a9:=zz a8;simp only[mC,pJ,nM,or_false]at a9;rcases a9 with⟨rfl,rfl⟩|⟨rfl,rfl⟩|⟨rfl,rfl⟩ <;> trivial
 simp only[Xx,Xy];refine zaE rfl rfl rfl (fun ft fa=>?_);go_big_quiet_op;refine fa _ ?_;clear fa ft;refine Zb rfl rfl (fun w' u bg ac=>?_) (fun fm ai=>?_);·refine zL.call [Xi (mL V m).toArray] rfl func32 rfl rfl rfl ?_;refine(cq w' (bk.trans ((b _).1 u))).mono ?_;rintro e ec ⟨d,B,f,rfl,bo,bm,bn,az,f4⟩;have ch:=bS ((b _).1 u);exact⟨_,rfl,(b _).2 (((b _).1 u).trans f4),f4,⟨d,rfl⟩,d,B,f,rfl,nT ch bm,nT ch bn,bo,az⟩
 obtain⟨d,rfl⟩:=ai;refine Uq ?_;iterate 8 refine ZL ?_
 refine Zb rfl rfl (fun w' u bg ac=>?_) (fun fm ai=>?_);·refine zL.step (v:= Xj (Xa ⟨w'.heap.size,0,Xb⟩)) (w':=w'.alloc (Xk #[Xj Xb,I6 0,I6 0,I6 0,I6 0,Xh Xd,Xh Xd,Xh Xd,I6 0,I6 0,U8 0,U8 0,U8 0,U8 0,U8 0,U8 0,U8 0,U8 0,Xh Xd,Xh Xd] 97)) (zgU rfl) ⟨(b _).2 (((b _).1 u).trans (za _ _)),za _ _,⟨_,rfl⟩,_,_,rfl,bS ((b _).1 u),zr.aE _ [Xj Xb,I6 0,I6 0,I6 0,I6 0,Xh Xd,Xh Xd,Xh Xd,I6 0,I6 0,U8 0,U8 0,U8 0,U8 0,U8 0,U8 0,U8 0,U8 0,Xh Xd,Xh Xd] _ rfl,rfl⟩
 obtain⟨aj,rfl⟩:=ai;refine Uq ?_;refine Zb rfl rfl (fun w' u bg ac=>?_) (fun fm ai=>?_)
 ·obtain⟨j,aa,a7,M,N,c0⟩:=ac 10 Kr
  simp only[Value.pointer.injEq,Option.some.injEq,Addr.mk.injEq,and_true]at a7;subst a7;obtain⟨r,B,f,L,bm,bn,bo,az⟩:=ac 1 Kr;simp only[Value.pointer.injEq,Option.some.injEq,Addr.mk.injEq,and_true]at L;subst L;refine zL.bK 97 (.tmp 15) (.tmp 50) rfl aj rfl [Xj (Xa ⟨d,0,Xb⟩),I6 (q:Int),I6 (i:Int),I6 a.fr,I6 a.tz,Xh a.rd,Xh a.wr,Xh a.sh,I6 a.file,I6 a.base,U8 Y,U8 H,U8 D,U8 Q,U8 Z,U8 a0,U8 a1,U8 a2,Xh C,Xh wr] rfl N (Rr c0) (by rw[c0];kernel_rfl) (by simp[Value.oneCell']) fun ec H D Q=>?_;exact⟨(b _).2 (zd ((b _).1 u) D M),⟨aj,_,_,M,D,N,H,rfl⟩,trivial,aj,d,B,f,rfl,M,H,bm,bn,bo.other D N,az.beside D fun k a8=>by cases a8;exact az.off N Dc⟩
 simp only[Yt];refine zbJ fun eu bz ac=>?_;obtain⟨cc,r,B,f,a7,N,M,bm,bn,bo,az⟩:=ac 11;have aq:(Value.pointer (Xa ⟨aj,0,Xb⟩):Xq)= Xj (Xa ⟨cc,0,Xb⟩):=a7;simp only[Value.pointer.injEq,Option.some.injEq,Addr.mk.injEq,and_true]at aq;subst aq;have ce:=(b _).1 bz;have c5:Xo (ChW t r eu f m):=ChW.of bo bm ce bn az;have cy:Xo (zr eu aj 97 [Xj (Xa ⟨r,0,Xb⟩),I6 (q:Int),I6 (i:Int),I6 a.fr,I6 a.tz,Xh a.rd,Xh a.wr,Xh a.sh,I6 a.file,I6 a.base,U8 Y,U8 H,U8 D,U8 Q,U8 Z,U8 a0,U8 a1,U8 a2,Xh C,Xh wr]):=M;have g0:=dD (d3.aA ce);have aw:Xo (h+1<t.heap.size):=d3.box.lt;have cv:Xo (w.heap.size<=t.heap.size):=show _<=_ from bS bk.out;have gx:=dD (bk.trans ce);clear ac bz bc d9 ce a7 M N bm bn bo az da db dc dd de df dg dh di dj c3 dk dl dm dn dp dq dr dt du dv dw dx dy dz e0;obtain⟨pg,bs⟩:∃pg:Pg,Xo ((⟨Y,H,D,Q,Z,a0,a1,a2⟩:Pg)=pg):=⟨_,rfl⟩;have av:Xo (JZ m p n=(pgL pg,C,0)):=show _=_ by rw[<-bs.out];exact ad.out
 have K:=zgL c5 es q i s fq ak a ⟨Y,H,D,Q,Z,a0,a1,a2⟩ C wr (fun l ci fd gf c9 fv d8 ai=>cm.out t c9 r fv (ze m l) ci l fd rfl d8 (qp l es fd).1.rt gf ai) (G q i a ⟨Y,H,D,Q,Z,a0,a1,a2⟩ wr) (fun d8 W bd=>by
  obtain⟨⟨a4,a5⟩,ab⟩:=d8;have ai:=ad.out;rw[a5]at ai⊢;exact cl q i a ⟨Y,H,D,Q,Z,a0,a1,a2⟩ U T al ai a4 ab t W r f (c5.aA bd))
 simp only at K;rw[bs.out]at K;obtain⟨bj,E⟩:=kA (qN m (G q i a pg wr) pg a C wr q i);have bq:Xo (bj.1=Xc->zre bj.2.1 q i bj.2.2):=dD<|fun f5=>by
  rw[<-E.out]at f5⊢;exact cn q i a pg C U T al av f5
 rw[E.out]at K;obtain⟨f1,au⟩:=kA (if bj.1=Xc then(0:Int)else 10);rw[au.out]at K;go_wp2_with (refine zC rfl 97 (.tmp 15) rfl aj rfl cy.box underlying97 rfl Kr ?_)
 refine K.mono ?_;clear K;rintro bp ca ⟨rfl,fw,d4,e7,g9⟩;have cz:Xo (zr ca aj 97 [Xj (Xa ⟨r,0,Xb⟩),I6 (q:Int),I6 (i:Int),I6 a.fr,I6 a.tz,Xh a.rd,Xh a.wr,Xh a.sh,I6 a.file,I6 a.base,U8 Y,U8 H,U8 D,U8 Q,U8 Z,U8 a0,U8 a1,U8 a2,Xh C,Xh wr]):=cy.aT e7 (c5.bW cy Dc Dc Dc Dc);have ez:Xo (zr ca (h+1) 41 qF):=g0.aT e7 (fun e=>by have:=c5.dlo _ e;have:=aw.out;omega);have c8:Xo (ChW t r ca fw bj.2.2):=d4;have fo:Xo (zc w ca):=bk.trans d4.gr;clear d4 e7 g9;obtain⟨g7,c4,fi⟩:=bj;simp only at c8 bq⊢;cases g7 with
 | false=>
  have ba:f1=10:=by rw[<-au.out];rfl
  subst ba;have br:Xo (JP m G p n wr 10):=dD<|⟨Dc,.inr (.inr ⟨rfl,q,i,a,pg,C,U,T,al,av,by rw[E.out]⟩)⟩;go_wp2_with (refine z4 rfl 41 (.tmp 8) (.tmp 58) rfl (h+1) rfl qF rfl ez rfl Kr (by unfold qF;simp[Value.oneCell']) ?_)
  intro an z A _;have S:Xo (zc w an):=dD<|zd fo A (Hm ar.out);have R:Xo (zr an (h+1) 41 qF):=z;clear z A;go_wp2;refine bodyPost_ret (qd rfl _ rfl R.box underlying41 rfl Kr) rfl ⟨.inl ⟨10,rfl,br⟩,S⟩
 | true=>
  have ba:f1=0:=by rw[<-au.out];rfl
  subst ba;obtain⟨gv,fr,gw,e5,fg,e6,fh⟩:=bq.out rfl;have bt:Xo (zqo m G p n wr c4 (Jg fi q i c4 fr wr a.sh)):=dD<|⟨q,i,a,pg,C,fr,U,T,al,av,by rw[E.out],by rw[E.out],Rx E.out e6,by rw[E.out]⟩;have ah:=zil c8 q i c4 fr gv gw e6 e5.inv.aK (fun s ch=>e5.tb ch) fg ak fh a ⟨Y,H,D,Q,Z,a0,a1,a2⟩ C wr;obtain⟨bh,cp⟩:=kA (Jg fi q i c4 fr wr a.sh);simp only at ah;rw[cp.out]at ah bt;clear e5 fg e6 fh;go_wp2_with (refine zC rfl 97 (.tmp 15) rfl aj rfl cz.box underlying97 rfl Kr ?_)
  refine ah.mono ?_;clear ah;rintro bp d1 ⟨⟨gy,rfl⟩,ax,f0,e8,ga⟩;have fu:Xo (zr d1 aj 97 [Xj (Xa ⟨r,0,Xb⟩),I6 (q:Int),I6 (i:Int),I6 a.fr,I6 a.tz,Xh a.rd,Xh a.wr,Xh a.sh,I6 a.file,I6 a.base,U8 Y,U8 H,U8 D,U8 Q,U8 Z,U8 a0,U8 a1,U8 a2,Xh C,Xh wr]):=cz.aT e8 (c8.bW cz Dc Dc Dc Dc);have g6:Xo (zr d1 (h+1) 41 qF):=ez.aT e8 (fun e=>by have:=c8.dlo _ e;have:=aw.out;omega);have cx:Xo (ChW t r d1 ax bh):=f0;clear f0 e8 ga;have u0:=fu.box.c 0 rfl;obtain⟨gk,gl,gm,gn,gp,gq,gr,gs,gt,gu,ea⟩:=cx.box.box.bQ;have cw:Xo (∀v∈chL ax bh,v.oneCell'=Xc):=show∀v∈chL ax bh,_ by simp[chL,Value.oneCell']
  go_wp2_with (refine z4 rfl 41 (.tmp 8) (.tmp 67) rfl (h+1) rfl (chL ax bh) rfl g6 rfl Kr cw.out ?_)
  clear u0 gk gl gm gn gp gq gr gs gt gu ea;intro d2 bv b9 _;have eo:Xo (zc w d2):=dD<|zd (bk.trans cx.gr) b9 (Hm ar.out);have fn:Xo (zr d2 (h+1) 41 (chL ax bh)):=bv;have fp:Xo (ChW w r d2 ax bh):=cx.lower b9 aw eo cv.out;clear bv b9;go_wp2;refine bodyPost_ret (qd rfl _ rfl fn.box underlying41 rfl Kr) rfl ⟨.inr ⟨ax,c4,r,bh,rfl,bt,fp⟩,eo⟩
theorem zcr.inTo {wr ic:Bool} {a:Ma} {n:Nat} {x:On} {pg:Pg} (h:zcr wr m k p x pg ic n a):zre n k p a:=by obtain⟨f,e,w,b,c,d,_⟩:=h.into;exact⟨f,e,w,h.rt,b,c,d⟩
theorem J8 {wr:Bool} (c:ZE m z R wr C 0) (u:z=(k:Int)) (hi:R=(p:Int)):∃s,m.sp[k]? =Xa s/\p<64/\q4 C/\(C.fr<=(p:Int)/\(p:Int)<C.tz)/\zo s.aC p=z5 C p/\(if wr=Xc then C.wr else C.rd)=Xc:=by
 rcases c with⟨e,_⟩|⟨x,v,w,s,y,d,f,g,h,j,n,l,r,⟨e,_⟩|⟨_,t,b⟩⟩;·cases e
 ·cases e
 grind
theorem Ja (h:Rt m) {q i:Nat} {s:Sp} (a:m.sp[q]? =Xa s) (hi:i<64):JZ m (q:Int) (i:Int)=ZA m (zo s.aC i) (zf s i):=by unfold JZ;rw[kF (by rw[h.w];simp)];exact zfz a hi
theorem zfA (V:MaV) (m:Ma) (p n:Int) (wr:Bool) (w:Xn) (M:zR w V m) (d:Rt m):
  Xp prog 11 #[Xi (mL V m).toArray,I6 p,I6 n,Xh wr] w fun e w'=>((∃E:Int,e= Xl (Xm #[Xi qF.toArray,I6 0,I6 E])/\JP m (ZO m) p n wr E)\/(∃(V':MaV) (k C:Nat) (m':Ma),e= Xl (Xm #[Xi (mL V' m').toArray,I6 (k:Int),I6 0])/\zqo m (ZO m) p n wr k m'/\ChW w C w' V' m'))/\zc w w':=
 zpl V m p n wr w M d (ZO m) (fun Q W C H Z B P U e v N _ h=>zfd v N B P h)
  (fun q i a t r l z h T X Q W C H v=>by
   obtain⟨D,b,c,u,F,G,K⟩:=J8 z r l;unfold q4 at u;obtain⟨j,f⟩:∃j:Nat,a.file=(j:Int):=⟨a.file.toNat,Wm⟩;obtain⟨s,g⟩:∃s:Nat,a.base+(i:Int) - a.fr=(s:Int):=⟨(a.base+(i:Int) - a.fr).toNat,Wm⟩;have A:=zgK v d q i D b c a j s f g Wm Wm Wm t Xd wr (ziV (.inr Wm)) (fun _ B S R x y=>zfd x (qp [(q,i)] d (fun I A=>by rw[Yb.1 A];exact⟨c,D,b⟩)).1.rt B [(q,i)] y);have e:ZO m q i a t wr=zbT m t (j:Int) (s:Int) q i:=by
    unfold ZO;rw[f,g]
   rw[e];exact A)
  (fun q i a t Y r l z h L=>by
   obtain⟨D,b,c,u,F,G,K⟩:=J8 z r l;rw[r,l,Ja d b c]at h;exact(zj4 d b c u F G h L).inTo)
theorem zcx (k:Rt m) {wr:Bool} (a:JP m (ZO m) z R wr er):er=10->qy m.fs=0:=fun c=>by
 subst c;rcases a.2 with a|⟨b,a,d⟩|⟨_,q,i,b,v,t,s,r,a,d,l⟩;·rcases a with⟨e,_⟩|⟨_,_,_,_,_,_,_,_,_,_,_,_,_,⟨e,_⟩|⟨e,_⟩⟩ <;> cases e
 ·rcases a with⟨e,_⟩|⟨q,i,u,w,x,f,g,h,j,_⟩
  ·cases e
  grind [Ja,ZA]
 grind [J8,zlo]
theorem zpy {x:On} {e:En} (h:x.is=Xc):(ZA m x e).2.2=0\/(ZA m x e).2.2=9:=by grind [ZA]
structure zqY (wr:Bool) (m:Ma) (q n:Nat) (s:Sp) (a:Ar) (pg:Pg) (ic:Bool) (k:Nat) (m':Ma):Prop where
 sp:m.sp[q]? =Xa s
 n64:n<64
 ok:q4 a
 on:zo s.aC n=z5 a n
 may:(if wr=Xc then a.wr else a.rd)=Xc
 see:ZA m (zo s.aC n) (zf s n)=(pgL pg,ic,0)
 rt:Rt m'
 aW:Sam (fun p j=>p=q/\j=n) m m'
 fsl:m'.fs.length=m.fs.length
 into:∃(s':Sp) (fr:Fr) (w:Bool),m'.sp[q]? =Xa s'/\m'.fs[k]? =Xa fr/\zf s' n=⟨1,(k:Int),w⟩/\fr.p=pg/\fr.r≠0/\(wr=Xc->w=Xc/\((fr.f=-1/\fr.r<=1)\/a.sh=Xc))/\(wr=Xd->0<=a.file->decide (fr.f<0)=ic)
theorem zlJ (N:Rt m) {wr:Bool} (a2:zqo m (ZO m) z R wr k m'):∃(q i:Nat) (s:Sp) (a:Ar) (pg:Pg) (h:Bool),z=(q:Int)/\R=(i:Int)/\zqY wr m q i s a pg h k m':=by
 obtain⟨q,i,a,pg,h,a5,y,w,A,B,a0,a1,u,x⟩:=a2;obtain⟨s,g,e,P,I,d,r⟩:=J8 A y w;rw[y,w,Ja N g e]at B;have b:=zj4 N g e P I d B a0;rw[<-a1]at b;generalize(qN m (ZO m q i a pg wr) pg a h wr q i).2.2=mB at b u x;obtain⟨n,X,a8,j,F,S,T,l,G⟩:=b.into;rw[u]at F;cases F;have K:=(b.aW.sp q s n g j).2;have H:(zo n.aC i).sh=a.sh:=by rw[K,d];rfl
 have V:(zo s.aC i).sh=a.sh:=Rr d;have W:(zo s.aC i).file=a.file:=Rr d
 rw[V]at l;rw[W]at G;obtain⟨C,D,⟨a7,a4,E⟩,Q⟩:=zpF b.rt j e u S wr (fun f=>⟨by
  rw[K,d];rw[kE f]at r;exact r,by rw[H];exact l f⟩)
 rw[H,<-x]at C D E Q;have:∃t,m'.sp[q]? =Xa t:=⟨_,gE (by rw[D.aI];exact(gS.1 j).1)⟩;obtain⟨t,p⟩:=this;have v:m'.fs.length=mB.fs.length:=by
  rw[x];unfold Jg;split
  ·show(mB.fs.set _ _).length=_
   grind
  grind
 have c:=Q t p;obtain⟨a3,Y,L,M,a6,Z⟩:=C.aQ p e (by rw[c]);rw[c]at L;have:k=a3:=Int.ofNat.inj L;subst this;rw[E]at M;cases M;exact⟨q,i,s,a,pg,h,y,w,g,e,P,d,r,B,C,(b.aW.trans D).mono (fun _ _ U=>U.elim id False.elim),v.trans b.fsl,t,_,_,p,E,c,T,Z,fun f=>⟨by rw[f,Bool.or_true],l f⟩,G⟩
theorem zdD (u:Rt m) {wr:Bool} (k:JP m (ZO m) z R wr er):
  (er=5/\((z<0\/(m.sp.length:Int)<=z)\/∃(q:Nat) (s:Sp),z=(q:Int)/\m.sp[q]? =Xa s/\∀a∈s.aC,inZ a R=Xd))\/
  (∃(q i:Nat) (s:Sp),z=(q:Int)/\R=(i:Int)/\i<64/\m.sp[q]? =Xa s/\(zo s.aC i).is=Xc/\((er=8/\(if wr=Xc then(zo s.aC i).wr else(zo s.aC i).rd)=Xd)\/((if wr=Xc then(zo s.aC i).wr else(zo s.aC i).rd)=Xc/\((er=9/\(ZA m (zo s.aC i) (zf s i)).2.2=9)\/(er=10/\(ZA m (zo s.aC i) (zf s i)).2.2=0/\qy m.fs=0))))):=by
 have c:=zcx u k;rcases k.2 with b|⟨a,b,l⟩|⟨A,q,i,a,Q,P,w,v,b,l,N⟩
 ·rcases b with⟨e,_,f⟩|⟨q,i,H,s,K,g,f,h,j,B,C,D,d,⟨e,_,t⟩|⟨e,_⟩⟩
  ·grind
  ·exact .inr ⟨q,i,s,g,f,h,j,Rr d,.inl ⟨e,Rx d t⟩⟩
  exact absurd e k.1
 ·rcases b with⟨e,_⟩|⟨q,i,H,s,K,g,f,h,j,B,C,D,d,⟨e,_⟩|⟨_,t,r⟩⟩
  ·cases e
  ·cases e
  rw[g,f,Ja u j h]at l;refine .inr ⟨q,i,s,g,f,h,j,Rr d,.inr ⟨by rw[d];subst t;exact r,.inl ?_⟩⟩;have G:=k.1;have F:(zo s.aC i).is=Xc:=Rr d;grind [zpy,zf]
 obtain⟨s,x,y,L,M,n,E⟩:=J8 b w v;rw[w,v,Ja u x y]at l;exact .inr ⟨q,i,s,w,v,y,x,Rr n,.inr ⟨Rx n E,.inr ⟨A,by rw[l],c A⟩⟩⟩
theorem zlf (p:α->Bool) {x:α} (h:y[k]? =Xa x):(y.take (k+1)).countP p=(y.take k).countP p+(if p x=Xc then 1 else 0):=by rw[jB h,List.countP_append];grind
theorem zL.cA (c:o.op= .alloc 68) (h:M (Xj (Xa ⟨w.heap.size,0,Xb⟩)) (w.alloc (Xk (zB (tab fun _=>on0)).toArray 68))):zL prog o a w M:=by
 have b:=zbt w;generalize zB (tab fun _=>on0)=Z at b h;unfold zL;have:(execOp a.eval o).run prog w= .ok (.value (Xj (Xa ⟨w.heap.size,0,Xb⟩))) (w.alloc (Xk Z.toArray 68)):=by
  simp[execOp,c,go_sem,b]
 rw[this];exact h
theorem zL.oneArea (x) (b:o.op= .buildSlice 58 1 #[(0,x)]) (q) (c:a.eval x=arA q) (h:M (O (Xa ⟨w.heap.size,0,Xb⟩) 1 1) (w.alloc (Xk (arv q).toArray 77))):zL prog o a w M:=by
 unfold zL;have:(execOp a.eval o).run prog w= .ok (.value (O (Xa ⟨w.heap.size,0,Xb⟩) 1 1)) (w.alloc (Xk (arv q).toArray 77)):=by
  simp only[execOp,b,Xz,mP,Xw,c];simp[go_sem,arA,arv]
 rw[this];exact h
theorem zL.val {v:Xq} (b:(execOp a.eval o).run prog w= .ok (.value v) w) (h:M v w):zL prog o a w M:=by unfold zL;rw[b];exact h
theorem zlY (x) (d:o.op= .load 77 x) (b:Nat) (e:a.eval x= Xj (Xa ⟨b,0,Xb⟩)) (c:Box w b (arv C)):(execOp a.eval o).run prog w= .ok (.value (arA C)) w:=by have:=run_loadAt_mid (P:=prog) w b 0 77 (arv C) _ c.range underlying77 rfl zrF;simp only[execOp,d,e,Xu,this,rA,Xt];rfl
def zhk:List Oper:=[
 { dst := some 23, op := .move (.tmp 0), type := 58, pos := "ref.go:325", after := #[], guard := none },
 { dst := some 24, op := .call { callee := .value (.func 16), args := #[.tmp 23], argTypes := #[58] }, type := 68, pos := "ref.go:325", after := #[{ on := 0, ground := .data }], guard := none },
 { dst := some 25, op := .load 77 (.tmp 3), type := 77, pos := "ref.go:325", after := #[], guard := none },
 { dst := some 26, op := .buildSlice 58 1 #[(0, .tmp 25)], type := 58, pos := "ref.go:325", after := #[{ on := 2, ground := .data }], guard := none },
 { dst := some 27, op := .call { callee := .value (.func 16), args := #[.tmp 26], argTypes := #[58] }, type := 68, pos := "ref.go:325", after := #[{ on := 3, ground := .data }, { on := 1, ground := .chain }], guard := none },
 { dst := some 8, op := .alloc 68, type := 0, pos := "ref.go:325", after := #[], guard := none },
 { dst := some 9, op := .alloc 68, type := 0, pos := "ref.go:325", after := #[], guard := none },
 { dst := none, op := .store 68 (.tmp 8) (.tmp 24), type := 0, pos := "ref.go:325", after := #[{ on := 5, ground := .data }, { on := 1, ground := .data }, { on := 4, ground := .chain }, { on := 0, ground := .phase }, { on := 1, ground := .phase }, { on := 2, ground := .textOnly .lateStores }, { on := 3, ground := .textOnly .lateStores }, { on := 4, ground := .textOnly .lateStoresUnsure }, { on := 5, ground := .phase }, { on := 6, ground := .phase }], guard := none },
 { dst := none, op := .store 68 (.tmp 9) (.tmp 27), type := 0, pos := "ref.go:325", after := #[{ on := 6, ground := .data }, { on := 4, ground := .data }, { on := 7, ground := .chain }, { on := 0, ground := .phase }, { on := 1, ground := .phase }, { on := 2, ground := .phase }, { on := 3, ground := .phase }, { on := 4, ground := .phase }, { on := 5, ground := .phase }, { on := 6, ground := .phase }, { on := 7, ground := .phase }], guard := none }]
theorem zog:∀c a d b e f g:Bool,(Yo .any zhk.toArray #[c,a,d,b,e,f,g,Xd,Xd]).isEmpty=Xd\/(e=Xc/\(a=Xd\/b=Xd))\/(a=Xc/\c=Xd)\/(b=Xc/\d=Xd):=by decide+kernel
theorem zmk:∀c a d b e f g:Bool,(!((!a || c) &&(!b || d) &&(!e || (a && b))) || (Yo .any zhk.toArray #[c,a,d,b,e,f,g,Xd,Xd]).all fun i=>(i == 0 && !c) || (i == 1 && !a && c) || (i == 2 && !d) || (i == 3 && !b && d) || (i == 4 && !e && a && b) || (i == 5 && !f) || (i == 6 && !g) || (i == 7 && c && a && d && b && e && f && g))=Xc:=by decide+kernel
theorem zoh (l0 l1 l2 l3 l4 l5 l6:Bool) (i:Nat) (a:l1=Xc->l0=Xc) (b:l3=Xc->l2=Xc) (c:l4=Xc->l1=Xc/\l3=Xc) (hi:i∈Yo .any zhk.toArray #[l0,l1,l2,l3,l4,l5,l6,Xd,Xd]):(i=0/\l0=Xd)\/(i=1/\l1=Xd/\l0=Xc)\/(i=2/\l2=Xd)\/(i=3/\l3=Xd/\l2=Xc)\/(i=4/\l4=Xd/\l1=Xc/\l3=Xc)\/(i=5/\l5=Xd)\/(i=6/\l6=Xd)\/(i=7/\l0=Xc/\l1=Xc/\l2=Xc/\l3=Xc/\l4=Xc/\l5=Xc/\l6=Xc):=by
 have d:((!l1 || l0) &&(!l3 || l2) &&(!l4 || (l1 && l3)))=Xc:=by
  cases l0 <;> cases l1 <;> cases l2 <;> cases l3 <;> cases l4 <;> simp at a b c⊢
 have a:=zmk l0 l1 l2 l3 l4 l5 l6;rw[d,Bool.not_true,Bool.false_or]at a;have h:=Yj.1 a i hi;simpa [and_assoc,or_assoc]using h
structure zj9 (W0:Xn) (v:Xq) (q:Ar) (O1 O2 Z0:List Xq) (l0 l1 l2 l3 l4 l5 l6:Bool) (t23 t24 t25 t26 t27 t8 t9:Xq) (W:Xn):Prop where
 g:zc W0 W
 h0:l0=Xc->t23=v
 h1:l1=Xc->t24= Xi O1.toArray
 h2:l2=Xc->t25=arA q
 h3:l3=Xc->zp arE W t26 [q]
 h4:l4=Xc->t27= Xi O2.toArray
 h5:l5=Xc->∃b,t8= Xj (Xa ⟨b,0,Xb⟩)/\Box W b Z0/\W0.heap.size<=b
 h6:l6=Xc->∃b,t9= Xj (Xa ⟨b,0,Xb⟩)/\Box W b Z0/\W0.heap.size<=b
 ne:l5=Xc->l6=Xc->t8≠t9
 c1:l1=Xc->l0=Xc
 c3:l3=Xc->l2=Xc
 c4:l4=Xc->l1=Xc/\l3=Xc
section
variable{W0:Xn} {v:Xq} {q:Ar} {O1 O2 Z0:List Xq} {l0 l1 l2 l3 l4 l5 l6:Bool} {t23 t24 t25 t26 t27 t8 t9:Xq} {W W':Xn}
theorem zj9.aA (h:zj9 W0 v q O1 O2 Z0 l0 l1 l2 l3 l4 l5 l6 t23 t24 t25 t26 t27 t8 t9 W) (k:zc W W'):zj9 W0 v q O1 O2 Z0 l0 l1 l2 l3 l4 l5 l6 t23 t24 t25 t26 t27 t8 t9 W':=
 ⟨h.g.trans k,h.h0,h.h1,h.h2,fun e=>(h.h3 e).aA k,h.h4,fun e=>by obtain⟨b,x,y,z⟩:=h.h5 e;exact⟨b,x,y.aA k,z⟩,fun e=>by obtain⟨b,x,y,z⟩:=h.h6 e;exact⟨b,x,y.aA k,z⟩,h.ne,h.c1,h.c3,h.c4⟩
def Q2 (l0 l1 l2 l3 l4 l5 l6:Bool):Nat:=(!l0).toNat+(!l1).toNat+(!l2).toNat+(!l3).toNat+(!l4).toNat+(!l5).toNat+(!l6).toNat
theorem zkD {pa:Nat} (A:Xq->Xq->Xq->Xq->Xq->Xq->Xq->Act)
  (am:∀c d e b f i j,(A c d e b f i j).eval (.tmp 0)=v) (an:∀c d e b f i j,(A c d e b f i j).eval (.tmp 3)= Xj (Xa ⟨pa,0,Xb⟩))
  (I:∀c d e b f i j,(A c d e b f i j).eval (.tmp 23)=c) (a0:∀c d e b f i j,(A c d e b f i j).eval (.tmp 24)=d) (a1:∀c d e b f i j,(A c d e b f i j).eval (.tmp 25)=e) (a2:∀c d e b f i j,(A c d e b f i j).eval (.tmp 26)=b) (a3:∀c d e b f i j,(A c d e b f i j).eval (.tmp 27)=f) (ao:∀c d e b f i j,(A c d e b f i j).eval (.tmp 8)=i) (ap:∀c d e b f i j,(A c d e b f i j).eval (.tmp 9)=j)
  (ae:∀c d e b f i j y,(A c d e b f i j).put (Xa 23) y=A y d e b f i j) (af:∀c d e b f i j y,(A c d e b f i j).put (Xa 24) y=A c y e b f i j) (ag:∀c d e b f i j y,(A c d e b f i j).put (Xa 25) y=A c d y b f i j) (ah:∀c d e b f i j y,(A c d e b f i j).put (Xa 26) y=A c d e y f i j) (ai:∀c d e b f i j y,(A c d e b f i j).put (Xa 27) y=A c d e b y i j) (ba:∀c d e b f i j y,(A c d e b f i j).put (Xa 8) y=A c d e b f y j) (bb:∀c d e b f i j y,(A c d e b f i j).put (Xa 9) y=A c d e b f i y)
  (aj:∀c d e b f i j y,(A c d e b f i j).put Xb y=A c d e b f i j)
  (b5:zp arE W0 v l) (b2:zqq l) (ay:q4 q) (az:Box W0 pa (arv q))
  (aw:∀W B C b,B≠C->zc W0 W->Box W B (zB (tab (zo l)))->Box W C (zB (tab (zo [q])))->W0.heap.size<=B->W0.heap.size<=C->Q .normal (A v (Xi (zB (tab (zo l))).toArray) (arA q) b (Xi (zB (tab (zo [q]))).toArray) (Xj (Xa ⟨B,0,Xb⟩)) (Xj (Xa ⟨C,0,Xb⟩))) W)
  (c d e b f i j:Xq):(Code.region id zhk.toArray Xc).wp prog Q (A c d e b f i j) W0:=by
 have a6:(zB (tab (zo l))).length=384:=jU _;have a7:(zB (tab (zo [q]))).length=384:=jU _;have X:(zB (tab fun _=>on0)).length=384:=jU _;have aa:∀W,zc W0 W->Xp prog 16 #[v] W fun x m=>x= Xl (Xi (zB (tab (zo l))).toArray)/\zc W m:=fun W ax=>ZJ v l W (b5.aA ax) b2;have ab:∀W Y,zp arE W Y [q]->Xp prog 16 #[Y] W fun x m=>x= Xl (Xi (zB (tab (zo [q]))).toArray)/\zc W m:=fun W Y b4=>ZJ Y [q] W b4 (zom ay);have ac:=Jp (tab (zo l));have ad:=Jp (tab (zo [q]));have M:∀W:Xn,Box (W.alloc (Xk (zB (tab fun _=>on0)).toArray 68)) W.heap.size (zB (tab fun _=>on0)):=fun W=>Box.aE _ _ _ rfl;generalize zB (tab (zo l))=H at*;generalize zB (tab (zo [q]))=V at*;have T:∀(U:Nat) (s t u w n p r:Bool) (c d e b f i j:Xq) (W:Xn),Q2 s t u w n p r=U->zj9 W0 v q H V (zB (tab fun _=>on0)) s t u w n p r c d e b f i j W->wpAnyH prog .any zhk.toArray Q (fun _=>True) (U+2) #[s,t,u,w,n,p,r,Xd,Xd] (A c d e b f i j) W:=by
  intro U;induction U with
  | zero=>
   intro s t u w n p r c d e b f i j W h g;obtain⟨rfl,rfl,rfl,rfl,rfl,rfl,rfl⟩:s=Xc/\t=Xc/\u=Xc/\w=Xc/\n=Xc/\p=Xc/\r=Xc:=by
    revert h;unfold Q2;cases s <;> cases t <;> cases u <;> cases w <;> cases n <;> cases p <;> cases r <;> simp
   obtain⟨B,rfl,a8,P⟩:=g.h5 rfl;obtain⟨C,rfl,a9,R⟩:=g.h6 rfl;have F:B≠C:=fun x=>g.ne rfl rfl (by rw[x]);obtain rfl:=g.h0 rfl;obtain rfl:=g.h1 rfl;obtain rfl:=g.h2 rfl;obtain rfl:=g.h4 rfl;refine wpAnyH_all (rs:=[7]) Kr Sm ?_;intro b7 N;rw[Yb]at N;subst N;refine Zy Xb (fun _ m=>Box m B H/\Box m C (zB (tab fun _=>on0))/\zc W0 m) rfl rfl rfl (zL.storeAll 68 (.tmp 8) (.tmp 24) rfl B (ao ..) H (a0 ..) a8 (by rw[a6,X]) (Rx X zrI) ac (fun m Z K bc=>⟨Z,a9.grown K (fun x=>F x.symm),zd g.g K P⟩)) ?_;rintro y bd ⟨ar,L,au⟩;rw[aj];refine⟨trivial,?_⟩;refine wpAnyH_all (rs:=[8]) Kr Sm ?_;intro b7 N;rw[Yb]at N;subst N;refine Zy Xb (fun _ m=>Box m B H/\Box m C V/\zc W0 m) rfl rfl rfl (zL.storeAll 68 (.tmp 9) (.tmp 27) rfl C (ap ..) V (a3 ..) L (by rw[a7,X]) (Rx X zrI) ad (fun m Z K bc=>⟨ar.grown K F,Z,zd au K R⟩)) ?_;rintro y ak ⟨av,a4,a5⟩;rw[aj];refine⟨trivial,?_⟩;exact wpAnyH_done Kr (aw ak B C _ F a5 av a4 P R) _
  | succ U G=>
   intro s t u w n p r c d e b f i j W h g;refine⟨fun aq=>?_,fun b6 b1=>?_⟩
   ·rcases zog s t u w n p r with k|⟨k,z⟩|⟨k,z⟩|⟨k,z⟩
    ·rw[aq]at k;cases k
    ·have:=g.c4 k
     rcases z with z | z;·rw[this.1]at z;cases z
     rw[this.2]at z;cases z
    ·rw[g.c1 k]at z;cases z
    rw[g.c3 k]at z;cases z
   rcases zoh s t u w n p r b6 g.c1 g.c3 g.c4 b1 with⟨rfl,rfl⟩|⟨rfl,rfl,rfl⟩|⟨rfl,rfl⟩|⟨rfl,rfl,rfl⟩|⟨rfl,rfl,rfl,rfl⟩|⟨rfl,rfl⟩|⟨rfl,rfl⟩|⟨rfl,rfl,rfl,rfl,rfl,rfl,rfl,rfl⟩
   ·refine Zy (Xa 23) (fun y m=>y=v/\m=W) rfl rfl rfl (zL.val (v:=v) (by rw[<-am c d e b f i j];rfl) ⟨rfl,rfl⟩) ?_
    rintro y m ⟨rfl,rfl⟩;rw[ae];refine⟨trivial,G Xc t u w n p r _ _ _ _ _ _ _ _ (by unfold Q2 at h⊢;simp at h⊢;omega) ⟨g.g,fun _=>rfl,g.h1,g.h2,g.h3,g.h4,g.h5,g.h6,g.ne,fun _=>rfl,g.c3,g.c4⟩⟩
   ·refine Zy (Xa 24) (fun y m=>y= Xi H.toArray/\zc W m) rfl rfl rfl (zL.call [v] rfl func16 rfl rfl (by rw[mP,Xw,I,g.h0 rfl]) ((aa W g.g).mono (fun x m k=>⟨_,k.1,rfl,k.2⟩))) ?_
    rintro y m ⟨rfl,D⟩;rw[af];have a:=g.aA D;refine⟨trivial,G Xc Xc u w n p r _ _ _ _ _ _ _ _ (by unfold Q2 at h⊢;simp at h⊢;omega) ⟨a.g,a.h0,fun _=>rfl,a.h2,a.h3,a.h4,a.h5,a.h6,a.ne,fun _=>rfl,a.c3,fun k=>⟨rfl,(a.c4 k).2⟩⟩⟩
   ·refine Zy (Xa 25) (fun y m=>y=arA q/\m=W) rfl rfl rfl (zL.val (v:=arA q) (zlY (.tmp 3) rfl pa (an ..) (az.aA g.g)) ⟨rfl,rfl⟩) ?_
    rintro y m ⟨rfl,rfl⟩;rw[ag];refine⟨trivial,G s t Xc w n p r _ _ _ _ _ _ _ _ (by unfold Q2 at h⊢;simp at h⊢;omega) ⟨g.g,g.h0,g.h1,fun _=>rfl,g.h3,g.h4,g.h5,g.h6,g.ne,g.c1,fun _=>rfl,g.c4⟩⟩
   ·refine Zy (Xa 26) (fun y m=>zp arE m y [q]/\zc W m) rfl rfl rfl (zL.oneArea (.tmp 25) rfl q (by rw[a1,g.h2 rfl]) ⟨jZ arE W q _ _ rfl (by show 40<=_;omega),za _ _⟩) ?_
    rintro y m ⟨b3,D⟩;rw[ah];have a:=g.aA D;refine⟨trivial,G s t Xc Xc n p r _ _ _ _ _ _ _ _ (by unfold Q2 at h⊢;simp at h⊢;omega) ⟨a.g,a.h0,a.h1,a.h2,fun _=>b3,a.h4,a.h5,a.h6,a.ne,a.c1,fun _=>rfl,fun k=>⟨(a.c4 k).1,rfl⟩⟩⟩
   ·refine Zy (Xa 27) (fun y m=>y= Xi V.toArray/\zc W m) rfl rfl rfl (zL.call [b] rfl func16 rfl rfl (by rw[mP,Xw,a2]) ((ab W b (g.h3 rfl)).mono (fun x m k=>⟨_,k.1,rfl,k.2⟩))) ?_
    rintro y m ⟨rfl,D⟩;rw[ai];have a:=g.aA D;refine⟨trivial,G s Xc u Xc Xc p r _ _ _ _ _ _ _ _ (by unfold Q2 at h⊢;simp at h⊢;omega) ⟨a.g,a.h0,a.h1,a.h2,a.h3,fun _=>rfl,a.h5,a.h6,a.ne,a.c1,a.c3,fun _=>⟨rfl,rfl⟩⟩⟩
   ·refine Zy (Xa 8) (fun y m=>y= Xj (Xa ⟨W.heap.size,0,Xb⟩)/\Box m W.heap.size (zB (tab fun _=>on0))/\zc W m) rfl rfl rfl (zL.cA rfl ⟨rfl,M W,za _ _⟩) ?_
    rintro y m ⟨rfl,E,D⟩;rw[ba];have a:=g.aA D;refine⟨trivial,G s t u w n Xc r _ _ _ _ _ _ _ _ (by unfold Q2 at h⊢;simp at h⊢;omega) ⟨a.g,a.h0,a.h1,a.h2,a.h3,a.h4,fun _=>⟨_,rfl,E,bS g.g⟩,a.h6,fun _ a5=>?_,a.c1,a.c3,a.c4⟩⟩;obtain⟨al,rfl,L,_⟩:=g.h6 a5;intro x;cases x;exact absurd L.lt (Yn _)
   ·refine Zy (Xa 9) (fun y m=>y= Xj (Xa ⟨W.heap.size,0,Xb⟩)/\Box m W.heap.size (zB (tab fun _=>on0))/\zc W m) rfl rfl rfl (zL.cA rfl ⟨rfl,M W,za _ _⟩) ?_
    rintro y m ⟨rfl,E,D⟩;rw[bb];have a:=g.aA D;refine⟨trivial,G s t u w n p Xc _ _ _ _ _ _ _ _ (by unfold Q2 at h⊢;simp at h⊢;omega) ⟨a.g,a.h0,a.h1,a.h2,a.h3,a.h4,a.h5,fun _=>⟨_,rfl,E,bS g.g⟩,fun a4 _=>?_,a.c1,a.c3,a.c4⟩⟩;obtain⟨al,rfl,L,_⟩:=g.h5 a4;intro x;cases x;exact absurd L.lt (Yn _)
   unfold Q2 at h;simp at h
 refine wp_region_held (S:=fun _=>True) z2 ?_;have b0:zc W0 { W0 with drawn:=W0.drawn+1 }:=show Below _ _ _ from Below.drew (bR _ _);exact T 7 Xd Xd Xd Xd Xd Xd Xd c d e b f i j _ rfl ⟨b0,fun k=>(by cases k),fun k=>(by cases k),fun k=>(by cases k),fun k=>(by cases k),fun k=>(by cases k),fun k=>(by cases k),fun k=>(by cases k),fun k=>(by cases k),fun k=>(by cases k),fun k=>(by cases k),fun k=>(by cases k)⟩
end
def zrf (R:List Ar × Int) (w:Xn) (e:Ending) (w':Xn):Prop:=(∃u,e= Xl (Xm #[u,Xe Xf R.2])/\zb arE w.heap.size w' u R.1)/\zc w w'
def zfe (l:List Ar) (a:Ar) (k:Nat):Nat->On:=fun j=>if j<k/\ZP a j=Xc then z5 a j else zo l j
theorem zoS (l a):zfe l a 0=zo l:=by funext j;unfold zfe;rw[kF Wm]
theorem zqU (l a) (k:Nat):zfe l a k k=zo l k:=by unfold zfe;rw[kF Wm]
theorem zp5 (h:ZP C k=Xc):upd (zfe l C k) k (z5 C k)=zfe l C (k+1):=by grind [upd,zfe,ZP]
theorem zoT (h:ZP C k=Xd):zfe l C k=zfe l C (k+1):=by grind [zfe,ZP,Yp]
theorem zp6 (l a):tab (zfe l a 64)=tab (zh6 l a):=zpn fun k b=>by grind [zfe,zh6,ZP]
theorem zo7 (a) (k:Nat):zo [a] k=if ZP a k=Xc then z5 a k else on0:=rfl
theorem zl9 (a) (k:Nat):(zo [a] k).is=ZP a k:=by
 rw[zo7];cases h:ZP a k with
 | true=>rfl
 | false=>rfl
theorem zqL (c:k<64) (h:ZP C k=Xc) (b:(zo l k).is=Xc):znI l C.fr (C.tz - C.fr)=Xc:=zot.2 ⟨k,c,Hm (qK.1 h),b⟩
theorem zos (h:∀k,k<64->ZP C k=Xc->(zo l k).is=Xd):znI l C.fr (C.tz - C.fr)=Xd:=zpK.2 fun k b c=>h k b (qK.2 Wm)
def Frk (w0:Xn) (hi b:Nat) (w:Xn) (vl:Sli) (L:List Int) (m:Ma) (l:List Ar) (w':Xn):Prop:=∃V' m' vt' T',Mk w0 hi w' b vl L V' m' vt' T'/\zG hi w w'/\qo m' T'/\(m'.sp=m.sp++ [⟨Xc,l,qJ⟩]/\m'.fl=m.fl/\m'.aB=m.aB/\m'.fs.length=m.fs.length)
theorem zea (p x t) (r:o.op= .store t p x) (base:Nat) (v:Xq) (l:List α) (b:zb E base w v l)
  (g i j:Nat) (m:v.ownBlock=Xa g) (e y:α) (hi:l[i]? =Xa e) (cs:List Xq) (q:(Tryz.prog.info? t).map (·.size)=Xa cs.length) (z:E.enc y=splice (E.enc e) j cs) (n:j+cs.length<=E.k) (k:∀u∈cs,u.oneCell'=Xc)
  (ad:Addr) (hp:a.eval p= Xj (Xa ad)) (d:ad=⟨g,i*E.k+j,Xb⟩) (c:Xq) (s:a.eval x=c) (f:c.cells=cs.toArray)
  (h:∀w',zb E base w' v (l.set i y)->w.grownBy w' (Xa g)->w'.heap.size=w.heap.size->M undef w'):zL prog o a w M:=by grind [zaQ,zeb]
theorem Mk.entry (h:Mk w0 hi w b vl L V m vt T) (hp:zr w k 55 D) (f:hi<=k) (a:w.grownBy w' (Xa k)):Mk w0 hi w' b vl L V m vt T:=by
 have d:b≠k:=fun e=>by
  subst e;have k:w.heap[b]? =_:=h.box;rw[show w.heap[b]? =_ from hp]at k;cases k
 have r:=h.rows;obtain⟨k,g,i,j,c,l,n,p,q⟩:=r.kept a hp;exact⟨zd h.gr a (nT r.bh f),h.hb,h.box.beside a (fun f e=>by cases e;exact d),h.lr,h.lc,h.lb,⟨nT r.hw a.size,r.bh,k Dc,g (.inl Dc),r.aZ,i (.inl Dc),r.bF,r.sq,j (.inl Dc),r.bC,c Dc,l Dc (.inl Dc),n Dc,p Dc Dc,q Dc,r.ap⟩⟩
theorem zoE (s0:Sp) (fp:Mk w0 hi w b vl L V m vt T) (d6:qo m T) (c5:m.sp=[s0]):
  Xp prog 26 #[Xj (Xa ⟨b,0,Xb⟩)] w fun e w'=>(∃v,e= Xl v)/\Frk w0 hi b w vl L m s0.aC w':=by
 have aq:Xo (Mk w0 hi w b vl L V m vt T):=fp;have h9:Xo (qo m T):=d6;have f7:Xo (m.sp=[s0]):=c5;obtain⟨K,rfl⟩:∃K,T=[K]:=Yc.1 (by rw[d6.tl,c5];rfl);obtain⟨j0,g3,g5,g8⟩:=fp.rows.sp;obtain⟨q,rfl⟩:∃q,j0=[q]:=Yc.1 (by rw[g5,c5];rfl);obtain⟨c3,dw,bt⟩:=g3.aG Sm;have bt:V.sp.x=(O (Xa ⟨c3,0,Xb⟩) 1 dw):=bt;have b5:Xo (V.sp.x=(O (Xa ⟨c3,0,Xb⟩) 1 dw)):=bt;have dt:Xo (zb ZZ w0.heap.size w (V.sp.x) [q]):=g3;have i4:Xo ([q].length=m.sp.length):=g5;have i5:Xo (∀(i:Nat) x d9,[q][i]? =Xa x->m.sp[i]? =Xa d9->x.aF=d9.aF/\zb arE w0.heap.size w x.ar.v d9.aC/\x.tab=Jv/\d9.tb=qJ):=show∀i,_ from g8;have g9:Xo (zb arE w0.heap.size w q.ar.v s0.aC):=(g8 0 q s0 rfl (Rr c5)).2.1;have dm:Xo ((wrL s0.aC).1=0):=(d6.aP s0 (by rw[c5];simp)).1;have dg:Xo (∀du,zb arE w0.heap.size du q.ar.v s0.aC->Xp prog 16 #[q.ar.x] du fun e w'=>e= Xl (Xi (zB (tab (zo s0.aC))).toArray)/\zc du w'):=dD<|fun du ij=>ZJ q.ar.v s0.aC du ij.at (jT.1 dm).2.lies;have gn:=zbt;obtain⟨gi,dn⟩:=kA (zB (tab fun _=>on0));rw[dn.out]at gn;have dp:Xo (gi.length=384):=dD<|by rw[<-dn.out,jU]
 have dh:Xo ((zB (tab (zo s0.aC))).length=384):=jU _;have di:Xo (∀v∈zB (tab (zo s0.aC)),v.oneCell'=Xc):=Jp _;have db:Xo (∀a,a<64->(zB (tab (zo s0.aC)))[a*6+3]? =Xa (Xh (zo s0.aC a).sh)):=show∀a,_ from fun a fw=>ZX (J9 fw) 3 _ rfl;generalize zB (tab (zo s0.aC))=al at dg dh di db;clear fp d6 c5 g3 g5 g8 bt;go_enter func26,ntmps26;try go_upto_region 0 with fail
 obtain⟨h,s⟩:=Ww fun f=>zr f b 81 [vl.x,V.f.x,I6 m.aB,V.s.x,V.sb.x,V.sq.x,V.db.x,V.dq.x,V.fl.x,I6 m.cnt,V.ca.x,V.sp.x,vt.x]/\zb ZZ w0.heap.size f (O (Xa ⟨c3,0,Xb⟩) 1 dw) [q];have l:h w.drew:=(s _).2 ⟨aq.box.aA (gW _),by rw[<-b5.out];exact dt.aA (gW _)⟩;have be:∀d:zg h,d.world.cell? ⟨b,11,Xb⟩=Xa (O (Xa ⟨c3,0,Xb⟩) 1 dw):=fun d=>by
  have:=((s _).1 d.holds).1.box.c 11 rfl;rw[b5.out]at this;exact this
 have cu:∀d:zg h,d.world.cell? ⟨c3,1,Xb⟩=Xa (q.ar.x):=fun d=>by
  have:=((s _).1 d.holds).2.one (i:=0) (x:=q) rfl 1 _ rfl;rw[zX,Ya]at this;exact this
 have ai:Nonempty (zg h):=⟨⟨_,l⟩⟩;refine zO (I:=h) 20 [(15,fun v=>∃F,v= O (Xa ⟨F,0,Xb⟩) 1 1),(16,fun v=>∃F ia,v= O (Xa ⟨F,0,Xb⟩) 2 ia)] (fun f=>zc w f) l (gW _) z2 Kr rfl rfl Dc (Sb ⟨_,0,rfl⟩ ⟨_,0,0,rfl⟩) Kr ?_;simp only[Xx,Xy];iterate 2 refine zi ?_
 refine zU (.tmp 6) ⟨b,0,Xb⟩ rfl rfl rfl rfl ?_;refine Uq ?_;iterate 4 refine zi ?_
 refine zU (.tmp 11) ⟨b,0,Xb⟩ rfl rfl rfl rfl ?_;refine Uq ?_;iterate 7 refine zi ?_
 refine zE rfl rfl (fun v f=>zc w f/\zp ZZ f v [⟨Xc,q.ar,zF,zF,zF,zF,zF,zF,zF,zF⟩]) (fun w' bb ba=>?_) (fun gq ey=>?_);·obtain⟨ez,cv⟩:=(s _).1 bb;refine zL.step (v:= O (Xa ⟨w'.heap.size,0,Xb⟩) 1 1) (w':=w'.alloc (Xk #[Xh Xc,q.ar.x,eS,eS,eS,eS,eS,eS,eS,eS] 63)) (by clear be cu;simp only[execOp];go_simp) ⟨(s _).2 ⟨ez.aA (za _ _),cv.aA (za _ _)⟩,⟨_,rfl⟩,ba.trans (za _ _),jZ ZZ w' ⟨Xc,q.ar,zF,zF,zF,zF,zF,zF,zF,zF⟩ _ _ rfl Dc⟩
 obtain⟨fn,rfl⟩:=ey;refine Uq ?_;refine zE rfl rfl (fun v f=>∃f2,zc w f2/\f2.grownBy f (Xa c3)/\zb ZZ w0.heap.size f v [q,⟨Xc,q.ar,zF,zF,zF,zF,zF,zF,zF,zF⟩]) (fun w' bb ba=>?_) (fun gq ey=>?_)
 ·obtain⟨ez,cv⟩:=(s _).1 bb;obtain⟨eg,fz⟩:=ba;obtain⟨j3,gu,ef,gm,e9,fw⟩:=qT (E:=ZZ) (w:=w') 39 cv (O (Xa ⟨fn,0,Xb⟩) 1 1) [⟨Xc,q.ar,zF,zF,zF,zF,zF,zF,zF,zF⟩] fz (by show(1+1)*224<=_;omega) (nT (bS aq.gr) (bS eg));obtain⟨ie,ib,rfl⟩:=gm.aG Sm;refine zL.step (v:= O (Xa ⟨ie,0,Xb⟩) 2 ib) (w':=gu) ?_ ⟨(s _).2 ⟨zr.row cv e9 ez Dc,fw _ [q] (nR _) cv⟩,⟨_,_,rfl⟩,w',eg,e9,gm⟩;clear be cu;simp only[execOp,resolve,invoke,builtin,pure_bind,Xu,Xt,Xz,mP,Xw];exact Eq.trans (congrArg (fun r=>Result.andThen r (fun d3 w'=>Result.ok (Next.value d3) w')) ef) rfl
 obtain⟨b8,bk,rfl⟩:=ey;refine Uq ?_;refine zU (.tmp 5) ⟨b,0,Xb⟩ rfl rfl rfl rfl ?_;refine Uq ?_;iterate 2 refine zi ?_
 refine qv fun aa e6 ft=>?_;obtain⟨f2,b9,ci,cx⟩:=ft;have c8:Xo (zr aa b 81 [vl.x,V.f.x,I6 m.aB,V.s.x,V.sb.x,V.sq.x,V.db.x,V.dq.x,V.fl.x,I6 m.cnt,V.ca.x,V.sp.x,vt.x]):=((s _).1 e6).1;have an:f2.grownBy aa (V.sp.x).ownBlock:=Rx b5.out ci
 have i0:Xo (MkR w0.heap.size hi aa { V with sp:=⟨Xa ⟨b8,0,Xb⟩,2,bk⟩ } { m with sp:=m.sp++ [⟨Xc,s0.aC,qJ⟩] } vt [K]):=(aq.rows.aA b9).addSp (dt.aA b9) i4 (fun i x d9 cq c5=>by
  obtain⟨i7,i8,i9⟩:=i5.out i x d9 cq c5;exact⟨i7,i8.aA b9,i9⟩) an ⟨Xa ⟨b8,0,Xb⟩,2,bk⟩ q.ar (g9.aA b9) cx
 have h0:Xo (zc w0 aa):=zc.row (dt.aA b9) an (aq.gr.trans b9);have fc:Xo (zG hi w aa):=(zG.aA b9).trans (zG.row (dt.aA b9) an (fun iv co=>co.2.2.2.2.2.2.1 rfl));have gv:Xo (zb arE w0.heap.size aa q.ar.v s0.aC):=dD<|by
  obtain⟨j2,ik⟩:=(dt.aA b9).obj (g:=c3) (Rr b5.out);exact(g9.aA b9).kind ci ik Dc
 have hn:Xo (zb ZZ w0.heap.size aa (O (Xa ⟨b8,0,Xb⟩) 2 bk) [q,⟨Xc,q.ar,zF,zF,zF,zF,zF,zF,zF,zF⟩]):=cx;clear b9 ci an cx e6 l be cu ai;have bz:=c8.box.c 11 rfl;rw[b5.out]at bz;have c0:=c8.box.f;go_upto_region 1 with fail;clear bz c0;obtain⟨c1,bq⟩:=kB (aa.setCell ⟨b,11,Xb⟩ (O (Xa ⟨b8,0,Xb⟩) 2 bk));have ag:aa.grownBy c1 (Xa b):=by rw[<-bq];exact jC _ _ _ _
 have gc:Xo (Mk w0 hi c1 b vl L { V with sp:=⟨Xa ⟨b8,0,Xb⟩,2,bk⟩ } { m with sp:=m.sp++ [⟨Xc,s0.aC,qJ⟩] } vt [K]):=dD<|⟨zd h0 ag aq.hb,aq.hb,by rw[<-bq];exact c8.set 11 _,aq.lr,aq.lc,aq.lb,i0.var ag c8 ag.size (.inl rfl)⟩;have ha:Xo (zG hi w c1):=fc.trans (zG.kind ag c8 (fun _ co=>absurd rfl co.1));have gx:Xo (zb arE w0.heap.size c1 q.ar.v s0.aC):=gv.kind ag c8 Dc;have hp:Xo (zb ZZ w0.heap.size c1 (O (Xa ⟨b8,0,Xb⟩) 2 bk) [q,⟨Xc,q.ar,zF,zF,zF,zF,zF,zF,zF,zF⟩]):=hn.kind ag c8 Dc;rw[bq];clear bq ag;have b3:Xo (w0.heap.size<=b/\zp byE w0 (vl.x) L/\vl.n<=vl.c/\∀ax∈L,0<=ax/\ax<256):=dD<|⟨aq.hb,aq.lr,aq.lc,aq.lb⟩;have bz:c1.cell? ⟨b,11,Xb⟩=Xa (O (Xa ⟨b8,0,Xb⟩) 2 bk):=gc.box.box.c 11 rfl;have iz:c1.cell? ⟨b8,1,Xb⟩=Xa (q.ar.x):=by
  have:=hp.one (i:=0) (x:=q) rfl 1 _ rfl;rw[zX,Ya]at this;exact this
 have ed:=dg.out c1 gx.out;go_wp2_with fail;refine ed.mono ?_;clear ed bz iz;rintro e es ⟨rfl,fo⟩;obtain⟨aj,dj⟩:=kA es.heap.size;have hh:=dD (gc.aA fo);have hb:=dD (ha.trans (zG.aA fo));clear fo;go_upto_region 2 with(refine z4 rfl 68 (.tmp 2) (.tmp 33) rfl es.heap.size rfl al rfl (zr.aE es gi 68 rfl) (by rw[dh.out,dp.out]) (Rx dp.out zrI) di.out ?_)
 intro dv fl gk iw;have ch:zc es dv:=zd (za _ _) gk (nR _);have ep:=dD (hh.aA ch);have hd:=dD (hb.trans (zG.aA ch));rw[dj.out]at fl⊢;have hu:Xo (zr dv aj 68 al):=fl;clear fl gk iw ch gn;try simp only[Yt]
 have bh:=ep.box.box.c 12 rfl;have dk:Xo (w0.heap.size<=dv.heap.size):=dD<|bS ep.gr;go_wp2_with (at_builtin;refine zy (E:=zcO) rfl (.tmp 38) (.tmp 40) rfl w0.heap.size _ [K] rfl (ep.rows.tt.aA (za _ _)) _ [fun _=>en0] rfl (jZ zcO dv (fun _=>en0) _ _ rfl Dc) ?qb ?qc ?_)
 case qb=>
  show(1+1)*1536<=_;omega
 case qc=>exact nT dk (bS (za _ _))
 intro j4 a4 cy dy;obtain⟨Y,ar,rfl⟩:=cy.aG Sm;have c6:zb zcO w0.heap.size a4 (O (Xa ⟨Y,0,Xb⟩) 2 ar) ([K]++ [fun _=>en0]):=cy;obtain⟨i6,cl⟩:=kB (dv.alloc (Xk (zcO.enc (fun _=>en0)).toArray 56));have ev:=gP cl;have M:i6.grownBy a4 (vt.x).ownBlock:=Ry cl dy;clear dy cl cy;have a7:=ep.aA ev;have d0:Xo (zr a4 b 81 [vl.x,V.f.x,I6 m.aB,V.s.x,V.sb.x,V.sq.x,V.db.x,V.dq.x,V.fl.x,I6 m.cnt,V.ca.x,O (Xa ⟨b8,0,Xb⟩) 2 bk,vt.x]):=zr.row a7.rows.tt M a7.box Dc;have fj:Xo (MkR w0.heap.size hi a4 { V with sp:=⟨Xa ⟨b8,0,Xb⟩,2,bk⟩ } { m with sp:=m.sp++ [⟨Xc,s0.aC,qJ⟩] } ⟨Xa ⟨Y,0,Xb⟩,2,ar⟩ ([K]++ [fun _=>en0])):=a7.rows.addT M ⟨Xa ⟨Y,0,Xb⟩,2,ar⟩ c6;have h8:Xo (zc w0 a4):=zc.row a7.rows.tt M a7.gr;have fd:Xo (zG hi w a4):=(hd.trans (zG.aA ev)).trans (zG.row a7.rows.tt M (fun iv co=>co.2.2.2.2.2.2.2.1 rfl));have eq:Xo (zr a4 aj 68 al):=zr.row a7.rows.tt M (hu.aA ev) Dc;clear M c6 ev bh;have bh:=d0.box.c 12 rfl;have c0:=d0.box.f;go_upto_region 3 with fail;clear bh c0;obtain⟨bj,br⟩:=kB (a4.setCell ⟨b,12,Xb⟩ (O (Xa ⟨Y,0,Xb⟩) 2 ar));have av:a4.grownBy bj (Xa b):=by rw[<-br];exact jC _ _ _ _
 obtain⟨j,dl⟩:∃j:Sli,Xo (j=⟨Xa ⟨Y,0,Xb⟩,2,ar⟩):=⟨_,rfl⟩;obtain⟨U,f9⟩:∃U:MaV,Xo (U={ V with sp:=⟨Xa ⟨b8,0,Xb⟩,2,bk⟩ }):=⟨_,rfl⟩;obtain⟨bw,cb⟩:∃bw:Ma,Xo (bw={ m with sp:=m.sp++ [⟨Xc,s0.aC,qJ⟩] }):=⟨_,rfl⟩;have dq:Xo (Mk w0 hi bj b vl L U bw j [K,fun _=>en0]):=dD<|by
  rw[dl.out,f9.out,cb.out];exact⟨zd h8 av b3.1,b3.1,by rw[<-br];exact d0.set 12 _,b3.2.1,b3.2.2.1,b3.2.2.2,fj.var av d0 av.size (.inl rfl)⟩
 have fe:Xo (zG hi w bj):=fd.trans (zG.kind av d0 (fun _ co=>absurd rfl co.1))
 have P9:Xo (zr bj aj 68 al):=eq.beside av (fun F e=>by
  cases e;intro e;have R:a4.heap[aj]? =_:=eq.out;rw[e,show a4.heap[b]? =_ from d0.out]at R
  cases R)
 have f5:Xo (qo bw [K,fun _=>en0]):=dD<|by
  rw[cb.out];exact h9.space dm (by rw[f7.out];simp)
 have f8:Xo (bw.sp=[s0,⟨Xc,s0.aC,qJ⟩]/\bw.fl=m.fl/\bw.aB=m.aB/\bw.fs.length=m.fs.length):=dD<|by
  rw[cb.out];exact⟨by show m.sp++_=_;rw[f7.out];rfl,rfl,rfl,rfl⟩
 have t:Xo (j.x= O (Xa ⟨Y,0,Xb⟩) 2 ar):=dD<|by rw[dl.out]
 rw[br];clear br av;have bh:bj.cell? ⟨b,12,Xb⟩=Xa (O (Xa ⟨Y,0,Xb⟩) 2 ar):=by rw[<-t.out];exact dq.box.box.c 12 rfl
 have ee:bj.rangeAt Y 0 (qk (tab K)):=fun aw v gl=>by
  have cp:=dq.rows.tt;(first|rw[t.out]at cp|rw[show O _ _ _=_ from t.out]at cp);have:=cp.one (i:=0) (x:=K) rfl aw v gl;rw[zX,Ya]at this;simpa using this
 go_wp2_with (refine wpList_load_mid rfl 56 (.tmp 48) rfl Y 0 rfl (qk (tab K)) _ ee underlying56 rfl (by rw[Qm,Q0];exact zrM) ?_)
 clear ee bh;have df:Xo (∀{eh:Array Oper} {c7:List Oper} {o:Oper} {d3:Act} {w:Xn} {gh:Exit->Act->Xn->Prop} (_:o.guard=Xb) (x f1:Operand) (_:o.op= .index 56 x f1) (_:d3.eval x= Xi (qk (tab K)).toArray) (i:Nat) (_:d3.eval f1=I6 (i:Int)) (_:i<64) {e:En} (_:K i=e)
  (_:wpList prog eh gh c7 (d3.put o.dst (Xi #[I6 e.kind,I6 e.n,Xh e.wr])) w),wpList prog eh gh (o :: c7) d3 w):=fun R x f1 az ad i ex e4 _ d4 d5=>zdj R x f1 az (tab K) ad i ex e4 (by rw[J9 e4,d4]) d5
 generalize qk (tab K)=j1 at df⊢;go_wp2;go_loopg [50] 64 (fun ig bg wr=>∃(c:Nat) (n:Ma) (z:List (Nat->En)) (W ab:Nat->En),c<=64/\64 - c<=ig/\bg=I6 c/\Xo (Mk w0 hi wr b vl L U n j z)/\Xo (zG hi w wr)/\Xo (qo n z)/\Xo (n.sp=[s0,⟨Xc,s0.aC,qJ⟩]/\n.fl=m.fl/\n.aB=m.aB/\n.fs.length=m.fs.length)/\Xo (z[0]? =Xa W/\z[1]? =Xa ab/\(∀aw,c<=aw->W aw=K aw/\ab aw=en0))/\Xo (zr wr aj 68 al))
 exact⟨0,bw,_,K,fun _=>en0,nZ _,Wm,rfl,dq,fe,f5,f8,(show _/\_ from⟨rfl,rfl,fun _ _=>⟨rfl,rfl⟩⟩),P9⟩;obtain⟨c,n,z,W,ab,io,im,rfl,fg,ff,c9,G,am,hy⟩:=hrel;by_cases ah:c<64
 ·have ec:(c:Int)<64:=Wm
  obtain⟨b6,c2,ay,dc⟩:∃b6 c2 ay,Xo (K c=⟨b6,c2,ay⟩):=⟨_,_,_,rfl⟩;have X:Xo (W c=⟨b6,c2,ay⟩):=dD (by rw[(am.2.2 c (nR _)).1];exact dc.out);have ca:Xo (ab c=en0):=(am.2.2 c (nR _)).2;have f6:Xo (∀a5,(((z.set 0 (qZ W c a5)).set 1 (qZ ab c a5))[0]? =Xa (qZ W c a5)/\((z.set 0 (qZ W c a5)).set 1 (qZ ab c a5))[1]? =Xa (qZ ab c a5)/\(∀aw,c+1<=aw->qZ W c a5 aw=K aw/\qZ ab c a5 aw=en0))):=show∀a5,_ from fun a5=>by
   have ii:=(gS.1 am.1).1;have d6:=(gS.1 am.2.1).1;refine⟨?_,?_,fun aw gl=>?_⟩
   ·rw[sN Dc]
    exact sF ii
   ·exact sF (Si d6)
   unfold qZ;rw[kF Wm,kF Wm];exact am.2.2 aw Wm
  have ao:=c9.entry0 (s0:=s0) (Rr G.1) am.1 ah;rw[X.out]at ao;obtain⟨ap,b1⟩:∃ap:Ma->En->Prop,Xo (∀p B,ap p B↔(qo p ((z.set 0 (qZ W c B)).set 1 (qZ ab c B))/\p.sp=[s0,⟨Xc,s0.aC,qJ⟩]/\p.fl=m.fl/\p.aB=m.aB/\p.fs.length=m.fs.length)):=⟨fun p B=>_,fun _ _=>Iff.rfl⟩;obtain⟨a8,b2⟩:∃a8:Ma->En->Prop,Xo (∀p B,a8 p B↔((B=⟨b6,c2,ay⟩/\p=n/\b6=2)\/(B.kind≠2/\ap p B))):=⟨fun p B=>_,fun _ _=>Iff.rfl⟩;go_upto_region 6 with(refine df rfl (.tmp 49) (.tmp 50) rfl rfl c rfl ah dc.out ?_)
  obtain⟨a0,cc⟩:=kA wr.heap.size;obtain⟨er,bo⟩:=kB (wr.alloc (Xk #[I6 b6,I6 c2,Xh ay] 55));have eu:=gP bo;have da:=xPT bo cc;have d1:=dD (fg.aA eu);have fa:=dD (ff.trans (zG.aA eu));have fh:=dD (hy.aA eu);have dd:Xo (hi<=a0/\w.heap.size<=a0):=show _/\_ by rw[<-cc.out];exact⟨fg.rows.hw,ff.2⟩
  rw[bo,cc.out];clear bo eu;have et:=da.box.c 0 rfl;go_upto_if 56 with fail
  go_cut [50] (fun bg bx=>bg=I6 c/\∃(p:Ma) (B:En),Xo (Mk w0 hi bx b vl L U p j z)/\Xo (zG hi w bx)/\Xo (zr bx a0 55 [I6 B.kind,I6 B.n,Xh B.wr])/\Xo (zr bx aj 68 al)/\Xo (a8 p B))
  case first=>
   rcases ao with d7|⟨a,Q,R,az,ad⟩|⟨a,ax,R,az,ad,ex,e4⟩
   ·have N:Xo (a8 n ⟨b6,c2,ay⟩):=(b2 _ _).2 (.inr ⟨by rw[d7];decide,(b1 _ _).2 ⟨by rw[d7,zmL am.1 am.2.1 (X.trans d7) ca.out];exact c9,G⟩⟩)
    cases d7;have ea:((0:Int) == 1)=Xd:=Dc;go_wp2;go_meet;exact⟨rfl,n,⟨0,0,Xd⟩,d1,fa,da,fh,N⟩
   ·dsimp only at R az;subst R;subst az;have bi:Xo (n.fs[a]? =Xa Q):=ad;obtain⟨iq,ir⟩:=c9.refs ad;obtain⟨bf,a6⟩:=kA n.fs.length;have fx:a<bf:=(by rw[<-a6.out];exact(gS.1 ad).1);have fy:(a:Int)< (bf:Int):=Wm;clear ad;have ea:((1:Int) == 1)=Xc:=Dc;have eb:((1:Int) == 2)=Xd:=Dc;obtain⟨F,cg,af⟩:=d1.rows.fs.aG (by rw[a6.out];omega);rw[a6.out]at af;have A:Xo (U.f.x= O (Xa ⟨F,0,Xb⟩) bf cg):=af;have Z:=d1.rows.fs;(first|rw[A.out]at Z|rw[show O _ _ _=_ from A.out]at Z);have b4:Xo (zb qx w0.heap.size er (O (Xa ⟨F,0,Xb⟩) bf cg) n.fs):=Z;clear Z af;go_upto_region 7 with fail;clear et;obtain⟨h,s⟩:=Ww fun f=>zc er f;have l:h er.drew:=(s _).2 (gW _);have cr:∀d:zg h,d.world.cell? ⟨b,1,Xb⟩=Xa (O (Xa ⟨F,0,Xb⟩) bf cg):=fun d=>(by rw[<-A.out];exact(d1.box.box.aA ((s _).1 d.holds)).c 1 rfl);have bd:=fun d:zg h=>(da.box.aA ((s _).1 d.holds)).c 1 rfl;have cm:∀d:zg h,d.world.cell? ⟨F,a*13+8,Xb⟩=Xa (I6 Q.r):=fun d=>by
     have:=(b4.aA ((s _).1 d.holds)).one bi 8 _ rfl;rw[zX,Ya,zA]at this;exact this
    have ai:Nonempty (zg h):=⟨⟨_,l⟩⟩;refine QR (I:=h) 14 [] l z2 Kr rfl rfl Dc Sm Kr ?_;simp only[Xx,Xy];refine qU ?_;refine zdQ (.tmp 57) ⟨b,0,Xb⟩ rfl rfl rfl rfl ?_;refine Uq ?_;iterate 12 refine qU ?_
    refine zc5 fun ce bc fq=>?_;have au:=(s _).1 bc;have em:=dD (d1.aA au);have fb:=dD (fa.trans (zG.aA au));have f4:=dD (da.aA au);have fi:=dD (fh.aA au);have cd:=dD (b4.aA au);clear au bc fq cr bd cm ai l;have c0:=cd.bJ rfl;have fm:ce.cell? ⟨F,a*13+8,Xb⟩=Xa (I6 Q.r):=by
     have:=cd.one bi 8 _ rfl;rw[zX,Ya,zA]at this;exact this
    go_upto_region 8 with fail;clear fm c0;obtain⟨S,ac,ak⟩:=cd.cell (k:=a) (o:=8) rfl bi (y:={ Q with r:=Q.r+1 }) (u:=I6 (Q.r+1)) rfl Dc;obtain⟨a9,ae⟩:=kB (ce.setCell ⟨F,a*13+8,Xb⟩ (I6 (Q.r+1)));have dx:ce.setCell ⟨F,a*qx.k+8,Xb⟩ (I6 (Q.r+1))=a9:=ae;rw[dx]at S ac ak;rw[ae];rw[<-A.out]at S;have C:=em.bM (by (first|rw[A.out]|rw[show O _ _ _=_ from A.out]|(simp only[Sli.x];rw[A.out])|(simp only[Sli.x];rw[show O _ _ _=_ from A.out]));rfl) ac ak S (em.rows.ap.2.inc c9 bi);have eo:Xo (Mk w0 hi a9 b vl L U { n with fs:=n.fs.set a { Q with r:=Q.r+1 } } j z):=C.1;have el:Xo (zG hi w a9):=fb.trans C.2;have bl:Xo (zr a9 a0 55 [I6 1,I6 (a:Int),Xh ay]):=C.2.1 _ _ _ f4 zdK;have d2:Xo (zr a9 aj 68 al):=C.2.1 _ _ _ fi zc4;clear dx ae S ac ak C;have bm:Xo (∀a5,a5=(if(zo s0.aC c).sh=Xc then(⟨1,(a:Int),ay⟩:En)else⟨1,(a:Int),Xd⟩)->qo { n with fs:=n.fs.set a { Q with r:=Q.r+1 } } ((z.set 0 (qZ W c a5)).set 1 (qZ ab c a5))):=show∀a5,_ from fun a5 il=>c9.forkP (s0:=s0) (s1:=⟨Xc,s0.aC,qJ⟩) (Rr G.1) (Rr G.1) rfl am.1 am.2.1 ah ca bi (by rw[X.out]) (by rw[X.out]) (Rx X.out il);have g0:=d2.box.c _ (db c ah);have et:=bl.box.c 0 rfl;cases bu:(zo s0.aC c).sh with
    | true=>
     rw[bu]at g0 bm;have N:Xo (a8 { n with fs:=n.fs.set a { Q with r:=Q.r+1 } } ⟨1,(a:Int),ay⟩):=(b2 _ _).2 (.inr ⟨by show(1:Int)≠2;decide,(b1 _ _).2 ⟨bm _ (kE rfl).symm,G.1,G.2.1,G.2.2.1,by show(n.fs.set a _).length=_;rw[Yg];exact G.2.2.2⟩⟩);clear bu;go_wp2;go_meet;exact⟨rfl,_,⟨1,(a:Int),ay⟩,eo,el,bl,d2,N⟩
    | false=>
     rw[bu]at g0 bm;have N:Xo (a8 { n with fs:=n.fs.set a { Q with r:=Q.r+1 } } ⟨1,(a:Int),Xd⟩):=(b2 _ _).2 (.inr ⟨by show(1:Int)≠2;decide,(b1 _ _).2 ⟨bm _ (kF Dc).symm,G.1,G.2.1,G.2.2.1,by show(n.fs.set a _).length=_;rw[Yg];exact G.2.2.2⟩⟩);clear bu;have B:=bl.box.c 2 rfl;have c0:=bl.box.f;go_upto_region 10 with fail;clear g0 et B c0;obtain⟨aa,bp⟩:=kB (a9.setCell ⟨a0,2,Xb⟩ (Xh Xd));have bs:a9.grownBy aa (Xa a0):=(by rw[<-bp];exact jC _ _ _ _);have gy:Xo (zr aa a0 55 [I6 1,I6 (a:Int),Xh Xd]):=dD<|by rw[<-bp];exact bl.set 2 _
     have hg:Xo (Mk w0 hi aa b vl L U { n with fs:=n.fs.set a { Q with r:=Q.r+1 } } j z):=eo.entry bl dd.1 bs;have fc:Xo (zG hi w aa):=el.own bs dd.2;have hq:Xo (zr aa aj 68 al):=d2.beside bs (fun F e=>by
      cases e;intro e;have R:a9.heap[aj]? =_:=d2.out;rw[e,show a9.heap[a0]? =_ from bl.out]at R
      cases R)
     rw[bp];clear bp bs;go_wp2;go_meet;exact⟨rfl,_,⟨1,(a:Int),Xd⟩,hg,fc,gy,hq,N⟩
   have N:Xo (a8 n ⟨b6,c2,ay⟩):=(b2 _ _).2 (.inl ⟨rfl,rfl,R⟩);have ea:(b6 == 1)=Xd:=(by rw[show b6=2 from R];decide);clear R az ad ex e4;go_wp2;go_meet;exact⟨rfl,n,⟨b6,c2,ay⟩,d1,fa,da,fh,N⟩
  clear et;obtain⟨rfl,bv,ic,dr,gb,ej,gf,N⟩:=hcut;obtain⟨H,P,D⟩:=ic;have gj:=ej.box.c 0 rfl;go_upto_if 79 with fail
  go_cut [50] (fun bg bx=>bg=I6 c/\∃(p:Ma) (B:En),Xo (Mk w0 hi bx b vl L U p j z)/\Xo (zG hi w bx)/\Xo (zr bx a0 55 [I6 B.kind,I6 B.n,Xh B.wr])/\Xo (zr bx aj 68 al)/\Xo (ap p B))
  case first=>
   rcases(b2 _ _).1 N with⟨d4,rfl,d5⟩|⟨d4,d5⟩
   ·obtain⟨R,az,ad⟩:=(En.mk.injEq _ _ _ _ _ _).mp d4;subst R az ad;subst d5;rcases ao with d7|⟨a,Q,R,az,ad⟩|⟨a,ax,R,az,ad,ex,e4⟩;·cases d7
    ·exact absurd (show(2:Int)=1 from R) Dc
    dsimp only at az;subst az;have bi:Xo (bv.sl[a]? =Xa ax):=ad;obtain⟨bf,a6⟩:=kA bv.sl.length;have fx:a<bf:=(by rw[<-a6.out];exact(gS.1 ad).1);have fy:(a:Int)< (bf:Int):=Wm;clear ad;have eb:((2:Int) == 2)=Xc:=Dc;obtain⟨F,cg,af⟩:=dr.rows.sl.aG (by rw[a6.out];omega);rw[a6.out]at af;have A:Xo (U.s.x= O (Xa ⟨F,0,Xb⟩) bf cg):=af;have Z:=dr.rows.sl;(first|rw[A.out]at Z|rw[show O _ _ _=_ from A.out]at Z);have b4:Xo (zb slE w0.heap.size wc (O (Xa ⟨F,0,Xb⟩) bf cg) bv.sl):=Z;clear Z af;go_upto_region 11 with fail;clear gj;obtain⟨h,s⟩:=Ww fun f=>zc wc f;have l:h wc.drew:=(s _).2 (gW _);have cr:∀d:zg h,d.world.cell? ⟨b,3,Xb⟩=Xa (O (Xa ⟨F,0,Xb⟩) bf cg):=fun d=>(by rw[<-A.out];exact(dr.box.box.aA ((s _).1 d.holds)).c 3 rfl);have bd:=fun d:zg h=>(ej.box.aA ((s _).1 d.holds)).c 1 rfl;have cm:∀d:zg h,d.world.cell? ⟨F,a,Xb⟩=Xa (I6 ax):=fun d=>by
     have:=(b4.aA ((s _).1 d.holds)).one bi 0 _ rfl;rw[zX,Ya,zA]at this;simpa [slE,Nat.mul_one]using this
    have ai:Nonempty (zg h):=⟨⟨_,l⟩⟩;refine QR (I:=h) 11 [] l z2 Kr rfl rfl Dc Sm Kr ?_;simp only[Xx,Xy];refine qU ?_;refine zdQ (.tmp 80) ⟨b,0,Xb⟩ rfl rfl rfl rfl ?_;refine Uq ?_;iterate 9 refine qU ?_
    refine zc5 fun ce bc fq=>?_;have au:=(s _).1 bc;have em:=dD (dr.aA au);have fb:=dD (gb.trans (zG.aA au));have f4:=dD (ej.aA au);have fi:=dD (gf.aA au);have cd:=dD (b4.aA au);clear au bc fq cr bd cm ai l;have c0:=cd.bJ rfl;have fm:ce.cell? ⟨F,a,Xb⟩=Xa (I6 ax):=by
     have:=cd.one bi 0 _ rfl;rw[zX,Ya,zA]at this;simpa [slE,Nat.mul_one]using this
    go_upto_region 12 with fail;clear fm c0;obtain⟨S,ac,ak⟩:=cd.cell (k:=a) (o:=0) rfl bi (y:=ax+1) (u:=I6 (ax+1)) rfl Dc;obtain⟨a9,ae⟩:=kB (ce.setCell ⟨F,a,Xb⟩ (I6 (ax+1)));have dx:ce.setCell ⟨F,a*slE.k+0,Xb⟩ (I6 (ax+1))=a9:=(by rw[<-ae];simp[slE]);rw[dx]at S ac ak;rw[ae];rw[<-A.out]at S;have C:=em.cE (by (first|rw[A.out]|rw[show O _ _ _=_ from A.out]|(simp only[Sli.x];rw[A.out])|(simp only[Sli.x];rw[show O _ _ _=_ from A.out]));rfl) ac ak S
    have eo:Xo (Mk w0 hi a9 b vl L U { bv with sl:=bv.sl.set a (ax+1) } j z):=C.1;have el:Xo (zG hi w a9):=fb.trans C.2;have bl:Xo (zr a9 a0 55 [I6 2,I6 (a:Int),Xh D]):=C.2.1 _ _ _ f4 zdK;have d2:Xo (zr a9 aj 68 al):=C.2.1 _ _ _ fi zc4;clear dx ae S ac ak C;have b0:Xo (ap { bv with sl:=bv.sl.set a (ax+1) } ⟨2,(a:Int),D⟩):=(b1 _ _).2 ⟨by
     have:=c9.forkS (s0:=s0) (s1:=⟨Xc,s0.aC,qJ⟩) (Rr G.1) (Rr G.1) rfl am.1 am.2.1 ah ca bi (by rw[X.out]) (by rw[X.out])
     rw[X.out]at this;exact this,G.1,G.2.1,G.2.2.1,G.2.2.2⟩
    go_wp2;go_meet;exact⟨rfl,_,⟨2,(a:Int),D⟩,eo,el,bl,d2,b0⟩
   have eb:(H == 2)=Xd:=beq_eq_false_iff_ne.2 d4;have b0:Xo (ap bv ⟨H,P,D⟩):=d5;clear d4 d5 ao;go_wp2;go_meet;exact⟨rfl,bv,⟨H,P,D⟩,dr,gb,ej,gf,b0⟩
  clear gj;obtain⟨rfl,p,B,ge,hf,gz,hw,b0⟩:=hcut;obtain⟨H,P,D⟩:=B;go_upto_region 12 with fail;obtain⟨h,s⟩:=Ww fun f=>f.cell? ⟨b,12,Xb⟩=Xa (O (Xa ⟨Y,0,Xb⟩) 2 ar)/\zr f a0 55 [I6 H,I6 P,Xh D]/\zr f aj 68 al;have de:Xo (∀f n z,Mk w0 hi f b vl L U n j z->f.cell? ⟨b,12,Xb⟩=Xa (O (Xa ⟨Y,0,Xb⟩) 2 ar)):=dD<|fun f n z ip=>by
   have:=ip.box.box.c 12 rfl;(first|rw[t.out]at this|rw[show O _ _ _=_ from t.out]at this);exact this
  have l:h wc.drew:=(s _).2 ⟨de _ _ _ (ge.aA (gW _)),gz.aA (gW _),hw.aA (gW _)⟩;have e5:Mk w0 hi wc.drew b vl L U p j z/\zG hi w wc.drew:=⟨ge.aA (gW _),hf.trans (zG.aA (gW _))⟩;have it:=fun d:zg h=>((s _).1 d.holds).1;have fu:=fun d:zg h=>((s _).1 d.holds).2.1.box.c 0 rfl;have bd:=fun d:zg h=>((s _).1 d.holds).2.1.box.c 1 rfl;have fv:=fun d:zg h=>((s _).1 d.holds).2.1.box.c 2 rfl;have ai:Nonempty (zg h):=⟨⟨_,l⟩⟩;refine zO (I:=h) 17 [(14,fun _=>True)] (fun f=>Mk w0 hi f b vl L U p j z/\zG hi w f) l e5 z2 Kr rfl rfl Dc (Sa ⟨undef,trivial⟩) Kr ?_;simp only[Xx,Xy];refine zi ?_;refine zU (.tmp 91) ⟨b,0,Xb⟩ rfl rfl rfl rfl ?_;refine Uq ?_;iterate 4 refine zi ?_
  refine zU (.tmp 96) ⟨b,0,Xb⟩ rfl rfl rfl rfl ?_;refine Uq ?_;iterate 7 refine zi ?_
  refine zE rfl rfl (fun _ f=>Mk w0 hi f b vl L U p j (z.set 0 (qZ W c ⟨H,P,D⟩))/\zG hi w f) (fun w' bb ba=>?_) (fun gq ey=>?_)
  ·obtain⟨ez,cv,iu⟩:=(s _).1 bb;obtain⟨eg,fz⟩:=ba;have cp:=eg.rows.tt;(first|rw[t.out]at cp|rw[show O _ _ _=_ from t.out]at cp);refine zea (E:=zcO) (.tmp 104) (.tmp 101) 55 rfl w0.heap.size (O (Xa ⟨Y,0,Xb⟩) 2 ar) z cp Y 0 (c*3) rfl W (qZ W c ⟨H,P,D⟩) am.1 (env ⟨H,P,D⟩) Kr (zbS W ah _) (by show c*3+3<=192;omega) (enE.one _) _ rfl (by first | rfl | simp) (Xi (env ⟨H,P,D⟩).toArray) rfl rfl (fun gu gp ih iy=>?_);rw[<-t.out]at gp;have e8:=eg.bP (by (first|rw[t.out]|rw[show O _ _ _=_ from t.out]|(simp only[Sli.x];rw[t.out])|(simp only[Sli.x];rw[show O _ _ _=_ from t.out]));rfl) ih iy gp;exact⟨(s _).2 ⟨de _ _ _ e8.1,e8.2.1 _ _ _ cv zdK,e8.2.1 _ _ _ iu zc4⟩,trivial,e8.1,fz.trans e8.2⟩
  try simp only[Yt]
  iterate 2 refine zi ?_
  refine qv fun a4 e7 cj=>?_;have gd:Xo (Mk w0 hi a4 b vl L U p j (z.set 0 (qZ W c ⟨H,P,D⟩))):=cj.1;have fd:Xo (zG hi w a4):=cj.2;have eq:Xo (zr a4 aj 68 al):=((s _).1 e7).2.2;clear cj e7 l e5 it fu bd fv ai;have fj:Xo (zb zcO w0.heap.size a4 (O (Xa ⟨Y,0,Xb⟩) 2 ar) (z.set 0 (qZ W c ⟨H,P,D⟩))):=show zb _ _ _ _ _ by rw[<-t.out];exact gd.rows.tt
  refine zx (E:=zcO) rfl (.tmp 106) (.tmp 102) 55 rfl w0.heap.size _ _ fj Y 1 (c*3) rfl ab (qZ ab c ⟨H,P,D⟩) (by rw[sN Dc];exact am.2.1) (env ⟨H,P,D⟩) Kr (zbS ab ah _) (by show c*3+3<=192;omega) (enE.one _) _ rfl (by first | rfl | simp) (Xi (env ⟨H,P,D⟩).toArray) rfl rfl ?_;intro bj cz dz ei;rw[<-t.out]at cz;have bn:=gd.bP (by (first|rw[t.out]|rw[show O _ _ _=_ from t.out]|(simp only[Sli.x];rw[t.out])|(simp only[Sli.x];rw[show O _ _ _=_ from t.out]));rfl) dz ei cz;have dq:Xo (Mk w0 hi bj b vl L U p j ((z.set 0 (qZ W c ⟨H,P,D⟩)).set 1 (qZ ab c ⟨H,P,D⟩))):=bn.1;have fe:Xo (zG hi w bj):=fd.trans bn.2;have P9:Xo (zr bj aj 68 al):=bn.2.1 _ _ _ eq zc4;have ga:=(b1 _ _).1 b0.out;have f3:Xo (qo p ((z.set 0 (qZ W c ⟨H,P,D⟩)).set 1 (qZ ab c ⟨H,P,D⟩))):=ga.1;have fk:Xo (p.sp=[s0,⟨Xc,s0.aC,qJ⟩]/\p.fl=m.fl/\p.aB=m.aB/\p.fs.length=m.fs.length):=show _/\_ from ga.2;clear bn cz dz ei;go_wp2;go_roundg (64 -(c+1));exact⟨c+1,p,_,_,_,Wm,Wm,Gn,dq,fe,f3,fk,f6 _,P9⟩;omega
 have ec:¬(c:Int)<64:=Wm;have dc:Xo (Frk w0 hi b w vl L m s0.aC wr):=dD<|⟨U,n,j,z,fg,ff,c9,by rw[G.1,f7.out];rfl,G.2⟩;go_wp2;exact Wq dc.out
theorem zgF {I:Xn->Prop} {P:Program} {J:Act->Xn->Prop} {l r:List Oper} (T:Nat) (S:List (Nat × zen)) (c:I w.drew) (hJ0:J a w.drew) (hJq:∀(j:Nat) o,K.toArray[j]? =Xa o->S.lookup j=Xb->∀a v w,(execOp a.eval o).run P w= .ok (.value v) w->J a w->J (a.put o.dst v) w) (hJs:∀(j:Nat) o s,K.toArray[j]? =Xa o->S.lookup j=Xa s->∀a w L,J a w->I w->zL P o a w L->zL P o a w fun v w'=>L v w'/\J (a.put o.dst v) w') (hJu:∀(j:Nat) o,K.toArray[j]? =Xa o->∀a w,J a w->J (a.put o.dst undef) w) (f:P.follows .mixedOrders=Xc) (b:Q5 K.toArray T=Xc) (e:K.take T=l) (g:K.drop T=r) (d:T<=K.length)
  (hS:∀x∈S,∃v,x.2.pv v) (hp:∀k s j t,S.lookup k=Xa s->S.lookup j=Xa t->j≠k->anc K.toArray 9 j k=Xd->∀v w w',t.step w w'->s.post v w->s.post v w') (hpre:∀j t k s,S.lookup j=Xa t->S.lookup k=Xa s->j≠k->∀w w',s.step w w'->t.pre w->t.pre w') (hpr0:∀k t,S.lookup k=Xa t->t.pre w.drew)
  (h:zcU I P K.toArray (fun k=>S.lookup k) (fun a w=>J a w->wpList P K.toArray Q r a w) l 0 (fun _ _=>True) a):(Code.region id K.toArray Xc).wp P Q a w:=by
 refine zpj (J:=J) T c hJ0 f b e g d ?_ ?_ ?_ ?_ ?_ ?_ ?_ hJu h;·intro k s o c _ d b;obtain⟨t,_,rfl⟩:=zbb c;cases b
 ·intro k s c;obtain⟨t,b,rfl⟩:=zbb c;obtain⟨x,d,rfl,_⟩:=JE b;exact hS x d
 ·intro k s j t c f d g _ v;obtain⟨s,b,rfl⟩:=zbb c;obtain⟨t,e,rfl⟩:=zbb f;exact hp k s j t b e d g v
 ·intro j t k s f c d;obtain⟨s,b,rfl⟩:=zbb c;obtain⟨t,e,rfl⟩:=zbb f;exact hpre j t k s e b d
 ·intro k t c;obtain⟨t,b,rfl⟩:=zbb c;exact hpr0 k t b
 ·intro j o c d;exact hJq j o c (Si d)
 intro j o s c d;obtain⟨t,b,_⟩:=zbb d;exact hJs j o t c b
theorem zL.know {P:Program} {J:Act->Xn->Prop} (h:zL P o a w M) (c:∀n w',(execOp a.eval o).run P w= .ok n w'->(∃v,n= .value v/\J (a.put o.dst v) w')\/(n= .skip/\J (a.put o.dst undef) w')):zL P o a w fun v w'=>M v w'/\J (a.put o.dst v) w':=by
 unfold zL at h⊢;generalize(execOp a.eval o).run P w=r at h c⊢;cases r with
 | ok n w'=>
  rcases c n w' rfl with⟨v,rfl,b⟩|⟨rfl,b⟩;·exact⟨h,b⟩
  exact⟨h,b⟩
 | halt x w'=>exact h
def zaW (ss:List Nat) (a:Act) (w:Xn):Prop:=(∀s∈ss,∀x n c,a.tmps.getD s undef= O (Xa x) n c->x.block<w.heap.size)/\∀s∈ss,∀t∈ss,s≠t->∀x n c y n' c',a.tmps.getD s undef= O (Xa x) n c->a.tmps.getD t undef= O (Xa y) n' c'->x.block≠y.block
theorem Qf {d:Option Nat} {v:Xq} {s:Nat}:(a.put d v).tmps.getD s undef=a.tmps.getD s undef\/(d=Xa s/\(a.put d v).tmps.getD s undef=v):=by
 cases d with
 | none=>exact .inl rfl
 | some k=>
  by_cases e:k=s
  ·subst e
   by_cases b:k<a.tmps.size
   ·refine .inr ⟨rfl,?_⟩
    show(a.tmps.setIfInBounds k v).getD k undef=v;rw[Ye,Array.getElem?_setIfInBounds_self_of_lt b];rfl
   refine .inl ?_;show(a.tmps.setIfInBounds k v).getD k undef=_;rw[Array.setIfInBounds_eq_of_size_le Wm]
  refine .inl ?_;show(a.tmps.setIfInBounds k v).getD s undef=_;rw[Ye,Array.getElem?_setIfInBounds_ne e,<-Ye]
theorem zaW.other {b:List Nat} {d:Option Nat} (i:zaW b a w) (f:∀s∈b,d≠Xa s) (m:w.heap.size<=w'.heap.size):zaW b (a.put d A) w':=by
 have c:∀s∈b,(a.put d A).tmps.getD s undef=a.tmps.getD s undef:=fun s b=>(Qf (a:=a) (d:=d) (v:=A) (s:=s)).resolve_right fun e=>f s b e.1;refine⟨fun s b x n g j=>?_,fun s b t k h x n g y p l e f=>?_⟩;·rw[c s b]at j;exact Yi (i.1 s b x n g j) m
 rw[c s b]at e;rw[c t k]at f;exact i.2 s b t k h x n g y p l e f
theorem zaW.new {c:List Nat} {d:Option Nat} (l:zaW c a w) (j:w.heap.size<w'.heap.size):zaW c (a.put d (O (Xa ⟨w.heap.size,0,Xb⟩) k b)) w':=by
 have g:∀j∈c,∀x n c,(a.put d (O (Xa ⟨w.heap.size,0,Xb⟩) k b)).tmps.getD j undef= O (Xa x) n c->(a.tmps.getD j undef= O (Xa x) n c/\x.block<w.heap.size)\/(d=Xa j/\x.block=w.heap.size):=fun j f x n c h=>by
  rcases Qf (a:=a) (d:=d) (v:= O (Xa ⟨w.heap.size,0,Xb⟩) k b) (s:=j)with e|⟨e1,e2⟩;·rw[e]at h;exact .inl ⟨h,l.1 j f x n c h⟩
  grind
 refine⟨fun j f x n c h=>?_,fun j f t p k x n c y q i h b=>?_⟩;·grind
 rcases g j f x n c h with⟨m,h⟩|⟨m,h⟩ <;> rcases g t p y q i b with⟨h,g⟩|⟨h,g⟩
 ·exact l.2 j f t p k x n c y q i m h
 ·omega
 ·omega
 grind
theorem zaW.undef {c:List Nat} {d:Option Nat} (k:zaW c a w):zaW c (a.put d Go.undef) w:=by
 have f:∀b∈c,∀x n c,(a.put d Go.undef).tmps.getD b Go.undef= O (Xa x) n c->a.tmps.getD b Go.undef= O (Xa x) n c:=fun b g x n c h=>by
  rcases Qf (a:=a) (d:=d) (v:=Go.undef) (s:=b)with e|⟨e1,e2⟩;·grind
  rw[e2]at h;cases h
 exact⟨fun b g x n c h=>k.1 b g x n c (f b g x n c h),fun b g t l j x n c y p m h i=>k.2 b g t l j x n c y p m (f b g _ _ _ h) (f t l _ _ _ i)⟩
theorem zoi {P:Program} {e:TypeId} {i:TypeInfo} (b:P.underlying t=Xa (.slice e)) (hi:P.info? e=Xa i) (f:i.zero=Xa A) (x) (a:x=undef\/∃n:Nat,x=I6 n/\n*i.bytes<=140737488355328/\n<=1000) {v:Xq} (h:(Instr.makeSlice t x x).run P w= .ok v w'):∃l c,v= O (Xa ⟨w.heap.size,0,Xb⟩) l c/\w.heap.size<w'.heap.size:=by
 rcases a with rfl|⟨n,rfl,a,a⟩
 ·exfalso
  simp[Instr.makeSlice,run_underlying b,asInt,asIntOf,undef]at h
 have d:((i.bytes:Int)*(n:Int))<=281474976710656:=by
  rw[<-Int.natCast_mul,Nat.mul_comm];omega
 have a:=run_make (P:=P) w t e i A b hi f .i64 .i64 n n Wm (Int.le_refl _) d Wm;rw[a]at h;cases h;exact⟨_,_,rfl,Sm⟩
def JB (nf ns nb:Nat) (a:Act) (w:Xn):Prop:=(a.tmps.getD 0 undef= Xe Xf nf/\a.tmps.getD 1 undef= Xe Xf ns/\a.tmps.getD 2 undef= Xe Xf nb)/\(∀s∈[32,35,37,40],a.tmps.getD s undef=undef\/∃n:Nat,a.tmps.getD s undef= Xe Xf n/\n<=80)/\zaW [38,41] a w
section
variable{nf ns nb:Nat} {a:Act} {w w':Xn}
theorem JB.other {d:Option Nat} (h:JB nf ns nb a w) (e:∀s∈[0,1,2,32,35,37,40,38,41],d≠Xa s) (g:w.heap.size<=w'.heap.size):JB nf ns nb (a.put d A) w':=by have b:∀s∈[0,1,2,32,35,37,40,38,41],(a.put d A).tmps.getD s undef=a.tmps.getD s undef:=fun s c=>(Qf (a:=a) (d:=d) (v:=A) (s:=s)).resolve_right fun f=>e s c f.1;refine⟨⟨by rw[b 0 Sm];exact h.1.1,by rw[b 1 Sm];exact h.1.2.1,by rw[b 2 Sm];exact h.1.2.2⟩,fun s c=>?_,h.2.2.other (fun s c=>e s (by simp at c⊢;omega)) g⟩;rw[b s (by simp at c⊢;omega)];exact h.2.1 s c
theorem JB.num (h:JB nf ns nb a w) (f:k∈[32,35,37,40]) (s:b<=80):JB nf ns nb (a.put (Xa k) (I6 b)) w:=by
 have s:∀t,t≠k->(a.put (Xa k) (I6 b)).tmps.getD t undef=a.tmps.getD t undef:=fun t c=>(Qf (a:=a) (d:=some k) (v:=I6 b) (s:=t)).resolve_right fun e=>c (Si e.1.symm);have g:k≠0/\k≠1/\k≠2/\k≠38/\k≠41:=by simp at f;omega
 refine⟨⟨by rw[s 0 Wm];exact h.1.1,by rw[s 1 Wm];exact h.1.2.1,by rw[s 2 Wm];exact h.1.2.2⟩,fun t c=>?_,h.2.2.other (fun t c e=>by simp only[Option.some.injEq]at e;subst e;simp only[mC,nM,or_false]at c;omega) (nR _)⟩;rcases Qf (a:=a) (d:=some k) (v:=I6 b) (s:=t)with e|⟨_,e⟩;·rw[e];exact h.2.1 t c
 grind
theorem JB.new {d:Option Nat} (h:JB nf ns nb a w) (f:∀s∈[0,1,2,32,35,37,40],d≠Xa s) (g:w.heap.size<w'.heap.size):JB nf ns nb (a.put d (O (Xa ⟨w.heap.size,0,Xb⟩) k p)) w':=by have b:∀s∈[0,1,2,32,35,37,40],(a.put d (O (Xa ⟨w.heap.size,0,Xb⟩) k p)).tmps.getD s undef=a.tmps.getD s undef:=fun s p=>(Qf (a:=a) (d:=d) (s:=s)).resolve_right fun k=>f s p k.1;refine⟨⟨by rw[b 0 Sm];exact h.1.1,by rw[b 1 Sm];exact h.1.2.1,by rw[b 2 Sm];exact h.1.2.2⟩,fun s p=>?_,h.2.2.new g⟩;rw[b s (by simp at p⊢;omega)];exact h.2.1 s p
def okQ (o:Oper):Bool:=
 match o.dst with
 | none=>Xc
 | some d=>!([0,1,2,32,35,37,40,38,41].contains d) || (match o.op with | .move (.tmp x)=>[(32,0),(35,1),(37,1),(40,2)].contains (d,x) | _=>Xd)
theorem JB.quiet (h:JB nf ns nb a w) (b:okQ o=Xc) (i:nf<=80) (d:ns<=80) (g:nb<=80) (f:(execOp a.eval o).run prog w= .ok (.value A) w):JB nf ns nb (a.put o.dst A) w:=by
 unfold okQ at b;cases c:o.dst with
 | none=>exact h.other (fun s _ e=>by cases e) (nR _)
 | some j=>
  rw[c]at b;simp only[Bool.or_eq_true]at b;rcases b with b|b
  ·refine h.other (fun s d e=>?_) (nR _)
   cases e;simp only[Yq,Yh,decide_eq_false_iff_not]at b;exact b d
  cases c:o.op with
  | move x=>
   rw[c]at b;cases x with
   | tmp x=>
    simp only[Yh,decide_eq_true_eq]at b;have e:A=a.tmps.getD x undef:=by
     simp only[execOp,c,Xt,Result.ok.injEq,Next.value.injEq,and_true]at f;exact f.symm
    simp only[mC,pJ,nM,or_false]at b;rcases b with⟨rfl,rfl⟩|⟨rfl,rfl⟩|⟨rfl,rfl⟩|⟨rfl,rfl⟩;·rw[e,h.1.1];exact h.num Sm i
    ·rw[e,h.1.2.1];exact h.num Sm d
    ·rw[e,h.1.2.1];exact h.num Sm d
    rw[e,h.1.2.2];exact h.num Sm g
   | _=>simp at b
  | _=>rw[c]at b;simp at b
theorem JB.undef {d:Option Nat} (h:JB nf ns nb a w) (f:∀s∈[0,1,2],d≠Xa s):JB nf ns nb (a.put d Go.undef) w:=by
 have b:∀s∈[0,1,2],(a.put d Go.undef).tmps.getD s Go.undef=a.tmps.getD s Go.undef:=fun s c=>(Qf (a:=a) (d:=d) (s:=s)).resolve_right fun e=>f s c e.1;refine⟨⟨by rw[b 0 Sm];exact h.1.1,by rw[b 1 Sm];exact h.1.2.1,by rw[b 2 Sm];exact h.1.2.2⟩,fun s c=>?_,h.2.2.undef⟩;rcases Qf (a:=a) (d:=d) (v:=Go.undef) (s:=s)with e|⟨_,e⟩;·rw[e];exact h.2.1 s c
 grind
theorem JB.make (h:JB nf ns nb a w) (t e) (i:TypeInfo) (z) (s:Nat) (c:o.op= .makeSlice t (.tmp s) (.tmp s)) (g:s∈[32,35,37,40]) (j:Tryz.prog.underlying t=Xa (.slice e)) (hi:Tryz.prog.info? e=Xa i) (k:i.zero=Xa z) (d:i.bytes<=1000) (f:∀s∈[0,1,2,32,35,37,40],o.dst≠Xa s) (b:zL prog o a w M):zL prog o a w fun v w'=>M v w'/\JB nf ns nb (a.put o.dst v) w':=by
 refine b.know fun n w' b=>?_;left;simp only[execOp,c,Xu]at b;cases c:(Instr.makeSlice t (a.eval (.tmp s)) (a.eval (.tmp s))).run prog w with
 | halt x l=>rw[c]at b;cases b
 | ok v l=>
  rw[c]at b;simp only[rA,Xt,Result.ok.injEq]at b;obtain⟨rfl,rfl⟩:=b;obtain⟨l,b,rfl,b⟩:=zoi j hi k _ (by
   rcases h.2.1 s g with e|⟨n,e,g⟩;·exact .inl e
   refine .inr ⟨n,e,?_,Wm⟩;have:n*i.bytes<=80*1000:=Nat.mul_le_mul g d
   omega) c
  exact⟨_,rfl,h.new f b⟩
end
def okL (L:List Oper) (Sx:List Nat):Bool:=L.zipIdx.all fun p=>Sx.contains p.2 || okQ p.1
theorem zn8 {Sx:List Nat} (h:okL K Sx=Xc) (a:K.toArray[j]? =Xa o) (b:j∉Sx):okQ o=Xc:=by
 unfold okL at h;have a:(o,j)∈K.zipIdx:=by grind
 grind
def okD (L:List Oper):Bool:=L.all fun o=>match o.dst with | none=>Xc | some d=>!([0,1,2].contains d)
theorem zn9 (h:okD K=Xc) (a:K.toArray[j]? =Xa o):∀s∈[0,1,2],o.dst≠Xa s:=fun s b e=>by
 unfold okD at h;have:=Yj.1 h o (by simp at a;exact mG a);rw[e]at this;simp only[Yq,Yh,decide_eq_false_iff_not]at this;exact this b
theorem zkF {A B C D:α} (h:List.lookup j [(2,A),(5,B),(7,C),(10,D)]=Xb):j∉ [2,5,7,10]:=fun a=>by grind
theorem zgT (E:Elt α) (w:Xn) (n:Nat) (hn:n*E.bytes<=140737488355328) {l:Operand} (ho:o.op= .makeSlice E.st l l:=by rfl) (hl:a.eval l=I6 n:=by rfl):
  ∃C,(execOp a.eval o).run prog w= .ok (.value (O (Xa ⟨w.heap.size,0,Xb⟩) n n)) (w.alloc (Xk C E.ty))/\zb E w.heap.size (w.alloc (Xk C E.ty)) (O (Xa ⟨w.heap.size,0,Xb⟩) n n) (Xr n E.zero):=by
 obtain⟨i0,hi,hz0,hz1,hz2⟩:=info_parts E.aD;have h2:n*1<=n*E.bytes:=Nat.mul_le_mul_left _ (nT E.pos E.few);have hb:((E.bytes:Int)*(n:Int))<=140737488355328:=by
  obtain⟨B,hB⟩:=kB (n*E.bytes);rw[hB]at hn;rw[<-Int.natCast_mul,Nat.mul_comm,hB];omega
 have hrun:=run_make (P:=prog) w E.st E.ty i0 _ E.bH hi hz0 .i64 .i64 n n (by omega) (Int.le_refl _) (by rw[hz2];exact Int.le_trans hb (by omega)) (by omega);rw[hz1,tN]at hrun;refine⟨madeCells E.zv.cells (n*E.k),by simp only[execOp,ho,hl,Xu,hrun,Result.andThen,Xt],⟨⟨?_,.inr ⟨w.heap.size,n,madeCells E.zv.cells (n*E.k),by rw[lR],nR _,?_,?_,?_,?_,?_⟩⟩,by rw[lR];exact hn⟩⟩;·rw[qe E]
 ·show(w.heap.push _)[w.heap.size]? =_
  simp
 ·rw[lR];exact nR _
 ·exact qD (by omega)
 ·rw[size_madeCells]
 rw[lR,Yd (by simp[madeCells]),zc3 E]
theorem zey (w) (n:Nat) (b:n<=80) {l:Operand} (h:o.op= .makeSlice 31 l l:=by rfl) (g:a.eval l=I6 n:=by rfl):
  ∃C,(execOp a.eval o).run prog w= .ok (.value (O (Xa ⟨w.heap.size,0,Xb⟩) n n)) (w.alloc (Xk C 44))/\zl w.heap.size (w.alloc (Xk C 44)) (O (Xa ⟨w.heap.size,0,Xb⟩) n n) (Xr n zt):=by
 obtain⟨i,f,c,d,e⟩:=info_parts zrx;have b:=run_make (P:=prog) w 31 44 i _ underlying31 f c .i64 .i64 n n Wm (Int.le_refl _) (by rw[e];omega) Wm;rw[d,tN]at b;refine⟨madeCells #[U8 0,U8 0,U8 0,U8 0,U8 0,U8 0,U8 0,U8 0] (n*8),by simp only[execOp,h,g,Xu,b,Result.andThen,Xt,Value.cells],⟨⟨?_,.inr ⟨w.heap.size,n,madeCells #[U8 0,U8 0,U8 0,U8 0,U8 0,U8 0,U8 0,U8 0] (n*8),by rw[lR],nR _,?_,?_,?_,?_,?_⟩⟩,fun p b=>by rw[Xs b];rfl,by rw[lR];omega⟩⟩;·rw[qY (k:=8) _ (fun a b=>by rw[Xs b];rfl)]
 ·show(w.heap.push _)[w.heap.size]? =_
  simp
 ·rw[lR];exact nR _
 ·exact qD Wm
 ·rw[size_madeCells]
 rw[lR];show(madeCells #[U8 0,U8 0,U8 0,U8 0,U8 0,U8 0,U8 0,U8 0] (n*8)).toList.take (n*8)=_;rw[Yd (by simp[madeCells]),zkE]
theorem zbU (E:Elt α) (w:Xn) (n:Nat) (c:n*E.bytes<=140737488355328) (l) (d:o.op= .makeSlice E.st l l) (b:a.eval l=I6 n) (h:∀C,zb E w.heap.size (w.alloc (Xk C E.ty)) (O (Xa ⟨w.heap.size,0,Xb⟩) n n) (Xr n E.zero)->M (O (Xa ⟨w.heap.size,0,Xb⟩) n n) (w.alloc (Xk C E.ty))):zL prog o a w M:=by obtain⟨C,e,e⟩:=zgT E w n c d b;grind [zL.step]
theorem zat (w:Xn) (n:Nat) (c:n<=80) (l) (d:o.op= .makeSlice 31 l l) (b:a.eval l=I6 n) (h:∀C,zl w.heap.size (w.alloc (Xk C 44)) (O (Xa ⟨w.heap.size,0,Xb⟩) n n) (Xr n zt)->M (O (Xa ⟨w.heap.size,0,Xb⟩) n n) (w.alloc (Xk C 44))):zL prog o a w M:=by obtain⟨C,e,e⟩:=zey w n c d b;grind [zL.step]
theorem zgE {c:Oper} (d:c.guard=Xb) (e p x) (j:c.op= .store e p x) (b o:Nat) (hp:a.eval p= Xj (Xa ⟨b,o,Xb⟩)) (vs:List Xq) (k:a.eval x= Xi vs.toArray)
  {cs:List Xq} {t:TypeId} (f:zr w b t cs) (i:o+vs.length<=cs.length) (hi:(Tryz.prog.info? e).map (·.size)=Xa vs.length) (g:∀v∈vs,v.oneCell'=Xc)
  (h:∀w',zr w' b t (splice cs o vs)->w.grownBy w' (Xa b)->w'.heap.size=w.heap.size->wpList prog ops Q K (a.put c.dst undef) w'):wpList prog ops Q (c :: K) a w:=by
 refine wpList_store_mid d e p x j b o vs.toArray hp k ?_ ?_ (all_oneCell_toArray g) ?_
 ·intro j c;have:=f.box.there (o+j) (by simp at c;omega);rw[zA]at this;exact this
 ·simpa using hi
 exact h _ (f.part i) (zS b vs o w).1 (zS b vs o w).2
theorem zod {c a nf ns nb:Nat} (f:zc w W) (e:w.heap.size<=b) (d:zr W b 81 [vl.x,O (Xa ⟨k,0,Xb⟩) nf nf,I6 0,O (Xa ⟨p,0,Xb⟩) ns ns,O (Xa ⟨c,0,Xb⟩) ns ns,eS,O (Xa ⟨a,0,Xb⟩) nb nb,eS,eS,I6 (nb:Int),eS,eS,eS]) (m:zp byE w (vl.x) L) (l:vl.n<=vl.c) (lb:∀z∈L,0<=z/\z<256)
  (n:zb qx w.heap.size W (O (Xa ⟨k,0,Xb⟩) nf nf) (Xr nf fr0)) (h:zb slE w.heap.size W (O (Xa ⟨p,0,Xb⟩) ns ns) (Xr ns 0)) (i:zl w.heap.size W (O (Xa ⟨c,0,Xb⟩) ns ns) (Xr ns zt)) (j:zl w.heap.size W (O (Xa ⟨a,0,Xb⟩) nb nb) (Xr nb zt)) (g:c≠a):
  Mk w W.heap.size W b vl L ⟨⟨Xa ⟨k,0,Xb⟩,nf,nf⟩,⟨Xa ⟨p,0,Xb⟩,ns,ns⟩,⟨Xa ⟨c,0,Xb⟩,ns,ns⟩,zF,⟨Xa ⟨a,0,Xb⟩,nb,nb⟩,zF,zF,zF,zF⟩ ⟨Xr nf fr0,0,Xr ns 0,Xr ns zt,[],Xr nb zt,[],[],nb,[],[]⟩ zF []:=by
 have c:∀{v:Xq} {a:List (List Int)},zl w.heap.size W v a->∀g,v.ownBlock=Xa g->g<W.heap.size:=fun p g a=>by
  obtain⟨_,gf,gf⟩:=QV p a;grind
 refine⟨f,e,d,m,l,lb,⟨nR _,bS f,n,h,fun g a=>(h.lt g a).2,i,c i,⟨rfl,rfl⟩,j,c j,⟨World.ownsRow_nil _ _ _ _,Sm,Sm⟩,⟨[],zb.nil _ _ _,rfl,fun i x f c=>by cases c⟩,zb.nil _ _ _,⟨[],zb.nil _ _ _,rfl,fun i x s c=>by cases c⟩,zb.nil _ _ _,⟨fun g a p=>?_,zfp.free (fun f c _=>by rw[Xs c];rfl) (fun f c=>by rw[Xs c];rfl)⟩⟩⟩;simp only[Value.ownBlock,Option.some.injEq]at a p;grind
def zh7 (n k:Nat):List Fr:=Xr k frF++Xr (n - k) fr0
theorem zmF (n:Nat):zh7 n 0=Xr n fr0:=by simp[zh7]
theorem zoz (n:Nat):zh7 n n=Xr n frF:=by simp[zh7]
theorem zpR (n k:Nat):zeo (zh7 n k):=fun f a _=>by
 unfold zh7 at a;rcases Xv.1 a with e|e;·rw[Xs e];rfl
 rw[Xs e];rfl
theorem zds (n:Nat):∀f∈Xr n frF,f.r=0:=fun f a=>by rw[Xs a];rfl
theorem zmG (n k:Nat):∀f∈zh7 n k,f.r=0:=fun f a=>by
 unfold zh7 at a;rcases Xv.1 a with e|e;·rw[Xs e];rfl
 rw[Xs e];rfl
theorem zmH (h:b<k):(zh7 k b)[b]? =Xa fr0:=by unfold zh7;grind
theorem zoy (h:b<k):(zh7 k b).set b frF=zh7 k (b+1):=by unfold zh7;rw[List.set_append_right _ _ Sm,lR,Yr];obtain⟨j,a⟩:∃j,k - b=j+1:=⟨k - b - 1,Wm⟩;rw[a,show k -(b+1)=j by omega,List.replicate_succ,sZ,List.replicate_succ',List.append_assoc];rfl
theorem zeA (j) (h:zs k w A g) (b:Nat) (q:Int × List Int) (i:q.2.length=8) (p:jK w ⟨b,0,Xb⟩ (ptc q)) (c:g.length<=1000) (a:k<=w.heap.size):
  ∃c w',(Builtin.append_ #[32,32] j #[A,O (Xa ⟨b,0,Xb⟩) 1 1]).run prog w= .ok c w'/\zs k w' c (g++ [q])/\w.grownBy w' A.ownBlock:=by
 obtain⟨r,l,d,e,f⟩:=info_parts zry;obtain⟨c,w',n,m,v,_⟩:=run_append_own (P:=prog) w k 32 j 88 r _ 9 16 underlying32 l d e f rfl Dc A g.length _ h.1 ⟨b,0,Xb⟩ 1 1 (ptc q) (by rw[zb9,i]) p (zdy _) (qD Wm) Wm a;refine⟨c,w',n,⟨?_,fun x a=>?_,by simp;omega⟩,v⟩
 ·rw[lA,List.flatMap_append]
  simpa using m
 rcases Xv.1 a with a|a;·exact h.2.1 x a
 simp only[mC,nM,or_false]at a;rw[a];exact i
section
variable{base hi:Nat} {w w':Xn} {V:MaV} {m:Ma} {vt:Sli} {T:List (Nat->En)}
theorem za6 (h:zs base w A g) (a:A.ownBlock=Xa k):base<=k/\∃cs,w.heap[k]? =Xa (Xk cs 88 (0,0)):=by
 rcases h.1.2 with⟨rfl,_⟩|⟨b,g,g,rfl,g,g,_⟩;·cases a
 simp only[Value.ownBlock,Option.some.injEq]at a;grind
theorem MkR.addDq (h:MkR base hi w V m vt T) (c:w.grownBy w' (V.dq.x).ownBlock) (s:Sli) (d:∀f∈m.fs,f.r=0) (e:zs base w' (s.x) g):MkR base hi w' { V with dq:=s } { m with dq:=g } vt T:=by
 cases b:(V.dq.x).ownBlock with
 | none=>
  rw[b]at c;have g:=h.aA (qq c);exact⟨g.hw,g.bh,g.fs,g.sl,g.aZ,g.sb,g.bF,g.sq,g.db,g.bC,e,g.fl,g.ca,g.sp,g.tt,⟨g.ap.1,g.ap.2.bare d rfl⟩⟩
 | some a=>
  rw[b]at c;obtain⟨_,g,g⟩:=za6 h.dq b;obtain⟨b,a,i,j,k,k,l,n,p⟩:=h.kept c g;exact⟨nT h.hw c.size,h.bh,b Dc,a (.inl Dc),h.aZ,i (.inl Dc),h.bF,h.sq,j (.inl Dc),h.bC,e,k Dc (.inl Dc),l Dc,n Dc Dc,p Dc,⟨h.ap.1,h.ap.2.bare d rfl⟩⟩
theorem MkR.addFl {xs:List FlV} (h:MkR base hi w V m vt T) (g:zb fvE base w (V.fl.x) xs) (a:xs.length=m.fl.length) (b:∀(i:Nat) x f,xs[i]? =Xa x->m.fl[i]? =Xa f->x.size=f.size/\zb blE hi w x.v f.bl)
  (c:w.grownBy w' (V.fl.x).ownBlock) (s:Sli) {x:FlV} {f:Fl} (e:∀f∈m.fs,f.r=0) (k:x.size=f.size) (d:zb blE hi w x.v f.bl) (j:zb fvE base w' (s.x) (xs++ [x])):MkR base hi w' { V with fl:=s } { m with fl:=m.fl++ [f] } vt T:=by
 have d:(∀{y:FlV} {q:Fl},zb blE hi w y.v q.bl->zb blE hi w' y.v q.bl)->∃a:List FlV,zb fvE base w' (s.x) a/\a.length=(m.fl++ [f]).length/\∀(i:Nat) y q,a[i]? =Xa y->(m.fl++ [f])[i]? =Xa q->y.size=q.size/\zb blE hi w' y.v q.bl:=fun k=>by grind
 cases b:(V.fl.x).ownBlock with
 | none=>
  rw[b]at c;have k:=qq c;have a:=h.aA k;exact⟨a.hw,a.bh,a.fs,a.sl,a.aZ,a.sb,a.bF,a.sq,a.db,a.bC,a.dq,d (fun h=>h.aA k),a.ca,a.sp,a.tt,⟨a.ap.1,a.ap.2.bare e rfl⟩⟩
 | some a=>
  rw[b]at c;obtain⟨a,a⟩:=g.obj b;obtain⟨b,g,j,k,l,n,n,p,q⟩:=h.kept c a;exact⟨nT h.hw c.size,h.bh,b Dc,g (.inl Dc),h.aZ,j (.inl Dc),h.bF,h.sq,k (.inl Dc),h.bC,l Dc,d (fun h=>h.kind c a Dc),n Dc,p Dc Dc,q Dc,⟨h.ap.1,h.ap.2.bare e rfl⟩⟩
end
section
variable{base hi S0:Nat} {w w':Xn} {V:MaV} {m:Ma} {vt:Sli} {T:List (Nat->En)}
def FlB (base hi S0:Nat) (w:Xn) (V:MaV) (m:Ma):Prop:=∃xs:List FlV,zb fvE base w (O V.fl.a V.fl.n V.fl.c) xs/\xs.length=m.fl.length/\∀(i:Nat) x f,xs[i]? =Xa x->m.fl[i]? =Xa f->(x.size=f.size/\zb blE hi w x.v f.bl)/\∀g,x.v.ownBlock=Xa g->g<S0
theorem MkR.flB (h:MkR base hi w V m vt T):FlB base hi w.heap.size w V m:=by obtain⟨d,b,c,a⟩:=h.fl;exact⟨d,b,c,fun i x f c b=>⟨a i x f c b,fun g d=>((a i x f c b).2.lt g d).2⟩⟩
theorem FlB.aA (h:FlB base hi S0 w V m) (k:zc w w'):FlB base hi S0 w' V m:=by obtain⟨c,a,b,d⟩:=h;refine⟨c,a.aA k,b,fun i x f g e=>?_⟩;obtain⟨⟨a,b⟩,c⟩:=d i x f g e;exact⟨⟨a,b.aA k⟩,c⟩
theorem FlB.kind (e:FlB base hi S0 w V m) (c:w.grownBy w' (Xa k)) (h:w.heap[k]? =Xa (Xk Y t (0,0))) (a:t≠84\/(V.fl.x).ownBlock≠Xa k) (b:t≠3\/S0<=k):FlB base hi S0 w' V m:=by
 obtain⟨i,d,f,q⟩:=e;refine⟨i,?_,f,fun n x j l g=>?_⟩
 ·rcases a with a|a
  ·exact d.kind c h a
  exact d.grown c fun p d e=>by cases e;exact a d
 obtain⟨⟨i,a⟩,f⟩:=q n x j l g;refine⟨⟨i,?_⟩,f⟩;rcases b with b|b;·exact a.kind c h b
 exact a.grown c fun p d e=>by cases e;have:=f _ d;omega
theorem MkR.cL (h:MkR base hi w V m vt T) (a:w.grownBy w' (Xa k)) (b:w.heap[k]? =Xa (Xk Y 84 (0,0))) (c:(V.fl.x).ownBlock≠Xa k):MkR base hi w' V m vt T:=by obtain⟨d,e,f,i,j,g,g,l,n⟩:=h.kept a b;obtain⟨s,p,q,r⟩:=h.flB.kind a b (.inr c) (.inl Dc);exact⟨nT h.hw a.size,h.bh,d Dc,e (.inl Dc),h.aZ,f (.inl Dc),h.bF,h.sq,i (.inl Dc),h.bC,j Dc,⟨s,p,q,fun i x f b a=>(r i x f b a).1⟩,g Dc,l Dc Dc,n Dc,h.ap⟩
theorem MkR.ints (h:MkR base hi w V m vt T) (e:FlB base hi S0 w V m) (a:w.grownBy w' (Xa k)) (b:w.heap[k]? =Xa (Xk Y 3 (0,0))) (c:S0<=k) (d:hi<=k):MkR base hi w' V m vt T:=by obtain⟨f,i,j,g,l,n,n,p,q⟩:=h.kept a b;obtain⟨u,r,s,t⟩:=e.kind a b (.inl Dc) (.inr c);exact⟨nT h.hw a.size,h.bh,f Dc,i (.inr d),h.aZ,j (.inl Dc),h.bF,h.sq,g (.inl Dc),h.bC,l Dc,⟨u,r,s,fun i x f b a=>(t i x f b a).1⟩,n Dc,p Dc Dc,q Dc,h.ap⟩
end
section
variable{w0 w w':Xn} {hi b:Nat} {vl:Sli} {L:List Int} {V:MaV} {m:Ma} {vt:Sli} {T:List (Nat->En)}
theorem Mk.setDb (h:Mk w0 hi w b vl L V m vt T) {g:Nat} (d:(V.db.x).ownBlock=Xa g) (a:w.grownBy w' (Xa g)) (k:w'.heap.size=w.heap.size) {e:List (List Int)} (c:∀f∈m.fs,f.r=0) (j:zl w0.heap.size w' (V.db.x) e):Mk w0 hi w' b vl L V { m with db:=e } vt T/\zG hi w w':=by
 obtain⟨e,i,i⟩:=QV h.rows.db d;refine⟨⟨zd h.gr a e,h.hb,h.box.beside a (fun e e=>?_),h.lr,h.lc,h.lb,h.rows.setDb i d a k c j⟩,zG.kind a i (fun p a=>?_)⟩
 ·cases e;intro e;subst e;have c:w.heap[b]? =_:=h.box;grind
 have:=a.2.2.2.2.2.2.2.2 rfl;have:=h.rows.bC g d;omega
end
theorem zl1 (v:Xq) (l:List Ar) (a:Ar) (w:Xn) (ax:zp arE w v l) (s:Cap v) (z:(wrL l).1=0):
  Xp prog 60 #[v,Xi #[I6 a.fr,I6 a.tz,Xh a.rd,Xh a.wr,Xh a.sh,I6 a.file,I6 a.base]] w (zrf (zdJ l a) w):=by
 have ap:Xo (zp arE w v l):=ax;have a9:Xo (∀W,zc w W->Xp prog 77 #[v] W fun f A=>f= Xl (Xi #[I6 0,I6 (wrL l).2])/\zc W A):=fun W bd=>zbv v l W (ap.aA bd) s z;have t:Xo (∀W,Xp prog 94 #[Xi #[I6 a.fr,I6 a.tz,Xh a.rd,Xh a.wr,Xh a.sh,I6 a.file,I6 a.base]] W fun f A=>f= Xl (I6 (arW a))/\zc W A):=fun W=>JR a W;clear ax s;obtain⟨aa,r⟩:=kB (w.alloc (Xk #[I6 a.fr,I6 a.tz,Xh a.rd,Xh a.wr,Xh a.sh,I6 a.file,I6 a.base] 77));have S:=gA r;have ar:=xA r;have F:Xo (_=aa):=r;clear r;generalize(wrL l).2=I at a9;by_cases g:arW a=0
 ·rw[g]at t;have ao:Xo (l.length<=16/\QM Xb l):=jT.1 z;have an:Xo (q4 a):=Qh.1 g;have E:Xo (zdJ l a=if znI l a.fr (a.tz - a.fr)=Xc then([],6)else zh8 (zh6 l a)):=show _=_ by unfold zdJ;rw[kF (fun k=>k z),kF (fun k=>k g)]
  have C:Xo (∀W,Xp prog 95 #[Xi (zB (tab (zfe l a 64))).toArray] W fun f A=>(∃Y,f= Xl (Xm #[Y,I6 (zh8 (zh6 l a)).2])/\zb arE W.heap.size A Y (zh8 (zh6 l a)).1)/\zc W A):=fun W=>by
   rw[zp6];exact zkr (zh6 l a) W (zbF ao.2 an)
  clear z g;go_enter func60,ntmps60;go_upto_region 1 with fail;rw[F.out];go_wp2_with fail;refine(a9 aa S).mono ?_;rintro f H ⟨rfl,h⟩;have a0:=dD (S.trans h);have ad:=dD (ar.aA h);clear h;obtain⟨bg,i⟩:=kA H.heap.size;go_upto_region 2 with fail;refine nW fun ab c=>?_;have a1:=gT c a0;have Z:=xP c i;have V:=yA c ad;rw[i.out];clear c;have ae:=Z.c 0 rfl;go_wp2_with (refine zC rfl 77 (.tmp 3) rfl w.heap.size rfl V underlying77 rfl zrF ?_)
  refine(t ab).mono ?_;rintro f b7 ⟨rfl,h⟩;have B:=dD (a1.trans h);have bb:=dD (V.aA h);clear h ae;go_upto_region 7 with fail;refine zkD (v:=v) (q:=a) (pa:=w.heap.size) (l:=l) (fun aj ak al R am bi bj=>⟨#[_,_,_,_,_,_,_,_,bi,bj,_,_,_,_,_,_,_,_,_,_,_,_,_,aj,ak,al,R,am,_,_,_,_,_,_,_,_,_,_,_,_,_,_,_,_,_,_,_,_,_,_,_,_,_,_,_],[]⟩) (fun _ _ _ _ _ _ _=>rfl) (fun _ _ _ _ _ _ _=>rfl) (fun _ _ _ _ _ _ _=>rfl) (fun _ _ _ _ _ _ _=>rfl) (fun _ _ _ _ _ _ _=>rfl) (fun _ _ _ _ _ _ _=>rfl) (fun _ _ _ _ _ _ _=>rfl) (fun _ _ _ _ _ _ _=>rfl) (fun _ _ _ _ _ _ _=>rfl) (fun _ _ _ _ _ _ _ _=>rfl) (fun _ _ _ _ _ _ _ _=>rfl) (fun _ _ _ _ _ _ _ _=>rfl) (fun _ _ _ _ _ _ _ _=>rfl) (fun _ _ _ _ _ _ _ _=>rfl) (fun _ _ _ _ _ _ _ _=>rfl) (fun _ _ _ _ _ _ _ _=>rfl) (fun _ _ _ _ _ _ _ _=>rfl) (ap.aA B) ao.2.lies an bb.out ?_ _ _ _ _ _ _ _;intro aq p y R N av L M Q ah;have b1:=dD (B.trans av);have az:Xo (Box aq p (zB (tab (zfe l a 0)))):=show Box _ _ _ by rw[zoS];exact L
  have b0:Xo (Box aq y (zB (tab (zo [a])))):=M;have a7:Xo (w.heap.size<=p):=nT (bS B) Q;have u:y≠p:=fun f=>N f.symm;have a5:Xo (y≠p):=u;clear av L M Q ah;go_wp2;go_loopg [28] 64 (fun bc ai wr=>∃b:Nat,b<=64/\64 - b<=bc/\ai=I6 b/\Xo (zc w wr)/\Xo (Box wr p (zB (tab (zfe l a b))))/\Xo (Box wr y (zB (tab (zo [a]))))/\Xo (∀j:Nat,j<b->ZP a j=Xc->(zo l j).is=Xd))
  exact⟨0,nZ _,Wm,rfl,b1,az,b0,fun j ag=>absurd ag (nL _)⟩;obtain⟨b,be,bl,rfl,x,U,G,a3⟩:=hrel;by_cases m:b<64
  ·have P:(b:Int)<64:=Wm
   have K:=U.c (b*6) (ZX (J9 m) 0 (Xh (zo l b).is) (Rr zqU));have X:=G.c (b*6) (ZX (J9 m) 0 (Xh (ZP a b)) (by rw[<-zl9];rfl));cases d:ZP a b with
   | true=>
    cases e:(zo l b).is with
    | true=>
     have D:Xo (zdJ l a=([],6)):=dD (by rw[E.out,zqL m d e,kE rfl]);rw[e]at K;rw[d]at X;clear d e;go_wp2;refine bodyPost_ret (results_tmp2 rfl _ _ _) rfl ?_;rw[D.out];exact⟨⟨_,rfl,zb.nil _ _ _⟩,x⟩
    | false=>
     have a8:Xo (upd (zfe l a b) b (z5 a b)=zfe l a (b+1)):=zp5 d;have a6:Xo (zo [a] b=z5 a b):=show _=_ by rw[zo7,kE d]
     have n:Xo (∀j:Nat,j<b+1->ZP a j=Xc->(zo l j).is=Xd):=dD<|fun j ag k=>by
      by_cases f:j=b;·rw[f];exact e
      exact a3 j Wm k
     rw[e]at K;rw[d]at X;clear d e;have a4:Xo (Value.agg (onv (zo [a] b)).toArray= Xi (onv (z5 a b)).toArray):=dD (by rw[a6.out]);go_wp2_with (first | refine zeO rfl (.tmp 47) rfl y b m rfl G a4.out ?_ | refine zeN rfl (.tmp 49) (.tmp 48) rfl p b m rfl (z5 a b) rfl U.out ?_)
     intro ac au af bh;have T:Xo (Box ac p (zB (tab (zfe l a (b+1))))):=dD<|Ry a8.out au;have b6:Xo (Box ac y (zB (tab (zo [a])))):=G.grown af a5.out;have b2:Xo (zc w ac):=zd x af a7.out;clear au af bh K X;go_wp2;go_roundg (64 -(b+1));exact⟨b+1,Wm,Wm,Gn,b2,T,b6,n⟩;omega
   | false=>
    have T:Xo (Box wr p (zB (tab (zfe l a (b+1))))):=dD (by rw[<-zoT d];exact U.out);have n:Xo (∀j:Nat,j<b+1->ZP a j=Xc->(zo l j).is=Xd):=dD<|fun j ag k=>by
     by_cases f:j=b;·rw[f,d]at k;cases k
     exact a3 j Wm k
    rw[d]at X;clear d;cases e:(zo l b).is with
    | true=>
     rw[e]at K;clear e;go_wp2;go_roundg (64 -(b+1));exact⟨b+1,Wm,Wm,Gn,x,T,G,n⟩;omega
    | false=>
     rw[e]at K;clear e;go_wp2;go_roundg (64 -(b+1));exact⟨b+1,Wm,Wm,Gn,x,T,G,n⟩;omega
  have P:¬(b:Int)<64:=Wm;have:b=64:=Wm;subst this;have D:Xo (zdJ l a=zh8 (zh6 l a)):=dD (by rw[E.out,zos a3.out,kF Dc]);have a2:Xo ((zB (tab (zfe l a 64))).length=384):=jU _;go_wp2_with (refine zC rfl 68 (.tmp 8) rfl p rfl U underlying68 rfl (Rx a2.out zrI) ?_)
  refine(C wr).mono ?_;rintro f ba ⟨⟨Y,rfl,ay⟩,aw⟩;have b3:=dD (x.trans aw);have b4:Xo (zb arE w.heap.size ba Y (zh8 (zh6 l a)).1):=ay.base (bS x);clear aw ay;go_wp2;refine bodyPost_ret (results_tmp2 rfl _ _ _) rfl ?_;rw[D.out];exact⟨⟨_,rfl,b4⟩,b3⟩
 have bf:(arW a != 0)=Xc:=by simp[g]
 have D:Xo (zdJ l a=([],arW a)):=dD<|by unfold zdJ;rw[kF (fun k=>k z),kE g]
 clear z g;generalize arW a=bk at*;go_enter func60,ntmps60;go_upto_region 1 with fail;rw[F.out];go_wp2_with fail;refine(a9 aa S).mono ?_;rintro f H ⟨rfl,h⟩;have a0:=dD (S.trans h);have ad:=dD (ar.aA h);clear h;obtain⟨bg,i⟩:=kA H.heap.size;go_upto_region 2 with fail;refine nW fun ab c=>?_;have a1:=gT c a0;have Z:=xP c i;have V:=yA c ad;rw[i.out];clear c;have ae:=Z.c 0 rfl;go_wp2_with (refine zC rfl 77 (.tmp 3) rfl w.heap.size rfl V underlying77 rfl zrF ?_)
 refine(t ab).mono ?_;rintro f b7 ⟨rfl,h⟩;have B:=dD (a1.trans h);clear h ae;go_wp2;refine bodyPost_ret (results_tmp2 rfl _ _ _) rfl ?_;rw[D.out];exact⟨⟨_,rfl,zb.nil _ _ _⟩,B⟩
theorem zgO (Z:Mk w0 hi w b vl L V m vt T) (d:qo m T) (bc:m.sp.length<4):
  Xp prog 27 #[Xj (Xa ⟨b,0,Xb⟩)] w fun e w'=>(∃v,e= Xl v)/\Spc w0 hi b w L m T w':=by
 have f:=dD Z;have bk:=dD d;have bj:=dD bc;have a:=qu 4 Z;obtain⟨A,c⟩:=kA V.fl.n;have aw:Xo (m.fl.length=A):=show _=_ by rw[<-c.out];exact Z.rows.at.ns.2.2.2.2.2.2.1.symm
 have g:A<=5:=by
  rw[<-aw.out];obtain⟨⟨bn,bo,bp⟩,am,g⟩:=(qf m.fl m.cnt).1 d.st;omega
 have ax:=dD<|bS Z.gr;clear Z d bc;go_enter func27,ntmps27;go_wp2_with fail;refine a.mono ?_;clear a;rintro e a ⟨k,q,af,rfl,d,a,g,l,i,yn,h⟩;obtain⟨ac,rfl⟩:∃ac:Nat,af=(ac:Int):=⟨af.toNat,Wm⟩;have j:ac<4:=by rcases i with Z | Z <;> omega
 have av:Xo (L=[]->ac=0):=dD<|fun e=>Hm (yn e);have r:=dD d;have n:=dD<|f.keeps a;have j:=dD<|f.rows.spB.pick f a;have f:=dD h;clear d a g l i yn h;go_wp2;go_loopg [2,11] ac (fun bi au ap wr=>∃(p g:Nat) (l:List Ar) (h:Option Addr) (i:Nat) (K:Sli) (ag:List Int),p<=ac/\ac - p<=bi/\ap=I6 p/\au=(O h g i)/\Xo (Mk w0 hi wr b K ag V m vt T)/\Xo (Jw L ag)/\Xo (zG hi w wr)/\Xo (SpB w0.heap.size w.heap.size wr V m)/\Xo (zb arE w0.heap.size wr (O h g i) l)/\Xo (Qa m.fl.length l/\(wrL l).1=0/\QJ l 64<=4*p)/\Xo (p=0->l=[]))
 exact⟨0,0,[],Xb,0,k,q,nZ _,Wm,rfl,rfl,r,f,n,j,zb.nil _ _ _,(show _/\_ from⟨ziX _,rfl,Dc⟩),(fun _=>rfl)⟩;obtain⟨p,g,l,h,i,n,ar,a,a,rfl,rfl,Y,ay,bl,a,bb,j,bt⟩:=hrel;by_cases b4:p<ac
 ·have b5:=kC b4
  have d:Xo (L≠[]):=dD<|fun e=>Hm (av.out e);go_upto_region 3 with fail;obtain⟨z,P⟩:=Ww fun u=>MkE w0 hi b w L V m vt T u/\SpB w0.heap.size w.heap.size u V m/\zb arE w0.heap.size u (O h g i) l;have B:z wr.drew:=(P _).2 ⟨⟨n,ar,Y.aA (gW _),ay,bl.trans (zG.aA (gW _))⟩,a.aA (gW _),bb.aA (gW _)⟩;have b2:∀af:zg z,af.world.cell? ⟨b,8,Xb⟩=Xa (O V.fl.a A V.fl.c):=fun af=>by
   obtain⟨⟨_,_,mk,_,_⟩,_⟩:=(P _).1 af.holds;have:=mk.box.box.c 8 rfl;(try simp only[Sli.x]at this);rw[c.out]at this;exact this
  have an:Nonempty (zg z):=⟨⟨_,B⟩⟩;have C:Xo (∀(N:Int) w',0<N->z w'->Xp prog 22 #[Xj (Xa ⟨b,0,Xb⟩),I6 N] w' fun e s=>∃x:Int,e= Xl (I6 x)/\0<=x/\x<N/\z s/\zG hi w' s):=dD<|fun N w' bd d=>by
   obtain⟨⟨K,ag,f,a9,R⟩,ab,S⟩:=(P _).1 d;refine(qu N f).mono ?_;rintro e s ⟨aq,be,x,rfl,a0,a,_,aa,ai,_,W⟩;exact⟨x,rfl,aa,Wm,(P _).2 ⟨⟨aq,be,a0,a9.trans W,R.trans (f.keeps a)⟩,ab.pick f a,S.pick f a⟩,f.keeps a⟩
  refine qA (I:=z) 21 [(1,⟨fun v=>∃x:Int,v=I6 x/\0<=x/\x<12,fun _ _=>True,fun H U=>zG hi H U,fun _=>True⟩),(3,⟨fun v=>∃x:Int,v=I6 x/\0<=x/\x<4,fun _ _=>True,fun H U=>zG hi H U,fun _=>True⟩),(6,⟨fun v=>∃x:Int,v=I6 x/\0<=x/\x<3,fun _ _=>True,fun H U=>zG hi H U,fun _=>True⟩),(17,⟨fun v=>∃x:Int,v=I6 x/\0<=x/\x< (A:Int)+1,fun _ _=>True,fun H U=>zG hi H U,fun _=>True⟩),(20,⟨fun v=>∃y,v= Xj (Xa ⟨y,0,Xb⟩),fun v u=>∃y,v= Xj (Xa ⟨y,0,Xb⟩)/\zr u y 77 [I6 0,I6 0,Xh Xd,Xh Xd,Xh Xd,I6 0,I6 0]/\w.heap.size<=y/\∀ae,(O h g i).ownBlock=Xa ae->ae<y,fun H U=>zc H U,fun _=>True⟩)] B z2 Kr rfl rfl Dc ?hS ?hp ?hpre ?hpr0 ?_;case hS=>
   intro x ao;simp only[mC,nM,or_false]at ao;rcases ao with rfl|rfl|rfl|rfl|rfl;·exact⟨_,0,rfl,Wm,Wm⟩
   ·exact⟨_,0,rfl,Wm,Wm⟩
   ·exact⟨_,0,rfl,Wm,Wm⟩
   ·exact⟨_,0,rfl,Wm,Wm⟩
   exact⟨_,0,rfl⟩
  case hp=>
   intro ae b7 G b9 M a7 ah b1 v H U F b6;have k:=zz M;have r:=zz a7;clear M a7;simp only[mC,pJ,nM,or_false]at k r;rcases k with⟨rfl,rfl⟩|⟨rfl,rfl⟩|⟨rfl,rfl⟩|⟨rfl,rfl⟩|⟨rfl,rfl⟩;·trivial
   ·trivial
   ·trivial
   ·trivial
   obtain⟨y,c,q,a⟩:=b6;rcases r with⟨rfl,rfl⟩|⟨rfl,rfl⟩|⟨rfl,rfl⟩|⟨rfl,rfl⟩|⟨rfl,rfl⟩;·exact⟨y,c,F.1 _ _ _ q JG,a⟩
   ·exact⟨y,c,F.1 _ _ _ q JG,a⟩
   ·exact⟨y,c,F.1 _ _ _ q JG,a⟩
   ·exact⟨y,c,F.1 _ _ _ q JG,a⟩
   exact absurd rfl ah
  case hpre=>
   intro G b9 ae b7 a7 M ah H U F D;have r:=zz a7;clear M a7;simp only[mC,pJ,nM,or_false]at r;rcases r with⟨rfl,rfl⟩|⟨rfl,rfl⟩|⟨rfl,rfl⟩|⟨rfl,rfl⟩|⟨rfl,rfl⟩ <;> trivial
  case hpr0=>
   intro ae b9 M;have k:=zz M;clear M;simp only[mC,pJ,nM,or_false]at k;rcases k with⟨rfl,rfl⟩|⟨rfl,rfl⟩|⟨rfl,rfl⟩|⟨rfl,rfl⟩|⟨rfl,rfl⟩ <;> trivial
  simp only[Xx,Xy];refine zq ?_;refine zP rfl rfl (fun w' d D ad=>?_) (fun ba a8=>?_)
  ·refine zL.call [Xj (Xa ⟨b,0,Xb⟩),I6 12] rfl func22 rfl rfl rfl ?_;refine(C 12 w' Wm d).mono ?_;rintro e s ⟨x,rfl,aa,ai,Q,X⟩;exact⟨_,rfl,Q,X,⟨x,rfl,aa,ai⟩,trivial⟩
  obtain⟨t,rfl,aj,aj⟩:=a8;refine Uq ?_;refine zq ?_;refine zP rfl rfl (fun w' d D ad=>?_) (fun ba a8=>?_)
  ·refine zL.call [Xj (Xa ⟨b,0,Xb⟩),I6 4] rfl func22 rfl rfl rfl ?_;refine(C 4 w' Wm d).mono ?_;rintro e s ⟨x,rfl,aa,ai,Q,X⟩;exact⟨_,rfl,Q,X,⟨x,rfl,aa,ai⟩,trivial⟩
  obtain⟨bu,rfl,aj,aj⟩:=a8;refine Uq ?_;iterate 2 refine zq ?_
  refine zP rfl rfl (fun w' d D ad=>?_) (fun ba a8=>?_)
  ·refine zL.call [Xj (Xa ⟨b,0,Xb⟩),I6 3] rfl func22 rfl rfl rfl ?_;refine(C 3 w' Wm d).mono ?_;rintro e s ⟨x,rfl,aa,ai,Q,X⟩;exact⟨_,rfl,Q,X,⟨x,rfl,aa,ai⟩,trivial⟩
  obtain⟨bv,rfl,aj,aj⟩:=a8;refine Uq ?_;iterate 3 refine zq ?_
  refine Qy (.tmp 22) ⟨b,0,Xb⟩ rfl rfl rfl rfl ?_;refine Uq ?_;iterate 6 refine zq ?_
  refine zP rfl rfl (fun w' d D ad=>?_) (fun ba a8=>?_)
  ·refine zL.call [Xj (Xa ⟨b,0,Xb⟩),I6 ((A:Int)+1)] rfl func22 rfl rfl rfl ?_;refine(C ((A:Int)+1) w' Wm d).mono ?_;rintro e s ⟨x,rfl,aa,ai,Q,X⟩;exact⟨_,rfl,Q,X,⟨x,rfl,aa,ai⟩,trivial⟩
  obtain⟨bh,rfl,az,b0⟩:=a8;refine Uq ?_;iterate 2 refine zq ?_
  refine zP rfl rfl (fun w' d D ad=>?_) (fun ba a8=>?_);·obtain⟨⟨K,ag,f,a9,R⟩,ab,S⟩:=(P _).1 d;refine zL.step (v:= Xj (Xa ⟨w'.heap.size,0,Xb⟩)) (w':=w'.alloc (Xk #[I6 0,I6 0,Xh Xd,Xh Xd,Xh Xd,I6 0,I6 0] 77)) (by clear b2;simp only[execOp];go_simp) ⟨(P _).2 ⟨⟨K,ag,f.aA (za _ _),a9,R.trans (zG.aA (za _ _))⟩,ab.aA (za _ _),S.aA (za _ _)⟩,za _ _,⟨_,rfl⟩,_,rfl,zr.aE _ [I6 0,I6 0,Xh Xd,Xh Xd,Xh Xd,I6 0,I6 0] _ rfl,R.2,fun ae M=>(S.lt ae M).2⟩
  obtain⟨X,rfl⟩:=a8;refine Uq ?_;refine Zf fun C aj ad=>?_;obtain⟨C,c,q,a,C⟩:=ad 20;simp only[Value.pointer.injEq,Option.some.injEq,Addr.mk.injEq,and_true]at c;subst c;obtain⟨⟨aq,be,a0,W,c⟩,b8,b3⟩:=(P _).1 aj;have br:=dD a0;have bf:=dD W;have bq:=dD c;have bg:=dD b8;have bs:=dD b3;have bm:=dD q;have Q:=dD a;have al:=dD C;have ak:=dD<|nT ax a;clear q a C a0 W c b8 b3 ad aj b2 an B;obtain⟨W,a⟩:=kA (decide ((0:Int)<bu));obtain⟨c,a0⟩:∃c,Xo (decide ((0:Int)<bv)=c):=⟨_,rfl⟩;rw[a.out,a0.out];obtain⟨a,a0⟩:=kB (bh - 1);have bh:a< (A:Int):=Wm;have A:-1<=a:=Wm;rw[a0];refine z4 rfl 77 (.tmp 3) (.tmp 32) rfl X rfl [I6 t,I6 0,Xh W,Xh c,Xh Xd,I6 a,I6 0] rfl bm rfl zrF (arE.one ⟨t,0,W,c,Xd,a,0⟩) ?_;intro aj b2 C _;have A:=br.area bg C bm Q ak.out;have bm:=dD A.1;have bg:=dD A.2;have b8:=dD<|bq.own C Q.out;have bq:Xo (zb arE w0.heap.size aj (O h g i) l):=bs.grown C (fun y b3 e=>by cases e;have:=al.out _ b3;omega);have br:=dD b2;clear A b2 C az b0 a0;go_upto_region 4 with fail;simp only[Yt];obtain⟨z,P⟩:=Ww fun u=>MkE w0 hi b w L V m vt T u/\SpB w0.heap.size w.heap.size u V m/\zb arE w0.heap.size u (O h g i) l/\zr u X 77 [I6 t,I6 0,Xh W,Xh c,Xh Xd,I6 a,I6 0];have B:z aj.drew:=(P _).2 ⟨⟨aq,be,bm.aA (gW _),bf,b8.trans (zG.aA (gW _))⟩,bg.aA (gW _),bq.aA (gW _),br.aA (gW _)⟩;have a0:=fun af:zg z=>((P _).1 af.holds).2.2.2.box.c 0 rfl;have an:Nonempty (zg z):=⟨⟨_,B⟩⟩;refine qA (I:=z) 7 [(4,⟨fun v=>∃x:Int,v=I6 x/\0<=x/\x<4,fun _ _=>True,fun _ _=>True,fun _=>True⟩)] B z2 Kr rfl rfl Dc (Sa ⟨_,0,rfl,Wm,Wm⟩) ?hp ?hpre ?hpr0 ?_;case hp=>
   intro ae b7 G b9 M a7 ah b1 v H U F b6;have k:=zz M;simp only[mC,pJ,nM,or_false]at k;obtain⟨rfl,rfl⟩:=k;trivial
  case hpre=>
   intro G b9 ae b7 a7 M ah H U F D;have r:=zz a7;simp only[mC,pJ,nM,or_false]at r;obtain⟨rfl,rfl⟩:=r;trivial
  case hpr0=>
   intro ae b9 M;have k:=zz M;simp only[mC,pJ,nM,or_false]at k;obtain⟨rfl,rfl⟩:=k;trivial
  simp only[Xx,Xy];iterate 4 refine zq ?_
  refine zP rfl rfl (fun w' d D ad=>?_) (fun ba a8=>?_);·obtain⟨⟨K,ag,f,a9,R⟩,ab,S,z⟩:=(P _).1 d;refine zL.call [Xj (Xa ⟨b,0,Xb⟩),I6 4] rfl func22 rfl rfl rfl ?_;refine(qu 4 f).mono ?_;rintro e s ⟨U,az,x,rfl,r,d,_,aa,ai,_,k⟩;exact⟨_,rfl,(P _).2 ⟨⟨U,az,r,a9.trans k,R.trans (f.keeps d)⟩,ab.pick f d,S.pick f d,(f.keeps d).1 _ _ _ z JG⟩,trivial,⟨x,rfl,aa,Wm⟩,trivial⟩
  obtain⟨R,rfl,d,d⟩:=a8;refine Uq ?_;iterate 2 refine zq ?_
  refine Zf fun M d ad=>?_;obtain⟨⟨U,az,r,k,f⟩,A,s,z⟩:=(P _).1 d;have a8:=dD r;have aa:=dD k;have aq:=dD f;have D:=dD A;have F:=dD s;have C:=dD z;clear r k f A s z ad d a0 an B;obtain⟨d,f⟩:=kA (t+1+R);have ai:Xo ((d - t).toNat<=4):=show _<=_ by rw[<-f.out];omega
  have b2:=C.box.c 1 rfl;have a0:=C.box.f;rw[f.out];go_upto_region 5 with fail;clear b2 a0;obtain⟨B,f⟩:=kB (M.setCell ⟨X,1,Xb⟩ (I6 d));have k:M.grownBy B (Xa X):=by rw[<-f];exact jC _ _ _ _
  have b1:Xo (zr B X 77 [I6 t,I6 d,Xh W,Xh c,Xh Xd,I6 a,I6 0]):=dD (by rw[<-f];exact C.set 1 _);have r:=a8.area D k C Q ak.out;have a9:=dD r.1;have ab:=dD r.2;have af:=dD<|aq.own k Q.out;have be:Xo (zb arE w0.heap.size B (O h g i) l):=F.grown k (fun y b3 e=>by cases e;have:=al.out _ b3;omega);rw[f];clear f k r;have ah:=b1.box.c 5 rfl;go_upto_if 42 with fail
  go_cut [2,11] (fun au ap s=>au= O h g i/\ap=I6 p/\∃(k:Bool) (r:Int) (f:Sli) (P:List Int),Xo (Mk w0 hi s b f P V m vt T)/\Xo (SpB w0.heap.size w.heap.size s V m)/\Xo (zG hi w s)/\Xo (zb arE w0.heap.size s (O h g i) l)/\Xo (zr s X 77 [I6 t,I6 d,Xh W,Xh c,Xh k,I6 a,I6 r])/\Xo (Jw L P))
  case first=>
   by_cases ae:0<=a
   ·have ba:decide ((0:Int)<=a)=Xc:=Si ae
    have s:=qu 2 a9.out;go_wp2_with fail;refine s.mono ?_;clear s ah;rintro e ad ⟨s,s,bm,rfl,C,s,_,_,_,_,z⟩;have A:=dD C;have R:=dD<|ab.pick a9 s;have an:=dD (af.trans (a9.keeps s));have b9:=dD<|be.pick a9 s;have bg:=dD<|(a9.keeps s).1 _ _ _ b1 JG;have F:=dD (aa.trans z);clear C s z;have s:=qu 4 A.out;go_wp2_with fail;refine s.mono ?_;clear s;rintro e b6 ⟨f,P,r,rfl,D,s,_,z,z,_,C⟩;have b0:=dD D;have S:=dD<|R.pick A s;have ap:=dD (an.trans (A.keeps s));have bf:=dD<|b9.pick A s;have P9:=dD<|(A.keeps s).1 _ _ _ bg JG;have z:=dD (F.trans C);clear D s C;obtain⟨k,s⟩:=kA (bm == 1);try rw[s.out]
    have b2:=P9.box.c 4 rfl;have C:=P9.box.c 6 rfl;have a0:=P9.box.f;go_upto_region 7 with fail;try rw[s.out]
    clear b2 C a0;obtain⟨b9,s⟩:=kB ((b6.setCell ⟨X,4,Xb⟩ (Xh k)).setCell ⟨X,6,Xb⟩ (I6 r));have C:b6.grownBy b9 (Xa X):=(by rw[<-s];exact jI (jC _ _ _ _) (jC _ _ _ _));have b2:Xo (zr b9 X 77 [I6 t,I6 d,Xh W,Xh c,Xh k,I6 a,I6 r]):=dD (by rw[<-s];exact(P9.set 4 _).set 6 _);have D:=b0.area S C P9 Q ak.out;have R:=dD D.1;have S:=dD D.2;have F:=dD<|ap.own C Q.out;have Q:Xo (zb arE w0.heap.size b9 (O h g i) l):=bf.grown C (fun y b3 e=>by cases e;have:=al.out _ b3;omega);rw[s];clear s C D;try go_wp2
    go_meet;exact⟨rfl,rfl,k,r,f,P,R,S,F,Q,b2,z⟩
   have ba:decide ((0:Int)<=a)=Xd:=Si ae;try go_wp2
   go_meet;exact⟨rfl,rfl,Xd,0,U,az,a9,ab,af,be,b1,aa⟩
  clear ah;obtain⟨rfl,rfl,k,r,f,P,R,S,F,Q,b2,z⟩:=hcut;obtain⟨C,a9,aa,ab,ae,ah,ak⟩:=b2.box.c7;have s:=zl1 (O h g i) l ⟨t,d,W,c,k,a,r⟩ wc Q.at Q.cap j.2.1;have U:Xo ((zdJ l ⟨t,d,W,c,k,a,r⟩).2=0->Qa m.fl.length (zdJ l ⟨t,d,W,c,k,a,r⟩).1/\(wrL (zdJ l ⟨t,d,W,c,k,a,r⟩).1).1=0/\QJ (zdJ l ⟨t,d,W,c,k,a,r⟩).1 64<=4*(p+1)):=dD<|fun D=>⟨ziY j.1 (by show a<_;rw[aw.out];exact bh) D,zqI D,by have X:=zo2 D;have aw:=ai.out;have az:=j.2.2;dsimp only at X;omega⟩;go_wp2_with fail;refine s.mono ?_;clear s C a9 aa ab ae ah ak;rintro e b1 ⟨⟨u,rfl,s⟩,C⟩;obtain⟨a9,aa,rfl⟩:=s.form;generalize zdJ l ⟨t,d,W,c,k,a,r⟩=a at U s⊢;obtain⟨t,d⟩:=a;dsimp only at U s⊢;have ae:=dD (R.aA C);have a:=dD (S.aA C);have ab:=dD (F.trans (zG.aA C));have u:=dD (Q.aA C);have r:=dD<|s.base (nT ax F.2);clear C s;obtain⟨s,c⟩:=kA t.length;rw[c.out]at r⊢;by_cases D:d=0
  ·have k:(d == 0)=Xc:=by simp[D]
   have c:=dD<|U.out D;clear D;go_wp2;go_roundg (ac -(p+1));exact⟨p+1,s,t,a9,aa,f,P,Wm,Wm,Gn,rfl,ae,z,ab,a,r,c,(fun Z=>Wm)⟩;omega
  have k:(d == 0)=Xd:=by simp[D]
  clear D;go_wp2;go_roundg (ac -(p+1));exact⟨p+1,g,l,h,i,f,P,Wm,Wm,Gn,rfl,ae,z,ab,a,u,(show _/\_ from⟨j.1,j.2.1,Hm j.2.2⟩),(fun Z=>Wm)⟩;omega
 have b5:=kD b4;have W:Xo (L=[]->l=[]):=dD<|fun e=>bt.out (Hm (av.out e));obtain⟨d,a,au,c⟩:=Y.rows.sp;have k:=dD a;have f:=dD au;have u:=dD c;clear a au c;obtain⟨s,r⟩:=kA m.sp.length;have a:s<4:=Ry r.out bj.out;have t:=Y.box.box.c 11 rfl;have a:=dD<|bS Y.gr;go_wp2_with (at_builtin;refine zy (E:=ZZ) rfl (.tmp 65) (.tmp 68) rfl w0.heap.size _ d rfl (k.aA (za _ _)) _ [⟨Xc,⟨h,g,i⟩,zF,zF,zF,zF,zF,zF,zF,zF⟩] rfl (jZ ZZ wr ⟨Xc,⟨h,g,i⟩,zF,zF,zF,zF,zF,zF,zF,zF⟩ _ _ rfl Dc) ?qb ?qc ?_)
 case qb=>
  rw[f.out,r.out];show(s+1)*224<=_;omega
 case qc=>have:=a.out;omega
 intro a aj z a;obtain⟨am,D,rfl⟩:=z.form;obtain⟨N,bd⟩:=kB ((d++ [(⟨Xc,⟨h,g,i⟩,zF,zF,zF,zF,zF,zF,zF,zF⟩:SpV)]).length);have c:(N:Int) - 1=(s:Int):=by
  have:N=s+1:=by rw[<-bd,lA,f.out,r.out];rfl
  omega
 rw[bd]at z⊢;clear bd;obtain⟨al,d⟩:=kB (wr.alloc (Xk #[Xh Xc,O h g i,eS,eS,eS,eS,eS,eS,eS,eS] 63));have c:=gP d;rw[d]at a;clear d;have P:zr aj b 81 [n.x,V.f.x,I6 m.aB,V.s.x,V.sb.x,V.sq.x,V.db.x,V.dq.x,V.fl.x,I6 m.cnt,V.ca.x,V.sp.x,vt.x]:=zr.row (k.aA c) a (Y.box.aA c) Dc
 have ac:Xo (MkR w0.heap.size hi aj { V with sp:=⟨am,N,D⟩ } { m with sp:=m.sp++ [⟨Xc,l,qJ⟩] } vt T):=(Y.rows.aA c).addSp (k.aA c) f (fun S x b7 ao f=>by
  obtain⟨bn,bo,bp⟩:=u.out S x b7 ao f;exact⟨bn,bo.aA c,bp⟩) a ⟨am,N,D⟩ ⟨h,g,i⟩ (bb.aA c) z
 have aa:=dD<|zc.row (k.aA c) a (Y.gr.trans c);have b8:=dD<|(bl.trans (zG.aA c)).trans (zG.row (k.aA c) a (fun H Q=>Q.2.2.2.2.2.2.1 rfl));have U:Xo (zb arE w0.heap.size aj (O h g i) l):=dD<|by
  cases f:(V.sp.x).ownBlock with
  | none=>
   rw[f]at a;exact(bb.aA c).aA (qq a)
  | some y=>
   obtain⟨ao,ak⟩:=(k.aA c).obj f;rw[f]at a;exact(bb.aA c).kind a ak Dc
 have k:=dD P;have u:Xo (w0.heap.size<=b/\zp byE w0 (n.x) ar/\n.n<=n.c/\∀a9∈ar,0<=a9/\a9<256):=show _/\_ from⟨Y.hb,Y.lr,Y.lc,Y.lb⟩;clear P z a c t;have t:=k.box.c 11 rfl;have a0:=k.box.f;go_upto_region 12 with fail;clear t a0;obtain⟨M,z⟩:=kB (aj.setCell ⟨b,11,Xb⟩ (O am N D));have a:aj.grownBy M (Xa b):=by rw[<-z];exact jC _ _ _ _
 have a8:Xo (Mk w0 hi M b n ar { V with sp:=⟨am,N,D⟩ } { m with sp:=m.sp++ [⟨Xc,l,qJ⟩] } vt T):=dD<|⟨zd aa a u.1,u.1,by rw[<-z];exact k.set 11 _,u.2.1,u.2.2.1,u.2.2.2,ac.var a k a.size (.inl rfl)⟩;have aq:=dD<|b8.trans (zG.kind a k (fun _ Q=>absurd rfl Q.1));have Y:Xo (zb arE w0.heap.size M (O h g i) l):=U.kind a k Dc;rw[z];clear z a;obtain⟨z,k⟩:=kA T.length;have P:Xo (z=s):=dD<|by rw[<-k.out,bk.tl,r.out]
 have U:=a8.box.box.c 12 rfl;have a:=dD<|bS a8.gr;go_wp2_with (at_builtin;refine zy (E:=zcO) rfl (.tmp 77) (.tmp 79) rfl w0.heap.size _ T rfl (a8.rows.tt.aA (za _ _)) _ [fun _=>en0] rfl (jZ zcO M (fun _=>en0) _ _ rfl Dc) ?qb ?qc ?_)
 case qb=>
  rw[k.out];show(z+1)*1536<=_;have:=P.out;omega
 case qc=>exact nT a (bS (za _ _))
 intro a B z a9;obtain⟨ah,ai,rfl⟩:=z.form;obtain⟨ac,aa⟩:=kB ((T++ [fun _=>en0]).length);rw[aa]at z⊢;obtain⟨al,d⟩:=kB (M.alloc (Xk (zcO.enc (fun _=>en0)).toArray 56));have c:=gP d;have a:al.grownBy B (vt.x).ownBlock:=Ry d a9;clear a9 d aa;have d:=a8.aA c;have M:Xo (zr B b 81 [n.x,V.f.x,I6 m.aB,V.s.x,V.sb.x,V.sq.x,V.db.x,V.dq.x,V.fl.x,I6 m.cnt,V.ca.x,O am N D,vt.x]):=zr.row d.rows.tt a d.box Dc;have a9:=dD<|d.rows.addT a ⟨ah,ac,ai⟩ z;have a8:=dD<|zc.row d.rows.tt a d.gr;have af:=dD<|(aq.trans (zG.aA c)).trans (zG.row d.rows.tt a (fun H Q=>Q.2.2.2.2.2.2.2.1 rfl));have H:Xo (zb arE w0.heap.size B (O h g i) l):=dD<|by
  cases f:(vt.x).ownBlock with
  | none=>
   rw[f]at a;exact(Y.aA c).aA (qq a)
  | some y=>
   obtain⟨ao,ak⟩:=d.rows.tt.obj f;rw[f]at a;exact(Y.aA c).kind a ak Dc
 clear a z c U;have U:=M.box.c 12 rfl;have a0:=M.box.f;go_upto_region 13 with fail;clear U a0;obtain⟨ad,c⟩:=kB (B.setCell ⟨b,12,Xb⟩ (O ah ac ai));have a:B.grownBy ad (Xa b):=by rw[<-c];exact jC _ _ _ _
 have A:Xo (Mk w0 hi ad b n ar { V with sp:=⟨am,N,D⟩ } { m with sp:=m.sp++ [⟨Xc,l,qJ⟩] } ⟨ah,ac,ai⟩ (T++ [fun _=>en0])):=dD<|⟨zd a8 a u.1,u.1,by rw[<-c];exact M.set 12 _,u.2.1,u.2.2.1,u.2.2.2,a9.var a M a.size (.inl rfl)⟩;have an:=dD<|af.trans (zG.kind a M (fun _ Q=>absurd rfl Q.1));have d:Xo (zb arE w0.heap.size ad (O h g i) l):=H.kind a M Dc;rw[c];clear c a;obtain⟨u,a⟩:∃u:Sli,Xo (u=⟨ah,ac,ai⟩):=⟨_,rfl⟩;rw[<-a.out]at A;have y:=dD<|bk.space j.2.1 bj.out;have t:=A.box.box.c 11 rfl;have a:=ZJ (O h g i) l ad d.at (jT.1 j.2.1).2.lies;go_wp2_with fail;refine a.mono ?_;clear a t;rintro e b1 ⟨rfl,C⟩;have ae:=dD (A.aA C)
 have ab:=dD (an.trans (zG.aA C));clear C;have f:Xo (∀{c:Array Oper} {a:List Oper} {h:Oper} {d:Act} {w:Xn} {Q:Exit->Act->Xn->Prop} (_:h.guard=Xb) (x g:Operand) (_:h.op= .index 68 x g) (_:d.eval x= Xi (zB (tab (zo l))).toArray) (S:Nat) (_:d.eval g=I6 (S:Int)) (_:S<64) {v:Xq} (_: Xi (onv (zo l S)).toArray=v)
  (_:wpList prog c Q a (d.put h.dst v) w),wpList prog c Q (h :: a) d w):=fun X x g aw az S bc a _ c d=>zfx X x g aw (zo l) az S bc a c d
 generalize zB (tab (zo l))=C at f⊢;have A:Xo (({ m with sp:=m.sp++ [⟨Xc,l,qJ⟩] }:Ma).sp[s]? =Xa ⟨Xc,l,qJ⟩):=dD<|by
  show(m.sp++ [(⟨Xc,l,qJ⟩:Sp)])[s]? =_;rw[aR (by rw[r.out];exact nR _),r,Yr];rfl
 have d:Xo ((T++ [fun _=>en0])[s]? =Xa (fun _=>en0)):=dD<|by
  rw[aR (by rw[k.out,P.out];exact nR _),k,P,Yr];rfl
 go_wp2;go_loopg [92] 64 (fun bi g wr=>∃(p:Nat) (K:Sli) (ag:List Int) (h:MaV) (a:Ma) (c:List (Nat->En)) (k:Nat->En),p<=64/\64 - p<=bi/\g=I6 p/\Xo (Mk w0 hi wr b K ag h a u c)/\Xo (Jw L ag)/\Xo (zG hi w wr)/\Xo (qo a c)/\Xo (a.sp=m.sp++ [⟨Xc,l,qJ⟩]/\a.fl=m.fl/\a.aB=m.aB/\a.fs.length=m.fs.length)/\Xo (c[s]? =Xa k/\∀G,p<=G->k G=en0)/\Xo (L=[]->a={ m with sp:=m.sp++ [⟨Xc,l,qJ⟩] }/\c=(T++ [fun _=>en0])))
 exact⟨0,n,ar,_,_,_,fun _=>en0,nZ _,Wm,rfl,ae,ay,ab,y,(show _/\_ from⟨rfl,rfl,rfl,rfl⟩),(show _/\_ from⟨d,fun _ _=>rfl⟩),(fun _=>⟨rfl,rfl⟩)⟩;obtain⟨c,B,N,S,U,P,k,a,q,rfl,R,i,F,H,g,a,M⟩:=hrel;by_cases d:c<64
 ·have n:(c:Int)<64:=Wm
  obtain⟨y,h⟩:=kA (zo l c);obtain⟨z,r,x,t,p,q⟩:=y;have y:Xo (Value.agg (onv (zo l c)).toArray= Xi #[Xh z,Xh r,Xh x,Xh t,I6 p,I6 q]):=dD<|Rr h.out;cases z with
  | false=>
   go_wp2_with (refine f rfl (.tmp 91) (.tmp 92) rfl rfl c rfl d y.out ?_)
   go_roundg (64 -(c+1));exact⟨c+1,B,N,S,U,P,k,Wm,Wm,Gn,R.aA (za _ _),i,F.trans (zG.aA (za _ _)),H,g,(show _/\_ from⟨a.1,fun G a7=>a.2 G Wm⟩),M⟩;omega
  | true=>
   have K:Xo (L≠[]):=dD<|fun e=>by
    have X:=h.out;rw[W.out e]at X;cases X
   go_upto_region 17 with(refine f rfl (.tmp 91) (.tmp 92) rfl rfl c rfl d y.out ?_)
   obtain⟨f,z⟩:=kA wr.heap.size;refine nW fun b6 f=>?_;have C:=gP f;have y:=xP f z;rw[z.out];have b0:=dD (R.aA C);have ap:=dD (F.trans (zG.aA C));clear f C;obtain⟨z,C,Q,X,D,Y⟩:=y.k6;have f:=zm0 s c ⟨Xc,l,qJ⟩ k ⟨Xc,r,x,t,p,q⟩ b0 H (Rx g.1 A) a.1 d (a.2 c (nR _)) h rfl (Rx g.2.1 j.1);go_wp2_with fail;refine f.mono ?_;clear f z C Q X D Y;rintro e d ⟨⟨v,rfl⟩,D,X,a8,A,Q,f,h,p,q,⟨r,t,x,y⟩,z,_⟩;obtain⟨C,d⟩:∃C,Q[s]? =Xa C/\∀G,c+1<=G->C G=en0:=by
    rcases z with rfl|⟨e,rfl⟩;·exact⟨k,a.1,fun G a7=>a.2 G Wm⟩
    refine⟨qZ k c e,sF (gS.1 a.1).1,fun G a7=>?_⟩;unfold qZ;rw[kF Wm];exact a.2 G Wm
   have Y:=dD f;have a:=dD (i.trans h);have G:=dD (ap.trans p);have k:=dD q;have a0:Xo (A.sp=m.sp++ [⟨Xc,l,qJ⟩]/\A.fl=m.fl/\A.aB=m.aB/\A.fs.length=m.fs.length):=show _/\_ from⟨r.trans g.1,t.trans g.2.1,x.trans g.2.2.1,y.trans g.2.2.2⟩;have s:=dD d;clear f h p q r t x y z d;go_wp2;go_roundg (64 -(c+1));exact⟨c+1,D,X,a8,A,Q,C,Wm,Wm,Gn,Y,a,G,k,a0,s,(fun Z=>absurd Z K)⟩;omega
 have n:¬(c:Int)<64:=Wm
 have a:Xo (Spc w0 hi b w L m T wr):=dD<|⟨B,N,S,U,u,P,l,R,i,F,H,g,⟨j.1,Hm j.2.2⟩,fun e=>by
  obtain⟨c,d⟩:=M.out e;rw[W.out e]at c;exact⟨c,d⟩⟩
 go_wp2;exact Wq a.out
theorem ziu (x) (f:o.op= .load 56 x) (b c:Nat) (g:a.eval x= Xj (Xa ⟨b,c,Xb⟩)) (d:w.rangeAt b c vs) (e:vs.length=192):(execOp a.eval o).run prog w= .ok (.value (Xi vs.toArray)) w:=by have:=run_loadAt_mid (P:=prog) w b c 56 vs _ d underlying56 rfl (Rx e zrM);simp only[execOp,f,g,Xu,this,rA,Xt]
theorem zb.range {c:Nat} (h:zb E k w (O (Xa ⟨b,0,Xb⟩) p c) y) {i:Nat} {x:α} (n:y[i]? =Xa x):w.rangeAt b (i*E.k) (E.enc x):=fun j v a=>by
 have:=h.one n j v a;rw[zX,Ya,zA]at this;exact this
structure MkT (base hi ht k:Nat) (w:Xn) (V:MaV) (m:Ma) (vt:Sli) (T:List (Nat->En)):Prop where
 fs:zb qx base w (O V.f.a V.f.n V.f.c) m.fs
 sl:zb slE base w (O V.s.a V.s.n V.s.c) m.sl
 aZ:∀g,(O V.s.a V.s.n V.s.c).ownBlock=Xa g->g<hi
 sb:zl base w (O V.sb.a V.sb.n V.sb.c) m.sb
 sq:V.sq=zF/\m.sq=[]
 db:zl base w (O V.db.a V.db.n V.db.c) m.db
 dq:zs base w (O V.dq.a V.dq.n V.dq.c) m.dq
 fl:∃xs:List FlV,zb fvE base w (O V.fl.a V.fl.n V.fl.c) xs/\xs.length=m.fl.length/\∀(i:Nat) x f,xs[i]? =Xa x->m.fl[i]? =Xa f->x.size=f.size/\zb blE hi w x.v f.bl
 ca:zb qE base w (O V.ca.a V.ca.n V.ca.c) m.ca
 sp:∃xs:List SpV,zb ZZ base w (O V.sp.a V.sp.n V.sp.c) xs/\xs.length=m.sp.length/\∀(i:Nat) x s f,xs[i]? =Xa x->m.sp[i]? =Xa s->T[i]? =Xa f->x.aF=s.aF/\zb arE base w x.ar.v s.aC/\(i<k->QY 0 ht w x.tab (Zm f))/\(k<=i->x.tab=Jv)
 tt:zb zcO base w (O vt.a vt.n vt.c) T
 ap:(∀g,(O V.sb.a V.sb.n V.sb.c).ownBlock=Xa g->(O V.db.a V.db.n V.db.c).ownBlock≠Xa g)/\zfp m
 lo:∀g,(O V.f.a V.f.n V.f.c).ownBlock=Xa g\/(O V.s.a V.s.n V.s.c).ownBlock=Xa g\/(O V.fl.a V.fl.n V.fl.c).ownBlock=Xa g\/(O V.ca.a V.ca.n V.ca.c).ownBlock=Xa g\/(O V.sp.a V.sp.n V.sp.c).ownBlock=Xa g->g<ht
 hts:ht<=w.heap.size
section
variable{base hi ht k:Nat} {w w':Xn} {V:MaV} {m:Ma} {vt:Sli} {T:List (Nat->En)}
theorem MkR.start (h:MkR base hi w V m vt T) (ht:Nat) (b:w.heap.size=ht):MkT base hi ht 0 w V m vt T:=by
 have c:∀g,(V.f.x).ownBlock=Xa g\/(V.s.x).ownBlock=Xa g\/(V.fl.x).ownBlock=Xa g\/(V.ca.x).ownBlock=Xa g\/(V.sp.x).ownBlock=Xa g->g<ht:=fun g a=>by
  obtain⟨_,e,_⟩:=h.fl;obtain⟨_,d,_⟩:=h.sp;rcases a with a|a|a|a|a;·have:=(h.fs.lt g a).2;omega
  ·have:=(h.sl.lt g a).2;omega
  ·have:=(e.lt g a).2;omega
  ·have:=(h.ca.lt g a).2;omega
  have:=(d.lt g a).2;omega
 obtain⟨f,d,a,e⟩:=h.sp;exact⟨h.fs,h.sl,h.aZ,h.sb,h.sq,h.db,h.dq,h.fl,h.ca,⟨f,d,a,fun i x s f d a _=>⟨(e i x s d a).1,(e i x s d a).2.1,fun f=>absurd f (nL _),fun _=>(e i x s d a).2.2.1⟩⟩,h.tt,h.ap,c,Nat.le_of_eq b.symm⟩
theorem MkT.aA (h:MkT base hi ht k w V m vt T) (g:zc w w'):MkT base hi ht k w' V m vt T:=by obtain⟨f,a,c,b⟩:=h.fl;obtain⟨l,e,j,d⟩:=h.sp;exact⟨h.fs.aA g,h.sl.aA g,h.aZ,h.sb.aA g,h.sq,h.db.aA g,h.dq.aA g,⟨f,a.aA g,c,fun i x f a c=>⟨(b i x f a c).1,(b i x f a c).2.aA g⟩⟩,h.ca.aA g,⟨l,e.aA g,j,fun i x s f a c b=>⟨(d i x s f a c b).1,(d i x s f a c b).2.1.aA g,fun e=>((d i x s f a c b).2.2.1 e).aA g,(d i x s f a c b).2.2.2⟩⟩,h.tt.aA g,h.ap,h.lo,nT h.hts (bS g)⟩
theorem MkT.table (h:MkT base hi ht k w V m vt T) {c:List SpV} (s2:c.length=m.sp.length) (s3:∀(i:Nat) x s f,c[i]? =Xa x->m.sp[i]? =Xa s->T[i]? =Xa f->x.aF=s.aF/\zb arE base w x.ar.v s.aC/\(i<k->QY 0 ht w x.tab (Zm f))/\(k<=i->x.tab=Jv)) {g:Nat} {cs:Array Xq} (b:w.heap[g]? =Xa (Xk cs 63 (0,0))) (n:g<ht) (a:w.grownBy w' (Xa g)) {x y:SpV} {f:Nat->En} (l:c[k]? =Xa x) (d:T[k]? =Xa f) (t:y.aF=x.aF/\y.ar=x.ar) (v:QY 0 ht w' y.tab (Zm f)) (u:zb ZZ base w' (V.sp.x) (c.set k y)):MkT base hi ht (k+1) w' V m vt T:=by
 obtain⟨z,q,r,p⟩:=h.fl;have j:Out 0 ht w w':=Out.grown a (fun e e=>by cases e;exact⟨nZ _,n⟩);refine⟨h.fs.kind a b Dc,h.sl.kind a b Dc,h.aZ,⟨qC h.sb.1 a b Dc,h.sb.2⟩,h.sq,⟨qC h.db.1 a b Dc,h.db.2⟩,⟨qC h.dq.1 a b Dc,h.dq.2⟩,⟨z,q.kind a b Dc,r,fun i x f l d=>⟨(p i x f l d).1,(p i x f l d).2.kind a b Dc⟩⟩,h.ca.kind a b Dc,⟨c.set k y,u,Rx Yg s2,fun i z s u n r c=>?_⟩,h.tt.kind a b Dc,h.ap,h.lo,nT h.hts a.size⟩;by_cases e:i=k;·subst e;rw[sF (gS.1 l).1]at n;cases n;rw[d]at c;cases c;obtain⟨p,q,_⟩:=s3 i x s f l r d;exact⟨t.1.trans p,Rx t.2 (q.kind a b Dc),fun _=>v,fun e=>Wm⟩
 rw[sN (fun h=>e h.symm)]at n;obtain⟨p,q,d,e⟩:=s3 i z s u n r c;exact⟨p,q.kind a b Dc,fun a=>(d Wm).out j,fun a=>e Wm⟩
theorem MkT.mach (h:MkT base hi ht m.sp.length w V m vt T) (q:T.length=m.sp.length) (p:Int):zR w V (QE m T p):=by
 obtain⟨z,d,n,e⟩:=h.fl;obtain⟨A,v,j,y⟩:=h.sp;obtain⟨t,u⟩:=h.sq;refine⟨h.fs.at,h.sl.at,h.sb.at,?_,h.db.at,h.dq.at,⟨d.cap,z,d.at.s0,n,fun i x f b g=>⟨(e i x f b g).1,(e i x f b g).2.at.s0⟩⟩,h.ca.at,⟨A,v.at,by simp[QE,q,j],fun i x s b r=>?_⟩⟩
 ·show jX w (V.sq.x) m.sq
  rw[t,u];exact⟨⟨Xb,0,rfl,fun _=>rfl,fun x b=>by cases b⟩,Sm,Sm⟩
 have a:(List.zipWith (fun s f=>({ s with tb:=Zm f }:Sp)) m.sp T)[i]? =Xa s:=r;rw[List.getElem?_zipWith]at a;have hi:i<m.sp.length:=by rw[<-j];exact(gS.1 b).1
 rw[gE hi,gE (show i<T.length by omega)]at a;simp only[Option.some.injEq]at a;obtain⟨k,c,l,_⟩:=y i x _ _ b (gE hi) (gE (show i<T.length by omega));subst a;exact⟨k,c.at,c.cap,(l hi).now⟩
end
structure zo6 (w0 w:Xn) (b:Nat) (vl:Sli) (L:List Int) (cs:List Xq):Prop where
 gr:zc w0 w
 hb:w0.heap.size<=b
 box:zr w b 81 (O vl.a vl.n vl.c :: cs)
 lr:zp byE w0 (O vl.a vl.n vl.c) L
 lc:vl.n<=vl.c
 lb:∀z∈L,0<=z/\z<256
theorem Mk.aU (h:Mk w0 hi w b vl L V m vt T):zo6 w0 w b vl L [V.f.x,I6 m.aB,V.s.x,V.sb.x,V.sq.x,V.db.x,V.dq.x,V.fl.x,I6 m.cnt,V.ca.x,V.sp.x,vt.x]:=⟨h.gr,h.hb,h.box,h.lr,h.lc,h.lb⟩
theorem zn1 (n:Int) (j:zo6 w0 w b vl L D):
  Xp prog 22 #[Xj (Xa ⟨b,0,Xb⟩),I6 n] w fun e w'=>∃F g x,e= Xl (I6 x)/\zo6 w0 w' b F g D/\w.grownBy w' (Xa b)/\w'.heap.size=w.heap.size/\0<=x/\(x=0\/x<n)/\(L=[]->x=0)/\Jw L g:=by
 have d:=dD j;have l:=j.box.box;have I:=l.c 0 rfl;have a6:=l.f;have h:=j.lr.n;clear l;obtain⟨⟨a2,t,f⟩,cs⟩:∃Z:Sli,vl=Z:=⟨_,rfl⟩;subst cs;dsimp only[Sli.x]at I h d;clear j;by_cases u:t=0
 ·subst u;clear h;go_enter func22,ntmps22;go_wp2;go_ret;exact⟨_,L,0,rfl,d,World.grownBy.rfl' _ _,rfl,Int.le_refl _,.inl rfl,fun _=>rfl,Jw.refl L⟩
 have Q:((t:Int) == 0)=Xd:=by simp;omega
 have R:(t == 0)=Xd:=by simp[u]
 by_cases a1:n<1
 ·clear u h
  go_enter func22,ntmps22;go_wp2;go_ret;exact⟨_,L,0,rfl,d,World.grownBy.rfl' _ _,rfl,Int.le_refl _,.inl rfl,fun _=>rfl,Jw.refl L⟩
 obtain⟨z,g,rfl⟩:∃z g,L=z :: g:=by
  cases L with
  | nil=>simp at h;omega
  | cons z g=>exact⟨z,g,rfl⟩
 have U:=d.lb z Sm;obtain⟨V,W⟩:=U;obtain⟨p,rfl,H⟩:=d.lr.bZ 0 z rfl;have a0:w.cell? p=Xa (U8 z):=by
  have:=H w d.gr 0 _ rfl;rw[zX]at this;simpa [byE,Addr.add]using this
 obtain⟨k,rfl⟩:∃k,t=k+1:=⟨t - 1,Wm⟩;have q:k+1<=f:=d.lc;have s:=zjy (w:=w) (ad:=p) (n:=k) (c:=f);clear u H;have T:(0:Int)< ((k+1:Nat):Int):=Wm;obtain⟨a,i⟩:∃a,(if f=1 then p else p.add 1)=a:=⟨_,rfl⟩;rw[i]at s;have A:Xo (zp byE w0 (O (Xa a) k (f - 1)) g):=dD<|by
  obtain⟨⟨a4,a5,K,a3,X⟩,M⟩:=d.lr;dsimp only[Sli.x]at K;cases K;have Y:=X p rfl;refine⟨⟨Xa a,f - 1,rfl,fun j=>(by cases j),fun P E=>?_⟩,?_⟩
  ·cases E
   by_cases S:f=1
   ·have:g=[]:=by
     have:g.length=0:=Wm;exact eN this
    subst this;intro v N r;simp at r
   rw[kF S]at i;subst i;intro v N r;rw[zX,Nat.add_comm 1 v];exact Y (v+1) N (by simpa [byE]using r)
  have:byE.bytes=1:=rfl;rw[this]at M⊢;simp at M⊢;omega
 have y:Xo (zr (w.setCell ⟨b,0,Xb⟩ (O (Xa a) k (f - 1))) b 81 (O (Xa a) k (f - 1) :: D)):=d.box.set 0 _;have m:Xo (w.grownBy (w.setCell ⟨b,0,Xb⟩ (O (Xa a) k (f - 1))) (Xa b)):=⟨rfl,rfl,rfl,by simp[World.setCell],fun v _ r=>Below.heap_setCell _ _ _ _ (fun e=>r (by rw[e]))⟩;have C:Xo ((w.setCell ⟨b,0,Xb⟩ (O (Xa a) k (f - 1))).heap.size=w.heap.size):=dD<|by simp[World.setCell]
 have B:Xo (zo6 w0 (w.setCell ⟨b,0,Xb⟩ (O (Xa a) k (f - 1))) b ⟨Xa a,k,f - 1⟩ g D):=show zo6 _ _ _ _ _ _ from
  ⟨zd d.gr m d.hb,d.hb,y,A,(show k<=f - 1 by omega),fun P E=>d.lb P (by simp[E])⟩
 have G:Xo (0<=z % n/\z % n<n):=dD<|⟨Int.emod_nonneg _ Wm,Int.emod_lt_of_pos _ Wm⟩;clear h q i;go_enter func22,ntmps22;go_wp2;go_ret;exact⟨_,g,z % n,rfl,B,m,C,G.1,.inr G.2,fun j=>(by cases j)⟩
theorem zlN (h:QY B0 B1 w us G):∃g t1 t2 j k l m n:Sli,us=[g.v,t1.v,t2.v,j.v,k.v,l.v,m.v,n.v]:=by
 have a:∀i v,us[i]? =Xa v->∃s:Sli,v=s.v:=fun i v b=>by
  obtain⟨y,f⟩:∃y,G[i]? =Xa y:=⟨_,gE (by rw[h.aJ,<-h.len];exact(gS.1 b).1)⟩;obtain⟨⟨c,d,e,_⟩,_⟩:=(h.row i v y b f).now;exact⟨⟨c,y.length,d⟩,e⟩
 obtain⟨p,q,r,u,x,z,A,B,rfl⟩:=zm5 h.len;obtain⟨C,rfl⟩:=a 0 p rfl;obtain⟨D,rfl⟩:=a 1 q rfl;obtain⟨E,rfl⟩:=a 2 r rfl;obtain⟨F,rfl⟩:=a 3 u rfl;obtain⟨t,rfl⟩:=a 4 x rfl;obtain⟨H,rfl⟩:=a 5 z rfl;obtain⟨K,rfl⟩:=a 6 A rfl;obtain⟨L,rfl⟩:=a 7 B rfl;grind
theorem zb.cF (h:zb E k w A y) (v:Out b (b+1) w w') (d:∀g,A.ownBlock=Xa g->g≠b):zb E k w' A y:=by
 refine⟨⟨h.1.1,?_⟩,h.2⟩;rcases h.1.2 with a|⟨g,a,c,rfl,f,e,h⟩;·grind
 exact .inr ⟨g,a,c,rfl,f,by rw[v.block g (aS.1 e).1 (Hm (d g rfl))];exact e,h⟩
theorem zr.cF (h:zr w k t D) (p:Out b (b+1) w w') (a:k≠b):zr w' k t D:=by have c:=h.box.lt;have a:w.heap[k]? =_:=h;show w'.heap[k]? =_;rw[p.block k c Wm];exact a
structure FC (w:Xn) (hi b:Nat) (u:Xn) (vl:Sli) (L:List Int) (V:MaV) (m:Ma) (pf:Nat) (sz:Int) (bs:Sli) (bl:List Int):Prop where
 mm:Mk w hi u b vl L V m zF []
 hp:hi<=pf
 fb:FlB w.heap.size hi pf u V m
 fn:∀g,(O V.fl.a V.fl.n V.fl.c).ownBlock=Xa g->g<pf
 box:zr u pf 84 [Xe Xf sz,O bs.a bs.n bs.c]
 row:zb blE (pf+1) u (O bs.a bs.n bs.c) bl
section
variable{w u u':Xn} {hi b pf:Nat} {vl vl' bs:Sli} {L L':List Int} {V V':MaV} {m m':Ma} {sz:Int} {bl:List Int}
theorem FC.aA (h:FC w hi b u vl L V m pf sz bs bl) (k:zc u u'):FC w hi b u' vl L V m pf sz bs bl:=⟨h.mm.aA k,h.hp,h.fb.aA k,h.fn,h.box.aA k,h.row.aA k⟩
theorem FlB.as (h:FlB w.heap.size hi pf u V m) (a:V'.fl=V.fl) (b:m'.fl=m.fl):FlB w.heap.size hi pf u V' m':=by unfold FlB at h⊢;rw[a,b];exact h
theorem zr.kind {a:TypeId} (h:zr u p t D) (b:u.grownBy u' (Xa k)) (c:u.heap[k]? =Xa (Xk Y a (0,0))) (ht:a≠t):zr u' p t D:=h.beside b (fun g e=>by
 cases e;intro e;subst e;have a:u.heap[p]? =_:=h;rw[c]at a;cases a;exact ht rfl)
theorem FC.kind (h:FC w hi b u vl L V m pf sz bs bl) (c:u.grownBy u' (Xa k)) (d:u.heap[k]? =Xa (Xk Y t (0,0))) (ht:t≠84) (a:t≠3) (e:Mk w hi u' b vl' L' V' m' zF []) (f:V'.fl=V.fl) (i:m'.fl=m.fl):FC w hi b u' vl' L' V' m' pf sz bs bl:=
 ⟨e,h.hp,(h.fb.kind c d (.inl ht) (.inl a)).as f i,Rx f h.fn,h.box.kind c d ht,h.row.kind c d a⟩
theorem FC.pick (h:FC w hi b u vl L V m pf sz bs bl) (c:u.grownBy u' (Xa b)) (a:Mk w hi u' b vl' L' V m zF []):FC w hi b u' vl' L' V m pf sz bs bl:=h.kind c h.mm.box Dc Dc a rfl rfl
theorem FC.fresh (h:FC w hi b u vl L V m pf sz bs bl) (a:u.grownBy u' (Xa k)) (c:u.heap[k]? =Xa (Xk Y 84 (0,0))) (d:pf<k):FC w hi b u' vl L V m pf sz bs bl:=by
 have d:(V.fl.x).ownBlock≠Xa k:=fun e=>Hm (h.fn k e);have f:w.heap.size<=k:=by have:=h.mm.rows.bh;have:=h.hp;omega
 exact⟨⟨zd h.mm.gr a f,h.mm.hb,h.mm.box.kind a c Dc,h.mm.lr,h.mm.lc,h.mm.lb,h.mm.rows.cL a c d⟩,h.hp,h.fb.kind a c (.inr d) (.inl Dc),h.fn,h.box.beside a (fun g e=>by cases e;omega),h.row.kind a c Dc⟩
theorem zn4 (w:Xn) (x:FlV):zb fvE w.heap.size (w.alloc (Xk (fvE.enc x).toArray 84)) (O (Xa ⟨w.heap.size,0,Xb⟩) 1 1) [x]:=by
 refine⟨⟨rfl,.inr ⟨w.heap.size,1,(fvE.enc x).toArray,rfl,nR _,?_,nR _,qD Wm,rfl,?_⟩⟩,by show 1*32<=_;omega⟩
 ·show(w.heap.push _)[w.heap.size]? =_
  simp;rfl
 simp[fvE,flv]
theorem FC.addB (h:FC w hi b u vl L V m pf sz bs bl) (a:u.grownBy u' (bs.x).ownBlock) (s:Sli) {c:List Int} (l:zb blE (pf+1) u' (s.x) c):
  zr u' pf 84 [I6 sz,bs.x]/\(∀p t cs,t≠3->t≠84->zr u p t cs->zr (u'.setCell ⟨pf,1,Xb⟩ (s.x)) p t cs)/\FC w hi b (u'.setCell ⟨pf,1,Xb⟩ (s.x)) vl L V m pf sz s c:=by
 have g:Mk w hi u' b vl L V m zF []/\FlB w.heap.size hi pf u' V m/\zr u' pf 84 [I6 sz,bs.x]/\(∀p t cs,t≠3->zr u p t cs->zr u' p t cs):=by
  cases c:(bs.x).ownBlock with
  | none=>
   rw[c]at a;have k:=qq a;exact⟨h.mm.aA k,h.fb.aA k,h.box.aA k,fun p t cs _ e=>e.aA k⟩
  | some i=>
   rw[c]at a;obtain⟨cs,d⟩:=h.row.obj c;have f:=(h.row.lt i c).1;have f:w.heap.size<=i:=(by have:=h.mm.rows.bh;have:=h.hp;omega);exact⟨⟨zd h.mm.gr a f,h.mm.hb,h.mm.box.kind a d Dc,h.mm.lr,h.mm.lc,h.mm.lb,h.mm.rows.ints h.fb a d Wm (Hm h.hp)⟩,h.fb.kind a d (.inl Dc) (.inr Wm),h.box.kind a d Dc,fun p t c c e=>e.kind a d (fun e=>c e.symm)⟩
 obtain⟨c,n,d,q⟩:=g;have a:=jC u' pf 1 (s.x);have g:(V.fl.x).ownBlock≠Xa pf:=fun e=>Hm (h.fn pf e);have f:w.heap.size<=pf:=by have:=h.mm.rows.bh;have:=h.hp;omega
 refine⟨d,fun p t cs i j k=>(q p t cs i k).kind a d (fun e=>j e.symm),⟨⟨zd c.gr a f,c.hb,c.box.kind a d Dc,c.lr,c.lc,c.lb,c.rows.cL a d g⟩,h.hp,n.kind a d (.inr g) (.inl Dc),h.fn,d.set 1 _,l.kind a d Dc⟩⟩
def FCE (w:Xn) (hi b:Nat) (L0:List Int) (V:MaV) (m:Ma) (pf:Nat) (sz:Int) (bs:Sli) (bl:List Int) (u:Xn):Prop:=∃vl L,FC w hi b u vl L V m pf sz bs bl/\Jw L0 L
end
theorem MkT.other (h:MkT k hi b p w V m vt T) {g:Nat} (a:w.grownBy w' (Xa g)) (ht:w.heap[g]? =Xa (Xk Y t (0,0))) (c:g<b) (e:t=81\/t=41):MkT k hi b p w' V m vt T:=by
 have d:t≠53/\t≠3/\t≠44/\t≠88/\t≠84/\t≠108/\t≠63/\t≠77/\t≠56:=by rcases e with rfl | rfl <;> decide
 obtain⟨i,e,f,base,q,r,s,u,v⟩:=d;obtain⟨B,x,y,j⟩:=h.fl;obtain⟨C,z,A,l⟩:=h.sp;have d:Out 0 b w w':=Out.grown a (fun n n=>by cases n;exact⟨nZ _,c⟩);exact⟨h.fs.kind a ht i,h.sl.kind a ht e,h.aZ,⟨qC h.sb.1 a ht f,h.sb.2⟩,h.sq,⟨qC h.db.1 a ht f,h.db.2⟩,⟨qC h.dq.1 a ht base,h.dq.2⟩,⟨B,x.kind a ht q,y,fun i x f c base=>⟨(j i x f c base).1,(j i x f c base).2.kind a ht e⟩⟩,h.ca.kind a ht r,⟨C,z.kind a ht s,A,fun i x s f c j e=>⟨(l i x s f c j e).1,(l i x s f c j e).2.1.kind a ht u,fun n=>((l i x s f c j e).2.2.1 n).out d,(l i x s f c j e).2.2.2⟩⟩,h.tt.kind a ht v,h.ap,h.lo,nT h.hts a.size⟩
theorem zfS:Loc hi k 41:=⟨Dc,Dc,Dc,Dc,Dc,Dc,Dc,Dc,fun h=>absurd h Dc⟩
theorem zrX:(Tryz.prog.info? 41).map (·.size)=Xa 11:=by kernel_rfl
def zme (nf ns nb k:Nat):Ma:=⟨Xr nf frF,0,Xr ns 0,Xr ns zt,[],Xr nb zt,[],[],nb,[],Xr k ⟨Xc,[],qJ⟩⟩
structure znG (w:Xn) (nf ns nb:Nat) (L:List Int) (w':Xn) (V:MaV) (m:Ma) (T:List (Nat->En)) (hd:Int) (hi ht:Nat) (vt:Sli):Prop where
 gr:zc w w'
 rows:MkT w.heap.size hi ht m.sp.length w' V m vt T
 inv:qo m T
 aB:0<=hd/\hd<max (m.fs.length:Int) 1
 fin:∀s∈m.sp,Qa m.fl.length s.aC/\QJ s.aC 64<=12
 fl2:m.fl.length<=2/\∀f∈m.fl,f.size<40
 sp:1<=m.sp.length/\m.sp.length<=2
 fsl:m.fs.length=nf
 new:L=[]->m=zme nf ns nb 1/\T=[fun _=>en0]/\hd=0
theorem znh (l:List En) (i:Nat):(QQ l i).length=8:=by simp[QQ]
theorem zoY (l:List En) (a:b<8):(QQ l k)[b]? =Xa (l[8*k+b]?.getD en0):=by unfold QQ;rw[Ys,Ym a];rfl
structure zqh (l:List En) (kk:Nat) (t:List (List En)):Prop where
 len:t.length=8
 at':∀j,j<8->t[j]? =Xa (if j<kk then mk (QQ l j)else [])
theorem zml (l:List En):zqh l 0 qJ:=⟨rfl,fun j a=>by rw[kF (nL _),qJ,Yk,kE a]⟩
theorem zhl (h:zqh H kk G) (a:kk<8):zqh H (kk+1) (G.set kk (mk (QQ H kk))):=by
 refine⟨by simp[h.len],fun j a=>?_⟩;by_cases e:j=kk;·subst e;rw[sF (by rw[h.len];exact a),kE (Nat.lt_succ_self _)]
 rw[sN (fun h=>e h.symm),h.at' j a];grind
theorem zoj (h:zqh H 8 G):G=Zs H:=by
 apply List.ext_getElem?;intro j;by_cases a:j<8;·rw[h.at' j a,kE a];unfold Zs;rw[Ys,Ym a];rfl
 rw[gN (by rw[h.len];omega),gN (by simp[Zs];omega)]
theorem zio (l:List En) (w:Xn) (cq:l.length=64) (B:∀e∈l,0<=e.kind):
  Xp prog 28 #[Xi (qk l).toArray] w fun e w'=>∃k,e= Xl (Xi k.toArray)/\QY 0 w.heap.size w' k (Zs l)/\zc w w':=by
 have bw:=dD cq;have cz:=dD B;have bu:Xo (∀(j:Nat) e,l[j]? =Xa e->(qk l)[j*3]? =Xa (I6 e.kind)/\(qk l)[j*3+1]? =Xa (I6 e.n)/\(qk l)[j*3+2]? =Xa (Xh e.wr)):=show∀(j:Nat) e,_ from fun j e t=>zej t;clear cq B;obtain⟨cl,ap⟩:=kA (Zs l);rw[ap.out];generalize qk l=Y at bu⊢;obtain⟨aw,x⟩:=kB (((w.alloc (Xk Y.toArray 56)).alloc (Xk #[eS,eS,eS,eS,eS,eS,eS,eS] 61)).alloc (Xk #[eS,eS,eS,eS,eS,eS,eS,eS] 61));have bv:Xo (zc w aw):=dD<|by rw[<-x];exact((za _ _).trans (za _ _)).trans (za _ _)
 have da:Xo (Box aw w.heap.size Y):=dD<|by rw[<-x];exact((Box.aE w _ _ rfl).alloc _).alloc _
 have dc:Xo (Box aw (w.heap.size+1) Jv):=dD<|by rw[<-x];exact(Box.aE _ Jv _ Sm).alloc _
 have d7:Xo (Box aw (w.heap.size+2) Jv):=dD<|by rw[<-x];exact Box.aE _ Jv _ Sm
 have bz:Xo (_=aw):=x;clear x;obtain⟨dw,cy⟩:=kA (w.heap.size+2);go_enter func28,ntmps28;go_upto_region 2 with fail;rw[bz.out];go_wp2;go_loopg [8] 8 (fun df dr wr=>∃(a:Nat) (k:List Xq) (U:List (List En)),a<=8/\8 - a<=df/\dr=I6 a/\Xo (zc w wr)/\Xo (Box wr w.heap.size Y)/\Xo (Box wr (w.heap.size+1) Jv)/\Xo (Box wr (w.heap.size+2) k)/\Xo (QY 0 (w.heap.size+3) wr k U)/\Xo (zqh l a U)/\Xo (∀j,a<=j->j<8->k[j]? =Xa (eS)))
 exact⟨0,Jv,qJ,nZ _,Wm,rfl,bv,da,dc,d7,QY.nil _ _ _,zml l,show∀j,_ from fun j _ ag=>by rw[Jv,Yk,kE ag]⟩;obtain⟨a,k,U,dk,cp,rfl,bs,bm,bn,bl,au,af,c5⟩:=hrel;by_cases n:a<8
 ·have b8:(a:Int)<8:=Wm
  obtain⟨f,P⟩:=kA (QQ l a);have Z:Xo (f.length=8):=dD (by rw[<-P.out];exact znh _ _);have am:Xo (∀D,D<8->∃e,f[D]? =Xa e/\l[8*a+D]? =Xa e/\0<=e.kind):=dD<|fun D B=>by
   obtain⟨e,cb⟩:∃e,l[8*a+D]? =Xa e:=⟨_,gE (by rw[bw.out];omega)⟩;exact⟨e,by rw[<-P.out,zoY l B,cb];rfl,cb,cz e (mG cb)⟩
  obtain⟨i,rfl⟩:∃i,i=wr:=⟨_,rfl⟩;go_wp2;go_loopg [5,6] 8 (fun de dp dq ch=>∃(d:Nat) (ae:Bool),d<=8/\8 - d<=de/\dq=I6 d/\dp= Xh ae/\Xo (ae=zax (f.take d))/\Xo (ch=i))
  exact⟨0,Xd,nZ _,Wm,rfl,rfl,rfl,rfl⟩;obtain⟨d,ae,di,dh,rfl,rfl,ak,cv⟩:=hrel;rw[cv.out];by_cases b6:d<8
  ·have ac:(d:Int)<8:=Wm
   obtain⟨e,z,A,b4⟩:=am.out d b6;have cj:Xo (zax (f.take (d+1))=(ae || enS e)):=dD<|by
    rw[jB z,ak.out];unfold zax;rw[List.any_append];simp
   cases ae with
   | true=>
    have bx:Xo (Xc=zax (f.take (d+1))):=dD<|Rr cj.out;clear z A b4;go_wp2;go_roundg (8 -(d+1));exact⟨d+1,Xc,Wm,Wm,Gn,rfl,bx,rfl⟩;omega
   | false=>
    have H:(8:Int)*(a:Int)+(d:Int)=((8*a+d:Nat):Int):=Wm;have G:8*a+d<64:=Wm;obtain⟨a7,_,_⟩:=bu.out _ e A;obtain⟨aj,a1⟩:=kA (8*a+d);rw[a1.out]at H G a7;have ab:(aj:Int)<64:=Wm;have dz:=bm.c _ a7;clear a7 z A;obtain⟨br,al⟩:=kA (enS e);have dg:decide (0<e.kind)=br:=by
     rw[<-al.out];unfold enS;by_cases t:e.kind=0;·rw[t];rfl
     have:0<e.kind:=Wm;rw[decide_eq_true this];simpa using t
    have bx:Xo (br=zax (f.take (d+1))):=dD (by rw[cj.out,al.out];rfl);clear b4;go_wp2;go_roundg (8 -(d+1));exact⟨d+1,br,Wm,Wm,Gn,by first | rfl | rw[dg],bx,rfl⟩;omega
  have ac:¬(d:Int)<8:=Wm;have:d=8:=Wm;subst this;have an:Xo (ae=zax f):=dD (by rw[ak.out,Yd (by rw[Z.out];exact nR _)]);cases ae with
  | false=>
   have a3:Xo (mk (QQ l a)=[]):=dD (by rw[P.out];unfold mk;rw[<-an.out,kF Dc]);have a4:Xo (U.set a (mk (QQ l a))=U):=dD<|by
    rw[a3.out];refine zfF ?_;rw[af.at' a n,kF (Yn _)]
   have d0:Xo (zqh l (a+1) U):=dD (by rw[<-a4.out];exact zhl af n);go_wp2;go_loopg [7] 1 (fun a8 cg M=>1<=a8/\cg=I6 0/\Xo (M=i))
   exact⟨nR _,rfl,rfl⟩;obtain⟨cc,rfl,bt⟩:=hrel;rw[bt.out];go_wp2;go_roundg (8 -(a+1));exact⟨a+1,k,U,Wm,Wm,Gn,bs,bm,bn,bl,au,d0,show∀j,_ from fun j az bp=>c5.out j Wm bp⟩;omega
  | true=>
   have a3:Xo (mk (QQ l a)=f):=dD (by rw[P.out];unfold mk;rw[<-an.out,kE rfl]);have m:=dD au.len;go_wp2;go_loopg [7] 8 (fun a8 cg M=>∃(b s:Nat) (q:Option Addr),b<=8/\8 - b<=a8/\cg=I6 b/\Xo (Out (w.heap.size+2) (w.heap.size+3) i M)/\Xo (Box M (w.heap.size+2) (k.set a (O q b s)))/\Xo (zb enE i.heap.size M (O q b s) (f.take b)))
   exact⟨0,0,Xb,nZ _,Wm,rfl,Out.refl _ _ _,by rw[zfF (c5.out a (nR _) n)];exact bl,zb.nil _ _ _⟩;obtain⟨b,s,q,dj,cc,rfl,r,av,a5⟩:=hrel;have a2:Xo (w.heap.size+3<=i.heap.size):=bl.lt;by_cases b7:b<8
   ·have ad:(b:Int)<8:=Wm
    obtain⟨e,z,A,_⟩:=am.out b b7;have H:(8:Int)*(a:Int)+(b:Int)=((8*a+b:Nat):Int):=Wm;have G:8*a+b<64:=Wm;obtain⟨a7,c8,c9⟩:=bu.out _ e A;obtain⟨aj,a1⟩:=kA (8*a+b);rw[a1.out]at H G a7 c8 c9;have ab:(aj:Int)<64:=Wm;have a4:=dD<|jB z;have ao:Xo ((f.take b).length=b):=show _=_ by rw[List.length_take,Z.out];omega
    have c3:Xo (Box wr w.heap.size Y):=bm.out.out r Wm;have c4:Xo (Box wr (w.heap.size+1) Jv):=bn.out.out r Wm;have b5:∀F,(O q b s).ownBlock=Xa F->i.heap.size<=F/\F<wr.heap.size:=a5.lt;have a0:=dD b5;clear b5 z A;obtain⟨V,rfl⟩:∃V,V=wr:=⟨_,rfl⟩;obtain⟨Q,N⟩:=Ww fun u=>Box u w.heap.size Y/\Box u (w.heap.size+1) Jv/\Box u (w.heap.size+2) (k.set a (O q b s))/\Out (w.heap.size+2) (w.heap.size+3) i u/\V.heap.size<=u.heap.size;go_upto_region 13 with fail;have bg:=fun y:zg Q=>((N _).1 y.holds).2.2.1.c a (sF (Rx m.out n));have bd:=fun y:zg Q=>((N _).1 y.holds).1.c _ a7;have be:=fun y:zg Q=>((N _).1 y.holds).1.c _ c8;have bf:=fun y:zg Q=>((N _).1 y.holds).1.c _ c9;have aa:Q V.drew:=(N _).2 ⟨c3.aA (gW _),c4.aA (gW _),av.aA (gW _),r.trans (Out.drew _),nR _⟩;have b9:Nonempty (zg Q):=⟨⟨_,aa⟩⟩;clear a7 c8 c9;refine qA (I:=Q) 13 [(10,⟨fun L=>∃F,L= O (Xa ⟨F,0,Xb⟩) 1 1,fun L w'=>qH enE V.heap.size w' L [e],fun p bk=>zc p bk,fun _=>True⟩),(11,⟨fun L=>∃bo a6,L= O bo (b+1) a6,fun L w'=>zb enE i.heap.size w' L (f.take b++ [e]),fun p bk=>p.grownBy bk (O q b s).ownBlock,fun u=>zb enE i.heap.size u (O q b s) (f.take b)⟩)] aa z2 Kr rfl rfl Dc ?hS ?hp ?hpre ?hpr0 ?_;case hS=>
     intro y cr;simp at cr;rcases cr with rfl|rfl;·exact⟨_,0,rfl⟩
     exact⟨_,Xb,0,rfl⟩
    case hp=>
     intro D dm j ct B ag R _ L p bk T bb;rcases zkG B with⟨rfl,rfl⟩|⟨rfl,rfl⟩
     ·rcases zkG ag with⟨rfl,rfl⟩|⟨rfl,rfl⟩
      ·exact absurd rfl R
      have az:qH enE V.heap.size p L [e]:=bb;exact⟨az.1.beside T (fun ci cs a6 cf t=>by
       have bp:=az.2 ci cs a6 cf;have dx:=(a0 ci.block t.symm).2
       omega),az.2⟩
     rcases zkG ag with⟨rfl,rfl⟩|⟨rfl,rfl⟩;·exact zb.aA bb T
     exact absurd rfl R
    case hpre=>
     intro j ct D dm ag B R p bk T S;rcases zkG ag with⟨rfl,rfl⟩|⟨rfl,rfl⟩;·trivial
     rcases zkG B with⟨rfl,rfl⟩|⟨rfl,rfl⟩;·exact zb.aA S T
     exact absurd rfl R
    case hpr0=>
     intro D ct B;rcases zkG B with⟨rfl,rfl⟩|⟨rfl,rfl⟩;·trivial
     exact a5.aA (gW _)
    simp only[Xx,Xy];iterate 10 refine zq ?_
    refine zP rfl rfl (fun w' a9 S b0=>?_) (fun du X=>?_)
    ·obtain⟨bh,bi,ah,C,ai⟩:=(N _).1 a9;have ba:qH enE V.heap.size (w'.alloc (Xk #[I6 e.kind,I6 e.n,Xh e.wr] 55)) (O (Xa ⟨w'.heap.size,0,Xb⟩) 1 1) [e]:=⟨jZ enE w' e _ _ rfl Dc,fun ci cs a6 cf=>by cases cf;exact ai⟩;clear bg bd be bf b9;refine zL.step (v:= O (Xa ⟨w'.heap.size,0,Xb⟩) 1 1) (w':=w'.alloc (Xk #[I6 e.kind,I6 e.n,Xh e.wr] 55)) (by simp only[execOp];go_simp) ⟨(N _).2 ⟨bh.alloc _,bi.alloc _,ah.alloc _,C.trans (Out.aA (za _ _)),nT ai (bS (za _ _))⟩,za _ _,⟨_,rfl⟩,ba⟩
    obtain⟨ay,rfl⟩:=X;refine Uq ?_;refine zP rfl rfl (fun w' a9 S b0=>?_) (fun du X=>?_)
    ·obtain⟨bh,bi,ah,C,ai⟩:=(N _).1 a9;have ca:qH enE V.heap.size w' (O (Xa ⟨ay,0,Xb⟩) 1 1) [e]:=b0 10 Kr;have bc:zb enE i.heap.size w' (O q b s) (f.take b):=S;obtain⟨dy,dv,W,ce,c,_⟩:=qT (E:=enE) (w:=w') 59 bc (O (Xa ⟨ay,0,Xb⟩) 1 1) [e] ca.1 (by rw[ao.out];show(b+1)*24<=_;omega) C.size;obtain⟨bo,a6,rfl⟩:=ce.form;have cd:(f.take b++ [e]).length=b+1:=(by rw[lA,ao.out];rfl);rw[cd]at ce W;have K:∀c7,c7<w.heap.size+3->∀F,(O q b s).ownBlock=Xa F->c7≠F:=fun c7 co F cp=>by
      have:=(a0 F cp).1;have:=a2.out;omega
     refine zL.step (v:= O bo (b+1) a6) (w':=dv) ?_ ⟨(N _).2 ⟨bh.beside c (K _ Wm),bi.beside c (K _ Wm),ah.beside c (K _ Wm),⟨c.os.trans C.os,c.tape.trans C.tape,c.output.trans C.output,nT C.size c.size,fun D B co=>(c.block D (Yi B C.size) (fun t=>Hm ((a0 D t.symm).1))).trans (C.block D B co)⟩,nT ai c.size⟩,c,⟨bo,a6,rfl⟩,ce⟩;simp only[execOp,resolve,invoke,builtin,pure_bind,Xu,Xt,Xz,mP,Xw];exact Eq.trans (congrArg (fun dl=>Result.andThen dl (fun q w'=>Result.ok (Next.value q) w')) W) rfl
    obtain⟨g,h,rfl⟩:=X;refine Uq ?_;refine zq ?_;refine Zf fun ax b1 b0=>?_;have bj:zb enE i.heap.size ax (O g (b+1) h) (f.take b++ [e]):=b0 11;obtain⟨bh,bi,ah,C,ai⟩:=(N _).1 b1;have d3:Xo (zb enE i.heap.size ax (O g (b+1) h) (f.take (b+1))):=dD<|Rx a4.out bj;have c6:=dD ah;have aq:=dD C;clear b0 bg bd be bf b1 b9 aa bj bh bi ah C ai;have ds:=c6.c a (sF (Rx m.out n));have dt:=c6.f;go_upto_region 12 with fail;have d9:Xo (Box (ax.setCell ⟨w.heap.size+2,a,Xb⟩ (O g (b+1) h)) (w.heap.size+2) (k.set a (O g (b+1) h))):=dD<|by
     have:=c6.set a (O g (b+1) h);rw[List.set_set]at this;exact this
    have d4:Xo (zb enE i.heap.size (ax.setCell ⟨w.heap.size+2,a,Xb⟩ (O g (b+1) h)) (O g (b+1) h) (f.take (b+1))):=d3.setCell (by have:=a2.out;simp;omega) _;have ar:Xo (Out (w.heap.size+2) (w.heap.size+3) i (ax.setCell ⟨w.heap.size+2,a,Xb⟩ (O g (b+1) h))):=aq.trans (Out.setCell _ _ _ (p:=⟨w.heap.size+2,a,Xb⟩) (nR _) (Nat.lt_succ_self _) _);clear ds dt;go_wp2;go_roundg (8 -(b+1));exact⟨b+1,h,g,Wm,Wm,Gn,ar,d9,d4⟩;omega
   have ad:¬(b:Int)<8:=Wm;have:b=8:=Wm;subst this;have d5:Xo (zb enE i.heap.size wr (O q 8 s) f):=dD<|by
    have:=a5.out;rw[Yd (by rw[Z.out];exact nR _)]at this;exact this
   have d6:Xo (QY 0 (w.heap.size+3) wr (k.set a (O q 8 s)) (U.set a f)):=dD<|⟨by simp[m.out],by simp[af.len],fun j L t X bq=>by
    by_cases e:j=a
    ·subst e;rw[sF (Rx m.out n)]at X;rw[sF (by rw[af.len];exact n)]at bq;cases X;cases bq;exact d5.new.stays.less (nZ _) a2.out
    rw[sN (fun t=>e t.symm)]at X bq
    exact(au.row j L t X bq).out (r.wide Wm Wm)⟩
   have d1:Xo (zqh l (a+1) (U.set a f)):=dD (by rw[<-a3.out];exact zhl af n);have db:Xo (Box wr w.heap.size Y):=bm.out.out r Wm;have dd:Xo (Box wr (w.heap.size+1) Jv):=bn.out.out r Wm;have cx:Xo (zc w wr):=dD<|Out.bN bs Wm r.out;have d2:Xo (∀j,a+1<=j->j<8->(k.set a (O q 8 s))[j]? =Xa (eS)):=dD<|fun j az bp=>(by rw[sN Wm];exact c5 j Wm bp);go_wp2;go_roundg (8 -(a+1));exact⟨a+1,_,_,Wm,Wm,Gn,cx,db,dd,av,d6,d1,d2⟩;omega
 have b8:¬(a:Int)<8:=Wm;have:a=8:=Wm;subst this;have ck:Xo (QY 0 (w.heap.size+3) wr k cl):=dD<|by rw[<-ap.out,<-zoj af.out];exact au.out
 have m:=dD au.len;go_wp2_with (first | refine qm rfl (.tmp 3) rfl (w.heap.size+2) rfl bl m.out ?_ | refine zw rfl 61 (.tmp 2) (.tmp 47) rfl (w.heap.size+1) rfl k rfl bn m zrD ck.one ?_)
 intro cm cn a8 dn;have cw:Xo (zc w cm):=dD<|zd bs a8 Sm;have cu:=dD cn;have d8:Xo (QY 0 w.heap.size cm k cl):=(ck.out.out (Out.grown a8 (fun F t=>by cases t;omega))).less (nR _) Wm;clear cn a8 dn;go_wp2;refine bodyPost_ret (z7 rfl _ rfl cu underlying61 rfl (Rx m.out zrD)) rfl ⟨k,rfl,d8,cw⟩
theorem zhX (F S B:Int) (nf ns nb:Nat) (mi:max (min F 40) 0=(nf:Int)) (mj:max (min S 60) 0=(ns:Int)) (mh:max (min B 80) 0=(nb:Int)) (vl:Sli) (L:List Int) (w:Xn) (rv:zp byE w (vl.x) L) (rt:vl.n<=vl.c) (lb:∀e0∈L,0<=e0/\e0<256):
  Xp prog 9 #[I6 F,I6 S,I6 B,vl.x] w fun e w'=>∃(fh:MaV) (m:Ma) (T:List (Nat->En)) (je:Int) (A bj:Nat) (tr:Sli),e= Xl (Xi #[fh.f.x,I6 je,fh.s.x,fh.sb.x,fh.sq.x,fh.db.x,fh.dq.x,fh.fl.x,I6 m.cnt,fh.ca.x,fh.sp.x])/\znG w nf ns nb L w' fh m T je A bj tr:=by
 have js:nf<=40:=Wm;have jt:ns<=60:=Wm;have d2:nb<=80:=Wm;obtain⟨kh,et⟩:=kB ((w.alloc (Xk zM.toArray 41)).alloc (Xk #[vl.x,eS,I6 0,eS,eS,eS,eS,eS,eS,I6 0,eS,eS,eS] 81));have ky:=gD2 et;have sp:Xo (zr kh w.heap.size 41 qF):=dD<|by rw[<-et];exact(zr.aE _ qF _ rfl).aA (za _ _)
 have rl:Xo (zr kh (w.heap.size+1) 81 [vl.x,eS,I6 0,eS,eS,eS,eS,eS,eS,I6 0,eS,eS,eS]):=dD<|by rw[<-et];exact zr.aE _ [vl.x,eS,I6 0,eS,eS,eS,eS,eS,eS,I6 0,eS,eS,eS] _ Sm
 have os:Xo (_=kh):=et;have om:Xo (zp byE w (vl.x) L):=rv;have ol:Xo (vl.n<=vl.c):=rt;have oj:Xo (∀e0∈L,0<=e0/\e0<256):=show∀e0,_ from lb;clear et rv rt lb;go_enter func9,ntmps9;go_upto_region 3 with fail;rw[os.out];try rw[mi]
 try rw[mj]
 try rw[mh]
 clear mi mj mh;obtain⟨j,br⟩:=kA (w.heap.size+1);rw[br.out]at rl⊢;obtain⟨q,p⟩:=Ww fun d=>zc kh d;have M:q kh.drew:=(p _).2 (gW _);have b4:Nonempty (zg q):=⟨⟨_,M⟩⟩;refine zgF (I:=q) (J:=JB nf ns nb) 17 [(2,⟨fun r=>∃Q,r= O (Xa ⟨Q,0,Xb⟩) nf nf,fun r d=>zb qx w.heap.size d r (Xr nf fr0),fun N bc=>zc N bc,fun _=>True⟩),(5,⟨fun r=>∃Q,r= O (Xa ⟨Q,0,Xb⟩) ns ns,fun r d=>zb slE w.heap.size d r (Xr ns 0),fun N bc=>zc N bc,fun _=>True⟩),(7,⟨fun r=>∃Q,r= O (Xa ⟨Q,0,Xb⟩) ns ns,fun r d=>zl w.heap.size d r (Xr ns zt),fun N bc=>zc N bc,fun _=>True⟩),(10,⟨fun r=>∃Q,r= O (Xa ⟨Q,0,Xb⟩) nb nb,fun r d=>zl w.heap.size d r (Xr nb zt),fun N bc=>zc N bc,fun _=>True⟩)] M ?hJ0 ?hJq ?hJs ?hJu z2 Kr rfl rfl Dc ?hS ?hp ?hpre ?hpr0 ?_;case hJ0=>
  refine⟨⟨rfl,rfl,rfl⟩,fun s Z=> .inl ?_,fun s Z x n c mb=>?_,fun s Z gv bj bh x n c a r4 e6 mb=>?_⟩
  ·simp only[mC,nM,or_false]at Z
   rcases Z with rfl|rfl|rfl|rfl <;> rfl
  ·simp only[mC,nM,or_false]at Z
   rcases Z with rfl|rfl <;> cases mb
  simp only[mC,nM,or_false]at Z;rcases Z with rfl|rfl <;> cases mb
 case hJq=>
  intro dy o az sw cb r d tm es;exact es.quiet (zn8 (Sx:=[2,5,7,10]) Kr az (zkF sw)) Wm Wm d2 tm
 case hJs=>
  intro dy o s az Z cb d tu es tz je;have mn:=zz Z;clear Z;simp only[mC,pJ,nM,or_false]at mn;rcases mn with⟨rfl,rfl⟩|⟨rfl,rfl⟩|⟨rfl,rfl⟩|⟨rfl,rfl⟩;·cases az;obtain⟨jz,A,d3,jx,d4⟩:=info_parts qx.aD;exact es.make 26 53 jz _ 32 rfl Sm qx.bH A d3 (by rw[d4];decide) Dc je
  ·cases az;obtain⟨jz,A,d3,jx,d4⟩:=info_parts slE.aD;exact es.make 30 3 jz _ 35 rfl Sm slE.bH A d3 (by rw[d4];decide) Dc je
  ·cases az;obtain⟨jz,A,d3,jx,d4⟩:=info_parts zrx;exact es.make 31 44 jz _ 37 rfl Sm underlying31 A d3 (by rw[d4];decide) Dc je
  cases az;obtain⟨jz,A,d3,jx,d4⟩:=info_parts zrx;exact es.make 31 44 jz _ 40 rfl Sm underlying31 A d3 (by rw[d4];decide) Dc je
 case hJu=>
  intro dy o az cb d es;exact es.undef (zn9 Kr az)
 case hS=>
  intro x aj;simp only[mC,nM,or_false]at aj;rcases aj with rfl|rfl|rfl|rfl <;> exact⟨_,0,rfl⟩
 case hp=>
  intro k s dy gv b3 az gb m6 r N bc bh bw;have ap:=zz b3;have bf:=zz az;clear b3 az;simp only[mC,pJ,nM,or_false]at ap bf;have ai:zc N bc:=by rcases bf with⟨rfl,rfl⟩ | ⟨rfl,rfl⟩ | ⟨rfl,rfl⟩ | ⟨rfl,rfl⟩ <;> exact bh
  rcases ap with⟨rfl,rfl⟩|⟨rfl,rfl⟩|⟨rfl,rfl⟩|⟨rfl,rfl⟩;·exact zb.aA bw ai
  ·exact zb.aA bw ai
  ·exact zl.aA bw ai
  exact zl.aA bw ai
 case hpre=>
  intro dy gv k s az b3 gb N bc bh bg;have bf:=zz az;clear b3 az;simp only[mC,pJ,nM,or_false]at bf;rcases bf with⟨rfl,rfl⟩|⟨rfl,rfl⟩|⟨rfl,rfl⟩|⟨rfl,rfl⟩ <;> trivial
 case hpr0=>
  intro k gv b3;have ap:=zz b3;clear b3;simp only[mC,pJ,nM,or_false]at ap;rcases ap with⟨rfl,rfl⟩|⟨rfl,rfl⟩|⟨rfl,rfl⟩|⟨rfl,rfl⟩ <;> trivial
 simp only[Xx,Xy];iterate 2 refine zq ?_
 refine zP rfl rfl (fun w' i bg bv=>?_) (fun dm a0=>?_);·have ai:=(p _).1 i;exact zbU qx w' nf (by show nf*40<=_;omega) (.tmp 32) rfl rfl (fun nw al=>⟨(p _).2 (ai.trans (za _ _)),za _ _,⟨_,rfl⟩,al.base (nT (bS ky) (bS ai))⟩)
 obtain⟨U,rfl⟩:=a0;refine Uq ?_;iterate 2 refine zq ?_
 refine zP rfl rfl (fun w' i bg bv=>?_) (fun dm a0=>?_);·have ai:=(p _).1 i;exact zbU slE w' ns (by show ns*8<=_;omega) (.tmp 35) rfl rfl (fun nw al=>⟨(p _).2 (ai.trans (za _ _)),za _ _,⟨_,rfl⟩,al.base (nT (bS ky) (bS ai))⟩)
 obtain⟨Y,rfl⟩:=a0;refine Uq ?_;refine zq ?_;refine zP rfl rfl (fun w' i bg bv=>?_) (fun dm a0=>?_);·have ai:=(p _).1 i;exact zat w' ns Wm (.tmp 37) rfl rfl (fun nw al=>⟨(p _).2 (ai.trans (za _ _)),za _ _,⟨_,rfl⟩,al.base (nT (bS ky) (bS ai))⟩)
 obtain⟨l,rfl⟩:=a0;refine Uq ?_;iterate 2 refine zq ?_
 refine zP rfl rfl (fun w' i bg bv=>?_) (fun dm a0=>?_);·have ai:=(p _).1 i;exact zat w' nb d2 (.tmp 40) rfl rfl (fun nw al=>⟨(p _).2 (ai.trans (za _ _)),za _ _,⟨_,rfl⟩,al.base (nT (bS ky) (bS ai))⟩)
 obtain⟨h,rfl⟩:=a0;refine Uq ?_;iterate 4 refine zq ?_
 refine Qy (.tmp 31) ⟨j,0,Xb⟩ rfl rfl rfl rfl ?_;refine Uq ?_;refine zq ?_;refine Zf fun ix eq bv es=>?_;have m7:l≠h:=es.2.2.2 38 Sm 41 Sm Dc ⟨l,0,Xb⟩ ns ns ⟨h,0,Xb⟩ nb nb rfl rfl;have k0:zb qx w.heap.size ix (O (Xa ⟨U,0,Xb⟩) nf nf) (Xr nf fr0):=bv 2;have k1:zb slE w.heap.size ix (O (Xa ⟨Y,0,Xb⟩) ns ns) (Xr ns 0):=bv 5;have d5:zl w.heap.size ix (O (Xa ⟨l,0,Xb⟩) ns ns) (Xr ns zt):=bv 7;have i9:zl w.heap.size ix (O (Xa ⟨h,0,Xb⟩) nb nb) (Xr nb zt):=bv 10;have j8:=(p _).1 eq;have lu:=dD (rl.aA j8);have sq:=dD (sp.aA j8);have cp:=dD (ky.trans j8);clear bv es eq M b4 j8;refine zgE rfl 41 (.tmp 47) (.tmp 45) rfl j 1 rfl [O (Xa ⟨U,0,Xb⟩) nf nf,I6 0,O (Xa ⟨Y,0,Xb⟩) ns ns,O (Xa ⟨l,0,Xb⟩) ns ns,eS,O (Xa ⟨h,0,Xb⟩) nb nb,eS,eS,I6 (nb:Int),eS,eS] rfl lu Sm Kr (fun r a0=>by simp only[mC,nM,or_false]at a0;rcases a0 with rfl | rfl | rfl | rfl | rfl | rfl | rfl | rfl | rfl | rfl | rfl <;> rfl) ?_;intro fi m8 ac qt;have rz:zr fi j 81 [vl.x,O (Xa ⟨U,0,Xb⟩) nf nf,I6 0,O (Xa ⟨Y,0,Xb⟩) ns ns,O (Xa ⟨l,0,Xb⟩) ns ns,eS,O (Xa ⟨h,0,Xb⟩) nb nb,eS,eS,I6 (nb:Int),eS,eS,eS]:=m8;have pa:Xo (Mk w fi.heap.size fi j vl L ⟨⟨Xa ⟨U,0,Xb⟩,nf,nf⟩,⟨Xa ⟨Y,0,Xb⟩,ns,ns⟩,⟨Xa ⟨l,0,Xb⟩,ns,ns⟩,zF,⟨Xa ⟨h,0,Xb⟩,nb,nb⟩,zF,zF,zF,zF⟩ ⟨Xr nf fr0,0,Xr ns 0,Xr ns zt,[],Xr nb zt,[],[],nb,[],[]⟩ zF []):=zod (zd cp ac (Hm br.out)) (Hm br.out) rz om ol oj (k0.kind ac lu Dc) (k1.kind ac lu Dc) ⟨qC d5.1 ac lu Dc,d5.2⟩ ⟨qC i9.1 ac lu Dc,i9.2⟩ m7;have pr:Xo (zr fi w.heap.size 41 qF):=sq.beside ac (fun Q e=>by cases e;have:=br.out;omega);clear m8 ac qt k0 k1 d5 i9 m7;obtain⟨A,oi⟩:=kA fi.heap.size;rw[oi.out]at pa;try simp only[Yt]
 have rd:=pa.box.box.c 1 rfl;go_wp2;clear rd;go_loopg [55] nf (fun en r7 wr=>∃cj:Nat,cj<=nf/\nf - cj<=en/\r7=I6 cj/\Xo (Mk w A wr j vl L ⟨⟨Xa ⟨U,0,Xb⟩,nf,nf⟩,⟨Xa ⟨Y,0,Xb⟩,ns,ns⟩,⟨Xa ⟨l,0,Xb⟩,ns,ns⟩,zF,⟨Xa ⟨h,0,Xb⟩,nb,nb⟩,zF,zF,zF,zF⟩ ⟨zh7 nf cj,0,Xr ns 0,Xr ns zt,[],Xr nb zt,[],[],nb,[],[]⟩ zF [])/\Xo (zr wr w.heap.size 41 qF))
 exact⟨0,nZ _,Wm,rfl,Rx zmF pa,pr⟩;obtain⟨cj,th,tc,rfl,h6,cx⟩:=hrel;by_cases dx:cj<nf
 ·have mg:=kC dx
  have rd:=h6.box.box.c 1 rfl;dsimp only[Sli.x]at rd;have ph:Xo (zb qx w.heap.size wr (O (Xa ⟨U,0,Xb⟩) nf nf) (zh7 nf cj)):=h6.rows.fs;have tx:wr.cell? ⟨U,cj*13+11,Xb⟩=Xa (I6 0):=by
   have:=ph.one (zmH dx) 11 _ rfl;rw[zX,Ya,zA]at this;exact this
  have nv:=ph.bJ rfl;obtain⟨r5,kp,C⟩:=ph.cell (k:=cj) (o:=11) rfl (zmH dx) (y:=frF) (u:=I6 (-1)) rfl Dc;rw[zoy dx]at r5;have qi:=h6.bM rfl kp C r5 (zfp.free (zpR nf (cj+1)) (zmG nf (cj+1)));have pb:Xo (Mk w A (wr.setCell ⟨U,cj*13+11,Xb⟩ (I6 (-1))) j vl L ⟨⟨Xa ⟨U,0,Xb⟩,nf,nf⟩,⟨Xa ⟨Y,0,Xb⟩,ns,ns⟩,⟨Xa ⟨l,0,Xb⟩,ns,ns⟩,zF,⟨Xa ⟨h,0,Xb⟩,nb,nb⟩,zF,zF,zF,zF⟩ ⟨zh7 nf (cj+1),0,Xr ns 0,Xr ns zt,[],Xr nb zt,[],[],nb,[],[]⟩ zF []):=qi.1;have pt:Xo (zr (wr.setCell ⟨U,cj*13+11,Xb⟩ (I6 (-1))) w.heap.size 41 qF):=qi.2.1 _ _ _ cx ⟨Dc,Dc,Dc,Dc,Dc,Dc,Dc,Dc,fun ar=>absurd ar Dc⟩;clear qi r5 kp C;go_wp2;go_roundg (nf -(cj+1));exact⟨cj+1,Wm,Wm,Gn,pb,pt⟩;omega
 have mg:=kD dx;obtain rfl:nf=cj:=Wm;rw[zoz]at h6;have ez:=qu 3 h6.out;go_wp2_with fail;refine ez.mono ?_;clear ez;rintro e rk ⟨n7,ox,a,rfl,mw,m3,r9,na,kd,yn,ru⟩;obtain⟨c,rfl⟩:∃c:Nat,a=(c:Int):=⟨a.toNat,Wm⟩;have sy:c<3:=by rcases kd with ar | ar <;> omega
 have oc:Xo (L=[]->c=0):=dD<|fun e=>Hm (yn e);have pb:Xo (Mk w A rk j n7 ox ⟨⟨Xa ⟨U,0,Xb⟩,nf,nf⟩,⟨Xa ⟨Y,0,Xb⟩,ns,ns⟩,⟨Xa ⟨l,0,Xb⟩,ns,ns⟩,zF,⟨Xa ⟨h,0,Xb⟩,nb,nb⟩,zF,zF,zF,zF⟩ ⟨Xr nf frF,0,Xr ns 0,Xr ns zt,[],(Xr nb zt),[],[],nb,[],[]⟩ zF []):=mw;have pt:Xo (zr rk w.heap.size 41 qF):=cx.beside m3 (fun Q e=>by cases e;have:=br.out;omega);have p8:Xo (Jw L ox):=ru;clear mw m3 r9 na kd yn ru;go_wp2;go_loopg [70] c (fun en r8 wr=>∃(f3:Nat) (an:Sli) (bm:List Int) (k9 X:Sli) (dd:List (List Int)) (e7:List (Int × List Int)) (fl:List Fl),f3<=c/\c - f3<=en/\r8=I6 f3/\Xo (Mk w A wr j an bm ⟨⟨Xa ⟨U,0,Xb⟩,nf,nf⟩,⟨Xa ⟨Y,0,Xb⟩,ns,ns⟩,⟨Xa ⟨l,0,Xb⟩,ns,ns⟩,zF,⟨Xa ⟨h,0,Xb⟩,nb,nb⟩,k9,X,zF,zF⟩ ⟨Xr nf frF,0,Xr ns 0,Xr ns zt,[],dd,e7,fl,nb,[],[]⟩ zF [])/\Xo (Jw L bm)/\Xo (zr wr w.heap.size 41 qF)/\Xo (zgs fl nb dd e7 []/\fl.length<=f3/\dd.length=nb/\∀f∈fl,f.size<40)/\Xo (f3=0->fl=[]/\e7=[]/\dd=Xr nb zt))
 exact⟨0,n7,ox,zF,zF,_,_,_,nZ _,Wm,rfl,pb,p8,pt,(show _/\_ from⟨zgs.zero d2,nZ _,lR,fun f ay=>(by cases ay)⟩),(fun _=>⟨rfl,rfl,rfl⟩)⟩;obtain⟨f3,n8,rh,k9,X,dd,e7,fl,te,ac,rfl,h6,p9,cx,c0,ss⟩:=hrel;by_cases hq:f3<c
 ·have jn:=kC hq
  have i2:=qu 40 h6.out;go_wp2_with fail;refine i2.mono ?_;clear i2;rintro e iy ⟨dz,ke,C,rfl,f6,cg,-,gp,gu,-,f4⟩;have mp:C<40:=by rcases gu with ar|ar <;> omega
  have kf:Xo (Mk w A iy j dz ke ⟨⟨Xa ⟨U,0,Xb⟩,nf,nf⟩,⟨Xa ⟨Y,0,Xb⟩,ns,ns⟩,⟨Xa ⟨l,0,Xb⟩,ns,ns⟩,zF,⟨Xa ⟨h,0,Xb⟩,nb,nb⟩,k9,X,zF,zF⟩ ⟨Xr nf frF,0,Xr ns 0,Xr ns zt,[],dd,e7,fl,nb,[],[]⟩ zF []):=f6;have pu:Xo (zr iy w.heap.size 41 qF):=cx.beside cg (fun Q e=>by cases e;have:=br.out;omega);have iu:=dD (p9.trans f4);clear f6 cg f4 gu;go_upto_region 12 with fail;obtain⟨a5,ec⟩:=kA iy.heap.size;obtain⟨pm,g8⟩:=kB (iy.alloc (Xk #[I6 C,eS] 84));have de:=gP g8;have rj:=xPT g8 ec;have sa:=dD (kf.aA de);have sr:=dD (pu.aA de);have oa:Xo (FlB w.heap.size A a5 pm ⟨⟨Xa ⟨U,0,Xb⟩,nf,nf⟩,⟨Xa ⟨Y,0,Xb⟩,ns,ns⟩,⟨Xa ⟨l,0,Xb⟩,ns,ns⟩,zF,⟨Xa ⟨h,0,Xb⟩,nb,nb⟩,k9,X,zF,zF⟩ ⟨Xr nf frF,0,Xr ns 0,Xr ns zt,[],dd,e7,fl,nb,[],[]⟩):=show FlB _ _ _ _ _ _ by rw[<-ec.out];exact kf.rows.flB.aA de
  have fu:Xo (A<=a5):=dD<|Ry ec.out kf.rows.hw;have og:Xo (∀Q,(X.x).ownBlock=Xa Q->Q<a5):=dD<|fun Q ai=>by rw[<-ec.out];obtain⟨bq,cl,-,-⟩:=kf.rows.fl;exact(cl.lt Q ai).2
  rw[g8,ec.out];clear g8 de;have av:=rj.box.c 0 rfl;have ma:=zct C pm gp Wm;go_wp2_with fail;refine ma.mono ?_;clear ma av;rintro e tv ⟨rfl,mq⟩;rw[mq];clear mq;have od:Xo (zau C<=5):=dD (by unfold zau;split <;> omega);obtain⟨g2,io⟩:∃g2:Nat,Xo (zau C=(g2:Int)):=⟨(zau C).toNat,show _=_ by unfold zau;split <;> omega⟩;rw[io.out];have l7:Xo (0<=C/\C<40):=dD<|⟨gp,mp⟩;have rp:g2<=5:=by have:=od.out;have:=io.out;omega
  have s5:Xo (FC w A j pm dz ke ⟨⟨Xa ⟨U,0,Xb⟩,nf,nf⟩,⟨Xa ⟨Y,0,Xb⟩,ns,ns⟩,⟨Xa ⟨l,0,Xb⟩,ns,ns⟩,zF,⟨Xa ⟨h,0,Xb⟩,nb,nb⟩,k9,X,zF,zF⟩ ⟨Xr nf frF,0,Xr ns 0,Xr ns zt,[],dd,e7,fl,nb,[],[]⟩ a5 C zF []):=dD<|⟨sa,fu,oa,og,rj,zb.nil _ _ _⟩;have l3:Xo (zgs fl nb dd e7 []/\dd.length=nb):=dD<|⟨c0.1,c0.2.2.1⟩;have l4:Xo (∀f∈fl,f.size<40):=dD<|c0.2.2.2;have ft:Xo (fl.length<=f3):=dD<|c0.2.1;clear gp mp;go_wp2;go_loopg [78] g2 (fun en fd wr=>∃(cu:Nat) (an:Sli) (bm:List Int) (ka a9:Sli) (cz:List (List Int)) (em:List (Int × List Int)) (V:List Int),cu<=g2/\g2 - cu<=en/\fd=I6 cu/\Xo (FC w A j wr an bm ⟨⟨Xa ⟨U,0,Xb⟩,nf,nf⟩,⟨Xa ⟨Y,0,Xb⟩,ns,ns⟩,⟨Xa ⟨l,0,Xb⟩,ns,ns⟩,zF,⟨Xa ⟨h,0,Xb⟩,nb,nb⟩,ka,X,zF,zF⟩ ⟨Xr nf frF,0,Xr ns 0,Xr ns zt,[],cz,em,fl,nb,[],[]⟩ a5 C a9 V)/\Xo (Jw L bm)/\Xo (zr wr w.heap.size 41 qF)/\Xo (zgs fl nb cz em V/\V.length=cu/\cz.length=nb))
  exact⟨0,dz,ke,k9,zF,dd,e7,[],nZ _,Wm,rfl,s5,iu,sr,(show _/\_ from⟨l3.1,rfl,l3.2⟩)⟩;obtain⟨cu,fe,ri,z,a9,H,K,V,tf,t8,rfl,ca,ff,ek,co⟩:=hrel;by_cases hw:cu<g2
  ·have jo:=kC hw
   have i5:=qu (max (nb:Int) 1) ca.mm;go_wp2_with fail;refine i5.mono ?_;clear i5;rintro e ah ⟨cm,fw,x,rfl,f7,dw,-,ts,-,-,f5⟩;obtain⟨n,rfl⟩:∃n:Nat,x=(n:Int):=⟨x.toNat,Wm⟩;have fq:Xo (FC w A j ah cm fw ⟨⟨Xa ⟨U,0,Xb⟩,nf,nf⟩,⟨Xa ⟨Y,0,Xb⟩,ns,ns⟩,⟨Xa ⟨l,0,Xb⟩,ns,ns⟩,zF,⟨Xa ⟨h,0,Xb⟩,nb,nb⟩,z,X,zF,zF⟩ ⟨Xr nf frF,0,Xr ns 0,Xr ns zt,[],H,K,fl,nb,[],[]⟩ a5 C a9 V):=ca.pick dw f7;have ls:Xo (zr ah w.heap.size 41 qF):=ek.kind dw ca.mm.box Dc;have fz:=dD (ff.trans f5);clear f7 dw f5 ts;go_upto_region 17 with fail;go_cut [78,109]from 78 to 160 (fun fd n0 n9=>∃(nu:Bool) (an:Sli) (bm:List Int),fd=I6 cu/\n0= Xh nu/\Xo (FC w A j n9 an bm ⟨⟨Xa ⟨U,0,Xb⟩,nf,nf⟩,⟨Xa ⟨Y,0,Xb⟩,ns,ns⟩,⟨Xa ⟨l,0,Xb⟩,ns,ns⟩,zF,⟨Xa ⟨h,0,Xb⟩,nb,nb⟩,z,X,zF,zF⟩ ⟨Xr nf frF,0,Xr ns 0,Xr ns zt,[],H,K,fl,nb,[],[]⟩ a5 C a9 V)/\Xo (Jw L bm)/\Xo (zr n9 w.heap.size 41 qF)/\Xo (nu=Xc->n<nb/\z3 (fl++ [⟨C,V⟩]) (n:Int)=Xd))
   case first=>
    by_cases gc:n<nb
    ·have gd:=kC gc
     have qr:decide ((n:Int)< (nb:Int))=Xc:=Si gd;obtain⟨bq,cl,f8,dl⟩:=fq.fb;have ee:Xo (zb fvE w.heap.size ah (X.x) bq):=cl;obtain⟨bk,dr⟩:=kA fl.length;have ab:Xo (bq.length=bk):=show _=_ by rw[f8];exact dr.out
     have tj:bk<=10:=(by have:=ft.out;have:=dr.out;omega);have s9:Xo (X.n=bk):=dD (by rw[cl.n];exact ab.out);have fv:Xo (∀(G:Nat) x f,bq[G]? =Xa x->fl[G]? =Xa f->x.size=f.size/\zb blE A ah x.v f.bl):=dD<|fun G x f aj ay=>(dl G x f aj ay).1;clear cl f8 dl;obtain⟨bn,dp⟩:∃bn:FlV,Xo (bn=⟨C,a9.a,a9.n,a9.c⟩):=⟨_,rfl⟩;obtain⟨nd,la⟩:∃nd,Xo (z3 (fl++ [(⟨C,V⟩:Fl)]) (n:Int)=nd):=⟨z3 (fl++ [(⟨C,V⟩:Fl)]) (n:Int),rfl⟩;have ob:Xo (j<ah.heap.size):=fq.mm.box.box.lt;have s8:Xo (a5≠j):=show _≠_ from fun e=>by
      have ax:ah.heap[a5]? =_:=fq.box;have ak:ah.heap[j]? =_:=fq.mm.box;rw[e,ak]at ax;cases ax
     have lf:Xo (w.heap.size≠j):=dD<|Hm br.out;obtain⟨q,p⟩:=Ww fun d=>Out j (j+1) ah d/\FCE w A j L ⟨⟨Xa ⟨U,0,Xb⟩,nf,nf⟩,⟨Xa ⟨Y,0,Xb⟩,ns,ns⟩,⟨Xa ⟨l,0,Xb⟩,ns,ns⟩,zF,⟨Xa ⟨h,0,Xb⟩,nb,nb⟩,z,X,zF,zF⟩ ⟨Xr nf frF,0,Xr ns 0,Xr ns zt,[],H,K,fl,nb,[],[]⟩ a5 C a9 V d;have M:q ah.drew:=(p _).2 ⟨Out.drew _,cm,fw,fq.aA (gW _),fz⟩;have eb:Xo (∀d ra,q d->zc d ra->q ra):=dD<|fun d ra ar k=>by
      obtain⟨ax,an,bm,ak,bu⟩:=(p _).1 ar;exact(p _).2 ⟨ax.trans (Out.aA k),an,bm,ak.aA k,bu⟩
     have gi:∀a:zg q,a.world.cell? ⟨j,8,Xb⟩=Xa (X.x):=fun a=>by
      obtain⟨_,_,_,ak,_⟩:=(p _).1 a.holds;exact ak.mm.box.box.c 8 rfl
     have ge:∀a:zg q,a.world.cell? ⟨a5,0,Xb⟩=Xa (I6 C):=fun a=>by
      obtain⟨_,_,_,ak,_⟩:=(p _).1 a.holds;exact ak.box.box.c 0 rfl
     have gh:∀a:zg q,a.world.cell? ⟨a5,1,Xb⟩=Xa (a9.x):=fun a=>by
      obtain⟨_,_,_,ak,_⟩:=(p _).1 a.holds;exact ak.box.box.c 1 rfl
     have b4:Nonempty (zg q):=⟨⟨_,M⟩⟩;refine qA (I:=q) 25 [(4,⟨fun r=>∃Q,r= O (Xa ⟨Q,0,Xb⟩) 0 0,fun r d=>zb fvE ah.heap.size d r [],fun N bc=>zc N bc,fun _=>True⟩),(11,⟨fun r=>(∃cb c,r= O cb bk c)/\(bk=0->∃Q,r= O (Xa ⟨Q,0,Xb⟩) 0 0),fun r d=>zb fvE ah.heap.size d r bq,fun N bc=>zc N bc,fun _=>True⟩),(13,⟨fun r=>∃Q,r= O (Xa ⟨Q,0,Xb⟩) 1 1,fun r d=>zb fvE ah.heap.size d r [bn],fun N bc=>zc N bc,fun _=>True⟩),(14,⟨fun r=>∃cb c,r= O cb (bk+1) c,fun r d=>zb fvE ah.heap.size d r (bq++ [bn]),fun N bc=>∀d m,m.length<=bk\/m.length<=1->zb fvE ah.heap.size N d m->zb fvE ah.heap.size bc d m,fun _=>True⟩),(17,⟨fun r=>r= Xh nd,fun _ _=>True,fun N bc=>zc N bc,fun _=>True⟩),(22,⟨fun r=>∃x:Int,r=I6 x,fun _ _=>True,fun N bc=>Out j (j+1) N bc,fun _=>True⟩)] M z2 Kr rfl rfl Dc ?hS ?hp ?hpre ?hpr0 ?_;case hS=>
      intro x aj;simp only[mC,nM,or_false]at aj;rcases aj with rfl|rfl|rfl|rfl|rfl|rfl;·exact⟨_,0,rfl⟩
      ·by_cases ha:bk=0
       ·exact⟨O (Xa ⟨0,0,Xb⟩) 0 0,⟨Xa ⟨0,0,Xb⟩,0,by rw[ha]⟩,fun _=>⟨0,rfl⟩⟩
       exact⟨O Xb bk 0,⟨_,_,rfl⟩,fun ar=>absurd ar ha⟩
      ·exact⟨_,0,rfl⟩
      ·exact⟨_,Xb,0,rfl⟩
      ·exact⟨_,rfl⟩
      exact⟨_,0,rfl⟩
     case hp=>
      intro k s dy gv b3 az gb m6 r N bc bh bw;have ap:=zz b3;have bf:=zz az;clear b3 az;simp only[mC,pJ,nM,or_false]at ap bf;have dk:∀kq:List FlV,kq.length<=bk\/kq.length<=1\/dy≠14->zb fvE ah.heap.size N r kq->zb fvE ah.heap.size bc r kq:=fun kq v0 al=>by
       rcases bf with⟨rfl,rfl⟩|⟨rfl,rfl⟩|⟨rfl,rfl⟩|⟨rfl,rfl⟩|⟨rfl,rfl⟩|⟨rfl,rfl⟩;·exact zb.aA al bh
       ·exact zb.aA al bh
       ·exact zb.aA al bh
       ·exact bh r kq Wm al
       ·exact zb.aA al bh
       exact al.cF bh (fun Q ai=>by have:=(al.lt Q ai).1;have:=ob.out;omega)
      rcases ap with⟨rfl,rfl⟩|⟨rfl,rfl⟩|⟨rfl,rfl⟩|⟨rfl,rfl⟩|⟨rfl,rfl⟩|⟨rfl,rfl⟩;·exact dk _ (.inl (nZ _)) bw
      ·exact dk _ (.inl (by rw[ab.out];exact nR _)) bw
      ·exact dk _ (.inr (.inl (nR _))) bw
      ·exact dk _ (.inr (.inr (fun e=>gb e))) bw
      ·trivial
      trivial
     case hpre=>
      intro dy gv k s az b3 gb N bc bh bg;have bf:=zz az;clear b3 az;simp only[mC,pJ,nM,or_false]at bf;rcases bf with⟨rfl,rfl⟩|⟨rfl,rfl⟩|⟨rfl,rfl⟩|⟨rfl,rfl⟩|⟨rfl,rfl⟩|⟨rfl,rfl⟩ <;> trivial
     case hpr0=>
      intro k gv b3;have ap:=zz b3;clear b3;simp only[mC,pJ,nM,or_false]at ap;rcases ap with⟨rfl,rfl⟩|⟨rfl,rfl⟩|⟨rfl,rfl⟩|⟨rfl,rfl⟩|⟨rfl,rfl⟩|⟨rfl,rfl⟩ <;> trivial
     simp only[Xx,Xy];iterate 4 refine zq ?_
     refine zP rfl rfl (fun w' i bg bv=>?_) (fun dm a0=>?_);·have ai:=((p _).1 i).1;exact zL.step (v:= O (Xa ⟨w'.heap.size,0,Xb⟩) 0 0) (w':=w'.alloc (Xk #[] 84)) (by simp only[execOp];go_simp) ⟨eb _ _ i (za _ _),za _ _,⟨_,rfl⟩,(zb.made fvE w').base ai.size⟩
     obtain⟨aq,rfl⟩:=a0;refine Uq ?_;refine zq ?_;refine Qy (.tmp 90) ⟨j,0,Xb⟩ rfl rfl rfl rfl ?_;refine Uq ?_;iterate 4 refine zq ?_
     refine zP rfl rfl (fun w' i bg bv=>?_) (fun dm a0=>?_)
     ·have ai:=((p _).1 i).1;have ha:zb fvE ah.heap.size w' (O (Xa ⟨aq,0,Xb⟩) 0 0) []:=bv 4 Kr
      have sx:=ee.cF ai (fun Q au e=>by
       obtain⟨fj,bo⟩:=ee.obj au;have bu:ah.heap[j]? =_:=fq.mm.box;rw[e,bu]at bo
       cases bo)
      obtain⟨fo,bz,ae,al,ac,gj⟩:=ZR (E:=fvE) (w:=w') 35 ha (X.x) bq sx.at ai.size;obtain⟨el,e6,rfl⟩:=al.form;refine zL.step (v:= O el bq.length e6) (w':=bz) ?_ ⟨eb _ _ i ac,ac,⟨⟨el,e6,by rw[ab.out]⟩,fun ar=>⟨aq,gj (eN (Rx ab.out ar))⟩⟩,al⟩;simp only[execOp,resolve,invoke,builtin,pure_bind,Xu,Xt,Xz,mP,Xw];exact Eq.trans (congrArg (fun k8=>Result.andThen k8 (fun cb w'=>Result.ok (Next.value cb) w')) ae) rfl
     obtain⟨⟨kj,kl,rfl⟩,jy⟩:=a0;refine Uq ?_;refine zq ?_;refine zP rfl rfl (fun w' i bg bv=>?_) (fun dm a0=>?_);·have ai:=((p _).1 i).1;exact zL.step (v:= O (Xa ⟨w'.heap.size,0,Xb⟩) 1 1) (w':=w'.alloc (Xk #[I6 C,a9.x] 84)) (by simp only[execOp];go_simp) ⟨eb _ _ i (za _ _),za _ _,⟨_,rfl⟩,by rw[dp.out];exact(zn4 w' ⟨C,a9.a,a9.n,a9.c⟩).base ai.size⟩
     obtain⟨de,rfl⟩:=a0;refine Uq ?_;refine zP rfl rfl (fun w' i bg bv=>?_) (fun dm a0=>?_)
     ·have ai:=((p _).1 i).1;have d5:zb fvE ah.heap.size w' (O kj bk kl) bq:=bv 11 Kr;have k4:zb fvE ah.heap.size w' (O (Xa ⟨de,0,Xb⟩) 1 1) [bn]:=bv 13 Kr;have r1:∃fo bz,(Builtin.append_ #[35,35] 35 #[O kj bk kl,O (Xa ⟨de,0,Xb⟩) 1 1]).run prog w'= .ok fo bz/\zb fvE ah.heap.size bz fo (bq++ [bn])/\q bz/\∀d m,m.length<=bk\/m.length<=1->zb fvE ah.heap.size w' d m->zb fvE ah.heap.size bz d m:=by
       by_cases ha:bk=0
       ·have qy:bq=[]:=eN (Rx ab.out ha)
        subst qy;obtain⟨Q,qo⟩:=jy ha;rw[qo]at d5⊢;obtain⟨fo,bz,ae,al,ac,_⟩:=ZR (E:=fvE) (w:=w') 35 d5 (O (Xa ⟨de,0,Xb⟩) 1 1) [bn] k4.at ai.size;exact⟨fo,bz,ae,al,eb _ _ i ac,fun d m _ ar=>ar.aA ac⟩
       obtain⟨fo,bz,ae,al,a7,b3⟩:=qT (E:=fvE) (w:=w') 35 d5 (O (Xa ⟨de,0,Xb⟩) 1 1) [bn] k4.at (by rw[ab.out];show(bk+1)*32<=_;omega) ai.size;refine⟨fo,bz,ae,al,?_,fun d m v2 ar=>b3 d m (by rw[ab.out];omega) ar⟩;obtain⟨ax,an,bm,ak,bu⟩:=(p _).1 i;obtain⟨kp,tw,ev⟩:=d5.aG (by rw[ab.out];omega);obtain⟨fj,g9⟩:=d5.obj (g:=kp) (Rr ev);have bp:w'.grownBy bz (Xa kp):=(by rw[ev]at a7;exact a7);have ga:=(d5.lt kp (Rr ev)).1;have tl:=fq.box.box.lt;refine(p _).2 ⟨⟨bp.os.trans ax.os,bp.tape.trans ax.tape,bp.output.trans ax.output,nT ax.size bp.size,fun k ap qj=>(bp.block k (Yi ap ax.size) (fun e=>by cases e;omega)).trans (ax.block k ap qj)⟩,an,bm,ak.fresh bp g9 Wm,bu⟩
      obtain⟨fo,bz,ae,al,qh,b3⟩:=r1;obtain⟨el,e6,rfl⟩:=al.form;refine zL.step (v:= .slice el (bq++ [bn]).length e6) (w':=bz) ?_ ⟨qh,b3,⟨el,e6,by rw[lA,ab.out];rfl⟩,al⟩;simp only[execOp,resolve,invoke,builtin,pure_bind,Xu,Xt,Xz,mP,Xw];exact Eq.trans (congrArg (fun k8=>Result.andThen k8 (fun cb w'=>Result.ok (Next.value cb) w')) ae) rfl
     obtain⟨ne,h8,rfl⟩:=a0;refine Uq ?_;iterate 2 refine zq ?_
     refine zP rfl rfl (fun w' i bg bv=>?_) (fun dm a0=>?_)
     ·obtain⟨ax,an,bm,ak,bu⟩:=(p _).1 i;have k6:zb fvE ah.heap.size w' (O ne (bk+1) h8) (bq++ [bn]):=bv 14 Kr;have qm:qg w' (O ne (bk+1) h8) (fl++ [⟨C,V⟩]):=by
       refine⟨k6.cap,bq++ [bn],k6.at.s0,by rw[lA,lA,ab.out,dr.out];rfl,fun G x f aj ay=>?_⟩;rcases Yp G bk with ew | ew
       ·rw[Yf (Rx ab.out ew)]at aj
        rw[Yf (Rx dr.out ew)]at ay
        obtain⟨d9,cy⟩:=fv.out G x f aj ay;exact⟨d9,(cy.cF ax (fun Q au e=>by
         obtain⟨fj,bo⟩:=cy.obj au;have bu:ah.heap[j]? =_:=fq.mm.box;rw[e,bu]at bo
         cases bo)).at.s0⟩
       rw[aR (Rx ab.out ew),ab.out]at aj;rw[aR (Rx dr.out ew),dr.out]at ay;have qp:G - bk=0:=by
        have:=(gS.1 aj).1;simp at this;omega
       rw[qp]at aj ay;cases aj;cases ay;rw[dp.out];exact⟨rfl,ak.row.at.s0⟩
      refine zL.call [Xi #[O ne (bk+1) h8,I6 0],I6 (n:Int)] rfl func24 rfl rfl rfl ?_;refine(zjt (O ne (bk+1) h8) (fl++ [⟨C,V⟩]) 0 (n:Int) w' qm).mono ?_;rintro e kb ⟨rfl,ac⟩;exact⟨_,rfl,eb _ _ i ac,ac,by rw[la.out],trivial⟩
     subst a0;refine Uq ?_;iterate 3 refine zq ?_
     cases nd with
     | true=>
      refine zdM ?_;refine zdM ?_;refine zdM ?_;refine zq ?_;refine Zf fun lp er jb=>?_;obtain⟨ax,d6,fy,ak,bu⟩:=(p _).1 er;have gy:Xo (FC w A j lp d6 fy ⟨⟨Xa ⟨U,0,Xb⟩,nf,nf⟩,⟨Xa ⟨Y,0,Xb⟩,ns,ns⟩,⟨Xa ⟨l,0,Xb⟩,ns,ns⟩,zF,⟨Xa ⟨h,0,Xb⟩,nb,nb⟩,z,X,zF,zF⟩ ⟨Xr nf frF,0,Xr ns 0,Xr ns zt,[],H,K,fl,nb,[],[]⟩ a5 C a9 V):=ak;have du:Xo (Jw L fy):=bu;have ki:Xo (zr lp w.heap.size 41 qF):=ls.cF ax lf.out;clear er jb M gi ge gh b4 ax ak bu jy;go_wp2;go_meet;exact⟨Xd,d6,fy,rfl,rfl,gy,du,ki,fun ar=>(by cases ar)⟩
     | false=>
      refine zq ?_;refine zP rfl rfl (fun w' i bg bv=>?_) (fun dm a0=>?_)
      ·obtain⟨ax,an,bm,ak,bu⟩:=(p _).1 i;refine zL.call [Xj (Xa ⟨j,0,Xb⟩),I6 3] rfl func22 rfl rfl rfl ?_;refine(qu 3 ak.mm).mono ?_;rintro e kb ⟨n8,rh,a,rfl,r3,bt,-,-,-,-,r2⟩;have ml:Out j (j+1) w' kb:=Out.grown bt (fun Q e=>by cases e;omega);exact⟨_,rfl,(p _).2 ⟨ax.trans ml,n8,rh,ak.pick bt r3,bu.trans r2⟩,ml,⟨a,rfl⟩,trivial⟩
      obtain⟨x,rfl⟩:=a0;refine Uq ?_;iterate 2 refine zq ?_
      refine Zf fun lp er jb=>?_;obtain⟨ax,d6,fy,ak,bu⟩:=(p _).1 er;have gy:Xo (FC w A j lp d6 fy ⟨⟨Xa ⟨U,0,Xb⟩,nf,nf⟩,⟨Xa ⟨Y,0,Xb⟩,ns,ns⟩,⟨Xa ⟨l,0,Xb⟩,ns,ns⟩,zF,⟨Xa ⟨h,0,Xb⟩,nb,nb⟩,z,X,zF,zF⟩ ⟨Xr nf frF,0,Xr ns 0,Xr ns zt,[],H,K,fl,nb,[],[]⟩ a5 C a9 V):=ak;have du:Xo (Jw L fy):=bu;have ki:Xo (zr lp w.heap.size 41 qF):=ls.cF ax lf.out;have ds:Xo (decide (0<x)=Xc->n<nb/\z3 (fl++ [⟨C,V⟩]) (n:Int)=Xd):=show _->_ from fun _=>⟨gc,la⟩;clear er jb M gi ge gh b4 ax ak bu jy;go_wp2;go_meet;exact⟨decide (0<x),d6,fy,rfl,rfl,gy,du,ki,ds⟩
    have gd:=kD gc;have qr:decide ((n:Int)< (nb:Int))=Xd:=Si gd;clear gc;go_quiet (fail);go_wp2;go_meet;exact⟨Xd,cm,fw,rfl,rfl,fq.aA (show Below _ _ _ from bD (bR _ _) _),fz,ls.aA (show Below _ _ _ from bD (bR _ _) _),fun ar=>(by cases ar)⟩
   obtain⟨nu,d6,fy,rfl,rfl,gy,du,ki,oq⟩:=hcut;go_upto_if 109 with fail
   go_cut [13,15,16,78]from 78 to 160 (fun r6 tp tq fd n9=>∃(g6:Int) (an:Sli) (bm:List Int) (ka:Sli) (cz:List (List Int)) (em:List (Int × List Int)),r6=I6 g6/\fd=I6 cu/\Xo (FC w A j n9 an bm ⟨⟨Xa ⟨U,0,Xb⟩,nf,nf⟩,⟨Xa ⟨Y,0,Xb⟩,ns,ns⟩,⟨Xa ⟨l,0,Xb⟩,ns,ns⟩,zF,⟨Xa ⟨h,0,Xb⟩,nb,nb⟩,ka,X,zF,zF⟩ ⟨Xr nf frF,0,Xr ns 0,Xr ns zt,[],cz,em,fl,nb,[],[]⟩ a5 C a9 V)/\Xo (Jw L bm)/\Xo (zr n9 w.heap.size 41 qF)/\Xo (zgs fl nb cz em (V++ [g6])/\cz.length=nb))
   case first=>
    cases nu with
    | false=>
     go_wp2;go_meet;exact⟨-1,d6,fy,z,H,K,rfl,rfl,gy,du,ki,(show _/\_ from⟨co.1.none,co.2.2⟩)⟩
    | true=>
     obtain⟨gc,e8⟩:=oq.out rfl;have ds:Xo (z3 fl (n:Int)=Xd/\(n:Int)∉V):=dD<|by
      have ak:¬(n:Int)∈QN (fl++ [⟨C,V⟩]):=fun ar=>(by rw[(QS _ _).2 ar]at e8;cases e8);have bu:QN (fl++ [⟨C,V⟩])=QN fl++V:=(by simp[QN]);rw[bu,Xv]at ak;refine⟨?_,fun ar=>ak (.inr ar)⟩;cases e:z3 fl (n:Int)with
      | false=>rfl
      | true=>exact absurd (.inl ((QS _ _).1 e)) ak
     have gd:=kC gc;clear e8;have mm:=zc1 gy.mm;go_wp2_with fail;refine mm.mono ?_;clear mm;rintro e dv ⟨aw,dt,k7,rfl,mz,mx,ja,mv⟩;have ij:Xo (FC w A j dv aw dt ⟨⟨Xa ⟨U,0,Xb⟩,nf,nf⟩,⟨Xa ⟨Y,0,Xb⟩,ns,ns⟩,⟨Xa ⟨l,0,Xb⟩,ns,ns⟩,zF,⟨Xa ⟨h,0,Xb⟩,nb,nb⟩,z,X,zF,zF⟩ ⟨Xr nf frF,0,Xr ns 0,Xr ns zt,[],H,K,fl,nb,[],[]⟩ a5 C a9 V):=gy.pick ja mx;have g4:Xo (zr dv w.heap.size 41 qF):=ki.kind ja gy.mm.box Dc;have cv:=dD (du.trans mv);clear mx ja mv;obtain⟨ni,k0,k1,d5,i9,k4,k6,nj,rfl⟩:=zdL k7 mz;clear mz;simp only[pgc,mP,Xw];go_upto_region 20 with fail;obtain⟨am,ip⟩:=kA dv.heap.size;obtain⟨pl,dg⟩:=kB (dv.alloc (Xk #[U8 ni,U8 k0,U8 k1,U8 d5,U8 i9,U8 k4,U8 k6,U8 nj] 44));have j9:=gP dg;have pc:Xo (zr pl am 44 (pgc [ni,k0,k1,d5,i9,k4,k6,nj])):=dD (by rw[<-dg];exact zr.aE _ (pgc [ni,k0,k1,d5,i9,k4,k6,nj]) _ ip.symm);have ny:=dD (ij.aA j9);have pn:=dD (g4.aA j9);have fu:Xo (A<=am):=show _<=_ by rw[<-ip.out];exact ij.mm.rows.hw
     rw[dg,ip.out];clear dg j9;go_wp2;go_loopg [113] 8 (fun en n1 wr=>∃(G:Nat) (gn:List Int),G<=8/\8 - G<=en/\n1=I6 G/\Xo (FC w A j wr aw dt ⟨⟨Xa ⟨U,0,Xb⟩,nf,nf⟩,⟨Xa ⟨Y,0,Xb⟩,ns,ns⟩,⟨Xa ⟨l,0,Xb⟩,ns,ns⟩,zF,⟨Xa ⟨h,0,Xb⟩,nb,nb⟩,z,X,zF,zF⟩ ⟨Xr nf frF,0,Xr ns 0,Xr ns zt,[],H,K,fl,nb,[],[]⟩ a5 C a9 V)/\Xo (zr wr am 44 (pgc gn))/\Xo (gn.length=8)/\Xo (zr wr w.heap.size 41 qF))
     exact⟨0,[ni,k0,k1,d5,i9,k4,k6,nj],nZ _,Wm,rfl,ny,pc,rfl,pn⟩;obtain⟨G,gn,td,t9,rfl,c0,g3,nc,cx⟩:=hrel;by_cases mf:G<8
     ·have jp:(G:Int)<8:=Wm
      obtain⟨e0,gj⟩:∃e0,gn[G]? =Xa e0:=⟨_,gE (Rx nc.out mf)⟩;have v8:=g3.box.c G (zg3 gj);have v9:=g3.box.f;have na:=c0.box.box.c 0 rfl;clear gj;by_cases bo:C<=8*(cu:Int)+(G:Int)
      ·have qk:decide (C<=8*(cu:Int)+(G:Int))=Xc:=Si bo
       have oh:Xo (wr.grownBy (wr.setCell ⟨am,G,Xb⟩ (U8 0)) (Xa am)):=jC _ _ _ _;have pd:Xo (zr (wr.setCell ⟨am,G,Xb⟩ (U8 0)) am 44 (pgc (gn.set G 0))):=show zr _ _ _ _ by rw[zdA];exact g3.set G _
       have nz:Xo (FC w A j (wr.setCell ⟨am,G,Xb⟩ (U8 0)) aw dt ⟨⟨Xa ⟨U,0,Xb⟩,nf,nf⟩,⟨Xa ⟨Y,0,Xb⟩,ns,ns⟩,⟨Xa ⟨l,0,Xb⟩,ns,ns⟩,zF,⟨Xa ⟨h,0,Xb⟩,nb,nb⟩,z,X,zF,zF⟩ ⟨Xr nf frF,0,Xr ns 0,Xr ns zt,[],H,K,fl,nb,[],[]⟩ a5 C a9 V):=c0.kind oh g3 Dc Dc (c0.mm.page g3 fu oh) rfl rfl;have po:Xo (zr (wr.setCell ⟨am,G,Xb⟩ (U8 0)) w.heap.size 41 qF):=cx.kind oh g3 Dc;go_wp2;go_roundg (8 -(G+1));exact⟨G+1,gn.set G 0,Wm,Wm,Gn,nz,pd,(show(gn.set G 0).length=8 by rw[Yg];exact nc),po⟩;omega
      have qk:decide (C<=8*(cu:Int)+(G:Int))=Xd:=Si bo;go_wp2;go_roundg (8 -(G+1));exact⟨G+1,gn,Wm,Wm,Gn,c0,g3,nc,cx⟩;omega
     have jp:¬(G:Int)<8:=Wm;obtain⟨av,b5,b6,b7,b8,b9,ba,bb,rfl⟩:=zdL gn nc.out;go_upto_region 26 with fail;obtain⟨q,p⟩:=Ww fun d=>zc wr d;have M:q wr.drew:=(p _).2 (gW _);have cd:Xo (∀d,q d->zr d am 44 (pgc [av,b5,b6,b7,b8,b9,ba,bb])):=dD<|fun d e8=>g3.aA ((p _).1 e8);have qw:=fun a:zg q=>(c0.mm.box.box.aA ((p _).1 a.holds)).c 6 rfl;have jf:=fun a:zg q=>(cd _ a.holds).box.c 0 rfl;have jg:=fun a:zg q=>(cd _ a.holds).box.c 1 rfl;have jh:=fun a:zg q=>(cd _ a.holds).box.c 2 rfl;have ji:=fun a:zg q=>(cd _ a.holds).box.c 3 rfl;have jj:=fun a:zg q=>(cd _ a.holds).box.c 4 rfl;have jk:=fun a:zg q=>(cd _ a.holds).box.c 5 rfl;have jl:=fun a:zg q=>(cd _ a.holds).box.c 6 rfl;have jm:=fun a:zg q=>(cd _ a.holds).box.c 7 rfl;have b4:Nonempty (zg q):=⟨⟨_,M⟩⟩;refine qA (I:=q) 9 [] M z2 Kr rfl rfl Dc (fun x aj=>by cases aj) (fun k s dy gv b3=>by cases b3) (fun dy gv k s az=>by cases az) (fun k gv b3=>by cases b3) ?_;simp only[Xx,Xy];refine zq ?_;refine Qy (.tmp 126) ⟨j,0,Xb⟩ rfl rfl rfl rfl ?_;refine Uq ?_;iterate 7 refine zq ?_
     refine Zf fun sn hb _=>?_;have d0:=(p _).1 hb;refine ZI rfl (.tmp 134) (.tmp 133) rfl w.heap.size (O (Xa ⟨h,0,Xb⟩) nb nb) H (c0.aA d0).mm.rows.db h n rfl (Rx co.2.2 gc) [av,b5,b6,b7,b8,b9,ba,bb] rfl _ rfl (by first | rfl | simp) rfl ?_;intro lo ia cf ig;obtain⟨-,lw,eu⟩:=QV (c0.aA d0).mm.rows.db (g:=h) rfl;have fp:Xo (FC w A j lo aw dt ⟨⟨Xa ⟨U,0,Xb⟩,nf,nf⟩,⟨Xa ⟨Y,0,Xb⟩,ns,ns⟩,⟨Xa ⟨l,0,Xb⟩,ns,ns⟩,zF,⟨Xa ⟨h,0,Xb⟩,nb,nb⟩,z,X,zF,zF⟩ ⟨Xr nf frF,0,Xr ns 0,Xr ns zt,[],(H.set n [av,b5,b6,b7,b8,b9,ba,bb]),K,fl,nb,[],[]⟩ a5 C a9 V):=(c0.aA d0).kind cf eu Dc Dc ((c0.aA d0).mm.setDb rfl cf ig (zds nf) ia).1 rfl rfl;have pq:=dD ((cx.aA d0).kind cf eu Dc);have pe:Xo (zr lo am 44 (pgc [av,b5,b6,b7,b8,b9,ba,bb])):=(g3.aA d0).beside cf (fun Q e=>by cases e;have:=(c0.mm.rows.bC h rfl);have:=fu.out;omega);clear hb d0 ia cf ig lw eu M qw b4;clear jf jg jh ji jj jk jl jm;have f0:=qu 2 fp.mm;go_wp2_with fail;refine f0.mono ?_;clear f0;rintro e ce ⟨b0,ef,a,rfl,i7,df,-,-,-,-,i6⟩;have W:Xo (FC w A j ce b0 ef ⟨⟨Xa ⟨U,0,Xb⟩,nf,nf⟩,⟨Xa ⟨Y,0,Xb⟩,ns,ns⟩,⟨Xa ⟨l,0,Xb⟩,ns,ns⟩,zF,⟨Xa ⟨h,0,Xb⟩,nb,nb⟩,z,X,zF,zF⟩ ⟨Xr nf frF,0,Xr ns 0,Xr ns zt,[],(H.set n [av,b5,b6,b7,b8,b9,ba,bb]),K,fl,nb,[],[]⟩ a5 C a9 V):=fp.pick df i7;have iz:Xo (zr ce w.heap.size 41 qF):=pq.kind df fp.mm.box Dc;have pg:Xo (zr ce am 44 (pgc [av,b5,b6,b7,b8,b9,ba,bb])):=pe.kind df fp.mm.box Dc;have h5:=dD (cv.trans i6);clear i7 df i6;have l2:Xo ((H.set n [av,b5,b6,b7,b8,b9,ba,bb]).length=nb):=show _=_ by rw[Yg];exact co.2.2
     by_cases nh:a=1
     ·have qz:(a == 1)=Xc:=by simp[nh]
      clear nh;go_upto_region 28 with fail;have il:Xo (zs w.heap.size ce (z.x) K):=W.mm.rows.dq;have oo:Xo (K.length<=1000):=show _<=_ by
       have ax:=co.1.ql;have ak:=zgn ((qf _ _).1 co.1.st).2.1;have bu:=((qf _ _).1 co.1.st).1.1;have ty:=co.2.1;omega
      obtain⟨q,p⟩:=Ww fun d=>zr d j 81 [b0.x,O (Xa ⟨U,0,Xb⟩) nf nf,I6 0,O (Xa ⟨Y,0,Xb⟩) ns ns,O (Xa ⟨l,0,Xb⟩) ns ns,eS,O (Xa ⟨h,0,Xb⟩) nb nb,z.x,X.x,I6 (nb:Int),eS,eS,eS]/\zr d am 44 (pgc [av,b5,b6,b7,b8,b9,ba,bb]);have M:q ce.drew:=(p _).2 ⟨W.mm.box.aA (gW _),pg.aA (gW _)⟩;have cd:Xo (∀d,q d->zr d am 44 (pgc [av,b5,b6,b7,b8,b9,ba,bb])):=dD<|fun d e8=>((p _).1 e8).2;have qx:=fun a:zg q=>((p _).1 a.holds).1.box.c 7 rfl;have jf:=fun a:zg q=>(cd _ a.holds).box.c 0 rfl;have jg:=fun a:zg q=>(cd _ a.holds).box.c 1 rfl;have jh:=fun a:zg q=>(cd _ a.holds).box.c 2 rfl;have ji:=fun a:zg q=>(cd _ a.holds).box.c 3 rfl;have jj:=fun a:zg q=>(cd _ a.holds).box.c 4 rfl;have jk:=fun a:zg q=>(cd _ a.holds).box.c 5 rfl;have jl:=fun a:zg q=>(cd _ a.holds).box.c 6 rfl;have jm:=fun a:zg q=>(cd _ a.holds).box.c 7 rfl;have b4:Nonempty (zg q):=⟨⟨_,M⟩⟩;refine zO (I:=q) 16 [(10,fun r=>∃Q,r= O (Xa ⟨Q,0,Xb⟩) 1 1),(11,fun r=>∃cb n c,r= O cb n c)] (fun d=>zc ce d) M (gW _) z2 Kr rfl rfl Dc (Sb ⟨_,0,rfl⟩ ⟨_,Xb,0,0,rfl⟩) Kr ?_;simp only[Xx,Xy];iterate 2 refine zi ?_
      refine zU (.tmp 139) ⟨j,0,Xb⟩ rfl rfl rfl rfl ?_;refine Uq ?_;iterate 7 refine zi ?_
      refine zE rfl rfl (fun r d=>zc ce d/\∃Q,r= O (Xa ⟨Q,0,Xb⟩) 1 1/\jK d ⟨Q,0,Xb⟩ (ptc ((n:Int),[av,b5,b6,b7,b8,b9,ba,bb]))) (fun w' i d1=>?_) (fun dm a0=>?_);·exact zL.step (v:= O (Xa ⟨w'.heap.size,0,Xb⟩) 1 1) (w':=w'.alloc (Xk #[I6 (n:Int),U8 av,U8 b5,U8 b6,U8 b7,U8 b8,U8 b9,U8 ba,U8 bb] 88)) (by simp only[execOp];go_simp) ⟨(p _).2 ⟨((p _).1 i).1.aA (za _ _),((p _).1 i).2.aA (za _ _)⟩,⟨_,rfl⟩,d1.trans (za _ _),_,rfl,jK.aE w' (ptc ((n:Int),[av,b5,b6,b7,b8,b9,ba,bb])) _ rfl⟩
      obtain⟨de,rfl⟩:=a0;refine Uq ?_;refine zE rfl rfl (fun r d=>∃u0,zc ce u0/\u0.grownBy d (z.x).ownBlock/\zs w.heap.size d r (K++ [((n:Int),[av,b5,b6,b7,b8,b9,ba,bb])])) (fun w' i d1=>?_) (fun dm a0=>?_)
      ·obtain⟨au,Q,md,ql⟩:=d1;have me:de=Q:=by
        simp only[vJ,Option.some.injEq,Addr.mk.injEq]at md;exact md.1.1
       subst me;obtain⟨fo,bz,ae,al,a7⟩:=zeA (w:=w') 32 (il.aA au) de ((n:Int),[av,b5,b6,b7,b8,b9,ba,bb]) rfl ql oo (nT (bS W.mm.gr) (bS au));obtain⟨el,r4,e6,rfl⟩:=al.slice;have jd:q bz:=by
        cases ad:(z.x).ownBlock with
        | none=>
         rw[ad]at a7;exact(p _).2 ⟨((p _).1 i).1.aA (qq a7),((p _).1 i).2.aA (qq a7)⟩
        | some m2=>
         rw[ad]at a7;obtain⟨-,fj,bo⟩:=za6 (il.aA au) ad;exact(p _).2 ⟨((p _).1 i).1.kind a7 bo Dc,((p _).1 i).2.kind a7 bo Dc⟩
       refine zL.step (v:= O el r4 e6) (w':=bz) ?_ ⟨jd,⟨el,r4,e6,rfl⟩,w',au,a7,al⟩;simp only[execOp,resolve,invoke,builtin,pure_bind,Xu,Xt,Xz,mP,Xw];exact Eq.trans (congrArg (fun k8=>Result.andThen k8 (fun cb w'=>Result.ok (Next.value cb) w')) ae) rfl
      obtain⟨km,ko,kn,rfl⟩:=a0;refine Uq ?_;refine zU (.tmp 138) ⟨j,0,Xb⟩ rfl rfl rfl rfl ?_;refine Uq ?_;iterate 3 refine zi ?_
      refine qv fun D ch ep=>?_;obtain⟨u0,aq,t,ck⟩:=ep;have aa:Xo (zr D j 81 [b0.x,O (Xa ⟨U,0,Xb⟩) nf nf,I6 0,O (Xa ⟨Y,0,Xb⟩) ns ns,O (Xa ⟨l,0,Xb⟩) ns ns,eS,O (Xa ⟨h,0,Xb⟩) nb nb,z.x,X.x,I6 (nb:Int),eS,eS,eS]):=((p _).1 ch).1;have iw:Xo (MkR w.heap.size A D ⟨⟨Xa ⟨U,0,Xb⟩,nf,nf⟩,⟨Xa ⟨Y,0,Xb⟩,ns,ns⟩,⟨Xa ⟨l,0,Xb⟩,ns,ns⟩,zF,⟨Xa ⟨h,0,Xb⟩,nb,nb⟩,⟨km,ko,kn⟩,X,zF,zF⟩ ⟨Xr nf frF,0,Xr ns 0,Xr ns zt,[],H.set n [av,b5,b6,b7,b8,b9,ba,bb],K++ [((n:Int),[av,b5,b6,b7,b8,b9,ba,bb])],fl,nb,[],[]⟩ zF []):=(W.mm.rows.aA aq).addDq t ⟨km,ko,kn⟩ (zds nf) ck;have ex:zc w D/\FlB w.heap.size A a5 D ⟨⟨Xa ⟨U,0,Xb⟩,nf,nf⟩,⟨Xa ⟨Y,0,Xb⟩,ns,ns⟩,⟨Xa ⟨l,0,Xb⟩,ns,ns⟩,zF,⟨Xa ⟨h,0,Xb⟩,nb,nb⟩,z,X,zF,zF⟩ ⟨Xr nf frF,0,Xr ns 0,Xr ns zt,[],H.set n [av,b5,b6,b7,b8,b9,ba,bb],K,fl,nb,[],[]⟩/\zr D a5 84 [I6 C,a9.x]/\zb blE (a5+1) D (a9.x) V/\zr D w.heap.size 41 qF:=by
       cases ad:(z.x).ownBlock with
       | none=>
        rw[ad]at t;have k:=qq t;exact⟨(W.mm.gr.trans aq).trans k,(W.fb.aA aq).aA k,(W.box.aA aq).aA k,(W.row.aA aq).aA k,(iz.aA aq).aA k⟩
       | some m2=>
        rw[ad]at t;obtain⟨qn,fj,bo⟩:=za6 (il.aA aq) ad;exact⟨zd (W.mm.gr.trans aq) t qn,(W.fb.aA aq).kind t bo (.inl Dc) (.inl Dc),(W.box.aA aq).kind t bo Dc,(W.row.aA aq).kind t bo Dc,(iz.aA aq).kind t bo Dc⟩
      obtain⟨lz,rm,rn,ro,m0⟩:=ex;have kz:Xo (zc w D):=lz;have kv:Xo (FlB w.heap.size A a5 D ⟨⟨Xa ⟨U,0,Xb⟩,nf,nf⟩,⟨Xa ⟨Y,0,Xb⟩,ns,ns⟩,⟨Xa ⟨l,0,Xb⟩,ns,ns⟩,zF,⟨Xa ⟨h,0,Xb⟩,nb,nb⟩,z,X,zF,zF⟩ ⟨Xr nf frF,0,Xr ns 0,Xr ns zt,[],H.set n [av,b5,b6,b7,b8,b9,ba,bb],K,fl,nb,[],[]⟩):=rm;have lj:Xo (zr D a5 84 [I6 C,a9.x]):=rn;have lk:Xo (zb blE (a5+1) D (a9.x) V):=ro;have j0:Xo (zr D w.heap.size 41 qF):=m0;clear lz rm rn ro m0 u0 aq t ck ch M qx b4;clear jf jg jh ji jj jk jl jm;obtain⟨eg,dh⟩:=kB (D.setCell ⟨j,7,Xb⟩ (O km ko kn));have R:D.grownBy eg (Xa j):=(by rw[<-dh];exact jC _ _ _ _);have iv:Mk w A eg j b0 ef ⟨⟨Xa ⟨U,0,Xb⟩,nf,nf⟩,⟨Xa ⟨Y,0,Xb⟩,ns,ns⟩,⟨Xa ⟨l,0,Xb⟩,ns,ns⟩,zF,⟨Xa ⟨h,0,Xb⟩,nb,nb⟩,⟨km,ko,kn⟩,X,zF,zF⟩ ⟨Xr nf frF,0,Xr ns 0,Xr ns zt,[],H.set n [av,b5,b6,b7,b8,b9,ba,bb],K++ [((n:Int),[av,b5,b6,b7,b8,b9,ba,bb])],fl,nb,[],[]⟩ zF []:=⟨zd kz R W.mm.hb,W.mm.hb,by rw[<-dh];exact aa.set 7 _,W.mm.lr,W.mm.lc,W.mm.lb,iw.var R aa R.size (.inl rfl)⟩;have o9:Xo (FC w A j eg b0 ef ⟨⟨Xa ⟨U,0,Xb⟩,nf,nf⟩,⟨Xa ⟨Y,0,Xb⟩,ns,ns⟩,⟨Xa ⟨l,0,Xb⟩,ns,ns⟩,zF,⟨Xa ⟨h,0,Xb⟩,nb,nb⟩,⟨km,ko,kn⟩,X,zF,zF⟩ ⟨Xr nf frF,0,Xr ns 0,Xr ns zt,[],(H.set n [av,b5,b6,b7,b8,b9,ba,bb]),(K++ [((n:Int),[av,b5,b6,b7,b8,b9,ba,bb])]),fl,nb,[],[]⟩ a5 C a9 V):=dD<|⟨iv,W.hp,(kv.kind R aa (.inl Dc) (.inl Dc)).as rfl rfl,W.fn,lj.kind R aa Dc,lk.kind R aa Dc⟩;have j1:Xo (zr eg w.heap.size 41 qF):=j0.kind R aa Dc;have ld:Xo (_=eg):=dh;have v5:=aa.box.c 7 rfl;have nv:=aa.box.f;clear dh R;go_wp2;rw[ld.out];go_meet;exact⟨(n:Int),b0,ef,⟨km,ko,kn⟩,_,_,rfl,rfl,o9,h5,j1,(show _/\_ from⟨co.1.block (more:=true) (Rx co.2.2 gc) ds.1 ds.2,l2⟩)⟩
     have qz:(a == 1)=Xd:=(by simp[nh]);clear nh;go_wp2;go_meet;exact⟨(n:Int),b0,ef,z,_,_,rfl,rfl,W,h5,iz,(show _/\_ from⟨co.1.block (more:=false) (Rx co.2.2 gc) ds.1 ds.2,l2⟩)⟩
   obtain⟨g6,aw,dt,n4,lx,ly,rfl,rfl,ij,cv,g4,kx⟩:=hcut;have kd:=ij.box.box.c 1 rfl;have l0:Xo (V.length=cu):=dD<|co.2.1;have op:Xo (a5+1<=wc.heap.size):=ij.box.box.lt;go_wp2_with (at_builtin;refine zy (E:=blE) rfl (.tmp 155) (.tmp 157) rfl (a5+1) _ V rfl (ij.row.aA (za _ _)) _ [g6] rfl (jZ blE wc g6 _ _ rfl Dc) ?qb ?qc ?_)
   case qb=>
    rw[l0.out];show(cu+1)*8<=_;omega
   case qc=>exact nT op (bS (za _ _))
   intro v3 D gk cg;obtain⟨j2,g7,rfl⟩:=gk.form;obtain⟨li,m4⟩:=kB ((V++ [g6]).length);rw[m4]at gk⊢;clear m4;obtain⟨so,jc⟩:=kB (wc.alloc (Xk #[I6 g6] 3));have qd:=gP jc;have h9:so.grownBy D (a9.x).ownBlock:=Ry jc cg;clear cg jc;obtain⟨lv,mu,m1⟩:=(ij.aA qd).addB h9 ⟨j2,li,g7⟩ gk;have o8:Xo (FC w A j (D.setCell ⟨a5,1,Xb⟩ (O j2 li g7)) aw dt ⟨⟨Xa ⟨U,0,Xb⟩,nf,nf⟩,⟨Xa ⟨Y,0,Xb⟩,ns,ns⟩,⟨Xa ⟨l,0,Xb⟩,ns,ns⟩,zF,⟨Xa ⟨h,0,Xb⟩,nb,nb⟩,n4,X,zF,zF⟩ ⟨Xr nf frF,0,Xr ns 0,Xr ns zt,[],lx,ly,fl,nb,[],[]⟩ a5 C ⟨j2,li,g7⟩ (V++ [g6])):=m1;have j0:Xo (zr (D.setCell ⟨a5,1,Xb⟩ (O j2 li g7)) w.heap.size 41 qF):=mu _ _ _ Dc Dc (g4.aA qd);have aa:Xo (zr D a5 84 [I6 C,a9.x]):=lv;clear lv mu m1 h9 gk qd kd;have kd:=aa.box.c 1 rfl;have v7:=aa.box.f;go_wp2;go_roundg (g2 -(cu+1));exact⟨cu+1,aw,dt,n4,⟨j2,li,g7⟩,lx,ly,V++ [g6],Wm,Wm,Gn,o8,cv,j0,(show _/\_ from⟨kx.1,by rw[lA,l0.out];rfl,kx.2⟩)⟩;omega
  have jo:=kD hw;obtain rfl:cu=g2:=Wm;go_upto_region 31 with fail;obtain⟨bq,cl,f8,dl⟩:=ca.fb;have ee:Xo (zb fvE w.heap.size wr (X.x) bq):=cl;have ab:Xo (bq.length=fl.length):=show _=_ from f8;have fv:Xo (∀(G:Nat) x f,bq[G]? =Xa x->fl[G]? =Xa f->x.size=f.size/\zb blE A wr x.v f.bl):=dD<|fun G x f aj ay=>(dl G x f aj ay).1;clear cl f8 dl;obtain⟨bn,dp⟩:∃bn:FlV,Xo (bn=⟨C,a9.a,a9.n,a9.c⟩):=⟨_,rfl⟩;obtain⟨q,p⟩:=Ww fun d=>zr d j 81 [fe.x,O (Xa ⟨U,0,Xb⟩) nf nf,I6 0,O (Xa ⟨Y,0,Xb⟩) ns ns,O (Xa ⟨l,0,Xb⟩) ns ns,eS,O (Xa ⟨h,0,Xb⟩) nb nb,z.x,X.x,I6 (nb:Int),eS,eS,eS]/\zr d a5 84 [I6 C,a9.x];have M:q wr.drew:=(p _).2 ⟨ca.mm.box.aA (gW _),ca.box.aA (gW _)⟩;have gi:=fun a:zg q=>((p _).1 a.holds).1.box.c 8 rfl;have ge:=fun a:zg q=>((p _).1 a.holds).2.box.c 0 rfl;have gh:=fun a:zg q=>((p _).1 a.holds).2.box.c 1 rfl;have b4:Nonempty (zg q):=⟨⟨_,M⟩⟩;refine zO (I:=q) 14 [(8,fun r=>∃Q,r= O (Xa ⟨Q,0,Xb⟩) 1 1),(9,fun r=>∃cb n c,r= O cb n c)] (fun d=>zc wr d) M (gW _) z2 Kr rfl rfl Dc (Sb ⟨_,0,rfl⟩ ⟨_,Xb,0,0,rfl⟩) Kr ?_;simp only[Xx,Xy];iterate 2 refine zi ?_
  refine zU (.tmp 162) ⟨j,0,Xb⟩ rfl rfl rfl rfl ?_;refine Uq ?_;iterate 5 refine zi ?_
  refine zE rfl rfl (fun r d=>zc wr d/\zp fvE d r [bn]) (fun w' i d1=>?_) (fun dm a0=>?_);·exact zL.step (v:= O (Xa ⟨w'.heap.size,0,Xb⟩) 1 1) (w':=w'.alloc (Xk #[I6 C,a9.x] 84)) (by simp only[execOp];go_simp) ⟨(p _).2 ⟨((p _).1 i).1.aA (za _ _),((p _).1 i).2.aA (za _ _)⟩,⟨_,rfl⟩,d1.trans (za _ _),jZ fvE w' bn _ _ (Rr dp.out) Dc⟩
  obtain⟨de,rfl⟩:=a0;refine Uq ?_;refine zE rfl rfl (fun r d=>∃u0,zc wr u0/\u0.grownBy d (X.x).ownBlock/\zb fvE w.heap.size d r (bq++ [bn])) (fun w' i d1=>?_) (fun dm a0=>?_)
  ·obtain⟨au,qs⟩:=d1;obtain⟨fo,bz,ae,al,a7,-⟩:=qT (E:=fvE) (w:=w') 35 (ee.aA au) (O (Xa ⟨de,0,Xb⟩) 1 1) [bn] qs (by have:=ab.out;have:=ft.out;rw[ab.out];show(fl.length+1)*32<=_;omega) (nT (bS ca.mm.gr) (bS au));obtain⟨el,e6,rfl⟩:=al.form;have jd:q bz:=by
    cases ad:(X.x).ownBlock with
    | none=>
     rw[ad]at a7;exact(p _).2 ⟨((p _).1 i).1.aA (qq a7),((p _).1 i).2.aA (qq a7)⟩
    | some m2=>
     rw[ad]at a7;obtain⟨fj,bo⟩:=(ee.aA au).obj ad;have dx:=ca.fn m2 ad;exact(p _).2 ⟨((p _).1 i).1.kind a7 bo Dc,((p _).1 i).2.beside a7 (fun k e=>by cases e;omega)⟩
   refine zL.step (v:= .slice el (bq++ [bn]).length e6) (w':=bz) ?_ ⟨jd,⟨el,_,e6,rfl⟩,w',au,a7,al⟩;simp only[execOp,resolve,invoke,builtin,pure_bind,Xu,Xt,Xz,mP,Xw];exact Eq.trans (congrArg (fun k8=>Result.andThen k8 (fun cb w'=>Result.ok (Next.value cb) w')) ae) rfl
  obtain⟨j5,j7,j6,rfl⟩:=a0;refine Uq ?_;refine zU (.tmp 161) ⟨j,0,Xb⟩ rfl rfl rfl rfl ?_;refine Uq ?_;iterate 3 refine zi ?_
  refine qv fun D ch ep=>?_;obtain⟨u0,aq,t,ck⟩:=ep;have aa:Xo (zr D j 81 [fe.x,O (Xa ⟨U,0,Xb⟩) nf nf,I6 0,O (Xa ⟨Y,0,Xb⟩) ns ns,O (Xa ⟨l,0,Xb⟩) ns ns,eS,O (Xa ⟨h,0,Xb⟩) nb nb,z.x,X.x,I6 (nb:Int),eS,eS,eS]):=((p _).1 ch).1;have iw:Xo (MkR w.heap.size A D ⟨⟨Xa ⟨U,0,Xb⟩,nf,nf⟩,⟨Xa ⟨Y,0,Xb⟩,ns,ns⟩,⟨Xa ⟨l,0,Xb⟩,ns,ns⟩,zF,⟨Xa ⟨h,0,Xb⟩,nb,nb⟩,z,⟨j5,j7,j6⟩,zF,zF⟩ ⟨Xr nf frF,0,Xr ns 0,Xr ns zt,[],H,K,fl++ [⟨C,V⟩],nb,[],[]⟩ zF []):=(ca.mm.rows.aA aq).addFl (ee.aA aq) ab (fun G x f aj ay=>⟨(fv G x f aj ay).1,(fv G x f aj ay).2.aA aq⟩) t ⟨j5,j7,j6⟩ (x:=bn) (f:=⟨C,V⟩) (zds nf) (by rw[dp.out]) (by rw[dp.out];exact(ca.row.aA aq).base (Hm ca.hp)) ck;have ex:zc w D/\zr D w.heap.size 41 qF:=by
   cases ad:(X.x).ownBlock with
   | none=>
    rw[ad]at t;exact⟨(ca.mm.gr.trans aq).trans (qq t),(ek.aA aq).aA (qq t)⟩
   | some m2=>
    rw[ad]at t;obtain⟨fj,bo⟩:=(ee.aA aq).obj ad;exact⟨zd (ca.mm.gr.trans aq) t ((ee.aA aq).lt m2 ad).1,(ek.aA aq).kind t bo Dc⟩
  obtain⟨lz,m0⟩:=ex;have R:=jC D j 8 (O j5 j7 j6);have iv:Xo (Mk w A (D.setCell ⟨j,8,Xb⟩ (O j5 j7 j6)) j fe ri ⟨⟨Xa ⟨U,0,Xb⟩,nf,nf⟩,⟨Xa ⟨Y,0,Xb⟩,ns,ns⟩,⟨Xa ⟨l,0,Xb⟩,ns,ns⟩,zF,⟨Xa ⟨h,0,Xb⟩,nb,nb⟩,z,⟨j5,j7,j6⟩,zF,zF⟩ ⟨Xr nf frF,0,Xr ns 0,Xr ns zt,[],H,K,fl++ [⟨C,V⟩],nb,[],[]⟩ zF []):=dD<|⟨zd lz R ca.mm.hb,ca.mm.hb,aa.set 8 _,ca.mm.lr,ca.mm.lc,ca.mm.lb,iw.var R aa R.size (.inl rfl)⟩;have j1:Xo (zr (D.setCell ⟨j,8,Xb⟩ (O j5 j7 j6)) w.heap.size 41 qF):=m0.kind R aa Dc
  have kw:Xo (zgs (fl++ [⟨C,V⟩]) nb H K []/\(fl++ [(⟨C,V⟩:Fl)]).length<=f3+1/\H.length=nb/\∀f∈fl++ [(⟨C,V⟩:Fl)],f.size<40):=dD<|⟨co.1.file (Hm ft.out) (Hm l7.out) (by rw[co.2.1,io.out]),by have:=ft.out;simp;omega,co.2.2,fun f ay=>by
   rcases Xv.1 ay with ay|ay;·exact l4 f ay
   simp only[mC,nM,or_false]at ay;rw[ay];exact l7.2⟩
  clear u0 aq t ck lz m0 R ch M gi ge gh b4;have v6:=aa.box.c 8 rfl;have nv:=aa.box.f;go_wp2;go_roundg (c -(f3+1));exact⟨f3+1,fe,ri,z,⟨j5,j7,j6⟩,H,K,fl++ [(⟨C,V⟩:Fl)],Wm,Wm,Gn,iv,ff,j1,kw,(fun ar=>absurd ar (Nat.succ_ne_zero _))⟩;omega
 have jn:=kD hq;have s4:Xo (qo ⟨Xr nf frF,0,Xr ns 0,Xr ns zt,[],dd,e7,fl,nb,[],[]⟩ []):=c0.1.start js jt 0;have l5:Xo (fl.length<=2/\∀f∈fl,f.size<40):=show _/\_ from⟨Hm c0.2.1,c0.2.2.2⟩;have oe:Xo (L=[]->fl=[]/\e7=[]/\dd=Xr nb zt):=dD<|fun e=>ss.out (Hm (oc.out e));have i3:=qu 2 h6.out;go_wp2_with fail;refine i3.mono ?_;clear i3;rintro e iy ⟨dz,ke,a,rfl,f6,cg,-,gp,gu,kr,f4⟩;obtain⟨e9,ti⟩:∃e9:Nat,1+a=(e9:Int):=⟨(1+a).toNat,Wm⟩;have rr:e9<=2:=by rcases gu with ar | ar <;> omega
 have rq:1<=e9:=Wm;have im:Xo (L=[]->e9=1):=dD<|fun e=>Hm (kr (p9 e));have kf:Xo (Mk w A iy j dz ke ⟨⟨Xa ⟨U,0,Xb⟩,nf,nf⟩,⟨Xa ⟨Y,0,Xb⟩,ns,ns⟩,⟨Xa ⟨l,0,Xb⟩,ns,ns⟩,zF,⟨Xa ⟨h,0,Xb⟩,nb,nb⟩,k9,X,zF,zF⟩ ⟨Xr nf frF,0,Xr ns 0,Xr ns zt,[],dd,e7,fl,nb,[],[]⟩ zF []):=f6;have pu:Xo (zr iy w.heap.size 41 qF):=cx.beside cg (fun Q e=>by cases e;have:=br.out;omega);have iu:=dD (p9.trans f4);clear f6 cg f4 gp gu kr;go_wp2;go_loopg [179] e9 (fun en n2 wr=>∃(ao:Nat) (an:Sli) (bm:List Int) (sm:MaV) (fm:Ma) (rc:Sli) (pi:List (Nat->En)),ao<=e9/\e9 - ao<=en/\n2=I6 ao/\Xo (Mk w A wr j an bm sm fm rc pi)/\Xo (Jw L bm)/\Xo (zr wr w.heap.size 41 qF)/\Xo (qo fm pi)/\Xo (fm.sp.length=ao/\(∀s∈fm.sp,Qa fm.fl.length s.aC/\QJ s.aC 64<=12)/\fm.aB=0/\fm.fs.length=nf/\(fm.fl.length<=2/\∀f∈fm.fl,f.size<40))/\Xo (L=[]->fm=zme nf ns nb ao/\pi=Xr ao (fun _=>en0)))
 exact⟨0,dz,ke,_,_,_,_,nZ _,Wm,rfl,kf,iu,pu,s4,(show _/\_ from⟨rfl,fun s Z=>(by cases Z),rfl,lR,l5⟩),(show _->_ from fun e=>by obtain⟨d9,cy,kj⟩:=oe.out e;rw[d9,cy,kj];exact⟨rfl,rfl⟩)⟩;obtain⟨ao,gx,oz,b,ag,a8,cq,tg,ta,rfl,fg,ff,ek,cc,bi,nx⟩:=hrel;have bd:Xo (ag.sp.length=ao):=bi.1;by_cases i1:ao<e9
 ·have jq:=kC i1
  by_cases ax:ao=1
  ·subst ax;have l6:Xo (L≠[]):=dD<|fun e=>Hm (im.out e);have qf:((((1:Nat):Int)) == 1)=Xc:=Dc;have i4:=qu 2 fg.out;go_wp2_with fail;refine i4.mono ?_;clear i4;rintro e ah ⟨cm,fw,e0,rfl,f7,dw,-,-,-,-,f5⟩;have sb:Xo (Mk w A ah j cm fw b ag a8 cq):=f7;have ls:Xo (zr ah w.heap.size 41 qF):=ek.beside dw (fun Q e=>by cases e;have:=br.out;omega);have fz:=dD (ff.trans f5);clear f7 dw f5;obtain⟨fg,ff,ek⟩:Xo (Mk w A ah j cm fw b ag a8 cq)/\Xo (Jw L fw)/\Xo (zr ah w.heap.size 41 qF):=⟨sb,fz,ls⟩;by_cases gj:e0=1
   ·have r0:(e0 == 1)=Xc:=by simp[gj]
    clear gj;obtain⟨gp,mo⟩:=Yc.1 bd.out;have ir:Xo (ag.sp=[gp]):=mo;clear mo;have mc:=zoE gp fg cc ir.out;go_wp2_with fail;refine mc.mono ?_;clear mc;rintro e dv ⟨⟨r,rfl⟩,h7,af,cn,d8,cl,dl,ib,⟨f9,fb,ic,ie⟩⟩;have lh:Xo (Mk w A dv j cm fw h7 af cn d8):=cl;have g4:Xo (zr dv w.heap.size 41 qF):=dl.1 _ _ _ ek zfS;have kt:Xo (qo af d8):=ib;have ln:Xo (af.sp.length=1+1/\(∀s∈af.sp,Qa af.fl.length s.aC/\QJ s.aC 64<=12)/\af.aB=0/\af.fs.length=nf/\(af.fl.length<=2/\∀f∈af.fl,f.size<40)):=show _/\_ from⟨by rw[f9,ir.out];rfl,fun s Z=>by
     rw[f9]at Z;rw[fb];rcases Xv.1 Z with Z|Z;·exact bi.2.1 s Z
     simp only[mC,nM,or_false]at Z;rw[Z];exact bi.2.1 gp (by rw[ir.out];simp),ic.trans bi.2.2.1,ie.trans bi.2.2.2.1,Rx fb bi.2.2.2.2⟩
    have ku:Xo (L=[]->af=zme nf ns nb (1+1)/\d8=Xr (1+1) (fun _=>en0)):=dD<|fun e=>absurd e l6.out;clear cl dl ib f9 fb ic ie;go_wp2;go_roundg (e9 -(1+1));exact⟨1+1,cm,fw,h7,af,cn,d8,Wm,Wm,Gn,lh,ff,g4,kt,ln,ku⟩;omega
   have r0:(e0 == 1)=Xd:=(by simp[gj]);clear gj;have f1:=zgO fg cc (by rw[bd.out];omega)
   go_wp2_with fail;refine f1.mono ?_;clear f1;rintro e dv ⟨⟨r,rfl⟩,aw,dt,h7,af,cn,d8,tn,cl,f8,dl,ib,⟨f9,fb,ic,ie⟩,k7,gm⟩;have lh:Xo (Mk w A dv j aw dt h7 af cn d8):=cl;have cv:=dD (ff.trans f8);have g4:Xo (zr dv w.heap.size 41 qF):=dl.1 _ _ _ ek zfS;have kt:Xo (qo af d8):=ib;have ln:Xo (af.sp.length=1+1/\(∀s∈af.sp,Qa af.fl.length s.aC/\QJ s.aC 64<=12)/\af.aB=0/\af.fs.length=nf/\(af.fl.length<=2/\∀f∈af.fl,f.size<40)):=show _/\_ from⟨by rw[f9,lA,bd.out];rfl,fun s Z=>by
    rw[f9]at Z;rw[fb];rcases Xv.1 Z with Z|Z;·exact bi.2.1 s Z
    simp only[mC,nM,or_false]at Z;rw[Z];exact k7,ic.trans bi.2.2.1,ie.trans bi.2.2.2.1,Rx fb bi.2.2.2.2⟩
   have ku:Xo (L=[]->af=zme nf ns nb (1+1)/\d8=Xr (1+1) (fun _=>en0)):=dD<|fun e=>absurd e l6.out;clear cl f8 dl ib f9 fb ic ie k7 gm;go_wp2;go_roundg (e9 -(1+1));exact⟨1+1,aw,dt,h7,af,cn,d8,Wm,Wm,Gn,lh,cv,g4,kt,ln,ku⟩;omega
  obtain rfl:ao=0:=Wm;have qf:((((0:Nat):Int)) == 1)=Xd:=Dc;have f1:=zgO fg cc (by rw[bd.out];omega)
  go_wp2_with fail;refine f1.mono ?_;clear f1;rintro e dv ⟨⟨r,rfl⟩,aw,dt,h7,af,cn,d8,tn,cl,f8,dl,ib,⟨f9,fb,ic,ie⟩,k7,gm⟩;have lh:Xo (Mk w A dv j aw dt h7 af cn d8):=cl;have cv:=dD (ff.trans f8);have g4:Xo (zr dv w.heap.size 41 qF):=dl.1 _ _ _ ek zfS;have kt:Xo (qo af d8):=ib;have ln:Xo (af.sp.length=0+1/\(∀s∈af.sp,Qa af.fl.length s.aC/\QJ s.aC 64<=12)/\af.aB=0/\af.fs.length=nf/\(af.fl.length<=2/\∀f∈af.fl,f.size<40)):=show _/\_ from⟨by rw[f9,lA,bd.out];rfl,fun s Z=>by
   rw[f9]at Z;rw[fb];rcases Xv.1 Z with Z|Z;·exact bi.2.1 s Z
   simp only[mC,nM,or_false]at Z;rw[Z];exact k7,ic.trans bi.2.2.1,ie.trans bi.2.2.2.1,Rx fb bi.2.2.2.2⟩
  have ku:Xo (L=[]->af=zme nf ns nb (0+1)/\d8=Xr (0+1) (fun _=>en0)):=dD<|fun e=>by
   obtain⟨d9,cy⟩:=gm (ff e);obtain⟨st,su⟩:=nx.out e;rw[st]at d9;rw[su]at cy;exact⟨d9,cy⟩
  clear cl f8 dl ib f9 fb ic ie k7 gm;go_wp2;go_roundg (e9 -(0+1));exact⟨0+1,aw,dt,h7,af,cn,d8,Wm,Wm,Gn,lh,cv,g4,kt,ln,ku⟩;omega
 have jq:=kD i1;obtain⟨re,rf,ry,-⟩:=fg.rows.sp;have on:Xo (b.sp.n=ao):=dD<|by rw[rf.n,ry,bd.out]
 obtain⟨bj,ea⟩:=kA wr.heap.size;have l1:Xo (j<bj):=dD<|Ry ea.out fg.box.box.lt;have lg:Xo (w.heap.size<bj):=dD<|Ry ea.out ek.box.lt;have ov:Xo (∀Q,(b.sp.x).ownBlock=Xa Q->Q<bj):=dD<|fun Q ai=>by rw[<-ea.out];exact(rf.lt Q ai).2
 have se:Xo (zo6 w wr j gx oz [b.f.x,I6 ag.aB,b.s.x,b.sb.x,b.sq.x,b.db.x,b.dq.x,b.fl.x,I6 ag.cnt,b.ca.x,b.sp.x,a8.x]):=fg.aU;have sl:Xo (MkT w.heap.size A bj 0 wr b ag a8 cq):=fg.rows.start bj ea.out;have it:Xo (cq.length=ao):=show _=_ by rw[cc.tl,bd.out]
 have s7:Xo (∀(N:Nat) f,cq[N]? =Xa f->∀e∈tab f,0<=e.kind):=dD<|fun N f ay e mb=>by
  obtain⟨dy,az⟩:=Yl mb;have hh:dy<64:=by have:=(gS.1 az).1;rw[Q0]at this;exact this
  rw[J9 hh]at az;cases az;have rs:N<ag.sp.length:=by rw[<-cc.tl];exact(gS.1 ay).1
  rcases cc.aM N _ f (gE rs) ay dy hh with e|e;·rw[e];decide
  by_cases b3:(f dy).kind=2;·omega
  have:=(zQ e b3).1;omega
 have kc:=fg.box.box.c 11 rfl;(try simp only[Sli.x]at kc);rw[on.out]at kc;clear rf ry re;go_wp2;clear kc;go_loopg [200] ao (fun en n3 wr=>∃N:Nat,N<=ao/\ao - N<=en/\n3=I6 N/\Xo (MkT w.heap.size A bj N wr b ag a8 cq)/\Xo (zo6 w wr j gx oz [b.f.x,I6 ag.aB,b.s.x,b.sb.x,b.sq.x,b.db.x,b.dq.x,b.fl.x,I6 ag.cnt,b.ca.x,b.sp.x,a8.x])/\Xo (zr wr w.heap.size 41 qF)/\Xo (bj<=wr.heap.size))
 exact⟨0,nZ _,Wm,rfl,sl,se,ek,(show _<=_ by rw[ea.out];exact nR _)⟩;obtain⟨N,rs,tb,rfl,kg,d7,cx,rg⟩:=hrel;by_cases ey:N<ao
 ·have jr:=kC ey
  obtain⟨f,of⟩:∃f,Xo (cq[N]? =Xa f):=⟨_,gE (Rx it.out ey)⟩;obtain⟨ks,gu,kr,rx⟩:=kg.sp;have mt:ks.length=ao:=by rw[kr,bd.out]
  obtain⟨x,ee⟩:∃x,Xo (ks[N]? =Xa x):=⟨_,gE Wm⟩;obtain⟨fk,fj,ju⟩:=gu.aG Wm;rw[mt]at ju;have ed:Xo (b.sp.x=(O (Xa ⟨fk,0,Xb⟩) ao fj)):=ju;obtain⟨ng,qa,jv⟩:=kg.tt.aG (by rw[it.out];omega);rw[it.out]at jv;have l8:Xo (a8.x=(O (Xa ⟨ng,0,Xb⟩) ao qa)):=jv;have lm:Xo (zb ZZ w.heap.size wr (O (Xa ⟨fk,0,Xb⟩) ao fj) ks):=show zb _ _ _ _ _ by rw[<-ed.out];exact gu
  have sg:Xo (zb zcO w.heap.size wr (O (Xa ⟨ng,0,Xb⟩) ao qa) cq):=dD<|Ry l8.out kg.tt;have sh:Xo (ks.length=ag.sp.length):=kr;have si:Xo (∀(G:Nat) x s f,ks[G]? =Xa x->ag.sp[G]? =Xa s->cq[G]? =Xa f->x.aF=s.aF/\zb arE w.heap.size wr x.ar.v s.aC/\(G<N->QY 0 bj wr x.tab (Zm f))/\(N<=G->x.tab=Jv)):=show∀G,_ from rx;clear gu kr rx ju jv mt;go_upto_region 43 with fail;obtain⟨q,p⟩:=Ww fun d=>zc wr d;have M:q wr.drew:=(p _).2 (gW _);have mr:∀a:zg q,a.world.cell? ⟨j,11,Xb⟩=Xa (O (Xa ⟨fk,0,Xb⟩) ao fj):=fun a=>by
   have:=(d7.box.box.aA ((p _).1 a.holds)).c 11 rfl;rw[ed.out]at this;exact this
  have ms:∀a:zg q,a.world.cell? ⟨j,12,Xb⟩=Xa (O (Xa ⟨ng,0,Xb⟩) ao qa):=fun a=>by
   have:=(d7.box.box.aA ((p _).1 a.holds)).c 12 rfl;rw[l8.out]at this;exact this
  have b4:Nonempty (zg q):=⟨⟨_,M⟩⟩;refine zO (I:=q) 16 [(13,fun r=>∃gw:List Xq,r= Xi gw.toArray)] (fun _=>True) M trivial z2 Kr rfl rfl Dc (Sa ⟨_,[],rfl⟩) Kr ?_;simp only[Xx,Xy];refine zi ?_;refine zU (.tmp 203) ⟨j,0,Xb⟩ rfl rfl rfl rfl ?_;refine Uq ?_;iterate 5 refine zi ?_
  refine zU (.tmp 209) ⟨j,0,Xb⟩ rfl rfl rfl rfl ?_;refine Uq ?_;iterate 4 refine zi ?_
  refine zop (Xi (qk (tab f)).toArray) rfl rfl (fun d e8=>ziu (.tmp 214) rfl ng (N*192) rfl ((sg.aA ((p _).1 e8)).range of) (by rw[Qm,Q0])) ?_;refine Uq ?_;refine zE rfl rfl (fun r d=>∃gw:List Xq,r= Xi gw.toArray/\QY 0 bj d gw (Zm f)) (fun w' i _=>?_) (fun dm a0=>?_);·refine zL.call [Xi (qk (tab f)).toArray] rfl func28 rfl rfl rfl ?_;refine(zio (tab f) w' (Q0 f) (s7 N f of)).mono ?_;rintro e kb ⟨gw,rfl,f2,qu⟩;exact⟨_,rfl,(p _).2 (((p _).1 i).trans qu),⟨gw,rfl⟩,gw,rfl,f2.less (nR _) (nT rg (bS ((p _).1 i)))⟩
  obtain⟨gw,rfl⟩:=a0;refine Uq ?_;iterate 2 refine zi ?_
  refine qv fun ix eq qg=>?_;obtain⟨rb,jw,f2⟩:=qg;have qv:gw=rb:=by
   simp only[Value.agg.injEq]at jw;simpa using congrArg Array.toList jw
  subst qv;obtain⟨nk,nl,nm,nn,no,np,nr,nt,rfl⟩:=zlN f2;have j8:=(p _).1 eq;have sj:Xo (QY 0 bj ix [nk.v,nl.v,nm.v,nn.v,no.v,np.v,nr.v,nt.v] (Zm f)):=f2;have cp:Xo (zc wr ix):=j8;clear jw f2 j8 eq M mr ms b4;refine zx (E:=ZZ) rfl (.tmp 218) (.tmp 216) 61 rfl w.heap.size _ ks (lm.aA cp) fk N 2 rfl x ⟨x.aF,x.ar,nk,nl,nm,nn,no,np,nr,nt⟩ ee.out [nk.v,nl.v,nm.v,nn.v,no.v,np.v,nr.v,nt.v] Kr rfl (by show 2+8<=10;omega) (fun d e8=>by simp only[mC,nM,or_false]at e8;rcases e8 with rfl | rfl | rfl | rfl | rfl | rfl | rfl | rfl <;> rfl) _ rfl (by first | rfl | simp) _ rfl rfl ?_;intro fi my bt n6;obtain⟨sv,g9⟩:=(lm.aA cp).obj (g:=fk) rfl;have ga:fk<bj:=ov.out fk (Rr ed.out)
  have sk:Xo (MkT w.heap.size A bj (N+1) fi b ag a8 cq):=(kg.aA cp).table sh (fun G x s f aj Z ay=>by
   obtain⟨d9,cy,kj,j2⟩:=si.out G x s f aj Z ay;exact⟨d9,cy.aA cp,fun e=>(kj e).aA cp,j2⟩) g9 ga bt ee of (y:=⟨x.aF,x.ar,nk,nl,nm,nn,no,np,nr,nt⟩) ⟨rfl,rfl⟩ (sj.out.out (Out.grown bt (fun Q e=>by cases e;exact⟨nZ _,ga⟩))) (by (first|rw[ed.out]|rw[show O _ _ _=_ from ed.out]);exact my)
  have sc:Xo (zo6 w fi j gx oz [b.f.x,I6 ag.aB,b.s.x,b.sb.x,b.sq.x,b.db.x,b.dq.x,b.fl.x,I6 ag.cnt,b.ca.x,b.sp.x,a8.x]):=dD<|⟨zd (d7.gr.trans cp) bt ((lm.aA cp).lt fk rfl).1,d7.hb,(d7.box.aA cp).beside bt (fun Q e=>by cases e;exact(lm.aA cp).ne (d7.box.aA cp) Dc fk rfl),d7.lr,d7.lc,d7.lb⟩;have pr:Xo (zr fi w.heap.size 41 qF):=(cx.aA cp).beside bt (fun Q e=>by cases e;exact(lm.aA cp).ne (cx.aA cp) Dc fk rfl);have s6:Xo (bj<=fi.heap.size):=dD (by rw[n6];exact nT rg (bS cp));clear my bt n6 g9 ga;go_wp2;go_roundg (ao -(N+1));exact⟨N+1,Wm,Wm,Gn,sk,sc,pr,s6⟩;omega
 have jr:=kD ey;obtain rfl:ao=N:=Wm;have gz:Xo (1<=ag.sp.length/\ag.sp.length<=2):=dD<|by rw[bd.out];omega
 by_cases ha:0<nf
 ·have qe:decide ((0:Int)< (nf:Int))=Xc:=by simp;omega
  have ez:=zn1 (nf:Int) d7.out;go_wp2_with fail;refine ez.mono ?_;clear ez;rintro e eh ⟨ih,oy,a,rfl,i8,eo,-,na,kd,yn,-⟩;have pj:Xo (MkT w.heap.size A bj ao eh b ag a8 cq):=kg.other eo d7.box l1 (.inl rfl);have ps:Xo (zr eh w.heap.size 41 qF):=cx.kind eo d7.box Dc;have cw:Xo (zo6 w eh j ih oy [b.f.x,I6 ag.aB,b.s.x,b.sb.x,b.sq.x,b.db.x,b.dq.x,b.fl.x,I6 ag.cnt,b.ca.x,b.sp.x,a8.x]):=i8;have ot:Xo (0<=a/\a<max (ag.fs.length:Int) 1):=show _/\_ from⟨na,by rw[bi.2.2.2.1];omega⟩;have ou:Xo (L=[]->a=0):=dD<|fun e=>yn (ff e);clear i8 eo na kd yn;have tt:=cw.box.box.c 2 rfl;have nv:=cw.box.box.f;go_upto_region 47 with fail;clear tt nv;obtain⟨ei,di⟩:=kB (eh.setCell ⟨j,2,Xb⟩ (I6 a));have dj:eh.grownBy ei (Xa j):=by rw[<-di];exact jC _ _ _ _
  have P:Xo (zr ei j 81 [ih.x,b.f.x,I6 a,b.s.x,b.sb.x,b.sq.x,b.db.x,b.dq.x,b.fl.x,I6 ag.cnt,b.ca.x,b.sp.x,a8.x]):=dD (by rw[<-di];exact cw.box.set 2 _);have pk:Xo (MkT w.heap.size A bj ao ei b ag a8 cq):=pj.other dj cw.box l1 (.inl rfl);have lq:Xo (zr ei w.heap.size 41 qF):=ps.kind dj cw.box Dc;have ik:Xo (zc w ei):=zd cw.gr dj cw.hb;rw[di];clear di dj;have pv:=P.box.c 1 rfl;have pw:=P.box.c 2 rfl;have kl:=P.box.c 3 rfl;have g7:=P.box.c 4 rfl;have px:=P.box.c 5 rfl;have h8:=P.box.c 6 rfl;have py:=P.box.c 7 rfl;have pz:=P.box.c 8 rfl;have q0:=P.box.c 9 rfl;have j3:=P.box.c 10 rfl;have j4:=P.box.c 11 rfl;go_wp2_with (refine z4 rfl 41 (.tmp 8) (.tmp 233) rfl w.heap.size rfl [b.f.x,I6 a,b.s.x,b.sb.x,b.sq.x,b.db.x,b.dq.x,b.fl.x,I6 ag.cnt,b.ca.x,b.sp.x] rfl lq rfl zrX (fun r a0=>by simp only[mC,nM,or_false]at a0;rcases a0 with rfl | rfl | rfl | rfl | rfl | rfl | rfl | rfl | rfl | rfl | rfl <;> rfl) ?_)
  intro ej ci be _;have iq:Xo (znG w nf ns nb L ej b ag cq a A bj a8):=dD<|⟨zd ik be (nR _),by rw[bd.out];exact pk.other be lq lg (.inr rfl),cc,ot,bi.2.1,bi.2.2.2.2,gz,bi.2.2.2.1,fun e=>by obtain⟨d9,cy⟩:=nx.out e;have ax:=im.out e;have ak:ao=1:=Wm;rw[ak]at d9 cy;exact⟨d9,cy,ou e⟩⟩;have ii:Xo (Box ej w.heap.size [b.f.x,I6 a,b.s.x,b.sb.x,b.sq.x,b.db.x,b.dq.x,b.fl.x,I6 ag.cnt,b.ca.x,b.sp.x]):=ci.box;clear ci be;clear pv pw kl g7 px h8 py pz q0 j3 j4;go_wp2;refine bodyPost_ret (z7 rfl _ rfl ii underlying41 rfl zrX) rfl ⟨b,ag,cq,a,A,bj,a8,rfl,iq⟩
 have qe:decide ((0:Int)< (nf:Int))=Xd:=by simp;omega
 have P:Xo (zr wr j 81 [gx.x,b.f.x,I6 0,b.s.x,b.sb.x,b.sq.x,b.db.x,b.dq.x,b.fl.x,I6 ag.cnt,b.ca.x,b.sp.x,a8.x]):=dD<|by have:=d7.box;rw[bi.2.2.1]at this;exact this
 have ik:Xo (zc w wr):=d7.gr;have ot:Xo ((0:Int)<=0/\(0:Int)<max (ag.fs.length:Int) 1):=show _/\_ from⟨Int.le_refl _,Wm⟩;have pv:=P.box.c 1 rfl;have pw:=P.box.c 2 rfl;have kl:=P.box.c 3 rfl;have g7:=P.box.c 4 rfl;have px:=P.box.c 5 rfl;have h8:=P.box.c 6 rfl;have py:=P.box.c 7 rfl;have pz:=P.box.c 8 rfl;have q0:=P.box.c 9 rfl;have j3:=P.box.c 10 rfl;have j4:=P.box.c 11 rfl;go_wp2_with (refine z4 rfl 41 (.tmp 8) (.tmp 233) rfl w.heap.size rfl [b.f.x,I6 0,b.s.x,b.sb.x,b.sq.x,b.db.x,b.dq.x,b.fl.x,I6 ag.cnt,b.ca.x,b.sp.x] rfl cx rfl zrX (fun r a0=>by simp only[mC,nM,or_false]at a0;rcases a0 with rfl | rfl | rfl | rfl | rfl | rfl | rfl | rfl | rfl | rfl | rfl <;> rfl) ?_)
 intro ej ci be _;have iq:Xo (znG w nf ns nb L ej b ag cq 0 A bj a8):=dD<|⟨zd ik be (nR _),by rw[bd.out];exact kg.other be cx lg (.inr rfl),cc,ot,bi.2.1,bi.2.2.2.2,gz,bi.2.2.2.1,fun e=>by obtain⟨d9,cy⟩:=nx.out e;have ax:=im.out e;have ak:ao=1:=Wm;rw[ak]at d9 cy;exact⟨d9,cy,rfl⟩⟩;have ii:Xo (Box ej w.heap.size [b.f.x,I6 0,b.s.x,b.sb.x,b.sq.x,b.db.x,b.dq.x,b.fl.x,I6 ag.cnt,b.ca.x,b.sp.x]):=ci.box;clear ci be;clear pv pw kl g7 px h8 py pz q0 j3 j4;go_wp2;refine bodyPost_ret (z7 rfl _ rfl ii underlying41 rfl zrX) rfl ⟨b,ag,cq,0,A,bj,a8,rfl,iq⟩
theorem znG.at {ht:Nat} (h:znG w k b p L w' V m T z hi ht vt):zR w' V (QE m T z)/\maW (QE m T z)=0:=⟨h.rows.mach h.inv.tl z,h.inv.right h.aB.1 h.aB.2⟩
theorem zpz (E:Elt α) (w):zp E w (eS) ([]:List α):=(zb.nil E 0 w).at
theorem zkj:Zm (fun _=>en0)=qJ:=by kernel_rfl
def nm2:Ma:=zq9 2 2 2
def zfn:Ar:=⟨3,5,Xc,Xc,Xd,-1,0⟩
def nmA:Ma:={ nm2 with sp:=[⟨Xc,[zfn],qJ⟩] }
theorem rtA:Rt nmA:=⟨Kr,fun s a=>by
 have a:s∈[(⟨Xc,[zfn],qJ⟩:Sp)]:=a;rw[Yb.1 a]
 rfl⟩
theorem zjd (w:Xn):Xp prog 9 #[I6 2,I6 2,I6 2,eS] w fun e w'=>(∃(V:MaV) (d c:Nat) (x:SpV),e= Xl (Xi #[V.f.x,I6 0,V.s.x,V.sb.x,V.sq.x,V.db.x,V.dq.x,V.fl.x,I6 2,V.ca.x,V.sp.x])/\V.sp=⟨Xa ⟨d,0,Xb⟩,1,c⟩/\zb ZZ w.heap.size w' (O (Xa ⟨d,0,Xb⟩) 1 c) [x]/\∀(W:Xn) (r:Sli) (l:List Ar),qn (fun k=>k=d) w' W->zp ZZ W (O (Xa ⟨d,0,Xb⟩) 1 c) [{ x with ar:=r }]->zp arE W (r.x) l->r.n<=r.c->zR W V { nm2 with sp:=[⟨Xc,l,qJ⟩] })/\zc w w':=by
 refine(zhX 2 2 2 2 2 2 Dc Dc Dc zF [] w (zpz _ _) (nR _) Sm).mono ?_;rintro e w' ⟨V,al,af,a0,a4,D,ad,rfl,g⟩;obtain⟨R,S,T⟩:=g.new rfl;subst R S T;have b:=g.rows;have A:=g.gr;have C:Zm (fun _=>en0)=qJ:=zkj;clear g;obtain⟨ae,m,aa,ab⟩:=b.sp;obtain⟨x,rfl⟩:=Yc.1 (show ae.length=1 from aa);obtain⟨d,c,t⟩:=m.aG Nat.one_pos;have u:V.sp=⟨Xa ⟨d,0,Xb⟩,1,c⟩:=by
  generalize V.sp=ac at t;obtain⟨an,ap,ao⟩:=ac;simp only[vJ,List.length_singleton]at t;obtain⟨rfl,rfl,rfl⟩:=t;rfl
 have a5:d<D:=b.lo d (.inr (.inr (.inr (.inr (Rr u)))));rw[u]at m;have m:zb ZZ w.heap.size w' (O (Xa ⟨d,0,Xb⟩) 1 c) [x]:=m;refine⟨⟨V,d,c,x,rfl,u,m,fun W r l j a7 Y Z=>?_⟩,A⟩;obtain⟨ag,a6⟩:=m.obj rfl;have h:∀{p i n:Nat} {e:TypeId} {v:Xq} {N:List Xq},w'.ownsRow p e i v n N->ZZ.ty≠e->W.ownsRow p e i v n N:=fun q z=>zcw q j fun aj a2 I=>by
  subst I;obtain⟨_,_,ah,K⟩:=za5 q a2;rw[a6]at K;cases K;exact z rfl
 have a:∀{P:Type} {E:Elt P} {p:Nat} {v:Xq} {l:List P},zb E p w' v l->ZZ.ty≠E.ty->zb E p W v l:=fun q z=>⟨h q.1 z,q.2⟩;obtain⟨y,U,X,ai⟩:=b.fl;obtain⟨a9,am⟩:=b.sq;have H:=a U Dc;refine⟨(a b.fs Dc).at,(a b.sl Dc).at,zl.at ⟨h b.sb.1 Dc,b.sb.2⟩,?_,zl.at ⟨h b.db.1 Dc,b.db.2⟩,zs.at ⟨h b.dq.1 Dc,b.dq.2⟩,⟨H.cap,y,H.at.s0,X,fun F x f L t=>by cases t⟩,(a b.ca Dc).at,⟨[{ x with ar:=r }],Rx u a7,rfl,fun F aq s M a8=>?_⟩⟩
 ·show jX W (V.sq.x) []
  rw[a9];exact⟨⟨Xb,0,rfl,fun _=>rfl,fun x L=>by cases L⟩,Sm,Sm⟩
 cases F with
 | succ F=>cases M
 | zero=>
  cases M;cases a8;obtain⟨Q,_,G,_⟩:=ab 0 x _ _ rfl rfl rfl;rw[C]at G;exact⟨Q,Y,Z,((G Dc).out ⟨j.os,j.tape,j.output,j.size,fun k B ak=>j.block k B (fun e=>Wm)⟩).now⟩
theorem onA (n:Nat) (h:n=3\/n=4):zo [zfn] n=z5 zfn n:=Q1 (by show(3:Int)<=_;omega) (by show _< (5:Int);omega)
theorem zob:¬JP nmA (ZO nmA) 0 4 Xc er:=fun h=>by
 rcases zdD rtA h with⟨_,e|⟨q,s,d,a,b⟩⟩|⟨q,i,s,d,a,b,f,j,g⟩
 ·rcases e with e|e
  ·omega
  have:(1:Int)<=0:=e;omega
 ·have:q=0:=Wm
  subst this;cases a;have:=b zfn (Yb.2 rfl);cases this
 have:q=0:=Wm;subst this;have:i=4:=Wm;subst this;cases f;have c:zo [zfn] 4=z5 zfn 4:=onA 4 (.inr rfl);rcases g with⟨_,e⟩|⟨_,⟨_,e⟩|⟨_,_,e⟩⟩;·have e:(zo [zfn] 4).wr=Xd:=e;rw[c]at e;cases e
 ·have e:(ZA nmA (zo [zfn] 4) (zf ⟨Xc,[zfn],qJ⟩ 4)).2.2=9:=e;rw[c]at e;revert e;decide
 revert e;decide
theorem zq4 (h:zqo nmA (ZO nmA) 0 4 Xc k m'):Rt m'/\m'.fs.length=2/\∃fr,m'.fs[k]? =Xa fr/\fr.r=1:=by
 obtain⟨q,j,w,c,v,u,s,t,a⟩:=zlJ rtA h;have:q=0:=Wm;subst this;have:j=4:=Wm;subst this;have i:=a.sp;cases i;have g:z5 zfn 4=z5 c 4:=(onA 4 (.inr rfl)).symm.trans a.on;have b:zfn.sh=c.sh:=congrArg On.sh g;obtain⟨x,fr,y,l,d,m,n,p,f,r⟩:=a.into;refine⟨a.rt,a.fsl,fr,d,?_⟩;rcases(f rfl).2 with⟨_,e⟩|e;·have:=(a.rt.refs d).1;omega
 rw[<-b]at e;cases e
theorem zmc (h:JP nmA (ZO nmA) 0 5 Xc er):er=5:=by
 rcases zdD rtA h with⟨e,_⟩|⟨q,i,s,c,d,f,b,a,g⟩;·exact e
 have:q=0:=Wm;subst this;have:i=5:=Wm;subst this;cases b;have a:(zo [zfn] 5).is=Xc:=a;rw[show(zo [zfn] 5).is=Xd by decide]at a;cases a
theorem zqt (h:zqo nmA (ZO nmA) 0 5 Xc k m'):False:=by
 obtain⟨q,i,s,d,j,g,e,f,a⟩:=zlJ rtA h;have:q=0:=Wm;subst this;have:i=5:=Wm;subst this;have c:=a.sp;cases c;have b:(zo [zfn] 5).is=Xc:=by
  have:=a.on;grind [zo,zfn,z5]
 revert b;decide
theorem zlt (w:Xn):Xp Tryz.prog 8 #[] w fun e w'=>e= Xl (Xh Xc)/\zc w w':=by
 have hbu:=zjd w;go_enter Tryz.func8,Tryz.ntmps8;go_wp2_with fail;refine hbu.mono ?_;clear hbu;rintro e W1 ⟨⟨V,ps,c,x,rfl,hV,s1,hk⟩,g1⟩;have G1:Xo (zc w W1):=g1;have S1:Xo (zb ZZ w.heap.size W1 (O (Xa ⟨ps,0,Xb⟩) 1 c) [x]):=s1;have HK:=show Xo _ from hk;have HV:Xo (V.sp=⟨Xa ⟨ps,0,Xb⟩,1,c⟩):=hV;have HPS:Xo (ps<W1.heap.size):=(s1.lt ps rfl).2;clear g1 s1 hk hV;go_upto_region 2 with fail;obtain⟨b,HB⟩:∃b,Xo (W1.heap.size=b):=⟨_,rfl⟩;obtain⟨W2,hW2⟩:∃W2,W1.alloc (Xk #[O V.f.a V.f.n V.f.c,Xe Xf 0,O V.s.a V.s.n V.s.c,O V.sb.a V.sb.n V.sb.c,O V.sq.a V.sq.n V.sq.c,O V.db.a V.db.n V.db.c,O V.dq.a V.dq.n V.dq.c,O V.fl.a V.fl.n V.fl.c,Xe Xf 2,O V.ca.a V.ca.n V.ca.c,O V.sp.a V.sp.n V.sp.c] 41)=W2:=⟨_,rfl⟩;have g2:=gP hW2;have X2:=xPT hW2 HB;have G2:=dD (G1.out.trans g2);have G12:Xo (zc W1 W2):=g2;rw[hW2,HB.out];clear hW2 g2;have x10:=X2.out.box.c 10 rfl;rw[HV.out]at x10;have HAR:Xo (zb arE W2.heap.size (W2.alloc (Xk #[Xe Xf 3,Xe Xf 5,Xh Xc,Xh Xc,Xh Xd,Xe Xf (-1),Xe Xf 0] 77)) (O (Xa ⟨W2.heap.size,0,Xb⟩) 1 1) [zfn]):=show zb _ _ _ _ _ from zb.mk' (E:=arE) (base:=W2.heap.size) (g:=W2.heap.size) (cap:=1) (l:=[zfn]) (cur:=#[Xe Xf 3,Xe Xf 5,Xh Xc,Xh Xc,Xh Xd,Xe Xf (-1),Xe Xf 0]) (nR _) (zr.aE W2 [Xe Xf 3,Xe Xf 5,Xh Xc,Xh Xc,Xh Xd,Xe Xf (-1),Xe Xf 0] _ rfl) (by decide) (by decide) rfl rfl (by decide);go_wp2_with (refine zx (E:=ZZ) rfl (.tmp 14) (.tmp 12) 58 rfl w.heap.size _ [x] (S1.out.aA (G12.out.trans (za _ _))) ps 0 1 rfl x { x with ar:=⟨Xa ⟨W2.heap.size,0,Xb⟩,1,1⟩ } rfl [O (Xa ⟨W2.heap.size,0,Xb⟩) 1 1] (by kernel_rfl) rfl (by show 1+1<=10;omega) (by simp[Value.oneCell']) _ rfl rfl _ rfl rfl ?_)
 clear x10;intro W4 ow4 gr4 _;have hA4:=HAR.out.grown gr4 (fun g hg e=>by
  cases e;have h1:=(HAR.out.lt ps hg).1;have h2:=HPS.out;have h3:=bS G12.out
  omega)
 have M4:Xo (zR W4 V nmA):=show zR W4 V { nm2 with sp:=[⟨Xc,[zfn],qJ⟩] }from HK.out W4 ⟨Xa ⟨W2.heap.size,0,Xb⟩,1,1⟩ [zfn] ((qn.aA (G12.out.trans (za _ _))).trans (qn.grown gr4 rfl)) ow4.at hA4.at (nR _);have X4:Xo (zr W4 b 41 [O V.f.a V.f.n V.f.c,Xe Xf 0,O V.s.a V.s.n V.s.c,O V.sb.a V.sb.n V.sb.c,O V.sq.a V.sq.n V.sq.c,O V.db.a V.db.n V.db.c,O V.dq.a V.dq.n V.dq.c,O V.fl.a V.fl.n V.fl.c,Xe Xf 2,O V.ca.a V.ca.n V.ca.c,O V.sp.a V.sp.n V.sp.c]):=show zr _ _ _ _ from(X2.out.aA (za _ _)).beside gr4 (fun k hk=>by cases hk;have:=HPS.out;have:=HB.out;omega);have G4:Xo (zc w W4):=show zc _ _ from zd (G2.out.trans (za _ _)) gr4 (S1.out.lt ps rfl).1;clear ow4 gr4 hA4 HAR HK S1 X2 G12 G2 G1;have hus:Xp Tryz.prog 11 #[Xi #[O V.f.a V.f.n V.f.c,Xe Xf 0,O V.s.a V.s.n V.s.c,O V.sb.a V.sb.n V.sb.c,O V.sq.a V.sq.n V.sq.c,O V.db.a V.db.n V.db.c,O V.dq.a V.dq.n V.dq.c,O V.fl.a V.fl.n V.fl.c,Xe Xf 2,O V.ca.a V.ca.n V.ca.c,O V.sp.a V.sp.n V.sp.c],Xe Xf 0,Xe Xf 4,Xh Xc] W4 fun e w'=>((∃er:Int,e= Xl (Xm #[Xi qF.toArray,Xe Xf 0,Xe Xf er])/\JP nmA (ZO nmA) 0 4 Xc er)\/(∃(V':MaV) (k pc:Nat) (m':Ma),e= Xl (Xm #[Xi #[O V'.f.a V'.f.n V'.f.c,Xe Xf m'.aB,O V'.s.a V'.s.n V'.s.c,O V'.sb.a V'.sb.n V'.sb.c,O V'.sq.a V'.sq.n V'.sq.c,O V'.db.a V'.db.n V'.db.c,O V'.dq.a V'.dq.n V'.dq.c,O V'.fl.a V'.fl.n V'.fl.c,Xe Xf m'.cnt,O V'.ca.a V'.ca.n V'.ca.c,O V'.sp.a V'.sp.n V'.sp.c],Xe Xf (k:Int),Xe Xf 0])/\zqo nmA (ZO nmA) 0 4 Xc k m'/\ChW W4 pc w' V' m'))/\zc W4 w':=zfA V nmA 0 4 Xc W4 M4.out rtA;obtain⟨x0,x1,x2,x3,x4,x5,x6,x7,x8,x9,x10⟩:=X4.out.box.bQ;go_wp2_with fail;refine hus.mono ?_;clear hus x0 x1 x2 x3 x4 x5 x6 x7 x8 x9 x10;rintro e W5 ⟨⟨er,_,hn⟩ | ⟨V5,k,pc,m5,rfl,hu,hc5⟩,g5⟩;·exact absurd hn zob
 obtain⟨r5,l5,fr,f5,q5⟩:=zq4 hu;have M5:Xo (zR W5 V5 m5):=hc5.at;have R5:Xo (Rt m5):=r5;have L5:Xo (m5.fs.length=2):=l5;have F5:Xo (m5.fs[k]? =Xa fr):=f5;have Q5:Xo (fr.r=1):=q5;have HK2:Xo (k<2):=show k<2 by
  have:=(gS.1 f5).1;omega
 clear hu hc5 r5 l5 f5 q5;go_upto_region 4 with fail;obtain⟨d,HD⟩:∃d,Xo (W5.heap.size=d):=⟨_,rfl⟩;obtain⟨W6,hW6⟩:∃W6,W5.alloc (Xk #[O V5.f.a V5.f.n V5.f.c,Xe Xf m5.aB,O V5.s.a V5.s.n V5.s.c,O V5.sb.a V5.sb.n V5.sb.c,O V5.sq.a V5.sq.n V5.sq.c,O V5.db.a V5.db.n V5.db.c,O V5.dq.a V5.dq.n V5.dq.c,O V5.fl.a V5.fl.n V5.fl.c,Xe Xf m5.cnt,O V5.ca.a V5.ca.n V5.ca.c,O V5.sp.a V5.sp.n V5.sp.c] 41)=W6:=⟨_,rfl⟩;have g6:=gP hW6;have Y6:=xPT hW6 HD;have X6:=dD (X4.out.aA (g5.trans g6));have G6:=dD (G4.out.trans (g5.trans g6));have M6:=dD (M4.out.aA (g5.trans g6));have N6:=dD (M5.out.aA g6);rw[hW6,HD.out];clear hW6 g5 g6 X4 G4 M4 M5 HD;have hus:Xp Tryz.prog 11 #[Xi #[O V.f.a V.f.n V.f.c,Xe Xf 0,O V.s.a V.s.n V.s.c,O V.sb.a V.sb.n V.sb.c,O V.sq.a V.sq.n V.sq.c,O V.db.a V.db.n V.db.c,O V.dq.a V.dq.n V.dq.c,O V.fl.a V.fl.n V.fl.c,Xe Xf 2,O V.ca.a V.ca.n V.ca.c,O V.sp.a V.sp.n V.sp.c],Xe Xf 0,Xe Xf 5,Xh Xc] W6 fun e w'=>((∃er:Int,e= Xl (Xm #[Xi qF.toArray,Xe Xf 0,Xe Xf er])/\JP nmA (ZO nmA) 0 5 Xc er)\/(∃(V':MaV) (k pc:Nat) (m':Ma),e= Xl (Xm #[Xi #[O V'.f.a V'.f.n V'.f.c,Xe Xf m'.aB,O V'.s.a V'.s.n V'.s.c,O V'.sb.a V'.sb.n V'.sb.c,O V'.sq.a V'.sq.n V'.sq.c,O V'.db.a V'.db.n V'.db.c,O V'.dq.a V'.dq.n V'.dq.c,O V'.fl.a V'.fl.n V'.fl.c,Xe Xf m'.cnt,O V'.ca.a V'.ca.n V'.ca.c,O V'.sp.a V'.sp.n V'.sp.c],Xe Xf (k:Int),Xe Xf 0])/\zqo nmA (ZO nmA) 0 5 Xc k m'/\ChW W6 pc w' V' m'))/\zc W6 w':=zfA V nmA 0 5 Xc W6 M6.out rtA;obtain⟨x0,x1,x2,x3,x4,x5,x6,x7,x8,x9,x10⟩:=X6.out.box.bQ;go_wp2_with fail;refine hus.mono ?_;clear hus x0 x1 x2 x3 x4 x5 x6 x7 x8 x9 x10;rintro e W7 ⟨⟨er,rfl,hn⟩ | ⟨V7,k7,pc,m7,rfl,hu,hc7⟩,g7⟩
 rotate_left
 ·exact(zqt hu).elim
 have he5:=zmc hn;subst he5;clear hn;unfold qF;go_upto_region 5 with fail;obtain⟨W8,hW8⟩:∃W8,W7.alloc (Xk #[O Xb 0 0,Xe Xf 0,O Xb 0 0,O Xb 0 0,O Xb 0 0,O Xb 0 0,O Xb 0 0,O Xb 0 0,Xe Xf 0,O Xb 0 0,O Xb 0 0] 41)=W8:=⟨_,rfl⟩;have g8:zc W6 W8:=by rw[<-hW8];exact g7.trans (za _ _)
 have Y8:=dD (Y6.out.aA g8);have G8:=dD (G6.out.trans g8);have N8:=dD (N6.out.aA g8);rw[hW8];clear hW8 g7 g8 X6 Y6 G6 M6 N6;have hk0:(0:Int)<=(k:Int):=by omega
 have hk2:(k:Int)<2:=by have:=HK2.out;omega
 obtain⟨n5,-⟩:=N8.out.ns;rw[L5.out]at n5;obtain⟨ad,had,hl⟩:=N8.out.bA k fr F5.out;obtain⟨_,_,_,_,_,_,_,_,d8,_⟩:=hl W8 (zc.refl _);rw[Q5.out]at d8;have hwr:=zgX V5 m5 W8 N8.out R5.out.w;have HN5:Xo (V5.f.n=2/\V5.f.a=Xa ad):=show _/\_ from⟨n5,had⟩;clear n5 had hl;obtain⟨x0,x1,x2,x3,x4,x5,x6,x7,x8,x9,x10⟩:=Y8.out.box.bQ;rw[HN5.out.1,HN5.out.2]at x0 hwr;go_wp2_with fail;refine hwr.mono ?_;clear hwr x0 x1 x2 x3 x4 x5 x6 x7 x8 x9 x10;rintro e W9 ⟨rfl,g9⟩;have G9:=dD (G8.out.trans g9);clear g9;go_wp2;go_ret;exact⟨rfl,G9.out⟩
theorem ziw (F S B:Int) (vl:Sli) (L:List Int) (p n:Int) (K:Bool) (w:Xn) (b9:zp byE w (vl.x) L) (b8:vl.n<=vl.c) (lb:∀z∈L,0<=z/\z<256):
  Xp prog 5 #[Xi #[I6 F,I6 S,I6 B],vl.x,I6 p,I6 n,Xh K] w fun e w'=>e= Xl (Xh Xc)/\zc w w':=by
 obtain⟨az,g⟩:=kB (w.alloc (Xk #[I6 F,I6 S,I6 B] 23));have bf:=gA g;have bc:=xA g;have a3:Xo (_=az):=g;have Z:Xo (zp byE w (vl.x) L):=b9;have Y:Xo (vl.n<=vl.c):=b8;have X:Xo (∀z∈L,0<=z/\z<256):=show∀z,_ from lb;obtain⟨al,a1⟩:∃al:Nat,Xo (max (min F 40) 0=(al:Int)):=⟨(max (min F 40) 0).toNat,show _=_ by omega⟩;obtain⟨am,a2⟩:∃am:Nat,Xo (max (min S 60) 0=(am:Int)):=⟨(max (min S 60) 0).toNat,show _=_ by omega⟩;obtain⟨ak,a0⟩:∃ak:Nat,Xo (max (min B 80) 0=(ak:Int)):=⟨(max (min B 80) 0).toNat,show _=_ by omega⟩;clear g b9 b8 lb;have A:=zlt az;go_enter func5,ntmps5;go_wp2_with fail;rw[a3.out];refine A.mono ?_;clear A;rintro e bk ⟨rfl,a9⟩;have ar:=dD (bf.trans a9);have bd:=dD (bc.aA a9);clear a9;have C:=zhX F S B al am ak a1 a2 a0 vl L bk (Z.aA ar) Y X.out;obtain⟨bl,bm,bn⟩:=bd.c3;go_wp2_with fail;refine C.mono ?_;clear C bl bm bn;rintro e P ⟨V,ba,bj,b3,ah,cv,da,rfl,ac⟩;obtain⟨x,bb⟩:=ac.at;obtain⟨m,N⟩:=kA (QE ba bj b3);have aq:Xo (zR P V m):=show zR _ _ _ by rw[<-N.out];exact x
 have k:Xo (Rt m):=dD<|⟨Ry N.out bb,fun cb c8=>by
  obtain⟨b7,ah⟩:=Yl c8;obtain⟨co,_,cc,cd⟩:=aq.sp;have ca:b7<co.length:=by rw[cc];exact(gS.1 ah).1
  exact(cd b7 _ cb (gE ca) ah).tb.aJ⟩
 have bg:Xo (zc w P):=ar.trans ac.gr;have G:b3=m.aB:=by rw[<-N.out];rfl
 have E:ba.cnt=m.cnt:=by rw[<-N.out];rfl
 rw[G,E];clear ac x bb G E;go_upto_region 4 with fail;obtain⟨cz,v⟩:=kA P.heap.size;refine nW fun b0 h=>?_;have aa:=gP h;have ay:=xPT h v;have T:=dD (aq.aA aa);have bh:=dD (bg.trans aa);rw[v.out];clear h aa;obtain⟨aj,-⟩:=T.ns;obtain⟨c3,u⟩:=kA V.f.a;have W:Xo (JX b0 c3 m.fs):=show JX _ _ _ by rw[<-u.out];exact T.bA
 obtain⟨b,c⟩:=kA m.fs.length;rw[c.out]at aj;have I:Xo (V.f.n=b):=aj;have b4:b<=40:=Ry c.out k.inv.aK;have a4:Xo (qy m.fs=(m.fs.take b).countP fun f=>decide (f.r=0)):=dD<|by rw[<-c.out,List.take_length];rfl
 clear aj;have M:=ay.box.c 0 rfl;(try simp only[Sli.x]at M);rw[I.out,u.out]at M;go_wp2;clear M;go_loopg [12,32] b (fun c4 an ao wr=>∃a:Nat,a<=b/\b - a<=c4/\an=I6 (((m.fs.take a).countP fun f=>decide (f.r=0):Nat):Int)/\ao=I6 a/\Xo (zc b0 wr))
 exact⟨0,nZ _,Wm,rfl,rfl,show zc _ _ from zc.refl _⟩;obtain⟨a,c7,cu,rfl,rfl,s⟩:=hrel;by_cases l:a<b
 ·have D:=kC l
  obtain⟨f,aw⟩:∃f,Xo (m.fs[a]? =Xa f):=⟨_,gE (Rx c.out l)⟩;obtain⟨cs,rfl,b5⟩:=W.out a f aw.out;obtain⟨bo,bp,bq,br,bs,bt,bu,bv,bw,bx,a6,a7,a8⟩:=b5 wr s.out;clear b5;have U:Xo ((m.fs.take (a+1)).countP (fun f=>decide (f.r=0))=(m.fs.take a).countP (fun f=>decide (f.r=0))+(if decide (f.r=0)=Xc then 1 else 0)):=zlf _ aw.out;have t:Xo ((m.fs.take a).countP (fun f=>decide (f.r=0))<=a):=dD<|nT List.countP_le_length (by simp;omega);generalize af:(m.fs.take a).countP (fun f=>decide (f.r=0))=a5 at U t;clear af;have c6:a5<=a:=t.out;go_upto_region 8 with fail;clear bo bp bq br bs bt bu bv bw bx a6 a7 a8;refine nW fun cq i=>?_;have b1:=gP i;have be:=xA i;have au:=dD (s.trans b1);clear i b1;have ct:=be.c 8 rfl;by_cases q:f.r=0
  ·have ai:(f.r == 0)=Xc:=Si q
   have j:Xo ((m.fs.take (a+1)).countP (fun f=>decide (f.r=0))=a5+1):=dD (by rw[U.out,kE (Si q)]);clear q;go_wp2;go_roundg (b -(a+1));exact⟨a+1,Wm,Wm,by rw[j.out];go_num,Gn,au⟩;omega
  have ai:(f.r == 0)=Xd:=Si q;have j:Xo ((m.fs.take (a+1)).countP (fun f=>decide (f.r=0))=a5):=dD (by rw[U.out,kF (Si q)];rfl);clear q;go_wp2;go_roundg (b -(a+1));exact⟨a+1,Wm,Wm,by rw[j.out],Gn,au⟩;omega
 have D:=kD l;have:a=b:=Wm;subst this;rw[<-a4.out];have bi:=dD (ay.aA s);have av:=dD (bh.trans s);have H:=zfA V m p n K wr (T.aA s) k.out;obtain⟨Q,ax⟩:=kA (qy m.fs);rw[ax.out];obtain⟨M,ce,cf,cg,ch,ci,cj,ck,cl,cm,ap⟩:=bi.box.bQ;go_wp2_with fail;refine H.mono ?_;clear H M ce cf cg ch ci cj ck cl cm ap;have d:∀y:Int,(y=10->Q=0)->(decide ((Q:Int)<2)=Xc)\/(decide ((Q:Int)<2)=Xd/\(y != 10)=Xc):=fun y c5=>by
  by_cases e:(Q:Int)<2;·exact .inl (decide_eq_true e)
  exact .inr ⟨decide_eq_false e,by simpa using fun bz=>e (by rw[c5 bz];decide)⟩
 rintro e cr ⟨⟨y,rfl,b6⟩|⟨cp,cw,cy,cx,rfl,c9,ae⟩,R⟩
 ·have ag:=d y (fun e=>by have:=zcx k b6 e;rw[ax.out]at this;exact this)
  have r:=dD (av.trans R);clear d b6 R;unfold qF;rcases ag with ab|⟨ab,b2⟩;·go_wp2;go_ret;exact⟨rfl,show zc w _ from r.trans (za _ _)⟩
  go_wp2;go_ret;exact⟨rfl,show zc w _ from r.trans (za _ _)⟩
 have ag:=d 0 (fun e=>by cases e);have r:=dD (av.trans R);clear d c9 ae R;rcases ag with ab|⟨ab,b2⟩;·go_wp2;go_ret;exact⟨rfl,show zc w _ from r.trans (za _ _)⟩
 clear b2;go_wp2;go_ret;exact⟨rfl,show zc w _ from r.trans (za _ _)⟩
end
section
open Go.ChangeShapes Go.WideShapes Go.ChangeAt Go.RowKit
theorem zrY:Tryz.prog.cellsOf 3=1:=by kernel_rfl
theorem zrZ:Tryz.prog.cellsOf 5=1:=by kernel_rfl
theorem zr0:Tryz.prog.cellsOf 23=3:=by kernel_rfl
theorem zr1:Tryz.prog.bytesOf 5=1:=by kernel_rfl
section
variable{H:Type} {enc:TypeId × Xq->H} {w:Xn} {base:Nat} {spare:Nat->Bool} {zgt:Bool}
theorem zfg {b:α->List Xq}:∀(l:List α) (x:Addr),(∀a∈l,(b a).length=k)->(∀(i:Nat) a,l[i]? =Xa a->jK w (x.add (i*k)) (b a))->jK w x (l.flatMap b)
 | [],x,_,_=>fun j u b=>by simp at b
 | a :: l,x,d,h=>fun j u b=>by
  rw[List.flatMap_cons]at b;have e:=d a Sm
  rcases Yp j k with c|c
  ·rw[Yf Wm]at b
   have:=h 0 a rfl j u b;rw[zX]at this;simpa using this
  rw[aR Wm,e]at b
  have e:=zfg l (x.add k) (fun c f=>d c (by simp[f])) (fun i c d=>by
   have:=h (i+1) c (Si d);rw[zX];rw[show k+i*k=(i+1)*k by rw[Nat.add_mul];omega]
   exact this) (j - k) u b
  rw[zX,show k+(j - k)=j by omega]at e;exact e
theorem zn6 [Inhabited α] (b:α->List Xq) (Q:α->Prop) (k:Nat) {e:TypeId} (M:Tryz.prog.underlying t=Xa (.slice e)) (G:Tryz.prog.cellsOf e=k) (c:∀n cs (x:DataW H × List MemPlace),cs.length=k->DataW.trod enc prog w base spare zgt n e cs=Xa x->∃a,Q a/\cs=b a)
  {g:Nat} {cs:List Xq} {x:DataW H × List MemPlace} (m:DataW.trod enc prog w base spare zgt g t cs=Xa x):
  ∃v l,cs=[v]/\QK b w v l/\(∀a∈l,Q a/\(b a).length=k)/\(l=[]\/∃y R,x.1= .slice y R/\y.length=l.length):=by
 rcases Go.Deep.open_slice M m with⟨rfl,_⟩|⟨a,d,j,P,n,S,T,rfl,A,W,X,r,s,p⟩;·exact⟨_,[],rfl,⟨Xb,0,rfl,fun _=>rfl,fun x s=>by cases s⟩,Sm,.inl rfl⟩
 have K:d<=P:=by rw[r];split <;> omega
 have q:∀i,i<d->∃f,Q f/\(b f).length=k/\jK w (a.add (i*k)) (b f):=fun i F=>by
  obtain⟨B,z,D⟩:=p i Wm;rw[G]at z;obtain⟨_,h,E⟩:=World.cells?_some z;obtain⟨f,L,rfl⟩:=c _ _ _ h D;refine⟨f,L,h,fun Y Z V=>?_⟩;grind
 obtain⟨C,U⟩:=Go.Deep.choose_lt q;refine⟨_,(List.range d).map C,rfl,⟨Xa a,j,Sm,fun m=>(by cases m),fun I N=>?_⟩,fun u A=>?_,.inr ⟨_,_,by rw[s],Sm⟩⟩
 ·cases N;refine zfg (k:=k) _ _ (fun u A=>?_) (fun i u F=>?_);·grind
  grind
 grind
theorem zkw {r:Reach} {d:DataW H} {p:List MemPlace} (a:Value.okWide prog w r k 24 A) (h:DataW.Trod enc prog w base spare zgt 24 A d p) (l:∀n∈d.weights prog 24,n<=reachBytes):
  ∃(k:Sli) (s:List Int),A=k.x/\zp byE w (k.x) s/\k.n<=k.c/\∀z∈s,0<=z/\z<256:=by
 obtain⟨k,g⟩:=h;obtain⟨k,k,j,h,q,u⟩:=zn6 byE.enc (fun z=>0<=z/\z<256) 1 underlying24 zrZ (fun n b x _ e=>by
  obtain⟨z,f,b,b⟩:=DataW.trod_int underlying5 e;refine⟨z,?_,f⟩;have:=b;simp only[Lit.wf,Bool.and_eq_true,decide_eq_true_eq]at this;have e:IntKind.u8.min=0:=rfl;have b:IntKind.u8.max=255:=rfl;rw[e,b]at this;exact⟨this.1,Hm this.2⟩) g
 obtain⟨b,c,rfl,r,t⟩:=h;obtain⟨h,m,i,rfl⟩:=okWide_slice underlying24 a;have e:O h m i= O b k.length c:=by simpa [Value.cells]using j
 cases e;refine⟨⟨b,k.length,c⟩,k,rfl,⟨⟨b,c,rfl,r,t⟩,?_⟩,?_,fun z f=>(q z f).1⟩
 ·rcases u with rfl|⟨e,f,h,b⟩
  ·grind
  have b:d= .slice e f:=h;have:=l ((e.length+f.length)*Tryz.prog.bytesOf 5) (by rw[b];simp[DataW.weights,underlying24]);rw[zr1]at this;unfold reachBytes at this;show k.length*1<=_;omega
 rcases Go.Deep.open_slice underlying24 g with⟨b,_⟩|⟨k,k,k,_,_,_,_,b,_,k,_⟩;·grind
 grind
theorem ziF {r:Reach} {d:DataW H} {p:List MemPlace} (t:Value.okWide prog w r k 23 A) (m:DataW.Trod enc prog w base spare zgt 23 A d p):∃F S B:Int,A= Xi #[I6 F,I6 S,I6 B]:=by
 obtain⟨a,rfl,s,_⟩:∃a,A= Xi a/\a.size=Tryz.prog.cellsOf 23/\Row.okWide prog w r k 23 a:=by simpa [Value.okWide,underlying23]using t
 obtain⟨l,b⟩:=m;obtain⟨g,n,_,_,hlen,q,b⟩:=DataW.trod_struct underlying23 b;rw[zr0]at hlen;have u:g.length=3:=q;obtain⟨a⟩:=a;simp only[Value.cells]at hlen b;have h:DataW.trod enc prog w base spare zgt n 3 ((a.drop 0).take (Tryz.prog.cellsOf 3))=g[0]?:=b 0 _ rfl;have i:DataW.trod enc prog w base spare zgt n 3 ((a.drop 1).take (Tryz.prog.cellsOf 3))=g[1]?:=b 1 _ rfl;have j:DataW.trod enc prog w base spare zgt n 3 ((a.drop 2).take (Tryz.prog.cellsOf 3))=g[2]?:=b 2 _ rfl;rw[zrY]at h i j;rw[gE Wm]at h i j;obtain⟨v,x,_,_⟩:=DataW.trod_int underlying3 h;obtain⟨C,y,_,_⟩:=DataW.trod_int underlying3 i;obtain⟨D,z,_,_⟩:=DataW.trod_int underlying3 j;obtain⟨c,e,f,rfl⟩:∃c e f,a=[c,e,f]:=by
  match a,hlen with
  | [c,e,f],_=>exact⟨c,e,f,rfl⟩
 grind
end
theorem own:ownKnob Tryz.prog.godebug=Xb:=by kernel_rfl
theorem laidOut:laidOutB prog=Xc:=by kernel_rfl
theorem zcP (a0:Os) (f:a0.Started) (H:Type) (enc:TypeId × Xq->H):
  ReturnsInHanded {} Tryz.checked a0 5 .any (Rows.faultRoomSpec.pre6 enc prog Tryz.f5 Rows.faultRoomRow.domain Xd) (Rows.faultRoomSpec.post enc prog Tryz.f5 Xd Xc Xd Xd):=by
 refine returnsInHanded_of_change_sized (C:=Tryz.checked) own f Kr func5
  (ChangeSpec.witness6 (enc:=enc) (C:=Tryz.checked) Xd ⟨#[],#[Xi #[I6 0,I6 0,I6 0],eS,I6 0,I6 0,Xh Xd],[]⟩ 8 Kr Kr Kr Kr) ?_
 intro W k c U ah s e X Y h _;have r:(DataW.weightsEach prog (Tryz.f5.params.toList++Rows.faultRoomSpec.plain.varTypes prog) (U++ah)).all (·<=reachBytes)=Xc:=h;have a:∀(Z:Nat) i v,Tryz.f5.params[Z]? =Xa i->c[Z]? =Xa v->Value.okWide prog W .any k i v:=e;have u:=X;obtain⟨ay,bk,l,an,rfl,ap,ar⟩:=X;have V:DataW.TrodAll enc prog W 0 (fun _=>Xc) Xc Tryz.f5.params.toList c.toList U ay:=l;rw[Tryz.params5]at V a r;obtain⟨a1,ba,bf,ac,az,bl,w,rfl,rfl,A,b4⟩:=trodAll_cons V;obtain⟨a2,bb,ab,ad,b0,bm,rfl,rfl,rfl,B,b5⟩:=trodAll_cons b4;obtain⟨a3,bc,bg,ae,b1,bn,rfl,rfl,rfl,D,b6⟩:=trodAll_cons b5;obtain⟨a4,bd,bh,af,b2,bo,rfl,rfl,rfl,F,b7⟩:=trodAll_cons b6;obtain⟨a5,be,bi,ag,b3,bp,rfl,rfl,rfl,K,b8⟩:=trodAll_cons b7;obtain⟨rfl,rfl,rfl⟩:=trodAll_nil b8;obtain rfl:c=#[a1,a2,a3,a4,a5]:=by cases c;simp_all
 obtain⟨rfl,rfl⟩:=trodVars_none an;have M:∀x∈az,x.block<W.heap.size:=by obtain⟨m,g⟩:=A;exact DataW.trod_lt m _ _ _ g
 have N:∀x∈b0,x.block<W.heap.size:=by obtain⟨m,g⟩:=B;exact DataW.trod_lt m _ _ _ g
 have P:∀x∈b1,x.block<W.heap.size:=by obtain⟨m,g⟩:=D;exact DataW.trod_lt m _ _ _ g
 have Q:∀x∈b2,x.block<W.heap.size:=by obtain⟨m,g⟩:=F;exact DataW.trod_lt m _ _ _ g
 have R:∀x∈b3,x.block<W.heap.size:=by obtain⟨m,g⟩:=K;exact DataW.trod_lt m _ _ _ g
 obtain⟨a9,aa,a8,y⟩:=ziF (a 0 23 a1 rfl rfl) A;subst y;obtain⟨b9,au,z,q,p,n⟩:=zkw (a 1 24 a2 rfl rfl) B (fun I aq=>by
  have:=Yj.1 r I (DataW.weights_mem_each (j:=1) (t:=24) (d:=ab) rfl rfl I aq)
  simpa using this)
 subst z;have E:=D;have G:=F;have L:=K;obtain⟨av,rfl,rfl,rfl,bq⟩:=open_int underlying3 (a 2 3 a3 rfl rfl) D;obtain⟨aw,rfl,rfl,rfl,br⟩:=open_int underlying3 (a 3 3 a4 rfl rfl) F;obtain⟨ax,rfl,rfl,rfl⟩:=open_bool underlying4 (a 4 4 a5 rfl rfl) K;clear l e h;refine(ziw a9 aa a8 b9 au av aw ax W q p n).mono fun bj a6 ⟨ao,bel⟩=>?_;subst ao;have b:∀{i:TypeId} {v:Xq} {T:DataW H} {S:List MemPlace},Tryz.prog.readableRec i=Xc->i<Tryz.prog.types.size->DataW.Trod enc prog W 0 (fun _=>Xc) Xc i v T S->(∀x∈S,x.block<W.heap.size)->DataW.Trod enc prog a6 0 (fun a7=>decide (a7<W.heap.size)) Xc i v T S:=
  fun aj ak al am=>Below.trod laidOut aj ak al bel am
 exact⟨_,rfl,_,_,_,[],_,[],u,trodAll_mk1 (shut_bool underlying4 _),(trodAll_cons_mk (b Kr (of_decide_eq_true Kr) A M) (trodAll_cons_mk (b Kr (of_decide_eq_true Kr) B N) (trodAll_cons_mk (b Kr (of_decide_eq_true Kr) E P) (trodAll_cons_mk (b Kr (of_decide_eq_true Kr) G Q) (trodAll_cons_mk (b Kr (of_decide_eq_true Kr) L R) trodAll_mk0))))),rfl,Below.frame bel _,fun ai=>by cases ai⟩
theorem zeG:Rows.faultRoomRow.holds Tryz.pinned (OpenSpec.ofChange Rows.faultRoomSpec):=
 OpenClaim.holds_of_wide 5 Tryz.f5 rfl rfl rfl rfl rfl rfl rfl ⟨rfl,rfl,rfl,rfl,rfl⟩ rfl rfl rfl rfl rfl Kr func5 Kr
  (of_decide_eq_true Kr) (by unfold Func.isWrapper;first | (rw[kE (by decide+kernel)];kernel_rfl) | (rw[kF (by decide+kernel)];exact⟨rfl,rfl⟩))
  (fun c a H b _=>zcP c a H b)
theorem faultRoom_holds:Rows.FaultRoomSaid:=zeG
#print axioms faultRoom_holds
end
end Go.Proofs.YtkfjajbalegoeaaGreat
