import Derived.Test.YtkfjajbalegoeaaGreatFP2
namespace Go.Proofs.YtkfjajbalegoeaaGreat
open Go.Value renaming slice→O,int→Xe,bool→Xh,agg→Xi,pointer→Xj,tuple→Xm
open Go.IntKind renaming i64→Xf,u8→Xg
open Go.Obj renaming cells→Xk
open Go.Ending renaming returned→Xl
open Go renaming World→Xn,Calls→Xp,Value→Xq
open Go.RowKit renaming Hid→Xo
open Option renaming some→Xa,none→Xb
open Bool renaming true→Xc,false→Xd
open List renaming replicate→Xr
open _root_.List renaming mem_cons_self→Xs,mem_cons_of_mem→Xt,getElem?_cons_succ→Xu,getElem?_of_mem→Xv,ext_getElem?→Xw,mem_map→Xx,mem_range→Xy,getElem?_map→Ya,mem_filter→Yb,take_of_length_le→Yf,length_map→Yg,contains_iff_mem→Yh,getElem?_set→Yi,length_cons→Yj,length_nil→Yk,nodup_cons→Yl,length_set→Ym,map_nil→Yn,filter_cons→Yo,find?_eq_none→Yp,mem_or_eq_of_mem_set→Yq,drop_eq_getElem_cons→Yr,getElem?_append_left→Ys,take_add_one→Yt,mem_flatMap→Yu,countP_cons→Yv,range→Yw,set_append_right→Yy,countP_le_length→Oa,countP_eq_zero→Od,filter_eq_self→Oe,map_congr_left→Of,set_set→Og,nodup_append→Oh,take→Oi,drop→Oj
open _root_.Bool renaming and_eq_true→Xz
open Go.Addr renaming add_lit→Yc
open Go.Sem renaming run_bind→Yd,run_pure→Ye
open Go.Act renaming put→Yx
open _root_.Nat renaming le_of_ble_eq_true→Yz,mul_one→Ob,le_succ→Oc
set_option maxRecDepth 100000
set_option maxHeartbeats 4000000
variable{α:Type}{a:Act}{H:Ar}{Z:En}{Y:Fr}{z:Int}{g:List (Int×List Int)}{G:List (List En)}{r:List (List Int)}{u:List (Nat×Nat)}{M:List Fl}{L:List Int}{K:List Oper}{y:List α}{m:Ma}{b k p:Nat}{d:Nat->En}{F:Nat->On}{s:Sp}{w:Xn}{A:Xq}
variable{B b fi ix j:Nat}{Q:Exit->Act->Xn->Prop}{T:List (Nat->En)}{V:MaV}{W w0:Xn}{a0 a1 a2 a3 a4 a5 a6 a7 a8 a9:Xq}{l:List Ar}{m m' m1:Ma}{o:Oper}{ops:Array Oper}{vs:List Xq}{z:Int}
open Go.Proofs.Tryz
section
open Go.RowKit
def zfq(w0:Xn)(p:Nat)(w:Xn)(V:MaV)(m':Ma)(w':Xn):Prop:=∃V':MaV,V'.ca=V.ca/\ChW w0 p w' V' m'/\qC (Dw p V) w w'/\∀k,Dw p V' k->Dw p V k\/w.heap.size<=k
section
variable{w0 w w1 w2:Xn}{p:Nat}{V V':MaV}{m m':Ma}
theorem zfq.chg(h:zfq w0 p w V m' w1):Chg w0 p w V m' w1:=by obtain⟨a,_,h⟩:=h;exact⟨a,h⟩
theorem zfq.refl(h:ChW w0 p w V m)(g:zc w w1):zfq w0 p w V m w1:=⟨V,rfl,h.aA g,qC.aA g,fun _ a=>.inl a⟩
theorem zfq.aH(g:zc w w1)(h:zfq w0 p w1 V m' w2):zfq w0 p w V m' w2:=by obtain⟨a,e,b,d,c⟩:=h;exact⟨a,e,b,(qC.aA g).trans d,Chg.far g c⟩
theorem zfq.step{b:MaV}(a:qC (Dw p V) w w1)(c:∀k,Dw p b k->Dw p V k\/w.heap.size<=k)(g:b.ca=V.ca)(h:zfq w0 p w1 b m' w2):zfq w0 p w V m' w2:=by
 obtain⟨c,e,d,b,f⟩:=h;refine⟨c,e.trans g,d,⟨b.os.trans a.os,b.tape.trans a.tape,b.output.trans a.output,nT a.size b.size,fun c d g=>(b.block c (Nat.lt_of_lt_of_le d a.size) (fun e=>?_)).trans (a.block c d g)⟩,fun k b=>?_⟩;·grind
 rcases f k b with e|e;·grind
 exact .inr (nT a.size e)
theorem ChW.fieldC(h:ChW w0 p w V m)(k:zc w w1)(c:w1.grownBy w2 (Xa p))(f:V'.f=V.f)(l:V'.ca=V.ca)(q:V'.sp=V.sp)(g:m'.fs=m.fs)(u:m'.ca=m.ca)(r:m'.sp=m.sp)(a:zm w2 p 102 (chL V' m'))(rs:∀W,qC (Dr w0.heap.size p V) w W->qC (Dr w0.heap.size p V) w1 W->zmn W V m->zmn W V' m'):zfq w0 p w V m' w2:=by
 have j:qC (Dw p V) w w2:=(qC.aA k).trans (qC.grown c (.inl rfl));have e:Dw p V'=Dw p V:=by unfold Dw;rw[f,l,q]
 have d:Dr w0.heap.size p V'=Dr w0.heap.size p V:=by unfold Dr;rw[e]
 obtain⟨i,x,b,y⟩:=h.sp;refine⟨V',l,⟨h.bP j,h.lo,a,?_,?_,⟨i,?_,Rx r b,fun t z v s i W b=>?_⟩,fun W b=>?_⟩,j,fun n a=>.inl (by rw[e]at a;exact a)⟩;·rw[f,g];exact(h.fs.aA k).grown c (fun g f e=>h.nf g f (by cases e;rfl))
 ·rw[l,u];exact(h.ca.aA k).grown c (fun g f e=>h.nc g f (by cases e;rfl))
 ·rw[q];exact(x.aA k).grown c (fun g f e=>h.ns g f (by cases e;rfl))
 ·rw[d]at b;rw[r]at i;exact y t z v s i W ((j.wide fun n a=>.inr a).trans b)
 rw[d]at b;exact rs W ((j.wide fun n a=>.inr a).trans b) (((qC.grown c (.inr (.inl rfl)))).trans b) (h.rest W ((j.wide fun n a=>.inr a).trans b))
end
end
section
theorem Qj(d:k<m.fs.length)(a:zbh m Xb m.ca=0)(b:zN m.ca k≠0->Y.p=(z1 m k).p)(file idx:Int):zU {m with fs:=m.fs.set k Y} file idx=zU m file idx:=by obtain⟨b,_,_⟩:=zo.1 a;refine zit (m:=m) (m':={m with fs:=m.fs.set k Y}) rfl rfl rfl rfl (fun c a=>?_) file idx;rw[q6 d c.fr (Zl (b c a)).1.2.2.2.2.1];grind[QP]
theorem zaw{x:On}(c:k<m.fs.length)(a:zbh m Xb m.ca=0)(b:zN m.ca k≠0->Y.p=(z1 m k).p)(d:Z.kind=1->0<=Z.n)(f:Z.kind=1->Z.n=(k:Int)->Y.p=(z1 m k).p/\(Y.f<0↔(z1 m k).f<0)):Z2 {m with fs:=m.fs.set k Y} x Z=Z2 m x Z:=by refine zdv rfl rfl (fun d=>?_) (fun _=>rfl) (fun _=>rfl) (Qj c a b);grind[q6]
section
variable{m:Ma}{T:List (Nat->En)}
theorem zoQ(h:qT m T){fr:Fr}(q:m.fs[j]?=Xa Y)(c:Y.r=0)(e:T[k]?=Xa d)(f:b<64):Z2 {m with fs:=m.fs.set j fr} (zr s.aC b) (d b)=Z2 m (zr s.aC b) (d b):=by
 obtain⟨l,i⟩:=h.free q c;refine zaw (gS.1 q).1 h.ca (fun h=>absurd i h) (fun n=>?_) (fun n g=>?_);·have:=(jE (h.en e f)).2.1;omega
 grind[Q6]
theorem zgk{x:On}(h:qT m T)(a:m.fs[k]?=Xa Y)(b:Z.kind=1->0<=Z.n):Z2 {m with fs:=m.fs.set k {Y with r:=z}} x Z=Z2 m x Z:=by refine zaw (gS.1 a).1 h.ca (fun _=>by rw[zL a]) b (fun _ _=>by rw[zL a];exact⟨rfl,Iff.rfl⟩)
theorem zmP(h:qT m T)(n:m.fs[k]?=Xa Y)(w:T[b]?=Xa d)(y:p<64)(x:(d p).kind=1)(e:(d p).n=(k:Int)){q:Nat}{g:Nat->En}(i:T[q]?=Xa g)(t:j<64)(u:q≠b\/j≠p):Z2 {m with fs:=m.fs.set k (J6 Y)} (zr s.aC j) (g j)=Z2 m (zr s.aC j) (g j):=by
 have fr:=h.cf k Y n;have c:1<=qK T 1 k:=by grind[Q6]
 have l:Y.r≠1->J6 Y={Y with r:=Y.r-1}:=fun h=>by unfold J6;rw[kF h]
 refine zaw (gS.1 n).1 h.ca (fun a=>?_) (fun a=>?_) (fun a v=>?_);·grind[zL]
 ·have:=(jE (h.en i t)).2.1;omega
 grind[zcf,isE,zL]
theorem zfW(h:qT m T){n:Nat}(a:m.fs[k]?=Xa Y)(g:T[p]?=Xa d)(j:n<64)(i:(d n).kind=1)(fr:(d n).n=(k:Int))(file idx:Int):zU {m with fs:=m.fs.set k (J6 Y)} file idx=zU m file idx:=by
 have c:=h.cf k Y a;have b:1<=qK T 1 k:=by grind[Q6]
 refine Qj (gS.1 a).1 h.ca (fun e=>?_) file idx;grind[J6,zL]
theorem zn7(h:qT m T){fr:Fr}(b:m.fs[j]?=Xa Y)(c:Y.r=0)(file idx:Int):zU {m with fs:=m.fs.set j fr} file idx=zU m file idx:=Qj (gS.1 b).1 h.ca (fun d=>absurd (h.free b c).2 d) file idx
end
structure Rt(m:Ma):Prop where
 w:maW m=0
 t8:∀s∈m.sp,s.tb.length=8
theorem Rt.inv(h:Rt m):qT m (Zb m):=(zbX h.w).1
theorem Rt.aB(h:Rt m):0<=m.aB/\m.aB<max (m.fs.length:Int) 1:=(zbX h.w).2
theorem Rt.tb(h:Rt m)(c:s∈m.sp):Qv s.tb:=by refine⟨h.t8 s c,ZZ.1 ?_⟩;have a:=h.w;unfold maW at a;rw[zk]at a;have b:zak m=0:=a _ Sm;unfold zak at b;rw[zk]at b;have a:=zk.1 (b (zG (m.sp.map spE)) Sm) (spE s) (Xx.2 ⟨s,c,rfl⟩);grind[spE]
theorem Rt.of(hb:qT m (Zb m))(ht:∀s∈m.sp,Qv s.tb)(a:0<=m.aB)(b:m.aB<max (m.fs.length:Int) 1):Rt m:=by refine⟨?_,fun s c=>(ht s c).1⟩;have:=hb.right a b;grind[zkI]
theorem z7(h:m.sp[k]?=Xa s):(Zb m)[k]?=Xa (ze s):=by unfold Zb;rw[Ya,h];rfl
theorem qT.tabs(h:qT m T){sp':List Sp}(d:sp'.length=m.sp.length)(b:∀(p:Nat)s a,m.sp[p]?=Xa s->sp'[p]?=Xa a->a.aD=s.aD/\a.aC=s.aC):qT {m with sp:=sp'} T:=by
 have b:∀(p:Nat)a,sp'[p]?=Xa a->∃s,m.sp[p]?=Xa s/\a.aD=s.aD/\a.aC=s.aC:=fun p a c=>by grind
 refine⟨h.aN,h.bE,h.aT,h.bF,h.sq,h.bM,h.st,h.cnt,h.bI,h.aZ,by show sp'.length<=4;rw[d];exact h.aI,fun a c=>?_,h.tl.trans d.symm,?_,fun p a k c l r q=>?_,h.cf,h.cs⟩;·obtain⟨p,f⟩:=Xv c;obtain⟨s,d,g,e⟩:=b p a f;rw[g,e];exact h.aP s (mG d)
 ·obtain⟨i,f,j⟩:=zo.1 h.ca;exact zo.2 ⟨fun f n=>i f n,fun i f f=>(by cases f),j⟩
 obtain⟨s,d,g,e⟩:=b p a c;rw[e];exact h.aM p s k d l r q
def QD(m:Ma)(p n:Nat)(e:En):Ma:={m with sp:=m.sp.modify p fun s=>{s with tb:=zi9 s.tb n e}}
theorem zaB:(QD m k b Z).sp[p]?=(m.sp[p]?).map fun s=>if k=p then{s with tb:=zi9 s.tb b Z}else s:=by
 unfold QD;simp only[List.getElem?_modify];by_cases h:k=p;·simp[h]
 simp[h]
theorem za1(ht:Qv s.tb)(b:k<64)(a:enW Z=0):ze {s with tb:=zi9 s.tb k Z}=jG (ze s) k Z:=by grind[ze,jG,zpq,Nat.mod_lt]
theorem znF(p:m.sp[k]?=Xa s)(ht:Qv s.tb)(d:b<64)(c:enW Z=0):Zb (QD m k b Z)=(Zb m).set k (jG (ze s) b Z):=by
 apply Xw;intro q;have a:=(gS.1 p).1;unfold Zb;rw[Ya,zaB,Yi,Yg];by_cases h:k=q;·subst h;rw[p,kE rfl,kE a];simp only[Option.map_some,kE,za1 ht d c]
 grind
theorem JZ:(QD m k b Z).sp.length=m.sp.length:=by simp[QD]
theorem zd5{q:Sp}(c:m.sp[p]?=Xa s)(a:(QD m k b Z).sp[p]?=Xa q):q.aD=s.aD/\q.aC=s.aC:=by rw[zaB,c]at a;simp only[Option.map_some,Option.some.injEq]at a;subst a;split<;>exact⟨rfl,rfl⟩
theorem za0(ht:∀s∈m.sp,Qv s.tb)(c:enW Z=0):∀s∈(QD m k p Z).sp,Qv s.tb:=fun s d=>by
 obtain⟨q,a⟩:=Xv d;rw[zaB]at a;cases h:m.sp[q]? with
 |none=>rw[h]at a;cases a
 |some x=>
  rw[h]at a;simp only[Option.map_some,Option.some.injEq]at a;have b:=ht x (mG h);subst a;split;·exact zqy b c
  exact b
theorem zbm(c:m.sp[k]?=Xa s)(ht:∀s∈m.sp,Qv s.tb)(g:b<64)(p:enW Z=0)(hb:qT m ((Zb m).set k (jG (ze s) b Z)))(a:0<=m.aB/\m.aB<max (m.fs.length:Int) 1):Rt (QD m k b Z):=by refine Rt.of ?_ (za0 ht p) a.1 a.2;rw[znF c (ht s (mG c)) g p];exact hb.tabs JZ fun q s h d f=>zd5 d f
structure Sam(S:Nat->Nat->Prop)(m m':Ma):Prop where
 aI:m'.sp.length=m.sp.length
 sp:∀(q:Nat)s s',m.sp[q]?=Xa s->m'.sp[q]?=Xa s'->s'.aD=s.aD/\s'.aC=s.aC
 see:∀(q n:Nat)s s',m.sp[q]?=Xa s->m'.sp[q]?=Xa s'->n<64->¬S q n->Z2 m' (zr s.aC n) (ze s' n)=Z2 m (zr s.aC n) (ze s n)
 fll:m'.fl.length=m.fl.length
 sz:∀f,JC m' f=JC m f
 bk:∀f,bkN m' f=bkN m f
 byt:∀(file k:Nat),(k:Int)<JC m (file:Int)->(zU m' (file:Int) ((k/8:Nat):Int)).getD (k%8) 0=(zU m (file:Int) ((k/8:Nat):Int)).getD (k%8) 0
theorem Sam.refl(S:Nat->Nat->Prop)(m):Sam S m m:=⟨rfl,fun q s b h a=>by rw[h]at a;cases a;exact⟨rfl,rfl⟩,fun q n s b h a _ _=>by rw[h]at a;cases a;rfl,rfl,fun _=>rfl,fun _=>rfl,fun _ _ _=>rfl⟩
theorem Sam.trans{S d:Nat->Nat->Prop}{a b c:Ma}(h:Sam S a b)(k:Sam d b c):Sam (fun q n=>S q n\/d q n) a c:=by
 have g:∀(q:Nat)s,a.sp[q]?=Xa s->∃t,b.sp[q]?=Xa t:=fun q s e=>⟨_,gE (by rw[h.aI];exact(gS.1 e).1)⟩;refine⟨k.aI.trans h.aI,fun q s j e f=>?_,fun q n s j e f p m=>?_,k.fll.trans h.fll,fun d=>(k.sz d).trans (h.sz d),fun d=>(k.bk d).trans (h.bk d),fun d l i=>(k.byt d l (by rw[h.sz];exact i)).trans (h.byt d l i)⟩
 ·obtain⟨t,d⟩:=g q s e;have l:=h.sp q s t e d;have i:=k.sp q t j d f;grind
 obtain⟨t,d⟩:=g q s e;have l:=h.sp q s t e d;have i:=k.see q n t j d f p (fun f=>m (.inr f));rw[l.2]at i;exact i.trans (h.see q n s t e d p (fun f=>m (.inl f)))
theorem Sam.mono{S c:Nat->Nat->Prop}{b:Ma}(h:Sam S m b)(hS:∀q n,S q n->c q n):Sam c m b:=⟨h.aI,h.sp,fun q n s g f d e c=>h.see q n s g f d e (fun e=>c (hS q n e)),h.fll,h.sz,h.bk,h.byt⟩
theorem Sam.put(c:m1.sp=m.sp)(b:m1.fl=m.fl)(ht:∀s∈m.sp,Qv s.tb)(t:k<64)(r:enW Z=0)(h:∀(q j:Nat)s,m.sp[q]?=Xa s->j<64->(q≠p\/j≠k)->Z2 m1 (zr s.aC j) (ze s j)=Z2 m (zr s.aC j) (ze s j))(l:∀file idx,zU m1 file idx=zU m file idx):Sam (fun q j=>q=p/\j=k) m (QD m1 p k Z):=by
 refine⟨by rw[JZ,c],fun q s i d a=>zd5 (Rx c d) a,fun q j s i d a v u=>?_,by show m1.fl.length=_;rw[b],fun f=>by show JC m1 f=_;unfold JC;rw[b],fun f=>by show bkN m1 f=_;unfold bkN;rw[b],fun file w _=>?_⟩
 ·rw[zaB,c,d]at a;simp only[Option.map_some,Option.some.injEq]at a;have g:ze i j=ze s j:=by
   subst a;split
   ·rename_i n
    subst n;rw[za1 (ht s (mG d)) t r];grind[jG]
   rfl
  rw[g];show Z2 m1 _ _=_;grind
 show(zU m1 _ _).getD _ _=_;rw[l]
def zan(m:Ma)(p n:Nat):Ma:=
 let e:=ze (m.sp.getD p ⟨Xd,[],[]⟩) n
 if e.kind=1 then QD {m with fs:=m.fs.set e.n.toNat (J6 (z1 m e.n))} p n en0
 else if e.kind=2 then QD {m with sl:=m.sl.set e.n.toNat (m.sl.getD e.n.toNat 0-1)} p n en0
 else QD m p n en0
section
variable{m:Ma}{p n:Nat}{s:Sp}
theorem Rt.aM(h:Rt m)(a:m.sp[p]?=Xa s)(b:n<64):ze s n=en0\/QJ m (zr s.aC n) (ze s n):=h.inv.aM p s _ a (z7 a) n b
theorem Rt.aO(h:Rt m)(c:m.sp[p]?=Xa s)(b:n<64)(a:(ze s n).kind=1):∃(k:Nat)(fr:Fr),(ze s n).n=(k:Int)/\m.fs[k]?=Xa fr/\z1 m (ze s n).n=fr/\fr.r≠0:=by
 rcases h.aM c b with e|e;·rw[e]at a;cases a
 obtain⟨d,d,d,_⟩:=zV e Wm;refine⟨(ze s n).n.toNat,m.fs[(ze s n).n.toNat]' Wm,Wm,gE _,?_,fun d=>?_⟩
 ·have:=zL (m:=m) (k:=(ze s n).n.toNat) (gE Wm)
  grind
 have e:=(h.inv.free (gE (show(ze s n).n.toNat<m.fs.length by omega)) d).1;have d:=Q6 (z7 c) b a;grind
theorem Rt.bV(h:Rt m)(f:m.sp[p]?=Xa s)(d:n<64)(b:(ze s n).kind=2):∃(k:Nat)(z:Int),(ze s n).n=(k:Int)/\m.sl[k]?=Xa z/\m.sl.getD (ze s n).n.toNat 0=z/\0<z/\(zr s.aC n).is=Xc/\(zr s.aC n).sh=Xd/\k<m.sb.length:=by
 rcases h.aM f d with e|e;·rw[e]at b;cases b
 obtain⟨g,q,a⟩:=e;unfold zah at a;split at a;·cases a
 rename_i i
 split at a;·cases a
 rename_i r
 have l:=(jE g).2.1.1;have j:(ze s n).n<(m.sl.length:Int):=by grind
 have c:(ze s n).n.toNat<m.sl.length:=Wm;refine⟨(ze s n).n.toNat,m.sl[(ze s n).n.toNat],Wm,gE c,?_,?_,?_,?_,?_⟩;·grind
 ·rw[h.inv.cs _ _ (gE c)];have:=za5 (z7 f) d (kind:=2) (k:=(((ze s n).n.toNat:Nat):Int)) (by simp[isE,b];omega) Dc;omega
 ·grind
 ·grind
 have:=h.inv.bF;omega
theorem zq6(h:Rt m)(b:m.sp[p]?=Xa s)(a:n<64):Rt (zan m p n)/\Sam (fun q j=>q=p/\j=n) m (zan m p n):=by
 have C:m.sp.getD p ⟨Xd,[],[]⟩=s:=by rw[gD,b];rfl
 have k:∀s∈m.sp,Qv s.tb:=fun s b=>h.tb b;unfold zan;simp only[C];by_cases i:(ze s n).kind=1;·rw[kE i];obtain⟨r,y,d,l,v,B⟩:=h.aO b a i;rw[v,d,tN];have w:=h.inv.drop l (z7 b) a i d;refine⟨zbm (m:={m with fs:=m.fs.set r (J6 y)}) b k a JO w (Si h.aB),Sam.put (m1:={m with fs:=m.fs.set r (J6 y)}) rfl rfl k a JO (fun q j z f x e=>zmP h.inv l (z7 b) a i d (z7 f) x e) (fun c g=>zfW h.inv l (z7 b) a i d c g)⟩
 rw[kF i];by_cases u:(ze s n).kind=2;·rw[kE u];obtain⟨r,A,d,l,v,B,E,F,G⟩:=h.bV b a u;rw[v,d,tN];have w:=h.inv.dropS l (z7 b) a u d;exact⟨zbm (m:={m with sl:=m.sl.set r (A-1)}) b k a JO w h.aB,Sam.put (m1:={m with sl:=m.sl.set r (A-1)}) rfl rfl k a JO (fun q j z f x e=>rfl) (fun c g=>rfl)⟩
 rw[kF u];have D:ze s n=en0:=by
  rcases h.aM b a with t|t;·exact t
  have:=(jE t.1).1;have:=t.2.1;omega
 refine⟨zbm b k a JO ?_ h.aB,Sam.put rfl rfl k a JO (fun q j z f x e=>rfl) (fun c g=>rfl)⟩;have:jG (ze s) n en0=ze s:=by grind[jG]
 rw[this];have:(Zb m).set p (ze s)=Zb m:=by
  apply Xw;intro q;rw[Yi];split;·grind[gS.1,z7]
  rfl
 rw[this];exact h.inv
end
section
variable{m:Ma}{T:List (Nat->En)}
theorem qT.joinAs(h:qT m T){q n e:Nat}{g:Nat->En}(E:m.fs[e]?=Xa Y)(hp:T[k]?=Xa d)(hi:p<64)(F:d p=Z)(z:T[q]?=Xa g)(af:n<64)(ab:g n=en0)(ag:m.sp[q]?=Xa s)
  (ad:QJ m (zr s.aC n) Z)(l:Z.kind=1)(t:Z.n=(e:Int))(a4:Z.wr=Xc->Y.f≠-1):
  qT {m with fs:=m.fs.set e {Y with r:=Y.r+1}} (T.set q (jG g n Z)):=by
 have I:=(gS.1 E).1;have G:=(gS.1 z).1;have K:=h.bE Y (mG E);have Q:1<=qK T 1 e:=by grind[Q6]
 have fr:=h.cf e Y E;have v:∀kind j:Int,qK (T.set q (jG g n Z)) kind j+(isE en0 kind j).toNat=qK T kind j+(isE Z kind j).toNat:=fun kind j=>by grind[ZI]
 refine⟨by simpa using h.aN,fun x L=>?_,h.aT,h.bF,h.sq,h.bM,h.st,h.cnt,h.bI,h.aZ,h.aI,h.aP,by simpa using h.tl,?_,?_,fun j x b=>?_,fun j a8 b=>?_⟩
 ·rcases Yq L with L|rfl
  ·exact h.bE x L
  obtain⟨B,C,D,N,U⟩:=K;exact⟨by simp only;omega,C,D,fun h=>by simp only at h;omega,U⟩
 ·obtain⟨a9,aa,R⟩:=zo.1 h.ca;refine zo.2 ⟨fun S ac=>?_,fun q S z=>(by cases z),R⟩;grind[Zl,q6,zL,zbo,bkN]
 ·have w:∀(x:On)(a:En),QJ m x a->(a.kind≠2->a.n=(e:Int)->a.wr=Xc->Y.f≠-1)->QJ {m with fs:=m.fs.set e {Y with r:=Y.r+1}} x a:=fun x a f ae=>by
   refine⟨f.1,f.2.1,Ze f.2.2 rfl Sm fun c=>?_⟩;obtain⟨B,C,D,N⟩:=zV f c;grind[q6,zL]
  refine zaQ G rfl z (fun M a7 X H u j b a0=>?_) (fun ai a5=>?_)
  ·rcases h.aM M a7 X H u j b with a|a
   ·exact .inl a
   refine .inr (w _ _ a fun c a6 ah=>?_);obtain⟨B,C,D,N⟩:=zV a c;by_cases y:M=k/\j=p;·grind
   intro i;have f:=zcf hp hi (kind:=1) (k:=(e:Int)) (by rw[F];simp[isE,l,t]) u b (by simp[isE,B,a6]) (by
    by_cases P:k=M;·right;intro V;exact y ⟨P.symm,V.symm⟩
    exact .inl P) Dc
   grind[zL]
  grind
 ·simp only at b⊢;have A:=v 1 j;rw[qZ 1 j Dc]at A;by_cases W:j=e;·grind[sF,isE]
  rw[sN (fun h=>W h.symm)]at b;rw[Qo (by rw[t];omega)]at A;have:=h.cf j x b;grind
 simp only at b⊢;have A:=v 2 j;rw[qZ 2 j Dc,Jr (by rw[l];decide)]at A;have:=h.cs j a8 b;grind
end
def Zs(m:Ma)(k p n:Nat):Ma:=QD {m with fs:=m.fs.set k {z1 m (k:Int)with r:=(z1 m (k:Int)).r+1}} p n ⟨1,(k:Int),Xd⟩
theorem zc6(h:qT m (Zb m))(a:k<m.fs.length)(w:Bool):enW ⟨1,(k:Int),w⟩=0:=
 JN Sm ⟨Sm,by simp only;have:=h.aN;omega,fun _=>by simp only;have:=h.aN;omega⟩ Sm
section
variable{m:Ma}{k p n:Nat}{fr:Fr}{s:Sp}
theorem ziu(h:Rt m)(a:m.fs[k]?=Xa fr)(b:Int)(file idx:Int):zU {m with fs:=m.fs.set k {fr with r:=b}} file idx=zU m file idx:=
 Qj (gS.1 a).1 h.inv.ca (fun _=>by rw[zL a]) file idx
theorem Rt.cL(h:Rt m)(c:m.sp[p]?=Xa s)(b:n<64)(a:(ze s n).kind=1):0<=(ze s n).n:=by obtain⟨k,_,e,_⟩:=h.aO c b a;omega
theorem zhY(h:Rt m)(a:m.fs[k]?=Xa fr)(c:0<=fr.f)(b:m.sp[p]?=Xa s)(e:n<64)(x:ze s n=en0)
  (A:(zr s.aC n).is=Xc)(g:(zr s.aC n).file=fr.f)(i:(zr s.aC n).page=fr.x):
  Rt (Zs m k p n)/\Sam (fun q j=>q=p/\j=n) m (Zs m k p n):=by have u:∀s∈m.sp,Qv s.tb:=fun s b=>h.tb b;have d:=(gS.1 a).1;have t:=zc6 h.inv d Xd;unfold Zs;rw[zL a];have y:=h.inv.hold (w:=false) a c b (z7 b) e x A g i (fun v=>by cases v);refine⟨zbm (m:={m with fs:=m.fs.set k {fr with r:=fr.r+1}}) b u e t y (Si h.aB),Sam.put (m1:={m with fs:=m.fs.set k {fr with r:=fr.r+1}}) rfl rfl u e t (fun q j B f z _=>zgk h.inv a (h.cL f z)) (fun file l=>ziu h a _ file l)⟩
theorem zng(h:Rt m)(c:m.fs[k]?=Xa fr)(A:fr.f=-1){q i:Nat}{t:Sp}(C:m.sp[q]?=Xa t)(hi:i<64)(l:ze t i=⟨1,(k:Int),Xd⟩)(d:m.sp[p]?=Xa s)(g:n<64)(y:ze s n=en0)
  (E:(zr s.aC n).is=Xc)(D:(zr s.aC n).sh=Xd):
  Rt (Zs m k p n)/\Sam (fun q j=>q=p/\j=n) m (Zs m k p n):=by
 have w:∀s∈m.sp,Qv s.tb:=fun s d=>h.tb d;have f:=(gS.1 c).1;have e:=zc6 h.inv f Xd;unfold Zs;rw[zL c];have b:QJ m (zr s.aC n) ⟨1,(k:Int),Xd⟩:=by
  refine⟨e,Sm,?_⟩;grind[zah,zL]
 have z:=h.inv.joinAs c (z7 C) hi l (z7 d) g y d b rfl rfl (fun x=>by cases x);refine⟨zbm (m:={m with fs:=m.fs.set k {fr with r:=fr.r+1}}) d w g e z (Si h.aB),Sam.put (m1:={m with fs:=m.fs.set k {fr with r:=fr.r+1}}) rfl rfl w g e (fun q j F u B _=>zgk h.inv c (h.cL u B)) (fun a v=>ziu h c _ a v)⟩
theorem zqH(h:Rt m)(c:m.fs[k]?=Xa fr)(f:fr.r=0)(pg:Pg)(u:Bool)(b:m.sp[p]?=Xa s)(e:n<64)(x:ze s n=en0)
  (A:(zr s.aC n).is=Xc)(i:(zr s.aC n).sh=Xd):
  Rt (QD {m with fs:=m.fs.set k ⟨pg,1,u,Xd,-1,0⟩} p n ⟨1,(k:Int),Xd⟩)/\Sam (fun q j=>q=p/\j=n) m (QD {m with fs:=m.fs.set k ⟨pg,1,u,Xd,-1,0⟩} p n ⟨1,(k:Int),Xd⟩):=by have t:∀s∈m.sp,Qv s.tb:=fun s b=>h.tb b;have d:=(gS.1 c).1;have r:=zc6 h.inv d Xd;have y:=h.inv.mine (pg:=pg) (u:=u) (w:=false) c f b (z7 b) e x A i (fun v=>by cases v);refine⟨zbm (m:={m with fs:=m.fs.set k ⟨pg,1,u,Xd,-1,0⟩}) b t e r y (Si h.aB),Sam.put (m1:={m with fs:=m.fs.set k ⟨pg,1,u,Xd,-1,0⟩}) rfl rfl t e r (fun q j B g z _=>zoQ h.inv c f (z7 g) z) (fun a l=>zn7 h.inv c f a l)⟩
theorem zaA(ht:∀s∈m1.sp,Qv s.tb)(c:m1.sp[p]?=Xa s)(f:n<64)(d:enW Z=0){b:Sp}(a:(QD m1 p n Z).sp[p]?=Xa b):ze b n=Z/\b.aC=s.aC:=by rw[zaB,c]at a;simp only[Option.map_some,Option.some.injEq,if_true]at a;subst a;rw[za1 (ht s (mG c)) f d];grind[jG]
end
theorem zb0{c:Sp}(ht:∀s∈m1.sp,Qv s.tb)(f:b<64)(d:enW Z=0)(q:m1.sp[p]?=Xa s)(a:(QD m1 k b Z).sp[p]?=Xa c)(g:¬(p=k/\j=b)):ze c j=ze s j:=by
 rw[zaB,q]at a;simp only[Option.map_some,Option.some.injEq]at a;subst a;split
 ·rename_i h
  subst h;rw[za1 (ht s (mG q)) f d];grind[jG]
 rfl
def zz(m:Ma)(k:Nat):List (Nat×Nat)->Ma
 |[]=>m
 |x::l=>zz (Zs m k x.1 x.2) k l
def zr2(m:Ma)(x:Nat×Nat):Prop:=∃s,m.sp[x.1]?=Xa s/\x.2<64/\ze s x.2=en0/\(zr s.aC x.2).is=Xc/\(zr s.aC x.2).sh=Xd
section
variable{k:Nat}
theorem zgB(a:m.fs[k]?=Xa Y)(p n:Nat):(Zs m k p n).fs[k]?=Xa {Y with r:=Y.r+1}:=by show(m.fs.set k _)[k]?=_;grind[sF,gS.1,zL]
theorem zfI:∀(l:List (Nat×Nat)){m:Ma}{fr:Fr},Rt m->m.fs[k]?=Xa fr->fr.f=-1->(∃(q i:Nat)(t:Sp),m.sp[q]?=Xa t/\i<64/\ze t i=⟨1,(k:Int),Xd⟩)->(∀x∈l,zr2 m x)->l.Nodup->
  Rt (zz m k l)/\Sam (fun q j=>(q,j)∈l) m (zz m k l)/\(zz m k l).fs[k]?=Xa {fr with r:=fr.r+(l.length:Int)}/\(∀x∈l,∀s',(zz m k l).sp[x.1]?=Xa s'->ze s' x.2=⟨1,(k:Int),Xd⟩)/\∀(q j:Nat)s s',m.sp[q]?=Xa s->(zz m k l).sp[q]?=Xa s'->(q,j)∉l->ze s' j=ze s j
 |[],m,fr,h,hk,_,_,_,_=>⟨h,Sam.refl _ _,(by simp only[zz,Yk,Int.ofNat_zero,Int.add_zero];exact hk),fun x hx=>(by cases hx),fun q j s s' hs hs' _=>by simp only[zz]at hs';rw[hs]at hs';cases hs';rfl⟩
 |x::l,m,fr,h,hk,hf,hq,hb,hd=>by
  obtain⟨q,i,t,hq,hi,hqi⟩:=hq;obtain⟨s,hs,hn,h0,hx,hsh⟩:=hb x (Xs ..);have hkl:=(gS.1 hk).1;have he:=zc6 h.inv hkl Xd;have ht:∀s∈m.sp,Qv s.tb:=fun s hs=>h.tb hs
  obtain⟨j1,j2⟩:=zng h hk hf hq hi hqi hs hn h0 hx hsh;have hd':=Yl.1 hd;have at1:∀(q:Nat)s,m.sp[q]?=Xa s->∃s',(Zs m k x.1 x.2).sp[q]?=Xa s':=fun q s hs=>⟨_,gE (by rw[j2.aI];exact(gS.1 hs).1)⟩;have oth:∀(q j:Nat)s s',m.sp[q]?=Xa s->(Zs m k x.1 x.2).sp[q]?=Xa s'->¬(q=x.1/\j=x.2)->ze s' j=ze s j:=fun q j s s' h1 h2 h3=>zb0 (m1:={m with fs:=m.fs.set k {z1 m (k:Int)with r:=(z1 m (k:Int)).r+1}}) ht hn he h1 h2 h3
  obtain⟨s1,hs1⟩:=at1 x.1 s hs;have now:=(zaA (m1:={m with fs:=m.fs.set k {z1 m (k:Int)with r:=(z1 m (k:Int)).r+1}}) ht hs hn he hs1).1;obtain⟨r1,r2,r3,r4,r5⟩:=zfI l j1 (zgB hk x.1 x.2) hf ⟨x.1,x.2,s1,hs1,hn,now⟩ (fun y hy=>by
   obtain⟨sy,a1,a2,a3,a4,a5⟩:=hb y (Xt _ hy);obtain⟨sy',b1⟩:=at1 y.1 sy a1;have b2:=(j2.sp y.1 sy sy' a1 b1).2;have b3:=oth y.1 y.2 sy sy' a1 b1 (fun e=>hd'.1 (by
    have:y=x:=Prod.ext e.1 e.2;rw[<-this];exact hy))
   exact⟨sy',b1,a2,Rx b3 a3,Rx b2 a4,Rx b2 a5⟩) hd'.2
  refine⟨r1,(j2.trans r2).mono ?_,?_,fun y hy s' hs'=>?_,fun q j s s' h1 h2 h3=>?_⟩
  ·rintro q j(⟨rfl,rfl⟩|h1)
   ·exact Xs ..
   exact Xt _ h1
  ·show(zz (Zs m k x.1 x.2) k l).fs[k]?=_
   rw[r3];simp only[Yj,Option.some.injEq,Fr.mk.injEq,and_true,true_and];omega
  ·rcases mC.1 hy with rfl|hy
   ·rw[r5 y.1 y.2 s1 s' hs1 hs' hd'.1];exact now
   exact r4 y hy s' hs'
  obtain⟨sq,hsq⟩:=at1 q s h1;rw[r5 q j sq s' hsq h2 (fun e=>h3 (Xt _ e))]
  exact oth q j s sq h1 hsq (fun e=>h3 (by
   have:(q,j)=x:=Prod.ext e.1 e.2;rw[this];exact Xs ..))
def zqv(k:Nat)(l:List (Nat×Nat))(sp:List Sp):List Sp:=l.foldl (fun sp x=>sp.modify x.1 fun s=>{s with tb:=zi9 s.tb x.2 ⟨1,(k:Int),Xd⟩}) sp
theorem zcJ:∀(l:List (Nat×Nat)){m:Ma}{fr:Fr},m.fs[k]?=Xa fr->zz m k l={m with fs:=m.fs.set k {fr with r:=fr.r+(l.length:Int)},sp:=zqv k l m.sp}
 |[],m,fr,hk=>by
  have:m.fs.set k {fr with r:=fr.r+(([]:List (Nat×Nat)).length:Int)}=m.fs:=by
   apply Xw;intro q;rw[Yi];split
   ·rename_i hq
    subst hq;rw[if_pos (gS.1 hk).1,hk];simp
   rfl
  rw[this];rfl
 |x::l,m,fr,hk=>by
  show zz (Zs m k x.1 x.2) k l=_;rw[zcJ l (zgB hk x.1 x.2)];have e1:(Zs m k x.1 x.2).fs=m.fs.set k {fr with r:=fr.r+1}:=by
   show m.fs.set k _=_;rw[zL hk]
  have e2:fr.r+1+(l.length:Int)=fr.r+((x::l).length:Int):=by simp only[Yj];omega
  rw[e1,Og];simp only[e2];rfl
def zbJ(m:Ma)(k:Nat)(pg:Pg)(u:Bool)(l:List (Nat×Nat)):Ma:={m with fs:=m.fs.set k ⟨pg,(l.length:Int),u,Xd,-1,0⟩,sp:=zqv k l m.sp}
theorem zrb(z:Rt m)(H:m.fs[k]?=Xa Y)(a6:Y.r=0)(pg:Pg)(fr:Bool)(a0:u≠[])(hb:∀x∈u,zr2 m x)(hd:u.Nodup):
  Rt (zbJ m k pg fr u)/\Sam (fun q j=>(q,j)∈u) m (zbJ m k pg fr u)/\(∀x∈u,∀b,(zbJ m k pg fr u).sp[x.1]?=Xa b->ze b x.2=⟨1,(k:Int),Xd⟩):=by
 cases u with
 |nil=>exact absurd rfl a0
 |cons x u=>
  obtain⟨s,c,r,l,a8,A⟩:=hb x (Xs ..);have i:=(gS.1 H).1;have G:=zc6 z.inv i Xd;have K:∀s∈m.sp,Qv s.tb:=fun s c=>z.tb c;obtain⟨M,t⟩:=zqH z H a6 pg fr c r l a8 A;have g:=Yl.1 hd;obtain⟨e,a⟩:∃e,QD {m with fs:=m.fs.set k ⟨pg,1,fr,Xd,-1,0⟩} x.1 x.2 ⟨1,(k:Int),Xd⟩=e:=⟨_,rfl⟩;rw[a]at M t;have h:e.fs[k]?=Xa ⟨pg,1,fr,Xd,-1,0⟩:=by
   rw[<-a];show(m.fs.set k _)[k]?=_;rw[sF i]
  have f:∀(q:Nat)s,m.sp[q]?=Xa s->∃b,e.sp[q]?=Xa b:=fun q s c=>⟨_,gE (by rw[t.aI];exact(gS.1 c).1)⟩;have C:∀(q j:Nat)s b,m.sp[q]?=Xa s->e.sp[q]?=Xa b->¬(q=x.1/\j=x.2)->ze b j=ze s j:=fun q j s b Z F I=>by
   rw[<-a]at F;exact zb0 (m1:={m with fs:=m.fs.set k ⟨pg,1,fr,Xd,-1,0⟩}) K r G Z F I
  obtain⟨Q,n⟩:=f x.1 s c;have B:ze Q x.2=⟨1,(k:Int),Xd⟩:=by
   have p:=n;rw[<-a]at p;exact(zaA (m1:={m with fs:=m.fs.set k ⟨pg,1,fr,Xd,-1,0⟩}) K c r G p).1
  obtain⟨N,P,ac,a9,aa⟩:=zfI u M h rfl ⟨x.1,x.2,Q,n,r,B⟩ (fun y L=>by
   obtain⟨D,v,R,S,T,U⟩:=hb y (Xt _ L);obtain⟨d,w⟩:=f y.1 D v;have E:=(t.sp y.1 D d v w).2;have V:=C y.1 y.2 D d v w (fun ab=>g.1 (by grind))
   exact⟨d,w,R,Rx V S,Rx E T,Rx E U⟩) g.2
  have X:zz e k u=zbJ m k pg fr (x::u):=by
   rw[zcJ u h,<-a];have W:(1:Int)+(u.length:Int)=((x::u).length:Int):=(by simp only[Yj];omega);unfold zbJ QD;simp only[Og,W];rfl
  rw[X]at N P a9 aa;refine⟨N,(t.trans P).mono ?_,fun y L b a7=>?_⟩;·grind
  grind
theorem zpQ(a:m.fs[k]?=Xa Y)(pg:Pg)(u:Bool)(l:List (Nat×Nat)):
  zz {m with fs:=m.fs.set k ⟨pg,1,u,Xd,-1,0⟩} k l={m with fs:=m.fs.set k ⟨pg,1+(l.length:Int),u,Xd,-1,0⟩,sp:=zqv k l m.sp}:=by rw[zcJ l (fr:=⟨pg,1,u,Xd,-1,0⟩) (by show(m.fs.set k _)[k]?=_;rw[sF (gS.1 a).1])];simp only[Og]
end
section
variable{m:Ma}{k p n:Nat}{fr:Fr}{s:Sp}
def Zz(m:Ma)(k:Nat)(pg:Pg)(u d:Bool)(file idx:Int):Ma:={m with fs:=m.fs.set k ⟨pg,1,u,d,file,idx⟩,ca:=Z7 m.ca ⟨file,idx,k⟩}
theorem zod(h:Rt m)(b:m.fs[k]?=Xa fr)(j:fr.r=0){pg:Pg}{u d:Bool}{file idx:Int}(x:0<=file/\file<m.fl.length)(hi:0<=idx/\idx<bkN m file)(r:∀c∈m.ca,¬(c.file=file/\c.idx=idx))(hp:pgL pg=zU m file idx):
  Rt (Zz m k pg u d file idx)/\Sam (fun _ _=>False) m (Zz m k pg u d file idx):=by
 have y:=(gS.1 b).1;have w:=zmg h.inv (u:=u) (d:=d) b j r hp;refine⟨Rt.of (h.inv.cache (p:=pg) (u:=u) (d:=d) b j x hi r) (fun s B=>h.tb B) h.aB.1 (by simpa[Zz]using h.aB.2),rfl,fun q s l a f=>?_,fun q C s l a f n _=>?_,rfl,fun _=>rfl,fun _=>rfl,fun e D _=>?_⟩
 ·have:m.sp[q]?=Xa l:=f
  grind
 ·have:m.sp[q]?=Xa l:=f;rw[a]at this;cases this;have g:=h.inv.en (z7 a) n;have z:=(jE g).2.1.1;refine zdv rfl rfl (fun i=>?_) (fun _=>rfl) (fun _=>rfl) w;have A:(ze s C).n≠(k:Int):=fun t=>by
   have v:=Q6 (z7 a) n i;rw[t]at v;have:=(h.inv.free b j).1;omega
  grind[q6,ze,z1,Zz]
 grind[zU,Zz]
theorem zpG(t:Rt m)(h:m.fs[k]?=Xa fr)(y:fr.r=0){pg:Pg}{u d:Bool}{file idx:Int}(g:0<=file/\file<m.fl.length)(hi:0<=idx/\idx<bkN m file)(b:∀c∈m.ca,¬(c.file=file/\c.idx=idx))(hp:pgL pg=zU m file idx)
  (z:m.sp[p]?=Xa s)(x:n<64)(v:ze s n=en0)(A:(zr s.aC n).is=Xc)(e:(zr s.aC n).file=file)(f:(zr s.aC n).page=idx):
  Rt (Zs (Zz m k pg u d file idx) k p n)/\Sam (fun q j=>q=p/\j=n) m (Zs (Zz m k pg u d file idx) k p n):=by
 have w:=(gS.1 h).1;obtain⟨i,l⟩:=zod t h y (u:=u) (d:=d) g hi b hp;have a:(Zz m k pg u d file idx).fs[k]?=Xa ⟨pg,1,u,d,file,idx⟩:=by
  show(m.fs.set k _)[k]?=_;grind
 obtain⟨B,C⟩:=zhY i a g.1 (s:=s) z x v A e f;exact⟨B,(l.trans C).mono fun q j r=>r.resolve_left id⟩
theorem zp2(b:(zr s.aC n).is=Xc){w:Bool}(a:m1.fs[k]?=Xa fr):Z2 m1 (zr s.aC n) ⟨1,(k:Int),w⟩=(pgL fr.p,decide (fr.f<0),0):=by grind[Z2,zL]
theorem zgw(h:Rt m)(c:m.fs[k]?=Xa fr)(f:fr.r≠0)(u d:Bool):Rt {m with fs:=m.fs.set k {fr with u:=u,d:=d}}/\Sam (fun _ _=>False) m {m with fs:=m.fs.set k {fr with u:=u,d:=d}}:=by
 have e:=(gS.1 c).1;have i:∀a b,zU {m with fs:=m.fs.set k {fr with u:=u,d:=d}} a b=zU m a b:=fun a b=>Qj e h.inv.ca (fun _=>by rw[zL c]) a b;refine⟨Rt.of (h.inv.marks (p:=fr.p) (u:=u) (d:=d) c f) (fun s b=>h.tb b) h.aB.1 (Si h.aB.2),rfl,fun q s g b f=>?_,fun q j s g b f j _=>?_,rfl,fun _=>rfl,fun _=>rfl,fun a a _=>by rw[i]⟩;·grind
 have:m.sp[q]?=Xa g:=f;rw[b]at this;cases this;refine zaw e h.inv.ca (fun _=>by rw[zL c]) (h.cL b j) (fun _ _=>by rw[zL c];exact⟨rfl,Iff.rfl⟩)
theorem zp1(h:Rt m)(b:m.sp[p]?=Xa s)(f:n<64){e:En}(t:e.kind=(ze s n).kind)(c:e.n=(ze s n).n)(d:QJ m (zr s.aC n) e):Rt (QD m p n e)/\Sam (fun _ _=>False) m (QD m p n e):=by
 have i:∀s∈m.sp,Qv s.tb:=fun s b=>h.tb b;have u:=h.inv.entry b (z7 b) f t c d;have a:=Sam.put (m1:=m) (p:=p) rfl rfl i f d.1 (fun q j y v r _=>rfl) (fun _ _=>rfl);refine⟨zbm b i f d.1 u h.aB,a.aI,a.sp,fun q j w x g k r _=>?_,a.fll,a.sz,a.bk,a.byt⟩;by_cases l:q=p/\j=n;·obtain⟨rfl,rfl⟩:=l;rw[b]at g;cases g;rw[(zaA i b f d.1 k).1];exact zdv t c (fun _=>⟨rfl,Iff.rfl⟩) (fun _=>rfl) (fun _=>rfl) (fun _ _=>rfl)
 exact a.see q j w x g k r l
end
def JH(k:Int)(e:En)(f:Nat->En):Nat->En:=fun j=>if isE (f j) 1 k=Xc then e else f j
theorem zkP(k:Int)(e)(f:Nat->En)(kind j:Int):∀n:Nat,Zw (JH k e f) kind j n+(if kind=1/\j=k then Zw f 1 k n else 0)=Zw f kind j n+(if isE e kind j=Xc then Zw f 1 k n else 0)
 |0=>by simp[Zw]
 |n+1=>by
  have b:=zkP k e f kind j n;unfold Zw;have a:JH k e f n=if isE (f n) 1 k=Xc then e else f n:=rfl;rw[a]
  cases d:isE (f n) 1 k with
  |true=>
   simp only[if_true];have g:isE (f n) kind j=Xc↔kind=1/\j=k:=by
    simp only[isE,Xz,decide_eq_true_eq]at d⊢;omega
   by_cases a:kind=1/\j=k
   ·rw[kE a]at b⊢;rw[g.2 a];cases c:isE e kind j<;>simp[c]at b⊢<;>omega
   rw[kF a]at b⊢;have:isE (f n) kind j=Xd:=by
    cases h:isE (f n) kind j with
    |false=>rfl
    |true=>exact absurd (g.1 h) a
   rw[this];cases c:isE e kind j<;>simp[c]at b⊢<;>omega
  |false=>
   simp only[if_false,Bool.false_eq_true];by_cases a:kind=1/\j=k
   ·rw[kE a]at b⊢;rw[a.1,a.2,d];rw[a.1,a.2]at b;simp at b⊢;omega
   rw[kF a]at b⊢;simp at b⊢;omega
theorem zes(k:Int)(e)(kind j:Int):∀T:List (Nat->En),qK (T.map (JH k e)) kind j+(if kind=1/\j=k then qK T 1 k else 0)=qK T kind j+(if isE e kind j=Xc then qK T 1 k else 0)
 |[]=>by simp[qK]
 |f::T=>by
  have a:=zes k e kind j T;have b:=zkP k e f kind j 64;simp only[qK,mP,List.sum_cons]at a⊢
  by_cases d:kind=1/\j=k
  ·rw[kE d]at a b⊢
   by_cases c:isE e kind j=Xc;·rw[kE c]at a b⊢;omega
   rw[kF c]at a b⊢;omega
  rw[kF d]at a b⊢;by_cases c:isE e kind j=Xc;·rw[kE c]at a b⊢;omega
  rw[kF c]at a b⊢;omega
section
variable{m:Ma}{T:List (Nat->En)}
theorem qT.moved(h:qT m T)(b:m.fs[k]?=Xa Y)(e:En)(w:e.kind≠1){sl':List Int}{sb':List (List Int)}{sq':List (Int×List Int)}(q:sl'.length=m.sl.length)(r:sb'.length=m.sb.length)(u:zS sb'.length sq'=0)
  (a:∀(j:Nat)z,sl'[j]?=Xa z->z=(qK T 2 j+(if isE e 2 (j:Int)=Xc then qK T 1 k else 0):Nat))(v:e=en0\/(enW e=0/\e.kind=2/\e.n<m.sl.length/\Y.f=-1)):
  qT {m with fs:=m.fs.set k frF,ca:=m.ca.filter fun d=>!decide (d.fr=(k:Int)),sl:=sl',sb:=sb',sq:=sq'} (T.map (JH (k:Int) e)):=by
 have a:=(gS.1 b).1;have c:∀j:Int,j≠(k:Int)->zN (m.ca.filter fun d=>!decide (d.fr=(k:Int))) j=zN m.ca j:=fun j f=>by grind[zN,List.countP_filter]
 have a:zN (m.ca.filter fun d=>!decide (d.fr=(k:Int))) (k:Int)=0:=by
  unfold zN;rw[Od];intro d t;rw[Yb]at t;simpa using t.2
 obtain⟨i,a⟩:∃i:Ma,{m with fs:=m.fs.set k frF,ca:=m.ca.filter fun d=>!decide (d.fr=(k:Int)),sl:=sl',sb:=sb',sq:=sq'}=i:=⟨_,rfl⟩;have p:∀z:Int,0<=z->z≠(k:Int)->z1 i z=z1 m z:=fun z b g=>by grind[z1,frF,q6]
 have n:i.sl.length=m.sl.length:=Ry a q;have l:i.fs.length=m.fs.length:=by rw[<-a];simp
 rw[a];refine⟨Rx l h.aN,fun s b=>?_,Rx n h.aT,by rw[<-a];show sb'.length=sl'.length;rw[r,q];exact h.bF,Ry a u,Ry a h.bM,Ry a h.st,Ry a h.cnt,Ry a h.bI,Ry a h.aZ,Ry a h.aI,Ry a h.aP,by rw[<-a];simpa using h.tl,?_,fun r x s y b j f=>?_,fun j s f=>?_,fun j z f=>?_⟩
 ·rw[<-a]at b
  rcases Yq b with b|rfl;·exact h.bE s b
  exact⟨Dc,Dc,.inl rfl,fun _=>rfl,fun _=>rfl⟩
 ·obtain⟨u,q,A⟩:=zo.1 h.ca;have q:i.ca=m.ca.filter fun d=>!decide (d.fr=(k:Int)):=by rw[<-a]
  rw[q];refine zo.2 ⟨fun d t=>?_,fun r d i=>(by cases i),A.filter _⟩;have i:=Yb.1 t;have g:d.fr≠(k:Int):=Si i.2;obtain⟨q,t,A,B⟩:=Zl (u d i.1);have i:=p d.fr q.2.2.2.2.1 g;refine zbo ?_ (Rx i t) (Rx i A) (Rx i B);rw[<-a];simpa[bkN]using q
 ·rw[Ya]at b
  cases u:T[r]? with
  |none=>rw[u]at b;cases b
  |some t=>
   rw[u]at b;simp only[Option.map_some,Option.some.injEq]at b;subst b;have q:m.sp[r]?=Xa x:=(by rw[<-a]at y;exact y);unfold JH;by_cases b:isE (t j) 1 (k:Int)=Xc
   ·rw[kE b]
    rcases v with v|⟨i,v,v,v⟩;·grind
    right;refine⟨i,Wm,?_⟩;simp only[isE,Xz,decide_eq_true_eq]at b;rcases h.aM r x t q u j f with i|i;·grind[en0]
    have v:=i.2.2;unfold zah at v⊢;split at v;·cases v
    grind[zV,zL]
   rw[kF b];rcases h.aM r x t q u j f with i|i;·grind
   refine .inr ⟨i.1,i.2.1,Ze i.2.2 n l fun l=>?_⟩;obtain⟨n,q,r,r⟩:=zV i l;have g:(t j).n≠(k:Int):=fun i=>b (by simp[isE,n,i]);rw[p _ q g];exact⟨rfl,rfl,r⟩
 ·rw[<-a]at f⊢;simp only at f⊢;have a:=zes (k:Int) e 1 (j:Int) T;rw[kF (show¬isE e 1 (j:Int)=Xc by simp[isE,w])]at a;by_cases b:j=k;·grind[sF,frF]
  rw[sN (fun h=>b h.symm)]at f;rw[kF Wm]at a;rw[c j Wm];have:=h.cf j s f;refine⟨?_,this.2⟩;omega
 grind[zes]
theorem zjE(h:zN m.ca (k:Int)=0):(m.ca.filter fun d=>!decide (d.fr=(k:Int)))=m.ca:=by grind[Oe,zN,Od]
theorem qT.mine0(h:qT m T)(b:m.fs[k]?=Xa Y)(a:Y.f=-1):zN m.ca (k:Int)=0:=by refine Classical.byContradiction fun b=>?_;obtain⟨c,a,d⟩:=zcU b;obtain⟨b,b,b,b⟩:=Zl ((zo.1 h.ca).1 c a);grind[zL]
end
def Qa(k:Int)(e:En)(s:Sp):Sp:={s with tb:=ZV (JH k e (ze s))}
theorem zb5(h:Rt m)(a:s∈m.sp)(b:enW Z=0):ze (Qa z Z s)=JH z Z (ze s):=by
 have c:∀n,enW (JH z Z (ze s) n)=0:=fun n=>by
  unfold JH;split;·exact b
  exact(h.tb a).get _ _
 funext j;by_cases b:j<64;·grind[Qa,ze,zgh]
 have b:ze s j=en0:=by
  unfold ze zbg;rw[gN (l:=s.tb) (by rw[(h.tb a).1];omega)];rfl
 have a:ze (Qa z Z s) j=en0:=by grind[ze,zbg,Qa,gN,ZV,JH,ZK]
 grind[JH,qZ]
section
variable{m:Ma}
theorem zhN(h:Rt m)(b:enW Z=0):∀s∈m.sp.map (Qa z Z),Qv s.tb:=fun s c=>by
 obtain⟨d,a,rfl⟩:=Xx.1 c;have c:∀n,n<64->enW (JH z Z (ze d) n)=0:=fun n _=>by
  unfold JH;split;·exact b
  exact(h.tb a).get _ _
 exact⟨by simp[Qa,ZV,ZK],ZZ.1 (zke c)⟩
theorem zbC(h:(m.sp.map (Qa z Z))[k]?=Xa s):∃q,m.sp[k]?=Xa q/\s=Qa z Z q:=by grind
theorem zfM(h:Rt m){k:Int}(b:enW Z=0)(sp':List Sp)(a:sp'=m.sp.map (Qa k Z)):sp'.map ze=(Zb m).map (JH k Z):=by grind[Zb,List.map_map,Of,zb5]
theorem zfQ{p q:α->Bool}:∀{l:List α},(∀x∈l,p x=q x)->l.find? p=l.find? q
 |[],_=>rfl
 |x::l,h=>by
  rw[List.find?_cons,List.find?_cons,h x Sm,zfQ (l:=l) fun y a=>h y (by simp[a])]
theorem zgS(_hk:k<m.fs.length)(a:m'.fs=m.fs.set k Y)(c:0<=z)(b:z≠(k:Int)):z1 m' z=z1 m z:=by unfold z1;rw[a,gD,gD,sN Wm]
def QC(m:Ma)(k j:Nat)(r:Int)(sb':List (List Int))(sq':List (Int×List Int)):Ma:={m with fs:=m.fs.set k frF,sl:=m.sl.set j r,sb:=sb',sq:=sq',sp:=m.sp.map (Qa (k:Int) ⟨2,(j:Int),Xd⟩)}
theorem zqw(h:Rt m)(q:m.fs[k]?=Xa Y)(t:Y.f=-1)(_hr:Y.r≠0)(u:m.sl[j]?=Xa 0)(a:r.length=m.sb.length)(c:zS r.length g=0)(w:qU r g (j:Int)=pgL Y.p)(x:∀i:Int,0<=i->i≠(j:Int)->qU r g i=qU m.sb m.sq i):
  Rt (QC m k j Y.r r g)/\Sam (fun _ _=>False) m (QC m k j Y.r r g):=by
 have v:=(gS.1 q).1;have b:=(gS.1 u).1;have d:=h.inv.aT;have sb':enW ⟨2,(j:Int),Xd⟩=0:=JN Sm ⟨Sm,by simp only;omega,fun h=>by simp at h⟩ Sm
 have n:=h.inv.mine0 q t;have d:=h.inv.moved q ⟨2,(j:Int),Xd⟩ Sm (sl':=m.sl.set j Y.r) (sb':=r) (sq':=g) Sm a c (fun i z a=>by
  have c:=(h.inv.cf k Y q).1;by_cases l:i=j
  ·subst l;rw[sF b]at a;cases a;have:=h.inv.cs i 0 u;rw[kE (by simp[isE])];omega
  rw[sN (fun h=>l h.symm)]at a;have:=h.inv.cs i z a;rw[kF (by simp[isE];omega)]
  omega) (.inr ⟨sb',rfl,by simp only;omega,t⟩)
 rw[zjE n]at d;have b:(QC m k j Y.r r g).sp=m.sp.map (Qa (k:Int) ⟨2,(j:Int),Xd⟩):=rfl;have a:=zfM h (k:=(k:Int)) sb' _ b;have c:qT (QC m k j Y.r r g) (Zb (QC m k j Y.r r g)):=by
  unfold Zb;rw[a];refine qT.tabs d (sp':=(QC m k j Y.r r g).sp) (by rw[b];simp) fun p s A e f=>?_;rw[b]at f;obtain⟨B,sq',rfl⟩:=zbC f;have a:m.sp[p]?=Xa s:=e;rw[a]at sq';cases sq';exact⟨rfl,rfl⟩
 refine⟨Rt.of c (by rw[b];exact zhN h sb') h.aB.1 (by show m.aB<max ((m.fs.set k frF).length:Int) 1;simpa using h.aB.2),?_⟩;have a:(QC m k j Y.r r g).ca=m.ca:=rfl;have c:∀a d,zU (QC m k j Y.r r g) a d=zU m a d:=fun a d=>by
  refine zit (m:=m) (m':=QC m k j Y.r r g) rfl rfl rfl rfl (fun y z=>?_) a d;have d:y.fr≠(k:Int):=fun l=>by have:=QP z;rw[l]at this;exact this n
  rw[zgS v (m':=QC m k j Y.r r g) rfl (Zl ((zo.1 h.inv.ca).1 y z)).1.2.2.2.2.1 d]
 refine⟨by rw[b];simp,fun d s A e f=>?_,fun d n s A e f d _=>?_,rfl,fun _=>rfl,fun _=>rfl,fun a i _=>by rw[c]⟩;·rw[b]at f;obtain⟨B,sq',rfl⟩:=zbC f;rw[e]at sq';cases sq';exact⟨rfl,rfl⟩
 rw[b]at f;obtain⟨B,sq',rfl⟩:=zbC f;rw[e]at sq';cases sq';rw[zb5 h (mG e) sb'];unfold JH;by_cases a:isE (ze s n) 1 (k:Int)=Xc
 ·rw[kE a];simp only[isE,Xz,decide_eq_true_eq]at a;unfold Z2;by_cases b:(zr s.aC n).is=Xd;·grind
  rw[kF b,kF b,kF Sm,kE rfl,kE a.1,a.2,zL q];show(qU r g (j:Int),Xc,(0:Int))=_;rw[w,t];rfl
 rw[kF a];have a:=h.inv.en (z7 e) d;have b:=(jE a).2.1.1;refine zdv rfl rfl (fun a=>?_) (fun a=>?_) (fun _=>rfl) c;·grind[ze,isE,zgS,QC]
 refine x _ b fun l=>?_;have b:=h.inv.cs j 0 u;have b:=za5 (z7 e) d (kind:=2) (k:=(j:Int)) (by simp[isE,a,l]) Dc;omega
def qL(m:Ma)(k:Nat):Ma:={m with fs:=m.fs.set k frF,ca:=m.ca.filter fun d=>!decide (d.fr=(k:Int)),sp:=m.sp.map (Qa (k:Int) en0)}
theorem zrV{idx a:Int}(h:8*idx+(k:Int)<a):(Z8 L idx a).getD k 0=L.getD k 0:=by
 unfold Z8;rw[gD,gD,List.getElem?_mapIdx];cases L[k]? with
 |none=>rfl
 |some z=>simp only[Option.map_some,Option.getD_some];rw[kF Wm]
theorem zq2(h:Rt m)(S:Nat->Nat->Prop)(i:m.fs[k]?=Xa Y)(b:0<=Y.f)(_hr:Y.r≠0)(hd:Qr m Y.f Y.x=Z8 (pgL Y.p) Y.x (JC m Y.f))
  (hS:Z8 (pgL Y.p) Y.x (JC m Y.f)=pgL Y.p\/∀(q n:Nat)s,m.sp[q]?=Xa s->n<64->(zr s.aC n).is=Xc->(zr s.aC n).file=Y.f->(zr s.aC n).page=Y.x->(ze s n).kind=0\/isE (ze s n) 1 (k:Int)=Xc->S q n):
  Rt (qL m k)/\Sam S m (qL m k):=by
 have C:=(gS.1 i).1;have a:=h.inv.cf k Y i;obtain⟨c,B,d⟩:=zcU (a.2 b);obtain⟨H,a,y,z⟩:=Zl ((zo.1 h.inv.ca).1 c B);rw[d,zL i]at a y z;have c:=h.inv.moved i en0 Dc (sl':=m.sl) (sb':=m.sb) (sq':=m.sq) rfl rfl h.inv.sq (fun E a D=>by
  have:=h.inv.cs E a D;rw[kF (by simp[qZ])]
  omega) (.inl rfl)
 have b:(qL m k).sp=m.sp.map (Qa (k:Int) en0):=rfl;have a:=zfM h (k:=(k:Int)) JO _ b;have e:qT (qL m k) (Zb (qL m k)):=by
  unfold Zb;rw[a];refine qT.tabs c (sp':=(qL m k).sp) (by rw[b];simp) fun p s F c g=>?_;rw[b]at g;obtain⟨G,r,rfl⟩:=zbC g;have a:m.sp[p]?=Xa s:=c;rw[a]at r;cases r;exact⟨rfl,rfl⟩
 refine⟨Rt.of e (by rw[b];exact zhN h JO) h.aB.1 (by show m.aB<max ((m.fs.set k frF).length:Int) 1;simpa using h.aB.2),?_⟩;have e:∀file a,(qL m k).ca.find? (QM file a)=if file=Y.f/\a=Y.x then Xb else m.ca.find? (QM file a):=fun file a=>by
  show(m.ca.filter fun j=>!decide (j.fr=(k:Int))).find? (QM file a)=_;by_cases l:file=Y.f/\a=Y.x
  ·rw[kE l];rw[Yp];intro j hd f;have t:=Yb.1 hd;simp only[QM,Xz,decide_eq_true_eq]at f;have c:=Q9 h.inv.ca t.1;have g:=Q9 h.inv.ca B;rw[f.1,f.2,l.1,l.2,y,z,g]at c;cases c;have:=t.2;simp[d]at this
  rw[kF l];rw[List.find?_filter];apply zfQ;intro j hd;cases f:QM file a j with
  |false=>simp
  |true=>
   simp only[QM,Xz,decide_eq_true_eq]at f;have:j.fr≠(k:Int):=fun w=>by
    obtain⟨t,A,u,v⟩:=Zl ((zo.1 h.inv.ca).1 j hd);rw[w,zL i]at u v;exact l ⟨by rw[<-f.1,u],by rw[<-f.2,v]⟩
   simp[this]
 have x:zU m Y.f Y.x=pgL Y.p:=by
  unfold zU;have:=Q9 h.inv.ca B;rw[<-y,<-z]at this;rw[this];simp only;rw[d,zL i]
 have d:zU (qL m k) Y.f Y.x=Z8 (pgL Y.p) Y.x (JC m Y.f):=by
  unfold zU;rw[e,kE ⟨rfl,rfl⟩];exact hd
 have d:∀file a,¬(file=Y.f/\a=Y.x)->zU (qL m k) file a=zU m file a:=fun file a d=>by
  unfold zU;rw[e,kF d];cases e:m.ca.find? (QM file a)with
  |none=>rfl
  |some j=>
   simp only;have a:=List.mem_of_find?_eq_some e;obtain⟨t,A,u,v⟩:=Zl ((zo.1 h.inv.ca).1 j a);have f:=List.find?_some e;simp only[QM,Xz,decide_eq_true_eq]at f;rw[zgS C (m':=qL m k) rfl t.2.2.2.2.1 (fun w=>?_)];rw[w,zL i]at u v;exact d ⟨by rw[<-f.1,u],by rw[<-f.2,v]⟩
 refine⟨by rw[b];simp,fun q s F c g=>?_,fun q n s F c g f a=>?_,rfl,fun _=>rfl,fun _=>rfl,fun file E D=>?_⟩;·rw[b]at g;obtain⟨G,r,rfl⟩:=zbC g;rw[c]at r;cases r;exact⟨rfl,rfl⟩
 ·rw[b]at g;obtain⟨G,r,rfl⟩:=zbC g;rw[c]at r;cases r;rw[zb5 h (mG c) JO];unfold JH;have a:Y.x<bkN m Y.f:=by rw[y,z];exact H.2.2.2.1
  have hcut:(zr s.aC n).is=Xc->(zr s.aC n).file=Y.f->(zr s.aC n).page=Y.x->(ze s n).kind=0\/isE (ze s n) 1 (k:Int)=Xc->zU (qL m k) Y.f Y.x=pgL Y.p:=fun a a a a=>by grind
  by_cases d:isE (ze s n) 1 (k:Int)=Xc
  ·rw[kE d];have a:=d;simp only[isE,Xz,decide_eq_true_eq]at a;have b:QJ m (zr s.aC n) (ze s n):=by
    rcases h.aM c f with l|l;·grind[en0]
    exact l
   have e:=b.2.2;unfold zah at e;split at e;·cases e
   rename_i t
   rw[kF Wm,kF (Hm ((zV b Wm).2.2.1)),a.2,zL i]at e;split at e;·cases e
   rename_i A
   have b:0<=(zr s.aC n).file/\Y.f=(zr s.aC n).file/\Y.x=(zr s.aC n).page:=Classical.byContradiction fun w=>A (.inl ⟨Wm,w⟩);have e:(zr s.aC n).is=Xc:=(by grind);unfold Z2;rw[kF t,kF t,kF Dc,kF Dc,kF Wm,kE a.1,a.2,zL i,kF (by rw[<-b.2.1,<-b.2.2];show¬bkN m Y.f<=Y.x;omega),<-b.2.1,<-b.2.2,hcut e b.2.1.symm b.2.2.symm (.inr d)];have:decide (Y.f<0)=Xd:=(by simp;omega);rw[this]
  rw[kF d];have a:=h.inv.en (z7 c) f;have b:=(jE a).2.1.1;unfold Z2;by_cases c:(zr s.aC n).is=Xd;·grind
  rw[kF c,kF c];by_cases b:(ze s n).kind=1;·grind[ze,isE,zgS,qL]
  rw[kF b,kF b];by_cases b:(ze s n).kind=2;·rw[kE b,kE b];rfl
  rw[kF b,kF b];have b:bkN (qL m k)=bkN m:=rfl;rw[b];by_cases b:(zr s.aC n).file<0;·grind
  rw[kF b,kF b];by_cases b:bkN m (zr s.aC n).file<=(zr s.aC n).page;·grind
  rw[kF b,kF b];by_cases b:(zr s.aC n).file=Y.f/\(zr s.aC n).page=Y.x
  ·have e:(zr s.aC n).is=Xc:=by
    cases d:(zr s.aC n).is with
    |true=>rfl
    |false=>exact absurd d c
   have c:(ze s n).kind=0:=Hm ((jE a).1);have:=hcut e b.1 b.2 (.inl c);rw[b.1,b.2,this,x]
  grind
 grind[zrV]
end
theorem zm1:∀{l:List Ar}{p:Option Ar}{n:Nat},Jh p l->(zr l n).is=Xc->0<=(zr l n).page/\((zr l n).page<=11\/(zr l n).file<0)
 |[],_,_,_,h=>by cases h
 |a::l,p,n,b,h=>by
  unfold zr at h⊢
  by_cases e:Qb a n=Xc
  ·rw[kE e]at h⊢;have c:=b.1;have d:=q7.1 e;unfold jS at c;unfold qq;simp only
   split;·exact⟨Wm,.inl Wm⟩
   exact⟨Wm,.inr Wm⟩
  rw[kF e]at h⊢;exact zm1 b.2.2 h
theorem Rt.page(h:Rt m)(a:m.sp[k]?=Xa s)(p:(zr s.aC b).is=Xc):0<=(zr s.aC b).page:=
 (zm1 (jJ.1 (h.inv.aP s (mG a)).1).2 p).1
section
variable{m:Ma}
def ze3(m:Ma)(file idx:Nat)(f:Fl)(b:Int)(db':List (List Int))(dq':List (Int×List Int)):Ma:={m with fl:=m.fl.set file ⟨f.size,f.bl.set idx b⟩,db:=db',dq:=dq'}
theorem zoj(D:Rt m){f:Fl}(aq:m.fl[k]?=Xa f)(a8:stW (m.fl.set k ⟨f.size,f.bl.set p (b:Int)⟩) m.cnt=0)
  (S:∀x,z4 (m.fl.set k ⟨f.size,f.bl.set p (b:Int)⟩) x=Xc↔(z4 m.fl x=Xc/\x≠-1)\/x=(b:Int)\/(x=-1/\z4 (m.fl.set k ⟨f.size,f.bl.set p (b:Int)⟩) x=Xc))
  (K:r.length=m.db.length)(L:zS r.length g=0)(G:∀i:Nat,r[i]?=m.db[i]?\/∃q∈m.dq,q.1=(i:Int))(W:∀q∈g,q.1=(b:Int)\/∃ab∈m.dq,ab.1=q.1)(a7:∀i:Int,i≠(b:Int)->qU r g i=qU m.db m.dq i)
  (_hb0:f.bl[p]?=Xa (b:Int)\/(z4 m.fl (b:Int)=Xd))(af:∃c∈m.ca,c.file=(k:Int)/\c.idx=(p:Int))(N:∀(i j:Nat)idx,m.fl[i]?=Xa idx->idx.bl[j]?=Xa (b:Int)->i=k/\j=p):
  (Rt (ze3 m k p f (b:Int) r g)/\Sam (fun _ _=>False) m (ze3 m k p f (b:Int) r g))/\∀(i j:Nat),(j:Int)<bkN m (i:Int)->zU (ze3 m k p f (b:Int) r g) (i:Int) (j:Int)=zU m (i:Int) (j:Int):=by
 have ar:=(gS.1 aq).1;obtain⟨d,a⟩:∃d,ze3 m k p f (b:Int) r g=d:=⟨_,rfl⟩;have Q:∀z,JC d z=JC m z:=fun z=>by
  rw[<-a];unfold JC ze3;simp only[gD];by_cases h:z.toNat=k;·grind
  grind
 have B:∀z,bkN d z=bkN m z:=fun z=>by
  rw[<-a];unfold bkN ze3;simp only[gD];by_cases h:z.toNat=k;·grind
  grind
 have t:∀z,z1 d z=z1 m z:=fun z=>by rw[<-a];rfl
 have y:d.fl.length=m.fl.length:=by rw[<-a];simp[ze3]
 have e:d.sp=m.sp:=by rw[<-a];rfl
 have H:d.ca=m.ca:=by rw[<-a];rfl
 have Z:qT d (Zb d):=by
  have ap:Zb d=Zb m:=by unfold Zb;rw[e]
  rw[ap];have l:=D.inv;refine⟨Ry a l.aN,Ry a l.bE,Ry a l.aT,Ry a l.bF,Ry a l.sq,Ry a L,Ry a a8,by rw[<-a];show m.cnt=(r.length:Int);rw[K];exact l.cnt,fun i w ai=>?_,fun q P=>?_,Rx e l.aI,Rx e l.aP,Rx e l.tl,?_,?_,Ry a l.cf,Ry a l.cs⟩
  ·rw[<-a]at w ai⊢;have R:z4 m.fl (i:Int)=Xd:=by
    cases h:z4 m.fl (i:Int)with
    |false=>rfl
    |true=>
     have:=(S (i:Int)).2 (.inl ⟨h,Wm⟩);have a9:z4 (m.fl.set k ⟨f.size,f.bl.set p (b:Int)⟩) (i:Int)=Xd:=ai;rw[a9]at this;cases this
   show r[i]?=_;rcases G i with h|⟨q,ac,ad⟩;·rw[h];exact l.bI i (Ry K w) R
   have:=l.aZ q ac;rw[ad,R]at this;cases this
  ·rw[<-a]at P⊢
   show z4 (m.fl.set k ⟨f.size,f.bl.set p (b:Int)⟩) q.1=Xc;rcases W q P with h|⟨ab,ac,ad⟩;·grind
   refine(S _).2 (.inl ⟨?_,?_⟩);·rw[<-ad];exact l.aZ ab ac
   have a0:=l.bM;unfold zS at a0;split at a0;·cases a0
   grind[List.any_eq_true.2,ZB]
  ·obtain⟨aj,ax,ak⟩:=zo.1 l.ca;rw[H];refine zo.2 ⟨fun c af=>?_,fun q c W=>(by cases W),ak⟩;obtain⟨al,am,an,ao⟩:=Zl (aj c af);refine zbo ?_ (Rx t am) (Rx t an) (Rx t ao);rw[y,B];rw[<-a];exact al
  intro av s idx X v n ah;rw[e]at X;rcases l.aM av s idx X v n ah with h|h;·grind
  refine .inr ⟨h.1,h.2.1,Ze h.2.2 (by rw[<-a];rfl) (by rw[<-a];rfl) fun a5=>?_⟩;rw[t];exact⟨rfl,rfl,(zV h a5).2.2.2⟩
 have file:∀(i j:Nat),(j:Int)<bkN m (i:Int)->zU d (i:Int) (j:Int)=zU m (i:Int) (j:Int):=fun i j u=>by
  unfold zU;rw[H];cases W:m.ca.find? (QM (i:Int) (j:Int))with
  |some c=>simp only;rw[t]
  |none=>
   simp only;have a6:¬(i=k/\j=p):=fun h=>(by grind[Yp,QM]);have I:zg2 d (i:Int) (j:Int)=zg2 m (i:Int) (j:Int):=by
    rw[<-a];unfold zg2 ze3;simp only[gD,tN];by_cases h:i=k;·grind
    grind
   rw[I,Q];by_cases M:zg2 m (i:Int) (j:Int)<0;·grind
   rw[kF M,kF M];have w:i<m.fl.length:=Classical.byContradiction fun A=>by
    unfold bkN at u;simp only[gD,tN]at u;rw[gN Wm]at u;simp only[Option.getD_none,Yk]at u;omega
   have v:=gE w;have ag:j<(m.fl[i]).bl.length:=by
    unfold bkN at u;simp only[gD,tN,v,Option.getD_some]at u;omega
   have:zg2 m (i:Int) (j:Int)≠(b:Int):=fun h=>by
    unfold zg2 at h;simp only[gD,tN,v,Option.getD_some,gE ag]at h;exact a6 (N i j _ v (by rw[gE ag,h]))
   rw[show qU d.db d.dq (zg2 m (i:Int) (j:Int))=qU r g (zg2 m (i:Int) (j:Int)) by rw[<-a];rfl,a7 _ this]
 rw[a];refine⟨?_,file⟩;refine⟨Rt.of Z (by rw[e];exact fun s X=>D.tb X) (Ry a D.aB.1) (Ry a D.aB.2),⟨by rw[e],fun q s aw A F=>?_,fun q n s aw A F ah _=>?_,y,Q,B,fun ae au E=>?_⟩⟩;·rw[e,A]at F;cases F;exact⟨rfl,rfl⟩
 ·rw[e,A]at F;cases F;unfold Z2;rw[t,B];by_cases T:(zr s.aC n).is=Xd;·rw[kE T,kE T]
  rw[kF T,kF T];by_cases U:(ze s n).kind=1;·rw[kE U,kE U]
  rw[kF U,kF U];by_cases C:(ze s n).kind=2;·rw[kE C,kE C];rw[<-a];rfl
  rw[kF C,kF C];by_cases V:(zr s.aC n).file<0;·rw[kE V,kE V]
  rw[kF V,kF V];by_cases Y:bkN m (zr s.aC n).file<=(zr s.aC n).page;·rw[kE Y,kE Y]
  rw[kF Y,kF Y];have a4:(zr s.aC n).is=Xc:=by
   cases aa:(zr s.aC n).is with
   |true=>rfl
   |false=>exact absurd aa T
  have ay:=D.page A a4;have:=file (zr s.aC n).file.toNat (zr s.aC n).page.toNat (by
   rw[show(((zr s.aC n).file.toNat:Nat):Int)=(zr s.aC n).file by omega,show(((zr s.aC n).page.toNat:Nat):Int)=(zr s.aC n).page by omega]
   omega)
  rw[show(((zr s.aC n).file.toNat:Nat):Int)=(zr s.aC n).file by omega,show(((zr s.aC n).page.toNat:Nat):Int)=(zr s.aC n).page by omega]at this;rw[this]
 rw[file ae (au/8) ?_];by_cases A:ae<m.fl.length
 ·have v:=gE A;obtain⟨U,C,V⟩:=((qJ _ _).1 D.inv.st).2.1 _ (mG v);unfold JC at E;simp only[gD,tN,v,Option.getD_some]at E;unfold bkN;simp only[gD,tN,v,Option.getD_some];unfold zaS at C;split at C<;>omega
 unfold JC at E;simp only[gD,tN]at E;rw[gN Wm]at E;simp only[Option.getD_none]at E;omega
end
def Unc(m:Ma)(file idx:Int):Prop:=∀c∈m.ca,¬(c.file=file/\c.idx=idx)
theorem Unc.find{idx:Int}(h:Unc m z idx):m.ca.find? (QM z idx)=Xb:=by rw[Yp];intro c b a;simp only[QM,Xz,decide_eq_true_eq]at a;exact h c b a
structure JU(S:Nat->Nat->Prop)(m m':Ma):Prop where
 rt:Rt m'
 aW:Sam S m m'
 fsl:m'.fs.length=m.fs.length
 bare:∀(q n:Nat)s s',m.sp[q]?=Xa s->m'.sp[q]?=Xa s'->n<64->ze s n=en0->ze s' n=en0
 unc:∀(file idx:Nat),(idx:Int)<bkN m (file:Int)->Unc m (file:Int) (idx:Int)->Unc m' (file:Int) (idx:Int)/\zU m' (file:Int) (idx:Int)=zU m (file:Int) (idx:Int)
theorem JU.refl{S:Nat->Nat->Prop}(h:Rt m):JU S m m:=⟨h,Sam.refl S m,rfl,fun q n s a c a _ b=>by rw[c]at a;cases a;exact b,fun _ _ _ h=>⟨h,rfl⟩⟩
theorem JU.trans{S:Nat->Nat->Prop}{a b c:Ma}(h:JU S a b)(k:JU S b c):JU S a c:=by
 refine⟨k.rt,(h.aW.trans k.aW).mono (fun _ _ e=>e.elim id id),k.fsl.trans h.fsl,fun q n s r f m i l=>?_,fun d e g p=>?_⟩
 ·have:∃t,b.sp[q]?=Xa t:=⟨_,gE (by rw[h.aW.aI];exact(gS.1 f).1)⟩
  obtain⟨t,j⟩:=this;exact k.bare q n t r j m i (h.bare q n s t f j i l)
 obtain⟨u1,u2⟩:=h.unc d e g p;obtain⟨f,f⟩:=k.unc d e (by rw[h.aW.bk];exact g) u1;grind
theorem JU.bareOk{S:Nat->Nat->Prop}(h:JU S m m'){x:Nat×Nat}(hb:zr2 m x):zr2 m' x:=by obtain⟨s,a,c,d,f,g⟩:=hb;have:∃t,m'.sp[x.1]?=Xa t:=⟨_,gE (by rw[h.aW.aI];exact(gS.1 a).1)⟩;obtain⟨t,b⟩:=this;have e:=(h.aW.sp x.1 s t a b).2;exact⟨t,b,c,h.bare x.1 x.2 s t a b c d,Rx e f,Rx e g⟩
section
variable{m:Ma}
theorem zhO(h:Rt m)(d:enW Z=0){q:Sp}(a:m.sp[k]?=Xa s)(c:(m.sp.map (Qa z Z))[k]?=Xa q)(f:ze s b=en0):ze q b=en0:=by obtain⟨q,q,rfl⟩:=zbC c;rw[a]at q;cases q;rw[zb5 h (mG a) d];grind[JH,isE,en0]
theorem zmI(S:Nat->Nat->Prop)(h:Rt m)(sq':m.fs[k]?=Xa Y)(f:Y.f=-1)(l:Y.r≠0)(e:m.sl[j]?=Xa 0)(c:r.length=m.sb.length)(d:zS r.length g=0)(a:qU r g (j:Int)=pgL Y.p)(b:∀i:Int,0<=i->i≠(j:Int)->qU r g i=qU m.sb m.sq i):
  JU S m (QC m k j Y.r r g):=by obtain⟨n,p⟩:=zqw h sq' f l e c d a b;have a:=h.inv.aT;have a:=(gS.1 e).1;have d:enW ⟨2,(j:Int),Xd⟩=0:=JN Sm ⟨Sm,by simp only;omega,fun h=>by simp at h⟩ Sm;refine⟨n,p.mono (fun _ _ e=>e.elim),by simp[QC],fun q n s a b c _ a=>zhO h d b c a,fun a c _ b=>⟨b,?_⟩⟩;unfold zU;rw[show(QC m k j Y.r r g).ca.find? (QM (a:Int) (c:Int))=Xb from b.find,b.find];rfl
theorem znQ(h:Rt m)(S:Nat->Nat->Prop)(b:m.fs[k]?=Xa Y)(a:0<=Y.f)(c:Y.r≠0)(hd:Qr m Y.f Y.x=Z8 (pgL Y.p) Y.x (JC m Y.f))
  (hS:Z8 (pgL Y.p) Y.x (JC m Y.f)=pgL Y.p\/∀(q n:Nat)s,m.sp[q]?=Xa s->n<64->(zr s.aC n).is=Xc->(zr s.aC n).file=Y.f->(zr s.aC n).page=Y.x->(ze s n).kind=0\/isE (ze s n) 1 (k:Int)=Xc->S q n):
  JU S m (qL m k):=by obtain⟨f,g⟩:=zq2 h S b a c hd hS;have c:∀file a,Unc m file a->Unc (qL m k) file a:=fun file a b d e=>b d (Yb.1 e).1;refine⟨f,g,by simp[qL],fun q n s d e f _ d=>zhO h JO e f d,fun file a _ b=>⟨c _ _ b,?_⟩⟩;unfold zU;rw[(c _ _ b).find,b.find];rfl
theorem zlt(S:Nat->Nat->Prop)(h:Rt m)(a:m.fs[k]?=Xa Y)(b:Y.r≠0)(u d:Bool):JU S m {m with fs:=m.fs.set k {Y with u:=u,d:=d}}:=by
 obtain⟨c,e⟩:=zgw h a b u d;refine⟨c,e.mono (fun _ _ e=>e.elim),Sm,fun q n s b b b _ b=>?_,fun b b _ b=>⟨b,?_⟩⟩;·grind
 exact Qj (gS.1 a).1 h.inv.ca (fun _=>by rw[zL a]) _ _
theorem znq(S:Nat->Nat->Prop)(h:Rt m)(e:0<=z)(b:z<max (m.fs.length:Int) 1):JU S m {m with aB:=z}:=by
 have a:=h.inv;have c:qT {m with aB:=z} (Zb {m with aB:=z}):=⟨a.aN,a.bE,a.aT,a.bF,a.sq,a.bM,a.st,a.cnt,a.bI,a.aZ,a.aI,a.aP,a.tl,zo.2 ⟨fun d f=>(zo.1 a.ca).1 d f,fun _ _ d=>(by cases d),(zo.1 a.ca).2.2⟩,a.aM,a.cf,a.cs⟩;refine⟨Rt.of c (fun s a=>h.tb a) e b,⟨rfl,fun q s c b a=>?_,fun q n s c b a _ _=>?_,rfl,fun _=>rfl,fun _=>rfl,fun _ _ _=>rfl⟩,rfl,fun q n s c b a _ d=>?_,fun d d _ d=>⟨d,rfl⟩⟩;·grind
 ·have:m.sp[q]?=Xa c:=a;rw[b]at this;cases this;rfl
 grind
end
theorem JU.mono{S c:Nat->Nat->Prop}{b:Ma}(h:JU S m b)(hS:∀q n,S q n->c q n):JU c m b:=⟨h.rt,h.aW.mono hS,h.fsl,h.bare,h.unc⟩
section
variable{m:Ma}{p n:Nat}{s:Sp}
theorem zik(i:Rt m)(f:m.sp[p]?=Xa s)(g:n<64):JU (fun q j=>q=p/\j=n) m (zan m p n)/\(∀b,(zan m p n).sp[p]?=Xa b->ze b n=en0)/\(zan m p n).ca=m.ca/\(zan m p n).fl=m.fl/\∀(q j:Nat)s b,m.sp[q]?=Xa s->(zan m p n).sp[q]?=Xa b->¬(q=p/\j=n)->ze b j=ze s j:=by
 have E:m.sp.getD p ⟨Xd,[],[]⟩=s:=by rw[gD,f];rfl
 have F:∀s∈m.sp,Qv s.tb:=fun s f=>i.tb f;obtain⟨x,y⟩:=zq6 i f g;have r:∃d,zan m p n=QD d p n en0/\d.sp=m.sp/\d.ca=m.ca/\d.fl=m.fl/\d.fs.length=m.fs.length/\∀a c,zU d a c=zU m a c:=by
  unfold zan;simp only[E];by_cases e:(ze s n).kind=1;·rw[kE e];obtain⟨R,P,v,A,B,N⟩:=i.aO f g e;rw[B,v,tN];exact⟨_,rfl,rfl,rfl,rfl,Sm,fun a c=>zfW i.inv A (z7 f) g e v a c⟩
  rw[kF e];by_cases k:(ze s n).kind=2;·rw[kE k];exact⟨_,rfl,rfl,rfl,rfl,rfl,fun _ _=>rfl⟩
  grind
 obtain⟨d,H,l,w,K,L,M⟩:=r;rw[H]at x y⊢;have h:∀s∈d.sp,Qv s.tb:=Rx l F;have u:∀(q j:Nat)s b,m.sp[q]?=Xa s->(QD d p n en0).sp[q]?=Xa b->¬(q=p/\j=n)->ze b j=ze s j:=fun q j s b e k C=>zb0 h g JO (Rx l e) k C;have t:∀b,(QD d p n en0).sp[p]?=Xa b->ze b n=en0:=fun b e=>(zaA h (Rx l f) g JO e).1;refine⟨⟨x,y,L,fun q j s b e k _ Q=>?_,fun a c _ G=>⟨fun z D=>G z (Ry w D),M _ _⟩⟩,t,w,K,u⟩;grind
end
def zi(m:Ma):List (Nat×Nat)->Ma
 |[]=>m
 |x::l=>zi (zan m x.1 x.2) l
theorem qS:∀(l:List (Nat×Nat)){m:Ma},Rt m->(∀x∈l,x.2<64/\∃s,m.sp[x.1]?=Xa s)->
  JU (fun q j=>(q,j)∈l) m (zi m l)/\(∀x∈l,∀a,(zi m l).sp[x.1]?=Xa a->ze a x.2=en0)/\(zi m l).ca=m.ca/\(zi m l).fl=m.fl/\∀(q j:Nat)s a,m.sp[q]?=Xa s->(zi m l).sp[q]?=Xa a->(q,j)∉l->ze a j=ze s j
 |[],m,p,_=>⟨JU.refl p,fun x H=>(by cases H),rfl,rfl,fun q j s a i d _=>by simp only[zi]at d;rw[i]at d;cases d;rfl⟩
 |x::l,m,p,u=>by
  obtain⟨G,s,k⟩:=u x (Xs ..);obtain⟨n,C,D,E,F⟩:=zik p k G;have b:∀(q:Nat)s,m.sp[q]?=Xa s->∃a,(zan m x.1 x.2).sp[q]?=Xa a:=fun q s k=>⟨_,gE (by rw[n.aW.aI];exact(gS.1 k).1)⟩
  obtain⟨K,L,M,N,v⟩:=qS l n.rt (fun y r=>by
   obtain⟨A,P,B⟩:=u y (Xt _ r);exact⟨A,b y.1 P B⟩)
  refine⟨(n.mono ?_).trans (K.mono fun q j e=>Xt _ e),fun y r a f=>?_,M.trans D,N.trans E,fun q j s a i d t=>?_⟩;·rintro q j⟨rfl,rfl⟩;exact Xs ..
  ·by_cases c:y∈l
   ·exact L y c a f
   rcases mC.1 r with rfl|e;·obtain⟨w,g⟩:=b y.1 s k;rw[v y.1 y.2 w a g f c];exact C w g
   exact absurd e c
  obtain⟨z,h⟩:=b q s i;rw[v q j z a h d (fun e=>t (Xt _ e))];refine F q j s z i h (fun e=>t ?_);have:(q,j)=x:=Prod.ext e.1 e.2;rw[this];exact Xs ..
theorem zq8(p)(idx a:Int):Z8 (Z8 p idx a) idx a=Z8 p idx a:=by unfold Z8;grind
theorem zk3{f:Fl}(idx:m.fl[k]?=Xa f)(hi:p<f.bl.length)(e:qU r g (b:Int)=Z8 L (p:Int) (JC m (k:Int))):
  Qr (ze3 m k p f (b:Int) r g) (k:Int) (p:Int)=Z8 L (p:Int) (JC m (k:Int)):=by
 have d:=(gS.1 idx).1;have h:zg2 (ze3 m k p f (b:Int) r g) (k:Int) (p:Int)=(b:Int):=by
  unfold zg2 ze3;simp only[gD,tN];rw[sF d];simp only[Option.getD_some];rw[sF hi];rfl
 have i:JC (ze3 m k p f (b:Int) r g) (k:Int)=JC m (k:Int):=by
  unfold JC ze3;simp only[gD,tN];rw[sF d,idx];rfl
 unfold Qr;rw[h,i,kF Wm,show qU (ze3 m k p f (b:Int) r g).db (ze3 m k p f (b:Int) r g).dq (b:Int)=qU r g (b:Int)from rfl,e,zq8]
theorem Sam.fill{S b:Nat->Nat->Prop}(h:Sam S m m')(hS:∀(q n:Nat)s a,m.sp[q]?=Xa s->m'.sp[q]?=Xa a->n<64->S q n->¬b q n->Z2 m' (zr s.aC n) (ze a n)=Z2 m (zr s.aC n) (ze s n)):Sam b m m':=by
 refine⟨h.aI,h.sp,fun q n s a c d f g=>?_,h.fll,h.sz,h.bk,h.byt⟩;by_cases e:S q n;·grind
 exact h.see q n s a c d f e
section
variable{m m2:Ma}{k:Nat}{fr:Fr}
theorem zrX(z:Rt m)(C:u≠[])(hd:u.Nodup)(h:∀x∈u,x.2<64/\∃s,m.sp[x.1]?=Xa s/\(zr s.aC x.2).is=Xc/\(zr s.aC x.2).sh=Xd)(f:JU (fun q j=>(q,j)∈u) (zi m u) m2)(B:m2.fs[k]?=Xa fr)(D:fr.r=0)(pg:Pg)(l:Bool):
  Rt (zbJ m2 k pg l u)/\Sam (fun q j=>(q,j)∈u) m (zbJ m2 k pg l u)/\(zbJ m2 k pg l u).fs[k]?=Xa ⟨pg,(u.length:Int),l,Xd,-1,0⟩/\(∀x∈u,∀i,(zbJ m2 k pg l u).sp[x.1]?=Xa i->ze i x.2=⟨1,(k:Int),Xd⟩):=by
 obtain⟨d,y,E,F,G⟩:=qS u z (fun x a=>by obtain⟨c,s,b,_⟩:=h x a;exact⟨c,s,b⟩);have A:∀x∈u,zr2 (zi m u) x:=fun x a=>by
  obtain⟨c,s,b,n,w⟩:=h x a;have:∃t,(zi m u).sp[x.1]?=Xa t:=⟨_,gE (by rw[d.aW.aI];exact(gS.1 b).1)⟩;obtain⟨t,g⟩:=this;have e:=(d.aW.sp x.1 s t b g).2;exact⟨t,g,c,y x a t g,Rx e n,Rx e w⟩
 obtain⟨p,r,v⟩:=zrb f.rt B D pg l C (fun x a=>f.bareOk (A x a)) hd;refine⟨p,((d.trans f).aW.trans r).mono (fun _ _ e=>e.elim id id),?_,v⟩;show(m2.fs.set k _)[k]?=_;grind
theorem zma{a:Ma}{pg:Pg}{w:Bool}(t:Sam (fun q j=>(q,j)∈u) m a)(p:a.fs[k]?=Xa ⟨pg,z,w,Xd,-1,0⟩)(i:∀x∈u,∀b,a.sp[x.1]?=Xa b->ze b x.2=⟨1,(k:Int),Xd⟩)
  (S:Nat->Nat->Prop)(v:∀(q n:Nat)s,m.sp[q]?=Xa s->n<64->(q,n)∈u->¬S q n->(zr s.aC n).is=Xc/\Z2 m (zr s.aC n) (ze s n)=(pgL pg,Xc,0)):Sam S m a:=by refine t.fill fun q n s b f g r c h=>?_;obtain⟨d,e⟩:=v q n s f r c h;rw[i (q,n) c b g,zp2 d p,e];rfl
theorem zq4{n:Nat}{file idx:Nat}(G:Rt m)(a:m.sp[p]?=Xa s)(c:n<64)(N:(zr s.aC n).is=Xc)(w:(zr s.aC n).file=(file:Int))(x:(zr s.aC n).page=(idx:Int))(S:file<m.fl.length)(hi:(idx:Int)<bkN m (file:Int))(M:Unc m (file:Int) (idx:Int))
  (A:JU (fun q j=>q=p/\j=n) (zan m p n) m2)(B:m2.fs[k]?=Xa fr)(L:fr.r=0){pg:Pg}(hp:pgL pg=zU m (file:Int) (idx:Int))(u d:Bool):
  Rt (Zs (Zz m2 k pg u d file idx) k p n)/\Sam (fun q j=>q=p/\j=n) m (Zs (Zz m2 k pg u d file idx) k p n)/\(Zs (Zz m2 k pg u d file idx) k p n).fs[k]?=Xa ⟨pg,2,u,d,file,idx⟩/\∀y,(Zs (Zz m2 k pg u d file idx) k p n).sp[p]?=Xa y->ze y n=⟨1,(k:Int),Xd⟩:=by
 obtain⟨z,C,P,Q,R⟩:=zik G a c;have g:=z.trans A;have:∃t,m2.sp[p]?=Xa t:=⟨_,gE (by rw[g.aW.aI];exact(gS.1 a).1)⟩;obtain⟨t,e⟩:=this;have:∃f,(zan m p n).sp[p]?=Xa f:=⟨_,gE (by rw[z.aW.aI];exact(gS.1 a).1)⟩;obtain⟨f,b⟩:=this;have H:ze t n=en0:=A.bare p n f t b e c (C f b);have h:=(g.aW.sp p s t a e).2;obtain⟨u1,u2⟩:=g.unc file idx hi M;have l:=(gS.1 B).1;have i:(Zz m2 k pg u d file idx).fs[k]?=Xa ⟨pg,1,u,d,file,idx⟩:=by
  show(m2.fs.set k _)[k]?=_;grind
 obtain⟨E,F⟩:=zpG g.rt B L (u:=u) (d:=d) (file:=(file:Int)) (idx:=(idx:Int)) ⟨Wm,by rw[g.aW.fll];omega⟩ ⟨Wm,by rw[g.aW.bk];exact hi⟩ u1 (Rx u2 hp) e c H (Rx h N) (Rx h w) (Rx h x);have K:=zc6 g.rt.inv l Xd;refine⟨E,(g.aW.trans F).mono (fun _ _ D=>D.elim id id),by rw[zgB i];rfl,fun y v=>?_⟩;exact(zaA (m1:={Zz m2 k pg u d file idx with fs:=(Zz m2 k pg u d file idx).fs.set k {z1 (Zz m2 k pg u d file idx) (k:Int)with r:=(z1 (Zz m2 k pg u d file idx) (k:Int)).r+1}}) (fun s a=>g.rt.tb a) e c K v).1
end
section
variable{m:Ma}{k p n:Nat}{fr:Fr}{s:Sp}
theorem zrT(h:Rt m){x:On}{w:Bool}(b:QJ m x ⟨1,(k:Int),w⟩)(c:m.fs[k]?=Xa fr)(f:x.wr=Xc)(e:(fr.f=-1/\fr.r<=1)\/x.sh=Xc):QJ m x ⟨1,(k:Int),Xc⟩:=by have a:=(gS.1 c).1;refine⟨zc6 h.inv a Xc,Sm,?_⟩;have d:=b.2.2;grind[zah,zL]
def Jv(m:Ma)(p n k:Nat)(fr:Fr)(write sh:Bool):Ma:=
 if write=Xc then QD {m with fs:=m.fs.set k {fr with u:=true,d:=fr.d||sh}} p n ⟨1,(k:Int),Xc⟩
 else{m with fs:=m.fs.set k {fr with u:=true,d:=fr.d}}
theorem zqJ(t:Rt m)(g:m.sp[p]?=Xa s)(v:n<64)(x:m.fs[k]?=Xa fr){w:Bool}(b:ze s n=⟨1,(k:Int),w⟩)(a:Bool)(D:a=Xc->(zr s.aC n).wr=Xc/\((fr.f=-1/\fr.r<=1)\/(zr s.aC n).sh=Xc)):
  Rt (Jv m p n k fr a (zr s.aC n).sh)/\Sam (fun _ _=>False) m (Jv m p n k fr a (zr s.aC n).sh)/\(∃u d,(Jv m p n k fr a (zr s.aC n).sh).fs[k]?=Xa {fr with u:=u,d:=d})/\∀r,(Jv m p n k fr a (zr s.aC n).sh).sp[p]?=Xa r->ze r n=⟨1,(k:Int),w||a⟩:=by
 have l:=(gS.1 x).1;have z:fr.r≠0:=by
  obtain⟨M,C,G,H,K,L⟩:=t.aO g v (by rw[b]);grind
 unfold Jv;cases a with
 |false=>
  rw[kF Dc];obtain⟨q,y⟩:=zgw t x z Xc fr.d;refine⟨q,y,⟨Xc,fr.d,by simp only;rw[sF l]⟩,fun r h=>?_⟩;have:m.sp[p]?=Xa r:=h;rw[g]at this;cases this;rw[b,Bool.or_false]
 |true=>
  rw[kE rfl];obtain⟨q,y⟩:=zgw t x z Xc (fr.d||(zr s.aC n).sh);obtain⟨E,F⟩:=D rfl;have j:({m with fs:=m.fs.set k {fr with u:=true,d:=fr.d||(zr s.aC n).sh}}:Ma).fs[k]?=Xa {fr with u:=true,d:=fr.d||(zr s.aC n).sh}:=by
   simp only;rw[sF l]
  have f:QJ {m with fs:=m.fs.set k {fr with u:=true,d:=fr.d||(zr s.aC n).sh}} (zr s.aC n) (ze s n):=by
   rcases q.aM (p:=p) (s:=s) g v with i|i;·rw[b]at i;cases i
   exact i
  rw[b]at f;have c:=zrT q f j E F;obtain⟨A,B⟩:=zp1 q (p:=p) (s:=s) g v (e:=⟨1,(k:Int),Xc⟩) (by rw[b]) (by rw[b]) c;refine⟨A,(y.trans B).mono (fun _ _ i=>i.elim id id),⟨Xc,fr.d||(zr s.aC n).sh,j⟩,fun r h=>?_⟩;rw[(zaA (m1:={m with fs:=m.fs.set k {fr with u:=true,d:=fr.d||(zr s.aC n).sh}}) (fun s g=>t.tb g) g v c.1 h).1,Bool.or_true]
theorem zqC(h:Rt m)(b:m.sp[p]?=Xa s)(g:n<64)(c:m.fs[k]?=Xa fr){w:Bool}(a:ze s n=⟨1,(k:Int),w⟩)(pg:Pg):Rt {m with fs:=m.fs.set k {fr with p:=pg}}/\ZY {m with fs:=m.fs.set k {fr with p:=pg}} (p:Int) (n:Int)=(pgL pg,decide (fr.f<0),0):=by
 have f:=(gS.1 c).1;obtain⟨t,q,i,j,v,l⟩:=h.aO b g (by rw[a]);rw[a]at i;have:k=t:=Int.ofNat.inj i;subst this;rw[c]at j;cases j;refine⟨Rt.of (h.inv.marks (p:=pg) (u:=fr.u) (d:=fr.d) c l) (fun s b=>h.tb b) h.aB.1 (Si h.aB.2),?_⟩;have r:(zr s.aC n).is=Xc:=by
  rcases h.aM b g with e|e;·rw[a]at e;cases e
  have x:=e.2.2;grind[zah,zr]
 rw[zdt (m:={m with fs:=m.fs.set k {fr with p:=pg}}) b g,a,zp2 r (fr:={fr with p:=pg}) (by simp only;rw[sF f])]
end
def zoF(s:Sp)(kind k:Int):List Nat:=(Yw 64).filter fun n=>enS (ze s n)&&zmp kind k (ze s n)
def jM(m:Ma)(kind k:Int)(q:Nat):List (Nat×Nat):=(Yw q).flatMap fun p=>(zoF (m.sp.getD p ⟨Xd,[],[]⟩) kind k).map fun n=>(p,n)
theorem zlI(m)(kind k:Int):jM m kind k 0=[]:=rfl
theorem zcM(m:Ma)(kind k:Int)(q:Nat):jM m kind k (q+1)=jM m kind k q++(zoF (m.sp.getD q ⟨Xd,[],[]⟩) kind k).map fun n=>(q,n):=by unfold jM;rw[List.range_succ,List.flatMap_append];simp
theorem zkE{n:Int}(a:z≠0):k∈zoF s z n↔k<64/\isE (ze s k) z n=Xc:=by unfold zoF;rw[Yb,Xy];refine and_congr_right fun _=>?_;unfold enS zmp isE;grind
theorem zaK{kind k:Int}(d:kind≠0)(a:p<=m.sp.length){x:Nat×Nat}:x∈jM m kind k p↔x.1<p/\x.2<64/\∃s,m.sp[x.1]?=Xa s/\isE (ze s x.2) kind k=Xc:=by
 unfold jM;rw[Yu];constructor
 ·rintro⟨q,b,c⟩;obtain⟨n,a,rfl⟩:=Xx.1 c;have f:=Xy.1 b;have e:=gE (show q<m.sp.length by omega);rw[gD,e,Option.getD_some,zkE d]at a;exact⟨f,a.1,_,e,a.2⟩
 rintro⟨b,c,s,a,e⟩;refine⟨x.1,Xy.2 b,Xx.2 ⟨x.2,?_,rfl⟩⟩;rw[gD,a,Option.getD_some,zkE d];exact⟨c,e⟩
theorem zlQ(s:Sp)(kind k:Int):(zoF s kind k).Nodup:=List.Nodup.sublist List.filter_sublist List.nodup_range
theorem zeu(m:Ma)(kind k:Int):∀q,(jM m kind k q).Nodup
 |0=>List.nodup_nil
 |q+1=>by
  rw[zcM,Oh];refine⟨zeu m kind k q,?_,?_⟩
  ·exact List.Pairwise.map _ (fun a b c e=>c (Prod.mk.inj e).2) (zlQ _ kind k)
  intro a d b hb e;subst e;obtain⟨n,_,rfl⟩:=Xx.1 hb;unfold jM at d;obtain⟨p,f,g⟩:=Yu.1 d;obtain⟨i,_,h⟩:=Xx.1 g;have:=Xy.1 f;have:=(Prod.mk.inj h).1;omega
def Z9(m:Ma)(e:En):List (Nat×Nat)->Ma
 |[]=>m
 |x::l=>Z9 (QD m x.1 x.2 e) e l
theorem zhz(f:enW Z=0):∀(l:List (Nat×Nat)){m:Ma},(∀s∈m.sp,Qv s.tb)->(∀x∈l,x.2<64)->(Z9 m Z l).sp.length=m.sp.length/\(∀s∈(Z9 m Z l).sp,Qv s.tb)/\∀(q:Nat)s b,m.sp[q]?=Xa s->(Z9 m Z l).sp[q]?=Xa b->b.aD=s.aD/\b.aC=s.aC/\∀j,ze b j=if(q,j)∈l then Z else ze s j
 |[],m,ht,_=>⟨rfl,ht,fun q s b c d=>by
   simp only[Z9]at d;rw[c]at d;cases d;exact⟨rfl,rfl,fun j=>Sm⟩⟩
 |x::l,m,ht,a=>by
  have g:=a x (Xs ..);obtain⟨i,k,n⟩:=zhz f l (m:=QD m x.1 x.2 Z) (za0 ht f) (fun y h=>a y (Xt _ h))
  refine⟨i.trans JZ,k,fun q s b c d=>?_⟩;have:∃t,(QD m x.1 x.2 Z).sp[q]?=Xa t:=⟨_,gE (by rw[JZ];exact(gS.1 c).1)⟩;obtain⟨t,a⟩:=this;obtain⟨h,i,k⟩:=n q t b a d;obtain⟨b,d⟩:=zd5 c a;refine⟨h.trans b,i.trans d,fun j=>?_⟩;rw[k j];by_cases b:(q,j)∈l;·rw[kE b,kE (Xt _ b)]
  rw[kF b];by_cases d:q=x.1/\j=x.2;·obtain⟨rfl,rfl⟩:=d;rw[kE (Xs ..)];exact(zaA ht c g f a).1
  rw[zb0 ht g f c a d,kF];intro a;rcases mC.1 a with a|a;·rw[<-a]at d;exact d ⟨rfl,rfl⟩
  exact b a
theorem zd6(e):∀(l:List (Nat×Nat))(m:Ma),Z9 m e l={m with sp:=(Z9 m e l).sp}
 |[],_=>rfl
 |x::l,m=>by
  show Z9 (QD m x.1 x.2 e) e l=_
  rw[zd6 e l (QD m x.1 x.2 e)];rfl
theorem zr8(h:Qv s.tb):s.tb=ZV (ze s):=by have:=zkI (m:=⟨[],0,[],[],[],[],[],[],0,[],[s]⟩) (fun t a=>by grind);have a:=congrArg (fun b:Ma=>b.sp) this;simp only[ZT,Zb,mP,Yn,List.zipWith_cons_cons,List.zipWith_nil_left,List.cons.injEq,and_true]at a;exact(congrArg Sp.tb a).symm
theorem zph(h:Rt m)(f:enW Z=0):(Z9 m Z (jM m 1 (k:Int) m.sp.length)).sp=m.sp.map (Qa (k:Int) Z):=by
 have g:∀s∈m.sp,Qv s.tb:=fun s c=>h.tb c;have a:=fun b=>zaK (m:=m) (kind:=1) (k:=(k:Int)) Dc (nR m.sp.length) (x:=b);obtain⟨d,h,i⟩:=zhz f (jM m 1 (k:Int) m.sp.length) g (fun b f=>((a b).1 f).2.1);apply Xw;intro q;by_cases b:q<m.sp.length
 ·have c:=gE b;have a:=gE (show q<(Z9 m Z (jM m 1 (k:Int) m.sp.length)).sp.length by rw[d];exact b);obtain⟨f,g,j⟩:=i q _ _ c a;rw[a,Ya,c,Option.map_some];congr 1;have c:ze ((Z9 m Z (jM m 1 (k:Int) m.sp.length)).sp[q]'(Rx d b))=fun j=>if j<64 then JH (k:Int) Z (ze m.sp[q]) j else ze m.sp[q] j:=by grind[JH,isE,ze]
  have c:=zr8 (h _ (mG a));have a:ZV (ze ((Z9 m Z (jM m 1 (k:Int) m.sp.length)).sp[q]'(Rx d b)))=ZV (JH (k:Int) Z (ze m.sp[q])):=by grind[ZV,ZK,Of,Xy.1]
  rw[a]at c;unfold Qa;generalize(Z9 m Z (jM m 1 (k:Int) m.sp.length)).sp[q]'(Rx d b)=s' at f g c;cases s';grind
 grind
theorem zc4(h:Rt m){k:Int}:∀x∈jM m 2 k m.sp.length,x.2<64/\∃s,m.sp[x.1]?=Xa s/\(zr s.aC x.2).is=Xc/\(zr s.aC x.2).sh=Xd/\Z2 m (zr s.aC x.2) (ze s x.2)=(qU m.sb m.sq k,Xc,0):=fun x d=>by
 obtain⟨_,b,s,c,a⟩:=(zaK Dc (nR _)).1 d;simp only[isE,Xz,decide_eq_true_eq]at a;obtain⟨p,z,e,f,g,i,j,l,n⟩:=h.bV c b a.1;grind[Z2]
theorem zc5{P:α->Bool}:∀{l:List α}{i:Nat},i<l.length->(∀(j:Nat)d,l[j]?=Xa d->(P d=Xc↔j=i))->l.eraseIdx i=l.filter fun d=>!P d
 |[],i,hi,_=>absurd hi Sm
 |a::l,0,_,h=>by
  have b:=(h 0 a rfl).2 rfl;rw[List.eraseIdx_cons_zero,Yo,kF (by rw[b];decide)]
  refine(Oe.2 fun d c=>?_).symm;obtain⟨j,e⟩:=Xv c;have:=h (j+1) d (Rx Xu e);cases e:P d with
  |false=>rfl
  |true=>exact absurd (this.1 e) Wm
 |a::l,i+1,hi,h=>by
  have b:P a=Xd:=by
   cases e:P a with
   |false=>rfl
   |true=>exact absurd ((h 0 a rfl).1 e) Wm
  rw[List.eraseIdx_cons_succ,Yo,kE (Rr b),zc5 (P:=P) (l:=l) (i:=i) (Si hi) fun j d c=>?_];have:=h (j+1) d (Rx Xu c);rw[this];omega
theorem zcy(P:α->Bool):∀l:List α,l.take (l.takeWhile P).length=l.takeWhile P/\l.drop (l.takeWhile P).length=l.dropWhile P
 |[]=>Sm
 |a::l=>by
  obtain⟨c,d⟩:=zcy P l
  cases b:P a with
  |true=>simp[b,c,d]
  |false=>simp[b]
def zdh(ca:List Ca)(c:Ca):Nat:=(ca.takeWhile fun d=>decide (zZ d<zZ c)).length
theorem zrN(ca:List Ca)(c:Ca):ca.take (zdh ca c)++c::ca.drop (zdh ca c)=Z7 ca c:=by unfold zdh Z7;rw[(zcy _ ca).1,(zcy _ ca).2]
section
variable{m:Ma}{k:Nat}{fr:Fr}
theorem zjT(h:Rt m)(i:m.fs[k]?=Xa fr){c:Ca}(e:m.ca[b]?=Xa c)(a:c.fr=(k:Int)):m.ca.eraseIdx b=m.ca.filter fun d=>!decide (d.fr=(k:Int)):=by
 obtain⟨i,a,a⟩:=zo.1 h.inv.ca;have a:∀d∈m.ca,d.fr=(k:Int)->d.file=fr.f/\d.idx=fr.x:=fun d a f=>by
  obtain⟨f,f,f,f⟩:=Zl (i d a);grind[zL]
 refine zc5 (P:=fun d:Ca=>decide (d.fr=(k:Int))) (gS.1 e).1 fun j d a=>?_;grind[mG,zZ,gS.1,Nat.lt_trichotomy,List.pairwise_iff_getElem.1]
theorem zeU(h:Rt m)(e:m.fs[k]?=Xa fr)(d:0<=fr.f):∃(i:Nat)(c:Ca),m.ca[i]?=Xa c/\c.fr=(k:Int)/\c.file=fr.f/\c.idx=fr.x:=by obtain⟨c,a,b⟩:=zcU ((h.inv.cf k fr e).2 d);obtain⟨i,b⟩:=Xv a;obtain⟨b,b,b,b⟩:=Zl ((zo.1 h.inv.ca).1 c a);grind[zL]
theorem zjS(h:Rt m){c:Ca}(e:c∈m.ca):∃(k:Nat)(fr:Fr),c.fr=(k:Int)/\m.fs[k]?=Xa fr/\fr.r≠0/\fr.f=c.file/\fr.x=c.idx/\zU m c.file c.idx=pgL fr.p:=by obtain⟨a,a,b,d⟩:=Zl ((zo.1 h.inv.ca).1 c e);have f:c.fr.toNat<m.fs.length:=Wm;have g:=gE f;have f:=zL g;rw[show((c.fr.toNat:Nat):Int)=c.fr by omega]at f;rw[f]at a b d;refine⟨c.fr.toNat,_,Wm,g,a,b,d,?_⟩;unfold zU;rw[Q9 h.inv.ca e];grind
end
theorem zfx:∀(l:List Int)(lo b:Int),l.Pairwise (·<·)->(∀x∈l,lo<=x/\x<b)->(l.length:Int)<=max (b-lo) 0
 |[],lo,b,_,_=>by simp only[Yk];omega
 |a::l,lo,b,hp,hb=>by
  obtain⟨c,d⟩:=List.pairwise_cons.1 hp;obtain⟨e,e⟩:=hb a (Xs ..);have:=zfx l (a+1) b d fun x b=>⟨Hm (c x b),(hb x (Xt _ b)).2⟩
  simp only[Yj];omega
def Zn(fs:List Fr):Nat:=fs.countP fun f=>decide (f.r=0)
section
variable{m:Ma}
theorem zmi(S:Nat->Nat->Prop)(t:Rt m){f:Fl}(v:m.fl[k]?=Xa f)(a:stW (m.fl.set k ⟨f.size,f.bl.set p (b:Int)⟩) m.cnt=0)
  (s:∀x,z4 (m.fl.set k ⟨f.size,f.bl.set p (b:Int)⟩) x=Xc↔(z4 m.fl x=Xc/\x≠-1)\/x=(b:Int)\/(x=-1/\z4 (m.fl.set k ⟨f.size,f.bl.set p (b:Int)⟩) x=Xc))
  (n:r.length=m.db.length)(h:zS r.length g=0)(e:∀i:Nat,r[i]?=m.db[i]?\/∃q∈m.dq,q.1=(i:Int))(w:∀q∈g,q.1=(b:Int)\/∃y∈m.dq,y.1=q.1)(d:∀i:Int,i≠(b:Int)->qU r g i=qU m.db m.dq i)
  (l:f.bl[p]?=Xa (b:Int)\/(z4 m.fl (b:Int)=Xd))(u:∃c∈m.ca,c.file=(k:Int)/\c.idx=(p:Int))(file:∀(i j:Nat)idx,m.fl[i]?=Xa idx->idx.bl[j]?=Xa (b:Int)->i=k/\j=p):
  JU S m (ze3 m k p f (b:Int) r g):=by obtain⟨⟨r,g⟩,y⟩:=zoj t v a s n h e w d l u file;refine⟨r,g.mono (fun _ _ e=>e.elim),rfl,fun q n s h r r _ g=>?_,fun k p g e=>⟨e,y k p g⟩⟩;have:m.sp[q]?=Xa h:=r;grind
def zj1(k:Nat)(fr:Fr)(l:List (Nat×Nat))(q:Nat)(s:Sp)(a:Ar)(n:Nat):Prop:=(qq a n).file=fr.f/\(qq a n).page=fr.x/\(q,n)∉l/\((ze s n).kind=0\/isE (ze s n) 1 (k:Int)=Xc)
theorem zry(h:∀(q:Nat)s(i:Nat)a(n:Nat),m.sp[q]?=Xa s->s.aC[i]?=Xa a->Qb a n=Xc->n<64->¬zj1 k Y u q s a n)(q n:Nat)(s:Sp)(g:m.sp[q]?=Xa s)(f:n<64)(b:(zr s.aC n).is=Xc)(c:(zr s.aC n).file=Y.f)(hp:(zr s.aC n).page=Y.x)(e:(ze s n).kind=0\/isE (ze s n) 1 (k:Int)=Xc):(q,n)∈u:=by
 obtain⟨i,a,c,d,j⟩:=QZ b;refine Classical.byContradiction fun b=>h q s i a n g c d f ⟨?_,?_,b,e⟩;·grind
 grind
theorem zgr(h:Rt m){fr:Fr}(c:m.fs[k]?=Xa fr)(b:0<=fr.f)(d:fr.r≠0)(hd:Qr m fr.f fr.x=Z8 (pgL fr.p) fr.x (JC m fr.f))
  (hS:Z8 (pgL fr.p) fr.x (JC m fr.f)=pgL fr.p\/∀(q:Nat)s(i:Nat)a(n:Nat),m.sp[q]?=Xa s->s.aC[i]?=Xa a->Qb a n=Xc->n<64->¬zj1 k fr u q s a n):JU (fun q j=>(q,j)∈u) m (qL m k):=
 znQ h _ c b d hd (hS.imp id fun b q n s c d e f g h=>zry b q n s c d e f g h)
theorem zhc{f:Fl}{idx:Nat}(e:JU (fun q j=>(q,j)∈u) m (ze3 m k p f (b:Int) r g))(file:m.fl[k]?=Xa f)(hi:p<f.bl.length)(t:m.fs[idx]?=Xa Y)(l:Y.f=(k:Int))(h:Y.x=(p:Int))(d:Y.r≠0)
  (fr:qU r g (b:Int)=Z8 (pgL Y.p) (p:Int) (JC m (k:Int)))
  (hS:Z8 (pgL Y.p) Y.x (JC m Y.f)=pgL Y.p\/∀(q:Nat)s(i:Nat)a(n:Nat),m.sp[q]?=Xa s->s.aC[i]?=Xa a->Qb a n=Xc->n<64->¬zj1 idx Y u q s a n):JU (fun q j=>(q,j)∈u) m (qL (ze3 m k p f (b:Int) r g) idx):=by
 refine e.trans (zgr e.rt (fr:=Y) t Wm d ?_ ?_);·rw[l,h,zk3 file hi fr,<-e.aW.sz]
 rw[e.aW.sz];exact hS
end
def zf7(m:Ma):Nat:=m.fs.countP fun f=>f.r==0
def zf6(m:Ma):Nat:=m.sl.countP fun z=>z==0
theorem Rt.parts(h:Rt m):ZR m.fs m.aB=0/\slW m.sl=0:=by have b:=h.w;unfold maW at b;rw[zk]at b;have a:zak m=0:=b _ Sm;unfold zak at a;rw[zk]at a;exact⟨a _ Sm,a _ Sm⟩
theorem Rt.refs(h:Rt m)(a:m.fs[k]?=Xa Y):0<=Y.r/\Y.r<=300:=by have b:=(h.inv.cf k Y a).1;have c:=zaI (Zb m) 1 k;have d:=zf0 h.inv.ca (k:Int);have e:=h.inv.tl;have g:=h.inv.aI;omega
theorem Rt.slots(h:Rt m)(a:m.sl[k]?=Xa z):0<=z/\z<=300:=by have b:=h.inv.cs k z a;have c:=zaI (Zb m) 2 k;have d:=h.inv.tl;have e:=h.inv.aI;omega
theorem zjm:Qv qG:=⟨rfl,fun h a=>by
 have:=List.eq_of_mem_replicate (show h∈Xr 8 []from a)
 subst this;exact .inl rfl⟩
theorem JL(l:List Ar)(b:Bool):ze ⟨b,l,qG⟩=fun _=>en0:=by
 funext n;unfold ze zbg;simp only;have:(qG[n/8]?.getD [])=[]:=by
  unfold qG;rw[List.getElem?_replicate];split<;>rfl
 rw[this];rfl
theorem qT.rebirth(h:qT m T)(x:T[k]?=Xa d)(y:∀n,n<64->d n=en0)(z:(wrL l).1=0):qT {m with sp:=m.sp.set k ⟨Xc,l,qG⟩} T:=by
 have b:∀(p:Nat)a,(m.sp.set k ⟨Xc,l,qG⟩)[p]?=Xa a->(p=k/\a=⟨Xc,l,qG⟩)\/(p≠k/\m.sp[p]?=Xa a):=fun p a w=>by grind
 refine⟨h.aN,h.bE,h.aT,h.bF,h.sq,h.bM,h.st,h.cnt,h.bI,h.aZ,by show(m.sp.set k _).length<=4;rw[Ym];exact h.aI,fun a c=>?_,by show T.length=(m.sp.set k _).length;rw[Ym];exact h.tl,?_,fun p a q c e n s=>?_,h.cf,h.cs⟩
 ·obtain⟨p,t⟩:=Xv c
  rcases b p a t with⟨_,rfl⟩|⟨_,f⟩;·grind
  exact h.aP a (mG f)
 ·obtain⟨i,v,j⟩:=zo.1 h.ca;exact zo.2 ⟨fun g r=>i g r,fun A g u=>(by cases u),j⟩
 rcases b p a c with⟨rfl,rfl⟩|⟨_,f⟩;·grind
 exact h.aM p a q f e n s
theorem Rt.dead(h:Rt m)(a:m.sp[k]?=Xa s)(hd:s.aD=Xd):∀n,n<64->ze s n=en0:=fun n c=>by
 rcases h.aM a c with e|e;·exact e
 have b:=(h.inv.aP s (mG a)).2 hd;rw[b]at e;have d:=e.2.2;have f:(zr ([]:List Ar) n).is=Xd:=by first|rfl|simp[zr]
 grind[zah]
theorem zgZ(h:Rt m)(z:m.sp[p]?=Xa s)(r:Vac m.sp k)(C:k<4):Rt (Z5 m k s):=by
 have v:=(h.inv.aP s (mG z)).1;have A:∀x∈(Z5 m k s).sp,Qv x.tb:=fun x B=>by
  obtain⟨t,b⟩:=Xv B;have b:(zbd m.sp k ⟨Xc,s.aC,qG⟩)[t]?=Xa x:=b;rw[QV r.1]at b;split at b;·cases b;exact zjm
  exact h.tb (mG b)
 refine Rt.of ?_ A h.aB.1 h.aB.2;by_cases f:k=m.sp.length
 ·have g:(Z5 m k s).sp=m.sp++[⟨Xc,s.aC,qG⟩]:=by unfold Z5 zbd;rw[kE f]
  have i:Zb (Z5 m k s)=Zb m++[fun _=>en0]:=by unfold Zb;rw[g,List.map_append,mP,Yn,JL]
  rw[i];have:=h.inv.space v Wm;have j:Z5 m k s={m with sp:=m.sp++[⟨Xc,s.aC,qG⟩]}:=by unfold Z5 zbd;rw[kE f]
  rw[j];exact this
 have g:(Z5 m k s).sp=m.sp.set k ⟨Xc,s.aC,qG⟩:=by unfold Z5 zbd;rw[kF f]
 have e:k<m.sp.length:=Hm r.1;obtain⟨d,c⟩:∃d,m.sp[k]?=Xa d:=⟨_,gE e⟩;have a:=h.dead c (r.2.1 d c);have l:=(h.tb (mG c)).1;have q:ze d=fun _=>en0:=by
  funext n;by_cases y:n<64;·exact a n y
  have w:d.tb[n/8]?=Xb:=gN (by rw[l];omega);unfold ze zbg;rw[w];rfl
 have i:Zb (Z5 m k s)=Zb m:=by
  unfold Zb;rw[g];apply Xw;intro t;rw[Ya,Ya,Yi];by_cases u:k=t;·subst u;rw[kE rfl,kE e,c];simp only[Option.map_some,JL,q]
  rw[kF u]
 rw[i];have j:Z5 m k s={m with sp:=m.sp.set k ⟨Xc,s.aC,qG⟩}:=by unfold Z5 zbd;rw[kF f]
 rw[j];exact h.inv.rebirth (z7 c) a v
theorem Qq(a:k<64):zfi s.tb (k:Int)=ze s k:=by unfold zfi ze;rw[kE Wm,tN]
theorem zqz(h:Qv G)(b:k<64)(a:enW Z=0):zkg G (k:Int) Z=zi9 G k Z:=by have a:=ZZ.2 h.2;grind[zmo,zkg,tN]
theorem Ja(ht:∀s∈m.sp,Qv s.tb){n:Nat}(hp:p<m.sp.length)(c:n<64)(b:enW Z=0):jN m p (n:Int) Z=QD m p n Z:=by obtain⟨s,a⟩:∃s,m.sp[p]?=Xa s:=⟨_,gE hp⟩;unfold jN QD;rw[Sp.aJ a,zqz (ht s (mG a)) c b];congr 1;apply Xw;grind
theorem znW(h:enW Z=0)(a:Z.kind≠0):enW ⟨Z.kind,Z.n,Xd⟩=0:=by grind[jE,enW]
theorem zis(p:α->Bool){x l:α}(c:y[k]?=Xa x)(a:p x=Xd)(b:p l=Xd):(y.set k l).countP p=y.countP p:=by grind
structure Shd(m m':Ma)(k q n:Nat)(sk sq sk' sq':Sp):Prop where
 rt:Rt m'
 f:zf7 m'=zf7 m
 s:zf6 m'=zf6 m
 pk:m'.sp[k]?=Xa sk'
 pq:m'.sp[q]?=Xa sq'
 ak:sk'.aC=sk.aC
 aq:sq'.aC=sq.aC
 fk:∀j,j≠n->ze sk' j=ze sk j
 fq:∀j,j≠n->ze sq' j=ze sq j
 len:m'.sp.length=m.sp.length
 oth:∀r,r≠k->r≠q->m'.sp[r]?=m.sp[r]?
 lv:sk'.aD=sk.aD/\sq'.aD=sq.aD
 kq:(ze sq' n).kind=(ze sq n).kind/\(ze sq' n).n=(ze sq n).n
 kk:(ze sk' n).kind=(ze sq n).kind/\(ze sk' n).n=(ze sq n).n
 see:∀x e,(e.kind=1->0<=e.n)->Z2 m' x e=Z2 m x e
 con:∀file idx,zU m' file idx=zU m file idx
 rest:m'.fs.length=m.fs.length/\m'.sl.length=m.sl.length/\m'.fl=m.fl/\m'.ca=m.ca
theorem zkf(h:Rt m){n:Nat}{w:Sp}(a6:m.sp[k]?=Xa s)(B:m.sp[p]?=Xa w)(U:p≠k)(aq:s.aC=w.aC)(q:n<64)(aa:ze s n=en0)(Y:ze w n≠en0):∃c sq',Shd m (JE m k p (n:Int)) k p n s w c sq':=by
 have Z:∀I∈m.sp,Qv I.tb:=fun I al=>h.tb al;have aj:=(gS.1 a6).1;have ak:=(gS.1 B).1;have j:=(h.aM B q).resolve_left Y;obtain⟨a,x⟩:=kB (ze w n);rw[x]at j Y;have l:enW ⟨a.kind,a.n,Xd⟩=0:=znW j.1 j.2.1;have ab:Z6 m p (n:Int)=a:=by unfold Z6;rw[Sp.aJ B,Qq q,x]
 have a2:Rt (QD m p n ⟨a.kind,a.n,Xd⟩):=zbm B Z q l (by
  have:=h.inv.guard (z7 B) q (Rx x Y)
  rw[x]at this;exact this) h.aB
 have g:(QD m p n ⟨a.kind,a.n,Xd⟩).sp[k]?=Xa s:=by rw[zaB,a6];simp[U]
 obtain⟨sq',f⟩:∃sq',sq'={w with tb:=zi9 w.tb n ⟨a.kind,a.n,Xd⟩}:=⟨_,rfl⟩;have P:(QD m p n ⟨a.kind,a.n,Xd⟩).sp[p]?=Xa sq':=by rw[zaB,B,f];simp
 have V:ze sq'=jG (ze w) n ⟨a.kind,a.n,Xd⟩:=by rw[f];exact za1 (Z w (mG B)) q l
 have a7:sq'.aC=w.aC:=by rw[f]
 have F:ze sq' n=⟨a.kind,a.n,Xd⟩:=by rw[V];simp[jG]
 have N:QJ (QD m p n ⟨a.kind,a.n,Xd⟩) (zr s.aC n) ⟨a.kind,a.n,Xd⟩:=by
  rcases a2.aM P q with K|K;·rw[F]at K;exact absurd (congrArg En.kind K) j.2.1
  grind
 have X:∀I∈(QD m p n ⟨a.kind,a.n,Xd⟩).sp,Qv I.tb:=za0 Z l;obtain⟨c,u⟩:∃c,c={s with tb:=zi9 s.tb n ⟨a.kind,a.n,Xd⟩}:=⟨_,rfl⟩;have T:ze c=jG (ze s) n ⟨a.kind,a.n,Xd⟩:=by rw[u];exact za1 (Z s (mG a6)) q l
 have L:∀M:Ma,M.sp=m.sp->Z4 m ⟨a.kind,a.n,Xd⟩ 1=M->zf7 M=zf7 m->zf6 M=zf6 m->(∀H a,(a.kind=1->0<=a.n)->Z2 M H a=Z2 m H a)->(∀b d,zU M b d=zU m b d)->(M.fs.length=m.fs.length/\M.sl.length=m.sl.length/\M.fl=m.fl/\M.ca=m.ca)->Rt (QD (QD M p n ⟨a.kind,a.n,Xd⟩) k n ⟨a.kind,a.n,Xd⟩)->∃c sq',Shd m (JE m k p (n:Int)) k p n s w c sq':=fun M ah ar ac ad W Q G ai=>by
  have K:JE m k p (n:Int)=QD (QD M p n ⟨a.kind,a.n,Xd⟩) k n ⟨a.kind,a.n,Xd⟩:=by grind[JE,jN,Z4,Qv,Ja,za0,JZ]
  rw[K];refine⟨c,sq',ai,ac,ad,?_,?_,by rw[u],a7,fun am a5=>by rw[T];simp[jG,a5],fun am a5=>by rw[V];simp[jG,a5],by rw[JZ,JZ,ah],fun r Y ap=>?_,⟨by rw[u],by rw[f]⟩,by rw[F,x];exact⟨rfl,rfl⟩,by rw[T,x];simp[jG],fun H a0 h=>W H a0 h,fun b d=>Q b d,G⟩;·grind[zaB]
  ·grind[zaB]
  grind[zaB]
 by_cases R:a.kind=1
 ·obtain⟨i,A,C,t,a1,a8⟩:=h.aO B q (Rx x R)
  rw[x]at C a1;obtain⟨an,ao⟩:=h.refs t;have a4:=(gS.1 t).1;have D:m.fs.getD i fr0=A:=by rw[gD,t];rfl
  have E:Z4 m ⟨a.kind,a.n,Xd⟩ 1={m with fs:=m.fs.set i {A with r:=A.r+1}}:=by
   have ae:Zm m.fs m.aB a.n 1=0:=by
    unfold Zm;rw[kE h.parts.1,C,tN,D];grind[inB]
   grind[Z4,Jz,zlF,tN,frH]
  refine L {m with fs:=m.fs.set i {A with r:=A.r+1}} rfl E (by
   unfold zf7;refine zis (fun ag:Fr=>ag.r==0) t (Si a8) ?_;have:¬A.r+1=0:=Wm
   simpa using this) rfl (fun H a0 a9=>zgk h.inv t a9) (fun b d=>Qj a4 h.inv.ca (fun _=>by rw[zL t]) b d) ⟨by show(m.fs.set i _).length=_;rw[Ym],rfl,rfl,rfl⟩ ?_
  have a3:=a2.inv.share (p:=p) (q:=k) (n:=n) (k:=i) (fr:=A) (e:=⟨a.kind,a.n,Xd⟩) t (z7 P) F (z7 g) U q aa g N R C (fun h=>by cases h);exact zbm (m:={QD m p n ⟨a.kind,a.n,Xd⟩with fs:=m.fs.set i {A with r:=A.r+1}}) g X q l a3 (by show 0<=m.aB/\m.aB<max ((m.fs.set i _).length:Int) 1;rw[Ym];exact h.aB)
 have S:a.kind=2:=by have:=(jE j.1).1;have:=j.2.1;omega
 obtain⟨i,y,C,t,a1,a8,_⟩:=h.bV B q (Rx x S);rw[x]at C a1;obtain⟨an,ao⟩:=h.slots t;have D:m.sl.getD i 0=y:=by rw[gD,t];rfl
 have E:Z4 m ⟨a.kind,a.n,Xd⟩ 1={m with sl:=m.sl.set i (y+1)}:=by
  have af:atS m.sl a.n=y:=by unfold atS;rw[C,kE Wm,tN,D]
  have ae:ZG m.sl a.n 1=0:=by
   unfold ZG;rw[kE h.parts.2,af,kF Wm,kE Wm]
  grind[Z4,Qp,tN]
 refine L {m with sl:=m.sl.set i (y+1)} rfl E rfl (by
  unfold zf6;refine zis (fun y:Int=>y==0) t ?_ ?_
  ·have:¬y=0:=Wm
   simpa using this
  have:¬y+1=0:=Wm
  simpa using this) (fun H a0 a9=>rfl) (fun b d=>rfl) ⟨rfl,by show(m.sl.set i _).length=_;rw[Ym],rfl,rfl⟩ ?_
 have a3:=a2.inv.shareS (q:=k) (n:=n) (k:=i) (z:=y) (e:=⟨a.kind,a.n,Xd⟩) t (z7 g) q aa g N S C;exact zbm (m:={QD m p n ⟨a.kind,a.n,Xd⟩with sl:=m.sl.set i (y+1)}) g X q l a3 h.aB
theorem zdX(q:b≠k):∀(l:List Nat){m:Ma}{d e:Sp},Rt m->m.sp[k]?=Xa d->m.sp[b]?=Xa e->d.aC=e.aC->l.Nodup->(∀n∈l,n<64/\ze d n=en0/\ze e n≠en0)->
  Rt (QU m k b (l.map fun(n:Nat)=>(n:Int)))/\zf7 (QU m k b (l.map fun(n:Nat)=>(n:Int)))=zf7 m/\zf6 (QU m k b (l.map fun(n:Nat)=>(n:Int)))=zf6 m
 |[],m,d,e,h,_,_,_,_,_=>⟨h,rfl,rfl⟩
 |n::l,m,d,e,h,y,z,f,hd,i=>by
  obtain⟨v,w,x⟩:=i n Sm
  obtain⟨A,B,a⟩:=zkf h y z q f v w x;rw[Yl]at hd;have p:=zdX q l a.rt a.pk a.pq (by rw[a.ak,a.aq,f]) hd.2 (fun j g=>by
   obtain⟨r,s,t⟩:=i j (by simp[g]);have c:j≠n:=fun u=>hd.1 (u▸g)
   rw[a.fk j c,a.fq j c];exact⟨r,s,t⟩)
  rw[a.f,a.s]at p;exact p
theorem ZE:(qQ s).Nodup/\∀n∈qQ s,n<64/\ze s n≠en0:=by unfold qQ;refine⟨List.Pairwise.filter _ List.nodup_range,fun n a=>?_⟩;rw[Yb,Xy]at a;refine⟨a.1,fun e=>?_⟩;rw[e]at a;exact absurd a.2 Dc
theorem zkD(h:Rt m)(c:m.sp[b]?=Xa s)(l:s.aD=Xc)(q:Vac m.sp k)(i:k<4):Rt (zaN m k b s)/\zf7 (zaN m k b s)=zf7 m/\zf6 (zaN m k b s)=zf6 m:=by
 have a:b≠k:=fun e=>by
  have j:=q.2.1 s (Ry e c);grind
 unfold zaN;rw[ZL];have f:(Z5 m k s).sp[k]?=Xa ⟨Xc,s.aC,qG⟩:=by show(zbd m.sp k _)[k]?=_;rw[QV q.1,kE rfl]
 have g:(Z5 m k s).sp[b]?=Xa s:=by show(zbd m.sp k _)[b]?=_;rw[QV q.1,kF a];exact c
 exact zdX a (qQ s) (zgZ h c q i) f g rfl ZE.1 (fun n d=>⟨(ZE.2 n d).1,by rw[JL],(ZE.2 n d).2⟩)
end
section
open Go.RowKit
theorem Je.aV{enc:α->List Xq}{base:Nat}(h:Je enc w A y)(c:zfj base A){D:Nat->Prop}(hd:∀k,D k->k<base)(k:qC D w W):Je enc W A y:=by obtain⟨b,d,a,e,f⟩:=h;refine⟨b,d,a,e,fun x b j u d=>?_⟩;subst b;have b:=f x rfl j u d;have d:=World.block_lt_of_cell? _ _ b;have c:=c x _ _ a;rw[World.cell?_of_block (w:=w) (k.block _ d (fun e=>by have:=hd _ e;rw[zcu]at this;omega))];exact b
theorem jA.aV{base:Nat}(h:jA base w A r g){D:Nat->Prop}(hd:∀k,D k->k<base)(k:qC D w W):jA base W A r g:=by obtain⟨e,q,f,r,g,c,d⟩:=h;exact⟨e,q,f,⟨r.1.aV c hd k,r.2⟩,⟨g.1.aV d hd k,g.2⟩,c,d⟩
theorem jA.form(h:jA k w A r g):∃d q:Sli,A=Xi #[d.x,q.x]/\zfj k d.v/\zfj k q.v:=by obtain⟨g,q,rfl,⟨⟨r,c,rfl,_⟩,_⟩,⟨⟨g,e,rfl,_⟩,_⟩,f,v⟩:=h;exact⟨⟨r,_,c⟩,⟨g,_,e⟩,rfl,f,v⟩
theorem jA.rows{d q:Sli}(h:jA k w (Xi #[d.x,q.x]) r g):ZD w (d.x) r/\ZA w (q.x) g:=by obtain⟨g,q,e,r,r,_⟩:=h;grind
theorem zo5{k:Int}(h:stW M z≠0):zoD M z k=stW M z:=by unfold zoD;rw[kF h]
theorem zm4{k:Int}(h:stW M z=0)(b:¬(0<=k/\k<(M.length:Int))):zoD M z k=5:=by unfold zoD;rw[kE h,kF (Rx zaH b)]
theorem zgt{f:Fl}(h:stW M z=0)(b:M[k]?=Xa f):zoD M z (k:Int)=0:=by have:=(gS.1 b).1;unfold zoD;rw[kE h,kE (zaH.2 ⟨Wm,Wm⟩)]
theorem zfF:Zx M k=(Q1 M (k:Int)).map fun(b:Nat)=>(b:Int):=zlA M k
theorem zjW(v fs)(d k x:Int)(w:Xn)(f:qH w v fs):
  Xp prog 207 #[Xi #[v,I6 d],I6 k,I6 x] w fun e w'=>∃b,e=Xl (Xm #[Xi #[b,I6 (zmq fs d k x)],I6 (zjX fs d k x),I6 (zbi fs d k x)])/\Zh 0 w.heap.size w' b (ziM fs d k x)/\zc w w':=by
 have L:∀W,zc w W->Xp prog 208 #[Xi #[v,I6 d],I6 k] W fun e w'=>e=Xl (I6 (zoD fs d k))/\zc W w':=fun W P=>zha v fs d k W (f.aA P);have b7:∀W,zc w W->Xp prog 49 #[Xi #[v,I6 d]] W fun e w'=>∃b,e=Xl (Xi #[b,I6 d])/\q8 (W.heap.size+2) w' b fs/\zc W w'/\W.heap.size+2<=w'.heap.size:=fun W P=>zhG v fs d W (f.aA P);have ck:=dD f;obtain⟨g,c2,rfl,c,a⟩:=f.rows;have ca:=dD a;clear f a;obtain⟨D,Z⟩:=kA fs.length;rw[Z.out]at L b7 c ck⊢;obtain⟨c,a⟩:=kB ((w.alloc (Xk #[O g D c2,I6 d] 37)).alloc (Xk #[eS,I6 0] 37));have G:=gD2 a;have ce:=x2a a;have bz:=x2b a;have ah:Xo (_=c):=a;clear a;have a9:∀z:Int,z≠0->(∀W,zc w W->Xp prog 208 #[Xi #[O g D c2,I6 d],I6 k] W fun e w'=>e=Xl (I6 z)/\zc W w')->Xp prog 207 #[Xi #[O g D c2,I6 d],I6 k,I6 x] w fun e w'=>∃b,e=Xl (Xm #[Xi #[b,I6 0],I6 0,I6 z])/\Zh 0 w.heap.size w' b []/\zc w w':=fun z a L=>by
  have c:(z !=0)=Xc:=Si a;clear b7;go_enter func207,ntmps207;go_wp2_with fail;rw[ah.out];refine(L _ G).mono ?_;rintro e N⟨rfl,u⟩;have V:=dD (G.trans u);have X:=bz.aA u;obtain⟨cf,cg⟩:=X.k2;have ch:=X.f;clear u L;go_wp2;refine bodyPost_ret (v:=Xm #[Xi #[eS,I6 0],I6 0,I6 z]) (by simp[results,Tryz.results207,go_sem, *]) rfl ⟨_,rfl,Zh.nil _ _ _,?_⟩;exact Below.setCell (Below.setCell V (p:=⟨w.heap.size+1,0,Xb⟩) Sm _) (p:=⟨w.heap.size+1,1,Xb⟩) Sm _
 rcases zol fs d k x with⟨M,I,a1,a2,a3⟩|⟨M,c,I,a1,a2,a3⟩|⟨M,j,t,rfl,z,h,I,a1,a2,a3⟩|⟨M,j,t,C,b,rfl,z,rfl,ap,a,f,I,a1,a2,a3⟩|⟨M,j,t,C,rfl,z,rfl,ap,aq,I,a1,a2,a3⟩|⟨M,j,t,C,b,cp,rfl,z,rfl,ap,aq,I,a1,a2,a3⟩;·rw[I,a1,a2,a3];rw[zo5 M]at L;exact a9 _ M L
 ·rw[I,a1,a2,a3];rw[zm4 M c]at L;exact a9 _ Dc L
 ·rw[I,a1,a2,a3];rw[zgt M z]at L;have a4:j<D:=by rw[<-Z.out];exact(gS.1 z).1
  have ao:(j:Int)<(D:Int):=Wm;obtain⟨a8,y,bm,bn,a5,c⟩:=ca.out j t z;subst y;have s:=dD c;clear c a5 a9;obtain⟨K,g⟩:=kA t.bl.length;have bp:=dD z;clear z;rw[g.out]at s;have an:=fun W=>zdE h W;rw[g.out]at an;clear I a1 a2 a3 b7 M h;go_enter func207,ntmps207;go_wp2_with fail;rw[ah.out];refine(L _ G).mono ?_;rintro e N⟨rfl,u⟩;have V:=dD (G.trans u);have b5:=(ce.aA u).c 0 rfl;obtain⟨bs,ak⟩:=s.out N V.out;have X:=bz.aA u;obtain⟨cf,cg⟩:=X.k2;have ch:=X.f;clear u L;go_wp2_with(go_at_call 155;refine(an _).mono ?_;rintro e w'⟨rfl,B⟩;rw[B];clear B w')
  refine bodyPost_ret (v:=Xm #[Xi #[eS,I6 0],I6 0,I6 9]) (by simp[results,Tryz.results207,go_sem, *]) rfl ⟨_,rfl,Zh.nil _ _ _,?_⟩;exact Below.setCell (Below.setCell V (p:=⟨w.heap.size+1,0,Xb⟩) Sm _) (p:=⟨w.heap.size+1,1,Xb⟩) Sm _
 ·rw[I,a1,a2,a3];rw[zgt M z]at L;have a4:j<D:=by rw[<-Z.out];exact(gS.1 z).1
  have ao:(j:Int)<(D:Int):=Wm;obtain⟨a8,y,bm,bn,a5,c⟩:=ca.out j t z;subst y;have s:=dD c;clear c a5 a9;obtain⟨K,g⟩:=kA t.bl.length;have bp:=dD z;clear z;rw[g.out]at s;have b8:C<K:=by rw[<-g.out];exact(gS.1 ap).1
  have c4:(C:Int)<(K:Int):=Wm;have an:=fun W=>Jb (m:=(C:Int)) (n:=(K:Int)) Wm Wm W;have bv:=dD ap;have h:(b==-1)=Xd:=by simp;omega
  clear a f;clear I a1 a2 a3 M ap;go_enter func207,ntmps207;go_wp2_with fail;rw[ah.out];refine(L _ G).mono ?_;rintro e N⟨rfl,u⟩;have V:=dD (G.trans u);have aj:=dD (ce.aA u);have X:=dD (bz.aA u);obtain⟨b5,b9⟩:=aj.k2;obtain⟨bs,ak⟩:=s.out N V.out;clear u L;go_wp2_with(go_at_call 155;refine(an _).mono ?_;rintro e w'⟨rfl,B⟩;rw[B];clear B w')
  refine(b7 _ V).mono ?_;rintro e ai⟨cm,rfl,ax,al,bb⟩;have F:Xo (w.heap.size+2<=N.heap.size):=X.lt;obtain⟨bo,a6,T,aw,ba⟩:=ax;obtain⟨U,av⟩:∃U,bo[j]?=Xa U:=⟨_,gE (by rw[T,Z.out];exact a4)⟩;obtain⟨Y,ac,rfl⟩:=a6.aG (by rw[T,Z.out];omega);rw[T,Z.out]at a6⊢;obtain⟨b4,ab⟩:=aw j U t av bp.out;obtain⟨b0,c8,c9,az⟩:=U;obtain⟨r,c7,ay⟩:=ab.aG (by rw[g.out];omega);rw[g.out]at ay;have c6:O c8 c9 az=O (Xa ⟨r,0,Xb⟩) K c7:=ay;cases c6;have be:=dD av;have bf:Xo (b0=t.size):=b4;have bq:=dD a6;have cb:=dD T;have cc:=dD aw;have cd:=dD ba;have bx:Xo (zb blE (N.heap.size+2) ai (O (Xa ⟨r,0,Xb⟩) K az) t.bl):=ab;have bu:=dD (V.trans al);have ag:=dD bb;have Q:=dD al;clear al bb b7 b5 b9 bs ak a6 T aw ba b4 ab ay av an;go_upto_region 7 with fail;obtain⟨aa,q⟩:=kB ai.heap.size;obtain⟨S,l⟩:=kB (ai.alloc (Xk #[O (Xa ⟨Y,0,Xb⟩) D ac,I6 d] 37));have f:=gA l;have b2:Xo (zm S aa 37 [O (Xa ⟨Y,0,Xb⟩) D ac,I6 d]):=dD (by rw[<-l];exact zm.aE _ _ _ q.symm);have br:=dD ((aj.aA Q).aA f);have bg:=dD ((X.aA Q).aA f);have b6:Xo (N.heap.size+2<=aa):=show _<=_ by rw[<-q];exact ag.out
  have bw:=dD b2.box.lt;have bd:=dD (bu.trans f);have a7:=dD (bq.aA f);have R:=dD (bx.aA f);rw[l];rw[q];clear l q;have af:Xo (∀W,zc S W->W.cell? ⟨Y,j*2+1,Xb⟩=Xa (O (Xa ⟨r,0,Xb⟩) K az)):=show∀W,_ from fun W P=>by
   obtain⟨bh,bi,i,a⟩:=(a7.aA P).at.rows;obtain⟨a8,h,c⟩:=a j _ be.out;cases i;cases h;have:=c _ (zc.refl _) 1 _ rfl;rw[zX,Yc,zA]at this;exact this
  have ae:Xo (∀W,zc S W->W.cell? ⟨r,C,Xb⟩=Xa (I6 b)):=dD<|fun W P=>by
   obtain⟨bh,bi,i,a⟩:=(R.aA P).at.aX;obtain⟨a8,h,c⟩:=a C _ bv.out;cases i;cases h;have:=c _ (zc.refl _);rw[Yc,zA]at this;exact this
  have c5:=b2.box.c 0 rfl;have ak:=af.out S (zc.refl _);have c3:=ae.out S (zc.refl _);have A:=dD<|(q8.aA ⟨bo,bq,cb,cc,cd⟩ f).new;have cq:=b2.box.c 1 rfl;obtain⟨cf,cg⟩:=bg.k2;have ch:=bg.f;have ar:aa≠w.heap.size+1:=by have:=b6.out;have:=F.out;omega
  have bk:¬w.heap.size+1=aa:=fun e=>ar e.symm;have au:r≠w.heap.size+1:=by have:=(R.lt r rfl).1;have:=F.out;omega
  have bl:¬w.heap.size+1=r:=fun e=>au e.symm;go_wp2;go_region
  all_goals go_wp2
  all_goals
   refine bodyPost_ret (v:=Xm #[Xi #[O (Xa ⟨Y,0,Xb⟩) D ac,I6 d],I6 b,I6 0]) (by simp[results,Tryz.results207,go_sem, *]) rfl ⟨_,rfl,?_,?_⟩
   ·have ci:=A.less (A0:=0) (A1:=w.heap.size+2) (nR _) (Hm F.out)
    exact(((ci.out (Out.setCell _ _ _ (p:=⟨w.heap.size+1,0,Xb⟩) (nZ _) Sm _)).out (Out.setCell _ _ _ (p:=⟨w.heap.size+1,1,Xb⟩) (nZ _) Sm _)).less (nR _) Wm).aA (gW _)
   exact(Below.setCell (Below.setCell bd (p:=⟨w.heap.size+1,0,Xb⟩) Sm _) (p:=⟨w.heap.size+1,1,Xb⟩) Sm _).drew
 ·rw[I,a1,a2,a3];rw[zgt M z]at L;have a4:j<D:=by rw[<-Z.out];exact(gS.1 z).1
  have ao:(j:Int)<(D:Int):=Wm;obtain⟨a8,y,bm,bn,a5,c⟩:=ca.out j t z;subst y;have s:=dD c;clear c a5 a9;obtain⟨K,g⟩:=kA t.bl.length;have bp:=dD z;clear z;rw[g.out]at s;have b8:C<K:=by rw[<-g.out];exact(gS.1 ap).1
  have c4:(C:Int)<(K:Int):=Wm;have an:=fun W=>Jb (m:=(C:Int)) (n:=(K:Int)) Wm Wm W;have bv:=dD ap;obtain⟨H,bj⟩:∃H:Nat,d=(H:Int):=⟨d.toNat,by have:=((qJ fs d).1 M).1;omega⟩;subst bj;have A:H<=80:=by have:=((qJ fs (H:Int)).1 M).1;omega
  have b3:∀W,zc w W->Xp prog 209 #[Xi #[O (Xa a8) D c2,I6 (H:Int)]] W fun e w'=>∃b,e=Xl b/\zb blE (W.heap.size+1) w' b (Zx fs H)/\zc W w':=fun W P=>zks _ fs H A W (ck.aA P);rw[zfF,aq]at b3;clear A aq;simp only[Yn]at b3;clear I a1 a2 a3 M ap;go_enter func207,ntmps207;go_wp2_with fail;rw[ah.out];refine(L _ G).mono ?_;rintro e N⟨rfl,u⟩;have V:=dD (G.trans u);have aj:=dD (ce.aA u);have X:=dD (bz.aA u);obtain⟨b5,b9⟩:=aj.k2;obtain⟨bs,ak⟩:=s.out N V.out;clear u L;go_wp2_with(go_at_call 155;refine(an _).mono ?_;rintro e w'⟨rfl,B⟩;rw[B];clear B w')
  refine(b7 _ V).mono ?_;rintro e ai⟨cm,rfl,ax,al,bb⟩;have F:Xo (w.heap.size+2<=N.heap.size):=X.lt;obtain⟨bo,a6,T,aw,ba⟩:=ax;obtain⟨U,av⟩:∃U,bo[j]?=Xa U:=⟨_,gE (by rw[T,Z.out];exact a4)⟩;obtain⟨Y,ac,rfl⟩:=a6.aG (by rw[T,Z.out];omega);rw[T,Z.out]at a6⊢;obtain⟨b4,ab⟩:=aw j U t av bp.out;obtain⟨b0,c8,c9,az⟩:=U;obtain⟨r,c7,ay⟩:=ab.aG (by rw[g.out];omega);rw[g.out]at ay;have c6:O c8 c9 az=O (Xa ⟨r,0,Xb⟩) K c7:=ay;cases c6;have be:=dD av;have bf:Xo (b0=t.size):=b4;have bq:=dD a6;have cb:=dD T;have cc:=dD aw;have cd:=dD ba;have bx:Xo (zb blE (N.heap.size+2) ai (O (Xa ⟨r,0,Xb⟩) K az) t.bl):=ab;have bu:=dD (V.trans al);have ag:=dD bb;have Q:=dD al;clear al bb b7 b5 b9 bs ak a6 T aw ba b4 ab ay av an;go_upto_region 7 with fail;obtain⟨aa,q⟩:=kB ai.heap.size;obtain⟨S,l⟩:=kB (ai.alloc (Xk #[O (Xa ⟨Y,0,Xb⟩) D ac,I6 (H:Int)] 37));have f:=gA l;have b2:Xo (zm S aa 37 [O (Xa ⟨Y,0,Xb⟩) D ac,I6 (H:Int)]):=dD (by rw[<-l];exact zm.aE _ _ _ q.symm);have br:=dD ((aj.aA Q).aA f);have bg:=dD ((X.aA Q).aA f);have b6:Xo (N.heap.size+2<=aa):=show _<=_ by rw[<-q];exact ag.out
  have bw:=dD b2.box.lt;have bd:=dD (bu.trans f);have a7:=dD (bq.aA f);have R:=dD (bx.aA f);rw[l];rw[q];clear l q;have af:Xo (∀W,zc S W->W.cell? ⟨Y,j*2+1,Xb⟩=Xa (O (Xa ⟨r,0,Xb⟩) K az)):=show∀W,_ from fun W P=>by
   obtain⟨bh,bi,i,a⟩:=(a7.aA P).at.rows;obtain⟨a8,h,c⟩:=a j _ be.out;cases i;cases h;have:=c _ (zc.refl _) 1 _ rfl;rw[zX,Yc,zA]at this;exact this
  have ae:Xo (∀W,zc S W->W.cell? ⟨r,C,Xb⟩=Xa (I6 (-1))):=dD<|fun W P=>by
   obtain⟨bh,bi,i,a⟩:=(R.aA P).at.aX;obtain⟨a8,h,c⟩:=a C _ bv.out;cases i;cases h;have:=c _ (zc.refl _);rw[Yc,zA]at this;exact this
  have c5:=b2.box.c 0 rfl;have ak:=af.out S (zc.refl _);have c3:=ae.out S (zc.refl _);obtain⟨b5,b9⟩:=br.k2;go_wp2_with fail;refine(b3 _ bd).mono ?_;rintro e cl⟨co,rfl,bt,am⟩;obtain⟨c1,cn,rfl⟩:=bt.form;have cj:=dD (bd.trans am);have c1:=dD (bg.aA am);clear bt am b3 b5 b9 c5 ak c3;obtain⟨cf,cg⟩:=c1.k2;have ch:=c1.f;simp only[Yk];go_wp2;refine bodyPost_ret (v:=Xm #[Xi #[eS,I6 0],I6 0,I6 10]) (by simp[results,Tryz.results207,go_sem, *]) rfl ⟨_,rfl,Zh.nil _ _ _,?_⟩;exact Below.setCell (Below.setCell cj (p:=⟨w.heap.size+1,0,Xb⟩) Sm _) (p:=⟨w.heap.size+1,1,Xb⟩) Sm _
 rw[I,a1,a2,a3];rw[zgt M z]at L;have a4:j<D:=by rw[<-Z.out];exact(gS.1 z).1
 have ao:(j:Int)<(D:Int):=Wm;obtain⟨a8,y,bm,bn,a5,c⟩:=ca.out j t z;subst y;have s:=dD c;clear c a5 a9;obtain⟨K,g⟩:=kA t.bl.length;have bp:=dD z;clear z;rw[g.out]at s;have b8:C<K:=by rw[<-g.out];exact(gS.1 ap).1
 have c4:(C:Int)<(K:Int):=Wm;have an:=fun W=>Jb (m:=(C:Int)) (n:=(K:Int)) Wm Wm W;have bv:=dD ap;obtain⟨H,bj⟩:∃H:Nat,d=(H:Int):=⟨d.toNat,by have:=((qJ fs d).1 M).1;omega⟩;subst bj;have A:H<=80:=by have:=((qJ fs (H:Int)).1 M).1;omega
 have b3:∀W,zc w W->Xp prog 209 #[Xi #[O (Xa a8) D c2,I6 (H:Int)]] W fun e w'=>∃b,e=Xl b/\zb blE (W.heap.size+1) w' b (Zx fs H)/\zc W w':=fun W P=>zks _ fs H A W (ck.aA P);rw[zfF,aq]at b3;clear A aq;rw[mP]at b3;obtain⟨A,d⟩:=kA ((b:Int)::(cp.map fun(b:Nat)=>(b:Int)));rw[d.out]at b3;have z:Xo (A[0]?=Xa (b:Int)):=dD<|by rw[<-d.out];rfl
 have y:Xo (0<A.length):=dD<|by rw[<-d.out];simp
 clear I a1 a2 a3 M ap;go_enter func207,ntmps207;go_wp2_with fail;rw[ah.out];refine(L _ G).mono ?_;rintro e N⟨rfl,u⟩;have V:=dD (G.trans u);have aj:=dD (ce.aA u);have X:=dD (bz.aA u);obtain⟨b5,b9⟩:=aj.k2;obtain⟨bs,ak⟩:=s.out N V.out;clear u L;go_wp2_with(go_at_call 155;refine(an _).mono ?_;rintro e w'⟨rfl,B⟩;rw[B];clear B w')
 refine(b7 _ V).mono ?_;rintro e ai⟨cm,rfl,ax,al,bb⟩;have F:Xo (w.heap.size+2<=N.heap.size):=X.lt;obtain⟨bo,a6,T,aw,ba⟩:=ax;obtain⟨U,av⟩:∃U,bo[j]?=Xa U:=⟨_,gE (by rw[T,Z.out];exact a4)⟩;obtain⟨Y,ac,rfl⟩:=a6.aG (by rw[T,Z.out];omega);rw[T,Z.out]at a6⊢;obtain⟨b4,ab⟩:=aw j U t av bp.out;obtain⟨b0,c8,c9,az⟩:=U;obtain⟨r,c7,ay⟩:=ab.aG (by rw[g.out];omega);rw[g.out]at ay;have c6:O c8 c9 az=O (Xa ⟨r,0,Xb⟩) K c7:=ay;cases c6;have be:=dD av;have bf:Xo (b0=t.size):=b4;have bq:=dD a6;have cb:=dD T;have cc:=dD aw;have cd:=dD ba;have bx:Xo (zb blE (N.heap.size+2) ai (O (Xa ⟨r,0,Xb⟩) K az) t.bl):=ab;have bu:=dD (V.trans al);have ag:=dD bb;have Q:=dD al;clear al bb b7 b5 b9 bs ak a6 T aw ba b4 ab ay av an;go_upto_region 7 with fail;obtain⟨aa,q⟩:=kB ai.heap.size;obtain⟨S,l⟩:=kB (ai.alloc (Xk #[O (Xa ⟨Y,0,Xb⟩) D ac,I6 (H:Int)] 37));have f:=gA l;have b2:Xo (zm S aa 37 [O (Xa ⟨Y,0,Xb⟩) D ac,I6 (H:Int)]):=dD<|by rw[<-l];exact zm.aE _ _ _ q.symm
 have br:=dD ((aj.aA Q).aA f);have bg:=dD ((X.aA Q).aA f);have b6:Xo (N.heap.size+2<=aa):=show _<=_ by rw[<-q];exact ag.out
 have bw:=dD b2.box.lt;have bd:=dD (bu.trans f);have a7:=dD (bq.aA f);have R:=dD (bx.aA f);rw[l];rw[q];clear l q;have af:Xo (∀W,zc S W->W.cell? ⟨Y,j*2+1,Xb⟩=Xa (O (Xa ⟨r,0,Xb⟩) K az)):=show∀W,_ from fun W P=>by
  obtain⟨bh,bi,i,a⟩:=(a7.aA P).at.rows;obtain⟨a8,h,c⟩:=a j _ be.out;cases i;cases h;have:=c _ (zc.refl _) 1 _ rfl;rw[zX,Yc,zA]at this;exact this
 have ae:Xo (∀W,zc S W->W.cell? ⟨r,C,Xb⟩=Xa (I6 (-1))):=dD<|fun W P=>by
  obtain⟨bh,bi,i,a⟩:=(R.aA P).at.aX;obtain⟨a8,h,c⟩:=a C _ bv.out;cases i;cases h;have:=c _ (zc.refl _);rw[Yc,zA]at this;exact this
 have c5:=b2.box.c 0 rfl;have ak:=af.out S (zc.refl _);have c3:=ae.out S (zc.refl _);obtain⟨b5,b9⟩:=br.k2;go_wp2_with fail;refine(b3 _ bd).mono ?_;rintro e cl⟨co,rfl,bt,am⟩;obtain⟨d,cn,rfl⟩:=bt.aG y.out;have Q:cl.cell? ⟨d,0,Xb⟩=Xa (I6 (b:Int)):=by
  obtain⟨bh,bi,i,a⟩:=bt.at.aX;obtain⟨a8,h,c⟩:=a 0 _ z.out;cases i;cases h;have:=c _ (zc.refl _);rw[Yc,zA]at this;exact this
 have cj:=dD (bd.trans am);have z:=dD am;have l:=dD (R.aA am);have u:=dD (a7.aA am);have B:=dD (b2.aA am);have c1:=dD (bg.aA am);have d:=(R.lt r rfl).1;obtain⟨q,d⟩:=kA A.length;have s:0<q:=Ry d.out y.out;have s:(0:Int)<(q:Int):=Wm;have s:((q:Int)==0)=Xd:=by simp;omega
 rw[d.out];clear bt am b3 b5 b9 c5 ak c3;go_wp2_with(refine z3 (E:=blE) rfl (.tmp 55) (.tmp 54) rfl (N.heap.size+2) _ t.bl l r C rfl (b:Int) ?t1 ⟨r,C,Xb⟩ rfl ?t2 (I6 (b:Int)) rfl rfl ?_)
 case t1=>rw[g.out];exact b8
 case t2=>show _=Addr.mk r (C*1) Xb;rw[Ob]
 intro y s d _;have A:=dD s;have L:Xo (Box y aa [O (Xa ⟨Y,0,Xb⟩) D ac,I6 (H:Int)]):=B.box.grown d (fun e=>l.ne B Dc r rfl e);have B:Xo (Box y (w.heap.size+1) [eS,I6 0]):=c1.grown d (Hm F.out);have P:Xo (zc w y):=dD<|zd cj d (Hm F.out);have M:Xo (Zh 0 (N.heap.size+2) y (O (Xa ⟨Y,0,Xb⟩) D ac) (fs.set j ⟨t.size,t.bl.set C (b:Int)⟩)):=dD<|by
  have t:=u.grown d (fun R q G=>by cases G;exact u.apart l (Ne.symm zhm) r q rfl);refine⟨t.cap,bo,t.new.stays,by simp[cb.out],fun K U N t l=>?_⟩;by_cases e:K=j
  ·subst e;rw[sF (Rx Z.out a4)]at l;rw[be.out]at t;cases t;cases l;exact⟨bf,A.new.stays⟩
  rw[sN (fun u=>e u.symm)]at l;obtain⟨b4,ab⟩:=cc.out K U N t l;have l:=ab.aA (f.trans z);exact⟨b4,(l.grown d (fun R q G=>by cases G;exact cd j K _ U (fun u=>e u.symm) be t r rfl q)).new.stays⟩
 have c3:y.cell? ⟨r,C,Xb⟩=Xa (I6 (b:Int)):=by
  obtain⟨bh,bi,i,a⟩:=s.at.aX;obtain⟨a8,h,c⟩:=a C (b:Int) (by rw[sF (Rx g.out b8)]);cases i;cases h;have:=c _ (zc.refl _);rw[Yc,zA]at this;exact this
 clear s d Q;obtain⟨c5,cq⟩:=L.k2;obtain⟨cf,cg⟩:=B.k2;have ch:=B.f;have ar:aa≠w.heap.size+1:=by have:=b6.out;have:=F.out;omega
 have bk:¬w.heap.size+1=aa:=fun e=>ar e.symm;have au:r≠w.heap.size+1:=Hm F.out;have bl:¬w.heap.size+1=r:=fun e=>au e.symm;go_wp2;go_region
 all_goals go_wp2
 all_goals
  refine bodyPost_ret (v:=Xm #[Xi #[O (Xa ⟨Y,0,Xb⟩) D ac,I6 (H:Int)],I6 (b:Int),I6 0]) (by simp[results,Tryz.results207,go_sem, *]) rfl ⟨_,rfl,?_,?_⟩
  ·have ci:=M.less (A0:=0) (A1:=w.heap.size+2) (nR _) (Hm F.out)
   exact(((ci.out (Out.setCell _ _ _ (p:=⟨w.heap.size+1,0,Xb⟩) (nZ _) Sm _)).out (Out.setCell _ _ _ (p:=⟨w.heap.size+1,1,Xb⟩) (nZ _) Sm _)).less (nR _) Wm).aA (gW _)
  exact(Below.setCell (Below.setCell P (p:=⟨w.heap.size+1,0,Xb⟩) Sm _) (p:=⟨w.heap.size+1,1,Xb⟩) Sm _).drew
section
variable{w0 w w1 w2:Xn}{p:Nat}{V:MaV}{m:Ma}
theorem ChW.setFl(h:ChW w0 p w V m){b:Sli}(d:zc w w1)(g:w.heap.size<=B)(f:Zh 0 B w1 (b.x) M)(e:w1.grownBy w2 (Xa p))(a:zm w2 p 102 (chL {V with fl:=b} {m with fl:=M,cnt:=z})):zfq w0 p w V {m with fl:=M,cnt:=z} w2:=
 h.fieldC (V':={V with fl:=b}) (m':={m with fl:=M,cnt:=z}) d e rfl rfl rfl rfl rfl rfl a (fun W _ a r=>⟨r.sl,r.sb,r.sq,r.db,r.dq,(f.out ⟨a.os,a.tape,a.output,a.size,fun k d e=>a.block k d (fun e=>Hm (h.drt k e))⟩).now0⟩)
theorem ChW.setDk(h:ChW w0 p w V m){d q:Sli}(e:zc w w1)(i:w.heap.size<=B)(b:jA B w1 (Xi #[d.x,q.x]) r g)(f:w1.grownBy w2 (Xa p))(c:zm w2 p 102 (chL {V with db:=d,dq:=q} {m with db:=r,dq:=g})):zfq w0 p w V {m with db:=r,dq:=g} w2:=
 h.fieldC (V':={V with db:=d,dq:=q}) (m':={m with db:=r,dq:=g}) e f rfl rfl rfl rfl rfl rfl c (fun W _ g a=>by
  have k:=(b.aV (fun k r=>Hm (h.drt k r)) g).rows
  exact⟨a.sl,a.sb,a.sq,k.1,k.2,a.fl⟩)
end
def wrM(m:Ma)(pg:List Int)(file idx:Int):Ma:=
 if zbi m.fl m.cnt file idx=0 then{m with fl:=ziM m.fl m.cnt file idx,cnt:=zmq m.fl m.cnt file idx,db:=jT m.db m.dq (zjX m.fl m.cnt file idx),dq:=jZ m.db m.dq (zjX m.fl m.cnt file idx) pg}else m
theorem zeL(a:ChW w0 k w V m)(pg:List Int)(hp:pg.length=8)(file idx:Int):
  Xp prog 204 #[Xj (Xa ⟨k,0,Xb⟩),Xi (pgc pg).toArray,I6 file,I6 idx] w fun e w'=>e=Xl (Xh (decide (zbi m.fl m.cnt file idx=0)))/\zfq w0 k w V (wrM m pg file idx) w':=by
 have t:=dD a;obtain⟨E,c⟩:=kA (zbi m.fl m.cnt file idx);obtain⟨C,q⟩:=kA (zmq m.fl m.cnt file idx);obtain⟨B,f⟩:=kA (zjX m.fl m.cnt file idx);have z:Xo (∀W,zc w W->Xp prog 207 #[Xi #[V.fl.x,I6 m.cnt],I6 file,I6 idx] W fun e w'=>∃b:Sli,e=Xl (Xm #[Xi #[b.x,I6 C],I6 B,I6 E])/\Zh 0 W.heap.size w' (b.x) (ziM m.fl m.cnt file idx)/\zc W w'):=show∀W,_ from fun W D=>by
  rw[<-c.out,<-q.out,<-f.out];refine(zjW _ m.fl m.cnt file idx W (a.at.aA D).fl).mono ?_;rintro e w'⟨b,rfl,A,G⟩;obtain⟨d,H,rfl,_⟩:=qH.rows A.now0;exact⟨⟨d,_,H⟩,rfl,A,G⟩
 have s:Xo (E=0->wrM m pg file idx={({m with fl:=ziM m.fl m.cnt file idx,cnt:=C}:Ma)with db:=jT m.db m.dq B,dq:=jZ m.db m.dq B pg}):=dD<|fun a=>by
  unfold wrM;rw[kE (c.trans a),q.out,f.out]
 have v:Xo (E≠0->wrM m pg file idx=m):=dD<|fun a=>by
  unfold wrM;rw[kF (fun e=>a (c.symm.trans e))]
 rw[c.out];obtain⟨R,c⟩:=kA (decide (E=0));rw[c.out];have F:k<w.heap.size:=a.bA k (.inl rfl);obtain⟨N,x⟩:=kA (wrM m pg file idx);rw[x.out]at s v⊢;obtain⟨g,h,i,j,p,l,n,r,d⟩:=zc2 pg hp;have u:=dD d;have y:pgc pg=[U8 g,U8 h,U8 i,U8 j,U8 p,U8 l,U8 n,U8 r]:=Rr d;rw[y];clear a hp d y;obtain⟨b,f⟩:=kA w.heap.size;obtain⟨K,a⟩:=kB (w.alloc (Xk #[U8 g,U8 h,U8 i,U8 j,U8 p,U8 l,U8 n,U8 r] 44));have d:=gA a;have L:=xP a f;have y:=dD a;clear a;rw[f.out]at F;go_enter func204,ntmps204;go_upto_region 1 with fail;rw[y.out,f.out];have f:=(t.box.box.aA d).c 7 rfl;have y:=(t.box.box.aA d).c 8 rfl;have a:=z.out K d.out;go_wp2_with fail;refine a.mono ?_;clear a f y;rintro e F⟨y,rfl,A,z⟩;have M:=dD A;have f:=dD z;clear A z;go_upto_region 2 with fail;obtain⟨H,q⟩:=kA F.heap.size;refine nW fun a a=>?_;have A:=gA a;have H:=xP a q;rw[q.out];clear a;by_cases a:E=0
 rotate_left
 ·have q:(E !=0)=Xc:=by simp[a]
  have F:=dD<|c.symm.trans (decide_eq_false a);have x:=dD<|v.out a;clear a;go_wp2;go_ret;exact⟨Rr F.out,by rw[x.out];exact zfq.refl t (d.trans (f.trans A))⟩
 have q:(E !=0)=Xd:=by simp[a]
 have F:=dD<|c.symm.trans (decide_eq_true a);have x:=dD<|s.out a;clear a;have c:=dD (d.trans (f.trans A));obtain⟨P,Q⟩:=H.k2;have a:=dD (t.box.aA c);go_upto_region 5 with(refine ZW rfl 37 (.tmp 30) (.tmp 27) rfl k 7 rfl (Xi #[y.x,I6 C]) rfl [y.x,I6 C] rfl a (by simp[chL]) Kr (by simp[Value.oneCell']) ?_)
 intro s v a _;have N:Xo (Box s b [U8 g,U8 h,U8 i,U8 j,U8 p,U8 l,U8 n,U8 r]):=dD<|(L.aA (f.trans A)).grown a Wm;obtain⟨f,K,y,L,H⟩:=t.setFl c (bS d) (M.aA A) a v;have Y:=dD K;have E:=dD y;have Z:=dD L;have X:=dD H;have T:Xo (∀W,zc s W->Xp prog 194 #[Xi #[f.db.x,f.dq.x],I6 B,Xi #[U8 g,U8 h,U8 i,U8 j,U8 p,U8 l,U8 n,U8 r]] W fun e w'=>∃d q:Sli,e=Xl (Xm #[Xi #[d.x,q.x],I6 (zp m.db.length m.dq B)])/\jA W.heap.size w' (Xi #[d.x,q.x]) (jT m.db m.dq B) (jZ m.db m.dq B pg)/\zc W w'):=show∀W,_ from fun W D=>by
  have c:=zhd (Xi #[f.db.x,f.dq.x]) m.db m.dq B pg (Rr u.out) W ⟨_,_,rfl,(y.at.aA D).db,(y.at.aA D).dq⟩;rw[show pgc pg=[U8 g,U8 h,U8 i,U8 j,U8 p,U8 l,U8 n,U8 r] by rw[u.out];rfl]at c;refine c.mono ?_;rintro e w'⟨c,rfl,c,G⟩;obtain⟨d,q,rfl,_,_⟩:=c.form;exact⟨d,q,rfl,c,G⟩
 have c:k<s.heap.size:=y.bA k (.inl rfl);clear v a y L H K P Q;try simp only[Yx]
 go_upto_region 5 with fail;obtain⟨S,a⟩:=kA (zp m.db.length m.dq B);rw[a.out]at T;obtain⟨a,c⟩:=Ww fun u=>Box u b [U8 g,U8 h,U8 i,U8 j,U8 p,U8 l,U8 n,U8 r];have t:=(c _).2 (N.aA (gW _));have A:zc s s.drew:=show Below _ _ _ from(bR _ _).drew;have H:=fun y:zh a=>((c _).1 y.holds).c 0 rfl;have K:=fun y:zh a=>((c _).1 y.holds).c 1 rfl;have L:=fun y:zh a=>((c _).1 y.holds).c 2 rfl;have M:=fun y:zh a=>((c _).1 y.holds).c 3 rfl;have N:=fun y:zh a=>((c _).1 y.holds).c 4 rfl;have P:=fun y:zh a=>((c _).1 y.holds).c 5 rfl;have Q:=fun y:zh a=>((c _).1 y.holds).c 6 rfl;have R:=fun y:zh a=>((c _).1 y.holds).c 7 rfl;have G:Nonempty (zh a):=⟨⟨_,t⟩⟩;refine zH (I:=a) 16 [(5,fun v=>v=Xi #[f.db.x,f.dq.x]),(8,fun v=>∃d q:Sli,v=Xm #[Xi #[d.x,q.x],I6 S]),(15,fun _=>True)] (fun u=>zc s u) t A zY Kr rfl rfl Dc (Sc ⟨_,rfl⟩ ⟨_,zJ,zJ,rfl⟩ ⟨undef,trivial⟩) Kr ?_;simp only[Oi,Oj];iterate 2 refine zg ?_
 refine zQ (.tmp 33) ⟨k,0,Xb⟩ rfl rfl rfl rfl ?_;refine Uq ?_;iterate 2 refine zg ?_
 refine zy rfl rfl (fun _ u=>zc s u) (fun w' b a=>?_) (fun U D=>?_)
 ·refine zcq 34 (.tmp 36) rfl k 5 rfl [f.db.x,f.dq.x] ((E.box.box.aA a).mid 5 (fun W v y=>by
   match W,y with
   |0,y=>exact y
   |1,y=>exact y)) underlying34 rfl Kr ⟨b,rfl,a⟩
 cases D;refine Uq ?_;iterate 2 refine zg ?_
 refine zy rfl rfl (fun v u=>∃(d q:Sli)(y:Xn),v=Xm #[Xi #[d.x,q.x],I6 S]/\zc s y/\zc y u/\jA y.heap.size u (Xi #[d.x,q.x]) (jT m.db m.dq B) (jZ m.db m.dq B pg)) (fun w' b a=>?_) (fun U D=>?_);·refine zO.call [Xi #[f.db.x,f.dq.x],I6 B,Xi #[U8 g,U8 h,U8 i,U8 j,U8 p,U8 l,U8 n,U8 r]] rfl func194 rfl rfl rfl ?_;refine(T w' a).mono ?_;rintro e f⟨d,q,rfl,f,z⟩;exact⟨_,rfl,(c _).2 (((c _).1 b).aA z),⟨d,q,rfl⟩,d,q,w',rfl,a,z,f⟩
 obtain⟨d,q,rfl⟩:=D;refine Uq ?_;iterate 3 refine zg ?_
 refine zQ (.tmp 32) ⟨k,0,Xb⟩ rfl rfl rfl rfl ?_;refine Uq ?_;iterate 2 refine zg ?_
 refine zy rfl rfl (fun _ u=>zfq w0 k w V {({m with fl:=ziM m.fl m.cnt file idx,cnt:=C}:Ma)with db:=jT m.db m.dq B,dq:=jZ m.db m.dq B pg} u) (fun w' b a=>?_) (fun U D=>?_)
 ·obtain⟨f,g,y,h,i,j,p⟩:=a;have a:f=d/\g=q:=by
   obtain⟨l,l,l⟩:=d;obtain⟨d,d,d⟩:=f;obtain⟨d,d,d⟩:=q;obtain⟨d,d,d⟩:=g;simp only[Value.tuple.injEq,Array.mk.injEq,List.cons.injEq,Value.agg.injEq,vJ,and_true]at h;obtain⟨⟨rfl,rfl,rfl⟩,rfl,rfl,rfl⟩:=h;exact⟨rfl,rfl⟩
  obtain⟨rfl,rfl⟩:=a;have h:=i.trans j;refine ZM 34 (.tmp 45) (.tmp 41) rfl k 5 rfl (Xi #[f.x,g.x]) rfl [f.x,g.x] rfl (E.box.aA h) (by simp[chL]) Kr (by simp[Value.oneCell']) ?_;intro f d a _;exact⟨(c _).2 (((c _).1 b).grown a Wm),trivial,zfq.step Z X Y (E.setDk h (bS i) p a d)⟩
 clear D;try simp only[Yx]
 refine qE fun f b a=>?_;have c:=dD a;clear b a t A H K L M N P Q R G;go_wp2;go_ret;exact⟨Rr F.out,Rx x.out c⟩
theorem zc8(h:ChW w0 k w V m)(f:Fr)(fi ix:Nat)(F:Fl)(hf:f.f=(fi:Int))(hx:f.x=(ix:Int))(hF:m.fl[fi]?=Xa F)(hs:0<=F.size/\F.size<=96)(hi:ix<=12):
  Xp prog 196 #[Xj (Xa ⟨k,0,Xb⟩),Xi (frv f).toArray] w fun e w'=>e=Xl (Xi (pgc (Z8 (pgL f.p) (ix:Int) F.size)).toArray)/\(Z8 (pgL f.p) (ix:Int) F.size).length=8/\zc w w':=by
 have HM:Xo (ChW w0 k w V m):=h;obtain⟨a,c,hfe,_,hfr⟩:=qH.rows h.at.fl;simp only[vJ]at hfe;obtain⟨hfa,hfn,hfc⟩:=hfe;obtain⟨ad,ha,xa,xc,_,hcl⟩:=hfr fi F hF;have HFA:Xo (V.fl.a=Xa ad):=hfa.trans ha;have hlt:(fi:Int)<(V.fl.n:Int):=by
  have:=(gS.1 hF).1;omega
 obtain⟨s,HSZ⟩:=kA F.size;rw[HSZ.out]at hs⊢;have HCC:Xo (∀W,zc w W->W.cell? (ad.add (fi*2))=Xa (I6 s)):=dD<|fun W hW=>by
  have:=(hcl W hW).1;rw[HSZ.out]at this;exact this
 have hc8:(Z8 (pgL f.p) (ix:Int) s).length=8:=by unfold Z8;simp[pgL]
 have HC:Xo (∀W,Xp prog 162 #[Xi (pgc (pgL f.p)).toArray,I6 (s-(ix:Int)*8)] W fun e w'=>e=Xl (Xi (pgc (Z8 (pgL f.p) (ix:Int) s)).toArray)/\zc W w'):=dD<|fun W=>by
  have p:=zea (pgL f.p) (s-(ix:Int)*8) W rfl Wm Wm;rw[zn4]at p;exact p.mono fun e w' q=>⟨q.1,q.2.2⟩
 obtain⟨c0,c1,c2,c3,c4,c5,c6,c7,hce⟩:=zc2 _ hc8;rw[hce]at HC⊢;obtain⟨⟨b0,b1,b2,b3,b4,b5,b6,b7⟩,fr,fu,fd,ff,fx⟩:=f;dsimp only at hf hx;subst hf;subst hx;simp only[pgL,pgc,frv,mP,Yn]at HC⊢;have HL8:Xo ([c0,c1,c2,c3,c4,c5,c6,c7].length=8):=dD<|rfl;clear h hfa hfn hfc ha hcl hfr hF hc8 hce;obtain⟨b,HB⟩:=kA w.heap.size;obtain⟨W1,hW1⟩:=kB ((w.alloc (Xk #[U8 b0,U8 b1,U8 b2,U8 b3,U8 b4,U8 b5,U8 b6,U8 b7,I6 fr,Xh fu,Xh fd,I6 (fi:Int),I6 (ix:Int)] 53)).alloc (Xk #[U8 0,U8 0,U8 0,U8 0,U8 0,U8 0,U8 0,U8 0] 44));have G1:=gD2 hW1;have Y1:Xo (Box W1 b [U8 b0,U8 b1,U8 b2,U8 b3,U8 b4,U8 b5,U8 b6,U8 b7,I6 fr,Xh fu,Xh fd,I6 (fi:Int),I6 (ix:Int)]):=dD<|by rw[<-hW1];exact(Box.aE _ _ _ HB.symm).alloc _
 have Z1:Xo (zm W1 (b+1) 44 (pgc zt)):=dD<|by rw[<-hW1];exact zm.aE _ (pgc zt) _ (by simp[HB.out])
 have HW1:Xo (_=W1):=hW1;clear hW1;go_enter func196,ntmps196;go_upto_region 1 with fail;rw[HW1.out,HB.out];have gd:zc W1 W1.drew:=show Below _ _ _ from(bR _ _).drew;obtain⟨I,HI⟩:∃I:Xn->Prop,Xo (∀u,I u↔(Box u b [U8 b0,U8 b1,U8 b2,U8 b3,U8 b4,U8 b5,U8 b6,U8 b7,I6 fr,Xh fu,Xh fd,I6 (fi:Int),I6 (ix:Int)])/\u.cell? ⟨k,7,Xb⟩=Xa (O (Xa ad) V.fl.n V.fl.c)/\u.cell? (ad.add (fi*2))=Xa (I6 s)):=⟨fun u=>_,fun _=>Iff.rfl⟩;have x7:∀W,zc w W->W.cell? ⟨k,7,Xb⟩=Xa (O (Xa ad) V.fl.n V.fl.c):=fun W hW=>by
  have:=(HM.box.box.aA hW).c 7 rfl;rw[HFA.out]at this;exact this
 have X7:Xo (∀W,zc w W->W.cell? ⟨k,7,Xb⟩=Xa (O (Xa ad) V.fl.n V.fl.c)):=dD<|x7;clear x7;have hI0:I W1.drew:=(HI _).2 ⟨Y1.aA gd,X7 _ (G1.trans gd),HCC _ (G1.trans gd)⟩;have hF0:zc W1 W1.drew:=gd;have hy0:=fun y:zh I=>((HI _).1 y.holds).1.c 0 rfl;have hy1:=fun y:zh I=>((HI _).1 y.holds).1.c 1 rfl;have hy2:=fun y:zh I=>((HI _).1 y.holds).1.c 2 rfl;have hy3:=fun y:zh I=>((HI _).1 y.holds).1.c 3 rfl;have hy4:=fun y:zh I=>((HI _).1 y.holds).1.c 4 rfl;have hy5:=fun y:zh I=>((HI _).1 y.holds).1.c 5 rfl;have hy6:=fun y:zh I=>((HI _).1 y.holds).1.c 6 rfl;have hy7:=fun y:zh I=>((HI _).1 y.holds).1.c 7 rfl;have hyf:=fun y:zh I=>((HI _).1 y.holds).1.c 11 rfl;have hyx:=fun y:zh I=>((HI _).1 y.holds).1.c 12 rfl;have hyp:=fun y:zh I=>((HI _).1 y.holds).2.1;have hys:=fun y:zh I=>((HI _).1 y.holds).2.2;have hne:Nonempty (zh I):=⟨⟨_,hI0⟩⟩;refine zH (I:=I) 19 [(17,fun v=>v=Xi #[U8 c0,U8 c1,U8 c2,U8 c3,U8 c4,U8 c5,U8 c6,U8 c7]),(18,fun _=>True)] (fun u=>zc W1 u) hI0 hF0 zY Kr rfl rfl Dc (Sb ⟨_,rfl⟩ ⟨undef,trivial⟩) Kr ?_;simp only[Oi,Oj];iterate 3 (refine ZS rfl rfl rfl (fun K hK=>?_);go_big_quiet_op;refine hK _ ?_;clear hK K)
 refine zQ (.tmp 7) ⟨k,0,Xb⟩ rfl rfl rfl rfl ?_;simp only[Yx,sB,sS,sZ];iterate 13 (refine ZS rfl rfl rfl (fun K hK=>?_);go_big_quiet_op;refine hK _ ?_;clear hK K)
 refine zy rfl rfl (fun _ u=>zc W1 u) (fun w' hI' hF'=>?_) (fun v1 hv=>?_);·refine zO.call [Xi #[U8 b0,U8 b1,U8 b2,U8 b3,U8 b4,U8 b5,U8 b6,U8 b7],I6 (s-(ix:Int)*8)] rfl func162 rfl rfl rfl ?_;refine(HC w').mono ?_;rintro e w''⟨rfl,g2⟩;obtain⟨i1,i2,i3⟩:=(HI _).1 hI';have gg:=G1.trans (hF'.trans g2);exact⟨_,rfl,(HI _).2 ⟨i1.aA g2,X7 _ gg,HCC _ gg⟩,rfl,hF'.trans g2⟩
 subst hv;simp only[Yx,sB,sS,sZ];refine zy rfl rfl (fun _ u=>zc w u/\Box u (b+1) (pgc [c0,c1,c2,c3,c4,c5,c6,c7])) (fun w' hI' hF'=>?_) (fun v1 hv=>?_)
 ·refine ZM 44 (.tmp 4) (.tmp 22) rfl (b+1) 0 rfl (Xi #[U8 c0,U8 c1,U8 c2,U8 c3,U8 c4,U8 c5,U8 c6,U8 c7]) rfl [U8 c0,U8 c1,U8 c2,U8 c3,U8 c4,U8 c5,U8 c6,U8 c7] rfl (Z1.aA hF') (by simp[pgc,zt]) Kr (by simp[Value.oneCell']) ?_
  intro W9 bx9 gr9 _;have g9:zc w W9:=zd (G1.trans hF') gr9 (Hm HB.out);obtain⟨i1,i2,i3⟩:=(HI _).1 hI';exact⟨(HI _).2 ⟨i1.grown gr9 Wm,X7 _ g9,HCC _ g9⟩,trivial,g9,bx9.box⟩
 clear hv;try simp only[Yx]
 refine qE fun W9 hI8 hF8=>?_;have G9:Xo (zc w W9):=hF8.1;have B9:Xo (Box W9 (b+1) (pgc [c0,c1,c2,c3,c4,c5,c6,c7])):=hF8.2;clear hI8 hF8 hI0 hF0 hy0 hy1 hy2 hy3 hy4 hy5 hy6 hy7 hyf hyx hyp hys hne gd;go_wp2;refine bodyPost_ret (z8 rfl _ rfl B9 underlying44 rfl zsZ) rfl ⟨rfl,by first|trivial|rfl,G9⟩
theorem zpM(n:ChW w0 k w V m)(p:Nat)(f:Fr)(ak:m.fs[p]?=Xa f)(fi ix:Nat)(F:Fl)(a1:f.f=(fi:Int))(q:f.x=(ix:Int))(ba:m.fl[fi]?=Xa F)(bg:0<=F.size/\F.size<=96)(hi:ix<=12):
  Xp prog 198 #[Xj (Xa ⟨k,0,Xb⟩),I6 (p:Int)] w fun e w'=>e=Xl (Xh (decide (zbi m.fl m.cnt fi ix=0)))/\zfq w0 k w V (wrM m (Z8 (pgL f.p) (ix:Int) F.size) fi ix) w':=by
 have am:=dD n;have g:Xo (∀W,zc w W->Xp prog 196 #[Xj (Xa ⟨k,0,Xb⟩),Xi (frv f).toArray] W fun e w'=>e=Xl (Xi (pgc (Z8 (pgL f.p) (ix:Int) F.size)).toArray)/\zc W w'):=show∀W,_ from fun W Z=>(zc8 (n.aA Z) f fi ix F a1 q ba bg hi).mono fun e w' al=>⟨al.1,al.2.2⟩;have s:(Z8 (pgL f.p) (ix:Int) F.size).length=8:=by unfold Z8;simp[pgL]
 obtain⟨a7,a5⟩:=kA (wrM m (Z8 (pgL f.p) (ix:Int) F.size) fi ix);obtain⟨a8,a6⟩:=kA (decide (zbi m.fl m.cnt fi ix=0));have h:Xo (∀W,zc w W->Xp prog 204 #[Xj (Xa ⟨k,0,Xb⟩),Xi (pgc (Z8 (pgL f.p) (ix:Int) F.size)).toArray,I6 (fi:Int),I6 (ix:Int)] W fun e w'=>e=Xl (Xh a8)/\zfq w0 k W V a7 w'):=dD<|fun W Z=>by
  rw[<-a5.out,<-a6.out];exact zeL (n.aA Z) _ s (fi:Int) (ix:Int)
 rw[a5.out,a6.out];have v:¬Dw k V w.heap.size:=fun e=>absurd (n.bA _ e) Wm;obtain⟨cb,-⟩:=n.at.ns;obtain⟨c8,bc,bd⟩:=n.at.bC p f ak;have Q:=dD bc;have R:=dD bd;have be:(p:Int)<(V.f.n:Int):=by
  have:=(gS.1 ak).1;omega
 obtain⟨a9,aa,ab,ac,ae,af,ag,ah,a0⟩:=zc2 _ s;rw[a0]at g h;obtain⟨⟨z,A,B,C,D,E,G,H⟩,L,M,K,c9,ca⟩:=f;dsimp only at a1 q;subst a1;subst q;simp only[pgc,frv,mP,Yn]at g h;have bw:=am.box.box.c 0 rfl;rw[Q.out]at bw;obtain⟨ap,aq,ar,au,av,aw,ax,ay,az,b8,S,T,U⟩:=R.out w (zc.refl _);dsimp only at ap aq ar au av aw ax ay az b8 S T U;go_enter func198,ntmps198;go_upto_region 2 with fail;obtain⟨c,P⟩:=kA w.heap.size;refine nW fun l j=>?_;have N:=gA j;have ao:=xPT j P;rw[P.out];rw[P.out]at v;have aj:zc l l.drew:=show Below _ _ _ from(bR _ _).drew;obtain⟨b,a⟩:=Ww fun u=>zm u c 53 [U8 z,U8 A,U8 B,U8 C,U8 D,U8 E,U8 G,U8 H,I6 L,Xh M,Xh K,I6 (fi:Int),I6 (ix:Int)];have r:=(a _).2 (ao.aA aj);have X:zc l l.drew:=aj;have bh:=fun y:zh b=>((a _).1 y.holds).box.c 0 rfl;have bi:=fun y:zh b=>((a _).1 y.holds).box.c 1 rfl;have bj:=fun y:zh b=>((a _).1 y.holds).box.c 2 rfl;have bk:=fun y:zh b=>((a _).1 y.holds).box.c 3 rfl;have bl:=fun y:zh b=>((a _).1 y.holds).box.c 4 rfl;have bm:=fun y:zh b=>((a _).1 y.holds).box.c 5 rfl;have bn:=fun y:zh b=>((a _).1 y.holds).box.c 6 rfl;have bo:=fun y:zh b=>((a _).1 y.holds).box.c 7 rfl;have br:=fun y:zh b=>((a _).1 y.holds).box.c 8 rfl;have bs:=fun y:zh b=>((a _).1 y.holds).box.c 9 rfl;have bp:=fun y:zh b=>((a _).1 y.holds).box.c 10 rfl;have bq:=fun y:zh b=>((a _).1 y.holds).box.c 11 rfl;have bt:=fun y:zh b=>((a _).1 y.holds).box.c 12 rfl;have bf:Nonempty (zh b):=⟨⟨_,r⟩⟩;refine zH (I:=b) 9 [(3,fun a3=>a3=Xi #[U8 a9,U8 aa,U8 ab,U8 ac,U8 ae,U8 af,U8 ag,U8 ah]),(8,fun a3=>a3=Xh a8)] (fun u=>zc l u) r X zY Kr rfl rfl Dc (Sb ⟨_,rfl⟩ ⟨_,rfl⟩) Kr ?_;simp only[Oi,Oj];iterate 3 refine zg ?_
 refine zy rfl rfl (fun _ u=>zc l u) (fun w' i d=>?_) (fun bv a2=>?_);·refine zO.call [Xj (Xa ⟨k,0,Xb⟩),Xi #[U8 z,U8 A,U8 B,U8 C,U8 D,U8 E,U8 G,U8 H,I6 L,Xh M,Xh K,I6 (fi:Int),I6 (ix:Int)]] rfl func196 rfl rfl rfl ?_;refine(g w' (N.trans d)).mono ?_;rintro e a4⟨rfl,ai⟩;exact⟨_,rfl,(a _).2 (((a _).1 i).aA ai),rfl,d.trans ai⟩
 subst a2;refine Uq ?_;iterate 4 refine zg ?_
 refine zy rfl rfl (fun _ u=>zfq w0 k w V a7 u) (fun w' i d=>?_) (fun bv a2=>?_);·refine zO.call [Xj (Xa ⟨k,0,Xb⟩),Xi #[U8 a9,U8 aa,U8 ab,U8 ac,U8 ae,U8 af,U8 ag,U8 ah],I6 (fi:Int),I6 (ix:Int)] rfl func204 rfl rfl rfl ?_;refine(h w' (N.trans d)).mono ?_;rintro e a4⟨rfl,t⟩;have b9:=zfq.aH (N.trans d) t;obtain⟨bx,_,_,bu,_⟩:=t;exact⟨_,rfl,(a _).2 (((a _).1 i).chg bu v),rfl,b9⟩
 subst a2;refine Uq ?_;refine qE fun bz bb Y=>?_;have an:=dD Y;go_wp2;go_ret;exact⟨rfl,an⟩
theorem zrx(m:Ma)(pg)(file idx:Int):(wrM m pg file idx).fs=m.fs/\(wrM m pg file idx).aB=m.aB/\(wrM m pg file idx).ca=m.ca/\(wrM m pg file idx).sp=m.sp/\(wrM m pg file idx).sl=m.sl:=by grind[wrM]
theorem zmR(e x)(g:o.op=.load e x)(b c:Nat)(i:a.eval x=Xj (Xa ⟨b,c,Xb⟩))(vs:List Xq)(f:w.rangeAt b c vs){d:TypeDesc}(h:Tryz.prog.underlying e=Xa d)(hd:d.isRow=Xc)(hi:(Tryz.prog.info? e).map (·.size)=Xa vs.length):(execOp a.eval o).run prog w=.ok (.value (Xi vs.toArray)) w:=by have:=run_loadAt_mid (P:=prog) w b c e vs d f h hd hi;simp only[execOp,g,i,Yd,this,rA,Ye]
theorem zlf(f x)(i:o.op=.load f x)(b c:Nat)(j:a.eval x=Xj (Xa ⟨b,c,Xb⟩))(v)(h:w.cell? ⟨b,c,Xb⟩=Xa v){d:TypeDesc}(g:Tryz.prog.underlying f=Xa d)(hd:d.isRow=Xd):(execOp a.eval o).run prog w=.ok (.value v) w:=by
 have e:(isAgg f).run prog w=.ok Xd w:=by
  unfold isAgg;rw[Yd,run_underlying g w];cases d<;>simp_all [TypeDesc.isRow]
 have g:(loadVar f ⟨b,c,Xb⟩).run prog w=.ok v w:=by simp[loadVar,Yd,e,h]
 simp only[execOp,i,j,Instr.loadAt,Instr.sureAddr,Yd,Ye,g,rA]
theorem zqE(h:k<8):J2[k]?=Xa (eS):=by
 match k,h with
 |0,_|1,_|2,_|3,_|4,_|5,_|6,_|7,_=>rfl
theorem zjb(vs:List Xq)(t:List (List En))(w)(C:JT w vs t):
  Xp prog 40 #[Xi vs.toArray,Xi #[eS,eS,eS,eS,eS,eS,eS,eS]] w fun e w'=>e=Xl (Xh (t.all (·.isEmpty)))/\zc w w':=by
 have T:=dD C;have z:=dD C.aL;clear C;obtain⟨k,b⟩:=kA (t.all (·.isEmpty));rw[b.out];obtain⟨v,c⟩:=kB ((w.alloc (Xk vs.toArray 61)).alloc (Xk J2.toArray 61));have m:=gD2 c;have M:=x2a c;have V:=x2b c;have A:=dD c;clear c;go_enter func40,ntmps40;go_upto_region 1 with fail;have R:(w.alloc (Xk vs.toArray 61)).alloc (Xk #[eS,eS,eS,eS,eS,eS,eS,eS] 61)=v:=A.out;rw[R];clear R;go_wp2;go_loopg[7] 8 (fun W I wr=>∃a:Nat,a<=8/\8-a<=W/\I=I6 a/\Xo (zc v wr)/\Xo (∀(j:Nat)h,j<a->t[j]?=Xa h->h=[]))
 exact⟨0,nZ _,Wm,rfl,zc.refl _,fun j h r=>absurd r (nL _)⟩;obtain⟨a,X,a2,rfl,l,L⟩:=hrel;by_cases s:a<8
 ·have u:(a:Int)<8:=Wm
  obtain⟨a3,a4,S,P,i,Q⟩:=T.half s;have g:=Q.short;have K:=dD P;obtain⟨D,d⟩:=kA S.length;rw[d.out]at i g;have n:=dD i;clear Q P i;have G:=(M.aA l).c a n.out;have a0:=(V.aA l).c a (zqE s);by_cases p:D=0
  ·subst p;have B:Xo (∀(j:Nat)h,j<a+1->t[j]?=Xa h->h=[]):=dD<|fun j h r q=>by
    by_cases e:j=a;·subst e;rw[K.out]at q;cases q;exact eN d.out
    exact L j h Wm q
   go_wp2;go_quiet(fail);obtain⟨U,f⟩:=kB (wr.drewN nq);have H:Xo (zc v U):=dD (by rw[<-f];exact l.trans (show Below _ _ _ from bD (bR _ _) _));rw[f];clear f G a0;have G:=(M.aA H).c a n.out;go_wp2;go_loopg[23] 0 (fun a1 E F=>E=I6 0/\Xo (zc v F))
   exact⟨rfl,H⟩;obtain⟨rfl,x⟩:=hrel;clear G;go_wp2;go_roundg (8-(a+1));exact⟨a+1,Wm,Wm,Gn,x,B⟩;omega
  have Y:((D:Int)!=0)=Xc:=by simp[p]
  have y:Xo (k=Xd):=dD<|by
   rw[<-b.out];cases e:t.all (·.isEmpty)with
   |false=>rfl
   |true=>
    have:=List.all_eq_true.1 e S (mG K);have N:=d.out;rw[List.isEmpty_iff]at this;rw[this]at N;exact absurd N.symm p
  have Z:(D !=0)=Xc:=by simp[p]
  clear p;go_wp2;go_quiet(fail);go_wp2;go_ret;exact⟨Rr y.out,m.trans (l.trans (show Below _ _ _ from bD (bR _ _) _))⟩
 have u:¬(a:Int)<8:=Wm;have y:Xo (k=Xc):=dD<|by
  rw[<-b.out,List.all_eq_true];intro h q;obtain⟨j,r⟩:=Xv q;rw[L.out j h (by have:=(gS.1 r).1;have:=z.out;omega) r];rfl
 go_wp2;go_ret;exact⟨Rr y.out,m.trans l⟩
theorem zd1(a)(c:Nat)(fs:List Fr)(h:Int)(w)(E:zq q3 w (O a fs.length c) fs):
  Xp prog 73 #[Xi #[O a fs.length c,I6 h]] w fun e w'=>e=Xl (I6 (ZR fs h))/\zc w w':=by
 have x:=E.short;obtain⟨a1,a3,D,l⟩:=E.bC;cases D;have S:=dD l;clear l E;have t:Xo (ZR fs h=if 40<fs.length then 4 else if zcO fs=0 then(if inB h (max fs.length 1)then 0 else 3)else zcO fs):=rfl;obtain⟨n,C⟩:=kA fs.length;rw[C.out]at x t⊢;obtain⟨T,k⟩:=kB (w.alloc (Xk #[O a n c,I6 h] 28));have f:=gA k;have K:=xA k;have u:=dD k;clear k;by_cases j:40<n
 ·have v:=kC j
  go_enter func73,ntmps73;go_wp2;go_ret;exact⟨by rw[t.out,kE j];rfl,Rx u.out f⟩
 have v:=kD j;rw[kF j]at t;go_enter func73,ntmps73;go_wp2;rw[u.out];go_loopg[4,5,13] n (fun Y _ _ F wr=>∃b:Nat,b<=n/\n-b<=Y/\F=I6 b/\Xo (zc T wr)/\Xo (zcO (fs.drop b)=zcO fs))
 exact⟨0,nZ _,Wm,rfl,zc.refl _,rfl⟩;obtain⟨b,I,ah,rfl,i,B⟩:=hrel;by_cases s:b<n
 ·have A:=kC s
  obtain⟨q,H⟩:∃q,Xo (fs[b]?=Xa q):=⟨_,gE (Rx C.out s)⟩;obtain⟨a2,rfl,N⟩:=S.out b q H.out;obtain⟨a4,a5,a6,a7,a8,a9,aa,ab,ac,ae,U,V,X⟩:=N wr (f.trans i);have g:∀W,Xp prog 116 #[Xi #[U8 q.p.b0,U8 q.p.b1,U8 q.p.b2,U8 q.p.b3,U8 q.p.b4,U8 q.p.b5,U8 q.p.b6,U8 q.p.b7,I6 q.r,Xh q.u,Xh q.d,I6 q.f,I6 q.x]] W fun e w'=>e=Xl (I6 (frW q))/\zc W w':=fun W=>zcC q W;have p:Xo (zcO (fs.drop b)=if frW q=0 then zcO (fs.drop (b+1))else frW q):=dD<|by
   obtain⟨z,rfl⟩:=gS.1 H.out;rw[Yr z];rfl
  clear N;generalize frW q=G at g p;by_cases m:G=0
  ·have Q:Xo (zcO (fs.drop (b+1))=zcO fs):=dD<|by rw[<-B.out,p.out,kE m]
   subst m;go_wp2_with(go_at_call 116;refine(g _).mono ?_;rintro e w'⟨rfl,r⟩)
   go_roundg (n-(b+1));exact⟨b+1,Wm,Wm,Gn,(i.trans (za _ _)).trans r,Q⟩;omega
  have a0:(G !=0)=Xc:=Si m;have R:Xo (ZR fs h=G):=dD<|by
   have L:=B.out;rw[p.out,kF m]at L;rw[t.out,<-L,kF m]
  skip
  go_wp2_with(go_at_call 116;refine(g _).mono ?_;rintro e w'⟨rfl,r⟩)
  go_ret;exact⟨Rr R.out,((f.trans i).trans (za _ _)).trans r⟩
 have A:=kD s;have:b=n:=Wm;subst this;obtain⟨af,ag⟩:=(K.aA i).k2;have m:zcO fs=0:=by rw[<-B.out,List.drop_of_length_le (by rw[C.out];exact nR _)];rfl
 have d:Xo (ZR fs h=if inB h (max b 1)then 0 else 3):=dD<|by rw[t.out,kE m]
 clear m;by_cases y:h=0
 ·subst y;rw[show inB 0 (max b 1)=Xc from by simp[inB];omega,kE rfl]at d;go_wp2;go_ret;exact⟨Rr d.out,f.trans i⟩
 have M:(h !=0)=Xc:=by simp[y]
 by_cases P:h<0
 ·rw[show inB h (max b 1)=Xd from by simp[inB];omega,kF Dc]at d
  go_wp2;go_ret;exact⟨Rr d.out,f.trans i⟩
 by_cases Z:(b:Int)<=h
 ·rw[show inB h (max b 1)=Xd from by simp[inB];omega,kF Dc]at d
  go_wp2;go_ret;exact⟨Rr d.out,f.trans i⟩
 rw[show inB h (max b 1)=Xc from by simp[inB];omega,kE rfl]at d;go_wp2;go_ret;exact⟨Rr d.out,f.trans i⟩
theorem zgo(a)(c:Nat)(s:List Int)(w)(B:zq slE w (O a s.length c) s):
  Xp prog 74 #[O a s.length c] w fun e w'=>e=Xl (I6 (slW s))/\zc w w':=by
 have m:Xo (slW s=if 60<s.length then 4 else if s.any zbM then 3 else 0):=rfl;have r:=B.short;obtain⟨P,R,A,h⟩:=B.sls;cases A;have F:=dD h;clear h B;obtain⟨n,x⟩:=kA s.length;rw[x.out]at m r⊢;by_cases f:60<n
 ·have p:=kC f
  have k:Xo (slW s=4):=dD<|by rw[m.out,kE f]
  skip
  go_enter func74,ntmps74;go_wp2;go_ret;exact⟨Rr k.out,zc.refl _⟩
 have p:=kD f;rw[kF f]at m;go_enter func74,ntmps74;go_wp2;go_loopg[4,10] n (fun G _ N wr=>∃b:Nat,b<=n/\n-b<=G/\N=I6 b/\Xo (zc w wr)/\Xo (∀j q,j<b->s[j]?=Xa q->zbM q=Xd))
 exact⟨0,nZ _,Wm,rfl,zc.refl w,fun j q t=>absurd t (nL _)⟩;obtain⟨b,L,T,rfl,l,C⟩:=hrel;by_cases i:b<n
 ·have u:=kC i
  obtain⟨q,y⟩:∃q,Xo (s[b]?=Xa q):=⟨_,gE (Rx x.out i)⟩;obtain⟨Q,rfl,D⟩:=F.out b q y.out;have S:=D wr l.out;clear D;by_cases g:zbM q=Xc
  ·have k:Xo (slW s=3):=dD<|by rw[m.out,zqd y.out g];rfl
   skip
   by_cases H:q<0;·clear g;go_wp2;go_ret;exact⟨Rr k.out,l⟩
   have K:1000<q:=(by simp[zbM]at g;omega);clear g;go_wp2;go_ret;exact⟨Rr k.out,l⟩
  have v:zbM q=Xd:=Si g;have E:Xo (∀(j:Nat)q,j<b+1->s[j]?=Xa q->zbM q=Xd):=dD<|fun j M t d=>by
   by_cases e:j=b;·subst e;rw[y.out]at d;cases d;exact v
   exact C j M Wm d
  have H:¬q<0:=by intro z;exact g (by simp[zbM,z])
  have K:¬1000<q:=by intro z;exact g (by simp[zbM,z])
  clear g v;go_wp2;go_roundg (n-(b+1));exact⟨b+1,Wm,Wm,Gn,l,E⟩;omega
 have u:=kD i;have:b=n:=Wm;subst this;have k:Xo (slW s=0):=dD<|by
  rw[m.out,zqc (fun j q t=>C.out j q (by rw[<-x.out];exact(gS.1 t).1) t)];rfl
 go_wp2;go_ret;exact⟨Rr k.out,l⟩
def bov(b:Bool):List Xq:=[Xh b]
theorem zs3:(Tryz.prog.info? 4).map (fun i=>(i.zero,i.size,i.bytes))=Xa (Xa (Xh Xd),1,1):=by kernel_rfl
def boE:Elt Bool where
 enc:=bov
 k:=1
 ty:=4
 st:=153
 bytes:=1
 zv:=Xh Xd
 zero:=false
 len:=fun _=>rfl
 one:=fun a u hu=>by
  simp only[bov,mC,nM,or_false]at hu;subst hu;rfl
 bL:=underlying153
 aF:=zs3
 zok:=rfl
 few:=by decide
 pos:=by decide
def zal(n:Nat)(g:List Int):List Bool:=(Yw n).map fun(i:Nat)=>g.contains (i:Int)
theorem zkq(g:List Int)(hi:b<k):(zal k g)[b]?=Xa (g.contains (b:Int)):=by unfold zal;rw[Ya,List.getElem?_range hi];rfl
theorem zhT(n:Nat)(g):(zal n g).length=n:=by simp[zal]
theorem zm9(g)(hi:b<k):(zal k g).set b Xc=zal k ((b:Int)::g):=by apply Xw;grind[sF,zhT,zkq,sN,Nat.lt_or_ge,gN]
theorem zna(n:Nat):zal n []=Xr n Xd:=by unfold zal;simp[List.map_const']
theorem zfY{l:List On}(y:On)(h:j<l.length):splice (zD l) (j*6) (onv y)=zD (l.set j y):=JD (enc:=onv) (k:=6) y rfl l j (fun _ _=>rfl) h
theorem Qs{l:List On}{e:On}(h:l[j]?=Xa e)(i:Nat)(u)(a:(onv e)[i]?=Xa u):(zD l)[j*6+i]?=Xa u:=jB (enc:=onv) (k:=6) l j e (fun _ _=>rfl) h i u a
theorem Zj(f:Nat->On):(zD (tab f)).length=384:=by rw[zmd,Ju]
theorem zfs{c:Oper}(d:c.guard=Xb)(p x)(e:c.op=.store 67 p x)(b k:Nat)(g:k<64)(hp:a.eval p=Xj (Xa ⟨b,k*6,Xb⟩))(y:On)(i:a.eval x=Xi (onv y).toArray)
  {f:Nat->On}(hb:Box w b (zD (tab f)))
  (h:∀w',Box w' b (zD (tab (upd f k y)))->w.grownBy w' (Xa b)->w'.heap.size=w.heap.size->wpList prog ops Q K (a.put c.dst undef) w'):wpList prog ops Q (c::K) a w:=by refine ziV d 67 p x e b (k*6) hp (onv y) i hb (by rw[Zj];show _+6<=_;omega) zsQ (zm0 y) fun w' c d e=>h w' ?_ d e;rw[zfY y (Rx Ju g),zi3]at c;exact c
theorem Box.onCell(h:Box w b (zD (tab F)))(d:k<64)(i:Nat)(u)(y:On)(c:(onv (F k)).set i u=onv y)(hi:i<6):Box (w.setCell ⟨b,k*6+i,Xb⟩ u) b (zD (tab (upd F k y))):=by
 have a:=h.set (k*6+i) u;have:(zD (tab F)).set (k*6+i) u=zD (tab (upd F k y)):=by
  rw[<-zi3,<-zfY y (Rx Ju d),<-c];have c:=Zj F;apply Xw;intro j;unfold splice;have c:((onv (F k)).set i u).length=6:=by simp[onv]
  rw[c];by_cases a:j<k*6;·grind
  have a:((zD (tab F)).take (k*6)).length=k*6:=by simp;omega
  rw[aR Wm,a];by_cases a:j<k*6+6
  ·rw[Ys (by rw[c];omega)]
   have a:∀a,a<6->(zD (tab F))[k*6+a]?=(onv (F k))[a]?:=fun a c=>by
    obtain⟨v,e⟩:∃v,(onv (F k))[a]?=Xa v:=⟨_,gE (by simpa[onv]using c)⟩;rw[e];exact Qs (zau d) a v e
   grind
  grind
 grind
theorem zih{cs:List Xq}{o k:Nat}(a:vs.length=k)(h:∀(i:Nat)u,vs[i]?=Xa u->cs[o+i]?=Xa u):cs.toArray.extract o (o+k)=vs.toArray:=by apply Array.ext_getElem?;grind
theorem zkk{f:Nat->On}(i:Nat)(hi:i<64):(Instr.index 68 (Xi (zD (tab f)).toArray) (I6 (i:Int))).run prog w=.ok (Xi (onv (f i)).toArray) w:=by
 have e:(isAgg 67).run prog w=.ok Xc w:=by
  unfold isAgg;rw[Yd,run_underlying underlying67 w];rfl
 have g:(Go.sizeOf 67).run prog w=.ok 6 w:=by
  obtain⟨a,c,d⟩:∃a,Tryz.prog.info? 67=Xa a/\a.size=6:=by
   have:=zsQ;cases b:Tryz.prog.info? 67 with
   |none=>rw[b]at this;cases this
   |some a=>rw[b]at this;exact⟨a,rfl,by simpa using this⟩
  simp[Go.sizeOf,typeInfo,c,d]
 have a:(0:Int)<=(i:Int)/\(i:Int)<((64:Nat):Int):=Wm;have c:(zD (tab f)).toArray.extract (i*6) (i*6+6)=(onv (f i)).toArray:=zih rfl fun j u b=>Qs (zau hi) j u b;simp only[Instr.index,asIntOf,Yd,Ye,rA,run_underlying underlying68];rw[kE a];simp only[Yd,g,rA,part,e,if_true,tN,Ye,c]
theorem zqm(b:o.guard=Xb)(x ix)(d:o.op=.index 68 x ix)(f:Nat->On)(e:a.eval x=Xi (zD (tab f)).toArray)(i:Nat)(c:a.eval ix=I6 (i:Int))(hi:i<64)
  (h:wpList prog ops Q K (a.put o.dst (Xi (onv (f i)).toArray)) w):wpList prog ops Q (o::K) a w:=by refine wpList_plain b fun rest b=>?_;unfold Oper.wp execOp;simp only[d,e,c,Yd,Ye,rA,zkk i hi];exact b _ _ h
theorem zds(b:o.guard=Xb)(x ix)(d:o.op=.index 68 x ix)(f:Nat->On)(g:a.eval x=Xi (zD (tab f)).toArray)(i:Nat)(c:a.eval ix=I6 (i:Int))(hi:i<64)(e:Xi (onv (f i)).toArray=A)
  (h:wpList prog ops Q K (a.put o.dst A) w):wpList prog ops Q (o::K) a w:=zqm b x ix d f g i c hi (Rx e h)
theorem zmA(c:o.guard=Xb)(x)(e:o.op=.load 67 x)(b k:Nat)(d:k<64)(g:a.eval x=Xj (Xa ⟨b,k*6,Xb⟩))(hb:Box w b (zD (tab F)))
  (h:wpList prog ops Q K (a.put o.dst (Xi (onv (F k)).toArray)) w):wpList prog ops Q (o::K) a w:=
 wpList_load_mid c 67 x e b (k*6) g (onv (F k)) _ (hb.mid _ fun j u c=>Qs (zau d) j u c) underlying67 rfl zsQ h
theorem zft(c:o.guard=Xb)(x)(e:o.op=.load 67 x)(b k:Nat)(d:k<64)(i:a.eval x=Xj (Xa ⟨b,k*6,Xb⟩))(hb:Box w b (zD (tab F)))(g:Xi (onv (F k)).toArray=A)
  (h:wpList prog ops Q K (a.put o.dst A) w):wpList prog ops Q (o::K) a w:=zmA c x e b k d i hb (Rx g h)
theorem zr6:(Tryz.prog.info? 68).map (·.zero)=Xa (Xa (Xi (zD (tab fun _=>on0)).toArray)):=by kernel_rfl
theorem zbW(w):(zeroValue 68).run prog w=.ok (Xi (zD (tab fun _=>on0)).toArray) w:=by
 have h:=zr6;cases a:Tryz.prog.info? 68 with
 |none=>simp[a]at h
 |some i=>
  simp[a]at h;simp[zeroValue,typeInfo,a,h]
def zrG(f:Nat->On):Nat->Ar:=fun n=>zbp n (f n)
def zlr(l:List Ar)(i:Nat)(a:Ar)(n:Nat):Nat->On:=fun j=>if a.fr<=(j:Int)/\(j:Int)<(n:Int)then qq a j else zr (l.take i) j
theorem Jh.take:∀{l:List Ar}{p:Option Ar},Jh p l->∀i,Jh p (l.take i)
 |[],_,_,i=>by simp[Jh]
 |a::l,p,h,0=>by simp[Jh]
 |a::l,p,h,i+1=>⟨h.1,h.2.1,h.2.2.take i⟩
theorem Jh.free(h:Jh Xb l)(d:l[k]?=Xa H)(b:H.fr<=(j:Int)):zr (l.take k) j=on0:=by
 refine zb4 fun x c=>zeW ?_;have b:=h.take (k+1);rw[jU d]at b;obtain⟨d,e,f⟩:=zaT.1 b;cases b:zaG Xb (l.take k)with
 |none=>
  unfold zaG at b;cases e:l.take k with
  |nil=>rw[e]at c;cases c
  |cons y g=>rw[e]at b;simp[List.getLast?_cons]at b
 |some y=>
  have q:=(f y b).1;have e:jS y:=d.all y (by grind[zaG,List.mem_of_getLast?]);unfold jS at e;rcases zgA _ Xb d x c y b with e|e;·grind
  omega
theorem zm7(n:(b:Int)=H.fr):zlr l k H b=zr (l.take k):=by funext j;unfold zlr;rw[kF Wm]
def zrv(l:List Ar):Prop:=(∀a∈l,jS a)/\∀(i:Nat)a,l[i]?=Xa a->∀j:Nat,a.fr<=(j:Int)->zr (l.take i) j=on0
theorem Jh.cG(h:Jh Xb l):zrv l:=⟨h.all,fun _ _ a _ b=>h.free a b⟩
theorem zpe{a:Ar}(hb:jS H)(c:jS a)(d:H.tz<=a.fr):zrv [H,a]:=by
 refine⟨fun x c=>?_,fun i x c j c=>?_⟩;·grind
 grind[zr,on0,zb3]
theorem zpf(b:jS H):zrv [H]:=by
 refine⟨fun x b=>?_,fun i x b j c=>?_⟩;·grind
 match i with
 |0=>rfl
 |k+1=>simp at b
theorem zm8{i:Nat}{a:Ar}{n:Nat}(b:a.fr<=(n:Int)):upd (zlr l i a n) n (qq a n)=zlr l i a (n+1):=by grind[upd,zlr]
theorem zo8(h:zrv l)(c:l[k]?=Xa H)(n:(b:Int)=H.tz):zlr l k H b=zr (l.take (k+1)):=by
 funext j;unfold zlr;rw[jU c,zaE]
 ·by_cases n:H.fr<=(j:Int)/\(j:Int)<(b:Int)
  ·rw[kE n,kE (q7.2 Wm)]
  rw[kF n,kF (fun d=>n (Hm (q7.1 d)))]
 by_cases n:H.fr<=(j:Int);·exact .inl (h.2 k H c j n)
 grind[zeW]
theorem zqp(f:Nat->α)(k:Nat)(x y:α):upd (upd f k x) k y=upd f k y:=by grind[upd]
theorem Zo(v l w)(f:zq arE w v l)(c:zrv l):
  Xp prog 16 #[v] w fun e w'=>e=Xl (Xi (zD (tab (zr l))).toArray)/\zc w w':=by
 have d:=f.short;obtain⟨b,b,rfl,b⟩:=f.aC;have h:=dD b;have u:=dD c;clear b f c;have g:=zbW;obtain⟨j,c⟩:=kA (zD (tab fun _=>on0));rw[c.out]at g;have y:Xo (j.length=384):=dD<|by rw[<-c.out,Zj]
 obtain⟨E,G⟩:=kA (zD (tab (zr l)));rw[G.out];obtain⟨r,N⟩:=kA l.length;rw[N.out]at d⊢;obtain⟨f,b⟩:=kB ((w.alloc (Xk j.toArray 68)).alloc (Xk j.toArray 68));have d:=gD2 b;have m:Xo (Box f w.heap.size j):=dD<|by rw[<-b];exact(Box.aE _ _ _ Sm).alloc _
 have k:Xo (Box f (w.heap.size+1) (zD (tab (zr (l.take 0))))):=dD<|by rw[<-b,List.take_zero,show zr ([]:List Ar)=fun _=>on0 from rfl,c.out];exact Box.aE _ _ _ Sm
 have c:=dD b;clear b;go_enter func16,ntmps16;go_upto_region 2 with fail;rw[c.out];clear g;go_wp2;go_loopg[9] r (fun b f wr=>∃c:Nat,c<=r/\r-c<=b/\f=I6 c/\Xo (zc w wr)/\Xo (Box wr w.heap.size j)/\Xo (Box wr (w.heap.size+1) (zD (tab (zr (l.take c))))))
 exact⟨0,nZ _,Wm,rfl,d,m,k⟩;obtain⟨c,b,K,rfl,M,W,R⟩:=hrel;by_cases p:c<r
 ·have D:=kC p
  obtain⟨q,P⟩:∃q,Xo (l[c]?=Xa q):=⟨_,gE (Rx N.out p)⟩;obtain⟨b,rfl,f⟩:=h.out c q P.out;obtain⟨x,z,A,B,C,F,H⟩:=f wr M.out;have b:=dD<|u.1 q (mG P);have d:0<=q.fr/\q.fr<q.tz/\q.tz<=64/\0<=q.base/\q.base<=12:=by
   have:=b.out;unfold jS at this;rcases Int.lt_or_le q.file 0 with h|h;·omega
   omega
  obtain⟨b,b,b,b,b⟩:=d;obtain⟨L,d⟩:=kA wr.heap.size;have t:Xo (w.heap.size+1<L):=dD<|Ry d.out R.lt;clear f;go_upto_region 5 with fail;obtain⟨h,b⟩:=kB (wr.alloc (Xk #[I6 q.fr,I6 q.tz,Xh q.rd,Xh q.wr,Xh q.sh,I6 q.file,I6 q.base] 77));have k:=gT b M;have s:=yA b W;obtain⟨f,g⟩:∃f:Nat,(f:Int)=q.fr:=⟨q.fr.toNat,Wm⟩;have m:Xo (Box h (w.heap.size+1) (zD (tab (zlr l c q f)))):=dD (by rw[<-b,zm7 g];exact R.alloc _);have h:=xP b d;rw[b,d.out];clear b x z A B C F H;have S:=h.c 0 rfl;go_wp2;go_loopg[6] (q.tz.toNat-f) (fun x z d=>∃b:Nat,f<=b/\(b:Int)<=q.tz/\q.tz.toNat-b<=x/\z=I6 b/\Xo (zc w d)/\Xo (Box d w.heap.size j)/\Xo (Box d (w.heap.size+1) (zD (tab (zlr l c q b))))/\Xo (Box d L [I6 q.fr,I6 q.tz,Xh q.rd,Xh q.wr,Xh q.sh,I6 q.file,I6 q.base]))
  exact⟨f,nR _,Wm,Wm,by rw[g],k,s,m,h⟩;obtain⟨b,d,d,d,rfl,s,B,z,d⟩:=hrel;clear S;have Q:=d.c 1 rfl;by_cases f:(b:Int)<q.tz
  ·have h:b<64:=Wm
   have f:(b:Int)<64:=Wm;have x:Xo (upd (zlr l c q b) b (qq q b)=zlr l c q (b+1)):=zm8 (l:=l) (i:=c) (a:=q) (n:=b) Wm;obtain⟨_,_,f,X,Y,T⟩:=d.k6;go_wp2_with(refine zfs rfl (.tmp 31) (.tmp 30) rfl (w.heap.size+1) b h rfl ⟨Xc,q.rd,q.wr,q.sh,q.file,0⟩ rfl z.out ?_)
   intro k C m U;have H:=dD C;have F:Xo (zc w k):=zd s m Sm;have V:Xo (Box k w.heap.size j):=B.beside m (by intro g K;cases K;simp);have A:Xo (Box k L [I6 q.fr,I6 q.tz,Xh q.rd,Xh q.wr,Xh q.sh,I6 q.file,I6 q.base]):=d.beside m (by intro g K;cases K;have:=t.out;omega);clear C m U Q f X Y T;have T:=A.c 5 rfl;by_cases g:0<=q.file
   ·have f:Xo (qq q b=⟨Xc,q.rd,q.wr,q.sh,q.file,q.base+(b:Int)-q.fr⟩):=dD<|by
     unfold qq;rw[kE g];congr 1;omega
    have S:=A.c 0 rfl;have I:=A.c 6 rfl;have Y:=H.c (b*6+5) (Qs (zau h) 5 (I6 0) (by unfold upd;rw[kE rfl];rfl));have Z:=H.f;go_upto_region 7 with fail;obtain⟨K,d⟩:=kB (k.setCell ⟨w.heap.size+1,b*6+5,Xb⟩ (I6 (q.base+(b:Int)-q.fr)));have Q:Xo (Box K (w.heap.size+1) (zD (tab (zlr l c q (b+1))))):=dD<|by
     rw[<-d];have:=H.onCell h 5 (I6 (q.base+(b:Int)-q.fr)) (qq q b) (by rw[f.out];unfold upd;rw[kE rfl];rfl) Wm;rw[zqp,x.out]at this;exact this
    have h:Xo (zc w K):=dD (by rw[<-d];exact zB F Sm _);have X:Xo (Box K w.heap.size j):=dD (by rw[<-d];exact V.other Sm _);have j:Xo (Box K L [I6 q.fr,I6 q.tz,Xh q.rd,Xh q.wr,Xh q.sh,I6 q.file,I6 q.base]):=dD (by rw[<-d];exact A.other (by have:=t.out;simp;omega) _);rw[d];clear d Y Z S T I;go_wp2;go_roundg (q.tz.toNat-(b+1));exact⟨b+1,Wm,Wm,Wm,Gn,h,X,Q,j⟩;omega
   have f:Xo (qq q b=⟨Xc,q.rd,q.wr,q.sh,q.file,0⟩):=dD<|by
    unfold qq;rw[kF g]
   have Q:Xo (Box k (w.heap.size+1) (zD (tab (zlr l c q (b+1))))):=dD (by rw[<-x.out,f.out];exact H.out);go_wp2;go_roundg (q.tz.toNat-(b+1));exact⟨b+1,Wm,Wm,Wm,Gn,F,V,Q,A⟩;omega
  have f:(b:Int)=q.tz:=Wm;have d:Xo (Box wr (w.heap.size+1) (zD (tab (zr (l.take (c+1)))))):=dD (by rw[<-zo8 u.out P.out f];exact z.out);go_wp2;go_roundg (r-(c+1));exact⟨c+1,Wm,Wm,Gn,s,B,d⟩;omega
 have D:=kD p;have:c=r:=Wm;subst this;have d:Xo (Box wr (w.heap.size+1) E):=dD<|by rw[<-G.out];have:=R.out;rw[<-N.out,List.take_length]at this;exact this
 have b:Xo (E.length=384):=dD<|by rw[<-G.out,Zj]
 have c:Xo (∀v∈E,v.oneCell'=Xc):=dD<|by rw[<-G.out];exact JP _
 go_wp2_with(first|refine zE rfl 68 (.tmp 3) rfl (w.heap.size+1) rfl d underlying68 rfl (Rx b.out zsR) ?_|refine zn rfl 68 (.tmp 2) (.tmp 46) rfl w.heap.size rfl E rfl W (by rw[b.out,y.out]) (Rx y.out zsR) c.out ?_)
 intro k C m U;have F:Xo (zc w k):=dD<|zd M m Sm;have c:=dD C;clear C m U;go_wp2;refine bodyPost_ret (z8 rfl _ rfl c underlying68 rfl (Rx b.out zsR)) rfl ⟨rfl,F⟩
theorem zoZ(h:(F k).is=Xc):zrG F k=⟨k,(k:Int)+1,(F k).rd,(F k).wr,(F k).sh,(F k).file,(F k).page⟩:=by unfold zrG zbp;rw[kE h]
theorem zrQ(x y:On):zo2 ⟨y.is,y.rd,y.wr,y.sh,y.file,if 0<=x.file then y.page+1 else y.page⟩ x=goJ x y:=by grind[zo2,goJ]
theorem zcZ(f:Nat->On)(w:Xn)(I:zj4 f):
  Xp prog 117 #[Xi (zD (tab f)).toArray] w fun e w'=>(∃v,e=Xl v/\zb arE (w.heap.size+1) w' v (Q5 f))/\zc w w':=by
 have K:=dD I;clear I;have be:Xo ((zD (tab f)).length=384):=Zj _;obtain⟨Z,U⟩:=kB (w.alloc (Xk (zD (tab f)).toArray 68));have bf:=gA U;have b3:=xA U;have r:=sA U;have bj:Xo (_=Z):=U;clear U;go_enter func117,ntmps117;go_upto_region 1 with fail;rw[bj.out];go_wp2_with(refine zE rfl 68 (.tmp 1) rfl w.heap.size rfl b3 underlying68 rfl (Rx be.out zsR) ?_)
 go_loopg[3,9] 64 (fun cb ci cj wr=>∃(b:Nat)(a:List Ar)(a4:Option Addr)(C:Nat),b<=64/\64-b<=cb/\cj=I6 b/\ci=O a4 a.length C/\Xo (zc Z wr)/\Xo (zb arE (w.heap.size+1) wr (O a4 a.length C) a)/\Xo (J f b a))
 exact⟨0,[],Xb,0,nZ _,Wm,rfl,rfl,zc.refl _,zb.nil _ _ _,J.zero f⟩;obtain⟨b,a,a4,C,cf,cc,rfl,rfl,ar,bp,aj⟩:=hrel;by_cases X:b<64
 ·have b5:(b:Int)<64:=Wm
  have q:=dD aj.len;have ca:=dD (b3.aA ar);obtain⟨ab,bg⟩:=kA wr.heap.size;have bh:Xo (wr.heap.size<=ab):=show _<=_ by rw[bg.out];exact nR _
  cases ak:(f b).is with
  |false=>
   have a1:Xo (Value.agg (onv (f b)).toArray=Xi #[Xh Xd,Xh (f b).rd,Xh (f b).wr,Xh (f b).sh,I6 (f b).file,I6 (f b).page]):=dD (by rw[<-ak];rfl);have Q:=dD<|aj.skip ((K b X).1 ak);clear ak;go_wp2_with(refine zds rfl (.tmp 8) (.tmp 9) rfl f rfl b rfl X a1.out ?_)
   go_roundg (64-(b+1));exact⟨b+1,a,a4,C,Wm,Wm,Gn,rfl,ar.trans (za _ _),bp.aA (za _ _),Q⟩;omega
  |true=>
   have az:=dD ak;have ah:Xo (zbp b (f b)=⟨b,(b:Int)+1,(f b).rd,(f b).wr,(f b).sh,(f b).file,(f b).page⟩):=zoZ ak;have N:Xo ((∀c,a.getLast?=Xa c->goB (zbp b (f b)) c=Xd)->J f (b+1) (a++[zbp b (f b)])):=fun a3=>aj.new K X az a3;have a7:Xo (∀c0 c,a=c0++[c]->goB (zbp b (f b)) c=Xc->J f (b+1) (c0++[{c with tz:=(b:Int)+1}])):=fun c0 c T ap=>by
    have:=aj.out;rw[T]at this;exact this.ext K X az ap
   have a1:Xo (Value.agg (onv (f b)).toArray=Xi #[Xh Xc,Xh (f b).rd,Xh (f b).wr,Xh (f b).sh,I6 (f b).file,I6 (f b).page]):=dD (by rw[<-ak];rfl);clear ak;obtain⟨x,H⟩:=kA (f b);rw[H.out]at a1;have av:Xo (Value.agg (onv (f b)).toArray=Xi #[Xh Xc,Xh x.rd,Xh x.wr,Xh x.sh,I6 x.file,I6 x.page]):=dD<|Rx H.out a1.out;go_upto_region 5 with(refine zds rfl (.tmp 8) (.tmp 9) rfl f rfl b rfl X av.out ?_)
   obtain⟨b1,F⟩:=kB (wr.alloc (Xk #[Xh Xc,Xh x.rd,Xh x.wr,Xh x.sh,I6 x.file,I6 x.page] 67));have bc:=gT F ar;have bm:Xo (zb arE (w.heap.size+1) b1 (O a4 a.length C) a):=dD (by rw[<-F];exact bp.aA (za _ _));have a8:=xP F bg;have c9:=yA F ca;rw[F,bg.out];clear F;have c4:=a8.c 0 rfl;cases b with
   |zero=>
    have aw:=dD aj.first;have Q:Xo (J f (0+1) (a++[⟨((0:Nat):Int),((0:Nat):Int)+1,x.rd,x.wr,x.sh,x.file,x.page⟩])):=show J _ _ _ by
     have:=N.out (fun c aq=>by rw[aw.out]at aq;cases aq);rw[ah.out,H.out]at this;exact this
    go_upto_region 14 with fail;clear c4;have g:Xo (w.heap.size+1<=b1.heap.size):=dD (by rw[<-r.out];exact bS bc.out);obtain⟨_,b8,b9,ba,ac,bb⟩:=a8.k6;go_wp2_with(at_builtin;refine zw (E:=arE) rfl (.tmp 41) (.tmp 56) rfl (w.heap.size+1) _ a rfl (bm.aA (za _ _)) _ [⟨((0:Nat):Int),((0:Nat):Int)+1,x.rd,x.wr,x.sh,x.file,x.page⟩] rfl (Zp arE b1 ⟨((0:Nat):Int),((0:Nat):Int)+1,x.rd,x.wr,x.sh,x.file,x.page⟩ _ _ rfl (by show 40<=_;omega)) ?qb ?qc ?_)
    case qb=>
     show(a.length+1)*40<=_;have:=q.out;omega
    case qc=>first|exact g.out|exact nT g (Oc _)|(have:=g.out;omega)|(simp;have:=g.out;omega)
    intro c5 a9 own s;obtain⟨u,z,rfl⟩:=own.form;have R:Xo (zb arE (w.heap.size+1) a9 (.slice u (a++[(⟨((0:Nat):Int),((0:Nat):Int)+1,x.rd,x.wr,x.sh,x.file,x.page⟩:Ar)]).length z) (a++[⟨((0:Nat):Int),((0:Nat):Int)+1,x.rd,x.wr,x.sh,x.file,x.page⟩])):=own;have a6:Xo (zc Z a9):=show zc _ _ from z2 (bc.trans (za _ _)) s (fun n I=>by
     have T:=(bm.lt n I).1;rw[r.out];exact T)
    have c3:=dD (b3.aA a6);clear own s b8 b9 ba ac bb;go_wp2;go_roundg (64-(0+1));exact⟨0+1,a++[(⟨((0:Nat):Int),((0:Nat):Int)+1,x.rd,x.wr,x.sh,x.file,x.page⟩:Ar)],u,z,Wm,Wm,Gn,rfl,a6,R,Q⟩;omega
   |succ j=>
    have aa:j<64:=Wm;have bt:(j:Int)<64:=Wm;have ce:(0:Int)<((j+1:Nat):Int):=Wm;have cd:((j+1:Nat):Int)-1=(j:Int):=Wm;have au:=aj.go az.out;obtain⟨y,bk⟩:=kA (f j);have bz:0<=y.page/\y.page<=12:=by
     rw[<-bk.out];have T:=K.out j aa;cases bx:(f j).is with
     |false=>rw[T.1 bx];exact⟨Dc,Dc⟩
     |true=>
      have ap:=T.2 bx;unfold jS zbp at ap;rw[kE bx]at ap;simp only at ap;rcases Int.lt_or_le (f j).file 0 with a3|a3;·omega
      omega
    obtain⟨cg,ch⟩:=bz;have bl:Xo (Value.agg (onv (f j)).toArray=Xi #[Xh y.is,Xh y.rd,Xh y.wr,Xh y.sh,I6 y.file,I6 y.page]):=dD<|Rr bk.out;have a0:=zrQ x y;rw[H.out,bk.out]at au;have l:Xo _:=au;obtain⟨ad,ag⟩:=kA b1.heap.size;have ax:Xo (ab<ad):=dD<|Ry ag.out a8.lt;go_upto_region 9 with(refine zft rfl (.tmp 20) rfl w.heap.size j aa rfl c9 bl.out ?_)
    clear c4;obtain⟨an,G⟩:=kB (b1.alloc (Xk #[Xh y.is,Xh y.rd,Xh y.wr,Xh y.sh,I6 y.file,I6 y.page] 67));have c2:=gT G bc;have bn:Xo (zb arE (w.heap.size+1) an (O a4 a.length C) a):=dD (by rw[<-G];exact bm.aA (za _ _));have bq:=yA G a8;have b4:=xPT G ag;rw[G,ag.out];clear G;have ac:=bq.c 4 rfl;by_cases V:0<=x.file
    ·rw[kE V]at a0;have ay:=fun bs=>zrH y.is Xc y.rd x.rd y.wr x.wr y.sh x.sh y.file x.file (y.page+1) x.page bs;have ai:Xo ((⟨Xc,x.rd,x.wr,x.sh,x.file,x.page⟩:On)=x):=dD<|by
      have a3:=az.out;rw[H.out]at a3;rw[<-a3]
     rw[ai.out,a0]at ay;obtain⟨br,bi⟩:=kA (goJ x y);rw[bi.out]at ay l;have cl:=b4.box.c 5 rfl;have cm:=b4.box.f;go_upto_region 11 with fail;obtain⟨a2,p⟩:=kB (an.setCell ⟨ad,5,Xb⟩ (I6 (y.page+1)));have b0:Xo (Z.heap.size<=ad):=dD (by have T:=ax.out;have ap:=bS ar.out;have cn:=bh.out;omega);have a5:Xo (zc Z a2):=dD (by rw[<-p];exact zB c2 b0.out _);have D:Xo (zb arE (w.heap.size+1) a2 (O a4 a.length C) a):=dD (by rw[<-p];exact bn.aQ (fun n I=>bn.ne b4 Dc n I) _);have A:Xo (Box a2 ab [Xh Xc,Xh x.rd,Xh x.wr,Xh x.sh,I6 x.file,I6 x.page]):=dD (by rw[<-p];exact bq.other (by have:=ax.out;simp;omega) _);have ao:Xo (Box a2 ad [Xh y.is,Xh y.rd,Xh y.wr,Xh y.sh,I6 y.file,I6 (y.page+1)]):=dD (by rw[<-p];exact b4.box.set 5 _);rw[p];clear p cl cm ac;cases br with
     |true=>
      obtain⟨c,k,W⟩:=l.1 rfl;have h:=zi6 k;obtain⟨d,t⟩:=kB a.dropLast;rw[t]at h;have i:=dD h;have Q:Xo (J f (j+1+1) (d++[{c with tz:=((j+1:Nat):Int)+1}])):=a7.out d c h (Rx H.out W);obtain⟨m,M⟩:=kA d.length;have B:Xo (a.length=m+1):=dD (by rw[i.out,<-M.out];simp);have af:Xo (a[m]?=Xa c):=dD (by rw[i.out,<-M.out];simp);obtain⟨n,c1,al⟩:=D.aG (by rw[B.out];omega);cases al;have bw:((m+1:Nat):Int)-1=(m:Int):=Wm;have bu:(0:Int)<=(m:Int):=Wm;have b6:(m:Int)<((m+1:Nat):Int):=Wm;have bv:m+1<=64:=(by have:=q.out;rw[B.out]at this;omega);clear k W h t;rw[B.out]at D⊢;have P:Xo (a.set m {c with tz:=((j+1:Nat):Int)+1}=d++[{c with tz:=((j+1:Nat):Int)+1}]):=dD (by rw[i.out,Yy _ _ (by rw[M.out];exact nR _),M,Nat.sub_self];rfl);go_wp2_with(first|refine zE rfl 67 (.tmp 7) rfl ad rfl ao underlying67 rfl zsQ ?_|refine zE rfl 67 (.tmp 5) rfl ab rfl A underlying67 rfl zsQ ?_|refine zx (E:=arE) rfl (.tmp 40) (.tmp 38) 3 rfl (w.heap.size+1) (O (Xa ⟨n,0,Xb⟩) (m+1) C) a D n m 1 rfl c {c with tz:=((j+1:Nat):Int)+1} af.out [I6 (((j+1:Nat):Int)+1)] Kr rfl (Yz rfl) (by intro ck b7;simp at b7;subst b7;rfl) _ rfl (by simp;rfl) _ rfl rfl ?_)
      intro b2 Y S am;have ae:=D.lt n rfl;have bd:Xo (zc Z b2):=dD<|zd a5 S (Rx r.out ae.1);have L:Xo ((d++[({c with tz:=((j+1:Nat):Int)+1}:Ar)]).length=m+1):=dD (by simp[M.out]);have bo:Xo (zb arE (w.heap.size+1) b2 (.slice (Xa ⟨n,0,Xb⟩) (d++[({c with tz:=((j+1:Nat):Int)+1}:Ar)]).length C) (d++[{c with tz:=((j+1:Nat):Int)+1}])):=dD (by rw[L.out,<-P.out];exact Y);clear Y S am;rw[<-L.out];go_wp2;go_roundg (64-(j+1+1));exact⟨j+1+1,d++[({c with tz:=((j+1:Nat):Int)+1}:Ar)],Xa ⟨n,0,Xb⟩,C,Wm,Wm,Gn,rfl,bd,bo,Q⟩;omega
     |false=>
      have Q:Xo (J f (j+1+1) (a++[⟨((j+1:Nat)),(((j+1:Nat)):Int)+1,x.rd,x.wr,x.sh,x.file,x.page⟩])):=dD<|by
       have:=N.out (fun c aq=>Rx H.out (l.2 rfl c aq));rw[ah.out,H.out]at this;exact this
      go_upto_region 14 with(first|refine zE rfl 67 (.tmp 7) rfl ad rfl ao underlying67 rfl zsQ ?_|refine zE rfl 67 (.tmp 5) rfl ab rfl A underlying67 rfl zsQ ?_)
      have g:Xo (w.heap.size+1<=a2.heap.size):=dD (by rw[<-r.out];exact bS a5.out);obtain⟨_,b8,b9,ba,ac,bb⟩:=A.k6;go_wp2_with(at_builtin;refine zw (E:=arE) rfl (.tmp 41) (.tmp 56) rfl (w.heap.size+1) _ a rfl (D.aA (za _ _)) _ [⟨((j+1:Nat):Int),((j+1:Nat):Int)+1,x.rd,x.wr,x.sh,x.file,x.page⟩] rfl (Zp arE a2 ⟨((j+1:Nat):Int),((j+1:Nat):Int)+1,x.rd,x.wr,x.sh,x.file,x.page⟩ _ _ rfl (by show 40<=_;omega)) ?qb ?qc ?_)
      case qb=>
       show(a.length+1)*40<=_;have:=q.out;omega
      case qc=>first|exact g.out|exact nT g (Oc _)|(have:=g.out;omega)|(simp;have:=g.out;omega)
      intro c5 a9 own s;obtain⟨u,z,rfl⟩:=own.form;have R:Xo (zb arE (w.heap.size+1) a9 (.slice u (a++[(⟨((j+1:Nat):Int),((j+1:Nat):Int)+1,x.rd,x.wr,x.sh,x.file,x.page⟩:Ar)]).length z) (a++[⟨((j+1:Nat):Int),((j+1:Nat):Int)+1,x.rd,x.wr,x.sh,x.file,x.page⟩])):=own;have a6:Xo (zc Z a9):=show zc _ _ from z2 (a5.trans (za _ _)) s (fun n I=>by
       have T:=(D.lt n I).1;rw[r.out];exact T)
      have c3:=dD (b3.aA a6);clear own s b8 b9 ba ac bb;go_wp2;go_roundg (64-((j+1)+1));exact⟨(j+1)+1,a++[(⟨((j+1:Nat):Int),((j+1:Nat):Int)+1,x.rd,x.wr,x.sh,x.file,x.page⟩:Ar)],u,z,Wm,Wm,Gn,rfl,a6,R,Q⟩;omega
    rw[kF V]at a0;have ay:=fun bs=>zrH y.is Xc y.rd x.rd y.wr x.wr y.sh x.sh y.file x.file y.page x.page bs;have ai:Xo ((⟨Xc,x.rd,x.wr,x.sh,x.file,x.page⟩:On)=x):=dD<|by
     have a3:=az.out;rw[H.out]at a3;rw[<-a3]
    rw[ai.out,a0]at ay;obtain⟨br,bi⟩:=kA (goJ x y);rw[bi.out]at ay l;go_upto_region 11 with fail;clear ac;have a5:Xo (zc Z an):=c2;have D:Xo (zb arE (w.heap.size+1) an (O a4 a.length C) a):=bn;have A:Xo (Box an ab [Xh Xc,Xh x.rd,Xh x.wr,Xh x.sh,I6 x.file,I6 x.page]):=bq;have ao:=dD b4.box;obtain⟨a2,p⟩:=kB an;rw[p]at a5 D A ao⊢;clear p;cases br with
    |true=>
     obtain⟨c,k,W⟩:=l.1 rfl;have h:=zi6 k;obtain⟨d,t⟩:=kB a.dropLast;rw[t]at h;have i:=dD h;have Q:Xo (J f (j+1+1) (d++[{c with tz:=((j+1:Nat):Int)+1}])):=a7.out d c h (Rx H.out W);obtain⟨m,M⟩:=kA d.length;have B:Xo (a.length=m+1):=dD (by rw[i.out,<-M.out];simp);have af:Xo (a[m]?=Xa c):=dD (by rw[i.out,<-M.out];simp);obtain⟨n,c1,al⟩:=D.aG (by rw[B.out];omega);cases al;have bw:((m+1:Nat):Int)-1=(m:Int):=Wm;have bu:(0:Int)<=(m:Int):=Wm;have b6:(m:Int)<((m+1:Nat):Int):=Wm;have bv:m+1<=64:=(by have:=q.out;rw[B.out]at this;omega);clear k W h t;rw[B.out]at D⊢;have P:Xo (a.set m {c with tz:=((j+1:Nat):Int)+1}=d++[{c with tz:=((j+1:Nat):Int)+1}]):=dD (by rw[i.out,Yy _ _ (by rw[M.out];exact nR _),M,Nat.sub_self];rfl);go_wp2_with(first|refine zE rfl 67 (.tmp 7) rfl ad rfl ao underlying67 rfl zsQ ?_|refine zE rfl 67 (.tmp 5) rfl ab rfl A underlying67 rfl zsQ ?_|refine zx (E:=arE) rfl (.tmp 40) (.tmp 38) 3 rfl (w.heap.size+1) (O (Xa ⟨n,0,Xb⟩) (m+1) C) a D n m 1 rfl c {c with tz:=((j+1:Nat):Int)+1} af.out [I6 (((j+1:Nat):Int)+1)] Kr rfl (Yz rfl) (by intro ck b7;simp at b7;subst b7;rfl) _ rfl (by simp;rfl) _ rfl rfl ?_)
     intro b2 Y S am;have ae:=D.lt n rfl;have bd:Xo (zc Z b2):=dD<|zd a5 S (Rx r.out ae.1);have L:Xo ((d++[({c with tz:=((j+1:Nat):Int)+1}:Ar)]).length=m+1):=dD (by simp[M.out]);have bo:Xo (zb arE (w.heap.size+1) b2 (.slice (Xa ⟨n,0,Xb⟩) (d++[({c with tz:=((j+1:Nat):Int)+1}:Ar)]).length C) (d++[{c with tz:=((j+1:Nat):Int)+1}])):=dD (by rw[L.out,<-P.out];exact Y);clear Y S am;rw[<-L.out];go_wp2;go_roundg (64-(j+1+1));exact⟨j+1+1,d++[({c with tz:=((j+1:Nat):Int)+1}:Ar)],Xa ⟨n,0,Xb⟩,C,Wm,Wm,Gn,rfl,bd,bo,Q⟩;omega
    |false=>
     have Q:Xo (J f (j+1+1) (a++[⟨((j+1:Nat)),(((j+1:Nat)):Int)+1,x.rd,x.wr,x.sh,x.file,x.page⟩])):=dD<|by
      have:=N.out (fun c aq=>Rx H.out (l.2 rfl c aq));rw[ah.out,H.out]at this;exact this
     go_upto_region 14 with(first|refine zE rfl 67 (.tmp 7) rfl ad rfl ao underlying67 rfl zsQ ?_|refine zE rfl 67 (.tmp 5) rfl ab rfl A underlying67 rfl zsQ ?_)
     have g:Xo (w.heap.size+1<=a2.heap.size):=dD (by rw[<-r.out];exact bS a5.out);obtain⟨_,b8,b9,ba,ac,bb⟩:=A.k6;go_wp2_with(at_builtin;refine zw (E:=arE) rfl (.tmp 41) (.tmp 56) rfl (w.heap.size+1) _ a rfl (D.aA (za _ _)) _ [⟨((j+1:Nat):Int),((j+1:Nat):Int)+1,x.rd,x.wr,x.sh,x.file,x.page⟩] rfl (Zp arE a2 ⟨((j+1:Nat):Int),((j+1:Nat):Int)+1,x.rd,x.wr,x.sh,x.file,x.page⟩ _ _ rfl (by show 40<=_;omega)) ?qb ?qc ?_)
     case qb=>
      show(a.length+1)*40<=_;have:=q.out;omega
     case qc=>first|exact g.out|exact nT g (Oc _)|(have:=g.out;omega)|(simp;have:=g.out;omega)
     intro c5 a9 own s;obtain⟨u,z,rfl⟩:=own.form;have R:Xo (zb arE (w.heap.size+1) a9 (.slice u (a++[(⟨((j+1:Nat):Int),((j+1:Nat):Int)+1,x.rd,x.wr,x.sh,x.file,x.page⟩:Ar)]).length z) (a++[⟨((j+1:Nat):Int),((j+1:Nat):Int)+1,x.rd,x.wr,x.sh,x.file,x.page⟩])):=own;have a6:Xo (zc Z a9):=show zc _ _ from z2 (a5.trans (za _ _)) s (fun n I=>by
      have T:=(D.lt n I).1;rw[r.out];exact T)
     have c3:=dD (b3.aA a6);clear own s b8 b9 ba ac bb;go_wp2;go_roundg (64-((j+1)+1));exact⟨(j+1)+1,a++[(⟨((j+1:Nat):Int),((j+1:Nat):Int)+1,x.rd,x.wr,x.sh,x.file,x.page⟩:Ar)],u,z,Wm,Wm,Gn,rfl,a6,R,Q⟩;omega
 have b5:¬(b:Int)<64:=Wm;have:b=64:=Wm;subst this;have c7:=dD<|aj.all K.out;have c8:Xo (zb arE (w.heap.size+1) wr (O a4 a.length C) (Q5 f)):=show zb _ _ _ _ _ by rw[<-c7.out];exact bp.out
 have c6:=dD (bf.trans ar);go_wp2;go_ret;exact⟨⟨_,rfl,c8⟩,c6⟩
theorem zlj(f:Nat->On)(w:Xn)(a:zj4 f):
  Xp prog 95 #[Xi (zD (tab f)).toArray] w fun e w'=>(∃u,e=Xl (Xm #[u,I6 (zjH f).2])/\zb arE w.heap.size w' u (zjH f).1)/\zc w w':=by
 have i:=dD<|fun W=>zcZ f W a;have c:Xo (¬16<(Q5 f).length->zjH f=(Q5 f,0)):=fun h=>by unfold zjH;rw[kF h]
 have b:Xo (16<(Q5 f).length->zjH f=([],4)):=fun h=>by unfold zjH;rw[kE h]
 have d:=dD<|(zeq a).len;clear a;obtain⟨a,a⟩:=kA (zjH f);simp only[a.out]at c b⊢;obtain⟨l,a⟩:=kA (Q5 f);simp only[a.out]at c b d i;have g:Xo ((zD (tab f)).length=384):=Zj _;generalize zD (tab f)=C at i g⊢;obtain⟨k,a⟩:=kB (w.alloc (Xk C.toArray 68));have h:=gA a;have m:=xA a;have j:Xo (_=k):=a;clear a;go_enter func95,ntmps95;go_upto_region 1 with fail;rw[j.out];go_wp2_with(refine zE rfl 68 (.tmp 1) rfl w.heap.size rfl m underlying68 rfl (Rx g.out zsR) ?_)
 refine(i k).mono ?_;rintro e a⟨⟨u,rfl,a⟩,g⟩;obtain⟨i,i,rfl⟩:=a.form;have i:=dD (h.trans g);have j:=dD<|a.base (nT (bS h) (Oc _));clear g a;obtain⟨m,a⟩:=kA l.length;rw[a.out]at c b d j⊢;have a:m<=64:=d.out;by_cases a:16<m
 ·have g:=kC a
  have d:=dD<|b.out a;go_wp2;refine bodyPost_ret (results_tmp2 rfl _ _ _) rfl ?_;rw[d.out];exact⟨⟨_,rfl,zb.nil _ _ _⟩,i⟩
 have g:=kD a;have d:=dD<|c.out a;go_wp2;refine bodyPost_ret (results_tmp2 rfl _ _ _) rfl ?_;rw[d.out];exact⟨⟨_,rfl,j⟩,i⟩
theorem zoK{a:Ar}(hb:jS H)(c:jS a):zj4 (zr [H,a]):=fun k _=>⟨zgs,fun c=>by grind[QZ,mG,zdy]⟩
theorem zqt{w:Xn}{ad:Addr}{n c:Nat}{b q:Ar}(h:zq arE w (O (Xa ad) n c) l)(hb:l[j]?=Xa b)(f:l[j+1]?=Xa q):zq arE w (O (Xa (ad.add (j*7))) 2 (c-j)) [b,q]:=by
 obtain⟨⟨a,a,a,d,e⟩,d⟩:=h;cases a;refine⟨⟨Xa (ad.add (j*7)),c-j,rfl,fun h=>(by cases h),fun x a d u g=>?_⟩,by show 2*40<=_;omega⟩;cases a;rw[zX];refine e ad rfl (j*7+d) u ?_;have a:(arv b++arv q)[d]?=Xa u:=by simpa[arE]using g
 by_cases e:d<7
 ·rw[Ys (by simpa[arv]using e)]at a
  exact jB (enc:=arv) (k:=7) l j b (fun _ _=>rfl) hb d u a
 rw[aR (by simp[arv];omega)]at a;have:=jB (enc:=arv) (k:=7) l (j+1) q (fun _ _=>rfl) f (d-7) u (by simpa[arv]using a);rw[show(j+1)*7+(d-7)=j*7+d by omega]at this;exact this
theorem zlg{ad:Addr}{n c:Nat}(a:j+2<=c):(Instr.sliceAt 58 (O (Xa ad) n c) (Xa (I6 (j:Int))) (Xa (I6 ((j:Int)+1+1))) Xb).run prog w=.ok (O (Xa (ad.add (j*7))) 2 (c-j)) w:=by
 have f:(Go.sizeOf 77).run prog w=.ok 7 w:=by
  obtain⟨a,b,d⟩:∃a,Tryz.prog.info? 77=Xa a/\a.size=7:=by
   have:=zsO;cases e:Tryz.prog.info? 77 with
   |none=>rw[e]at this;cases this
   |some a=>rw[e]at this;exact⟨a,rfl,by simpa using this⟩
  simp[Go.sizeOf,typeInfo,b,d]
 have b:(0:Int)<=(j:Int)+1+1/\(j:Int)+1+1<=(c:Int):=Wm;have d:((j:Int)+1+1).toNat=j+2:=Wm;have a:(0:Int)<=(j:Int)/\(j:Int)<=((j+2:Nat):Int):=Wm;have e:¬c=j:=Wm;simp only[Instr.sliceAt,Instr.slice,Instr.sliceBounds,Instr.sliceBound,asIntOf,Yd,Ye,rA,run_underlying underlying58];rw[kE b];simp only[Ye,rA,d];rw[kE a];simp only[Ye,rA,f,tN,kF e,Option.map_some];congr 2;omega
theorem zkc(v fs)(D b:Int)(w)(a3:qH w v fs):
  Xp prog 24 #[Xi #[v,I6 D],I6 b] w fun e w'=>e=Xl (Xh (z4 fs b))/\zc w w':=by
 obtain⟨a7,a9,rfl,E,k⟩:=a3.rows;have a6:=dD k;clear k a3;obtain⟨y,N⟩:=kA fs.length;rw[N.out]at E⊢;obtain⟨C,d⟩:=kA (z4 fs b);rw[d.out];obtain⟨an,m⟩:=kB (w.alloc (Xk #[O a7 y a9,I6 D] 37));have M:=gA m;have R:=dD m;clear m;go_enter func24,ntmps24;go_wp2;rw[R.out];go_loopg[12] y (fun ac W wr=>∃c:Nat,c<=y/\y-c<=ac/\W=I6 c/\Xo (zc w wr)/\Xo (∀(j:Nat)(q:Fl),j<c->fs[j]?=Xa q->q.bl.contains b=Xd))
 exact⟨0,nZ _,Wm,rfl,M,fun j q h=>absurd h (nL _)⟩;obtain⟨c,ah,av,rfl,H,Z⟩:=hrel;by_cases p:c<y
 ·have G:=kC p
  obtain⟨q,P⟩:∃q,Xo (fs[c]?=Xa q):=⟨_,gE (Rx N.out p)⟩;obtain⟨aq,rfl,ak,al,u,a1⟩:=a6.out c q P.out;obtain⟨aa,a0⟩:=a1 wr H.out;have t:=u.short;obtain⟨ap,ar,U,i⟩:=u.aX;cases U;have Q:=dD i;clear a1 u i;obtain⟨A,l⟩:=kA q.bl.length;rw[l.out]at a0 t;obtain⟨ao,n⟩:=kB (wr.alloc (Xk #[I6 q.size,O ak A al] 84));have a4:=gT n H;have S:=dD n;clear n;go_wp2;rw[S.out];go_loopg[19] A (fun ab X Y=>∃a:Nat,a<=A/\A-a<=ab/\X=I6 a/\Xo (zc w Y)/\Xo (∀(j:Nat)z,j<a->q.bl[j]?=Xa z->¬z=b))
  exact⟨0,nZ _,Wm,rfl,a4,fun j z h=>absurd h (nL _)⟩;obtain⟨a,ag,af,rfl,g,I⟩:=hrel;clear aa a0;by_cases f:a<A
  ·have r:=kC f
   obtain⟨z,T⟩:∃z,Xo (q.bl[a]?=Xa z):=⟨_,gE (Rx l.out f)⟩;obtain⟨a8,rfl,F⟩:=Q.out a z T.out;have au:=F _ g.out;clear F;by_cases B:z=b
   ·have V:(z==b)=Xc:=Si B
    have L:Xo (C=Xc):=dD<|by
     rw[<-d.out];unfold z4;exact zrl P (Yh.2 (B▸mG T))
    clear B;go_wp2;go_ret;exact⟨Rr L.out,g⟩
   have V:(z==b)=Xd:=Si B;have K:Xo (∀(j:Nat)z,j<a+1->q.bl[j]?=Xa z->¬z=b):=dD<|fun j am h x=>by
    by_cases e:j=a;·subst e;rw[T.out]at x;cases x;exact B
    exact I j am Wm x
   clear B;go_wp2;go_roundg (A-(a+1));exact⟨a+1,Wm,Wm,Gn,g,K⟩;omega
  have r:=kD f;have:a=A:=Wm;subst this;have a5:Xo (∀(j:Nat)(q:Fl),j<c+1->fs[j]?=Xa q->q.bl.contains b=Xd):=dD<|fun j aj h s=>by
   by_cases e:j=c
   ·subst e;rw[P.out]at s;cases s;cases ae:q.bl.contains b with
    |false=>rfl
    |true=>
     obtain⟨ai,a2⟩:=Xv (Yh.1 ae);exact absurd rfl (I ai b (by rw[<-l.out];exact(gS.1 a2).1) a2)
   exact Z j aj Wm s
  go_wp2;go_roundg (y-(c+1));exact⟨c+1,Wm,Wm,Gn,g,a5⟩;omega
 have G:=kD p;have:c=y:=Wm;subst this;have L:Xo (C=Xd):=dD<|by
  rw[<-d.out];unfold z4;rw[zrk (fun j q h=>Z.out j q (by rw[<-N.out];exact(gS.1 h).1) h)]
 go_wp2;go_ret;exact⟨Rr L.out,H⟩
theorem zgm(vs:List Xq)(t:List (List En))(w:Xn)(hv:JT w vs t)(h0:tbW t=0):
  Xp Tryz.prog 78 #[Xi vs.toArray] w fun e w'=>e=Xl (Xe Xf 0)/\zc w w':=by
 have HV:Xo (JT w vs t):=hv;have HL:Xo (vs.length=8):=hv.len;have HT:Xo (∀h∈t,ziJ h):=show∀h,_ from ZZ.1 h0;clear hv h0;obtain⟨W0,hW0⟩:∃W0,w.alloc (Xk vs.toArray 61)=W0:=⟨_,rfl⟩;have HG0:=gA hW0;have X0:=xA hW0;have HW0:Xo (_=W0):=hW0;clear hW0;go_enter Tryz.func78,Tryz.ntmps78;go_upto_region 1 with fail;rw[HW0.out];go_wp2_with(refine qO rfl (.tmp 1) rfl w.heap.size rfl X0.out HL.out ?_)
 go_loopg[9] 8 (fun gg s9 wr=>∃kk:Nat,kk<=8/\8-kk<=gg/\s9=Xe Xf kk/\Xo (zc w wr))
 case atStart=>exact⟨0,nZ _,by omega,rfl,HG0.out⟩
 obtain⟨kk,hkk,hg,rfl,BW⟩:=hrel;by_cases hlt:kk<8
 ·have hltz:(kk:Int)<8:=by omega
  obtain⟨xa,xc,q,hq,hvk,hr⟩:=HV.out.half hlt;obtain⟨_,_,heq,hens⟩:=hr.ens;cases heq;have HE:Xo (zqk w xa q):=hens;obtain⟨nq,HNQ⟩:∃nq,Xo (q.length=nq):=⟨_,rfl⟩;rw[HNQ.out]at hvk;have HVK:Xo (vs[kk]?=Xa (O xa nq xc)):=hvk;have HQ:=HT.out q (mG hq);have HEN:Xo (∀(j:Nat)x,q[j]?=Xa x->enW x=0):=show∀(j:Nat)x,_ from fun j x hj=>by
   rcases HQ with e|⟨_,e,_⟩;·rw[e]at hj;cases hj
   exact e x (mG hj)
  have HAN:Xo (nq=8->zaV q=Xc):=show _->_ from fun e=>by
   rcases HQ with e2|⟨_,_,e2⟩;·rw[e2]at HNQ;have:=HNQ.out;simp at this;omega
   exact e2
  have h8:nq=0\/nq=8:=by
   rcases HQ with e|⟨e,_⟩;·left;rw[<-HNQ.out,e];rfl
   right;rw[<-HNQ.out,e]
  clear hens hr hq hvk HQ;go_upto_region 4 with(refine zdP rfl (.tmp 8) (.tmp 9) rfl vs rfl kk rfl hlt HVK.out ?_)
  obtain⟨z0,HZ0⟩:∃z0:Bool,Xo (decide (nq=0)=z0):=⟨_,rfl⟩;have hne0:((nq:Int)!=0)=!z0:=by rw[<-HZ0.out];rcases h8 with e|e<;>simp[e]
  have heq8:((nq:Int)==8)=!z0:=by rw[<-HZ0.out];rcases h8 with e|e<;>simp[e]
  have hne8:((nq:Int)!=8)=z0:=by rw[<-HZ0.out];rcases h8 with e|e<;>simp[e]
  have H8:Xo (nq=0\/nq=8):=h8;have hq8:nq<=8:=by omega
  clear h8;cases z0
  all_goals(
   simp only[Bool.not_true,Bool.not_false]at hne0 heq8 hne8;go_wp2;go_loopg[5,22] nq (fun g2 s5 s22 wr2=>∃(k2 c:Nat),k2<=nq/\nq-k2<=g2/\s22=Xe Xf k2/\s5=Xe Xf c/\c<=k2/\Xo (zc w wr2)/\Xo (c=0↔zaV (q.take k2)=Xd))
   case atStart=>exact⟨0,0,nZ _,by omega,rfl,rfl,nR _,BW.out,show(0=0↔zaV (q.take 0)=Xd)from by simp[zaV]⟩
   obtain⟨k2,c,hk2',hg2,rfl,rfl,hck,BW2,CW⟩:=hrel;by_cases hlt2:k2<nq
   ·have hltz2:(k2:Int)<(nq:Int):=by omega
    obtain⟨x,hx⟩:∃x,q[k2]?=Xa x:=⟨_,gE (by rw[HNQ.out];exact hlt2)⟩;obtain⟨ad,rfl,hl2⟩:=HE.out k2 x hx;obtain⟨d0,d1,d2⟩:=hl2 wr BW2.out;obtain⟨e1,e2,e3⟩:=jE (HEN.out k2 x hx);have HC:Xo (zaV (q.take (k2+1))=(zaV (q.take k2)||enS x)):=show _=_ by
     rw[jU hx];unfold zaV;rw[List.any_append];simp
    obtain⟨k,m,b⟩:=x;simp only at d0 d1 d2 e1 e2 e3;clear hl2 hx;go_upto_region 10 with fail;obtain⟨px,hpx⟩:∃px,wr.heap.size=px:=⟨_,rfl⟩;obtain⟨W2,hW2⟩:∃W2,wr.alloc (Xk #[Xe Xf k,Xe Xf m,Xh b] 55)=W2:=⟨_,rfl⟩;have G2:=gT hW2 BW2;have P2:Xo (Box W2 px [Xe Xf k,Xe Xf m,Xh b]):=show Box _ _ _ by rw[<-hW2];exact Box.aE _ _ _ hpx.symm
    rw[hW2,hpx];clear hW2 hpx d0 d1 d2;obtain⟨p0,p1,p2⟩:=P2.out.c3;have k1d:decide (m<0)=Xd:=decide_eq_false (by omega);have k2d:decide (59<m)=Xd:=decide_eq_false (by omega);obtain rfl|rfl|rfl:k=0\/k=1\/k=2:=(by omega)
    ·obtain rfl:m=0:=by omega
     have hb:b=Xd:=(by cases b<;>simp at e3⊢);subst hb;clear e1 e2 e3;go_wp2;go_roundg (nq-(k2+1))
     case measure=>omega
     exact⟨k2+1,c,by omega,by omega,by go_num,by go_num,by omega,G2.out,show(c=0↔zaV (q.take (k2+1))=Xd) by rw[HC.out,CW.out];simp[enS]⟩
    ·have k3d:decide (39<m)=Xd:=decide_eq_false (by omega)
     clear e1 e2 e3;go_wp2;go_roundg (nq-(k2+1))
     case measure=>omega
     exact⟨k2+1,c+1,by omega,by omega,by go_num,by go_num,by omega,G2.out,show(c+1=0↔zaV (q.take (k2+1))=Xd) by rw[HC.out];simp[enS]⟩
    have hb:b=Xd:=(by cases b<;>simp at e3⊢);subst hb;clear e1 e2 e3;go_wp2;go_roundg (nq-(k2+1))
    case measure=>omega
    exact⟨k2+1,c+1,by omega,by omega,by go_num,by go_num,by omega,G2.out,show(c+1=0↔zaV (q.take (k2+1))=Xd) by rw[HC.out];simp[enS]⟩
   have hltz2:¬(k2:Int)<(nq:Int):=(by omega);have:k2=nq:=(by omega);subst this;have hcb:k2=8->((c:Int)==0)=Xd:=fun e=>by
    have h1:=CW.out;rw[Yf (by rw[HNQ.out];exact nR _),HAN.out e]at h1;simpa using h1
   have hcb2:=HZ0.out
   (first|(have hcb:=hcb (H8.out.resolve_left (of_decide_eq_false hcb2));clear hcb2)|clear hcb hcb2);go_wp2;go_roundg (8-(kk+1));(case measure=>omega);exact⟨kk+1,by omega,by omega,by go_num,BW2.out⟩)
 have hltz:¬(kk:Int)<8:=by omega
 go_wp2;go_ret;exact⟨rfl,BW.out⟩
theorem zgn(v fs)(d:Int)(w)(bl:qH w v fs)(x:stW fs d=0):
  Xp prog 76 #[Xi #[v,I6 d]] w fun e w'=>e=Xl (I6 0)/\zc w w':=by
 obtain⟨bx,bz,rfl,a3,D⟩:=bl.rows;have br:=dD D;have a4:fs.length<=5/\0<=d/\d<=80:=by
  unfold stW at x;split at x
  ·assumption
  cases x
 have bq:Xo (zfl d [] fs=0):=dD<|by rw[<-x];unfold stW;rw[kE a4]
 clear D bl x;obtain⟨p,b7⟩:=kA fs.length;rw[b7.out]at a3 a4⊢;obtain⟨c,A⟩:=kB (w.alloc (Xk #[O bx p bz,I6 d] 37));have G:=gA A;have a1:=xA A;have al:=dD A;clear A;obtain⟨ap,a4⟩:=a4;have aq:¬(5:Int)<(p:Int):=Wm;have c6:decide ((5:Int)<(p:Int))=Xd:=decide_eq_false aq;have c7:decide (5<p)=Xd:=decide_eq_false Wm;obtain⟨m,rfl⟩:∃m:Nat,d=(m:Int):=⟨d.toNat,Wm⟩;have bi:m<=80:=Wm;have av:¬(m:Int)<0:=Wm;have be:decide ((m:Int)<0)=Xd:=decide_eq_false av;have aw:¬(80:Int)<(m:Int):=Wm;have bf:decide ((80:Int)<(m:Int))=Xd:=decide_eq_false aw;clear a4;go_enter func76,ntmps76;go_upto_region 3 with fail;rw[al.out];obtain⟨b5,a9⟩:=a1.k2;go_wp2_with(refine zas boE rfl (.tmp 23) rfl m rfl (by show m*1<=_;omega) ?_)
 intro ag b0;rw[show Xr m boE.zero=zal m []from(zna m).symm]at b0;show wpList _ _ _ _ _ (c.alloc (Xk ag 4));obtain⟨bv,L⟩:=kB (c.alloc (Xk ag 4));have V:zb boE c.heap.size (c.alloc (Xk ag 4)) (O (Xa ⟨c.heap.size,0,Xb⟩) m m) (zal m []):=b0;have F:=gA L;rw[L]at V⊢;obtain⟨h,H⟩:=kA c.heap.size;have bs:Xo (zb boE c.heap.size bv (O (Xa ⟨h,0,Xb⟩) m m) (zal m [])):=dD<|Ry H.out V;rw[H.out];clear L b0 V b5 a9;obtain⟨b5,a9⟩:=(a1.aA F).k2;go_wp2;go_loopg[28] p (fun c4 b3 wr=>∃b:Nat,b<=p/\p-b<=c4/\b3=I6 b/\Xo (zc c wr)/\Xo (zb boE c.heap.size wr (O (Xa ⟨h,0,Xb⟩) m m) (zal m (zeB [] (fs.take b))))/\Xo (zfl (m:Int) (zeB [] (fs.take b)) (fs.drop b)=0))
 exact⟨0,nZ _,Wm,rfl,F,bs,bq⟩;obtain⟨b,cc,ca,rfl,af,b8,bm⟩:=hrel;clear b5 a9;by_cases R:b<p
 ·have a5:=kC R
  obtain⟨q,aa⟩:∃q,Xo (fs[b]?=Xa q):=⟨_,gE (Rx b7.out R)⟩;obtain⟨ci,rfl,cg,ch,U,bh⟩:=br.out b q aa.out;obtain⟨c0,ba⟩:=bh wr (G.trans af);have T:=U.short;obtain⟨_,_,ax,C⟩:=U.aX;cases ax;have Z:=dD C;obtain⟨r,u⟩:=kA q.bl.length;rw[u.out]at ba T;clear bh U C;have a0:Xo (zfl (m:Int) (zeB [] (fs.take b)) (fs.drop b)=if flW (m:Int) (zeB [] (fs.take b)) q=0 then zfl (m:Int) (zeB [] (fs.take (b+1))) (fs.drop (b+1))else flW (m:Int) (zeB [] (fs.take b)) q):=show _=_ by
   rw[Zf aa.out,zaY aa.out,zcm];rfl
  have Y:Xo (zeB [] (fs.take (b+1))=blG (zeB [] (fs.take b)) q.bl):=dD (by rw[zaY aa.out,zcm]);obtain⟨l,b6⟩:=kA (zeB [] (fs.take b));rw[b6.out]at a0 Y b8;have n:=bm.out;rw[b6.out,a0.out]at n;split at n;case isFalse ao=>exact absurd n ao
  rename_i bg
  have bp:=dD n;have y:(if 0<=q.size/\q.size<=96 then(if(q.bl.length:Int)=zaS q.size then blW (m:Int) l q.bl else 2)else 3)=0:=bg;split at y;case isFalse=>cases y
  rename_i cf
  split at y;case isFalse=>cases y
  rename_i P
  have aj:=dD y;rw[u.out]at P;clear n bg y;obtain⟨an,j⟩:=kB (wr.alloc (Xk #[I6 q.size,O cg r ch] 84));have bn:=gT j af;have ab:=xA j;have bt:Xo (zb boE c.heap.size an (O (Xa ⟨h,0,Xb⟩) m m) (zal m l)):=dD (by rw[<-j];exact b8.aA (za _ _));have am:=dD j;clear j;have bj:decide (q.size<0)=Xd:=decide_eq_false Wm;have bk:decide (96<q.size)=Xd:=decide_eq_false Wm;have N:=fun bu=>zcY q.size bu Wm Wm;rw[<-P]at N;have ce:((r:Int)!=(r:Int))=Xd:=Sm;clear P cf;obtain⟨b1,b2⟩:=ab.k2;go_upto_region 9 with fail;rw[am.out];go_quiet(first|(go_at_call 23;exact Calls.quiet_of_same (N _)))
  obtain⟨bw,M⟩:=kB (an.drewN nq);have s:Xo (zc an bw):=dD (by rw[<-M];exact(show Below _ _ _ from bD (bR _ _) _));rw[M];clear M b1 b2 N c0 ba;obtain⟨b1,b2⟩:=(ab.aA s).k2;go_wp2;go_loopg[50] r (fun c3 b4 a8=>∃a:Nat,a<=r/\r-a<=c3/\b4=I6 a/\Xo (zc c a8)/\Xo (zb boE c.heap.size a8 (O (Xa ⟨h,0,Xb⟩) m m) (zal m (blG l (q.bl.take a))))/\Xo (blW (m:Int) (blG l (q.bl.take a)) (q.bl.drop a)=0))
  exact⟨0,nZ _,Wm,rfl,bn.trans s,bt.aA s,aj⟩;obtain⟨a,cb,c9,rfl,f,g,ae⟩:=hrel;clear b1 b2;have a9:=(a1.aA f).c 1 rfl;have ah:=dD (G.trans f);by_cases k:a<r
  ·have S:=kC k
   obtain⟨B,ai⟩:∃B,Xo (q.bl[a]?=Xa B):=⟨_,gE (Rx u.out k)⟩;obtain⟨cj,rfl,a6⟩:=Z.out a B ai.out;have c1:=a6 _ ah.out;have t:Xo (blG l (q.bl.take (a+1))=zam (blG l (q.bl.take a)) B):=dD (by rw[jU ai.out,zg1]);clear a6;obtain⟨K,X⟩:=kA (blG l (q.bl.take a));have x:=ae.out;rw[Zf ai.out,X.out]at x;have n:(if J9 (m:Int) K B=0 then blW (m:Int) (zam K B) (q.bl.drop (a+1))else J9 (m:Int) K B)=0:=x;split at n;case isFalse ao=>exact absurd n ao
   rename_i ac
   rw[X.out]at t g;have W:Xo (blW (m:Int) (blG l (q.bl.take (a+1))) (q.bl.drop (a+1))=0):=dD<|Rx t.out n;clear x n;rcases J8 (m:Int) K B with⟨rfl,y,z⟩|⟨_,_,z⟩|⟨_,_,_,_,z⟩|⟨i,rfl,y,z,c5,ap⟩
   ·clear y ac;have I:Xo (zb boE c.heap.size _ (O (Xa ⟨h,0,Xb⟩) m m) (zal m (blG l (q.bl.take (a+1))))):=dD (by rw[t.out,z];exact g.out);have az:¬(m:Int)<=-1:=Wm;have cd:decide ((m:Int)<=-1)=Xd:=decide_eq_false az;clear z;go_wp2;go_roundg (r-(a+1));exact⟨a+1,Wm,Wm,Gn,f,I,W⟩;omega
   ·exact absurd (ac.symm.trans z) Dc
   ·exact absurd (ac.symm.trans z) Dc
   clear c5 ac;have Q:i<m:=Wm;have ar:¬(i:Int)< -1:=Wm;have bb:decide ((i:Int)< -1)=Xd:=decide_eq_false ar;have au:¬(m:Int)<=(i:Int):=Wm;have bc:decide ((m:Int)<=(i:Int))=Xd:=decide_eq_false au;have bd:decide (m<=i)=Xd:=decide_eq_false Wm;have c8:¬(i:Int)<0:=Wm;have c2:wr.cell? ⟨h,i,Xb⟩=Xa (Xh Xd):=by
    have:=g.one (zkq K Q) 0 _ rfl;rw[zX,Yc,zA,z]at this;simpa[boE]using this
   have ak:=dD ap;clear z ap;go_wp2_with(refine z3 (E:=boE) rfl (.tmp 70) (.const (Xh Xc)) rfl c.heap.size _ (zal m K) g h i rfl Xc ?t1 ⟨h,i,Xb⟩ rfl ?t2 (Xh Xc) rfl rfl ?_)
   case t1=>rw[zhT];exact Q
   case t2=>first|exact(Ob i).symm|(show _=Addr.mk h (i*1) Xb;rw[Ob])
   intro b9 a7 a2 _;have I:Xo (zb boE c.heap.size b9 (O (Xa ⟨h,0,Xb⟩) m m) (zal m (blG l (q.bl.take (a+1))))):=dD (by rw[t.out,ak.out,<-zm9 K Q];exact a7);have bo:Xo (zc c b9):=dD<|zd f a2 (by rw[H.out];exact nR _);clear a7 a2 c2 c1 a9;go_wp2;go_roundg (r-(a+1));exact⟨a+1,Wm,Wm,Gn,bo,I,W⟩;omega
  have S:=kD k;have:a=r:=Wm;subst this;have I:Xo (zb boE c.heap.size wr (O (Xa ⟨h,0,Xb⟩) m m) (zal m (zeB [] (fs.take (b+1))))):=dD<|by
   rw[Y.out];have:=g.out;rw[Yf (by rw[u.out];exact nR _)]at this;exact this
  go_wp2;go_roundg (p-(b+1));exact⟨b+1,Wm,Wm,Gn,f,I,bp⟩;omega
 have a5:=kD R;have:b=p:=Wm;subst this;have ah:=dD (G.trans af);go_wp2;go_ret;exact⟨rfl,ah⟩
theorem zbY(v l w)(m:zq arE w v l)(B:Cap v)(ap:(wrL l).1=0):
  Xp prog 77 #[v] w fun e w'=>e=Xl (Xi #[I6 0,I6 (wrL l).2])/\zc w w':=by
 have a5:=m.short;obtain⟨ct,c,rfl,C⟩:=m.aC;have a3:=dD C;have b1:=dD<|fun(q:Ar)W=>zaf q W;have bm:=dD m;have av:l.length<=c:=B;have cd:=dD<|fun(b:Ar)(q:Ar)v W(m:zq arE W v [b,q])(au:jS b)(az:jS q)(bq:b.tz<=q.fr)=>Zo v [b,q] W m (zpe au az bq)
 have ce:Xo (∀(b q:Ar)W,jS b->jS q->b.tz<=q.fr->Xp prog 117 #[Xi (zD (tab (zr [b,q]))).toArray] W fun e w'=>(∃S T,e=Xl (.slice S (Q5 (zr [b,q])).length T))/\zc W w'):=fun b q W au az bq=>(zcZ (zr [b,q]) W (zoK au az)).mono (by
  rintro e w'⟨⟨v,rfl,cm⟩,cb⟩;obtain⟨S,T,rfl⟩:=cm.form;exact⟨⟨S,T,rfl⟩,cb⟩)
 clear C m B;have al:Xo (¬16<l.length->zbL (QX l 0) (l.drop 0) 0=wrL l):=zhe;have ai:Xo (16<l.length->wrL l=(4,0)):=fun r=>by unfold wrL;rw[kE r]
 have I:Xo (∀Z,zbL (QX l l.length) (l.drop l.length) l.length=Z->Z=(0,0)):=fun Z=>zms;obtain⟨f,X⟩:=kA l.length;rw[X.out]at a5 av bm⊢;have z:Xo (¬16<f->zbL (QX l 0) (l.drop 0) 0=wrL l):=dD<|Ry X.out al.out;have u:Xo (16<f->wrL l=(4,0)):=dD<|Ry X.out ai.out;have F:Xo (∀Z,zbL (QX l f) (l.drop f) f=Z->Z=(0,0)):=dD<|Ry X.out I.out
 skip
 generalize cf:wrL l=D at ap z u⊢;have a8:=dD ap;clear cf ap;obtain⟨cq,s⟩:=kB (w.alloc (Xk #[I6 0,I6 0] 150));have ah:=gA s;have c3:=xA s;have an:=dD s;clear s;have P:¬16<f:=fun r=>by have:=a8.out;rw[u.out r]at this;cases this
 have a7:¬(16:Int)<(f:Int):=Wm;have bx:=dD<|z.out P;go_enter func77,ntmps77;go_upto_region 1 with fail;rw[an.out];go_wp2;go_loopg[12] f (fun cc bi wr=>∃g:Nat,g<=f/\f-g<=cc/\bi=I6 g/\Xo (zc w wr)/\Xo (Box wr w.heap.size [I6 0,I6 0])/\Xo (zbL (QX l g) (l.drop g) g=D)/\Xo (∀(a:Nat)q,a<g->l[a]?=Xa q->jS q))
 exact⟨0,nZ _,Wm,rfl,ah,c3,bx,fun a q br=>absurd br (nL _)⟩;obtain⟨g,ck,aw,rfl,af,U,Y,bo⟩:=hrel;by_cases N:g<f
 ·have a6:=kC N
  obtain⟨q,x⟩:∃q,Xo (l[g]?=Xa q):=⟨_,gE (Rx X.out N)⟩;obtain⟨d,rfl,i⟩:=a3.out g q x.out;obtain⟨c4,c5,c6,c7,c8,c9,ca⟩:=i wr af.out;have bz:=dD U.lt;obtain⟨ae,aj⟩:=kA wr.heap.size;have a1:Xo (w.heap.size<ae):=show _<_ by rw[<-aj.out];exact bz.out
  clear i;go_upto_region 6 with fail;refine nW fun cr h=>?_;have bv:=gT h af;have bt:=yA h U;have bp:=xP h aj;rw[aj.out];clear h c4 c5 c6 c7 c8 c9 ca;go_wp2_with(refine zE rfl 77 (.tmp 4) rfl ae rfl bp underlying77 rfl zsO ?_)
  refine(b1.out q _).mono ?_;rintro e A⟨rfl,ab⟩;have k:=dD (bv.trans ab);have bk:=dD (bt.aA ab);have H:=dD (bp.aA ab);clear ab;have bs:ae≠w.heap.size:=Hm a1.out;have ay:w.heap.size≠ae:=Hm a1.out;have Q:arW q=0:=Classical.byContradiction fun Q=>by have:=a8.out;rw[zmt Y.out x.out Q]at this;exact Q this
  have a9:=dD Q;have cl:(arW q !=0)=Xd:=by simp[Q]
  have p:Xo (jS q):=QG.1 Q;have a4:Xo (∀(a:Nat)R,a<g+1->l[a]?=Xa R->jS R):=show∀(a:Nat)R,_ from fun a R br t=>by
   by_cases e:a=g;·subst e;rw[x.out]at t;cases t;exact p.out
   exact bo a R Wm t
  clear Q;go_upto_region 9 with fail;generalize arW q=cx;cases g with
  |zero=>
   have G:Xo (zbL (QX l 1) (l.drop 1) 1=D):=zhb Y x a9.out;have bg:¬(0:Int)<((0:Nat):Int):=Dc;have bh:decide ((0:Int)<((0:Nat):Int))=Xd:=Dc;go_quiet(fail);go_wp2;go_roundg (f-1);exact⟨1,Wm,Wm,Gn,k.trans (show Below _ _ _ from bD (bR _ _) _),bk.aA (show Below _ _ _ from bD (bR _ _) _),G,a4⟩;omega
  |succ a=>
   obtain⟨b,V⟩:∃b,Xo (l[a]?=Xa b):=⟨_,gE (by rw[X.out];omega)⟩;have E:Xo (jS b):=bo.out a b Wm V.out;have bg:(0:Int)<((a+1:Nat):Int):=Wm;have bh:decide ((0:Int)<((a+1:Nat):Int))=Xc:=Sm;have ci:((a+1:Nat):Int)-1=(a:Int):=Wm;have cj:(a:Int)<(f:Int):=Wm;obtain⟨ao,ar,i⟩:=a3.out a b V.out;obtain rfl:d=ao:=(by cases ar;rfl);have ac:¬q.fr<b.tz:=fun ac=>(by have:=a8.out;rw[zdr Y.out V.out x.out a9.out (.inl ac)]at this;cases this);have ch:decide (q.fr<b.tz)=Xd:=Si ac;have ag:=dD ac;have b2:=H.gw 0 rfl;have b3:=H.gw 1 rfl;have b4:=H.gw 2 rfl;have b5:=H.gw 3 rfl;have b6:=H.gw 4 rfl;have b7:=H.gw 5 rfl;have b8:=H.gw 6 rfl;have b9:=fun y:zj A=>(i _ (k.trans y.aA)).1;have ba:=fun y:zj A=>(i _ (k.trans y.aA)).2.1;have bb:=fun y:zj A=>(i _ (k.trans y.aA)).2.2.1;have bc:=fun y:zj A=>(i _ (k.trans y.aA)).2.2.2.1;have bd:=fun y:zj A=>(i _ (k.trans y.aA)).2.2.2.2.1;have be:=fun y:zj A=>(i _ (k.trans y.aA)).2.2.2.2.2.1;have bf:=fun y:zj A=>(i _ (k.trans y.aA)).2.2.2.2.2.2;have ax:Nonempty (zj A):=⟨⟨_,zc.refl _⟩⟩;have ak:Xo (∀W,zc w W->zq arE W (O (Xa (d.add (a*7))) 2 (c-a)) [b,q]):=fun W cg=>zqt (bm.aA cg) V x.out;have b0:=fun W=>zlg (w:=W) (ad:=d) (n:=f) (c:=c) (j:=a) Wm;obtain⟨aa,bl⟩:=kA ((Q5 (zr [b,q])).length);have am:Xo (decide (aa<2)=goB q b):=dD (by rw[<-bl.out];exact zrz E p (Hm ag.out));have a0:Xo (b.tz<=q.fr):=dD<|Hm ag.out;clear i;obtain⟨bn,a2⟩:=kA (zD (tab (zr [b,q])));refine jK [(19,⟨fun v=>v=Xi bn.toArray,fun _ _=>True⟩),(20,⟨fun v=>∃S T,v=O S aa T,fun _ _=>True⟩)] zY Kr ?_ ?_ ?_
   ·intro R t
    simp at t;rcases t with rfl|rfl;·exact⟨_,rfl⟩
    exact⟨O Xb aa 0,Xb,0,rfl⟩
   ·intro R t
    simp at t;rcases t with rfl|rfl;·exact fun _ _ _ _ r=>r
    exact fun _ _ _ _ r=>r
   iterate 19 refine zf ?_
   refine zI rfl rfl (fun w' aw aq=>?_) (fun cn m=>?_);·refine zO.call [O (Xa (d.add (a*7))) 2 (c-a)] rfl func16 rfl rfl rfl ?_;refine(cd.out b q _ w' (ak w' (k.trans aw)) E p a0).mono ?_;rintro e bj⟨rfl,L⟩;exact⟨_,rfl,L,by rw[a2.out],trivial⟩
   subst m;refine Uq ?_;refine zI rfl rfl (fun w' aw aq=>?_) (fun cn m=>?_);·refine zO.call [Xi bn.toArray] rfl func117 rfl rfl rfl ?_;rw[<-a2.out];refine(ce.out b q w' E p a0).mono ?_;rintro e bj⟨⟨S,T,rfl⟩,L⟩;exact⟨_,rfl,L,⟨S,T,by rw[bl.out]⟩,trivial⟩
   obtain⟨co,cp,rfl⟩:=m;refine Uq ?_;have a7:decide ((aa:Int)<2)=goB q b:=(by rw[<-am.out];exact decide_eq_decide.2 Wm);iterate 4 refine zf ?_
   refine z5 fun cs K aq=>?_;have bw:=dD (k.trans K);have bu:=dD (bk.aA K);clear a7 b0 K aq b2 b3 b4 b5 b6 b7 b8 b9 ba bb bc bd be bf ax;have M:goB q b=Xd:=Bool.eq_false_iff.2 fun r=>(by have:=a8.out;rw[zdr Y.out V.out x.out a9.out (.inr r)]at this;cases this);have G:Xo (zbL (QX l (a+1+1)) (l.drop (a+1+1)) (a+1+1)=D):=zj9 Y V x a9 ag M;rw[M];clear M;go_wp2;go_roundg (f-(a+1+1));exact⟨a+1+1,Wm,Wm,Gn,bw,bu,G,a4⟩;omega
 have a6:=kD N;have:g=f:=Wm;subst this;have c0:=dD<|F.out _ Y.out;obtain⟨cu,cv⟩:=U.k2;have cw:=U.f;have c1:Xo (Box ((wr.setCell ⟨w.heap.size,0,Xb⟩ (I6 0)).setCell ⟨w.heap.size,1,Xb⟩ (I6 0)) w.heap.size [I6 0,I6 0]):=show Box _ _ _ from(U.set 0 _).set 1 _;have c2:Xo (zc w ((wr.setCell ⟨w.heap.size,0,Xb⟩ (I6 0)).setCell ⟨w.heap.size,1,Xb⟩ (I6 0))):=dD<|zB (zB af Sm _) Sm _;go_wp2;refine bodyPost_ret (z8 (vs:=[I6 0,I6 0]) rfl _ rfl c1 underlying150 rfl zsP) rfl ⟨?_,c2⟩;rw[c0.out]
theorem zrB(h:spE s=0):(wrL s.aC).1=0/\tbW s.tb=0/\(s.aD=Xd->s.aC=[]/\s.tb.all (·.isEmpty)=Xc):=by grind[spE]
theorem zop(h:zaU m=0)(hb:b<m.db.length):zda m b=Xd:=by
 cases e:zda m b with
 |false=>rfl
 |true=>rw[zf1 hb e]at h;cases h
theorem zoU(h:zaz m=0){q:Int×List Int}(a:m.dq[j]?=Xa q):z4 m.fl q.1=Xc:=by grind[z4,zfB]
theorem zjf(V m w)(A:zK w V m)(u:zak m=0):
  Xp prog 41 #[Xi (mL V m).toArray] w fun e w'=>e=Xl (I6 0)/\zc w w':=by
 unfold zak at u;rw[zk]at u;have e4:ZR m.fs m.aB=0:=u _ Sm;have e5:slW m.sl=0:=u _ Sm;have e6:zS m.sb.length m.sq=0:=u _ Sm;have e7:zS m.db.length m.dq=0:=u _ Sm;have e8:stW m.fl m.cnt=0:=u _ Sm;have be:znI m=0:=u _ Sm;have eh:Xo (zaU m=0):=dD<|u _ Sm;have ei:Xo (zaz m=0):=dD<|u _ Sm;have bz:(if 4<m.sp.length then(4:Int)else 0)=0:=u _ Sm;have cl:Xo (∀s∈m.sp,spE s=0):=dD<|fun s b8=>zk.1 (u (zG (m.sp.map spE)) Sm) _ (Xx.2 ⟨s,b8,rfl⟩);have bn:=dD A;obtain⟨cw,bv,bw,-,bd,cx,-,-,bx⟩:=A.ns;obtain⟨e9,bc,B,ba⟩:=A.aU;have y:=A.fs;have C:=A.sl;have ae:=dD A.pgs;have ag:=dD A.puts;have b9:=A.sp;have ct:V.dq.n<=9223372036854775807:=Hm A.dq.2.2;have cs:V.db.n<=9223372036854775807:=Hm A.db.2.2;obtain⟨bk,P,h,a9,⟨E,b,F⟩,⟨a1,i,a2⟩,bl,bj,⟨bh,d,bi⟩⟩:=V;dsimp only[mL]at cw bv bw bd cx bx cs ct ae ag y C B⊢;have c4:Xo (∀W,zc w W->Xp prog 73 #[Xi #[bk.x,I6 m.aB]] W fun e w'=>e=Xl (I6 0)/\zc W w'):=dD<|fun W c=>by(try simp only[Sli.x]at y⊢);rw[cw]at y⊢;rw[<-e4];exact zd1 bk.a bk.c m.fs m.aB W (zrS.1 (y.aA c))
 have c5:Xo (∀W,zc w W->Xp prog 74 #[P.x] W fun e w'=>e=Xl (I6 0)/\zc W w'):=dD<|fun W c=>by(try simp only[Sli.x]at C⊢);rw[bv]at C⊢;rw[<-e5];exact zgo P.a P.c m.sl W (C.aA c)
 have c6:Xo (∀W,zc w W->Xp prog 75 #[Xi #[h.x,a9.x]] W fun e w'=>e=Xl (I6 0)/\zc W w'):=dD<|fun W c=>by rw[<-e6,<-bw];exact Jo h.a h.n h.c _ m.sq W (bn.aA c).sq
 have c7:Xo (∀W,zc w W->Xp prog 75 #[Xi #[O E b F,O a1 i a2]] W fun e w'=>e=Xl (I6 0)/\zc W w'):=dD<|fun W c=>by rw[<-e7,<-bd];exact Jo E b F _ m.dq W (bn.aA c).dq
 have c8:=dD<|fun W(c:zc w W)=>zgn _ m.fl m.cnt W (bn.aA c).fl e8;have ah:=dD<|fun W ep(c:zc w W)=>zkc _ m.fl m.cnt ep W (bn.aA c).fl;have cb:=dD bd.symm;have cc:=dD cx.symm;have ac:=dD bx.symm;have es:d<=4:=by
  rw[<-bx]at bz;split at bz;·cases bz
  omega
 have cj:Xo (e9.length=d):=dD<|Rx bc ac.out;have ce:=dD B;have cf:=dD ba;have ay:P.n=h.n/\m.cnt=(b:Int):=by
  unfold znI at be;rw[<-bv,<-bw,<-bd]at be;split at be;·cases be
  omega
 obtain⟨cm,du⟩:=ay;have cn:((P.n:Int)!=(h.n:Int))=Xd:=by simp[cm]
 have co:(P.n !=h.n)=Xd:=by simp[cm]
 have cp:(m.cnt !=(b:Int))=Xd:=by simp[du]
 have eu:d<=9223372036854775807:=Wm;have et:decide ((4:Int)<(d:Int))=Xd:=by simp;omega
 clear A cw bv bw bd cx bx bc B ba y C b9 u e4 e5 e6 e7 e8 be bz cm du es;obtain⟨ak,H⟩:=kB (w.alloc (Xk #[bk.x,I6 m.aB,P.x,h.x,a9.x,O E b F,O a1 i a2,bl.x,I6 m.cnt,bj.x,O bh d bi] 41));have n:=gA H;have f:Xo (∀W,zc ak W->Box W w.heap.size [bk.x,I6 m.aB,P.x,h.x,a9.x,O E b F,O a1 i a2,bl.x,I6 m.cnt,bj.x,O bh d bi]):=dD<|fun W c=>by
  rw[<-H]at c;exact(Box.aE _ _ _ rfl).aA c
 have ci:=dD H;clear H;go_enter func41,ntmps41;go_upto_region 1 with fail;rw[ci.out];have f1:=(f _ (zc.refl _)).c 0 rfl;have f2:=(f _ (zc.refl _)).c 1 rfl;have p:=c4.out ak n.out;go_wp2_with fail;refine p.mono ?_;clear p f1 f2;rintro e ek⟨rfl,j⟩;have ed:=dD j;have dl:=(f _ j).c 2 rfl;have p:=c5.out ek (n.trans j);go_wp2_with fail;refine p.mono ?_;clear p dl j;rintro e el⟨rfl,j⟩;have bp:=dD (ed.trans j);clear j;have dm:=(f _ bp).c 3 rfl;have f3:=(f _ bp).c 4 rfl;have p:=c6.out el (n.trans bp);go_wp2_with fail;refine p.mono ?_;clear p dm f3;rintro e em⟨rfl,j⟩;have bq:=dD (bp.trans j);clear j;have dn:=(f _ bq).c 5 rfl;have dp:=(f _ bq).c 6 rfl;have p:=c7.out em (n.trans bq);go_wp2_with fail;refine p.mono ?_;clear p dn dp;rintro e en⟨rfl,j⟩;have br:=dD (bq.trans j);clear j;have bm:=(f _ br).c 7 rfl;have aa:=(f _ br).c 8 rfl;have p:=c8.out en (n.trans br);go_wp2_with fail;refine p.mono ?_;clear p bm aa;rintro e f4⟨rfl,j⟩;have aj:=dD (br.trans j);clear j;have dl:=(f _ aj).c 2 rfl;have dm:=(f _ aj).c 3 rfl;have dn:=(f _ aj).c 5 rfl;have aa:=(f _ aj).c 8 rfl;go_wp2;clear dl dm dn aa cn co cp;go_loopg[68] b (fun av df wr=>∃l:Nat,l<=b/\b-l<=av/\df=I6 l/\Xo (zc ak wr))
 exact⟨0,nZ _,Wm,rfl,aj⟩;obtain⟨l,ey,ex,rfl,r⟩:=hrel;by_cases a3:l<b
 ·have az:=kC a3
  have ab:Xo (l<m.db.length):=dD<|Rx cb.out a3;obtain⟨cy,dq⟩:∃cy,Xo (m.db[l]?=Xa cy):=⟨_,gE ab⟩;obtain⟨dt,S,T,U,X,Y,Z,I,a0,rfl,rfl,N⟩:=ae.out l cy dq.out;have Q:Xo ((!z4 m.fl (l:Int)&&!([S,T,U,X,Y,Z,I,a0]==zt))=Xd):=dD<|by
   have:=zop eh ab.out;unfold zda at this;rw[gD,dq.out]at this;exact this
  obtain⟨al,am,an,ao,ap,aq,ar,au⟩:=N wr (n.trans r);have a7:=fun W=>QL 9998 S T U X Y Z I a0 0 0 0 0 0 0 0 0 W;simp only[zg7]at a7;obtain⟨eg,cd⟩:=kA ([S,T,U,X,Y,Z,I,a0]==zt);rw[cd.out]at a7 Q;clear N;go_upto_region 21 with fail;refine nW fun R a=>?_;have ee:=xA a;have k:=gT a r;clear a al am an ao ap aq ar au;have g:=ah.out R (l:Int) (n.trans k);obtain⟨ej,bo⟩:=kA (z4 m.fl (l:Int));rw[bo.out]at g Q;have bm:=(f _ k).c 7 rfl;have aa:=(f _ k).c 8 rfl;go_wp2_with fail;refine g.mono ?_;clear g bm aa;rintro e bu⟨rfl,G⟩;have bs:=dD (k.trans G);have ef:=ee.aA G;obtain⟨e0,f8,f9,fa,fb,fc,fd,fe⟩:=ef.c8;clear G;cases ej with
  |true=>
   clear a7;go_wp2;go_roundg (b-(l+1));exact⟨l+1,Wm,Wm,Gn,bs⟩;omega
  |false=>
   cases eg with
   |true=>
    go_wp2;go_roundg (b-(l+1));exact⟨l+1,Wm,Wm,Gn,bs⟩;omega
   |false=>cases Q.out
 have az:=kD a3;have dp:=(f _ r).c 6 rfl;go_wp2;clear dp;go_loopg[88] i (fun av di wr=>∃L:Nat,L<=i/\i-L<=av/\di=I6 L/\Xo (zc ak wr))
 exact⟨0,nZ _,Wm,rfl,r⟩;obtain⟨L,f7,ev,rfl,r⟩:=hrel;by_cases z:L<i
 ·have a4:=kC z
  obtain⟨cz,dr⟩:∃cz,Xo (m.dq[L]?=Xa cz):=⟨_,gE (Rx cc.out z)⟩;have bo:=zoU ei dr.out;obtain⟨dt,cv,S,T,U,X,Y,Z,I,a0,rfl,rfl,N⟩:=ag.out L cz dr.out;obtain⟨al,am,an,ao,ap,aq,ar,au,cq⟩:=N wr (n.trans r);have g:=fun W c=>ah.out W cv c;dsimp only at bo;rw[bo]at g;clear N;go_upto_region 27 with fail;obtain⟨R,a⟩:=kB (wr.alloc (Xk #[I6 cv,U8 S,U8 T,U8 U,U8 X,U8 Y,U8 Z,U8 I,U8 a0] 88));have e0:=((show Box R wr.heap.size [I6 cv,U8 S,U8 T,U8 U,U8 X,U8 Y,U8 Z,U8 I,U8 a0] by rw[<-a];exact Box.aE _ _ _ rfl)).c 0 rfl;have k:=gT a r;rw[a];clear a al am an ao ap aq ar au cq;have g:=g R (n.trans k);have bm:=(f _ k).c 7 rfl;have aa:=(f _ k).c 8 rfl;go_wp2_with fail;refine g.mono ?_;clear g bm aa e0;rintro e bu⟨rfl,G⟩;have bs:=dD (k.trans G);clear G;go_wp2;go_roundg (i-(L+1));exact⟨L+1,Wm,Wm,Gn,bs⟩;omega
 have a4:=kD z;have dk:=(f _ r).c 10 rfl;go_wp2;clear dk;go_loopg[106] d (fun av bg wr=>∃v:Nat,v<=d/\d-v<=av/\bg=I6 v/\Xo (zc ak wr))
 exact⟨0,nZ _,Wm,rfl,r⟩;obtain⟨v,f6,ew,rfl,r⟩:=hrel;by_cases q:v<d
 ·have a5:=kC q
  obtain⟨x,cu⟩:∃x,e9[v]?=Xa x:=⟨_,gE (Rx cj.out q)⟩;obtain⟨s,b8⟩:∃s,m.sp[v]?=Xa s:=⟨_,gE (Rx ac.out q)⟩;have t:=dD<|cf.out v x s cu b8;obtain⟨dv,dw,cr⟩:=zrB (cl s (mG b8));have c9:Xo (s.aD=Xd->x.ar.n=0/\s.tb.all (·.isEmpty)=Xc):=show _->_ from fun dy=>⟨by rw[t.ar.n,(cr dy).1];rfl,(cr dy).2⟩;obtain⟨dt,rfl,N⟩:=ce.out v x cu;obtain⟨al,am,an,ao,ap,aq,ar,au,cq,eq⟩:=N wr (n.trans r);clear N cu b8 cr;have ca:=dD t.aD;have c3:=dD<|fun W(c:zc w W)=>zbY _ s.aC W (t.aA c).ar (show Cap (x.ar.x)from t.cap) dv;have ch:=dD<|fun W(c:zc w W)=>zgm x.tab s.tb W (t.aA c).tb dw;have cg:=dD<|fun W(c:zc w W)=>zjb x.tab s.tb W (t.aA c).tb;clear dv dw;go_upto_region 35 with fail;refine nW fun R a=>?_;have k:=gT a r;obtain⟨ez,af⟩:=kA wr.heap.size;have bt:Xo (∀W,zc R W->Box W ez [Xh x.aD,x.ar.x,x.t0.x,x.t1.x,x.t2.x,x.t3.x,x.t4.x,x.t5.x,x.t6.x,x.t7.x]):=dD<|fun W c=>by
   rw[<-a]at c;exact(Box.aE _ _ _ af.symm).aA c
  rw[af.out];clear a al am an ao ap aq ar au cq eq;have ax:=c3.out R (n.trans k);have bf:=(bt _ (zc.refl _)).c 1 rfl;go_wp2_with fail;refine ax.mono ?_;clear ax bf;rintro e bu⟨rfl,G⟩;have eb:=dD G;clear G;go_upto_region 36 with fail;obtain⟨ds,K⟩:=kB (bu.alloc (Xk #[I6 0,I6 (wrL s.aC).2] 150));have ck:=gT K eb;have ea:Box ds bu.heap.size [I6 0,I6 (wrL s.aC).2]:=by rw[<-K];exact Box.aE _ _ _ rfl
  have er:=ea.c 0 rfl;rw[K];clear K;have bb:=ch.out ds (n.trans (k.trans ck));have M:=bt.out _ ck.out;obtain⟨_,_,da,db,dc,dd,de,dg,dh,dj⟩:=M.k10;go_wp2_with fail;refine bb.mono ?_;clear bb er da db dc dd de dg dh dj;rintro e eo⟨rfl,dx⟩;have ai:=dD (ck.trans dx);clear dx;have c0:=(bt _ ai).c 0 rfl;rw[ca.out]at c0;cases a6:s.aD with
  |true=>
   rw[a6]at c0;go_wp2;go_roundg (d-(v+1));exact⟨v+1,Wm,Wm,Gn,k.trans ai⟩;omega
  |false=>
   rw[a6]at c0;obtain⟨dz,aw⟩:=c9.out a6;have D:=bt.out _ ai.out;have bf:=D.c 1 rfl;(try simp only[Sli.x]at bf);rw[dz]at bf;have a8:=cg.out eo (n.trans (k.trans ai));rw[aw]at a8;obtain⟨_,_,da,db,dc,dd,de,dg,dh,dj⟩:=D.k10;clear dz aw;go_wp2_with fail;refine a8.mono ?_;clear a8 c0 bf da db dc dd de dg dh dj;rintro e f5⟨rfl,gA⟩;have ec:=dD (ai.trans gA);clear gA;go_wp2;go_roundg (d-(v+1));exact⟨v+1,Wm,Wm,Gn,k.trans ec⟩;omega
 have a5:=kD q;go_wp2;go_ret;exact⟨rfl,n.trans r⟩
def zag(m:Ma)(kind k:Int)(p:Nat):Nat:=qK ((m.sp.take p).map ze) kind k
theorem zjx{p:Int}(h:m.sp[k]?=Xa s):zag m z p (k+1)=zag m z p k+Zw (ze s) z p 64:=by grind[zag,qK,Yt]
theorem zfK{k:Int}:zag m z k m.sp.length=Qz m z k:=by unfold zag Qz;rw[List.take_length]
theorem zh7{kind k:Int}(p:Nat):zag m kind k p<=64*p:=by grind[zaI,ze,Yg,List.length_take,zag]
theorem zfe(V)(m:Ma)(kind k:Int)(w)(a2:zK w V m)(an:m.sp.length<=4)(ao:∀s∈m.sp,∀bb∈s.tb,bb.length<=8):
  Xp prog 43 #[Xi (mL V m).toArray,I6 kind,I6 k] w fun e w'=>e=Xl (I6 (Qz m kind k:Int))/\zc w w':=by
 obtain⟨-,-,-,-,-,-,-,-,a5⟩:=a2.ns;obtain⟨aq,H,j,G⟩:=a2.aU;have al:=dD j;have ax:=dD G;obtain⟨X,y⟩:=kA m.sp.length;have bc:X<=4:=Ry y.out an;have T:Xo (aq.length=X):=dD<|Rx H y.out;have av:=dD ao;obtain⟨bn,bo,af,ag,ab,ac,ae,aa,⟨a8,a,a9⟩⟩:=V;dsimp only[mL]at a5 al⊢;obtain rfl:a=X:=Rx a5 y.out;clear a2 j G H a5 ao an;obtain⟨ay,c⟩:=kB (w.alloc (Xk #[bn.x,I6 m.aB,bo.x,af.x,ag.x,ab.x,ac.x,ae.x,I6 m.cnt,aa.x,O a8 a a9] 41));have R:=gA c;have S:Xo (_=ay):=c;have b0:=xA c;clear c;go_enter func43,ntmps43;go_upto_region 2 with fail;rw[S.out];have ah:=b0.c 10 rfl;go_wp2;clear ah;go_loopg[7,15] a (fun Z L a6 wr=>∃p:Nat,p<=a/\a-p<=Z/\a6=I6 p/\L=I6 (zag m kind k p:Int)/\Xo (zc w wr))
 exact⟨0,nZ _,Wm,rfl,rfl,R⟩;obtain⟨p,bw,bu,rfl,rfl,N⟩:=hrel;by_cases g:p<a
 ·have F:=kC g
  obtain⟨x,a4⟩:∃x,aq[p]?=Xa x:=⟨_,gE (Rx T.out g)⟩;obtain⟨s,a3⟩:∃s,m.sp[p]?=Xa s:=⟨_,gE (Rx y.out g)⟩;have P:=dD<|ax.out p x s a4 a3;have z:=dD a3;obtain⟨br,rfl,ap⟩:=al.out p x a4;have q:=ap wr N.out;obtain⟨b1,b2,b3,b4,b5,b6,b7,b8,b9,ba⟩:=q;clear ap a4 a3;have v:Xo (∀K,K<64->(zaO s.tb)[K]?=Xa (ze s K)):=show∀K,_ from fun K bf=>zdD s.tb bf;have E:∀W,zc w W->Xp prog 14 #[Xi #[x.t0.x,x.t1.x,x.t2.x,x.t3.x,x.t4.x,x.t5.x,x.t6.x,x.t7.x]] W fun e w'=>e=Xl (Xi (qN (zaO s.tb)).toArray)/\zc W w':=fun W bd=>zcP x.tab s.tb W ((P.aA bd).tb) (av s (mG z));have Q:=dD E;clear E;have a1:=zh7 (m:=m) (kind:=kind) (k:=k) p;have A:Xo (zag m kind k (p+1)=zag m kind k p+Zw (ze s) kind k 64):=zjx z.out;obtain⟨au,C⟩:=kB (zag m kind k p);rw[C]at a1 A⊢;clear C;go_upto_region 5 with fail;refine nW fun az d=>?_;have aj:=gT d N;have h:=xA d;clear d b1 b2 b3 b4 b5 b6 b7 b8 b9 ba;obtain⟨_,_,bg,bh,bi,bj,bk,L,bl,bm⟩:=h.k10;go_wp2_with fail;refine(Q az aj).mono ?_;clear bg bh bi bj bk L bl bm;rintro e bp⟨rfl,am⟩;have ar:=dD (aj.trans am);clear am;go_wp2;go_loopg[7,22] 64 (fun Z L a7 wr=>∃n:Nat,n<=64/\64-n<=Z/\a7=I6 n/\L=I6 ((au+Zw (ze s) kind k n:Nat):Int)/\Xo (zc w wr))
  exact⟨0,nZ _,Wm,rfl,rfl,ar⟩;obtain⟨n,bv,be,rfl,rfl,u⟩:=hrel;by_cases i:n<64
  ·have r:(n:Int)<64:=Wm
   obtain⟨e,ak⟩:=kA (ze s n);have U:Xo ((zaO s.tb)[n]?=Xa e):=dD (by rw[v.out n i,ak.out]);have q:=zoa (ze s) kind k n;have b:Xo (Zw (ze s) kind k (n+1)=Zw (ze s) kind k n+(isE e kind k).toNat):=dD (by rw[<-ak.out];rfl);obtain⟨Y,D⟩:=kB (Zw (ze s) kind k n);rw[D]at q b⊢;clear D;go_upto_region 8 with(refine zbQ rfl (.tmp 21) (.tmp 22) rfl (zaO s.tb) rfl n rfl i U.out ?_)
   refine nW fun bq f=>?_;have M:=gT f u;have ai:=xA f;clear f;obtain⟨bs,bt⟩:=ai.k2;by_cases l:e.kind=kind
   ·have I:(e.kind==kind)=Xc:=by simp[l]
    by_cases t:e.n=k
    ·have a0:(e.n==k)=Xc:=by simp[t]
     have B:Xo (Zw (ze s) kind k (n+1)=Y+1):=dD (by rw[b.out];simp[isE,l,t]);clear l t;go_wp2;go_roundg (64-(n+1));exact⟨n+1,Wm,Wm,Gn,by rw[B.out];go_num,M⟩;omega
    have a0:(e.n==k)=Xd:=(by simp[t]);have B:Xo (Zw (ze s) kind k (n+1)=Y):=dD (by rw[b.out];simp[isE,t]);clear l t;go_wp2;go_roundg (64-(n+1));exact⟨n+1,Wm,Wm,Gn,by rw[B.out];go_num,M⟩;omega
   have I:(e.kind==kind)=Xd:=(by simp[l]);have B:Xo (Zw (ze s) kind k (n+1)=Y):=dD (by rw[b.out];simp[isE,l]);clear l;go_wp2;go_roundg (64-(n+1));exact⟨n+1,Wm,Wm,Gn,by rw[B.out];go_num,M⟩;omega
  have r:¬(n:Int)<64:=Wm;obtain rfl:n=64:=Wm;go_wp2;go_roundg (a-(p+1));exact⟨p+1,Wm,Wm,Gn,by rw[A.out];go_num,u⟩;omega
 have F:=kD g;obtain rfl:p=a:=Wm;have aw:Xo (zag m kind k p=Qz m kind k):=dD<|Ry y.out zfK;rw[aw.out];go_wp2;go_ret;exact⟨rfl,N⟩
theorem zjg(V:MaV)(m:Ma)(x:On)(e:En)(w)(L:zK w V m)(ap:0<=e.n)(b:zah m x e=0):
  Xp prog 42 #[Xi #[O V.f.a V.f.n V.f.c,Xe Xf m.aB,O V.s.a V.s.n V.s.c,O V.sb.a V.sb.n V.sb.c,O V.sq.a V.sq.n V.sq.c,O V.db.a V.db.n V.db.c,O V.dq.a V.dq.n V.dq.c,O V.fl.a V.fl.n V.fl.c,Xe Xf m.cnt,O V.ca.a V.ca.n V.ca.c,O V.sp.a V.sp.n V.sp.c],Xi (onv x).toArray,Xi #[Xe Xf e.kind,Xe Xf e.n,Xh e.wr]] w fun ax w'=>ax=Xl (Xe Xf 0)/\zc w w':=by
 obtain⟨Q,R,-⟩:=L.ns;have z:=dD L.bC;obtain⟨u,l,i⟩:=e;obtain⟨T,s,g,a,c,j⟩:=x;unfold zah at b;simp only at b ap;obtain⟨W,A⟩:=kB m.fs.length;obtain⟨aa,B⟩:=kB m.sl.length;rw[A]at b Q;rw[B]at b R;have a8:=dD Q;have a9:=dD R;clear Q R;split at b;·cases b
 obtain rfl:T=Xc:=by simp_all
 obtain⟨h,d⟩:=kB (((w.alloc (Xk #[O V.f.a V.f.n V.f.c,Xe Xf m.aB,O V.s.a V.s.n V.s.c,O V.sb.a V.sb.n V.sb.c,O V.sq.a V.sq.n V.sq.c,O V.db.a V.db.n V.db.c,O V.dq.a V.dq.n V.dq.c,O V.fl.a V.fl.n V.fl.c,Xe Xf m.cnt,O V.ca.a V.ca.n V.ca.c,O V.sp.a V.sp.n V.sp.c] 41)).alloc (Xk (onv ⟨Xc,s,g,a,c,j⟩).toArray 67)).alloc (Xk #[Xe Xf u,Xe Xf l,Xh i] 55));have y:Xo (zc w h):=dD<|by rw[<-d];exact((za _ _).trans (za _ _)).trans (za _ _)
 have X:Xo (Box h w.heap.size [O V.f.a V.f.n V.f.c,Xe Xf m.aB,O V.s.a V.s.n V.s.c,O V.sb.a V.sb.n V.sb.c,O V.sq.a V.sq.n V.sq.c,O V.db.a V.db.n V.db.c,O V.dq.a V.dq.n V.dq.c,O V.fl.a V.fl.n V.fl.c,Xe Xf m.cnt,O V.ca.a V.ca.n V.ca.c,O V.sp.a V.sp.n V.sp.c]):=dD<|by rw[<-d];exact((Box.aE _ _ _ rfl).alloc _).alloc _
 have k:Xo (Box h (w.heap.size+1) [Xh Xc,Xh s,Xh g,Xh a,Xe Xf c,Xe Xf j]):=dD<|by rw[<-d];exact(Box.aE _ _ _ Sm).alloc _
 have Y:Xo (Box h (w.heap.size+2) [Xe Xf u,Xe Xf l,Xh i]):=dD<|by rw[<-d];exact Box.aE _ _ _ Sm
 have C:=dD d;clear d L;go_enter func42,ntmps42;go_upto_region 1 with fail;rw[C.out];have S:=X.c 0 rfl;have a2:=X.c 2 rfl;obtain⟨ay,_,a3,a4,a5,a6⟩:=k.k6;obtain⟨az,b0,a7⟩:=Y.c3;rw[a8.out]at S;rw[a9.out]at a2;split at b
 ·next v=>
  have H:(u==2)=Xc:=by simp[v]
  split at b;·cases b
  next a0=>
  have K:decide ((aa:Int)<=l)=Xd:=by simp;omega
  obtain rfl:a=Xd:=by simp_all
  go_wp2;go_ret;exact⟨rfl,y⟩
 next v=>
 have H:(u==2)=Xd:=by simp[v]
 split at b;·cases b
 next a0=>
 have K:decide ((W:Int)<=l)=Xd:=by simp;omega
 obtain⟨r,rfl⟩:∃r:Nat,l=(r:Int):=⟨l.toNat,by omega⟩;obtain⟨q,M⟩:∃q,m.fs[r]?=Xa q:=⟨_,gE (by omega)⟩;obtain⟨b5,p,a1⟩:=z.out r q M;rw[p]at S;obtain⟨af,ag,ah,ai,aj,ak,al,am,an,ao,E,F,G⟩:=a1 h y.out;rw[zL M]at b;have au:(decide (0<=c)=Xd/\(q.f==-1)=Xc/\a=Xd/\(i=Xc->g=Xc/\decide (1<q.r)=Xd))\/(decide (0<=c)=Xc/\(q.f==c)=Xd/\(q.f==-1)=Xc/\a=Xd/\(i=Xc->g=Xc/\decide (1<q.r)=Xd))\/(decide (0<=c)=Xc/\(q.f==c)=Xc/\(q.x==j)=Xc/\(q.f==-1)=Xd/\(i=Xc->g=Xc/\a=Xc)):=by
  split at b;·cases b
  cases i<;>cases g<;>cases a<;>simp at b⊢<;>grind
 have aq:(r:Int)<(W:Int):=by omega
 clear b M v a0 a1 p;go_upto_region 10 with fail;obtain⟨ab,f⟩:=kB (h.alloc (Xk (frv q).toArray 53));obtain⟨b7,n⟩:=kA h.heap.size;have U:=gT f y;have D:=xP f n;have t:=yA f k;have ac:=yA f Y;have N:_=ab:=f;simp only[frv]at N;rw[N,n.out];clear N f af ag ah ai aj ak al am an ao E F G S a2 ay a3 a4 a5 a6 az b0 a7;have b8:=D.c 8 rfl;have av:=D.c 11 rfl;have aw:=D.c 12 rfl;obtain⟨_,_,a3,a4,a5,a6⟩:=t.k6;have a7:=ac.c 2 rfl;rcases au with⟨Z,I,rfl,P⟩|⟨Z,I,ae,rfl,P⟩|⟨Z,I,ae,b6,P⟩;all_goals
  cases i;·(try cases a)<;>(go_wp2;go_ret;exact⟨rfl,U⟩)
  obtain⟨rfl,ar⟩:=P rfl;(try subst ar);go_wp2;go_ret;exact⟨rfl,U⟩
theorem zid(h:tbW s.tb=0)(n:Nat):enW (ze s n)=0:=by
 unfold ze zbg;have a:=ZZ.1 h;have:ziJ (s.tb[n/8]?.getD []):=by
  cases e:s.tb[n/8]? with
  |none=>exact .inl rfl
  |some x=>exact a x (mG e)
 exact this.get (n%8)
theorem zqa(h:enW Z=0):0<=Z.n:=by
 unfold enW at h;split at h
 ·split at h
  ·omega
  cases h
 cases h
structure Pts(m:Ma):Prop where
 s4:m.sp.length<=4
 f40:m.fs.length<=40
 fr:∀(k:Nat)f,m.fs[k]?=Xa f->0<=f.r/\f.r<=1000
 fl:m.fl.length<=5/\∀f∈m.fl,f.bl.length<=12
 ar:∀s∈m.sp,(wrL s.aC).1=0/\tbW s.tb=0
theorem zhA(h:zak m=0):Pts m:=by
 unfold zak at h;rw[zk]at h;have a:ZR m.fs m.aB=0:=h _ Sm;have k:stW m.fl m.cnt=0:=h _ Sm;have x:(if 4<m.sp.length then(4:Int)else 0)=0:=h _ Sm;have c:=zk.1 (h (zG (m.sp.map spE)) Sm);obtain⟨⟨e,l,n⟩,g,p⟩:=(qJ _ _).1 k;unfold ZR at a;split at a;·cases a
 rename_i q
 split at a
 ·rename_i i
  refine⟨?_,Wm,fun u f b=>?_,⟨e,fun f b=>?_⟩,fun s j=>?_⟩;·grind
  ·have t:=JK.1 i f (mG b)
   grind[frW,inB]
  ·obtain⟨d,v,w⟩:=g f b;have:=zgU d.1 d.2;omega
  have r:=c (spE s) (Xx.2 ⟨s,j,rfl⟩);grind[spE]
 grind
theorem tb8(h:tbW G=0):∀x∈G,x.length<=8:=fun x a=>by
 rcases ZZ.1 h x a with e|e;·rw[e];simp
 rw[e.1];omega
theorem zjR{l:List Ca}{c:Ca}(h:l[j]?=Xa c):zN (l.take (j+1)) z=zN (l.take j) z+(decide (c.fr=z)).toNat:=by unfold zN;rw[Yt,h];simp[List.countP_append,Yv,Bool.toNat]
theorem zoc{l:List Ca}(j:Nat):zN (l.take j) z<=j:=nT Oa (by simp;omega)
def zpV(m:Ma)(i:Nat):Option Ca:=if i=0 then Xb else m.ca[i-1]?
theorem zre(h:zbh m Xb m.ca=0):∀(i:Nat)c,m.ca[i]?=Xa c->caE m (zpV m i) c=0:=by
 have a:∀i c,m.ca[i]?=Xa c->zbh m (zpV m i) (m.ca.drop i)=0->caE m (zpV m i) c=0/\zbh m (zpV m (i+1)) (m.ca.drop (i+1))=0:=fun i c b b=>by grind[gS.1,gE,zpV,Yr,zbh]
 have b:∀i,i<=m.ca.length->zbh m (zpV m i) (m.ca.drop i)=0:=fun i=>by
  induction i with
  |zero=>exact fun _=>h
  |succ i b=>exact fun d=>(a i _ (gE Wm) (b Wm)).2
 grind
theorem zoe{p:Option Ca}{c:Ca}(h:caE m p c=0):(0<=c.file/\c.file<(m.fl.length:Int)/\0<=c.idx/\c.idx<bkN m c.file/\0<=c.fr/\c.fr<(m.fs.length:Int))/\((z1 m c.fr).r≠0/\(z1 m c.fr).f=c.file/\(z1 m c.fr).x=c.idx)/\∀q,p=Xa q->¬zZ c<=zZ q:=by
 unfold caE at h;split at h;·cases h
 grind
theorem Box.cH(h:Box w b [a0,a1,a2,a3,a4,a5,a6,a7,a8,a9,A]):w.cell? ⟨b,0,Xb⟩=Xa a0/\w.cell? ⟨b,1,Xb⟩=Xa a1/\w.cell? ⟨b,2,Xb⟩=Xa a2/\w.cell? ⟨b,3,Xb⟩=Xa a3/\w.cell? ⟨b,4,Xb⟩=Xa a4/\w.cell? ⟨b,5,Xb⟩=Xa a5/\w.cell? ⟨b,6,Xb⟩=Xa a6/\w.cell? ⟨b,7,Xb⟩=Xa a7/\w.cell? ⟨b,8,Xb⟩=Xa a8/\w.cell? ⟨b,9,Xb⟩=Xa a9/\w.cell? ⟨b,10,Xb⟩=Xa A:=⟨h.c 0 rfl,h.c 1 rfl,h.c 2 rfl,h.c 3 rfl,h.c 4 rfl,h.c 5 rfl,h.c 6 rfl,h.c 7 rfl,h.c 8 rfl,h.c 9 rfl,h.c 10 rfl⟩
theorem zhw(V:MaV)(m:Ma)(w:Xn)(af:zK w V m)(v:maW m=0):
  Xp prog 13 #[Xi (mL V m).toArray] w fun e w'=>e=Xl (I6 0)/\zc w w':=by
 unfold maW at v;rw[zk]at v;have bv:zak m=0:=v _ Sm;have b0:Xo (Pts m):=zhA bv;have ci:Xo (∀(i:Nat)c,m.ca[i]?=Xa c->caE m (zpV m i) c=0):=show∀i,_ from zre (v _ Sm);have fi:Xo (∀s∈m.sp,∀n,n<64->(ze s n).kind≠0->zah m (zr s.aC n) (ze s n)=0):=dD<|fun s h5 n j3 F=>by
  have ac:=zk.1 (v (zG (m.sp.map (zdV m))) Sm) _ (Xx.2 ⟨s,h5,rfl⟩);have b2:=zk.1 ac _ (Xx.2 ⟨n,Xy.2 j3,rfl⟩);rw[kF F]at b2;exact b2
 have ct:Xo (∀(i:Nat)c,m.ca[i]?=Xa c->0<=c.file/\c.file<5/\0<=c.idx/\c.idx<12):=dD<|fun i c p=>by
  obtain⟨ac,-,-⟩:=zoe (ci i c p);have b2:=b0.fl.1;have gf:bkN m c.file<=12:=by
   unfold bkN;rw[gD];cases e:m.fl[c.file.toNat]? with
   |none=>simp
   |some k0=>have:=b0.fl.2 k0 (mG e);simp;omega
  omega
 have f9:Xo (∀a,a<m.fs.length->frE m a=0):=dD<|fun a F=>zk.1 (v (zG ((Yw m.fs.length).map (frE m))) Sm) _ (Xx.2 ⟨a,Xy.2 F,rfl⟩);have fl:Xo (∀a,a<m.sl.length->zlc m a=0):=dD<|fun a F=>zk.1 (v (zG ((Yw m.sl.length).map (zlc m))) Sm) _ (Xx.2 ⟨a,Xy.2 F,rfl⟩);have ii:Xo (zK w V m):=af;obtain⟨ev,ew,-,-,-,-,i0,ex,ey⟩:=af.ns;obtain⟨f0,e3,b4,dz⟩:=af.aU;have be:Xo (ziK w V.f.a m.fs):=af.bC;have am:Xo (zf5 w V.ca.a m.ca):=af.cas;have cv:Xo (zkU w V.s.a m.sl):=af.sls;obtain⟨_,_,br,_,dq⟩:=qH.rows af.fl;have ck:Xo (zbs w V.fl.a m.fl):=show zbs _ _ _ by
  simp only[vJ]at br;rw[br.1];exact dq
 have b3:m.ca.length<=5864062014805:=by have ge:m.ca.length*24<=140737488355328:=af.ca.2;omega
 have b5:m.sl.length<=9223372036854775807:=by have ge:m.sl.length*8<=140737488355328:=af.sl.2;omega
 have fk:=zjf V m;have fq:Xo (f0.length=m.sp.length):=e3;have cu:Xo (∀(j:Nat)x,f0[j]?=Xa x->∃es,V.sp.a=Xa es/\∀W,zc w W->ziN W (es.add (j*10)) x):=show∀j,_ from b4;have fm:Xo (∀(i:Nat)x s,f0[i]?=Xa x->m.sp[i]?=Xa s->ZC w x s):=dD<|dz;obtain⟨⟨c9,u,ca⟩,⟨cc,S,cd⟩,Y,Z,U,X,⟨N,l,P⟩,⟨L,b,M⟩,⟨ai,f,T⟩⟩:=V;dsimp only[mL]at ev ew i0 ex ey be am cv ck cu;have bg:Xo (m.fs.length=u):=ev.symm;have cm:Xo (m.sl.length=S):=ew.symm;have fg:Xo (m.fl.length=l):=i0.symm;have a8:Xo (m.ca.length=b):=ex.symm;have cn:Xo (m.sp.length=f):=ey.symm;have k5:b<=5864062014805:=Rx ex b3;have k3:S<=9223372036854775807:=Rx ew b5;have j4:f<=4:=Rx ey b0.s4;have gp:u<=40:=Rx ev b0.f40;obtain⟨il,ap⟩:=kB (w.alloc (Xk #[O c9 u ca,I6 m.aB,O cc S cd,Y.x,Z.x,U.x,X.x,O N l P,I6 m.cnt,O L b M,O ai f T] 41));have ic:=gA ap;have iq:=xA ap;have fp:Xo (_=il):=ap;have p:=fk il (af.aA ic) bv;have f7:Xo (∀W x e,zc w W->0<=e.n->zah m x e=0->Xp prog 42 #[Xi #[O c9 u ca,I6 m.aB,O cc S cd,Y.x,Z.x,U.x,X.x,O N l P,I6 m.cnt,O L b M,O ai f T],Xi (onv x).toArray,Xi #[I6 e.kind,I6 e.n,Xh e.wr]] W fun km w'=>km=Xl (I6 0)/\zc W w'):=show∀W x e,_ from fun W x e bp v eu=>zjg ⟨⟨c9,u,ca⟩,⟨cc,S,cd⟩,Y,Z,U,X,⟨N,l,P⟩,⟨L,b,M⟩,⟨ai,f,T⟩⟩ m x e W (ii.aA bp) v eu;have cl:Xo (∀W G a,zc w W->Xp prog 43 #[Xi #[O c9 u ca,I6 m.aB,O cc S cd,Y.x,Z.x,U.x,X.x,O N l P,I6 m.cnt,O L b M,O ai f T],I6 G,I6 a] W fun e w'=>e=Xl (I6 (Qz m G a:Int))/\zc W w'):=dD<|fun W G a bp=>zfe ⟨⟨c9,u,ca⟩,⟨cc,S,cd⟩,Y,Z,U,X,⟨N,l,P⟩,⟨L,b,M⟩,⟨ai,f,T⟩⟩ m G a W (ii.aA bp) b0.s4 (fun s h5=>tb8 (b0.ar s h5).2);clear ap af ev ew i0 ex ey e3 b4 dz br dq v bv b3 b5;go_enter func13,ntmps13;go_upto_region 1 with fail;rw[fp.out];obtain⟨aj,ed,c4,ee,ef,eg,eh,c5,ei,ak,A⟩:=iq.cH;go_wp2_with fail;refine p.mono ?_;clear p aj ed c4 ee ef eg eh c5 ei ak A;rintro e ep⟨rfl,g9⟩;have B:=dD (ic.trans g9);have a0:=dD (iq.aA g9);clear g9;have ak:=a0.c 9 rfl;go_wp2;clear ak;go_loopg[29] b (fun ab i7 wr=>∃i:Nat,i<=b/\b-i<=ab/\i7=I6 i/\Xo (zc ep wr))
 exact⟨0,nZ _,Wm,rfl,zc.refl _⟩;obtain⟨i,kx,k8,rfl,en⟩:=hrel;by_cases bu:i<b
 ·have dx:=kC bu
  obtain⟨c,c6⟩:∃c,Xo (m.ca[i]?=Xa c):=⟨_,gE (Rx a8.out bu)⟩;obtain⟨fy,gj,r⟩:=am.out i c c6.out;subst gj;obtain⟨aa,an,ao⟩:=r wr (B.trans en);have fh:Xo _:=zoe (ci i c c6);clear r;go_upto_region 7 with fail;obtain⟨kk,a9⟩:=kA wr.heap.size;refine nW fun fw aq=>?_;have iv:=gP aq;have i9:=xP aq a9;have ej:=dD (en.trans iv);rw[a9.out];clear aq iv aa an ao;obtain⟨⟨j8,j9,ja,jb,kn,ko⟩,⟨i2,i3,i5⟩,j6⟩:=fh.out;obtain⟨bx,bt⟩:∃bx:Nat,c.file=(bx:Int):=⟨c.file.toNat,Wm⟩;obtain⟨di,bs⟩:∃di,m.fl[bx]?=Xa di:=⟨_,gE Wm⟩;obtain⟨jx,rfl,kv,kw,_,ds⟩:=ck.out bx di bs;obtain⟨-,g1⟩:=ds fw (B.trans ej);have dm:bkN m c.file=(di.bl.length:Int):=by unfold bkN;rw[bt,tN,gD,bs];rfl
  obtain⟨jz,f6⟩:=kA di.bl.length;rw[f6.out]at g1 dm;obtain⟨j,cb⟩:∃j:Nat,c.fr=(j:Int):=⟨c.fr.toNat,Wm⟩;obtain⟨q,h4⟩:∃q,m.fs[j]?=Xa q:=⟨_,gE Wm⟩;have dy:z1 m c.fr=q:=by rw[cb];exact zL h4
  rw[dy]at i2 i3 i5;obtain⟨fz,rfl,dw⟩:=be.out j q h4;have fe:Xo (∀W,zc w W->_):=dD<|dw;have fd:Xo (∀q,zpV m i=Xa q->¬zZ c<=zZ q):=dD<|j6;have ke:(bx:Int)<(l:Int):=Hm fg.out;have kh:(j:Int)<(u:Int):=Hm bg.out;have jr:decide ((bx:Int)<0)=Xd:=decide_eq_false Wm;have js:decide (l<=bx)=Xd:=decide_eq_false Wm;have jt:decide (c.idx<0)=Xd:=decide_eq_false Wm;have ju:decide ((jz:Int)<=c.idx)=Xd:=decide_eq_false Wm;have jv:decide ((j:Int)<0)=Xd:=decide_eq_false Wm;have jw:decide (u<=j)=Xd:=decide_eq_false Wm;have aj:=(a0.aA ej).c 0 rfl;have c5:=(a0.aA ej).c 7 rfl;obtain⟨c7,it,c8⟩:=i9.c3;rw[bt]at c7;rw[cb]at c8;have ji:Xo (c.fr=(j:Int)):=cb;have bz:(q.r==0)=Xd:=Si i2;have hw:(q.f !=c.file)=Xd:=Si i3;have e6:(q.x !=c.idx)=Xd:=Si i5;clear bs ds j8 j9 ja jb kn ko i2 i3 i5 j6 dy h4 cb dw bt dm;go_upto_region 9 with(go_quiet(fail))
  clear jr js jt ju jv jw aj c5 c7 it c8 g1;obtain⟨eq,bq⟩:=kB (fw.drewN nq);have ga:zc fw eq:=by rw[<-bq];exact bD (bR _ _) _
  have f4:=dD (ej.trans ga);have ia:=dD (i9.aA ga);rw[bq];clear bq ga;obtain⟨aa,an,ao,db,dc,dd,de,df,dg,dh,bk,bl,bm⟩:=fe.out eq (B.trans f4);have c8:=ia.c 2 rfl;rw[ji.out]at c8;have aj:=(a0.aA f4).c 0 rfl;go_upto_region 10 with fail;obtain⟨kl,z⟩:=kA eq.heap.size;refine nW fun jo ar=>?_;have gb:=gP ar;have fu:=xP ar z;have ek:=dD (f4.trans gb);have ib:=dD (ia.aA gb);rw[z.out];clear ar gb aj c8 aa an ao db dc dd de df dg dh bk bl bm;have j7:=fu.c 8 rfl;have e7:=fu.c 11 rfl;have i4:=fu.c 12 rfl;obtain⟨c7,it⟩:=ib.k2;go_upto_region 12 with fail;clear bz hw e6 j7 e7 i4;obtain⟨j8,j9,ja,jb⟩:=ct.out i c c6.out;have ak:=(a0.aA ek).c 9 rfl;by_cases v:i=0
  ·subst v;go_quiet(fail);go_wp2;go_roundg (b-(0+1));exact⟨0+1,Wm,Wm,Gn,ek.trans (show Below _ _ _ from bD (bR _ _) _)⟩;omega
  obtain⟨ag,rfl⟩:∃ag,i=ag+1:=⟨i-1,Wm⟩;obtain⟨bj,b9⟩:∃bj,Xo (m.ca[ag]?=Xa bj):=⟨_,gE (by rw[a8.out];omega)⟩;obtain⟨_,k6,r⟩:=am.out ag bj b9.out;cases k6;obtain⟨iu,g1,-⟩:=r jo (B.trans ek);obtain⟨l0,jc,jd,je⟩:=ct.out ag bj b9.out;have kd:(((ag+1:Nat):Int)-1)=(ag:Int):=Wm;have kc:(ag:Int)<(b:Int):=Wm;have kg:(0:Int)<((ag+1:Nat):Int):=Wm;have kf:decide (100*c.file+c.idx<=100*bj.file+bj.idx)=Xd:=decide_eq_false (fd bj (by unfold zpV;rw[kF Wm];exact b9));clear r v;go_quiet(fail);go_wp2;go_roundg (b-(ag+1+1));exact⟨ag+1+1,Wm,Wm,Gn,ek.trans (show Below _ _ _ from bD (bR _ _) _)⟩;omega
 have dx:=kD bu;have A:=(a0.aA en).c 10 rfl;obtain⟨im,rfl⟩:∃im,im=wr:=⟨_,rfl⟩;go_wp2;clear A;go_loopg[134] f (fun ab e8 wr=>∃ah:Nat,ah<=f/\f-ah<=ab/\e8=I6 ah/\Xo (zc ep wr))
 exact⟨0,nZ _,Wm,rfl,en⟩;obtain⟨ah,ky,kb,rfl,em⟩:=hrel;by_cases ay:ah<f
 ·have dv:=kC ay
  obtain⟨x,az⟩:∃x,f0[ah]?=Xa x:=⟨_,gE (by rw[fq.out,cn.out];exact ay)⟩;obtain⟨s,ij⟩:∃s,Xo (m.sp[ah]?=Xa s):=⟨_,gE (Rx cn.out ay)⟩;have ch:Xo (ZC w x s):=fm.out ah x s az ij.out;obtain⟨es,rfl,r⟩:=cu.out ah x az;obtain⟨aa,an,ao,db,dc,dd,de,df,dg,dh⟩:=r wr (B.trans em);have bw:=mG ij.out;have bh:Xo ((wrL s.aC).1=0/\tbW s.tb=0):=b0.ar s bw;have fj:Xo (∀n,n<64->(ze s n).kind≠0->zah m (zr s.aC n) (ze s n)=0):=show∀n,_ from fi.out s bw;have h:Xo (∀W,zc w W->Xp prog 16 #[x.ar.x] W fun e w'=>e=Xl (Xi (zD (tab (zr s.aC))).toArray)/\zc W w'):=dD<|fun W bp=>Zo _ s.aC W (ch.ar.aA bp) (jJ.1 bh.1).2.cG;have fb:Xo (∀W,zc w W->Xp prog 14 #[Xi #[x.t0.x,x.t1.x,x.t2.x,x.t3.x,x.t4.x,x.t5.x,x.t6.x,x.t7.x]] W fun e w'=>e=Xl (Xi (qN (zaO s.tb)).toArray)/\zc W w'):=dD<|fun W bp=>zcP x.tab s.tb W ((ch.aA bp).tb) (tb8 bh.2);have eu:=zbW;obtain⟨ir,cw⟩:=kA (zD (tab fun _=>on0));rw[cw.out]at eu;have cy:Xo (ir.length=384):=dD (by rw[<-cw.out,Zj]);have cp:Xo ((zD (tab (zr s.aC))).length=384):=Zj _;have cq:Xo (∀ez∈zD (tab (zr s.aC)),ez.oneCell'=Xc):=JP _;have cj:Xo (∀a,a<64->∀(i:Nat)ce,(onv (zr s.aC a))[i]?=Xa ce->(zD (tab (zr s.aC)))[a*6+i]?=Xa ce):=show∀a,_ from fun a F i ce ki=>Qs (zau F) i _ ki;generalize zD (tab (zr s.aC))=f2 at h cp cq cj;clear r az bw;go_upto_region 18 with fail;obtain⟨kz,cr⟩:=kA wr.heap.size;refine nW fun jp au=>?_;have iw:=gP au;have ik:=xP au cr;have ie:=dD (em.trans iw);rw[cr.out];clear au iw aa an ao db dc dd de df dg dh;have jc:=ik.c 1 rfl;have p:=h.out jp (B.trans ie);go_wp2_with fail;refine p.mono ?_;clear jc p;rintro e er⟨rfl,gc⟩;obtain⟨c3,z⟩:=kA er.heap.size;have jg:=dD (ie.trans gc);have jl:=dD (ik.aA gc);clear gc;go_upto_region 19 with(refine zn rfl 68 (.tmp 9) (.tmp 140) rfl er.heap.size rfl f2 rfl (Box.aE er ir 68 rfl) (by rw[cp.out,cy.out]) (Rx cy.out zsR) cq.out ?_)
  intro fx g0 ix i8;have bo:zc er fx:=zd (za _ _) ix (nR _);have ig:=dD (jg.trans bo);have b1:=dD (jl.aA bo);rw[z.out]at g0⊢;have jj:Xo (Box fx c3 f2):=g0;clear g0 ix i8 bo eu;try simp only[Yx]
  obtain⟨_,_,jd,je,kp,kq,kr,i8,ks,kt⟩:=b1.k10;have p:=fb.out fx (B.trans ig);go_wp2_with fail;refine p.mono ?_;clear p jd je kp kq kr i8 ks kt;rintro e jq⟨rfl,gd⟩;have f5:=dD (ig.trans gd);have jk:=dD (jj.aA gd);clear gd;go_wp2;go_loopg[144] 64 (fun ab e9 wr=>∃n:Nat,n<=64/\64-n<=ab/\e9=I6 n/\Xo (zc jq wr))
  exact⟨0,nZ _,Wm,rfl,zc.refl _⟩;obtain⟨n,j3,ka,rfl,ih⟩:=hrel;by_cases ax:n<64
  ·have du:(n:Int)<64:=Wm
   have bi:Xo ((ze s n).kind≠0->zah m (zr s.aC n) (ze s n)=0):=dD<|fj.out n ax;have cx:Xo ((zaO s.tb)[n]?=Xa (ze s n)):=zdD s.tb ax;have h:Xo (∀(i:Nat)ce,(onv (zr s.aC n))[i]?=Xa ce->f2[n*6+i]?=Xa ce):=show∀i,_ from cj.out n ax;have v:0<=(ze s n).n:=zqa (zid bh.2 n);generalize ze s n=e at bi cx v;generalize zr s.aC n=o at bi h;go_upto_region 22 with(refine zbQ rfl (.tmp 143) (.tmp 144) rfl (zaO s.tb) rfl n rfl ax cx.out ?_)
   obtain⟨i1,co⟩:=kA wr.heap.size;refine nW fun d C=>?_;have dj:=gP C;have al:=xP C co;have a7:=dD (ih.trans dj);rw[co.out];clear C dj;have iu:=al.c 0 rfl;by_cases F:e.kind=0
   ·have av:(e.kind==0)=Xc:=by simp[F]
    clear F;go_wp2;go_roundg (64-(n+1));exact⟨n+1,Wm,Wm,Gn,a7⟩;omega
   have av:(e.kind==0)=Xd:=(by simp[F]);have f8:Xo (zah m o e=0):=bi.out F;have g:=dD (a0.aA (f5.trans a7));have K:=dD (jk.aA a7);clear F;go_upto_region 23 with fail;clear av iu;have h6:∀y:zj d,y.world.cell? ⟨w.heap.size,0,Xb⟩=_:=fun y=>(g.aA y.aA).c 0 rfl;have h7:∀y:zj d,y.world.cell? ⟨w.heap.size,1,Xb⟩=_:=fun y=>(g.aA y.aA).c 1 rfl;have h8:∀y:zj d,y.world.cell? ⟨w.heap.size,2,Xb⟩=_:=fun y=>(g.aA y.aA).c 2 rfl;have h9:∀y:zj d,y.world.cell? ⟨w.heap.size,3,Xb⟩=_:=fun y=>(g.aA y.aA).c 3 rfl;have ha:∀y:zj d,y.world.cell? ⟨w.heap.size,4,Xb⟩=_:=fun y=>(g.aA y.aA).c 4 rfl;have hd:∀y:zj d,y.world.cell? ⟨w.heap.size,5,Xb⟩=_:=fun y=>(g.aA y.aA).c 5 rfl;have hf:∀y:zj d,y.world.cell? ⟨w.heap.size,6,Xb⟩=_:=fun y=>(g.aA y.aA).c 6 rfl;have hh:∀y:zj d,y.world.cell? ⟨w.heap.size,7,Xb⟩=_:=fun y=>(g.aA y.aA).c 7 rfl;have ho:∀y:zj d,y.world.cell? ⟨w.heap.size,8,Xb⟩=_:=fun y=>(g.aA y.aA).c 8 rfl;have hr:∀y:zj d,y.world.cell? ⟨w.heap.size,9,Xb⟩=_:=fun y=>(g.aA y.aA).c 9 rfl;have e2:∀y:zj d,y.world.cell? ⟨w.heap.size,10,Xb⟩=_:=fun y=>(g.aA y.aA).c 10 rfl;have gl:∀y:zj d,y.world.cell? ⟨i1,0,Xb⟩=_:=fun y=>(al.aA y.aA).c 0 rfl;have gm:∀y:zj d,y.world.cell? ⟨i1,1,Xb⟩=_:=fun y=>(al.aA y.aA).c 1 rfl;have gn:∀y:zj d,y.world.cell? ⟨i1,2,Xb⟩=_:=fun y=>(al.aA y.aA).c 2 rfl;have gu:∀y:zj d,y.world.cell? ⟨c3,n*6,Xb⟩=_:=fun y=>(K.aA y.aA).c _ (h 0 _ rfl);have gv:∀y:zj d,y.world.cell? ⟨c3,n*6+1,Xb⟩=_:=fun y=>(K.aA y.aA).c _ (h 1 _ rfl);have gw:∀y:zj d,y.world.cell? ⟨c3,n*6+2,Xb⟩=_:=fun y=>(K.aA y.aA).c _ (h 2 _ rfl);have gx:∀y:zj d,y.world.cell? ⟨c3,n*6+3,Xb⟩=_:=fun y=>(K.aA y.aA).c _ (h 3 _ rfl);have gy:∀y:zj d,y.world.cell? ⟨c3,n*6+4,Xb⟩=_:=fun y=>(K.aA y.aA).c _ (h 4 _ rfl);have gz:∀y:zj d,y.world.cell? ⟨c3,n*6+5,Xb⟩=_:=fun y=>(K.aA y.aA).c _ (h 5 _ rfl);have gt:Nonempty (zj d):=⟨⟨_,zc.refl _⟩⟩;refine jK [(5,⟨fun ez=>ez=I6 0,fun ez w'=>True⟩)] zY Kr (Sa ⟨_,rfl⟩) ?hp ?_;case hp=>
    intro x az;simp only[mC,nM,or_false]at az;subst az;exact fun _ _ _ _ ge=>ge
   iterate 5 refine zf ?_
   refine zI rfl rfl (fun w' k7 j0=>?_) (fun l1 kj=>?_);·refine zO.call [Xi #[O c9 u ca,I6 m.aB,O cc S cd,Y.x,Z.x,U.x,X.x,O N l P,I6 m.cnt,O L b M,O (Xa es) f T],Xi #[Xh o.is,Xh o.rd,Xh o.wr,Xh o.sh,I6 o.file,I6 o.page],Xi #[I6 e.kind,I6 e.n,Xh e.wr]] rfl func42 rfl rfl rfl ?_;refine(f7 w' o e (((B.trans f5).trans a7).trans k7) v f8).mono ?_;rintro e ku⟨rfl,gq⟩;exact⟨_,rfl,gq,rfl,trivial⟩
   subst kj;refine Uq ?_;refine zf ?_;refine z5 fun jm dr j0=>?_;have f3:=dD (a7.trans dr);clear dr j0 gt h6 h7 h8 h9 ha hd hf hh ho hr e2 gl gm gn gu gv gw gx gy gz;go_wp2;go_roundg (64-(n+1));exact⟨n+1,Wm,Wm,Gn,f3⟩;omega
  have du:¬(n:Int)<64:=Wm;go_wp2;go_roundg (f-(ah+1));exact⟨ah+1,Wm,Wm,Gn,f5.trans ih⟩;omega
 have dv:=kD ay;have aj:=(a0.aA em).c 0 rfl;obtain⟨io,rfl⟩:∃io,io=wr:=⟨_,rfl⟩;go_wp2;clear aj;go_loopg[166] u (fun ab ea wr=>∃a:Nat,a<=u/\u-a<=ab/\ea=I6 a/\Xo (zc ep wr))
 exact⟨0,nZ _,Wm,rfl,em⟩;obtain⟨a,F,k9,rfl,el⟩:=hrel;by_cases aw:a<u
 ·have dt:=kC aw
  obtain⟨q,cs⟩:∃q,Xo (m.fs[a]?=Xa q):=⟨_,gE (Rx bg.out aw)⟩;obtain⟨fz,rfl,r⟩:=be.out a q cs.out;obtain⟨aa,an,ao,db,dc,dd,de,df,dg,dh,bk,bl,bm⟩:=r wr (B.trans el);obtain⟨eo,bf⟩:=kA (Qz m 1 (a:Int):Int);obtain⟨b6,bd⟩:=kA (zN m.ca (a:Int):Int);have gi:0<=eo/\eo<=256:=by
   have ac:=zh7 (m:=m) (kind:=1) (k:=(a:Int)) m.sp.length;rw[zfK]at ac;have b2:=bf.out;have gf:=b0.s4;omega
  have gh:0<=b6/\b6<=5864062014805:=by
   have ac:zN m.ca (a:Int)<=m.ca.length:=Oa;have b2:=bd.out;have gf:=a8.out;omega
  obtain⟨j1,j2⟩:=gi;obtain⟨iy,iz⟩:=gh;have gr:q.r=eo+b6/\¬(0<=q.f/\b6=0):=by
   have ac:=bf.out;have b2:=bd.out;have et:=f9.out a (Rx bg.out aw);unfold frE at et;rw[zL cs.out]at et;split at et;·cases et
   rename_i gf
   omega
  obtain⟨j5,hy⟩:=gr;have bz:(q.r !=eo+b6)=Xd:=by simp[j5]
  clear r j5;go_upto_region 31 with fail;obtain⟨kl,z⟩:=kA wr.heap.size;refine nW fun fv D=>?_;have dk:=gP D;have ft:=xP D z;have b8:=dD (el.trans dk);rw[z.out];clear D dk aa an ao db dc dd de df dg dh bk bl bm;obtain⟨aj,ed,c4,ee,ef,eg,eh,c5,ei,ak,A⟩:=(a0.aA b8).cH;have p:=cl.out fv 1 (a:Int) (B.trans b8);rw[bf.out]at p;go_wp2_with fail;refine p.mono ?_;clear p aj ed c4 ee ef eg eh c5 ei ak A;rintro e da⟨rfl,Q⟩;have H:=dD (b8.trans Q);have cz:=dD (ft.aA Q);clear Q;have ak:=(a0.aA H).c 9 rfl;go_wp2;clear ak;go_loopg[16,177] b (fun ab i6 eb wr=>∃j:Nat,j<=b/\b-j<=ab/\eb=I6 j/\i6=I6 (zN (m.ca.take j) (a:Int):Int)/\Xo (zc da wr))
  exact⟨0,nZ _,Wm,rfl,rfl,zc.refl _⟩;obtain⟨j,cb,gs,rfl,rfl,I⟩:=hrel;by_cases t:j<b
  ·have ae:=kC t
   obtain⟨c,c6⟩:∃c,Xo (m.ca[j]?=Xa c):=⟨_,gE (Rx a8.out t)⟩;obtain⟨fy,rfl,r⟩:=am.out j c c6.out;obtain⟨aa,an,ao⟩:=r wr ((B.trans H).trans I);have gk:zN (m.ca.take j) (a:Int)<=j:=zoc j;have bb:Xo (zN (m.ca.take (j+1)) (a:Int)=zN (m.ca.take j) (a:Int)+(decide (c.fr=(a:Int))).toNat):=zjR c6.out;obtain⟨c7,dn⟩:=kB (zN (m.ca.take j) (a:Int));rw[dn]at gk bb⊢;clear dn r;go_upto_region 35 with fail;obtain⟨kk,a9⟩:=kA wr.heap.size;refine nW fun jn E=>?_;have dl:=gP E;have f1:=xP E a9;have cg:=dD (I.trans dl);rw[a9.out];clear E dl aa an ao;have c8:=f1.c 2 rfl;by_cases R:c.fr=(a:Int)
   ·have av:(c.fr==(a:Int))=Xc:=by simp[R]
    have fo:Xo (zN (m.ca.take (j+1)) (a:Int)=c7+1):=dD (by rw[bb.out,decide_eq_true R];rfl);clear R;go_wp2;go_roundg (b-(j+1));exact⟨j+1,Wm,Wm,Gn,by rw[fo.out];go_num,cg⟩;omega
   have av:(c.fr==(a:Int))=Xd:=(by simp[R]);have fo:Xo (zN (m.ca.take (j+1)) (a:Int)=c7):=dD (by rw[bb.out,decide_eq_false R];rfl);clear R;go_wp2;go_roundg (b-(j+1));exact⟨j+1,Wm,Wm,Gn,by rw[fo.out],cg⟩;omega
  have ae:=kD t;obtain rfl:b=j:=Wm;have dp:(zN (m.ca.take b) (a:Int):Int)=b6:=by rw[Yf (by rw[a8.out];exact nR _)];exact bd.out
  rw[dp];clear dp;have j7:=(cz.aA I).c 8 rfl;have e7:=(cz.aA I).c 11 rfl;by_cases e5:0<=q.f
  ·have ht:decide (0<=q.f)=Xc:=decide_eq_true e5;have e6:(b6==0)=Xd:=(by simpa using fun e=>hy ⟨e5,e⟩);clear e5 hy;go_wp2;go_roundg (u-(a+1));exact⟨a+1,Wm,Wm,Gn,H.trans I⟩;omega
  have ht:decide (0<=q.f)=Xd:=decide_eq_false e5;clear e5 hy;go_wp2;go_roundg (u-(a+1));exact⟨a+1,Wm,Wm,Gn,H.trans I⟩;omega
 have dt:=kD aw;have c4:=(a0.aA el).c 2 rfl;obtain⟨ip,rfl⟩:∃ip,ip=wr:=⟨_,rfl⟩;go_wp2;clear c4;go_loopg[207] S (fun ab ec wr=>∃j:Nat,j<=S/\S-j<=ab/\ec=I6 j/\Xo (zc ep wr))
 exact⟨0,nZ _,Wm,rfl,el⟩;obtain⟨j,cb,gs,rfl,I⟩:=hrel;by_cases t:j<S
 ·have ae:=kC t
  obtain⟨cf,cs⟩:∃cf,Xo (m.sl[j]?=Xa cf):=⟨_,gE (Rx cm.out t)⟩;obtain⟨jy,rfl,r⟩:=cv.out j cf cs.out;have aa:=r wr (B.trans I);have e4:cf=(Qz m 2 (j:Int):Int):=by
   have ac:=fl.out j (Rx cm.out t);unfold zlc at ac;rw[gD,cs.out]at ac;split at ac;·cases ac
   rename_i b2
   exact Classical.byContradiction b2
  have p:=cl.out wr 2 (j:Int) (B.trans I);rw[<-e4]at p;have bz:(cf !=cf)=Xd:=Sm;clear r e4;obtain⟨aj,ed,c4,ee,ef,eg,eh,c5,ei,ak,A⟩:=(a0.aA I).cH;go_wp2_with fail;refine p.mono ?_;clear p aa aj ed c4 ee ef eg eh c5 ei ak A;rintro e da⟨rfl,Q⟩;have H:=dD (I.trans Q);clear Q;go_wp2;go_roundg (S-(j+1));exact⟨j+1,Wm,Wm,Gn,H⟩;omega
 have ae:=kD t;have jh:=dD (B.trans I);go_wp2;go_ret;exact⟨rfl,jh⟩
theorem zhJ:∀{l:List Ar}{p:Option Ar}{n:Nat},Jh p l->(zr l n).is=Xc->0<=(zr l n).page/\((zr l n).page<=11\/(zr l n).file<0)
 |[],_,_,_,h=>by cases h
 |a::l,p,n,b,h=>by
  unfold zr at h⊢
  by_cases e:Qb a n=Xc
  ·rw[kE e]at h⊢;have c:=b.1;have d:=q7.1 e;unfold jS at c;unfold qq;simp only
   split;·exact⟨Wm,.inl Wm⟩
   exact⟨Wm,.inr Wm⟩
  rw[kF e]at h⊢;exact zhJ b.2.2 h
def zbS(r:List Int×Bool×Int):Xq:=Xm #[Xi (pgc r.1).toArray,Xh r.2.1,Xe Xf r.2.2]
theorem znU(h:maW m=0):∀s∈m.sp,∀n,n<64->(if(ze s n).kind=0 then 0 else zah m (zr s.aC n) (ze s n))=0:=fun s c n b=>by
 unfold maW at h;rw[zk]at h;have a:=zk.1 (h (zG (m.sp.map (zdV m))) Sm) (zdV m s) (Xx.2 ⟨s,c,rfl⟩);unfold zdV at a;exact zk.1 a _ (Xx.2 ⟨n,Xy.2 b,rfl⟩)
theorem zrZ(h:maW m=0):∀c∈m.ca,0<=c.fr/\c.fr<(m.fs.length:Int):=fun c a=>by
 unfold maW at h;rw[zk]at h;have b:=(zo.1 (h (zbh m Xb m.ca) Sm)).1 c a;grind[caE]
theorem Q0(h:maW m=0):zak m=0:=by unfold maW at h;rw[zk]at h;exact h _ Sm
theorem zjd(V)(m:Ma)(p n:Int)(w)(a7:zK w V m)(P:maW m=0)(bm:∀s∈m.sp,jQ m.fl.length s.aC):
  Xp prog 29 #[Xi (mL V m).toArray,I6 p,I6 n] w fun e w'=>e=Xl (zbS (ZY m p n))/\(ZY m p n).1.length=8/\zc w w':=by
 have dd:=dD a7;obtain⟨ee,fj,-,-,-,-,ef,fk,eg⟩:=a7.ns;obtain⟨fo,bw,K,bt⟩:=a7.aU;have ao:=dD a7.bC;obtain⟨_,_,ac,_,bl⟩:=qH.rows a7.fl;have an:Xo (zbs w V.fl.a m.fl):=show zbs _ _ _ by
  simp only[vJ]at ac;rw[ac.1];exact bl
 have fu:Xo (Pts m):=zhA (Q0 P);have am:=dD<|znU P;have da:=dD bm;have al:=dD<|fun W(z:Nat)(ec:Nat)M ai(a6:zc w W)(gg:m.fl[z]?=Xa M)(gf:M.bl[ec]?=Xa ai)(gi:ec<=1000)=>zeO V m z ec M ai W (dd.aA a6) (fun gb A _=>zrZ P gb A) gg gf gi;have aw:=dD<|fun W Z(a6:zc w W)=>zd3 _ m.sb m.sq Z W ⟨_,_,rfl,(dd.aA a6).sb,(dd.aA a6).sq⟩;have dh:Xo (∀Z,(qU m.sb m.sq Z).length=8):=dD<|fun Z=>zfA a7.sb.2.1 a7.sq.2.1;obtain⟨⟨gc,fe,gd⟩,⟨gt,gv,gu⟩,⟨em,eo,en⟩,⟨eq,es,er⟩,et,eu,⟨dz,aa,e2⟩,⟨dr,dt,ds⟩,⟨bz,l,ep⟩⟩:=V;dsimp only[mL]at ee fj ef fk eg K ao an al aw⊢;have ap:=dD ee.symm;have aq:=dD ef.symm;have Q:=dD eg.symm;have dk:Xo (fo.length=l):=show _=_ by rw[bw];exact Q.out
 have di:=dD K;have dj:=dD bt;clear a7 ee fj ef fk eg bw K bt ac bl P bm;obtain⟨dn,G⟩:=kB ((w.alloc (Xk #[O gc fe gd,I6 m.aB,O gt gv gu,O em eo en,O eq es er,et.x,eu.x,O dz aa e2,I6 m.cnt,O dr dt ds,O bz l ep] 41)).alloc (Xk #[U8 0,U8 0,U8 0,U8 0,U8 0,U8 0,U8 0,U8 0] 44));have c9:=gD2 G;have dp:=x2a G;have f6:Xo (Box dn (w.heap.size+1) (pgc zt)):=dD<|by rw[<-G];exact Box.aE _ (pgc zt) _ Sm
 have b1:=dD G;clear G;have bv:(decide (p<0)=Xc\/decide (p<0)=Xd/\decide ((l:Int)<=p)=Xc\/decide (p<0)=Xd/\decide ((l:Int)<=p)=Xd/\decide (n<0)=Xc\/decide (p<0)=Xd/\decide ((l:Int)<=p)=Xd/\decide (n<0)=Xd/\decide (63<n)=Xc)\/¬(p<0\/(l:Int)<=p\/n<0\/63<n):=by
  simp only[decide_eq_true_eq,decide_eq_false_iff_not];omega
 rcases bv with P|P
 ·have i:Xo (ZY m p n=(zt,Xd,5)):=dD<|by
   unfold ZY;simp only[decide_eq_true_eq,decide_eq_false_iff_not]at P;exact kE (by rw[Q.out];omega)
  rcases P with bx|⟨bx,ch⟩|⟨bx,ch,ed⟩|⟨bx,ch,ed,fh⟩
  all_goals(
   go_enter func29,ntmps29;go_upto_region 1 with fail;rw[b1.out];have u:=dp.c 10 rfl;go_wp2_with(refine zn rfl 44 (.tmp 6) (.tmp 31) rfl (w.heap.size+1) rfl (pgc zt) rfl f6 rfl zsZ (qM _) ?_)
   intro E f g _;have d:Xo (zc w E):=dD<|zd c9 g Wm
   go_wp2;refine bodyPost_ret (zF rfl _ rfl f underlying44 rfl zsZ) rfl ⟨Rr i.out,Rr i.out,d⟩)
 simp only[not_or]at P;obtain⟨f8,g8,f9,fb⟩:=P;obtain⟨h,rfl⟩:∃h:Nat,p=(h:Int):=⟨p.toNat,Wm⟩;obtain⟨c,rfl⟩:∃c:Nat,n=(c:Int):=⟨n.toNat,Wm⟩;have bs:h<l:=Wm;have t:c<64:=Wm;obtain⟨x,eb⟩:∃x,fo[h]?=Xa x:=⟨_,gE (Rx dk.out bs)⟩;obtain⟨s,ay⟩:∃s,Xo (m.sp[h]?=Xa s):=⟨_,gE (Rx Q.out bs)⟩;have ak:=dD<|dj.out h x s eb ay.out;obtain⟨dq,az,e8⟩:∃dq,Xo (bz=Xa dq)/\∀W,zc w W->ziN W (dq.add (h*10)) x:=di.out h x eb;have R:=dD<|fu.ar s (mG ay);obtain⟨a,ag⟩:=kA (zr s.aC c);obtain⟨e,cb⟩:=kA (ze s c);have b0:Xo (ZY m (h:Int) (c:Int)=if a.is=Xd then(zt,Xd,5)else if e.kind=1 then(pgL (z1 m e.n).p,decide ((z1 m e.n).f<0),0)else if e.kind=2 then(qU m.sb m.sq e.n,Xc,0)else if a.file<0 then(zt,Xd,0)else if bkN m a.file<=a.page then(zt,Xd,9)else(zU m a.file a.page,Xd,0)):=show _=_ by
  unfold ZY;rw[kF (by rw[Q.out];omega)];have ea:m.sp.getD h ⟨Xd,[],[]⟩=s:=by rw[gD,ay.out];rfl
  simp only[tN,ea,ag.out,cb.out]
 have de:Xo (∀W,zc w W->Xp prog 16 #[x.ar.x] W fun e w'=>e=Xl (Xi (zD (tab (zr s.aC))).toArray)/\zc W w'):=dD<|fun W a6=>Zo _ s.aC W (ak.ar.aA a6) (jJ.1 R.1).2.cG;have db:Xo (∀W,zc w W->Xp prog 14 #[Xi #[x.t0.x,x.t1.x,x.t2.x,x.t3.x,x.t4.x,x.t5.x,x.t6.x,x.t7.x]] W fun e w'=>e=Xl (Xi (qN (zaO s.tb)).toArray)/\zc W w'):=dD<|fun W a6=>zcP x.tab s.tb W ((ak.aA a6).tb) (tb8 R.2);have dl:Xo ((zaO s.tb)[c]?=Xa e):=(zdD s.tb t).trans (congrArg Xa cb);have i1:0<=e.n:=by rw[<-cb.out];exact zqa (zid R.2 c)
 have cw:Xo (a.is=Xc->e.kind=1->e.n<(fe:Int)):=dD<|fun v F=>by
  have N:zah m a e=0:=by
   have:=am.out s (mG ay) c t;rw[cb.out,ag.out,kF Wm]at this;exact this
  unfold zah at N;rw[kF (by rw[v];decide),kF Wm]at N;have bi:=ap.out;split at N;·cases N
  omega
 have df:Xo (a.is=Xc->0<=a.page/\(a.page<=11\/a.file<0)):=dD<|fun v=>by rw[<-ag.out]at v⊢;exact zhJ (jJ.1 R.1).2 v
 have cz:Xo (a.is=Xc->a.file<(aa:Int)):=dD<|fun v=>by
  have F:=da.out s (mG ay) c t (Rx ag.out v);rw[ag.out,aq.out]at F;exact F
 have bo:Value.agg (onv (zr s.aC c)).toArray=Xi #[Xh a.is,Xh a.rd,Xh a.wr,Xh a.sh,I6 a.file,I6 a.page]:=Rr ag.out;have bx:decide ((h:Int)<0)=Xd:=decide_eq_false f8;have ch:decide (l<=h)=Xd:=decide_eq_false Wm;have ed:decide ((c:Int)<0)=Xd:=decide_eq_false f9;have fh:decide ((63:Int)<(c:Int))=Xd:=decide_eq_false fb;have gj:(h:Int)<(l:Int):=Wm;clear f8 g8 f9 fb eb;go_enter func29,ntmps29;go_upto_region 1 with fail;rw[b1.out];have u:=dp.c 10 rfl;rw[az.out]at u;obtain⟨b4,b5,b6,b7,b8,b9,bb,bd,be,bf⟩:=e8 dn c9.out;have ft:=dD e8;clear e8 b4 b6 b7 b8 b9 bb bd be bf;have A:=de.out dn c9.out;go_wp2_with fail;refine A.mono ?_;clear A b5 u bx ch ed fh;rintro el f2⟨rfl,ce⟩;have fp:=dD (c9.trans ce);have fx:=dD (dp.aA ce);have g0:=dD (f6.aA ce);clear ce;go_upto_region 4 with(refine zds rfl (.tmp 38) (.tmp 39) rfl (zr s.aC) rfl c rfl t bo ?_)
 obtain⟨fl,av⟩:=kA f2.heap.size;refine nW fun f3 U=>?_;have cf:=gP U;have ez:=xP U av;have ca:=dD (fp.trans cf);have f5:=dD (fx.aA cf);have f7:=dD (g0.aA cf);rw[av.out];clear U cf bo;have eh:=ez.c 0 rfl;cases k:a.is with
 |false=>
  rw[k]at eh;have i:Xo (ZY m (h:Int) (c:Int)=(zt,Xd,5)):=dD (by rw[b0.out,kE k]);clear k;go_wp2_with(refine zn rfl 44 (.tmp 6) (.tmp 44) rfl (w.heap.size+1) rfl (pgc zt) rfl f7 rfl zsZ (qM _) ?_)
  intro E f g _;have d:Xo (zc w E):=dD<|zd ca g Wm;go_wp2;refine bodyPost_ret (zF rfl _ rfl f underlying44 rfl zsZ) rfl ⟨Rr i.out,Rr i.out,d⟩
 |true=>
 rw[k]at eh;have B:Xo (ZY m (h:Int) (c:Int)=if e.kind=1 then(pgL (z1 m e.n).p,decide ((z1 m e.n).f<0),0)else if e.kind=2 then(qU m.sb m.sq e.n,Xc,0)else if a.file<0 then(zt,Xd,0)else if bkN m a.file<=a.page then(zt,Xd,9)else(zU m a.file a.page,Xd,0)):=dD<|by rw[b0.out,kF (by rw[k];decide)]
 obtain⟨bp,bq⟩:=df.out k;have bj:=cz.out k;have cx:=dD<|cw.out k;clear k;obtain⟨b4,b5,b6,b7,b8,b9,bb,bd,be,bf⟩:=ft.out f3 ca.out;have u:=f5.c 10 rfl;rw[az.out]at u;have A:=db.out f3 ca.out;go_wp2_with fail;refine A.mono ?_;clear A b4 b5 b6 b7 b8 b9 bb bd be bf u eh;rintro el f4⟨rfl,bg⟩;have fq:=dD (ca.trans bg);have fy:=dD (f5.aA bg);have g7:=dD (f7.aA bg);have fv:=dD (ez.aA bg);clear bg;go_upto_region 7 with(refine zbQ rfl (.tmp 51) (.tmp 52) rfl (zaO s.tb) rfl c rfl t dl.out ?_)
 obtain⟨i2,ar⟩:=kA f4.heap.size;refine nW fun S X=>?_;have bh:=gP X;have ex:=xP X ar;have I:=dD (fq.trans bh);have b2:=dD (fy.aA bh);have ah:=dD (g7.aA bh);have dm:=dD (fv.aA bh);rw[ar.out];clear X bh;obtain⟨fd,dx⟩:=ex.k2;by_cases v:e.kind=1
 ·have e3:(e.kind==1)=Xc:=by simp[v]
  obtain⟨Z,cg⟩:∃Z:Nat,e.n=(Z:Int):=⟨e.n.toNat,Wm⟩;have e7:=cx.out v;rw[cg]at e7;obtain⟨q,ey⟩:∃q,Xo (m.fs[Z]?=Xa q):=⟨_,gE (by rw[ap.out];omega)⟩;have i:Xo (ZY m (h:Int) (c:Int)=(pgL q.p,decide (q.f<0),0)):=dD (by rw[B.out,kE v,cg,zL ey.out]);obtain⟨ga,bu,H⟩:=ao.out Z q ey.out;obtain⟨b4,b5,b6,b7,b8,b9,bb,bd,be,bf,du,dv,dw⟩:=H S I.out;have ct:=b2.c 0 rfl;rw[bu]at ct;rw[cg]at dx;clear H bu v cg;go_upto_region 9 with fail;obtain⟨fm,a9⟩:=kA S.heap.size;refine nW fun D b=>?_;have r:=gP b;have f0:=xP b a9;have a0:=dD (I.trans r);have T:=dD (ah.aA r);have e9:w.heap.size+1≠fm:=by have:=ah.lt;have F:=a9.out;omega
  have fg:fm≠w.heap.size+1:=fun ge=>e9 ge.symm;rw[a9.out];clear b r ct fd dx b4 b5 b6 b7 b8 b9 bb bd be bf du dv dw;obtain⟨gk,gl,gm,gn,gp,gq,gr,gs⟩:=f0.c8;have ek:=f0.c 11 rfl;obtain⟨h8,h9,ha,hd,he,hg,hh,hj⟩:=T.c8;have hn:=T.f;go_region
  all_goals
   obtain⟨cc,j⟩:=kB ((((((((((D).setCell ⟨w.heap.size+1,0,Xb⟩ (U8 q.p.b0)).setCell ⟨w.heap.size+1,1,Xb⟩ (U8 q.p.b1)).setCell ⟨w.heap.size+1,2,Xb⟩ (U8 q.p.b2)).setCell ⟨w.heap.size+1,3,Xb⟩ (U8 q.p.b3)).setCell ⟨w.heap.size+1,4,Xb⟩ (U8 q.p.b4)).setCell ⟨w.heap.size+1,5,Xb⟩ (U8 q.p.b5)).setCell ⟨w.heap.size+1,6,Xb⟩ (U8 q.p.b6)).setCell ⟨w.heap.size+1,7,Xb⟩ (U8 q.p.b7)).drew);have b3:Xo (Box cc (w.heap.size+1) (pgc (pgL q.p))):=dD (by rw[<-j];exact(((((((((T).set 0 _).set 1 _).set 2 _).set 3 _).set 4 _).set 5 _).set 6 _).set 7 _).aA (show Below _ _ _ from Below.drew (bR _ _)));have aj:Xo (zc w cc):=dD (by rw[<-j];exact(zB (zB (zB (zB (zB (zB (zB (zB (a0) Sm _) Sm _) Sm _) Sm _) Sm _) Sm _) Sm _) Sm _).trans (show Below _ _ _ from Below.drew (bR _ _)));rw[j];clear j hn gk gl gm gn gp gq gr gs ek h8 h9 ha hd he hg hh hj;go_wp2;refine bodyPost_ret (zF rfl _ rfl b3 underlying44 rfl zsZ) rfl ⟨Rr i.out,Rr i.out,aj⟩
 have e3:(e.kind==1)=Xd:=by simp[v]
 by_cases F:e.kind=2
 ·have e4:(e.kind==2)=Xc:=by simp[F]
  have i:Xo (ZY m (h:Int) (c:Int)=(qU m.sb m.sq e.n,Xc,0)):=dD (by rw[B.out,kF v,kE F]);have ax:=dD<|dh.out e.n;have ev:=b2.c 3 rfl;have ew:=b2.c 4 rfl;have A:=aw.out S e.n I.out;clear v F;go_wp2_with fail;refine A.mono ?_;clear A ev ew fd dx;rintro el D⟨rfl,r⟩;have a0:=dD (I.trans r);have T:=dD (ah.aA r);obtain⟨cs,y⟩:=kA (qU m.sb m.sq e.n);rw[y.out]at i ax⊢;obtain⟨ck,cl,cm,cn,co,cp,cq,cr,rfl⟩:=zc2 cs ax.out;simp only[pgc,mP,Yn];go_upto_region 12 with fail;obtain⟨i3,au⟩:=kA D.heap.size;refine nW fun cc j=>?_;have ab:=gP j;have fw:=xP j au;have aj:=dD (a0.trans ab);have b3:=dD (T.aA ab);rw[au.out];clear j ab r;obtain⟨hr,hs,ht,hu,hv,hy,hz,i0⟩:=fw.c8;go_wp2_with(refine zn rfl 44 (.tmp 6) (.tmp 80) rfl (w.heap.size+1) rfl (pgc [ck,cl,cm,cn,co,cp,cq,cr]) rfl b3 rfl zsZ (qM _) ?_)
  intro E f g _;have d:Xo (zc w E):=dD<|zd aj g Wm;go_wp2;refine bodyPost_ret (zF rfl _ rfl f underlying44 rfl zsZ) rfl ⟨Rr i.out,Rr i.out,d⟩
 have e4:(e.kind==2)=Xd:=by simp[F]
 have a5:Xo (ZY m (h:Int) (c:Int)=if a.file<0 then(zt,Xd,0)else if bkN m a.file<=a.page then(zt,Xd,9)else(zU m a.file a.page,Xd,0)):=dD<|by rw[B.out,kF v,kF F]
 clear v F;obtain⟨_,_,_,_,ci,cj⟩:=dm.k6;by_cases N:a.file<0
 ·have e5:decide (a.file<0)=Xc:=decide_eq_true N;have i:Xo (ZY m (h:Int) (c:Int)=(zt,Xd,0)):=dD (by rw[a5.out,kE N]);clear N;go_wp2_with(refine zn rfl 44 (.tmp 6) (.tmp 84) rfl (w.heap.size+1) rfl (pgc zt) rfl ah rfl zsZ (qM _) ?_)
  intro E f g _;have d:Xo (zc w E):=dD<|zd I g Wm;go_wp2;refine bodyPost_ret (zF rfl _ rfl f underlying44 rfl zsZ) rfl ⟨Rr i.out,Rr i.out,d⟩
 have C:Xo (ZY m (h:Int) (c:Int)=if bkN m a.file<=a.page then(zt,Xd,9)else(zU m a.file a.page,Xd,0)):=dD<|by rw[a5.out,kF N]
 obtain⟨z,Y⟩:∃z:Nat,a.file=(z:Int):=⟨a.file.toNat,Wm⟩;obtain⟨L,af⟩:∃L:Nat,a.page=(L:Int):=⟨a.page.toNat,Wm⟩;obtain⟨M,cy⟩:∃M,Xo (m.fl[z]?=Xa M):=⟨_,gE (by rw[aq.out];omega)⟩;obtain⟨g9,ff,hp,hq,_,H⟩:=an.out z M cy.out;obtain⟨-,dy⟩:=H S I.out;obtain⟨cd,a8⟩:=kA M.bl.length;rw[a8.out]at dy;have cu:Xo (bkN m a.file=(cd:Int)):=dD<|by unfold bkN;rw[Y,tN,gD,cy.out];simp only[Option.getD_some];rw[a8.out]
 have c8:=b2.c 7 rfl;rw[ff]at c8;rw[Y]at ci;rw[af]at cj;have e5:decide ((z:Int)<0)=Xd:=decide_eq_false Wm;have gh:(z:Int)<(aa:Int):=Wm;have br:L<=1000:=Wm;rw[cu.out,Y,af]at C;clear N Y af H ff bp bq bj;go_upto_region 15 with fail;by_cases bi:cd<=L
 ·have e6:decide (cd<=L)=Xc:=decide_eq_true bi;have i:Xo (ZY m (h:Int) (c:Int)=(zt,Xd,9)):=dD (by rw[C.out,kE Wm]);clear bi;go_quiet(fail);obtain⟨D,b⟩:=kB (S.drewN nq);have r:zc S D:=by rw[<-b];exact(show Below _ _ _ from bD (bR _ _) _)
  have a0:=dD (I.trans r);have T:=dD (ah.aA r);rw[b];clear b r c8 dy ci cj;go_wp2_with(refine zn rfl 44 (.tmp 6) (.tmp 97) rfl (w.heap.size+1) rfl (pgc zt) rfl T rfl zsZ (qM _) ?_)
  intro E f g _;have d:Xo (zc w E):=dD<|zd a0 g Wm;go_wp2;refine bodyPost_ret (zF rfl _ rfl f underlying44 rfl zsZ) rfl ⟨Rr i.out,Rr i.out,d⟩
 have e6:decide (cd<=L)=Xd:=decide_eq_false bi;obtain⟨ai,cv⟩:∃ai,Xo (M.bl[L]?=Xa ai):=⟨_,gE (by rw[a8.out];omega)⟩;have dg:Xo (ZY m (h:Int) (c:Int)=(zU m (z:Int) (L:Int),Xd,0)):=dD<|by rw[C.out,kF Wm]
 clear bi;go_quiet(fail);obtain⟨D,b⟩:=kB (S.drewN nq);have r:zc S D:=by rw[<-b];exact(show Below _ _ _ from bD (bR _ _) _)
 have a0:=dD (I.trans r);have fz:=dD (b2.aA r);have T:=dD (ah.aA r);have ho:=dD (dm.aA r);have ei:D.cell? ⟨fl,4,Xb⟩=Xa (I6 (z:Int)):=Ry b ci;have ej:D.cell? ⟨fl,5,Xb⟩=Xa (I6 (L:Int)):=Ry b cj;rw[b];clear b r c8 dy ci cj;obtain⟨ct,gw,gx,ev,ew,gy,gz,c8,h5,h6,u⟩:=fz.aY;have A:=al.out D z L M ai a0 cy cv br;go_wp2_with fail;refine A.mono ?_;clear A;rintro el cc⟨rfl,ae,ab⟩;have aj:=dD (a0.trans ab);have b3:=dD (T.aA ab);obtain⟨cs,y⟩:=kA (zU m (z:Int) (L:Int));have i:Xo (ZY m (h:Int) (c:Int)=(cs,Xd,0)):=show _=_ by rw[dg.out,y.out]
 rw[y.out]at ae⊢;have dc:=dD ae;clear ab ae ct gw gx ev ew gy gz c8 h5 h6 u ei ej;obtain⟨ck,cl,cm,cn,co,cp,cq,cr,rfl⟩:=zc2 cs dc.out;go_wp2_with(refine zn rfl 44 (.tmp 6) (.tmp 103) rfl (w.heap.size+1) rfl (pgc [ck,cl,cm,cn,co,cp,cq,cr]) rfl b3 rfl zsZ (qM _) ?_)
 intro E f g _;have d:Xo (zc w E):=dD<|zd aj g Wm;go_wp2;refine bodyPost_ret (zF rfl _ rfl f underlying44 rfl zsZ) rfl ⟨Rr i.out,Rr i.out,d⟩
theorem zse(h:maW m=0){f:Fl}(c:m.fl[fi]?=Xa f):(0<=f.size/\f.size<=96)/\(f.bl.length:Int)=zaS f.size:=by have a:=Q0 h;unfold zak at a;rw[zk]at a;have b:=((qJ _ _).1 (a (stW m.fl m.cnt) Sm)).2.1 f (mG c);exact⟨b.1,b.2.1⟩
structure zso(m:Ma)(c:Ca)(k fi ix:Nat)(f:Fr)(F:Fl):Prop where
 fr:c.fr=(k:Int)
 file:c.file=(fi:Int)
 idx:c.idx=(ix:Int)
 fa:m.fs[k]?=Xa f
 ff:f.f=(fi:Int)
 fx:f.x=(ix:Int)
 fl:m.fl[fi]?=Xa F
 sz:0<=F.size/\F.size<=96
 lo:ix<=12
 r:f.r≠0
 bl:ix<F.bl.length
theorem zof(p:maW m=0){c:Ca}(a:c∈m.ca):∃k b e f F,zso m c k b e f F:=by
 obtain⟨⟨d,d,d,s,d,d⟩,⟨j,l,n⟩,-⟩:=zoe ((zo.1 (zbX p).1.ca).1 c a);obtain⟨k,r⟩:∃k:Nat,c.fr=(k:Int):=⟨c.fr.toNat,Wm⟩;obtain⟨b,a⟩:∃b:Nat,c.file=(b:Int):=⟨c.file.toNat,Wm⟩;obtain⟨e,d⟩:∃e:Nat,c.idx=(e:Int):=⟨c.idx.toNat,Wm⟩;obtain⟨f,q⟩:∃f,m.fs[k]?=Xa f:=⟨_,gE Wm⟩;obtain⟨F,g⟩:∃F,m.fl[b]?=Xa F:=⟨_,gE Wm⟩;have i:z1 m c.fr=f:=by unfold z1;rw[r,tN,gD,q];rfl
 have h:bkN m c.file=(F.bl.length:Int):=by unfold bkN;rw[a,tN,gD,g];rfl
 rw[i]at j l n;rw[h]at s;obtain⟨h,i⟩:=zse p g;have:=zgU h.1 h.2;exact⟨k,b,e,f,F,r,a,d,q,l.trans a,n.trans d,g,h,Wm,j,Wm⟩
end
section
theorem zn5(P:α->Bool):∀{l:List α}{k:Nat}{x y:α},l[k]?=Xa x->(l.set k y).countP P+(P x).toNat=l.countP P+(P y).toNat
 |[],k,x,y,h=>by simp at h
 |a::l,0,x,y,h=>by
  have:a=x:=Si h
  subst this;rw[sZ,Yv,Yv];cases P a<;>cases P y<;>simp
 |a::l,k+1,x,y,h=>by grind
theorem zpu{fs:List Fr}{k:Nat}{fr:Fr}(a:fs[k]?=Xa fr)(b:fr.r≠0):Zn (fs.set k frF)=Zn fs+1:=by grind[Zn,frF,zn5]
theorem Zt:z4 M z=Xc↔∃(i:Nat)(f:Fl)(j:Nat),M[i]?=Xa f/\f.bl[j]?=Xa z:=by grind[z4,List.any_eq_true,Xv,Yh.1,mG,Yh.2]
theorem zay(h:z∈L)(hb:z≠-1):z∈Ji L:=Yb.2 ⟨h,Si hb⟩
theorem zd4(hb:z≠-1):∀{l:List Int}{j k:Nat},(Ji l).Nodup->l[j]?=Xa z->l[k]?=Xa z->j=k
 |[],j,k,_,h,_=>by simp at h
 |a::l,j,k,c,d,e=>by
  have g:(Ji l).Nodup:=by
   unfold Ji at c⊢;rw[Yo]at c;split at c;·exact(Yl.1 c).2
   exact c
  have f:a=z->z∉l:=fun h i=>by
   subst h;unfold Ji at c;rw[Yo,kE (Si hb)]at c;exact(Yl.1 c).1 (zay i hb)
  cases j with
  |zero=>
   cases k with
   |zero=>rfl
   |succ k=>
    rw[Xu]at e;exact absurd (mG e) (f (Si d))
  |succ j=>
   cases k with
   |zero=>
    rw[Xu]at d;exact absurd (mG d) (f (Si e))
   |succ k=>
    rw[Xu]at d e;rw[zd4 hb g d e]
theorem ziF{f:Fl}(a:M[k]?=Xa f)(c:f.bl[j]?=Xa z):z∈Jg M:=Yu.2 ⟨f,mG a,mG c⟩
theorem zf2(hb:z≠-1):∀{fs:List Fl}{i k j l:Nat}{f g:Fl},(Ji (Jg fs)).Nodup->fs[i]?=Xa f->f.bl[j]?=Xa z->fs[k]?=Xa g->g.bl[l]?=Xa z->i=k/\j=l
 |[],i,k,j,l,f,g,_,h,_,_,_=>by simp at h
 |a::fs,i,k,j,l,f,g,n,d,e,c,h=>by
  have m:Ji (Jg (a::fs))=Ji a.bl++Ji (Jg fs):=by
   unfold Ji Jg;rw[List.flatMap_cons,List.filter_append]
  rw[m,Oh]at n;obtain⟨q,r,p⟩:=n;cases i with
  |zero=>
   have m:a=f:=Si d;subst m;cases k with
   |zero=>
    have m:a=g:=Si c;subst m;exact⟨rfl,zd4 hb q e h⟩
   |succ k=>
    rw[Xu]at c;exact absurd rfl (p z (zay (mG e) hb) z (zay (ziF c h) hb))
  |succ i=>
   rw[Xu]at d;cases k with
   |zero=>
    have m:a=g:=Si c;subst m;exact absurd rfl (p z (zay (mG h) hb) z (zay (ziF d e) hb))
   |succ k=>
    rw[Xu]at c;obtain⟨m,n⟩:=zf2 hb r d e c h;exact⟨by rw[m],n⟩
theorem zoh{f:Fl}(h:stW M z=0)(c:M[k]?=Xa f)(d:f.bl[p]?=Xa (b:Int)):
  M.set k ⟨f.size,f.bl.set p (b:Int)⟩=M/\(∀x,z4 M x=Xc↔(z4 M x=Xc/\x≠-1)\/x=(b:Int)\/(x=-1/\z4 M x=Xc))/\∀(i j:Nat)g,M[i]?=Xa g->g.bl[j]?=Xa (b:Int)->i=k/\j=p:=by
 obtain⟨_,_,idx⟩:=(qJ M z).1 h;have h:(b:Int)≠-1:=Wm;refine⟨?_,fun x=>?_,fun i j g z e=>zf2 h idx z e c d⟩
 ·have z:f.bl.set p (b:Int)=f.bl:=by
   apply Xw;grind
  rw[z];apply Xw;intro q;rw[Yi];split
  ·rename_i e
   subst e;rw[kE (gS.1 c).1,c]
  rfl
 constructor;·grind
 rintro(⟨z,_⟩|rfl|⟨_,z⟩);·exact z
 ·exact Zt.2 ⟨k,f,p,c,d⟩
 exact z
theorem zoi{f:Fl}(h:stW M z=0)(l:M[k]?=Xa f)(c:f.bl[p]?=Xa (-1))(hb:b∈Q1 M z):
  stW (M.set k ⟨f.size,f.bl.set p (b:Int)⟩) z=0/\(∀x,z4 (M.set k ⟨f.size,f.bl.set p (b:Int)⟩) x=Xc↔(z4 M x=Xc/\x≠-1)\/x=(b:Int)\/(x=-1/\z4 (M.set k ⟨f.size,f.bl.set p (b:Int)⟩) x=Xc))/\z4 M (b:Int)=Xd/\∀(i j:Nat)g,M[i]?=Xa g->g.bl[j]?=Xa (b:Int)->i=k/\j=p:=by
 have z:z4 M (b:Int)=Xd:=by
  have:=(Yb.1 hb).2;grind
 have d:=(gS.1 l).1;have n:=(gS.1 c).1;refine⟨(zlL h l c hb).1,fun x=>?_,z,fun i j g z c=>?_⟩
 ·constructor
  ·intro h
   by_cases m:x=-1;·grind
   obtain⟨i,g,j,z,c⟩:=Zt.1 h;by_cases e:k=i
   ·subst e;rw[sF d]at z;cases z;simp only at c;by_cases idx:p=j;·grind
    rw[sN idx]at c;exact .inl ⟨Zt.2 ⟨k,f,j,l,c⟩,m⟩
   rw[sN e]at z;exact .inl ⟨Zt.2 ⟨i,g,j,z,c⟩,m⟩
  rintro(⟨h,m⟩|rfl|⟨_,h⟩)
  ·obtain⟨i,g,j,z,c⟩:=Zt.1 h
   by_cases e:i=k
   ·subst e;rw[l]at z;cases z;have l:p≠j:=fun idx=>(by grind);exact Zt.2 ⟨i,⟨f.size,f.bl.set p (b:Int)⟩,j,by rw[sF d],by simp only;rw[sN l];exact c⟩
   exact Zt.2 ⟨i,g,j,by rw[sN (fun idx=>e idx.symm)];exact z,c⟩
  ·exact Zt.2 ⟨k,⟨f.size,f.bl.set p (b:Int)⟩,p,by rw[sF d],by simp only;rw[sF n]⟩
  exact h
 have:=Zt.2 ⟨i,g,j,z,c⟩;grind
end
section
open Go.RowKit
theorem zr0(h:Rt m){F:Fl}(d:m.fl[fi]?=Xa F)(hb:ix<F.bl.length)(a:zbi m.fl m.cnt (fi:Int) (ix:Int)=0):
  ∃b:Nat,(b:Int)<m.cnt/\zjX m.fl m.cnt (fi:Int) (ix:Int)=(b:Int)/\zmq m.fl m.cnt (fi:Int) (ix:Int)=m.cnt/\ziM m.fl m.cnt (fi:Int) (ix:Int)=m.fl.set fi ⟨F.size,F.bl.set ix (b:Int)⟩/\(F.bl[ix]?=Xa (b:Int)\/(F.bl[ix]?=Xa (-1)/\b∈Q1 m.fl m.cnt)):=by
 have a:=h.inv.st;have c:zom m.fl (fi:Int)=F.bl:=by unfold zom;rw[tN,d]
 have e:zrA m.fl (fi:Int)=F.size:=by unfold zrA;rw[tN,d]
 obtain⟨z,e⟩:∃z,F.bl[ix]?=Xa z:=⟨_,gE hb⟩;have g:F.bl.getD ix 0=z:=by rw[gD,e];rfl
 obtain⟨f,f,_⟩:=(qJ _ _).1 a;have a:∃b:Nat,(b:Int)<m.cnt/\zqb m.fl m.cnt (fi:Int) (ix:Int)=(b:Int)/\(z=(b:Int)\/(z=-1/\b∈Q1 m.fl m.cnt)):=by
  unfold zqb;rw[c,tN,g];by_cases c:z=-1
  ·have g:Q1 m.fl m.cnt≠[]:=fun a=>by grind[zbi,gS.1,tN]
   cases a:Q1 m.fl m.cnt with
   |nil=>exact absurd a g
   |cons b l=>
    have g:b∈Q1 m.fl m.cnt:=(by rw[a];exact Xs ..);have a:=Xy.1 (Yb.1 g).1;refine⟨b,Wm,by rw[kE c];rfl,.inr ⟨c,Xs ..⟩⟩
  rw[kF c];obtain⟨_,_,a⟩:=f F (mG d);have:=a z (mG e);exact⟨z.toNat,Wm,Wm,.inl Wm⟩
 grind[zjX,zmq,ziM,tN]
theorem zmw(c:List (List Int))(a:List (Int×List Int))(b:∀q∈a,∃i:Nat,q.1=(i:Int)/\i<c.length)(i:Nat):(Zc c a)[i]?=c[i]?\/∃q∈a,q.1=(i:Int):=by
 unfold Zc;split
 ·rename_i c
  cases a with
  |nil=>cases c
  |cons q l=>
   simp only[List.headD_cons];obtain⟨j,a,_⟩:=b q (Xs ..);by_cases e:i=j;·grind
   grind
 grind
def zsq(x:Nat×Nat):List Xq:=[Xe Xf (x.1:Int),Xe Xf (x.2:Int)]
theorem zs4:(Tryz.prog.info? 95).map (fun i=>(i.zero,i.size,i.bytes))=Xa (Xa (Xi #[I6 0,I6 0]),2,16):=by kernel_rfl
theorem zs5:Tryz.prog.underlying 183=Xa (.slice 95):=by kernel_rfl
def zbc:Elt (Nat×Nat) where
 enc:=zsq
 k:=2
 ty:=95
 st:=183
 bytes:=16
 zv:=Xi #[Xe Xf 0,Xe Xf 0]
 zero:=(0,0)
 len:=fun _=>rfl
 one:=fun a u hu=>by
  simp only[zsq,mC,nM,or_false]at hu
  rcases hu with rfl|rfl<;>rfl
 bL:=zs5
 aF:=zs4
 zok:=rfl
 few:=by decide
 pos:=by decide
theorem zkF(s)(kind k:Int):(zoF s kind k).length<=64:=by unfold zoF;exact nT (List.length_filter_le _ _) Sm
theorem zci(m)(kind k:Int):∀q,(jM m kind k q).length<=64*q
 |0=>by simp[zlI]
 |q+1=>by
  rw[zcM,lA,Yg];have a:=zci m kind k q;have a:=zkF (m.sp.getD q ⟨Xd,[],[]⟩) kind k;omega
theorem zcr(a1:ChW w0 k w V m)(kind p:Int)(bb:m.sp.length<=4):
  Xp prog 115 #[Xj (Xa ⟨k,0,Xb⟩),I6 kind,I6 p] w fun e w'=>∃v,e=Xl v/\zb zbc w.heap.size w' v (jM m kind p m.sp.length)/\zc w w':=by
 obtain⟨b0,X,s,W⟩:=a1.at.aU;obtain⟨-,-,-,-,-,-,-,-,bf⟩:=a1.at.ns;obtain⟨az,M⟩:=kA V.sp.a;obtain⟨u,c⟩:=kA m.sp.length;have Q:=a1.box.box.c 10 rfl;rw[bf,c.out,M.out]at Q;have aj:Xo (b0.length=u):=dD<|Rx X c.out;have af:Xo (∀(j:Nat)x,b0[j]?=Xa x->∃am,az=Xa am/\∀b7,zc w b7->ziN b7 (am.add (j*10)) x):=dD<|Ry M.out s;have ag:=dD W;have be:u<=4:=Ry c.out bb;rw[c.out];clear a1 X s W bf bb;go_enter func115,ntmps115;go_wp2;clear Q;go_loopg[7,18] u (fun aq Y ax wr=>∃(q:Nat)(z:Option Addr)(F A:Nat),q<=u/\u-q<=aq/\ax=I6 q/\Y=O z F A/\Xo (zc w wr)/\Xo (zb zbc w.heap.size wr (O z F A) (jM m kind p q)))
 exact⟨0,Xb,0,0,nZ _,Wm,rfl,rfl,zc.refl _,zb.nil _ _ _⟩;obtain⟨q,z,F,A,cg,c0,rfl,rfl,a6,b6⟩:=hrel;by_cases h:q<u
 ·have T:=kC h
  obtain⟨x,aw⟩:∃x,b0[q]?=Xa x:=⟨_,gE (Rx aj.out h)⟩;obtain⟨t,b3⟩:∃t,Xo (m.sp[q]?=Xa t):=⟨_,gE (Rx c.out h)⟩;have aa:=dD<|ag.out q x t aw b3.out;obtain⟨am,rfl,bd⟩:=af.out q x aw;obtain⟨bo,bp,bq,br,bs,bt,bu,bv,bw,bx⟩:=bd wr a6.out;have L:Xo (jM m kind p (q+1)=jM m kind p q++(zoF t kind p).map fun n=>(q,n)):=show _=_ by rw[zcM,Sp.aJ b3.out]
  have ae:=dD<|zci m kind p q;have y:=dD<|zkF t kind p;clear bd aw;go_upto_region 5 with fail;refine nW fun N g=>?_;have ao:=gP g;have i:=xA g;have b1:=dD (a6.trans ao);have bk:=dD (b6.aA ao);clear g ao bo bp bq br bs bt bu bv bw bx;have bc:Xp prog 142 #[Xi #[x.t0.x,x.t1.x,x.t2.x,x.t3.x,x.t4.x,x.t5.x,x.t6.x,x.t7.x],I6 kind,I6 p] N fun e w'=>∃v,e=Xl v/\zb blE N.heap.size w' v ((zoF t kind p).map fun(n:Nat)=>(n:Int))/\zc N w':=zlS x.tab t.tb kind p N (aa.tb.aA b1);obtain⟨_,_,c1,c2,c3,c4,c5,Y,c6,ca⟩:=i.k10;go_wp2_with fail;refine bc.mono ?_;clear bc c1 c2 c3 c4 c5 Y c6 ca;rintro e cc⟨v,rfl,f,ap⟩;obtain⟨a,ac⟩:=kA (zoF t kind p);rw[ac.out]at f L y;obtain⟨cb,bg,rfl⟩:=f.form;rw[Yg]at f;have a3:=dD f;have b2:=dD (b1.trans ap);have bl:=dD (bk.aA ap);rw[Yg];obtain⟨l,b⟩:=kA a.length;rw[b.out]at a3 y⊢;have ar:l<=64:=y.out;clear f ap;obtain⟨b9,ab⟩:=kA N.heap.size;have bj:=dD<|bS b2.out;rw[ab.out]at a3;go_wp2;go_loopg[7,29] l (fun aq Y ay wr=>∃(j:Nat)(z:Option Addr)(F A:Nat),j<=l/\l-j<=aq/\ay=I6 j/\Y=O z F A/\Xo (zc w wr)/\Xo (zb zbc w.heap.size wr (O z F A) (jM m kind p q++(a.take j).map fun n=>(q,n)))/\Xo (zb blE b9 wr (O cb l bg) (a.map fun(n:Nat)=>(n:Int))))
  exact⟨0,z,F,A,nZ _,Wm,rfl,rfl,b2,show zb _ _ _ _ _ by simpa using(show zb _ _ _ _ _ from bl.out),a3.out⟩;obtain⟨j,Z,a2,I,cf,bz,rfl,rfl,a5,al,a4⟩:=hrel;by_cases C:j<l
  ·have S:=kC C
   obtain⟨n,av⟩:∃n,a[j]?=Xa n:=⟨_,gE (Rx b.out C)⟩;have U:(a.map fun(n:Nat)=>(n:Int))[j]?=Xa (n:Int):=(by rw[Ya,av];rfl);obtain⟨_,_,D,d⟩:=a4.at.rows;simp only[vJ]at D;obtain⟨P,r,R⟩:=d j _ U;rw[<-D.1]at r;subst r;have ba:wr.cell? (P.add (j*1))=Xa (I6 (n:Int)):=by
    have:=R wr (zc.refl _) 0 _ rfl;rw[Addr.add_add]at this;exact this
   rw[Ob]at ba;have ai:Xo ((a.take (j+1)).map (fun n=>(q,n))=(a.take j).map (fun n=>(q,n))++[(q,n)]):=dD (by rw[Yt,av];simp);have H:Xo (((jM m kind p q++(a.take j).map fun n=>(q,n)).length+[(q,n)].length)*16<=140737488355328):=dD<|by
    rw[lA,Yg,List.length_take];have:=ae.out;simp only[Yj,Yk];omega
   clear av U D d R;obtain⟨b4,K⟩:=kA (jM m kind p q++(a.take j).map fun n=>(q,n));rw[K.out]at al H;have ak:Xo (zb zbc w.heap.size (wr.alloc (Xk #[I6 (q:Int),I6 (n:Int)] 95)) (O Z a2 I) b4):=al.aA (za wr (Xk #[I6 (q:Int),I6 (n:Int)] 95));have ah:Xo (w.heap.size<=(wr.alloc (Xk #[I6 (q:Int),I6 (n:Int)] 95)).heap.size):=show _<=_ from nT (bS a5) (bS (za _ _));go_wp2_with(at_builtin;refine zw (E:=zbc) rfl (.tmp 33) (.tmp 37) rfl w.heap.size (O Z a2 I) b4 rfl ak _ [(q,n)] rfl (Zp zbc wr (q,n) _ _ rfl Dc) H ah.out ?_)
   intro ch b8 G B;obtain⟨cd,ce,rfl⟩:=G.form;have bm:Xo (zb zbc w.heap.size b8 _ (jM m kind p q++(a.take (j+1)).map fun n=>(q,n))):=dD (by rw[ai.out,<-List.append_assoc,K.out];exact G);have a0:zc wr (wr.alloc (Xk #[I6 (q:Int),I6 (n:Int)] 95)):=za _ _;have bh:Xo (zb blE b9 b8 (O (Xa P) l bg) (a.map fun(n:Nat)=>(n:Int))):=dD<|(a4.aA a0).grown B (fun an au e=>(a4.aA a0).apart ak Dc an au e);have bi:=dD<|z2 (a5.trans a0) B (fun an au=>(ak.lt an au).1);clear G B a0 ba;try simp only[Yx]
   go_wp2;go_roundg (l-(j+1));exact⟨j+1,_,_,_,Wm,Wm,Gn,rfl,bi,bm,bh⟩;omega
  have S:=kD C;have bn:Xo (zb zbc w.heap.size wr (O Z a2 I) (jM m kind p (q+1))):=dD<|by
   rw[L.out];have:=al.out;rw[Yf (by rw[b.out];omega)]at this;exact this
  go_wp2;go_roundg (u-(q+1));exact⟨q+1,Z,a2,I,Wm,Wm,Gn,rfl,a5,bn⟩;omega
 have T:=kD h;obtain rfl:q=u:=Wm;go_wp2;go_ret;exact⟨_,rfl,b6,a6⟩
theorem Qi(a5:ChW w0 k w V m)(q:Nat)(a9:q<m.sp.length)(n:Int)(z:En):
  Xp prog 93 #[Xj (Xa ⟨k,0,Xb⟩),Xi #[I6 (q:Int),I6 n],Xi #[I6 z.kind,I6 z.n,Xh z.wr]] w fun e w'=>(∃v,e=Xl v)/\Chg w0 k w V (jN m q n z) w':=by
 obtain⟨s,S⟩:∃s,m.sp[q]?=Xa s:=⟨_,gE a9⟩;obtain⟨ar,N,ah,ai⟩:=a5.sp;obtain⟨x,D⟩:∃x,ar[q]?=Xa x:=⟨_,gE (Rx ah a9)⟩;have T:=dD<|ai q x s D S w (qC.refl _ _);obtain⟨b8,G⟩:=kA ar.length;obtain⟨p,be,l⟩:=N.aG Wm;rw[G.out]at l;have bi:(q:Int)<(b8:Int):=Hm G.out;have A:=dD l;have aw:=dD a5;have ax:=dD D;have ba:=dD S;have Z:=dD ah;have a0:=dD ai;rw[l]at N;have F:=dD N;have X:Xo (∀W,zc w W->ziN W ⟨p,q*10,Xb⟩ x):=show∀W,_ from fun W a7=>by
  have:=((N.aA a7).one D).bO;rw[Yc,zA]at this;exact this
 have b9:=dD<|fun W(a7:zc w W)=>zmN x.tab s.tb n z W (T.tb.aA a7);have Y:Xo (jN m q n z={m with sp:=m.sp.set q {s with tb:=zkg s.tb n z}}):=dD<|by unfold jN;rw[Sp.aJ S]
 rw[Y.out];clear a5 a9 S N ah ai D l;obtain⟨az,d⟩:=kB ((w.alloc (Xk #[I6 (q:Int),I6 n] 95)).alloc (Xk #[I6 z.kind,I6 z.n,Xh z.wr] 55));have au:=gD2 d;have a2:=x2a d;have b0:=x2b d;have a1:=dD d;clear d;have a3:az.cell? ⟨k,10,Xb⟩=Xa (O (Xa ⟨p,0,Xb⟩) b8 be):=by rw[<-A.out];exact(aw.box.box.aA au).c 10 rfl
 have b7:=a2.c 0 rfl;go_enter func93,ntmps93;go_upto_region 1 with fail;rw[a1.out];obtain⟨g,U⟩:=kA w.heap.size;rw[U.out]at a2 b0 b7⊢;go_upto_region 2 with(go_quiet(fail))
 clear a3 b7;obtain⟨j,f⟩:=kB (az.drewN nq);have Q:Xo (zc w j):=dD<|by rw[<-f];exact au.trans (show Below _ _ _ from bD (bR _ _) _)
 have bc:Xo (Box j g [I6 (q:Int),I6 n]):=dD<|by rw[<-f];exact a2.aA (show Below _ _ _ from bD (bR _ _) _)
 have bd:Xo (Box j (g+1) [I6 z.kind,I6 z.n,Xh z.wr]):=dD<|by rw[<-f];exact b0.aA (show Below _ _ _ from bD (bR _ _) _)
 rw[f];clear f;obtain⟨i,h⟩:=Ww fun u=>Box u g [I6 (q:Int),I6 n]/\Box u (g+1) [I6 z.kind,I6 z.n,Xh z.wr];have C:i j.drew:=(h _).2 ⟨bc.aA (gW _),bd.aA (gW _)⟩;have H:zc j j.drew:=show Below _ _ _ from(bR _ _).drew;have ab:=fun y:zh i=>((h _).1 y.holds).1.c 1 rfl;have ac:=fun y:zh i=>((h _).1 y.holds).2.c 0 rfl;have ad:=fun y:zh i=>((h _).1 y.holds).2.c 1 rfl;have ae:=fun y:zh i=>((h _).1 y.holds).2.c 2 rfl;have a8:Nonempty (zh i):=⟨⟨_,C⟩⟩;refine zH (I:=i) 15 [(4,fun v=>v=Xi #[x.t0.x,x.t1.x,x.t2.x,x.t3.x,x.t4.x,x.t5.x,x.t6.x,x.t7.x]),(8,fun v=>∃r:List Xq,v=Xm #[Xi r.toArray,I6 (zmo s.tb n z)]),(14,fun _=>True)] (fun u=>zc j u) C H zY Kr rfl rfl Dc (Sc ⟨_,rfl⟩ ⟨_,[],rfl⟩ ⟨undef,trivial⟩) Kr ?_;simp only[Oi,Oj];iterate 2 refine zg ?_
 refine zQ (.tmp 17) ⟨p,q*10,Xb⟩ rfl rfl rfl rfl ?_;refine Uq ?_;refine zg ?_;refine zy rfl rfl (fun _ u=>zc j u) (fun w' c b=>?_) (fun b6 L=>?_)
 ·refine zcq 61 (.tmp 19) rfl p (q*10+2) rfl [x.t0.x,x.t1.x,x.t2.x,x.t3.x,x.t4.x,x.t5.x,x.t6.x,x.t7.x] ?_ underlying61 rfl Kr ⟨c,rfl,b⟩
  have t:=X.out _ (Q.trans b);intro b4 v a;have bj:(w'.cell? ⟨p,q*10+2+b4,Xb⟩)=Xa v:=by
   match b4,a with
   |0,a=>cases a;exact t.2.2.1
   |1,a=>cases a;exact t.2.2.2.1
   |2,a=>cases a;exact t.2.2.2.2.1
   |3,a=>cases a;exact t.2.2.2.2.2.1
   |4,a=>cases a;exact t.2.2.2.2.2.2.1
   |5,a=>cases a;exact t.2.2.2.2.2.2.2.1
   |6,a=>cases a;exact t.2.2.2.2.2.2.2.2.1
   |7,a=>cases a;exact t.2.2.2.2.2.2.2.2.2
  exact bj
 cases L;refine Uq ?_;iterate 3 refine zg ?_
 refine zy rfl rfl (fun v u=>∃(r:List Xq)(R:Xn),v=Xm #[Xi r.toArray,I6 (zmo s.tb n z)]/\zc j R/\zc R u/\Js 0 R.heap.size u r (zkg s.tb n z)) (fun w' c b=>?_) (fun b6 L=>?_);·refine zO.call [Xi #[x.t0.x,x.t1.x,x.t2.x,x.t3.x,x.t4.x,x.t5.x,x.t6.x,x.t7.x],I6 n,Xi #[I6 z.kind,I6 z.n,Xh z.wr]] rfl func123 rfl rfl rfl ?_;refine(b9 w' (Q.trans b)).mono ?_;rintro e bk⟨r,rfl,P,a4⟩;obtain⟨af,ag⟩:=(h _).1 c;exact⟨_,rfl,(h _).2 ⟨af.aA a4,ag.aA a4⟩,⟨r,rfl⟩,r,w',rfl,b,a4,P⟩
 obtain⟨r,rfl⟩:=L;refine Uq ?_;iterate 3 refine zg ?_
 refine zQ (.tmp 16) ⟨p,q*10,Xb⟩ rfl rfl rfl rfl ?_;refine Uq ?_;refine zg ?_;refine zy rfl rfl (fun _ u=>Chg w0 k w V {m with sp:=m.sp.set q {s with tb:=zkg s.tb n z}} u) (fun w' c b=>?_) (fun b6 L=>?_)
 ·obtain⟨aq,R,bg,b1,bf,b5⟩:=b;have aa:aq=r:=by simpa using bg.symm
  subst aa;obtain⟨aj,ak,P,al,am,an,ao,ap,rfl⟩:=b5.form;have av:=(Q.trans b1).trans bf;refine zdl (E:=ZP) (.tmp 28) (.tmp 25) 61 rfl w0.heap.size _ ar (F.aA av) p q 2 rfl x ⟨x.aD,x.ar,aj,ak,P,al,am,an,ao,ap⟩ ax.out [aj.v,ak.v,P.v,al.v,am.v,an.v,ao.v,ap.v] Kr rfl (by show 2+8<=10;omega) ?_ ⟨p,q*10+2,Xb⟩ rfl rfl (Xi #[aj.v,ak.v,P.v,al.v,am.v,an.v,ao.v,ap.v]) rfl rfl ?_
  ·intro u b3;simp only[mC,nM,or_false]at b3;rcases b3 with rfl|rfl|rfl|rfl|rfl|rfl|rfl|rfl<;>rfl
  intro bb M B _;rw[<-A.out]at M;obtain⟨af,ag⟩:=(h _).1 c;have bh:=F.lt p rfl;refine⟨(h _).2 ⟨af.grown B (Hm U.out),ag.grown B (Hm U.out)⟩,trivial,aw.bX Z a0 ax ba (by have b2:=A.out;(try simp only[Sli.x]at b2);unfold oB;rw[b2];rfl) av (b5.less (nR _) (nT (bS Q) (bS b1))) B M ⟨rfl,rfl,rfl⟩⟩
 clear L;try simp only[Yx]
 refine qE fun bb a6 K=>?_;have ay:=dD K;clear a6 K C H ab ac ad ae a8;go_wp2;exact Wq ay.out
end
end Go.Proofs.YtkfjajbalegoeaaGreat
