import Derived.Test.YtkfjajbalegoeaaGreatFP3
import Derived.Lib.Overlaps
import Derived.Laws.Externs
import Derived.Lib.AppendZerosOnto
namespace Go.Proofs.YtkfjajbalegoeaaGreat
open Go.Value renaming slice→O,int→Xe,bool→Xh,agg→Xi,pointer→Xj,tuple→Xm
open Go.IntKind renaming i64→Xf,u8→Xg
open Go.Obj renaming cells→Xk
open Go.Ending renaming returned→Xl
open Go renaming World→Xn,Calls→Xp,Value→Xq
open Go.RowKit renaming Hid→Xo
open Option renaming some→Xa,none→Xb
open Bool renaming true→Xc,false→Xd
open List renaming replicate→Xr
open _root_.List renaming length_take→Xs,any_eq_true→Xt,length_set→Xu,flatMap_append→Xv,length_drop→Xy,take_of_length_le→Xz,pairwise_iff_getElem→Yb,mem_singleton→Yc,getElem?_of_mem→Ye,take_append_drop→Yg,take_left'→Yh,length_singleton→Yj,take→Yk,drop→Yl,length_cons→Ym,takeWhile_cons→Yn,find?_eq_none→Yq,getElem?_cons_succ→Yr,take_add_one→Yt,mem_range→Yu,append_assoc→Yv,map_nil→Yw,size_toArray→Yx,take_append_of_le_length→Oa,append_nil→Oc,take_take→Oe,mem_of_find?_eq_some→Of,ext_getElem?→Og,getElem?_map→Oh,countP_cons→Oi,map_toArray→Oj,drop_of_length_le→Ol,findIdx_getElem→Om,mem_of_mem_take→Oo,pairwise_cons→Ou
open Go.Addr renaming add_lit→Xw
open _root_.Nat renaming mul_le_mul_right→Xx,min_eq_left→Ya,le_of_ble_eq_true→Yf,mod_eq_of_lt→Yi,mod_lt→Yo,lt_of_lt_of_le→Yp,add_zero→Ys,add_mul→Yz,mod_add_mod→Ob,add_sub_cancel_left→Ok
open Go.Act renaming put→Yd
open _root_.Bool renaming and_eq_true→Yy,false_eq_true→Ot
open Go.Sem renaming run_bind→Od,run_pure→Ov
open _root_.Array renaming toList_append→Oq,size_append→Ow
set_option maxRecDepth 100000
set_option maxHeartbeats 4000000
variable{α:Type}{a:Act}{H:Ar}{U:Array Xq}{E:Elt α}{Z:En}{Y:Fr}{j z:Int}{g:List (Int×List Int)}{r:List (List Int)}{u:List (Nat×Nat)}{R:List Fr}{K:List Oper}{y:List α}{b k p:Nat}{s:Sp}{w:Xn}{A:Xq}{N:Xq->Xn->Prop}
variable{B b fi ix:Nat}{Q:Exit->Act->Xn->Prop}{V:MaV}{W w' w0 w1:Xn}{m:Ma}{o:Oper}{ops:Array Oper}{t:TypeId}{z:Int}
open Go.Proofs.Tryz
section
open Go.RowKit
theorem zl4(h:ChW w0 k w V m)(q:Nat)(b:q<m.sp.length)(n:Int)(a:(Z6 m q n).kind=1->Zm m.fs m.aB (Z6 m q n).n (-1)=0):
  Xp prog 87 #[Xj (Xa ⟨k,0,Xb⟩),Xi #[I6 (q:Int),I6 n]] w fun e w'=>(∃v,e=Xl v)/\Chg w0 k w V (zjJ m q n) w':=by
 obtain⟨E,c⟩:=kA (Z6 m q n);have f:Xo (zjJ m q n=jN (Z4 m E (-1)) q n ⟨0,0,Xd⟩):=dD<|by rw[<-c.out];rfl
 have l:=dD h;have r:=dD b;have g:=dD h.bA;have s:Xo (E.kind=1->Zm m.fs m.aB E.n (-1)=0):=show _->_ by rw[<-c.out];exact a
 clear h b a;obtain⟨a,a⟩:=kB (w.alloc (Xk #[I6 (q:Int),I6 n] 95));have p:=gA a;obtain⟨i,b⟩:=kA w.heap.size;have h:=xPT a b;have d:Xo (¬Dw k V i):=dD<|fun e=>by have:=g.out _ e;have:=b.out;omega
 have g:=dD a;clear a;have a:=Qh (l.aA p) q r n;rw[c.out]at a;go_enter func87,ntmps87;go_upto_region 1 with fail;rw[g.out,b.out];obtain⟨i,j⟩:=h.box.k2;go_wp2_with fail;refine a.mono ?_;clear a i j;rintro e b⟨rfl,b⟩;have c:=dD (p.trans b);have t:=dD (h.aA b);clear b;unfold enV;have b:=zcS (l.aA c) E (-1) s.out;go_wp2_with fail;refine b.mono ?_;clear b;rintro e b⟨⟨b,rfl⟩,b,p,g,h⟩;have l:=dD p;have b:=dD<|Chg.far c h;have s:=dD<|(qC.aA c).trans g;have c:=dD<|t.aK g d.out;clear p h g;obtain⟨i,j⟩:=c.box.k2;have a:=Qi l q (Rx zcg r) n ⟨0,0,Xd⟩;go_wp2_with fail;refine a.mono ?_;clear a i j;rintro e d⟨⟨a,rfl⟩,c⟩;have a:Xo (Chg w0 k w V (zjJ m q n) d):=dD<|Rx f.out (Chg.step s b c);clear c;go_wp2;exact Wq a.out
def zhZ(m:Ma)(q:Nat)(n:Int)(k:Int):Ma:=jN (Z4 m ⟨1,k,Xd⟩ 1) q n ⟨1,k,Xd⟩
theorem zcR(h:ChW w0 k w V m)(q:Nat)(b:q<m.sp.length)(n:Int)(p:Int)(a:Zm m.fs m.aB p 1=0):
  Xp prog 113 #[Xj (Xa ⟨k,0,Xb⟩),Xi #[I6 (q:Int),I6 n],I6 p] w fun e w'=>(∃v,e=Xl v)/\Chg w0 k w V (zhZ m q n p) w':=by
 have l:=dD h;have r:=dD b;have j:=dD a;have g:=dD h.bA;clear h b a;obtain⟨c,a⟩:=kB ((w.alloc (Xk #[I6 (q:Int),I6 n] 95)).alloc (Xk #[I6 1,I6 p,Xh Xd] 55));have f:=gD2 a;obtain⟨d,b⟩:=kA w.heap.size;have u:Xo (zm c d 95 [I6 (q:Int),I6 n]):=dD<|by rw[<-a];exact(zm.aE w [I6 (q:Int),I6 n] _ b.symm).aA (za _ _)
 have i:Xo (zm c (d+1) 55 [I6 1,I6 p,Xh Xd]):=dD<|by rw[<-a];exact zm.aE _ [I6 1,I6 p,Xh Xd] _ (by have:=b.out;simp;omega)
 have c:Xo (¬Dw k V d/\¬Dw k V (d+1)):=dD<|⟨fun e=>by have:=g.out _ e;have:=b.out;omega,fun e=>by have:=g.out _ e;have:=b.out;omega⟩;have d:=dD a;clear a;have a:=zcS (l.aA f) ⟨1,p,Xd⟩ 1 (fun _=>j.out);go_enter func113,ntmps113;go_upto_region 2 with fail;rw[d.out,b.out];obtain⟨d,g,h⟩:=i.box.c3;go_wp2_with fail;refine a.mono ?_;clear a d g h;rintro e a⟨⟨a,rfl⟩,a,l,a,j⟩;have s:=dD l;have b:=dD<|Chg.far f j;have t:=dD<|(qC.aA f).trans a;have f:=dD<|u.aK a c.1;have u:=dD<|i.aK a c.2;clear l j a;obtain⟨c,i⟩:=f.box.k2;obtain⟨d,g,h⟩:=u.box.c3;have a:=Qi s q (Rx zcg r) n ⟨1,p,Xd⟩;go_wp2_with fail;refine a.mono ?_;clear a c i d g h;rintro e a⟨⟨a,rfl⟩,c⟩;have a:=dD<|Chg.step t b c;clear c;go_wp2;exact Wq a.out
theorem zjN(h:ChW w0 k w V m)(q:Nat)(a:q<m.sp.length)(n:Int):
  Xp prog 72 #[Xj (Xa ⟨k,0,Xb⟩),Xi #[I6 (q:Int),I6 n]] w fun e w'=>(∃v,e=Xl v)/\Chg w0 k w V (jN m q n {Z6 m q n with wr:=true}) w':=by
 obtain⟨E,d⟩:=kA (Z6 m q n);rw[d.out];have r:=dD h;have s:=dD a;clear h a;obtain⟨a,a⟩:=kB (w.alloc (Xk #[I6 (q:Int),I6 n] 95));have h:=gA a;obtain⟨t,c⟩:=kA w.heap.size;have g:=xPT a c;have b:=dD a;clear a;have a:=Qh (r.aA h) q s n;rw[d.out]at a;go_enter func72,ntmps72;go_upto_region 1 with fail;rw[b.out,c.out];obtain⟨p,l⟩:=g.box.k2;go_wp2_with fail;refine a.mono ?_;clear a p l;rintro e c⟨rfl,d⟩;unfold enV;go_upto_region 2 with fail;obtain⟨i,f⟩:=kA c.heap.size;refine nW fun b b=>?_;have j:=gP b;have y:=xPT b f;have x:=dD (g.aA (d.trans j));have u:=dD ((h.trans d).trans j);have c:Xo (t<i/\w.heap.size<=i):=show _/\_ from⟨by have:=(g.aA d).box.lt;have:=f.out;omega,by have:=f.out;have:=bS (h.trans d);omega⟩;rw[f.out];clear b j d;go_upto_region 3 with(refine ZW rfl 4 (.tmp 8) (.const (Xh Xc)) rfl i 2 rfl (Xh Xc) rfl [Xh Xc] rfl y Sm Kr (by simp[Value.oneCell']) ?_)
 intro f d b _;have h:=dD d;have g:Xo (zm f t 95 [I6 (q:Int),I6 n]):=x.beside b (fun f e=>by cases e;have:=c.out;omega);have f:=dD<|zd u b c.2;clear d b;try simp only[Yd]
 have a:=Qi (r.aA f) q s n ⟨E.kind,E.n,Xc⟩;obtain⟨p,l⟩:=g.box.k2;obtain⟨b,c,d⟩:=h.box.c3;go_wp2_with fail;refine a.mono ?_;clear a p l b c d;rintro e a⟨⟨a,rfl⟩,b⟩;have a:=dD<|Chg.aH f b;clear b;go_wp2;exact Wq a.out
theorem ChW.off(h:ChW w0 k w V m)(a:w.heap[p]?=Xa (Xk U t (0,0)))(t1:102≠t)(t2:q3.ty≠t)(d:jF.ty≠t)(f:ZP.ty≠t):¬Dw k V p:=by
 have a:∀{c:Type}{E:Elt c}{b:Nat}{v:Xq}{l:List c},zb E b w v l->E.ty≠t->v.ownBlock≠Xa p:=fun r b e=>by
  obtain⟨b,b⟩:=r.obj e;grind
 rintro(e|e|e|e)
 ·subst e;have b:w.heap[p]?=_:=h.box;grind
 ·exact a h.fs t2 e
 ·exact a h.ca d e
 obtain⟨b,b,_⟩:=h.sp;exact a b f e
theorem ChW.bY{w:Xn}{p:Nat}{cs:List Xq}(h:ChW w0 p w V m)(a:zm w b t cs)(t1:102≠t)(t2:q3.ty≠t)(c:jF.ty≠t)(d:ZP.ty≠t):¬Dw p V b:=h.off (show w.heap[b]?=_ from a) t1 t2 c d
theorem ChW.offR(h:ChW w0 k w V m)(r:zb E p w A y)(t1:102≠E.ty)(t2:q3.ty≠E.ty)(c:jF.ty≠E.ty)(d:ZP.ty≠E.ty):∀g,A.ownBlock=Xa g->¬Dw k V g:=fun g b=>by
 obtain⟨a,a⟩:=r.obj b;exact h.off a t1 t2 c d
theorem zb.chg(r:zb E b w A y)(o:qC (Dw k V) w w1)(a:∀g,A.ownBlock=Xa g->¬Dw k V g):zb E b w1 A y:=⟨zeb r.1 o a,r.2⟩
def JM(m:Ma)(e:En)(l:List (Nat×Nat)):Ma:=l.foldl (fun m x=>jN m x.1 (x.2:Int) e) m
theorem zjI(m e)(l:List (Nat×Nat))(x:Nat×Nat):JM m e (l++[x])=jN (JM m e l) x.1 (x.2:Int) e:=by simp[JM]
theorem zbH(e):∀(l:List (Nat×Nat))(m:Ma),(JM m e l).sp.length=m.sp.length/\(JM m e l).fs=m.fs/\(JM m e l).aB=m.aB
 |[],_=>⟨rfl,rfl,rfl⟩
 |x::l,m=>by
  have h:=zbH e l (jN m x.1 (x.2:Int) e);exact⟨h.1.trans (za9 _ _ _ _),h.2⟩
def zbn(m:Ma)(k:Nat)(r:Int)(e:En):Ma:={JM m e (jM m 1 (k:Int) m.sp.length)with fs:=Jz m.fs m.aB (k:Int) (-r),aB:=m.aB}
theorem zeM(h:ChW w0 k w V m)(p:Nat)(fr:Fr)(f:m.fs[p]?=Xa fr)(z:En)(a:m.sp.length<=4)(d:0<=fr.r/\fr.r<=1000)(b:Zm m.fs m.aB (p:Int) (-fr.r)=0):
  Xp prog 195 #[Xj (Xa ⟨k,0,Xb⟩),I6 (p:Int),Xi #[I6 z.kind,I6 z.n,Xh z.wr]] w fun e w'=>(∃v,e=Xl v)/\Chg w0 k w V (zbn m p fr.r z) w':=by
 have l:=dD h;have H:=dD f;have X:=dD b;have u:=dD d;have c:=dD a;clear h f a b d;obtain⟨j,a⟩:=kB (w.alloc (Xk #[I6 z.kind,I6 z.n,Xh z.wr] 55));have g:=gA a;obtain⟨C,h⟩:=kA w.heap.size;have s:=xPT a h;have d:=dD a;clear a;have a:=zcr (l.aA g) 1 (p:Int) c.out;obtain⟨L,F⟩:=kA (jM m 1 (p:Int) m.sp.length);rw[F.out]at a;have b:Xo (L.length<=256):=show _<=_ by
  rw[<-F.out];have G:=zci m 1 (p:Int) m.sp.length;have q:=c.out;omega
 have q:Xo (∀D∈L,D.1<m.sp.length):=dD<|fun D c=>by
  rw[<-F.out]at c;exact((zaK Dc (nR _)).1 c).1
 go_enter func195,ntmps195;go_upto_region 1 with fail;rw[d.out,h.out];go_wp2_with fail;refine a.mono ?_;clear a;rintro e a⟨v,rfl,a,A⟩;obtain⟨t,U,rfl⟩:=a.form;obtain⟨h,d⟩:=kA L.length;rw[d.out]at a b⊢;have r:h<=256:=b.out;obtain⟨N,b⟩:=kA j.heap.size;rw[b.out]at a;have r:=dD a;have b:=dD (g.trans A);have g:=dD (s.aA A);clear a A;go_wp2;go_loopg[12] h (fun s a wr=>∃(j:Nat)(B:MaV),j<=h/\h-j<=s/\a=I6 j/\Xo (ChW w0 k wr B (JM m z (L.take j)))/\Xo (qC (Dw k V) w wr)/\Xo (∀p,Dw k B p->Dw k V p\/w.heap.size<=p)/\Xo (zb zbc N wr (O t h U) L)/\Xo (zm wr C 55 [I6 z.kind,I6 z.n,Xh z.wr]))
 exact⟨0,V,nZ _,Wm,rfl,l.aA b,qC.aA b,fun p f=>.inl f,r,g⟩;obtain⟨j,B,y,a,rfl,f,Q,P,t,T⟩:=hrel;by_cases l:j<h
 ·have s:=kC l
  obtain⟨⟨E,n⟩,c⟩:∃D,L[j]?=Xa D:=⟨_,gE (Rx d.out l)⟩;obtain⟨g,Y,b⟩:=t.aG (by rw[d.out];omega);simp only[vJ]at b;obtain⟨rfl,-,-⟩:=b;have a:=t.one c;have r:wr.cell? ⟨g,j*2,Xb⟩=Xa (I6 (E:Int)):=by
   have:=a 0 _ rfl;rw[Xw,Xw,zA,Ys]at this;exact this
  have M:wr.cell? ⟨g,j*2+1,Xb⟩=Xa (I6 (n:Int)):=by
   have:=a 1 _ rfl;rw[Xw,Xw,zA]at this;exact this
  have S:=dD<|q.out _ (mG c);have K:Xo (L.take (j+1)=L.take j++[(E,n)]):=show _=_ by rw[Yt,c];rfl
  clear a c;go_upto_region 4 with fail;clear r M;obtain⟨a,r⟩:=kA wr.heap.size;refine nW fun a a=>?_;have q:=gA a;have R:=xPT a r;have M:=dD (T.aA q);rw[r.out];clear a;have r:=dD (f.aA q);have a:=Qi r E (by rw[(zbH z _ m).1];exact S) (n:Int) z;obtain⟨E,S⟩:=R.box.k2;obtain⟨R,T,W⟩:=M.box.c3;go_wp2_with fail;refine a.mono ?_;clear a E S R T W;rintro e E⟨⟨a,rfl⟩,R,T,a,S⟩;have W:Xo (ChW w0 k E R (JM m z (L.take (j+1)))):=dD (by rw[K.out,zjI];exact T);have K:=Chg.step (w0:=w0) (m':=JM m z (L.take (j+1))) Q P (Chg.aH q ⟨R,W,a,S⟩);have R:Xo (zb zbc N E (O (Xa ⟨g,0,Xb⟩) h U) L):=(t.aA q).chg a (r.offR (t.aA q) Dc Dc Dc Dc);have W:Xo (zm E C 55 [I6 z.kind,I6 z.n,Xh z.wr]):=M.aK a (r.bY M Dc Dc Dc Dc);obtain⟨U,r,t,q⟩:=K;have K:=dD r;have M:=dD t;have E:=dD q;clear T a S r t q;go_wp2;go_roundg (h-(j+1));exact⟨j+1,U,Wm,Wm,Gn,K,M,E,R,W⟩;omega
 have s:=kD l;have a:Xo (L.take j=L):=dD<|Xz (by rw[d.out];omega);rw[a.out]at f;obtain⟨K,l⟩:=kA (JM m z L);rw[l.out]at f;have a:Xo (K.fs=m.fs/\K.aB=m.aB):=dD<|by rw[<-l.out];exact(zbH z L m).2
 obtain⟨g,Y,b⟩:=f.fs.aG (by rw[a.1];have:=(gS.1 H).1;omega);obtain⟨⟨d,t,q⟩,d,d,d,d,d,d,d,d⟩:=B;simp only[vJ]at b;obtain⟨rfl,d,-⟩:=b;have b:(p:Int)<(t:Int):=by
  have G:=(gS.1 H).1;rw[d,a.1];omega
 have b:Xo (∀W,zc wr W->W.cell? ⟨g,p*13+8,Xb⟩=Xa (I6 fr.r)):=dD<|fun W h=>by
  have:=(f.fs.aA h).one (i:=p) (x:=fr) (Rx a.1 H) 8 _ rfl;rw[Xw,Xw,zA]at this;exact this
 have M:Xo (∀W,zc wr W->Xp prog 121 #[Xi #[O (Xa ⟨g,0,Xb⟩) t q,I6 m.aB],I6 (p:Int),I6 (-fr.r)] W fun e w'=>∃s:Sli,e=Xl (Xm #[Xi #[s.x,I6 m.aB],I6 0])/\zb q3 W.heap.size w' (s.x) (Jz m.fs m.aB (p:Int) (-fr.r))/\zc W w'):=dD<|fun W h=>by
  have r:=(f.at.aA h).fs;rw[a.1]at r d;rw[d]at r⊢;refine(zgM (Xa ⟨g,0,Xb⟩) q m.fs m.aB (p:Int) (-fr.r) W r X).mono ?_;rintro e w'⟨C,rfl,r,g⟩;have h:zb q3 W.heap.size w' C (Jz m.fs m.aB (p:Int) (-fr.r)):=r;obtain⟨B,C,rfl⟩:=h.form;exact⟨⟨B,_,C⟩,rfl,r,g⟩
 have h:=dD f.box;have H:=dD a.2;clear d;obtain⟨r,B⟩:=kA fr.r;rw[B.out]at b M u;obtain⟨a,a⟩:=u.out;go_upto_region 6 with fail;obtain⟨a,E⟩:=Ww fun u=>u.cell? ⟨g,p*13+8,Xb⟩=Xa (I6 r);have L:zc wr wr.drew:=show Below _ _ _ from(bR _ _).drew;have d:=(E _).2 (b _ L);have C:zc wr wr.drew:=L;have R:=fun L:zh a=>(E _).1 L.holds;have L:Nonempty (zh a):=⟨⟨_,d⟩⟩;refine zaq (I:=a) 26 [(18,fun v=>∃s:Sli,v=Xm #[Xi #[s.x,I6 m.aB],I6 0]),(25,fun _=>True)] [5,12] (fun u=>zc wr u) d C zY Kr rfl rfl Dc (Sb ⟨_,zJ,rfl⟩ ⟨undef,trivial⟩) Kr Kr ?_;simp only[Yk,Yl];iterate 2 refine Qd ?_
 refine zaF (.tmp 23) ⟨k,0,Xb⟩ rfl rfl rfl rfl ?_;refine Uq ?_;iterate 2 refine Qd ?_
 refine zhW rfl rfl rfl (Xi #[O (Xa ⟨g,0,Xb⟩) t q,I6 m.aB]) (fun w' _ a=>?_) ?_
 ·exact zmR 28 (.tmp 26) rfl k 0 rfl [O (Xa ⟨g,0,Xb⟩) t q,I6 m.aB] ((h.box.aA a).mid 0 (fun j v y=>by
   match j,y with
   |0,y=>exact y
   |1,y=>rw[<-H.out]at y;exact y)) underlying28 rfl Kr
 refine Uq ?_;iterate 2 refine Qd ?_
 refine zaF (.tmp 29) ⟨k,0,Xb⟩ rfl rfl rfl rfl ?_;refine Uq ?_;iterate 3 refine Qd ?_
 refine zhW rfl rfl rfl (O (Xa ⟨g,0,Xb⟩) t q) (fun w' _ a=>?_) ?_;·exact zlf 26 (.tmp 33) rfl k 0 rfl (O (Xa ⟨g,0,Xb⟩) t q) ((h.box.aA a).c 0 rfl) underlying26 rfl
 refine Uq ?_;iterate 5 refine Qd ?_
 refine zcb rfl rfl (fun v u=>∃(s:Sli)(c:Xn),v=Xm #[Xi #[s.x,I6 m.aB],I6 0]/\zc wr c/\zc c u/\zb q3 c.heap.size u (s.x) (Jz m.fs m.aB (p:Int) (-r))) (fun w' j a=>?_) (fun D y=>?_);·refine zO.call [Xi #[O (Xa ⟨g,0,Xb⟩) t q,I6 m.aB],I6 (p:Int),I6 (-r)] rfl func121 rfl rfl rfl ?_;refine(M w' a).mono ?_;rintro e q⟨s,rfl,q,A⟩;exact⟨_,rfl,(E _).2 (b _ (a.trans A)),⟨s,rfl⟩,s,w',rfl,a,A,q⟩
 obtain⟨s,rfl⟩:=y;refine Uq ?_;iterate 3 refine Qd ?_
 refine zaF (.tmp 22) ⟨k,0,Xb⟩ rfl rfl rfl rfl ?_;refine Uq ?_;iterate 2 refine Qd ?_
 refine zcb rfl rfl (fun _ u=>Chg w0 k w V (zbn m p r z) u) (fun w' j a=>?_) (fun D y=>?_)
 ·obtain⟨j,c,c,t,q,u⟩:=a;have a:j=s:=by
   obtain⟨A,A,A⟩:=s;obtain⟨N,s,s⟩:=j;simp only[Value.tuple.injEq,Array.mk.injEq,List.cons.injEq,Value.agg.injEq,vJ,and_true]at c;obtain⟨rfl,rfl,rfl⟩:=c;rfl
  subst a;have c:=t.trans q;refine ZM 28 (.tmp 45) (.tmp 41) rfl k 0 rfl (Xi #[j.x,I6 m.aB]) rfl [j.x,I6 m.aB] rfl (h.aA c) (by simp[chL]) Kr (by simp[Value.oneCell']) ?_;intro q h a _;have j:=f.nf g rfl;refine⟨(E _).2 ?_,trivial,?_⟩
  ·have G:=b.out _ c;have b:=World.block_lt_of_cell? _ _ G;rw[World.cell?_of_block (w:=w') (a.block g b (fun e=>by cases e;exact j rfl))];exact G
  have b:zbn m p r z={K with fs:=Jz m.fs m.aB (p:Int) (-r),aB:=m.aB}:=by
   unfold zbn;rw[F.out,l.out]
  rw[b];exact Chg.step Q P (f.bK c (u.base (bS t)) a h)
 clear y;try simp only[Yd]
 refine zgy fun q b a=>?_;have c:Xo (Chg w0 k w V (zbn m p fr.r z) q):=dD<|Rx B.out a;clear b a d C R L;go_wp2;exact Wq c.out
def frU(q:Fr):Fr:={q with u:=false}
def zkx(q:Fr):Bool:=decide (0<q.r)&&!q.u
theorem zon{w:Xn}(h:Below b w W){a:Addr}(c:b<=a.block)(u):Below b w (W.setCell a u):=Below.setCell h c u
theorem zoY(B g n f i base v:Nat)(fs:List Fr)(q W)(b:fs.length=n)(a:n<=40)(h:fs[i]?=Xa q)(j:Box W B [O (Xa ⟨g,0,Xb⟩) n f,I6 (i:Int)])(k:zb q3 base W (O (Xa ⟨g,0,Xb⟩) n f) fs)(p:B≠g)(t:v<=B)(C:v<=g):
  Xp prog 189 #[Xj (Xa ⟨B,0,Xb⟩)] W fun e a=>e=Xl (Xm #[I6 (i:Int),Xh (zkx q)])/\Box a B [O (Xa ⟨g,0,Xb⟩) n f,I6 (((i+1)%n:Nat):Int)]/\zb q3 base a (O (Xa ⟨g,0,Xb⟩) n f) (fs.set i (frU q))/\Below v W a:=by
 have d:=dD k;have c:=dD j;have u:=dD h;have a:i<n:=by rw[<-b];exact(gS.1 h).1
 have a:=dD b;clear k j h b;have a:(i:Int)<(n:Int):=Wm;have a:(0:Int)<(n:Int):=Wm;have a:¬(n:Int)=0:=Wm;have a:(((i:Int)+1)%(n:Int))=(((i+1)%n:Nat):Int):=Sm;have k:=dD a;clear a;have a:=Ne.symm p;obtain⟨z,j⟩:=c.k2;have s:=c.f;have m:=c.lt;have a:=(d.lt g rfl).2;have u8:=d.frc u 8 rfl;have u9:=d.frc u 9 rfl;go_enter func189,ntmps189;go_upto_region 3 with fail;obtain⟨h,b⟩:=kB (W.setCell ⟨B,1,Xb⟩ (I6 (((i:Int)+1)%(n:Int))));rw[b];have r:Xo (Box h B [O (Xa ⟨g,0,Xb⟩) n f,I6 (((i:Int)+1)%(n:Int))]):=dD<|by rw[<-b];exact c.set 1 _
 have l:Xo (zb q3 base h (O (Xa ⟨g,0,Xb⟩) n f) fs):=dD<|by rw[<-b];exact d.aQ (fun w a=>by cases a;exact p) _
 have d:Xo (Below v W h):=dD<|by rw[<-b];exact zon (bR _ _) t _
 clear b z j s m u8 u9;have z:=r.c 0 rfl;have u8:=l.frc u 8 rfl;have u9:=l.frc u 9 rfl;have y:Xo (zkx q=(decide (0<q.r)&&!q.u)):=rfl;obtain⟨h,b⟩:=kA q.r;obtain⟨A,c⟩:=kA q.u;rw[b.out]at u8 y;rw[c.out]at u9 y;by_cases D:0<h
 ·cases A with
  |true=>
   have x:Xo (zkx q=Xd):=dD<|by rw[y.out];simp[D]
   skip
   go_wp2_with(refine zx (E:=q3) rfl (.tmp 32) (.const (Xh Xd)) 4 rfl base (O (Xa ⟨g,0,Xb⟩) n f) fs l g i 9 rfl q (frU q) u.out [Xh Xd] Kr rfl (Yf rfl) (by intro A t;simp at t;subst t;rfl) _ rfl (by simp[q3]) _ rfl rfl ?_)
   intro s c b _;have m:=dD c;have j:Xo (Box s B [O (Xa ⟨g,0,Xb⟩) n f,I6 (((i:Int)+1)%(n:Int))]):=r.beside b (fun w a=>by cases a;exact p);have h:Xo (Below v W s):=Below.grown d b (Hm (bS d.out)) (fun w a=>by cases a;exact C);clear c b u8 u9 z;go_wp2;go_ret2;exact⟨Rr x.out,Ry k.out j,m,h⟩
  |false=>
   have x:Xo (zkx q=Xc):=dD<|by rw[y.out];simp[D]
   skip
   go_wp2_with(refine zx (E:=q3) rfl (.tmp 32) (.const (Xh Xd)) 4 rfl base (O (Xa ⟨g,0,Xb⟩) n f) fs l g i 9 rfl q (frU q) u.out [Xh Xd] Kr rfl (Yf rfl) (by intro A t;simp at t;subst t;rfl) _ rfl (by simp[q3]) _ rfl rfl ?_)
   intro s c b _;have m:=dD c;have j:Xo (Box s B [O (Xa ⟨g,0,Xb⟩) n f,I6 (((i:Int)+1)%(n:Int))]):=r.beside b (fun w a=>by cases a;exact p);have h:Xo (Below v W s):=Below.grown d b (Hm (bS d.out)) (fun w a=>by cases a;exact C);clear c b u8 u9 z;go_wp2;go_ret2;exact⟨Rr x.out,Ry k.out j,m,h⟩
 
 have x:Xo (zkx q=Xd):=dD<|by rw[y.out];simp[D]
 skip
 go_wp2_with(refine zx (E:=q3) rfl (.tmp 32) (.const (Xh Xd)) 4 rfl base (O (Xa ⟨g,0,Xb⟩) n f) fs l g i 9 rfl q (frU q) u.out [Xh Xd] Kr rfl (Yf rfl) (by intro A t;simp at t;subst t;rfl) _ rfl (by simp[q3]) _ rfl rfl ?_)
 intro s c b _;have m:=dD c;have j:Xo (Box s B [O (Xa ⟨g,0,Xb⟩) n f,I6 (((i:Int)+1)%(n:Int))]):=r.beside b (fun w a=>by cases a;exact p);have h:Xo (Below v W s):=Below.grown d b (Hm (bS d.out)) (fun w a=>by cases a;exact C);clear c b u8 u9 z;go_wp2;go_ret2;exact⟨Rr x.out,Ry k.out j,m,h⟩
def Zq:Nat->List Fr->Nat->List Fr×Nat×Int
 |0,fs,h=>(fs,h,-1)
 |m+1,fs,h=>if zkx (fs.getD h fr0)then(fs.set h (frU (fs.getD h fr0)),(h+1)%fs.length,(h:Int))else Zq m (fs.set h (frU (fs.getD h fr0))) ((h+1)%fs.length)
def zbA(fs:List Fr)(h:Int):List Fr×Nat×Int:=Zq (2*fs.length) fs h.toNat
def zcF(fs:List Fr)(h:Int):List Fr:=if ZR fs h=0 then(zbA fs h).1 else[]
def zed(fs:List Fr)(h:Int):Int:=if ZR fs h=0 then((zbA fs h).2.1:Int)else 0
def zbe(fs:List Fr)(h:Int):Int:=if ZR fs h=0 then(zbA fs h).2.2 else 0
theorem zrI(a)(c:Nat)(fs:List Fr)(l:Nat)(w:Xn)(aq:zq q3 w (O a fs.length c) fs)(S:ZR fs (l:Int)=0):
  Xp prog 182 #[Xi #[O a fs.length c,I6 (l:Int)]] w fun e w'=>∃b,e=Xl (Xm #[Xi #[b,I6 ((Zq (2*fs.length) fs l).2.1:Int)],I6 (Zq (2*fs.length) fs l).2.2,I6 0])/\zb q3 w.heap.size w' b (Zq (2*fs.length) fs l).1/\zc w w':=by
 have a3:=dD aq;have ah:∀W,zc w W->Xp prog 125 #[Xi #[O a fs.length c,I6 (l:Int)]] W fun e w'=>e=Xl (I6 (ZR fs (l:Int)))/\zc W w':=fun W ae=>by rw[S];exact QQ a c fs _ W (a3.aA ae) S
 have ag:∀W,zc w W->Xp prog 46 #[Xi #[O a fs.length c,I6 (l:Int)]] W fun e w'=>∃b,e=Xl (Xi #[b,I6 (l:Int)])/\zb q3 W.heap.size w' b fs/\zc W w':=fun W ae=>JG a c fs _ W (a3.aA ae);obtain⟨P,_,_,A⟩:=Zd S;have bb:=enters_of func189 Kr rfl;clear aq;obtain⟨n,a1⟩:=kA fs.length;simp only[a1.out,S]at ah a3 ag P A⊢;clear S;obtain⟨V,G⟩:=kA (Zq (2*n) fs l);rw[G.out];obtain⟨b9,p⟩:=kB ((w.alloc (Xk #[O a n c,I6 (l:Int)] 28)).alloc (Xk #[eS,I6 0] 28));have r:=gD2 p;have X:=x2a p;have am:=x2b p;have a4:=dD p;clear p;go_enter func182,ntmps182;go_upto_region 1 with fail;rw[a4.out];obtain⟨aa,ab⟩:=X.k2;go_wp2_with fail;refine(ah _ r).mono ?_;rintro e x⟨rfl,ao⟩;have B:=dD ao;clear ao aa ab ah;obtain⟨aa,ab⟩:=(X.aA B).k2;go_wp2_with fail;refine(ag _ (r.trans B)).mono ?_;rintro e L⟨b,rfl,i,ad⟩;obtain⟨D,m,rfl⟩:=i.form;rw[a1.out]at i⊢;have ay:=dD i;have aj:=dD (B.trans ad);have ac:=dD<|bS ad;have a7:=dD<|(am.aA B).lt;have a6:=dD<|bS (r.trans B);clear i ad aa ab ag;obtain⟨M,k⟩:=kB (L.alloc (Xk #[O D n m,I6 (l:Int)] 28));have an:=xT k;have K:Xo (zb q3 x.heap.size M (O D n m) fs):=dD<|by rw[<-k];exact ay.aA (za _ _)
 have a9:Xo (Box M (w.heap.size+1) [eS,I6 0]):=dD<|by rw[<-k];exact(am.aA aj).alloc _
 have au:Xo (zc w M):=dD<|by rw[<-k];exact(r.trans aj).trans (za _ _)
 have a5:=dD k;clear k;go_wp2;rw[a5.out];go_loopg[8,9,23] (2*n) (fun az _ _ ai wr=>∃(h d:Nat)(g:List Fr),h<=2*n/\2*n-h<=az/\ai=I6 h/\d<max n 1/\Xo (g.length=n)/\Xo (Box wr L.heap.size [O D n m,I6 (d:Int)])/\Xo (zb q3 x.heap.size wr (O D n m) g)/\Xo (Below x.heap.size M wr)/\Xo (Zq (2*n-h) g d=V))
 exact⟨0,l,fs,nZ _,Wm,rfl,Wm,a1,an.box,K,bR _ _,G⟩;obtain⟨h,d,g,b1,bc,rfl,b0,C,I,U,Z,Y⟩:=hrel;have u:=a7.out;have t:=a6.out;have j:=dD<|a9.below Z u;have ak:=dD<|Below.trans au (Z.mono t);by_cases b2:h<2*n
 ·have R:(h:Int)<2*(n:Int):=Wm
  obtain⟨s,ba,ap⟩:=U.aG (by rw[C.out];omega);rw[C.out]at ap;cases ap;obtain⟨q,al⟩:∃q,Xo (g[d]?=Xa q):=⟨_,gE (by rw[C.out];omega)⟩;have af:=U.lt s rfl;have a2:Xo (L.heap.size≠s):=(K.ne an Dc s rfl);have f:=zoY L.heap.size s n m d x.heap.size x.heap.size g q wr C P al I U a2 ac.out af.1;have Q:g.getD d fr0=q:=by rw[gD,al.out];rfl
  have H:Xo (Zq (2*n-h) g d=if zkx q then(g.set d (frU q),(d+1)%n,(d:Int))else Zq (2*n-(h+1)) (g.set d (frU q)) ((d+1)%n)):=dD<|by
   rw[show 2*n-h=(2*n-(h+1))+1 by omega,Zq,Q,C.out]
  clear Q;cases E:zkx q with
  |true=>
   rw[E]at f;have F:Xo (V=(g.set d (frU q),(d+1)%n,(d:Int))):=dD (by rw[<-Y.out,H.out,E,kE rfl]);clear E;go_wp2_with(go_at_call 189;refine f.mono ?_;rintro e z⟨rfl,N,T,y⟩;obtain⟨b5,b7⟩:=(j.below y u).k2;have b8:=(j.below y u).f;obtain⟨b3,b4⟩:=N.k2;have a8:Xo (zb q3 x.heap.size z (O (Xa ⟨s,0,Xb⟩) n m) (g.set d (frU q))):=T;have a0:Xo (zc w z):=show zc w z from Below.trans ak (y.mono t);clear T y)
   refine bodyPost_ret (v:=Xm #[Xi #[O (Xa ⟨s,0,Xb⟩) n m,I6 (((d+1)%n:Nat):Int)],I6 (d:Int),I6 0]) (by simp[results,Tryz.results182,go_sem, *]) rfl ⟨O (Xa ⟨s,0,Xb⟩) n m,?_,?_,?_⟩;·rw[F.out]
   ·rw[F.out];exact((a8.setCell (a:=⟨w.heap.size+1,0,Xb⟩) (by show w.heap.size+1<_;omega) _).setCell (a:=⟨w.heap.size+1,1,Xb⟩) (by show w.heap.size+1<_;omega) _).base t
   exact zB (zB a0 Sm _) Sm _
  |false=>
   rw[E]at f;have aw:Xo (Zq (2*n-(h+1)) (g.set d (frU q)) ((d+1)%n)=V):=dD (by rw[<-Y.out,H.out,E];rfl);clear E;go_wp2_with(go_at_call 189;refine f.mono ?_;rintro e z⟨rfl,N,T,y⟩;have ar:Xo (Box z L.heap.size [O (Xa ⟨s,0,Xb⟩) n m,I6 (((d+1)%n:Nat):Int)]):=N;have a8:Xo (zb q3 x.heap.size z (O (Xa ⟨s,0,Xb⟩) n m) (g.set d (frU q))):=T;have ax:Xo (Below x.heap.size M z):=Below.trans Z y;clear N T y)
   go_roundg (2*n-(h+1));exact⟨h+1,(d+1)%n,g.set d (frU q),Wm,Wm,Gn,(by have:=Yo (d+1) (show 0<n by omega);omega),(show(g.set d (frU q)).length=n by rw[Xu];exact C),ar,a8,ax,aw⟩;omega
 have R:¬(h:Int)<2*(n:Int):=Wm;have:h=2*n:=Wm;subst this;have F:Xo (V=(g,d,-1)):=dD<|by rw[<-Y.out,Nat.sub_self];rfl
 obtain⟨b5,b7⟩:=j.k2;have b8:=j.f;obtain⟨b3,b4⟩:=I.k2;go_wp2;refine bodyPost_ret (v:=Xm #[Xi #[O D n m,I6 (d:Int)],I6 (-1),I6 0]) (by simp[results,Tryz.results182,go_sem, *]) rfl ⟨O D n m,?_,?_,?_⟩;·rw[F.out]
 ·rw[F.out];exact((U.setCell (a:=⟨w.heap.size+1,0,Xb⟩) (by show w.heap.size+1<_;omega) _).setCell (a:=⟨w.heap.size+1,1,Xb⟩) (by show w.heap.size+1<_;omega) _).base t
 exact zB (zB ak Sm _) Sm _
theorem zo6(a)(c:Nat)(fs:List Fr)(h:Int)(w:Xn)(f:zq q3 w (O a fs.length c) fs)(d:ZR fs h=0):
  Xp prog 182 #[Xi #[O a fs.length c,I6 h]] w fun e w'=>∃b,e=Xl (Xm #[Xi #[b,I6 (zed fs h)],I6 (zbe fs h),I6 (ZR fs h)])/\zb q3 w.heap.size w' b (zcF fs h)/\zc w w':=by unfold zed zbe zcF zbA;rw[kE d,kE d,kE d];obtain⟨g,rfl⟩:=Int.eq_ofNat_of_zero_le (Zd d).2.2.1;rw[tN,d];exact zrI a c fs g w f d
def Qm(m:Ma):Ma:={m with fs:=zcF m.fs m.aB,aB:=zed m.fs m.aB}
theorem zrU(h:ChW w0 k w V m)(c:ZR m.fs m.aB=0):
  Xp prog 182 #[Xi #[V.f.x,I6 m.aB]] w fun e w'=>∃b:Sli,e=Xl (Xm #[Xi #[b.x,I6 (zed m.fs m.aB)],I6 (zbe m.fs m.aB),I6 0])/\zb q3 w.heap.size w' (b.x) (zcF m.fs m.aB)/\zc w w':=by obtain⟨a,-⟩:=h.at.ns;have p:=h.at.fs;(try simp only[Sli.x]at p⊢);rw[a]at p⊢;refine(zo6 V.f.a V.f.c m.fs m.aB w p c).mono ?_;rintro e w'⟨b,rfl,d,h⟩;have a:zb q3 w.heap.size w' b (zcF m.fs m.aB):=d;obtain⟨f,g,rfl⟩:=a.form;rw[c];exact⟨⟨f,_,g⟩,rfl,d,h⟩
theorem zhK:∀(m:Nat)(fs:List Fr)(h:Nat),h<fs.length->(∀q∈fs,q=frF)->Zq m fs h=(fs,(h+m)%fs.length,-1)
 |0,fs,h,a,_=>by
  rw[Zq,Ys,Yi a]
 |m+1,fs,h,a,b=>by
  have d:fs.getD h fr0=frF:=by
   rw[gD,gE a];exact b _ (List.getElem_mem a)
  have e:fs.set h (frU frF)=fs:=by
   apply Og;intro j;by_cases c:j=h;·subst c;rw[sF a,gE a,b _ (List.getElem_mem a)];rfl
   rw[sN (Ne.symm c)]
  rw[Zq,d,show zkx frF=Xd from rfl,e];rw[kF Dc,zhK m fs ((h+1)%fs.length) (Yo _ Wm) b];rw[Ob,Nat.add_assoc,Nat.add_comm 1 m]
theorem znA(a:frW Y=0)(b:Y.r=0):Y=frF:=by grind[frW,inB,Jj,frF,zdC]
def zg6(q:Fr):Bool:=decide (0<q.r)
theorem zlq(a:ZR R z=0)(e:R.any zg6=Xd):zbA R z=(R,z.toNat,-1):=by
 obtain⟨b,c,b,b⟩:=Zd a;have a:∀q∈R,q=frF:=fun q b=>by
  have d:=List.any_eq_false.1 e q b;unfold zg6 at d;have d:=(zcl (c q b)).1;grind[znA]
 unfold zbA;by_cases b:R.length=0;·rw[b];rfl
 rw[zhK _ R z.toNat Wm a,Nat.add_comm,Nat.two_mul,Nat.add_assoc,Nat.add_mod_left,Nat.add_mod_left,Yi Wm]
def zcv(fs gs:List Fr):Prop:=gs.length=fs.length/\∀(i:Nat)q,fs[i]?=Xa q->∃q',gs[i]?=Xa q'/\(q'=q\/q'=frU q)
theorem zcv.refl(fs):zcv fs fs:=⟨rfl,fun _ q h=>⟨q,h,.inl rfl⟩⟩
theorem zcv.set{a:List Fr}(h:zcv R a)(i:Nat):zcv R (a.set i (frU (a.getD i fr0))):=by
 refine⟨Rx Xu h.1,fun j q c=>?_⟩;obtain⟨d,a,b⟩:=h.2 j q c;by_cases e:j=i
 ·subst e;have c:=(gS.1 a).1;refine⟨frU d,?_,?_⟩;·grind
  right;rcases b with rfl|rfl<;>rfl
 grind
theorem zbB:∀(m:Nat)(fs b:List Fr)(h:Nat),zcv fs b->h<b.length->∀(a:List Fr)(c:Nat)(r:Int),Zq m b h=(a,c,r)->zcv fs a/\c<a.length/\(r=-1\/∃(k:Nat)(q:Fr),r=(k:Int)/\fs[k]?=Xa q/\0<q.r/\a[k]?=Xa (frU q)/\c=(k+1)%fs.length)
 |0,fs,b,h,f,l,a,c,r,e=>by
  rw[Zq]at e;cases e;exact⟨f,l,.inl rfl⟩
 |m+1,fs,b,h,f,l,a,c,r,e=>by
  rw[Zq]at e;have j:=f.set h;have i:(h+1)%b.length<(b.set h (frU (b.getD h fr0))).length:=by
   rw[Xu];exact Yo _ Wm
  by_cases d:zkx (b.getD h fr0)=Xc
  ·rw[kE d]at e;cases e;refine⟨j,i,.inr ?_⟩;have g:h<fs.length:=Ry f.1 l;obtain⟨s,t,n⟩:=f.2 h fs[h] (gE g);have p:b.getD h fr0=s:=(by rw[gD,t];rfl);rw[p]at d;have b:0<s.r:=(by unfold zkx at d;simp at d;exact d.1);refine⟨h,fs[h],rfl,gE g,?_,?_,by rw[f.1]⟩
   ·rcases n with rfl|rfl
    ·exact b
    exact b
   rw[sF l,p];rcases n with rfl|rfl<;>rfl
  rw[kF d]at e;exact zbB m fs _ _ j i a c r e
theorem zlG{fs:List Fr}(b:∀q∈fs,0<=q.r):fs.countP zg6+Zn fs=fs.length:=by
 induction fs with
 |nil=>rfl
 |cons a l d=>
  have c:=d fun q d=>b q (by simp[d]);have d:=b a Sm;unfold Zn at c⊢;rw[Oi,Oi,Ym];by_cases b:a.r=0;·grind[zg6]
  grind[zg6]
theorem zfE:∀(d m:Nat)(a:List Fr)(h:Nat),h<a.length->d<m->zg6 (a.getD ((h+d)%a.length) fr0)=Xc->(a.getD ((h+d)%a.length) fr0).u=Xd->(Zq m a h).2.2≠-1
 |d,0,_,_,_,k,_,_=>Wm
 |d,m+1,a,h,c,k,hd,g=>by
  rw[Zq]
  by_cases hi:zkx (a.getD h fr0)=Xc
  ·rw[kE hi];simp only;omega
  rw[kF hi]
  cases d with
  |zero=>
   rw[Ys,Yi c]at hd g;unfold zkx at hi;unfold zg6 at hd;rw[hd,g]at hi;exact absurd rfl hi
  |succ d=>
   have f:(a.set h (frU (a.getD h fr0))).length=a.length:=Xu;have b:∀i,(a.set h (frU (a.getD h fr0))).getD i fr0=if i=h/\h<a.length then frU (a.getD h fr0)else a.getD i fr0:=fun i=>by
    rw[gD];by_cases e:i=h;·subst e;rw[kE ⟨rfl,c⟩,sF c];rfl
    rw[kF Wm,sN (Ne.symm e),<-gD]
   have j:((h+1)%a.length+d)%a.length=(h+(d+1))%a.length:=(by rw[Ob,show h+1+d=h+(d+1) by omega]);refine zfE d m _ _ (by rw[f];exact Yo _ Wm) Wm ?_ ?_
   ·rw[f,j,b]
    split
    ·rename_i e
     rw[e.1]at hd;exact hd
    exact hd
   rw[f,j,b];split;·rfl
   exact g
theorem zee:∀(d m:Nat)(a:List Fr)(h:Nat),h<a.length->d+a.length<m->zg6 (a.getD ((h+d)%a.length) fr0)=Xc->(Zq m a h).2.2≠-1
 |d,0,_,_,_,j,_=>Wm
 |d,m+1,a,h,c,j,hd=>by
  rw[Zq]
  by_cases hi:zkx (a.getD h fr0)=Xc
  ·rw[kE hi];simp only;omega
  rw[kF hi];have e:(a.set h (frU (a.getD h fr0))).length=a.length:=Xu;have b:∀i,(a.set h (frU (a.getD h fr0))).getD i fr0=if i=h/\h<a.length then frU (a.getD h fr0)else a.getD i fr0:=fun i=>by
   rw[gD];by_cases f:i=h;·subst f;rw[kE ⟨rfl,c⟩,sF c];rfl
   rw[kF Wm,sN (Ne.symm f),<-gD]
  cases d with
  |zero=>
   rw[Ys,Yi c]at hd;have g:((h+1)%a.length+(a.length-1))%a.length=h:=by
    rw[Ob,show h+1+(a.length-1)=h+a.length by omega,Nat.add_mod_right,Yi c]
   refine zfE (a.length-1) m _ _ (by rw[e];exact Yo _ Wm) Wm ?_ ?_;·rw[e,g,b,kE ⟨rfl,c⟩];exact hd
   rw[e,g,b,kE ⟨rfl,c⟩];rfl
  |succ d=>
   have g:((h+1)%a.length+d)%a.length=(h+(d+1))%a.length:=(by rw[Ob,show h+1+d=h+(d+1) by omega]);refine zee d m _ _ (by rw[e];exact Yo _ Wm) (by rw[e];omega) ?_;rw[e,g,b];split
   ·rename_i f
    rw[f.1]at hd;exact hd
   exact hd
theorem zlp(a:ZR R z=0):
  (zbe R z=-1/\Zn R=R.length)\/∃(k:Nat)(q:Fr),zbe R z=(k:Int)/\R[k]?=Xa q/\0<q.r/\zcv R (zcF R z)/\(zcF R z)[k]?=Xa (frU q)/\zed R z=(((k+1)%R.length:Nat):Int):=by
 obtain⟨b,b,c,c⟩:=Zd a;have d:zbe R z=(zbA R z).2.2:=kE a;have c:zcF R z=(zbA R z).1:=kE a;have c:zed R z=((zbA R z).2.1:Int):=kE a;cases c:R.any zg6 with
 |false=>
  left;rw[d,zlq a c];refine⟨rfl,?_⟩;have a:=zlG (fs:=R) (fun q l=>(zcl (b q l)).1);have a:R.countP zg6=0:=by grind
  omega
 |true=>
  right;obtain⟨a,a,f⟩:=Xt.1 c;obtain⟨i,j⟩:=Ye a;have e:=(gS.1 j).1;have c:z.toNat<R.length:=Wm;obtain⟨b,d,r,g⟩:∃b d r,Zq (2*R.length) R z.toNat=(b,d,r):=⟨_,_,_,rfl⟩;have a:r≠-1:=by
   have a:=zee ((i+R.length-z.toNat)%R.length) (2*R.length) R z.toNat c (by have:=Yo (i+R.length-z.toNat) (show 0<R.length by omega);omega) (by
    rw[Nat.add_mod_mod,show z.toNat+(i+R.length-z.toNat)=i+R.length by omega,Nat.add_mod_right,Yi e,gD,j]
    exact f)
   rw[g]at a;exact a
  obtain⟨a,a,a⟩:=zbB (2*R.length) R R z.toNat (zcv.refl R) c b d r g;rcases a with a|⟨k,q,rfl,l,a,a,rfl⟩;·grind
  grind[zbA]
theorem zfR(a:enW Z=0):∀(l:List (Nat×Nat)){m:Ma},(∀s∈m.sp,Qv s.tb)->(∀x∈l,x.1<m.sp.length/\x.2<64)->JM m Z l=Z9 m Z l
 |[],m,_,_=>rfl
 |x::l,m,ht,b=>by
  obtain⟨c,d⟩:=b x (List.mem_cons_self ..)
  show JM (jN m x.1 (x.2:Int) Z) Z l=Z9 (QD m x.1 x.2 Z) Z l;rw[Ja ht c d a];exact zfR a l (za0 ht a) (fun y a=>by rw[JZ];exact b y (List.mem_cons_of_mem _ a))
theorem zhy:∀(l:List (Nat×Nat)){m m0:Ma},m.sp=m0.sp->(Z9 m Z l).sp=(Z9 m0 Z l).sp
 |[],_,_,h=>h
 |x::l,m,m0,h=>zhy l (m:=QD m x.1 x.2 Z) (m0:=QD m0 x.1 x.2 Z) (by unfold QD;simp only;rw[h])
theorem zch(h:Rt m)(b:m.fs[k]?=Xa Y)(a:Y.r≠0):0<=Y.r/\Y.r<=1000/\Zm m.fs m.aB (k:Int) (-Y.r)=0:=by
 obtain⟨a,c⟩:=zcl ((Zd h.parts.1).2.1 Y (mG b));refine⟨a,c,?_⟩;have a:m.fs.getD k fr0=Y:=by rw[gD,b];rfl
 have c:=(gS.1 b).1;unfold Zm;rw[kE h.parts.1,tN,a];grind[inB]
theorem zkt{m0:Ma}(h:Rt m0)(b:m.sp=m0.sp)(c:m.fs=m0.fs)(g:m.aB=m0.aB)(f:m0.fs[k]?=Xa Y)(a:Y.r≠0)(d:enW Z=0):
  zbn m k Y.r Z={m with fs:=m.fs.set k frF,sp:=m.sp.map (Qa (k:Int) Z)}:=by
 obtain⟨_,_,c⟩:=zch h f a;have i:∀s∈m.sp,Qv s.tb:=fun s a=>h.tb (Ry b a);have c:jM m 1 (k:Int) m.sp.length=jM m0 1 (k:Int) m0.sp.length:=by unfold jM;rw[b]
 have a:∀x∈jM m0 1 (k:Int) m0.sp.length,x.1<m.sp.length/\x.2<64:=fun x g=>by
  obtain⟨j,j,_⟩:=(zaK (m:=m0) Dc (nR _)).1 g;grind
 have g:(Z9 m Z (jM m0 1 (k:Int) m0.sp.length)).sp=m.sp.map (Qa (k:Int) Z):=by rw[zhy _ b,zph h d,b]
 have b:m0.fs.getD k fr0=Y:=by rw[gD,f];rfl
 unfold zbn;rw[c,zfR d _ i a,zd6];grind[Jz,tN,frH,frF]
def zav(k:Nat)(fr:Fr)(l:List (Nat×Nat))(q:Nat)(s:Sp)(a:Ar)(n:Nat):Bool:=decide ((qq a n).file=fr.f)&&decide ((qq a n).page=fr.x)&&!(l.contains (q,n))&&(decide ((ze s n).kind=0)||isE (ze s n) 1 (k:Int))
def zhr(m:Ma)(k:Nat)(fr:Fr)(l:List (Nat×Nat)):Bool:=(List.range m.sp.length).any fun q=>(m.sp.getD q ⟨Xd,[],[]⟩).aC.any fun a=>(List.range 64).any fun n=>Qb a n&&zav k fr l q (m.sp.getD q ⟨Xd,[],[]⟩) a n
theorem zbV:zav k Y u b s H p=Xc↔zj1 k Y u b s H p:=by unfold zav zj1;simp[and_assoc]
theorem zdY:zhr m k Y u=Xc↔∃(q:Nat)(s:Sp)(i:Nat)(a:Ar)(n:Nat),m.sp[q]?=Xa s/\s.aC[i]?=Xa a/\Qb a n=Xc/\n<64/\zj1 k Y u q s a n:=by
 unfold zhr;constructor;·intro h;obtain⟨q,d,h⟩:=Xt.1 h;obtain⟨a,b,h⟩:=Xt.1 h;obtain⟨n,e,h⟩:=Xt.1 h;obtain⟨i,c⟩:=Ye b;have b:=Yu.1 d;have d:=gE b;rw[Sp.aJ d]at c h;rw[Yy]at h;exact⟨q,_,i,a,n,d,c,h.1,Yu.1 e,zbV.1 h.2⟩
 rintro⟨q,s,i,a,n,b,c,d,e,f⟩;refine Xt.2 ⟨q,Yu.2 (gS.1 b).1,?_⟩;rw[Sp.aJ b];refine Xt.2 ⟨a,mG c,Xt.2 ⟨n,Yu.2 e,?_⟩⟩;rw[Yy];exact⟨d,zbV.2 f⟩
def zl8(m:Ma)(fr:Fr):List Int:=Z8 (pgL fr.p) fr.x (JC m fr.f)
def zaj(m:Ma):Nat:=m.sl.findIdx isZ
def zbU(m:Ma)(k:Nat)(fr:Fr):Bool×Ma:=if zaj m<m.sl.length then(Xc,QC m k (zaj m) fr.r (Zc m.sb m.sq) (Zi m.sq (zaj m:Int) (pgL fr.p)))else(Xd,m)
def zfm(m:Ma)(k:Nat)(fr:Fr)(l:List (Nat×Nat)):Bool×Ma:=
 if zl8 m fr≠pgL fr.p/\zhr m k fr l=Xc then(Xd,m)
 else if fr.d=Xc\/Qr m fr.f fr.x≠zl8 m fr then
  (if zbi m.fl m.cnt fr.f fr.x=0 then(Xc,qL (wrM m (zl8 m fr) fr.f fr.x) k)else if Qr m fr.f fr.x=zl8 m fr then(Xc,qL m k)else(Xd,m))
 else(Xc,qL m k)
def Zy(m:Ma)(k:Nat)(fr:Fr)(l:List (Nat×Nat)):Bool×Ma:=if fr.f=-1 then zbU m k fr else zfm m k fr l
def Q8:Nat->Ma->List (Nat×Nat)->Bool×Ma
 |0,m,_=>(Xd,m)
 |n+1,m,l=>
  if zbe m.fs m.aB<0 then(Xd,Qm m)
  else if(Zy (Qm m) (zbe m.fs m.aB).toNat (z1 (Qm m) (zbe m.fs m.aB)) l).1=Xc then Zy (Qm m) (zbe m.fs m.aB).toNat (z1 (Qm m) (zbe m.fs m.aB)) l
  else Q8 n (Qm m) l
def Q7(m:Ma)(l:List (Nat×Nat)):Bool×Ma:=Q8 (2*m.fs.length) m l
section
variable{m:Ma}{k:Nat}{fr:Fr}
theorem Rt.frw(h:Rt m)(a:m.fs[k]?=Xa fr):frW fr=0:=(Zd h.parts.1).2.1 fr (mG a)
theorem zls(S:Nat->Nat->Prop)(f:Rt m)(h:zcv m.fs R):JU S m {m with fs:=R}:=by
 have j:∀i,i<=m.fs.length->JU S m {m with fs:=R.take i++m.fs.drop i}:=by
  intro i;induction i with
  |zero=>
   intro _;have:R.take 0++m.fs.drop 0=m.fs:=Sm;rw[this];exact JU.refl f
  |succ i b=>
   intro c;have g:=b Wm;obtain⟨q,l⟩:∃q,m.fs[i]?=Xa q:=⟨_,gE Wm⟩;obtain⟨c,b,k⟩:=h.2 i q l;have e:=h.1;have e:(R.take i).length=i:=(by rw[Xs];omega);have r:(R.take i++m.fs.drop i)[i]?=Xa q:=(by grind);have n:R.take (i+1)++m.fs.drop (i+1)=(R.take i++m.fs.drop i).set i c:=by
    rw[List.set_append,kF Wm,e,Nat.sub_self,Yt,b,Yv];congr 1;rw[List.drop_eq_getElem_cons (by omega:i<m.fs.length),sZ];rfl
   rw[n];by_cases n:q.r=0
   ·have p:=znA (f.frw l) n;have b:c=q:=by
     rcases k with e|e;·exact e
     rw[e,p];rfl
    have f:(R.take i++m.fs.drop i).set i c=R.take i++m.fs.drop i:=by
     rw[b];apply Og;intro R;by_cases e:i=R;·grind
     grind
    rw[f];exact g
   have b:c={q with u:=c.u,d:=q.d}:=by
    rcases k with e|e;·rw[e]
    rw[e];rfl
   rw[b];exact g.trans (zlt S g.rt r n c.u q.d)
 have:=j m.fs.length (nR _);rw[List.drop_length,Oc,Xz (by rw[h.1];exact nR _)]at this;exact this
theorem zlu{a:List Fr}(d:zcv R a):Zn a=Zn R:=by
 unfold Zn;have b:a.map (fun f=>decide (f.r=0))=R.map (fun f=>decide (f.r=0)):=by
  apply Og;intro i;rw[Oh,Oh];cases c:R[i]? with
  |none=>
   have:a[i]?=Xb:=(by rw[List.getElem?_eq_none_iff]at c⊢;rw[d.1];exact c);rw[this]
  |some q=>
   obtain⟨a,b,a⟩:=d.2 i q c;rw[b];rcases a with e|e<;>rw[e]<;>rfl
 have a:=congrArg (List.countP id) b;rw[List.countP_map,List.countP_map]at a;exact a
theorem zhL(S:Nat->Nat->Prop)(h:Rt m):JU S m (Qm m)/\Zn (Qm m).fs=Zn m.fs/\((zbe m.fs m.aB=-1/\Zn m.fs=m.fs.length)\/∃(k:Nat)(fr:Fr),zbe m.fs m.aB=(k:Int)/\(Qm m).fs[k]?=Xa fr/\fr.r≠0):=by
 have c:=h.parts.1;obtain⟨a,a,a,a⟩:=Zd c;have a:zcF m.fs m.aB=(zbA m.fs m.aB).1:=kE c;have b:zed m.fs m.aB=((zbA m.fs m.aB).2.1:Int):=kE c;have d:zcv m.fs (zcF m.fs m.aB)/\0<=zed m.fs m.aB/\zed m.fs m.aB<max (m.fs.length:Int) 1:=by
  rw[a,b];by_cases a:m.fs.length=0
  ·have:zbA m.fs m.aB=(m.fs,m.aB.toNat,-1):=by unfold zbA;rw[a];rfl
   rw[this];exact⟨zcv.refl _,by simp only;omega,by simp only;omega⟩
  obtain⟨a,b,r,e⟩:∃a b r,Zq (2*m.fs.length) m.fs m.aB.toNat=(a,b,r):=⟨_,_,_,rfl⟩;obtain⟨f,g,_⟩:=zbB _ m.fs m.fs m.aB.toNat (zcv.refl _) Wm a b r e;have:zbA m.fs m.aB=(a,b,r):=e;rw[this];have:=f.1;grind
 obtain⟨a,e,f⟩:=d;have b:=zls S h a;have d:JU S {m with fs:=zcF m.fs m.aB} (Qm m):=znq S b.rt e (by show _<max ((zcF m.fs m.aB).length:Int) 1;rw[a.1];exact f);refine⟨b.trans d,zlu a,?_⟩;rcases zlp c with⟨a,b⟩|⟨k,q,a,b,b,b,b,c⟩;·grind
 exact .inr ⟨k,frU q,a,b,by show q.r≠0;omega⟩
theorem zqx(a:zaj m<m.sl.length):m.sl[zaj m]?=Xa 0:=by have b:(m.sl[zaj m]==0)=Xc:=Om (w:=a);rw[gE a,eq_of_beq b]
theorem zmH(S:Nat->Nat->Prop)(h:Rt m)(d:m.fs[k]?=Xa fr)(c:fr.f=-1)(e:fr.r≠0):JU S m (zbU m k fr).2:=by
 unfold zbU;by_cases b:zaj m<m.sl.length
 ·rw[kE b];have a:=h.inv.bF;have a:zp m.sb.length m.sq ((zaj m:Nat):Int)=0:=by
   unfold zp;rw[kE h.inv.sq,kE (by simp[ZB];omega)]
  exact zmI S h d c e (zqx b) (JA _ _) (JW a) (zfr a).2 (fun i _ b=>zdN a b)
 grind[JU.refl]
theorem zmx(S:Nat->Nat->Prop)(h:Rt m){c:Ca}{F:Fl}(t:c∈m.ca)(hi:zso m c k fi ix fr F)(a:zbi m.fl m.cnt fr.f fr.x=0)(pg):∃b:Nat,wrM m pg fr.f fr.x=ze3 m fi ix F (b:Int) (Zc m.db m.dq) (Zi m.dq (b:Int) pg)/\JU S m (ze3 m fi ix F (b:Int) (Zc m.db m.dq) (Zi m.dq (b:Int) pg))/\qU (Zc m.db m.dq) (Zi m.dq (b:Int) pg) (b:Int)=pg/\(b:Int)<m.cnt/\(∀(i j:Nat)g,m.fl[i]?=Xa g->g.bl[j]?=Xa (b:Int)->i=fi/\j=ix):=by
 have e:=a;rw[hi.ff,hi.fx]at a;obtain⟨b,l,f,n,p,q⟩:=zr0 h hi.fl hi.bl a;obtain⟨a,a,r⟩:=QR h.inv.bM;have a:=h.inv.cnt;have a:zp m.db.length m.dq (b:Int)=0:=by
  unfold zp;rw[kE h.inv.bM,kE (by simp[ZB];omega)]
 have d:=h.inv.st;have s:wrM m pg fr.f fr.x=ze3 m fi ix F (b:Int) (Zc m.db m.dq) (Zi m.dq (b:Int) pg):=by
  unfold wrM ze3;rw[kE e,hi.ff,hi.fx,f,n,p];grind[jT,jZ]
 have f:stW (m.fl.set fi ⟨F.size,F.bl.set ix (b:Int)⟩) m.cnt=0/\(∀x,z4 (m.fl.set fi ⟨F.size,F.bl.set ix (b:Int)⟩) x=Xc↔(z4 m.fl x=Xc/\x≠-1)\/x=(b:Int)\/(x=-1/\z4 (m.fl.set fi ⟨F.size,F.bl.set ix (b:Int)⟩) x=Xc))/\(F.bl[ix]?=Xa (b:Int)\/z4 m.fl (b:Int)=Xd)/\∀(i j:Nat)g,m.fl[i]?=Xa g->g.bl[j]?=Xa (b:Int)->i=fi/\j=ix:=by
  rcases q with e|⟨e,n⟩
  ·obtain⟨p,q,u⟩:=zoh d hi.fl e
   grind
  obtain⟨p,q,u,p⟩:=zoi d hi.fl e n;grind
 obtain⟨u1,u2,u3,u4⟩:=f;refine⟨b,s,zmi S h hi.fl u1 u2 (JA _ _) (JW a) (zmw _ _ r) (fun q e=>?_) (fun i d=>zdN a d) u3 ⟨c,t,hi.file,hi.idx⟩ u4,(zfr a).2,l,u4⟩;unfold Zi at e;grind[List.mem_append.1,List.mem_of_mem_tail,Yc]
theorem zgR(h:Rt m)(a:m.fs[k]?=Xa fr)(b:fr.f≠-1):∃(i:Nat)(c:Ca)(b d:Nat)(F:Fl),m.ca[i]?=Xa c/\zso m c k b d fr F:=by
 have e:0<=fr.f:=by
  have:=h.frw a;grind[frW,inB]
 obtain⟨i,c,g,j,j,j⟩:=zeU h a e;obtain⟨j,b,d,f,F,b⟩:=zof h.w (mG g);have e:j=k:=Hm b.fr;subst e;have:=b.fa.symm.trans a;grind
theorem zn1(h:Rt m)(d:m.fs[k]?=Xa fr)(b:fr.f≠-1)(f:fr.r≠0)(l:List (Nat×Nat)):JU (fun q j=>(q,j)∈l) m (zfm m k fr l).2:=by
 obtain⟨i,c,a,a,F,c,a⟩:=zgR h d b;have x:=mG c;have b:=(gS.1 a.fl).1;have b:JC m fr.f=F.size:=by unfold JC;rw[a.ff,tN,gD,a.fl];rfl
 have g:0<=fr.f:=by rw[a.ff];omega
 unfold zfm;by_cases p:zl8 m fr≠pgL fr.p/\zhr m k fr l=Xc;·grind[JU.refl]
 rw[kF p];have e:Z8 (pgL fr.p) fr.x (JC m fr.f)=pgL fr.p\/∀(q:Nat)s(i:Nat)c(n:Nat),m.sp[q]?=Xa s->s.aC[i]?=Xa c->Qb c n=Xc->n<64->¬zj1 k fr l q s c n:=by
  by_cases b:zl8 m fr=pgL fr.p;·exact .inl b
  exact .inr fun q s i c n r t u v w=>p ⟨b,zdY.2 ⟨q,s,i,c,n,r,t,u,v,w⟩⟩
 by_cases b:fr.d=Xc\/Qr m fr.f fr.x≠zl8 m fr
 ·rw[kE b]
  by_cases c:zbi m.fl m.cnt fr.f fr.x=0
  ·rw[kE c];obtain⟨i,i,n,p,_⟩:=zmx (fun q j=>(q,j)∈l) h x a c (zl8 m fr);simp only;rw[i];refine zhc n a.fl a.bl d a.ff a.fx f ?_ e;rw[p];unfold zl8;rw[a.fx,a.ff]
  rw[kF c];by_cases a:Qr m fr.f fr.x=zl8 m fr;·rw[kE a];exact zgr h d g f a e
  grind[JU.refl]
 rw[kF b];exact zgr h d g f (Classical.byContradiction fun a=>b (.inr a)) e
theorem zlZ(h:Rt m)(a:m.fs[k]?=Xa fr)(b:fr.r≠0)(l:List (Nat×Nat)):JU (fun q j=>(q,j)∈l) m (Zy m k fr l).2:=by grind[Zy,zmH,zn1]
theorem zmy(m:Ma)(pg)(file idx:Int):(wrM m pg file idx).fs=m.fs:=(zrx _ _ _ _).1
theorem zkL(m:Ma)(k:Nat)(fr)(l:List (Nat×Nat)):((Zy m k fr l).1=Xc/\(Zy m k fr l).2.fs=m.fs.set k frF)\/((Zy m k fr l).1=Xd/\(Zy m k fr l).2=m):=by
 unfold Zy;split
 ·unfold zbU
  split;·exact .inl ⟨rfl,rfl⟩
  grind
 grind[zfm,qL,zmy]
theorem zez(l:List (Nat×Nat)):∀(n:Nat){m:Ma},Rt m->JU (fun q j=>(q,j)∈l) m (Q8 n m l).2/\Zn (Q8 n m l).2.fs=Zn m.fs+((Q8 n m l).1).toNat
 |0,m,h=>⟨JU.refl h,rfl⟩
 |n+1,m,h=>by
  obtain⟨a,d,b⟩:=zhL (fun q j=>(q,j)∈l) h
  unfold Q8;rcases b with⟨b,_⟩|⟨k,f,b,c,e⟩
  ·rw[kE Wm]
   exact⟨a,d⟩
  rw[kF Wm,b,tN,zL c];rcases zkL (Qm m) k f l with⟨b,f⟩|⟨b,f⟩;·rw[kE b];refine⟨a.trans (zlZ a.rt c e l),?_⟩;rw[b,f,zpu c e,d];rfl
  rw[kF (by rw[b];decide)];obtain⟨b,c⟩:=zez l n a.rt;exact⟨a.trans b,by rw[c,d]⟩
theorem znB(h:Rt m)(l:List (Nat×Nat)):JU (fun q j=>(q,j)∈l) m (Q7 m l).2/\Zn (Q7 m l).2.fs=Zn m.fs+((Q7 m l).1).toNat:=zez l _ h
end
def zsi(m:Ma)(q:Nat)(l:List Int):Ma:=l.foldl (fun m n=>zjJ m q n) m
def zqT(m:Ma)(q:Nat):Ma:={m with sp:=m.sp.set q ⟨Xd,[],qG⟩}
def zlX(m:Ma)(q:Nat)(s:Sp):Ma:=zqT (zsi m q (qB s.tb Qt 64)) q
def zqj(m:Ma)(p:Int)(e:Ending)(w':Xn):Prop:=
 ((∀q s,¬zaX m p q s)/\e=Xl (Xm #[Xi qA.toArray,Xe Xf 5]))\/
 ∃q s,zaX m p q s/\∃V':MaV,e=Xl (Xm #[Xi #[O V'.f.a V'.f.n V'.f.c,Xe Xf (zlX m q s).aB,O V'.s.a V'.s.n V'.s.c,O V'.sb.a V'.sb.n V'.sb.c,O V'.sq.a V'.sq.n V'.sq.c,O V'.db.a V'.db.n V'.db.c,O V'.dq.a V'.dq.n V'.dq.c,O V'.fl.a V'.fl.n V'.fl.c,Xe Xf (zlX m q s).cnt,O V'.ca.a V'.ca.n V'.ca.c,O V'.sp.a V'.sp.n V'.sp.c],Xe Xf 0])/\zK w' V' (zlX m q s)
end
section
theorem zq7(h:Rt m)(q:m.sp[k]?=Xa s)(r:b<64):zjJ m k (b:Int)=zan m k b:=by
 have D:∀s∈m.sp,Qv s.tb:=fun s q=>h.tb q;have A:=(gS.1 q).1;obtain⟨e,d⟩:=kB (ze s b);have g:Z6 m k (b:Int)=e:=by unfold Z6;rw[Sp.aJ q,Qq r,d]
 have x:m.sp.getD k ⟨Xd,[],[]⟩=s:=Sp.aJ q;unfold zjJ zan;rw[g];simp only[x,d];by_cases i:e.kind=1
 ·obtain⟨n,t,f,c,l,w⟩:=h.aO q r (Rx d i)
  rw[d]at f l;obtain⟨B,C⟩:=h.refs c;have y:=(gS.1 c).1;have a:m.fs.getD n fr0=t:=by rw[gD,c];rfl
  have p:Z4 m e (-1)={m with fs:=m.fs.set n (J6 t)}:=by
   have u:Zm m.fs m.aB e.n (-1)=0:=by
    unfold Zm;rw[kE h.parts.1,f,tN,a];grind[inB]
   grind[Z4,Jz,zlF,tN,frH,J6]
  grind[tN,Ja,J6,JO]
 rw[kF i];by_cases j:e.kind=2
 ·rw[kE j];obtain⟨n,z,f,c,l,w,_⟩:=h.bV q r (Rx d j);rw[d]at f l;obtain⟨B,C⟩:=h.slots c;have a:m.sl.getD n 0=z:=by rw[gD,c];rfl
  have p:Z4 m e (-1)={m with sl:=m.sl.set n (z-1)}:=by
   have v:atS m.sl e.n=z:=(by unfold atS;rw[f,kE Wm,tN,a]);have u:ZG m.sl e.n (-1)=0:=by
    unfold ZG;rw[kE h.parts.2,v,kF Wm,kE Wm]
   grind[Z4,Qp,tN]
  grind[tN,Ja,JO]
 grind[Z4,Ja,JO]
end
section
open Go.RowKit
def zgQ(fs:List Fr):Nat:=fs.countP fun a=>a.r==0
theorem zlM(h:R[k]?=Xa Y):zgQ (R.take (k+1))=zgQ (R.take k)+if Y.r=0 then 1 else 0:=by obtain⟨a,rfl⟩:=gS.1 h;rw[List.take_succ_eq_append_getElem a];unfold zgQ;rw[List.countP_append,Oi,List.countP_nil];simp
theorem zhP(a)(c:Nat)(fs:List Fr)(h:Int)(w)(g:zq q3 w (O a fs.length c) fs):
  Xp prog 167 #[Xi #[O a fs.length c,I6 h]] w fun e w'=>e=Xl (I6 (zgQ fs))/\zc w w':=by
 have d:=g.short;obtain⟨b,b,f,b⟩:=g.bC;cases f;have i:=dD b;clear b g;obtain⟨n,l⟩:=kA fs.length;rw[l.out]at d⊢;obtain⟨f,b⟩:=kB (w.alloc (Xk #[O a n c,I6 h] 28));have h:=gA b;have d:=dD b;clear b;go_enter func167,ntmps167;go_wp2;rw[d.out];go_loopg[3,5,9] n (fun d g _ j wr=>∃(b m:Nat),b<=n/\n-b<=d/\m<=b/\j=I6 b/\g=I6 m/\Xo (zc f wr)/\Xo (zgQ (fs.take b)=m))
 exact⟨0,0,nZ _,Wm,nR _,rfl,rfl,zc.refl _,rfl⟩;obtain⟨b,m,d,d,d,rfl,rfl,k,A⟩:=hrel;by_cases d:b<n
 ·have j:=kC d
  obtain⟨q,f⟩:∃q,Xo (fs[b]?=Xa q):=⟨_,gE (Rx l.out d)⟩;obtain⟨g,rfl,g⟩:=i.out b q f.out;obtain⟨i,i,i,i,i,i,i,i,i,i,i,i,i⟩:=g wr (h.trans k);have i:=dD<|zlM f.out;clear g;by_cases f:q.r=0
  ·have g:Xo (zgQ (fs.take (b+1))=m+1):=dD<|by rw[i.out,A.out,kE f]
   have p:(q.r==0)=Xc:=(by simp[f]);have r:=dD f;clear f;go_wp2;go_roundg (n-(b+1));exact⟨b+1,m+1,Wm,Wm,Wm,Gn,Gn,k.trans (za _ _),g⟩;omega
  have g:Xo (zgQ (fs.take (b+1))=m):=dD (by rw[i.out,A.out,kF f];rfl);have p:(q.r==0)=Xd:=by simp[f]
  go_wp2;go_roundg (n-(b+1));exact⟨b+1,m,Wm,Wm,Wm,Gn,rfl,k.trans (za _ _),g⟩;omega
 have j:=kD d;have:b=n:=Wm;subst this;have g:Xo (zgQ fs=m):=dD<|by rw[<-A.out,Xz (by rw[l.out];exact nR _)]
 go_wp2;go_ret;exact⟨Rr g.out,h.trans k⟩
def isF(a:Fr):Bool:=a.r==0
def frT(p:Pg)(fi ix:Int):Fr:=⟨p,1,Xc,Xd,fi,ix⟩
theorem zmF(q:Fr)(w:Xn):
  Xp prog 185 #[Xi (frv q).toArray] w fun e w'=>e=Xl (Xh (isF q))/\zc w w':=by show Xp prog 185 #[Xi #[U8 q.p.b0,U8 q.p.b1,U8 q.p.b2,U8 q.p.b3,U8 q.p.b4,U8 q.p.b5,U8 q.p.b6,U8 q.p.b7,I6 q.r,Xh q.u,Xh q.d,I6 q.f,I6 q.x]] w _;go_enter func185,ntmps185;go_wp2;go_ret;exact⟨rfl,(bR _ _).alloc (nR _) _⟩
def zp6(fs:List Fr):Int:=if fs.findIdx isF<fs.length then(fs.findIdx isF:Int)else-1
theorem zlU(h:R[k]?=Xa Y)(a:isF Y=Xc)(hb:∀(j:Nat)x,j<k->R[j]?=Xa x->isF x=Xd):R.findIdx isF=k:=by grind[gS.1,List.findIdx_eq,gE]
theorem zlT(hb:∀(j:Nat)x,R[j]?=Xa x->isF x=Xd):R.findIdx isF=R.length:=by grind[List.findIdx_eq_length.2,Ye]
theorem zer(v fs w)(c:zq q3 w v fs):
  Xp prog 184 #[v,.func (.func 185) #[] #[]] w fun e w'=>e=Xl (I6 (zp6 fs))/\zc w w':=by
 have b:=c.short;obtain⟨a,a,rfl,a⟩:=c.bC;have f:=dD a;have d:=enters_of func185 Kr rfl;clear a c;obtain⟨n,l⟩:=kA fs.length;rw[l.out]at b⊢;go_enter func184,ntmps184;go_wp2;go_loopg[5,8] n (fun a _ c wr=>∃b:Nat,b<=n/\n-b<=a/\c=I6 b/\Xo (zc w wr)/\Xo (∀j q,j<b->fs[j]?=Xa q->isF q=Xd))
 exact⟨0,nZ _,Wm,rfl,zc.refl w,fun j q h=>absurd h (nL _)⟩;obtain⟨b,a,a,rfl,k,A⟩:=hrel;by_cases c:b<n
 ·have i:=kC c
  obtain⟨q,p⟩:∃q,Xo (fs[b]?=Xa q):=⟨_,gE (Rx l.out c)⟩;obtain⟨a,rfl,d⟩:=f.out b q p.out;obtain⟨a,a,a,a,a,a,a,a,a,a,a,a,a⟩:=d wr k.out;have a:=zmF q wr;clear d;cases g:isF q with
  |true=>
   rw[g]at a;have m:Xo (zp6 fs=(b:Int)):=dD (by unfold zp6;rw[zlU p.out g A.out,l.out,kE c]);clear g;go_wp2_with(go_at_call 185;refine a.mono ?_;rintro e w'⟨rfl,d⟩)
   go_ret;exact⟨Rr m.out,k.trans d⟩
  |false=>
   rw[g]at a;have r:Xo (∀(j:Nat)q,j<b+1->fs[j]?=Xa q->isF q=Xd):=dD<|fun j s h f=>by
    by_cases e:j=b;·subst e;rw[p.out]at f;cases f;exact g
    exact A j s Wm f
   clear g;go_wp2_with(go_at_call 185;refine a.mono ?_;rintro e w'⟨rfl,d⟩)
   go_roundg (n-(b+1));exact⟨b+1,Wm,Wm,Gn,k.trans d,r⟩;omega
 have i:=kD c;have:b=n:=Wm;subst this;have m:Xo (zp6 fs=-1):=dD<|by
  unfold zp6;rw[zlT (fun j q h=>A.out j q (by rw[<-l.out];exact(gS.1 h).1) h),kF (Nat.lt_irrefl _)]
 go_wp2;go_ret;exact⟨Rr m.out,k⟩
theorem zr9(a)(c:Nat)(fs:List Fr)(h:Int)(p)(fi ix:Int)(w:Xn)(i:zq q3 w (O a fs.length c) fs)(l:ZR fs h=0)(g:frW (frT p fi ix)=0)(k:Nat)(m:zp6 fs=(k:Int))(s:k<fs.length):
  Xp prog 169 #[Xi #[O a fs.length c,I6 h],Xi (pgv p).toArray,I6 fi,I6 ix] w fun e w'=>∃b,e=Xl (Xm #[Xi #[b,I6 h],I6 (k:Int),I6 0])/\zb q3 w.heap.size w' b (fs.set k (frT p fi ix))/\zc w w':=by
 have d:=dD i;have j:∀W,zc w W->Xp prog 125 #[Xi #[O a fs.length c,I6 h]] W fun e w'=>e=Xl (I6 (ZR fs h))/\zc W w':=fun W f=>by rw[l];exact QQ a c fs h W (d.aA f) l
 have t:∀W,Xp prog 149 #[Xi #[U8 p.b0,U8 p.b1,U8 p.b2,U8 p.b3,U8 p.b4,U8 p.b5,U8 p.b6,U8 p.b7,I6 1,Xh Xc,Xh Xd,I6 fi,I6 ix]] W fun e w'=>e=Xl (I6 (frW (frT p fi ix)))/\zc W w':=fun W=>by rw[g];exact zbN (frT p fi ix) W g
 have q:∀W,zc w W->Xp prog 184 #[O a fs.length c,.func (.func 185) #[] #[]] W fun e w'=>e=Xl (I6 (zp6 fs))/\zc W w':=fun W f=>zer _ fs W (d.aA f);have z:∀W,zc w W->Xp prog 46 #[Xi #[O a fs.length c,I6 h]] W fun e w'=>∃b,e=Xl (Xi #[b,I6 h])/\zb q3 W.heap.size w' b fs/\zc W w':=fun W f=>JG a c fs h W (d.aA f);clear i;obtain⟨n,i⟩:=kA fs.length;simp only[i.out]at j q z d⊢;simp only[l]at j;clear l;simp only[g]at t;clear g;simp only[m]at q;clear m;rw[i.out]at s;have f:(k:Int)<(n:Int):=Wm;have f:n<=9223372036854775807:=by have:=d.short;rw[i.out]at this;exact this
 show Xp prog 169 #[Xi #[O a n c,I6 h],Xi #[U8 p.b0,U8 p.b1,U8 p.b2,U8 p.b3,U8 p.b4,U8 p.b5,U8 p.b6,U8 p.b7],I6 fi,I6 ix] w _;obtain⟨l,d⟩:=kB (((w.alloc (Xk #[O a n c,I6 h] 28)).alloc (Xk #[U8 p.b0,U8 p.b1,U8 p.b2,U8 p.b3,U8 p.b4,U8 p.b5,U8 p.b6,U8 p.b7] 44)).alloc (Xk #[eS,I6 0] 28));have g:Xo (zc w l):=dD<|by rw[<-d];exact((za _ _).trans (za _ _)).trans (za _ _)
 have m:Xo (Box l w.heap.size [O a n c,I6 h]):=dD<|by rw[<-d];exact((Box.aE w _ _ rfl).alloc _).alloc _
 have f:Xo (Box l (w.heap.size+1) [U8 p.b0,U8 p.b1,U8 p.b2,U8 p.b3,U8 p.b4,U8 p.b5,U8 p.b6,U8 p.b7]):=dD<|by rw[<-d];exact(Box.aE _ _ _ Sm).alloc _
 have G:Xo (Box l (w.heap.size+2) [eS,I6 0]):=dD<|by rw[<-d];exact Box.aE _ _ _ Sm
 have r:=dD d;clear d;go_enter func169,ntmps169;go_upto_region 1 with fail;rw[r.out];obtain⟨r,x⟩:=m.k2;go_wp2_with fail;refine(j _ g).mono ?_;rintro e y⟨rfl,u⟩;have d:=dD u;clear u r x j;have A:=(f.aA d).c 0 rfl;have B:=(f.aA d).c 1 rfl;have C:=(f.aA d).c 2 rfl;have D:=(f.aA d).c 3 rfl;have F:=(f.aA d).c 4 rfl;have H:=(f.aA d).c 5 rfl;have K:=(f.aA d).c 6 rfl;have L:=(f.aA d).c 7 rfl;go_wp2_with fail;refine(t _).mono ?_;rintro e f⟨rfl,j⟩;have u:=dD<|(Box.aE y [U8 p.b0,U8 p.b1,U8 p.b2,U8 p.b3,U8 p.b4,U8 p.b5,U8 p.b6,U8 p.b7,I6 1,Xh Xc,Xh Xd,I6 fi,I6 ix] _ rfl).aA j;have f:=dD ((d.trans (za _ _)).trans j);clear j A B C D F H K L t;have r:=(m.aA f).c 0 rfl;go_wp2_with fail;refine(q _ (g.trans f)).mono ?_;rintro e K⟨rfl,t⟩;have j:=dD (f.trans t);have d:=u.aA t;clear t r q;have q:=dD d;obtain⟨r,x⟩:=(m.aA j).k2;go_wp2_with fail;refine(z _ (g.trans j)).mono ?_;rintro e F⟨b,rfl,f,m⟩;obtain⟨t,H,rfl⟩:=f.aG (by rw[i.out];omega);rw[i.out]at f⊢;have D:=dD f;have u:=dD (j.trans m);have d:=dD (q.aA m);have y:=dD<|bS m;have A:=q.lt;clear f m r x z;have m:=d.lt;have L:=d.c 0 rfl;have M:=d.c 1 rfl;have N:=d.c 2 rfl;have P:=d.c 3 rfl;have Q:=d.c 4 rfl;have R:=d.c 5 rfl;have S:=d.c 6 rfl;have T:=d.c 7 rfl;have U:=d.c 8 rfl;have V:=d.c 9 rfl;have z:=d.c 10 rfl;have B:=d.c 11 rfl;have C:=d.c 12 rfl;have d:=D.lt t rfl;go_wp2_with(refine z3 (E:=q3) rfl (.tmp 44) (.tmp 43) rfl K.heap.size _ fs (D.aA (za _ _)) t k rfl (frT p fi ix) (Rx i.out s) _ rfl (by simp[q3]) _ rfl rfl ?_)
 intro s q f x;have r:=dD q;have d:=y.out;have d:=bS u.out;have d:=bS j.out;have d:=G.lt;have j:Xo (Box s F.heap.size [O (Xa ⟨t,0,Xb⟩) n H,I6 h]):=(Box.aE F _ _ rfl).beside f (fun y d=>by cases d;omega);have i:Xo (Box s (w.heap.size+2) [eS,I6 0]):=((G.aA u).alloc _).beside f (fun y d=>by cases d;omega);have D:Xo (zc l s):=z2 (u.trans (za _ _)) f (fun y d=>by cases d;omega);clear q f x L M N P Q R S T U V z B C A m;obtain⟨d,d⟩:=j.k2;obtain⟨d,d⟩:=i.k2;have d:=i.f;go_wp2;refine bodyPost_ret (v:=Xm #[Xi #[O (Xa ⟨t,0,Xb⟩) n H,I6 h],I6 (k:Int),I6 0]) (by simp[results,Tryz.results169,go_sem, *]) rfl ⟨_,rfl,?_,?_⟩;·exact((r.setCell (a:=⟨w.heap.size+2,0,Xb⟩) (by show w.heap.size+2<_;omega) _).setCell (a:=⟨w.heap.size+2,1,Xb⟩) (by show w.heap.size+2<_;omega) _).base (Hm (bS g.out))
 exact zB (zB (g.trans D) (by simp;omega) _) (by simp;omega) _
theorem qC.far{V':MaV}(p:qC (Dw k V) w w1)(hd:∀p,Dw k V' p->Dw k V p\/w.heap.size<=p)(a:qC (Dw k V') w1 W):qC (Dw k V) w W:=
 ⟨a.os.trans p.os,a.tape.trans p.tape,a.output.trans p.output,nT p.size a.size,fun b c d=>(a.block b (Yp c p.size) (fun e=>by grind)).trans (p.block b c d)⟩
theorem zn0(h:Rt m)(e:m.sp[k]?=Xa s)(d:p<64):(Z6 m k (p:Int)).kind=1->Zm m.fs m.aB (Z6 m k (p:Int)).n (-1)=0:=by
 have a:Z6 m k (p:Int)=ze s p:=by unfold Z6;rw[Sp.aJ e,Qq d]
 rw[a];intro j;obtain⟨q,g,f,b,l,n⟩:=h.aO e d j;obtain⟨r,t⟩:=h.refs b;have i:=(gS.1 b).1;have c:m.fs.getD q fr0=g:=by rw[gD,b];rfl
 unfold Zm;rw[kE h.parts.1,f,tN,c];grind[inB]
theorem zc7:∀(l:List (Nat×Nat))(m:Ma)(x:Nat×Nat),zi m (l++[x])=zan (zi m l) x.1 x.2
 |[],_,_=>rfl
 |y::l,m,x=>zc7 l (zan m y.1 y.2) x
theorem zpv(fs:List Fr):zgQ fs=Zn fs:=rfl
def ZH(fs:List Fr):Nat:=fs.findIdx isF
theorem zey(h:0<Zn R):zp6 R=(ZH R:Int)/\ZH R<R.length/\∃fr,R[ZH R]?=Xa fr/\fr.r=0:=by
 have a:R.findIdx isF<R.length:=by
  obtain⟨x,c,b⟩:=List.countP_pos_iff.1 h;grind[List.findIdx_lt_length_of_exists,isF]
 refine⟨kE a,a,R[R.findIdx isF],gE a,?_⟩;grind[isF,Om]
def z6(m:Ma)(l:List (Nat×Nat)):Bool×Ma:=if Zn m.fs=0 then Q7 m l else(Xc,m)
def zde(m:Ma)(x:Fr)(l:List (Nat×Nat)):Bool×Nat×Ma:=
 if(z6 (zi m l) l).1=Xc then(Xc,ZH (z6 (zi m l) l).2.fs,{(z6 (zi m l) l).2 with fs:=(z6 (zi m l) l).2.fs.set (ZH (z6 (zi m l) l).2.fs) x})else(Xd,0,(z6 (zi m l) l).2)
theorem zax(h:Rt m)(l:List (Nat×Nat)):JU (fun q j=>(q,j)∈l) m (z6 m l).2/\((z6 m l).1=Xc->0<Zn (z6 m l).2.fs)/\((z6 m l).1=Xd->Zn m.fs=0/\Zn (z6 m l).2.fs=0):=by
 unfold z6;split;·grind[znB]
 rename_i a
 exact⟨JU.refl h,fun _=>Nat.pos_of_ne_zero a,fun e=>by cases e⟩
section
variable{m:Ma}{k q n:Nat}{fr:Fr}
theorem zjo(b:ZR R z=0)(x:frW Y=0):ZR (R.set k Y) z=0:=by
 obtain⟨c,d,e,f⟩:=Zd b;have a:zcO (R.set k Y)=0:=JK.2 fun g j=>by grind
 unfold ZR;rw[Xu,kF Wm,kE a,kE];simp[inB];omega
theorem zqZ(h:frW Y=0)(b:Y.r≠0)(c:0<z)(d:z<=1000):frW {Y with r:=z}=0:=by grind[frW,inB]
theorem znf(c:ZR m.fs m.aB=0)(b:m.fs[k]?=Xa fr)(h:0<fr.r)(i:fr.r<1000)(ht:∀s∈m.sp,Qv s.tb)(p:q<m.sp.length)(l:n<64):
  Zm m.fs m.aB (k:Int) 1=0/\zhZ m q (n:Int) (k:Int)=Zs m k q n/\ZR (Zs m k q n).fs (Zs m k q n).aB=0/\(Zs m k q n).fs[k]?=Xa {fr with r:=fr.r+1}/\(∀s∈(Zs m k q n).sp,Qv s.tb)/\(Zs m k q n).sp.length=m.sp.length:=by
 have g:=(gS.1 b).1;have f:m.fs.getD k fr0=fr:=by rw[gD,b];rfl
 have d:=(Zd c).1;have j:enW ⟨1,(k:Int),Xd⟩=0:=JN ⟨by simp only;omega,by simp only;omega⟩ ⟨by simp only;omega,by simp only;omega,fun _=>by simp only;omega⟩ Sm;have e:Zm m.fs m.aB (k:Int) 1=0:=by grind[Zm,tN,inB]
 have a:Zs m k q n=QD {m with fs:=m.fs.set k {fr with r:=fr.r+1}} q n ⟨1,(k:Int),Xd⟩:=by grind[Zs,zL]
 refine⟨e,?_,?_,?_,?_,?_⟩;·grind[za6,zhZ,Z4,jN,Jz,zlF,Ja,frH]
 ·rw[a];exact zjo c (zqZ ((Zd c).2.1 fr (mG b)) Wm Wm Wm)
 ·rw[a]
  show(m.fs.set k _)[k]?=_;grind
 ·grind[za0]
 rw[a,JZ]
theorem zc3:∀(l:List (Nat×Nat))(m:Ma)(x:Nat×Nat),zz m k (l++[x])=Zs (zz m k l) k x.1 x.2
 |[],_,_=>rfl
 |y::l,m,x=>zc3 l (Zs m k y.1 y.2) x
theorem zrM(w:ZR m.fs m.aB=0)(A:m.fs[k]?=Xa fr)(K:0<fr.r)(ht:∀s∈m.sp,Qv s.tb){l:List (Nat×Nat)}(B:∀x∈l,x.2<64/\x.1<m.sp.length)(N:fr.r+l.length<=1000):∀j,j<=l.length->
  ZR (zz m k (l.take j)).fs (zz m k (l.take j)).aB=0/\(zz m k (l.take j)).fs[k]?=Xa {fr with r:=fr.r+(j:Int)}/\(∀s∈(zz m k (l.take j)).sp,Qv s.tb)/\(zz m k (l.take j)).sp.length=m.sp.length/\
  ∀x,l[j]?=Xa x->Zm (zz m k (l.take j)).fs (zz m k (l.take j)).aB (k:Int) 1=0/\zz m k (l.take (j+1))=zhZ (zz m k (l.take j)) x.1 (x.2:Int) (k:Int)/\x.1<(zz m k (l.take j)).sp.length:=by
 have a:∀(j:Nat)(M:Ma),ZR M.fs M.aB=0->M.fs[k]?=Xa {fr with r:=fr.r+(j:Int)}->(∀s∈M.sp,Qv s.tb)->M.sp.length=m.sp.length->zz m k (l.take j)=M->∀x,l[j]?=Xa x->Zm M.fs M.aB (k:Int) 1=0/\zz m k (l.take (j+1))=zhZ M x.1 (x.2:Int) (k:Int)/\x.1<M.sp.length/\ZR (zz m k (l.take (j+1))).fs (zz m k (l.take (j+1))).aB=0/\(zz m k (l.take (j+1))).fs[k]?=Xa {fr with r:=fr.r+((j+1:Nat):Int)}/\(∀s∈(zz m k (l.take (j+1))).sp,Qv s.tb)/\(zz m k (l.take (j+1))).sp.length=m.sp.length:=by
  intro j M g b h i D x c;obtain⟨y,E⟩:=B x (mG c);have z:=(gS.1 c).1;obtain⟨d,e,f,F,G,H⟩:=znf (q:=x.1) (n:=x.2) g b (by simp only;omega) (by simp only;omega) h Wm y;grind[zz,Zs,Yt,zc3]
 intro j;induction j with
 |zero=>
  intro _;have b:m.fs[k]?=Xa {fr with r:=fr.r+((0:Nat):Int)}:=by
   rw[A];have:fr.r+((0:Nat):Int)=fr.r:=Wm;rw[this]
  refine⟨w,b,ht,rfl,fun x c=>?_⟩;obtain⟨d,e,f,_⟩:=a 0 m w b ht rfl rfl x c;exact⟨d,e,f⟩
 |succ j C=>
  intro L;obtain⟨g,b,h,i,_⟩:=C Wm;obtain⟨_,_,_,p,t,u,v⟩:=a j _ g b h i rfl _ (gE Wm);refine⟨p,t,u,v,fun x c=>?_⟩;obtain⟨d,e,f,_⟩:=a (j+1) _ p t u v rfl x c;exact⟨d,e,f⟩
def ZN(m:Ma)(pg:Pg)(l:List (Nat×Nat)):Bool×Nat×Ma:=
 if(z6 (zi m l) l).1=Xc then(Xc,ZH (z6 (zi m l) l).2.fs,zbJ (z6 (zi m l) l).2 (ZH (z6 (zi m l) l).2.fs) pg Xc l)else(Xd,0,(z6 (zi m l) l).2)
def zaP(m:Ma)(pg:Pg)(file idx:Int)(l:List (Nat×Nat)):Bool×Nat×Ma:=
 if(z6 (zi m l) l).1=Xc then(Xc,ZH (z6 (zi m l) l).2.fs,zz (Zz (z6 (zi m l) l).2 (ZH (z6 (zi m l) l).2.fs) pg Xc Xd file idx) (ZH (z6 (zi m l) l).2.fs) l)else(Xd,0,(z6 (zi m l) l).2)
theorem zjD{pg:Pg}(h:(z=-1/\j=0)\/(0<=z/\z<5/\0<=j/\j<12)):frW (frT pg z j)=0:=by
 have a:(frT pg z j).r=1:=rfl;refine zia ⟨by rw[a];decide,?_,?_,(fun e=>absurd e (by rw[a];decide)),?_⟩ (by rw[a];decide)
 ·show 0<=j/\j<12
  omega
 ·show z=-1\/(0<=z/\z<5)
  omega
 show z=-1->j=0;omega
theorem zl9{m2:Ma}(h:Rt m2)(p:m2.fs[k]?=Xa fr)(pg:Pg)(y:∀x∈u,x.2<64/\x.1<m2.sp.length)(z:u≠[])(E:u.length<=900):
  (∀j,j<=u.length->(zz {m2 with fs:=m2.fs.set k (frT pg (-1) 0)} k (u.take j)).sp.length=m2.sp.length/\∀x,u[j]?=Xa x->Zm (zz {m2 with fs:=m2.fs.set k (frT pg (-1) 0)} k (u.take j)).fs (zz {m2 with fs:=m2.fs.set k (frT pg (-1) 0)} k (u.take j)).aB (k:Int) 1=0/\zz {m2 with fs:=m2.fs.set k (frT pg (-1) 0)} k (u.take (j+1))=zhZ (zz {m2 with fs:=m2.fs.set k (frT pg (-1) 0)} k (u.take j)) x.1 (x.2:Int) (k:Int)/\x.1<(zz {m2 with fs:=m2.fs.set k (frT pg (-1) 0)} k (u.take j)).sp.length)/\
  Zm (zz {m2 with fs:=m2.fs.set k (frT pg (-1) 0)} k u).fs (zz {m2 with fs:=m2.fs.set k (frT pg (-1) 0)} k u).aB (k:Int) (-1)=0/\({zz {m2 with fs:=m2.fs.set k (frT pg (-1) 0)} k u with fs:=Jz (zz {m2 with fs:=m2.fs.set k (frT pg (-1) 0)} k u).fs (zz {m2 with fs:=m2.fs.set k (frT pg (-1) 0)} k u).aB (k:Int) (-1)}:Ma)=zbJ m2 k pg Xc u:=by
 have w:=(gS.1 p).1;have l:frT pg (-1) 0=⟨pg,1,Xc,Xd,-1,0⟩:=rfl;have c:({m2 with fs:=m2.fs.set k (frT pg (-1) 0)}:Ma).fs[k]?=Xa (frT pg (-1) 0):=by grind
 have B:ZR (m2.fs.set k (frT pg (-1) 0)) m2.aB=0:=zjo h.parts.1 (zjD (.inl ⟨rfl,rfl⟩));have J:=zrM (m:={m2 with fs:=m2.fs.set k (frT pg (-1) 0)}) (l:=u) B c (show(0:Int)<1 by decide) (fun F A=>h.tb A) y (by show(1:Int)+_<=1000;omega);refine⟨fun j n=>⟨(J j n).2.2.2.1,(J j n).2.2.2.2⟩,?_⟩;obtain⟨e,a,_⟩:=J u.length (nR _);rw[List.take_length]at e a;have s:0<u.length:=List.length_pos_iff.2 z;have b:(zz {m2 with fs:=m2.fs.set k (frT pg (-1) 0)} k u).fs.getD k fr0={frT pg (-1) 0 with r:=(frT pg (-1) 0).r+(u.length:Int)}:=by rw[gD,a];rfl
 have q:=(gS.1 a).1;have g:Zm (zz {m2 with fs:=m2.fs.set k (frT pg (-1) 0)} k u).fs (zz {m2 with fs:=m2.fs.set k (frT pg (-1) 0)} k u).aB (k:Int) (-1)=0:=by
  unfold Zm;rw[kE e,tN,b];have d:({frT pg (-1) 0 with r:=(frT pg (-1) 0).r+(u.length:Int)}:Fr).r=1+(u.length:Int):=rfl;rw[d];have v:(inB (k:Int) (zz {m2 with fs:=m2.fs.set k (frT pg (-1) 0)} k u).fs.length&&!((1+(u.length:Int))==0))=Xc:=by
   simp[inB];omega
  rw[v,kE rfl,kE Wm]
 refine⟨g,?_⟩;obtain⟨C,x,D,f,_,_,_,_,t,_⟩:=za6 g;have:C=k:=Wm;subst this;rw[a]at f;cases f;rw[t];have i:=zpQ p pg Xc u;rw[<-l]at i;rw[i];unfold zbJ;have:frH {frT pg (-1) 0 with r:=(frT pg (-1) 0).r+(u.length:Int)} (-1)=⟨pg,(u.length:Int),Xc,Xd,-1,0⟩:=by
  unfold frH;have d:({frT pg (-1) 0 with r:=(frT pg (-1) 0).r+(u.length:Int)}:Fr).r=1+(u.length:Int):=rfl;rw[d,kF Wm];have:(1:Int)+(u.length:Int)+-1=(u.length:Int):=Wm;rw[this];rfl
 rw[this];simp only[List.set_set]
end
def zc9(a b:Int):Int:=if a<b then-1 else if b<a then 1 else 0
def zoG(c d:Ca):Int:=zG [zc9 c.file d.file,zc9 c.idx d.idx]
theorem zpT{c d:Ca}(a:0<=c.idx/\c.idx<100)(hd:0<=d.idx/\d.idx<100):(zoG c d<0↔zZ c<zZ d)/\(zoG c d=0↔zZ c=zZ d):=by grind[zoG,zG,zc9,zZ]
theorem zO.callF{P:Program}{f:FuncId}{xs:List Operand}{ts:Array TypeId}{fn:Func}(x args)
  (ho:o.op=.call {callee:=.value x,args:=xs.toArray,argTypes:=ts})(hx:a.eval x=.func (.func f) #[] U)(hf:P.funcs[f]?=some fn)(hb:fn.body.isNone=false)(hn:(fn.name=="runtime.NumGoroutine")=false)
  (ha:xs.map a.eval=args)(h:Xp P f (args.toArray++U) w fun e w'=>∃v,e=Xl v/\N v w'):zO P o a w N:=by
 have hr:(execOp a.eval o).run P w=.ok (.enter f (args.toArray++U)) w:=by
  simp only[execOp,ho,resolve,hx,List.map_toArray,ha,Deferred.ofValue,pure_bind,invoke];have hn':fn.name≠"runtime.NumGoroutine":=by simpa using hn
  have hb':fn.body≠Xb:=fun e=>by rw[e]at hb;cases hb
  simp[callFunc,hf,hb',hn',program,Od,Sem.run]
 unfold zO;rw[hr];exact h
def zet(ca:List Ca)(t:Ca):Bool:=ca.any fun c=>decide (zZ c=zZ t)
theorem zjk{t:Ca}:∀{ca:List Ca}{i:Nat},i<=ca.length->(∀(j:Nat)c,j<i->ca[j]?=Xa c->zZ c<zZ t)->(∀c,ca[i]?=Xa c->¬zZ c<zZ t)->zdh ca t=i
 |[],i,hi,_,_=>by
  have:i=0:=Si hi
  subst this;rfl
 |a::l,0,_,_,b=>by
  unfold zdh;rw[Yn,kF (Si (b a rfl))];rfl
 |a::l,i+1,hi,e,b=>by
  have f:=zjk (t:=t) (ca:=l) (i:=i) (Si hi) (fun j c d d=>e (j+1) c Wm (Rx Yr d)) (fun c d=>b c (Rx Yr d));unfold zdh at f⊢;rw[Yn,kE (Si (e 0 a Wm rfl)),Ym,f]
theorem zqN{ca:List Ca}{t:Ca}(f:ca.Pairwise fun a b=>zZ a<zZ b)(d:∀(j:Nat)c,j<k->ca[j]?=Xa c->zZ c<zZ t)(e:∀c,ca[k]?=Xa c->¬zZ c<zZ t):zet ca t=match ca[k]? with|some c=>decide (zZ c=zZ t)|none=>Xd:=by grind[zet,zZ,Xt,Ye,Nat.lt_trichotomy,gS.1,Yb.1,gE]
theorem zm6(a:Int)(w):Xp prog 181 #[I6 a] w fun e w'=>e=Xl (Xh Xd)/\w'=w:=by have h:(a !=a)=Xd:=Sm;go_enter func181,ntmps181;go_wp2;go_ret;first|exact⟨rfl,rfl⟩|exact⟨by rw[h],rfl⟩
theorem zeQ(a b:Int)(w):Xp prog 166 #[I6 a,I6 b] w fun e w'=>e=Xl (I6 (zc9 a b))/\w'=w:=by
 have h:=zm6 a w;have i:=zm6 b w;by_cases f:a<b
 ·have d:Xo (zc9 a b=-1):=dD<|by unfold zc9;rw[kE f]
  have g:decide (a<b)=Xc:=decide_eq_true f;go_enter func166,ntmps166;go_wp2_with fail;refine h.mono ?_;rintro e W⟨rfl,c⟩;rw[c];go_wp2_with fail;refine i.mono ?_;rintro e W⟨rfl,c⟩;rw[c];go_wp2;go_ret;exact⟨Rr d.out,rfl⟩
 have g:decide (a<b)=Xd:=decide_eq_false f;by_cases g:b<a
 ·have d:Xo (zc9 a b=1):=dD<|by unfold zc9;rw[kF f,kE g]
  have j:decide (b<a)=Xc:=decide_eq_true g;go_enter func166,ntmps166;go_wp2_with fail;refine h.mono ?_;rintro e W⟨rfl,c⟩;rw[c];go_wp2_with fail;refine i.mono ?_;rintro e W⟨rfl,c⟩;rw[c];go_wp2;go_ret;exact⟨Rr d.out,rfl⟩
 have d:Xo (zc9 a b=0):=dD<|by unfold zc9;rw[kF f,kF g]
 have j:decide (b<a)=Xd:=decide_eq_false g;go_enter func166,ntmps166;go_wp2_with fail;refine h.mono ?_;rintro e W⟨rfl,c⟩;rw[c];go_wp2_with fail;refine i.mono ?_;rintro e W⟨rfl,c⟩;rw[c];go_wp2;go_ret;exact⟨Rr d.out,rfl⟩
theorem zmZ(v l w)(s:zq blE w v l):
  Xp prog 165 #[v] w fun e w'=>e=Xl (I6 (zG l))/\w'=w:=by
 have g:=s.short;obtain⟨G,H,rfl,b⟩:=s.aX;have z:=dD b;clear b s;obtain⟨n,m⟩:=kA l.length;rw[m.out]at g⊢;obtain⟨F,k⟩:=kA (zG l);rw[k.out];go_enter func165,ntmps165;go_wp2;go_loopg[5,8] n (fun B _ E wr=>∃a:Nat,a<=n/\n-a<=B/\E=I6 a/\wr=w/\Xo (∀(j:Nat)x,j<a->l[j]?=Xa x->x=0))
 exact⟨0,nZ _,Wm,rfl,rfl,fun j x t=>absurd t (nL _)⟩;obtain⟨a,D,C,rfl,rfl,A⟩:=hrel;by_cases c:a<n
 ·have h:=kC c
  obtain⟨q,p⟩:∃q,Xo (l[a]?=Xa q):=⟨_,gE (Rx m.out c)⟩;obtain⟨x,rfl,u⟩:=z.out a q p.out;have K:=u wr (zc.refl _);clear u;by_cases d:q=0
  ·have r:(q !=0)=Xd:=by simp[d]
   have y:Xo (∀(j:Nat)x,j<a+1->l[j]?=Xa x->x=0):=dD<|fun j x t f=>by
    by_cases e:j=a;·subst e;rw[p.out]at f;cases f;exact d
    exact A j x Wm f
   clear d;go_wp2;go_roundg (n-(a+1));exact⟨a+1,Wm,Wm,Gn,rfl,y⟩;omega
  have r:(q !=0)=Xc:=by simp[d]
  have i:Xo (F=q):=dD (by rw[<-k.out];exact zeC A p d);clear d;go_wp2;go_ret;exact⟨Rr i.out,rfl⟩
 have h:=kD c;have:a=n:=Wm;subst this;have i:Xo (F=0):=dD<|by
  rw[<-k.out];exact zeD fun j x f=>A.out j x (by rw[<-m.out];exact(gS.1 f).1) f
 go_wp2;go_ret;exact⟨Rr i.out,rfl⟩
theorem zll(c d:Ca)(w):Xp prog 164 #[Xi #[I6 c.file,I6 c.idx,I6 c.fr],Xi #[I6 d.file,I6 d.idx,I6 d.fr]] w fun e w'=>e=Xl (I6 (zoG c d))/\zc w w':=by
 obtain⟨E,a⟩:=kA (zoG c d);have j:Xo (zG [zc9 c.file d.file,zc9 c.idx d.idx]=E):=a.out;rw[a.out];obtain⟨b,f,i⟩:=c;obtain⟨g,h,l⟩:=d;simp only at j⊢;obtain⟨k,a⟩:=kB ((w.alloc (Xk #[I6 b,I6 f,I6 i] 108)).alloc (Xk #[I6 g,I6 h,I6 l] 108));have n:=gD2 a;have l:=x2a a;have m:=x2b a;have i:Xo (_=k):=a;clear a;go_enter func164,ntmps164;go_upto_region 1 with fail;rw[i.out];have q:=l.gw 0 rfl;have r:=l.gw 1 rfl;have s:=m.gw 0 rfl;have t:=m.gw 1 rfl;have p:Nonempty (zj k):=⟨⟨_,zc.refl _⟩⟩;refine jK [(4,⟨fun a=>a=I6 (zc9 b g),fun a w'=>True⟩),(9,⟨fun a=>a=I6 (zc9 f h),fun a w'=>True⟩),(10,⟨fun a=>∃i,a=O (Xa ⟨i,0,Xb⟩) 2 2,fun a w'=>zq blE w' a [zc9 b g,zc9 f h]⟩),(11,⟨fun a=>a=I6 E,fun a w'=>True⟩)] zY Kr (Sd ⟨_,rfl⟩ ⟨_,rfl⟩ ⟨_,0,rfl⟩ ⟨_,rfl⟩) ?hp ?_;case hp=>
  intro x a;simp only[mC,nM,or_false]at a;rcases a with rfl|rfl|rfl|rfl;·exact fun _ _ _ _ a=>a
  ·exact fun _ _ _ _ a=>a
  ·exact fun _ _ _ k a=>zq.aA a k
  exact fun _ _ _ _ a=>a
 iterate 4 refine zf ?_
 refine zI rfl rfl (fun w' k i=>?_) (fun u a=>?_);·refine zO.call [I6 b,I6 g] rfl func166 rfl rfl rfl ?_;refine(zeQ b g w').mono ?_;rintro e m⟨rfl,rfl⟩;exact⟨_,rfl,zc.refl _,rfl,trivial⟩
 subst a;refine Uq ?_;iterate 4 refine zf ?_
 refine zI rfl rfl (fun w' k i=>?_) (fun u a=>?_);·refine zO.call [I6 f,I6 h] rfl func166 rfl rfl rfl ?_;refine(zeQ f h w').mono ?_;rintro e m⟨rfl,rfl⟩;exact⟨_,rfl,zc.refl _,rfl,trivial⟩
 subst a;refine Uq ?_;refine zI rfl rfl (fun w' k i=>?_) (fun u a=>?_)
 ·have l:zq blE (w'.alloc (Xk #[I6 (zc9 b g),I6 (zc9 f h)] 3)) (O (Xa ⟨w'.heap.size,0,Xb⟩) 2 2) [zc9 b g,zc9 f h]:=zcB blE w' [zc9 b g,zc9 f h] _ rfl (show 2*8<=140737488355328 by decide)
  refine zO.step (v:=O (Xa ⟨w'.heap.size,0,Xb⟩) 2 2) (w':=w'.alloc (Xk #[I6 (zc9 b g),I6 (zc9 f h)] 3)) (by simp only[execOp];go_simp) ⟨za _ _,⟨_,rfl⟩,l⟩
 obtain⟨l,rfl⟩:=a;refine Uq ?_;refine zI rfl rfl (fun w' k i=>?_) (fun u a=>?_)
 ·have k:zq blE w' (O (Xa ⟨l,0,Xb⟩) 2 2) [zc9 b g,zc9 f h]:=i 10 Kr
  refine zO.call [O (Xa ⟨l,0,Xb⟩) 2 2] rfl func165 rfl rfl rfl ?_;refine(zmZ _ _ w' k).mono ?_;rintro e m⟨rfl,rfl⟩;exact⟨_,rfl,zc.refl _,by rw[j.out],trivial⟩
 subst a;refine Uq ?_;refine zf ?_;refine z5 fun a a i=>?_;have b:=dD (n.trans a);clear a i q r s t p;go_wp2;go_ret;exact⟨rfl,b⟩
theorem zjV(v)(ca:List Ca)(t:Ca)(w)(a3:zq jF w v ca)(g:ca.Pairwise fun a b=>zZ a<zZ b)(hi:∀c∈ca,0<=c.idx/\c.idx<100)(ht:0<=t.idx/\t.idx<100)(d:ca.length<=1000):
  Xp prog 163 #[v,Xi #[I6 t.file,I6 t.idx,I6 t.fr],.func (.func 164) #[] #[]] w fun e w'=>e=Xl (Xm #[I6 (zdh ca t:Int),Xh (zet ca t)])/\zc w w':=by
 obtain⟨a,c,rfl,f⟩:=a3.cas;have an:=dD f;have l:=dD g;have ae:Xo (∀c∈ca,(zoG c t<0↔zZ c<zZ t)/\(zoG c t=0↔zZ c=zZ t)):=dD<|fun c p=>zpT (hi c p) ht;have h:=enters_of func164 Kr rfl;obtain⟨U,X⟩:=kA ca.length;rw[X.out]at d⊢;obtain⟨P,k⟩:=kA (zdh ca t);obtain⟨ac,h⟩:=kA (zet ca t);rw[k.out,h.out];have a5:Xo (∀(i j:Nat)x y,ca[i]?=Xa x->ca[j]?=Xa y->i<=j->zZ x<=zZ y):=dD<|fun i j x y K n d=>by
  obtain⟨m,q⟩:=gS.1 K;obtain⟨r,s⟩:=gS.1 n;rcases Nat.lt_or_eq_of_le d with F|F;·have:=Yb.1 g i j m r F;rw[q,s]at this;omega
  subst F;rw[K]at n;cases n;exact Int.le_refl _
 obtain⟨A,B,C⟩:=t;obtain⟨m,d⟩:=kA (zZ ⟨A,B,C⟩);have a8:∀(x:Ca)(W:Xn),Xp prog 164 #[Xi #[I6 x.file,I6 x.idx,I6 x.fr],Xi #[I6 A,I6 B,I6 C]] W fun e w'=>e=Xl (I6 (zoG x ⟨A,B,C⟩))/\zc W w':=fun x W=>zll x ⟨A,B,C⟩ W;rw[d.out]at ae;have a4:Xo (∀i,i<=U->(∀(j:Nat)x,j<i->ca[j]?=Xa x->zZ x<m)->(∀(j:Nat)x,i<=j->ca[j]?=Xa x->m<=zZ x)->P=i/\ac=match ca[i]? with|some x=>decide (zZ x=m)|none=>Xd):=dD<|fun i K n F=>by
  rw[<-k.out,<-h.out,<-d.out];rw[<-d.out]at n F;exact⟨zjk (Rx X.out K) n (fun x d=>Hm (F i x (nR _) d)),zqN l n (fun x d=>Hm (F i x (nR _) d))⟩
 clear a3 g hi ht f;simp only;obtain⟨b,h⟩:=kA w.heap.size;obtain⟨f,f⟩:=kB (w.alloc (Xk #[I6 A,I6 B,I6 C] 108));have i:=gA f;have k:=xP f h;have g:=dD f;clear f;go_enter func163,ntmps163;go_upto_region 1 with fail;rw[g.out,h.out];go_wp2;go_loopg[9,10] U (fun g l f wr=>∃h hi:Nat,l=I6 h/\f=I6 hi/\h<=hi/\hi<=U/\hi-h<=g/\Xo (zc w wr)/\Xo (Box wr b [I6 A,I6 B,I6 C])/\Xo ((∀(j:Nat)x,j<h->ca[j]?=Xa x->zZ x<m)/\(∀(j:Nat)x,hi<=j->ca[j]?=Xa x->m<=zZ x)))
 exact⟨0,U,rfl,rfl,nZ _,nR _,Wm,i,k,⟨fun j x ai=>absurd ai (nL _),fun j x K n=>by have:=(gS.1 n).1;have:=X.out;omega⟩⟩;obtain⟨h,hi,rfl,rfl,f,a9,aq,G,E,ab⟩:=hrel;obtain⟨ak,al,am⟩:=E.c3;by_cases f:h<hi
 ·obtain⟨r,D⟩:∃r,Xo (ca[(h+hi)/2]?=Xa r):=⟨_,gE (Hm X.out)⟩
  obtain⟨l,rfl,M⟩:=an.out _ r D.out;obtain⟨Y,I,a0⟩:=M wr G.out;have p:=a8 r;have g:(h+hi)/2<U:=Wm;obtain⟨s,u,z⟩:=r;simp only at p Y I a0;obtain⟨Z,a6⟩:=kA (zoG ⟨s,u,z⟩ ⟨A,B,C⟩);rw[a6.out]at p;have a7:Xo (Z<0↔zZ ⟨s,u,z⟩<m):=dD (by rw[<-a6.out];exact(ae _ (mG D)).1);obtain⟨i,f⟩:=kA ((h+hi)/2);rw[f.out]at Y I a0 g D;have g:Xo (∀W,zc wr W->zoB W (l.add (i*3)) ⟨s,u,z⟩):=dD<|fun W ah=>by have:=M W (G.trans ah);rw[f.out]at this;exact this
  clear M Y I a0 ak al am;go_upto_region 5 with fail;rw[show((h:Int)+(hi:Int))/2=(i:Int) by have:=f.out;omega];have k:(i:Int)<(U:Int):=Wm;have R:=fun y:zj wr=>(g _ y.aA).1;have S:=fun y:zj wr=>(g _ y.aA).2.1;have T:=fun y:zj wr=>(g _ y.aA).2.2;have N:=E.gw 0 rfl;have P:=E.gw 1 rfl;have Q:=E.gw 2 rfl;have q:Nonempty (zj wr):=⟨⟨_,zc.refl _⟩⟩;refine jK [(6,⟨fun v=>v=I6 Z,fun v w'=>True⟩)] zY Kr (Sa ⟨_,rfl⟩) ?hp ?_;case hp=>
   intro x d;simp only[mC,nM,or_false]at d;subst d;exact fun _ _ _ _ ag=>ag
  iterate 6 refine zf ?_
  refine zI rfl rfl (fun w' aq L=>?_) (fun ar a3=>?_);·refine zO.callF (.tmp 24) [Xi #[I6 s,I6 u,I6 z],Xi #[I6 A,I6 B,I6 C]] rfl rfl func164 rfl rfl rfl ?_;refine(p w').mono ?_;rintro e aj⟨rfl,k⟩;exact⟨_,rfl,k,rfl,trivial⟩
  subst a3;refine Uq ?_;refine zf ?_;refine z5 fun ao k L=>?_;have V:=dD (G.trans k);have ap:=dD (E.aA k);clear k p L R S T N P Q q;by_cases aa:Z<0
  ·have H:=dD aa;go_wp2;go_roundg (hi-(i+1))
   case measure=>have:=f.out;omega
   have af:Xo ((∀(j:Nat)x,j<i+1->ca[j]?=Xa x->zZ x<m)/\(∀(j:Nat)x,hi<=j->ca[j]?=Xa x->m<=zZ x)):=dD<|⟨fun j x ai d=>by
    have K:=a5.out j _ x _ d D Wm;have n:=a7.1 H.out
    omega,ab.2⟩
   exact⟨i+1,hi,Gn,rfl,Hm f.out,a9,nR _,V,ap,af⟩
  have H:=dD aa;go_wp2;go_roundg (i-h)
  case measure=>have:=f.out;omega
  have af:Xo ((∀(j:Nat)x,j<h->ca[j]?=Xa x->zZ x<m)/\(∀(j:Nat)x,i<=j->ca[j]?=Xa x->m<=zZ x)):=dD<|⟨ab.1,fun j x ai d=>by
   have K:=a5.out _ j _ x D d Wm;have n:¬zZ ⟨s,u,z⟩<m:=fun e=>by have F:=a7.2 e;have j:=H.out;omega
   omega⟩
  exact⟨h,i,rfl,Gn,Hm f.out,Hm f.out,nR _,V,ap,af⟩
 obtain rfl:hi=h:=Wm;obtain⟨h,f⟩:=a4.out hi a9 ab.1 ab.2;have j:=dD h;clear h;by_cases m:hi<U
 ·obtain⟨r,D⟩:∃r,Xo (ca[hi]?=Xa r):=⟨_,gE (Hm X.out)⟩
  obtain⟨l,rfl,M⟩:=an.out _ r D.out;obtain⟨Y,I,a0⟩:=M wr G.out;rw[D.out]at f;have p:=a8 r;obtain⟨s,u,z⟩:=r;simp only at p Y I a0 f;obtain⟨Z,a6⟩:=kA (zoG ⟨s,u,z⟩ ⟨A,B,C⟩);rw[a6.out]at p;have i:Xo (ac=(Z==0)):=dD<|by
   rw[f];have:=(ae _ (mG D)).2;rw[a6.out]at this;by_cases h:Z=0;·rw[decide_eq_true (this.1 h),h];rfl
   rw[decide_eq_false (fun e=>h (this.2 e))];simp[h]
  have h:=kC m;have g:=dD<|fun W(ah:zc wr W)=>M W (G.trans ah);clear M f Y I a0 ak al am;go_upto_region 8 with fail;have R:=fun y:zj wr=>(g _ y.aA).1;have S:=fun y:zj wr=>(g _ y.aA).2.1;have T:=fun y:zj wr=>(g _ y.aA).2.2;have N:=E.gw 0 rfl;have P:=E.gw 1 rfl;have Q:=E.gw 2 rfl;have q:Nonempty (zj wr):=⟨⟨_,zc.refl _⟩⟩;refine jK [(11,⟨fun v=>v=I6 Z,fun v w'=>True⟩)] zY Kr (Sa ⟨_,rfl⟩) ?hp ?_;case hp=>
   intro x d;simp only[mC,nM,or_false]at d;subst d;exact fun _ _ _ _ ag=>ag
  iterate 11 refine zf ?_
  refine zI rfl rfl (fun w' aq L=>?_) (fun ar a3=>?_);·refine zO.callF (.tmp 40) [Xi #[I6 s,I6 u,I6 z],Xi #[I6 A,I6 B,I6 C]] rfl rfl func164 rfl rfl rfl ?_;refine(p w').mono ?_;rintro e aj⟨rfl,k⟩;exact⟨_,rfl,k,rfl,trivial⟩
  subst a3;refine Uq ?_;iterate 4 refine zf ?_
  refine z5 fun ao k L=>?_;have V:=dD (G.trans k);clear k p L R S T N P Q q;go_wp2;go_ret2;exact⟨by rw[j.out,i.out];rfl,V⟩
 have h:=kD m;have i:Xo (ac=Xd):=dD<|by
  rw[f,gN (Hm X.out)]
 clear f ak al am;go_upto_region 8 with fail;have q:Nonempty (zj wr):=⟨⟨_,zc.refl _⟩⟩;refine jK [] zY Kr Sm Sm ?_;iterate 5 refine zf ?_
 iterate 8 (refine Zu Kr ?_;simp only[Yd,sB,sS,sZ])
 iterate 3 refine zf ?_
 refine z5 fun ao k L=>?_;have V:=dD (G.trans k);clear k L q;go_wp2;go_ret2;exact⟨by rw[j.out,i.out];rfl,V⟩
theorem zbI(h:ChW w0 k w V m)(g:m.ca.Pairwise fun a b=>zZ a<zZ b)(hi:∀c∈m.ca,0<=c.idx/\c.idx<100)(d:m.ca.length<=1000)(file idx:Int)(ht:0<=idx/\idx<100):
  Xp prog 139 #[Xj (Xa ⟨k,0,Xb⟩),I6 file,I6 idx] w fun e w'=>e=Xl (Xm #[I6 (zdh m.ca ⟨file,idx,0⟩:Int),Xh (zet m.ca ⟨file,idx,0⟩)])/\zc w w':=by have f:=zjV _ m.ca ⟨file,idx,0⟩ w h.at.ca g hi ht d;simp only at f;have i:=h.box.box.c 9 rfl;obtain⟨P,j⟩:=kA (zdh m.ca ⟨file,idx,0⟩);obtain⟨H,i⟩:=kA (zet m.ca ⟨file,idx,0⟩);rw[j.out,i.out]at f⊢;clear h g hi d ht;go_enter func139,ntmps139;go_wp2_with fail;refine f.mono ?_;clear f;rintro e d⟨rfl,d⟩;have f:=dD d;clear d;go_wp2;go_ret2;exact⟨rfl,f⟩
theorem zb.block{n cap:Nat}(h:zb E k w (O (Xa ⟨p,0,Xb⟩) n cap) y):
  n=y.length/\k<=p/\y.length<=cap/\cap<=maxLen/\∃cur,w.heap[p]?=Xa (Xk cur E.ty (0,0))/\cur.size=cap*E.k/\cur.toList.take (y.length*E.k)=y.flatMap E.enc:=by
 rcases h.1.2 with⟨b,_⟩|⟨a,a,cur,b,a,a,a,a,a,a⟩;·cases b
 grind
theorem zb.mk'{base:Nat}{g cap:Nat}{l:List α}{cur:Array Xq}(hb:base<=g)(b:w.heap[g]?=Xa (Xk cur E.ty (0,0)))(d:l.length<=cap)(c:cap<=maxLen)(e:cur.size=cap*E.k)(ht:cur.toList.take (l.length*E.k)=l.flatMap E.enc)
  (a:l.length*E.bytes<=140737488355328):zb E base w (O (Xa ⟨g,0,Xb⟩) l.length cap) l:=
 ⟨⟨qF E l,.inr ⟨g,cap,cur,rfl,hb,b,d,c,e,ht⟩⟩,a⟩
theorem zdd(h:o.guard=Xb)(s x)(C:o.op=.call {callee:=.builtin .append,args:=#[s,x],argTypes:=#[E.st,E.st]})
  (base g cap n:Nat)(l:List α)(f:zb E base w (O (Xa ⟨g,0,Xb⟩) n cap) l)(i:Nat)(hi:i<=l.length)(D:a.eval s=O (Xa ⟨g,0,Xb⟩) i cap)(ad:Addr)(l2:List α)(b t:Nat)(G:a.eval x=O (Xa ad) b t)(k:b=l2.length)
  (e:∀j u,(l2.flatMap E.enc)[j]?=Xa u->w.cell? (ad.add j)=Xa u)(c:i+l2.length<=cap)(d:(i+l2.length)*E.bytes<=140737488355328)
  (y:∀w',zb E base w' (O (Xa ⟨g,0,Xb⟩) (i+b) cap) (l.take i++l2)->w.grownBy w' (Xa g)->w'.heap.size=w.heap.size->wpList prog ops Q K (a.put o.dst (O (Xa ⟨g,0,Xb⟩) (i+b) cap)) w'):wpList prog ops Q (o::K) a w:=by
 subst k;refine wpList_plain h fun rest z=>?_;obtain⟨b,A,r,B,b,v,p,F⟩:=f.block;obtain⟨H,m,f,k,f⟩:=info_parts E.aF;have q:=qF E l2;have f:(i+l2.length)*E.k<=cap*E.k:=Xx _ c;rw[Yz]at f;have h:=run_append_room (P:=prog) w E.st o.type E.ty H E.bL m g i cap b v ad l2.length t (l2.flatMap E.enc) (Rx k q) e (qW E.one l2) c (by rw[q,k,p];exact f);rw[k]at h;unfold Oper.wp execOp;simp only[C,resolve,invoke,builtin,Od,Ov,rA,Oj,mP,Yw,D,G,h];have hlen:(l.take i++l2).length=i+l2.length:=by rw[lA,Xs];omega
 have f:b.toList.length=cap*E.k:=Si p;have e:i*E.k<=l.length*E.k:=Xx _ hi;have h:l.length*E.k<=cap*E.k:=Xx _ r;have k:b.toList.take (i*E.k)=(l.take i).flatMap E.enc:=by
  have h:(b.toList.take (l.length*E.k)).take (i*E.k)=b.toList.take (i*E.k):=by rw[Oe,Ya e]
  rw[<-h,F];conv=>lhs;rw[<-Yg i l,Xv]
  exact Yh (by rw[qF,Xs,Ya hi])
 have h:(b.toList.take (i*E.k)).length=i*E.k:=by rw[Xs,f];omega
 have e:=zb.mk' (E:=E) (base:=base) (w:=w.setRow g (b.toList.take (i*E.k)++l2.flatMap E.enc++b.toList.drop (i*E.k+(l2.flatMap E.enc).length)).toArray) (g:=g) (cap:=cap) (l:=l.take i++l2) A (setRow_heap w g b _ E.ty _ v) (by rw[hlen];exact c) B (by
  simp only[Yx,lA,h,q,Xy,f]
  omega) (by
  rw[hlen,Xv,<-k,Yz];have:(b.toList.take (i*E.k)++l2.flatMap E.enc).length=i*E.k+l2.length*E.k:=by rw[lA,h,q]
  simp only;rw[Yh this]) (by rw[hlen];exact d)
 rw[hlen]at e;exact z _ _ (y _ e (ZQ _ _ _) (by simp[World.setRow]))
theorem zg8(n:Nat):∀u∈(Builtin.zeroCells #[I6 0,I6 0,I6 0] n).toList,u.oneCell'=Xc:=fun u a=>by
 simp only[Builtin.zeroCells,Array.toList_map,List.mem_map,Array.toList_range,Yu]at a;obtain⟨i,_,rfl⟩:=a;have a:i%3<3:=Yo _ Dc;show(#[I6 0,I6 0,I6 0]:Array Xq)[i%3]!.oneCell'=Xc;generalize i%3=k at a
 match k,a with
 |0,_=>rfl
 |1,_=>rfl
 |2,_=>rfl
theorem zdQ(b:o.guard=Xb)(x)(z:o.op=.call {callee:=.builtin .clear,args:=#[x],argTypes:=#[38]})
  (base g cap n:Nat)(l:List Ca)(c:zb jF base w (O (Xa ⟨g,0,Xb⟩) n cap) l)(k p:Nat)(A:a.eval x=O (Xa ⟨g,l.length*3,Xb⟩) (k+1) p)(d:l.length+(k+1)<=cap)
  (s:∀w',zb jF base w' (O (Xa ⟨g,0,Xb⟩) n cap) l->w.grownBy w' (Xa g)->w'.heap.size=w.heap.size->wpList prog ops Q K (a.put o.dst (Xm #[])) w'):wpList prog ops Q (o::K) a w:=by
 refine wpList_plain b fun rest t=>?_;obtain⟨y,u,m,v,b,q,e,r⟩:=c.block;have d:jF.k=3:=rfl;rw[d]at e r;obtain⟨Z,j⟩:=kB ((Builtin.zeroCells #[I6 0,I6 0,I6 0] (k+1)).toList);have i:Z.length=(k+1)*3:=by
  rw[<-j,Array.length_toList,size_zeroCells];rfl
 have f:∀h∈Z,h.oneCell'=Xc:=by rw[<-j];exact zg8 _
 have h:=run_storeCells_at prog g (l.length*3) 108 Z 0 b w q (by rw[i,e];omega) f;simp only[Ys]at h;have f:(Builtin.clear_ #[38] o.type #[O (Xa ⟨g,l.length*3,Xb⟩) (k+1) p]).run prog w=.ok (Xm #[]) (w.setRow g (b.toList.take (l.length*3)++Z++b.toList.drop (l.length*3+Z.length)).toArray):=by
  simp only[Builtin.clear_];simp[run_underlying underlying38,Tryz.zeroValue108,Value.cells,j,h]
 unfold Oper.wp execOp;simp only[z,resolve,invoke,builtin,Od,Ov,rA,Oj,mP,Yw,A,f];subst y;have f:b.toList.length=cap*3:=Si e;refine t _ _ (s _ (zb.mk' u (setRow_heap w g b _ 108 _ q) m v ?_ ?_ c.2) (ZQ _ _ _) (by simp[World.setRow]));·rw[d];simp only[Yx,lA,Xs,Xy,i,f];omega
 rw[d,Yv,Yh (by rw[Xs,f];omega)];exact r
theorem zlY(l:List α)(i:Nat):l.take i++l.drop (i+1)=l.eraseIdx i:=(List.eraseIdx_eq_take_drop_succ ..).symm
theorem zil(base g cap i:Nat)(l:List Ca)(w:Xn)(a:zb jF base w (O (Xa ⟨g,0,Xb⟩) l.length cap) l)(hi:i<l.length)(b:l.length<=1000):
  Xp prog 205 #[O (Xa ⟨g,0,Xb⟩) l.length cap,I6 i,I6 ((i:Int)+1)] w fun e w'=>e=Xl (O (Xa ⟨g,0,Xb⟩) (l.length-1) cap)/\zb jF base w' (O (Xa ⟨g,0,Xb⟩) (l.length-1) cap) (l.eraseIdx i)/\w.grownBy w' (Xa g):=by
 obtain⟨_,_,d,c,_⟩:=a.block;have f:cap<=9223372036854775807:=by simpa[maxLen]using c
 have j:=dD a;have f:=dD<|zlY l i;have a:Xo ((l.drop (i+1)).length=l.length-(i+1)):=show _=_ from Xy;obtain⟨n,c⟩:=kA l.length;rw[c.out]at d hi b j a⊢;obtain⟨q,b⟩:∃q,Xo (n=q+1):=⟨n-1,show _=_ by omega⟩;have d:(i:Int)+1<=(n:Int):=Wm;have d:(n:Int)<=(cap:Int):=Wm;have d:¬((i:Int)=(i:Int)+1):=Wm;have h:((i:Int)==(i:Int)+1)=Xd:=Si d;have d:(i:Int)<=(i:Int)+1:=Wm;have d:(i:Int)<=(cap:Int):=Wm;have d:((i:Int)+1).toNat=i+1:=Wm;go_enter func205,ntmps205;go_upto_region 5 with fail;have d:Nonempty (zj w):=⟨⟨_,zc.refl _⟩⟩;refine jO 6 [] zY Kr rfl rfl Dc Sm Sm ?_;simp only[Yk,Yl];iterate 6 refine zf ?_
 refine z5 fun w' p _=>?_;obtain⟨k,d,m⟩:∃k:Addr,(if cap=i+1 then Xa (⟨g,0,Xb⟩:Addr)else Xa ⟨g,(i+1)*3,Xb⟩)=Xa k/\Xo (¬cap=i+1->k=⟨g,(i+1)*3,Xb⟩):=by
  by_cases e:cap=i+1;·exact⟨_,kE e,show _->_ from fun h=>absurd e h⟩
  exact⟨_,kF e,show _->_ from fun _=>rfl⟩
 rw[d];have h:=dD (j.aA p);have r:=dD p;have p:Xo (∀j u,((l.drop (i+1)).flatMap jF.enc)[j]?=Xa u->w'.cell? (k.add j)=Xa u):=show∀j u,_ from fun j u d=>by
  by_cases e:cap=i+1
  ·rw[Ol (Hm c.out)]at d
   cases d
  rw[m.out e,Xw];have m:(l.flatMap jF.enc)[(i+1)*3+j]?=Xa u:=by
   conv=>lhs;rw[<-Yg (i+1) l,Xv]
   rw[aR (by rw[qF,Xs];show _*3<=_;have:=c.out;omega),qF,Xs,show min (i+1) l.length=i+1 by have:=c.out;omega];show((l.drop (i+1)).flatMap jF.enc)[(i+1)*3+j-(i+1)*3]?=_;rw[Ok];exact d
  have:=h.1.cells rfl _ u m;rw[Xw,zA]at this;exact this
 have d:i+(n-(i+1))=q:=Hm b.out;have j:Xo (i+(l.drop (i+1)).length<=cap/\(i+(l.drop (i+1)).length)*24<=140737488355328):=dD<|by rw[a.out];omega
 have d:Xo ((l.eraseIdx i).length=q):=dD<|by rw[<-f.out,lA,a.out,Xs];have:=c.out;have:=b.out;omega
 go_wp2_with(refine zdd (E:=jF) rfl (.tmp 22) (.tmp 25) rfl base g cap n l h i (Hm c.out) rfl k (l.drop (i+1)) (n-(i+1)) (cap-(i+1)) rfl a.symm p j.1 j.2 ?_)
 intro a a c _;rw[f.out]at a;have h:=dD a;have f:=dD c;have a:¬cap=q:=Hm b.out;have a:(q:Int)<=(n:Int):=Hm b.out;have a:n-q=0+1:=Hm b.out;try simp only[Yd,sB,sS,sZ]
 go_wp2_with(refine zdQ rfl (.tmp 31) rfl base g cap q (l.eraseIdx i) h 0 (cap-q) (Rr d.out) (by rw[d.out];have:=b.out;omega) ?_)
 intro a c a _;have d:=dD c;have c:=dD<|zbG r (Za f a);have a:Xo (n-1=q):=dD<|Hm b.out;go_wp2;go_ret;exact⟨Rr a.out,Rx a.out d,c⟩
theorem Rt.cache(h:Rt m):(m.ca.Pairwise fun a b=>zZ a<zZ b)/\(∀c∈m.ca,0<=c.idx/\c.idx<100)/\m.ca.length<=1000:=by
 obtain⟨d,d,g⟩:=zo.1 h.inv.ca;have d:∀c∈m.ca,0<=c.idx/\c.idx<100/\0<=zZ c/\zZ c<1000:=fun c e=>by
  obtain⟨k,f,f,f,F,f⟩:=zof h.w e;have i:=(gS.1 f.fl).1;have i:=((qJ _ _).1 h.inv.st).1;have h:=f.idx;have h:=f.file;have h:=f.lo;unfold zZ;omega
 refine⟨g,fun c e=>⟨(d c e).1,(d c e).2.1⟩,?_⟩;have:=zfx (m.ca.map zZ) 0 1000 (by rw[List.pairwise_map];exact g) (fun x d=>by grind);rw[List.length_map]at this;omega
theorem zoV(h:Rt m){c:Ca}(a:m.ca[k]?=Xa c):zdh m.ca ⟨c.file,c.idx,0⟩=k/\zet m.ca ⟨c.file,c.idx,0⟩=Xc:=by
 obtain⟨b,_,_⟩:=h.cache;obtain⟨b,d⟩:=gS.1 a;have a:zZ ⟨c.file,c.idx,0⟩=zZ c:=rfl;refine⟨zjk (Nat.le_of_lt b) (fun j d a a=>?_) (fun d a=>?_),?_⟩;·grind[gS.1,Yb.1]
 ·grind
 grind[zet,Xt.2,mG]
theorem zin(l:ChW w0 k w V m)(g:Rt m)(p:Nat)(f:Fr)(h:m.fs[p]?=Xa f)(L:f.f≠-1)(D:f.r≠0):
  Xp prog 199 #[Xj (Xa ⟨k,0,Xb⟩),I6 (p:Int)] w fun e w'=>(∃v,e=Xl v)/\Chg w0 k w V (qL m p) w':=by
 obtain⟨j,c,A,u,F,d,a⟩:=zgR g h L;obtain⟨R,S,G⟩:=g.cache;obtain⟨E,F⟩:=zoV g d;rw[a.file,a.idx]at E F;have t:=(gS.1 d).1;have B:u<=12:=a.lo;have c:=dD<|zjT g h d a.fr;obtain⟨P,Q,M⟩:=zch g h D;have z:Xo (∀W,zc w W->Xp prog 139 #[Xj (Xa ⟨k,0,Xb⟩),I6 (A:Int),I6 (u:Int)] W fun e w'=>e=Xl (Xm #[I6 (j:Int),Xh Xc])/\zc W w'):=dD<|fun W i=>by
  have:=zbI (l.aA i) R S G (A:Int) (u:Int) Wm;rw[E,F]at this;exact this
 have q:Xo (qL m p=zbn {m with ca:=m.ca.eraseIdx j} p f.r ⟨0,0,Xd⟩):=dD<|by
  rw[show(⟨0,0,Xd⟩:En)=en0 from rfl,zkt (m:={m with ca:=m.ca.eraseIdx j}) g rfl rfl rfl h D JO];unfold qL;rw[c.out]
 have n:Xo (∀c i,ChW w0 k c i {m with ca:=m.ca.eraseIdx j}->Xp prog 195 #[Xj (Xa ⟨k,0,Xb⟩),I6 (p:Int),Xi #[I6 0,I6 0,Xh Xd]] c fun e w'=>(∃v,e=Xl v)/\Chg w0 k c i (qL m p) w'):=dD<|fun c i c=>by
  rw[q.out];exact zeM c p f h ⟨0,0,Xd⟩ g.inv.aI ⟨P,Q⟩ M
 have H:=dD l;have C:¬Dw k V w.heap.size:=fun e=>absurd (l.bA _ e) Wm;obtain⟨a4,-⟩:=l.at.ns;obtain⟨c,K,N⟩:=l.at.bC p f h;have x:=dD K;have y:=dD N;have c:(p:Int)<(V.f.n:Int):=by
  have:=(gS.1 h).1;omega
 have r:=a.ff;have s:=a.fx;have i:=dD t;have c:=dD G;obtain⟨⟨T,U,W,X,Y,Z,I,a0⟩,a2,a3,a1,a5,a5⟩:=f;dsimp only at r s;subst r;subst s;obtain⟨r,r⟩:=kA (qL m p);rw[r.out]at n q⊢;clear l g h L D d a R S G E F t B P Q M K N a4;have F:=H.box.box.c 0 rfl;rw[x.out]at F;obtain⟨h,l,r,s,q,t,x,B,D,E,a,d,g⟩:=y.out w (zc.refl _);dsimp only at h l r s q t x B D E a d g;go_enter func199,ntmps199;go_upto_region 1 with fail;clear h l r s q t x B D E a d g F;obtain⟨a,d⟩:=kA w.heap.size;refine nW fun r a=>?_;have h:=gA a;have l:=xPT a d;rw[d.out];rw[d.out]at C;clear a;have d:=l.box.c 11 rfl;have g:=l.box.c 12 rfl;have a:=z.out r h.out;go_wp2_with fail;refine a.mono ?_;clear a d g;rintro e x⟨rfl,a⟩;have u:=dD (h.trans a);clear a;have h:=dD (H.aA u);obtain⟨l,r,a⟩:=h.ca.aG (Hm i.out);have g:=zil w0.heap.size l r j m.ca x (Ry a h.ca) i c.out;have s:=h.box.box.c 9 rfl;rw[a]at s;have d:=dD a;clear a;obtain⟨t,a⟩:=kA m.ca.length;rw[a.out]at g s;have a:j<1000:=by have:=i.out;have:=c.out;omega
 go_wp2_with fail;refine g.mono ?_;clear g s;rintro e y⟨rfl,g,c⟩;have i:k≠l:=h.nc l (by have a:=d.out;(try simp only[Sli.x]at a);unfold oB;rw[a];rfl);have z:Xo (zm y k 102 (chL V m)):=h.box.beside c (fun p e=>by cases e;exact i);have A:=dD g;have s:=dD c;clear g c;go_upto_region 3 with(refine ZW rfl 38 (.tmp 37) (.tmp 34) rfl k 9 rfl (O (Xa ⟨l,0,Xb⟩) (t-1) r) rfl [O (Xa ⟨l,0,Xb⟩) (t-1) r] rfl z (by simp[chL]) Kr (by simp[Value.oneCell']) ?_)
 intro z c g _;have i:Chg w0 k x V {m with ca:=m.ca.eraseIdx j} z:=by
  refine h.cache (w1:=y) (b:=⟨Xa ⟨l,0,Xb⟩,t-1,r⟩) (qC.grown s (by have a:=d.out;(try simp only[Sli.x]at a);unfold oB;rw[a];rfl)) (fun h h=>?_) A g c;unfold oB at h;cases h;exact .inl (by have a:=d.out;(try simp only[Sli.x]at a);unfold oB;rw[a];rfl)
 have a:=Chg.aH u i;obtain⟨r,d,h,q⟩:=a;have a:=dD d;have l:=dD h;have j:=dD q;have a:=n.out z r d;clear i d h q c g;try simp only[Yd]
 go_wp2_with fail;refine a.mono ?_;clear a;rintro e a⟨⟨a,rfl⟩,c⟩;have a:=dD<|Chg.step l j c;clear c;go_wp2;exact Wq a.out
section
variable{w0 w w1 w2:Xn}{p:Nat}{V:MaV}{m:Ma}
theorem ChW.setSw(h:ChW w0 p w V m){d q:Sli}(e:zc w w1)(i:w.heap.size<=B)(b:jA B w1 (Xi #[d.x,q.x]) r g)(f:w1.grownBy w2 (Xa p))(c:zm w2 p 102 (chL {V with sb:=d,sq:=q} {m with sb:=r,sq:=g})):Chg w0 p w V {m with sb:=r,sq:=g} w2:=
 h.field (V':={V with sb:=d,sq:=q}) (m':={m with sb:=r,sq:=g}) e f rfl rfl rfl rfl rfl rfl c (fun W _ g a=>by
  have k:=(b.aV (fun k r=>Hm (h.drt k r)) g).rows
  exact⟨a.sl,k.1,k.2,a.db,a.dq,a.fl⟩)
end
theorem zmD(h:Rt m)(a:m.fs[k]?=Xa Y)(b:Y.r≠0):(zaj m<m.sl.length->ZO m.sl Y.r=0/\Jn m.sl Y.r=m.sl.set (zaj m) Y.r/\zcX m.sl Y.r=(zaj m:Int))/\(¬zaj m<m.sl.length->ZO m.sl Y.r=10):=by
 obtain⟨c,c,_⟩:=zch h a b;have a:=h.parts.2;rcases zdT m.sl Y.r with⟨a,_⟩|⟨_,a,_⟩|⟨_,_,b,a,_⟩|⟨_,_,b,a,c,d⟩;·grind
 ·grind
 ·exact⟨fun h=>absurd h b,fun _=>a⟩
 exact⟨fun _=>⟨a,c,d⟩,fun h=>absurd b h⟩
theorem zl2(K:ChW w0 k w V m)(Q:Rt m)(p:Nat)(f:Fr)(Y:m.fs[p]?=Xa f)(bx:f.r≠0):
  Xp prog 190 #[Xj (Xa ⟨k,0,Xb⟩),I6 (p:Int)] w fun e w'=>e=Xl (Xh (zbU m p f).1)/\Chg w0 k w V (zbU m p f).2 w':=by
 obtain⟨ck,ah⟩:=zmD Q Y bx;obtain⟨eb,ec,dq⟩:=zch Q Y bx;have dn:=Q.inv.aT;have ch:=Q.inv.bF;obtain⟨E,L⟩:=kA (ZO m.sl f.r);obtain⟨aj,a7⟩:=kA (zcX m.sl f.r);have a8:Xo (∀W,zc w W->Xp prog 193 #[V.s.x,I6 f.r] W fun e w'=>∃s:Sli,e=Xl (Xm #[s.x,I6 aj,I6 E])/\q9 slE W.heap.size w' (s.x) (Jn m.sl f.r)/\zc W w'):=dD<|fun W am=>by
  obtain⟨-,e7,-⟩:=K.at.ns;have ag:=(K.at.aA am).sl;(try simp only[Sli.x]);rw[e7]at ag⊢;rw[<-L.out,<-a7.out];refine(zmE V.s.a V.s.c m.sl f.r W ag).mono ?_;rintro e w'⟨ct,cx,rfl,e8,bs⟩;exact⟨⟨ct,_,cx⟩,rfl,e8,bs⟩
 have a6:Xo (E≠0->zbU m p f=(Xd,m)):=dD<|fun e=>by
  unfold zbU;rw[kF (fun Z=>e (L.symm.trans (ck Z).1))]
 have af:E=0->zaj m<m.sl.length:=fun e=>Classical.byContradiction fun ds=>by
  have:=ah ds;rw[L.out,e]at this;cases this
 have i:Xo (E=0->(zbU m p f).1=Xc/\∃j:Nat,aj=(j:Int)/\j<=60/\zp m.sb.length m.sq (j:Int)=0/\(zbU m p f).2=zbn {({m with sl:=Jn m.sl f.r}:Ma)with sb:=jT m.sb m.sq (j:Int),sq:=jZ m.sb m.sq (j:Int) (pgL f.p)} p f.r ⟨2,(j:Int),Xd⟩):=dD<|fun e=>by
  have Z:=af e;obtain⟨dk,ce,cf⟩:=ck Z;have U:zp m.sb.length m.sq ((zaj m:Nat):Int)=0:=by
   unfold zp;rw[kE Q.inv.sq,kE (by simp[ZB];omega)]
  have S:enW ⟨2,(zaj m:Int),Xd⟩=0:=JN Sm ⟨Sm,by simp only;omega,fun K=>by simp at K⟩ Sm;unfold zbU;rw[kE Z];refine⟨rfl,zaj m,a7.symm.trans cf,Wm,U,?_⟩;rw[zkt (m:={({m with sl:=Jn m.sl f.r}:Ma)with sb:=jT m.sb m.sq (zaj m:Int),sq:=jZ m.sb m.sq (zaj m:Int) (pgL f.p)}) Q rfl rfl rfl Y bx S];simp only;unfold QC jT jZ;rw[kE U,kE U,ce]
 have a4:Xo (∀(ar:Xn)be(j:Nat)c4 c0 c5,ChW w0 k ar be {({m with sl:=c4}:Ma)with sb:=c0,sq:=c5}->Xp prog 195 #[Xj (Xa ⟨k,0,Xb⟩),I6 (p:Int),Xi #[I6 2,I6 (j:Int),Xh Xd]] ar fun e w'=>(∃v,e=Xl v)/\Chg w0 k ar be (zbn {({m with sl:=c4}:Ma)with sb:=c0,sq:=c5} p f.r ⟨2,(j:Int),Xd⟩) w'):=dD<|fun ar be j c4 c0 c5 dl=>zeM dl p f Y ⟨2,(j:Int),Xd⟩ Q.inv.aI ⟨eb,ec⟩ dq;have a5:=dD K;have bw:k<w.heap.size:=K.bA k (.inl rfl);obtain⟨eq,-⟩:=K.at.ns;obtain⟨el,dp,Z⟩:=K.at.bC p f Y;have aw:=dD dp;have ax:=dD Z;have dr:(p:Int)<(V.f.n:Int):=by
  have:=(gS.1 Y).1;omega
 obtain⟨cb,az⟩:=kA (zbU m p f);rw[az.out]at a6 i⊢;obtain⟨⟨r,t,x,z,A,B,C,D⟩,M,bq,bo,bp,br⟩:=f;dsimp only at a8 i a4;have ee:=a5.box.box.c 0 rfl;rw[aw.out]at ee;obtain⟨db,dc,de,df,bm,dg,dh,di,dj,bn,bj,bk,bl⟩:=ax.out w (zc.refl _);dsimp only at db dc de df bm dg dh di dj bn bj bk bl;go_enter func190,ntmps190;go_upto_region 2 with fail;obtain⟨h,av⟩:=kA w.heap.size;refine nW fun H R=>?_;have ai:=gA R;have cd:=xPT R av;rw[av.out];rw[av.out]at bw;have cg:zc H H.drew:=show Below _ _ _ from(bR _ _).drew;obtain⟨c,b⟩:=Ww fun u=>zc H u;have n:=(b _).2 cg;have N:zc H H.drew:=cg;have du:=fun y:zh c=>(a5.box.box.aA (ai.trans ((b _).1 y.holds))).c 2 rfl;have e6:=fun y:zh c=>(cd.box.aA ((b _).1 y.holds)).c 8 rfl;have bv:Nonempty (zh c):=⟨⟨_,n⟩⟩;refine zH (I:=c) 15 [(7,fun v=>∃s:Sli,v=Xm #[s.x,I6 aj,I6 E])] (fun u=>zc H u) n N zY Kr rfl rfl Dc (Sa ⟨_,zJ,rfl⟩) Kr ?_;simp only[Yk,Yl];refine zg ?_;refine zQ (.tmp 19) ⟨k,0,Xb⟩ rfl rfl rfl rfl ?_;refine Uq ?_;iterate 5 refine zg ?_
 refine zy rfl rfl (fun v u=>∃(s:Sli)(G:Xn),v=Xm #[s.x,I6 aj,I6 E]/\zc H G/\zc G u/\q9 slE G.heap.size u (s.x) (Jn m.sl M)) (fun w' g a=>?_) (fun c7 a0=>?_);·refine zO.call [V.s.x,I6 M] rfl func193 rfl rfl rfl ?_;refine(a8 w' (ai.trans a)).mono ?_;rintro e c8⟨s,rfl,ah,a9⟩;exact⟨_,rfl,(b _).2 (((b _).1 g).trans a9),⟨s,rfl⟩,s,w',rfl,a,a9,ah⟩
 obtain⟨s,rfl⟩:=a0;refine Uq ?_;iterate 7 refine zg ?_
 refine qE fun ek bt P=>?_;obtain⟨aq,G,S,X,al,c6⟩:=P;have T:aq=s:=by
  obtain⟨cu,cv,cw⟩:=s;obtain⟨cy,cz,da⟩:=aq;simp only[Value.tuple.injEq,Array.mk.injEq,List.cons.injEq,vJ,and_true]at S;obtain⟨rfl,rfl,rfl⟩:=S;rfl
 subst T;have bd:=dD<|c6.base (bS (ai.trans X));have au:=dD (ai.trans (X.trans al));have cr:=dD (cd.aA (X.trans al));by_cases an:E=0
 rotate_left
 ·have bz:(E !=0)=Xc:=by simp[an]
  have ca:=dD<|a6.out an;go_wp2;go_ret;exact⟨Rr ca.out,Rx ca.out (Chg.refl a5 au)⟩
 have bz:(E !=0)=Xd:=by simp[an]
 obtain⟨ef,j,eg,es,eh,ei⟩:=i.out an;subst eg;have b8:=dD ef;have b9:=dD eh;have ba:Xo (cb.2=_):=ei;have cl:=dD (a5.box.aA au);go_upto_region 6 with(refine ZW rfl 30 (.tmp 36) (.tmp 33) rfl k 2 rfl (aq.x) rfl [aq.x] rfl cl (by simp[chL]) Kr (by simp[Value.oneCell']) ?_)
 intro F bh aa _;have cs:Xo (zm F h 53 [U8 r,U8 t,U8 x,U8 z,U8 A,U8 B,U8 C,U8 D,I6 M,Xh bq,Xh bo,I6 bp,I6 br]):=dD<|cr.beside aa (fun p e=>by cases e;omega);obtain⟨l,ao,e9,bm⟩:=a5.cE au bd aa bh;have bc:=dD ao;have cp:=dD e9;have cm:=dD bm;have co:Xo (∀W,zc F W->Xp prog 194 #[Xi #[l.sb.x,l.sq.x],I6 (j:Int),Xi #[U8 r,U8 t,U8 x,U8 z,U8 A,U8 B,U8 C,U8 D]] W fun e w'=>∃d q:Sli,e=Xl (Xm #[Xi #[d.x,q.x],I6 0])/\jA W.heap.size w' (Xi #[d.x,q.x]) (jT m.sb m.sq (j:Int)) (jZ m.sb m.sq (j:Int) (pgL ⟨r,t,x,z,A,B,C,D⟩))/\zc W w'):=show∀W,_ from fun W am=>by
  have ag:=zhd (Xi #[l.sb.x,l.sq.x]) m.sb m.sq (j:Int) (pgL ⟨r,t,x,z,A,B,C,D⟩) rfl W ⟨_,_,rfl,(ao.at.aA am).sb,(ao.at.aA am).sq⟩;rw[b9.out]at ag;refine ag.mono ?_;rintro e w'⟨em,rfl,cj,bs⟩;obtain⟨d,q,rfl,_,_⟩:=cj.form;exact⟨d,q,rfl,cj,bs⟩
 have dt:k<F.heap.size:=ao.bA k (.inl rfl);have ay:Xo (k≠h):=dD<|Wm;try simp only[Yd]
 go_upto_region 6 with fail;obtain⟨c,b⟩:=Ww fun u=>zm u h 53 [U8 r,U8 t,U8 x,U8 z,U8 A,U8 B,U8 C,U8 D,I6 M,Xh bq,Xh bo,I6 bp,I6 br];have n:=(b _).2 (cs.aA (gW _));have N:zc F F.drew:=show Below _ _ _ from(bR _ _).drew;have dv:=fun y:zh c=>((b _).1 y.holds).box.c 0 rfl;have dw:=fun y:zh c=>((b _).1 y.holds).box.c 1 rfl;have dx:=fun y:zh c=>((b _).1 y.holds).box.c 2 rfl;have dy:=fun y:zh c=>((b _).1 y.holds).box.c 3 rfl;have dz:=fun y:zh c=>((b _).1 y.holds).box.c 4 rfl;have e0:=fun y:zh c=>((b _).1 y.holds).box.c 5 rfl;have e4:=fun y:zh c=>((b _).1 y.holds).box.c 6 rfl;have e5:=fun y:zh c=>((b _).1 y.holds).box.c 7 rfl;have bv:Nonempty (zh c):=⟨⟨_,n⟩⟩;refine zH (I:=c) 17 [(5,fun v=>v=Xi #[l.sb.x,l.sq.x]),(9,fun v=>∃d q:Sli,v=Xm #[Xi #[d.x,q.x],I6 0]),(16,fun _=>True)] (fun u=>zc F u) n N zY Kr rfl rfl Dc (Sc ⟨_,rfl⟩ ⟨_,zJ,zJ,rfl⟩ ⟨undef,trivial⟩) Kr ?_;simp only[Yk,Yl];iterate 2 refine zg ?_
 refine zQ (.tmp 39) ⟨k,0,Xb⟩ rfl rfl rfl rfl ?_;refine Uq ?_;iterate 2 refine zg ?_
 refine zy rfl rfl (fun _ u=>zc F u) (fun w' g a=>?_) (fun c7 a0=>?_)
 ·refine zcq 34 (.tmp 42) rfl k 3 rfl [l.sb.x,l.sq.x] ((bc.box.box.aA a).mid 3 (fun j v ac=>by
   match j,ac with
   |0,ac=>exact ac
   |1,ac=>exact ac)) underlying34 rfl Kr ⟨g,rfl,a⟩
 cases a0;refine Uq ?_;iterate 3 refine zg ?_
 refine zy rfl rfl (fun v u=>∃(d q:Sli)(G:Xn),v=Xm #[Xi #[d.x,q.x],I6 0]/\zc F G/\zc G u/\jA G.heap.size u (Xi #[d.x,q.x]) (jT m.sb m.sq (j:Int)) (jZ m.sb m.sq (j:Int) (pgL ⟨r,t,x,z,A,B,C,D⟩))) (fun w' g a=>?_) (fun c7 a0=>?_);·refine zO.call [Xi #[l.sb.x,l.sq.x],I6 (j:Int),Xi #[U8 r,U8 t,U8 x,U8 z,U8 A,U8 B,U8 C,U8 D]] rfl func194 rfl rfl rfl ?_;refine(co w' a).mono ?_;rintro e c8⟨d,q,rfl,ah,a9⟩;exact⟨_,rfl,(b _).2 (((b _).1 g).aA a9),⟨d,q,rfl⟩,d,q,w',rfl,a,a9,ah⟩
 obtain⟨d,q,rfl⟩:=a0;refine Uq ?_;iterate 3 refine zg ?_
 refine zQ (.tmp 38) ⟨k,0,Xb⟩ rfl rfl rfl rfl ?_;refine Uq ?_;iterate 2 refine zg ?_
 refine zy rfl rfl (fun _ u=>Chg w0 k F l {({m with sl:=Jn m.sl M}:Ma)with sb:=jT m.sb m.sq (j:Int),sq:=jZ m.sb m.sq (j:Int) (pgL ⟨r,t,x,z,A,B,C,D⟩)} u) (fun w' g a=>?_) (fun c7 a0=>?_)
 ·obtain⟨ak,ap,G,S,X,al,c6⟩:=a;have T:ak=d/\ap=q:=by
   obtain⟨cu,cv,cw⟩:=d;obtain⟨cy,cz,da⟩:=ak;obtain⟨dk,ce,cf⟩:=q;obtain⟨en,eo,ep⟩:=ap;simp only[Value.tuple.injEq,Array.mk.injEq,List.cons.injEq,Value.agg.injEq,vJ,and_true]at S;obtain⟨⟨rfl,rfl,rfl⟩,rfl,rfl,rfl⟩:=S;exact⟨rfl,rfl⟩
  obtain⟨rfl,rfl⟩:=T;have c9:=X.trans al;refine ZM 34 (.tmp 52) (.tmp 48) rfl k 3 rfl (Xi #[ak.x,ap.x]) rfl [ak.x,ap.x] rfl (bc.box.aA c9) (by simp[chL]) Kr (by simp[Value.oneCell']) ?_;intro bg bi ab _;exact⟨(b _).2 (((b _).1 g).beside ab (fun p e=>by cases e;exact fun e=>ay.out e.symm)),trivial,bc.setSw c9 (bS X) c6 ab bi⟩
 try simp only[Yd]
 refine qE fun bg bt P=>?_;obtain⟨cc,ci,ea,bn⟩:=Chg.step cp cm P;have ej:Xo (ChW w0 k bg cc _):=ci;have cq:=dD ea;have cn:=dD bn;have bu:=a4.out bg cc j _ _ _ ci;go_wp2_with fail;refine bu.mono ?_;rintro e bf⟨⟨er,rfl⟩,dm⟩;have bb:Xo (Chg w0 k w V cb.2 bf):=show Chg _ _ _ _ _ _ by rw[ba.out];exact Chg.step cq cn dm
 go_wp2;go_ret;exact⟨Rr b8.out,bb⟩
theorem zqu(x0 y0:Int)(x1 y1:Int)(w):(Op.equalIn 10000 95 (Xi #[I6 x0,I6 x1]) (Xi #[I6 y0,I6 y1])).run prog w=.ok ((x0==y0)&&(x1==y1)) w:=by
 have hf:(Tryz.prog.fieldsOf 95).toList.map (fun f=>(f.name,f.type,f.offset))=[("Proc",3,0),("Page",3,1)]:=by kernel_rfl
 rw[run_equalIn_struct w 9999 95 _ _ Kr Kr];obtain⟨f0,f1,hfs⟩:∃f0 f1,(Tryz.prog.fieldsOf 95).toList=[f0,f1]:=by
  have hl:(Tryz.prog.fieldsOf 95).toList.length=2:=by have:=congrArg List.length hf;simpa using this
  match hq:(Tryz.prog.fieldsOf 95).toList,hl with
  |[f0,f1],_=>exact⟨f0,f1,rfl⟩
 rw[hfs]at hf⊢;simp at hf;obtain⟨⟨n0,t0,o0⟩,⟨n1,t1,o1⟩⟩:=hf;have pI:=zc0 w;simp only[Op.eqFields,n0,t0,o0,n1,t1,o1];simp[pI,run_equalIn_int w _ _ _ _ _ _ underlying3];by_cases e0:x0=y0;case neg=>simp[e0]
 subst e0;by_cases e1:x1=y1;case neg=>simp[e1]
 subst e1;simp
def zou(W:Xn)(y:Addr)(x:Nat×Nat):Prop:=W.cell? y=Xa (Xe Xf (x.1:Int))/\W.cell? {block:=y.block,off:=y.off+1}=Xa (Xe Xf (x.2:Int))
theorem zq.bT(h:zq zbc w A u):∃a c,A=O a u.length c/\∀(j:Nat)x,u[j]?=Xa x->∃ad,a=Xa ad/\∀W,zc w W->zou W (ad.add (j*2)) x:=by obtain⟨a,c,b,d⟩:=h.rows;refine⟨a,c,b,fun j x f=>?_⟩;obtain⟨ad,e,b⟩:=d j x f;exact⟨ad,e,fun W d=>⟨b W d 0 _ rfl,b W d 1 _ rfl⟩⟩
theorem zgH(v)(l:List (Nat×Nat))(q n:Nat)(w)(U:zq zbc w v l):
  Xp prog 206 #[v,Xi #[I6 (q:Int),I6 (n:Int)]] w fun e w'=>(∃z:Int,e=Xl (I6 z)/\(0<=z↔(q,n)∈l))/\zc w w':=by
 have s:=U.short;obtain⟨ae,af,rfl,f⟩:=U.bT;have I:=dD f;clear f U;obtain⟨L,K⟩:=kA l.length;rw[K.out]at s⊢;obtain⟨c,b⟩:∃c:Int->Prop,Xo (∀z,(0<=z↔(q,n)∈l)=c z):=⟨_,fun _=>rfl⟩;simp only[b.out];obtain⟨a3,W⟩:=kA w.heap.size;obtain⟨ac,d⟩:=kB (w.alloc (Xk #[I6 (q:Int),I6 (n:Int)] 95));have Z:=gA d;have a1:=xP d W;have N:=dD d;clear d;have aa:=zqu;go_enter func206,ntmps206;go_upto_region 1 with fail;rw[N.out,W.out];go_wp2;go_loopg[5,8] L (fun a5 _ ab wr=>∃a:Nat,a<=L/\L-a<=a5/\ab=I6 a/\Xo (zc w wr)/\Xo (Box wr a3 [I6 (q:Int),I6 (n:Int)])/\Xo (∀(j:Nat)x,j<a->l[j]?=Xa x->x≠(q,n)))
 exact⟨0,nZ _,Wm,rfl,Z,a1,fun j x t=>absurd t (nL _)⟩;obtain⟨a,a9,a8,rfl,F,P,V⟩:=hrel;by_cases g:a<L
 ·have u:=kC g
  obtain⟨x,M⟩:∃x,Xo (l[a]?=Xa x):=⟨_,gE (Rx K.out g)⟩;obtain⟨Q,rfl,Y⟩:=I.out a x M.out;have r:=dD<|fun X(a6:zc wr X)=>Y X (F.trans a6);clear Y;obtain⟨i,m⟩:=x;go_upto_region 4 with fail;have D:=fun y:zj wr=>(r _ y.aA).1;have E:=fun y:zj wr=>(r _ y.aA).2;have B:=P.gw 0 rfl;have C:=P.gw 1 rfl;have A:Nonempty (zj wr):=⟨⟨_,zc.refl _⟩⟩;by_cases G:i=q/\m=n
  ·obtain⟨rfl,rfl⟩:=G;have p:Xo (c (a:Int)):=dD<|by
    rw[<-b.out];exact⟨fun _=>mG M,fun _=>Wm⟩
   refine jK [] zY Kr Sm Sm ?_;iterate 6 refine zf ?_
   refine z5 fun a0 k T=>?_;have H:=dD (F.trans k);clear k T A D E B C;have a7:(((i:Int)==(i:Int))&&((m:Int)==(m:Int)))=Xc:=Sm;go_wp2;go_ret;exact⟨⟨_,rfl,p⟩,H⟩
  have p:Xo (∀(j:Nat)x,j<a+1->l[j]?=Xa x->x≠(q,n)):=dD<|fun j x t h=>by
   by_cases e:j=a;·subst e;rw[M.out]at h;cases h;exact fun e=>G (Prod.mk.inj e)
   exact V j x Wm h
  have a7:(((q:Int)==(i:Int))&&((n:Int)==(m:Int)))=Xd:=by
   by_cases e:i=q
   ·have R:¬(n:Int)=(m:Int):=fun a4=>G ⟨e,Wm⟩
    simp[R]
   have R:¬(q:Int)=(i:Int):=fun a4=>e Wm;simp[R]
  clear G;refine jK [] zY Kr Sm Sm ?_;iterate 6 refine zf ?_
  refine z5 fun a0 k T=>?_;have H:=dD (F.trans k);have a2:=dD (P.aA k);clear k T A D E B C;go_wp2;go_roundg (L-(a+1));exact⟨a+1,Wm,Wm,Gn,H,a2,p⟩;omega
 have u:=kD g;have:a=L:=Wm;subst this;have p:Xo (c (-1)):=dD<|by
  rw[<-b.out];refine⟨fun S=>absurd S Dc,fun S=>?_⟩;obtain⟨j,t⟩:=Ye S;exact absurd rfl (V j _ (by rw[<-K.out];exact(gS.1 t).1) t)
 go_wp2;go_ret;exact⟨⟨_,rfl,p⟩,F⟩
theorem zdm(v)(l:List (Nat×Nat))(q n:Nat)(w)(b:zq zbc w v l):
  Xp prog 203 #[v,Xi #[I6 (q:Int),I6 (n:Int)]] w fun e w'=>e=Xl (Xh (l.contains (q,n)))/\zc w w':=by
 have a:=zgH v l q n (w.alloc (Xk #[I6 (q:Int),I6 (n:Int)] 95)) (b.aA (za _ _));obtain⟨R,c⟩:=kA (l.contains (q,n));rw[c.out];clear b;go_enter func203,ntmps203;go_wp2_with fail;refine a.mono ?_;clear a;rintro e a⟨⟨z,rfl,a⟩,b⟩;have f:=dD<|(za _ _).trans b;clear b;by_cases d:0<=z
 ·have b:Xo (R=Xc):=dD<|by rw[<-c.out];simpa using a.1 d
  clear a;go_wp2;go_ret;exact⟨Rr b.out,f⟩
 have b:Xo (R=Xd):=dD<|by
  rw[<-c.out];cases c:l.contains (q,n)with
  |false=>rfl
  |true=>exact absurd (a.2 (Si c)) d
 have c:Xo (decide (0<=z)=Xd):=decide_eq_false d;clear a;go_wp2;go_ret;exact⟨by rw[b.out,<-c.out];rfl,f⟩
theorem zqM:isE Z z j=(decide (Z.kind=z)&&decide (Z.n=j)):=by unfold isE;cases c:decide (Z.kind=z)<;>cases c:decide (Z.n=j)<;>simp_all
theorem zmO(F:ChW w0 k w V m)(ap bc c0 bz:Nat)(f:Fr)(p:Nat)(a7)(l:List (Nat×Nat))(ad:Box w ap (frv f))(ag:Box w bc [a7])(ah:Box w c0 [Xj (Xa ⟨k,0,Xb⟩)])(ae:Box w bz [I6 (p:Int)])(H:zq zbc w a7 l)
  (q n:Nat)(s:Sp)(a:Ar)(bn:m.sp[q]?=Xa s)(c4:n<64)(c9:0<=f.f)(bg:a.file=f.f->(0<=a.base/\a.base<=100)/\(0<=a.fr/\a.fr<=100)):
  Xp prog 202 #[Xi #[I6 (q:Int),I6 (n:Int)],Xi #[I6 a.fr,I6 a.tz,Xh a.rd,Xh a.wr,Xh a.sh,I6 a.file,I6 a.base],Xj (Xa ⟨ap,0,Xb⟩),Xj (Xa ⟨bc,0,Xb⟩),Xj (Xa ⟨c0,0,Xb⟩),Xj (Xa ⟨bz,0,Xb⟩)] w fun e w'=>e=Xl (Xh (zav p f l q s a n))/\zc w w':=by
 have am:=(gS.1 bn).1;have ak:Z6 m q (n:Int)=ze s n:=by unfold Z6;rw[Sp.aJ bn,Qq c4]
 have bs:Xo (∀W,zc w W->Xp prog 91 #[Xj (Xa ⟨k,0,Xb⟩),Xi #[I6 (q:Int),I6 (n:Int)]] W fun e w'=>e=Xl (enV (ze s n))/\zc W w'):=dD<|fun W be=>by rw[<-ak];exact Qh (F.aA be) q am (n:Int)
 have bt:Xo (∀W,a.file=f.f->Xp prog 107 #[Xi #[I6 a.fr,I6 a.tz,Xh a.rd,Xh a.wr,Xh a.sh,I6 a.file,I6 a.base],I6 (n:Int)] W fun e w'=>e=Xl (I6 (a.base+(n:Int)-a.fr))/\zc W w'):=dD<|fun W bh=>J7 a (n:Int) W (bg bh).1 (bg bh).2 Wm;have br:Xo (∀W,zc w W->Xp prog 203 #[a7,Xi #[I6 (q:Int),I6 (n:Int)]] W fun e w'=>e=Xl (Xh (l.contains (q,n)))/\zc W w'):=dD<|fun W be=>zdm a7 l q n W (H.aA be);have M:Xo (a.file=f.f->(qq a n).page=a.base+(n:Int)-a.fr):=dD<|fun bh=>by
  unfold qq;simp only;rw[kE Wm];omega
 have c:Xo (zav p f l q s a n=(decide (a.file=f.f)&&decide ((qq a n).page=f.x)&&!(l.contains (q,n))&&(decide ((ze s n).kind=0)||(decide ((ze s n).kind=1)&&decide ((ze s n).n=(p:Int)))))):=dD<|by
  unfold zav;rw[zqM];rfl
 obtain⟨bq,ax⟩:=kA (l.contains (q,n));rw[ax.out]at br c;obtain⟨a2,b8⟩:=kA ((qq a n).page);rw[b8.out]at M c;obtain⟨B,aq,bd,aj⟩:∃B aq bd,ze s n=⟨B,aq,bd⟩:=⟨_,_,_,rfl⟩;rw[aj]at bs c;obtain⟨a3,c7⟩:=kA (zav p f l q s a n);rw[c7.out]at c⊢;simp only at c;have a8:=dD ad;have av:=dD ag;have aw:=dD ah;have au:=dD ae;obtain⟨⟨cd,ce,cf,cg,ch,ci,cj,ck⟩,fr,cn,cm,ab,ac⟩:=f;obtain⟨aa,r,i,t,j,b,d⟩:=a;simp only at bt M c c9;clear F ad ag ah ae H bn c4 bg am ak aj;obtain⟨bx,ar⟩:=kA w.heap.size;obtain⟨N,u⟩:=kB ((w.alloc (Xk #[I6 (q:Int),I6 (n:Int)] 95)).alloc (Xk #[I6 aa,I6 r,Xh i,Xh t,Xh j,I6 b,I6 d] 77));have L:=gD2 u;have bb:Xo (Box N bx [I6 (q:Int),I6 (n:Int)]):=dD<|by rw[<-u,<-ar.out];exact(Box.aE w _ _ rfl).alloc _
 have P:Xo (Box N (bx+1) [I6 aa,I6 r,Xh i,Xh t,Xh j,I6 b,I6 d]):=dD<|by rw[<-u];exact Box.aE _ [I6 aa,I6 r,Xh i,Xh t,Xh j,I6 b,I6 d] _ (by have:=ar.out;simp;omega)
 have b9:Xo (_=N):=u;clear u;go_enter func202,ntmps202;go_upto_region 1 with fail;rw[b9.out,ar.out];have U:=P.gw 0 rfl;have X:=P.gw 1 rfl;have Y:=P.gw 2 rfl;have Z:=P.gw 3 rfl;have I:=P.gw 4 rfl;have a0:=P.gw 5 rfl;have a1:=P.gw 6 rfl;have S:=bb.gw 0 rfl;have T:=bb.gw 1 rfl;have v:=fun A:zj N=>(a8.aA (L.trans A.aA)).c 11 rfl;have x:=fun A:zj N=>(a8.aA (L.trans A.aA)).c 12 rfl;have Q:=fun A:zj N=>(av.aA (L.trans A.aA)).c 0 rfl;have R:Nonempty (zj N):=⟨⟨_,zc.refl _⟩⟩;by_cases E:b=ab
 rotate_left
 ·have c2:(b !=ab)=Xc:=Si E
  have h:Xo (a3=Xd):=dD (by rw[c.out,decide_eq_false E];rfl);clear E;refine jK [] zY Kr Sm Sm ?_;iterate 6 refine zf ?_
  iterate 7 (refine Zu Kr ?_;simp only[Yd,sB,sS,sZ])
  iterate 2 refine zf ?_
  iterate 3 (refine Zu Kr ?_;simp only[Yd,sB,sS,sZ])
  refine zf ?_;refine z5 fun ba g G=>?_;have D:=dD (L.trans g);clear g G R U X Y Z I a0 a1 S T v x Q;go_wp2;go_ret;exact⟨Rr h.out,D⟩
 have c2:(b !=ab)=Xd:=by simp[E]
 have al:=M.out E;have y:=fun W=>bt.out W E;rw[<-al]at y;have ay:Xo (decide (b=ab)=Xc):=decide_eq_true E;rw[ay.out]at c;clear E al;by_cases a4:a2=ac
 rotate_left
 ·have c3:(a2 !=ac)=Xc:=Si a4
  have h:Xo (a3=Xd):=dD (by rw[c.out,decide_eq_false a4];rfl);clear a4;refine jK [(9,⟨fun K=>K=I6 a2,fun K w'=>True⟩)] zY Kr (Sa ⟨_,rfl⟩) ?hp ?_;case hp=>
   intro bo z;simp only[mC,nM,or_false]at z;subst z;exact fun _ _ _ _ F=>F
  iterate 9 refine zf ?_
  refine zI rfl rfl (fun w' bi G=>?_) (fun c5 H=>?_);·refine zO.call [Xi #[I6 aa,I6 r,Xh i,Xh t,Xh j,I6 b,I6 d],I6 (n:Int)] rfl func107 rfl rfl rfl ?_;refine(y w').mono ?_;rintro e an⟨rfl,g⟩;exact⟨_,rfl,g,rfl,trivial⟩
  subst H;refine Uq ?_;iterate 5 refine zf ?_
  iterate 3 (refine Zu Kr ?_;simp only[Yd,sB,sS,sZ])
  refine zf ?_;refine z5 fun ba g G=>?_;have D:=dD (L.trans g);clear g G R U X Y Z I a0 a1 S T v x Q y;go_wp2;go_ret;exact⟨Rr h.out,D⟩
 have c3:(a2 !=ac)=Xd:=by simp[a4]
 have az:Xo (decide (a2=ac)=Xc):=decide_eq_true a4;rw[az.out]at c;clear a4;refine jK [(9,⟨fun K=>K=I6 a2,fun K w'=>True⟩),(17,⟨fun K=>K=Xh bq,fun K w'=>True⟩)] zY Kr (Sb ⟨_,rfl⟩ ⟨_,rfl⟩) ?hp ?_;case hp=>
  intro bo z;simp only[mC,nM,or_false]at z;rcases z with rfl|rfl;·exact fun _ _ _ _ F=>F
  exact fun _ _ _ _ F=>F
 iterate 9 refine zf ?_
 refine zI rfl rfl (fun w' bi G=>?_) (fun c5 H=>?_);·refine zO.call [Xi #[I6 aa,I6 r,Xh i,Xh t,Xh j,I6 b,I6 d],I6 (n:Int)] rfl func107 rfl rfl rfl ?_;refine(y w').mono ?_;rintro e an⟨rfl,g⟩;exact⟨_,rfl,g,rfl,trivial⟩
 subst H;refine Uq ?_;iterate 7 refine zf ?_
 refine zI rfl rfl (fun w' bi G=>?_) (fun c5 H=>?_);·refine zO.call [a7,Xi #[I6 (q:Int),I6 (n:Int)]] rfl func203 rfl rfl rfl ?_;refine(br w' (L.trans bi)).mono ?_;rintro e an⟨rfl,g⟩;exact⟨_,rfl,g,rfl,trivial⟩
 subst H;refine Uq ?_;refine zf ?_;refine z5 fun ba g G=>?_;have D:=dD (L.trans g);have bv:=dD (bb.aA g);clear g G R U X Y Z I a0 a1 S T v x Q y c2 c3;cases bq with
 |true=>
  have h:Xo (a3=Xd):=dD<|Rr c.out;go_wp2;go_ret;exact⟨Rr h.out,D⟩
 |false=>
  obtain⟨cb,cc⟩:=bv.k2;have ca:=(aw.aA D).c 0 rfl;have ai:=bs.out ba D.out;go_wp2_with fail;refine ai.mono ?_;clear ai cb cc ca;rintro e bu⟨rfl,c1⟩;have c6:=dD (D.trans c1);clear c1;unfold enV;go_upto_region 4 with fail;obtain⟨cl,a9⟩:=kA bu.heap.size;obtain⟨c8,C⟩:=kB (bu.alloc (Xk #[I6 B,I6 aq,Xh bd] 55));have ao:Xo (zc w c8):=show zc _ _ from c6.trans (by rw[<-C];exact za _ _);have bw:=xP C a9;rw[C,a9.out];clear C;obtain⟨cp,cq⟩:=bw.k2;have co:=(au.aA ao).c 0 rfl;by_cases a5:B=0
  ·have bj:(B==0)=Xc:=Rr a5
   have h:Xo (a3=Xc):=dD (by rw[c.out,decide_eq_true a5];rfl);clear a5;go_wp2;go_ret;exact⟨Rr h.out,ao⟩
  have bj:(B==0)=Xd:=Si a5;rw[decide_eq_false a5]at c;clear a5;by_cases a6:B=1
  ·have bl:(B==1)=Xc:=Rr a6
   rw[decide_eq_true a6]at c;clear a6;have h:Xo (a3=(aq==(p:Int))):=dD<|Rr c.out;go_wp2;go_ret;exact⟨Rr h.out,ao⟩
  have bl:(B==1)=Xd:=Si a6;rw[decide_eq_false a6]at c;clear a6;have h:Xo (a3=Xd):=dD<|Rr c.out;go_wp2;go_ret;exact⟨Rr h.out,ao⟩
theorem zO.allocFr(d:o.op=.alloc 53)(h:N (Xj (Xa ⟨w.heap.size,0,Xb⟩)) (w.alloc (Xk (frv fr0).toArray 53))):zO prog o a w N:=by
 have e:(zeroValue 53).run prog w=.ok frz w:=by
  obtain⟨f,c,b,_,_⟩:=info_parts q3.aF;have:q3.ty=53:=rfl;rw[this]at c;have b:f.zero=Xa frz:=b;simp[zeroValue,typeInfo,c,b]
 unfold zO;have:(execOp a.eval o).run prog w=.ok (.value (Xj (Xa ⟨w.heap.size,0,Xb⟩))) (w.alloc (Xk (frv fr0).toArray 53)):=by
  simp[execOp,d,go_sem,e];rfl
 rw[this];exact h
theorem zl3(bi:ChW w0 k w V m)(dq:Rt m)(p:Nat)(f:Fr)(dr:m.fs[p]?=Xa f)(ex:0<=f.f)(f1)(l:List (Nat×Nat))(ap:zq zbc w f1 l):
  Xp prog 197 #[Xj (Xa ⟨k,0,Xb⟩),I6 (p:Int),f1] w fun e w'=>e=Xl (Xh (zhr m p f l))/\zc w w':=by
 obtain⟨cp,cq,rfl,_⟩:=ap.rows;obtain⟨cr,dc⟩:=kA l.length;rw[dc.out]at ap⊢;have db:=dD bi;have f8:=dD ap;have av:Xo (∀(q:Nat)s,m.sp[q]?=Xa s->s.aC.length<=16/\∀a∈s.aC,jS a):=show∀(q:Nat)s,_ from fun q s ba=>by
  obtain⟨C,a9⟩:=jJ.1 (dq.inv.aP s (mG ba)).1;exact⟨C,a9.all⟩
 have bp:=dD ex;obtain⟨gm,-⟩:=bi.at.ns;obtain⟨bf,U,ce⟩:=bi.at.bC p f dr;have cz:=dD U;have da:=dD ce;have gi:(p:Int)<(V.f.n:Int):=by
  have:=(gS.1 dr).1;omega
 obtain⟨ec,ck,ao,cj⟩:=bi.at.aU;obtain⟨-,-,-,-,-,-,-,-,f2⟩:=bi.at.ns;obtain⟨eb,bu⟩:=kA V.sp.a;obtain⟨aq,X⟩:=kA m.sp.length;have dd:Xo (V.sp.n=aq):=dD<|Rx f2 X.out;have f0:aq<=4:=Ry X.out dq.inv.aI;have dj:Xo (ec.length=aq):=dD<|Rx ck X.out;have dg:Xo (∀(j:Nat)x,ec[j]?=Xa x->∃bf,eb=Xa bf/\∀ay,zc w ay->ziN ay (bf.add (j*10)) x):=dD<|Ry bu.out ao;have dh:=dD cj;obtain⟨cl,aw⟩:=kA (zhr m p f l);rw[aw.out];have bw:Xo ((∃(q:Nat)(s:Sp)(i:Nat)(a:Ar)(n:Nat),m.sp[q]?=Xa s/\s.aC[i]?=Xa a/\Qb a n=Xc/\n<64/\zav p f l q s a n=Xc)->cl=Xc):=dD<|fun⟨q,s,i,a,n,C,a9,c1,c2,dm⟩=>by
  rw[<-aw.out];exact zdY.2 ⟨q,s,i,a,n,C,a9,c1,c2,zbV.1 dm⟩
 have de:Xo ((∀(q:Nat)(s:Sp)(i:Nat)(a:Ar)(n:Nat),m.sp[q]?=Xa s->s.aC[i]?=Xa a->Qb a n=Xc->n<64->zav p f l q s a n=Xd)->cl=Xd):=dD<|fun dw=>by
  rw[<-aw.out];cases gb:zhr m p f l with
  |false=>rfl
  |true=>
   obtain⟨q,s,i,a,n,C,a9,c1,c2,dm⟩:=zdY.1 gb;have:=dw q s i a n C a9 c1 c2;rw[zbV.2 dm]at this;cases this
 clear bi dq dr ex ap U ce gm f2 ck ao cj;obtain⟨h,bn⟩:=kA w.heap.size;obtain⟨g,r⟩:=kB (((w.alloc (Xk #[Xj (Xa ⟨k,0,Xb⟩)] 92)).alloc (Xk #[I6 (p:Int)] 3)).alloc (Xk #[O cp cr cq] 183));have ct:Xo (zc w g):=dD<|by rw[<-r];exact((za _ _).trans (za _ _)).trans (za _ _)
 have ek:Xo (Box g h [Xj (Xa ⟨k,0,Xb⟩)]):=dD<|by rw[<-r,<-bn.out];exact((Box.aE w [Xj (Xa ⟨k,0,Xb⟩)] _ rfl).alloc _).alloc _
 have ej:Xo (Box g (h+1) [I6 (p:Int)]):=dD<|by rw[<-r];exact(Box.aE _ [I6 (p:Int)] _ (by have:=bn.out;simp;omega)).alloc _
 have fb:Xo (Box g (h+2) [O cp cr cq]):=dD<|by rw[<-r];exact Box.aE _ [O cp cr cq] _ (by have:=bn.out;simp;omega)
 have bo:Xo (g.heap.size=h+3):=dD<|by rw[<-r];have:=bn.out;simp;omega
 have di:Xo (_=g):=r;clear r;go_enter func197,ntmps197;go_upto_region 1 with fail;rw[di.out,bn.out];obtain⟨⟨F,G,H,K,L,M,N,P⟩,R,S,Q,z,T⟩:=f;have cm:zc g g.drew:=show Below _ _ _ from(bR _ _).drew;obtain⟨I,au⟩:=Ww fun W=>zc g W;have az:=(au _).2 cm;have c3:g.drew=g.drew:=rfl;have dx:=ek.h au 0 rfl;have ds:=ej.h au 0 rfl;have dz:∀y:zh I,y.world.cell? ⟨k,0,Xb⟩=Xa (O (Xa bf) V.f.n V.f.c):=fun y=>by rw[<-cz.out];exact(db.box.box.aA (ct.trans ((au _).1 y.holds))).c 0 rfl
 have b:∀y:zh I,zj5 y.world (bf.add (p*13)) ⟨⟨F,G,H,K,L,M,N,P⟩,R,S,Q,z,T⟩:=fun y=>da.out _ (ct.trans ((au _).1 y.holds));have c4:=fun y=>(b y).1;have c5:=fun y=>(b y).2.1;have c6:=fun y=>(b y).2.2.1;have c7:=fun y=>(b y).2.2.2.1;have c8:=fun y=>(b y).2.2.2.2.1;have c9:=fun y=>(b y).2.2.2.2.2.1;have ca:=fun y=>(b y).2.2.2.2.2.2.1;have cb:=fun y=>(b y).2.2.2.2.2.2.2.1;have cc:=fun y=>(b y).2.2.2.2.2.2.2.2.1;have cd:=fun y=>(b y).2.2.2.2.2.2.2.2.2.1;have ak:=fun y=>(b y).2.2.2.2.2.2.2.2.2.2.1;have al:=fun y=>(b y).2.2.2.2.2.2.2.2.2.2.2.1;have am:=fun y=>(b y).2.2.2.2.2.2.2.2.2.2.2.2;dsimp only at c4 c5 c6 c7 c8 c9 ca cb cc cd ak al am;clear b;have dv:Nonempty (zh I):=⟨⟨_,az⟩⟩;refine zH (I:=I) 11 [(9,fun gq=>gq=Xj (Xa ⟨h+3,0,Xb⟩)),(10,fun _=>True)] (fun W=>W=g.drew) az c3 zY Kr rfl rfl Dc (Sb ⟨_,rfl⟩ ⟨undef,trivial⟩) Kr ?_;simp only[Yk,Yl];refine zg ?_;refine zQ (.tmp 14) ⟨k,0,Xb⟩ rfl rfl rfl rfl ?_;refine Uq ?_;iterate 7 refine zg ?_
 refine zy rfl rfl (fun _ W=>zm W (h+3) 53 (frv fr0)/\zc g W) (fun w' dn ag=>?_) (fun gr ap=>?_);·subst ag;refine zO.allocFr rfl ?_;have ba:g.drew.heap.size=h+3:=bo.out;refine⟨(au _).2 (cm.trans (za _ _)),by rw[ba],zm.aE _ (frv fr0) _ ba.symm,cm.trans (za _ _)⟩
 subst ap;refine Uq ?_;refine zy rfl rfl (fun _ W=>zm W (h+3) 53 [U8 F,U8 G,U8 H,U8 K,U8 L,U8 M,U8 N,U8 P,I6 R,Xh S,Xh Q,I6 z,I6 T]/\zc g W) (fun w' dn ag=>?_) (fun gr ap=>?_)
 ·refine zO.bH 53 (.tmp 7) (.tmp 22) rfl (h+3) rfl [U8 F,U8 G,U8 H,U8 K,U8 L,U8 M,U8 N,U8 P,I6 R,Xh S,Xh Q,I6 z,I6 T] rfl ag.1 rfl Kr (by simp[Value.oneCell']) ?_
  intro eo dk dl _;have bh:zc g eo:=zd ag.2 dl (Hm bo.out);exact⟨(au _).2 bh,trivial,dk,bh⟩
 clear ap;try simp only[Yd]
 refine qE fun be dp D=>?_;have f5:=dD D.1.box;have ar:=dD<|ct.trans D.2;have el:=dD<|ek.aA D.2;have f9:=dD<|ej.aA D.2;have fc:=dD<|fb.aA D.2;clear dp D az c3 dx ds dz c4 c5 c6 c7 c8 c9 ca cb cc cd ak al am dv cm;have gj:∀(ew:Fn)(first bz:Array Xq)(w:Xn),(Instr.makeFunc ew first bz).run prog w=.ok (.func ew first bz) w:=fun _ _ _ _=>rfl;have hd:=enters_of func202 Kr rfl;have gn:=el.c 0 rfl;have bx:=(db.box.box.aA ar).c 10 rfl;rw[dd.out,bu.out]at bx;go_wp2;clear gn bx;have bv:Xo (∀ay,zc be ay->∀(q n:Nat)s a,m.sp[q]?=Xa s->a∈s.aC->n<64->Xp prog 202 #[Xi #[I6 (q:Int),I6 (n:Int)],Xi #[I6 a.fr,I6 a.tz,Xh a.rd,Xh a.wr,Xh a.sh,I6 a.file,I6 a.base],Xj (Xa ⟨h+3,0,Xb⟩),Xj (Xa ⟨h+2,0,Xb⟩),Xj (Xa ⟨h,0,Xb⟩),Xj (Xa ⟨h+1,0,Xb⟩)] ay fun e w'=>e=Xl (Xh (zav p ⟨⟨F,G,H,K,L,M,N,P⟩,R,S,Q,z,T⟩ l q s a n))/\zc ay w'):=dD<|fun ay bj q n s a ba U co=>by
  obtain⟨fk,gy,gz,h6,h7,fl,h8,fm⟩:=(av q s ba).2 a U;exact zmO (db.aA (ar.trans bj)) (h+3) (h+2) h (h+1) ⟨⟨F,G,H,K,L,M,N,P⟩,R,S,Q,z,T⟩ p (O cp cr cq) l (f5.aA bj) (fc.aA bj) (el.aA bj) (f9.aA bj) (f8.aA (ar.trans bj)) q n s a ba co bp (fun e=>⟨⟨fl,by have:a.file=z:=e;have hg:0<=z:=bp.out;have:=fm Wm;omega⟩,fk,Wm⟩)
 go_loopg[30] aq (fun c0 e9 wr=>∃q:Nat,q<=aq/\aq-q<=c0/\e9=I6 q/\Xo (zc be wr)/\Xo (∀(B:Nat)(s:Sp)(i:Nat)(a:Ar)(n:Nat),B<q->m.sp[B]?=Xa s->s.aC[i]?=Xa a->Qb a n=Xc->n<64->zav p ⟨⟨F,G,H,K,L,M,N,P⟩,R,S,Q,z,T⟩ l B s a n=Xd))
 exact⟨0,nZ _,Wm,rfl,zc.refl _,fun B s i a n ez=>absurd ez (nL _)⟩;obtain⟨q,ez,gh,rfl,cw,ee⟩:=hrel;by_cases A:q<aq
 ·have ci:=kC A
  obtain⟨x,bk⟩:∃x,ec[q]?=Xa x:=⟨_,gE (Rx dj.out A)⟩;obtain⟨s,bd⟩:∃s,Xo (m.sp[q]?=Xa s):=⟨_,gE (Rx X.out A)⟩;have bm:=dD<|dh.out q x s bk bd.out;obtain⟨bf,rfl,ce⟩:=dg.out q x bk;obtain⟨fv,fw,fy,fz,g0,g1,g2,g3,g4,g6⟩:=ce wr (ar.trans cw);clear ce bk;go_upto_region 6 with fail;obtain⟨he,bq⟩:=kA wr.heap.size;obtain⟨fi,ah⟩:=kB (wr.alloc (Xk #[Xh x.aD,x.ar.x,x.t0.x,x.t1.x,x.t2.x,x.t3.x,x.t4.x,x.t5.x,x.t6.x,x.t7.x] 63));have f6:Xo (zc be fi):=show zc _ _ from cw.trans (by rw[<-ah];exact za _ _);have fe:=xP ah bq;rw[ah,bq.out];clear ah fv fw fy fz g0 g1 g2 g3 g4 g6;have cx:=dD bm.ar.n;obtain⟨bg,ae⟩:=kA s.aC.length;have ga:bg<=16:=by rw[<-ae.out];exact(av q s bd).1
  obtain⟨fp,fq,b8,aj⟩:=bm.ar.aC;simp only[vJ]at b8;have cy:=dD aj;have e7:=fe.c 1 rfl;simp only[Sli.x]at e7;rw[b8.1,cx.out,ae.out]at e7;clear b8 aj;go_wp2;clear e7;go_loopg[38] bg (fun c0 ea wr=>∃j:Nat,j<=bg/\bg-j<=c0/\ea=I6 j/\Xo (zc be wr)/\Xo (∀(i:Nat)(a:Ar)(n:Nat),i<j->s.aC[i]?=Xa a->Qb a n=Xc->n<64->zav p ⟨⟨F,G,H,K,L,M,N,P⟩,R,S,Q,z,T⟩ l q s a n=Xd))
  exact⟨0,nZ _,Wm,rfl,f6,fun i a n ey=>absurd ey (nL _)⟩;obtain⟨j,hh,ge,rfl,cu,ef⟩:=hrel;by_cases ab:j<bg
  ·have cg:=kC ab
   obtain⟨a,bl⟩:∃a,Xo (s.aC[j]?=Xa a):=⟨_,gE (Rx ae.out ab)⟩;obtain⟨fo,rfl,cf⟩:=cy.out j a bl.out;obtain⟨ep,eq,er,es,et,eu,ev⟩:=cf wr (ar.trans cu);have E:=(av q s bd).2 a (mG bl);obtain⟨v,b9⟩:∃v:Nat,a.fr=(v:Int):=⟨a.fr.toNat,Hm E.1⟩;obtain⟨u,bc⟩:∃u:Nat,a.tz=(u:Int):=⟨a.tz.toNat,by have:=E.1;have:=E.2.1;omega⟩;have gc:v<u:=Hm E.2.1;have dy:u<=64:=Hm E.2.2.1;have bt:=dD<|mG bl.out;have bs:Xo (∀n:Nat,Qb a n=Xc↔v<=n/\n<u):=show∀n:Nat,_ from fun n=>(by rw[q7,b9,bc];omega);obtain⟨h9,ft,Y,a0,Z,d,c⟩:=a;simp only at b9 bc ep eq er es et eu ev;subst b9;subst bc;clear cf E;go_upto_region 9 with fail;obtain⟨g7,br⟩:=kA wr.heap.size;obtain⟨fj,ai⟩:=kB (wr.alloc (Xk #[I6 (v:Int),I6 (u:Int),Xh Y,Xh a0,Xh Z,I6 d,I6 c] 77));have f7:Xo (zc be fj):=dD<|cu.trans (by rw[<-ai];exact za _ _);have em:=xP ai br;rw[ai,br.out];clear ai ep eq er es et eu ev;have ed:=em.c 0 rfl;go_wp2;clear ed;go_loopg[13] (u-v) (fun c0 e8 wr=>∃n:Nat,v<=n/\n<=u/\u-n<=c0/\e8=I6 n/\Xo (zc be wr)/\Xo (Box wr g7 [I6 (v:Int),I6 (u:Int),Xh Y,Xh a0,Xh Z,I6 d,I6 c])/\Xo (∀t:Nat,v<=t->t<n->zav p ⟨⟨F,G,H,K,L,M,N,P⟩,R,S,Q,z,T⟩ l q s ⟨(v:Int),(u:Int),Y,a0,Z,d,c⟩ t=Xd))
   exact⟨v,nR _,Wm,Wm,rfl,f7,em,fun t C a9=>absurd a9 Wm⟩;obtain⟨n,du,gk,gf,rfl,cv,en,eh⟩:=hrel;obtain⟨ed,gs,gt,gu,gv,gw,gx⟩:=en.c7;by_cases ac:n<u
   ·have ch:=kC ac
    have cn:=bv.out wr cv q n s _ bd bt Wm;simp only at cn;obtain⟨fh,ax⟩:=kA (zav p ⟨⟨F,G,H,K,L,M,N,P⟩,R,S,Q,z,T⟩ l q s ⟨(v:Int),(u:Int),Y,a0,Z,d,c⟩ n);rw[ax.out]at cn;go_wp2_with fail;refine cn.mono ?_;rintro e eo⟨rfl,bh⟩;have ei:=dD (cv.trans bh);have fg:=dD (en.aA bh);clear bh cn ed gs gt gu gv gw gx;cases fh with
    |true=>
     have df:Xo (cl=Xc):=bw.out ⟨q,s,j,_,n,bd,bl,(bs n).2 ⟨du,ac⟩,Wm,ax⟩;go_wp2;go_ret;exact⟨Rr df.out,ar.trans ei⟩
    |false=>
     have f4:Xo (∀t:Nat,v<=t->t<n+1->zav p ⟨⟨F,G,H,K,L,M,N,P⟩,R,S,Q,z,T⟩ l q s ⟨(v:Int),(u:Int),Y,a0,Z,d,c⟩ t=Xd):=dD<|fun t C a9=>by
      by_cases e:t=n;·subst e;exact ax.out
      exact eh t C Wm
     go_wp2;go_roundg (u-(n+1));exact⟨n+1,Wm,Wm,Wm,Gn,ei,fg,f4⟩;omega
   have ch:=kD ac;have cs:Xo (∀(i:Nat)(a:Ar)(n:Nat),i<j+1->s.aC[i]?=Xa a->Qb a n=Xc->n<64->zav p ⟨⟨F,G,H,K,L,M,N,P⟩,R,S,Q,z,T⟩ l q s a n=Xd):=dD<|fun i a t ey U aa dt=>by
    by_cases e:i=j;·subst e;rw[bl.out]at U;cases U;obtain⟨C,a9⟩:=(bs t).1 aa;exact eh t C Wm
    exact ef i a t Wm U aa dt
   go_wp2;go_roundg (bg-(j+1));exact⟨j+1,Wm,Wm,Gn,cv,cs⟩;omega
  have cg:=kD ab;have f3:Xo (∀(B:Nat)(s:Sp)(i:Nat)(a:Ar)(n:Nat),B<q+1->m.sp[B]?=Xa s->s.aC[i]?=Xa a->Qb a n=Xc->n<64->zav p ⟨⟨F,G,H,K,L,M,N,P⟩,R,S,Q,z,T⟩ l B s a n=Xd):=show∀(B:Nat)(s:Sp)(i:Nat)(a:Ar)(n:Nat),_ from fun B gp i a n gl bb U aa co=>by
   by_cases e:B=q;·subst e;rw[bd.out]at bb;cases bb;exact ef i a n (by have:=(gS.1 U).1;have:=ae.out;omega) U aa co
   exact ee B gp i a n Wm bb U aa co
  go_wp2;go_roundg (aq-(q+1));exact⟨q+1,Wm,Wm,Gn,cu,f3⟩;omega
 have ci:=kD A;have df:Xo (cl=Xd):=de.out fun B s i a n C a9 c1 c2=>ee.out B s i a n (by have:=(gS.1 C).1;have:=X.out;omega) C a9 c1 c2;go_wp2;go_ret;exact⟨Rr df.out,ar.trans cw⟩
theorem zmY(a0 a1 a2 a3 a4 a5 a6 a7 a b c d e f g h:Int)(x):(Op.equalIn 10000 44 (Xi #[U8 a0,U8 a1,U8 a2,U8 a3,U8 a4,U8 a5,U8 a6,U8 a7]) (Xi #[U8 a,U8 b,U8 c,U8 d,U8 e,U8 f,U8 g,U8 h])).run prog x=.ok (decide ([a0,a1,a2,a3,a4,a5,a6,a7]=[a,b,c,d,e,f,g,h])) x:=by
 have i:=QL 9998 a0 a1 a2 a3 a4 a5 a6 a7 a b c d e f g h x;rw[show zdi ⟨a0,a1,a2,a3,a4,a5,a6,a7⟩ ⟨a,b,c,d,e,f,g,h⟩=decide ([a0,a1,a2,a3,a4,a5,a6,a7]=[a,b,c,d,e,f,g,h])from by
  rw[Bool.eq_iff_iff,zb1,decide_eq_true_iff]
  simp]at i
 exact i
theorem zl5(h:ChW w0 k w V m)(aw:Rt m)(p:Nat)(f:Fr)(a7:m.fs[p]?=Xa f)(cf:f.f≠-1)(dd:f.r≠0)(bz)(l:List (Nat×Nat))(A:zq zbc w bz l):
  Xp prog 191 #[Xj (Xa ⟨k,0,Xb⟩),I6 (p:Int),bz] w fun e w'=>e=Xl (Xh (zfm m p f l).1)/\Chg w0 k w V (zfm m p f l).2 w':=by
 obtain⟨f2,ez,X,B,al,bs,a⟩:=zgR aw a7 cf;have a8:=mG bs;have bw:JC m f.f=al.size:=by unfold JC;rw[a.ff,tN,gD,a.fl];rfl
 have hcut:zl8 m f=Z8 (pgL f.p) (B:Int) al.size:=by unfold zl8;rw[bw,a.fx]
 have e0:0<=f.f:=by rw[a.ff];omega
 obtain⟨co,br⟩:∃co,al.bl[B]?=Xa co:=⟨_,gE a.bl⟩;have s:=dD h;obtain⟨q,Z⟩:=kA (zl8 m f);have a5:q.length=8:=by rw[<-Z.out,hcut];unfold Z8;simp[pgL]
 have C:Xo (∀W,zc w W->Xp prog 196 #[Xj (Xa ⟨k,0,Xb⟩),Xi (frv f).toArray] W fun e w'=>e=Xl (Xi (pgc q).toArray)/\zc W w'):=dD<|fun W z=>by
  rw[<-Z.out,hcut];exact(zc8 (h.aA z) f X B al a.ff a.fx a.fl a.sz a.lo).mono fun e w' S=>⟨S.1,S.2.2⟩
 obtain⟨aj,b9⟩:=kA (zhr m p f l);have ck:Xo (∀W,zc w W->Xp prog 197 #[Xj (Xa ⟨k,0,Xb⟩),I6 (p:Int),bz] W fun e w'=>e=Xl (Xh aj)/\zc W w'):=dD<|fun W z=>by
  rw[<-b9.out];exact zl3 (h.aA z) aw p f a7 e0 bz l (A.aA z)
 obtain⟨ca,ab⟩:=kA (Qr m f.f f.x);have a6:ca.length=8:=by
  rw[<-ab.out];have ei:=h.at;exact zeK ei.db.2.1 ei.dq.2.1 _ _
 have ae:Xo (∀W,zc w W->Xp prog 138 #[Xi (mL V m).toArray,I6 (X:Int),I6 (B:Int)] W fun e w'=>e=Xl (Xi (pgc ca).toArray)/\zc W w'):=dD<|fun W z=>by
  rw[<-ab.out,a.ff,a.fx];have f3:=a.sz;have f4:=a.lo;exact(zdU V m X B al co W (h.at.aA z) a.fl br Wm Wm).mono fun e w' S=>⟨S.1,S.2.2⟩
 obtain⟨T,aa⟩:=kA (decide (zbi m.fl m.cnt f.f f.x=0));have bc:Xo (∀W,zc w W->Xp prog 198 #[Xj (Xa ⟨k,0,Xb⟩),I6 (p:Int)] W fun e w'=>e=Xl (Xh T)/\Chg w0 k w V (wrM m q f.f f.x) w'):=dD<|fun W z=>by
  have eg:=zpM (h.aA z) p f a7 X B al a.ff a.fx a.fl a.sz a.lo;rw[<-hcut,Z.out,<-a.ff,<-a.fx,aa.out]at eg;exact eg.mono fun e w' S=>⟨S.1,Chg.aH z S.2.chg⟩
 have ba:Xo (∀W cn,ChW w0 k W cn (wrM m q f.f f.x)->Xp prog 199 #[Xj (Xa ⟨k,0,Xb⟩),I6 (p:Int)] W fun e w'=>(∃v,e=Xl v)/\Chg w0 k W cn (qL (wrM m q f.f f.x) p) w'):=dD<|fun W cn cq=>by
  have de:Rt (wrM m q f.f f.x):=by
   by_cases e:zbi m.fl m.cnt f.f f.x=0
   ·obtain⟨dq,et,eu,_⟩:=zmx (fun _ _=>False) aw a8 a e q
    rw[et];exact eu.rt
   have:wrM m q f.f f.x=m:=(by unfold wrM;rw[kF e]);rw[this];exact aw
  exact zin cq de p f (Rx zmy a7) cf dd
 have bb:Xo (∀W,zc w W->Xp prog 199 #[Xj (Xa ⟨k,0,Xb⟩),I6 (p:Int)] W fun e w'=>(∃v,e=Xl v)/\Chg w0 k w V (qL m p) w'):=dD<|fun W z=>(zin (h.aA z) aw p f a7 cf dd).mono fun e w' S=>⟨S.1,Chg.aH z S.2⟩;obtain⟨ai,ac⟩:=kA (decide (q=pgL f.p));obtain⟨j,a4⟩:=kA (decide (ca=q));obtain⟨U,b8⟩:=kA (zfm m p f l);have cb:Xo (U=if ai=Xd/\aj=Xc then(Xd,m)else if f.d=Xc\/j=Xd then(if T=Xc then(Xc,qL (wrM m q f.f f.x) p)else if j=Xc then(Xc,qL m p)else(Xd,m))else(Xc,qL m p)):=dD<|by
  rw[<-b8.out];unfold zfm;rw[Z.out,b9.out,ab.out,<-ac.out,<-a4.out,<-aa.out];simp only[decide_eq_false_iff_not,decide_eq_true_eq]
 have ah:Xo (T=Xd->wrM m q f.f f.x=m):=dD<|fun e=>by
  unfold wrM;rw[kF (of_decide_eq_false (aa.trans e))]
 rw[b8.out];obtain⟨cc,cj⟩:=kA (wrM m q f.f f.x);rw[cj.out]at bc ba cb ah;obtain⟨ex,-⟩:=h.at.ns;obtain⟨ey,e5,e6⟩:=h.at.bC p f a7;have ch:=dD e5;have ci:=dD e6;have ew:(p:Int)<(V.f.n:Int):=by
  have:=(gS.1 a7).1;omega
 have bt:=a.ff;have bu:=a.fx;obtain⟨bd,be,bf,bg,bh,bi,I,bj,a1⟩:=zc2 q a5;obtain⟨e8,e9,ea,eb,ec,ed,ee,ef,ak⟩:=zc2 ca a6;obtain⟨⟨am,an,ao,ap,aq,ar,au,av⟩,bp,bq,D,f0,f1⟩:=f;dsimp only at bt bu ac cb;have db:∀W,(Op.equalIn 10000 44 (Xi #[U8 bd,U8 be,U8 bf,U8 bg,U8 bh,U8 bi,U8 I,U8 bj]) (Xi #[U8 am,U8 an,U8 ao,U8 ap,U8 aq,U8 ar,U8 au,U8 av])).run prog W=.ok ai W:=fun W=>by
  rw[zmY];have:=ac.out;rw[a1]at this;rw[<-this];rfl
 have dc:∀W,(Op.equalIn 10000 44 (Xi #[U8 e8,U8 e9,U8 ea,U8 eb,U8 ec,U8 ed,U8 ee,U8 ef]) (Xi #[U8 bd,U8 be,U8 bf,U8 bg,U8 bh,U8 bi,U8 I,U8 bj])).run prog W=.ok j W:=fun W=>by
  rw[zmY,<-a1,<-ak,a4.out]
 rw[a1]at C;rw[ak]at ae;subst bt;subst bu;simp only[pgc,frv,mP,Yw]at C ae;clear h aw a7 cf dd A bs a a8 bw hcut e0 br a5 a6 e5 e6 ex a1 ak;have ej:=s.box.box.c 0 rfl;rw[ch.out]at ej;obtain⟨dr,ds,dt,du,dv,dw,bo,dx,dy,dz,bl,bm,bn⟩:=ci.out w (zc.refl _);dsimp only at dr ds dt du dv dw bo dx dy dz bl bm bn;go_enter func191,ntmps191;go_upto_region 2 with fail;clear dr ds dt du dv dw bo dx dy dz bl bm bn ej;obtain⟨dq,dl⟩:=kA w.heap.size;refine nW fun cd a0=>?_;have ax:=gA a0;have dp:=xP a0 dl;rw[dl.out];clear a0;have e7:∀y:zj cd,Box y.world dq [U8 am,U8 an,U8 ao,U8 ap,U8 aq,U8 ar,U8 au,U8 av,I6 bp,Xh bq,Xh D,I6 (X:Int),I6 (B:Int)]:=fun y=>dp.aA y.aA;have t:Xo (∀y:zj cd,_):=e7;clear e7;have F:=fun y=>(t y).c 0 rfl;have G:=fun y=>(t y).c 1 rfl;have H:=fun y=>(t y).c 2 rfl;have K:=fun y=>(t y).c 3 rfl;have L:=fun y=>(t y).c 4 rfl;have M:=fun y=>(t y).c 5 rfl;have N:=fun y=>(t y).c 6 rfl;have P:=fun y=>(t y).c 7 rfl;have Q:=fun y=>(t y).c 8 rfl;have R:=fun y=>(t y).c 9 rfl;have d:=fun y=>(t y).c 10 rfl;have g:=fun y=>(t y).c 11 rfl;have i:=fun y=>(t y).c 12 rfl;have E:Nonempty (zj cd):=⟨⟨_,zc.refl _⟩⟩;go_cut[30] (fun df c8=>df=Xh (!ai&&aj)/\Xo (zc cd c8))
 case first=>
  cases ai with
  |true=>
   refine jK [(2,⟨fun v=>v=Xi #[U8 bd,U8 be,U8 bf,U8 bg,U8 bh,U8 bi,U8 I,U8 bj],fun v w'=>True⟩)] zY Kr (Sa ⟨_,rfl⟩) ?hp ?_;case hp=>
    intro c9 c;simp only[mC,nM,or_false]at c;subst c;exact fun _ _ _ _ h=>h
   iterate 2 refine zf ?_
   refine zI rfl rfl (fun w' a2 Y=>?_) (fun cg A=>?_);·refine zO.call [Xj (Xa ⟨k,0,Xb⟩),Xi #[U8 am,U8 an,U8 ao,U8 ap,U8 aq,U8 ar,U8 au,U8 av,I6 bp,Xh bq,Xh D,I6 (X:Int),I6 (B:Int)]] rfl func196 rfl rfl rfl ?_;refine(C w' (ax.trans a2)).mono ?_;rintro e a3⟨rfl,n⟩;exact⟨_,rfl,n,rfl,trivial⟩
   subst A;refine Uq ?_;iterate 4 refine zf ?_
   iterate 4 (refine Zu Kr ?_;simp only[Yd,sB,sS,sZ])
   refine zf ?_;refine z5 fun ep n Y=>?_;have a9:=dD n;clear n Y E F G H K L M N P Q R d g i;go_wp2;go_meet;exact⟨rfl,a9⟩
  |false=>
   refine jK [(2,⟨fun v=>v=Xi #[U8 bd,U8 be,U8 bf,U8 bg,U8 bh,U8 bi,U8 I,U8 bj],fun v w'=>True⟩),(10,⟨fun v=>v=Xh aj,fun v w'=>True⟩)] zY Kr (Sb ⟨_,rfl⟩ ⟨_,rfl⟩) ?hp ?_;case hp=>
    intro c9 c;simp only[mC,nM,or_false]at c;rcases c with rfl|rfl;·exact fun _ _ _ _ h=>h
    exact fun _ _ _ _ h=>h
   iterate 2 refine zf ?_
   refine zI rfl rfl (fun w' a2 Y=>?_) (fun cg A=>?_);·refine zO.call [Xj (Xa ⟨k,0,Xb⟩),Xi #[U8 am,U8 an,U8 ao,U8 ap,U8 aq,U8 ar,U8 au,U8 av,I6 bp,Xh bq,Xh D,I6 (X:Int),I6 (B:Int)]] rfl func196 rfl rfl rfl ?_;refine(C w' (ax.trans a2)).mono ?_;rintro e a3⟨rfl,n⟩;exact⟨_,rfl,n,rfl,trivial⟩
   subst A;refine Uq ?_;iterate 7 refine zf ?_
   refine zI rfl rfl (fun w' a2 Y=>?_) (fun cg A=>?_);·refine zO.call [Xj (Xa ⟨k,0,Xb⟩),I6 (p:Int),bz] rfl func197 rfl rfl rfl ?_;refine(ck w' (ax.trans a2)).mono ?_;rintro e a3⟨rfl,n⟩;exact⟨_,rfl,n,rfl,trivial⟩
   subst A;refine Uq ?_;refine zf ?_;refine z5 fun ep n Y=>?_;have a9:=dD n;clear n Y E F G H K L M N P Q R d g i;go_wp2;go_meet;exact⟨rfl,a9⟩
 obtain⟨rfl,a9⟩:=hcut;clear E F G H K L M N P Q R d g i;obtain⟨em,cl⟩:=kA (!ai&&aj);rw[cl.out];cases em with
 |true=>
  have x:Xo (U=(Xd,m)):=dD<|by
   rw[cb.out,kE];have:=cl.out;cases ai<;>cases aj<;>simp_all
  go_wp2;go_ret;exact⟨Rr x.out,by rw[x.out];exact Chg.refl s (ax.trans a9)⟩
 |false=>
  have ay:Xo (U=if D=Xc\/j=Xd then(if T=Xc then(Xc,qL cc p)else if j=Xc then(Xc,qL m p)else(Xd,m))else(Xc,qL m p)):=dD<|by
   rw[cb.out,kF];have:=cl.out;cases ai<;>cases aj<;>simp_all
  go_upto_region 4 with fail;have b:=dD (ax.trans a9);have r:=dD (dp.aA a9);have F:=fun y:zj wc=>(r.aA y.aA).c 0 rfl;have G:=fun y:zj wc=>(r.aA y.aA).c 1 rfl;have H:=fun y:zj wc=>(r.aA y.aA).c 2 rfl;have K:=fun y:zj wc=>(r.aA y.aA).c 3 rfl;have L:=fun y:zj wc=>(r.aA y.aA).c 4 rfl;have M:=fun y:zj wc=>(r.aA y.aA).c 5 rfl;have N:=fun y:zj wc=>(r.aA y.aA).c 6 rfl;have P:=fun y:zj wc=>(r.aA y.aA).c 7 rfl;have Q:=fun y:zj wc=>(r.aA y.aA).c 8 rfl;have R:=fun y:zj wc=>(r.aA y.aA).c 9 rfl;have d:=fun y:zj wc=>(r.aA y.aA).c 10 rfl;have g:=fun y:zj wc=>(r.aA y.aA).c 11 rfl;have i:=fun y:zj wc=>(r.aA y.aA).c 12 rfl;have cr:=fun y:zj wc=>(s.box.box.aA (b.trans y.aA)).c 0 rfl;have cs:=fun y:zj wc=>(s.box.box.aA (b.trans y.aA)).c 1 rfl;have ct:=fun y:zj wc=>(s.box.box.aA (b.trans y.aA)).c 2 rfl;have cu:=fun y:zj wc=>(s.box.box.aA (b.trans y.aA)).c 3 rfl;have cv:=fun y:zj wc=>(s.box.box.aA (b.trans y.aA)).c 4 rfl;have cw:=fun y:zj wc=>(s.box.box.aA (b.trans y.aA)).c 5 rfl;have cx:=fun y:zj wc=>(s.box.box.aA (b.trans y.aA)).c 6 rfl;have cy:=fun y:zj wc=>(s.box.box.aA (b.trans y.aA)).c 7 rfl;have cz:=fun y:zj wc=>(s.box.box.aA (b.trans y.aA)).c 8 rfl;have da:=fun y:zj wc=>(s.box.box.aA (b.trans y.aA)).c 9 rfl;have bv:=fun y:zj wc=>(s.box.box.aA (b.trans y.aA)).c 10 rfl;have E:Nonempty (zj wc):=⟨⟨_,zc.refl _⟩⟩;refine jK [(8,⟨fun v=>v=Xi #[U8 e8,U8 e9,U8 ea,U8 eb,U8 ec,U8 ed,U8 ee,U8 ef],fun v w'=>True⟩),(11,⟨fun v=>v=Xi #[U8 bd,U8 be,U8 bf,U8 bg,U8 bh,U8 bi,U8 I,U8 bj],fun v w'=>True⟩)] zY Kr (Sb ⟨_,rfl⟩ ⟨_,rfl⟩) ?hp ?_;case hp=>
   intro c9 c;simp only[mC,nM,or_false]at c;rcases c with rfl|rfl;·exact fun _ _ _ _ h=>h
   exact fun _ _ _ _ h=>h
  refine zf ?_;refine zku (.tmp 31) ⟨k,0,Xb⟩ rfl rfl rfl rfl ?_;refine Uq ?_;iterate 6 refine zf ?_
  refine zI rfl rfl (fun w' a2 Y=>?_) (fun cg A=>?_);·refine zO.call [Xi (mL V m).toArray,I6 (X:Int),I6 (B:Int)] rfl func138 rfl rfl rfl ?_;refine(ae w' (b.trans a2)).mono ?_;rintro e a3⟨rfl,n⟩;exact⟨_,rfl,n,rfl,trivial⟩
  subst A;refine Uq ?_;iterate 2 refine zf ?_
  refine zI rfl rfl (fun w' a2 Y=>?_) (fun cg A=>?_);·refine zO.call [Xj (Xa ⟨k,0,Xb⟩),Xi #[U8 am,U8 an,U8 ao,U8 ap,U8 aq,U8 ar,U8 au,U8 av,I6 bp,Xh bq,Xh D,I6 (X:Int),I6 (B:Int)]] rfl func196 rfl rfl rfl ?_;refine(C w' (b.trans a2)).mono ?_;rintro e a3⟨rfl,n⟩;exact⟨_,rfl,n,rfl,trivial⟩
  subst A;refine Uq ?_;iterate 2 refine zf ?_
  refine z5 fun eq cp Y=>?_;have dk:=dD (b.trans cp);have es:=dD (r.aA cp);clear cp Y E F G H K L M N P Q R d g i cr cs ct cu cv cw cx cy cz da bv db dc;have di:=es.c 10 rfl;go_upto_region 5 with fail;go_cut[49] (fun dg c8=>dg=Xh (D||!j)/\c8=eq)
  case first=>
   cases D<;>cases j
   all_goals(go_wp2;go_meet;exact⟨rfl,rfl⟩)
  obtain⟨rfl,rfl⟩:=hcut;clear di;obtain⟨en,af⟩:=kA (D||!j);rw[af.out];cases en with
  |false=>
   have x:Xo (U=(Xc,qL m p)):=dD<|by
    rw[ay.out,kF];have:=af.out;cases D<;>cases j<;>simp_all
   have u:=bb.out wc dk.out;go_wp2_with fail;refine u.mono ?_;clear u;rintro e ce⟨⟨f5,rfl⟩,e3⟩;have cm:Xo (Chg w0 k w V U.2 ce):=dD<|Rx x.out e3;clear e3;go_wp2;go_ret;exact⟨Rr x.out,cm⟩
  |true=>
   have az:Xo (U=if T=Xc then(Xc,qL cc p)else if j=Xc then(Xc,qL m p)else(Xd,m)):=dD<|by
    rw[ay.out,kE];have:=af.out;cases D<;>cases j<;>simp_all
   have bx:=bc.out wc dk.out;go_wp2_with fail;refine bx.mono ?_;clear bx;rintro e ce⟨rfl,dn,I,eh,bo⟩;have cm:=dD I;have dm:=dD eh;have dj:=dD bo;have u:=ba.out ce dn I;clear I eh bo;go_upto_region 7 with fail;go_cut[58] (fun dh c8=>dh=Xh (!T&&!j)/\c8=ce)
   case first=>
    cases T<;>cases j
    all_goals(go_wp2;go_meet;exact⟨rfl,rfl⟩)
   obtain⟨rfl,rfl⟩:=hcut;obtain⟨eo,ag⟩:=kA (!T&&!j);rw[ag.out];cases eo with
   |true=>
    have x:Xo (U=(Xd,m)/\cc=m):=dD<|by
     have cq:=ag.out;have ev:=ah.out;rw[az.out];cases T<;>cases j<;>simp_all
    have ek:Xo (Chg w0 k w V U.2 wc):=dD<|by
     rw[x.1,<-x.2];exact⟨dn,cm,dm,dj⟩
    clear u;go_wp2;go_ret;exact⟨Rr x.1,ek⟩
   |false=>
    have x:Xo (U=(Xc,qL cc p)):=dD<|by
     have cq:=ag.out;have ev:=ah.out;rw[az.out];cases T<;>cases j<;>simp_all
    go_wp2_with fail;refine u.mono ?_;clear u;rintro e er⟨⟨f6,rfl⟩,e4⟩;have el:Xo (Chg w0 k w V U.2 er):=dD<|Rx x.out (Chg.step dm dj e4);clear e4;go_wp2;go_ret;exact⟨Rr x.out,el⟩
theorem zjM(h:ChW w0 k w V m)(s:Rt m)(p:Nat)(f:Fr)(g:m.fs[p]?=Xa f)(t:f.r≠0)(q)(l:List (Nat×Nat))(v:zq zbc w q l):
  Xp prog 183 #[Xj (Xa ⟨k,0,Xb⟩),I6 (p:Int),q] w fun e w'=>e=Xl (Xh (Zy m p f l).1)/\Chg w0 k w V (Zy m p f l).2 w':=by
 obtain⟨a,-⟩:=h.at.ns;obtain⟨a,a,c⟩:=h.at.bC p f g;have b:(p:Int)<(V.f.n:Int):=by
  have:=(gS.1 g).1;omega
 have b:=h.box.box.c 0 rfl;rw[a]at b;obtain⟨a,a,a,a,a,a,a,a,a,a,a,a,b⟩:=c w (zc.refl _);obtain⟨r,b⟩:=kA f.f;rw[b.out]at a;by_cases d:f.f=-1
 ·have c:=zl2 h s p f g t;have j:Xo (Zy m p f l=zbU m p f):=dD (by unfold Zy;rw[kE d]);have x:(r==-1)=Xc:=by rw[<-b.out,d];rfl
  rw[j.out];obtain⟨E,a⟩:=kA (zbU m p f);rw[a.out]at c⊢;go_enter func183,ntmps183;go_wp2_with fail;refine c.mono ?_;rintro e u⟨rfl,n⟩;have i:=dD n;go_wp2;go_ret;exact⟨rfl,i⟩
 have c:=zl5 h s p f g d t q l v;have j:Xo (Zy m p f l=zfm m p f l):=dD<|by unfold Zy;rw[kF d]
 have x:(r==-1)=Xd:=by rw[<-b.out];simpa using d
 rw[j.out];obtain⟨E,a⟩:=kA (zfm m p f l);rw[a.out]at c⊢;go_enter func183,ntmps183;go_wp2_with fail;refine c.mono ?_;rintro e u⟨rfl,n⟩;have i:=dD n;go_wp2;go_ret;exact⟨rfl,i⟩
theorem zjC(n:Nat)(m:Ma)(l:List (Nat×Nat))(hi:zbe m.fs m.aB=(k:Int))(a:(Qm m).fs[k]?=Xa Y):Q8 (n+1) m l=if(Zy (Qm m) k Y l).1=Xc then Zy (Qm m) k Y l else Q8 n (Qm m) l:=by grind[Q8,tN,zL]
theorem zjB(n:Nat)(m:Ma)(l:List (Nat×Nat))(hi:zbe m.fs m.aB=-1):Q8 (n+1) m l=(Xd,Qm m):=by
 conv=>lhs;unfold Q8
 rw[kE Wm]
theorem zfU(v:ChW w0 k w V m)(X:Rt m)(Z)(l:List (Nat×Nat))(ai:zmm zbc (Dw k V) w Z l):
  Xp prog 168 #[Xj (Xa ⟨k,0,Xb⟩),Z] w fun e w'=>e=Xl (Xh (Q7 m l).1)/\Chg w0 k w V (Q7 m l).2 w':=by
 have aw:=dD ai;have au:=dD v;have av:=dD X;obtain⟨aj,-⟩:=v.at.ns;have Y:V.f.n<=40:=Hm X.inv.aN;obtain⟨f,z⟩:=kA (Q7 m l);have A:Xo (Q8 (2*V.f.n) m l=f):=dD<|by rw[<-z.out,aj];rfl
 rw[z.out];have L:=v.box.box.c 0 rfl;clear v ai X aj;obtain⟨c,M⟩:=kA V.f.n;rw[M.out]at L Y A;go_enter func168,ntmps168;go_wp2;clear L;go_loopg[14] (2*c) (fun b1 I wr=>∃(t:Nat)(a:Ma)(K:MaV),t<=2*c/\2*c-t<=b1/\I=I6 t/\Xo (ChW w0 k wr K a)/\Xo (Rt a)/\Xo (qC (Dw k V) w wr)/\Xo (∀p,Dw k K p->Dw k V p\/w.heap.size<=p)/\Xo (Q8 (2*c-t) a l=f))
 exact⟨0,m,V,nZ _,Wm,rfl,au,av,qC.refl _ _,(fun _ v=>.inl v:∀p,Dw k V p->Dw k V p\/w.heap.size<=p),A⟩;obtain⟨t,a,K,b8,b2,rfl,s,a7,a6,a2,H⟩:=hrel;by_cases b3:t<2*c
 ·have F:(t:Int)<2*(c:Int):=Wm
  obtain⟨r,B⟩:∃r,Xo (2*c-t=r+1):=⟨2*c-t-1,show _=_ by omega⟩;have P:Xo (2*c-(t+1)=r):=dD<|Hm B.out;rw[B.out]at H;obtain⟨u,_,d⟩:=zhL (fun _ _=>False) a7.out;have C:=dD u.rt;have x:=dD d;obtain⟨L,b6⟩:=s.box.box.k2;have q:=zrU s a7.parts.1;obtain⟨b7,i⟩:=kA (zbe a.fs a.aB);rw[i.out]at q x;clear u d;go_wp2_with fail;refine q.mono ?_;clear q L b6;rintro e az⟨U,rfl,ak,u⟩;have an:=dD (s.box.aA u);have N:Xo (zb q3 wr.heap.size az (U.x) (zcF a.fs a.aB)):=ak;have aq:=dD u;clear ak u;go_upto_region 5 with(refine ZW rfl 28 (.tmp 29) (.tmp 24) rfl k 0 rfl (Xi #[U.x,I6 (zed a.fs a.aB)]) rfl [U.x,I6 (zed a.fs a.aB)] rfl an (by simp[chL]) Kr (by simp[Value.oneCell']) ?_)
  intro T aa E _;obtain⟨a8,ab,al,ad⟩:=Chg.step a6 a2 (s.bK aq N E aa);have a4:Xo (ChW w0 k T a8 (Qm a)):=ab;have S:=dD al;have a0:=dD ad;clear aa E ab al ad;try simp only[Yd]
  rcases x with⟨D,_⟩|⟨p,j,D,W,af⟩
  ·have b:Xo (f=(Xd,Qm a)):=dD<|by rw[<-H.out,zjB r a l (Rx i.out D)]
   subst D;have ax:Xo (Chg w0 k w V f.2 T):=dD (by rw[b.out];exact⟨a8,a4,S,a0⟩);go_wp2;go_ret;exact⟨Rr b.out,ax⟩
  have b:Xo (f=if(Zy (Qm a) p j l).1=Xc then Zy (Qm a) p j l else Q8 r (Qm a) l):=dD (by rw[<-H.out,zjC r a l (Rx i.out D) W]);have n:=zjM a4 C p j W af Z l (aw T S);have h:Xo ((Zy (Qm a) p j l).1=Xd->(Zy (Qm a) p j l).2=Qm a):=dD<|fun e=>by
   rcases zkL (Qm a) p j l with⟨b4,_⟩|⟨_,b5⟩;·rw[b4]at e;cases e
   exact b5
  obtain⟨ao,ar⟩:=kA (Zy (Qm a) p j l);rw[ar.out]at n b h;subst D;have ah:(0:Int)<=(p:Int):=Wm;clear W af;go_wp2_with fail;refine n.mono ?_;clear n;rintro e b0⟨rfl,ag⟩;obtain⟨a9,ac,am,ae⟩:=Chg.step S a0 ag;have Q:=dD ac;have a5:=dD am;have a1:=dD ae;clear ag ac am ae;obtain⟨ap,G⟩:=ao;simp only at Q b h;cases ap with
  |true=>
   have g:Xo (f=(Xc,G)):=dD<|Rr b.out;have R:Xo (Chg w0 k w V f.2 b0):=dD (by rw[g.out];exact⟨a9,Q,a5,a1⟩);go_wp2;go_ret;exact⟨Rr g.out,R⟩
  |false=>
   have y:=dD<|h.out rfl;have g:Xo (Q8 r G l=f):=show _=_ by rw[b.out,y.out];rfl
   have ay:Xo (Rt G):=dD<|Rx y.out C.out;go_wp2;go_roundg (2*c-(t+1));exact⟨t+1,G,a9,Wm,Wm,Gn,Q,ay,a5,a1,Rx P.out g⟩;omega
 have F:¬(t:Int)<2*(c:Int):=Wm;have a3:Xo (f=(Xd,a)):=dD<|by
  rw[<-H.out,show 2*c-t=0 by omega];rfl
 have R:Xo (Chg w0 k w V f.2 wr):=dD<|by rw[a3.out];exact⟨K,s,a6,a2⟩
 go_wp2;go_ret;exact⟨Rr a3.out,R⟩
theorem zhv(b:o.op=.alloc 28):(execOp a.eval o).run prog w=.ok (.value (Xj (Xa ⟨w.heap.size,0,Xb⟩))) (w.alloc (Xk #[eS,I6 0] 28)):=by simp only[execOp,b];go_simp
theorem zfT(ay:ChW w0 k w V m)(c2:Rt m)(pg:Pg)(fi ix:Int)(bl:frW (frT pg fi ix)=0)(c6)(l:List (Nat×Nat))(a4:zmm zbc (Dw k V) w c6 l)(bn:∀x∈l,x.2<64/\∃s,m.sp[x.1]?=Xa s)
  (U:Zn (zi m l).fs=0->∀bz cl,ChW w0 k bz cl (zi m l)->zmm zbc (Dw k cl) bz c6 l->Xp prog 168 #[Xj (Xa ⟨k,0,Xb⟩),c6] bz fun e w'=>e=Xl (Xh (Q7 (zi m l) l).1)/\Chg w0 k bz cl (Q7 (zi m l) l).2 w'):
  Xp prog 140 #[Xj (Xa ⟨k,0,Xb⟩),Xi #[Xe Xg pg.b0,Xe Xg pg.b1,Xe Xg pg.b2,Xe Xg pg.b3,Xe Xg pg.b4,Xe Xg pg.b5,Xe Xg pg.b6,Xe Xg pg.b7],Xe Xf fi,Xe Xf ix,c6] w fun e w'=>e=Xl (Xm #[Xe Xf ((zde m (frT pg fi ix) l).2.1:Int),Xe Xf (if(zde m (frT pg fi ix) l).1=Xc then 0 else 10)])/\Chg w0 k w V (zde m (frT pg fi ix) l).2.2 w':=by
 have cg:=dD a4;have ej:=dD ay;have fn:=dD c2;have fm:=dD bn;have cb:=dD bl;have ae:=dD U;obtain⟨fw,fx,rfl,cv⟩:=(a4 w (qC.refl _ _)).bT;have bi:=(a4 w (qC.refl _ _)).short;obtain⟨ax,ah⟩:=kA l.length;rw[ah.out]at cg ae bi⊢;have c9:Xo (∀j,j<=ax->Rt (zi m (l.take j))/\(zi m (l.take j)).sp.length=m.sp.length):=dD<|fun j _=>by
  obtain⟨g,_⟩:=qS (l.take j) c2 (fun x a5=>bn x (Oo a5));exact⟨g.rt,g.aW.aI⟩
 have ca:Xo (∀(j:Nat)x,l[j]?=Xa x->zi m (l.take (j+1))=zjJ (zi m (l.take j)) x.1 (x.2:Int)/\x.1<(zi m (l.take j)).sp.length/\((Z6 (zi m (l.take j)) x.1 (x.2:Int)).kind=1->Zm (zi m (l.take j)).fs (zi m (l.take j)).aB (Z6 (zi m (l.take j)) x.1 (x.2:Int)).n (-1)=0)):=dD<|fun j x a5=>by
  obtain⟨g,_⟩:=qS (l.take j) c2 (fun x a5=>bn x (Oo a5));obtain⟨e6,s,fh⟩:=bn x (mG a5);have bq:x.1<(zi m (l.take j)).sp.length:=by rw[g.aW.aI];exact(gS.1 fh).1
  have bs:=gE bq;refine⟨?_,bq,zn0 g.rt bs e6⟩;rw[Yt,a5,zq7 g.rt bs e6];exact zc7 _ _ _
 have el:Xo (k<w.heap.size):=ay.bA k (.inl rfl);have ei:=dD ay.bA;clear ay a4 c2 bn bl cv U;have a:Xo (zde m (frT pg fi ix) l=if(z6 (zi m l) l).1=Xc then(Xc,ZH (z6 (zi m l) l).2.fs,{(z6 (zi m l) l).2 with fs:=(z6 (zi m l) l).2.fs.set (ZH (z6 (zi m l) l).2.fs) (frT pg fi ix)})else(Xd,0,(z6 (zi m l) l).2)):=show _=_ from rfl;obtain⟨ck,em⟩:=kA (zde m (frT pg fi ix) l);rw[em.out]at a⊢;obtain⟨fu,ab⟩:=kA (if ck.1=Xc then(0:Int)else 10);rw[ab.out];obtain⟨E,h,f,z,F,G,H,K⟩:=pg;simp only;obtain⟨n,c8⟩:=kA w.heap.size;obtain⟨ey,Y⟩:=kB (w.alloc (Xk #[Xe Xg E,Xe Xg h,Xe Xg f,Xe Xg z,Xe Xg F,Xe Xg G,Xe Xg H,Xe Xg K] 44));have dk:=gA Y;have f7:=xPT Y c8;have ch:Xo (_=ey):=Y;have ek:Xo (¬Dw k V n):=show¬_ from fun e=>by have:=ei.out _ e;have:=c8.out;omega
 clear Y;go_enter func140,ntmps140;go_upto_region 1 with fail;rw[ch.out,c8.out];go_wp2;go_loopg[19] ax (fun c1 df wr=>∃(j:Nat)(S:MaV),j<=ax/\ax-j<=c1/\df=Xe Xf j/\Xo (ChW w0 k wr S (zi m (l.take j)))/\Xo (qC (Dw k V) w wr)/\Xo (∀p,Dw k S p->Dw k V p\/w.heap.size<=p)/\Xo (zm wr n 44 [Xe Xg E,Xe Xg h,Xe Xg f,Xe Xg z,Xe Xg F,Xe Xg G,Xe Xg H,Xe Xg K]))
 exact⟨0,V,nZ _,Wm,rfl,ej.aA dk,qC.aA dk,(fun _ ay=>.inl ay:∀p,Dw k V p->Dw k V p\/w.heap.size<=p),f7⟩;obtain⟨j,S,az,fg,rfl,W,cj,b8,cn⟩:=hrel;by_cases aq:j<ax
 ·have bp:=kC aq
  obtain⟨x,dl⟩:∃x,Xo (l[j]?=Xa x):=⟨_,gE (Rx ah.out aq)⟩;obtain⟨_,_,av,br⟩:=(cg wr cj).bT;simp only[vJ]at av;obtain⟨ft,bh,bj⟩:=br j x dl.out;rw[<-av.1]at bh;subst bh;obtain⟨du,dv⟩:=bj wr (zc.refl _);obtain⟨dy,cp,cq⟩:=ca.out j x dl.out;have b9:=dD dy;obtain⟨bv,bw⟩:=x;simp only at du dv cp cq b9;have an:=zl4 (W.aA (za wr (Xk #[Xe Xf (bv:Int),Xe Xf (bw:Int)] 95))) bv cp (bw:Int) cq;rw[<-b9.out]at an;clear av br bj dy cp cq;go_wp2_with fail;refine an.mono ?_;clear an du dv;rintro e dq⟨⟨fy,rfl⟩,X⟩;obtain⟨ex,dr,e7,dw⟩:=Chg.step cj b8 (Chg.aH (za _ _) X);have eo:=dD dr;have et:=dD e7;have ef:=dD dw;have f8:Xo (zm dq n 44 [Xe Xg E,Xe Xg h,Xe Xg f,Xe Xg z,Xe Xg F,Xe Xg G,Xe Xg H,Xe Xg K]):=show zm _ _ _ _ by
   obtain⟨_,_,fk,_⟩:=X;exact(cn.aA (za _ _)).aK fk (W.bY cn Dc Dc Dc Dc)
  clear X dr e7 dw;go_wp2;go_roundg (ax-(j+1));exact⟨j+1,ex,Wm,Wm,Gn,eo,et,ef,f8⟩;omega
 have bp:=kD aq;have ap:l.take j=l:=Xz (by rw[ah.out];omega);rw[ap]at W;have ba:Xo (Rt (zi m l)):=dD<|by have:=(c9 j az).1;rw[ap]at this;exact this
 clear ap;obtain⟨i,cd⟩:=kA (zi m l);rw[cd.out]at W ba ae a;obtain⟨L,A,al⟩:=zax ba l;have ag:=dD L.rt;have ac:=dD A;have ai:Xo (z6 i l=if Zn i.fs=0 then Q7 i l else(Xc,i)):=dD<|rfl;clear L A al;obtain⟨ew,ce⟩:=kA (z6 i l);rw[ce.out]at ag ac ai a;obtain⟨bb,d⟩:=ew;simp only at ag ac a;have r:Xp prog 167 #[Xi #[O S.f.a S.f.n S.f.c,Xe Xf i.aB]] wr fun e w'=>e=Xl (Xe Xf (Zn i.fs:Int))/\zc wr w':=by
  obtain⟨dc,-⟩:=W.at.ns;have Q:=W.at.fs;rw[dc]at Q⊢;rw[<-zpv];exact zhP S.f.a S.f.c i.fs i.aB wr Q
 obtain⟨bv,bw⟩:=W.box.box.k2;go_upto_region 6 with fail;go_cut[39] (fun dg di=>∃D:MaV,dg=Xh (!bb)/\Xo (ChW w0 k di D d)/\Xo (qC (Dw k V) w di)/\Xo (∀p,Dw k D p->Dw k V p\/w.heap.size<=p)/\Xo (zm di n 44 [Xe Xg E,Xe Xg h,Xe Xg f,Xe Xg z,Xe Xg F,Xe Xg G,Xe Xg H,Xe Xg K]))
 case first=>
  go_wp2_with fail;refine r.mono ?_;clear r bv bw;rintro e f5⟨rfl,c0⟩;have ci:=dD (W.aA c0);have bx:=dD (cj.trans (qC.aA c0));have cm:=dD (cn.aA c0);clear c0;by_cases ak:Zn i.fs=0
  ·have c5:((Zn i.fs:Int)==0)=Xc:=Rr ak
   have aa:Xo ((bb,d)=Q7 i l):=dD (by rw[ai.out,kE ak]);have ao:=ae.out ak f5 S ci (fun a6 c3=>cg.out a6 (qC.far bx b8 c3));obtain⟨ff,af⟩:=kA (Zn i.fs:Int);rw[af.out]at c5⊢;rw[<-aa.out]at ao;clear ak;go_wp2_with fail;refine ao.mono ?_;clear ao;rintro e f6⟨rfl,dp,dt,dd,dx⟩;have eu:=dD<|qC.far bx b8 dd;have eg:Xo (∀p,Dw k dp p->Dw k V p\/w.heap.size<=p):=show∀p,_ from fun p a0=>(dx p a0).elim (fun e=>b8.out p e) (fun e=>.inr (nT bx.size e));have f9:Xo (zm f6 n 44 [Xe Xg E,Xe Xg h,Xe Xg f,Xe Xg z,Xe Xg F,Xe Xg G,Xe Xg H,Xe Xg K]):=cm.aK dd (ci.bY cm Dc Dc Dc Dc);have eq:=dD dt;clear dt dd dx c5;simp only;cases bb;all_goals(go_wp2;go_meet;exact⟨dp,rfl,eq,eu,eg,f9⟩)
  have c5:((Zn i.fs:Int)==0)=Xd:=Si ak;have aa:Xo ((bb,d)=(Xc,i)):=dD (by rw[ai.out,kF ak]);obtain⟨ff,af⟩:=kA (Zn i.fs:Int);rw[af.out]at c5⊢;clear ak;have bk:=aa.out;simp only[pJ]at bk;obtain⟨rfl,rfl⟩:=bk;go_wp2;go_meet;exact⟨S,rfl,ci,bx,b8,cm⟩
 clear r bv bw;obtain⟨D,rfl,aj,dm,dj,a7⟩:=hcut;cases bb with
 |false=>
  rw[kF Dc]at a;have es:Xo (Chg w0 k w V ck.2.2 wc):=dD (by rw[a.out];exact⟨D,aj,dm,dj⟩);go_wp2;go_ret2;exact⟨by rw[<-ab.out,a.out];rfl,es⟩
 |true=>
  rw[kE rfl]at a;obtain⟨bd,cr,fv,dz,fe⟩:=zey (ac rfl);obtain⟨Q,cc⟩:=kA (ZH d.fs);rw[cc.out]at bd cr dz a;have cf:Xo (∀a6,zc wc a6->Xp prog 169 #[Xi #[O D.f.a D.f.n D.f.c,Xe Xf d.aB],Xi #[Xe Xg E,Xe Xg h,Xe Xg f,Xe Xg z,Xe Xg F,Xe Xg G,Xe Xg H,Xe Xg K],Xe Xf fi,Xe Xf ix] a6 fun e w'=>∃s:Sli,e=Xl (Xm #[Xi #[O s.a s.n s.c,Xe Xf d.aB],Xe Xf (Q:Int),Xe Xf 0])/\zb q3 wc.heap.size w' (O s.a s.n s.c) (d.fs.set Q (frT ⟨E,h,f,z,F,G,H,K⟩ fi ix))/\zc a6 w'):=dD<|fun a6 c3=>by
   obtain⟨dc,-⟩:=aj.at.ns;have p:=(aj.at.aA c3).fs;(try simp only[Sli.x]at p⊢);rw[dc]at p⊢;refine(zr9 D.f.a D.f.c d.fs d.aB ⟨E,h,f,z,F,G,H,K⟩ fi ix a6 p ag.parts.1 cb Q bd cr).mono ?_;rintro e w'⟨n,rfl,fj,g⟩;have bt:zb q3 a6.heap.size w' n (d.fs.set Q (frT ⟨E,h,f,z,F,G,H,K⟩ fi ix)):=fj;obtain⟨fa,fb,rfl,_⟩:=bt.at.rows;exact⟨⟨fa,_,fb⟩,rfl,bt.base (bS c3),g⟩
  clear bd cr dz fe;go_upto_region 8 with fail;obtain⟨u,b⟩:=Ww fun R=>zc wc R;have am:=(b _).2 (gW _);have cw:Nonempty (zh u):=⟨⟨_,am⟩⟩;have cy:=fun y:zh u=>(aj.box.box.aA ((b _).1 y.holds)).c 0 rfl;have cz:=fun y:zh u=>(aj.box.box.aA ((b _).1 y.holds)).c 1 rfl;have d2:=fun y:zh u=>(a7.box.aA ((b _).1 y.holds)).c 0 rfl;have d3:=fun y:zh u=>(a7.box.aA ((b _).1 y.holds)).c 1 rfl;have d5:=fun y:zh u=>(a7.box.aA ((b _).1 y.holds)).c 2 rfl;have d6:=fun y:zh u=>(a7.box.aA ((b _).1 y.holds)).c 3 rfl;have d8:=fun y:zh u=>(a7.box.aA ((b _).1 y.holds)).c 4 rfl;have d9:=fun y:zh u=>(a7.box.aA ((b _).1 y.holds)).c 5 rfl;have da:=fun y:zh u=>(a7.box.aA ((b _).1 y.holds)).c 6 rfl;have db:=fun y:zh u=>(a7.box.aA ((b _).1 y.holds)).c 7 rfl;refine zar (I:=u) 17 [(8,⟨.const (Xh Xd),fun v=>∃s:Sli,v=Xm #[Xi #[O s.a s.n s.c,Xe Xf d.aB],Xe Xf (Q:Int),Xe Xf 0],fun _ v R=>∃s:Sli,v=Xm #[Xi #[O s.a s.n s.c,Xe Xf d.aB],Xe Xf (Q:Int),Xe Xf 0]/\zb q3 wc.heap.size R (O s.a s.n s.c) (d.fs.set Q (frT ⟨E,h,f,z,F,G,H,K⟩ fi ix)),fun k a9=>zc k a9,fun _=>True⟩),(13,⟨.const (Xh Xd),fun v=>∃g,v=Xj (Xa ⟨g,0,Xb⟩),fun _ v R=>∃g T,v=Xj (Xa ⟨g,0,Xb⟩)/\wc.heap.size<=g/\zm R g 28 T/\T.length=2,fun k a9=>zc k a9,fun _=>True⟩),(14,⟨.tmp 14,fun _=>True,fun eb _ R=>∃g,∃s:Sli,eb=Xj (Xa ⟨g,0,Xb⟩)/\wc.heap.size<=g/\zm R g 28 [O s.a s.n s.c,Xe Xf d.aB]/\zb q3 wc.heap.size R (O s.a s.n s.c) (d.fs.set Q (frT ⟨E,h,f,z,F,G,H,K⟩ fi ix)),fun k a9=>∃g T co,wc.heap.size<=g/\k.grownBy a9 (Xa g)/\zm k g 28 co/\zm a9 g 28 T/\T.length=2,fun _=>True⟩)] am zY Kr Kr rfl rfl Dc (Sc ⟨_,zJ,rfl⟩ ⟨_,0,rfl⟩ ⟨Xh Xc,trivial⟩) ?hp ?hpre ?hpr0 ?_;case hp=>
   intro p s j ec a0 az Z e4 eb v k a9 c ar;have P:=zC a0;have t:=zC az;clear a0 az;simp only[mC,pJ,nM,or_false]at P t;rcases P with⟨rfl,rfl⟩|⟨rfl,rfl⟩|⟨rfl,rfl⟩
   ·obtain⟨s,L,A⟩:=ar
    rcases t with⟨rfl,rfl⟩|⟨rfl,rfl⟩|⟨rfl,rfl⟩;·exact absurd rfl Z
    ·exact⟨s,L,A.aA c⟩
    obtain⟨be,T,co,fl,de,e8,e9,ea⟩:=c;exact⟨s,L,A.grown de fun g cu e=>by cases e;exact A.ne e8 Dc be cu rfl⟩
   ·obtain⟨g,T,L,A,al,X⟩:=ar
    rcases t with⟨rfl,rfl⟩|⟨rfl,rfl⟩|⟨rfl,rfl⟩;·exact⟨g,T,L,A,al.aA c,X⟩
    ·exact absurd rfl Z
    obtain⟨be,fc,co,fl,de,e8,e9,ea⟩:=c;by_cases e:g=be;·subst e;exact⟨g,_,L,A,e9,ea⟩
    exact⟨g,T,L,A,al.beside de (fun p a0=>by cases a0;exact e),X⟩
   obtain⟨g,s,L,A,al,X⟩:=ar;rcases t with⟨rfl,rfl⟩|⟨rfl,rfl⟩|⟨rfl,rfl⟩;·exact⟨g,s,L,A,al.aA c,X.aA c⟩
   ·exact⟨g,s,L,A,al.aA c,X.aA c⟩
   exact absurd rfl Z
  case hpre=>
   intro j ec p s az a0 Z k a9 c au;have t:=zC az;simp only[mC,pJ,nM,or_false]at t;rcases t with⟨rfl,rfl⟩|⟨rfl,rfl⟩|⟨rfl,rfl⟩<;>trivial
  case hpr0=>
   intro p ec a0;have P:=zC a0;simp only[mC,pJ,nM,or_false]at P;rcases P with⟨rfl,rfl⟩|⟨rfl,rfl⟩|⟨rfl,rfl⟩<;>trivial
  simp only[Yk,Yl];refine za4 rfl rfl rfl (fun en e0=>?_);go_big_quiet_op;refine e0 _ ?_;clear e0 en;refine zeo (.tmp 41) ⟨k,0,Xb⟩ rfl rfl rfl rfl ?_;refine Uq ?_;iterate 6 refine Qe ?_
  refine Zr rfl rfl (fun w' q au U=>?_) (fun ed a4=>?_);·refine zO.call [Xi #[O D.f.a D.f.n D.f.c,Xe Xf d.aB],Xi #[Xe Xg E,Xe Xg h,Xe Xg f,Xe Xg z,Xe Xg F,Xe Xg G,Xe Xg H,Xe Xg K],Xe Xf fi,Xe Xf ix] rfl func169 rfl rfl rfl ?_;refine(cf w' ((b _).1 q)).mono ?_;rintro e dh⟨s,rfl,aw,c1⟩;exact⟨_,rfl,(b _).2 (((b _).1 q).trans c1),c1,⟨s,rfl⟩,s,rfl,aw⟩
  obtain⟨s,rfl⟩:=a4;refine Uq ?_;iterate 4 refine Qe ?_
  refine Zr rfl rfl (fun w' q au U=>?_) (fun ed a4=>?_);·refine zO.step (v:=Xj (Xa ⟨w'.heap.size,0,Xb⟩)) (w':=w'.alloc (Xk #[O Xb 0 0,Xe Xf 0] 28)) (zhv rfl) ⟨(b _).2 (((b _).1 q).trans (za _ _)),za _ _,⟨_,rfl⟩,_,_,rfl,bS ((b _).1 q),zm.aE _ [O Xb 0 0,Xe Xf 0] _ rfl,rfl⟩
  obtain⟨bu,rfl⟩:=a4;refine Uq ?_;refine Zr rfl rfl (fun w' q au U=>?_) (fun ed a4=>?_)
  ·obtain⟨g,T,M,B,N,bm⟩:=U 13 Kr
   simp only[Value.pointer.injEq,Option.some.injEq,Addr.mk.injEq,and_true]at M;subst M;obtain⟨C,e5,aw⟩:=U 8 Kr;have cx:C=s:=by
    obtain⟨fo,fp,fq⟩:=s;obtain⟨h,f,z⟩:=C;simp only[Value.tuple.injEq,Array.mk.injEq,List.cons.injEq,Value.agg.injEq,vJ,and_true]at e5;obtain⟨rfl,rfl,rfl⟩:=e5;rfl
   subst cx;refine zO.bH 28 (.tmp 14) (.tmp 50) rfl bu rfl [O C.a C.n C.c,Xe Xf d.aB] rfl N (Rr bm) (by rw[bm];kernel_rfl) (by simp[Value.oneCell']) fun dh h f z=>?_;exact⟨(b _).2 (zd ((b _).1 q) f B),⟨bu,_,_,B,f,N,h,rfl⟩,trivial,bu,C,rfl,B,h,aw.grown f fun g cu e=>by cases e;exact aw.ne N Dc bu cu rfl⟩
  simp only[Yd];iterate 2 refine Qe ?_
  refine zcc fun dq bg U=>?_;obtain⟨be,C,M,N,B,aw⟩:=U 14;have a8:(Value.pointer (Xa ⟨bu,0,Xb⟩):Xq)=Xj (Xa ⟨be,0,Xb⟩):=M;simp only[Value.pointer.injEq,Option.some.injEq,Addr.mk.injEq,and_true]at a8;subst a8;have ct:=(b _).1 bg;have eh:=dD ct;have dn:=dD B;have ev:=dD aw;have ee:=dD (aj.box.aA ct);clear U bg am cw cy cz d2 d3 d5 d6 d8 d9 da db ct M B N aw;obtain⟨fd,bd⟩:=dn.box.k2;go_upto_region 12 with(refine ZW rfl 28 (.tmp 60) (.tmp 57) rfl k 0 rfl (Xi #[O C.a C.n C.c,Xe Xf d.aB]) rfl [O C.a C.n C.c,Xe Xf d.aB] rfl ee (by simp[chL]) Kr (by simp[Value.oneCell']) ?_)
  intro ez bc bf _;have ep:Xo (Chg w0 k w V ck.2.2 ez):=dD<|by
   rw[a.out];exact Chg.step dm dj (aj.bK eh ev bf bc)
  clear fd bd bc bf;go_wp2;go_ret2;exact⟨by rw[<-ab.out,a.out];rfl,ep⟩
theorem zl6(ab:ChW w0 k w V m)(ac:Rt m)(pg:Pg)(R)(l:List (Nat×Nat))(a8:zmm zbc (Dw k V) w R l)(a5:∀x∈l,x.2<64/\∃s,m.sp[x.1]?=Xa s)(bw:l≠[])(bu:l.length<=900)
  (bv:Zn (zi m l).fs=0->∀z U,ChW w0 k z U (zi m l)->zmm zbc (Dw k U) z R l->Xp prog 168 #[Xj (Xa ⟨k,0,Xb⟩),R] z fun e w'=>e=Xl (Xh (Q7 (zi m l) l).1)/\Chg w0 k z U (Q7 (zi m l) l).2 w'):
  Xp prog 114 #[Xj (Xa ⟨k,0,Xb⟩),Xi #[U8 pg.b0,U8 pg.b1,U8 pg.b2,U8 pg.b3,U8 pg.b4,U8 pg.b5,U8 pg.b6,U8 pg.b7],R] w fun e w'=>e=Xl (Xm #[I6 ((ZN m pg l).2.1:Int),I6 (if(ZN m pg l).1=Xc then 0 else 10)])/\Chg w0 k w V (ZN m pg l).2.2 w':=by
 have bk:=dD a8;have d8:=dD ab;have d7:=dD ab.bA;have aq:=zax (qS l ac a5).1.rt l;have aj:=dD<|(qS l ac a5).1.aW.aI;have ck:Xo (∀x∈l,x.2<64/\x.1<m.sp.length):=show∀x∈l,_ from fun x a9=>by
  obtain⟨ay,s,H⟩:=a5 x a9;exact⟨ay,(gS.1 H).1⟩
 obtain⟨f,g,h,i,p,n,q,r⟩:=pg;simp only;have G:Xo (∀W,zc w W->Xp prog 140 #[Xj (Xa ⟨k,0,Xb⟩),Xi #[U8 f,U8 g,U8 h,U8 i,U8 p,U8 n,U8 q,U8 r],I6 (-1),I6 0,R] W fun e w'=>e=Xl (Xm #[I6 ((zde m (frT ⟨f,g,h,i,p,n,q,r⟩ (-1) 0) l).2.1:Int),I6 (if(zde m (frT ⟨f,g,h,i,p,n,q,r⟩ (-1) 0) l).1=Xc then 0 else 10)])/\Chg w0 k W V (zde m (frT ⟨f,g,h,i,p,n,q,r⟩ (-1) 0) l).2.2 w'):=dD<|fun W ae=>zfT (ab.aA ae) ac ⟨f,g,h,i,p,n,q,r⟩ (-1) 0 (zjD (.inl ⟨rfl,rfl⟩)) R l (fun z t=>a8 z ((qC.aA ae).trans t)) a5 bv;have a:Xo (ZN m ⟨f,g,h,i,p,n,q,r⟩ l=if(z6 (zi m l) l).1=Xc then(Xc,ZH (z6 (zi m l) l).2.fs,zbJ (z6 (zi m l) l).2 (ZH (z6 (zi m l) l).2.fs) ⟨f,g,h,i,p,n,q,r⟩ Xc l)else(Xd,0,(z6 (zi m l) l).2)):=dD<|rfl;have c:Xo (zde m (frT ⟨f,g,h,i,p,n,q,r⟩ (-1) 0) l=if(z6 (zi m l) l).1=Xc then(Xc,ZH (z6 (zi m l) l).2.fs,{(z6 (zi m l) l).2 with fs:=(z6 (zi m l) l).2.fs.set (ZH (z6 (zi m l) l).2.fs) (frT ⟨f,g,h,i,p,n,q,r⟩ (-1) 0)})else(Xd,0,(z6 (zi m l) l).2)):=dD<|rfl;obtain⟨ah,ci⟩:=kA (ZN m ⟨f,g,h,i,p,n,q,r⟩ l);obtain⟨d9,cl⟩:=kA (zde m (frT ⟨f,g,h,i,p,n,q,r⟩ (-1) 0) l);rw[ci.out]at a⊢;obtain⟨dd,C⟩:=kA (if ah.1=Xc then(0:Int)else 10);rw[C.out];rw[cl.out]at c G;obtain⟨t,bs,-⟩:=aq;have F:Xo ((z6 (zi m l) l).2.sp.length=m.sp.length):=dD<|by rw[t.aW.aI,aj.out]
 have E:=dD t.rt;have D:=dD bs;obtain⟨df,dg,rfl,be⟩:=(a8 w (qC.refl _ _)).bT;have a1:=(a8 w (qC.refl _ _)).short;clear t bs ab a8 ac a5 bv be;obtain⟨cq,ar⟩:=kA (z6 (zi m l) l);rw[ar.out]at E D a c F;obtain⟨cv,bf⟩:=cq;simp only at E D a c F;have an:=dD bw;have am:=dD bu;clear bw bu;obtain⟨P,v⟩:=kA l.length;rw[v.out]at bk G a1⊢;obtain⟨H,bj⟩:=kA w.heap.size;obtain⟨cs,A⟩:=kB (w.alloc (Xk #[U8 f,U8 g,U8 h,U8 i,U8 p,U8 n,U8 q,U8 r] 44));have ai:=gA A;have cu:=xPT A bj;have au:=dD A;clear A;have b:=G.out cs ai.out;go_enter func114,ntmps114;go_upto_region 1 with fail;rw[au.out,bj.out];obtain⟨c6,c7,c8,c9,ca,cb,cc,cd⟩:=cu.box.c8;cases cv with
 |false=>
  rw[kF Dc]at a c;rw[c.out]at b;simp only[Ot,if_false]at b;go_wp2_with fail;refine b.mono ?_;clear b c6 c7 c8 c9 ca cb cc cd;rintro e z⟨rfl,t⟩;have av:Xo (Chg w0 k w V ah.2.2 z):=dD<|Rx a.out (Chg.aH ai t);clear t;go_wp2;go_ret2;exact⟨by rw[<-C.out,a.out];rfl,av⟩
 |true=>
  rw[kE rfl]at a c;obtain⟨cx,cy,de,bb,cz⟩:=zey (D rfl);obtain⟨d,al⟩:=kA (ZH bf.fs);rw[al.out]at bb c a;obtain⟨az,b8,bm⟩:=zl9 E bb ⟨f,g,h,i,p,n,q,r⟩ (fun x a9=>by rw[F.out];exact ck x a9) an am.out;rw[<-bm]at a;clear bm;rw[c.out]at b;simp only[if_true]at b;obtain⟨B,ap⟩:∃B:Ma,Xo (({bf with fs:=bf.fs.set d (frT ⟨f,g,h,i,p,n,q,r⟩ (-1) 0)}:Ma)=B):=⟨_,rfl⟩;rw[ap.out]at a az b8 b;have cj:Xo (∀j,j<=P->∀x,l[j]?=Xa x->Zm (zz B d (l.take j)).fs (zz B d (l.take j)).aB (d:Int) 1=0/\zz B d (l.take (j+1))=zhZ (zz B d (l.take j)) x.1 (x.2:Int) (d:Int)/\x.1<(zz B d (l.take j)).sp.length):=dD<|fun j bd x a9=>(az j (Rx v.out bd)).2 x a9;have S:=dD b8;clear az b8 cx cy bb cz;go_wp2_with fail;refine b.mono ?_;clear b c6 c7 c8 c9 ca cb cc cd;rintro e z⟨rfl,t⟩;obtain⟨U,bx,c0,Y⟩:=Chg.aH ai t;have cm:=dD bx;have co:=dD c0;have cf:=dD Y;clear t bx c0 Y;go_wp2;go_loopg[24] P (fun d3 bh wr=>∃(j:Nat)(Q:MaV),j<=P/\P-j<=d3/\bh=I6 j/\Xo (ChW w0 k wr Q (zz B d (l.take j)))/\Xo (qC (Dw k V) w wr)/\Xo (∀N,Dw k Q N->Dw k V N\/w.heap.size<=N))
  exact⟨0,U,nZ _,Wm,rfl,cm,co,cf⟩;obtain⟨j,Q,bd,d5,rfl,y,aw,bi⟩:=hrel;by_cases L:j<P
  ·have a6:=kC L
   obtain⟨x,bl⟩:∃x,Xo (l[j]?=Xa x):=⟨_,gE (Rx v.out L)⟩;obtain⟨_,_,M,a7⟩:=(bk wr aw).bT;simp only[vJ]at M;obtain⟨dc,a0,a2⟩:=a7 j x bl.out;rw[<-M.1]at a0;subst a0;obtain⟨bp,Y⟩:=a2 wr (zc.refl _);obtain⟨b9,br,ba⟩:=cj.out j bd x bl.out;have T:=dD br;obtain⟨af,ag⟩:=x;simp only at bp Y b9 ba T;have K:=zcR (y.aA (za wr (Xk #[I6 (af:Int),I6 (ag:Int)] 95))) af ba (ag:Int) (d:Int) b9;rw[<-T.out]at K;clear M a7 a2 b9 br ba;go_wp2_with fail;refine K.mono ?_;clear K bp Y;rintro e da⟨⟨dh,rfl⟩,bt⟩;obtain⟨cr,bn,c5,bq⟩:=Chg.step aw bi (Chg.aH (za _ _) bt);have cn:=dD bn;have cp:=dD c5;have cg:=dD bq;clear bt bn c5 bq;go_wp2;go_roundg (P-(j+1));exact⟨j+1,cr,Wm,Wm,Gn,cn,cp,cg⟩;omega
  have a6:=kD L;have a4:l.take j=l:=Xz (by rw[v.out];omega);rw[a4]at y;clear a4;obtain⟨u,ao⟩:=kA (zz B d l);rw[ao.out]at y S a;have ak:Xo (∀W,zc wr W->Xp prog 121 #[Xi #[Q.f.x,I6 u.aB],I6 (d:Int),I6 (-1)] W fun e w'=>∃H:Sli,e=Xl (Xm #[Xi #[H.x,I6 u.aB],I6 0])/\zb q3 W.heap.size w' (H.x) (Jz u.fs u.aB (d:Int) (-1))/\zc W w'):=dD<|fun W ae=>by
   obtain⟨d6,-⟩:=y.at.ns;have N:=(y.at.aA ae).fs;(try simp only[Sli.x]at N⊢);rw[d6]at N⊢;refine(zgM Q.f.a Q.f.c u.fs u.aB (d:Int) (-1) W N S).mono ?_;rintro e w'⟨H,rfl,bz,d2⟩;have bg:zb q3 W.heap.size w' H (Jz u.fs u.aB (d:Int) (-1)):=bz;obtain⟨ay,cw,rfl,_⟩:=bg.at.rows;exact⟨⟨ay,_,cw⟩,rfl,bz,d2⟩
  obtain⟨af,ag⟩:=y.box.box.k2;have a3:=ak.out wr (zc.refl _);go_wp2_with fail;refine a3.mono ?_;clear a3 af ag;rintro e db⟨s,rfl,aa,bc⟩;have ch:=dD bc;have ax:=dD aa;have ce:=dD (y.box.aA bc);clear aa bc;go_upto_region 10 with(refine ZW rfl 28 (.tmp 46) (.tmp 42) rfl k 0 rfl (Xi #[s.x,I6 u.aB]) rfl [s.x,I6 u.aB] rfl ce (by simp[chL]) Kr (by simp[Value.oneCell']) ?_)
  intro ct X Z _;have I:=y.bK ch ax Z X;have av:Xo (Chg w0 k w V ah.2.2 ct):=dD<|Rx a.out (Chg.step aw bi I);clear I X Z;go_wp2;go_ret2;exact⟨by rw[<-C.out,a.out];rfl,av⟩
theorem qC.row{a:Option Nat}(g:w.grownBy w' a):qC (fun k=>a=Xa k) w w':=⟨g.os,g.tape,g.output,g.size,fun i b c=>g.block i b (fun e=>c e.symm)⟩
theorem zjj{t:Ca}:∀{ca:List Ca},zet ca t=Xc->zdh ca t<ca.length
 |[],h=>by cases h
 |c::l,h=>by
  unfold zdh;rw[Yn]
  split
  ·rename_i a
   have a:=of_decide_eq_true a;have b:zet l t=Xc:=by
    unfold zet at h⊢;rw[List.any_cons,Bool.or_eq_true]at h;rcases h with e|e;·have:=of_decide_eq_true e;omega
    exact e
   have:=zjj b;unfold zdh at this;simp only[Ym];omega
  exact Nat.succ_pos _
theorem zio(h:ChW w0 k w V m)(s:m.ca.Pairwise fun a b=>zZ a<zZ b)(hi:∀c∈m.ca,0<=c.idx/\c.idx<100)(g:m.ca.length<=1000)(file idx:Int)(ht:0<=idx/\idx<100):
  Xp prog 111 #[Xj (Xa ⟨k,0,Xb⟩),Xe Xf file,Xe Xf idx] w fun e w'=>((zet m.ca ⟨file,idx,0⟩=Xd/\e=Xl (Xm #[Xe Xf 0,Xh Xd]))\/(zet m.ca ⟨file,idx,0⟩=Xc/\∀c,m.ca[zdh m.ca ⟨file,idx,0⟩]?=Xa c->e=Xl (Xm #[Xe Xf c.fr,Xh Xc])))/\zc w w':=by
 have d:=zbI h s hi g file idx ht;obtain⟨P,i⟩:=kA (zdh m.ca ⟨file,idx,0⟩);rw[i.out]at d⊢;have y:=dD h;have u:=dD h.at.ca.n;cases p:zet m.ca ⟨file,idx,0⟩with
 |false=>
  rw[p]at d;clear p h s hi g ht;go_enter func111,ntmps111;go_wp2_with fail;refine d.mono ?_;clear d;rintro e v⟨rfl,f⟩;have q:=dD f;clear f;go_wp2;go_ret2;exact⟨.inl ⟨by first|rfl|trivial,rfl⟩,q⟩
 |true=>
  rw[p]at d;have l:P<m.ca.length:=by
   rw[<-i.out];exact zjj p
  obtain⟨c,t⟩:∃c,Xo (m.ca[P]?=Xa c):=⟨_,gE l⟩;have n:(P:Int)<(V.ca.n:Int):=by rw[u.out];omega
  obtain⟨x,j,i⟩:=h.ca.aG Wm;have z:Xo (zb jF w0.heap.size w (O (Xa ⟨x,0,Xb⟩) m.ca.length j) m.ca):=dD<|Ry i h.ca;have r:=dD i;obtain⟨j,j⟩:=kA m.ca.length;rw[u.out,j.out]at n;clear p h s hi g ht l i;go_enter func111,ntmps111;go_wp2_with fail;refine d.mono ?_;clear d;rintro e v⟨rfl,f⟩;have q:=dD f;have d:=(y.box.aA f).box.c 9 rfl;rw[r.out,j.out]at d;have d:v.cell? ⟨x,P*3+2,Xb⟩=Xa (Xe Xf c.fr):=by
   have:=(z.aA f).one t 2 _ rfl;rw[zX,Xw,zA]at this;exact this
  clear f;go_wp2;go_ret2;refine⟨.inr ⟨by first|rfl|trivial,fun d d=>?_⟩,q⟩;rw[t.out]at d;cases d;rfl
def ZU(m:Ma)(pg:Pg)(ic wr:Bool)(q n:Nat):Bool×Nat×Ma:=
 if(Z6 m q (n:Int)).kind=1/\ic=Xc/\(wr=Xd\/(z1 m (Z6 m q (n:Int)).n).r=1)then(Xc,(Z6 m q (n:Int)).n.toNat,m)
 else if(Z6 m q (n:Int)).kind=2/\wr=Xd then ZN m pg (jM m 2 (Z6 m q (n:Int)).n m.sp.length)
 else ZN m pg [(q,n)]
theorem zkz(a:m.sp[k]?=Xa s)(c:b<64)(q:(ze s b).kind=2):(k,b)∈jM m 2 (ze s b).n m.sp.length:=
 (zaK Dc (nR _)).2 ⟨(gS.1 a).1,c,s,a,by unfold isE;simp[q]⟩
theorem zi0(b9:ChW w0 k w V m)(ap:Rt m)(q n:Nat)(s)(aq:m.sp[q]?=Xa s)(be:n<64)(a:Ar)(pg:Pg)(ic wr:Bool)
  (ck:∀(l:List (Nat×Nat))(M:Xq),(∀x∈l,x.2<64/\∃s,m.sp[x.1]?=Xa s)->Zn (zi m l).fs=0->∀an c0,ChW w0 k an c0 (zi m l)->zmm zbc (Dw k c0) an M l->Xp prog 168 #[Xj (Xa ⟨k,0,Xb⟩),M] an fun e w'=>e=Xl (Xh (Q7 (zi m l) l).1)/\Chg w0 k an c0 (Q7 (zi m l) l).2 w'):
  Xp prog 71 #[Xi #[Xj (Xa ⟨k,0,Xb⟩),I6 (q:Int),I6 (n:Int),I6 a.fr,I6 a.tz,Xh a.rd,Xh a.wr,Xh a.sh,I6 a.file,I6 a.base,U8 pg.b0,U8 pg.b1,U8 pg.b2,U8 pg.b3,U8 pg.b4,U8 pg.b5,U8 pg.b6,U8 pg.b7,Xh ic,Xh wr]] w fun e w'=>e=Xl (Xm #[I6 ((ZU m pg ic wr q n).2.1:Int),I6 (if(ZU m pg ic wr q n).1=Xc then 0 else 10)])/\Chg w0 k w V (ZU m pg ic wr q n).2.2 w':=by
 have ac:=dD b9;have cv:=dD<|(gS.1 aq).1;have cf:=dD b9.bA;have bu:Xo (Z6 m q (n:Int)=ze s n):=show _=_ by unfold Z6;rw[Sp.aJ aq,Qq be]
 obtain⟨e,bt⟩:=kA (Z6 m q (n:Int));have Q:Xo (ze s n=e):=dD<|by rw[<-bu.out,bt.out]
 have ay:Xo (e.kind=1->∃(B:Nat)(fr:Fr),e.n=(B:Int)/\m.fs[B]?=Xa fr):=dD<|fun ak=>by
  obtain⟨d8,fr,ch,d1,_⟩:=ap.aO aq be (Rx Q.out ak);rw[Q.out]at ch;exact⟨d8,fr,ch,d1⟩
 have aa:Xo (ZU m pg ic wr q n=if e.kind=1/\ic=Xc/\(wr=Xd\/(z1 m e.n).r=1)then(Xc,e.n.toNat,m)else if e.kind=2/\wr=Xd then ZN m pg (jM m 2 e.n m.sp.length)else ZN m pg [(q,n)]):=dD<|by unfold ZU;rw[bt.out]
 have bw:Xo (∀x∈[(q,n)],x.2<64/\∃s,m.sp[x.1]?=Xa s):=dD<|fun x ar=>by rw[Yc.1 ar];exact⟨be,s,aq⟩
 have bx:Xo (e.kind=2->(∀x∈jM m 2 e.n m.sp.length,x.2<64/\∃s,m.sp[x.1]?=Xa s)/\jM m 2 e.n m.sp.length≠[]/\(jM m 2 e.n m.sp.length).length<=900):=dD<|fun ak=>by
  refine⟨fun x ar=>?_,fun cz=>?_,?_⟩;·obtain⟨a,s,d,_⟩:=zc4 ap x ar;exact⟨a,s,d⟩
  ·have:=zkz aq be (Rx Q.out ak)
   rw[Q.out,cz]at this;cases this
  have a7:=zci m 2 e.n m.sp.length;have af:=ap.inv.aI;omega
 have ct:=dD ap.inv.aI;have ab:Xo (∀W M l,zc w W->zmm zbc (Dw k V) W M l->(∀x∈l,x.2<64/\∃s,m.sp[x.1]?=Xa s)->l≠[]->l.length<=900->Xp prog 114 #[Xj (Xa ⟨k,0,Xb⟩),Xi #[U8 pg.b0,U8 pg.b1,U8 pg.b2,U8 pg.b3,U8 pg.b4,U8 pg.b5,U8 pg.b6,U8 pg.b7],M] W fun e w'=>e=Xl (Xm #[I6 ((ZN m pg l).2.1:Int),I6 (if(ZN m pg l).1=Xc then 0 else 10)])/\Chg w0 k W V (ZN m pg l).2.2 w'):=show∀W,_ from fun W M l bc al cl d2 d3=>zl6 (b9.aA bc) ap pg M l al cl d2 d3 (ck l M cl);have bv:=dD<|fun W(bc:zc w W)=>zcr (b9.aA bc) 2 e.n ct.out;obtain⟨S,T,U,X,Y,Z,a0,a1⟩:=pg;simp only at ab⊢;obtain⟨a5,br⟩:=kA (ZU m ⟨S,T,U,X,Y,Z,a0,a1⟩ ic wr q n);rw[br.out]at aa⊢;obtain⟨d0,P⟩:=kA (if a5.1=Xc then(0:Int)else 10);rw[P.out];clear ap aq be ck;obtain⟨d,ce⟩:=kA w.heap.size;obtain⟨an,a2⟩:=kB (w.alloc (Xk #[Xj (Xa ⟨k,0,Xb⟩),I6 (q:Int),I6 (n:Int),I6 a.fr,I6 a.tz,Xh a.rd,Xh a.wr,Xh a.sh,I6 a.file,I6 a.base,U8 S,U8 T,U8 U,U8 X,U8 Y,U8 Z,U8 a0,U8 a1,Xh ic,Xh wr] 97));have cd:=gA a2;have cg:=xPT a2 ce;have bz:=dD a2;clear a2;have aj:=Qh (ac.aA cd) q cv (n:Int);rw[bt.out]at aj;go_enter func71,ntmps71;go_upto_region 1 with fail;rw[bz.out,ce.out];obtain⟨u0,u1,u2⟩:=cg.box.c3;go_wp2_with fail;refine aj.mono ?_;clear aj u0 u1 u2 b9;rintro c8 b8⟨rfl,ci⟩;unfold enV;go_upto_region 2 with fail;obtain⟨ao,aw⟩:=kA b8.heap.size;obtain⟨L,a3⟩:=kB (b8.alloc (Xk #[I6 e.kind,I6 e.n,Xh e.wr] 55));have ae:zc an L:=by rw[<-a3];exact ci.trans (za _ _)
 have c2:=xPT a3 aw;have bo:=dD (cg.aA ae);have bq:=dD (cd.trans ae);rw[a3,aw.out];clear a3 ae ci;obtain⟨am,u⟩:=kA (decide (e.kind=1/\ic=Xc/\(wr=Xd\/(z1 m e.n).r=1)));go_cut[36] (fun c9 cc=>c9=Xh am/\Xo (zc L cc))
 case first=>
  have z:Nonempty (zj L):=⟨⟨_,zc.refl _⟩⟩;have a4:=fun y:zj L=>(c2.box.aA y.aA).c 0 rfl;have i:=fun y:zj L=>(c2.box.aA y.aA).c 1 rfl;have A:=fun y:zj L=>(bo.box.aA y.aA).c 0 rfl;have p:=fun y:zj L=>(bo.box.aA y.aA).c 18 rfl;have r:=fun y:zj L=>(bo.box.aA y.aA).c 19 rfl;by_cases b:e.kind=1
  ·have h:(e.kind==1)=Xc:=Rr b
   obtain⟨B,fr,a7,af⟩:=ay.out b;cases ic with
   |false=>
    have G:am=Xd:=(by rw[<-u.out];simp);subst G;clear b;refine jK [] zY Kr Sm Sm ?_;iterate 2 refine zf ?_
    refine JI rfl rfl rfl (fun R j=>?_);go_big_quiet_op;(try rw[h]);refine j _ ?_;clear j R;iterate 5 refine zf ?_
    iterate 18 (refine Zu rfl ?_;simp only[Yd,sB,sS,sZ])
    refine zf ?_;refine z5 fun c1 F _=>?_;have E:=dD F;clear F z a4 i A p r;go_wp2;go_meet;exact⟨rfl,E⟩
   |true=>
    cases wr with
    |false=>
     have G:am=Xc:=(by rw[<-u.out];simp[b]);subst G;clear b;refine jK [] zY Kr Sm Sm ?_;iterate 2 refine zf ?_
     refine JI rfl rfl rfl (fun R j=>?_);go_big_quiet_op;(try rw[h]);refine j _ ?_;clear j R;iterate 9 refine zf ?_
     iterate 13 (refine Zu rfl ?_;simp only[Yd,sB,sS,sZ])
     iterate 2 refine zf ?_
     refine z5 fun c1 F _=>?_;have E:=dD F;clear F z a4 i A p r;go_wp2;go_meet;exact⟨rfl,E⟩
    |true=>
     obtain⟨cs,au⟩:=kA (fr.r==1);have G:am=cs:=by
      rw[<-u.out,<-au.out,a7,zL af];simp[b];exact Bool.beq_eq_decide_eq ..|>.symm
     subst G;obtain⟨ad,a8,bd⟩:=ac.at.bC B fr af;obtain⟨d9,-⟩:=ac.at.ns;have d5:(B:Int)<(V.f.n:Int):=by
      have:=(gS.1 af).1;omega
     have d6:∀y:zj L,y.world.cell? ⟨k,0,Xb⟩=Xa (O (Xa ad) V.f.n V.f.c):=fun y=>by
      have:=(ac.box.box.aA (bq.trans y.aA)).c 0 rfl;rw[a8]at this;exact this
     have d4:=fun y:zj L=>(bd _ (bq.trans y.aA)).2.2.2.2.2.2.2.2.1;have c4:=au.out;rw[a7]at i;clear b a7 af bd a8 d9;refine jK [] zY Kr Sm Sm ?_;iterate 2 refine zf ?_
     refine JI rfl rfl rfl (fun R j=>?_);go_big_quiet_op;(try rw[h]);refine j _ ?_;clear j R;iterate 11 refine zf ?_
     refine zku (.tmp 23) ⟨k,0,Xb⟩ rfl rfl rfl rfl ?_;refine Uq ?_;iterate 9 refine zf ?_
     refine JI rfl rfl rfl (fun R j=>?_);go_big_quiet_op;(try rw[c4]);refine j _ ?_;clear j R;iterate 2 refine zf ?_
     refine z5 fun c1 F _=>?_;have E:=dD F;clear F z a4 i A p r;go_wp2;go_meet;exact⟨rfl,E⟩
  have h:(e.kind==1)=Xd:=Si b;have G:am=Xd:=by rw[<-u.out];simp[b]
  subst G;clear b;refine jK [] zY Kr Sm Sm ?_;iterate 2 refine zf ?_
  refine JI rfl rfl rfl (fun R j=>?_);go_big_quiet_op;(try rw[h]);refine j _ ?_;clear j R;refine zf ?_;iterate 2 (refine Zu rfl ?_;simp only[Yd,sB,sS,sZ])
  iterate 2 refine zf ?_
  iterate 18 (refine Zu rfl ?_;simp only[Yd,sB,sS,sZ])
  refine zf ?_;refine z5 fun c1 F _=>?_;have E:=dD F;clear F z a4 i A p r;go_wp2;go_meet;exact⟨rfl,E⟩
 obtain⟨rfl,E⟩:=hcut;have D:=dD (bo.aA E);have bp:=dD (c2.aA E);have K:=dD (bq.trans E);obtain⟨dd,cr⟩:=bp.box.k2;cases am with
 |true=>
  have ah:=of_decide_eq_true u.out;obtain⟨B,fr,a7,af⟩:=ay.out ah.1;have t:Xo (a5=(Xc,B,m)):=dD (by rw[aa.out,kE ah,a7,tN]);have az:Xo (Chg w0 k w V a5.2.2 wc):=dD<|Rx t.out (Chg.refl ac K.out);rw[a7]at cr;clear ah a7 af;go_wp2;go_ret2;exact⟨by rw[<-P.out,t.out];rfl,az⟩
 |false=>
  have a6:Xo (a5=if e.kind=2/\wr=Xd then ZN m ⟨S,T,U,X,Y,Z,a0,a1⟩ (jM m 2 e.n m.sp.length)else ZN m ⟨S,T,U,X,Y,Z,a0,a1⟩ [(q,n)]):=dD (by rw[aa.out,kF (of_decide_eq_false u.out)]);obtain⟨bn,N⟩:=kA (decide (e.kind=2/\wr=Xd));have u19:=D.box.c 19 rfl;go_upto_region 4 with fail;go_cut[46] (fun ca cc=>ca=Xh bn/\cc=wc)
  case first=>
   by_cases v:e.kind=2
   ·have h:(e.kind==2)=Xc:=Rr v
    have G:bn=!wr:=(by rw[<-N.out];cases wr<;>simp[v]);subst G;clear v;cases wr;all_goals(go_wp2;go_meet;exact⟨rfl,rfl⟩)
   have h:(e.kind==2)=Xd:=Si v;have G:bn=Xd:=(by rw[<-N.out];simp[v]);subst G;clear v;go_wp2;go_meet;exact⟨rfl,rfl⟩
  obtain⟨rfl,c5⟩:=hcut;subst c5;clear u19 dd cr;cases bn with
  |false=>
   have t:Xo (a5=ZN m ⟨S,T,U,X,Y,Z,a0,a1⟩ [(q,n)]):=dD (by rw[a6.out,kF (of_decide_eq_false N.out)]);obtain⟨u0,u1,u2⟩:=D.box.c3;have u10:=D.box.c 10 rfl;have u11:=D.box.c 11 rfl;have u12:=D.box.c 12 rfl;have u13:=D.box.c 13 rfl;have u14:=D.box.c 14 rfl;have u15:=D.box.c 15 rfl;have u16:=D.box.c 16 rfl;have u17:=D.box.c 17 rfl;have av:=ab.out (wc.alloc (Xk #[I6 (q:Int),I6 (n:Int)] 95)) (O (Xa ⟨wc.heap.size,0,Xb⟩) 1 1) [(q,n)] (K.trans (za _ _)) (q9.aV (base:=wc.heap.size) ⟨Zp zbc wc (q,n) _ _ rfl Dc,fun x n dg e=>by cases e;exact nR _⟩ (fun B ak=>Yp (cf B ak) (bS K))) bw Sm Sm;rw[<-t.out,P.out]at av;go_wp2_with fail;refine av.mono ?_;clear u0 u1 u2 u10 u11 u12 u13 u14 u15 u16 u17;rintro c8 de⟨rfl,cj⟩;have az:=dD<|Chg.aH (K.trans (za _ _)) cj;clear cj;go_wp2;go_ret2;exact⟨rfl,az⟩
  |true=>
   have ah:=of_decide_eq_true N.out;have t:Xo (a5=ZN m ⟨S,T,U,X,Y,Z,a0,a1⟩ (jM m 2 e.n m.sp.length)):=dD (by rw[a6.out,kE ah]);obtain⟨cm,cn,co⟩:=bx.out ah.1;have cu:Xo (∀W a9,zc w W->zb zbc W.heap.size W a9 (jM m 2 e.n m.sp.length)->True):=dD<|fun _ _ _ _=>trivial;have ai:=fun W M bc al=>ab.out W M (jM m 2 e.n m.sp.length) bc al cm cn co;rw[<-t.out,P.out]at ai;have bs:=dD ai;clear ai ah cm cn co;go_upto_region 5 with fail;obtain⟨f,c⟩:=Ww fun C=>zm C d 97 [Xj (Xa ⟨k,0,Xb⟩),I6 (q:Int),I6 (n:Int),I6 a.fr,I6 a.tz,Xh a.rd,Xh a.wr,Xh a.sh,I6 a.file,I6 a.base,U8 S,U8 T,U8 U,U8 X,U8 Y,U8 Z,U8 a0,U8 a1,Xh ic,Xh wr]/\zm C ao 55 [I6 e.kind,I6 e.n,Xh e.wr];have ag:f wc.drew:=(c _).2 ⟨D.aA (gW _),bp.aA (gW _)⟩;have ba:zc wc wc.drew:=show Below _ _ _ from(bR _ _).drew;have i:=fun y:zh f=>((c _).1 y.holds).2.box.c 1 rfl;have A:=fun y:zh f=>((c _).1 y.holds).1.box.c 0 rfl;have bf:=fun y:zh f=>((c _).1 y.holds).1.box.c 10 rfl;have bg:=fun y:zh f=>((c _).1 y.holds).1.box.c 11 rfl;have bh:=fun y:zh f=>((c _).1 y.holds).1.box.c 12 rfl;have bi:=fun y:zh f=>((c _).1 y.holds).1.box.c 13 rfl;have bj:=fun y:zh f=>((c _).1 y.holds).1.box.c 14 rfl;have bk:=fun y:zh f=>((c _).1 y.holds).1.box.c 15 rfl;have bl:=fun y:zh f=>((c _).1 y.holds).1.box.c 16 rfl;have bm:=fun y:zh f=>((c _).1 y.holds).1.box.c 17 rfl;have z:Nonempty (zh f):=⟨⟨_,ag⟩⟩;have ax:Xo (¬Dw k V d/\¬Dw k V ao):=dD<|⟨(ac.aA K).bY D Dc Dc Dc Dc,(ac.aA K).bY bp Dc Dc Dc Dc⟩;refine zH (I:=f) 14 [(8,fun a9=>∃s:Sli,a9=s.x),(9,fun a9=>a9=Xm #[I6 (a5.2.1:Int),I6 d0])] (fun C=>zc wc C) ag ba zY Kr rfl rfl Dc (Sb ⟨_,zJ,rfl⟩ ⟨_,rfl⟩) Kr ?_;simp only[Yk,Yl];iterate 8 refine zg ?_
   refine zy rfl rfl (fun a9 C=>zc wc C/\q9 zbc wc.heap.size C a9 (jM m 2 e.n m.sp.length)) (fun w' H g=>?_) (fun da al=>?_);·refine zO.call [Xj (Xa ⟨k,0,Xb⟩),I6 2,I6 e.n] rfl func115 rfl rfl rfl ?_;refine(bv w' (K.trans g)).mono ?_;rintro c8 cb⟨a9,rfl,cp,ae⟩;obtain⟨db,dc,rfl⟩:=cp.form;exact⟨_,rfl,(c _).2 ⟨((c _).1 H).1.aA ae,((c _).1 H).2.aA ae⟩,⟨⟨db,_,dc⟩,rfl⟩,g.trans ae,(cp.base (bS g)).new⟩
   obtain⟨cq,rfl⟩:=al;refine Uq ?_;refine zy rfl rfl (fun _ C=>Chg w0 k w V a5.2.2 C) (fun w' H g=>?_) (fun da al=>?_)
   ·refine zO.call [Xj (Xa ⟨k,0,Xb⟩),Xi #[U8 S,U8 T,U8 U,U8 X,U8 Y,U8 Z,U8 a0,U8 a1],cq.x] rfl func114 rfl rfl rfl ?_;refine(bs w' (cq.x) (K.trans g.1) (g.2.aV (fun B ak=>Yp (cf B ak) (bS K)))).mono ?_;rintro c8 cb⟨rfl,cw,cx,c6,cy⟩;exact⟨_,rfl,(c _).2 ⟨((c _).1 H).1.aK c6 ax.1,((c _).1 H).2.aK c6 ax.2⟩,rfl,Chg.aH (K.trans g.1) ⟨cw,cx,c6,cy⟩⟩
   subst al;refine Uq ?_;iterate 4 refine zg ?_
   refine qE fun df c3 bb=>?_;have az:=dD bb;clear c3 bb ag ba z i A bf bg bh bi bj bk bl bm;go_wp2;go_ret2;exact⟨rfl,az⟩
def jH(m:Ma)(BF:Bool×Nat×Ma)(pg:Pg)(a:Ar)(ic wr:Bool)(q n:Nat):Bool×Nat×Ma:=if(0<=a.file/\ic=Xd)/\(a.sh=Xc\/wr=Xd)then BF else ZU m pg ic wr q n
theorem zhl(P:ChW w0 k w V m)(Z:Rt m)(q n:Nat)(s)(a0:m.sp[q]?=Xa s)(I:n<64)(a:Ar)(pg:Pg)(ic wr:Bool)
  (Y:∀(l:List (Nat×Nat))(a1:Xq),(∀x∈l,x.2<64/\∃s,m.sp[x.1]?=Xa s)->Zn (zi m l).fs=0->∀t U,ChW w0 k t U (zi m l)->zmm zbc (Dw k U) t a1 l->Xp prog 168 #[Xj (Xa ⟨k,0,Xb⟩),a1] t fun e w'=>e=Xl (Xh (Q7 (zi m l) l).1)/\Chg w0 k t U (Q7 (zi m l) l).2 w')
  (i:Bool×Nat×Ma)(M:(0<=a.file/\ic=Xd)/\(a.sh=Xc\/wr=Xd)->∀W,zc w W->Xp prog 70 #[Xi #[Xj (Xa ⟨k,0,Xb⟩),I6 (q:Int),I6 (n:Int),I6 a.fr,I6 a.tz,Xh a.rd,Xh a.wr,Xh a.sh,I6 a.file,I6 a.base,U8 pg.b0,U8 pg.b1,U8 pg.b2,U8 pg.b3,U8 pg.b4,U8 pg.b5,U8 pg.b6,U8 pg.b7,Xh ic,Xh wr]] W fun e w'=>e=Xl (Xm #[I6 (i.2.1:Int),I6 (if i.1=Xc then 0 else 10)])/\Chg w0 k W V i.2.2 w'):
  Xp prog 33 #[Xi #[Xj (Xa ⟨k,0,Xb⟩),I6 (q:Int),I6 (n:Int),I6 a.fr,I6 a.tz,Xh a.rd,Xh a.wr,Xh a.sh,I6 a.file,I6 a.base,U8 pg.b0,U8 pg.b1,U8 pg.b2,U8 pg.b3,U8 pg.b4,U8 pg.b5,U8 pg.b6,U8 pg.b7,Xh ic,Xh wr]] w fun e w'=>e=Xl (Xm #[I6 ((jH m i pg a ic wr q n).2.1:Int),I6 (if(jH m i pg a ic wr q n).1=Xc then 0 else 10)])/\Chg w0 k w V (jH m i pg a ic wr q n).2.2 w':=by
 have K:Xo (∀W,zc w W->Xp prog 71 #[Xi #[Xj (Xa ⟨k,0,Xb⟩),I6 (q:Int),I6 (n:Int),I6 a.fr,I6 a.tz,Xh a.rd,Xh a.wr,Xh a.sh,I6 a.file,I6 a.base,U8 pg.b0,U8 pg.b1,U8 pg.b2,U8 pg.b3,U8 pg.b4,U8 pg.b5,U8 pg.b6,U8 pg.b7,Xh ic,Xh wr]] W fun e w'=>e=Xl (Xm #[I6 ((ZU m pg ic wr q n).2.1:Int),I6 (if(ZU m pg ic wr q n).1=Xc then 0 else 10)])/\Chg w0 k W V (ZU m pg ic wr q n).2.2 w'):=dD<|fun W a2=>zi0 (P.aA a2) Z q n s a0 I a pg ic wr Y;have p:=dD M;obtain⟨z,A,B,C,D,E,F,G⟩:=pg;simp only at K p⊢;have d:Xo (jH m i ⟨z,A,B,C,D,E,F,G⟩ a ic wr q n=if(0<=a.file/\ic=Xd)/\(a.sh=Xc\/wr=Xd)then i else ZU m ⟨z,A,B,C,D,E,F,G⟩ ic wr q n):=dD<|rfl;obtain⟨H,R⟩:=kA (jH m i ⟨z,A,B,C,D,E,F,G⟩ a ic wr q n);rw[R.out]at d⊢;obtain⟨a5,h⟩:=kA (if H.1=Xc then(0:Int)else 10);rw[h.out];clear Z a0 I Y M P;obtain⟨L,X⟩:=kA w.heap.size;obtain⟨t,u⟩:=kB (w.alloc (Xk #[Xj (Xa ⟨k,0,Xb⟩),I6 (q:Int),I6 (n:Int),I6 a.fr,I6 a.tz,Xh a.rd,Xh a.wr,Xh a.sh,I6 a.file,I6 a.base,U8 z,U8 A,U8 B,U8 C,U8 D,U8 E,U8 F,U8 G,Xh ic,Xh wr] 97));have y:=gA u;have j:=xPT u X;have T:Xo (_=t):=u;clear u;have b:=K.out t y.out;go_enter func33,ntmps33;go_upto_region 1 with fail;rw[T.out,X.out];obtain⟨a4,S⟩:=kA a.sh;rw[S.out]at j d p b;have u7:=j.box.c 7 rfl;have u8:=j.box.c 8 rfl;have u18:=j.box.c 18 rfl;have u19:=j.box.c 19 rfl;by_cases v:0<=a.file
 ·have a3:decide (0<=a.file)=Xc:=decide_eq_true v
  cases ic with
  |true=>
   have c:Xo (H=ZU m ⟨z,A,B,C,D,E,F,G⟩ Xc wr q n):=dD (by rw[d.out,kF Sm]);rw[<-c.out,h.out]at b;go_wp2_with(refine zE rfl 97 (.tmp 1) rfl L rfl j.box underlying97 rfl Kr ?_)
   refine b.mono ?_;clear b u7 u8 u18 u19;rintro Q N⟨rfl,g⟩;have r:=dD<|Chg.aH y g;clear g;go_wp2;go_ret2;exact⟨rfl,r⟩
  |false=>
   cases a4 with
   |true=>
    have c:Xo (H=i):=dD (by rw[d.out,kE (by exact⟨⟨v,rfl⟩,.inl rfl⟩)]);have f:=p.out (by exact⟨⟨v,rfl⟩,.inl rfl⟩) t y.out;rw[<-c.out,h.out]at f;clear v b;go_wp2_with(refine zE rfl 97 (.tmp 1) rfl L rfl j.box underlying97 rfl Kr ?_)
    refine f.mono ?_;clear f u7 u8 u18 u19;rintro Q N⟨rfl,g⟩;have r:=dD<|Chg.aH y g;clear g;go_wp2;go_ret2;exact⟨rfl,r⟩
   |false=>
    cases wr with
    |false=>
     have c:Xo (H=i):=dD (by rw[d.out,kE (by exact⟨⟨v,rfl⟩,.inr rfl⟩)]);have f:=p.out (by exact⟨⟨v,rfl⟩,.inr rfl⟩) t y.out;rw[<-c.out,h.out]at f;clear v b;go_wp2_with(refine zE rfl 97 (.tmp 1) rfl L rfl j.box underlying97 rfl Kr ?_)
     refine f.mono ?_;clear f u7 u8 u18 u19;rintro Q N⟨rfl,g⟩;have r:=dD<|Chg.aH y g;clear g;go_wp2;go_ret2;exact⟨rfl,r⟩
    |true=>
     have c:Xo (H=ZU m ⟨z,A,B,C,D,E,F,G⟩ Xd Xc q n):=dD (by rw[d.out,kF Sm]);rw[<-c.out,h.out]at b;go_wp2_with(refine zE rfl 97 (.tmp 1) rfl L rfl j.box underlying97 rfl Kr ?_)
     refine b.mono ?_;clear b u7 u8 u18 u19;rintro Q N⟨rfl,g⟩;have r:=dD<|Chg.aH y g;clear g;go_wp2;go_ret2;exact⟨rfl,r⟩
 have a3:decide (0<=a.file)=Xd:=decide_eq_false v;have c:Xo (H=ZU m ⟨z,A,B,C,D,E,F,G⟩ ic wr q n):=dD<|by rw[d.out,kF (by exact fun P=>v P.1.1)]
 rw[<-c.out,h.out]at b;go_wp2_with(refine zE rfl 97 (.tmp 1) rfl L rfl j.box underlying97 rfl Kr ?_)
 refine b.mono ?_;clear b u7 u8 u18 u19;rintro Q N⟨rfl,g⟩;have r:=dD<|Chg.aH y g;clear g;go_wp2;go_ret2;exact⟨rfl,r⟩
def zcQ(m:Ma)(pg:Pg)(fi ix:Int)(q n:Nat):Bool×Nat×Ma:=
 match m.ca.find? fun c=>decide (zZ c=zZ ⟨fi,ix,0⟩)with
 |some c=>(Xc,c.fr.toNat,if(Z6 m q (n:Int)).kind=0 then Zs m c.fr.toNat q n else m)
 |none=>zaP m pg fi ix [(q,n)]
theorem zkH{t:Ca}:∀{ca:List Ca},(ca.Pairwise fun a b=>zZ a<zZ b)->zet ca t=Xc->ca.find? (fun c=>decide (zZ c=zZ t))=ca[zdh ca t]?
 |[],_,h=>by cases h
 |c::l,g,h=>by
  unfold zdh;rw[Yn,List.find?_cons]
  by_cases e:zZ c=zZ t
  ·rw[decide_eq_true e,decide_eq_false Wm]
   rfl
  rw[decide_eq_false e];have d:zet l t=Xc:=by
   unfold zet at h⊢;rw[List.any_cons,decide_eq_false e,Bool.false_or]at h;exact h
  have f:zZ c<zZ t:=by
   unfold zet at d;obtain⟨j,k,m⟩:=Xt.1 d;have n:=(Ou.1 g).1 j k;have p:=of_decide_eq_true m;omega
  rw[decide_eq_true f];have i:=zkH (Ou.1 g).2 d;unfold zdh at i;simp only[if_true,Ym,Yr];exact i
theorem zpF(a b:Int)(c:Bool)(w:Xn):(Instr.field 55 (Xi #[I6 a,I6 b,Xh c]) 0).run prog w=.ok (I6 a) w:=by simp only[Instr.field,Od,run_underlying underlying55,rA,asAgg];exact run_part_plain w (by simp[Program.plainKey,underlying3]) rfl
section
variable{α:Type}{E:Elt α}
theorem zb.cC{n cap:Nat}{l:List α}(h:zb E k w (O (Xa ⟨p,0,Xb⟩) n cap) l)(i:Nat)(hi:i<=l.length):
  ∀j u,((l.drop i).flatMap E.enc)[j]?=Xa u->w.cell? ((⟨p,i*E.k,Xb⟩:Addr).add j)=Xa u:=fun j u b=>by
 have a:(l.flatMap E.enc)[i*E.k+j]?=Xa u:=by
  conv=>lhs;rw[<-Yg i l,Xv]
  rw[aR (by rw[qF,Xs,Ya hi];exact Nat.le_add_right _ _),qF,Xs,Ya hi,Ok];exact b
 have:=h.1.cells rfl _ u a;rw[Xw,zA]at this;rw[Xw];exact this
theorem ze9(G:o.guard=Xb)(d s:Operand)(a1:o.op=.call {callee:=.builtin .copy,args:=#[d,s],argTypes:=#[E.st,E.st]})
  (base g cap n:Nat)(l:List α)(k:zb E base w (O (Xa ⟨g,0,Xb⟩) n cap) l)(i:Nat)(hi:i<l.length)(e:l.length+1<=cap)(h:(l.length+1)*E.bytes<=140737488355328)
  (c j f m:Nat)(R U:Addr)(hd:a.eval d=O (Xa R) c j)(F:R=⟨g,(i+1)*E.k,Xb⟩)(a3:a.eval s=O (Xa U) f m)(L:U=⟨g,i*E.k,Xb⟩)(q:Nat)(a2:l.length-i=q)(x:q=Nat.min f c)
  (V:∀w',zb E base w' (O (Xa ⟨g,0,Xb⟩) (l.length+1) cap) (l.take (i+1)++l.drop i)->w.grownBy w' (Xa g)->w'.heap.size=w.heap.size->wpList prog ops Q K (a.put o.dst (goInt q)) w'):wpList prog ops Q (o::K) a w:=by
 subst F L;refine wpList_plain G fun a5 Y=>?_;obtain⟨a6,Z,rest,a0,b,S,A,a4⟩:=k.block;obtain⟨a7,u,_,N,_⟩:=info_parts E.aF;have D:((l.drop i).flatMap E.enc).length=(l.length-i)*E.k:=by rw[qF,Xy]
 have z:(i+1)*E.k+(l.length-i)*E.k=(l.length+1)*E.k:=by rw[<-Yz,show i+1+(l.length-i)=l.length+1 by omega]
 have T:(l.length+1)*E.k<=cap*E.k:=Xx _ e;have p:=run_storeCells_at prog g ((i+1)*E.k) E.ty ((l.drop i).flatMap E.enc) 0 b w S (by rw[D,A];omega) (qW E.one _);simp only[Ys]at p;have v:=run_loadCells_list (P:=prog) w ⟨g,i*E.k,Xb⟩ ((l.drop i).flatMap E.enc) (k.cC i Wm);rw[D,a2]at v;obtain⟨W,C⟩:∃W,W=w.setRow g (b.toList.take ((i+1)*E.k)++(l.drop i).flatMap E.enc++b.toList.drop ((i+1)*E.k+((l.drop i).flatMap E.enc).length)).toArray:=⟨_,rfl⟩;rw[<-C]at p;have y:(Builtin.copy_ #[E.st,E.st] o.type #[O (Xa ⟨g,(i+1)*E.k,Xb⟩) c j,O (Xa ⟨g,i*E.k,Xb⟩) f m]).run prog w=.ok (goInt q) W:=by
  simp[Builtin.copy_,run_underlying E.bL,Builtin.lenOf,Builtin.firstCells,sizeOf,typeInfo,u,N,<-x,v,p]
 unfold Oper.wp;simp[execOp,a1,resolve,invoke,builtin,hd,a3,y,Result.andThen];have hlen:(l.take (i+1)++l.drop i).length=l.length+1:=by rw[lA,Xs,Xy];omega
 have t:b.toList.length=cap*E.k:=Si A;have H:(i+1)*E.k<=l.length*E.k:=Xx _ hi;have I:l.length*E.k<=cap*E.k:=Xx _ rest;have M:b.toList.take ((i+1)*E.k)=(l.take (i+1)).flatMap E.enc:=by
  have X:(b.toList.take (l.length*E.k)).take ((i+1)*E.k)=b.toList.take ((i+1)*E.k):=by rw[Oe,Ya H]
  rw[<-X,a4];conv=>lhs;rw[<-Yg (i+1) l,Xv]
  exact Yh (by rw[qF,Xs,Ya hi])
 have B:(b.toList.take ((i+1)*E.k)).length=(i+1)*E.k:=by rw[Xs,t];omega
 have r:=zb.mk' (E:=E) (base:=base) (w:=W) (g:=g) (cap:=cap) (l:=l.take (i+1)++l.drop i) Z (by rw[C];exact setRow_heap w g b _ E.ty _ S) (by rw[hlen];exact e) a0 (by
  simp only[Yx,lA,B,D,Xy,t]
  omega) (by
  rw[hlen,Xv,<-M,<-z];have:(b.toList.take ((i+1)*E.k)++(l.drop i).flatMap E.enc).length=(i+1)*E.k+(l.length-i)*E.k:=by rw[lA,B,D]
  simp only;rw[Yh this]) (by rw[hlen];exact h)
 rw[hlen]at r;exact Y _ _ (V _ r (by rw[C];exact ZQ _ _ _) (by rw[C];simp[World.setRow]))
end
theorem zgF{base n c:Nat}{a:Option Addr}{w:Xn}{l:List Ca}(b:zb jF base w (O a n c) l)(f:l.length<=1000)(x d)(h:Nat)(r:zq jF w (O d 1 h) [x])(hb:base<=w.heap.size):
  Xp prog 141 #[O a n c,I6 (n:Int),O d 1 h] w fun e w'=>∃(d:Option Addr)(h:Nat),e=Xl (O d (n+1) h)/\zb jF base w' (O d (n+1) h) (l++[x])/\w.grownBy w' (O a n c).ownBlock/\(∀g,(O d (n+1) h).ownBlock=Xa g->(O a n c).ownBlock=Xa g\/w.heap.size<=g):=by
 have m:=dD b.at.n;have i:n<=1000:=Hm m.out;have s:=dD b;have u:=dD r;have k:=dD hb;have p:(n:Int)<=(c:Int):=by
  rcases b.1.2 with⟨i,_⟩|⟨j,q,q,i,_,_,q,_⟩;·cases i;omega
  cases i;omega
 clear b r hb f;by_cases i:c=n
 ·rw[i]at s⊢;clear i p;go_enter func141,ntmps141;go_wp2_with(at_builtin;refine ZJ (E:=jF) rfl (.tmp 23) (.tmp 24) rfl base _ l rfl s _ [x] rfl u.out ?qb k.out ?_)
  case qb=>
   show(l.length+1)*24<=_;have:=m.out;omega
  intro y w' b j f;obtain⟨d,h,rfl⟩:=b.form;have r:Xo ((l++[x]).length=n+1):=dD (by rw[lA,Yj,m.out]);rw[r.out]at b f⊢;have t:=dD b;have q:=dD j;have p:=dD f;clear b j f;go_wp2;go_ret;exact⟨d,h,rfl,t,q,p⟩
 have v:¬n=c:=fun e=>i e.symm;go_enter func141,ntmps141;go_wp2_with(at_builtin;refine ZJ (E:=jF) rfl (.tmp 23) (.tmp 24) rfl base _ l rfl s _ [x] rfl u.out ?qb k.out ?_)
 case qb=>
  show(l.length+1)*24<=_;have:=m.out;omega
 intro y w' b j f;obtain⟨d,h,rfl⟩:=b.form;have r:Xo ((l++[x]).length=n+1):=dD<|by rw[lA,Yj,m.out]
 rw[r.out]at b f⊢;have t:=dD b;have q:=dD j;have p:=dD f;clear b j f;go_wp2;go_ret;exact⟨d,h,rfl,t,q,p⟩
theorem zjZ{g d:Nat}{w:Xn}{k:TypeId}{cur a:Array Xq}(b:w.heap[d]?=Xa (Xk a k (0,0)))(l:w.heap[g]?=Xa (Xk cur 108 (0,0)))(f:d≠g)(m:cur.size≠0)(j i c lb h:Nat):
  (callFunc 170 #[O (Xa ⟨d,0,Xb⟩) j i,O (Xa ⟨g,c,Xb⟩) lb h]).run prog w=.ok (.value (Xh Xd)) w:=by
 rw[run_callFunc_extern func170 Kr Kr Kr (e:=Extern.SlicesOverlaps.overlaps #[38,38] #[4]) Kr,
  Lib.run_overlaps_apart w 38 4 108 underlying38 3 Tryz.sizeOf108 ⟨d,0,Xb⟩ ⟨g,c,Xb⟩ j i lb h f k 108 a.size cur.size (by simp[World.shape?,b]) (by simp[World.shape?,l]) m (by simp[World.frozen?,b]) (by simp[World.frozen?,b])]
 rfl
theorem zh1{g i d s:Nat}{l:List Ca}(n:zb jF k w (O (Xa ⟨g,0,Xb⟩) b p) l)(h:b<=1000)(hi:i<b)(j:b+1<=p)(x){m:TypeId}(f:w.heap[d]?=Xa (Xk U m (0,0)))(a:d≠g)
  (y:jY w ⟨d,0,Xb⟩ (([x]:List Ca).flatMap jF.enc)):
  Xp prog 141 #[O (Xa ⟨g,0,Xb⟩) b p,I6 (i:Int),O (Xa ⟨d,0,Xb⟩) 1 s] w fun e w'=>e=Xl (O (Xa ⟨g,0,Xb⟩) (b+1) p)/\zb jF k w' (O (Xa ⟨g,0,Xb⟩) (b+1) p) (l.take i++([x]++l.drop i))/\w.grownBy w' (Xa g):=by
 obtain⟨v,_,c,j,U,h,r,_⟩:=n.block;have U:p<=9223372036854775807:=by simpa[maxLen]using j
 have U:=dD v;have q:∀m u t,(callFunc 170 #[O (Xa ⟨d,0,Xb⟩) 1 s,O (Xa ⟨g,m,Xb⟩) u t]).run prog w=.ok (.value (Xh Xd)) w:=fun m u t=>zjZ f h a (by rw[r];show p*3≠0;omega) 1 s m u t;have m:=dD n;have A:=dD y;have t:Xo (d<w.heap.size/\d≠g):=⟨(aS.1 f).1,a⟩;clear n y v c j h r f a;have y:¬((i:Int)=(b:Int)):=Wm;have z:¬((p:Int)<(b:Int)+1):=Wm;have n:(i:Int)<=(b:Int):=Wm;have c:(i:Int)+1<=(b:Int)+1:=Wm;have r:¬(p=i+1):=Wm;have n:(i:Int)<=(b:Int)+1:=Wm;have n:¬(p=i):=Wm;have u:((i:Int)+1).toNat=i+1:=Wm;have v:((b:Int)+1).toNat=b+1:=Wm;have n:(b:Int)+1<=(p:Int):=Wm;go_enter func141,ntmps141;go_wp2_with(simp only[q])
 have a:Nonempty (zj w):=⟨⟨_,zc.refl _⟩⟩;refine jO 8 [] zY Kr rfl rfl Dc Sm Sm ?_;simp only[Yk,Yl];iterate 8 refine zf ?_
 refine z5 fun w' h _=>?_;have n:=dD (m.aA h);have m:=dD h;obtain⟨f,j⟩:=kA (l.length-i);clear h a q;go_wp2_with(refine ze9 (E:=jF) rfl (.tmp 73) (.tmp 76) rfl k g p b l n i (Hm U.out) (Hm U.out) (by show(_+1)*24<=_;have:=U.out;omega) (b-i) (p-(i+1)) (b+1-i) (p-i) _ _ rfl rfl rfl rfl f j (by have:=U.out;have:=j.out;show f=min _ _;omega) ?_)
 intro C a h _;rw[<-U.out]at a;obtain⟨j,n⟩:=kA (l.take (i+1)++l.drop i);rw[n.out]at a;have f:Xo (j.length=b+1):=dD<|by rw[<-n.out,lA,Xs,Xy];have:=U.out;omega
 have B:=dD a;have q:=dD<|zbG m h;have m:Xo (jY C ⟨d,0,Xb⟩ (([x]:List Ca).flatMap jF.enc)):=dD<|fun D F C=>q.cell (A D F C) (fun e=>t.2 (by rw[Xw]at e;exact Option.some.inj e));clear a h u v c r y z;try simp only[Yd,sB,sS,sZ]
 go_wp2_with(refine Qx (E:=jF) rfl (.tmp 80) (.tmp 81) rfl k _ j B g rfl i (b+1-i) (p-i) _ rfl rfl ⟨d,0,Xb⟩ 1 s rfl [x] (by show 1=min _ _;omega) m (by rw[f.out];show i+1<=_;omega) ?_)
 intro a d a _;have h:Xo (j.take i++([x]++j.drop (i+[x].length))=l.take i++([x]++l.drop i)):=dD<|by
  rw[<-n.out,Oa (by rw[Xs];have:=U.out;omega),Oe,Ya Wm,Yj,List.drop_left' (by rw[Xs];have:=U.out;omega)]
 have U:=dD<|h.out▸d;have n:=dD<|Za q a;clear d a;go_wp2;go_ret;exact⟨rfl,U,n⟩
section
variable{α:Type}{E:Elt α}
theorem zdf{n cap:Nat}{l:List α}(q)(d:zb E k w (O (Xa ⟨p,0,Xb⟩) n cap) l)(i g:Nat)(hi:i<=l.length)(s:0<g)(m:cap<i+g)(hb:(i+g)*E.bytes<=140737488355328):
  ∃C w',(Builtin.append_ #[E.st,3] q #[O (Xa ⟨p,0,Xb⟩) i cap,I6 (g:Int)]).run prog w=.ok (O (Xa ⟨w.heap.size,0,Xb⟩) (i+g) C) w'/\zb E w.heap.size w' (O (Xa ⟨w.heap.size,0,Xb⟩) (i+g) C) (l.take i++Xr g E.zero)/\zc w w'/\i+g<=C:=by
 obtain⟨base,a,j,e,f⟩:=info_parts E.aF;have b:(i+g)*1<=(i+g)*E.bytes:=Nat.mul_le_mul_left _ (nT E.pos E.few);have b:g*E.bytes<=(i+g)*E.bytes:=Xx _ Wm;have c:((l.take i).flatMap E.enc).length=i*E.k:=by rw[qF,Xs,Ya hi]
 have b:(Builtin.firstCells base.size i (O (Xa ⟨p,0,Xb⟩) i cap)).run prog w.drew=.ok ((l.take i).flatMap E.enc).toArray w.drew:=by
  rw[e];exact run_firstCells_some w.drew E.k i ⟨p,0,Xb⟩ i cap ((l.take i).flatMap E.enc) c (fun t v h=>by
   have r:(l.flatMap E.enc)[t]?=Xa v:=by
    conv=>lhs;rw[<-Yg i l,Xv]
    rw[List.getElem?_append_left (gS.1 h).1];exact h
   exact d.1.cells rfl _ v r)
 have h:=Lib.run_append_grow_zeros w E.st 3 q E.ty base E.zv .i64 .i64 E.bL underlying3 a j (Xa ⟨p,0,Xb⟩) i cap ((l.take i).flatMap E.enc) b g s (Rx e E.pos) m Wm (by rw[f];omega) (by rw[f];exact growslice_fits m hb);have a:∀x,Builtin.zeroCells E.zv.cells x=madeCells E.zv.cells (x*E.k):=fun x=>by
  unfold Builtin.zeroCells madeCells;rw[ziO E]
 rw[a,a]at h;have b:=grownCap_ge w (i+g) cap E.ty;have a:=grownCap_le_maxLen w (i+g) cap E.ty (q5 Wm);obtain⟨G,d⟩:=kB (grownCap w (i+g) cap E.ty);rw[d]at h b a;have hlen:(l.take i++Xr g E.zero).length=i+g:=by rw[lA,Xs,Ya hi,lR]
 refine⟨G,_,h,?_,(show zc w _ from((bR _ _).drew)).trans (za _ _),b⟩
 have d:=zb.mk' (E:=E) (base:=w.heap.size) (g:=w.heap.size) (cap:=G) (l:=l.take i++Xr g E.zero) (w:=w.drew.alloc (Xk (((l.take i).flatMap E.enc).toArray++madeCells E.zv.cells (g*E.k)++madeCells E.zv.cells ((G-(i+g))*E.k)) E.ty)) (cur:=((l.take i).flatMap E.enc).toArray++madeCells E.zv.cells (g*E.k)++madeCells E.zv.cells ((G-(i+g))*E.k)) (nR _) (by
  show(w.heap.push _)[w.heap.size]?=_
  simp) (by rw[hlen];exact b) a (by
  rw[Ow,Ow,size_madeCells,size_madeCells,Yx,c,<-Yz,<-Yz];congr 1
  omega) (by
  rw[hlen,Oq,Oq,zdz E,zdz E,Xv];refine Yh ?_;rw[lA,c,qF,lR,<-Yz]) (by rw[hlen];exact hb)
 rw[hlen]at d;exact d
theorem zbt(d:o.guard=Xb)(s x:Operand)(v:o.op=.call {callee:=.builtin .append,args:=#[s,x],argTypes:=#[E.st,3]})
  {base g n cap:Nat}{l:List α}(b:zb E base w (O (Xa ⟨g,0,Xb⟩) n cap) l)(i k:Nat)(y:a.eval s=O (Xa ⟨g,0,Xb⟩) i cap)(f:Int)(z:a.eval x=I6 f)(e:f=(k:Int))(hi:i<=l.length)(u:0<k)(t:cap<i+k)(hb:(i+k)*E.bytes<=140737488355328)(N:Nat)(r:i+k=N)
  (h:∀C w',zb E w.heap.size w' (O (Xa ⟨w.heap.size,0,Xb⟩) N C) (l.take i++Xr k E.zero)->zc w w'->N<=C->wpList prog ops Q K (a.put o.dst (O (Xa ⟨w.heap.size,0,Xb⟩) N C)) w'):wpList prog ops Q (o::K) a w:=by subst r e;refine wpList_plain d fun rest q=>?_;obtain⟨C,w',c,j,m,p⟩:=zdf o.type b i k hi u t hb;unfold Oper.wp execOp;simp only[v,resolve,invoke,builtin,Od,Ov,rA,Oj,mP,Yw,y,z,c];exact q _ _ (h C w' j m p)
end
theorem zfg{i m q:Nat}{l:List Ca}(a:zb jF k w (O (Xa ⟨p,0,Xb⟩) b b) l)(n:b<=1000)(hi:i<b)(x)
  (d:jY w ⟨m,0,Xb⟩ (([x]:List Ca).flatMap jF.enc)):
  Xp prog 141 #[O (Xa ⟨p,0,Xb⟩) b b,I6 (i:Int),O (Xa ⟨m,0,Xb⟩) 1 q] w fun e w'=>∃(n:Nat)(c:Nat),e=Xl (O (Xa ⟨n,0,Xb⟩) (b+1) c)/\zb jF w.heap.size w' (O (Xa ⟨n,0,Xb⟩) (b+1) c) (l.take i++([x]++l.drop i))/\zc w w'/\w.heap.size<=n:=by
 have c:=dD a.at.n;have r:=dD a;have t:=dD d;have n:=(a.lt p rfl).2;have f:=dD n;clear a d n;have a:¬((i:Int)=(b:Int)):=Wm;have a:(b:Int)<(b:Int)+1:=Wm;have a:(i:Int)<=(b:Int):=Wm;obtain⟨base,j⟩:=kA w.heap.size;go_enter func141,ntmps141;go_wp2_with(at_builtin;refine zbt (E:=jF) rfl (.tmp 34) (.tmp 39) rfl r i (b+1-i) rfl ((b:Int)+1-(i:Int)) Gn Wm (Hm c.out) Wm Wm (by show(_)*24<=_;omega) (b+1) Wm ?_)
 intro C a a h s;rw[j.out]at a⊢;obtain⟨d,n⟩:=kA (l.take i++Xr (b+1-i) jF.zero);rw[n.out]at a;have g:Xo (d.length=b+1):=dD<|by rw[<-n.out,lA,Xs,lR];have:=c.out;omega
 have y:=dD a;have u:=dD h;have v:=dD s;have f:=dD<|t.aA h;clear a h;have a:¬(C=i):=Wm;have a:(i:Int)<=(b:Int)+1:=Wm;have a:(b:Int)+1<=(C:Int):=Wm;clear s;go_wp2_with(refine Qx (E:=jF) rfl (.tmp 43) (.tmp 44) rfl base _ d y base rfl i (b+1-i) (C-i) _ rfl rfl ⟨m,0,Xb⟩ 1 q rfl [x] (by show 1=min _ _;omega) f (by rw[g.out];show i+1<=_;omega) ?_)
 intro t f q _;obtain⟨h,a⟩:=kA (d.take i++(x::d.drop (i+1)));rw[a.out]at f;have m:Xo (h.length=b+1):=dD<|by rw[<-a.out,lA,Ym,Xs,Xy,g.out];omega
 have y:=dD f;have s:Xo (zc w t):=show zc _ _ from zd u q (Hm j.out);clear f q;have g:=dD (r.aA s);have f:¬(C=i+1):=Hm v.out;have f:¬(b=i):=Wm;have f:(i:Int)+1<=(b:Int)+1:=Wm;have f:((i:Int)+1).toNat=i+1:=Wm;try simp only[Yd,sB,sS,sZ]
 go_wp2_with fail;have r:Nonempty (zj t):=⟨⟨_,zc.refl _⟩⟩;refine jO 8 [] zY Kr rfl rfl Dc Sm Sm ?_;simp only[Yk,Yl];iterate 8 refine zf ?_
 refine z5 fun f f _=>?_;have u:=dD (y.aA f);have q:=dD (g.aA f);have t:=dD<|s.trans f;clear f r;obtain⟨r,g⟩:=kA (b-i);have f:Xo ((l.drop i).length=r):=dD<|by rw[Xy,<-c.out,g.out]
 go_wp2_with(refine Qx (E:=jF) rfl (.tmp 50) (.tmp 53) rfl base _ h u base rfl (i+1) (b-i) (C-(i+1)) _ rfl rfl ⟨p,i*3,Xb⟩ (b-i) (b-i) rfl (l.drop i) (by rw[f.out];have:=g.out;show r=min _ _;omega) (q.cC i (Hm c.out)) (by rw[m.out,f.out];have:=g.out;omega) ?_)
 intro r f g _;have q:Xo (h.take (i+1)++(l.drop i++h.drop (i+1+(l.length-i)))=l.take i++([x]++l.drop i)):=dD<|by
  have s:h.drop (i+1+(l.length-i))=[]:=Ol (by rw[m.out];have:=c.out;omega);have m:d.take i=l.take i:=by
   rw[<-n.out,Oa (by rw[Xs];have:=c.out;omega),Oe,Nat.min_self]
  have n:h.take (i+1)=l.take i++[x]:=by
   rw[<-a.out,m,show l.take i++(x::d.drop (i+1))=l.take i++([x]++d.drop (i+1))from rfl,<-Yv,Yh (by rw[lA,Xs,Yj];have:=c.out;omega)]
  rw[s,n,Oc,Yv]
 rw[q.out]at f;have n:=dD f;have a:Xo (zc w r):=show zc _ _ from zd t g (Hm j.out);clear f g;go_wp2;go_ret;exact⟨base,C,rfl,Rx j.out n,a,Hm j.out⟩
theorem zlC{base n c:Nat}{a:Option Addr}{w:Xn}{l:List Ca}(b:zb jF base w (O a n c) l)(j:l.length<=1000)(i:Nat)(hi:i<=l.length)(x:Ca)(f u:Nat)(t:w.heap[f]?=Xa (Xk (jF.enc x).toArray 108 (0,0)))(y:(O a n c).ownBlock≠Xa f)(hb:base<=w.heap.size):
  Xp prog 141 #[O a n c,I6 (i:Int),O (Xa ⟨f,0,Xb⟩) 1 u] w fun e w'=>∃(m:Option Addr)(h:Nat),e=Xl (O m (n+1) h)/\zb jF base w' (O m (n+1) h) (l.take i++([x]++l.drop i))/\w.grownBy w' (O a n c).ownBlock/\(∀g,(O m (n+1) h).ownBlock=Xa g->(O a n c).ownBlock=Xa g\/w.heap.size<=g):=by
 have K:n=l.length:=b.at.n;have A:jY w ⟨f,0,Xb⟩ (([x]:List Ca).flatMap jF.enc):=fun M N E=>by
  rw[List.flatMap_cons,List.flatMap_nil,Oc]at E;rw[Xw,zA];have F:zm w f 108 (jF.enc x):=t;exact F.box.c M E
 by_cases H:i=n
 ·subst H;rw[K]at b⊢;refine(zgF b j x (Xa ⟨f,0,Xb⟩) u ⟨⟨Xa ⟨f,0,Xb⟩,u,rfl,fun e=>(by cases e),fun P L=>(by cases L;exact A)⟩,by show 1*24<=_;omega⟩ hb).mono ?_;rintro e w'⟨m,h,p,q,d,v⟩;refine⟨m,h,p,?_,d,v⟩;rw[List.take_length,List.drop_length,Oc];exact q
 have s:i<n:=Wm;obtain⟨g,h,D⟩:=b.aG Wm;simp only[vJ]at D;obtain⟨rfl,_,rfl⟩:=D;have z:f≠g:=fun e=>y (Rr e);obtain⟨_,_,C,_⟩:=b.block;by_cases k:n+1<=c
 ·refine(zh1 b Wm s k x t z A).mono ?_
  rintro e w'⟨p,q,d⟩;exact⟨_,_,p,q,d,fun B r=>.inl r⟩
 have G:c=n:=Wm;subst G;refine(zfg b Wm s x A).mono ?_;rintro e w'⟨m,h,p,q,d,v⟩;exact⟨_,_,p,q.base hb,⟨Below.os d,Below.tape d,Below.output d,bS d,fun B r _=>Below.block d B r⟩,fun B r=>.inr (by cases r;exact v)⟩
theorem zjL(c0:ChW w0 k w V m)(aw:Rt m)(pg:Pg)(fi ix:Nat)(Z:frW (frT pg (fi:Int) (ix:Int))=0)(c2:ix<100)(au)(l:List (Nat×Nat))(aq:zmm zbc (Dw k V) w au l)(am:∀x∈l,x.2<64/\∃s,m.sp[x.1]?=Xa s)(cr:l.length<=900)
  (cs:Zn (zi m l).fs=0->∀B a8,ChW w0 k B a8 (zi m l)->zmm zbc (Dw k a8) B au l->Xp prog 168 #[Xj (Xa ⟨k,0,Xb⟩),au] B fun e w'=>e=Xl (Xh (Q7 (zi m l) l).1)/\Chg w0 k B a8 (Q7 (zi m l) l).2 w'):
  Xp prog 112 #[Xj (Xa ⟨k,0,Xb⟩),Xi #[U8 pg.b0,U8 pg.b1,U8 pg.b2,U8 pg.b3,U8 pg.b4,U8 pg.b5,U8 pg.b6,U8 pg.b7],I6 (fi:Int),I6 (ix:Int),au] w fun e w'=>e=Xl (Xm #[I6 ((zaP m pg (fi:Int) (ix:Int) l).2.1:Int),I6 (if(zaP m pg (fi:Int) (ix:Int) l).1=Xc then 0 else 10)])/\Chg w0 k w V (zaP m pg (fi:Int) (ix:Int) l).2.2 w':=by
 have cf:=dD aq;have ec:=dD c0.bA;have bh:=zax (qS l aw am).1.rt l;have bb:=dD<|(qS l aw am).1.aW.aI;have dl:Xo (∀x∈l,x.2<64/\x.1<m.sp.length):=show∀x∈l,_ from fun x ar=>by
  obtain⟨br,s,b⟩:=am x ar;exact⟨br,(gS.1 b).1⟩
 obtain⟨n,q,r,t,u,v,y,z⟩:=pg;simp only;have W:=dD<|fun dy(ct:zc w dy)=>zfT (c0.aA ct) aw ⟨n,q,r,t,u,v,y,z⟩ (fi:Int) (ix:Int) Z au l (fun B A=>aq B ((qC.aA ct).trans A)) am cs;have c:Xo (zaP m ⟨n,q,r,t,u,v,y,z⟩ (fi:Int) (ix:Int) l=if(z6 (zi m l) l).1=Xc then(Xc,ZH (z6 (zi m l) l).2.fs,zz (Zz (z6 (zi m l) l).2 (ZH (z6 (zi m l) l).2.fs) ⟨n,q,r,t,u,v,y,z⟩ Xc Xd (fi:Int) (ix:Int)) (ZH (z6 (zi m l) l).2.fs) l)else(Xd,0,(z6 (zi m l) l).2)):=dD<|rfl;have h:Xo (zde m (frT ⟨n,q,r,t,u,v,y,z⟩ (fi:Int) (ix:Int)) l=if(z6 (zi m l) l).1=Xc then(Xc,ZH (z6 (zi m l) l).2.fs,{(z6 (zi m l) l).2 with fs:=(z6 (zi m l) l).2.fs.set (ZH (z6 (zi m l) l).2.fs) (frT ⟨n,q,r,t,u,v,y,z⟩ (fi:Int) (ix:Int))})else(Xd,0,(z6 (zi m l) l).2)):=dD<|rfl;obtain⟨ax,di⟩:=kA (zaP m ⟨n,q,r,t,u,v,y,z⟩ (fi:Int) (ix:Int) l);obtain⟨ed,dn⟩:=kA (zde m (frT ⟨n,q,r,t,u,v,y,z⟩ (fi:Int) (ix:Int)) l);rw[di.out]at c⊢;obtain⟨ej,Q⟩:=kA (if ax.1=Xc then(0:Int)else 10);rw[Q.out];rw[dn.out]at h W;obtain⟨A,cp,-⟩:=bh;have U:Xo ((z6 (zi m l) l).2.sp.length=m.sp.length):=dD<|by rw[A.aW.aI,bb.out]
 have p:=dD A.rt;have R:=dD cp;obtain⟨em,en,rfl,c6⟩:=(aq w (qC.refl _ _)).bT;have af:=(aq w (qC.refl _ _)).short;have bc:=dD Z;have bd:Xo ((0:Int)<=(ix:Int)/\(ix:Int)<100):=show _/\_ by omega
 clear A cp c0 aq aw am cs c6 Z c2;obtain⟨dv,bi⟩:=kA (z6 (zi m l) l);rw[bi.out]at p R c h U;obtain⟨e4,P⟩:=dv;simp only at p R c h U;have bf:=dD cr;clear cr;obtain⟨a2,D⟩:=kA l.length;rw[D.out]at cf W af⊢;obtain⟨b,ce⟩:=kA w.heap.size;obtain⟨dz,G⟩:=kB (w.alloc (Xk #[U8 n,U8 q,U8 r,U8 t,U8 u,U8 v,U8 y,U8 z] 44));have ay:=gA G;have e0:=xPT G ce;have bj:=dD G;clear G;have g:=W.out dz ay.out;go_enter func112,ntmps112;go_upto_region 1 with fail;rw[bj.out,ce.out];obtain⟨d3,d4,d6,d8,d9,da,db,dc⟩:=e0.box.c8;cases e4 with
 |false=>
  rw[kF Dc]at c h;rw[h.out]at g;simp only[Ot,if_false]at g;go_wp2_with fail;refine g.mono ?_;clear g d3 d4 d6 d8 d9 da db dc;rintro e B⟨rfl,A⟩;have bl:Xo (Chg w0 k w V ax.2.2 B):=dD<|Rx c.out (Chg.aH ay A);clear A;go_wp2;go_ret2;exact⟨by rw[<-Q.out,c.out];rfl,bl⟩
 |true=>
  rw[kE rfl]at c h;obtain⟨e5,e6,ek,bw,e7⟩:=zey (R rfl);obtain⟨d,be⟩:=kA (ZH P.fs);rw[be.out]at bw h c;rw[h.out]at g;simp only[if_true]at g;obtain⟨i,S⟩:∃i:Ma,Xo (({P with fs:=P.fs.set d (frT ⟨n,q,r,t,u,v,y,z⟩ (fi:Int) (ix:Int))}:Ma)=i):=⟨_,rfl⟩;have E:Xo (i.ca=P.ca):=dD (by rw[<-S.out]);obtain⟨a,a6⟩:∃a:Ma,Xo (({i with ca:=Z7 i.ca ⟨(fi:Int),(ix:Int),(d:Int)⟩}:Ma)=a):=⟨_,rfl⟩;have f:Zz P d ⟨n,q,r,t,u,v,y,z⟩ Xc Xd (fi:Int) (ix:Int)=a:=by
   rw[<-a6.out,<-S.out];rfl
  rw[f]at c;rw[S.out]at g;have al:=(gS.1 bw).1;have ak:a.fs[d]?=Xa (frT ⟨n,q,r,t,u,v,y,z⟩ (fi:Int) (ix:Int)):=by
   rw[<-f];exact sF al
  have cv:ZR a.fs a.aB=0:=by
   rw[<-f];exact zjo p.parts.1 bc.out
  have N:a.sp.length=m.sp.length:=by
   rw[<-f];exact U.out
  have ap:∀s∈a.sp,Qv s.tb:=fun s cu=>by
   rw[<-f]at cu;exact p.tb cu
  have dk:Xo (∀j,j<=a2->∀x,l[j]?=Xa x->Zm (zz a d (l.take j)).fs (zz a d (l.take j)).aB (d:Int) 1=0/\zz a d (l.take (j+1))=zhZ (zz a d (l.take j)) x.1 (x.2:Int) (d:Int)/\x.1<(zz a d (l.take j)).sp.length):=dD<|fun j c3 x ar=>(zrM cv ak (by show(0:Int)<1;omega) ap (l:=l) (fun x ar=>by rw[N];exact dl x ar) (by have:=bf.out;show(1:Int)+_<=1000;omega) j (Rx D.out c3)).2.2.2.2 x ar;obtain⟨a9,ah,ac⟩:=p.cache;have C:Xo ((P.ca.Pairwise fun br b=>zZ br<zZ b)/\(∀ci∈P.ca,0<=ci.idx/\ci.idx<100)/\P.ca.length<=1000):=dD<|⟨a9,ah,ac⟩;clear e5 e6 bw e7 f al ak cv N ap a9 ah ac;go_wp2_with fail;refine g.mono ?_;clear g d3 d4 d6 d8 d9 da db dc;rintro e B⟨rfl,A⟩;obtain⟨a8,c9,cw,aa⟩:=Chg.aH ay A;have dp:=dD c9;have ds:=dD cw;have de:=dD aa;have K:=zbI c9 (Rx E.out C.1) (Rx E.out C.2.1) (Rx E.out C.2.2) (fi:Int) (ix:Int) bd.out;have T:Xo (zdh i.ca ⟨(fi:Int),(ix:Int),0⟩<=i.ca.length/\zdh i.ca ⟨(fi:Int),(ix:Int),0⟩=zdh i.ca ⟨(fi:Int),(ix:Int),(d:Int)⟩):=dD<|⟨(List.takeWhile_sublist _).length_le,rfl⟩;have ba:Xo (i.ca.length<=1000):=dD<|Rx E.out C.2.2
  obtain⟨bq,dm⟩:=kA (zdh i.ca ⟨(fi:Int),(ix:Int),0⟩);obtain⟨ea,dj⟩:=kA (zet i.ca ⟨(fi:Int),(ix:Int),0⟩);rw[dm.out]at T K;rw[dj.out]at K;clear A c9 cw aa;go_wp2_with fail;refine K.mono ?_;clear K;rintro e a3⟨rfl,bz⟩;have a7:=dD (dp.aA bz);have dh:Xo (zc B a3):=bz;have eb:=a7.box.box.c 9 rfl;have ai:=zlC (base:=w0.heap.size) (w:=a3.alloc (Xk #[I6 (fi:Int),I6 (ix:Int),I6 (d:Int)] 108)) (a7.ca.aA (za a3 (Xk #[I6 (fi:Int),I6 (ix:Int),I6 (d:Int)] 108))) ba bq T.1 ⟨(fi:Int),(ix:Int),(d:Int)⟩ a3.heap.size 1 (zm.aE a3 [I6 (fi:Int),I6 (ix:Int),I6 (d:Int)] _ rfl) (fun e=>by
   obtain⟨_,el⟩:=a7.ca.lt _ e
   omega) (by have:=bS a7.gr;simp;omega)
  clear bz;go_wp2_with(go_at_call 141;refine ai.mono ?_)
  clear ai eb;rintro e ef⟨bs,bt,rfl,L,F,H⟩;obtain⟨ee,Y⟩:=kB (a3.alloc (Xk #[I6 (fi:Int),I6 (ix:Int),I6 (d:Int)] 108));rw[Y]at F H;have X:=gP Y;have bk:=dD (a7.aA X);have dd:=dD<|bk.box.aK (qC.row F) (fun e=>bk.nc k e rfl);have M:i.ca.take bq++([⟨(fi:Int),(ix:Int),(d:Int)⟩]++i.ca.drop bq)=Z7 i.ca ⟨(fi:Int),(ix:Int),(d:Int)⟩:=by
   rw[<-zrN,<-T.2];rfl
  rw[M]at L;obtain⟨cb,bg⟩:=kA (a8.ca.n+1);rw[bg.out]at L H⊢;have bp:=dD L;have b8:=dD<|qC.row F;have b9:=dD H;have az:=dD<|dh.trans X;clear Y X L F H M;go_wp2_with(refine ZW rfl 38 (.tmp 52) (.tmp 49) rfl k 9 rfl (O bs cb bt) rfl [O bs cb bt] rfl dd (by simp[chL]) Kr (by simp[Value.oneCell']) ?_)
  intro eg ch ab _;have c1:=bk.cache (b:=⟨bs,cb,bt⟩) (l:=Z7 i.ca ⟨(fi:Int),(ix:Int),(d:Int)⟩) b8 b9 bp ab ch;rw[a6.out]at c1;obtain⟨dw,cj,cx,cm⟩:=Chg.step ds de (Chg.aH az c1);have dq:=dD cj;have dt:=dD cx;have df:=dD cm;clear ch ab c1 cj cx cm;go_wp2;go_loopg[55] a2 (fun e8 cc wr=>∃(j:Nat)(av:MaV),j<=a2/\a2-j<=e8/\cc=I6 j/\Xo (ChW w0 k wr av (zz a d (l.take j)))/\Xo (qC (Dw k V) w wr)/\Xo (∀c8,Dw k av c8->Dw k V c8\/w.heap.size<=c8))
  exact⟨0,dw,nZ _,Wm,rfl,dq,dt,df⟩;obtain⟨j,av,c3,e9,rfl,bm,bn,cd⟩:=hrel;by_cases a0:j<a2
  ·have an:=kC a0
   obtain⟨x,cg⟩:∃x,Xo (l[j]?=Xa x):=⟨_,gE (Rx D.out a0)⟩;obtain⟨_,_,a1,ao⟩:=(cf wr bn).bT;simp only[vJ]at a1;obtain⟨ei,ae,ag⟩:=ao j x cg.out;rw[<-a1.1]at ae;subst ae;obtain⟨cl,aa⟩:=ag wr (zc.refl _);obtain⟨bu,co,bv⟩:=dk.out j c3 x cg.out;have a5:=dD co;obtain⟨cz,d2⟩:=x;simp only at cl aa bu bv a5;have I:=zcR (bm.aA (za wr (Xk #[I6 (cz:Int),I6 (d2:Int)] 95))) cz bv (d2:Int) (d:Int) bu;rw[<-a5.out]at I;clear a1 ao ag bu co bv;go_wp2_with fail;refine I.mono ?_;clear I cl aa;rintro e eh⟨⟨eo,rfl⟩,cq⟩;obtain⟨dx,ck,cy,cn⟩:=Chg.step bn cd (Chg.aH (za _ _) cq);have dr:=dD ck;have du:=dD cy;have dg:=dD cn;clear cq ck cy cn;go_wp2;go_roundg (a2-(j+1));exact⟨j+1,dx,Wm,Wm,Gn,dr,du,dg⟩;omega
  have an:=kD a0;have aj:l.take j=l:=Xz (by rw[D.out];omega);rw[aj]at bm;clear aj;have bl:Xo (Chg w0 k w V ax.2.2 wr):=dD (by rw[c.out];exact⟨av,bm,bn,cd⟩);go_wp2;go_ret2;exact⟨by rw[<-Q.out,c.out];rfl,bl⟩
theorem znl{t:Ca}{ca:List Ca}(h:zet ca t=Xd):ca.find? (fun c=>decide (zZ c=zZ t))=Xb:=by grind[Yq,zet,Xt.2]
theorem zhk(ah:ChW w0 k w V m)(ai:Rt m)(q n:Nat)(s)(ak:m.sp[q]?=Xa s)(bh:n<64)(a:Ar)(fi ix:Nat)(a7:a.file=(fi:Int))(ab:a.base+(n:Int)-a.fr=(ix:Int))(a4:0<=a.base/\a.base<=100)(a5:0<=a.fr/\a.fr<=100)(l:ix<100)(pg:Pg)(ic wr:Bool)
  (a9:frW (frT pg (fi:Int) (ix:Int))=0)
  (bg:Zn (zi m [(q,n)]).fs=0->∀(bk:Xq)p Z,ChW w0 k p Z (zi m [(q,n)])->zmm zbc (Dw k Z) p bk [(q,n)]->Xp prog 168 #[Xj (Xa ⟨k,0,Xb⟩),bk] p fun e w'=>e=Xl (Xh (Q7 (zi m [(q,n)]) [(q,n)]).1)/\Chg w0 k p Z (Q7 (zi m [(q,n)]) [(q,n)]).2 w'):
  Xp prog 70 #[Xi #[Xj (Xa ⟨k,0,Xb⟩),I6 (q:Int),I6 (n:Int),I6 a.fr,I6 a.tz,Xh a.rd,Xh a.wr,Xh a.sh,I6 a.file,I6 a.base,U8 pg.b0,U8 pg.b1,U8 pg.b2,U8 pg.b3,U8 pg.b4,U8 pg.b5,U8 pg.b6,U8 pg.b7,Xh ic,Xh wr]] w fun e w'=>e=Xl (Xm #[I6 ((zcQ m pg (fi:Int) (ix:Int) q n).2.1:Int),I6 (if(zcQ m pg (fi:Int) (ix:Int) q n).1=Xc then 0 else 10)])/\Chg w0 k w V (zcQ m pg (fi:Int) (ix:Int) q n).2.2 w':=by
 obtain⟨a1,_,_⟩:=zo.1 ai.inv.ca;obtain⟨G,aa,a3⟩:=ai.cache;have ap:Xo (∀W,zc w W->Xp prog 111 #[Xj (Xa ⟨k,0,Xb⟩),I6 (fi:Int),I6 (ix:Int)] W fun e w'=>((zet m.ca ⟨(fi:Int),(ix:Int),0⟩=Xd/\e=Xl (Xm #[I6 0,Xh Xd]))\/(zet m.ca ⟨(fi:Int),(ix:Int),0⟩=Xc/\∀d,m.ca[zdh m.ca ⟨(fi:Int),(ix:Int),0⟩]?=Xa d->e=Xl (Xm #[I6 d.fr,Xh Xc])))/\zc W w'):=dD<|fun W bs=>zio (ah.aA bs) G aa a3 (fi:Int) (ix:Int) Wm;have av:Xo (∀W,Xp prog 107 #[Xi #[I6 a.fr,I6 a.tz,Xh a.rd,Xh a.wr,Xh a.sh,I6 a.file,I6 a.base],I6 (n:Int)] W fun e w'=>e=Xl (I6 (ix:Int))/\zc W w'):=dD<|fun W=>by
  rw[<-ab];exact J7 a (n:Int) W a4 a5 Wm
 have af:=dD ah;have ag:=dD ai;have X:=dD ak;have be:=dD bh;have bm:=dD ah.bA;have T:=dD a9;have au:=show Xo _ from bg;have ar:=dD G;have aq:=dD a1;have Q:=dD l;have S:=dD a7;obtain⟨x,y,z,A,B,C,D,E⟩:=pg;simp only;obtain⟨al,u⟩:=kA (zcQ m ⟨x,y,z,A,B,C,D,E⟩ (fi:Int) (ix:Int) q n);rw[u.out];obtain⟨c4,f⟩:=kA (if al.1=Xc then(0:Int)else 10);rw[f.out];obtain⟨c3,bd⟩:=kA w.heap.size;obtain⟨p,h⟩:=kB (w.alloc (Xk #[Xj (Xa ⟨k,0,Xb⟩),I6 (q:Int),I6 (n:Int),I6 a.fr,I6 a.tz,Xh a.rd,Xh a.wr,Xh a.sh,I6 a.file,I6 a.base,U8 x,U8 y,U8 z,U8 A,U8 B,U8 C,U8 D,U8 E,Xh ic,Xh wr] 97));have bl:=gA h;have g:=xPT h bd;have ay:=dD h;have r:=av.out p;clear h ah ai ak bh a9 bg a1 G aa a3 l a7 ab a4 a5;go_enter func70,ntmps70;go_upto_region 1 with fail;rw[ay.out,bd.out];obtain⟨_,_,u2,u3,u4,u5,u6,u7,u8,u9⟩:=g.box.k10;go_wp2_with fail;refine r.mono ?_;clear r u2 u3 u4 u5 u6 u7 u8 u9;rintro e bo⟨rfl,b8⟩;have bc:=dD (bl.trans b8);have az:=dD (g.aA b8);have u0:=az.box.c 0 rfl;have u8:=az.box.c 8 rfl;rw[S.out]at u8;have a6:=ap.out bo bc.out;clear b8;go_wp2_with fail;refine a6.mono ?_;clear a6 u0 u8;rintro e I⟨H,b9⟩;have P:=dD (bc.trans b9);have c:=dD (az.aA b9);clear b9;rcases H with⟨M,rfl⟩|⟨M,aj⟩
 ·have a8:m.ca.find? (fun d=>decide (zZ d=zZ ⟨(fi:Int),(ix:Int),0⟩))=Xb:=znl M
  have b:Xo (zcQ m ⟨x,y,z,A,B,C,D,E⟩ (fi:Int) (ix:Int) q n=zaP m ⟨x,y,z,A,B,C,D,E⟩ (fi:Int) (ix:Int) [(q,n)]):=dD<|by
   unfold zcQ;rw[a8]
  have j:=zjL (af.aA (P.trans (za I (Xk #[I6 (q:Int),I6 (n:Int)] 95)))) ag ⟨x,y,z,A,B,C,D,E⟩ fi ix T Q (O (Xa ⟨I.heap.size,0,Xb⟩) 1 1) [(q,n)] (q9.aV (base:=I.heap.size) ⟨Zp zbc I (q,n) _ _ rfl Dc,fun c1 n d e=>by cases e;exact nR _⟩ (fun bx t=>Yp (bm bx t) (bS P))) (fun c1 bw=>by rw[Yc.1 bw];exact⟨be,s,X⟩) (by show 1<=900;omega) (fun br p Z aj bv=>au.out br _ p Z aj bv);obtain⟨c2,R⟩:=kA (zaP m ⟨x,y,z,A,B,C,D,E⟩ (fi:Int) (ix:Int) [(q,n)]);rw[R.out]at j;rw[R.out,u.out]at b;rw[<-b.out,f.out]at j;have am:Xo (zc w (I.alloc (Xk #[I6 (q:Int),I6 (n:Int)] 95))):=dD<|P.trans (za _ _);obtain⟨u0,u1,u2⟩:=c.box.c3;have u8:=c.box.c 8 rfl;rw[S.out]at u8;have u10:=c.box.c 10 rfl;have u11:=c.box.c 11 rfl;have u12:=c.box.c 12 rfl;have u13:=c.box.c 13 rfl;have u14:=c.box.c 14 rfl;have u15:=c.box.c 15 rfl;have u16:=c.box.c 16 rfl;have u17:=c.box.c 17 rfl;clear M a8;go_wp2_with fail;refine j.mono ?_;clear j u0 u1 u2 u8 u10 u11 u12 u13 u14 u15 u16 u17;rintro e bf⟨rfl,a2⟩;have Y:=dD<|Chg.aH am a2;clear a2;go_wp2;go_ret2;exact⟨rfl,Y⟩
 have ae:=zjj M;obtain⟨d,ao⟩:∃d,Xo (m.ca[zdh m.ca ⟨(fi:Int),(ix:Int),0⟩]?=Xa d):=⟨_,gE ae⟩;have bt:=aj d ao.out;subst bt;obtain⟨a0,F,_⟩:=Zl (aq d (mG ao));obtain⟨N,U⟩:∃N:Nat,Xo (d.fr=(N:Int)):=⟨d.fr.toNat,show _=_ by omega⟩;have b:Xo (zcQ m ⟨x,y,z,A,B,C,D,E⟩ (fi:Int) (ix:Int) q n=(Xc,N,if(Z6 m q (n:Int)).kind=0 then Zs m N q n else m)):=dD<|by
  unfold zcQ;rw[zkH ar.out M,ao.out];simp only;rw[U.out,tN]
 rw[u.out]at b;have v:=dD<|(gS.1 X).1;rw[U.out]at a0 F⊢;have ad:N<m.fs.length:=Wm;have i:=gE ad;rw[zL i]at F;obtain⟨bz,c0⟩:=ag.refs i;obtain⟨bi,bj,-⟩:=znf ag.parts.1 i Wm Wm (fun s ak=>ag.tb ak) v be.out;have aw:=dD bi;have ax:=dD bj;clear ae aj a0 F ad i bz c0 bi bj M;have K:=Qh (af.aA P) q v (n:Int);obtain⟨L,bn⟩:=kA (Z6 m q (n:Int));rw[bn.out]at K b;obtain⟨u0,u1,u2⟩:=c.box.c3;go_wp2_with fail;refine K.mono ?_;clear K u0 u1 u2;rintro c5 bp⟨rfl,ba⟩;have an:=dD (P.trans ba);have bq:=dD (c.aA ba);unfold enV;clear ba;have bu:=zpF L.kind L.n L.wr;by_cases t:L.kind=0
 ·have bb:(L.kind==0)=Xc:=Rr t
  have ac:=zcR (af.aA an) q v (n:Int) (N:Int) aw.out;obtain⟨u0,u1,u2⟩:=bq.box.c3;rw[kE t]at b;clear t;go_wp2_with fail;refine ac.mono ?_;clear ac u0 u1 u2;rintro e bf⟨⟨c6,rfl⟩,a2⟩;have Y:Xo (Chg w0 k w V al.2.2 bf):=dD (by rw[b.out,<-ax.out];exact Chg.aH an a2);clear a2;go_wp2;go_ret2;exact⟨by rw[<-f.out,b.out];rfl,Y⟩
 have bb:(L.kind==0)=Xd:=Si t;rw[kF t]at b;clear t;have Y:Xo (Chg w0 k w V al.2.2 bp):=dD<|Rx b.out (Chg.refl af an.out);go_wp2;go_ret2;exact⟨by rw[<-f.out,b.out];rfl,Y⟩
theorem zmX{a b:Pg}(h:pgL a=pgL b):a=b:=by cases a;cases b;simpa[pgL]using h
def zab(m:Ma)(q i:Nat)(a:Ar)(pg:Pg)(_:Bool):Bool×Nat×Ma:=zcQ m pg a.file (a.base+(i:Int)-a.fr) q i
structure zcW(wr:Bool)(m:Ma)(q n:Nat)(x:On)(pg:Pg)(ic:Bool)(k:Nat)(mB:Ma):Prop where
 rt:Rt mB
 aW:Sam (fun p j=>p=q/\j=n) m mB
 fsl:mB.fs.length=m.fs.length
 into:∃(s':Sp)(fr:Fr)(w:Bool),mB.sp[q]?=Xa s'/\mB.fs[k]?=Xa fr/\ze s' n=⟨1,(k:Int),w⟩/\fr.p=pg/\(wr=Xc->(fr.f=-1/\fr.r<=1)\/x.sh=Xc)/\(wr=Xd->0<=x.file->decide (fr.f<0)=ic)
section
variable{m:Ma}{q n:Nat}{s:Sp}{a:Ar}{pg:Pg}{ic wr:Bool}
theorem zkO(r:Rt m)(K:m.sp[q]?=Xa s)(c:(q,n)∈u)(hd:u.Nodup)(l:∀x∈u,x.2<64/\∃s,m.sp[x.1]?=Xa s/\(zr s.aC x.2).is=Xc/\(zr s.aC x.2).sh=Xd)
  (L:∀(p j:Nat)s,m.sp[p]?=Xa s->j<64->(p,j)∈u->¬(p=q/\j=n)->(zr s.aC j).is=Xc/\Z2 m (zr s.aC j) (ze s j)=(pgL pg,Xc,0))(M:wr=Xc->u.length=1)(H:wr=Xd->0<=(zr s.aC n).file->ic=Xc)(hb:(ZN m pg u).1=Xc):
  zcW wr m q n (zr s.aC n) pg ic (ZN m pg u).2.1 (ZN m pg u).2.2:=by
 have i:=(qS u r (fun x d=>by obtain⟨w,t,y,_⟩:=l x d;exact⟨w,t,y⟩)).1;obtain⟨k,G,-⟩:=zax i.rt u;have a:(z6 (zi m u) u).1=Xc:=by grind[ZN]
 obtain⟨_,_,N,E,F⟩:=zey (G a);have b:u≠[]:=fun e=>by rw[e]at c;cases c
 obtain⟨z,f,g,h⟩:=zrX r b hd l k E F pg Xc;have D:ZN m pg u=(Xc,ZH (z6 (zi m u) u).2.fs,zbJ (z6 (zi m u) u).2 (ZH (z6 (zi m u) u).2.fs) pg Xc u):=by grind[ZN]
 rw[D];have A:=zma f g h (fun p j=>p=q/\j=n) L;have:∃t,(zbJ (z6 (zi m u) u).2 (ZH (z6 (zi m u) u).2.fs) pg Xc u).sp[q]?=Xa t:=⟨_,gE (by rw[f.aI];exact(gS.1 K).1)⟩;obtain⟨t,v⟩:=this;exact⟨z,A,by show((z6 (zi m u) u).2.fs.set _ _).length=_;rw[Xu,k.fsl,i.fsl],t,_,Xd,v,g,h (q,n) c t v,rfl,fun e=>.inl ⟨rfl,by show(u.length:Int)<=1;rw[M e];exact Int.le_refl _⟩,fun B C=>by rw[H B C];rfl⟩
theorem zcs(h:Rt m)(c:m.sp[q]?=Xa s)(d:n<64)(g:(zr s.aC n).is=Xc)(a:(zr s.aC n).sh=Xd)(f:wr=Xd->0<=(zr s.aC n).file->ic=Xc)(hb:(ZN m pg [(q,n)]).1=Xc):zcW wr m q n (zr s.aC n) pg ic (ZN m pg [(q,n)]).2.1 (ZN m pg [(q,n)]).2.2:=
 zkO h c (Yc.2 rfl) Sm (fun x b=>by rw[Yc.1 b];exact⟨d,s,c,g,a⟩) (fun p j _ _ _ i e=>by grind) (fun _=>rfl) f hb
theorem zpj{c:Ca}(a:0<=c.idx/\c.idx<100)(b:0<=j/\j<100)(h:zZ c=zZ ⟨z,j,0⟩):c.file=z/\c.idx=j:=by grind[zZ]
theorem zkR(h:Rt m)(i:m.sp[q]?=Xa s)(D:n<64)(b0:jS a)(c5:a.fr<=(n:Int)/\(n:Int)<a.tz)(E:zr s.aC n=qq a n)(b:Z2 m (zr s.aC n) (ze s n)=(pgL pg,ic,0))(hb:(jH m (zab m q n a pg wr) pg a ic wr q n).1=Xc):
  zcW wr m q n (zr s.aC n) pg ic (jH m (zab m q n a pg wr) pg a ic wr q n).2.1 (jH m (zab m q n a pg wr) pg a ic wr q n).2.2:=by
 have d:Z6 m q (n:Int)=ze s n:=by unfold Z6;rw[Sp.aJ i,Qq D]
 have T:(zr s.aC n).is=Xc:=Rr E;have c:(zr s.aC n).file=a.file:=Rr E;have u:(zr s.aC n).sh=a.sh:=Rr E;obtain⟨g,bn⟩:=kB (a.base+(n:Int)-a.fr);have N:0<=a.file->(zr s.aC n).page=g:=fun e=>by
  rw[E];show(if 0<=a.file then _ else _)=_;grind
 unfold jS at b0;have F:0<=a.file->0<=g/\g<100:=fun e=>Wm;have b8:a.file<0->(zr s.aC n).sh=Xd:=fun e=>by rw[u];exact(b0.2.2.2.2.2.2.1 e).2
 obtain⟨a1,ak,-⟩:=h.cache;have an:Rt m->∀(v:Nat)(fr:Fr)(au:Bool),m.fs[v]?=Xa fr->ze s n=⟨1,(v:Int),au⟩->fr.p=pg->(wr=Xc->(fr.f=-1/\fr.r<=1)\/(zr s.aC n).sh=Xc)->(wr=Xd->0<=(zr s.aC n).file->decide (fr.f<0)=ic)->zcW wr m q n (zr s.aC n) pg ic v m:=fun h v fr au x K ad bg bh=>⟨h,Sam.refl _ m,rfl,s,fr,au,i,x,K,ad,bg,bh⟩;rcases h.aM i D with az|a3
 ·
  rw[az]at b d;by_cases b7:a.file<0
  ·have B:ic=Xd:=by
    unfold Z2 at b;rw[kF (by rw[T];decide),kF Dc,kF Dc,kE (Rx c b7)]at b;grind
   have e:jH m (zab m q n a pg wr) pg a ic wr q n=ZN m pg [(q,n)]:=by
    unfold jH ZU;rw[kF (by rintro⟨⟨e,_⟩,_⟩;omega),d,kF (by rintro⟨e,_⟩;cases e),kF (by rintro⟨e,_⟩;cases e)]
   grind[zcs]
  have M:0<=a.file:=Wm;obtain⟨a5,a6⟩:=F M;have P:=N M;have bs:g<bkN m a.file/\ic=Xd/\pgL pg=zU m a.file g:=by
   unfold Z2 at b;rw[kF (by rw[T];decide),kF Dc,kF Dc,kF (Rx c b7),c,P]at b;grind
  obtain⟨I,rfl,ar⟩:=bs;by_cases aq:a.sh=Xc\/wr=Xd
  ·have e:jH m (zab m q n a pg wr) pg a Xd wr q n=zcQ m pg a.file g q n:=by grind[jH,zab]
   rw[e]at hb⊢;unfold zcQ at hb⊢;cases f:m.ca.find? fun j=>decide (zZ j=zZ ⟨a.file,g,0⟩)with
   |some j=>
    have z:=Of f;have a4:zZ j=zZ ⟨a.file,g,0⟩:=by
     have:=List.find?_some f;simpa using this
    obtain⟨V,Z⟩:=zpj (ak j z) ⟨a5,a6⟩ a4;obtain⟨v,fr,ae,W,X,Y,bj,bk⟩:=zjS h z;simp only;rw[d,kE (show en0.kind=0 from rfl),ae,tN];obtain⟨bt,ba⟩:=zhY h W (by rw[Y,V];exact M) i D az T (by rw[Y,V,c]) (by rw[bj,Z,P]);have:∃w,(Zs m v q n).sp[q]?=Xa w:=⟨_,gE (by rw[ba.aI];exact(gS.1 i).1)⟩;obtain⟨w,R⟩:=this;have bm:=zc6 h.inv (gS.1 W).1 Xd;refine⟨bt,ba,by show(m.fs.set _ _).length=_;rw[Xu],w,_,Xd,R,zgB W q n,(zaA (m1:={m with fs:=m.fs.set v {z1 m (v:Int)with r:=(z1 m (v:Int)).r+1}}) (fun s i=>h.tb i) i D bm R).1,?_,fun S=>?_,fun _ _=>?_⟩
    ·apply zmX
     rw[ar,<-bk,V,Z]
    ·rcases aq with e|e
     ·exact .inr (Rx u e)
     rw[S]at e;cases e
    exact decide_eq_false (by show¬fr.f<0;rw[Y,V];omega)
   |none=>
    rw[f]at hb;simp only at hb⊢;have bp:∀a8∈[(q,n)],a8.2<64/\∃s,m.sp[a8.1]?=Xa s:=fun a8 U=>(by rw[Yc.1 U];exact⟨D,s,i⟩);have a2:=(qS [(q,n)] h bp).1;obtain⟨ay,af,-⟩:=zax a2.rt [(q,n)];have G:(z6 (zi m [(q,n)]) [(q,n)]).1=Xc:=by
     unfold zaP at hb;split at hb
     ·assumption
     cases hb
    obtain⟨_,_,fr,X,Y⟩:=zey (af G);have bi:zaP m pg a.file g [(q,n)]=(Xc,ZH (z6 (zi m [(q,n)]) [(q,n)]).2.fs,Zs (Zz (z6 (zi m [(q,n)]) [(q,n)]).2 (ZH (z6 (zi m [(q,n)]) [(q,n)]).2.fs) pg Xc Xd a.file g) (ZH (z6 (zi m [(q,n)]) [(q,n)]).2.fs) q n):=by
     unfold zaP;rw[kE G];rfl
    rw[bi];obtain⟨L,t⟩:∃L:Nat,a.file=(L:Int):=⟨a.file.toNat,Wm⟩;obtain⟨ac,C⟩:∃ac:Nat,g=(ac:Int):=⟨g.toNat,Wm⟩;have aj:L<m.fl.length:=by
     by_cases e:L<m.fl.length;·exact e
     exfalso;rw[t]at I;unfold bkN at I;rw[tN,gD,gN Wm]at I;simp at I;omega
    have ap:Unc m (L:Int) (ac:Int):=fun j bl⟨x,K⟩=>by
     have:=Yq.1 f j bl;apply this;rw[decide_eq_true_eq];unfold zZ;rw[x,K,t,C]
    rw[t,C]at I ar;obtain⟨bu,be,bv,bw⟩:=zq4 h i D T (by rw[c,t]) (by rw[P,C]) aj I ap (m2:=(z6 (zi m [(q,n)]) [(q,n)]).2) (ay.mono fun bd b9 e=>by
     have e:=Yc.1 e;cases e;exact⟨rfl,rfl⟩) X Y ar Xc Xd
    rw[t,C];have:∃w,(Zs (Zz (z6 (zi m [(q,n)]) [(q,n)]).2 (ZH (z6 (zi m [(q,n)]) [(q,n)]).2.fs) pg Xc Xd (L:Int) (ac:Int)) (ZH (z6 (zi m [(q,n)]) [(q,n)]).2.fs) q n).sp[q]?=Xa w:=⟨_,gE (by rw[be.aI];exact(gS.1 i).1)⟩;obtain⟨w,R⟩:=this;refine⟨bu,be,by show(((z6 (zi m [(q,n)]) [(q,n)]).2.fs.set _ _).set _ _).length=_;rw[Xu,Xu,ay.fsl,a2.fsl],w,_,Xd,R,bv,bw w R,rfl,fun S=>?_,fun _ _=>?_⟩
    ·rcases aq with e|e
     ·exact .inr (Rx u e)
     rw[S]at e;cases e
    exact decide_eq_false (by show¬(L:Int)<0;omega)
  grind[jH,zab,ZN,ZU,zcs]
 obtain⟨y,p⟩:=kB (ze s n);rw[p]at b d a3;by_cases Z:y.kind=2
 ·
  have B:ic=Xc:=by grind[Z2]
  subst B;have ao:(zr s.aC n).sh=Xd:=by
   have ad:=a3.2.2;grind[zah,zr]
  cases wr with
  |true=>
   have e:jH m (zab m q n a pg Xc) pg a Xc Xc q n=ZN m pg [(q,n)]:=by
    unfold jH ZU;rw[kF (by rintro⟨⟨_,e⟩,_⟩;cases e),d,kF (by rintro⟨e,_⟩;omega),kF (by rintro⟨_,e⟩;cases e)]
   rw[e]at hb⊢;exact zcs h i D T ao (fun x _=>by cases x) hb
  |false=>
   have e:jH m (zab m q n a pg Xd) pg a Xc Xd q n=ZN m pg (jM m 2 y.n m.sp.length):=by
    unfold jH ZU;rw[kF (by rintro⟨⟨_,e⟩,_⟩;cases e),d,kF (by rintro⟨e,_⟩;omega),kE ⟨Z,rfl⟩]
   rw[e]at hb⊢;have a7:=zc4 h (k:=y.n);have am:qU m.sb m.sq y.n=pgL pg:=by
    unfold Z2 at b;rw[kF (by rw[T];decide),kF Wm,kE Z]at b;simp only[pJ]at b;exact b.1
   refine zkO h i (by have:=zkz i D (Rx p Z);rw[p]at this;exact this) (zeu m 2 y.n m.sp.length) (fun a8 U=>?_) (fun bd b9 w R c0 bq _=>?_) (fun e=>by cases e) (fun _ _=>rfl) hb;·obtain⟨a0,w,l,H,bf,_⟩:=a7 a8 U;exact⟨a0,w,l,H,bf⟩
   obtain⟨_,c6,l,H,_,av⟩:=a7 (bd,b9) bq;simp only at l H av;rw[R]at l;cases l;exact⟨H,by rw[av,am]⟩
 
 have V:y.kind=1:=by
  have x:=a3.1;have K:=a3.2.1;have:=(jE x).1;omega
 obtain⟨v,fr,ae,W,X,Y⟩:=h.aO i D (Rx p V);rw[p]at ae X;have Q:fr.p=pg/\decide (fr.f<0)=ic:=by
  unfold Z2 at b;rw[kF (by rw[T];decide),kE V,X]at b;simp only[pJ]at b;exact⟨zmX b.1,b.2.1⟩
 obtain⟨bz,af⟩:=Q;have b6:y=⟨1,(v:Int),y.wr⟩:=by
  obtain⟨c7,c8,c9⟩:=y;grind
 have bo:=(gS.1 W).1;have ai:(fr.f=-1/\(zr s.aC n).sh=Xd)\/(0<=a.file/\fr.f=a.file/\fr.x=g):=by
  have ad:=a3.2.2;grind[zah,zr]
 have br:z1 m y.n=fr:=X;rcases ai with⟨a0,l⟩|⟨a0,l,H⟩;·grind[jH,zab,ZU,tN,ZN,zcs]
 have B:ic=Xd:=by rw[<-af,l];exact decide_eq_false Wm
 subst B;obtain⟨a5,a6⟩:=F a0;by_cases aq:a.sh=Xc\/wr=Xd
 ·obtain⟨aa,j,a9,bx,aw,ax⟩:=zeU h W (Rx l a0)
  have z:=mG a9;have f:m.ca.find? (fun j=>decide (zZ j=zZ ⟨a.file,g,0⟩))=Xa j:=by
   cases f:m.ca.find? fun j=>decide (zZ j=zZ ⟨a.file,g,0⟩)with
   |none=>
    exfalso;have:=Yq.1 f j z;apply this;rw[decide_eq_true_eq];unfold zZ;rw[aw,ax,l,H]
   |some a2=>
    have ah:=Of f;have ag:zZ a2=zZ ⟨a.file,g,0⟩:=by
     have:=List.find?_some f;simpa using this
    have a4:zZ j=zZ a2:=by
     rw[ag];unfold zZ;rw[aw,ax,l,H]
    obtain⟨ab,A⟩:=Ye ah;have al:aa=ab:=by
     have bb:=(gS.1 a9).1;have bc:=(gS.1 A).1;have x:=(gS.1 a9).2;have K:=(gS.1 A).2;rcases Nat.lt_trichotomy aa ab with e|e|e;·have:=Yb.1 a1 aa ab bb bc e;rw[x,K]at this;omega
     ·exact e
     have:=Yb.1 a1 ab aa bc bb e;rw[x,K]at this;omega
    subst al;rw[a9]at A;exact A.symm
  grind[jH,zab,zcQ,tN]
 grind[jH,zab,ZN,ZU,zcs]
end
theorem zo9{q:Nat}{w:Bool}(ht:∀s∈m.sp,Qv s.tb)(e:m.fs[q]?=Xa Y)(a:m.fs.length<=40)(i:m.sp[k]?=Xa s)(g:p<64)(c:ze s p=⟨1,(q:Int),w⟩)(l:Bool):
  Jv m k p q Y Xd l={m with fs:=m.fs.set q {Y with u:=true}}/\
  Jv m k p q Y Xc Xd=jN {m with fs:=m.fs.set q {Y with u:=true}} k (p:Int) {Z6 {m with fs:=m.fs.set q {Y with u:=true}} k (p:Int)with wr:=true}/\
  Jv m k p q Y Xc Xc={jN {m with fs:=m.fs.set q {Y with u:=true}} k (p:Int) {Z6 {m with fs:=m.fs.set q {Y with u:=true}} k (p:Int)with wr:=true}with fs:=(jN {m with fs:=m.fs.set q {Y with u:=true}} k (p:Int) {Z6 {m with fs:=m.fs.set q {Y with u:=true}} k (p:Int)with wr:=true}).fs.set q {Y with u:=true,d:=true}}:=by
 have f:=(gS.1 e).1;have b:Z6 {m with fs:=m.fs.set q {Y with u:=true}} k (p:Int)=⟨1,(q:Int),w⟩:=by grind[Z6,zfi,Sp.aJ,Qq]
 have j:enW ⟨1,(q:Int),Xc⟩=0:=JN ⟨by simp only;omega,by simp only;omega⟩ ⟨by simp only;omega,by simp only;omega,fun _=>by simp only;omega⟩ Sm;have h:=Ja (m:={m with fs:=m.fs.set q {Y with u:=true}}) ht (p:=k) (n:=p) (gS.1 i).1 g j;rw[b];simp only;rw[h];refine⟨rfl,?_,?_⟩
 ·unfold Jv
  grind
 unfold Jv QD;rw[kE rfl,Bool.or_true];simp only[List.set_set]
theorem ziZ{w0 w:Xn}{p:Nat}{V:MaV}{m:Ma}(h:ChW w0 p w V m)(q n k:Nat)(fr:Fr)(s:Sp)(we:Bool)(hk:m.fs[k]?=Xa fr)(h40:m.fs.length<=40)(ht:∀s∈m.sp,Qv s.tb)(hs:m.sp[q]?=Xa s)(hn:n<64)(hen:ze s n=⟨1,(k:Int),we⟩)(a:Ar)(pg:Pg)(ic wr:Bool):
  Xp Tryz.prog 34 #[Xi #[Xj (Xa ⟨p,0,Xb⟩),Xe Xf (q:Int),Xe Xf (n:Int),Xe Xf a.fr,Xe Xf a.tz,Xh a.rd,Xh a.wr,Xh a.sh,Xe Xf a.file,Xe Xf a.base,Xe Xg pg.b0,Xe Xg pg.b1,Xe Xg pg.b2,Xe Xg pg.b3,Xe Xg pg.b4,Xe Xg pg.b5,Xe Xg pg.b6,Xe Xg pg.b7,Xh ic,Xh wr],Xe Xf (k:Int)] w fun e w'=>(∃v,e=Xl v)/\Chg w0 p w V (Jv m q n k fr wr a.sh) w':=by
 have HM:Xo (ChW w0 p w V m):=h;obtain⟨h1,h2,h3⟩:=zo9 ht hk h40 hs hn hen a.sh;have H1:Xo (Jv m q n k fr Xd a.sh={m with fs:=m.fs.set k {fr with u:=true}}):=h1;have HQ:Xo (q<m.sp.length):=(gS.1 hs).1;have hkl:=(gS.1 hk).1;have HK:Xo (m.fs[k]?=Xa fr):=hk;have HD:Xo (∀k,Dw p V k->k<w.heap.size):=h.bA;obtain⟨sh,HSH⟩:∃sh,Xo (a.sh=sh):=⟨_,rfl⟩;rw[HSH.out]at H1⊢;have H2:Xo (Jv m q n k fr Xc Xd=jN {m with fs:=m.fs.set k {fr with u:=true}} q (n:Int) {Z6 {m with fs:=m.fs.set k {fr with u:=true}} q (n:Int)with wr:=true}):=h2;have H3:Xo (Jv m q n k fr Xc Xc={jN {m with fs:=m.fs.set k {fr with u:=true}} q (n:Int) {Z6 {m with fs:=m.fs.set k {fr with u:=true}} q (n:Int)with wr:=true}with fs:=(jN {m with fs:=m.fs.set k {fr with u:=true}} q (n:Int) {Z6 {m with fs:=m.fs.set k {fr with u:=true}} q (n:Int)with wr:=true}).fs.set k {fr with u:=true,d:=true}}):=h3;clear h1 h2 h3 ht hk h40 hs hn hen;obtain⟨b0,b1,b2,b3,b4,b5,b6,b7⟩:=pg;simp only;obtain⟨b,HB⟩:∃b,Xo (w.heap.size=b):=⟨_,rfl⟩;obtain⟨W1,hW1⟩:∃W1,w.alloc (Xk #[Xj (Xa ⟨p,0,Xb⟩),Xe Xf (q:Int),Xe Xf (n:Int),Xe Xf a.fr,Xe Xf a.tz,Xh a.rd,Xh a.wr,Xh sh,Xe Xf a.file,Xe Xf a.base,Xe Xg b0,Xe Xg b1,Xe Xg b2,Xe Xg b3,Xe Xg b4,Xe Xg b5,Xe Xg b6,Xe Xg b7,Xh ic,Xh wr] 97)=W1:=⟨_,rfl⟩;have G1:=gA hW1;have X1:=xPT hW1 HB;have HND:Xo (¬Dw p V b):=show¬_ from fun e=>by have:=HD.out _ e;have:=HB.out;omega
 have HW1:Xo (_=W1):=hW1;clear hW1;have M1:Xo (ChW w0 p W1 V m):=h.aA G1.out;obtain⟨g,c9,heq⟩:=M1.out.fs.aG Wm;have f0:=M1.out.box.box.c 0 rfl;rw[heq]at f0;have HFO:Xo (zb q3 w0.heap.size W1 (O (Xa ⟨g,0,Xb⟩) m.fs.length c9) m.fs):=show zb _ _ _ _ _ by rw[<-heq];exact M1.out.fs
 have HG:Xo (oB V.f g):=show oB _ _ by unfold oB;rw[heq];rfl
 have HEQ:Xo (O V.f.a V.f.n V.f.c=O (Xa ⟨g,0,Xb⟩) m.fs.length c9):=heq;have hlt:(k:Int)<(m.fs.length:Int):=Wm;obtain⟨fn,HFN⟩:∃fn,Xo (m.fs.length=fn):=⟨_,rfl⟩;rw[HFN.out]at HFO HEQ f0 hlt;have u0:=X1.out.box.c 0 rfl;clear h heq hkl;go_enter Tryz.func34,Tryz.ntmps34;go_upto_region 1 with fail;rw[HW1.out,HB.out];clear HW1;go_upto_region 2 with(refine zx (E:=q3) rfl (.tmp 13) (.const (Xh Xc)) 4 rfl w0.heap.size _ m.fs HFO.out g k 9 rfl fr {fr with u:=true} HK.out [Xh Xc] Kr rfl (Yf rfl) (by intro u hu;simp at hu;subst hu;rfl) ⟨g,k*13+9,Xb⟩ rfl rfl _ rfl rfl ?_)
 intro W2 ow2 gr2 _;have HC2:Xo (Chg w0 p w V {m with fs:=m.fs.set k {fr with u:=true}} W2):=show Chg _ _ _ _ _ _ by
  refine Chg.aH G1.out (M1.out.frame HG.out gr2 ?_);(try simp only[Sli.x]);rw[HEQ.out];exact ow2
 have X2:Xo (zm W2 b 97 [Xj (Xa ⟨p,0,Xb⟩),Xe Xf (q:Int),Xe Xf (n:Int),Xe Xf a.fr,Xe Xf a.tz,Xh a.rd,Xh a.wr,Xh sh,Xe Xf a.file,Xe Xf a.base,Xe Xg b0,Xe Xg b1,Xe Xg b2,Xe Xg b3,Xe Xg b4,Xe Xg b5,Xe Xg b6,Xe Xg b7,Xh ic,Xh wr]):=X1.out.aK (qC.grown gr2 (show Dw p V g from .inr (.inl HG.out))) HND.out;clear ow2 gr2 f0 u0 X1 M1 G1 HFO;try simp only[Yd]
 have u19:=X2.out.box.c 19 rfl;cases wr with
 |false=>
  have HR:Xo (Chg w0 p w V (Jv m q n k fr Xd sh) W2):=show Chg _ _ _ _ _ _ by rw[H1.out];exact HC2.out
  go_wp2;exact Wq HR.out
 |true=>
  obtain⟨V2,m2,o2,d2⟩:=HC2.out;have M2:Xo (ChW w0 p W2 V2 {m with fs:=m.fs.set k {fr with u:=true}}):=m2;have O2:Xo (qC (Dw p V) w W2):=o2;have D2:Xo (∀k,Dw p V2 k->Dw p V k\/w.heap.size<=k):=d2;have HN2:Xo (¬Dw p V2 b):=show¬_ from m2.bY X2.out Dc Dc Dc Dc;have hal:=zjN m2 q HQ.out (n:Int);clear m2 o2 d2 HC2;obtain⟨u0,u1,u2⟩:=X2.out.box.c3;go_wp2_with fail;refine hal.mono ?_;clear hal u0 u1 u2 u19;rintro e W4⟨⟨v4,rfl⟩,h4⟩;obtain⟨V4,m4,o4,d4⟩:=h4;have X4:Xo (zm W4 b 97 [Xj (Xa ⟨p,0,Xb⟩),Xe Xf (q:Int),Xe Xf (n:Int),Xe Xf a.fr,Xe Xf a.tz,Xh a.rd,Xh a.wr,Xh sh,Xe Xf a.file,Xe Xf a.base,Xe Xg b0,Xe Xg b1,Xe Xg b2,Xe Xg b3,Xe Xg b4,Xe Xg b5,Xe Xg b6,Xe Xg b7,Xh ic,Xh Xc]):=X2.out.aK o4 HN2.out;have HC4:Xo (Chg w0 p w V (jN {m with fs:=m.fs.set k {fr with u:=true}} q (n:Int) {Z6 {m with fs:=m.fs.set k {fr with u:=true}} q (n:Int)with wr:=true}) W4):=show Chg _ _ _ _ _ _ from Chg.step O2.out D2.out ⟨V4,m4,o4,d4⟩;clear m4 o4 d4 X2 M2 O2 D2;have u7:=X4.out.box.c 7 rfl;cases sh with
  |false=>
   have HR:Xo (Chg w0 p w V (Jv m q n k fr Xc Xd) W4):=show Chg _ _ _ _ _ _ by rw[H2.out];exact HC4.out
   go_wp2;exact Wq HR.out
  |true=>
   obtain⟨mE,HME⟩:∃mE,Xo (jN {m with fs:=m.fs.set k {fr with u:=true}} q (n:Int) {Z6 {m with fs:=m.fs.set k {fr with u:=true}} q (n:Int)with wr:=true}=mE):=⟨_,rfl⟩;have HFE:Xo (mE.fs=m.fs.set k {fr with u:=true}):=show _=_ by rw[<-HME.out];rfl
   rw[HME.out]at HC4 H3;clear HME;obtain⟨V5,m5,o5,d5⟩:=HC4.out;have M5:Xo (ChW w0 p W4 V5 mE):=m5;have O5:Xo (qC (Dw p V) w W4):=o5;have D5:Xo (∀k,Dw p V5 k->Dw p V k\/w.heap.size<=k):=d5;have hfl:mE.fs.length=fn:=(by rw[HFE.out,Xu,HFN.out]);obtain⟨g5,c5,heq⟩:=m5.fs.aG (by rw[hfl];omega);have f0:=m5.box.box.c 0 rfl;rw[heq,hfl]at f0;have HK5:Xo (mE.fs[k]?=Xa {fr with u:=true}):=show _=_ by rw[HFE.out,sF (gS.1 HK.out).1]
   have HFO:Xo (zb q3 w0.heap.size W4 (O (Xa ⟨g5,0,Xb⟩) fn c5) mE.fs):=show zb _ _ _ _ _ by rw[<-hfl,<-heq];exact m5.fs
   have HG5:Xo (oB V5.f g5):=show oB _ _ by unfold oB;rw[heq];rfl
   have HEQ5:Xo (O V5.f.a V5.f.n V5.f.c=O (Xa ⟨g5,0,Xb⟩) fn c5):=show _=_ by rw[heq,hfl]
   have u0:=X4.out.box.c 0 rfl;clear m5 o5 d5 heq hfl HC4;go_wp2_with(refine zx (E:=q3) rfl (.tmp 34) (.const (Xh Xc)) 4 rfl w0.heap.size _ mE.fs HFO.out g5 k 10 rfl {fr with u:=true} {fr with u:=true,d:=true} HK5.out [Xh Xc] Kr rfl (Yf rfl) (by intro u hu;simp at hu;subst hu;rfl) ⟨g5,k*13+10,Xb⟩ rfl rfl _ rfl rfl ?_)
   intro W6 ow6 gr6 _;have HR:Xo (Chg w0 p w V (Jv m q n k fr Xc Xc) W6):=show Chg _ _ _ _ _ _ by
    rw[H3.out];refine Chg.step O5.out D5.out (M5.out.frame HG5.out gr6 ?_);(try simp only[Sli.x]);rw[HEQ5.out];exact ow6
   clear ow6 gr6 f0 u0 u7;go_wp2;exact Wq HR.out
theorem zpS(h:zbh m Xb m.ca=0)(file idx:Int):zU m file idx=match Jf m.ca (file,idx)with|some z=>pgL (z1 m z).p|none=>Qr m file idx:=by
 cases f:Jf m.ca (file,idx)with
 |some z=>
  obtain⟨e,b,c,i⟩:=zce f;have a:=Q9 h b;simp only[pJ]at c;rw[<-c.1,<-c.2]at a;unfold zU;rw[a];simp only;rw[i]
 |none=>
  have g:=zcd.1 f;have a:m.ca.find? (QM file idx)=Xb:=by
   rw[Yq];intro e b d;simp only[QM,Yy,decide_eq_true_eq]at d;exact g e b (by rw[d.1,d.2])
  unfold zU;rw[a];rfl
theorem zsj(h:zbh m Xb m.ca=0){idx:Int}(e:Jf m.ca (j,idx)=Xa z):0<=z/\z<(m.fs.length:Int):=by obtain⟨c,a,b,d⟩:=zce e;have:=(Zl ((zo.1 h).1 c a)).1;omega
theorem zig(V:MaV)(m:Ma)(B fi ix:Nat)(f:Fl)(a1:Int)(w)(y:zK w V m)(j:zbh m Xb m.ca=0)(a2:m.fl[fi]?=Xa f)(t:f.bl[ix]?=Xa a1)(u:ix<=1000)(v:0<=f.size/\f.size<=1000)(d:QI plK w B (Jf m.ca)):
  Xp prog 109 #[Xi #[V.f.x,I6 m.aB,V.s.x,V.sb.x,V.sq.x,V.db.x,V.dq.x,V.fl.x,I6 m.cnt,V.ca.x,V.sp.x,.map (Xa B)],I6 (fi:Int),I6 (ix:Int)] w fun e w'=>e=Xl (Xi (pgc (zU m fi ix)).toArray)/\(zU m fi ix).length=8/\zc w w':=by
 have s:Xo (∀W,zc w W->Xp prog 138 #[Xi (mL V m).toArray,I6 (fi:Int),I6 (ix:Int)] W fun e w'=>e=Xl (Xi (pgc (Qr m fi ix)).toArray)/\(Qr m fi ix).length=8/\zc W w'):=dD<|fun W ad=>zdU V m fi ix f a1 W (y.aA ad) a2 t u v;have p:=dD y.bC;obtain⟨M,-⟩:=y.ns;have b:Xo (zU m fi ix=match Jf m.ca ((fi:Int),(ix:Int))with|some z=>pgL (z1 m z).p|none=>Qr m fi ix):=zpS j _ _;have q:=dD<|fun z(ae:Jf m.ca ((fi:Int),(ix:Int))=Xa z)=>zsj j ae;obtain⟨⟨a9,ab,aa⟩,af,S,U,P,Q,R,N,T⟩:=V;dsimp only[mL]at M s p⊢;have r:=dD M.symm;obtain⟨h,c⟩:=kB ((w.alloc (Xk #[O a9 ab aa,I6 m.aB,af.x,S.x,U.x,P.x,Q.x,R.x,I6 m.cnt,N.x,T.x,.map (Xa B)] 140)).alloc (Xk #[U8 0,U8 0,U8 0,U8 0,U8 0,U8 0,U8 0,U8 0] 44));have n:=gD2 c;have G:=x2a c;have a0:Xo (Box h (w.heap.size+1) (pgc zt)):=dD<|by rw[<-c];exact Box.aE _ (pgc zt) _ Sm
 have a:(Instr.lookup 138 (.map (Xa B)) (Xi #[I6 (fi:Int),I6 (ix:Int)]) Xc).run prog h=.ok (Xm #[I6 ((Jf m.ca ((fi:Int),(ix:Int))).getD 0),Xh (Jf m.ca ((fi:Int),(ix:Int))).isSome]) h:=(d.aA n).look (K:=plK) underlying138 (zs1 h) ((fi:Int),(ix:Int)) Xc;have E:Xo (_=h):=c;obtain⟨ac,D⟩:=kA (Jf m.ca ((fi:Int),(ix:Int)));rw[D.out]at a b q;obtain⟨a4,a6⟩:=kA (zU m fi ix);rw[a6.out]at b⊢;clear c y j a2 t u v d M;go_enter func109,ntmps109;go_upto_region 1 with fail;rw[E.out];have Z:=G.c 11 rfl;cases ac with
 |none=>
  simp only[Option.getD_none,Option.isSome_none]at a b;have L:=s.out h n.out;rw[<-b.out]at L;obtain⟨X,ag,ah,ai,aj,ak,al,am,an,ao,Y⟩:=G.aY;go_wp2_with fail;refine L.mono ?_;clear L a X ag ah ai aj ak al am an ao Y Z;rintro b2 ar⟨rfl,l,H⟩;have a5:=dD (n.trans H);have a7:=dD (a0.aA H);clear H;go_wp2_with(refine zn rfl 44 (.tmp 6) (.tmp 31) rfl (w.heap.size+1) rfl (pgc a4) rfl a7 (by rw[Z3,l];rfl) zsZ (qM _) ?_)
  intro F i k _;have g:Xo (zc w F):=dD<|zd a5 k Wm;go_wp2;refine bodyPost_ret (z8 rfl _ rfl i underlying44 rfl (by rw[Z3,l];exact zsZ)) rfl ⟨rfl,l,g⟩
 |some z=>
  simp only[Option.getD_some,Option.isSome_some]at a b;obtain⟨ap,aq⟩:=q.out z rfl;obtain⟨A,rfl⟩:∃A:Nat,z=(A:Int):=⟨z.toNat,Wm⟩;rw[r.out]at aq;obtain⟨C,I⟩:∃C,Xo (m.fs[A]?=Xa C):=⟨_,gE (by rw[r.out];omega)⟩;rw[zL I.out]at b;obtain⟨a8,x,a3⟩:=p.out A C I.out;obtain⟨au,av,aw,ax,ay,az,b0,b1,-⟩:=a3 h n.out;have X:=G.c 0 rfl;rw[x]at X;clear a3 x ap;go_wp2_with(refine zn rfl 44 (.tmp 6) (.tmp 26) rfl (w.heap.size+1) rfl (pgc (pgL C.p)) rfl a0 rfl zsZ (qM _) ?_)
  intro F i k _;have g:Xo (zc w F):=dD<|zd n k Wm;go_wp2;refine bodyPost_ret (z8 rfl _ rfl i underlying44 rfl zsZ) rfl ⟨by rw[b.out],Rr b.out,g⟩
theorem zqs(h:maW m=0):zS m.sb.length m.sq=0:=by have a:=Q0 h;unfold zak at a;rw[zk]at a;exact a _ Sm
theorem zk0(h:zS k g=0)(b:0<=z)(c:z<(k:Int)):zp k g z=0:=by grind[zp,ZB]
theorem znG(h:maW m=0){f:Fl}(c:m.fl[fi]?=Xa f):(0<=f.size/\f.size<=1000)/\f.bl.length<=12:=by have a:=Q0 h;unfold zak at a;rw[zk]at a;have b:=((qJ _ _).1 (a (stW m.fl m.cnt) Sm)).2.1 f (mG c);have d:=b.2.1;have e:=b.1;grind[zaS]
theorem zrd(h:maW m=0):zbh m Xb m.ca=0:=by unfold maW at h;rw[zk]at h;exact h _ Sm
theorem zqR(a:0<=z)(b:0<=j):zpo m.fl z j=decide (j<bkN m z):=by unfold zpo bkN;rw[Bool.eq_iff_iff,Yy,Jc,Jc,decide_eq_true_eq];grind
theorem zgG(V:MaV)(m:Ma)(B:Nat)(a:Ar)(n:Nat)(e:En)(w)(h:zK w V m)(y:maW m=0)(r:jS a)(F:a.fr<=(n:Int)/\(n:Int)<a.tz)(Z:e.kind=1->0<=e.n/\e.n<(m.fs.length:Int))(Q:e.kind=2->0<=e.n/\e.n<(m.sb.length:Int))(c:QI plK w B (Jf m.ca)):
  Xp prog 68 #[Xi #[V.f.x,I6 m.aB,V.s.x,V.sb.x,V.sq.x,V.db.x,V.dq.x,V.fl.x,I6 m.cnt,V.ca.x,V.sp.x,.map (Xa B)],Xi #[I6 a.fr,I6 a.tz,Xh a.rd,Xh a.wr,Xh a.sh,I6 a.file,I6 a.base],I6 (n:Int),Xi #[I6 e.kind,I6 e.n,Xh e.wr]] w fun K w'=>K=Xl (zbS (Z2 m (qq a n) e))/\(Z2 m (qq a n) e).1.length=8/\zc w w':=by
 have g:=dD h;have i:=dD c;have L:=dD<|fun W(d:Nat)(k:Nat)f G(b:zc w W)(A:m.fl[d]?=Xa f)(j:f.bl[k]?=Xa G)(l:k<=1000)=>zig V m B d k f G W (g.aA b) (zrd y) A j l (znG y A).1 (i.aA b);have N:=dD<|fun W i(b:zc w W)=>zkl _ m.sb m.sq i W ⟨_,_,rfl,(g.aA b).sb,(g.aA b).sq⟩;have M:=dD<|fun W file j(b:zc w W)=>zbF _ m.fl m.cnt file j W (g.aA b).fl;have X:Xo (∀i,(qU m.sb m.sq i).length=8):=dD<|fun i=>zfA h.sb.2.1 h.sq.2.1;have a7:=dD<|zqs y;have u:=dD h.bC;have b:=dD<|fun(d:Nat)f(A:m.fl[d]?=Xa f)=>(znG y A).2;have ag:Xo (∀W,Xp prog 107 #[Xi #[I6 a.fr,I6 a.tz,Xh a.rd,Xh a.wr,Xh a.sh,I6 a.file,I6 a.base],I6 (n:Int)] W fun e w'=>e=Xl (I6 (a.base+(n:Int)-a.fr))/\zc W w'):=dD<|fun W=>J7 a n W (by unfold jS at r;omega) (by unfold jS at r;omega) (by unfold jS at r;omega);obtain⟨W,-,-,-,-,-,aa,-,-⟩:=h.ns;have b:Xo (Z2 m (qq a n) e=if e.kind=1 then(pgL (z1 m e.n).p,decide ((z1 m e.n).f<0),0)else if e.kind=2 then(qU m.sb m.sq e.n,Xc,0)else if a.file<0 then(zt,Xd,0)else if bkN m a.file<=a.base+(n:Int)-a.fr then(zt,Xd,9)else(zU m a.file (a.base+(n:Int)-a.fr),Xd,0)):=dD<|by
  unfold Z2 qq;rw[kF Sm];by_cases l:e.kind=1;·rw[kE l,kE l]
  rw[kF l,kF l];by_cases p:e.kind=2;·rw[kE p,kE p]
  rw[kF p,kF p];by_cases t:a.file<0;·rw[kE t,kE t]
  rw[kF t,kF t];have g:(if 0<=a.file then a.base+((n:Int)-a.fr)else 0)=a.base+(n:Int)-a.fr:=by rw[kE Wm];omega
  simp only[g]
 obtain⟨ac,g⟩:=kA (Z2 m (qq a n) e);rw[g.out]at b⊢;obtain⟨⟨Y,a9,a8⟩,ab,⟨z,D,C⟩,⟨E,P,H⟩,S,T,⟨j,v,q⟩,R,U⟩:=V;dsimp only[mL]at W aa L N M u⊢;have g:=dD W.symm;have ah:Xo (0<=a.file->0<=a.base+(n:Int)-a.fr/\a.base+(n:Int)-a.fr<=100):=show _->_ from fun _=>by unfold jS at r;omega
 clear h y r F c W aa;obtain⟨r,c⟩:=kB ((((w.alloc (Xk #[O Y a9 a8,I6 m.aB,ab.x,O z D C,O E P H,S.x,T.x,O j v q,I6 m.cnt,R.x,U.x,.map (Xa B)] 140)).alloc (Xk #[I6 a.fr,I6 a.tz,Xh a.rd,Xh a.wr,Xh a.sh,I6 a.file,I6 a.base] 77)).alloc (Xk #[I6 e.kind,I6 e.n,Xh e.wr] 55)).alloc (Xk #[U8 0,U8 0,U8 0,U8 0,U8 0,U8 0,U8 0,U8 0] 44));have F:Xo (zc w r):=dD<|by rw[<-c];exact(((za _ _).trans (za _ _)).trans (za _ _)).trans (za _ _)
 have W:Xo (Box r w.heap.size [O Y a9 a8,I6 m.aB,ab.x,O z D C,O E P H,S.x,T.x,O j v q,I6 m.cnt,R.x,U.x,.map (Xa B)]):=dD<|by rw[<-c];exact(((Box.aE _ _ _ rfl).alloc _).alloc _).alloc _
 have z:Xo (Box r (w.heap.size+1) [I6 a.fr,I6 a.tz,Xh a.rd,Xh a.wr,Xh a.sh,I6 a.file,I6 a.base]):=dD<|by rw[<-c];exact((Box.aE _ _ _ Sm).alloc _).alloc _
 have j:Xo (Box r (w.heap.size+1+1) [I6 e.kind,I6 e.n,Xh e.wr]):=dD<|by rw[<-c];exact(Box.aE _ _ _ Sm).alloc _
 have P:Xo (Box r (w.heap.size+1+1+1) (pgc zt)):=dD<|by rw[<-c];exact Box.aE _ (pgc zt) _ Sm
 have h:=dD c;clear c;go_enter func68,ntmps68;go_upto_region 1 with fail;rw[h.out];obtain⟨aj,Y⟩:=j.k2;by_cases l:e.kind=1
 ·have U:(e.kind==1)=Xc:=by simp[l]
  obtain⟨D,E⟩:=Z l;obtain⟨i,v⟩:∃i:Nat,e.n=(i:Int):=⟨e.n.toNat,Wm⟩;rw[v]at E D;rw[g.out]at E;obtain⟨q,h⟩:∃q,Xo (m.fs[i]?=Xa q):=⟨_,gE (Hm g.out)⟩;have j:Xo (ac=(pgL q.p,decide (q.f<0),0)):=dD (by rw[b.out,kE l,v,zL h.out]);obtain⟨c,g,c⟩:=u.out i q h.out;obtain⟨ab,ac,ad,ae,ai,ak,al,am,an,ao,u,C,H⟩:=c r F.out;have af:=W.c 0 rfl;rw[g]at af;rw[v]at Y;clear c g l v Z Q D;go_upto_region 4 with fail;obtain⟨h,g⟩:=kA r.heap.size;refine nW fun y c=>?_;have S:=gP c;have a9:=xP c g;have a8:=dD (F.trans S);have aa:=dD (P.aA S);have T:w.heap.size+1+1+1≠h:=by have:=P.lt;have Q:=g.out;omega
  have R:h≠w.heap.size+1+1+1:=fun ap=>T ap.symm;rw[g.out];clear c S af aj Y ab ac ad ae ai ak al am an ao u C H;obtain⟨c,g⟩:=Ww fun u=>zc w u/\Box u h [U8 q.p.b0,U8 q.p.b1,U8 q.p.b2,U8 q.p.b3,U8 q.p.b4,U8 q.p.b5,U8 q.p.b6,U8 q.p.b7,I6 q.r,Xh q.u,Xh q.d,I6 q.f,I6 q.x]/\∃H,Box u (w.heap.size+1+1+1) H/\H.length=8;have S:zc y y.drew:=(gW _);have C:c y.drew:=(g _).2 ⟨a8.trans S,a9.aA S,_,aa.aA S,rfl⟩;have a9:=fun y:zh c=>((g _).1 y.holds).2.1.c 0 rfl;have aa:=fun y:zh c=>((g _).1 y.holds).2.1.c 1 rfl;have ab:=fun y:zh c=>((g _).1 y.holds).2.1.c 2 rfl;have ac:=fun y:zh c=>((g _).1 y.holds).2.1.c 3 rfl;have ad:=fun y:zh c=>((g _).1 y.holds).2.1.c 4 rfl;have ae:=fun y:zh c=>((g _).1 y.holds).2.1.c 5 rfl;have ai:=fun y:zh c=>((g _).1 y.holds).2.1.c 6 rfl;have ak:=fun y:zh c=>((g _).1 y.holds).2.1.c 7 rfl;have T:=fun y:zh c=>((g _).1 y.holds).2.1.c 11 rfl;have S:Nonempty (zh c):=⟨⟨_,C⟩⟩;refine q4 (I:=c) 8 [(5,⟨fun _=>True,fun _ u=>Box u (w.heap.size+1+1+1) (pgc (pgL q.p)),fun y K=>True,fun _=>True⟩)] C zY Kr rfl rfl Dc (Sa ⟨Xh Xc,trivial⟩) ?hp ?hpre ?hpr0 ?_;case hp=>
   intro i s an am v a8 u c c y q al c;have h:=zC v;have c:=zC a8;simp only[mC,pJ,nM,or_false]at h c;exact absurd (c.1.trans h.1.symm) u
  case hpre=>
   intro an am i s a8 v u y q al u;have c:=zC a8;simp only[mC,pJ,nM,or_false]at c;obtain⟨rfl,rfl⟩:=c;trivial
  case hpr0=>
   intro i am v;have h:=zC v;simp only[mC,pJ,nM,or_false]at h;obtain⟨rfl,rfl⟩:=h;trivial
  simp only[Yk,Yl];iterate 5 refine zs ?_
  refine zT rfl rfl (fun w' c u h=>?_) (fun i i=>?_)
  ·obtain⟨u,v,H,H,i⟩:=(g _).1 c;refine zO.storeAll 44 (.tmp 8) (.tmp 28) rfl (w.heap.size+1+1+1) rfl (pgc (pgL q.p)) rfl H (Rr i) (Rx i zsZ) (qM _) fun c c i q=>?_;exact⟨(g _).2 ⟨zd u i Wm,v.grown i R,_,c,rfl⟩,trivial,trivial,c⟩
  simp only[Yd];iterate 2 refine zs ?_
  refine Zv fun c c h=>?_;have q:=dD<|h 5;have i:=dD<|((g _).1 c).1;clear h c C S a9 aa ab ac ad ae ai ak T;go_wp2;refine bodyPost_ret (zF rfl _ rfl q underlying44 rfl zsZ) rfl ⟨Rr j.out,Rr j.out,i⟩
 have U:(e.kind==1)=Xd:=by simp[l]
 rw[kF l]at b;by_cases p:e.kind=2
 ·have H:(e.kind==2)=Xc:=by simp[p]
  rw[kE p]at b;obtain⟨D,E⟩:=Q p;have c:=dD<|zk0 a7 D E;have h:=N.out r e.n F.out;rw[c.out]at h;obtain⟨y,S⟩:=kA (qU m.sb m.sq e.n);have c:Xo (y.length=8):=show _=_ by rw[<-S.out];exact X _
  rw[S.out]at b h;obtain⟨a7,a8,a9,aa,ab,ac,ad,ae,rfl⟩:=zc2 y c.out;have ak:=W.c 3 rfl;have al:=W.c 4 rfl;clear l p D E Z Q;go_wp2_with fail;refine h.mono ?_;clear h ak al aj Y;rintro K T⟨rfl,q⟩;have R:=dD (F.trans q);have ai:=dD (P.aA q);simp only[pgc,mP,Yw];go_upto_region 7 with fail;obtain⟨c,g⟩:=kA T.heap.size;refine nW fun am c=>?_;have u:=gP c;have i:=xP c g;have C:=dD (R.trans u);have X:=dD (ai.aA u);rw[g.out];clear c u q;have j:=b;obtain⟨c,c,c,c,c,c,c,c⟩:=i.c8;go_wp2_with(refine zn rfl 44 (.tmp 8) (.tmp 43) rfl (w.heap.size+1+1+1) rfl (pgc [a7,a8,a9,aa,ab,ac,ad,ae]) rfl X rfl zsZ (qM _) ?_)
  intro v g i _;have c:Xo (zc w v):=dD<|zd C i Wm;go_wp2;refine bodyPost_ret (zF rfl _ rfl g underlying44 rfl zsZ) rfl ⟨Rr j.out,Rr j.out,c⟩
 have H:(e.kind==2)=Xd:=by simp[p]
 rw[kF p]at b;clear l p Z Q;have p:=z.c 5 rfl;by_cases t:a.file<0
 ·have N:decide (a.file<0)=Xc:=decide_eq_true t;rw[kE t]at b;have j:=b;clear t;go_wp2_with(refine zn rfl 44 (.tmp 8) (.tmp 48) rfl (w.heap.size+1+1+1) rfl (pgc zt) rfl P rfl zsZ (qM _) ?_)
  intro v g i _;have c:Xo (zc w v):=dD<|zd F i Wm;go_wp2;refine bodyPost_ret (zF rfl _ rfl g underlying44 rfl zsZ) rfl ⟨Rr j.out,Rr j.out,c⟩
 have N:decide (a.file<0)=Xd:=decide_eq_false t;rw[kF t]at b;obtain⟨D,E⟩:=ah.out Wm;obtain⟨d,l⟩:∃d:Nat,a.file=(d:Int):=⟨a.file.toNat,Wm⟩;obtain⟨k,t⟩:∃k:Nat,a.base+(n:Int)-a.fr=(k:Int):=⟨(a.base+(n:Int)-a.fr).toNat,Wm⟩;have h:=ag.out r;rw[t]at h D E;rw[t,l]at b;have r:=dD l;clear l t;have l:=z.c 0 rfl;have t:=z.c 1 rfl;have D:=z.c 2 rfl;have E:=z.c 3 rfl;have Q:=z.c 4 rfl;have Z:=z.c 6 rfl;go_wp2_with fail;refine h.mono ?_;clear h l t D E Q p Z aj Y N U H;rintro K T⟨rfl,q⟩;have R:=dD (F.trans q);have l:=dD (W.aA q);have D:=dD (z.aA q);have ai:=dD (P.aA q);clear q;have h:=M.out T (d:Int) (k:Int) R.out;rw[zqR Wm Wm]at h;have p:=D.c 5 rfl;rw[r.out]at p;have t:=l.c 7 rfl;have z:=l.c 8 rfl;go_wp2_with fail;refine h.mono ?_;clear h p t z;rintro K am⟨rfl,u⟩;have C:=dD (R.trans u);have F:=dD (l.aA u);have E:=dD (D.aA u);have X:=dD (ai.aA u);clear u;by_cases l:bkN m (d:Int)<=(k:Int)
 ·rw[kE l]at b;rw[decide_eq_false (by omega:¬(k:Int)<bkN m (d:Int))];have j:=b;clear l;go_wp2_with(refine zn rfl 44 (.tmp 8) (.tmp 60) rfl (w.heap.size+1+1+1) rfl (pgc zt) rfl X rfl zsZ (qM _) ?_)
  intro v g i _;have c:Xo (zc w v):=dD<|zd C i Wm;go_wp2;refine bodyPost_ret (zF rfl _ rfl g underlying44 rfl zsZ) rfl ⟨Rr j.out,Rr j.out,c⟩
 rw[kF l]at b;rw[decide_eq_true (by omega:(k:Int)<bkN m (d:Int))];obtain⟨f,A⟩:∃f,m.fl[d]?=Xa f:=by
  cases q:m.fl[d]? with
  |some f=>exact⟨f,rfl⟩
  |none=>
   exfalso;unfold bkN at l;rw[tN,gD,q]at l;simp at l
 obtain⟨G,q⟩:∃G,f.bl[k]?=Xa G:=⟨_,gE (by
  unfold bkN at l;rw[tN,gD,A]at l;simp only[Option.getD_some]at l
  omega)⟩
 have h:=L.out am d k f G C A q Wm;clear A q l;have p:=E.c 5 rfl;rw[r.out]at p;obtain⟨af,r,u,ak,al,A,D,t,z,E,l,q⟩:=F.c12;go_wp2_with fail;refine h.mono ?_;clear h p af r u ak al A D t z E l q;rintro K h⟨rfl,h,l⟩;have p:=dD (C.trans l);have q:=dD (X.aA l);clear l;obtain⟨y,S⟩:=kA (zU m (d:Int) (k:Int));rw[S.out]at b h⊢;obtain⟨a7,a8,a9,aa,ab,ac,ad,ae,rfl⟩:=zc2 y h;have j:=b;clear h;simp only[pgc,mP,Yw];go_wp2_with(refine zn rfl 44 (.tmp 8) (.tmp 65) rfl (w.heap.size+1+1+1) rfl (pgc [a7,a8,a9,aa,ab,ac,ad,ae]) rfl q rfl zsZ (qM _) ?_)
 intro v g i _;have c:Xo (zc w v):=dD<|zd p i Wm;go_wp2;refine bodyPost_ret (zF rfl _ rfl g underlying44 rfl zsZ) rfl ⟨Rr j.out,Rr j.out,c⟩
theorem zp9(d:maW m=0)(c:m.sp[k]?=Xa s)(p:b<64):((ze s b).kind=1->0<=(ze s b).n/\(ze s b).n<(m.fs.length:Int))/\((ze s b).kind=2->0<=(ze s b).n/\(ze s b).n<(m.sb.length:Int)):=by
 have a:=(zbX d).1;have f:=znU d s (mG c) b p;have e:(Zb m)[k]?=Xa (ze s):=by unfold Zb;rw[Oh,c];rfl
 have g:=(jE (a.en e p)).2.1.1;have h:=a.bF;grind[zah]
theorem zpR(a:∀p∈m.db,p.length=8)(b:∀q∈m.dq,q.2.length=8)(file idx:Int):(zU m file idx).length=8:=by
 unfold zU;split;·rfl
 exact zeK a b file idx
theorem zqA(a1:∀p∈m.sb,p.length=8)(a2:∀q∈m.sq,q.2.length=8)(a:∀p∈m.db,p.length=8)(b:∀q∈m.dq,q.2.length=8)(x:On)(e:En):(Z2 m x e).1.length=8:=by
 unfold Z2;split;·rfl
 split;·rfl
 split;·exact zfA a1 a2
 split;·rfl
 split;·rfl
 grind[zpR]
theorem zmC(c:m.sp[k]?=Xa s)(a:ze1 s.aC j z)(d:z<0):ZY m (k:Int) j=(zt,Xd,5):=by
 by_cases h:0<=j/\j<=63
 ·obtain⟨p,rfl⟩:∃p:Nat,j=(p:Int):=⟨j.toNat,Wm⟩
  have b:=zkG a;grind[zdt,Z2]
 grind[zkb]
end
end Go.Proofs.YtkfjajbalegoeaaGreat
