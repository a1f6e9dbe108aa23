import Derived.Test.YtmfckdkcmbncdaaGreatMM1
import Derived.Shelf.Bits.Mul64
namespace Go.Proofs.YtmfckdkcmbncdaaGreat
open Go.Value renaming slice→O,int→Xe,bool→Xh,agg→Xi,pointer→Xj,tuple→Xm
open Go.IntKind renaming i64→Xf,u8→Xg
open Go.Obj renaming cells→Xk
open Go.Ending renaming returned→Xl
open Go renaming World→Xn,Calls→Xp,Value→Xq
open Go.RowKit renaming Hid→Xo
open Option renaming some→Xa,none→Xb
open Bool renaming true→Xc,false→Xd
open List renaming replicate→Xr
open _root_.List renaming flatMap_append→Xs,replicate_append_replicate→Xv,getElem?_append_left→Xw,getElem?_of_mem→Xx,mem_cons_of_mem→Xy,mem_cons_self→Yb,getElem?_map→Yc,ext_getElem?→Yd,take→Yf,drop→Yg,drop_replicate→Yh,mem_filter→Yj,map_nil→Yk,mem_range→Yl,take_of_length_le→Yn,take_append_of_le_length→Yq,mem_map→Yr,find?_eq_none→Ys,getElem?_set→Yt,length_take→Yu,getElem?_cons_succ→Yv,range→Yw,drop_of_length_le→Yy,length_map→Yz,length_set→Oa,length_nil→Ob,take_append_drop→Oc,contains_iff_mem→Od,mem_map_of_mem→Oe,countP_eq_zero→Of,filter_eq_self→Og,map_congr_left→Oh,mem_replicate→Oi,append_assoc→Oj
open _root_.Bool renaming and_eq_true→Xt,not_eq_true'→Ok
open Go.Addr renaming add_lit→Xu
open Go.Sem renaming run_bind→Xz,run_pure→Ye
open _root_.Nat renaming lt_of_lt_of_le→Ya,min_eq_left→Yi,le_of_ble_eq_true→Yo,mul_le_mul_right→Yp,min→Yx
open Go.Act renaming put→Ym
set_option maxRecDepth 100000
set_option maxHeartbeats 4000000
variable{B b fi g ix j:Nat}{Q:Exit->Act->Xn->Prop}{T:List (Nat->En)}{V:MaV}{W w' w0 w1 w2:Xn}{l:List Ar}{m m':Ma}{o:Oper}{ops:Array Oper}{vs:List Xq}{z:Int}
open Go.Proofs.Tryz
section
open Go.RowKit
variable{X:Nat->Prop}
theorem zdE.bY{base p:Nat}{w:Xn}(h:zdE base w V m)(a:B<=base)(hp:w.heap.size<=p)(k:zk (Dr B noX p V) w W):ziQ W V m/\∀(g:List SpV)(c:Nat->Nat),base<=c 0->(∀i,c i<=c (i+1))->(∀(i:Nat)x s,g[i]?=Xa x->m.sp[i]?=Xa s->Q1 (c i) (c (i+1)) w x s)->∀(i:Nat)x s,g[i]?=Xa x->m.sp[i]?=Xa s->j3 W x s:=by
 obtain⟨a,_,r,_⟩:=h.sp;have b:∀{e a n:Nat}{d:TypeId}{v:Xq}{g:List Xq},w.ownsRow e d a v n g->base<=e->Q4.ty≠d/\z9.ty≠d/\jR.ty≠d->W.ownsRow e d a v n g:=fun n d l=>zbZ n k fun a j a=>by
  obtain⟨f,f,f,f⟩:=zar n j
  rcases a with(a|a)|a|a|a|a
  ·omega
  ·exact a.elim
  ·omega
  ·obtain⟨q,j⟩:=h.fs.obj a;rw[j]at f;cases f;exact l.2.1 rfl
  ·obtain⟨q,j⟩:=h.ca.obj a;rw[j]at f;cases f;exact l.2.2 rfl
  obtain⟨q,j⟩:=r.obj a;rw[j]at f;cases f;exact l.1 rfl
 have a:∀{j:Type}{E:Elt j}{e:Nat}{v:Xq}{f:List j},zb E e w v f->base<=e->Q4.ty≠E.ty/\z9.ty≠E.ty/\jR.ty≠E.ty->zb E e W v f:=fun n d l=>⟨b n.1 d l,n.2⟩
 obtain⟨n,⟨t,e,j,l,r⟩,q,f⟩:=h.fl;have f:zV n W (V.fl.x) m.fl:=⟨t,a e q Dc,j,fun i x j e n=>⟨(l i x j e n).1,a (l i x j e n).2 q Dc⟩,r⟩
 have d:=nR base;refine⟨⟨(a h.sl d Dc).at,zs.at ⟨b h.sb.1 d Dc,h.sb.2⟩,zu.at ⟨b h.sq.1 d Dc,h.sq.2⟩,zs.at ⟨b h.db.1 d Dc,h.db.2⟩,zu.at ⟨b h.dq.1 d Dc,h.dq.2⟩,f.new.bO⟩,fun g c f g d i x s e h=>?_⟩
 have b:=d i x s e h;have d:=nT f (zc0 g (nZ i));have f:Q1 (c i) (c (i+1)) W x s:=⟨b.aH,a b.ar d Dc,⟨b.tb.len,b.tb.aO,fun j v y c e=>a (b.tb.row j v y c e) d Dc,b.tb.two⟩,b.arh,b.tbh⟩
 exact f.at
theorem zfx(V m w)(c:zq w V m):
  Xp prog 24 #[Xi (mL V m).toArray] w fun e w'=>∃(p:Nat)(V':MaV),e=Xl (Xj (Xa ⟨p,0,Xb⟩))/\ChW w noX p w' V' m:=by
 obtain⟨d,a⟩:=kB (w.alloc (Xk (mL V m).toArray 45));have f:=gA a
 have g:=xA a
 have b:=dD a;clear a;have a:=zeY V m d (c.aA f);clear c
 go_enter func24,ntmps24
 go_upto_region 1 with fail;rw[b.out];obtain⟨c,d,h,i,j,k,l,n,q,r,b⟩:=g.aU;go_wp2_with fail;refine a.mono ?_;clear a c d h i j k l n q r b;rintro e d⟨V',rfl,h,a⟩;have g:=dD (f.trans a);have c:=dD h;have b:=dD<|bS f.out
 clear h a;have h:Xo (ChW w noX d.heap.size (d.alloc (Xk (chL V' m).toArray 88)) V' m):=dD<|by
  have a:zc d (d.alloc (Xk (chL V' m).toArray 88)):=za _ _;obtain⟨f,B,i,j,k,l,n⟩:=c.sp;refine⟨⟨g.trans a,fun _ d=>d.elim⟩,bS g,zg.aD _ _ _ rfl,(c.fs.aA a).base b,(c.ca.aA a).base b,⟨f,(i.aA a).base b,j,fun j x s i g W d=>(c.bY b (nR _) ((zk.aA a).trans d)).2 f B k l n j x s i g⟩,fun W d=>(c.bY b (nR _) ((zk.aA a).trans d)).1⟩
 go_wp2;go_ret;exact⟨_,V',rfl,h⟩
section
variable{α:Type}{E:Elt α}
theorem zci{w:Xn}{base:Nat}{v:Xq}{b:List α}(x:TypeId)(q:zb E base w v b)(G:Xq)(l:List α)(W:zj E w G l)(p:(b.length+l.length)*E.bytes<=140737488355328)(c:base<=w.heap.size):
  ∃f w',(Builtin.append_ #[E.st,E.st] x #[v,G]).run prog w=.ok f w'/\zb E base w' f (b++l)/\w.grownBy w' v.ownBlock/\∀g,f.ownBlock=Xa g->v.ownBlock=Xa g\/w.heap.size<=g:=by
 obtain⟨D,z,t,m,u⟩:=info_parts E.aF;obtain⟨⟨H,y,rfl,j,a⟩,M⟩:=W;have L:(b.length+l.length)*1<=(b.length+l.length)*E.bytes:=Nat.mul_le_mul_left _ (nT E.pos E.few)
 cases H with
 |none=>
  have C:=j rfl;subst C;exact⟨v,w,Jh x q y,Si q,World.grownBy.rfl' _ _,fun g i=>.inl i⟩
 |some n=>
  rcases q.1.2 with⟨rfl,B⟩|⟨g,h,K,rfl,S,T,V,N,Q,R⟩
  ·have A:b=[]:=eN B;subst A;obtain⟨f,w',s,r,e,_⟩:=run_append_own (P:=prog) w w.heap.size E.st x E.ty D _ E.k E.bytes E.bT z t m u (znL E) E.pos _ 0 [] (World.ownsRow_nil _ _ _ _) n l.length y (l.flatMap E.enc) (qB E l) (a n rfl) (qO E.one l) (jx (by simp at L p⊢;omega)) (Si p) (nR _)
   have d:zb E w.heap.size w' f ([]++l):=⟨Si r,Si p⟩
   exact⟨f,w',s,d.base c,e,fun g i=>.inr (d.lt g i).1⟩
  by_cases k:b.length+l.length<=h
  ·obtain⟨w',s,r,e⟩:=run_append_fits (P:=prog) w base E.st x E.ty D E.k E.bT z m g b.length h _ q.1 n l.length y (l.flatMap E.enc) (qB E l) (a n rfl) (qO E.one l) k;exact⟨_,w',s,⟨by rw[lA,Xs];exact r,Rx lA p⟩,e,fun F i=>.inl i⟩
  obtain⟨f,w',s,r,e⟩:=run_append_arg_grows (P:=prog) w E.st x E.ty D _ E.k E.bytes E.bT z t m u (znL E) E.pos ⟨g,0,Xb⟩ b.length h (b.flatMap E.enc) (qB E b) (q.1.cells rfl) n l.length y (l.flatMap E.enc) (qB E l) (a n rfl) Wm (jx Wm) p
  have d:zb E w.heap.size w' f (b++l):=⟨by rw[lA,Xs];exact r,Rx lA p⟩
  exact⟨f,w',s,d.base c,⟨e.os,e.tape,e.output,e.size,fun X U _=>e.block X U Sm⟩,fun F i=>.inr (d.lt F i).1⟩
theorem jN{w:Xn}{rest:List Oper}{a:Act}(f:o.guard=Xb)(s x:Operand)(r:o.op=.call {callee:=.builtin .append,args:=#[s,x],argTypes:=#[E.st,E.st]})
  (base:Nat)(vs:Xq)(h:List α)(t:a.eval s=vs)(c:zb E base w vs h)(i:Xq)(l:List α)(v:a.eval x=i)(u:zj E w i l)(q:(h.length+l.length)*E.bytes<=140737488355328)(b:base<=w.heap.size)
  (j:∀e w',zb E base w' e (h++l)->w.grownBy w' vs.ownBlock->(∀g,e.ownBlock=Xa g->vs.ownBlock=Xa g\/w.heap.size<=g)->wpList prog ops Q rest (a.put o.dst e) w'):wpList prog ops Q (o::rest) a w:=by
 refine wpList_plain f fun K p=>?_
 obtain⟨e,w',d,k,m,n⟩:=zci o.type c i l u q b;unfold Oper.wp execOp;simp only[r,resolve,invoke,builtin,Xz,Ye,rA,List.map_toArray,mP,Yk,t,v,d];exact p _ _ (j e w' k m n)
end
theorem zdJ(V m)(a:Ar)(n:Nat)(e:En)(w)(a9:zq w V m)(ar:jK a)(av:n<=64)(bh:0<=e.n)(b:zd2 m a n e=0):
  Xp prog 68 #[Xi (mL V m).toArray,Xi #[I6 a.fr,I6 a.tz,Xh a.rd,Xh a.wr,Xh a.sh,I6 a.file,I6 a.base],I6 (n:Int),Xi #[I6 e.kind,I6 e.n,Xh e.wr]] w fun bd w'=>bd=Xl (I6 0)/\zc w w':=by
 obtain⟨aa,ab,-⟩:=a9.ns;have u:(0<=a.base/\a.base<=100)/\(0<=a.fr/\a.fr<=100):=by
  obtain⟨bq,br,bs,bt,bu,bv,bf,bg⟩:=ar
  by_cases bi:a.file<0
  ·have:=bf bi;omega
  have:=bg Wm;omega
 have y:Xo (∀(q:Fr)W,Xp prog 125 #[Xi (frv q).toArray,Xi #[I6 a.fr,I6 a.tz,Xh a.rd,Xh a.wr,Xh a.sh,I6 a.file,I6 a.base],I6 (n:Int)] W fun e w'=>e=Xl (Xh (Z9 q a n))/\zc W w'):=dD<|fun q W=>zh1 q a n W u.1 u.2 av
 have z:Xo (∀(q:Fr)W,Xp prog 126 #[Xi (frv q).toArray,Xi #[I6 a.fr,I6 a.tz,Xh a.rd,Xh a.wr,Xh a.sh,I6 a.file,I6 a.base]] W fun e w'=>e=Xl (Xh (Zs q a))/\zc W w'):=dD<|fun q W=>zgv q a W
 have bm:=dD ab.symm;have ay:=dD aa.symm;have P:=dD a9.bC;have al:Xo (zd2 m a n e=if e.kind=2 then(if(V.s.n:Int)<=e.n\/a.sh=Xc then 7 else 0)else if(V.f.n:Int)<=e.n then 3 else if Z9 (z3 m e.n) a n=Xd\/(e.wr=Xc/\Zs (z3 m e.n) a=Xd)then 7 else 0):=show _=_ by
  unfold zd2;rw[aa,ab]
 rw[al.out]at b;clear a9 ar u aa ab av;have D:zc w (((w.alloc (Xk (mL V m).toArray 45)).alloc (Xk #[I6 a.fr,I6 a.tz,Xh a.rd,Xh a.wr,Xh a.sh,I6 a.file,I6 a.base] 125)).alloc (Xk #[I6 e.kind,I6 e.n,Xh e.wr] 127)):=((za _ _).trans (za _ _)).trans (za _ _);have c:=dD D;clear D
 by_cases v:e.kind=2
 ·have F:(e.kind==2)=Xc:=by simp[v]
  rw[kE v]at b;clear v;have a6:¬(V.s.n:Int)<=e.n:=fun a5=>by rw[kE (.inl a5)]at b;exact absurd b Dc
  have aw:a.sh=Xd:=by
   cases C:a.sh
   ·rfl
   rw[kE (.inr C)]at b;exact absurd b Dc
  rw[aw]at c y z;rw[aw];clear b
  go_enter func68,ntmps68
  go_wp2;go_ret;exact⟨rfl,c⟩
 have F:(e.kind==2)=Xd:=by simp[v]
 rw[kF v]at b;clear v;have a6:¬(V.f.n:Int)<=e.n:=fun a5=>by rw[kE a5]at b;exact absurd b Dc
 rw[kF a6]at b;obtain⟨ap,aq,L⟩:=e;simp only at bh F a6 b al c⊢;obtain⟨l,rfl⟩:∃l:Nat,aq=(l:Int):=⟨aq.toNat,Wm⟩
 have a8:l<V.f.n:=Wm
 obtain⟨q,ak⟩:∃q,Xo (m.fs[l]?=Xa q):=⟨_,gE (Rx ay.out a8)⟩
 have E:z3 m (l:Int)=q:=by unfold z3;rw[tN,gD,ak.out];rfl
 rw[E]at b;clear E;obtain⟨ao,K,au⟩:=P.out l q ak.out;(try simp only[mL,Sli.x]at c P⊢);rw[K]at c P⊢;clear K;obtain⟨p,d⟩:=kB (((w.alloc (Xk #[O (Xa ao) V.f.n V.f.c,I6 m.aB,V.s.x,V.sb.x,V.sq.x,V.db.x,V.dq.x,V.fl.x,I6 m.cnt,V.ca.x,V.sp.x] 45)).alloc (Xk #[I6 a.fr,I6 a.tz,Xh a.rd,Xh a.wr,Xh a.sh,I6 a.file,I6 a.base] 125)).alloc (Xk #[I6 ap,I6 (l:Int),Xh L] 127));rw[d]at c;have b0:Xo (Box p (w.heap.size+1) [I6 a.fr,I6 a.tz,Xh a.rd,Xh a.wr,Xh a.sh,I6 a.file,I6 a.base]):=dD<|by rw[<-d];exact(Box.aD _ _ _ Sm).alloc _
 have an:Xo (Box p (w.heap.size+1+1) [I6 ap,I6 (l:Int),Xh L]):=dD<|by rw[<-d];exact Box.aD _ _ _ Sm
 have az:Xo (Box p w.heap.size [O (Xa ao) V.f.n V.f.c,I6 m.aB,V.s.x,V.sb.x,V.sq.x,V.db.x,V.dq.x,V.fl.x,I6 m.cnt,V.ca.x,V.sp.x]):=dD<|by rw[<-d];exact((Box.aD _ _ _ rfl).alloc _).alloc _
 have bj:=az.c 0 rfl;have bk:=an.c 1 rfl;have B:Xo (p.heap.size=w.heap.size+1+1+1):=dD<|by rw[<-d];simp
 obtain⟨b3,b4,b5,b6,b7,b8,b9,ba,bb,bc,R,S,T⟩:=au p c.out;have Q:Xo (_=p):=d;clear d au;have G:Z9 q a n=Xc:=by
  cases C:Z9 q a n
  ·rw[kE (.inl C)]at b;exact absurd b Dc
  rfl
 have A:Xo (L=Xc->Zs q a=Xc):=dD<|fun be=>by
  cases C:Zs q a
  ·rw[kE (.inr ⟨be,C⟩)]at b;exact absurd b Dc
  rfl
 clear b;have j:=y.out q;rw[G]at j;have ax:=dD j
 clear j;clear G
 go_enter func68,ntmps68
 go_upto_region 7 with fail;rw[Q.out];go_upto_region 8 with fail;obtain⟨bn,h⟩:=kB (p.alloc (Xk #[U8 q.p.b0,U8 q.p.b1,U8 q.p.b2,U8 q.p.b3,U8 q.p.b4,U8 q.p.b5,U8 q.p.b6,U8 q.p.b7,I6 q.r,Xh q.u,Xh q.d,I6 q.f,I6 q.x] 93));have N:=gT h c
 have am:=yA h b0
 have b2:=yA h an
 have f:=xP h B
 rw[h,B.out];clear h bj bk b3 b4 b5 b6 b7 b8 b9 ba bb bc R S T;obtain⟨ac,ae,af,ag,ah,ai,aj⟩:=am.c7;have U:=f.c 0 rfl;have X:=f.c 1 rfl;have Y:=f.c 2 rfl;have Z:=f.c 3 rfl;have I:=f.c 4 rfl;have a0:=f.c 5 rfl;have a1:=f.c 6 rfl;have a2:=f.c 7 rfl;have a3:=f.c 8 rfl;have a4:=f.c 9 rfl;have r:=f.c 10 rfl;have s:=f.c 11 rfl;have t:=f.c 12 rfl;go_wp2_with fail;refine(ax _).mono ?_;clear ac ae af ag ah ai aj U X Y Z I a0 a1 a2 a3 a4 r s t;rintro e bo⟨rfl,i⟩;have x:=dD (N.trans i);have b1:=am.aA i;have bl:=(b2.aA i).c 2 rfl;have g:=f.aA i;clear i
 cases L with
 |false=>
  go_wp2;go_ret;exact⟨rfl,x⟩
 |true=>
 have H:=A.out rfl;have k:=z.out q;rw[H]at k;have M:=dD k
 clear k;clear H;obtain⟨ac,ae,af,ag,ah,ai,aj⟩:=b1.c7;have U:=g.c 0 rfl;have X:=g.c 1 rfl;have Y:=g.c 2 rfl;have Z:=g.c 3 rfl;have I:=g.c 4 rfl;have a0:=g.c 5 rfl;have a1:=g.c 6 rfl;have a2:=g.c 7 rfl;have a3:=g.c 8 rfl;have a4:=g.c 9 rfl;have r:=g.c 10 rfl;have s:=g.c 11 rfl;have t:=g.c 12 rfl
 go_wp2_with(go_at_call 126;refine(M _).mono ?_;clear ac ae af ag ah ai aj U X Y Z I a0 a1 a2 a3 a4 r s t bl;rintro e bp⟨rfl,a7⟩)
 go_ret;exact⟨rfl,x.trans a7⟩
theorem zdI(V m w)(ah:zq w V m)(cr:zjH m)(cs:znt m)(cq:zfW m=0):
  Xp prog 32 #[Xi (mL V m).toArray] w fun e w'=>e=Xl (I6 0)/\zc w w':=by
 have a7:=dD<|fun(a:Ar)(n:Nat)(e:En)W(a9:zc w W)(dr:jK a)(bj:n<=64)(ds:0<=e.n)=>zdJ V m a n e W (ah.aA a9) dr bj ds
 have b6:=dD cr.mem;have b8:=dD cs;obtain⟨aw,ax,L,M,G,H,K,F,⟨ar,d,E⟩⟩:=V;dsimp only[mL]at a7⊢;obtain⟨-,-,-,-,-,-,-,-,cc⟩:=ah.ns;dsimp only at cc;obtain⟨ed,ap,S,al⟩:=ah.bE;have bd:=dD ap;have cy:=dD S;have ba:=dD al;have cj:=dD cc.symm;have ct:d<=9223372036854775807:=by
  obtain⟨em,dy,eh,_⟩:=ah.sp;have:=dy.short;omega
 have b0:Xo (∀s∈m.sp,∀n∈qG s,zgS m (zN s.aE n) (zl s n)=0):=dD<|fun s dw n bj=>zp.1 ((zhO m s).symm.trans (zp.1 cq _ (Oe dw))) _ (Oe bj)
 clear ah ap S al cc cr cs cq;obtain⟨ee,C⟩:=kB (w.alloc (Xk #[aw.x,I6 m.aB,ax.x,L.x,M.x,G.x,H.x,K.x,I6 m.cnt,F.x,O ar d E] 45));have b2:=gA C
 have cn:=xA C
 have bc:=dD C;clear C
 go_enter func32,ntmps32
 go_upto_region 1 with fail;rw[bc.out];have ch:=cn.c 10 rfl;go_wp2;clear ch
 go_loopg[12] d (fun bf ce wr=>∃f:Nat,f<=d/\d-f<=bf/\ce=I6 f/\Xo (zc w wr)/\Xo (Box wr w.heap.size [aw.x,I6 m.aB,ax.x,L.x,M.x,G.x,H.x,K.x,I6 m.cnt,F.x,O ar d E]))
 exact⟨0,nZ _,Wm,rfl,b2,cn⟩
 obtain⟨f,du,dt,rfl,g,dc⟩:=hrel
 by_cases D:f<d
 ·have ag:=kC D
  obtain⟨s,b9⟩:∃s,Xo (m.sp[f]?=Xa s):=⟨_,gE (Rx cj.out D)⟩
  obtain⟨x,cl⟩:∃x,Xo (ed[f]?=Xa x):=⟨_,gE (by rw[bd.out,cj.out];exact D)⟩
  have h:=dD<|ba.out f x s cl b9.out;obtain⟨Q,R⟩:=b8.out s (mG b9);have a1:=dD<|(JD.1 Q).2;have bb:=dD R;have ay:=dD h.ar.n.symm;have az:Xo (zjN w x.ar.a s.aE):=show zjN _ _ _ by
   obtain⟨_,_,aq,cd⟩:=h.ar.aE;simp only[vJ]at aq;rw[aq.1];exact cd
  clear Q R;obtain⟨cp,rfl,q⟩:=cy.out f x cl.out;obtain⟨df,dg,dh,di,dj,dk,dl,dm,dn,dp⟩:=q wr g.out;clear q;go_upto_region 4 with fail;obtain⟨cz,j⟩:=kB (wr.alloc (Xk #[Xh x.aH,x.ar.x,x.t0.x,x.t1.x,x.t2.x,x.t3.x,x.t4.x,x.t5.x,x.t6.x,x.t7.x] 76));have a4:=gT j g
  have db:=yA j dc
  have t:=xA j
  rw[j];clear j df dg dh di dj dk dl dm dn dp;obtain⟨ej,b7⟩:=kA wr.heap.size;rw[b7.out]at t⊢;have l:=zaq x.tab s.tb cz (h.aA a4).tb
  obtain⟨_,_,e2,e3,e4,e5,e8,e9,ea,eb⟩:=t.k10;go_wp2_with fail;refine l.mono ?_;clear l e2 e3 e4 e5 e8 e9 ea eb;rintro be da⟨el,rfl,Z,p⟩;have v:=dD (a4.trans p);have co:=dD (db.aA p);have cm:=dD (t.aA p);clear p;obtain⟨ei,ek,rfl,aj⟩:=Z.at.bA;have ak:=Z.at.short;have a6:=dD aj;rw[QP,Yz]at ak⊢;rw[QP]at a6;clear Z aj;obtain⟨I,ck⟩:=kA ((qG s).length);rw[ck.out]at ak⊢;go_wp2;have cx:=dD g
  go_loopg[20] I (fun bf cf wr=>∃u:Nat,u<=I/\I-u<=bf/\cf=I6 u/\Xo (zc da wr))
  exact⟨0,nZ _,Wm,rfl,zc.refl _⟩
  obtain⟨u,eg,p,rfl,g⟩:=hrel
  by_cases r:u<I
  ·have X:=kC r
   obtain⟨n,T⟩:∃n,Xo ((qG s)[u]?=Xa n):=⟨_,gE (Rx ck.out r)⟩
   have ai:=zgi T.out;obtain⟨de,rfl,af⟩:=a6.out u (n:Int) (by rw[Yc,T.out];rfl)
   have dq:=af wr g.out;clear af;have ab:=b0.out s (mG b9) n (mG T);have a2:=dD ab;clear ab;have b4:=dD (v.trans g);have aa:=zcx (x.ar.x) s.aE (n:Int) wr (h.ar.aA b4);have e1:=(cm.aA g).c 1 rfl;go_wp2_with fail;refine aa.mono ?_;clear aa dq e1;rintro be N⟨⟨cv,rfl,cu⟩,ac⟩;have a3:=dD cu;have z:=dD (g.trans ac);have b:=dD (v.trans z);clear ac cu;have dx:¬cv<0:=fun av=>by
    have:=zfq a3.out;rw[decide_eq_false Wm]at this
    have bg:=a2.out;unfold zgS at bg;rw[kE this.symm]at bg;exact absurd bg Dc
   obtain⟨k,a,rfl,A,b5⟩:∃(k:Nat)(a:Ar),cv=(k:Int)/\Xo (s.aE[k]?=Xa a)/\Xo (inZ a (n:Int)=Xc):=by
    rcases a3 with⟨k,a,aq,cd,dz⟩|⟨aq,_⟩
    ·exact⟨k,a,aq,cd,dz⟩
    omega
   have a0:=dD<|zfA a1 A.out;have dv:k<x.ar.n:=by rw[<-ay.out];exact(gS.1 A).1
   have b1:Xo (zd2 m a n (zl s n)=0):=dD<|by rw[<-a2.out,zaT a1.out A.out b5.out,zlz b6.out a0.out]
   have P:=(Zl (zqh bb n)).2.1.1;have a8:Xo (∀W,zc w W->Xp prog 68 #[Xi #[aw.x,I6 m.aB,ax.x,L.x,M.x,G.x,H.x,K.x,I6 m.cnt,F.x,O (Xa cp) d E],Xi #[I6 a.fr,I6 a.tz,Xh a.rd,Xh a.wr,Xh a.sh,I6 a.file,I6 a.base],I6 (n:Int),enV (zl s n)] W fun be w'=>be=Xl (I6 0)/\zc W w'):=dD<|fun W a9=>a7.out a n (zl s n) W a9 a0 Wm P b1.out
   have b3:Xo (∀W,zc w W->Xp prog 69 #[Xi #[x.t0.x,x.t1.x,x.t2.x,x.t3.x,x.t4.x,x.t5.x,x.t6.x,x.t7.x],I6 (n:Int)] W fun e w'=>e=Xl (enV (zl s n))/\zc W w'):=dD<|fun W a9=>by
    have:=Qw x.tab s.tb (n:Int) W (h.aA a9).tb;rw[zfk ai]at this;exact this
   clear P;go_upto_region 10 with fail;obtain⟨c,am,q⟩:=az.out k a A.out;have i:=dD (co.aA z);have B:=dD (cm.aA z);have bu:=i.gw 0 rfl
   have bv:=i.gw 1 rfl
   have bw:=i.gw 2 rfl
   have bx:=i.gw 3 rfl
   have bz:=i.gw 4 rfl
   have c0:=i.gw 5 rfl
   have c1:=i.gw 6 rfl
   have c2:=i.gw 7 rfl
   have c3:=i.gw 8 rfl
   have c4:=i.gw 9 rfl
   have ao:=i.gw 10 rfl
   have Y:=B.gw 1 rfl
   have bl:=B.gw 2 rfl
   have bm:=B.gw 3 rfl
   have bn:=B.gw 4 rfl
   have bo:=B.gw 5 rfl
   have bp:=B.gw 6 rfl
   have bq:=B.gw 7 rfl
   have br:=B.gw 8 rfl
   have bs:=B.gw 9 rfl
   (try simp only[Sli.x]at Y);rw[am]at Y;have c5:=fun y:zf N=>(q _ (b.trans y.aA)).1
   have c6:=fun y:zf N=>(q _ (b.trans y.aA)).2.1
   have c7:=fun y:zf N=>(q _ (b.trans y.aA)).2.2.1
   have c8:=fun y:zf N=>(q _ (b.trans y.aA)).2.2.2.1
   have c9:=fun y:zf N=>(q _ (b.trans y.aA)).2.2.2.2.1
   have ca:=fun y:zf N=>(q _ (b.trans y.aA)).2.2.2.2.2.1
   have cb:=fun y:zf N=>(q _ (b.trans y.aA)).2.2.2.2.2.2
   have bk:Nonempty (zf N):=⟨⟨_,zc.refl _⟩⟩;clear q am;refine qq [(10,⟨fun au=>au=enV (zl s n),fun au w'=>True⟩),(11,⟨fun au=>au=I6 0,fun au w'=>True⟩)] zU Kr (Sb ⟨_,rfl⟩ ⟨_,rfl⟩) ?hp ?_
   case hp=>
    intro x an;simp only[mC,nM,or_false]at an
    rcases an with rfl|rfl
    ·exact fun _ _ _ _ av=>av
    exact fun _ _ _ _ av=>av
   iterate 10 refine ze ?_
   refine zz rfl rfl (fun w' bi bh=>?_) (fun ec bt=>?_)
   ·refine zI.call [Xi #[x.t0.x,x.t1.x,x.t2.x,x.t3.x,x.t4.x,x.t5.x,x.t6.x,x.t7.x],I6 (n:Int)] rfl func69 rfl rfl rfl ?_;refine(b3 w' (b.trans bi)).mono ?_;rintro e cg⟨rfl,U⟩;exact⟨_,rfl,U,rfl,trivial⟩
   subst bt;refine Uq ?_;refine zz rfl rfl (fun w' bi bh=>?_) (fun ec bt=>?_)
   ·refine zI.call [Xi #[aw.x,I6 m.aB,ax.x,L.x,M.x,G.x,H.x,K.x,I6 m.cnt,F.x,O (Xa cp) d E],Xi #[I6 a.fr,I6 a.tz,Xh a.rd,Xh a.wr,Xh a.sh,I6 a.file,I6 a.base],I6 (n:Int),enV (zl s n)] rfl func68 rfl rfl rfl ?_;refine(a8 w' (b.trans bi)).mono ?_;rintro e cg⟨rfl,U⟩;exact⟨_,rfl,U,rfl,trivial⟩
   subst bt;refine Uq ?_;refine ze ?_
   refine zH fun ef ae bh=>?_
   have a5:=dD (z.trans ae);have ci:=dD (v.trans a5);clear ae bh bu bv bw bx bz c0 c1 c2 c3 c4 ao Y bl bm bn bo bp bq br bs c5 c6 c7 c8 c9 ca cb bk;go_wp2
   go_roundg (I-(u+1));exact⟨u+1,Wm,Wm,Gn,a5⟩;omega
  have X:=kD r
  have:u=I:=Wm
  subst this;have dd:=dD (co.aA g);have cw:=dD (v.trans g);go_wp2
  go_roundg (d-(f+1));exact⟨f+1,Wm,Wm,Gn,cw,dd⟩;omega
 have ag:=kD D
 have:f=d:=Wm
 subst this;go_wp2;go_ret;exact⟨rfl,g⟩
theorem zaG(a w)(k:frW a=0):Xp prog 108 #[Xi (frv a).toArray] w fun e w'=>e=Xl (I6 0)/\zc w w':=by
 obtain⟨⟨n,p,q,s,t,u,v,y⟩,r,B,z,h,x⟩:=a
 show Xp prog 108 #[Xi #[U8 n,U8 p,U8 q,U8 s,U8 t,U8 u,U8 v,U8 y,I6 r,Xh B,Xh z,I6 h,I6 x]] w _
 cases b:inB r 1001 with
 |false=>simp[frW,b]at k
 |true=>
 cases d:inB x 12 with
 |false=>simp[frW,b,d]at k
 |true=>
 by_cases l:h=-1
 ·have f:(h==-1)=Xc:=by simp[l]
  have i:(h !=-1)=Xd:=by simp[l]
  by_cases m:r=0
  ·have c:(r==0)=Xc:=by simp[m]
   cases g:zbb (⟨⟨n,p,q,s,t,u,v,y⟩,r,B,z,h,x⟩:Fr) frF with
   |false=>simp[frW,b,d,f,c,g]at k
   |true=>
    have j:x=0:=by have:=zfo g;simp only[frF,Fr.mk.injEq]at this;exact this.2.2.2.2.2
    exact wf7 _ _ _ _ _ _ _ _ _ _ _ _ _ w b d i f c g (by simp[j])
  have c:(r==0)=Xd:=by simp[m]
  by_cases j:x=0
  ·exact wf9 _ _ _ _ _ _ _ _ _ _ _ _ _ w b d i f c (by simp[j])
  have A:(x==0)=Xd:=by simp[j]
  simp[frW,b,d,f,c,A]at k
 have f:(h==-1)=Xd:=by simp[l]
 have i:(h !=-1)=Xc:=by simp[l]
 cases j:inB h 5 with
 |false=>simp[frW,b,d,f,j]at k
 |true=>
  by_cases m:r=0
  ·have c:(r==0)=Xc:=by simp[m]
   have g:zbb (⟨⟨n,p,q,s,t,u,v,y⟩,r,B,z,h,x⟩:Fr) frF=Xd:=by
    refine zoA fun h=>?_
    simp only[frF,Fr.mk.injEq]at h;exact l h.2.2.2.2.1
   simp[frW,b,d,f,j,c,g]at k
  have c:(r==0)=Xd:=by simp[m]
  exact wf5 _ _ _ _ _ _ _ _ _ _ _ _ _ w b d i f j c
theorem zmF:∀{fs:List Fr},zfK fs=0->∀f∈fs,frW f=0
 |[],_,_,a=>by cases a
 |g::fs,h,f,a=>by
  unfold zfK at h
  by_cases b:frW g=0
  ·rw[kE b]at h
   rcases mC.1 a with rfl|a
   ·exact b
   exact zmF h f a
  rw[kF b]at h;exact absurd h b
theorem ZQ(a)(c:Nat)(fs:List Fr)(h:Int)(w)(g:zj z9 w (O a fs.length c) fs)(i:j4 fs h=0):
  Xp prog 58 #[Xi #[O a fs.length c,I6 h]] w fun e w'=>e=Xl (I6 0)/\zc w w':=by
 have d:=g.short;obtain⟨b,b,f,b⟩:=g.bC;cases f;have r:=dD b;clear b g;have b:j4 fs h=if 40<fs.length then 4 else if zfK fs=0 then(if inB h (max fs.length 1)then 0 else 3)else zfK fs:=rfl;rw[i]at b;obtain⟨n,k⟩:=kA fs.length;rw[k.out]at d b⊢;have d:¬40<n:=fun e=>by rw[kE e]at b;cases b
 rw[kF d]at b;have p:Xo (∀f∈fs,frW f=0):=dD<|zmF (Decidable.byContradiction fun e=>e (by rw[kF e]at b;exact b.symm))
 have g:zfK fs=0:=Decidable.byContradiction fun e=>e (by rw[kF e]at b;exact b.symm)
 rw[kE g]at b;have f:inB h (max n 1)=Xc:=by
  cases e:inB h (max n 1)with
  |true=>rfl
  |false=>rw[e]at b;cases b
 clear b g i;have b:¬(40:Int)<(n:Int):=Wm
 have j:Xo (∀W,Xp prog 109 #[I6 h,I6 (max (n:Int) 1)] W fun e w'=>e=Xl (Xh Xc)/\w'=W):=dD<|fun W=>by
  have b:=Zd h (max (n:Int) 1) W;rw[show inB h (max (n:Int) 1)=inB h (max n 1) by simp,f]at b
  exact b
 clear f;obtain⟨g,b⟩:=kB (w.alloc (Xk #[O a n c,I6 h] 32));have h:=gA b
 have m:=xA b
 have f:=dD b;clear b d
 go_enter func58,ntmps58
 go_wp2;rw[f.out]
 go_loopg[13] n (fun f d wr=>∃b:Nat,b<=n/\n-b<=f/\d=I6 b/\Xo (zc g wr))
 exact⟨0,nZ _,Wm,rfl,zc.refl _⟩
 obtain⟨b,d,d,rfl,g⟩:=hrel
 by_cases f:b<n
 ·have i:=kC f
  obtain⟨q,l⟩:∃q,Xo (fs[b]?=Xa q):=⟨_,gE (Rx k.out f)⟩
  obtain⟨d,rfl,k⟩:=r.out b q l.out;obtain⟨d,d,d,d,d,d,d,d,d,d,d,d,d⟩:=k wr (h.trans g);have d:=fun W=>zaG q W (p q (mG l))
  clear k
  go_wp2_with(go_at_call 108;refine(d _).mono ?_;rintro e w'⟨rfl,d⟩)
  go_roundg (n-(b+1));exact⟨b+1,Wm,Wm,Gn,(g.trans (za _ _)).trans d⟩;omega
 have i:=kD f
 have:b=n:=Wm
 subst this;obtain⟨b,b⟩:=(m.aA g).k2;have b:=j.out
 go_wp2_with(go_at_call 109;refine(b _).mono ?_;rintro e w'⟨rfl,rfl⟩)
 go_ret;exact⟨rfl,h.trans g⟩
theorem zdq(h:zaj m=0):(∀k:Nat,k<m.fs.length->frE m k=0)/\∀k:Nat,k<m.sl.length->znE m k=0:=by
 have a:∀(f:Nat->Int)(n:Nat),zC ((Yw n).map f)=0->∀k,k<n->f k=0:=fun f n a k b=>zp.1 a _ (Yr.2 ⟨k,Yl.2 b,rfl⟩)
 grind[zaj,zC,Yw,frE]
theorem zdK(V)(m:Ma)(w)(a3:zq w V m)(b2:zbU m Xb m.ca=0)(a9:m.sp.length<=4)(b9:∀s∈m.sp,tbW s.tb=0)(ck:zaj m=0):
  Xp prog 33 #[Xi (mL V m).toArray] w fun e w'=>e=Xl (I6 0)/\zc w w':=by
 have au:Xo (∀W,zc w W->Xp prog 70 #[Xi (mL V m).toArray] W fun e w'=>∃B,e=Xl (Xi #[V.f.x,I6 m.aB,V.s.x,V.sb.x,V.sq.x,V.db.x,V.dq.x,V.fl.x,I6 m.cnt,V.ca.x,V.sp.x,.map (Xa B)])/\Zh plK w' B (Zz m.ca)/\zc W w'):=dD<|fun W a6=>QJ V m W (a3.aA a6)
 have ar:Xo (∀W,zc w W->Xp prog 71 #[Xi (mL V m).toArray] W fun e w'=>∃B,e=Xl (.map (Xa B))/\Ja enK w' B (qn m m.sp.length [] zdP)/\zc W w'):=dD<|fun W a6=>zif V m W (a3.aA a6) a9 b9
 have aq:=dD<|fun(B:Nat)(k:Nat)W(a6:zc w W)(b5:k<m.fs.length)(ay:Zh plK W B (Zz m.ca))=>zfi V m B k (Zz m.ca) W (a3.aA a6) b5 ay
 obtain⟨⟨a4,j,S⟩,⟨U,n,X⟩,g,i,c,d,f,b,h⟩:=V;dsimp only[mL]at au ar aq⊢;obtain⟨cn,co,-⟩:=a3.ns;dsimp only at cn co;have c3:=dD a3.bC;have cb:=dD a3.sls;have c7:=dD cn.symm;have c8:=dD co.symm;have e4:j<=9223372036854775807:=Hm a3.fs.short
 have e5:n<=9223372036854775807:=Hm a3.sl.short
 have c2:Xo (∀k:Nat,k<m.fs.length->(z3 m k).r=qn m m.sp.length [] zdP (1,(k:Int))/\(0<=(z3 m k).f->Zz m.ca ((z3 m k).f,(z3 m k).x)=Xa (k:Int))):=dD<|fun k b5=>by
  have l:=(zdq ck).1 k b5;rw[zoB b2 k]at l
  by_cases ao:(z3 m k).r≠qn m m.sp.length [] zdP (1,(k:Int))\/(0<=(z3 m k).f/\¬Zz m.ca ((z3 m k).f,(z3 m k).x)=Xa (k:Int))
  ·rw[kE ao]at l;cases l
  exact⟨Decidable.byContradiction fun e=>ao (.inl e),fun e=>Decidable.byContradiction fun dv=>ao (.inr ⟨e,dv⟩)⟩
 have ca:Xo (∀k:Nat,k<m.sl.length->m.sl.getD k 0=qn m m.sp.length [] zdP (2,(k:Int))):=dD<|fun k b5=>by
  have l:=(zdq ck).2 k b5;rw[zlN m k]at l
  by_cases ao:m.sl.getD k 0≠qn m m.sp.length [] zdP (2,(k:Int))
  ·rw[kE ao]at l;cases l
  exact Decidable.byContradiction ao
 clear a3 b2 a9 b9 cn co ck;obtain⟨di,a0⟩:=kB (w.alloc (Xk #[O a4 j S,I6 m.aB,O U n X,g.x,i.x,c.x,d.x,f.x,I6 m.cnt,b.x,h.x] 45));have I:=gA a0
 have A:=xA a0
 have cc:=dD a0;clear a0
 go_enter func33,ntmps33
 go_upto_region 1 with fail;rw[cc.out];have ba:=A.gw 0 rfl
 have bb:=A.gw 1 rfl
 have bc:=A.gw 2 rfl
 have bd:=A.gw 3 rfl
 have be:=A.gw 4 rfl
 have bf:=A.gw 5 rfl
 have bg:=A.gw 6 rfl
 have bh:=A.gw 7 rfl
 have bi:=A.gw 8 rfl
 have bj:=A.gw 9 rfl
 have aa:=A.gw 10 rfl
 have P:Nonempty (zf di):=⟨⟨_,zc.refl _⟩⟩;refine jc 5 [(1,⟨fun r=>∃B,r=Xi #[O a4 j S,I6 m.aB,O U n X,g.x,i.x,c.x,d.x,f.x,I6 m.cnt,b.x,h.x,.map (Xa B)],fun r w'=>∃B,r=Xi #[O a4 j S,I6 m.aB,O U n X,g.x,i.x,c.x,d.x,f.x,I6 m.cnt,b.x,h.x,.map (Xa B)]/\Zh plK w' B (Zz m.ca)⟩),(3,⟨fun r=>∃B,r=.map (Xa B),fun r w'=>∃B,r=.map (Xa B)/\Ja enK w' B (qn m m.sp.length [] zdP)⟩),(4,⟨fun r=>∃R,r=Xj (Xa ⟨R,0,Xb⟩),fun r w'=>∃R,r=Xj (Xa ⟨R,0,Xb⟩)/\Box w' R [eS,I6 0,eS,eS,eS,eS,eS,eS,I6 0,eS,eS,.map Xb]/\w.heap.size<=R⟩)] zU Kr rfl rfl Dc (Sc ⟨_,0,rfl⟩ ⟨_,0,rfl⟩ ⟨_,0,rfl⟩) ?hp ?_
 case hp=>
  intro cs Q;simp only[mC,nM,or_false]at Q
  rcases Q with rfl|rfl|rfl
  ·exact fun _ _ _ z t=>by obtain⟨B,l,a5⟩:=t;exact⟨B,l,a5.aA z⟩
  ·exact fun _ _ _ z t=>by obtain⟨B,l,a5⟩:=t;exact⟨B,l,a5.aA z⟩
  exact fun _ _ _ z t=>by obtain⟨R,l,a5,e0⟩:=t;exact⟨R,l,a5.aA z,e0⟩
 simp only[Yf,Yg];refine ze ?_
 refine zz rfl rfl (fun w' z D=>?_) (fun cr T=>?_)
 ·refine zI.call [Xi #[O a4 j S,I6 m.aB,O U n X,g.x,i.x,c.x,d.x,f.x,I6 m.cnt,b.x,h.x]] rfl func70 rfl rfl rfl ?_;refine(au w' (I.trans z)).mono ?_;rintro e bu⟨B,rfl,ay,a2⟩;exact⟨_,rfl,a2,⟨B,rfl⟩,B,rfl,ay⟩
 obtain⟨ct,rfl⟩:=T;refine Uq ?_;refine ze ?_
 refine zz rfl rfl (fun w' z D=>?_) (fun cr T=>?_)
 ·refine zI.call [Xi #[O a4 j S,I6 m.aB,O U n X,g.x,i.x,c.x,d.x,f.x,I6 m.cnt,b.x,h.x]] rfl func71 rfl rfl rfl ?_;refine(ar w' (I.trans z)).mono ?_;rintro e bu⟨B,rfl,ay,a2⟩;exact⟨_,rfl,a2,⟨B,rfl⟩,B,rfl,ay⟩
 obtain⟨cu,rfl⟩:=T;refine Uq ?_;refine zz rfl rfl (fun w' z D=>?_) (fun cr T=>?_)
 ·have b8:Box (w'.alloc (Xk #[eS,I6 0,eS,eS,eS,eS,eS,eS,I6 0,eS,eS,.map Xb] 131)) w'.heap.size [eS,I6 0,eS,eS,eS,eS,eS,eS,I6 0,eS,eS,.map Xb]:=Box.aD _ _ _ rfl;have cl:=bS (I.trans z);clear ba bb bc bd be bf bg bh bi bj aa P;refine zI.step (v:=Xj (Xa ⟨w'.heap.size,0,Xb⟩)) (w':=w'.alloc (Xk #[eS,I6 0,eS,eS,eS,eS,eS,eS,I6 0,eS,eS,.map Xb] 131)) (by simp only[execOp];go_simp) ⟨za _ _,⟨_,rfl⟩,_,rfl,b8,cl⟩
 obtain⟨de,rfl⟩:=T;refine Uq ?_;refine zH fun ce H D=>?_
 obtain⟨u,af,az⟩:∃B,(Value.agg #[O a4 j S,I6 m.aB,O U n X,g.x,i.x,c.x,d.x,f.x,I6 m.cnt,b.x,h.x,.map (Xa ct)])=Xi #[O a4 j S,I6 m.aB,O U n X,g.x,i.x,c.x,d.x,f.x,I6 m.cnt,b.x,h.x,.map (Xa B)]/\Zh plK ce B (Zz m.ca):=D 1;obtain⟨Y,ag,b0⟩:∃B,(Value.map (Xa cu))=.map (Xa B)/\Ja enK ce B (qn m m.sp.length [] zdP):=D 3;obtain⟨an,ah,ax,a8⟩:∃R,(Value.pointer (Xa ⟨de,0,Xb⟩))=Xj (Xa ⟨R,0,Xb⟩)/\Box ce R [eS,I6 0,eS,eS,eS,eS,eS,eS,I6 0,eS,eS,.map Xb]/\w.heap.size<=R:=D 4;have dw:u=ct:=by simp at af;exact af.symm
 have dx:Y=cu:=by simp at ag;exact ag.symm
 have dy:an=de:=by simp at ah;exact ah.symm
 subst dw dx dy;have cx:=dD az;have dg:=dD b0;have bw:=dD ax;have c6:=dD a8;have c4:=dD (I.trans H);have da:=dD (A.aA H);clear af ag ah az b0 ax a8 H D ba bb bc bd be bf bg bh bi bj aa P;have cd:Xo (w.heap.size≠an):=show _≠_ from fun e=>by
  obtain⟨ef,l⟩:=da.out;obtain⟨eg,a5⟩:=bw.out;rw[<-e,l]at a5
  simp at a5
 go_wp2_with(refine zx rfl 131 (.tmp 3) (.tmp 10) rfl an rfl [O a4 j S,I6 m.aB,O U n X,g.x,i.x,c.x,d.x,f.x,I6 m.cnt,b.x,h.x,.map (Xa u)] rfl bw rfl Kr (fun r T=>by
    simp only[mC,nM,or_false]at T
    rcases T with rfl|rfl|rfl|rfl|rfl|rfl|rfl|rfl|rfl|rfl|rfl|rfl<;>rfl) ?_)
 intro aw b1 L _;have dk:=dD b1;have db:=dD<|da.grown L cd.out;have dh:Xo (Zh plK aw u (Zz m.ca)):=cx.kept L (fun e=>by cases e;exact bw.bK cx rfl)
 have cy:Xo (Ja enK aw Y (qn m m.sp.length [] zdP)):=dD<|by
  obtain⟨dz,dd,ea⟩:=dg.out;exact⟨dz,dd.kept L (fun e=>by cases e;exact bw.bK dd rfl),ea⟩
 have E:=dD<|zd c4 L c6.out
 clear b1 L;have eb:=db.c 0 rfl;go_wp2;clear eb
 go_loopg[17] j (fun cj cp wr=>∃a:Nat,a<=j/\j-a<=cj/\cp=I6 a/\Xo (zc aw wr))
 exact⟨0,nZ _,Wm,rfl,zc.refl _⟩
 obtain⟨a,e9,e8,rfl,Z⟩:=hrel
 by_cases ak:a<j
 ·have b7:=kC ak
  have y:Xo (a<m.fs.length):=dD<|Rx c7.out ak
  obtain⟨q,cw⟩:∃q,Xo (m.fs[a]?=Xa q):=⟨_,gE y⟩;have ap:Xo (z3 m (a:Int)=q):=dD<|by unfold z3;rw[tN,gD,cw.out];rfl
  obtain⟨cf,rfl,b6⟩:=c3.out a q cw.out;obtain⟨dc,dl,dm,dn,dp,dq,dr,ds,dt,du,cg,ch,ci⟩:=b6 wr (E.trans Z);clear b6;go_upto_region 5 with fail;obtain⟨cz,a1⟩:=kB (wr.alloc (Xk #[U8 q.p.b0,U8 q.p.b1,U8 q.p.b2,U8 q.p.b3,U8 q.p.b4,U8 q.p.b5,U8 q.p.b6,U8 q.p.b7,I6 q.r,Xh q.u,Xh q.d,I6 q.f,I6 q.x] 93));have x:=gT a1 Z
  have cv:=dD (E.trans x);have bz:=xA a1
  have C:=dD (dk.aA x);rw[a1];clear a1 dc dl dm dn dp dq dr ds dt du cg ch ci;obtain⟨ee,c9⟩:=kA wr.heap.size;rw[c9.out]at bz⊢;obtain⟨t,F⟩:=kA ((qn m m.sp.length [] zdP) (1,(a:Int)));have aj:∀bx:zf cz,(Instr.lookup 133 (.map (Xa Y)) (Xi #[I6 1,I6 (a:Int),Xh Xd]) Xd).run prog bx.world=.ok (I6 t) bx.world:=fun bx=>by
   have:=(cy.aA (x.trans bx.aA)).look (K:=enK) underlying133 (zr8 _) (1,(a:Int));rw[F.out]at this;exact this
  have b4:=bz.gw 8 rfl
  have a7:=bz.gw 11 rfl
  have bk:=C.gw 0 rfl
  have bl:=C.gw 1 rfl
  have bm:=C.gw 2 rfl
  have bn:=C.gw 3 rfl
  have bo:=C.gw 4 rfl
  have bp:=C.gw 5 rfl
  have bq:=C.gw 6 rfl
  have br:=C.gw 7 rfl
  have bs:=C.gw 8 rfl
  have bt:=C.gw 9 rfl
  have ab:=C.gw 10 rfl
  have ac:=C.gw 11 rfl
  have P:Nonempty (zf cz):=⟨⟨_,zc.refl _⟩⟩;obtain⟨am,ai⟩:=c2.out a y.out;rw[ap.out,F.out]at am;have cm:(q.r !=t)=Xd:=by simp[am]
  by_cases G:0<=q.f
  ·have b3:decide (0<=q.f)=Xc:=Si G
   have df:Xo (decide (Zz m.ca ((z3 m (a:Int)).f,(z3 m (a:Int)).x)=Xa (a:Int))=Xc):=dD<|decide_eq_true (ai (Rx ap.out G))
   have c1:Xo (∀W,zc aw W->Xp prog 72 #[Xi #[O (Xa cf) j S,I6 m.aB,O U n X,g.x,i.x,c.x,d.x,f.x,I6 m.cnt,b.x,h.x,.map (Xa u)],I6 (a:Int)] W fun e w'=>e=Xl (Xh Xc)/\zc W w'):=dD<|fun W a6=>by
    have l:=aq.out u a W (E.trans a6) y (dh.aA a6);rw[df.out]at l;exact l
   clear am G ai;refine qq [(14,⟨fun r=>r=Xh Xc,fun r w'=>True⟩)] zU Kr (Sa ⟨_,rfl⟩) ?hp ?_
   case hp=>
    intro cs Q;simp only[mC,nM,or_false]at Q;subst Q;exact fun _ _ _ _ t=>t
   iterate 14 refine ze ?_
   refine zz rfl rfl (fun w' z D=>?_) (fun cr T=>?_)
   ·refine zI.call [Xi #[O (Xa cf) j S,I6 m.aB,O U n X,g.x,i.x,c.x,d.x,f.x,I6 m.cnt,b.x,h.x,.map (Xa u)],I6 (a:Int)] rfl func72 rfl rfl rfl ?_;refine(c1 w' (x.trans z)).mono ?_;rintro e bu⟨rfl,H⟩;exact⟨_,rfl,H,rfl,trivial⟩
   subst T;refine Uq ?_;iterate 3 refine ze ?_
   refine zH fun dj M D=>?_
   have ae:=dD (x.trans M);clear M D aj b4 a7 bk bl bm bn bo bp bq br bs bt ab ac P;go_wp2
   go_roundg (j-(a+1));exact⟨a+1,Wm,Wm,Gn,ae⟩;omega
  have b3:decide (0<=q.f)=Xd:=Si G
  clear am G ai;refine qq [] zU Kr Sm Sm ?_
  iterate 12 refine ze ?_
  iterate 4 (refine jo Kr ?_;simp only[Ym,sB,sS,sZ])
  iterate 2 refine ze ?_
  refine zH fun dj M D=>?_
  have ae:=dD (x.trans M);clear M D aj b4 a7 bk bl bm bn bo bp bq br bs bt ab ac P;go_wp2
  go_roundg (j-(a+1));exact⟨a+1,Wm,Wm,Gn,ae⟩;omega
 have b7:=kD ak
 have:a=j:=Wm
 subst this;have ec:=(db.aA Z).c 2 rfl;go_wp2;clear ec;have c0:=dD Z
 go_loopg[44] n (fun cj cq wr=>∃p:Nat,p<=n/\n-p<=cj/\cq=I6 p/\Xo (zc aw wr))
 exact⟨0,nZ _,Wm,rfl,c0⟩
 obtain⟨p,ed,a2,rfl,Z⟩:=hrel
 by_cases N:p<n
 ·have al:=kC N
  have y:Xo (p<m.sl.length):=dD<|Rx c8.out N
  obtain⟨bv,av⟩:∃bv,Xo (m.sl[p]?=Xa bv):=⟨_,gE y⟩;obtain⟨cf,rfl,b6⟩:=cb.out p bv av.out;have dc:=b6 wr (E.trans Z);clear b6;obtain⟨t,F⟩:=kA ((qn m m.sp.length [] zdP) (2,(p:Int)));have aj:(Instr.lookup 133 (.map (Xa Y)) (Xi #[I6 2,I6 (p:Int),Xh Xd]) Xd).run prog wr=.ok (I6 t) wr:=by
   have:=(cy.aA Z).look (K:=enK) underlying133 (zr8 _) (2,(p:Int));rw[F.out]at this;exact this
  have am:bv=t:=by
   have:=ca.out p y.out;rw[gD,av.out,F.out]at this;exact this
  have cm:(bv !=t)=Xd:=by simp[am]
  clear am;go_wp2
  go_roundg (n-(p+1));exact⟨p+1,Wm,Wm,Gn,Z⟩;omega
 have al:=kD N
 have:p=n:=Wm
 subst this;have c5:=dD (E.trans Z);go_wp2;go_ret;exact⟨rfl,c5⟩
theorem zeI(V m w)(a3:zq w V m)(bu:zjH m)(ch:zC (Je m)=0):
  Xp prog 29 #[Xi (mL V m).toArray] w fun e w'=>e=Xl (I6 0)/\zc w w':=by
 obtain⟨c6,y,f,T,⟨D,d,E⟩,⟨F,i,G⟩,R,Q,S⟩:=V;dsimp only[mL];have df:=zbw;obtain⟨-,s,bx,-,am,bz,-⟩:=a3.ns;dsimp only at s bx am bz;have aq:=dD<|fun ai(d9:zc w ai)=>zdl _ m.fl m.cnt ai (a3.aA d9).fl bu.st
 have b9:=dD a3.pgs;have ba:=dD a3.puts;obtain⟨ab,ah⟩:=zht bu.dq;have bd:=dD ah;have B:=dD am.symm;have az:=dD bz.symm;have bw:i<=9223372036854775807:=Hm a3.dq.2.2
 rw[B.out]at ab;have h:zoE m=if y.n≠f.n\/m.cnt≠(d:Int)then 7 else 0:=by unfold zoE;rw[s,bx,am]
 have v:=zp.1 ch;have n:zbj m=0:=v _ (by simp[Je])
 have r:zaR m=0:=v _ (by simp[Je])
 rw[v (zoE m) (by simp[Je])]at h
 have ao:Xo (∀c,c<m.db.length->zhi m c=Xd):=dD<|fun c bv=>by
  cases aa:zhi m c with
  |false=>rfl
  |true=>rw[zla bv aa]at n;cases n
 have be:Xo (∀(j:Nat)x,m.dq[j]?=Xa x->z4 m.fl x.1=Xc):=dD<|fun j x de=>by
  cases aa:z4 m.fl x.1 with
  |true=>rfl
  |false=>rw[zj6 de aa]at r;cases r
 have da:¬(y.n≠f.n\/m.cnt≠(d:Int)):=fun aa=>by rw[kE aa]at h;cases h
 have al:f.n=y.n:=Wm
 have bk:m.cnt=(d:Int):=Wm
 clear a3 bu ah s bx am bz h v n r ch da;obtain⟨cb,k⟩:=kB (w.alloc (Xk #[c6.x,I6 m.aB,y.x,f.x,T.x,O D d E,O F i G,R.x,I6 m.cnt,Q.x,S.x] 45));have a5:=gA k
 have C:=xA k
 have cn:Xo (w.heap.size<cb.heap.size):=dD<|by rw[<-k];simp
 have bf:=dD k;clear k;have cw:((f.n:Int)!=(y.n:Int))=Xd:=by simp[al]
 have cy:((d:Int)!=m.cnt)=Xd:=by simp[bk]
 have cx:(f.n !=y.n)=Xd:=by simp[al]
 have ac:=aq.out cb a5.out;have cl:=dD al;have cm:=dD bk;clear al bk
 go_enter func29,ntmps29
 go_upto_region 1 with fail;rw[bf.out];have dn:=C.c 2 rfl;have dp:=C.c 3 rfl;have c7:=C.c 5 rfl;have c8:=C.c 6 rfl;have dq:=C.c 7 rfl;have dr:=C.c 8 rfl;go_upto_region 3 with fail;go_wp2_with fail;refine ac.mono ?_;clear ac dn dp c7 c8 dq dr;rintro e aj⟨rfl,H⟩;have a6:=dD (a5.trans H);have cc:=dD (C.aA H);clear H;obtain⟨a4,u⟩:=kA (qC 80 (qD m.fl m.fl.length []));have aw:Xo (a4.length=80):=show _=_ by rw[<-u.out];exact zaY _ _
 have ax:Xo (∀dm∈a4,dm.oneCell'=Xc):=dD<|by rw[<-u.out];exact zgx _ _
 have a8:Xo (∀c:Nat,c<80->a4[c]?=Xa (Xh (z4 m.fl (c:Int)))):=dD<|fun c bv=>by rw[<-u.out];exact zoH bv
 rw[u.out];obtain⟨cq,l⟩:=kB (aj.alloc (Xk zfN 114));have ar:=gT l a6
 have ct:=yA l cc
 have cu:Xo (Box cq aj.heap.size (Xr 80 (Xh Xd))):=dD<|by rw[<-l];exact Box.aD _ (Xr 80 (Xh Xd)) _ rfl
 have bg:=dD l;clear l;have av:=dD<|bS a6.out
 have bh:=dD cc.lt
 go_wp2_with(first|(rw[bg.out];refine zx rfl 114 (.tmp 3) (.tmp 28) rfl aj.heap.size rfl a4 rfl cu (by rw[aw.out];simp) (Si zr9) ax.out ?_))
 intro cr ae K _;have au:=dD<|zd ar K av.out
 have cd:Xo (Box cr w.heap.size [c6.x,I6 m.aB,y.x,f.x,T.x,O D d E,O F i G,R.x,I6 m.cnt,Q.x,S.x]):=ct.grown K (Hm bh.out)
 have cg:=dD ae;obtain⟨an,b8⟩:=kA aj.heap.size;rw[b8.out]at cg⊢;clear ae K df;have c7:=cd.c 5 rfl;go_wp2;clear c7;obtain⟨P,ay⟩:=kA d;rw[ay.out]at ab⊢
 go_loopg[33] P (fun bt c4 wr=>∃b:Nat,b<=P/\P-b<=bt/\c4=I6 b/\Xo (zc w wr)/\Xo (Box wr w.heap.size [c6.x,I6 m.aB,y.x,f.x,T.x,O D d E,O F i G,R.x,I6 m.cnt,Q.x,S.x])/\Xo (Box wr an a4))
 exact⟨0,nZ _,Wm,rfl,au,cd,cg⟩
 obtain⟨b,dd,dc,rfl,z,cf,ak⟩:=hrel
 by_cases L:b<P
 ·have ag:=kC L
  have p:b<80:=Wm
  have a7:Xo (b<m.db.length):=dD<|by rw[B.out,ay.out];exact L
  obtain⟨c0,c9⟩:∃c0,Xo (m.db[b]?=Xa c0):=⟨_,gE a7⟩;obtain⟨cv,W,X,Y,Z,I,a0,a1,a2,rfl,rfl,af⟩:=b9.out b c0 c9.out;have A:Xo (zhi m b=(!z4 m.fl (b:Int)&&!([W,X,Y,Z,I,a0,a1,a2]==zS))):=dD<|by unfold zhi;rw[gD,c9.out];rfl
  obtain⟨bl,bm,bn,bo,bp,bq,br,bs⟩:=af wr z.out;have N:=fun ai=>zbB 9998 W X Y Z I a0 a1 a2 0 0 0 0 0 0 0 0 ai
  simp only[zln]at N;obtain⟨cp,ca⟩:=kA (z4 m.fl (b:Int));have g:=a8.out b p;rw[ca.out]at g;rw[ca.out]at A;obtain⟨co,bb⟩:=kA ([W,X,Y,Z,I,a0,a1,a2]==zS);rw[bb.out]at N A;clear af;go_upto_region 7 with fail;obtain⟨cs,a⟩:=kB (wr.alloc (Xk #[U8 W,U8 X,U8 Y,U8 Z,U8 I,U8 a0,U8 a1,U8 a2] 91));have t:=gT a z
  have ce:=yA a cf
  have U:=yA a ak
  have bj:=xA a
  rw[a];clear a bl bm bn bo bp bq br bs;have ds:=U.c b g;obtain⟨cj,dg,dh,an,di,dj,dk,dl⟩:=bj.c8;clear g
  cases cp with
  |true=>
   clear cj dg dh an di dj dk dl N;go_wp2
   go_roundg (P-(b+1));exact⟨b+1,Wm,Wm,Gn,t,ce,U⟩;omega
  |false=>
   cases co with
   |true=>
    go_wp2
    go_roundg (P-(b+1));exact⟨b+1,Wm,Wm,Gn,t,ce,U⟩;omega
   |false=>
    have:=ao.out b a7.out;rw[A.out]at this;cases this
 have ag:=kD L
 have:b=P:=Wm
 subst this;have c8:=cf.c 6 rfl;go_wp2;clear c8;obtain⟨s,a9⟩:=kA i;rw[a9.out]at bw⊢;have ap:=dD z;have bi:=dD ak
 go_loopg[52] s (fun bt c5 wr=>∃j:Nat,j<=s/\s-j<=bt/\c5=I6 j/\Xo (zc w wr)/\Xo (Box wr an a4))
 exact⟨0,nZ _,Wm,rfl,ap,bi⟩
 obtain⟨j,dt,db,rfl,z,ak⟩:=hrel
 by_cases q:j<s
 ·have M:=kC q
  obtain⟨x,bc⟩:∃x,Xo (m.dq[j]?=Xa x):=⟨_,gE (by rw[az.out,a9.out];exact q)⟩
  obtain⟨cv,ci,W,X,Y,Z,I,a0,a1,a2,rfl,rfl,af⟩:=ba.out j x bc.out;obtain⟨ck,c3⟩:=bd.out j _ bc.out;simp only at ck c3;obtain⟨c,rfl⟩:∃c:Nat,ci=(c:Int):=⟨ci.toNat,Wm⟩
  have p:c<80:=by rw[B.out,ay.out]at c3;omega
  obtain⟨bl,bm,bn,bo,bp,bq,br,bs,cz⟩:=af wr z.out;have g:=a8.out c p;rw[show z4 m.fl (c:Int)=Xc from be.out j _ bc.out]at g
  clear af ck c3;go_upto_region 13 with fail;obtain⟨cs,a⟩:=kB (wr.alloc (Xk #[I6 (c:Int),U8 W,U8 X,U8 Y,U8 Z,U8 I,U8 a0,U8 a1,U8 a2] 117));have t:=gT a z
  have U:=yA a ak
  have bj:=xA a
  rw[a];clear a bl bm bn bo bp bq br bs cz;have ds:=U.c c g;have cj:=bj.c 0 rfl;clear g;go_wp2
  go_roundg (s-(j+1));exact⟨j+1,Wm,Wm,Gn,t,U⟩;omega
 have M:=kD q
 have:j=s:=Wm
 subst this;go_wp2;go_ret;exact⟨rfl,z⟩
theorem zq3(V m w)(b:zq w V m)(d:maW m=0)(k:Nat)(f:Nat)(a:chk[k]?=Xa f):
  Xp prog f #[Xi (mL V m).toArray] w fun e w'=>e=Xl (I6 0)/\zc w w':=by
 have c:∀e∈zqt m,e=0:=zp.1 (by rw[<-d,zpU];rfl)
 have g:zC (QK m)=0:=c _ (by simp[zqt])
 have n:zC (Je m)=0:=c _ (by simp[zqt])
 have d:Qe m=0:=c _ (by simp[zqt])
 have j:zd3 m=0:=c _ (by simp[zqt])
 have p:zfW m=0:=c _ (by simp[zqt])
 have q:zaj m=0:=c _ (by simp[zqt])
 have c:=zqM.1 g
 match k,a with
 |0,a=>
  cases a;have k:=zeF V m w b fun W i=>by
   obtain⟨l,-⟩:=b.ns;have h:=(b.aA i).fs;(try simp only[Sli.x]at h⊢);rw[l]at h⊢;have i:j4 m.fs m.aB=0:=zp.1 g _ (by simp[QK])
   rw[i];exact ZQ _ _ m.fs m.aB W h i
  rw[g]at k;exact k
 |1,a=>cases a;exact zeI V m w b c n
 |2,a=>cases a;rw[<-d];exact zcz V m w b
 |3,a=>cases a;rw[<-j];exact zdL V m w b c
 |4,a=>cases a;exact zdI V m w b c (zlY d) p
 |5,a=>cases a;exact zdK V m w b j (zfV d) (fun s b=>(zlY d s b).2) q
 |k+6,a=>simp[chk]at a
theorem Zn(V m w)(b:zq w V m)(a:maW m=0):
  Xp prog 20 #[Xi (mL V m).toArray] w fun e w'=>e=Xl (I6 0)/\zc w w':=by
 have g:Xo (∀W,zc w W->∀(k f:Nat),chk[k]?=Xa f->Xp prog f #[Xi (mL V m).toArray] W fun e w'=>e=Xl (I6 0)/\zc W w'):=dD<|fun W c k f d=>zq3 V m W (b.aA c) a k f d
 clear b a;obtain⟨d,a⟩:=kB ((w.alloc (Xk (mL V m).toArray 45)).alloc (Xk #[.func (.func 28) #[] #[],.func (.func 29) #[] #[],.func (.func 30) #[] #[],.func (.func 31) #[] #[],.func (.func 32) #[] #[],.func (.func 33) #[] #[]] 77));have b:=gD2 a
 have j:=x2a a
 have k:Xo (Box d (w.heap.size+1) (chk.map fnV)):=dD<|by rw[<-a];exact Box.aD _ (chk.map fnV) _ Sm
 have c:=dD a;clear a
 go_enter func20,ntmps20
 go_upto_region 2 with fail;rw[c.out];go_wp2
 go_loopg[10] 6 (fun h c wr=>∃a:Nat,a<=6/\6-a<=h/\c=I6 a/\Xo (zc d wr))
 exact⟨0,nZ _,Wm,rfl,zc.refl _⟩
 obtain⟨a,c,c,rfl,d⟩:=hrel;have i:=dD (b.trans d)
 by_cases b:a<6
 ·have c:(a:Int)<6:=Wm
  obtain⟨f,h⟩:∃f,Xo (chk[a]?=Xa f):=⟨_,gE (by simp[chk];exact b)⟩
  have v:wr.cell? ⟨w.heap.size+1,a,Xb⟩=Xa (.func (.func f) #[] #[]):=(k.aA d).c a (by rw[Yc,h.out];rfl)
  have k:=zk6 a f h.out;have b:=g.out wr i a f h.out;have g:=dD (j.aA d);obtain⟨h,j,l,n,p,q,r,s,t,u,f⟩:=g.aU;go_wp2_with fail;refine b.mono ?_;clear b h j l n p q r s t u f v;rintro b b⟨rfl,b⟩;have f:=dD (d.trans b);clear b k;go_wp2
  go_roundg (6-(a+1));exact⟨a+1,Wm,Wm,Gn,f⟩;omega
 have c:¬(a:Int)<6:=Wm
 go_wp2;go_ret;exact⟨rfl,i⟩
def J7(m:Ma)(p:Int)(q:Nat)(s:Sp):Prop:=p=(q:Int)/\m.sp[q]?=Xa s/\s.aH=Xc
theorem zil(n:Nat)(a:n<=40)(w):
  Xp prog 107 #[.int .u64 1,.int .u64 (n:Int)] w fun e w'=>e=Xl (Xm #[.int .u64 0,.int .u64 (n:Int)])/\w'=w:=by
 have h:bits .and .u64 1 4294967295=1:=Mul64.maskN 1 Wm
 have i:bits .and .u64 (n:Int) 4294967295=(n:Int):=by rw[Mul64.maskN n Wm];omega
 have g:bits .and .u64 0 4294967295=0:=Mul64.maskN 0 Wm
 have f:(n:Int)/4294967296=0:=Wm
 have c:=dD h;have d:=dD i;have b:=dD g;have a:=dD f;clear h i g f
 go_enter func107,ntmps107
 go_wp2;have f:IntKind.u64.wrap 0=0:=Mul64.wrapN 0 Wm
 have g:IntKind.u64.wrap (n:Int)=(n:Int):=Mul64.wrapN n Wm
 simp only[c.out,d.out,Int.one_mul,g,a.out,f,b.out,Int.mul_zero,Int.add_zero,Int.zero_ediv]
 go_ret2
 exact⟨rfl,rfl⟩
theorem zgL(n:Nat)(b:n<=40)(w):
  Xp prog 57 #[.int .u64 1,.int .u64 (n:Int)] w fun e w'=>e=Xl (Xm #[.int .u64 0,.int .u64 (n:Int)])/\w'=w:=by
 have a:=zil n b w
 go_enter func57,ntmps57
 go_wp2_with(go_at_call 107;refine a.mono ?_;rintro e w'⟨rfl,a⟩;rw[a])
 go_ret2
 exact⟨rfl,rfl⟩
section
variable{α:Type}{E:Elt α}
theorem zj1(m:List α):∀(l:List α)(a:Nat),a+m.length<=l.length->splice (l.flatMap E.enc) (a*E.k) (m.flatMap E.enc)=(l.take a++(m++l.drop (a+m.length))).flatMap E.enc:=fun l a h=>by
 have b:∀(l:List α)(j:Nat),j<=l.length->(l.flatMap E.enc).take (j*E.k)=(l.take j).flatMap E.enc/\(l.flatMap E.enc).drop (j*E.k)=(l.drop j).flatMap E.enc:=fun l j c=>by
  have d:l.flatMap E.enc=(l.take j).flatMap E.enc++(l.drop j).flatMap E.enc:=by rw[<-Xs,Oc]
  have e:((l.take j).flatMap E.enc).length=j*E.k:=by rw[qB E,Yu,Yi c]
  constructor
  ·grind
  grind
 unfold splice;rw[qB E m,<-Nat.add_mul,(b l a Wm).1,(b l (a+m.length) h).2,Xs,Xs]
theorem QN{w:Xn}(A:TypeId)(base:Nat)(v:Xq)(l:List α)(d:zb E base w v l)(g:Nat)(u:v.ownBlock=Xa g)(a b h:Nat)(n:Addr)(e k:Nat)
  (m:List α)(y:m.length=Yx e b)(j:q8 w n (m.flatMap E.enc))(c:a+m.length<=l.length):
  ∃w',(Builtin.copy_ #[E.st,E.st] A #[O (Xa ⟨g,a*E.k,Xb⟩) b h,O (Xa n) e k]).run prog w=.ok (goInt m.length) w'/\zb E base w' v (l.take a++(m++l.drop (a+m.length)))/\w.grownBy w' (Xa g)/\w'.heap.size=w.heap.size:=by
 obtain⟨B,x,_,p,_⟩:=info_parts E.aF;have i:(m.flatMap E.enc).length=m.length*E.k:=qB E m;have f:a*E.k+(m.flatMap E.enc).length<=l.length*E.k:=by
  rw[i,<-Nat.add_mul];exact Yp _ c
 obtain⟨w',z,q,s,t⟩:=jn (P:=prog) d.1 u (a*E.k) (m.flatMap E.enc) f (qO E.one m);have r:=run_loadCells_list (P:=prog) w n (m.flatMap E.enc) j;rw[i]at r;rw[zj1 m l a c]at q;have hlen:(l.take a++(m++l.drop (a+m.length))).length=l.length:=by simp;omega
 refine⟨w',?_,⟨by rw[hlen];exact q,by rw[hlen];exact d.2⟩,s,t⟩
 simp[Builtin.copy_,run_underlying E.bT,Builtin.lenOf,Builtin.firstCells,sizeOf,typeInfo,x,p,<-y,r,z]
theorem qk{w:Xn}{rest:List Oper}{a:Act}(r:o.guard=Xb)(d s:Operand)(F:o.op=.call {callee:=.builtin .copy,args:=#[d,s],argTypes:=#[E.st,E.st]})
  (base:Nat)(v:Xq)(l:List α)(j:zb E base w v l)(g:Nat)(C:v.ownBlock=Xa g)(c b f:Nat)(t:Addr)(B:a.eval d=O (Xa t) b f)(q:t=⟨g,c*E.k,Xb⟩)(p:Addr)(e h:Nat)(G:a.eval s=O (Xa p) e h)
  (m:List α)(D:m.length=Yx e b)(n:q8 w p (m.flatMap E.enc))(i:c+m.length<=l.length)
  (u:∀w',zb E base w' v (l.take c++(m++l.drop (c+m.length)))->w.grownBy w' (Xa g)->w'.heap.size=w.heap.size->wpList prog ops Q rest (a.put o.dst (goInt m.length)) w'):wpList prog ops Q (o::rest) a w:=by
 subst q;refine wpList_plain r fun K A=>?_
 obtain⟨w',k,x,y,z⟩:=QN o.type base v l j g C c b f p e h m D n i;unfold Oper.wp
 simp[execOp,F,resolve,invoke,builtin,B,G,k,Result.andThen]
 exact A _ _ (u w' x y z)
end
theorem zkC(q)(n m z:Nat)(_h:m<=n)(a:z=Yx m (n-m)):(Xr m q++Xr (n-m) fr0).take m++(Xr z q++(Xr m q++Xr (n-m) fr0).drop (m+z))=Xr (m+z) q++Xr (n-(m+z)) fr0:=by
 have b:z<=n-m:=by rw[a];exact Nat.min_le_right _ _
 rw[Yq Sm,Yn Sm,List.drop_append,Yy Sm,List.nil_append,lR,Yh,<-Oj,Xv]
 congr 2
 omega
theorem zgK(q)(x:Nat)(c n:Nat)(i:n<=40)(d:1<=n)(w:Xn)(a:zj z9 w (O (Xa ⟨x,0,Xb⟩) 1 c) [q]):
  Xp prog 25 #[O (Xa ⟨x,0,Xb⟩) 1 c,I6 (n:Int)] w fun e w'=>∃b,e=Xl b/\zP z9 w.heap.size w' b (Xr n q)/\zc w w':=by
 have h:Xo (q8 w ⟨x,0,Xb⟩ ([q].flatMap z9.enc)):=by
  obtain⟨⟨f,f,g,_,f⟩,_⟩:=a;cases g;exact f _ rfl
 clear a;have a:=zgL n i w;have i:¬(n:Int)<0:=Wm
 have i:¬(9223372036854775807:Int)<(n:Int):=Wm
 go_enter func25,ntmps25
 go_wp2_with(first
  |(go_at_call 57;refine a.mono ?_;rintro e w'⟨rfl,a⟩;rw[a])
  |(refine qr (E:=z9) rfl (.tmp 29) rfl n rfl (by show n*40<=_;omega) ?_;intro C a;have i:Xo (zb z9 w.heap.size (w.alloc (Xk C 93)) (O (Xa ⟨w.heap.size,0,Xb⟩) n n) (Xr n fr0)):=a;clear a)
  |(refine qk (E:=z9) rfl (.tmp 31) (.tmp 32) rfl w.heap.size (O (Xa ⟨w.heap.size,0,Xb⟩) n n) (Xr n fr0) i w.heap.size rfl 0 n n _ rfl ?a1 _ 1 c rfl [q] ?a2 ?a3 ?a4 ?_))
 case a1=>simp
 case a2=>show 1=Yx 1 n;exact(Yi d).symm
 case a3=>exact h.aA (za _ _)
 case a4=>simp;omega
 intro j h a _;have i:Xo (zb z9 w.heap.size j (O (Xa ⟨w.heap.size,0,Xb⟩) n n) (Xr 1 q++Xr (n-1) fr0)):=show zb z9 _ _ _ (Xr 1 q++Xr (n-1) fr0) by simpa[Yh]using h
 have j:=dD<|zd (za _ _) a (nR _);clear h a;go_wp2
 go_loopg[8] n (fun a h wr=>∃m:Nat,1<=m/\m<=n/\n-m<=a/\h=I6 m/\Xo (zb z9 w.heap.size wr (O (Xa ⟨w.heap.size,0,Xb⟩) n n) (Xr m q++Xr (n-m) fr0))/\Xo (zc w wr))
 exact⟨1,nR _,d,Wm,rfl,i,j⟩
 obtain⟨m,a,a,a,rfl,r,p⟩:=hrel
 by_cases j:m<n
 ·have k:=kC j
  have a:(m:Int)<=(n:Int):=Wm
  have h:=dD<|r.aA (gW _)
  obtain⟨z,l⟩:∃z,Xo (z=Yx m (n-m)):=⟨_,rfl⟩;have a:z=min m (n-m):=l.out;have d:1<=z:=Wm
  have i:z<=m:=Wm
  have d:z<=n-m:=Wm
  clear a;have d:q8 wr.drew ⟨w.heap.size,0,Xb⟩ ((Xr z q).flatMap z9.enc):=fun s u a=>by
   have g:=h.1.cells rfl;refine g s u ?_;rw[Xs,Xw]
   ·rw[show m=z+(m-z) by omega,<-Xv,Xs,Xw (gS.1 a).1]
    exact a
   have f:=(gS.1 a).1;rw[qB z9]at f⊢;simp only[lR]at f⊢;exact Ya f (Yp _ i)
  obtain⟨s,a,f,i,_⟩:=QN (E:=z9) 3 w.heap.size _ _ h w.heap.size rfl m (n-m) (n-m) ⟨w.heap.size,0,Xb⟩ m n (Xr z q) (Rx lR l) d (by simp;omega)
  have h:(Builtin.copy_ #[30,30] 3 #[O (Xa ⟨w.heap.size,m*13,Xb⟩) (n-m) (n-m),O (Xa ⟨w.heap.size,0,Xb⟩) m n]).run prog wr.drew=.ok (I6 (z:Int)) s:=by
   have g:=a;rw[lR]at g;exact g
  have h:Xo (zb z9 w.heap.size s (O (Xa ⟨w.heap.size,0,Xb⟩) n n) (Xr (m+z) q++Xr (n-(m+z)) fr0)):=dD<|by
   rw[<-zkC q n m z Wm l.out]
   rw[lR]at f;exact f
  have g:=dD<|zd (p.trans (gW _)) i (nR _)
  clear d a f i;go_wp2
  go_region
  go_wp2
  go_roundg (n-(m+z));exact⟨m+z,Wm,Wm,nR _,Gn,h,g⟩;omega
 have k:=kD j
 have:m=n:=Wm
 subst this;have a:Xo (zb z9 w.heap.size wr (O (Xa ⟨w.heap.size,0,Xb⟩) m m) (Xr m q)):=dD<|by have:=r.out;simpa using this
 go_wp2;go_ret;exact⟨_,rfl,a.new,p⟩
def zkf(n:Int):Int:=if 0<=n/\n<=40 then 0 else 4
def zod(n:Int):List Fr:=if 0<=n/\n<=40 then Xr n.toNat frF else[]
theorem zhR(q)(x:Nat)(c:Nat)(w:Xn):
  Xp prog 25 #[O (Xa ⟨x,0,Xb⟩) 1 c,I6 0] w fun e w'=>∃b,e=Xl b/\zP z9 w.heap.size w' b (Xr 0 q)/\zc w w':=by
 have a:=zgL 0 Wm w
 go_enter func25,ntmps25
 go_wp2_with(first
  |(go_at_call 57;refine a.mono ?_;rintro e w'⟨rfl,a⟩;rw[a])
  |(refine qr (E:=z9) rfl (.tmp 29) rfl 0 rfl (by show 0*40<=_;omega) ?_;intro C a;have d:Xo (zb z9 w.heap.size (w.alloc (Xk C 93)) (O (Xa ⟨w.heap.size,0,Xb⟩) 0 0) (Xr 0 fr0)):=a;clear a)
  |(refine qk (E:=z9) rfl (.tmp 31) (.tmp 32) rfl w.heap.size (O (Xa ⟨w.heap.size,0,Xb⟩) 0 0) (Xr 0 fr0) d w.heap.size rfl 0 0 0 _ rfl ?a1 _ 1 c rfl [] ?a2 ?a3 ?a4 ?_))
 case a1=>simp
 case a2=>rfl
 case a3=>intro j u a;simp at a
 case a4=>simp
 intro g d a _;have f:Xo (zb z9 w.heap.size g (O (Xa ⟨w.heap.size,0,Xb⟩) 0 0) (Xr 0 q)):=dD<|Si d
 have h:=dD<|zd (za _ _) a (nR _);clear d a;go_wp2
 go_loopg[8] 0 (fun _ a wr=>a=I6 0/\wr=g)
 exact⟨rfl,rfl⟩
 obtain⟨rfl,rfl⟩:=hrel;go_wp2;go_ret;exact⟨_,rfl,f.new,h⟩
theorem zkc(n:Nat)(z:n<=40)(w:Xn):
  Xp prog 15 #[I6 (n:Int)] w fun e w'=>∃b,e=Xl (Xm #[Xi #[b,I6 0],I6 0])/\zP z9 w.heap.size w' b (Xr n frF)/\zc w w':=by
 have B:¬(n:Int)<0:=Wm
 have A:¬(40:Int)<(n:Int):=Wm
 have d:∀W x,Box W x (frv frF)->Xp prog 25 #[O (Xa ⟨x,0,Xb⟩) 1 1,I6 (n:Int)] W fun e w'=>∃b,e=Xl b/\zP z9 W.heap.size w' b (Xr n frF)/\zc W w':=fun W x C=>by
  by_cases u:1<=n
  ·refine zgK frF x 1 n z u W ⟨⟨_,1,rfl,fun h=>(by cases h),fun L D=>?_⟩,by show 1*40<=_;omega⟩
   cases D;intro E K y;rw[Xu,zA];exact C.c E (by have h:=y;simp only[List.flatMap_cons,List.flatMap_nil,List.append_nil]at h;exact h)
  have:n=0:=Wm
  subst this;exact zhR frF x 1 W
 go_enter func15,ntmps15
 go_wp2_with fail;refine(QV _).mono ?_;rintro e g⟨rfl,i⟩;have m:=dD<|(Box.aD w [eS,I6 0] _ rfl).aA i;have k:Xo (zc w g):=(za _ _).trans i;clear i;simp only[frv,frF,pg0];go_wp2_with fail;refine(d _ _ (Box.aD g _ _ rfl)).mono ?_;rintro e t⟨b,rfl,f,j⟩;obtain⟨p,q,rfl,_⟩:=f.1.rows;rw[lR]at f⊢;have s:Xo (zP z9 g.heap.size t (O p n q) (Xr n frF)):=f.base Sm
 have c:=(m.alloc (Xk #[U8 0,U8 0,U8 0,U8 0,U8 0,U8 0,U8 0,U8 0,I6 0,Xh Xd,Xh Xd,I6 (-1),I6 0] 93)).aA j;have r:=dD ((k.trans (za _ _)).trans j);obtain⟨F,G⟩:=c.k2;have H:=c.f;have l:=dD m.lt;clear f j;go_wp2;refine bodyPost_ret (v:=Xm #[Xi #[O p n q,I6 0],I6 0]) (by simp[results,Tryz.results15,go_sem, *]) rfl ⟨_,rfl,?_,?_⟩
 ·exact((s.setCell (a:=⟨w.heap.size,0,Xb⟩) l _).setCell (a:=⟨w.heap.size,1,Xb⟩) l _).base (bS k)
 exact zG (zG r Sm _) Sm _
theorem zkd(n:Int)(a:¬(0<=n/\n<=40))(w:Xn):
  Xp prog 15 #[I6 n] w fun e w'=>∃b,e=Xl (Xm #[Xi #[b,I6 0],I6 4])/\zP z9 w.heap.size w' b ([]:List Fr)/\zc w w':=by
 by_cases a:n<0
 ·go_enter func15,ntmps15
  go_wp2;refine bodyPost_ret (v:=Xm #[Xi #[eS,I6 0],I6 4]) (by simp[results,Tryz.results15,go_sem, *]) rfl ⟨_,rfl,zP.nil z9 _ _,?_⟩
  exact za _ _
 have a:40<n:=Wm
 go_enter func15,ntmps15
 go_wp2;refine bodyPost_ret (v:=Xm #[Xi #[eS,I6 0],I6 4]) (by simp[results,Tryz.results15,go_sem, *]) rfl ⟨_,rfl,zP.nil z9 _ _,?_⟩
 exact za _ _
theorem zn9(n:Nat)(a:n<=60)(w:Xn):
  Xp prog 16 #[I6 (n:Int)] w fun e w'=>∃a b,e=Xl (Xm #[O a n b,I6 0])/\zP slE w.heap.size w' (O a n b) (Xr n 0)/\zc w w':=by
 have a:¬(n:Int)<0:=Wm
 have a:¬(60:Int)<(n:Int):=Wm
 go_enter func16,ntmps16
 go_wp2_with(refine qr slE rfl (.tmp 10) rfl n rfl (by show n*8<=_;omega) ?_)
 intro C a;have b:Xo (zb slE w.heap.size (w.alloc (Xk C 3)) (O (Xa ⟨w.heap.size,0,Xb⟩) n n) (Xr n 0)):=a;clear a
 show wpList _ _ _ _ _ (w.alloc (Xk C 3))
 obtain⟨a,a⟩:=kB (w.alloc (Xk C 3));have c:=gA a
 rw[a]at b⊢;clear a;go_wp2;refine bodyPost_ret (v:=Xm #[O (Xa ⟨w.heap.size,0,Xb⟩) n n,I6 0]) (by simp[results,Tryz.results16,go_sem, *]) rfl ⟨_,_,rfl,b.new,c⟩
theorem zoa(n:Int)(a:¬(0<=n/\n<=60))(w):
  Xp prog 16 #[I6 n] w fun e w'=>e=Xl (Xm #[eS,I6 4])/\zc w w':=by
 by_cases b:n<0
 ·clear a
  go_enter func16,ntmps16
  go_wp2;refine bodyPost_ret (v:=Xm #[eS,I6 4]) (by simp[results,Tryz.results16,go_sem, *]) rfl ⟨rfl,zc.refl _⟩
 have b:60<n:=Wm
 clear a
 go_enter func16,ntmps16
 go_wp2;refine bodyPost_ret (v:=Xm #[eS,I6 4]) (by simp[results,Tryz.results16,go_sem, *]) rfl ⟨rfl,zc.refl _⟩
theorem zgD(v)(fs:List Int)(b:Int)(w)(x:zj blE w v fs):
  Xp prog 251 #[v,I6 b] w fun e w'=>(∃z:Int,e=Xl (I6 z)/\decide (0<=z)=fs.contains b)/\zc w w':=by
 have k:=x.short;obtain⟨K,M,rfl,d⟩:=x.bA;have C:=dD d;clear d x;obtain⟨n,s⟩:=kA fs.length;rw[s.out]at k⊢;obtain⟨i,c⟩:=kA (fs.contains b);rw[c.out]
 go_enter func251,ntmps251
 go_wp2
 go_loopg[5,8] n (fun D _ H wr=>∃a:Nat,a<=n/\n-a<=D/\H=I6 a/\Xo (zc w wr)/\Xo (∀(j:Nat)q,j<a->fs[j]?=Xa q->¬b=q))
 exact⟨0,nZ _,Wm,rfl,zc.refl w,fun j q l=>absurd l (nL _)⟩
 obtain⟨a,F,P,rfl,p,A⟩:=hrel
 by_cases f:a<n
 ·have m:=kC f
  obtain⟨q,t⟩:∃q,Xo (fs[a]?=Xa q):=⟨_,gE (Rx s.out f)⟩
  obtain⟨L,rfl,y⟩:=C.out a q t.out;have N:=y wr p.out;clear y
  by_cases h:b=q
  ·have u:(b==q)=Xc:=Si h
   have r:Xo (decide (0<=(a:Int))=i):=dD<|by
    rw[<-c.out,h,Od.2 (mG t.out)];simp
   clear h;go_wp2;go_ret;exact⟨⟨_,rfl,r⟩,p⟩
  have u:(b==q)=Xd:=Si h
  have B:Xo (∀(j:Nat)q,j<a+1->fs[j]?=Xa q->¬b=q):=dD<|fun j G l g=>by
   by_cases e:j=a
   ·subst e;rw[t.out]at g;cases g;exact h
   exact A j G Wm g
  clear h;go_wp2
  go_roundg (n-(a+1));exact⟨a+1,Wm,Wm,Gn,p,B⟩;omega
 have m:=kD f
 have:a=n:=Wm
 subst this;have r:Xo (decide (0<=(-1:Int))=i):=dD<|by
  have:fs.contains b=Xd:=by
   cases E:fs.contains b with
   |false=>rfl
   |true=>
    obtain⟨j,l⟩:=Xx (Od.1 E);exact absurd rfl (A j b (by rw[<-s.out];exact(gS.1 l).1) l)
  rw[<-c.out,this];rfl
 go_wp2;go_ret;exact⟨⟨_,rfl,r⟩,p⟩
theorem zds(v)(fs:List Int)(b:Int)(w)(c:zj blE w v fs):
  Xp prog 245 #[v,I6 b] w fun e w'=>e=Xl (Xh (fs.contains b))/\zc w w':=by
 have a:=zgD v fs b w c;obtain⟨d,d,rfl,_⟩:=c.bA;clear c
 generalize fs.contains b=c at a⊢
 generalize fs.length=n at a⊢
 go_enter func245,ntmps245
 go_wp2_with fail;refine a.mono ?_;rintro e c⟨⟨z,rfl,d⟩,c⟩;have f:=dD c;clear c a;have a:=dD d;clear d;go_wp2;go_ret;exact⟨by rw[<-a.out];rfl,f⟩
theorem zp8(f:Fl)(g)(h:Nat)(b:Int)(p:Nat)(w)(k:Box w p [I6 b])(q:zj blE w (O g f.bl.length h) f.bl):
  Xp prog 244 #[Xi #[I6 f.size,O g f.bl.length h],Xj (Xa ⟨p,0,Xb⟩)] w fun e w'=>e=Xl (Xh (f.bl.contains b))/\zc w w':=by
 have j:∀W,zc w W->Xp prog 245 #[O g f.bl.length h,I6 b] W fun e w'=>e=Xl (Xh (f.bl.contains b))/\zc W w':=fun W c=>zds _ f.bl b W (q.aA c)
 have l:=k.lt;have c:p≠w.heap.size:=Wm
 have c:w.heap.size≠p:=Wm
 obtain⟨c,c⟩:=kB (w.alloc (Xk #[I6 f.size,O g f.bl.length h] 159));have d:=gA c
 have m:=(k.aA d).c 0 rfl;have n:(w.alloc (Xk #[I6 f.size,O g f.bl.length h] 159)).cell? ⟨p,0,Xb⟩=Xa (I6 b):=Rx c m
 have i:=dD c;clear c q k
 generalize f.bl.contains b=c at j⊢
 generalize f.bl.length=k at*
 generalize f.size=q at*
 have c:=World.cell?_of_block (w:=w) (w':=w.alloc (Xk #[I6 q,O g k h] 159)) (a:=⟨p,0,Xb⟩) (Below.heap_alloc _ _ _ l);rw[n]at c;have g:=c.symm;clear m n c
 go_enter func244,ntmps244
 go_wp2_with fail;rw[i.out];refine(j _ d).mono ?_;rintro e c⟨rfl,c⟩;have g:=dD (d.trans c);clear c j;go_wp2;go_ret;exact⟨rfl,g⟩
theorem zfe(v fs)(b:Int)(p:Nat)(w)(d:Box w p [I6 b])(f:qe w v fs):
  Xp prog 252 #[v,.func (.func 244) #[] #[Xj (Xa ⟨p,0,Xb⟩)]] w fun e w'=>(∃z:Int,e=Xl (I6 z)/\decide (0<=z)=z4 fs b)/\zc w w':=by
 obtain⟨a,c,rfl,c,a⟩:=f.rows;have s:=dD a;have l:=dD d;have g:=enters_of func244 Kr rfl
 clear a f d;obtain⟨n,u⟩:=kA fs.length;rw[u.out]at c⊢;obtain⟨k,d⟩:=kA (z4 fs b);rw[d.out]
 go_enter func252,ntmps252
 go_wp2
 go_loopg[5,8] n (fun a _ f wr=>∃c:Nat,c<=n/\n-c<=a/\f=I6 c/\Xo (zc w wr)/\Xo (∀(j:Nat)(q:Fl),j<c->fs[j]?=Xa q->q.bl.contains b=Xd))
 exact⟨0,nZ _,Wm,rfl,zc.refl w,fun j q m=>absurd m (nL _)⟩
 obtain⟨c,a,a,rfl,h,A⟩:=hrel
 by_cases f:c<n
 ·have r:=kC f
  obtain⟨q,x⟩:∃q,Xo (fs[c]?=Xa q):=⟨_,gE (Rx u.out f)⟩
  obtain⟨a,rfl,t,y,g,i⟩:=s.out c q x.out;obtain⟨a,a⟩:=i wr h.out;have a:=zp8 q t y b p wr (l.aA h) (g.aA h);clear i g
  cases i:q.bl.contains b with
  |true=>
   rw[i]at a;have t:Xo (decide (0<=(c:Int))=k):=dD<|by
    rw[<-d.out];unfold z4;rw[zra x.out i];simp
   clear i;go_wp2_with fail;refine a.mono ?_;rintro e z⟨rfl,l⟩;have s:=dD (h.trans l);clear l a;go_wp2;go_ret;exact⟨⟨_,rfl,t⟩,s⟩
  |false=>
   rw[i]at a;have y:Xo (∀(j:Nat)(q:Fl),j<c+1->fs[j]?=Xa q->q.bl.contains b=Xd):=dD<|fun j B m g=>by
    by_cases e:j=c
    ·subst e;rw[x.out]at g;cases g;exact i
    exact A j B Wm g
   clear i;go_wp2_with fail;refine a.mono ?_;rintro e z⟨rfl,l⟩;have s:=dD (h.trans l);clear l a;go_wp2
   go_roundg (n-(c+1));exact⟨c+1,Wm,Wm,Gn,s,y⟩;omega
 have r:=kD f
 have:c=n:=Wm
 subst this;have t:Xo (decide (0<=(-1:Int))=k):=dD<|by
  rw[<-d.out];unfold z4;rw[zq9 (fun j q m=>A.out j q (by rw[<-u.out];exact(gS.1 m).1) m)]
  rfl
 go_wp2;go_ret;exact⟨⟨_,rfl,t⟩,h⟩
theorem zcm(v fs)(b:Int)(p:Nat)(w)(d:Box w p [I6 b])(c:qe w v fs):
  Xp prog 246 #[v,.func (.func 244) #[] #[Xj (Xa ⟨p,0,Xb⟩)]] w fun e w'=>e=Xl (Xh (z4 fs b))/\zc w w':=by
 have a:=zfe v fs b p w d c;obtain⟨f,f,rfl,_⟩:=c.rows;clear c d
 generalize z4 fs b=c at a⊢
 generalize fs.length=n at a⊢
 go_enter func246,ntmps246
 go_wp2_with fail;refine a.mono ?_;rintro e c⟨⟨z,rfl,d⟩,c⟩;have f:=dD c;clear c a;have a:=dD d;clear d;go_wp2;go_ret;exact⟨by rw[<-a.out];rfl,f⟩
def jC(fs:List Fl)(k:Nat):List Int:=((Yw k).filter fun(b:Nat)=>!z4 fs (b:Int)).map fun(b:Nat)=>(b:Int)
theorem zh4(fs)(k:Nat):jC fs (k+1)=if z4 fs (k:Int)=Xc then jC fs k else jC fs k++[(k:Int)]:=by
 unfold jC;rw[List.range_succ,List.filter_append]
 cases h:z4 fs (k:Int)with
 |true=>simp[h]
 |false=>simp[h]
theorem zkl(fs)(n:Nat):jC fs n=(Za fs (n:Int)).map fun(b:Nat)=>(b:Int):=by
 unfold jC Za;rw[tN]
theorem zkk(fs)(k:Nat):(jC fs k).length<=k:=by
 unfold jC;rw[Yz];exact nT (List.length_filter_le _ _) Sm
theorem zjf(v fs)(m:Nat)(a:m<=80)(w:Xn)(c:qe w v fs):
  Xp prog 239 #[Xi #[v,I6 (m:Int)]] w fun e w'=>∃b,e=Xl b/\zb blE (w.heap.size+1) w' b (jC fs m)/\zc w w':=by
 have f:=dD c;obtain⟨d,g,rfl,a,_⟩:=c.rows;clear c;obtain⟨n,c⟩:=kA fs.length;rw[c.out]at a f⊢;have a:∀(c:Fn)(first a:Array Xq)(w:Xn),(Instr.makeFunc c first a).run prog w=.ok (.func c first a) w:=fun _ _ _ _=>rfl
 obtain⟨B,a⟩:=kB (w.alloc (Xk #[O d n g,I6 (m:Int)] 41));have j:=gA a
 have s:=xA a
 have k:=sA a
 have c:=dD a;clear a
 go_enter func239,ntmps239
 go_wp2;rw[c.out]
 go_loopg[3,4,5,8] m (fun a d _ _ g wr=>∃(c:Nat)(p:Option Addr)(q:Nat),c<=m/\m-c<=a/\g=I6 c/\d=.slice p (jC fs c).length q/\Xo (zc B wr)/\Xo (zb blE (w.heap.size+1) wr (.slice p (jC fs c).length q) (jC fs c)))
 exact⟨0,Xb,0,nZ _,Wm,rfl,rfl,zc.refl _,zb.nil _ _ _⟩
 obtain⟨c,p,q,a,a,rfl,rfl,h,A⟩:=hrel
 by_cases l:c<m
 ·have n:=kC l
  obtain⟨g,d⟩:=kB (wr.alloc (Xk #[I6 (c:Int)] 3));have i:=gA d
  have r:=xA d
  have a:=zcm _ fs (c:Int) wr.heap.size g r (f.aA ((j.trans h).trans i));have z:=dD (A.aA i);have g:=dD d;have f:=zh4 fs c;have F:=dD<|zkk fs c;clear d;go_upto_region 5 with fail;rw[g.out];have C:=(s.aA (h.trans i)).c 0 rfl;have D:=(s.aA (h.trans i)).c 1 rfl;have g:=dD r.lt;obtain⟨d,d⟩:=kB wr.heap.size;rw[d]at a r g⊢;clear d
  cases x:z4 fs (c:Int)with
  |true=>
   rw[x]at a f;rw[kE rfl]at f;have d:=dD f;clear f x;go_wp2_with fail;refine a.mono ?_;rintro e u⟨rfl,g⟩;have s:=dD ((h.trans i).trans g);have t:Xo (zb blE (w.heap.size+1) u (.slice p (jC fs (c+1)).length q) (jC fs (c+1))):=show zb _ _ _ _ _ by rw[d.out];exact z.aA g
   have y:Xo ((jC fs (c+1)).length=(jC fs c).length):=dD<|by rw[d.out]
   rw[<-y.out];clear g a C D;go_wp2
   go_roundg (m-(c+1));exact⟨c+1,p,q,Wm,Wm,Gn,rfl,s,t⟩;omega
  |false=>
   rw[x]at a f;rw[kF Dc]at f
   have d:=dD f;clear f x;go_wp2_with fail;refine a.mono ?_;rintro e u⟨rfl,g⟩;have s:=dD ((h.trans i).trans g);have t:=dD (z.aA g);have f:=(r.aA g).c 0 rfl;clear g a C D;have a:Xo (w.heap.size+1<=u.heap.size):=show _<=_ by
    have:=bS s.out;rw[k.out]at this;exact this
   go_wp2_with(at_builtin;refine zr (E:=blE) rfl (.tmp 17) (.tmp 19) rfl (w.heap.size+1) _ (jC fs c) rfl (t.aA (za _ _)) _ [(c:Int)] rfl (ZD blE u (c:Int) _ _ rfl (by show 8<=_;omega)) ?qb ?qc ?_)
   case qb=>
    have:=F.out
    show(_+1)*8<=_
    omega
   case qc=>simp;have:=a.out;omega
   intro a p a f;obtain⟨g,i,rfl⟩:=a.form;have r:Xo (zb blE (w.heap.size+1) p (.slice g (jC fs (c+1)).length i) (jC fs (c+1))):=dD<|Rx d.out a
   have q:Xo (zc B p):=dD<|zT (s.trans (za _ _)) f (fun p u=>by
    have s:=(t.lt p u).1;rw[k.out];exact s)
   rw[<-d.out];clear a f;go_wp2
   go_roundg (m-(c+1));exact⟨c+1,g,i,Wm,Wm,Gn,rfl,q,r⟩;omega
 have n:=kD l
 have:c=m:=Wm
 subst this;have a:=dD (j.trans h);go_wp2;go_ret;exact⟨_,rfl,A,a⟩
theorem zme(n:Int)(w):
  Xp prog 18 #[I6 n] w fun e w'=>e=Xl (Xm #[Xi #[eS,I6 (if 0<=n/\n<=80 then n else 0)],I6 (if 0<=n/\n<=80 then 0 else 4)])/\zc w w':=by
 by_cases h:0<=n/\n<=80
 ·rw[kE h,kE h];have a:=fun W=>j1 (m:=n) (n:=81) h.1 Wm W
  clear h
  go_enter func18,ntmps18
  go_wp2_with(go_at_call 27;refine(a _).mono ?_;rintro e w'⟨rfl,rfl⟩)
  refine bodyPost_ret (v:=Xm #[Xi #[eS,I6 n],I6 0]) (by simp[results,Tryz.results18,go_sem, *]) rfl ⟨rfl,?_⟩
  first|exact za _ _|exact Below.setCell (Below.setCell (za _ _) (p:=⟨w.heap.size,0,Xb⟩) Sm _) (p:=⟨w.heap.size,1,Xb⟩) Sm _
 rw[kF h,kF h];have a:=fun W=>JV (m:=n) (n:=81) Wm W
 clear h
 go_enter func18,ntmps18
 go_wp2_with(go_at_call 27;refine(a _).mono ?_;rintro e w'⟨rfl,rfl⟩)
 refine bodyPost_ret (v:=Xm #[Xi #[eS,I6 0],I6 4]) (by simp[results,Tryz.results18,go_sem, *]) rfl ⟨rfl,?_⟩
 first|exact za _ _|exact Below.setCell (Below.setCell (za _ _) (p:=⟨w.heap.size,0,Xb⟩) Sm _) (p:=⟨w.heap.size,1,Xb⟩) Sm _
def zmb(fs:List Fl)(cnt k:Int):Int:=if stW fs cnt=0 then(if inL fs.length k=Xc then 0 else 5)else stW fs cnt
theorem zbX(v fs)(a k:Int)(w)(m:qe w v fs):
  Xp prog 188 #[Xi #[v,I6 a],I6 k] w fun e w'=>e=Xl (I6 (zmb fs a k))/\zc w w':=by
 have i:∀W,zc w W->Xp prog 61 #[Xi #[v,I6 a]] W fun e w'=>e=Xl (I6 (stW fs a))/\zc W w':=fun W t=>zaf v fs a W (m.aA t)
 obtain⟨r,s,rfl,q,_⟩:=m.rows;clear m;have d:Xo (zmb fs a k=if stW fs a=0 then(if inL fs.length k=Xc then 0 else 5)else stW fs a):=rfl;have c:∀W,Xp prog 27 #[I6 k,I6 (fs.length:Int)] W fun e w'=>e=Xl (Xh (inL fs.length k))/\w'=W:=fun W=>zdv k _ W
 generalize zmb fs a k=Z at d⊢
 generalize inL fs.length k=B at d c
 generalize stW fs a=S at d i
 generalize fs.length=x at*
 obtain⟨z,g⟩:=kB (w.alloc (Xk #[O r x s,I6 a] 41));have b:=gA g
 have p:=xA g
 have h:=dD g;clear g
 by_cases l:S=0
 ·rw[kE l]at d;subst l
  cases B with
  |true=>
   rw[kE rfl]at d
   go_enter func188,ntmps188
   go_wp2_with fail;rw[h.out];refine(i _ b).mono ?_;rintro e n⟨rfl,f⟩;have j:=dD (b.trans f);have y:=(p.aA f).c 0 rfl;clear f i
   go_wp2_with(go_at_call 27;refine(c _).mono ?_;rintro e w'⟨rfl,rfl⟩)
   go_ret;exact⟨Rr d.out,j⟩
  |false=>
   rw[kF Dc]at d
   go_enter func188,ntmps188
   go_wp2_with fail;rw[h.out];refine(i _ b).mono ?_;rintro e n⟨rfl,f⟩;have j:=dD (b.trans f);have y:=(p.aA f).c 0 rfl;clear f i
   go_wp2_with(go_at_call 27;refine(c _).mono ?_;rintro e w'⟨rfl,rfl⟩)
   go_ret;exact⟨Rr d.out,j⟩
 rw[kF l]at d;have u:(S !=0)=Xc:=Si l
 go_enter func188,ntmps188
 go_wp2_with fail;rw[h.out];refine(i _ b).mono ?_;rintro e n⟨rfl,f⟩;have j:=dD (b.trans f);clear f i;go_wp2;go_ret;exact⟨Rr d.out,j⟩
def zkb(n:Int):Int:=if 0<=n/\n<=60 then 0 else 4
def zoc(n:Int):List Int:=if 0<=n/\n<=60 then Xr n.toNat 0 else[]
theorem zke(n:Int)(w:Xn):Xp prog 15 #[I6 n] w fun e w'=>∃s:Sli,e=Xl (Xm #[Xi #[s.x,I6 0],I6 (zkf n)])/\(zj z9 w' (s.x) (zod n)/\j0 w.heap.size (s.x))/\zc w w':=by
 by_cases h:0<=n/\n<=40
 ·obtain⟨k,rfl⟩:∃k:Nat,n=(k:Int):=⟨n.toNat,Wm⟩
  refine(zkc k Wm w).mono ?_
  rintro e w'⟨f,rfl,a,d⟩;obtain⟨b,c,rfl,_⟩:=a.1.rows;refine⟨⟨b,(Xr k frF).length,c⟩,?_,⟨?_,a.2⟩,d⟩
  ·unfold zkf;rw[kE h]
  unfold zod;rw[kE h];exact a.1
 refine(zkd n h w).mono ?_;rintro e w'⟨f,rfl,a,d⟩;obtain⟨b,c,rfl,_⟩:=a.1.rows;refine⟨⟨b,([]:List Fr).length,c⟩,?_,⟨?_,a.2⟩,d⟩
 ·unfold zkf;rw[kF h]
 unfold zod;rw[kF h];exact a.1
theorem zob(n:Int)(w:Xn):Xp prog 16 #[I6 n] w fun e w'=>∃s:Sli,e=Xl (Xm #[s.x,I6 (zkb n)])/\(zj slE w' (s.x) (zoc n)/\j0 w.heap.size (s.x))/\zc w w':=by
 by_cases h:0<=n/\n<=60
 ·obtain⟨k,rfl⟩:∃k:Nat,n=(k:Int):=⟨n.toNat,Wm⟩
  refine(zn9 k Wm w).mono ?_
  rintro e w'⟨c,d,rfl,b,a⟩;refine⟨⟨c,k,d⟩,?_,⟨?_,b.2⟩,a⟩
  ·unfold zkb;rw[kE h]
  unfold zoc;rw[kE h];exact b.1
 refine(zoa n h w).mono ?_;rintro e w'⟨rfl,a⟩;refine⟨⟨Xb,0,0⟩,?_,⟨?_,Zt _⟩,a⟩
 ·unfold zkb;rw[kF h]
 unfold zoc;rw[kF h];exact zj.nil slE w'
theorem zgr(n:Int)(w:Xn):Xp prog 17 #[I6 n] w fun e w'=>∃b q:Sli,e=Xl (Xm #[Xi #[b.x,q.x],I6 (Jm n)])/\(qX w' (b.x) (zmg n)/\jD w' (q.x) []/\j0 w.heap.size (b.x)/\j0 w.heap.size (q.x))/\zc w w':=by
 refine(zpO n w).mono ?_;rintro e w'⟨d,rfl,⟨b,q,rfl,a,c,i,j⟩,k⟩;obtain⟨d,g,rfl,_⟩:=a.rows;obtain⟨f,h,rfl,_⟩:=c.rows;exact⟨⟨d,(zmg n).length,g⟩,⟨f,([]:List (Int×List Int)).length,h⟩,rfl,⟨a,c,i,j⟩,k⟩
theorem jF.beside{α:Type}{enc:α->List Xq}{w:Xn}{a:Option Nat}{v:Xq}{l:List α}(h:jF enc w v l)(i:w.grownBy w' a)(k:∀x n c,v=O (Xa x) n c->Xa x.block≠a):jF enc w' v l:=by
 obtain⟨e,c,b,f,g⟩:=h;refine⟨e,c,b,f,fun x m p u j=>?_⟩
 subst m;have d:=g x rfl p u j;rw[World.cell?_of_block (w:=w) (i.block _ (World.block_lt_of_cell? _ _ d) (by rw[j2];exact k x _ _ b))]
 exact d
def zqY(f s b:Int):Prop:=(0<=f/\f<=40)/\(0<=s/\s<=60)/\(0<=b/\b<=80)
def Zr(f s b:Int):Ma:=⟨Xr f.toNat frF,0,Xr s.toNat 0,Xr s.toNat zS,[],Xr b.toNat zS,[],[],b,[],[⟨Xc,[],Zq⟩]⟩
def zoe(f s b:Int):List Int:=[zkf f,zkb s,Jm s,Jm b,if 0<=b/\b<=80 then 0 else 4]
theorem zmf{f s b:Int}(h:zqY f s b):zC (zoe f s b)=0:=by
 obtain⟨a,c,d⟩:=h;unfold zoe zkf zkb Jm;rw[kE a,kE c,kE Wm,kE d]
 rfl
theorem zJ{e:Func}{p u t:Tmp}{c:TypeId}(h:e.results=#[.cell p c,.tmp u,.tmp t])(a:Array Xq){w:Xn}(hp:a.getD p undef=Xj (Xa ⟨b,0,Xb⟩))(f:Box w b vs){d:TypeDesc}(i:Tryz.prog.underlying c=Xa d)(g:d.isRow=Xc)(hi:(Tryz.prog.info? c).map (·.size)=Xa vs.length):
  (results e a).run prog w=.ok (Xm #[Xi vs.toArray,a.getD u undef,a.getD t undef]) w:=by
 have e:a[p]?.getD undef=Xj (Xa ⟨b,0,Xb⟩):=Si hp
 have a:=run_loadVar_mid (P:=prog) w b 0 c vs d f.range i g hi
 simp[results,h,e,asAddr,a]
theorem zm2{l:List Int}{n:Int}{k:Nat}(h:(k:Int)<=n\/k=0):zbh l 0 n k=l:=by
 unfold zbh
 apply Yd
 grind
theorem zm6(l)(b a:Int):Zm l 0 (a-b*8)=Zm l b a:=by
 grind[Zm]
theorem zcU(l:List Int)(n:Int)(w)(f:l.length=8)(a:-9223372036854775808<=n)(b:n<=9223372036854775807):
  Xp prog 182 #[Xi (pgc l).toArray,I6 n] w fun e w'=>e=Xl (Xi (pgc (Zm l 0 n)).toArray)/\(Zm l 0 n).length=8/\zc w w':=by
 have h:=dD f;have a:Xo ((Zm l 0 n).length=8):=show _=_ by unfold Zm;simp[f]
 obtain⟨c,b⟩:=kB ((w.alloc (Xk (pgc l).toArray 91)).alloc (Xk #[U8 0,U8 0,U8 0,U8 0,U8 0,U8 0,U8 0,U8 0] 91));have g:=gD2 b
 have i:=x2a b
 have p:Xo (Box c (w.heap.size+1) (pgc zS)):=dD<|by rw[<-b];exact Box.aD _ (pgc zS) _ Sm
 have d:=dD b;have m:Xo (Box c w.heap.size (pgc (zbh l 0 n n.toNat))):=show Box _ _ _ by rw[zm2 Wm];exact i.out
 obtain⟨j,c⟩:=kA (Zm l 0 n);rw[c.out]at a⊢;clear b f
 go_enter func182,ntmps182
 go_upto_region 1 with fail;rw[d.out];go_wp2
 all_goals
  go_loopg[5] 8 (fun b d wr=>∃k:Nat,n<=(k:Int)/\(k:Int)<=9223372036854775807/\8-k<=b/\d=I6 k/\Xo (zc w wr)/\Xo (Box wr w.heap.size (pgc (zbh l 0 n k)))/\Xo (Box wr (w.heap.size+1) (pgc zS)))
  case atStart=>
   exact⟨n.toNat,Wm,Wm,Wm,(by first|rw[Int.toNat_eq_max]|(congr 1;omega)|(congr 1;rw[Int.max_def];split<;>omega)|(congr 1;split<;>omega)),g,m,p⟩
  obtain⟨k,b,b,b,rfl,m,d,p⟩:=hrel
  by_cases f:k<8
  ·have g:(k:Int)<8:=Wm
   obtain⟨z,b⟩:∃z,(zbh l 0 n k)[k]?=Xa z:=⟨_,gE (by rw[zm3,h.out];exact f)⟩
   have s:=d.c k (zqO b);have t:=d.f;clear b;go_wp2;obtain⟨i,b⟩:=kB (wr.setCell ⟨w.heap.size,k,Xb⟩ (U8 0));have q:Xo (Box i w.heap.size (pgc (zbh l 0 n (k+1)))):=dD<|by rw[<-b,<-zm4 (Rx h.out f) Wm,zpL];exact d.set k _
   have r:Xo (Box i (w.heap.size+1) (pgc zS)):=dD<|by rw[<-b];exact p.other Sm _
   have f:Xo (zc w i):=dD<|by rw[<-b];exact zG m Sm _
   rw[b];clear b s t
   go_roundg (8-(k+1));exact⟨k+1,Wm,Wm,Wm,Gn,f,q,r⟩;omega
  have g:¬(k:Int)<8:=Wm
  have b:Xo (zbh l 0 n k=j):=dD<|by rw[zm5 (by rw[h.out];omega),c.out]
  rw[b.out]at d
  go_wp2_with(first|refine zm rfl 91 (.tmp 2) rfl w.heap.size rfl d underlying91 rfl (by rw[ZB,a.out];exact zr7) ?_|refine zx rfl 91 (.tmp 4) (.tmp 14) rfl (w.heap.size+1) rfl (pgc j) rfl p (by rw[ZB,a.out];rfl) zr7 (jt _) ?_)
  intro f c d _;have b:Xo (zc w f):=dD<|zd m d Wm
  go_wp2;refine bodyPost_ret (zB rfl _ rfl c underlying91 rfl (by rw[ZB,a.out];exact zr7)) rfl ⟨rfl,a,b⟩
theorem zI.aL{a:Act}{w:Xn}{K:Xq->Xn->Prop}(d p x)(g:o.op=.store d p x)(b:Nat)(hp:a.eval p=Xj (Xa ⟨b,0,Xb⟩))(vs:List Xq)(j:a.eval x=Xi vs.toArray)
  {t:TypeId}{cs:List Xq}(e:zg w b t cs)(c:vs.length=cs.length)(hi:(Tryz.prog.info? d).map (·.size)=Xa cs.length)(f:∀v∈vs,v.oneCell'=Xc)
  (h:∀w',zg w' b t vs->w.grownBy w' (Xa b)->w'.heap.size=w.heap.size->K undef w'):zI prog o a w K:=by
 unfold zI;have i:(execOp a.eval o).run prog w=.ok .skip (w.setCells b 0 vs):=by
  have:=run_storeAt_mid (P:=prog) w b 0 d vs.toArray (by simpa[c]using e.box.there) (by simpa[c]using hi) (all_oneCell_toArray f)
  simp only[execOp,g,hp,j,Xz,this,rA,Ye]
 rw[i];have hp:=e.part (ds:=vs) (o:=0) Wm
 rw[JE c]at hp;exact h _ hp (zQ b vs 0 w).1 (zQ b vs 0 w).2
theorem zbf(c:∀p∈m.db,p.length=8)(d:∀q∈m.dq,q.2.length=8)(a b:Int):(qF m a b).length=8:=by
 unfold qF
 split
 ·rfl
 grind[Zm,zi4]
theorem zfw{f:Fl}{a:Int}(d:m.fl[fi]?=Xa f)(b:f.bl[ix]?=Xa a):qF m fi ix=if a<0 then zS else Zm (qw m.db m.dq a) ix f.size:=by
 have c:m.fl.getD ((fi:Int).toNat) ⟨0,[]⟩=f:=by rw[tN,gD,d];rfl
 have d:zfE m fi ix=a:=by unfold zfE;rw[c,tN,gD,b];rfl
 have a:Z4 m fi=f.size:=by unfold Z4;rw[c]
 unfold qF;rw[d,a]
theorem zqa{fl:List Fl}{f:Fl}{c:Int}(b:fl[fi]?=Xa f)(a:f.bl[ix]?=Xa c):znH fl fi ix=Xc:=by
 have c:=(gS.1 b).1;have c:=(gS.1 a).1;have a:fl.getD ((fi:Int).toNat) ⟨0,[]⟩=f:=by rw[tN,gD,b];rfl
 unfold znH;rw[a,Zf.2 ⟨Wm,Wm⟩,Zf.2 ⟨Wm,Wm⟩]
 rfl
theorem zal(V)(m:Ma)(fi ix:Nat)(f:Fl)(d:Int)(w)(g:zq w V m)(x:m.fl[fi]?=Xa f)(b:f.bl[ix]?=Xa d)(a:ix<=1000)(H:0<=f.size/\f.size<=1000):
  Xp prog 155 #[Xi (mL V m).toArray,I6 (fi:Int),I6 (ix:Int)] w fun e w'=>e=Xl (Xi (pgc (qF m fi ix)).toArray)/\(qF m fi ix).length=8/\zc w w':=by
 have l:=dD<|fun W(a:zc w W)=>zi3 _ m.db m.dq d W ⟨_,_,rfl,(g.aA a).db,(g.aA a).dq⟩
 have r:Xo (∀W,zc w W->Xp prog 119 #[Xi #[V.fl.x,I6 m.cnt],I6 (fi:Int),I6 (ix:Int)] W fun e w'=>e=Xl (Xh Xc)/\zc W w'):=dD<|fun W a=>by
  have:=zay (V.fl.x) m.fl m.cnt fi ix W (g.aA a).fl;rw[zqa x b]at this;exact this
 have u:Xo ((qw m.db m.dq d).length=8):=zi4 g.db.2.1 g.dq.2.1;have j:Xo ((qF m fi ix).length=8):=zbf g.db.2.1 g.dq.2.1 _ _;have a:=dD<|zfw x b;obtain⟨a6,c⟩:=kA (qF m fi ix);rw[c.out]at a j⊢;obtain⟨⟨X,Z,Y⟩,a0,L,N,S,T,⟨h,k,F⟩,⟨C,E,D⟩,M⟩:=V;dsimp only[mL]at l r⊢;obtain⟨-,-,-,-,-,-,K,-,-⟩:=g.ns;dsimp only at K;obtain⟨_,_,q,_,z⟩:=qe.rows g.fl;have c:Xo (zjM w h m.fl):=show zjM _ _ _ by
  simp only[vJ]at q;rw[q.1];exact z
 have h:fi<k:=by rw[K];exact(gS.1 x).1
 obtain⟨R,rfl,P,U,t,y⟩:=c.out fi f x;have i:=dD y
 obtain⟨_,_,p,s⟩:=t.bA;have G:=(gS.1 b).1;obtain⟨n,h,c⟩:=s ix d b;have B:Xo (P=Xa n/\∀W,zc w W->W.cell? (n.add ix)=Xa (I6 d)):=dD<|⟨by simp only[vJ]at p;rw[p.1];exact h,c⟩
 obtain⟨Q,A⟩:=kA f.bl.length;rw[A.out]at G i;clear g K q z x b y t p s h c;obtain⟨a5,b⟩:=kA f.size;rw[b.out]at i a H;have b:(fi:Int)<(k:Int):=Wm
 have b:(ix:Int)<(Q:Int):=Wm
 obtain⟨s,b⟩:=kB ((w.alloc (Xk #[O X Z Y,I6 m.aB,a0.x,L.x,N.x,S.x,T.x,O (Xa R) k F,I6 m.cnt,O C E D,M.x] 45)).alloc (Xk #[U8 0,U8 0,U8 0,U8 0,U8 0,U8 0,U8 0,U8 0] 91));have q:=gD2 b
 have h:=x2a b
 have t:Xo (Box s (w.heap.size+1) (pgc zS)):=dD<|by rw[<-b];exact Box.aD _ (pgc zS) _ Sm
 have g:=dD b;clear b
 go_enter func155,ntmps155
 go_upto_region 1 with fail;rw[g.out];have p:=h.c 7 rfl;have g:=h.c 8 rfl;have b:=r.out s q.out;go_wp2_with fail;refine b.mono ?_;clear b p g;rintro W k⟨rfl,b⟩;have r:=dD (q.trans b);have q:=dD (h.aA b);have s:=dD (t.aA b);clear b;have p:=q.c 7 rfl;obtain⟨t,y⟩:=i.out k r.out;go_upto_region 4 with fail;obtain⟨b,g⟩:=kA k.heap.size;obtain⟨h,b⟩:=kB (k.alloc (Xk #[I6 a5,O P Q U] 159));have i:=gP b
 have X:=xP b g
 have A:=dD (r.trans i);have x:=dD (q.aA i);have a2:=dD (s.aA i);rw[b,g.out];clear b i t y p;obtain⟨b,c⟩:=B.out;subst b;have b:=dD c
 clear c;have p:=X.c 1 rfl;have i:=b.out h A.out
 by_cases c:d<0
 ·rw[kE c]at a
  go_wp2_with(refine zx rfl 91 (.tmp 6) (.tmp 29) rfl (w.heap.size+1) rfl (pgc zS) rfl a2 rfl zr7 (jt _) ?_)
  intro Y s t _;have k:Xo (zc w Y):=dD<|zd A t Wm
  go_wp2;refine bodyPost_ret (zB rfl _ rfl s underlying91 rfl zr7) rfl ⟨by rw[a.out],Rr a.out,k⟩
 rw[kF c]at a;have g:decide (d<0)=Xd:=decide_eq_false c;go_upto_region 6 with fail;clear p i c g;obtain⟨p,c⟩:=kA (qw m.db m.dq d);rw[c.out]at a u l;obtain⟨H,K,L,M,N,P,Q,R,rfl⟩:=zc4 p u.out;obtain⟨g,c⟩:=Wq fun u=>zc h u
 have r:=(c _).2 (gW _)
 have F:=x.h c 5 rfl
 have G:=x.h c 6 rfl
 have D:=X.h c 1 rfl
 have C:∀y:zo g,y.world.cell? (n.add ix)=Xa (I6 d):=fun y=>b.out _ (A.trans ((c _).1 y.holds))
 have a0:Nonempty (zo g):=⟨⟨_,r⟩⟩;refine Jd (I:=g) 14 [(7,⟨.const (Xh Xd),fun b=>b=Xm #[Xi #[U8 H,U8 K,U8 L,U8 M,U8 N,U8 P,U8 Q,U8 R],I6 (zn m.db.length m.dq d)],fun _ _ _=>True,fun p q=>zc p q,fun _=>True⟩),(11,⟨.const (Xh Xd),fun b=>∃g,b=Xj (Xa ⟨g,0,Xb⟩),fun _ b u=>∃g x,b=Xj (Xa ⟨g,0,Xb⟩)/\h.heap.size<=g/\zg u g 91 x/\x.length=8,fun p q=>zc p q,fun _=>True⟩),(12,⟨.tmp 8,fun _=>True,fun W _ u=>∃g,W=Xj (Xa ⟨g,0,Xb⟩)/\h.heap.size<=g/\Box u g (pgc [H,K,L,M,N,P,Q,R]),fun p q=>∃g,h.heap.size<=g/\p.grownBy q (Xa g)/\zg q g 91 (pgc [H,K,L,M,N,P,Q,R]),fun _=>True⟩)] r zU Kr Kr rfl rfl Dc (Sc ⟨_,rfl⟩ ⟨_,0,rfl⟩ ⟨Xh Xc,trivial⟩) ?hp ?hpre ?hpr0 ?_
 case hp=>
  intro a1 aa a7 a4 u U n h W b p q i E;have h:=z6 u;have b:=z6 U;clear u U;simp only[mC,pJ,nM,or_false]at h b
  rcases h with⟨rfl,rfl⟩|⟨rfl,rfl⟩|⟨rfl,rfl⟩
  ·trivial
  ·obtain⟨g,x,y,z,B,a3⟩:=E
   rcases b with⟨rfl,rfl⟩|⟨rfl,rfl⟩|⟨rfl,rfl⟩
   ·exact⟨g,x,y,z,B.aA i,a3⟩
   ·exact absurd rfl n
   obtain⟨Z,a8,a8,a9⟩:=i
   by_cases e:g=Z
   ·subst e;exact⟨g,_,y,z,a9,rfl⟩
   exact⟨g,x,y,z,B.beside a8 (fun a1 u=>by cases u;exact e),a3⟩
  obtain⟨g,y,z,B⟩:=E
  rcases b with⟨rfl,rfl⟩|⟨rfl,rfl⟩|⟨rfl,rfl⟩
  ·exact⟨g,y,z,B.aA i⟩
  ·exact⟨g,y,z,B.aA i⟩
  exact absurd rfl n
 case hpre=>
  intro a7 a4 a1 aa U u n p q i i;have b:=z6 U;simp only[mC,pJ,nM,or_false]at b
  rcases b with⟨rfl,rfl⟩|⟨rfl,rfl⟩|⟨rfl,rfl⟩<;>trivial
 case hpr0=>
  intro a1 a4 u;have h:=z6 u;simp only[mC,pJ,nM,or_false]at h
  rcases h with⟨rfl,rfl⟩|⟨rfl,rfl⟩|⟨rfl,rfl⟩<;>trivial
 simp only[Yf,Yg];iterate 7 refine Zb ?_
 refine jy rfl rfl (fun w' b i n=>?_) (fun q h=>?_)
 ·refine zI.call [Xi #[S.x,T.x],I6 d] rfl func184 rfl rfl rfl ?_;refine(l w' (A.trans ((c _).1 b))).mono ?_;rintro e p⟨rfl,d⟩;exact⟨_,rfl,(c _).2 (((c _).1 b).trans d),d,rfl,trivial⟩
 subst h;refine Uq ?_;iterate 3 refine Zb ?_
 refine jy rfl rfl (fun w' b i n=>?_) (fun q h=>?_)
 ·refine zI.step (v:=Xj (Xa ⟨w'.heap.size,0,Xb⟩)) (w':=w'.alloc (Xk #[U8 0,U8 0,U8 0,U8 0,U8 0,U8 0,U8 0,U8 0] 91)) (by clear F G D C;simp only[execOp];go_simp) ⟨(c _).2 (((c _).1 b).trans (za _ _)),za _ _,⟨_,rfl⟩,_,_,rfl,bS ((c _).1 b),zg.aD _ (pgc zS) _ rfl,rfl⟩
 obtain⟨l,rfl⟩:=h;refine Uq ?_;refine jy rfl rfl (fun w' b i n=>?_) (fun q h=>?_)
 ·obtain⟨g,x,g,d,h,i⟩:=n 11 Kr
  simp only[Value.pointer.injEq,Option.some.injEq,Addr.mk.injEq,and_true]at g;subst g;refine zI.aL 91 (.tmp 8) (.tmp 39) rfl l rfl (pgc [H,K,L,M,N,P,Q,R]) rfl h (Rr i) (Rx i zr7) (jt _) fun p i p q=>?_
  exact⟨(c _).2 (zd ((c _).1 b) p d),⟨l,d,p,i⟩,trivial,l,rfl,d,i.box⟩
 simp only[Ym];refine Zb ?_
 refine za3 fun u i n=>?_
 obtain⟨Z,g,h,d⟩:=n 12;have b:(Value.pointer (Xa ⟨l,0,Xb⟩):Xq)=Xj (Xa ⟨Z,0,Xb⟩):=g;simp only[Value.pointer.injEq,Option.some.injEq,Addr.mk.injEq,and_true]at b;subst b;have b:=(c _).1 i;have p:=dD (A.trans b);have c:=dD (X.aA b);have x:=dD (a2.aA b);have q:=dD d;clear n i r a0 F G D C b g d h;have hcut:=zcU [H,K,L,M,N,P,Q,R] (a5-(ix:Int)*8) u rfl Wm Wm
 rw[zm6]at hcut;rw[<-a.out]at hcut;have a:=c.c 0 rfl
 go_wp2_with(refine zm rfl 91 (.tmp 8) rfl l rfl q underlying91 rfl zr7 ?_)
 refine hcut.mono ?_;clear hcut a;rintro W a⟨rfl,-,a⟩;have c:=dD (x.aA a);have b:=dD (p.trans a);clear a
 go_wp2_with(refine zx rfl 91 (.tmp 6) (.tmp 47) rfl (w.heap.size+1) rfl (pgc a6) rfl c (by rw[ZB,j.out];rfl) zr7 (jt _) ?_)
 intro Y s t _;have k:Xo (zc w Y):=dD<|zd b t Wm
 go_wp2;refine bodyPost_ret (zB rfl _ rfl s underlying91 rfl (by rw[ZB,j.out];exact zr7)) rfl ⟨rfl,j,k⟩
theorem ChW.bL{w:Xn}{p:Nat}(h:ChW w0 noX p w V m)(o:zk (fun k=>k<w0.heap.size) w W):zq W V m:=by
 have c:zk (Dr w0.heap.size noX p V) w W:=o.wide fun k a=>.inl (.inl a)
 have r:=h.rest W c;obtain⟨n,f,i,j⟩:=h.sp;have a:∀{b:Type}{E:Elt b}{v:Xq}{l:List b},zb E w0.heap.size w v l->zj E W v l:=fun b=>zb.at (base:=w0.heap.size) ⟨ji b.1 o (fun g d e=>by have:=(b.lt g d).1;have e:g<w0.heap.size:=e;omega),b.2⟩
 exact⟨a h.fs,r.sl,r.sb,r.sq,r.db,r.dq,r.fl,a h.ca,⟨n,a f,i,fun i x s b a=>j i x s b a W c⟩⟩
theorem zkO(V m)(w:Xn)(n:zq w V m)(j:maW m=0)(R:Bool->Ma->Prop)(l:∀w0 W p g,ChW w0 noX p W g m->Xp prog 160 #[Xj (Xa ⟨p,0,Xb⟩),eS] W fun e w'=>∃b m',e=Xl (Xh b)/\R b m'/\Chg w0 noX p W g m' w'):
  Xp prog 95 #[Xi (mL V m).toArray] w fun e w'=>(∃(b:Bool)(m':Ma)(V':MaV),R b m'/\e=Xl (Xm #[Xi (mL V' m').toArray,Xh b,I6 0])/\∀W,zk (fun k=>k<w.heap.size) w' W->zq W V' m')/\zc w w':=by
 obtain⟨i,a⟩:=kB ((w.alloc (Xk (mL V m).toArray 45)).alloc (Xk zM.toArray 45));have x:=gD2 a
 obtain⟨d,f⟩:=kA w.heap.size;have y:Xo (zg i d 45 (mL V m)):=dD<|by rw[<-a];exact(zg.aD w (mL V m) _ f.symm).aA (za _ _)
 have C:Xo (zg i (d+1) 45 zR):=dD<|by rw[<-a];exact zg.aD _ zR _ (by have:=f.out;simp;omega)
 have A1:=dD<|n.aA x.out;have h:=dD a;have c:=Zn V m i A1 j;clear a n j;have A:=dD l
 clear l
 go_enter func95,ntmps95
 go_upto_region 1 with fail;rw[h.out,f.out];obtain⟨h,i,j,n,q,r,s,t,u,v,a⟩:=y.box.aU;go_wp2_with fail;refine c.mono ?_;clear c h i j n q r s t u v a;rintro e l⟨rfl,c⟩;have B:=dD (y.aA c);have z:=dD (C.aA c);have A2:=dD (A1.aA c);have y:=dD (x.trans c);clear c;have c:=zfx V m l A2.out;obtain⟨h,i,j,n,q,r,s,t,u,v,a⟩:=B.box.aU;go_wp2_with fail;refine c.mono ?_;clear c h i j n q r s t u v a;rintro e h⟨p,g,rfl,a⟩;have n:=dD a;have c:=dD z.box.lt;have t:=dD<|z.aA a.gr;clear a;have a:=A.out l h p g n.out;go_wp2_with fail;refine a.mono ?_;clear a;rintro e s⟨b,h,rfl,a,g,q,r,v⟩;have i:=dD q;have j:=dD a;have u:Xo (zg s (d+1) 45 zR):=t.aK r (fun e=>by have:=n.dlo _ e;have:=c.out;omega)
 clear q r v a;obtain⟨q,r,s,t,v,x,z,A,B,C,n⟩:=i.box.box.aU;have a:Xo (∀D∈chL g h,D.oneCell'=Xc):=dD<|by simp[chL,Value.oneCell']
 go_wp2_with(refine zh rfl 45 (.tmp 2) (.tmp 21) rfl (d+1) rfl (chL g h) rfl u rfl Kr a.out ?_)
 clear q r s t v x z A B C n;intro n q a _;have r:Xo (zc w n):=dD<|zd (y.trans i.gr) a (Hm f.out)
 have f:=dD q;have s:Xo (∀W,zk (fun k=>k<w.heap.size) n W->zq W g h):=show∀W,_ from fun W n=>i.bL ((zk.grown a (show d+1<l.heap.size from c.out)).trans (n.wide fun k c=>Ya c (bS y)))
 clear q a;go_wp2;refine bodyPost_ret (zJ rfl _ rfl f.box underlying45 rfl Kr) rfl ⟨⟨b,h,g,j,rfl,s⟩,r⟩
variable{X:Nat->Prop}
theorem ZZ{w:Xn}{p:Nat}(h:ChW w0 X p w V m)(q:Nat)(t:q<m.sp.length)(n:Int):
  Xp prog 136 #[Xj (Xa ⟨p,0,Xb⟩),Xi #[I6 (q:Int),I6 n]] w fun e w'=>e=Xl (enV (QH m q n))/\zc w w':=by
 obtain⟨s,u⟩:∃s,m.sp[q]?=Xa s:=⟨_,gE t⟩;obtain⟨b,f,z,A⟩:=h.sp;obtain⟨x,d⟩:∃x,b[q]?=Xa x:=⟨_,gE (Rx z t)⟩
 have g:=dD<|A q x s d u w (zk.refl _ _);obtain⟨B,a⟩:=kA b.length;obtain⟨l,C,b⟩:=f.aJ Wm
 rw[a.out]at b;have c:=h.box.box.c 10 rfl;rw[b]at c f;have i:(q:Int)<(B:Int):=Hm a.out
 have a:=dD c;have i:=dD h.box;have a:=(f.one d).sp10;rw[Xu,zA]at a;have j:Xo (∀W,zc w W->znr W ⟨l,q*10,Xb⟩ x):=show∀W,_ from fun W r=>by
  have:=((f.aA r).one d).sp10;rw[Xu,zA]at this;exact this
 have k:=dD b;obtain⟨E,v⟩:=kA (QH m q n);have D:Xo (∀W,zc w W->Xp prog 69 #[Xi #[x.t0.x,x.t1.x,x.t2.x,x.t3.x,x.t4.x,x.t5.x,x.t6.x,x.t7.x],I6 n] W fun e w'=>e=Xl (enV E)/\zc W w'):=show∀W,_ from fun W r=>by
  have y:=Qw x.tab s.tb n W (g.tb.aA r);rw[show zdT s.tb n=E from by rw[<-v.out];unfold QH;rw[Sp.aP u]]at y
  exact y
 rw[v.out];clear h t u f z A d b c a;obtain⟨s,b⟩:=kB ((w.alloc (Xk #[I6 (q:Int),I6 n] 142)).alloc (Xk #[I6 0,I6 0,Xh Xd] 127));have g:=gD2 b
 have h:=x2a b
 have t:=x2b b
 have c:=dD b;clear b
 go_enter func136,ntmps136
 go_upto_region 1 with fail;rw[c.out];obtain⟨F,r⟩:=kA w.heap.size;rw[r.out]at h t⊢;obtain⟨f,b⟩:=Wq fun u=>zc s u
 have c:=(b _).2 (gW _)
 have G:∀y:zo f,y.world.cell? ⟨p,10,Xb⟩=Xa (O (Xa ⟨l,0,Xb⟩) B C):=fun y=>by rw[<-k.out];exact(i.box.aA (g.trans ((b _).1 y.holds))).c 10 rfl
 have i:=h.h b 0 rfl
 have k:=h.h b 1 rfl
 have a:∀y:zo f,znr y.world ⟨l,q*10,Xb⟩ x:=fun y=>j.out _ (g.trans ((b _).1 y.holds))
 have j:=fun y=>(a y).2.2.1
 have l:=fun y=>(a y).2.2.2.1
 have s:=fun y=>(a y).2.2.2.2.1
 have v:=fun y=>(a y).2.2.2.2.2.1
 have z:=fun y=>(a y).2.2.2.2.2.2.1
 have A:=fun y=>(a y).2.2.2.2.2.2.2.1
 have B:=fun y=>(a y).2.2.2.2.2.2.2.2.1
 have C:=fun y=>(a y).2.2.2.2.2.2.2.2.2
 dsimp only at j l s v z A B C;clear a;have h:Nonempty (zo f):=⟨⟨_,c⟩⟩;refine qj (I:=f) 13 [(12,fun a=>a=enV E)] (fun u=>True) c trivial zU Kr rfl rfl Dc (Sa ⟨_,rfl⟩) Kr ?_
 simp only[Yf,Yg];refine zw ?_
 refine qx (.tmp 5) ⟨p,0,Xb⟩ rfl rfl rfl rfl ?_;refine Uq ?_;iterate 10 refine zw ?_
 refine zL rfl rfl (fun _ u=>True) (fun w' a d=>?_) (fun d f=>?_)
 ·refine zI.call [Xi #[x.t0.x,x.t1.x,x.t2.x,x.t3.x,x.t4.x,x.t5.x,x.t6.x,x.t7.x],I6 n] rfl func69 rfl rfl rfl ?_;refine(D w' (g.trans ((b _).1 a))).mono ?_;rintro e d⟨rfl,d⟩;exact⟨_,rfl,(b _).2 (((b _).1 a).trans d),rfl,trivial⟩
 cases f;refine Uq ?_;refine jL fun a a d=>?_
 have f:=dD<|(b _).1 a;have b:=dD (t.aA f);clear a d c G i k j l s v z A B C h;unfold enV;refine zx rfl 127 (.tmp 4) (.tmp 17) rfl (F+1) rfl [I6 E.kind,I6 E.n,Xh E.wr] rfl b rfl Kr (by simp[Value.oneCell']) ?_
 intro c a b _;have d:Xo (zc w c):=dD<|zd (g.trans f) b (Hm r.out)
 have c:=dD a;clear a b;go_wp2;refine bodyPost_ret (zB rfl _ rfl c underlying127 rfl Kr) rfl ⟨rfl,d⟩
theorem hoF(a)(c:Nat)(fs:List Fr)(h:Int)(i:Nat)(q:Fr)(u:Int)(w:Xn)(F:zj z9 w (O a fs.length c) fs)(T:j4 fs h=0)(Q:fs[i]?=Xa q)(bp:(q.r==0)=Xd)(bo:¬u< -q.r)(bf:¬1000-q.r<u)(av:q.r+u=0):
  Xp prog 173 #[Xi #[O a fs.length c,I6 h],I6 (i:Int),I6 u] w fun e w'=>∃b,e=Xl (Xm #[Xi #[b,I6 h],I6 0])/\zb z9 w.heap.size w' b (fs.set i frF)/\zc w w':=by
 have a1:=dD F;have b6:=dD av;clear av;have I:∀W,zc w W->Xp prog 58 #[Xi #[O a fs.length c,I6 h]] W fun e w'=>e=Xl (I6 (j4 fs h))/\zc W w':=fun W af=>by rw[T];exact ZQ a c fs h W (a1.aA af) T
 have A:∀W,Xp prog 109 #[I6 (i:Int),I6 (fs.length:Int)] W fun e w'=>e=Xl (Xh (inB (i:Int) fs.length))/\w'=W:=fun W=>Zd (i:Int) _ W
 have ai:∀W,zc w W->Xp prog 51 #[Xi #[O a fs.length c,I6 h]] W fun e w'=>∃b,e=Xl (Xi #[b,I6 h])/\zb z9 W.heap.size w' b fs/\zc W w':=fun W af=>Qq a c fs h W (a1.aA af)
 have s:=zba ((jj T).2.1 q (mG Q));have t:=(gS.1 Q).1;obtain⟨bl,bm,ag,x⟩:=F.bC;cases ag;obtain⟨b7,rfl,au⟩:=x i q Q;have b5:=dD au;have an:=dD Q;clear x au Q;simp only[show inB (i:Int) fs.length=Xc from by simp[inB];exact t]at A
 have N:=F.short;clear F;simp only[T]at I;clear T;obtain⟨y,G⟩:=kA fs.length;simp only[G.out]at I a1 N A ai t⊢;have be:(i:Int)<(y:Int):=Wm
 obtain⟨bb,bc⟩:=s;obtain⟨ao,j⟩:=kB ((w.alloc (Xk #[O (Xa b7) y c,I6 h] 32)).alloc (Xk #[eS,I6 0] 32));have g:=gD2 j
 have Y:=x2a j
 have ap:=x2b j
 have a2:=dD j;clear j
 go_enter func173,ntmps173
 go_upto_region 1 with fail;rw[a2.out];obtain⟨aa,ab⟩:=Y.k2;go_wp2_with fail;refine(I _ g).mono ?_;rintro e a6⟨rfl,aq⟩;have B:=dD aq;clear aq aa ab I;obtain⟨-,-,-,-,-,-,-,-,b8,-,-,-,-⟩:=b5.out a6 (g.trans B);obtain⟨aa,ab⟩:=(Y.aA B).k2
 go_wp2_with(go_at_call 109;refine(A _).mono ?_;rintro e w'⟨rfl,R⟩;rw[R];clear R w')
 refine(ai _ (g.trans B)).mono ?_;rintro e C⟨b,rfl,f,ae⟩;obtain⟨l,D,rfl⟩:=f.aJ (by rw[G.out];omega)
 rw[G.out]at f⊢;have a3:=dD f;have am:=dD (B.trans ae);have ac:=dD<|bS ae;clear f ae aa ab ai b8;have bd:=a3.lt l rfl;have bg:l≠C.heap.size:=Wm
 have u8:=(a3.aA (za C (Xk #[O (Xa ⟨l,0,Xb⟩) y D,I6 h] 32))).frc an 8 rfl
 go_wp2_with(refine zt (E:=z9) rfl (.tmp 61) (.tmp 59) 3 rfl a6.heap.size (O (Xa ⟨l,0,Xb⟩) y D) fs (a3.aA (za _ _)) l i 8 rfl q {q with r:=q.r+u} an.out [I6 (q.r+u)] Kr rfl (Yo rfl) (by intro bq aw;simp at aw;subst aw;rfl) _ rfl (by simp[z9]) _ rfl rfl ?_)
 intro K U n ak;have H:=dD U;have ba:=ac.out;have b9:=bS B.out;have bi:=ap.lt;have Z:Xo (Box K C.heap.size [O (Xa ⟨l,0,Xb⟩) y D,I6 h]):=(Box.aD C _ _ rfl).beside n (fun M d=>by cases d;omega)
 have m:Xo (Box K (w.heap.size+1) [eS,I6 0]):=((ap.aA am).alloc _).beside n (fun M d=>by cases d;omega)
 have b2:Xo (zc ao K):=zT (am.trans (za _ _)) n (fun M d=>by cases d;omega)
 have a0:Xo ((fs.set i {q with r:=q.r+u})[i]?=Xa {q with r:=q.r+u}):=dD<|by rw[sF (Rx G.out t)]
 clear U n ak u8;have u8:=H.frc a0 8 rfl;obtain⟨ax,ay⟩:=Z.k2;obtain⟨az,b0⟩:=m.k2;have b1:=m.f;simp only at u8;have bh:(q.r+u==0)=Xc:=by simp[b6.out]
 go_wp2;have aj:=fun X:zf K=>(Z.aA X.aA).c 0 rfl
 have P:Nonempty (zf K):=⟨⟨_,zc.refl _⟩⟩;clear u8 ax ay az b0 b1;refine jc 5 [(3,⟨fun v=>v=Xi (frv frF).toArray,fun _ _=>True⟩)] zU Kr rfl rfl Dc ?_ ?_ ?_
 ·intro X S
  simp at S
  subst S;exact⟨_,rfl⟩
 ·intro X S
  simp at S
  subst S;exact fun _ _ _ _ h=>h
 simp only[Yf,Yg];iterate 3 refine ze ?_
 refine zz rfl rfl (fun w' bn ar=>?_) (fun br F=>?_)
 ·refine zI.call [] rfl func26 rfl rfl rfl ?_;refine(QV w').mono ?_;rintro e bj⟨rfl,ah⟩;exact⟨_,rfl,ah,rfl,trivial⟩
 subst F;simp only[Ym,sB,sS,sZ,frv,frF,pg0];refine ze ?_
 refine zH fun bk k ar=>?_
 have a4:=dD (H.aA k);have a9:=dD (Z.aA k);have a8:=dD (m.aA k);have b3:=dD (b2.trans k);clear ar aj k P
 go_wp2_with(refine z7 (E:=z9) rfl (.tmp 73) (.tmp 72) rfl a6.heap.size _ _ a4 l i rfl frF (by rw[Oa,G.out];exact t) _ rfl (by simp[z9]) _ rfl rfl ?_)
 intro a7 V p al;have a5:=dD V;have L:Xo (Box a7 C.heap.size [O (Xa ⟨l,0,Xb⟩) y D,I6 h]):=a9.beside p (fun M d=>by cases d;omega)
 have z:Xo (Box a7 (w.heap.size+1) [eS,I6 0]):=a8.beside p (fun M d=>by cases d;omega)
 have b4:Xo (zc ao a7):=zT b3 p (fun M d=>by cases d;omega)
 clear V p al;obtain⟨ax,ay⟩:=L.k2;obtain⟨az,b0⟩:=z.k2;have b1:=z.f;go_wp2;refine bodyPost_ret (v:=Xm #[Xi #[O (Xa ⟨l,0,Xb⟩) y D,I6 h],I6 0]) (by simp[results,Tryz.results173,go_sem, *]) rfl ⟨_,rfl,?_,?_⟩
 ·exact((a5.setCell (a:=⟨w.heap.size+1,0,Xb⟩) (by show w.heap.size+1<_;omega) _).setCell (a:=⟨w.heap.size+1,1,Xb⟩) (by show w.heap.size+1<_;omega) _).base (Hm (bS g.out))
 exact zG (zG (g.trans b4) Sm _) Sm _
theorem hoG(a)(c:Nat)(fs:List Fr)(h:Int)(i:Nat)(q:Fr)(m:Int)(w:Xn)(M:zj z9 w (O a fs.length c) fs)(D:j4 fs h=0)(B:fs[i]?=Xa q)(av:(q.r==0)=Xd)(au:¬m< -q.r)(an:¬1000-q.r<m)(aw:(q.r+m==0)=Xd):
  Xp prog 173 #[Xi #[O a fs.length c,I6 h],I6 (i:Int),I6 m] w fun e w'=>∃b,e=Xl (Xm #[Xi #[b,I6 h],I6 0])/\zb z9 w.heap.size w' b (fs.set i {q with r:=q.r+m})/\zc w w':=by
 have Q:=dD M;have N:∀W,zc w W->Xp prog 58 #[Xi #[O a fs.length c,I6 h]] W fun e w'=>e=Xl (I6 (j4 fs h))/\zc W w':=fun W Z=>by rw[D];exact ZQ a c fs h W (Q.aA Z) D
 have t:∀W,Xp prog 109 #[I6 (i:Int),I6 (fs.length:Int)] W fun e w'=>e=Xl (Xh (inB (i:Int) fs.length))/\w'=W:=fun W=>Zd (i:Int) _ W
 have a0:∀W,zc w W->Xp prog 51 #[Xi #[O a fs.length c,I6 h]] W fun e w'=>∃b,e=Xl (Xi #[b,I6 h])/\zb z9 W.heap.size w' b fs/\zc W w':=fun W Z=>Qq a c fs h W (Q.aA Z)
 have l:=zba ((jj D).2.1 q (mG B));have u:=(gS.1 B).1;obtain⟨aq,ar,I,n⟩:=M.bC;cases I;obtain⟨af,rfl,a9⟩:=n i q B;have ac:=dD a9;have a3:=dD B;clear n a9 B;simp only[show inB (i:Int) fs.length=Xc from by simp[inB];exact u]at t
 have A:=M.short;clear M;simp only[D]at N;clear D;obtain⟨y,G⟩:=kA fs.length;simp only[G.out]at N Q A t a0 u⊢;have am:(i:Int)<(y:Int):=Wm
 obtain⟨aj,ak⟩:=l;obtain⟨ae,g⟩:=kB ((w.alloc (Xk #[O (Xa af) y c,I6 h] 32)).alloc (Xk #[eS,I6 0] 32));have f:=gD2 g
 have K:=x2a g
 have a5:=x2b g
 have R:=dD g;clear g
 go_enter func173,ntmps173
 go_upto_region 1 with fail;rw[R.out];obtain⟨U,V⟩:=K.k2;go_wp2_with fail;refine(N _ f).mono ?_;rintro e a4⟨rfl,a8⟩;have x:=dD a8;clear a8 U V N;obtain⟨-,-,-,-,-,-,-,-,ag,-,-,-,-⟩:=ac.out a4 (f.trans x);obtain⟨U,V⟩:=(K.aA x).k2
 go_wp2_with(go_at_call 109;refine(t _).mono ?_;rintro e w'⟨rfl,C⟩;rw[C];clear C w')
 refine(a0 _ (f.trans x)).mono ?_;rintro e H⟨b,rfl,d,Y⟩;obtain⟨s,L,rfl⟩:=d.aJ (by rw[G.out];omega)
 rw[G.out]at d⊢;have S:=dD d;have a2:=dD (x.trans Y);have X:=dD<|bS Y;clear d Y U V a0 ag;have al:=S.lt s rfl;have ao:s≠H.heap.size:=Wm
 have u8:=(S.aA (za H (Xk #[O (Xa ⟨s,0,Xb⟩) y L,I6 h] 32))).frc a3 8 rfl
 go_wp2_with(refine zt (E:=z9) rfl (.tmp 61) (.tmp 59) 3 rfl a4.heap.size (O (Xa ⟨s,0,Xb⟩) y L) fs (S.aA (za _ _)) s i 8 rfl q {q with r:=q.r+m} a3.out [I6 (q.r+m)] Kr rfl (Yo rfl) (by intro b2 aa;simp at aa;subst aa;rfl) _ rfl (by simp[z9]) _ rfl rfl ?_)
 intro T F k a1;have z:=dD F;have ai:=X.out;have ah:=bS x.out;have ap:=a5.lt;have a6:Xo (Box T H.heap.size [O (Xa ⟨s,0,Xb⟩) y L,I6 h]):=(Box.aD H _ _ rfl).beside k (fun a7 j=>by cases j;omega)
 have p:Xo (Box T (w.heap.size+1) [eS,I6 0]):=((a5.aA a2).alloc _).beside k (fun a7 j=>by cases j;omega)
 have ab:Xo (zc ae T):=zT (a2.trans (za _ _)) k (fun a7 j=>by cases j;omega)
 have P:Xo ((fs.set i {q with r:=q.r+m})[i]?=Xa {q with r:=q.r+m}):=dD<|by rw[sF (Rx G.out u)]
 clear F k a1 u8;have u8:=z.frc P 8 rfl;obtain⟨ax,ay⟩:=a6.k2;obtain⟨az,b0⟩:=p.k2;have b1:=p.f;simp only at u8;go_wp2;refine bodyPost_ret (v:=Xm #[Xi #[O (Xa ⟨s,0,Xb⟩) y L,I6 h],I6 0]) (by simp[results,Tryz.results173,go_sem, *]) rfl ⟨_,rfl,?_,?_⟩
 ·exact((z.setCell (a:=⟨w.heap.size+1,0,Xb⟩) (by show w.heap.size+1<_;omega) _).setCell (a:=⟨w.heap.size+1,1,Xb⟩) (by show w.heap.size+1<_;omega) _).base (Hm (bS f.out))
 exact zG (zG (f.trans ab) Sm _) Sm _
theorem JN{fs:List Fr}{h k nn:Int}(he:jW fs h k nn=0):∃(i:Nat)(q:Fr),k=(i:Int)/\fs[i]?=Xa q/\j4 fs h=0/\q.r≠0/\-q.r<=nn/\nn<=1000-q.r/\Qv fs h k nn=fs.set i (frH q nn)/\zmt fs h k nn=h:=by
 have he0:=he;unfold jW at he
 split at he
 ·rename_i h0
  split at he
  ·rename_i h1
   simp only[inB,Xt,decide_eq_true_eq,Ok,beq_eq_false_iff_ne]at h1;obtain⟨⟨h2,h3⟩,h4⟩:=h1
   split at he
   ·rename_i h5
    have hl:k.toNat<fs.length:=Wm
    have e:fs.getD k.toNat fr0=fs[k.toNat]:=by rw[gD,gE hl];rfl
    rw[e]at h4 h5;refine⟨k.toNat,fs[k.toNat],Wm,gE hl,h0,h4,h5.1,h5.2,?_,?_⟩
    ·grind[Qv]
    grind[zmt]
   cases he
  cases he
 grind
theorem zfg(a)(c:Nat)(fs:List Fr)(h k d:Int)(w:Xn)(l:zj z9 w (O a fs.length c) fs)(f:jW fs h k d=0):
  Xp prog 173 #[Xi #[O a fs.length c,I6 h],I6 k,I6 d] w fun e w'=>∃b,e=Xl (Xm #[Xi #[b,I6 h],I6 0])/\zb z9 w.heap.size w' b (Qv fs h k d)/\zc w w':=by
 obtain⟨m,q,rfl,i,g,j,n,n,n,_⟩:=JN f;rw[n]
 by_cases f:q.r+d=0
 ·rw[show frH q d=frF from kE f]
  exact hoF a c fs h m q d w l g i (Si j) Wm Wm f
 rw[show frH q d={q with r:=q.r+d}from kF f]
 exact hoG a c fs h m q d w l g i (Si j) Wm Wm (Si f)
variable{X:Nat->Prop}
theorem zev{w:Xn}{p:Nat}(h:ChW w0 X p w V m)(z:En)(n:Int)(j:z.kind=1->jW m.fs m.aB z.n n=0):
  Xp prog 135 #[Xj (Xa ⟨p,0,Xb⟩),Xi #[I6 z.kind,I6 z.n,Xh z.wr],I6 n] w fun e w'=>(∃v,e=Xl v)/\Chg w0 X p w V (Qj m z n) w':=by
 have A:=dD h;obtain⟨l,q,-⟩:=h.at.ns;have x:Xo (z.kind=1->∀W,zc w W->Xp prog 173 #[Xi #[V.f.x,I6 m.aB],I6 z.n,I6 n] W fun e w'=>∃d:Sli,e=Xl (Xm #[Xi #[d.x,I6 m.aB],I6 0])/\zb z9 W.heap.size w' (d.x) (Qv m.fs m.aB z.n n)/\zc W w'):=show _->∀W,_ from fun D W f=>by
  have k:=(h.at.aA f).fs;(try simp only[Sli.x]at k⊢);rw[l]at k⊢;refine(zfg V.f.a V.f.c m.fs m.aB z.n n W k (j D)).mono ?_;rintro e w'⟨d,rfl,a,g⟩;have i:zb z9 W.heap.size w' d (Qv m.fs m.aB z.n n):=a;obtain⟨b,c,rfl,_⟩:=i.at.rows;exact⟨⟨b,_,c⟩,rfl,a,g⟩
 have Y:Xo (∀W,zc w W->Xp prog 174 #[V.s.x,I6 z.n,I6 n] W fun e w'=>∃d:Sli,e=Xl (Xm #[d.x,I6 (jZ m.sl z.n n)])/\zP slE W.heap.size w' (d.x) (ZK m.sl z.n n)/\zc W w'):=dD<|fun W f=>by
  have k:=(h.at.aA f).sl;(try simp only[Sli.x]at k⊢);rw[q]at k⊢;refine(zms V.s.a V.s.c m.sl z.n n W k).mono ?_;rintro e w'⟨b,c,rfl,a,g⟩;exact⟨⟨b,_,c⟩,rfl,a,g⟩
 have a8:=dD h.aM;clear h l q;obtain⟨h,a⟩:=kB (w.alloc (Xk #[I6 z.kind,I6 z.n,Xh z.wr] 127));have r:=gA a
 have T:=xA a
 have b:=dD a;clear a;have a7:=T.c 0 rfl
 go_enter func135,ntmps135
 go_upto_region 1 with fail;rw[b.out];obtain⟨d,U⟩:=kA w.heap.size;rw[U.out]at T a7⊢
 by_cases q:z.kind=1
 ·have D:(z.kind==1)=Xc:=Rr q
  have L:Xo (Qj m z n={m with fs:=Qv m.fs m.aB z.n n,aB:=m.aB}):=dD<|by
   obtain⟨_,_,_,_,_,_,_,_,_,a⟩:=JN (j q);unfold Qj;rw[kE q,a]
  have x:=dD<|x.out q;clear q;go_upto_region 3 with fail;clear a7;obtain⟨g,f⟩:=Wq fun u=>Box u d [I6 z.kind,I6 z.n,Xh z.wr]
  have c:=(f _).2 (T.aA (gW _))
  have j:zc h h.drew:=show Below _ _ _ from(bR _ _).drew
  have G:=fun H:zo g=>((f _).1 H.holds).c 1 rfl
  have E:Nonempty (zo g):=⟨⟨_,c⟩⟩;refine qj (I:=g) 17 [(5,fun v=>v=Xi #[V.f.x,I6 m.aB]),(9,fun v=>∃s:Sli,v=Xm #[Xi #[s.x,I6 m.aB],I6 0]),(16,fun _=>True)] (fun u=>zc h u) c j zU Kr rfl rfl Dc (Sc ⟨_,rfl⟩ ⟨_,Zy,rfl⟩ ⟨undef,trivial⟩) Kr ?_
  simp only[Yf,Yg];iterate 2 refine zw ?_
  refine qx (.tmp 12) ⟨p,0,Xb⟩ rfl rfl rfl rfl ?_;refine Uq ?_;iterate 2 refine zw ?_
  refine zL rfl rfl (fun _ u=>zc h u) (fun w' b a=>?_) (fun S l=>?_)
  ·refine zbe 32 (.tmp 15) rfl p 0 rfl [V.f.x,I6 m.aB] ((A.box.box.aA (r.trans a)).mid 0 (fun k v i=>by
    match k,i with
    |0,i=>exact i
    |1,i=>exact i)) underlying32 rfl Kr ⟨b,rfl,a⟩
  cases l;refine Uq ?_;iterate 3 refine zw ?_
  refine zL rfl rfl (fun v u=>∃(s:Sli)(t:Xn),v=Xm #[Xi #[s.x,I6 m.aB],I6 0]/\zc h t/\zc t u/\zb z9 t.heap.size u (s.x) (Qv m.fs m.aB z.n n)) (fun w' b a=>?_) (fun S l=>?_)
  ·refine zI.call [Xi #[V.f.x,I6 m.aB],I6 z.n,I6 n] rfl func173 rfl rfl rfl ?_;refine(x w' (r.trans a)).mono ?_;rintro e a6⟨s,rfl,a4,N⟩;exact⟨_,rfl,(f _).2 (((f _).1 b).aA N),⟨s,rfl⟩,s,w',rfl,a,N,a4⟩
  obtain⟨s,rfl⟩:=l;refine Uq ?_;iterate 3 refine zw ?_
  refine qx (.tmp 11) ⟨p,0,Xb⟩ rfl rfl rfl rfl ?_;refine Uq ?_;iterate 2 refine zw ?_
  refine zL rfl rfl (fun _ u=>Chg w0 X p w V {m with fs:=Qv m.fs m.aB z.n n,aB:=m.aB} u) (fun w' b a=>?_) (fun S l=>?_)
  ·obtain⟨x,t,Q,P,W,a5⟩:=a;have F:x=s:=by
    obtain⟨a9,aa,ab⟩:=s;obtain⟨ac,ad,ae⟩:=x;simp only[Value.tuple.injEq,Array.mk.injEq,List.cons.injEq,Value.agg.injEq,vJ,and_true]at Q;obtain⟨rfl,rfl,rfl⟩:=Q;rfl
   subst F;have K:=(r.trans P).trans W;refine jQ 32 (.tmp 25) (.tmp 21) rfl p 0 rfl (Xi #[x.x,I6 m.aB]) rfl [x.x,I6 m.aB] rfl (A.box.aA K) (by simp[chL]) Kr (by simp[Value.oneCell']) ?_
   intro M B i _;have a0:=a8.out p (.inl rfl);exact⟨(f _).2 (((f _).1 b).grown i (Hm U.out)),trivial,A.setF K (a5.base (nT (bS r) (bS P))) i B⟩
  clear l;try simp only[Ym]
  refine jL fun M C k=>?_
  have y:Xo (Chg w0 X p w V (Qj m z n) M):=dD<|Rx L.out k
  clear C k c j G E;go_wp2
  exact Ge y.out
 have D:(z.kind==1)=Xd:=Si q
 by_cases D:z.kind=2
 ·have Z:(z.kind==2)=Xc:=Rr D
  have L:Xo (Qj m z n={m with sl:=ZK m.sl z.n n}):=dD<|by unfold Qj;rw[kF q,kE D]
  clear q D;go_upto_region 5 with fail;clear a7;obtain⟨g,f⟩:=Wq fun u=>Box u d [I6 z.kind,I6 z.n,Xh z.wr]
  have c:=(f _).2 (T.aA (gW _))
  have j:zc h h.drew:=show Below _ _ _ from(bR _ _).drew
  have G:=fun H:zo g=>((f _).1 H.holds).c 1 rfl
  have E:Nonempty (zo g):=⟨⟨_,c⟩⟩;refine qj (I:=g) 17 [(5,fun v=>v=V.s.x),(9,fun v=>∃s:Sli,v=Xm #[s.x,I6 (jZ m.sl z.n n)]),(16,fun _=>True)] (fun u=>zc h u) c j zU Kr rfl rfl Dc (Sc ⟨_,rfl⟩ ⟨_,Zy,rfl⟩ ⟨undef,trivial⟩) Kr ?_
  simp only[Yf,Yg];iterate 2 refine zw ?_
  refine qx (.tmp 30) ⟨p,0,Xb⟩ rfl rfl rfl rfl ?_;refine Uq ?_;iterate 2 refine zw ?_
  refine zL rfl rfl (fun _ u=>zc h u) (fun w' b a=>?_) (fun S l=>?_)
  ·exact zkU 34 (.tmp 33) rfl p 2 rfl (V.s.x) ((A.box.box.aA (r.trans a)).c 2 rfl) underlying34 rfl ⟨b,rfl,a⟩
  cases l;refine Uq ?_;iterate 3 refine zw ?_
  refine zL rfl rfl (fun v u=>∃(s:Sli)(t:Xn),v=Xm #[s.x,I6 (jZ m.sl z.n n)]/\zc h t/\zc t u/\zP slE t.heap.size u (s.x) (ZK m.sl z.n n)) (fun w' b a=>?_) (fun S l=>?_)
  ·refine zI.call [V.s.x,I6 z.n,I6 n] rfl func174 rfl rfl rfl ?_;refine(Y w' (r.trans a)).mono ?_;rintro e a6⟨s,rfl,a4,N⟩;exact⟨_,rfl,(f _).2 (((f _).1 b).aA N),⟨s,rfl⟩,s,w',rfl,a,N,a4⟩
  obtain⟨s,rfl⟩:=l;refine Uq ?_;iterate 3 refine zw ?_
  refine qx (.tmp 29) ⟨p,0,Xb⟩ rfl rfl rfl rfl ?_;refine Uq ?_;iterate 2 refine zw ?_
  refine zL rfl rfl (fun _ u=>Chg w0 X p w V {m with sl:=ZK m.sl z.n n} u) (fun w' b a=>?_) (fun S l=>?_)
  ·obtain⟨x,t,Q,P,W,a5⟩:=a;have F:x=s:=by
    obtain⟨a9,aa,ab⟩:=s;obtain⟨ac,ad,ae⟩:=x;simp only[Value.tuple.injEq,Array.mk.injEq,List.cons.injEq,vJ,and_true]at Q;obtain⟨rfl,rfl,rfl⟩:=Q;rfl
   subst F;have K:=(r.trans P).trans W;refine jQ 34 (.tmp 43) (.tmp 39) rfl p 2 rfl (x.x) rfl [x.x] rfl (A.box.aA K) (by simp[chL]) Kr (by simp[Value.oneCell']) ?_
   intro M B i _;have a0:=a8.out p (.inl rfl);exact⟨(f _).2 (((f _).1 b).grown i (Hm U.out)),trivial,A.setS K (a5.base (nT (bS r) (bS P))) i B⟩
  clear l;try simp only[Ym]
  refine jL fun M C k=>?_
  have y:Xo (Chg w0 X p w V (Qj m z n) M):=dD<|Rx L.out k
  clear C k c j G E;go_wp2
  exact Ge y.out
 have Z:(z.kind==2)=Xd:=Si D
 have L:Xo (Qj m z n=m):=dD<|by unfold Qj;rw[kF q,kF D]
 clear q D;have y:Xo (Chg w0 X p w V (Qj m z n) h):=dD<|Rx L.out (Chg.refl A r.out)
 go_wp2
 exact Ge y.out
variable{X:Nat->Prop}
def JC(w0:Xn)(X:Nat->Prop)(p:Nat)(w:Xn)(V:MaV)(m':Ma)(w':Xn):Prop:=∃V':MaV,V'.ca=V.ca/\ChW w0 X p w' V' m'/\zk (Dw p V) w w'/\∀k,Dw p V' k->Dw p V k\/w.heap.size<=k
section
variable{w0 w w1 w2:Xn}{p:Nat}{V V':MaV}{m m':Ma}
theorem JC.chg(h:JC w0 X p w V m' w1):Chg w0 X p w V m' w1:=by
 obtain⟨a,_,h⟩:=h;exact⟨a,h⟩
theorem JC.refl(h:ChW w0 X p w V m)(g:zc w w1):JC w0 X p w V m w1:=⟨V,rfl,h.aA g,zk.aA g,fun _ a=>.inl a⟩
theorem JC.aG(g:zc w w1)(h:JC w0 X p w1 V m' w2):JC w0 X p w V m' w2:=by
 obtain⟨a,e,b,d,c⟩:=h;exact⟨a,e,b,(zk.aA g).trans d,Chg.far g c⟩
theorem JC.step{b:MaV}(a:zk (Dw p V) w w1)(c:∀k,Dw p b k->Dw p V k\/w.heap.size<=k)(g:b.ca=V.ca)(h:JC w0 X p w1 b m' w2):JC w0 X p w V m' w2:=by
 obtain⟨c,e,d,b,f⟩:=h;refine⟨c,e.trans g,d,⟨b.os.trans a.os,b.tape.trans a.tape,b.output.trans a.output,nT a.size b.size,fun c d g=>(b.block c (Ya d a.size) (fun e=>?_)).trans (a.block c d g)⟩,fun k b=>?_⟩
 ·grind
 rcases f k b with e|e
 ·grind
 exact .inr (nT a.size e)
theorem ChW.fieldC(h:ChW w0 X p w V m)(k:zc w w1)(c:w1.grownBy w2 (Xa p))(f:V'.f=V.f)(l:V'.ca=V.ca)(q:V'.sp=V.sp)(g:m'.fs=m.fs)(u:m'.ca=m.ca)(r:m'.sp=m.sp)(a:zg w2 p 88 (chL V' m'))(rs:∀W,zk (Dr w0.heap.size X p V) w W->zk (Dr w0.heap.size X p V) w1 W->ziQ W V m->ziQ W V' m'):JC w0 X p w V m' w2:=by
 have j:zk (Dw p V) w w2:=(zk.aA k).trans (zk.grown c (.inl rfl));have e:Dw p V'=Dw p V:=by unfold Dw;rw[f,l,q]
 have d:Dr w0.heap.size X p V'=Dr w0.heap.size X p V:=by unfold Dr;rw[e]
 obtain⟨i,x,b,y⟩:=h.sp;refine⟨V',l,⟨h.grX j,h.lo,a,?_,?_,⟨i,?_,Rx r b,fun t z v s i W b=>?_⟩,fun W b=>?_⟩,j,fun n a=>.inl (by rw[e]at a;exact a)⟩
 ·rw[f,g];exact(h.fs.aA k).grown c (fun g f e=>h.nf g f (by cases e;rfl))
 ·rw[l,u];exact(h.ca.aA k).grown c (fun g f e=>h.nc g f (by cases e;rfl))
 ·rw[q];exact(x.aA k).grown c (fun g f e=>h.ns g f (by cases e;rfl))
 ·rw[d]at b;rw[r]at i;exact y t z v s i W ((j.wide fun n a=>.inr a).trans b)
 rw[d]at b;exact rs W ((j.wide fun n a=>.inr a).trans b) (((zk.grown c (.inr (.inl rfl)))).trans b) (h.rest W ((j.wide fun n a=>.inr a).trans b))
theorem ChW.frameC(h:ChW w0 X p w V m){fs:List Fr}(c:oB V.f g)(b:w.grownBy w1 (Xa g))(i:zb z9 w0.heap.size w1 (V.f.x) fs):JC w0 X p w V {m with fs:=fs} w1:=by
 have d:zk (Dw p V) w w1:=zk.grown b (.inr (.inl c));have f:∀k,Dw p V k->Dw p V k\/w.heap.size<=k:=fun _ a=>.inl a
 obtain⟨q,j,l,n⟩:=h.sp;refine⟨V,rfl,⟨h.grX d,h.lo,h.box.beside b (fun k e=>by cases e;exact h.nf g c),i,h.ca.grown b (fun k a e=>by cases e;exact h.fc _ c a),⟨q,j.grown b (fun k a e=>by cases e;exact h.fS _ c a),l,fun i x s c b W a=>n i x s c b W (ChW.key d f a)⟩,fun W a=>?_⟩,d,f⟩
 have r:=h.rest W (ChW.key d f a);exact⟨r.sl,r.sb,r.sq,r.db,r.dq,r.fl⟩
end
def zrD(B:Nat)(V:MaV):Prop:=(j0 B V.f.v/\j0 B V.s.v/\j0 B V.sb.v/\j0 B V.sq.v)/\(j0 B V.db.v/\j0 B V.dq.v/\j0 B V.fl.v/\j0 B V.ca.v/\j0 B V.sp.v)
theorem j0.less{a:Nat}{v:Xq}(h:j0 b v)(k:a<=b):j0 a v:=fun x n c e=>nT k (h x n c e)
theorem zjd(u cs j:Int)(b:zqY u cs j)(w:Xn):
  Xp prog 13 #[Xi #[I6 u,I6 cs,I6 j]] w fun e w'=>(∃V:MaV,e=Xl (Xm #[Xi #[V.f.x,I6 0,V.s.x,V.sb.x,V.sq.x,V.db.x,V.dq.x,V.fl.x,I6 j,V.ca.x,V.sp.x],I6 0])/\zq w' V (Zr u cs j)/\zrD w.heap.size V/\∃v,V.sp=⟨Xa ⟨v,0,Xb⟩,1,1⟩)/\zc w w':=by
 obtain⟨a9,a⟩:=kB ((w.alloc (Xk #[I6 u,I6 cs,I6 j] 51)).alloc (Xk zM.toArray 45));have Y:=gD2 a
 have l:=x2a a
 have aa:=x2b a
 have i:=dD a;clear a;obtain⟨r,a⟩:∃e,Xo (zkf u=e):=⟨_,rfl⟩;obtain⟨t,c⟩:∃e,Xo (zkb cs=e):=⟨_,rfl⟩;obtain⟨z,d⟩:∃e,Xo (Jm cs=e):=⟨_,rfl⟩;obtain⟨K,g⟩:∃e,Xo (Jm j=e):=⟨_,rfl⟩;obtain⟨M,h⟩:∃e:Int,Xo ((if 0<=j/\j<=80 then(0:Int)else 4)=e):=⟨_,rfl⟩;obtain⟨a4,L⟩:∃e:Int,Xo ((if 0<=j/\j<=80 then j else 0)=e):=⟨_,rfl⟩;have k:=fun W=>zke u W
 have m:=fun W=>zob cs W
 have n:=fun W=>zgr cs W
 have p:=fun W=>zgr j W
 have q:=fun W=>zme j W
 rw[a.out]at k;rw[c.out]at m;rw[d.out]at n;rw[g.out]at p;rw[h.out,L.out]at q;have X:Xo (zoe u cs j=[r,t,z,K,M]):=dD<|by unfold zoe;rw[a.out,c.out,d.out,g.out,h.out]
 have a:=dD k;have h:=dD m;have A:=dD n;have G:=dD p;have I:=dD q;clear k m n p q
 go_enter func13,ntmps13
 go_upto_region 1 with fail;rw[i.out];have i:=l.c 0 rfl;go_wp2_with fail;refine(a _).mono ?_;rintro e c⟨P,rfl,⟨g,a⟩,d⟩;clear i;have ab:=dD g;have y:=dD d;have C:=dD a;clear g d a;go_upto_region 2 with fail;obtain⟨a,a⟩:=kB (c.alloc (Xk #[P.x,I6 0] 32));have p:=gA a
 have R:=xA a
 rw[a];clear a;obtain⟨a,a⟩:∃m,Xo (c.heap.size=m):=⟨_,rfl⟩;rw[a.out]at R⊢;have d:=(l.aA (y.trans p)).c 1 rfl;go_wp2_with fail;refine(h _).mono ?_;rintro e a⟨S,rfl,⟨h,g⟩,a⟩;clear d;have ac:=dD h;have q:=dD a;have c:=dD ((y.trans p).trans a);have D:=dD g;clear h a g;have d:=(l.aA c).c 1 rfl;go_upto_region 3 with fail;go_wp2_with fail;refine(A _).mono ?_;rintro e g⟨A,Q,rfl,⟨k,B,a,h⟩,i⟩;clear d;have a5:=dD k;have a6:=dD B;have n:=dD i;have E:=dD a;have F:=dD h;clear k B i a h;go_upto_region 4 with fail;obtain⟨a,a⟩:=kB (g.alloc (Xk #[A.x,Q.x] 38));have k:=gA a
 have T:=xA a
 rw[a];clear a;obtain⟨a,a⟩:∃m,Xo (g.heap.size=m):=⟨_,rfl⟩;rw[a.out]at T⊢;have d:=dD ((c.trans n).trans k);have c:=(l.aA d).c 2 rfl;go_wp2_with fail;refine(G _).mono ?_;rintro e g⟨B,N,rfl,⟨W,Z,a,h⟩,U⟩;clear c;have a7:=dD W;have a8:=dD Z;have i:=dD U;have G:=dD a;have H:=dD h;clear W Z U a h;go_upto_region 5 with fail;obtain⟨a,a⟩:=kB (g.alloc (Xk #[B.x,N.x] 38));have h:=gA a
 have U:=xA a
 rw[a];clear a;obtain⟨a,a⟩:∃m,Xo (g.heap.size=m):=⟨_,rfl⟩;rw[a.out]at U⊢;have g:=dD ((d.trans i).trans h);have c:=(l.aA g).c 2 rfl;go_wp2_with fail;refine(I _).mono ?_;rintro e l⟨rfl,a⟩;clear c;have c:=dD a;clear a;go_upto_region 6 with fail;obtain⟨Z,a⟩:=kB (l.alloc (Xk #[eS,I6 a4] 41));have d:=gA a
 have W:=xA a
 rw[a];clear a;obtain⟨a,a⟩:∃m,Xo (l.heap.size=m):=⟨_,rfl⟩;rw[a.out]at W⊢;obtain⟨a0,I⟩:=kA (zC [r,t,z,K,M]);have a:=zcW (O (Xa ⟨Z.heap.size,0,Xb⟩) 5 5) [r,t,z,K,M] _ (zeS zll Z [r,t,z,K,M] #[I6 r,I6 t,I6 z,I6 K,I6 M] rfl (show 5*8<=140737488355328 by decide))
 rw[I.out]at a;go_wp2_with fail;refine a.mono ?_;rintro e l⟨rfl,r⟩;clear a;have a:Xo (zc Z l):=dD<|by rw[r];exact za _ _
 clear r;have z:=dD (((g.trans c).trans d).trans a);have K:=dD (aa.aA z);have g:a0=0:=by rw[<-I.out,<-X.out];exact zmf b
 subst g;have X:=(R.aA ((((((q.trans n).trans k).trans i).trans h).trans c).trans (d.trans a))).c 0 rfl;have Z:=(R.aA ((((((q.trans n).trans k).trans i).trans h).trans c).trans (d.trans a))).c 1 rfl;have I:=(T.aA (((i.trans h).trans c).trans (d.trans a))).c 0 rfl;have a0:=(T.aA (((i.trans h).trans c).trans (d.trans a))).c 1 rfl;have a1:=(U.aA ((c).trans (d.trans a))).c 0 rfl;have a2:=(U.aA ((c).trans (d.trans a))).c 1 rfl;obtain⟨U,a3⟩:=(W.aA a).k2;have t:=dD b;clear b;go_upto_region 9 with fail;obtain⟨r,b⟩:=kB (l.alloc (Xk #[Xh Xc,eS,eS,eS,eS,eS,eS,eS,eS,eS] 76));have g:=gA b
 have T:Xo (zj Q4 r (O (Xa ⟨l.heap.size,0,Xb⟩) 1 1) [⟨Xc,Zy,Zy,Zy,Zy,Zy,Zy,Zy,Zy,Zy⟩]):=dD<|by rw[<-b];exact ZD Q4 l ⟨Xc,Zy,Zy,Zy,Zy,Zy,Zy,Zy,Zy,Zy⟩ _ _ rfl Dc
 have M:=dD (K.aA g);have K:=dD b;clear b;obtain⟨v,r⟩:∃m,Xo (l.heap.size=m):=⟨_,rfl⟩
 go_wp2_with(first|(rw[K.out];rw[r.out];refine zx rfl 45 (.tmp 2) (.tmp 63) rfl (w.heap.size+1) rfl [P.x,I6 0,S.x,A.x,Q.x,B.x,N.x,eS,I6 a4,eS,O (Xa ⟨v,0,Xb⟩) 1 1] rfl M rfl Kr (fun W R=>by
   simp only[mC,nM,or_false]at R
   rcases R with rfl|rfl|rfl|rfl|rfl|rfl|rfl|rfl|rfl|rfl|rfl<;>rfl) ?_))
 intro l M b _;clear X Z I a0 a1 a2 U a3;have K:Xo (zc w l):=dD<|zd ((Y.trans z).trans g) b Wm
 have m:w.heap.size+1<a9.heap.size:=aa.lt;have X:=bS y.out;have Y:=bS p.out;have Z:=bS q.out;have I:=bS n.out;have a0:=bS k.out;have a1:=bS z.out;have m:∀{y:Nat}{W:Xq},a9.heap.size<=y->j0 y W->∀x z y,W=O (Xa x) z y->Xa x.block≠Xa (w.heap.size+1):=fun U U x z y R e=>by
  have:=U x z y R;simp only[Option.some.injEq]at e;omega
 have R:=((((((p.trans q).trans n).trans k).trans i).trans h).trans c).trans ((d.trans a).trans g);have p:=((((n.trans k).trans i).trans h).trans c).trans ((d.trans a).trans g);have n:=(((k.trans i).trans h).trans c).trans ((d.trans a).trans g);have k:=(h.trans c).trans ((d.trans a).trans g);have d:Xo (zq l ⟨P,S,A,Q,B,N,Zy,Zy,⟨Xa ⟨v,0,Xb⟩,1,1⟩⟩ (Zr u cs j)):=dD<|by
  obtain⟨a,c,g⟩:=t.out;refine⟨?_,?_,?_,?_,?_,?_,?_,zj.nil jR l,?_⟩
  ·have h:=(ab.aA R).beside b (m (nR _) C);unfold zod at h;rw[kE a]at h;exact h
  ·have h:=(ac.aA p).beside b (m Wm D)
   unfold zoc at h;rw[kE c]at h;exact h
  ·have h:qX l (A.x) (zmg cs):=⟨(a5.aA n).1.beside b (m Wm E),a5.2⟩
   unfold zmg at h;rw[kE Wm]at h
   exact h
  ·exact⟨(a6.aA n).1.beside b (m Wm F),a6.2⟩
  ·have h:qX l (B.x) (zmg j):=⟨(a7.aA k).1.beside b (m Wm G),a7.2⟩
   unfold zmg at h;rw[kE g]at h;exact h
  ·exact⟨(a8.aA k).1.beside b (m Wm H),a8.2⟩
  ·exact⟨nR _,[],fun w' _=>zj.nil fvE w',rfl,fun i x f a=>by simp at a⟩
  have c:=T.out;rw[r.out]at c;refine⟨_,c.beside b (fun x z y a e=>?_),rfl,fun i x s a c=>?_⟩
  ·cases a;simp only[Option.some.injEq]at e;have:=r.out;omega
  cases i with
  |zero=>
   cases a;cases c;exact⟨rfl,zj.nil arE l,nR _,zaD.nil 0 0 l⟩
  |succ i=>simp at a
 have a:Xo (zrD w.heap.size ⟨P,S,A,Q,B,N,Zy,Zy,⟨Xa ⟨v,0,Xb⟩,1,1⟩⟩):=dD<|by
  refine⟨⟨C.less Wm,D.less Wm,E.less Wm,F.less Wm⟩,G.less Wm,H.less Wm,Zt _,Zt _,fun x z y e=>?_⟩
  cases e;have:=r.out
  show w.heap.size<=v
  omega
 have b:a4=j:=by rw[<-L.out,kE t.2.2]
 subst b;clear R p n k m X Y Z I a0 a1;go_wp2;refine bodyPost_ret (zW rfl _ rfl M underlying45 rfl Kr) rfl ⟨⟨⟨P,S,A,Q,B,N,Zy,Zy,⟨Xa ⟨v,0,Xb⟩,1,1⟩⟩,rfl,d,a,v,rfl⟩,K⟩
end
section
theorem JT{k:Nat}{fr:Fr}(f:k<m.fs.length)(c:zbU m Xb m.ca=0)(d:zY m.ca k≠0->fr.p=(z3 m k).p)(a b:Int):z2 {m with fs:=m.fs.set k fr} a b=z2 m a b:=by
 obtain⟨e,_,_⟩:=zy.1 c;refine zg5 (m:=m) (m':={m with fs:=m.fs.set k fr}) rfl rfl rfl rfl (fun d c=>?_) a b
 rw[JO f d.fr (Zv (e d c)).1.2.2.2.2.1]
 grind[zbS]
theorem zf8{k:Nat}{fr:Fr}{x:On}{e:En}(c:k<m.fs.length)(a:zbU m Xb m.ca=0)(b:zY m.ca k≠0->fr.p=(z3 m k).p)(d:e.kind=1->0<=e.n)(f:e.kind=1->e.n=(k:Int)->fr.p=(z3 m k).p/\(fr.f<0↔(z3 m k).f<0)):JY {m with fs:=m.fs.set k fr} x e=JY m x e:=by
 refine zeR rfl rfl (fun d=>?_) (fun _=>rfl) (fun _=>rfl) (JT c a b)
 grind[JO]
section
variable{m:Ma}{T:List (Nat->En)}
theorem zlT(h:Z6 m T){k p n:Nat}{fr:Fr}{f:Nat->En}(b:m.fs[k]?=Xa fr)(w:T[p]?=Xa f)(y:n<64)(x:(f n).kind=1)(e:(f n).n=(k:Int)){q:Nat}{s:Sp}{g:Nat->En}(i:T[q]?=Xa g)(t:j<64)(u:q≠p\/j≠n):JY {m with fs:=m.fs.set k (QS fr)} (zN s.aE j) (g j)=JY m (zN s.aE j) (g j):=by
 have d:=h.cf k fr b;have c:1<=qV T 1 k:=by grind[zfh]
 have l:fr.r≠1->QS fr={fr with r:=fr.r-1}:=fun h=>by unfold QS;rw[kF h]
 refine zf8 (gS.1 b).1 h.ca (fun a=>?_) (fun a=>?_) (fun a v=>?_)
 ·grind[zX]
 ·have:=(Zl (h.en i t)).2.1;omega
 grind[zjk,isE,zX]
theorem zex(h:Z6 m T){k p n:Nat}{fr:Fr}{f:Nat->En}(c:m.fs[k]?=Xa fr)(j:T[p]?=Xa f)(q:n<64)(l:(f n).kind=1)(g:(f n).n=(k:Int))(a b:Int):z2 {m with fs:=m.fs.set k (QS fr)} a b=z2 m a b:=by
 have e:=h.cf k fr c;have d:1<=qV T 1 k:=by grind[zfh]
 refine JT (gS.1 c).1 h.ca (fun i=>?_) a b
 grind[QS,zX]
end
structure Rt(m:Ma):Prop where
 w:maW m=0
 t8:∀s∈m.sp,s.tb.length=8
theorem Rt.inv(h:Rt m):Z6 m (jB m):=(zaP h.w).1
theorem Rt.aB(h:Rt m):0<=m.aB/\m.aB<max (m.fs.length:Int) 1:=(zaP h.w).2
theorem Rt.tb(h:Rt m){s:Sp}(c:s∈m.sp):Qc s.tb:=by
 refine⟨h.t8 s c,Z7.1 ?_⟩;have a:=h.w;unfold maW at a;rw[zp]at a;have b:zao m=0:=a _ Sm
 unfold zao at b;rw[zp]at b;have a:=zp.1 (b (zC (m.sp.map spE)) Sm) (spE s) (Yr.2 ⟨s,c,rfl⟩)
 grind[spE]
theorem Rt.of(c:Z6 m (jB m))(e:∀s∈m.sp,Qc s.tb)(a:0<=m.aB)(b:m.aB<max (m.fs.length:Int) 1):Rt m:=by
 refine⟨?_,fun s d=>(e s d).1⟩
 have:=c.right a b
 grind[zjs]
theorem jA{p:Nat}{s:Sp}(h:m.sp[p]?=Xa s):(jB m)[p]?=Xa (zl s):=by
 unfold jB;rw[Yc,h];rfl
theorem Z6.tabs(h:Z6 m T){sp':List Sp}(c:sp'.length=m.sp.length)(a:∀(p:Nat)s s',m.sp[p]?=Xa s->sp'[p]?=Xa s'->s'.aH=s.aH/\s'.aE=s.aE):Z6 {m with sp:=sp'} T:=by
 have a:∀(p:Nat)s',sp'[p]?=Xa s'->∃s,m.sp[p]?=Xa s/\s'.aH=s.aH/\s'.aE=s.aE:=fun p s' b=>by grind
 refine⟨h.bB,h.bV,h.aX,h.bM,h.sq,h.aW,h.st,h.cnt,h.bU,h.bN,by show sp'.length<=4;rw[c];exact h.aT,fun s' b=>?_,h.tl.trans c.symm,?_,fun p s' j b k q n=>?_,h.cf,h.cs⟩
 ·obtain⟨p,e⟩:=Xx b;obtain⟨s,c,f,d⟩:=a p s' e;rw[f,d];exact h.bH s (mG c)
 ·obtain⟨g,e,i⟩:=zy.1 h.ca;exact zy.2 ⟨fun e l=>g e l,fun g e e=>(by cases e),i⟩
 obtain⟨s,c,f,d⟩:=a p s' b;rw[d];exact h.bF p s j c k q n
def zab(m:Ma)(p n:Nat)(e:En):Ma:={m with sp:=m.sp.modify p fun s=>{s with tb:=zf6 s.tb n e}}
theorem zd8{p n:Nat}{e:En}{q:Nat}:(zab m p n e).sp[q]?=(m.sp[q]?).map fun s=>if p=q then{s with tb:=zf6 s.tb n e}else s:=by
 unfold zab;simp only[List.getElem?_modify]
 by_cases h:p=q
 ·simp[h]
 simp[h]
theorem zcs{s:Sp}(c:Qc s.tb){n:Nat}(b:n<64){e:En}(a:enW e=0):zl {s with tb:=zf6 s.tb n e}=zcf (zl s) n e:=by grind[zl,zcf,zov,Nat.mod_lt]
theorem zmI{p n:Nat}{e:En}{s:Sp}(b:m.sp[p]?=Xa s)(f:Qc s.tb)(d:n<64)(c:enW e=0):jB (zab m p n e)=(jB m).set p (zcf (zl s) n e):=by
 apply Yd
 intro q;have a:=(gS.1 b).1;unfold jB;rw[Yc,zd8,Yt,Yz]
 by_cases h:p=q
 ·subst h;rw[b,kE rfl,kE a];simp only[Option.map_some,kE,zcs f d c]
 grind
theorem zbx{p n:Nat}{e:En}:(zab m p n e).sp.length=m.sp.length:=by simp[zab]
theorem zcQ{p n:Nat}{e:En}{q:Nat}{s s':Sp}(b:m.sp[q]?=Xa s)(a:(zab m p n e).sp[q]?=Xa s'):s'.aH=s.aH/\s'.aE=s.aE:=by
 rw[zd8,b]at a;simp only[Option.map_some,Option.some.injEq]at a;subst a
 split<;>exact⟨rfl,rfl⟩
theorem zcr(f:∀s∈m.sp,Qc s.tb){p n:Nat}{e:En}(c:enW e=0):∀s∈(zab m p n e).sp,Qc s.tb:=fun s d=>by
 obtain⟨q,a⟩:=Xx d;rw[zd8]at a
 cases h:m.sp[q]? with
 |none=>rw[h]at a;cases a
 |some x=>
  rw[h]at a;simp only[Option.map_some,Option.some.injEq]at a;have b:=f x (mG h);subst a
  split
  ·exact zpG b c
  exact b
theorem zl1{p n:Nat}{e:En}{s:Sp}(c:m.sp[p]?=Xa s)(d:∀s∈m.sp,Qc s.tb)(i:n<64)(b:enW e=0)(h:Z6 m ((jB m).set p (zcf (zl s) n e)))(a:0<=m.aB/\m.aB<max (m.fs.length:Int) 1):Rt (zab m p n e):=by
 refine Rt.of ?_ (zcr d b) a.1 a.2;rw[zmI c (d s (mG c)) i b];exact h.tabs zbx fun q s j f g=>zcQ f g
structure Sam(S:Nat->Nat->Prop)(m m':Ma):Prop where
 aT:m'.sp.length=m.sp.length
 sp:∀(q:Nat)s s',m.sp[q]?=Xa s->m'.sp[q]?=Xa s'->s'.aH=s.aH/\s'.aE=s.aE
 see:∀(q n:Nat)s s',m.sp[q]?=Xa s->m'.sp[q]?=Xa s'->n<64->¬S q n->JY m' (zN s.aE n) (zl s' n)=JY m (zN s.aE n) (zl s n)
 fll:m'.fl.length=m.fl.length
 sz:∀f,Z4 m' f=Z4 m f
 bk:∀f,bkN m' f=bkN m f
 byt:∀(file k:Nat),(k:Int)<Z4 m (file:Int)->(z2 m' (file:Int) ((k/8:Nat):Int)).getD (k%8) 0=(z2 m (file:Int) ((k/8:Nat):Int)).getD (k%8) 0
theorem Sam.refl(S:Nat->Nat->Prop)(m):Sam S m m:=⟨rfl,fun q s b h a=>by rw[h]at a;cases a;exact⟨rfl,rfl⟩,fun q n s b h a _ _=>by rw[h]at a;cases a;rfl,rfl,fun _=>rfl,fun _=>rfl,fun _ _ _=>rfl⟩
theorem Sam.trans{S d:Nat->Nat->Prop}{a b c:Ma}(h:Sam S a b)(k:Sam d b c):Sam (fun q n=>S q n\/d q n) a c:=by
 have g:∀(q:Nat)s,a.sp[q]?=Xa s->∃t,b.sp[q]?=Xa t:=fun q s e=>⟨_,gE (by rw[h.aT];exact(gS.1 e).1)⟩
 refine⟨k.aT.trans h.aT,fun q s j e f=>?_,fun q n s j e f p m=>?_,k.fll.trans h.fll,fun d=>(k.sz d).trans (h.sz d),fun d=>(k.bk d).trans (h.bk d),fun d l i=>(k.byt d l (by rw[h.sz];exact i)).trans (h.byt d l i)⟩
 ·obtain⟨t,d⟩:=g q s e;have l:=h.sp q s t e d;have i:=k.sp q t j d f
  grind
 obtain⟨t,d⟩:=g q s e;have l:=h.sp q s t e d;have i:=k.see q n t j d f p (fun f=>m (.inr f))
 rw[l.2]at i;exact i.trans (h.see q n s t e d p (fun f=>m (.inl f)))
theorem Sam.mono{S c:Nat->Nat->Prop}{a b:Ma}(h:Sam S a b)(hS:∀q n,S q n->c q n):Sam c a b:=⟨h.aT,h.sp,fun q n s g f d e c=>h.see q n s g f d e (fun e=>c (hS q n e)),h.fll,h.sz,h.bk,h.byt⟩
theorem Sam.put{m1:Ma}{p n:Nat}{e:En}(d:m1.sp=m.sp)(c:m1.fl=m.fl)(w:∀s∈m.sp,Qc s.tb)(v:n<64)(u:enW e=0)(k:∀(q j:Nat)s,m.sp[q]?=Xa s->j<64->(q≠p\/j≠n)->JY m1 (zN s.aE j) (zl s j)=JY m (zN s.aE j) (zl s j))(t:∀a f,z2 m1 a f=z2 m a f):Sam (fun q j=>q=p/\j=n) m (zab m1 p n e):=by
 refine⟨by rw[zbx,d],fun q s l g b=>zcQ (Rx d g) b,fun q j s l g b y x=>?_,by show m1.fl.length=_;rw[c],fun h=>by show Z4 m1 h=_;unfold Z4;rw[c],fun h=>by show bkN m1 h=_;unfold bkN;rw[c],fun a z _=>?_⟩
 ·rw[zd8,d,g]at b;simp only[Option.map_some,Option.some.injEq]at b;have i:zl l j=zl s j:=by
   subst b
   split
   ·rename_i r
    subst r;rw[zcs (w s (mG g)) v u]
    grind[zcf]
   rfl
  rw[i]
  show JY m1 _ _=_
  grind
 show(z2 m1 _ _).getD _ _=_
 rw[t]
def Q7(m:Ma)(p n:Nat):Ma:=
 let e:=zl (m.sp.getD p ⟨Xd,[],[]⟩) n
 if e.kind=1 then zab {m with fs:=m.fs.set e.n.toNat (QS (z3 m e.n))} p n en0
 else if e.kind=2 then zab {m with sl:=m.sl.set e.n.toNat (m.sl.getD e.n.toNat 0-1)} p n en0
 else zab m p n en0
section
variable{m:Ma}{p n:Nat}{s:Sp}
theorem Rt.bF(h:Rt m)(a:m.sp[p]?=Xa s)(b:n<64):zl s n=en0\/zo8 m (zN s.aE n) (zl s n):=h.inv.bF p s _ a (jA a) n b
theorem Rt.aY(h:Rt m)(c:m.sp[p]?=Xa s)(b:n<64)(a:(zl s n).kind=1):∃(k:Nat)(fr:Fr),(zl s n).n=(k:Int)/\m.fs[k]?=Xa fr/\z3 m (zl s n).n=fr/\fr.r≠0:=by
 rcases h.bF c b with e|e
 ·rw[e]at a;cases a
 obtain⟨d,d,d,_⟩:=ja e Wm
 refine⟨(zl s n).n.toNat,m.fs[(zl s n).n.toNat]' Wm,Wm,gE _,?_,fun d=>?_⟩
 ·have:=zX (m:=m) (k:=(zl s n).n.toNat) (gE Wm)
  grind
 have e:=(h.inv.free (gE (show(zl s n).n.toNat<m.fs.length by omega)) d).1
 have d:=zfh (jA c) b a
 grind
theorem Rt.bW(h:Rt m)(f:m.sp[p]?=Xa s)(d:n<64)(b:(zl s n).kind=2):∃(k:Nat)(z:Int),(zl s n).n=(k:Int)/\m.sl[k]?=Xa z/\m.sl.getD (zl s n).n.toNat 0=z/\0<z/\(zN s.aE n).is=Xc/\(zN s.aE n).sh=Xd/\k<m.sb.length:=by
 rcases h.bF f d with e|e
 ·rw[e]at b;cases b
 obtain⟨g,q,a⟩:=e;unfold zgS at a
 split at a
 ·cases a
 rename_i i
 split at a
 ·cases a
 rename_i r
 have l:=(Zl g).2.1.1;have j:(zl s n).n<(m.sl.length:Int):=by grind
 have c:(zl s n).n.toNat<m.sl.length:=Wm
 refine⟨(zl s n).n.toNat,m.sl[(zl s n).n.toNat],Wm,gE c,?_,?_,?_,?_,?_⟩
 ·grind
 ·rw[h.inv.cs _ _ (gE c)];have:=JL (jA f) d (kind:=2) (k:=(((zl s n).n.toNat:Nat):Int)) (by simp[isE,b];omega) Dc
  omega
 ·grind
 ·grind
 have:=h.inv.bM;omega
theorem zql(h:Rt m)(b:m.sp[p]?=Xa s)(a:n<64):Rt (Q7 m p n)/\Sam (fun q u=>q=p/\u=n) m (Q7 m p n):=by
 have C:m.sp.getD p ⟨Xd,[],[]⟩=s:=by rw[gD,b];rfl
 have j:∀s∈m.sp,Qc s.tb:=fun s b=>h.tb b
 unfold Q7;simp only[C]
 by_cases i:(zl s n).kind=1
 ·rw[kE i];obtain⟨l,y,d,k,v,B⟩:=h.aY b a i;rw[v,d,tN];have w:=h.inv.drop k (jA b) a i d;refine⟨zl1 (m:={m with fs:=m.fs.set l (QS y)}) b j a QB w (Si h.aB),Sam.put (m1:={m with fs:=m.fs.set l (QS y)}) rfl rfl j a QB (fun q u z f x e=>zlT h.inv k (jA b) a i d (jA f) x e) (fun c g=>zex h.inv k (jA b) a i d c g)⟩
 rw[kF i]
 by_cases t:(zl s n).kind=2
 ·rw[kE t];obtain⟨l,A,d,k,v,B,E,e6,e7⟩:=h.bW b a t;rw[v,d,tN];have w:=h.inv.dropS k (jA b) a t d;exact⟨zl1 (m:={m with sl:=m.sl.set l (A-1)}) b j a QB w h.aB,Sam.put (m1:={m with sl:=m.sl.set l (A-1)}) rfl rfl j a QB (fun q u z f x e=>rfl) (fun c g=>rfl)⟩
 rw[kF t];have D:zl s n=en0:=by
  rcases h.bF b a with r|r
  ·exact r
  have:=(Zl r.1).1;have:=r.2.1;omega
 refine⟨zl1 b j a QB ?_ h.aB,Sam.put rfl rfl j a QB (fun q u z f x e=>rfl) (fun c g=>rfl)⟩
 have:zcf (zl s) n en0=zl s:=by grind[zcf]
 rw[this];have:(jB m).set p (zl s)=jB m:=by
  apply Yd
  intro q;rw[Yt]
  split
  ·grind[gS.1,jA]
  rfl
 rw[this];exact h.inv
end
def Q6(m:Ma)(k p n:Nat):Ma:=zab {m with fs:=m.fs.set k {z3 m (k:Int)with r:=(z3 m (k:Int)).r+1}} p n ⟨1,(k:Int),Xd⟩
section
variable{m:Ma}{k p n:Nat}{fr:Fr}{s:Sp}
theorem Rt.kind0(h:Rt m)(c:m.sp[p]?=Xa s)(b:n<64)(a:(zl s n).kind=1):0<=(zl s n).n:=by
 obtain⟨k,_,e,_⟩:=h.aY c b a;omega
theorem zl2{m1:Ma}{e:En}(f:∀s∈m1.sp,Qc s.tb)(b:m1.sp[p]?=Xa s)(d:n<64)(c:enW e=0){s':Sp}(a:(zab m1 p n e).sp[p]?=Xa s'):zl s' n=e/\s'.aE=s.aE:=by
 rw[zd8,b]at a;simp only[Option.map_some,Option.some.injEq,if_true]at a;subst a;rw[zcs (f s (mG b)) d c]
 grind[zcf]
end
theorem zgc{m1:Ma}{e:En}{p n q:Nat}{s s':Sp}(g:∀s∈m1.sp,Qc s.tb)(d:n<64)(c:enW e=0)(b:m1.sp[q]?=Xa s)(a:(zab m1 p n e).sp[q]?=Xa s')(f:¬(q=p/\j=n)):zl s' j=zl s j:=by
 rw[zd8,b]at a;simp only[Option.map_some,Option.some.injEq]at a;subst a
 split
 ·rename_i h
  subst h;rw[zcs (g s (mG b)) d c]
  grind[zcf]
 rfl
def zF(m:Ma)(k:Nat):List (Nat×Nat)->Ma
 |[]=>m
 |x::l=>zF (Q6 m k x.1 x.2) k l
section
variable{k:Nat}
theorem zpY{fr:Fr}(a:m.fs[k]?=Xa fr)(p n:Nat):(Q6 m k p n).fs[k]?=Xa {fr with r:=fr.r+1}:=by
 show(m.fs.set k _)[k]?=_
 grind[sF,gS.1,zX]
def zpC(k:Nat)(l:List (Nat×Nat))(sp:List Sp):List Sp:=l.foldl (fun sp x=>sp.modify x.1 fun s=>{s with tb:=zf6 s.tb x.2 ⟨1,(k:Int),Xd⟩}) sp
theorem zel:∀(l:List (Nat×Nat)){m:Ma}{fr:Fr},m.fs[k]?=Xa fr->zF m k l={m with fs:=m.fs.set k {fr with r:=fr.r+(l.length:Int)},sp:=zpC k l m.sp}
 |[],m,fr,hk=>by
  have:m.fs.set k {fr with r:=fr.r+(([]:List (Nat×Nat)).length:Int)}=m.fs:=by
   apply Yd
   intro q;rw[Yt]
   split
   ·rename_i hq
    subst hq;rw[if_pos (gS.1 hk).1,hk];simp
   rfl
  rw[this];rfl
 |x::l,m,fr,hk=>by
  show zF (Q6 m k x.1 x.2) k l=_
  rw[zel l (zpY hk x.1 x.2)];have e1:(Q6 m k x.1 x.2).fs=m.fs.set k {fr with r:=fr.r+1}:=by
   show m.fs.set k _=_
   rw[zX hk]
  have e2:fr.r+1+(l.length:Int)=fr.r+((x::l).length:Int):=by simp only[List.length_cons];omega
  rw[e1,List.set_set];simp only[e2];rfl
def zoQ(m:Ma)(k:Nat)(pg:Pg)(u:Bool)(l:List (Nat×Nat)):Ma:={m with fs:=m.fs.set k ⟨pg,(l.length:Int),u,Xd,-1,0⟩,sp:=zpC k l m.sp}
theorem zoP{fr:Fr}(a:m.fs[k]?=Xa fr)(pg:Pg)(u:Bool)(l:List (Nat×Nat)):
  zF {m with fs:=m.fs.set k ⟨pg,1,u,Xd,-1,0⟩} k l={m with fs:=m.fs.set k ⟨pg,1+(l.length:Int),u,Xd,-1,0⟩,sp:=zpC k l m.sp}:=by
 rw[zel l (fr:=⟨pg,1,u,Xd,-1,0⟩) (by show(m.fs.set k _)[k]?=_;rw[sF (gS.1 a).1])]
 simp only[List.set_set]
end
section
variable{m:Ma}{k p n:Nat}{fr:Fr}{s:Sp}
def zhb(m:Ma)(k:Nat)(pg:Pg)(u d:Bool)(file idx:Int):Ma:={m with fs:=m.fs.set k ⟨pg,1,u,d,file,idx⟩,ca:=zku m.ca ⟨file,idx,k⟩}
theorem zje(h:Rt m)(c:m.fs[k]?=Xa fr)(f:fr.r≠0)(u d:Bool):Rt {m with fs:=m.fs.set k {fr with u:=u,d:=d}}/\Sam (fun _ _=>False) m {m with fs:=m.fs.set k {fr with u:=u,d:=d}}:=by
 have e:=(gS.1 c).1;have i:∀a b,z2 {m with fs:=m.fs.set k {fr with u:=u,d:=d}} a b=z2 m a b:=fun a b=>JT e h.inv.ca (fun _=>by rw[zX c]) a b
 refine⟨Rt.of (h.inv.marks (p:=fr.p) (u:=u) (d:=d) c f) (fun s b=>h.tb b) h.aB.1 (Si h.aB.2),rfl,fun q s g b f=>?_,fun q j s g b f j _=>?_,rfl,fun _=>rfl,fun _=>rfl,fun a a _=>by rw[i]⟩
 ·grind
 have:m.sp[q]?=Xa g:=f;rw[b]at this;cases this;refine zf8 e h.inv.ca (fun _=>by rw[zX c]) (h.kind0 b j) (fun _ _=>by rw[zX c];exact⟨rfl,Iff.rfl⟩)
end
def Qr(k:Int)(e:En)(f:Nat->En):Nat->En:=fun j=>if isE (f j) 1 k=Xc then e else f j
theorem zjy(k:Int)(e)(f:Nat->En)(kind j:Int):∀n:Nat,ZH (Qr k e f) kind j n+(if kind=1/\j=k then ZH f 1 k n else 0)=ZH f kind j n+(if isE e kind j=Xc then ZH f 1 k n else 0)
 |0=>by simp[ZH]
 |n+1=>by
  have b:=zjy k e f kind j n;unfold ZH;have a:Qr k e f n=if isE (f n) 1 k=Xc then e else f n:=rfl;rw[a]
  cases d:isE (f n) 1 k with
  |true=>
   simp only[if_true];have g:isE (f n) kind j=Xc↔kind=1/\j=k:=by
    simp only[isE,Xt,decide_eq_true_eq]at d⊢;omega
   by_cases a:kind=1/\j=k
   ·rw[kE a]at b⊢;rw[g.2 a]
    cases c:isE e kind j<;>simp[c]at b⊢<;>omega
   rw[kF a]at b⊢;have:isE (f n) kind j=Xd:=by
    cases h:isE (f n) kind j with
    |false=>rfl
    |true=>exact absurd (g.1 h) a
   rw[this]
   cases c:isE e kind j<;>simp[c]at b⊢<;>omega
  |false=>
   simp only[if_false,Bool.false_eq_true]
   by_cases a:kind=1/\j=k
   ·rw[kE a]at b⊢;rw[a.1,a.2,d];rw[a.1,a.2]at b
    simp at b⊢
    omega
   rw[kF a]at b⊢
   simp at b⊢
   omega
theorem zc9(k:Int)(e)(kind j:Int):∀T:List (Nat->En),qV (T.map (Qr k e)) kind j+(if kind=1/\j=k then qV T 1 k else 0)=qV T kind j+(if isE e kind j=Xc then qV T 1 k else 0)
 |[]=>by simp[qV]
 |f::T=>by
  have a:=zc9 k e kind j T;have b:=zjy k e f kind j 64;simp only[qV,mP,List.sum_cons]at a⊢
  by_cases d:kind=1/\j=k
  ·rw[kE d]at a b⊢
   by_cases c:isE e kind j=Xc
   ·rw[kE c]at a b⊢;omega
   rw[kF c]at a b⊢;omega
  rw[kF d]at a b⊢
  by_cases c:isE e kind j=Xc
  ·rw[kE c]at a b⊢;omega
  rw[kF c]at a b⊢;omega
section
variable{m:Ma}{T:List (Nat->En)}
theorem Z6.moved(h:Z6 m T){k:Nat}{fr:Fr}(b:m.fs[k]?=Xa fr)(e:En)(w:e.kind≠1){sl':List Int}{sb':List (List Int)}{sq':List (Int×List Int)}(q:sl'.length=m.sl.length)(r:sb'.length=m.sb.length)(u:zD sb'.length sq'=0)
  (a:∀(j:Nat)z,sl'[j]?=Xa z->z=(qV T 2 j+(if isE e 2 (j:Int)=Xc then qV T 1 k else 0):Nat))(v:e=en0\/(enW e=0/\e.kind=2/\e.n<m.sl.length/\fr.f=-1)):
  Z6 {m with fs:=m.fs.set k frF,ca:=m.ca.filter fun d=>!decide (d.fr=(k:Int)),sl:=sl',sb:=sb',sq:=sq'} (T.map (Qr (k:Int) e)):=by
 have a:=(gS.1 b).1;have c:∀j:Int,j≠(k:Int)->zY (m.ca.filter fun d=>!decide (d.fr=(k:Int))) j=zY m.ca j:=fun j f=>by grind[zY,List.countP_filter]
 have a:zY (m.ca.filter fun d=>!decide (d.fr=(k:Int))) (k:Int)=0:=by
  unfold zY;rw[Of];intro d t;rw[Yj]at t
  simpa using t.2
 obtain⟨i,a⟩:∃i:Ma,{m with fs:=m.fs.set k frF,ca:=m.ca.filter fun d=>!decide (d.fr=(k:Int)),sl:=sl',sb:=sb',sq:=sq'}=i:=⟨_,rfl⟩
 have p:∀z:Int,0<=z->z≠(k:Int)->z3 i z=z3 m z:=fun z b g=>by grind[z3,frF,JO]
 have n:i.sl.length=m.sl.length:=Ry a q
 have l:i.fs.length=m.fs.length:=by rw[<-a];simp
 rw[a];refine⟨Rx l h.bB,fun s b=>?_,Rx n h.aX,by rw[<-a];show sb'.length=sl'.length;rw[r,q];exact h.bM,Ry a u,Ry a h.aW,Ry a h.st,Ry a h.cnt,Ry a h.bU,Ry a h.bN,Ry a h.aT,Ry a h.bH,by rw[<-a];simpa using h.tl,?_,fun r x s y b j f=>?_,fun j s f=>?_,fun j z f=>?_⟩
 ·rw[<-a]at b
  rcases List.mem_or_eq_of_mem_set b with b|rfl
  ·exact h.bV s b
  exact⟨Dc,Dc,.inl rfl,fun _=>rfl,fun _=>rfl⟩
 ·obtain⟨u,q,z⟩:=zy.1 h.ca;have q:i.ca=m.ca.filter fun d=>!decide (d.fr=(k:Int)):=by rw[<-a]
  rw[q];refine zy.2 ⟨fun d t=>?_,fun r d i=>(by cases i),z.filter _⟩
  have i:=Yj.1 t;have g:d.fr≠(k:Int):=Si i.2
  obtain⟨q,t,z,A⟩:=Zv (u d i.1);have i:=p d.fr q.2.2.2.2.1 g;refine zjA ?_ (Rx i t) (Rx i z) (Rx i A)
  rw[<-a]
  simpa[bkN]using q
 ·rw[Yc]at b
  cases u:T[r]? with
  |none=>rw[u]at b;cases b
  |some t=>
   rw[u]at b;simp only[Option.map_some,Option.some.injEq]at b;subst b;have q:m.sp[r]?=Xa x:=by rw[<-a]at y;exact y
   unfold Qr
   by_cases b:isE (t j) 1 (k:Int)=Xc
   ·rw[kE b]
    rcases v with v|⟨i,v,v,v⟩
    ·grind
    right;refine⟨i,Wm,?_⟩
    simp only[isE,Xt,decide_eq_true_eq]at b
    rcases h.bF r x t q u j f with i|i
    ·grind[en0]
    have v:=i.2.2;unfold zgS at v⊢
    split at v
    ·cases v
    grind[ja,zX]
   rw[kF b]
   rcases h.bF r x t q u j f with i|i
   ·grind
   refine .inr ⟨i.1,i.2.1,Ju i.2.2 n l fun l=>?_⟩
   obtain⟨n,q,r,r⟩:=ja i l;have g:(t j).n≠(k:Int):=fun i=>b (by simp[isE,n,i])
   rw[p _ q g];exact⟨rfl,rfl,r⟩
 ·rw[<-a]at f⊢;simp only at f⊢;have a:=zc9 (k:Int) e 1 (j:Int) T;rw[kF (show¬isE e 1 (j:Int)=Xc by simp[isE,w])]at a
  by_cases b:j=k
  ·grind[sF,frF]
  rw[sN (fun h=>b h.symm)]at f
  rw[kF Wm]at a
  rw[c j Wm]
  have:=h.cf j s f;refine⟨?_,this.2⟩;omega
 grind[zc9]
theorem zio{m:Ma}{k:Nat}(h:zY m.ca (k:Int)=0):(m.ca.filter fun d=>!decide (d.fr=(k:Int)))=m.ca:=by grind[Og,zY,Of]
theorem Z6.mine0(h:Z6 m T){k:Nat}{fr:Fr}(b:m.fs[k]?=Xa fr)(a:fr.f=-1):zY m.ca (k:Int)=0:=by
 refine Classical.byContradiction fun b=>?_
 obtain⟨c,a,d⟩:=zbT b;obtain⟨b,b,b,b⟩:=Zv ((zy.1 h.ca).1 c a)
 grind[zX]
end
def j7(k:Int)(e:En)(s:Sp):Sp:={s with tb:=ZT (Qr k e (zl s))}
theorem zaX(h:Rt m){s:Sp}(a:s∈m.sp){k:Int}{e:En}(b:enW e=0):zl (j7 k e s)=Qr k e (zl s):=by
 have c:∀n,enW (Qr k e (zl s) n)=0:=fun n=>by
  unfold Qr
  split
  ·exact b
  exact(h.tb a).get _ _
 funext j
 by_cases b:j<64
 ·grind[j7,zl,zeP]
 have b:zl s j=en0:=by
  unfold zl zcv;rw[gN (l:=s.tb) (by rw[(h.tb a).1];omega)]
  rfl
 have a:zl (j7 k e s) j=en0:=by grind[zl,zcv,j7,gN,ZT,Qr,Qg]
 grind[Qr,ZM]
section
variable{m:Ma}
theorem zgs(h:Rt m){k:Int}{e:En}(b:enW e=0):∀s∈m.sp.map (j7 k e),Qc s.tb:=fun s c=>by
 obtain⟨d,a,rfl⟩:=Yr.1 c;have c:∀n,n<64->enW (Qr k e (zl d) n)=0:=fun n _=>by
  unfold Qr
  split
  ·exact b
  exact(h.tb a).get _ _
 exact⟨by simp[j7,ZT,Qg],Z7.1 (ziW c)⟩
theorem zau{k:Int}{e:En}{q:Nat}{s':Sp}(h:(m.sp.map (j7 k e))[q]?=Xa s'):∃s,m.sp[q]?=Xa s/\s'=j7 k e s:=by grind
theorem zep(h:Rt m){k:Int}{e:En}(b:enW e=0)(sp':List Sp)(a:sp'=m.sp.map (j7 k e)):sp'.map zl=(jB m).map (Qr k e):=by grind[jB,List.map_map,Oh,zaX]
theorem zes{α:Type}{p q:α->Bool}:∀{l:List α},(∀x∈l,p x=q x)->l.find? p=l.find? q
 |[],_=>rfl
 |x::l,h=>by
  rw[List.find?_cons,List.find?_cons,h x Sm,zes (l:=l) fun y a=>h y (by simp[a])]
theorem zfp{m:Ma}{k:Nat}{fr:Fr}(_hk:k<m.fs.length)(a:m'.fs=m.fs.set k fr)(c:0<=z)(b:z≠(k:Int)):z3 m' z=z3 m z:=by
 unfold z3;rw[a,gD,gD,sN Wm]
def ZJ(m:Ma)(k j:Nat)(r:Int)(sb':List (List Int))(sq':List (Int×List Int)):Ma:={m with fs:=m.fs.set k frF,sl:=m.sl.set j r,sb:=sb',sq:=sq',sp:=m.sp.map (j7 (k:Int) ⟨2,(j:Int),Xd⟩)}
theorem zpE(h:Rt m){k:Nat}{fr:Fr}{sb':List (List Int)}{sq':List (Int×List Int)}(q:m.fs[k]?=Xa fr)(t:fr.f=-1)(_hr:fr.r≠0)(u:m.sl[j]?=Xa 0)(a:sb'.length=m.sb.length)(c:zD sb'.length sq'=0)(w:qw sb' sq' (j:Int)=pgL fr.p)(x:∀i:Int,0<=i->i≠(j:Int)->qw sb' sq' i=qw m.sb m.sq i):
  Rt (ZJ m k j fr.r sb' sq')/\Sam (fun _ _=>False) m (ZJ m k j fr.r sb' sq'):=by
 have v:=(gS.1 q).1;have b:=(gS.1 u).1;have d:=h.inv.aX;have r:enW ⟨2,(j:Int),Xd⟩=0:=zb4 Sm ⟨Sm,by simp only;omega,fun h=>by simp at h⟩ Sm
 have n:=h.inv.mine0 q t;have d:=h.inv.moved q ⟨2,(j:Int),Xd⟩ Sm (sl':=m.sl.set j fr.r) (sb':=sb') (sq':=sq') Sm a c (fun i z a=>by
  have c:=(h.inv.cf k fr q).1
  by_cases l:i=j
  ·subst l;rw[sF b]at a;cases a;have:=h.inv.cs i 0 u;rw[kE (by simp[isE])]
   omega
  rw[sN (fun h=>l h.symm)]at a
  have:=h.inv.cs i z a;rw[kF (by simp[isE];omega)]
  omega) (.inr ⟨r,rfl,by simp only;omega,t⟩)
 rw[zio n]at d;have b:(ZJ m k j fr.r sb' sq').sp=m.sp.map (j7 (k:Int) ⟨2,(j:Int),Xd⟩):=rfl;have a:=zep h (k:=(k:Int)) r _ b;have c:Z6 (ZJ m k j fr.r sb' sq') (jB (ZJ m k j fr.r sb' sq')):=by
  unfold jB;rw[a];refine Z6.tabs d (sp':=(ZJ m k j fr.r sb' sq').sp) (by rw[b];simp) fun p s A e f=>?_
  rw[b]at f;obtain⟨B,g,rfl⟩:=zau f;have a:m.sp[p]?=Xa s:=e;rw[a]at g;cases g;exact⟨rfl,rfl⟩
 refine⟨Rt.of c (by rw[b];exact zgs h r) h.aB.1 (by show m.aB<max ((m.fs.set k frF).length:Int) 1;simpa using h.aB.2),?_⟩
 have a:(ZJ m k j fr.r sb' sq').ca=m.ca:=rfl;have c:∀a d,z2 (ZJ m k j fr.r sb' sq') a d=z2 m a d:=fun a d=>by
  refine zg5 (m:=m) (m':=ZJ m k j fr.r sb' sq') rfl rfl rfl rfl (fun y z=>?_) a d
  have d:y.fr≠(k:Int):=fun l=>by have:=zbS z;rw[l]at this;exact this n
  rw[zfp v (m':=ZJ m k j fr.r sb' sq') rfl (Zv ((zy.1 h.inv.ca).1 y z)).1.2.2.2.2.1 d]
 refine⟨by rw[b];simp,fun d s A e f=>?_,fun d n s A e f d _=>?_,rfl,fun _=>rfl,fun _=>rfl,fun a i _=>by rw[c]⟩
 ·rw[b]at f;obtain⟨B,g,rfl⟩:=zau f;rw[e]at g;cases g;exact⟨rfl,rfl⟩
 rw[b]at f;obtain⟨B,g,rfl⟩:=zau f;rw[e]at g;cases g;rw[zaX h (mG e) r];unfold Qr
 by_cases a:isE (zl s n) 1 (k:Int)=Xc
 ·rw[kE a];simp only[isE,Xt,decide_eq_true_eq]at a;unfold JY
  by_cases b:(zN s.aE n).is=Xd
  ·grind
  rw[kF b,kF b,kF Sm,kE rfl,kE a.1,a.2,zX q]
  show(qw sb' sq' (j:Int),Xc,(0:Int))=_
  rw[w,t];rfl
 rw[kF a];have a:=h.inv.en (jA e) d;have b:=(Zl a).2.1.1;refine zeR rfl rfl (fun a=>?_) (fun a=>?_) (fun _=>rfl) c
 ·grind[zl,isE,zfp,ZJ]
 refine x _ b fun l=>?_
 have b:=h.inv.cs j 0 u;have b:=JL (jA e) d (kind:=2) (k:=(j:Int)) (by simp[isE,a,l]) Dc
 omega
def qh(m:Ma)(k:Nat):Ma:={m with fs:=m.fs.set k frF,ca:=m.ca.filter fun d=>!decide (d.fr=(k:Int)),sp:=m.sp.map (j7 (k:Int) en0)}
theorem zpj{p:List Int}{b a:Int}{i:Nat}(h:8*b+(i:Int)<a):(Zm p b a).getD i 0=p.getD i 0:=by
 unfold Zm;rw[gD,gD,List.getElem?_mapIdx]
 cases p[i]? with
 |none=>rfl
 |some z=>simp only[Option.map_some,Option.getD_some];rw[kF Wm]
theorem zqj(h:Rt m){k:Nat}{fr:Fr}(S:Nat->Nat->Prop)(j:m.fs[k]?=Xa fr)(b:0<=fr.f)(_hr:fr.r≠0)(y:qF m fr.f fr.x=Zm (pgL fr.p) fr.x (Z4 m fr.f))
  (hS:Zm (pgL fr.p) fr.x (Z4 m fr.f)=pgL fr.p\/∀(q n:Nat)s,m.sp[q]?=Xa s->n<64->(zN s.aE n).is=Xc->(zN s.aE n).file=fr.f->(zN s.aE n).aI=fr.x->(zl s n).kind=0\/isE (zl s n) 1 (k:Int)=Xc->S q n):
  Rt (qh m k)/\Sam S m (qh m k):=by
 have E:=(gS.1 j).1;have a:=h.inv.cf k fr j;obtain⟨c,D,e⟩:=zbT (a.2 b);obtain⟨L,a,A,B⟩:=Zv ((zy.1 h.inv.ca).1 c D);rw[e,zX j]at a A B;have d:=h.inv.moved j en0 Dc (sl':=m.sl) (sb':=m.sb) (sq':=m.sq) rfl rfl h.inv.sq (fun G z F=>by
  have:=h.inv.cs G z F;rw[kF (by simp[ZM])]
  omega) (.inl rfl)
 have c:(qh m k).sp=m.sp.map (j7 (k:Int) en0):=rfl;have a:=zep h (k:=(k:Int)) QB _ c;have b:Z6 (qh m k) (jB (qh m k)):=by
  unfold jB;rw[a];refine Z6.tabs d (sp':=(qh m k).sp) (by rw[c];simp) fun p s H d i=>?_
  rw[c]at i;obtain⟨K,t,rfl⟩:=zau i;have a:m.sp[p]?=Xa s:=d;rw[a]at t;cases t;exact⟨rfl,rfl⟩
 refine⟨Rt.of b (by rw[c];exact zgs h QB) h.aB.1 (by show m.aB<max ((m.fs.set k frF).length:Int) 1;simpa using h.aB.2),?_⟩
 have f:∀a b,(qh m k).ca.find? (zcu a b)=if a=fr.f/\b=fr.x then Xb else m.ca.find? (zcu a b):=fun a b=>by
  show(m.ca.filter fun l=>!decide (l.fr=(k:Int))).find? (zcu a b)=_
  by_cases r:a=fr.f/\b=fr.x
  ·rw[kE r];rw[Ys];intro l y g;have u:=Yj.1 y;simp only[zcu,Xt,decide_eq_true_eq]at g;have d:=ZY h.inv.ca u.1;have i:=ZY h.inv.ca D;rw[g.1,g.2,r.1,r.2,A,B,i]at d;cases d;have:=u.2
   simp[e]at this
  rw[kF r];rw[List.find?_filter]
  apply zes
  intro l y
  cases g:zcu a b l with
  |false=>simp
  |true=>
   simp only[zcu,Xt,decide_eq_true_eq]at g;have:l.fr≠(k:Int):=fun x=>by
    obtain⟨u,C,v,w⟩:=Zv ((zy.1 h.inv.ca).1 l y);rw[x,zX j]at v w;exact r ⟨by rw[<-g.1,v],by rw[<-g.2,w]⟩
   simp[this]
 have z:z2 m fr.f fr.x=pgL fr.p:=by
  unfold z2;have:=ZY h.inv.ca D;rw[<-A,<-B]at this;rw[this];simp only;rw[e,zX j]
 have e:z2 (qh m k) fr.f fr.x=Zm (pgL fr.p) fr.x (Z4 m fr.f):=by
  unfold z2;rw[f,kE ⟨rfl,rfl⟩];exact y
 have e:∀a b,¬(a=fr.f/\b=fr.x)->z2 (qh m k) a b=z2 m a b:=fun a b e=>by
  unfold z2;rw[f,kF e]
  cases f:m.ca.find? (zcu a b)with
  |none=>rfl
  |some l=>
   simp only;have b:=List.mem_of_find?_eq_some f;obtain⟨u,C,v,w⟩:=Zv ((zy.1 h.inv.ca).1 l b);have g:=List.find?_some f;simp only[zcu,Xt,decide_eq_true_eq]at g;rw[zfp E (m':=qh m k) rfl u.2.2.2.2.1 (fun x=>?_)]
   rw[x,zX j]at v w;exact e ⟨by rw[<-g.1,v],by rw[<-g.2,w]⟩
 refine⟨by rw[c];simp,fun q s H d i=>?_,fun q n s H d i f b=>?_,rfl,fun _=>rfl,fun _=>rfl,fun a G F=>?_⟩
 ·rw[c]at i;obtain⟨K,t,rfl⟩:=zau i;rw[d]at t;cases t;exact⟨rfl,rfl⟩
 ·rw[c]at i;obtain⟨K,t,rfl⟩:=zau i;rw[d]at t;cases t;rw[zaX h (mG d) QB];unfold Qr;have a:fr.x<bkN m fr.f:=by rw[A,B];exact L.2.2.2.1
  have hcut:(zN s.aE n).is=Xc->(zN s.aE n).file=fr.f->(zN s.aE n).aI=fr.x->(zl s n).kind=0\/isE (zl s n) 1 (k:Int)=Xc->z2 (qh m k) fr.f fr.x=pgL fr.p:=fun a a a a=>by grind
  by_cases c:isE (zl s n) 1 (k:Int)=Xc
  ·rw[kE c];have a:=c;simp only[isE,Xt,decide_eq_true_eq]at a;have b:zo8 m (zN s.aE n) (zl s n):=by
    rcases h.bF d f with r|r
    ·grind[en0]
    exact r
   have e:=b.2.2;unfold zgS at e
   split at e
   ·cases e
   rename_i u
   rw[kF Wm,kF (Hm ((ja b Wm).2.2.1)),a.2,zX j]at e
   split at e
   ·cases e
   rename_i C
   have b:0<=(zN s.aE n).file/\fr.f=(zN s.aE n).file/\fr.x=(zN s.aE n).aI:=Classical.byContradiction fun x=>C (.inl ⟨Wm,x⟩)
   have e:(zN s.aE n).is=Xc:=by grind
   unfold JY;rw[kF u,kF u,kF Dc,kF Dc,kF Wm,kE a.1,a.2,zX j,kF (by rw[<-b.2.1,<-b.2.2];show¬bkN m fr.f<=fr.x;omega),<-b.2.1,<-b.2.2,hcut e b.2.1.symm b.2.2.symm (.inr c)]
   have:decide (fr.f<0)=Xd:=by simp;omega
   rw[this]
  rw[kF c];have a:=h.inv.en (jA d) f;have b:=(Zl a).2.1.1;unfold JY
  by_cases c:(zN s.aE n).is=Xd
  ·grind
  rw[kF c,kF c]
  by_cases b:(zl s n).kind=1
  ·grind[zl,isE,zfp,qh]
  rw[kF b,kF b]
  by_cases b:(zl s n).kind=2
  ·rw[kE b,kE b];rfl
  rw[kF b,kF b];have b:bkN (qh m k)=bkN m:=rfl;rw[b]
  by_cases b:(zN s.aE n).file<0
  ·grind
  rw[kF b,kF b]
  by_cases b:bkN m (zN s.aE n).file<=(zN s.aE n).aI
  ·grind
  rw[kF b,kF b]
  by_cases b:(zN s.aE n).file=fr.f/\(zN s.aE n).aI=fr.x
  ·have e:(zN s.aE n).is=Xc:=by
    cases d:(zN s.aE n).is with
    |true=>rfl
    |false=>exact absurd d c
   have c:(zl s n).kind=0:=Hm ((Zl a).1)
   have:=hcut e b.1 b.2 (.inl c);rw[b.1,b.2,this,z]
  grind
 grind[zpj]
end
theorem zl9:∀{l:List Ar}{p:Option Ar}{n:Nat},Qd p l->(zN l n).is=Xc->0<=(zN l n).aI/\((zN l n).aI<=11\/(zN l n).file<0)
 |[],_,_,_,h=>by cases h
 |a::l,p,n,b,h=>by
  unfold zN at h⊢
  by_cases e:Jc a n=Xc
  ·rw[kE e]at h⊢;have c:=b.1;have d:=jg.1 e;unfold jK at c;unfold qg;simp only
   split
   ·exact⟨Wm,.inl Wm⟩
   exact⟨Wm,.inr Wm⟩
  rw[kF e]at h⊢;exact zl9 b.2.2 h
theorem Rt.aI(h:Rt m){p n:Nat}{s:Sp}(a:m.sp[p]?=Xa s)(b:(zN s.aE n).is=Xc):0<=(zN s.aE n).aI:=
 (zl9 (JD.1 (h.inv.bH s (mG a)).1).2 b).1
section
variable{m:Ma}
def zby(m:Ma)(file idx:Nat)(f:Fl)(b:Int)(db':List (List Int))(dq':List (Int×List Int)):Ma:={m with fl:=m.fl.set file ⟨f.size,f.bl.set idx b⟩,db:=db',dq:=dq'}
theorem zhg(F:Rt m){d e:Nat}{f:Fl}{h:List (List Int)}{p:List (Int×List Int)}(au:m.fl[d]?=Xa f)(aa:stW (m.fl.set d ⟨f.size,f.bl.set e (b:Int)⟩) m.cnt=0)
  (U:∀x,z4 (m.fl.set d ⟨f.size,f.bl.set e (b:Int)⟩) x=Xc↔(z4 m.fl x=Xc/\x≠-1)\/x=(b:Int)\/(x=-1/\z4 (m.fl.set d ⟨f.size,f.bl.set e (b:Int)⟩) x=Xc))
  (M:h.length=m.db.length)(N:zD h.length p=0)(K:∀i:Nat,h[i]?=m.db[i]?\/∃q∈m.dq,q.1=(i:Int))(Y:∀q∈p,q.1=(b:Int)\/∃ad∈m.dq,ad.1=q.1)(a9:∀i:Int,i≠(b:Int)->qw h p i=qw m.db m.dq i)
  (_hb0:f.bl[e]?=Xa (b:Int)\/(z4 m.fl (b:Int)=Xd))(ah:∃c∈m.ca,c.file=(d:Int)/\c.idx=(e:Int))(Q:∀(i j:Nat)g,m.fl[i]?=Xa g->g.bl[j]?=Xa (b:Int)->i=d/\j=e):
  (Rt (zby m d e f (b:Int) h p)/\Sam (fun _ _=>False) m (zby m d e f (b:Int) h p))/\∀(i j:Nat),(j:Int)<bkN m (i:Int)->z2 (zby m d e f (b:Int) h p) (i:Int) (j:Int)=z2 m (i:Int) (j:Int):=by
 have av:=(gS.1 au).1;obtain⟨u,a⟩:∃u,zby m d e f (b:Int) h p=u:=⟨_,rfl⟩;have S:∀z,Z4 u z=Z4 m z:=fun z=>by
  rw[<-a];unfold Z4 zby;simp only[gD]
  by_cases l:z.toNat=d
  ·grind
  grind
 have D:∀z,bkN u z=bkN m z:=fun z=>by
  rw[<-a];unfold bkN zby;simp only[gD]
  by_cases l:z.toNat=d
  ·grind
  grind
 have v:∀z,z3 u z=z3 m z:=fun z=>by rw[<-a];rfl
 have B:u.fl.length=m.fl.length:=by rw[<-a];simp[zby]
 have k:u.sp=m.sp:=by rw[<-a];rfl
 have L:u.ca=m.ca:=by rw[<-a];rfl
 have a0:Z6 u (jB u):=by
  have ar:jB u=jB m:=by unfold jB;rw[k]
  rw[ar];have r:=F.inv;refine⟨Ry a r.bB,Ry a r.bV,Ry a r.aX,Ry a r.bM,Ry a r.sq,Ry a N,Ry a aa,by rw[<-a];show m.cnt=(h.length:Int);rw[M];exact r.cnt,fun i A ak=>?_,fun q R=>?_,Rx k r.aT,Rx k r.bH,Rx k r.tl,?_,?_,Ry a r.cf,Ry a r.cs⟩
  ·rw[<-a]at A ak⊢;have T:z4 m.fl (i:Int)=Xd:=by
    cases l:z4 m.fl (i:Int)with
    |false=>rfl
    |true=>
     have:=(U (i:Int)).2 (.inl ⟨l,Wm⟩)
     have ab:z4 (m.fl.set d ⟨f.size,f.bl.set e (b:Int)⟩) (i:Int)=Xd:=ak;rw[ab]at this;cases this
   show h[i]?=_
   rcases K i with l|⟨q,ae,af⟩
   ·rw[l];exact r.bU i (Ry M A) T
   have:=r.bN q ae;rw[af,T]at this;cases this
  ·rw[<-a]at R⊢
   show z4 (m.fl.set d ⟨f.size,f.bl.set e (b:Int)⟩) q.1=Xc
   rcases Y q R with l|⟨ad,ae,af⟩
   ·grind
   refine(U _).2 (.inl ⟨?_,?_⟩)
   ·rw[<-af];exact r.bN ad ae
   have a5:=r.aW;unfold zD at a5
   split at a5
   ·cases a5
   grind[List.any_eq_true.2,ZF]
  ·obtain⟨al,az,am⟩:=zy.1 r.ca;rw[L];refine zy.2 ⟨fun c ah=>?_,fun q c Y=>(by cases Y),am⟩
   obtain⟨an,ao,ap,aq⟩:=Zv (al c ah);refine zjA ?_ (Rx v ao) (Rx v ap) (Rx v aq)
   rw[B,D];rw[<-a];exact an
  intro ax s g Z y n aj;rw[k]at Z
  rcases r.bF ax s g Z y n aj with l|l
  ·grind
  refine .inr ⟨l.1,l.2.1,Ju l.2.2 (by rw[<-a];rfl) (by rw[<-a];rfl) fun a7=>?_⟩
  rw[v];exact⟨rfl,rfl,(ja l a7).2.2.2⟩
 have t:∀(i j:Nat),(j:Int)<bkN m (i:Int)->z2 u (i:Int) (j:Int)=z2 m (i:Int) (j:Int):=fun i j w=>by
  unfold z2;rw[L]
  cases Y:m.ca.find? (zcu (i:Int) (j:Int))with
  |some c=>simp only;rw[v]
  |none=>
   simp only;have a8:¬(i=d/\j=e):=fun l=>by grind[Ys,zcu]
   have a4:zfE u (i:Int) (j:Int)=zfE m (i:Int) (j:Int):=by
    rw[<-a];unfold zfE zby;simp only[gD,tN]
    by_cases l:i=d
    ·grind
    grind
   rw[a4,S]
   by_cases P:zfE m (i:Int) (j:Int)<0
   ·grind
   rw[kF P,kF P];have A:i<m.fl.length:=Classical.byContradiction fun C=>by
    unfold bkN at w;simp only[gD,tN]at w;rw[gN Wm]at w
    simp only[Option.getD_none,Ob]at w;omega
   have y:=gE A;have ai:j<(m.fl[i]).bl.length:=by
    unfold bkN at w;simp only[gD,tN,y,Option.getD_some]at w;omega
   have:zfE m (i:Int) (j:Int)≠(b:Int):=fun l=>by
    unfold zfE at l;simp only[gD,tN,y,Option.getD_some,gE ai]at l;exact a8 (Q i j _ y (by rw[gE ai,l]))
   rw[show qw u.db u.dq (zfE m (i:Int) (j:Int))=qw h p (zfE m (i:Int) (j:Int)) by rw[<-a];rfl,a9 _ this]
 rw[a];refine⟨?_,t⟩;refine⟨Rt.of a0 (by rw[k];exact fun s Z=>F.tb Z) (Ry a F.aB.1) (Ry a F.aB.2),⟨by rw[k],fun q s ay C H=>?_,fun q n s ay C H aj _=>?_,B,S,D,fun ag aw G=>?_⟩⟩
 ·rw[k,C]at H;cases H;exact⟨rfl,rfl⟩
 ·rw[k,C]at H;cases H;unfold JY;rw[v,D]
  by_cases V:(zN s.aE n).is=Xd
  ·rw[kE V,kE V]
  rw[kF V,kF V]
  by_cases W:(zl s n).kind=1
  ·rw[kE W,kE W]
  rw[kF W,kF W]
  by_cases E:(zl s n).kind=2
  ·rw[kE E,kE E];rw[<-a];rfl
  rw[kF E,kF E]
  by_cases X:(zN s.aE n).file<0
  ·rw[kE X,kE X]
  rw[kF X,kF X]
  by_cases I:bkN m (zN s.aE n).file<=(zN s.aE n).aI
  ·rw[kE I,kE I]
  rw[kF I,kF I];have a6:(zN s.aE n).is=Xc:=by
   cases ac:(zN s.aE n).is with
   |true=>rfl
   |false=>exact absurd ac V
  have b0:=F.aI C a6;have:=t (zN s.aE n).file.toNat (zN s.aE n).aI.toNat (by
   rw[show(((zN s.aE n).file.toNat:Nat):Int)=(zN s.aE n).file by omega,show(((zN s.aE n).aI.toNat:Nat):Int)=(zN s.aE n).aI by omega]
   omega)
  rw[show(((zN s.aE n).file.toNat:Nat):Int)=(zN s.aE n).file by omega,show(((zN s.aE n).aI.toNat:Nat):Int)=(zN s.aE n).aI by omega]at this
  rw[this]
 rw[t ag (aw/8) ?_]
 by_cases C:ag<m.fl.length
 ·have y:=gE C;obtain⟨W,E,X⟩:=((qi _ _).1 F.inv.st).2.1 _ (mG y);unfold Z4 at G;simp only[gD,tN,y,Option.getD_some]at G;unfold bkN;simp only[gD,tN,y,Option.getD_some];unfold zbQ at E
  split at E<;>omega
 unfold Z4 at G;simp only[gD,tN]at G;rw[gN Wm]at G
 simp only[Option.getD_none]at G;omega
end
def Unc(m:Ma)(file idx:Int):Prop:=∀c∈m.ca,¬(c.file=file/\c.idx=idx)
theorem Unc.find{a b:Int}(h:Unc m a b):m.ca.find? (zcu a b)=Xb:=by
 rw[Ys];intro c b a;simp only[zcu,Xt,decide_eq_true_eq]at a;exact h c b a
structure Z3(S:Nat->Nat->Prop)(m m':Ma):Prop where
 rt:Rt m'
 aV:Sam S m m'
 fsl:m'.fs.length=m.fs.length
 bare:∀(q n:Nat)s s',m.sp[q]?=Xa s->m'.sp[q]?=Xa s'->n<64->zl s n=en0->zl s' n=en0
 unc:∀(file idx:Nat),(idx:Int)<bkN m (file:Int)->Unc m (file:Int) (idx:Int)->Unc m' (file:Int) (idx:Int)/\z2 m' (file:Int) (idx:Int)=z2 m (file:Int) (idx:Int)
theorem Z3.refl{S:Nat->Nat->Prop}(h:Rt m):Z3 S m m:=⟨h,Sam.refl S m,rfl,fun q n s a c a _ b=>by rw[c]at a;cases a;exact b,fun _ _ _ h=>⟨h,rfl⟩⟩
theorem Z3.trans{S:Nat->Nat->Prop}{a b c:Ma}(h:Z3 S a b)(k:Z3 S b c):Z3 S a c:=by
 refine⟨k.rt,(h.aV.trans k.aV).mono (fun _ _ e=>e.elim id id),k.fsl.trans h.fsl,fun q n s r f m i l=>?_,fun d e g p=>?_⟩
 ·have:∃t,b.sp[q]?=Xa t:=⟨_,gE (by rw[h.aV.aT];exact(gS.1 f).1)⟩
  obtain⟨t,j⟩:=this;exact k.bare q n t r j m i (h.bare q n s t f j i l)
 obtain⟨u1,u2⟩:=h.unc d e g p;obtain⟨f,f⟩:=k.unc d e (by rw[h.aV.bk];exact g) u1
 grind
section
variable{m:Ma}
theorem zgt(h:Rt m){k:Int}{e:En}(d:enW e=0){q n:Nat}{s s':Sp}(a:m.sp[q]?=Xa s)(c:(m.sp.map (j7 k e))[q]?=Xa s')(b:zl s n=en0):zl s' n=en0:=by
 obtain⟨b,b,rfl⟩:=zau c;rw[a]at b;cases b;rw[zaX h (mG a) d]
 grind[Qr,isE,en0]
theorem zlM(S:Nat->Nat->Prop)(h:Rt m){k:Nat}{fr:Fr}{sb':List (List Int)}{sq':List (Int×List Int)}(g:m.fs[k]?=Xa fr)(f:fr.f=-1)(l:fr.r≠0)(e:m.sl[j]?=Xa 0)(c:sb'.length=m.sb.length)(d:zD sb'.length sq'=0)(a:qw sb' sq' (j:Int)=pgL fr.p)(b:∀i:Int,0<=i->i≠(j:Int)->qw sb' sq' i=qw m.sb m.sq i):
  Z3 S m (ZJ m k j fr.r sb' sq'):=by
 obtain⟨n,p⟩:=zpE h g f l e c d a b;have a:=h.inv.aX;have a:=(gS.1 e).1;have d:enW ⟨2,(j:Int),Xd⟩=0:=zb4 Sm ⟨Sm,by simp only;omega,fun h=>by simp at h⟩ Sm
 refine⟨n,p.mono (fun _ _ e=>e.elim),by simp[ZJ],fun q n s a b c _ a=>zgt h d b c a,fun a c _ b=>⟨b,?_⟩⟩
 unfold z2;rw[show(ZJ m k j fr.r sb' sq').ca.find? (zcu (a:Int) (c:Int))=Xb from b.find,b.find]
 rfl
theorem zmR(h:Rt m){k:Nat}{fr:Fr}(S:Nat->Nat->Prop)(c:m.fs[k]?=Xa fr)(b:0<=fr.f)(d:fr.r≠0)(a:qF m fr.f fr.x=Zm (pgL fr.p) fr.x (Z4 m fr.f))
  (hS:Zm (pgL fr.p) fr.x (Z4 m fr.f)=pgL fr.p\/∀(q n:Nat)s,m.sp[q]?=Xa s->n<64->(zN s.aE n).is=Xc->(zN s.aE n).file=fr.f->(zN s.aE n).aI=fr.x->(zl s n).kind=0\/isE (zl s n) 1 (k:Int)=Xc->S q n):
  Z3 S m (qh m k):=by
 obtain⟨g,i⟩:=zqj h S c b d a hS;have d:∀a b,Unc m a b->Unc (qh m k) a b:=fun a b c e f=>c e (Yj.1 f).1
 refine⟨g,i,by simp[qh],fun q n s e f g _ e=>zgt h QB f g e,fun a b _ c=>⟨d _ _ c,?_⟩⟩
 unfold z2;rw[(d _ _ c).find,c.find];rfl
theorem zeh(S:Nat->Nat->Prop)(h:Rt m){k:Nat}{fr:Fr}(a:m.fs[k]?=Xa fr)(b:fr.r≠0)(u d:Bool):Z3 S m {m with fs:=m.fs.set k {fr with u:=u,d:=d}}:=by
 obtain⟨c,e⟩:=zje h a b u d;refine⟨c,e.mono (fun _ _ e=>e.elim),Sm,fun q n s b b b _ b=>?_,fun b b _ b=>⟨b,?_⟩⟩
 ·grind
 exact JT (gS.1 a).1 h.inv.ca (fun _=>by rw[zX a]) _ _
theorem zmz(S:Nat->Nat->Prop)(h:Rt m)(e:0<=z)(b:z<max (m.fs.length:Int) 1):Z3 S m {m with aB:=z}:=by
 have a:=h.inv;have c:Z6 {m with aB:=z} (jB {m with aB:=z}):=⟨a.bB,a.bV,a.aX,a.bM,a.sq,a.aW,a.st,a.cnt,a.bU,a.bN,a.aT,a.bH,a.tl,zy.2 ⟨fun d f=>(zy.1 a.ca).1 d f,fun _ _ d=>(by cases d),(zy.1 a.ca).2.2⟩,a.bF,a.cf,a.cs⟩
 refine⟨Rt.of c (fun s a=>h.tb a) e b,⟨rfl,fun q s c b a=>?_,fun q n s c b a _ _=>?_,rfl,fun _=>rfl,fun _=>rfl,fun _ _ _=>rfl⟩,rfl,fun q n s c b a _ d=>?_,fun d d _ d=>⟨d,rfl⟩⟩
 ·grind
 ·have:m.sp[q]?=Xa c:=a;rw[b]at this;cases this;rfl
 grind
end
theorem Z3.mono{S c:Nat->Nat->Prop}{a b:Ma}(h:Z3 S a b)(hS:∀q n,S q n->c q n):Z3 c a b:=⟨h.rt,h.aV.mono hS,h.fsl,h.bare,h.unc⟩
section
variable{m:Ma}{p n:Nat}{s:Sp}
theorem zgV(h:Rt m)(e:m.sp[p]?=Xa s)(f:n<64):Z3 (fun q j=>q=p/\j=n) m (Q7 m p n)/\(∀s',(Q7 m p n).sp[p]?=Xa s'->zl s' n=en0)/\(Q7 m p n).ca=m.ca/\(Q7 m p n).fl=m.fl/\∀(q j:Nat)s s',m.sp[q]?=Xa s->(Q7 m p n).sp[q]?=Xa s'->¬(q=p/\j=n)->zl s' j=zl s j:=by
 have D:m.sp.getD p ⟨Xd,[],[]⟩=s:=by rw[gD,e];rfl
 have E:∀s∈m.sp,Qc s.tb:=fun s e=>h.tb e
 obtain⟨w,x⟩:=zql h e f;have l:∃c,Q7 m p n=zab c p n en0/\c.sp=m.sp/\c.ca=m.ca/\c.fl=m.fl/\c.fs.length=m.fs.length/\∀a b,z2 c a b=z2 m a b:=by
  unfold Q7;simp only[D]
  by_cases d:(zl s n).kind=1
  ·rw[kE d];obtain⟨Q,N,u,z,A,M⟩:=h.aY e f d;rw[A,u,tN];exact⟨_,rfl,rfl,rfl,rfl,Sm,fun a b=>zex h.inv z (jA e) f d u a b⟩
  rw[kF d]
  by_cases i:(zl s n).kind=2
  ·rw[kE i];exact⟨_,rfl,rfl,rfl,rfl,rfl,fun _ _=>rfl⟩
  grind
 obtain⟨c,G,k,v,H,K,L⟩:=l;rw[G]at w x⊢;have g:∀s∈c.sp,Qc s.tb:=Rx k E
 have t:∀(q j:Nat)s s',m.sp[q]?=Xa s->(zab c p n en0).sp[q]?=Xa s'->¬(q=p/\j=n)->zl s' j=zl s j:=fun q j s s' d i B=>zgc g f QB (Rx k d) i B
 have r:∀s',(zab c p n en0).sp[p]?=Xa s'->zl s' n=en0:=fun s' d=>(zl2 g (Rx k e) f QB d).1
 refine⟨⟨w,x,K,fun q j s s' d i _ P=>?_,fun a b _ F=>⟨fun y C=>F y (Ry v C),L _ _⟩⟩,r,v,H,t⟩
 grind
end
def zi(m:Ma):List (Nat×Nat)->Ma
 |[]=>m
 |x::l=>zi (Q7 m x.1 x.2) l
theorem qM:∀(l:List (Nat×Nat)){m:Ma},Rt m->(∀x∈l,x.2<64/\∃s,m.sp[x.1]?=Xa s)->
  Z3 (fun q j=>(q,j)∈l) m (zi m l)/\(∀x∈l,∀s',(zi m l).sp[x.1]?=Xa s'->zl s' x.2=en0)/\(zi m l).ca=m.ca/\(zi m l).fl=m.fl/\∀(q j:Nat)s s',m.sp[q]?=Xa s->(zi m l).sp[q]?=Xa s'->(q,j)∉l->zl s' j=zl s j
 |[],m,n,_=>⟨Z3.refl n,fun x G=>(by cases G),rfl,rfl,fun q j s s' h c _=>by simp only[zi]at c;rw[h]at c;cases c;rfl⟩
 |x::l,m,n,t=>by
  obtain⟨F,s,i⟩:=t x (Yb ..);obtain⟨k,B,C,D,E⟩:=zgV n i F;have a:∀(q:Nat)s,m.sp[q]?=Xa s->∃s',(Q7 m x.1 x.2).sp[q]?=Xa s':=fun q s i=>⟨_,gE (by rw[k.aV.aT];exact(gS.1 i).1)⟩
  obtain⟨H,K,L,M,u⟩:=qM l k.rt (fun y p=>by
   obtain⟨z,N,A⟩:=t y (Xy _ p);exact⟨z,a y.1 N A⟩)
  refine⟨(k.mono ?_).trans (H.mono fun q j e=>Xy _ e),fun y p s' d=>?_,L.trans C,M.trans D,fun q j s s' h c r=>?_⟩
  ·rintro q j⟨rfl,rfl⟩;exact Yb ..
  ·by_cases b:y∈l
   ·exact K y b s' d
   rcases mC.1 p with rfl|e
   ·obtain⟨v,f⟩:=a y.1 s i;rw[u y.1 y.2 v s' f d b];exact B v f
   exact absurd e b
  obtain⟨w,g⟩:=a q s h;rw[u q j w s' g c (fun e=>r (Xy _ e))]
  refine E q j s w h g (fun e=>r ?_)
  have:(q,j)=x:=Prod.ext e.1 e.2;rw[this];exact Yb ..
theorem zqn(p)(b a:Int):Zm (Zm p b a) b a=Zm p b a:=by
 unfold Zm
 grind
theorem zjR{a c:Nat}{f:Fl}{d:List (List Int)}{e:List (Int×List Int)}(i:m.fl[a]?=Xa f)(hi:c<f.bl.length){p:List Int}(h:qw d e (b:Int)=Zm p (c:Int) (Z4 m (a:Int))):
  qF (zby m a c f (b:Int) d e) (a:Int) (c:Int)=Zm p (c:Int) (Z4 m (a:Int)):=by
 have g:=(gS.1 i).1;have j:zfE (zby m a c f (b:Int) d e) (a:Int) (c:Int)=(b:Int):=by
  unfold zfE zby;simp only[gD,tN];rw[sF g];simp only[Option.getD_some];rw[sF hi];rfl
 have k:Z4 (zby m a c f (b:Int) d e) (a:Int)=Z4 m (a:Int):=by
  unfold Z4 zby;simp only[gD,tN];rw[sF g,i];rfl
 unfold qF;rw[j,k,kF Wm,show qw (zby m a c f (b:Int) d e).db (zby m a c f (b:Int) d e).dq (b:Int)=qw d e (b:Int)from rfl,h,zqn]
section
variable{m:Ma}{k p n:Nat}{fr:Fr}{s:Sp}
def j5(m:Ma)(p n k:Nat)(fr:Fr)(write sh:Bool):Ma:=
 if write=Xc then zab {m with fs:=m.fs.set k {fr with u:=true,d:=fr.d||sh}} p n ⟨1,(k:Int),Xc⟩
 else{m with fs:=m.fs.set k {fr with u:=true,d:=fr.d}}
end
def zoD(s:Sp)(kind k:Int):List Nat:=(Yw 64).filter fun n=>enS (zl s n)&&zlk kind k (zl s n)
def qW(m:Ma)(kind k:Int)(q:Nat):List (Nat×Nat):=(Yw q).flatMap fun p=>(zoD (m.sp.getD p ⟨Xd,[],[]⟩) kind k).map fun n=>(p,n)
theorem zky(m)(kind k:Int):qW m kind k 0=[]:=rfl
theorem zem(m:Ma)(kind k:Int)(q:Nat):qW m kind k (q+1)=qW m kind k q++(zoD (m.sp.getD q ⟨Xd,[],[]⟩) kind k).map fun n=>(q,n):=by
 unfold qW;rw[List.range_succ,Xs];simp
theorem zjp{s:Sp}{kind k:Int}(a:kind≠0){n:Nat}:n∈zoD s kind k↔n<64/\isE (zl s n) kind k=Xc:=by
 unfold zoD;rw[Yj,Yl];refine and_congr_right fun _=>?_
 unfold enS zlk isE
 grind
theorem Jp{kind k:Int}(d:kind≠0){q:Nat}(a:q<=m.sp.length){x:Nat×Nat}:x∈qW m kind k q↔x.1<q/\x.2<64/\∃s,m.sp[x.1]?=Xa s/\isE (zl s x.2) kind k=Xc:=by
 unfold qW;rw[List.mem_flatMap];constructor
 ·rintro⟨p,b,c⟩;obtain⟨n,a,rfl⟩:=Yr.1 c;have f:=Yl.1 b;have e:=gE (show p<m.sp.length by omega)
  rw[gD,e,Option.getD_some,zjp d]at a;exact⟨f,a.1,_,e,a.2⟩
 rintro⟨b,c,s,a,e⟩;refine⟨x.1,Yl.2 b,Yr.2 ⟨x.2,?_,rfl⟩⟩;rw[gD,a,Option.getD_some,zjp d];exact⟨c,e⟩
def j6(m:Ma)(e:En):List (Nat×Nat)->Ma
 |[]=>m
 |x::l=>j6 (zab m x.1 x.2 e) e l
theorem zgf{e:En}(g:enW e=0):∀(l:List (Nat×Nat)){m:Ma},(∀s∈m.sp,Qc s.tb)->(∀x∈l,x.2<64)->(j6 m e l).sp.length=m.sp.length/\(∀s∈(j6 m e l).sp,Qc s.tb)/\∀(q:Nat)s s',m.sp[q]?=Xa s->(j6 m e l).sp[q]?=Xa s'->s'.aH=s.aH/\s'.aE=s.aE/\∀j,zl s' j=if(q,j)∈l then e else zl s j
 |[],m,d,_=>⟨rfl,d,fun q s s' b c=>by
   simp only[j6]at c;rw[b]at c;cases c;exact⟨rfl,rfl,fun j=>Sm⟩⟩
 |x::l,m,d,a=>by
  have h:=a x (Yb ..);obtain⟨i,k,n⟩:=zgf g l (m:=zab m x.1 x.2 e) (zcr d g) (fun y f=>a y (Xy _ f))
  refine⟨i.trans zbx,k,fun q s s' b c=>?_⟩
  have:∃t,(zab m x.1 x.2 e).sp[q]?=Xa t:=⟨_,gE (by rw[zbx];exact(gS.1 b).1)⟩
  obtain⟨t,a⟩:=this;obtain⟨f,i,k⟩:=n q t s' a c;obtain⟨c,n⟩:=zcQ b a;refine⟨f.trans c,i.trans n,fun j=>?_⟩
  rw[k j]
  by_cases c:(q,j)∈l
  ·rw[kE c,kE (Xy _ c)]
  rw[kF c]
  by_cases f:q=x.1/\j=x.2
  ·obtain⟨rfl,rfl⟩:=f;rw[kE (Yb ..)];exact(zl2 d b h g a).1
  rw[zgc d h g b a f,kF];intro a
  rcases mC.1 a with a|a
  ·rw[<-a]at f;exact f ⟨rfl,rfl⟩
  exact c a
theorem zcR(e):∀(l:List (Nat×Nat))(m:Ma),j6 m e l={m with sp:=(j6 m e l).sp}
 |[],_=>rfl
 |x::l,m=>by
  show j6 (zab m x.1 x.2 e) e l=_
  rw[zcR e l (zab m x.1 x.2 e)];rfl
theorem zrk{s:Sp}(h:Qc s.tb):s.tb=ZT (zl s):=by
 have:=zjs (m:=⟨[],0,[],[],[],[],[],[],0,[],[s]⟩) (fun t a=>by grind)
 have a:=congrArg (fun b:Ma=>b.sp) this
 simp only[zad,jB,mP,Yk,List.zipWith_cons_cons,List.zipWith_nil_left,List.cons.injEq,and_true]at a;exact(congrArg Sp.tb a).symm
theorem zom(h:Rt m){k:Nat}{e:En}(f:enW e=0):(j6 m e (qW m 1 (k:Int) m.sp.length)).sp=m.sp.map (j7 (k:Int) e):=by
 have g:∀s∈m.sp,Qc s.tb:=fun s c=>h.tb c
 have a:=fun b=>Jp (m:=m) (kind:=1) (k:=(k:Int)) Dc (nR m.sp.length) (x:=b)
 obtain⟨d,h,i⟩:=zgf f (qW m 1 (k:Int) m.sp.length) g (fun b f=>((a b).1 f).2.1)
 apply Yd
 intro q
 by_cases b:q<m.sp.length
 ·have c:=gE b;have a:=gE (show q<(j6 m e (qW m 1 (k:Int) m.sp.length)).sp.length by rw[d];exact b)
  obtain⟨f,g,j⟩:=i q _ _ c a;rw[a,Yc,c,Option.map_some]
  congr 1
  have c:zl ((j6 m e (qW m 1 (k:Int) m.sp.length)).sp[q]'(Rx d b))=fun j=>if j<64 then Qr (k:Int) e (zl m.sp[q]) j else zl m.sp[q] j:=by grind[Qr,isE,zl]
  have c:=zrk (h _ (mG a));have a:ZT (zl ((j6 m e (qW m 1 (k:Int) m.sp.length)).sp[q]'(Rx d b)))=ZT (Qr (k:Int) e (zl m.sp[q])):=by grind[ZT,Qg,Oh,Yl.1]
  rw[a]at c;unfold j7
  generalize(j6 m e (qW m 1 (k:Int) m.sp.length)).sp[q]'(Rx d b)=s' at f g c
  cases s'
  grind
 grind
theorem zgG(h:Rt m){k:Int}:∀x∈qW m 2 k m.sp.length,x.2<64/\∃s,m.sp[x.1]?=Xa s/\(zN s.aE x.2).is=Xc/\(zN s.aE x.2).sh=Xd/\JY m (zN s.aE x.2) (zl s x.2)=(qw m.sb m.sq k,Xc,0):=fun x d=>by
 obtain⟨_,b,s,c,a⟩:=(Jp Dc (nR _)).1 d
 simp only[isE,Xt,decide_eq_true_eq]at a;obtain⟨l,z,e,f,g,i,j,e6,e7⟩:=h.bW c b a.1
 grind[JY]
theorem zb3{α:Type}{P:α->Bool}:∀{l:List α}{i:Nat},i<l.length->(∀(j:Nat)d,l[j]?=Xa d->(P d=Xc↔j=i))->l.eraseIdx i=l.filter fun d=>!P d
 |[],i,hi,_=>absurd hi Sm
 |a::l,0,_,h=>by
  have b:=(h 0 a rfl).2 rfl;rw[List.eraseIdx_cons_zero,List.filter_cons,kF (by rw[b];decide)]
  refine(Og.2 fun d c=>?_).symm
  obtain⟨j,e⟩:=Xx c;have:=h (j+1) d (Rx Yv e)
  cases e:P d with
  |false=>rfl
  |true=>exact absurd (this.1 e) Wm
 |a::l,i+1,hi,h=>by
  have b:P a=Xd:=by
   cases e:P a with
   |false=>rfl
   |true=>exact absurd ((h 0 a rfl).1 e) Wm
  rw[List.eraseIdx_cons_succ,List.filter_cons,kE (Rr b),zb3 (P:=P) (l:=l) (i:=i) (Si hi) fun j d c=>?_]
  have:=h (j+1) d (Rx Yv c)
  rw[this];omega
theorem zbr{α:Type}(P:α->Bool):∀l:List α,l.take (l.takeWhile P).length=l.takeWhile P/\l.drop (l.takeWhile P).length=l.dropWhile P
 |[]=>Sm
 |a::l=>by
  obtain⟨c,d⟩:=zbr P l
  cases b:P a with
  |true=>simp[b,c,d]
  |false=>simp[b]
def zbA(ca:List Ca)(c:Ca):Nat:=(ca.takeWhile fun d=>decide (qp d<qp c)).length
theorem zqV(ca:List Ca)(c:Ca):ca.take (zbA ca c)++c::ca.drop (zbA ca c)=zku ca c:=by
 unfold zbA zku;rw[(zbr _ ca).1,(zbr _ ca).2]
section
variable{m:Ma}{k:Nat}{fr:Fr}
theorem ziD(h:Rt m)(b:m.fs[k]?=Xa fr){i:Nat}{c:Ca}(e:m.ca[i]?=Xa c)(a:c.fr=(k:Int)):m.ca.eraseIdx i=m.ca.filter fun d=>!decide (d.fr=(k:Int)):=by
 obtain⟨b,a,a⟩:=zy.1 h.inv.ca;have a:∀d∈m.ca,d.fr=(k:Int)->d.file=fr.f/\d.idx=fr.x:=fun d a f=>by
  obtain⟨f,f,f,f⟩:=Zv (b d a)
  grind[zX]
 refine zb3 (P:=fun d:Ca=>decide (d.fr=(k:Int))) (gS.1 e).1 fun j d a=>?_
 grind[mG,qp,gS.1,Nat.lt_trichotomy,List.pairwise_iff_getElem.1]
theorem ziC(h:Rt m)(e:m.fs[k]?=Xa fr)(d:0<=fr.f):∃(i:Nat)(c:Ca),m.ca[i]?=Xa c/\c.fr=(k:Int)/\c.file=fr.f/\c.idx=fr.x:=by
 obtain⟨c,a,b⟩:=zbT ((h.inv.cf k fr e).2 d);obtain⟨i,b⟩:=Xx a;obtain⟨b,b,b,b⟩:=Zv ((zy.1 h.inv.ca).1 c a)
 grind[zX]
theorem zaC(h:Rt m){c:Ca}(e:c∈m.ca):∃(k:Nat)(fr:Fr),c.fr=(k:Int)/\m.fs[k]?=Xa fr/\fr.r≠0/\fr.f=c.file/\fr.x=c.idx/\z2 m c.file c.idx=pgL fr.p:=by
 obtain⟨a,a,b,d⟩:=Zv ((zy.1 h.inv.ca).1 c e);have f:c.fr.toNat<m.fs.length:=Wm
 have g:=gE f;have f:=zX g;rw[show((c.fr.toNat:Nat):Int)=c.fr by omega]at f
 rw[f]at a b d;refine⟨c.fr.toNat,_,Wm,g,a,b,d,?_⟩
 unfold z2;rw[ZY h.inv.ca e]
 grind
end
theorem zd5:∀(l:List Int)(lo hi:Int),l.Pairwise (·<·)->(∀x∈l,lo<=x/\x<hi)->(l.length:Int)<=max (hi-lo) 0
 |[],lo,hi,_,_=>by simp only[Ob];omega
 |a::l,lo,hi,hp,hb=>by
  obtain⟨h1,h2⟩:=List.pairwise_cons.1 hp;obtain⟨b1,b2⟩:=hb a (Yb ..);have:=zd5 l (a+1) hi h2 fun x hx=>⟨Hm (h1 x hx),(hb x (Xy _ hx)).2⟩
  simp only[List.length_cons];omega
def qE(fs:List Fr):Nat:=fs.countP fun f=>decide (f.r=0)
section
variable{m:Ma}
theorem zk9(S:Nat->Nat->Prop)(v:Rt m){a d:Nat}{f:Fl}{e:List (List Int)}{h:List (Int×List Int)}(y:m.fl[a]?=Xa f)(s:stW (m.fl.set a ⟨f.size,f.bl.set d (b:Int)⟩) m.cnt=0)
  (t:∀x,z4 (m.fl.set a ⟨f.size,f.bl.set d (b:Int)⟩) x=Xc↔(z4 m.fl x=Xc/\x≠-1)\/x=(b:Int)\/(x=-1/\z4 (m.fl.set a ⟨f.size,f.bl.set d (b:Int)⟩) x=Xc))
  (p:e.length=m.db.length)(k:zD e.length h=0)(j:∀i:Nat,e[i]?=m.db[i]?\/∃q∈m.dq,q.1=(i:Int))(z:∀q∈h,q.1=(b:Int)\/∃A∈m.dq,A.1=q.1)(r:∀i:Int,i≠(b:Int)->qw e h i=qw m.db m.dq i)
  (n:f.bl[d]?=Xa (b:Int)\/(z4 m.fl (b:Int)=Xd))(w:∃c∈m.ca,c.file=(a:Int)/\c.idx=(d:Int))(l:∀(i u:Nat)g,m.fl[i]?=Xa g->g.bl[u]?=Xa (b:Int)->i=a/\u=d):
  Z3 S m (zby m a d f (b:Int) e h):=by
 obtain⟨⟨e,h⟩,u⟩:=zhg v y s t p k j z r n w l;refine⟨e,h.mono (fun _ _ e=>e.elim),rfl,fun q n s k e e _ h=>?_,fun a d h j=>⟨j,u a d h⟩⟩
 have:m.sp[q]?=Xa k:=e
 grind
def ziO(k:Nat)(fr:Fr)(l:List (Nat×Nat))(q:Nat)(s:Sp)(a:Ar)(n:Nat):Prop:=(qg a n).file=fr.f/\(qg a n).aI=fr.x/\(q,n)∉l/\((zl s n).kind=0\/isE (zl s n) 1 (k:Int)=Xc)
theorem zqJ{k:Nat}{fr:Fr}{l:List (Nat×Nat)}(h:∀(q:Nat)s(i:Nat)a(n:Nat),m.sp[q]?=Xa s->s.aE[i]?=Xa a->Jc a n=Xc->n<64->¬ziO k fr l q s a n)(q n:Nat)(s:Sp)(g:m.sp[q]?=Xa s)(f:n<64)(b:(zN s.aE n).is=Xc)(c:(zN s.aE n).file=fr.f)(hp:(zN s.aE n).aI=fr.x)(e:(zl s n).kind=0\/isE (zl s n) 1 (k:Int)=Xc):(q,n)∈l:=by
 obtain⟨i,a,c,d,j⟩:=zcX b;refine Classical.byContradiction fun b=>h q s i a n g c d f ⟨?_,?_,b,e⟩
 ·grind
 grind
theorem zeZ(h:Rt m){k:Nat}{fr:Fr}{l:List (Nat×Nat)}(d:m.fs[k]?=Xa fr)(c:0<=fr.f)(e:fr.r≠0)(b:qF m fr.f fr.x=Zm (pgL fr.p) fr.x (Z4 m fr.f))
  (hS:Zm (pgL fr.p) fr.x (Z4 m fr.f)=pgL fr.p\/∀(q:Nat)s(i:Nat)a(n:Nat),m.sp[q]?=Xa s->s.aE[i]?=Xa a->Jc a n=Xc->n<64->¬ziO k fr l q s a n):Z3 (fun q j=>(q,j)∈l) m (qh m k):=
 zmR h _ d c e b (hS.imp id fun b q n s c d e f g h=>zqJ b q n s c d e f g h)
theorem zfO{l:List (Nat×Nat)}{c d:Nat}{f:Fl}{e:List (List Int)}{g:List (Int×List Int)}{k:Nat}{fr:Fr}(h:Z3 (fun q t=>(q,t)∈l) m (zby m c d f (b:Int) e g))(u:m.fl[c]?=Xa f)(hi:d<f.bl.length)(v:m.fs[k]?=Xa fr)(j:fr.f=(c:Int))(p:fr.x=(d:Int))(w:fr.r≠0)
  (r:qw e g (b:Int)=Zm (pgL fr.p) (d:Int) (Z4 m (c:Int)))
  (hS:Zm (pgL fr.p) fr.x (Z4 m fr.f)=pgL fr.p\/∀(q:Nat)s(i:Nat)a(n:Nat),m.sp[q]?=Xa s->s.aE[i]?=Xa a->Jc a n=Xc->n<64->¬ziO k fr l q s a n):Z3 (fun q t=>(q,t)∈l) m (qh (zby m c d f (b:Int) e g) k):=by
 refine h.trans (zeZ h.rt (fr:=fr) v Wm w ?_ ?_)
 ·rw[j,p,zjR u hi r,<-h.aV.sz]
 rw[h.aV.sz];exact hS
end
theorem Rt.parts(h:Rt m):j4 m.fs m.aB=0/\slW m.sl=0:=by
 have b:=h.w;unfold maW at b;rw[zp]at b;have a:zao m=0:=b _ Sm
 unfold zao at a;rw[zp]at a;exact⟨a _ Sm,a _ Sm⟩
theorem Rt.refs(h:Rt m){k:Nat}{f:Fr}(a:m.fs[k]?=Xa f):0<=f.r/\f.r<=300:=by
 have b:=(h.inv.cf k f a).1;have c:=zda (jB m) 1 k;have d:=zez h.inv.ca (k:Int);have e:=h.inv.tl;have g:=h.inv.aT;omega
theorem Rt.slots(h:Rt m){k:Nat}(a:m.sl[k]?=Xa z):0<=z/\z<=300:=by
 have b:=h.inv.cs k z a;have c:=zda (jB m) 2 k;have d:=h.inv.tl;have e:=h.inv.aT;omega
theorem zhY:Qc Zq:=⟨rfl,fun h a=>by
 have:=List.eq_of_mem_replicate (show h∈Xr 8 []from a)
 subst this;exact .inl rfl⟩
theorem Js{s:Sp}{n:Nat}(a:n<64):zdT s.tb (n:Int)=zl s n:=by
 unfold zdT zl;rw[kE Wm,tN]
theorem zpH{t:List (List En)}(h:Qc t){n:Nat}(b:n<64){e:En}(a:enW e=0):ziX t (n:Int) e=zf6 t n e:=by
 have a:=Z7.2 h.2
 grind[zlg,ziX,tN]
theorem Qz(d:∀s∈m.sp,Qc s.tb){p n:Nat}(hp:p<m.sp.length)(c:n<64){e:En}(b:enW e=0):jp m p (n:Int) e=zab m p n e:=by
 obtain⟨s,a⟩:∃s,m.sp[p]?=Xa s:=⟨_,gE hp⟩;unfold jp zab;rw[Sp.aP a,zpH (d s (mG a)) c b]
 congr 1
 apply Yd
 grind
theorem zl0{n:Nat}{a:List (Int×List Int)}(h:zD n a=0){q:Int×List Int}(c:q∈a):0<=q.1/\q.1<(n:Int):=by
 unfold zD at h
 split at h
 ·cases h
 split at h
 ·cases h
 split at h
 ·cases h
 rename_i a
 refine Classical.byContradiction fun b=>a (List.any_eq_true.2 ⟨q,c,?_⟩)
 simp only[ZF,Ok,Bool.and_eq_false_iff,decide_eq_false_iff_not];omega
def Z0(m:Ma)(db':List (List Int)):Ma:=⟨Xr m.fs.length frF,0,Xr m.sl.length 0,Xr m.sl.length zS,[],db',[],m.fl,m.cnt,[],[⟨Xc,[],Zq⟩]⟩
theorem ziw(h:Rt m){a:List (List Int)}(c:a.length=m.db.length)(e:∀i:Nat,a[i]?=m.db[i]?\/∃q∈m.dq,q.1.toNat=i):Rt (Z0 m a):=by
 have b:=h.inv;have h:zrF m.fl m.cnt a [] []:=by
  obtain⟨d,d,d⟩:=(qi _ _).1 b.st;refine⟨b.st,Rx c b.cnt,nZ _,fun c b=>(by cases b),by rw[List.append_nil];exact d,fun c d d _=>?_,fun q f=>(by cases f)⟩
  rcases e c with e|⟨q,g,f⟩
  ·rw[e];exact b.bU c Wm d
  have f:=zl0 b.aW g;have f:=b.bN q g;rw[show q.1=(c:Int) by omega,d]at f
  cases f
 have c:=h.start b.bB b.aX 0;have d:=c.more (s':=⟨Xc,[],Zq⟩) Sm (by rfl) (fun e=>by cases e)
 have b:jB (Z0 m a)=[fun _=>en0]:=by
  unfold jB Z0;simp only[mP,Yk,List.cons.injEq,and_true]
  funext n
  unfold zl zcv;simp only;have a:Zq[n/8]?.getD []=([]:List En):=by
   cases e:Zq[n/8]? with
   |none=>rfl
   |some x=>
    exact(Oi.1 (show x∈Xr 8 []from mG e)).2
  rw[a];rfl
 refine Rt.of ?_ (fun s c=>?_) (Int.le_refl 0) (by show(0:Int)<max _ 1;omega)
 ·rw[b];exact d
 rw[List.mem_singleton.1 c];exact zhY
end
section
open Go.RowKit
theorem jF.aN{α:Type}{enc:α->List Xq}{base:Nat}{w:Xn}{v:Xq}{l:List α}(h:jF enc w v l)(c:j0 base v){D:Nat->Prop}(g:∀k,D k->k<base)(k:zk D w W):jF enc W v l:=by
 obtain⟨b,d,a,e,f⟩:=h;refine⟨b,d,a,e,fun x b j u d=>?_⟩
 subst b;have b:=f x rfl j u d;have d:=World.block_lt_of_cell? _ _ b;have c:=c x _ _ a;rw[World.cell?_of_block (w:=w) (k.block _ d (fun e=>by have:=g _ e;rw[j2]at this;omega))]
 exact b
theorem zZ.aN{base:Nat}{w:Xn}{v:Xq}{a:List (List Int)}{b:List (Int×List Int)}(h:zZ base w v a b){D:Nat->Prop}(e:∀k,D k->k<base)(k:zk D w W):zZ base W v a b:=by
 obtain⟨f,q,g,a,b,c,d⟩:=h;exact⟨f,q,g,⟨a.1.aN c e k,a.2⟩,⟨b.1.aN d e k,b.2⟩,c,d⟩
theorem zZ.form{base:Nat}{w:Xn}{v:Xq}{a:List (List Int)}{b:List (Int×List Int)}(h:zZ base w v a b):∃d q:Sli,v=Xi #[d.x,q.x]/\j0 base d.v/\j0 base q.v:=by
 obtain⟨b,q,rfl,⟨⟨a,c,rfl,_⟩,_⟩,⟨⟨b,e,rfl,_⟩,_⟩,f,g⟩:=h;exact⟨⟨a,_,c⟩,⟨b,_,e⟩,rfl,f,g⟩
theorem zZ.rows{base:Nat}{w:Xn}{d q:Sli}{a:List (List Int)}{b:List (Int×List Int)}(h:zZ base w (Xi #[d.x,q.x]) a b):qX w (d.x) a/\jD w (q.x) b:=by
 obtain⟨b,q,e,a,a,_⟩:=h
 grind
theorem zi0{α:Type}{E:Elt α}{w:Xn}{v:Xq}(h:zj E w v []):zj E W v []:=by
 obtain⟨⟨a,c,b,d,g⟩,e⟩:=h;exact⟨⟨a,c,b,d,fun x i j u f=>by simp at f⟩,e⟩
theorem j9(a:Nat->Bool):∀(c:List (Int×List Int))(j:Nat)(b:List (List Int)),(qt a c j b).length=b.length
 |[],_,_=>rfl
 |q::c,j,b=>by
  unfold qt;rw[j9 a c]
  split<;>simp
theorem zaM(a:Nat->Bool):∀(c:List (Int×List Int))(j:Nat)(b:List (List Int))(i:Nat),(qt a c j b)[i]?=b[i]?\/∃q∈c,q.1.toNat=i
 |[],_,_,_=>.inl rfl
 |q::c,j,b,i=>by
  unfold qt
  rcases zaM a c (j+1) (if a j then b.set q.1.toNat q.2 else b) i with h|⟨x,a,b⟩
  ·by_cases e:q.1.toNat=i
   ·exact .inr ⟨q,Sm,e⟩
   left;rw[h]
   split
   ·exact sN e
   rfl
  exact .inr ⟨x,by simp[a],b⟩
theorem zek(h:Rt m)(a:Nat->Bool):Rt (Z0 m (Zc a m.db m.dq)):=by
 have e:Zc a m.db m.dq=qt a m.dq 0 m.db:=kE h.inv.aW;rw[e];exact ziw h (j9 _ _ _ _) (zaM _ _ _ _)
theorem zk0(V:MaV)(m:Ma)(G:Int)(w:Xn)(b2:zq w V m)(h:Rt m):
  Xp prog 97 #[Xi (mL V m).toArray,I6 G] w fun e w'=>(∃V':MaV,e=Xl (Xm #[Xi #[V'.f.x,I6 0,V'.s.x,V'.sb.x,V'.sq.x,V'.db.x,V'.dq.x,V'.fl.x,I6 m.cnt,V'.ca.x,V'.sp.x],I6 0])/\(∀W,zk (fun k=>k<w.heap.size) w' W->zq W V' (Z0 m (Zc (Jw G) m.db m.dq)))/\∃b9,V'.sp=⟨Xa ⟨b9,0,Xb⟩,1,1⟩)/\zc w w':=by
 obtain⟨F,b⟩:=kB ((w.alloc (Xk (mL V m).toArray 45)).alloc (Xk zM.toArray 45));have bf:=gD2 b
 obtain⟨A,ae⟩:=kA w.heap.size;have bi:Xo (zg F A 45 (mL V m)):=dD<|by rw[<-b];exact(zg.aD w (mL V m) _ ae.symm).aA (za _ _)
 have c6:Xo (zg F (A+1) 45 zM):=dD<|by rw[<-b];exact zg.aD _ zM _ (by have:=ae.out;simp;omega)
 have A1:Xo (zq F V m):=b2.aA bf.out;have c1:Xo (Rt m):=h;have av:Xo (_=F):=b;obtain⟨b4,b5,-⟩:=b2.ns;have am:Xo (zqY (V.f.n:Int) (V.s.n:Int) m.cnt):=show zqY _ _ _ by
  have i:=h.inv;have cg:=i.bB;have d3:=i.aX;have d4:=((qi _ _).1 i.st).1;rw[b4,b5];exact⟨⟨Wm,Wm⟩,⟨Wm,Wm⟩,Wm⟩
 have ao:Xo (V.f.n=m.fs.length):=b4;have ap:Xo (V.s.n=m.sl.length):=b5;clear b b2 h b4 b5
 go_enter func97,ntmps97
 go_upto_region 1 with fail;rw[av.out,ae.out];have Z:=Zn V m F A1 c1.w;obtain⟨I,ba,a0,bb,bc,aa,ab,ac,v,bd,u⟩:=bi.box.aU;go_wp2_with fail;refine Z.mono ?_;clear Z I ba a0 bb bc aa ab ac v bd u;rintro e r⟨rfl,L⟩;have aj:=dD (bi.aA L);have ay:=dD (c6.aA L);have A2:=dD (A1.aA L);have bg:=dD (bf.trans L);clear L;have S:=zjd (V.f.n:Int) (V.s.n:Int) m.cnt am r;have I:=aj.box.c 0 rfl;have a0:=aj.box.c 2 rfl;have v:=aj.box.c 8 rfl;go_wp2_with fail;refine S.mono ?_;clear S I a0 v;rintro e z⟨⟨U,rfl,bp,R,X⟩,bo⟩;have ar:Xo (∃b9,U.sp=⟨Xa ⟨b9,0,Xb⟩,1,1⟩):=X;have au:Xo (zq z U (Zr (V.f.n:Int) (V.s.n:Int) m.cnt)):=bp;have aq:Xo (zrD r.heap.size U):=R;have n:Xo (zc r z):=bo;clear bp R bo X;go_upto_region 5 with fail;obtain⟨j,y⟩:=kA z.heap.size;obtain⟨af,d⟩:=kB (z.alloc (Xk #[U.f.x,I6 0,U.s.x,U.sb.x,U.sq.x,U.db.x,U.dq.x,U.fl.x,I6 m.cnt,U.ca.x,U.sp.x] 45));have ad:=gA d
 have bk:=xPT d y
 have ax:=dD (aj.aA (n.trans ad));rw[d,y.out];clear d;have be:=dD (A2.aA (n.trans ad));have N:=zm8 (Xi #[V.db.x,V.dq.x]) m.db m.dq G af ⟨_,_,rfl,be.db,be.dq⟩;have aa:=ax.box.c 5 rfl;have ab:=ax.box.c 6 rfl;go_wp2_with fail;refine N.mono ?_;clear N aa ab;rintro e ag⟨d0,rfl,b6,b0⟩;obtain⟨l,q,rfl,ce,cf⟩:=b6.form;have bw:Xo (zZ af.heap.size ag (Xi #[l.x,q.x]) (Zc (Jw G) m.db m.dq) []):=b6;have al:Xo (zc af ag):=b0;have c2:=dD (bk.aA b0);clear b6 b0 ce cf
 go_upto_region 6 with(refine qK rfl 38 (.tmp 37) (.tmp 35) rfl j 5 rfl (Xi #[l.x,q.x]) rfl [l.x,q.x] rfl c2 Sm Kr (by simp[Value.oneCell']) ?_)
 intro g H c _;have c3:Xo (zg g j 45 [U.f.x,I6 0,U.s.x,U.sb.x,U.sq.x,l.x,q.x,U.fl.x,I6 m.cnt,U.ca.x,U.sp.x]):=H;have D:Xo (ag.grownBy g (Xa j)):=c;have C:Xo (zc z g):=show zc _ _ from zd (ad.trans al) c (Hm y.out)
 have bj:Xo (zg g A 45 (mL V m)):=dD<|(ax.aA al).beside c (fun k e=>by cases e;have cg:=ay.box.lt;have:=y.out;have:=bS n.out;omega)
 have bu:=dD ((A2.aA n).aA C);clear H c;try simp only[Ym]
 have T:=Jk (V.fl.x) m.fl m.cnt g bu.fl;have ac:=bj.box.c 7 rfl;have v:=bj.box.c 8 rfl;go_wp2_with fail;refine T.mono ?_;clear T ac v;rintro e ah⟨d1,rfl,ak,b1,_⟩;obtain⟨bm,bn,rfl,_⟩:=qe.rows ak.new.bO;obtain⟨f,c0⟩:∃f:Sli,Xo (f=⟨bm,m.fl.length,bn⟩):=⟨_,rfl⟩;have P:O bm m.fl.length bn=f.x:=by rw[c0.out]
 rw[P]at ak⊢;have bx:Xo (z8 0 (g.heap.size+2) ah (f.x) m.fl):=ak.new;have bh:Xo (zc g ah):=b1;have c4:=dD (c3.aA b1);clear ak b1 P
 go_upto_region 7 with(refine qK rfl 41 (.tmp 41) (.tmp 40) rfl j 7 rfl (Xi #[f.x,I6 m.cnt]) rfl [f.x,I6 m.cnt] rfl c4 Sm Kr (by simp[Value.oneCell']) ?_)
 intro ai K t _;have c5:Xo (zg ai j 45 [U.f.x,I6 0,U.s.x,U.sb.x,U.sq.x,l.x,q.x,f.x,I6 m.cnt,U.ca.x,U.sp.x]):=K;have E:Xo (ah.grownBy ai (Xa j)):=t;have p:Xo (zc z ai):=show zc _ _ from zd (C.trans bh) t (Hm y.out)
 have c7:=dD ((ay.aA n).aA p);clear K t;try simp only[Ym]
 obtain⟨I,ba,a0,bb,bc,aa,ab,ac,v,bd,u⟩:=c5.box.aU
 go_wp2_with(refine zh rfl 45 (.tmp 4) (.tmp 42) rfl (A+1) rfl [U.f.x,I6 0,U.s.x,U.sb.x,U.sq.x,l.x,q.x,f.x,I6 m.cnt,U.ca.x,U.sp.x] rfl c7 rfl Kr (by simp[Value.oneCell']) ?_)
 clear I ba a0 bb bc aa ab ac v bd u;intro aw az M _;have bz:Xo (zc w aw):=dD<|zd ((bg.trans n).trans p) M (Hm ae.out)
 have bv:Xo (zg aw (A+1) 45 [U.f.x,I6 0,U.s.x,U.sb.x,U.sq.x,l.x,q.x,f.x,I6 m.cnt,U.ca.x,U.sp.x]):=az;have an:Xo (∀W,zk (fun k=>k<w.heap.size) aw W->zq W ⟨U.f,U.s,U.sb,U.sq,l,q,f,U.ca,U.sp⟩ (Z0 m (Zc (Jw G) m.db m.dq))):=show∀W,_ from fun W ch=>by
  have ci:A+1<r.heap.size:=ay.box.lt;have cm:=bS n.out;have cn:=bS ad.out;have co:=bS al.out;have cp:=D.size;have d5:=y.out;have cj:j<af.heap.size:=bk.box.lt;have u8:=au.aA p.out;have a:zk (fun k=>k<r.heap.size) ai W:=(zk.grown M ci).trans (ch.wide fun k B=>Ya B (bS bg))
  obtain⟨⟨c8,c9,ca,cb⟩,cx,cy,cz,cc,cd⟩:=aq.out;have b7:zk (fun k=>k=j\/k<r.heap.size) ag W:=(((zk.grown D (.inl rfl)).trans (zk.aA bh)).trans (zk.grown E (.inl rfl))).trans (a.wide fun k B=>.inr B)
  have bl:=(bw.aN (fun k B=>by rcases B with rfl|B<;>omega) b7).rows
  have b8:Out 0 (g.heap.size+2) ah W:=(Out.grown E (fun d2 e=>by cases e;omega)).trans ⟨a.os,a.tape,a.output,a.size,fun i ck d6=>a.block i ck (fun h=>by have h:i<r.heap.size:=h;omega)⟩
  have b3:=ao.out;have Q:=ap.out;obtain⟨cw,br,ct,cu⟩:=u8.sp;refine⟨?_,?_,?_,?_,bl.1,bl.2,(bx.out.out b8).bO,⟨u8.ca.1.aN cc (fun _ h=>h) a,u8.ca.2⟩,⟨cw,⟨br.1.aN cd (fun _ h=>h) a,br.2⟩,ct,fun i x s cr cl=>?_⟩⟩
  ·have:zj _ W _ _:=⟨u8.fs.1.aN c8 (fun _ h=>h) a,u8.fs.2⟩
   rw[show(Zr (V.f.n:Int) (V.s.n:Int) m.cnt).fs=Xr m.fs.length frF from by unfold Zr;simp only;rw[b3,tN]]at this
   exact this
  ·have:zj _ W _ _:=⟨u8.sl.1.aN c9 (fun _ h=>h) a,u8.sl.2⟩
   rw[show(Zr (V.f.n:Int) (V.s.n:Int) m.cnt).sl=Xr m.sl.length 0 from by unfold Zr;simp only;rw[Q,tN]]at this
   exact this
  ·have:qX W _ _:=⟨u8.sb.1.aN ca (fun _ h=>h) a,u8.sb.2⟩
   rw[show(Zr (V.f.n:Int) (V.s.n:Int) m.cnt).sb=Xr m.sl.length zS from by unfold Zr;simp only;rw[Q,tN]]at this
   exact this
  ·exact⟨u8.sq.1.aN cb (fun _ h=>h) a,u8.sq.2⟩
  have Y:[(⟨Xc,[],Zq⟩:Sp)][i]?=Xa s:=cl
  cases i with
  |succ i=>simp at Y
  |zero=>
   cases Y;have k:=cu 0 x _ cr rfl;refine⟨k.aH,zi0 k.ar,k.cap,⟨k.tb.len,k.tb.aO,fun cs cv bt cq bq=>?_⟩⟩
   have e:bt=[]:=(Oi.1 (show bt∈Xr 8 []from mG bq)).2
   subst e;exact fun w' _=>zi0 (k.tb.row cs cv [] cq bq).now
 go_wp2;refine bodyPost_ret (zW rfl _ rfl bv.box underlying45 rfl Kr) rfl ⟨⟨_,rfl,an,ar⟩,bz⟩
theorem zmi(n:Nat)(l:n<=40)(w:Xn):
  Xp prog 107 #[.int .u64 1,.int .u64 (n:Int)] w fun e w'=>e=Xl (Xm #[.int .u64 0,.int .u64 (n:Int)])/\w'=w:=by
 have h:bits .and .u64 1 4294967295=1:=Mul64.maskN 1 Wm
 have i:bits .and .u64 (n:Int) 4294967295=(n:Int):=by rw[Mul64.maskN n Wm];omega
 have g:bits .and .u64 0 4294967295=0:=Mul64.maskN 0 Wm
 have f:(n:Int)/4294967296=0:=Wm
 have c:Xo (bits .and .u64 1 4294967295=1):=h;have d:Xo (bits .and .u64 (n:Int) 4294967295=(n:Int)):=i;have b:Xo (bits .and .u64 0 4294967295=0):=g;have a:Xo ((n:Int)/4294967296=0):=f;clear h i g f
 go_enter func107,ntmps107
 go_wp2;have j:IntKind.u64.wrap 0=0:=Mul64.wrapN 0 Wm
 have k:IntKind.u64.wrap (n:Int)=(n:Int):=Mul64.wrapN n Wm
 simp only[c.out,d.out,Int.one_mul,k,a.out,j,b.out,Int.mul_zero,Int.add_zero,Int.zero_ediv]
 go_ret2
 exact⟨rfl,rfl⟩
theorem zpP(n:Nat)(b:n<=40)(w:Xn):
  Xp prog 57 #[.int .u64 1,.int .u64 (n:Int)] w fun e w'=>e=Xl (Xm #[.int .u64 0,.int .u64 (n:Int)])/\w'=w:=by
 have a:=zmi n b w
 go_enter func57,ntmps57
 go_wp2_with(go_at_call 107;refine a.mono ?_;rintro e w'⟨rfl,c⟩;rw[c])
 go_ret2
 exact⟨rfl,rfl⟩
theorem zn2(q:Int)(n m z:Nat)(_h:m<=n)(a:z=Yx m (n-m)):(Xr m q++Xr (n-m) (0:Int)).take m++(Xr z q++(Xr m q++Xr (n-m) (0:Int)).drop (m+z))=Xr (m+z) q++Xr (n-(m+z)) (0:Int):=by
 have b:z<=n-m:=by rw[a];exact Nat.min_le_right _ _
 rw[Yq Sm,Yn Sm,List.drop_append,Yy Sm,List.nil_append,lR,Yh,<-Oj,Xv]
 congr 2
 omega
theorem zj4(q:Int)(x:Nat)(c n:Nat)(Y:n<=40)(r:1<=n)(w:Xn)(M:zj blE w (O (Xa ⟨x,0,Xb⟩) 1 c) [q]):
  Xp prog 217 #[O (Xa ⟨x,0,Xb⟩) 1 c,I6 (n:Int)] w fun e w'=>∃b,e=Xl b/\zP blE w.heap.size w' b (Xr n q)/\zc w w':=by
 have R:Xo (q8 w ⟨x,0,Xb⟩ ([q].flatMap blE.enc)):=by
  obtain⟨⟨aa,ab,g,_,k⟩,_⟩:=M;cases g;exact k _ rfl
 clear M;have V:=zpP n Y w;have I:¬(n:Int)<0:=Wm
 have Z:¬(9223372036854775807:Int)<(n:Int):=Wm
 go_enter func217,ntmps217
 go_wp2_with(first
  |(go_at_call 57;refine V.mono ?_;rintro e w'⟨rfl,a0⟩;rw[a0])
  |(refine qr blE rfl (.tmp 29) rfl n rfl (by show n*8<=_;omega) ?_;intro P N;have T:Xo (zb blE w.heap.size (w.alloc (Xk P 3)) (O (Xa ⟨w.heap.size,0,Xb⟩) n n) (Xr n (0:Int))):=N;clear N)
  |(refine qk (E:=blE) rfl (.tmp 31) (.tmp 32) rfl w.heap.size (O (Xa ⟨w.heap.size,0,Xb⟩) n n) (Xr n (0:Int)) T w.heap.size rfl 0 n n _ rfl ?a1 _ 1 c rfl [q] ?a2 ?a3 ?a4 ?_))
 case a1=>simp
 case a2=>show 1=Yx 1 n;exact(Yi r).symm
 case a3=>exact R.aA (za _ _)
 case a4=>simp;omega
 intro K s i _;have v:Xo (zb blE w.heap.size K (O (Xa ⟨w.heap.size,0,Xb⟩) n n) (Xr 1 q++Xr (n-1) (0:Int))):=show zb _ _ _ _ (Xr 1 q++Xr (n-1) (0:Int)) by simpa[Yh]using s
 have Q:Xo (zc w K):=zd (za _ _) i (nR _);clear s i;go_wp2
 go_loopg[8] n (fun U a8 wr=>∃m:Nat,1<=m/\m<=n/\n-m<=U/\a8=I6 m/\Xo (zb blE w.heap.size wr (O (Xa ⟨w.heap.size,0,Xb⟩) n n) (Xr m q++Xr (n-m) (0:Int)))/\Xo (zc w wr))
 exact⟨1,nR _,r,Wm,rfl,v,Q⟩
 obtain⟨m,W,X,ac,rfl,H,G⟩:=hrel
 by_cases l:m<n
 ·have p:=kC l
  have L:(m:Int)<=(n:Int):=Wm
  have h:Xo (zb blE w.heap.size wr.drew (O (Xa ⟨w.heap.size,0,Xb⟩) n n) (Xr m q++Xr (n-m) (0:Int))):=dD<|H.aA (gW _)
  obtain⟨z,u⟩:∃z,Xo (z=Yx m (n-m)):=⟨_,rfl⟩;have D:z=min m (n-m):=u.out;have a5:1<=z:=Wm
  have F:z<=m:=Wm
  have a6:z<=n-m:=Wm
  clear D;have d:q8 wr.drew ⟨w.heap.size,0,Xb⟩ ((Xr z q).flatMap blE.enc):=fun a7 a9 C=>by
   have g:=h.1.cells rfl;refine g a7 a9 ?_;rw[Xs,Xw]
   ·rw[show m=z+(m-z) by omega,<-Xv,Xs,Xw (gS.1 C).1]
    exact C
   have k:=(gS.1 C).1;rw[qB blE]at k⊢;simp only[lR]at k⊢;exact Ya k (Yp _ F)
  obtain⟨A,a,f,j,_⟩:=QN (E:=blE) 3 w.heap.size _ _ h w.heap.size rfl m (n-m) (n-m) ⟨w.heap.size,0,Xb⟩ m n (Xr z q) (Rx lR u) d (by simp;omega)
  have B:(Builtin.copy_ #[33,33] 3 #[O (Xa ⟨w.heap.size,m,Xb⟩) (n-m) (n-m),O (Xa ⟨w.heap.size,0,Xb⟩) m n]).run prog wr.drew=.ok (I6 (z:Int)) A:=by
   have g:=a;rw[lR,show m*blE.k=m from Nat.mul_one m]at g
   exact g
  have y:Xo (zb blE w.heap.size A (O (Xa ⟨w.heap.size,0,Xb⟩) n n) (Xr (m+z) q++Xr (n-(m+z)) (0:Int))):=dD<|by
   rw[<-zn2 q n m z Wm u.out]
   rw[lR]at f;exact f
  have t:Xo (zc w A):=zd (G.trans (gW _)) j (nR _)
  clear d a f j;go_wp2
  go_region
  go_wp2
  go_roundg (n-(m+z));exact⟨m+z,Wm,Wm,nR _,Gn,y,t⟩;omega
 have p:=kD l
 have:m=n:=Wm
 subst this;have S:Xo (zb blE w.heap.size wr (O (Xa ⟨w.heap.size,0,Xb⟩) m m) (Xr m q)):=dD<|by have:=H.out;simpa using this
 go_wp2;go_ret;exact⟨_,rfl,S.new,G⟩
theorem zfj{w:Xn}{a:Option Nat}(h:zc w w1)(k:w1.grownBy w2 a):w.grownBy w2 a:=
 ⟨k.os.trans (Below.os h),k.tape.trans (Below.tape h),k.output.trans (Below.output h),nT (bS h) k.size,fun i c b=>(k.block i (Ya c (bS h)) b).trans (Below.block h i c)⟩
theorem zhP(a:Option Addr)(c:Nat)(l:List Int)(n:Nat)(au:n<=12)(ar:l.length<=12)(base:Nat)(w:Xn)(b:zb blE base w (O a l.length c) l)(Z:base<=w.heap.size):
  Xp prog 189 #[O a l.length c,I6 (n:Int)] w fun e w'=>∃K u,e=Xl (O K n u)/\zP blE base w' (O K n u) (zbt l n)/\(∀x,K=Xa x->∃cs,w'.heap[x.block]?=Xa (Xk cs blE.ty (0,0)))/\w.grownBy w' (O a l.length c).ownBlock:=by
 have F:Xo (zb blE base w (O a l.length c) l):=b;obtain⟨a1,s⟩:=kA l.length;have W:Xo (∀x,a=Xa x->∃cs,w.heap[x.block]?=Xa (Xk cs blE.ty (0,0))):=show∀x,_ from fun x R=>b.obj (Rr R)
 by_cases i:n<=l.length
 ·have I:l.length<=c:=by
   rcases b.1.2 with⟨g,_⟩|⟨ae,L,M,g,_,_,ah,_⟩
   ·have h:=congrArg (fun U=>match U with|O _ n _=>n|_=>0) g
    simp at h
    simp[h]
   have h:=congrArg (fun U=>match U with|O _ _ n=>n|_=>0) g
   simp at h
   rw[h];exact ah
  have q:zbt l n=l.take n:=by
   unfold zbt;rw[show n-l.length=0 by omega]
   simp
  have t:Xo (zP blE base w (O a n c) (zbt l n)):=dD<|by
   obtain⟨⟨⟨x,u,aa,ab,ac⟩,aq⟩,ad⟩:=b.new;cases aa;rw[q];refine⟨⟨⟨a,c,by rw[Yu,Yi i],fun af=>by rw[ab af];simp,fun an aj al am a0=>?_⟩,?_⟩,fun x k u e=>?_⟩
   ·refine ac an aj al am ?_;rw[<-Oc n l,Xs,Xw (gS.1 a0).1];exact a0
   ·rw[Yu,Yi i]
    show n*8<=_
    omega
   cases e;exact ad x _ _ rfl
  have S:(n:Int)<=(l.length:Int):=Wm
  have ak:(n:Int)<=(c:Int):=Wm
  rw[s.out]at S⊢;clear b q
  rcases a with _|x
  ·have g:a1=0:=by
    rw[<-s.out];have h:=F.1.2
    rcases h with⟨g,ag⟩|⟨ae,L,M,g,_⟩
    ·exact ag
    cases g
   subst g;have Q:n=0:=Wm
   subst Q
   go_enter func189,ntmps189
   go_wp2;refine bodyPost_ret (v:=O Xb 0 c) (by simp[results,Tryz.results189,go_sem, *]) rfl ⟨_,_,rfl,t,W,World.grownBy.rfl' _ _⟩
  go_enter func189,ntmps189
  go_wp2;refine bodyPost_ret (v:=O (Xa x) n c) (by simp[results,Tryz.results189,go_sem, *]) rfl ⟨_,_,rfl,t,W,World.grownBy.rfl' _ _⟩
 obtain⟨k,ai⟩:∃k,n=l.length+k:=⟨n-l.length,Wm⟩
 have q:zbt l n=l++Xr k (-1):=by
  unfold zbt;rw[Yn Wm,show n-l.length=k by omega]
 have a5:Xo (zbt l n=l++Xr k (-1)):=q;have N:1<=k:=Wm
 have P:k<=40:=Wm
 have S:¬(n:Int)<=(l.length:Int):=Wm
 have r:(n:Int)-(l.length:Int)=(k:Int):=Wm
 have a4:Xo (base<=w.heap.size):=Z;have j:Xo ((l.length+(Xr k (-1:Int)).length)*blE.bytes<=140737488355328):=show(_+_)*8<=_ by rw[lR];omega
 have B:Xo ((l++Xr k (-1:Int)).length=n):=dD<|by rw[lA,lR];omega
 rw[s.out]at S r j F⊢;clear b q Z i ai;obtain⟨G,f⟩:=kB (w.alloc (Xk #[I6 (-1)] 3));have A:=gA f
 have a8:Xo (zj blE G (O (Xa ⟨w.heap.size,0,Xb⟩) 1 1) [-1]):=dD<|by rw[<-f];exact ZD blE w (-1) _ _ rfl (by show 8<=_;omega)
 have D:Xo (_=G):=f;clear f
 go_enter func189,ntmps189
 go_wp2_with fail;rw[D.out];refine(zj4 (-1) w.heap.size 1 k P N G a8).mono ?_;rintro e X⟨a9,rfl,T,Y⟩;have y:=dD (A.trans Y);have t:Xo (zj blE X a9 (Xr k (-1))):=T.1;obtain⟨ao,ap,p,_⟩:=T.1.bA;rw[lR]at p;subst p;have a7:=dD (F.aA y);have z:Xo (base<=X.heap.size):=nT a4 (bS y);clear T Y
 go_wp2_with(at_builtin;refine zr (E:=blE) rfl (.tmp 12) (.tmp 18) rfl base _ l rfl a7 _ (Xr k (-1)) rfl t.out ?qb z.out ?_)
 case qb=>rw[s.out];exact j.out
 intro av H d m;obtain⟨V,a2,rfl⟩:=d.form;rw[B.out]at d⊢;have a6:Xo (zP blE base H (O V n a2) (zbt l n)):=dD<|Rx a5.out d.new
 have C:Xo (∀x,V=Xa x->∃cs,H.heap[x.block]?=Xa (Xk cs blE.ty (0,0))):=dD<|fun x R=>d.obj (Rr R)
 have a3:Xo (w.grownBy H (O a a1 c).ownBlock):=zfj y m;clear d m;go_wp2;refine bodyPost_ret (v:=O V n a2) (by simp[results,Tryz.results189,go_sem, *]) rfl ⟨_,_,rfl,a6,C,a3⟩
theorem zP.grown{α:Type}{E:Elt α}{base G:Nat}{w:Xn}{a:Option Addr}{n c:Nat}{l:List α}(h:zP E base w (O a n c) l)(k:w.grownBy w' (Xa G))(q:∀x,a=Xa x->x.block≠G):zP E base w' (O a n c) l:=by
 obtain⟨⟨⟨v,y,g,i,j⟩,m⟩,p⟩:=h;cases g;refine⟨⟨⟨a,c,rfl,i,fun x s t u r=>?_⟩,m⟩,p⟩
 subst s;have d:=j x rfl t u r;have f:=World.block_lt_of_cell? _ _ d;have b:=q x rfl;rw[j2]at f;rw[World.cell?_of_block (w:=w) (k.block _ (Rx j2 f) (fun e=>by rw[j2]at e;cases e;exact b rfl))]
 exact d
theorem zjc{fs:List Fl}{a k:Int}(h:stW fs a≠0):zmb fs a k=stW fs a:=by unfold zmb;rw[kF h]
theorem zgo{fs:List Fl}{a k:Int}(h:stW fs a=0)(b:¬(0<=k/\k<(fs.length:Int))):zmb fs a k=5:=by unfold zmb;rw[kE h,kF (Rx Qi b)]
theorem zbD{fs:List Fl}{a:Int}{i:Nat}{f:Fl}(h:stW fs a=0)(b:fs[i]?=Xa f):zmb fs a (i:Int)=0:=by
 have:=(gS.1 b).1;unfold zmb;rw[kE h,kE (Qi.2 ⟨Wm,Wm⟩)]
theorem zj2(v:Xq)(fs:List Fl)(a k n:Int)(w:Xn)(ac:qe w v fs):
  Xp prog 153 #[Xi #[v,I6 a],I6 k,I6 n] w fun e w'=>∃b,e=Xl (Xm #[Xi #[b,I6 (znF fs a k n)],I6 (zfJ fs a k n)])/\z8 0 w.heap.size w' b (zho fs a k n)/\zc w w':=by
 have h:∀W,zc w W->Xp prog 188 #[Xi #[v,I6 a],I6 k] W fun e w'=>e=Xl (I6 (zmb fs a k))/\zc W w':=fun W bx=>zbX v fs a k W (ac.aA bx)
 have a8:∀W,zc w W->Xp prog 54 #[Xi #[v,I6 a]] W fun e w'=>∃b,e=Xl (Xi #[b,I6 a])/\zV (W.heap.size+2) w' b fs/\zc W w'/\W.heap.size+2<=w'.heap.size:=fun W bx=>Jk v fs a W (ac.aA bx)
 obtain⟨br,bt,rfl,b3,_⟩:=ac.rows;clear ac;obtain⟨A,a5⟩:=kA fs.length;rw[a5.out]at h a8 b3⊢;obtain⟨d7,L⟩:=kB ((w.alloc (Xk #[O br A bt,I6 a] 41)).alloc (Xk #[eS,I6 0] 41));have t:=gD2 L
 have d8:=x2a L
 have bp:=x2b L
 have aj:Xo (_=d7):=L;clear L;have T:∀az:Int,az≠0->(∀W,zc w W->Xp prog 188 #[Xi #[O br A bt,I6 a],I6 k] W fun e w'=>e=Xl (I6 az)/\zc W w')->Xp prog 153 #[Xi #[O br A bt,I6 a],I6 k,I6 n] w fun e w'=>∃b,e=Xl (Xm #[Xi #[b,I6 0],I6 az])/\z8 0 w.heap.size w' b []/\zc w w':=fun az dg h=>by
  have dh:(az !=0)=Xc:=Si dg
  clear a8
  go_enter func153,ntmps153
  go_wp2_with fail;rw[aj.out];refine(h _ t).mono ?_;rintro e c⟨rfl,F⟩;have ax:=dD (t.trans F);have Q:=bp.aA F;obtain⟨cu,cv⟩:=Q.k2;have cw:=Q.f;clear F h;go_wp2;refine bodyPost_ret (v:=Xm #[Xi #[eS,I6 0],I6 az]) (by simp[results,Tryz.results153,go_sem, *]) rfl ⟨_,rfl,z8.nil _ _ _,?_⟩
  exact Below.setCell (Below.setCell ax (p:=⟨w.heap.size+1,0,Xb⟩) Sm _) (p:=⟨w.heap.size+1,1,Xb⟩) Sm _
 rcases zlP fs a k n with⟨P,U,K,V⟩|⟨P,ar,U,K,V⟩|⟨P,i,f,rfl,a9,aa,U,K,V⟩|⟨P,i,f,rfl,a9,aa,U,K,V⟩
 ·rw[U,K,V];rw[zjc P]at h;exact T _ P h
 ·rw[U,K,V];rw[zgo P ar]at h;exact T _ Dc h
 ·rw[U,K,V];rw[zbD P a9]at h;have bi:=fun W=>JV (m:=n) (n:=97) Wm W
  clear U K V a8 P aa T a9
  go_enter func153,ntmps153
  go_wp2_with fail;rw[aj.out];refine(h _ t).mono ?_;rintro e c⟨rfl,F⟩;have ax:=dD (t.trans F);have Q:=bp.aA F;obtain⟨cu,cv⟩:=Q.k2;have cw:=Q.f;clear F h
  go_wp2_with(go_at_call 27;refine(bi _).mono ?_;rintro e w'⟨rfl,rfl⟩)
  refine bodyPost_ret (v:=Xm #[Xi #[eS,I6 0],I6 3]) (by simp[results,Tryz.results153,go_sem, *]) rfl ⟨_,rfl,z8.nil _ _ _,?_⟩
  exact Below.setCell (Below.setCell ax (p:=⟨w.heap.size+1,0,Xb⟩) Sm _) (p:=⟨w.heap.size+1,1,Xb⟩) Sm _
 rw[U,K,V];rw[zbD P a9]at h;have bi:=fun W=>j1 (m:=n) (n:=97) aa.1 Wm W
 have ao:=fun W=>zbi n W aa.1 aa.2
 have c2:=JU aa.1 aa.2;obtain⟨l,c5⟩:∃l:Nat,zbQ n=(l:Int):=⟨(zbQ n).toNat,Wm⟩
 rw[c5]at ao;have d3:Xo ((zbQ n).toNat=l):=dD<|by rw[c5,tN]
 have b5:l<=12:=Wm
 rw[d3.out];have a2:=((qi fs a).1 P).2.1 f (mG a9);have c3:f.bl.length<=12:=by
  have:=JU a2.1.1 a2.1.2;have:=a2.2.1;omega
 have a1:i<A:=by rw[<-a5.out];exact(gS.1 a9).1
 have cl:(i:Int)<(A:Int):=Wm
 have d2:Xo (fs[i]?=Xa f):=a9;clear U K V P aa T a9 a2 c2 c5
 go_enter func153,ntmps153
 go_wp2_with fail;rw[aj.out];refine(h _ t).mono ?_;rintro e c⟨rfl,F⟩;have ax:=dD (t.trans F);have ci:=dD (d8.aA F);have Q:=dD (bp.aA F);obtain⟨dn,dp⟩:=ci.k2;clear F h
 go_wp2_with(go_at_call 27;refine(bi _).mono ?_;rintro e w'⟨rfl,b7⟩;rw[b7];clear b7 w')
 refine(a8 _ ax).mono ?_;rintro e al⟨b,rfl,cb,bv,cp⟩;have s:Xo (w.heap.size+2<=c.heap.size):=Q.lt;obtain⟨R,bj,b9,ca,cm⟩:=cb;obtain⟨x,q⟩:∃x,R[i]?=Xa x:=⟨_,gE (by rw[b9,a5.out];exact a1)⟩
 obtain⟨G,a6,rfl⟩:=bj.aJ (by rw[b9,a5.out];omega)
 rw[b9,a5.out]at bj⊢;obtain⟨cc,ay⟩:=ca i x f q d2.out;obtain⟨cf,B,dq,C⟩:=x;obtain⟨dk,dl,co⟩:=ay.form;have dj:O B dq C=O dk f.bl.length dl:=co;cases dj;have bn:Xo (R[i]?=Xa ⟨cf,B,f.bl.length,C⟩):=q;have d4:Xo (zb fvE (c.heap.size+2) al (O (Xa ⟨G,0,Xb⟩) A a6) R):=bj;have bo:Xo (R.length=fs.length):=b9;have d5:Xo (∀(i:Nat)x f,R[i]?=Xa x->fs[i]?=Xa f->x.size=f.size/\zb blE (c.heap.size+2) al x.v f.bl):=ca;have d6:Xo (∀(i ae:Nat)x ct,i≠ae->R[i]?=Xa x->R[ae]?=Xa ct->∀d,x.v.ownBlock=Xa d->ct.v.ownBlock≠Xa d):=cm;have cg:Xo (zb blE (c.heap.size+2) al (O B f.bl.length C) f.bl):=ay;have cz:=dD (ax.trans bv);have bm:Xo (c.heap.size+2<=al.heap.size):=cp;have bl:Xo (zc c al):=bv;clear bv cp a8 dn dp bj b9 ca cm cc ay co q bi;go_upto_region 7 with fail;obtain⟨a4,z⟩:=kB al.heap.size;obtain⟨S,Y⟩:=kB (al.alloc (Xk #[O (Xa ⟨G,0,Xb⟩) A a6,I6 a] 41));have r:=gA Y
 have b1:Xo (zg S a4 41 [O (Xa ⟨G,0,Xb⟩) A a6,I6 a]):=dD<|by rw[<-Y];exact zg.aD _ _ _ z.symm
 have d9:=dD ((Q.aA bl).aA r);have ai:Xo (c.heap.size+2<=a4):=show _<=_ by rw[<-z];exact bm.out
 have ah:Xo (a4<S.heap.size):=b1.box.lt;have d0:=dD (cz.trans r);have u:=dD (d4.aA r);have H:=dD (cg.aA r);rw[Y];rw[z];clear Y z;obtain⟨d,ap,dd,de,df,b4⟩:∃d,(∀D,(O B f.bl.length C).ownBlock=Xa D->D=d)/\d≠G/\d≠a4/\c.heap.size+2<=d/\((O B f.bl.length C).ownBlock=Xb->S.heap.size<=d):=by
  cases N:(O B f.bl.length C).ownBlock with
  |none=>exact⟨S.heap.size,fun D X=>(by cases X),Hm ((u.lt G rfl).2),Hm ah.out,by have:=ah.out;have:=ai.out;omega,fun _=>nR _⟩
  |some d=>
   refine⟨d,fun D X=>by cases X;rfl,fun e=>?_,fun e=>?_,(H.lt d N).1,fun X=>by cases X⟩
   ·subst e;exact H.apart u Qo d N rfl
   exact H.ne b1 Dc d N e.symm
 obtain⟨I,af⟩:=Wq fun w=>Out d (d+1) S w
 have c9:=fun x:zo I=>(b1.box.out ((af _).1 x.holds) Wm).c 0 rfl
 have b8:∀x:zo I,x.world.cell? ⟨G,i*2+1,Xb⟩=Xa (O B f.bl.length C):=fun x=>by
  have N:=u.out.out ((af _).1 x.holds) (fun D j=>by simp[Value.ownBlock]at j;omega)
  obtain⟨dr,du,c8,au⟩:=N.at.rows;obtain⟨dt,bz,c1⟩:=au i _ bn.out;cases c8;cases bz;have:=c1 _ (zc.refl _) 1 _ rfl;rw[jh,Xu,zA]at this;exact this
 have c6:Nonempty (zo I):=⟨⟨S,(af _).2 (Out.refl _ _ _)⟩⟩;obtain⟨ba,ag⟩:=kA f.bl.length;rw[ag.out]at b8 ap b4 cg H bn;refine jS (I:=I) 15 [(11,⟨fun v=>v=I6 (l:Int),fun _ _=>True,fun w w'=>w'=w,fun _=>True⟩),(12,⟨fun v=>∃bs a7,v=O bs l a7,fun v w'=>zP blE (c.heap.size+2) w' v (zbt f.bl l)/\∀x bk a7,v=O (Xa x) bk a7->∃bg,w'.heap[x.block]?=Xa (Xk bg blE.ty (0,0)),fun w w'=>w.grownBy w' (O B ba C).ownBlock,fun w=>zb blE (c.heap.size+2) w (O B ba C) f.bl/\c.heap.size+2<=w.heap.size⟩)] ((af _).2 (Out.drew _)) zU Kr rfl rfl Dc ?hS ?hp ?hpre ?hpr0 ?_
 case hS=>
  intro x q
  simp at q
  rcases q with rfl|rfl
  ·exact⟨_,rfl⟩
  exact⟨_,Xb,0,rfl⟩
 case hp=>
  intro k dm ae cq ar c4 aq _ v w w' av z
  rcases zmm ar with⟨rfl,rfl⟩|⟨rfl,rfl⟩
  ·trivial
  rcases zmm c4 with⟨rfl,rfl⟩|⟨rfl,rfl⟩
  ·have e:w'=w:=av;subst e;exact z
  exact absurd rfl aq
 case hpre=>
  intro ae cq k dm c4 ar aq w w' av a3
  rcases zmm c4 with⟨rfl,rfl⟩|⟨rfl,rfl⟩
  ·trivial
  rcases zmm ar with⟨rfl,rfl⟩|⟨rfl,rfl⟩
  ·have e:w'=w:=av;subst e;exact a3
  exact absurd rfl aq
 case hpr0=>
  intro k cq ar
  rcases zmm ar with⟨rfl,rfl⟩|⟨rfl,rfl⟩
  ·trivial
  exact⟨H.aA (gW _),show c.heap.size+2<=S.heap.size by have:=ah.out;have:=ai.out;omega⟩
 simp only[Yf,Yg];iterate 11 refine qT ?_
 refine jY rfl rfl (fun w' an a3 bh=>?_) (fun cr ac=>?_)
 ·refine zI.call [I6 n] rfl func149 rfl rfl rfl ?_;refine(ao w').mono ?_;rintro e ce⟨rfl,K⟩;subst K;exact⟨_,rfl,an,rfl,rfl,trivial⟩
 obtain rfl:cr=I6 (l:Int):=ac;refine Uq ?_;refine jY rfl rfl (fun w' an a3 bh=>?_) (fun cr ac=>?_)
 ·refine zI.call [O B ba C,I6 (l:Int)] rfl func189 rfl rfl rfl ?_;have ab:zb blE (c.heap.size+2) w' (O B ba C) f.bl/\c.heap.size+2<=w'.heap.size:=a3;have M:=zhP B C f.bl l b5 c3 (c.heap.size+2) w' (Rx ag.out ab.1) ab.2
  rw[ag.out]at M;refine M.mono ?_;rintro e ce⟨bs,a7,rfl,di,N,ck⟩;refine⟨_,rfl,(af _).2 (((af _).1 an).trans (Out.grown ck (fun D X=>Hm (ap D X)))),ck,⟨bs,a7,rfl⟩,di,fun x bk a7 e=>?_⟩
  cases e;exact N x rfl
 obtain⟨bb,bd,rfl⟩:=ac;refine Uq ?_;iterate 2 refine qT ?_
 refine JJ fun be b2 bh=>?_
 have am:zP blE (c.heap.size+2) be (O bb l bd) (zbt f.bl l)/\∀x bk a7,O bb l bd=O (Xa x) bk a7->∃bg,be.heap[x.block]?=Xa (Xk bg blE.ty (0,0)):=bh 12;have b0:Xo (Out d (d+1) S be):=(af _).1 b2;clear bh c9 b8 b2 c6 ao;have ak:Xo (zb fvE (c.heap.size+2) be (O (Xa ⟨G,0,Xb⟩) A a6) R):=u.out.out b0 (fun D j=>by simp[Value.ownBlock]at j;omega)
 refine z7 (E:=fvE) rfl (.tmp 37) (.tmp 36) rfl (c.heap.size+2) _ R ak G i rfl ⟨n,bb,l,bd⟩ ?t1 ⟨G,i*2,Xb⟩ ?t2 rfl (Xi #[I6 n,O bb l bd]) ?t3 rfl ?_
 case t1=>rw[bo.out,a5.out];exact a1
 case t2=>rfl
 case t3=>rfl
 intro bf aw y cd;have bw:G≠a4:=fun e=>u.ne b1 Dc G rfl e.symm
 have dc:c.heap.size+2<=G:=(u.lt G rfl).1;have ch:Xo (Box bf a4 [O (Xa ⟨G,0,Xb⟩) A a6,I6 a]):=(b1.box.out b0 Wm).grown y (fun e=>bw e.symm)
 have bq:Xo (Box bf (w.heap.size+1) [eS,I6 0]):=(d9.out.out b0 (Hm s.out)).grown y (Hm s.out)
 have d1:Xo (zc w bf):=dD<|zd (Out.bI d0 (Hm s.out) b0) y (Hm s.out)
 have cx:Xo (z8 0 (c.heap.size+2) bf (O (Xa ⟨G,0,Xb⟩) A a6) (fs.set i ⟨n,zbt f.bl l⟩)):=dD<|by
  refine⟨aw.cap,R.set i ⟨n,bb,l,bd⟩,aw.new.stays,by simp[bo.out],fun ae x da q Z=>?_⟩
  by_cases e:ae=i
  ·subst e;rw[sF (by rw[bo.out,a5.out];exact a1)]at q
   rw[sF (Rx a5.out a1)]at Z
   cases q;cases Z;refine⟨rfl,(am.1.grown y (fun x q db=>?_)).stays⟩
   subst q;obtain⟨bg,h⟩:=am.2 x _ _ rfl;obtain⟨dv,a8⟩:=ak.obj (g:=G) rfl;rw[db,a8]at h;simp only[Option.some.injEq,Obj.cells.injEq]at h;exact Qo h.2.1.symm
  rw[sN (fun X=>e X.symm)]at q Z
  obtain⟨cc,ay⟩:=d5.out ae x da q Z;have cn:=(ay.aA r).out b0 (fun D j=>by
   have h:D≠d:=fun bu=>by
    subst bu
    cases N:(O B ba C).ownBlock with
    |none=>
     have a8:=b4 N;have dw:=((ay.aA r).lt D j).2;omega
    |some cj=>
     have:=ap cj N;subst this;exact d6 ae i x _ e q bn cj j N
   omega)
  exact⟨cc,(cn.grown y (fun D j bu=>by cases bu;exact ak.apart cn (Ne.symm Qo) G rfl j)).new.stays⟩
 clear aw y cd am;obtain⟨dx,dy⟩:=ch.k2;obtain⟨cu,cv⟩:=bq.k2;have cw:=bq.f;have b6:a4≠w.heap.size+1:=by have:=ai.out;have:=s.out;omega
 have c7:¬w.heap.size+1=a4:=fun e=>b6 e.symm
 go_wp2;refine bodyPost_ret (v:=Xm #[Xi #[O (Xa ⟨G,0,Xb⟩) A a6,I6 a],I6 0]) (by simp[results,Tryz.results153,go_sem, *]) rfl ⟨_,rfl,?_,?_⟩
 ·have cy:=cx.less (A0:=0) (A1:=w.heap.size+2) (nR _) (Hm s.out)
  exact((cy.out (Out.setCell _ _ _ (p:=⟨w.heap.size+1,0,Xb⟩) (nZ _) Sm _)).out (Out.setCell _ _ _ (p:=⟨w.heap.size+1,1,Xb⟩) (nZ _) Sm _)).less (nR _) Wm
 exact Below.setCell (Below.setCell d1 (p:=⟨w.heap.size+1,0,Xb⟩) Sm _) (p:=⟨w.heap.size+1,1,Xb⟩) Sm _
theorem zei{fs:List Fl}{m:Nat}:jC fs m=(Za fs (m:Int)).map fun(b:Nat)=>(b:Int):=zkl fs m
theorem ziG(v fs)(d k x:Int)(w:Xn)(f:qe w v fs):
  Xp prog 226 #[Xi #[v,I6 d],I6 k,I6 x] w fun e w'=>∃b,e=Xl (Xm #[Xi #[b,I6 (zlm fs d k x)],I6 (ziH fs d k x),I6 (jM fs d k x)])/\z8 0 w.heap.size w' b (zhr fs d k x)/\zc w w':=by
 have L:∀W,zc w W->Xp prog 188 #[Xi #[v,I6 d],I6 k] W fun e w'=>e=Xl (I6 (zmb fs d k))/\zc W w':=fun W P=>zbX v fs d k W (f.aA P)
 have b7:∀W,zc w W->Xp prog 54 #[Xi #[v,I6 d]] W fun e w'=>∃b,e=Xl (Xi #[b,I6 d])/\zV (W.heap.size+2) w' b fs/\zc W w'/\W.heap.size+2<=w'.heap.size:=fun W P=>Jk v fs d W (f.aA P)
 have ck:=dD f;obtain⟨g,c2,rfl,c,a⟩:=f.rows;have ca:=dD a;clear f a;obtain⟨D,Z⟩:=kA fs.length;rw[Z.out]at L b7 c ck⊢;obtain⟨c,a⟩:=kB ((w.alloc (Xk #[O g D c2,I6 d] 41)).alloc (Xk #[eS,I6 0] 41));have G:=gD2 a
 have ce:=x2a a
 have bz:=x2b a
 have ah:Xo (_=c):=a;clear a;have a9:∀z:Int,z≠0->(∀W,zc w W->Xp prog 188 #[Xi #[O g D c2,I6 d],I6 k] W fun e w'=>e=Xl (I6 z)/\zc W w')->Xp prog 226 #[Xi #[O g D c2,I6 d],I6 k,I6 x] w fun e w'=>∃b,e=Xl (Xm #[Xi #[b,I6 0],I6 0,I6 z])/\z8 0 w.heap.size w' b []/\zc w w':=fun z a L=>by
  have c:(z !=0)=Xc:=Si a
  clear b7
  go_enter func226,ntmps226
  go_wp2_with fail;rw[ah.out];refine(L _ G).mono ?_;rintro e N⟨rfl,u⟩;have V:=dD (G.trans u);have X:=bz.aA u;obtain⟨cf,cg⟩:=X.k2;have ch:=X.f;clear u L;go_wp2;refine bodyPost_ret (v:=Xm #[Xi #[eS,I6 0],I6 0,I6 z]) (by simp[results,Tryz.results226,go_sem, *]) rfl ⟨_,rfl,z8.nil _ _ _,?_⟩
  exact Below.setCell (Below.setCell V (p:=⟨w.heap.size+1,0,Xb⟩) Sm _) (p:=⟨w.heap.size+1,1,Xb⟩) Sm _
 rcases zni fs d k x with⟨M,I,a1,a2,a3⟩|⟨M,c,I,a1,a2,a3⟩|⟨M,j,t,rfl,z,h,I,a1,a2,a3⟩|⟨M,j,t,C,b,rfl,z,rfl,ap,a,f,I,a1,a2,a3⟩|⟨M,j,t,C,rfl,z,rfl,ap,aq,I,a1,a2,a3⟩|⟨M,j,t,C,b,cp,rfl,z,rfl,ap,aq,I,a1,a2,a3⟩
 ·rw[I,a1,a2,a3];rw[zjc M]at L;exact a9 _ M L
 ·rw[I,a1,a2,a3];rw[zgo M c]at L;exact a9 _ Dc L
 ·rw[I,a1,a2,a3];rw[zbD M z]at L;have a4:j<D:=by rw[<-Z.out];exact(gS.1 z).1
  have ao:(j:Int)<(D:Int):=Wm
  obtain⟨a8,y,bm,bn,a5,c⟩:=ca.out j t z;subst y;have s:=dD c;clear c a5 a9;obtain⟨K,g⟩:=kA t.bl.length;have bp:=dD z;clear z;rw[g.out]at s;have an:=fun W=>JV h W
  rw[g.out]at an;clear I a1 a2 a3 b7 M h
  go_enter func226,ntmps226
  go_wp2_with fail;rw[ah.out];refine(L _ G).mono ?_;rintro e N⟨rfl,u⟩;have V:=dD (G.trans u);have b5:=(ce.aA u).c 0 rfl;obtain⟨bs,ak⟩:=s.out N V.out;have X:=bz.aA u;obtain⟨cf,cg⟩:=X.k2;have ch:=X.f;clear u L
  go_wp2_with(go_at_call 27;refine(an _).mono ?_;rintro e w'⟨rfl,B⟩;rw[B];clear B w')
  refine bodyPost_ret (v:=Xm #[Xi #[eS,I6 0],I6 0,I6 9]) (by simp[results,Tryz.results226,go_sem, *]) rfl ⟨_,rfl,z8.nil _ _ _,?_⟩
  exact Below.setCell (Below.setCell V (p:=⟨w.heap.size+1,0,Xb⟩) Sm _) (p:=⟨w.heap.size+1,1,Xb⟩) Sm _
 ·rw[I,a1,a2,a3];rw[zbD M z]at L;have a4:j<D:=by rw[<-Z.out];exact(gS.1 z).1
  have ao:(j:Int)<(D:Int):=Wm
  obtain⟨a8,y,bm,bn,a5,c⟩:=ca.out j t z;subst y;have s:=dD c;clear c a5 a9;obtain⟨K,g⟩:=kA t.bl.length;have bp:=dD z;clear z;rw[g.out]at s;have b8:C<K:=by rw[<-g.out];exact(gS.1 ap).1
  have c4:(C:Int)<(K:Int):=Wm
  have an:=fun W=>j1 (m:=(C:Int)) (n:=(K:Int)) Wm Wm W
  have bv:=dD ap;have h:(b==-1)=Xd:=by simp;omega
  clear a f;clear I a1 a2 a3 M ap
  go_enter func226,ntmps226
  go_wp2_with fail;rw[ah.out];refine(L _ G).mono ?_;rintro e N⟨rfl,u⟩;have V:=dD (G.trans u);have aj:=dD (ce.aA u);have X:=dD (bz.aA u);obtain⟨b5,b9⟩:=aj.k2;obtain⟨bs,ak⟩:=s.out N V.out;clear u L
  go_wp2_with(go_at_call 27;refine(an _).mono ?_;rintro e w'⟨rfl,B⟩;rw[B];clear B w')
  refine(b7 _ V).mono ?_;rintro e ai⟨cm,rfl,ax,al,bb⟩;have F:Xo (w.heap.size+2<=N.heap.size):=X.lt;obtain⟨bo,a6,T,aw,ba⟩:=ax;obtain⟨U,av⟩:∃U,bo[j]?=Xa U:=⟨_,gE (by rw[T,Z.out];exact a4)⟩
  obtain⟨Y,ac,rfl⟩:=a6.aJ (by rw[T,Z.out];omega)
  rw[T,Z.out]at a6⊢;obtain⟨b4,ab⟩:=aw j U t av bp.out;obtain⟨b0,c8,c9,az⟩:=U;obtain⟨r,c7,ay⟩:=ab.aJ (by rw[g.out];omega)
  rw[g.out]at ay;have c6:O c8 c9 az=O (Xa ⟨r,0,Xb⟩) K c7:=ay;cases c6;have be:=dD av;have bf:Xo (b0=t.size):=b4;have bq:=dD a6;have cb:=dD T;have cc:=dD aw;have cd:=dD ba;have bx:Xo (zb blE (N.heap.size+2) ai (O (Xa ⟨r,0,Xb⟩) K az) t.bl):=ab;have bu:=dD (V.trans al);have ag:=dD bb;have Q:=dD al;clear al bb b7 b5 b9 bs ak a6 T aw ba b4 ab ay av an;go_upto_region 7 with fail;obtain⟨aa,q⟩:=kB ai.heap.size;obtain⟨S,l⟩:=kB (ai.alloc (Xk #[O (Xa ⟨Y,0,Xb⟩) D ac,I6 d] 41));have f:=gA l
  have b2:Xo (zg S aa 41 [O (Xa ⟨Y,0,Xb⟩) D ac,I6 d]):=dD<|by rw[<-l];exact zg.aD _ _ _ q.symm
  have br:=dD ((aj.aA Q).aA f);have bg:=dD ((X.aA Q).aA f);have b6:Xo (N.heap.size+2<=aa):=show _<=_ by rw[<-q];exact ag.out
  have bw:=dD b2.box.lt;have bd:=dD (bu.trans f);have a7:=dD (bq.aA f);have R:=dD (bx.aA f);rw[l];rw[q];clear l q;have af:Xo (∀W,zc S W->W.cell? ⟨Y,j*2+1,Xb⟩=Xa (O (Xa ⟨r,0,Xb⟩) K az)):=show∀W,_ from fun W P=>by
   obtain⟨bh,bi,i,a⟩:=(a7.aA P).at.rows;obtain⟨a8,h,c⟩:=a j _ be.out;cases i;cases h;have:=c _ (zc.refl _) 1 _ rfl;rw[jh,Xu,zA]at this;exact this
  have ae:Xo (∀W,zc S W->W.cell? ⟨r,C,Xb⟩=Xa (I6 b)):=dD<|fun W P=>by
   obtain⟨bh,bi,i,a⟩:=(R.aA P).at.bA;obtain⟨a8,h,c⟩:=a C _ bv.out;cases i;cases h;have:=c _ (zc.refl _);rw[Xu,zA]at this;exact this
  have c5:=b2.box.c 0 rfl;have ak:=af.out S (zc.refl _);have c3:=ae.out S (zc.refl _);have A:=dD<|(zV.aA ⟨bo,bq,cb,cc,cd⟩ f).new
  have cq:=b2.box.c 1 rfl;obtain⟨cf,cg⟩:=bg.k2;have ch:=bg.f;have ar:aa≠w.heap.size+1:=by have:=b6.out;have:=F.out;omega
  have bk:¬w.heap.size+1=aa:=fun e=>ar e.symm
  have au:r≠w.heap.size+1:=by have:=(R.lt r rfl).1;have:=F.out;omega
  have bl:¬w.heap.size+1=r:=fun e=>au e.symm
  go_wp2
  go_region
  all_goals go_wp2
  all_goals
   refine bodyPost_ret (v:=Xm #[Xi #[O (Xa ⟨Y,0,Xb⟩) D ac,I6 d],I6 b,I6 0]) (by simp[results,Tryz.results226,go_sem, *]) rfl ⟨_,rfl,?_,?_⟩
   ·have ci:=A.less (A0:=0) (A1:=w.heap.size+2) (nR _) (Hm F.out)
    exact(((ci.out (Out.setCell _ _ _ (p:=⟨w.heap.size+1,0,Xb⟩) (nZ _) Sm _)).out (Out.setCell _ _ _ (p:=⟨w.heap.size+1,1,Xb⟩) (nZ _) Sm _)).less (nR _) Wm).aA (gW _)
   exact(Below.setCell (Below.setCell bd (p:=⟨w.heap.size+1,0,Xb⟩) Sm _) (p:=⟨w.heap.size+1,1,Xb⟩) Sm _).drew
 ·rw[I,a1,a2,a3];rw[zbD M z]at L;have a4:j<D:=by rw[<-Z.out];exact(gS.1 z).1
  have ao:(j:Int)<(D:Int):=Wm
  obtain⟨a8,y,bm,bn,a5,c⟩:=ca.out j t z;subst y;have s:=dD c;clear c a5 a9;obtain⟨K,g⟩:=kA t.bl.length;have bp:=dD z;clear z;rw[g.out]at s;have b8:C<K:=by rw[<-g.out];exact(gS.1 ap).1
  have c4:(C:Int)<(K:Int):=Wm
  have an:=fun W=>j1 (m:=(C:Int)) (n:=(K:Int)) Wm Wm W
  have bv:=dD ap;obtain⟨H,bj⟩:∃H:Nat,d=(H:Int):=⟨d.toNat,by have:=((qi fs d).1 M).1;omega⟩
  subst bj;have A:H<=80:=by have:=((qi fs (H:Int)).1 M).1;omega
  have b3:∀W,zc w W->Xp prog 239 #[Xi #[O (Xa a8) D c2,I6 (H:Int)]] W fun e w'=>∃b,e=Xl b/\zb blE (W.heap.size+1) w' b (jC fs H)/\zc W w':=fun W P=>zjf _ fs H A W (ck.aA P)
  rw[zei,aq]at b3;clear A aq;simp only[Yk]at b3;clear I a1 a2 a3 M ap
  go_enter func226,ntmps226
  go_wp2_with fail;rw[ah.out];refine(L _ G).mono ?_;rintro e N⟨rfl,u⟩;have V:=dD (G.trans u);have aj:=dD (ce.aA u);have X:=dD (bz.aA u);obtain⟨b5,b9⟩:=aj.k2;obtain⟨bs,ak⟩:=s.out N V.out;clear u L
  go_wp2_with(go_at_call 27;refine(an _).mono ?_;rintro e w'⟨rfl,B⟩;rw[B];clear B w')
  refine(b7 _ V).mono ?_;rintro e ai⟨cm,rfl,ax,al,bb⟩;have F:Xo (w.heap.size+2<=N.heap.size):=X.lt;obtain⟨bo,a6,T,aw,ba⟩:=ax;obtain⟨U,av⟩:∃U,bo[j]?=Xa U:=⟨_,gE (by rw[T,Z.out];exact a4)⟩
  obtain⟨Y,ac,rfl⟩:=a6.aJ (by rw[T,Z.out];omega)
  rw[T,Z.out]at a6⊢;obtain⟨b4,ab⟩:=aw j U t av bp.out;obtain⟨b0,c8,c9,az⟩:=U;obtain⟨r,c7,ay⟩:=ab.aJ (by rw[g.out];omega)
  rw[g.out]at ay;have c6:O c8 c9 az=O (Xa ⟨r,0,Xb⟩) K c7:=ay;cases c6;have be:=dD av;have bf:Xo (b0=t.size):=b4;have bq:=dD a6;have cb:=dD T;have cc:=dD aw;have cd:=dD ba;have bx:Xo (zb blE (N.heap.size+2) ai (O (Xa ⟨r,0,Xb⟩) K az) t.bl):=ab;have bu:=dD (V.trans al);have ag:=dD bb;have Q:=dD al;clear al bb b7 b5 b9 bs ak a6 T aw ba b4 ab ay av an;go_upto_region 7 with fail;obtain⟨aa,q⟩:=kB ai.heap.size;obtain⟨S,l⟩:=kB (ai.alloc (Xk #[O (Xa ⟨Y,0,Xb⟩) D ac,I6 (H:Int)] 41));have f:=gA l
  have b2:Xo (zg S aa 41 [O (Xa ⟨Y,0,Xb⟩) D ac,I6 (H:Int)]):=dD<|by rw[<-l];exact zg.aD _ _ _ q.symm
  have br:=dD ((aj.aA Q).aA f);have bg:=dD ((X.aA Q).aA f);have b6:Xo (N.heap.size+2<=aa):=show _<=_ by rw[<-q];exact ag.out
  have bw:=dD b2.box.lt;have bd:=dD (bu.trans f);have a7:=dD (bq.aA f);have R:=dD (bx.aA f);rw[l];rw[q];clear l q;have af:Xo (∀W,zc S W->W.cell? ⟨Y,j*2+1,Xb⟩=Xa (O (Xa ⟨r,0,Xb⟩) K az)):=show∀W,_ from fun W P=>by
   obtain⟨bh,bi,i,a⟩:=(a7.aA P).at.rows;obtain⟨a8,h,c⟩:=a j _ be.out;cases i;cases h;have:=c _ (zc.refl _) 1 _ rfl;rw[jh,Xu,zA]at this;exact this
  have ae:Xo (∀W,zc S W->W.cell? ⟨r,C,Xb⟩=Xa (I6 (-1))):=dD<|fun W P=>by
   obtain⟨bh,bi,i,a⟩:=(R.aA P).at.bA;obtain⟨a8,h,c⟩:=a C _ bv.out;cases i;cases h;have:=c _ (zc.refl _);rw[Xu,zA]at this;exact this
  have c5:=b2.box.c 0 rfl;have ak:=af.out S (zc.refl _);have c3:=ae.out S (zc.refl _);obtain⟨b5,b9⟩:=br.k2;go_wp2_with fail;refine(b3 _ bd).mono ?_;rintro e cl⟨co,rfl,bt,am⟩;obtain⟨c1,cn,rfl⟩:=bt.form;have cj:=dD (bd.trans am);have c1:=dD (bg.aA am);clear bt am b3 b5 b9 c5 ak c3;obtain⟨cf,cg⟩:=c1.k2;have ch:=c1.f;simp only[Ob];go_wp2;refine bodyPost_ret (v:=Xm #[Xi #[eS,I6 0],I6 0,I6 10]) (by simp[results,Tryz.results226,go_sem, *]) rfl ⟨_,rfl,z8.nil _ _ _,?_⟩
  exact Below.setCell (Below.setCell cj (p:=⟨w.heap.size+1,0,Xb⟩) Sm _) (p:=⟨w.heap.size+1,1,Xb⟩) Sm _
 rw[I,a1,a2,a3];rw[zbD M z]at L;have a4:j<D:=by rw[<-Z.out];exact(gS.1 z).1
 have ao:(j:Int)<(D:Int):=Wm
 obtain⟨a8,y,bm,bn,a5,c⟩:=ca.out j t z;subst y;have s:=dD c;clear c a5 a9;obtain⟨K,g⟩:=kA t.bl.length;have bp:=dD z;clear z;rw[g.out]at s;have b8:C<K:=by rw[<-g.out];exact(gS.1 ap).1
 have c4:(C:Int)<(K:Int):=Wm
 have an:=fun W=>j1 (m:=(C:Int)) (n:=(K:Int)) Wm Wm W
 have bv:=dD ap;obtain⟨H,bj⟩:∃H:Nat,d=(H:Int):=⟨d.toNat,by have:=((qi fs d).1 M).1;omega⟩
 subst bj;have A:H<=80:=by have:=((qi fs (H:Int)).1 M).1;omega
 have b3:∀W,zc w W->Xp prog 239 #[Xi #[O (Xa a8) D c2,I6 (H:Int)]] W fun e w'=>∃b,e=Xl b/\zb blE (W.heap.size+1) w' b (jC fs H)/\zc W w':=fun W P=>zjf _ fs H A W (ck.aA P)
 rw[zei,aq]at b3;clear A aq;rw[mP]at b3;obtain⟨A,d⟩:=kA ((b:Int)::(cp.map fun(b:Nat)=>(b:Int)))
 rw[d.out]at b3;have z:Xo (A[0]?=Xa (b:Int)):=dD<|by rw[<-d.out];rfl
 have y:Xo (0<A.length):=dD<|by rw[<-d.out];simp
 clear I a1 a2 a3 M ap
 go_enter func226,ntmps226
 go_wp2_with fail;rw[ah.out];refine(L _ G).mono ?_;rintro e N⟨rfl,u⟩;have V:=dD (G.trans u);have aj:=dD (ce.aA u);have X:=dD (bz.aA u);obtain⟨b5,b9⟩:=aj.k2;obtain⟨bs,ak⟩:=s.out N V.out;clear u L
 go_wp2_with(go_at_call 27;refine(an _).mono ?_;rintro e w'⟨rfl,B⟩;rw[B];clear B w')
 refine(b7 _ V).mono ?_;rintro e ai⟨cm,rfl,ax,al,bb⟩;have F:Xo (w.heap.size+2<=N.heap.size):=X.lt;obtain⟨bo,a6,T,aw,ba⟩:=ax;obtain⟨U,av⟩:∃U,bo[j]?=Xa U:=⟨_,gE (by rw[T,Z.out];exact a4)⟩
 obtain⟨Y,ac,rfl⟩:=a6.aJ (by rw[T,Z.out];omega)
 rw[T,Z.out]at a6⊢;obtain⟨b4,ab⟩:=aw j U t av bp.out;obtain⟨b0,c8,c9,az⟩:=U;obtain⟨r,c7,ay⟩:=ab.aJ (by rw[g.out];omega)
 rw[g.out]at ay;have c6:O c8 c9 az=O (Xa ⟨r,0,Xb⟩) K c7:=ay;cases c6;have be:=dD av;have bf:Xo (b0=t.size):=b4;have bq:=dD a6;have cb:=dD T;have cc:=dD aw;have cd:=dD ba;have bx:Xo (zb blE (N.heap.size+2) ai (O (Xa ⟨r,0,Xb⟩) K az) t.bl):=ab;have bu:=dD (V.trans al);have ag:=dD bb;have Q:=dD al;clear al bb b7 b5 b9 bs ak a6 T aw ba b4 ab ay av an;go_upto_region 7 with fail;obtain⟨aa,q⟩:=kB ai.heap.size;obtain⟨S,l⟩:=kB (ai.alloc (Xk #[O (Xa ⟨Y,0,Xb⟩) D ac,I6 (H:Int)] 41));have f:=gA l
 have b2:Xo (zg S aa 41 [O (Xa ⟨Y,0,Xb⟩) D ac,I6 (H:Int)]):=dD<|by rw[<-l];exact zg.aD _ _ _ q.symm
 have br:=dD ((aj.aA Q).aA f);have bg:=dD ((X.aA Q).aA f);have b6:Xo (N.heap.size+2<=aa):=show _<=_ by rw[<-q];exact ag.out
 have bw:=dD b2.box.lt;have bd:=dD (bu.trans f);have a7:=dD (bq.aA f);have R:=dD (bx.aA f);rw[l];rw[q];clear l q;have af:Xo (∀W,zc S W->W.cell? ⟨Y,j*2+1,Xb⟩=Xa (O (Xa ⟨r,0,Xb⟩) K az)):=show∀W,_ from fun W P=>by
  obtain⟨bh,bi,i,a⟩:=(a7.aA P).at.rows;obtain⟨a8,h,c⟩:=a j _ be.out;cases i;cases h;have:=c _ (zc.refl _) 1 _ rfl;rw[jh,Xu,zA]at this;exact this
 have ae:Xo (∀W,zc S W->W.cell? ⟨r,C,Xb⟩=Xa (I6 (-1))):=dD<|fun W P=>by
  obtain⟨bh,bi,i,a⟩:=(R.aA P).at.bA;obtain⟨a8,h,c⟩:=a C _ bv.out;cases i;cases h;have:=c _ (zc.refl _);rw[Xu,zA]at this;exact this
 have c5:=b2.box.c 0 rfl;have ak:=af.out S (zc.refl _);have c3:=ae.out S (zc.refl _);obtain⟨b5,b9⟩:=br.k2;go_wp2_with fail;refine(b3 _ bd).mono ?_;rintro e cl⟨co,rfl,bt,am⟩;obtain⟨d,cn,rfl⟩:=bt.aJ y.out;have Q:cl.cell? ⟨d,0,Xb⟩=Xa (I6 (b:Int)):=by
  obtain⟨bh,bi,i,a⟩:=bt.at.bA;obtain⟨a8,h,c⟩:=a 0 _ z.out;cases i;cases h;have:=c _ (zc.refl _);rw[Xu,zA]at this;exact this
 have cj:=dD (bd.trans am);have z:=dD am;have l:=dD (R.aA am);have u:=dD (a7.aA am);have B:=dD (b2.aA am);have c1:=dD (bg.aA am);have d:=(R.lt r rfl).1;obtain⟨q,d⟩:=kA A.length;have s:0<q:=Ry d.out y.out
 have s:(0:Int)<(q:Int):=Wm
 have s:((q:Int)==0)=Xd:=by simp;omega
 rw[d.out];clear bt am b3 b5 b9 c5 ak c3
 go_wp2_with(refine z7 (E:=blE) rfl (.tmp 55) (.tmp 54) rfl (N.heap.size+2) _ t.bl l r C rfl (b:Int) ?t1 ⟨r,C,Xb⟩ rfl ?t2 (I6 (b:Int)) rfl rfl ?_)
 case t1=>rw[g.out];exact b8
 case t2=>show _=Addr.mk r (C*1) Xb;rw[Nat.mul_one]
 intro y s d _;have A:=dD s;have L:Xo (Box y aa [O (Xa ⟨Y,0,Xb⟩) D ac,I6 (H:Int)]):=B.box.grown d (fun e=>l.ne B Dc r rfl e)
 have B:Xo (Box y (w.heap.size+1) [eS,I6 0]):=c1.grown d (Hm F.out)
 have P:Xo (zc w y):=dD<|zd cj d (Hm F.out)
 have M:Xo (z8 0 (N.heap.size+2) y (O (Xa ⟨Y,0,Xb⟩) D ac) (fs.set j ⟨t.size,t.bl.set C (b:Int)⟩)):=dD<|by
  have t:=u.grown d (fun R q G=>by cases G;exact u.apart l (Ne.symm Qo) r q rfl)
  refine⟨t.cap,bo,t.new.stays,by simp[cb.out],fun K U N t l=>?_⟩
  by_cases e:K=j
  ·subst e;rw[sF (Rx Z.out a4)]at l
   rw[be.out]at t;cases t;cases l;exact⟨bf,A.new.stays⟩
  rw[sN (fun u=>e u.symm)]at l
  obtain⟨b4,ab⟩:=cc.out K U N t l;have l:=ab.aA (f.trans z);exact⟨b4,(l.grown d (fun R q G=>by cases G;exact cd j K _ U (fun u=>e u.symm) be t r rfl q)).new.stays⟩
 have c3:y.cell? ⟨r,C,Xb⟩=Xa (I6 (b:Int)):=by
  obtain⟨bh,bi,i,a⟩:=s.at.bA;obtain⟨a8,h,c⟩:=a C (b:Int) (by rw[sF (Rx g.out b8)])
  cases i;cases h;have:=c _ (zc.refl _);rw[Xu,zA]at this;exact this
 clear s d Q;obtain⟨c5,cq⟩:=L.k2;obtain⟨cf,cg⟩:=B.k2;have ch:=B.f;have ar:aa≠w.heap.size+1:=by have:=b6.out;have:=F.out;omega
 have bk:¬w.heap.size+1=aa:=fun e=>ar e.symm
 have au:r≠w.heap.size+1:=Hm F.out
 have bl:¬w.heap.size+1=r:=fun e=>au e.symm
 go_wp2
 go_region
 all_goals go_wp2
 all_goals
  refine bodyPost_ret (v:=Xm #[Xi #[O (Xa ⟨Y,0,Xb⟩) D ac,I6 (H:Int)],I6 (b:Int),I6 0]) (by simp[results,Tryz.results226,go_sem, *]) rfl ⟨_,rfl,?_,?_⟩
  ·have ci:=M.less (A0:=0) (A1:=w.heap.size+2) (nR _) (Hm F.out)
   exact(((ci.out (Out.setCell _ _ _ (p:=⟨w.heap.size+1,0,Xb⟩) (nZ _) Sm _)).out (Out.setCell _ _ _ (p:=⟨w.heap.size+1,1,Xb⟩) (nZ _) Sm _)).less (nR _) Wm).aA (gW _)
  exact(Below.setCell (Below.setCell P (p:=⟨w.heap.size+1,0,Xb⟩) Sm _) (p:=⟨w.heap.size+1,1,Xb⟩) Sm _).drew
variable{X:Nat->Prop}
section
variable{w0 w w1 w2:Xn}{p:Nat}{V:MaV}{m:Ma}
theorem ChW.setFl(h:ChW w0 X p w V m){b:Sli}{fl:List Fl}{c:Int}(d:zc w w1)(g:w.heap.size<=B)(f:z8 0 B w1 (b.x) fl)(e:w1.grownBy w2 (Xa p))(a:zg w2 p 88 (chL {V with fl:=b} {m with fl:=fl,cnt:=c})):JC w0 X p w V {m with fl:=fl,cnt:=c} w2:=
 h.fieldC (V':={V with fl:=b}) (m':={m with fl:=fl,cnt:=c}) d e rfl rfl rfl rfl rfl rfl a (fun W _ a r=>⟨r.sl,r.sb,r.sq,r.db,r.dq,(f.out ⟨a.os,a.tape,a.output,a.size,fun k d e=>a.block k d (fun e=>Hm (h.drt k e))⟩).bO⟩)
theorem ChW.setDk(h:ChW w0 X p w V m){d q:Sli}{a:List (List Int)}{b:List (Int×List Int)}(e:zc w w1)(i:w.heap.size<=B)(g:zZ B w1 (Xi #[d.x,q.x]) a b)(f:w1.grownBy w2 (Xa p))(c:zg w2 p 88 (chL {V with db:=d,dq:=q} {m with db:=a,dq:=b})):JC w0 X p w V {m with db:=a,dq:=b} w2:=
 h.fieldC (V':={V with db:=d,dq:=q}) (m':={m with db:=a,dq:=b}) e f rfl rfl rfl rfl rfl rfl c (fun W _ b r=>by
  have k:=(g.aN (fun k a=>Hm (h.drt k a)) b).rows
  exact⟨r.sl,r.sb,r.sq,k.1,k.2,r.fl⟩)
end
def wrM(m:Ma)(pg:List Int)(file idx:Int):Ma:=
 if jM m.fl m.cnt file idx=0 then{m with fl:=zhr m.fl m.cnt file idx,cnt:=zlm m.fl m.cnt file idx,db:=qR m.db m.dq (ziH m.fl m.cnt file idx),dq:=qQ m.db m.dq (ziH m.fl m.cnt file idx) pg}else m
theorem Jv{w:Xn}{p:Nat}(h:ChW w0 X p w V m)(pg:List Int)(hp:pg.length=8)(a b:Int):
  Xp prog 194 #[Xj (Xa ⟨p,0,Xb⟩),Xi (pgc pg).toArray,I6 a,I6 b] w fun e w'=>e=Xl (Xh (decide (jM m.fl m.cnt a b=0)))/\JC w0 X p w V (wrM m pg a b) w':=by
 have x:=dD h;obtain⟨E,d⟩:=kA (jM m.fl m.cnt a b);obtain⟨C,u⟩:=kA (zlm m.fl m.cnt a b);obtain⟨B,q⟩:=kA (ziH m.fl m.cnt a b);have D:Xo (∀W,zc w W->Xp prog 226 #[Xi #[V.fl.x,I6 m.cnt],I6 a,I6 b] W fun e w'=>∃c:Sli,e=Xl (Xm #[Xi #[c.x,I6 C],I6 B,I6 E])/\z8 0 W.heap.size w' (c.x) (zhr m.fl m.cnt a b)/\zc W w'):=show∀W,_ from fun W G=>by
  rw[<-d.out,<-u.out,<-q.out];refine(ziG _ m.fl m.cnt a b W (h.at.aA G).fl).mono ?_;rintro e w'⟨c,rfl,F,L⟩;obtain⟨f,M,rfl,_⟩:=qe.rows F.bO;exact⟨⟨f,_,M⟩,rfl,F,L⟩
 have v:Xo (E=0->wrM m pg a b={({m with fl:=zhr m.fl m.cnt a b,cnt:=C}:Ma)with db:=qR m.db m.dq B,dq:=qQ m.db m.dq B pg}):=dD<|fun h=>by
  unfold wrM;rw[kE (d.trans h),u.out,q.out]
 have A:Xo (E≠0->wrM m pg a b=m):=dD<|fun h=>by
  unfold wrM;rw[kF (fun e=>h (d.symm.trans e))]
 rw[d.out];obtain⟨R,f⟩:=kA (decide (E=0));rw[f.out];have H:p<w.heap.size:=h.aM p (.inl rfl);obtain⟨N,z⟩:=kA (wrM m pg a b);rw[z.out]at v A⊢;obtain⟨i,j,k,l,n,r,s,t,d⟩:=zc4 pg hp;have y:=dD d;have g:pgc pg=[U8 i,U8 j,U8 k,U8 l,U8 n,U8 r,U8 s,U8 t]:=Rr d
 rw[g];clear h hp d g;obtain⟨c,q⟩:=kA w.heap.size;obtain⟨K,d⟩:=kB (w.alloc (Xk #[U8 i,U8 j,U8 k,U8 l,U8 n,U8 r,U8 s,U8 t] 91));have g:=gA d
 have P:=xP d q
 have h:=dD d;clear d;rw[q.out]at H
 go_enter func194,ntmps194
 go_upto_region 1 with fail;rw[h.out,q.out];have h:=(x.box.box.aA g).c 7 rfl;have q:=(x.box.box.aA g).c 8 rfl;have d:=D.out K g.out;go_wp2_with fail;refine d.mono ?_;clear d h q;rintro e q⟨K,rfl,F,D⟩;have N:=dD F;have h:=dD D;clear F D;go_upto_region 2 with fail;obtain⟨M,u⟩:=kA q.heap.size;obtain⟨d,d⟩:=kB (q.alloc (Xk #[K.x,I6 C] 41));have q:=gA d
 have F:=xP d u
 rw[d,u.out];clear d
 by_cases d:E=0
 rotate_left
 ·have u:(E !=0)=Xc:=by simp[d]
  have H:=dD<|f.symm.trans (decide_eq_false d);have z:=dD<|A.out d;clear d;go_wp2;go_ret;exact⟨Rr H.out,by rw[z.out];exact JC.refl x (g.trans (h.trans q))⟩
 have u:(E !=0)=Xd:=by simp[d]
 have H:=dD<|f.symm.trans (decide_eq_true d);have z:=dD<|v.out d;clear d;have d:=dD (g.trans (h.trans q));obtain⟨R,S⟩:=F.k2;have f:=dD (x.box.aA d)
 go_upto_region 5 with(refine qK rfl 41 (.tmp 30) (.tmp 27) rfl p 7 rfl (Xi #[K.x,I6 C]) rfl [K.x,I6 C] rfl f (by simp[chL]) Kr (by simp[Value.oneCell']) ?_)
 intro v u f _;have Q:Xo (Box v c [U8 i,U8 j,U8 k,U8 l,U8 n,U8 r,U8 s,U8 t]):=dD<|(P.aA (h.trans q)).grown f Wm
 obtain⟨h,F,A,M,E⟩:=x.setFl d (bS g) (N.aA q) f u;have a0:=dD F;have K:=dD A;have a4:=dD M;have Z:=dD E;have Y:Xo (∀W,zc v W->Xp prog 185 #[Xi #[h.db.x,h.dq.x],I6 B,Xi #[U8 i,U8 j,U8 k,U8 l,U8 n,U8 r,U8 s,U8 t]] W fun e w'=>∃d q:Sli,e=Xl (Xm #[Xi #[d.x,q.x],I6 (zn m.db.length m.dq B)])/\zZ W.heap.size w' (Xi #[d.x,q.x]) (qR m.db m.dq B) (qQ m.db m.dq B pg)/\zc W w'):=show∀W,_ from fun W G=>by
  have g:=zfP (Xi #[h.db.x,h.dq.x]) m.db m.dq B pg (Rr y.out) W ⟨_,_,rfl,(A.at.aA G).db,(A.at.aA G).dq⟩
  rw[show pgc pg=[U8 i,U8 j,U8 k,U8 l,U8 n,U8 r,U8 s,U8 t] by rw[y.out];rfl]at g
  refine g.mono ?_;rintro e w'⟨g,rfl,g,L⟩;obtain⟨d,q,rfl,_,_⟩:=g.form;exact⟨d,q,rfl,g,L⟩
 have g:p<v.heap.size:=A.aM p (.inl rfl);clear u f A M E F R S;try simp only[Ym]
 go_upto_region 5 with fail;obtain⟨U,f⟩:=kA (zn m.db.length m.dq B);rw[f.out]at Y;obtain⟨g,f⟩:=Wq fun u=>Box u c [U8 i,U8 j,U8 k,U8 l,U8 n,U8 r,U8 s,U8 t]
 have x:=(f _).2 (Q.aA (gW _))
 have A:zc v v.drew:=show Below _ _ _ from(bR _ _).drew
 have L:=fun y:zo g=>((f _).1 y.holds).c 0 rfl
 have M:=fun y:zo g=>((f _).1 y.holds).c 1 rfl
 have N:=fun y:zo g=>((f _).1 y.holds).c 2 rfl
 have P:=fun y:zo g=>((f _).1 y.holds).c 3 rfl
 have Q:=fun y:zo g=>((f _).1 y.holds).c 4 rfl
 have R:=fun y:zo g=>((f _).1 y.holds).c 5 rfl
 have S:=fun y:zo g=>((f _).1 y.holds).c 6 rfl
 have T:=fun y:zo g=>((f _).1 y.holds).c 7 rfl
 have G:Nonempty (zo g):=⟨⟨_,x⟩⟩;refine qj (I:=g) 16 [(5,fun y=>y=Xi #[h.db.x,h.dq.x]),(8,fun y=>∃d q:Sli,y=Xm #[Xi #[d.x,q.x],I6 U]),(15,fun _=>True)] (fun u=>zc v u) x A zU Kr rfl rfl Dc (Sc ⟨_,rfl⟩ ⟨_,Zy,Zy,rfl⟩ ⟨undef,trivial⟩) Kr ?_
 simp only[Yf,Yg];iterate 2 refine zw ?_
 refine qx (.tmp 33) ⟨p,0,Xb⟩ rfl rfl rfl rfl ?_;refine Uq ?_;iterate 2 refine zw ?_
 refine zL rfl rfl (fun _ u=>zc v u) (fun w' g c=>?_) (fun W F=>?_)
 ·refine zbe 38 (.tmp 36) rfl p 5 rfl [h.db.x,h.dq.x] ((K.box.box.aA c).mid 5 (fun a5 y E=>by
   match a5,E with
   |0,E=>exact E
   |1,E=>exact E)) underlying38 rfl Kr ⟨g,rfl,c⟩
 cases F;refine Uq ?_;iterate 2 refine zw ?_
 refine zL rfl rfl (fun y u=>∃(d q:Sli)(E:Xn),y=Xm #[Xi #[d.x,q.x],I6 U]/\zc v E/\zc E u/\zZ E.heap.size u (Xi #[d.x,q.x]) (qR m.db m.dq B) (qQ m.db m.dq B pg)) (fun w' g c=>?_) (fun W F=>?_)
 ·refine zI.call [Xi #[h.db.x,h.dq.x],I6 B,Xi #[U8 i,U8 j,U8 k,U8 l,U8 n,U8 r,U8 s,U8 t]] rfl func185 rfl rfl rfl ?_;refine(Y w' c).mono ?_;rintro e h⟨d,q,rfl,h,D⟩;exact⟨_,rfl,(f _).2 (((f _).1 g).aA D),⟨d,q,rfl⟩,d,q,w',rfl,c,D,h⟩
 obtain⟨d,q,rfl⟩:=F;refine Uq ?_;iterate 3 refine zw ?_
 refine qx (.tmp 32) ⟨p,0,Xb⟩ rfl rfl rfl rfl ?_;refine Uq ?_;iterate 2 refine zw ?_
 refine zL rfl rfl (fun _ u=>JC w0 X p w V {({m with fl:=zhr m.fl m.cnt a b,cnt:=C}:Ma)with db:=qR m.db m.dq B,dq:=qQ m.db m.dq B pg} u) (fun w' g c=>?_) (fun W F=>?_)
 ·obtain⟨a,b,E,i,h,j,k⟩:=c;have c:a=d/\b=q:=by
   obtain⟨l,l,l⟩:=d;obtain⟨d,d,d⟩:=a;obtain⟨d,d,d⟩:=q;obtain⟨d,d,d⟩:=b;simp only[Value.tuple.injEq,Array.mk.injEq,List.cons.injEq,Value.agg.injEq,vJ,and_true]at i;obtain⟨⟨rfl,rfl,rfl⟩,rfl,rfl,rfl⟩:=i;exact⟨rfl,rfl⟩
  obtain⟨rfl,rfl⟩:=c;have c:=h.trans j;refine jQ 38 (.tmp 45) (.tmp 41) rfl p 5 rfl (Xi #[a.x,b.x]) rfl [a.x,b.x] rfl (K.box.aA c) (by simp[chL]) Kr (by simp[Value.oneCell']) ?_
  intro d b a _;exact⟨(f _).2 (((f _).1 g).grown a Wm),trivial,JC.step a4 Z a0 (K.setDk c (bS h) k a b)⟩
 clear F;try simp only[Ym]
 refine jL fun d b a=>?_
 have c:=dD a;clear b a x A L M N P Q R S T G;go_wp2;go_ret;exact⟨Rr H.out,Rx z.out c⟩
variable{X:Nat->Prop}
theorem zb7{w:Xn}{p:Nat}(h:ChW w0 X p w V m)(f:Fr)(fi ix:Nat)(F:Fl)(hf:f.f=(fi:Int))(hx:f.x=(ix:Int))(hF:m.fl[fi]?=Xa F)(hs:0<=F.size/\F.size<=96)(hi:ix<=12):
  Xp prog 227 #[Xj (Xa ⟨p,0,Xb⟩),Xi (frv f).toArray] w fun e w'=>e=Xl (Xi (pgc (Zm (pgL f.p) (ix:Int) F.size)).toArray)/\(Zm (pgL f.p) (ix:Int) F.size).length=8/\zc w w':=by
 have HM:Xo (ChW w0 X p w V m):=h;obtain⟨a,c,hfe,_,hfr⟩:=qe.rows h.at.fl;simp only[vJ]at hfe;obtain⟨hfa,hfn,hfc⟩:=hfe;obtain⟨ad,ha,xa,xc,_,hcl⟩:=hfr fi F hF;have HFA:Xo (V.fl.a=Xa ad):=hfa.trans ha;have hlt:(fi:Int)<(V.fl.n:Int):=by
  have:=(gS.1 hF).1;omega
 obtain⟨s,HSZ⟩:=kA F.size;rw[HSZ.out]at hs⊢;have HCC:Xo (∀W,zc w W->W.cell? (ad.add (fi*2))=Xa (I6 s)):=dD<|fun W hW=>by
  have:=(hcl W hW).1;rw[HSZ.out]at this;exact this
 have hc8:(Zm (pgL f.p) (ix:Int) s).length=8:=by unfold Zm;simp[pgL]
 have HC:Xo (∀W,Xp prog 182 #[Xi (pgc (pgL f.p)).toArray,I6 (s-(ix:Int)*8)] W fun e w'=>e=Xl (Xi (pgc (Zm (pgL f.p) (ix:Int) s)).toArray)/\zc W w'):=dD<|fun W=>by
  have k:=zcU (pgL f.p) (s-(ix:Int)*8) W rfl Wm Wm
  rw[zm6]at k;exact k.mono fun e w' q=>⟨q.1,q.2.2⟩
 obtain⟨c0,c1,c2,c3,c4,c5,c6,c7,hce⟩:=zc4 _ hc8;rw[hce]at HC⊢;obtain⟨⟨b0,b1,b2,b3,b4,b5,b6,b7⟩,fr,fu,fd,ff,fx⟩:=f;dsimp only at hf hx;subst hf;subst hx;simp only[pgL,pgc,frv,mP,Yk]at HC⊢;have HL8:Xo ([c0,c1,c2,c3,c4,c5,c6,c7].length=8):=dD<|rfl
 clear h hfa hfn hfc ha hcl hfr hF hc8 hce;obtain⟨b,HB⟩:=kA w.heap.size;obtain⟨W1,hW1⟩:=kB ((w.alloc (Xk #[U8 b0,U8 b1,U8 b2,U8 b3,U8 b4,U8 b5,U8 b6,U8 b7,I6 fr,Xh fu,Xh fd,I6 (fi:Int),I6 (ix:Int)] 93)).alloc (Xk #[U8 0,U8 0,U8 0,U8 0,U8 0,U8 0,U8 0,U8 0] 91));have G1:=gD2 hW1
 have Y1:Xo (Box W1 b [U8 b0,U8 b1,U8 b2,U8 b3,U8 b4,U8 b5,U8 b6,U8 b7,I6 fr,Xh fu,Xh fd,I6 (fi:Int),I6 (ix:Int)]):=dD<|by rw[<-hW1];exact(Box.aD _ _ _ HB.symm).alloc _
 have Z1:Xo (zg W1 (b+1) 91 (pgc zS)):=dD<|by rw[<-hW1];exact zg.aD _ (pgc zS) _ (by simp[HB.out])
 have HW1:Xo (_=W1):=hW1;clear hW1
 go_enter func227,ntmps227
 go_upto_region 1 with fail;rw[HW1.out,HB.out];have gd:zc W1 W1.drew:=show Below _ _ _ from(bR _ _).drew
 obtain⟨I,HI⟩:∃I:Xn->Prop,Xo (∀u,I u↔(Box u b [U8 b0,U8 b1,U8 b2,U8 b3,U8 b4,U8 b5,U8 b6,U8 b7,I6 fr,Xh fu,Xh fd,I6 (fi:Int),I6 (ix:Int)])/\u.cell? ⟨p,7,Xb⟩=Xa (O (Xa ad) V.fl.n V.fl.c)/\u.cell? (ad.add (fi*2))=Xa (I6 s)):=⟨fun u=>_,fun _=>Iff.rfl⟩
 have x7:∀W,zc w W->W.cell? ⟨p,7,Xb⟩=Xa (O (Xa ad) V.fl.n V.fl.c):=fun W hW=>by
  have:=(HM.box.box.aA hW).c 7 rfl;rw[HFA.out]at this;exact this
 have X7:Xo (∀W,zc w W->W.cell? ⟨p,7,Xb⟩=Xa (O (Xa ad) V.fl.n V.fl.c)):=dD<|x7
 clear x7;have hI0:I W1.drew:=(HI _).2 ⟨Y1.aA gd,X7 _ (G1.trans gd),HCC _ (G1.trans gd)⟩;have hF0:zc W1 W1.drew:=gd;have hy0:=fun y:zo I=>((HI _).1 y.holds).1.c 0 rfl
 have hy1:=fun y:zo I=>((HI _).1 y.holds).1.c 1 rfl
 have hy2:=fun y:zo I=>((HI _).1 y.holds).1.c 2 rfl
 have hy3:=fun y:zo I=>((HI _).1 y.holds).1.c 3 rfl
 have hy4:=fun y:zo I=>((HI _).1 y.holds).1.c 4 rfl
 have hy5:=fun y:zo I=>((HI _).1 y.holds).1.c 5 rfl
 have hy6:=fun y:zo I=>((HI _).1 y.holds).1.c 6 rfl
 have hy7:=fun y:zo I=>((HI _).1 y.holds).1.c 7 rfl
 have hyf:=fun y:zo I=>((HI _).1 y.holds).1.c 11 rfl
 have hyx:=fun y:zo I=>((HI _).1 y.holds).1.c 12 rfl
 have hyp:=fun y:zo I=>((HI _).1 y.holds).2.1
 have hys:=fun y:zo I=>((HI _).1 y.holds).2.2
 have hne:Nonempty (zo I):=⟨⟨_,hI0⟩⟩;refine qj (I:=I) 19 [(17,fun v=>v=Xi #[U8 c0,U8 c1,U8 c2,U8 c3,U8 c4,U8 c5,U8 c6,U8 c7]),(18,fun _=>True)] (fun u=>zc W1 u) hI0 hF0 zU Kr rfl rfl Dc (Sb ⟨_,rfl⟩ ⟨undef,trivial⟩) Kr ?_
 simp only[Yf,Yg];iterate 3 (refine zbI rfl rfl rfl (fun K hK=>?_);go_big_quiet_op;refine hK _ ?_;clear hK K)
 refine qx (.tmp 7) ⟨p,0,Xb⟩ rfl rfl rfl rfl ?_;simp only[Ym,sB,sS,sZ];iterate 13 (refine zbI rfl rfl rfl (fun K hK=>?_);go_big_quiet_op;refine hK _ ?_;clear hK K)
 refine zL rfl rfl (fun _ u=>zc W1 u) (fun w' hI' hF'=>?_) (fun v1 hv=>?_)
 ·refine zI.call [Xi #[U8 b0,U8 b1,U8 b2,U8 b3,U8 b4,U8 b5,U8 b6,U8 b7],I6 (s-(ix:Int)*8)] rfl func182 rfl rfl rfl ?_;refine(HC w').mono ?_;rintro e w''⟨rfl,g2⟩;obtain⟨i1,i2,i3⟩:=(HI _).1 hI';have gg:=G1.trans (hF'.trans g2);exact⟨_,rfl,(HI _).2 ⟨i1.aA g2,X7 _ gg,HCC _ gg⟩,rfl,hF'.trans g2⟩
 subst hv;simp only[Ym,sB,sS,sZ];refine zL rfl rfl (fun _ u=>zc w u/\Box u (b+1) (pgc [c0,c1,c2,c3,c4,c5,c6,c7])) (fun w' hI' hF'=>?_) (fun v1 hv=>?_)
 ·refine jQ 91 (.tmp 4) (.tmp 22) rfl (b+1) 0 rfl (Xi #[U8 c0,U8 c1,U8 c2,U8 c3,U8 c4,U8 c5,U8 c6,U8 c7]) rfl [U8 c0,U8 c1,U8 c2,U8 c3,U8 c4,U8 c5,U8 c6,U8 c7] rfl (Z1.aA hF') (by simp[pgc,zS]) Kr (by simp[Value.oneCell']) ?_
  intro W9 bx9 gr9 _;have g9:zc w W9:=zd (G1.trans hF') gr9 (Hm HB.out)
  obtain⟨i1,i2,i3⟩:=(HI _).1 hI';exact⟨(HI _).2 ⟨i1.grown gr9 Wm,X7 _ g9,HCC _ g9⟩,trivial,g9,bx9.box⟩
 clear hv;try simp only[Ym]
 refine jL fun W9 hI8 hF8=>?_
 have G9:Xo (zc w W9):=hF8.1;have B9:Xo (Box W9 (b+1) (pgc [c0,c1,c2,c3,c4,c5,c6,c7])):=hF8.2;clear hI8 hF8 hI0 hF0 hy0 hy1 hy2 hy3 hy4 hy5 hy6 hy7 hyf hyx hyp hys hne gd;go_wp2;refine bodyPost_ret (zB rfl _ rfl B9 underlying91 rfl zr7) rfl ⟨rfl,by first|trivial|rfl,G9⟩
variable{X:Nat->Prop}
theorem zjx{w:Xn}{p:Nat}(n:ChW w0 X p w V m)(k:Nat)(f:Fr)(al:m.fs[k]?=Xa f)(fi ix:Nat)(F:Fl)(a2:f.f=(fi:Int))(q:f.x=(ix:Int))(bb:m.fl[fi]?=Xa F)(bh:0<=F.size/\F.size<=96)(hi:ix<=12):
  Xp prog 195 #[Xj (Xa ⟨p,0,Xb⟩),I6 (k:Int)] w fun e w'=>e=Xl (Xh (decide (jM m.fl m.cnt fi ix=0)))/\JC w0 X p w V (wrM m (Zm (pgL f.p) (ix:Int) F.size) fi ix) w':=by
 have an:=dD n;have g:Xo (∀W,zc w W->Xp prog 227 #[Xj (Xa ⟨p,0,Xb⟩),Xi (frv f).toArray] W fun e w'=>e=Xl (Xi (pgc (Zm (pgL f.p) (ix:Int) F.size)).toArray)/\zc W w'):=show∀W,_ from fun W a0=>(zb7 (n.aA a0) f fi ix F a2 q bb bh hi).mono fun e w' am=>⟨am.1,am.2.2⟩
 have s:(Zm (pgL f.p) (ix:Int) F.size).length=8:=by unfold Zm;simp[pgL]
 obtain⟨a8,a6⟩:=kA (wrM m (Zm (pgL f.p) (ix:Int) F.size) fi ix);obtain⟨a9,a7⟩:=kA (decide (jM m.fl m.cnt fi ix=0));have h:Xo (∀W,zc w W->Xp prog 194 #[Xj (Xa ⟨p,0,Xb⟩),Xi (pgc (Zm (pgL f.p) (ix:Int) F.size)).toArray,I6 (fi:Int),I6 (ix:Int)] W fun e w'=>e=Xl (Xh a9)/\JC w0 X p W V a8 w'):=dD<|fun W a0=>by
  rw[<-a6.out,<-a7.out];exact Jv (n.aA a0) _ s (fi:Int) (ix:Int)
 rw[a6.out,a7.out];have v:¬Dw p V w.heap.size:=fun e=>absurd (n.aM _ e) Wm
 obtain⟨cc,-⟩:=n.at.ns;obtain⟨c9,bd,be⟩:=n.at.bC k f al;have Q:=dD bd;have R:=dD be
 have bf:(k:Int)<(V.f.n:Int):=by
  have:=(gS.1 al).1;omega
 obtain⟨aa,ab,ac,ae,af,ag,ah,ai,a1⟩:=zc4 _ s;rw[a1]at g h;obtain⟨⟨z,A,B,C,D,E,G,H⟩,L,M,K,ca,cb⟩:=f;dsimp only at a2 q;subst a2;subst q;simp only[pgc,frv,mP,Yk]at g h;have bx:=an.box.box.c 0 rfl;rw[Q.out]at bx;obtain⟨aq,ar,au,av,aw,ax,ay,az,b8,b9,S,T,U⟩:=R.out w (zc.refl _);dsimp only at aq ar au av aw ax ay az b8 b9 S T U
 go_enter func195,ntmps195
 go_upto_region 2 with fail;obtain⟨c,P⟩:=kA w.heap.size;obtain⟨l,j⟩:=kB (w.alloc (Xk #[U8 z,U8 A,U8 B,U8 C,U8 D,U8 E,U8 G,U8 H,I6 L,Xh M,Xh K,I6 (fi:Int),I6 (ix:Int)] 93));have N:=gA j
 have ap:=xPT j P
 rw[j,P.out];rw[P.out]at v;have ak:zc l l.drew:=show Below _ _ _ from(bR _ _).drew
 obtain⟨b,a⟩:=Wq fun u=>zg u c 93 [U8 z,U8 A,U8 B,U8 C,U8 D,U8 E,U8 G,U8 H,I6 L,Xh M,Xh K,I6 (fi:Int),I6 (ix:Int)]
 have r:=(a _).2 (ap.aA ak);have Y:zc l l.drew:=ak;have bi:=fun y:zo b=>((a _).1 y.holds).box.c 0 rfl
 have bj:=fun y:zo b=>((a _).1 y.holds).box.c 1 rfl
 have bk:=fun y:zo b=>((a _).1 y.holds).box.c 2 rfl
 have bl:=fun y:zo b=>((a _).1 y.holds).box.c 3 rfl
 have bm:=fun y:zo b=>((a _).1 y.holds).box.c 4 rfl
 have bn:=fun y:zo b=>((a _).1 y.holds).box.c 5 rfl
 have bo:=fun y:zo b=>((a _).1 y.holds).box.c 6 rfl
 have bp:=fun y:zo b=>((a _).1 y.holds).box.c 7 rfl
 have bs:=fun y:zo b=>((a _).1 y.holds).box.c 8 rfl
 have bt:=fun y:zo b=>((a _).1 y.holds).box.c 9 rfl
 have bq:=fun y:zo b=>((a _).1 y.holds).box.c 10 rfl
 have br:=fun y:zo b=>((a _).1 y.holds).box.c 11 rfl
 have bu:=fun y:zo b=>((a _).1 y.holds).box.c 12 rfl
 have bg:Nonempty (zo b):=⟨⟨_,r⟩⟩;refine qj (I:=b) 9 [(3,fun a4=>a4=Xi #[U8 aa,U8 ab,U8 ac,U8 ae,U8 af,U8 ag,U8 ah,U8 ai]),(8,fun a4=>a4=Xh a9)] (fun u=>zc l u) r Y zU Kr rfl rfl Dc (Sb ⟨_,rfl⟩ ⟨_,rfl⟩) Kr ?_
 simp only[Yf,Yg];iterate 3 refine zw ?_
 refine zL rfl rfl (fun _ u=>zc l u) (fun w' i d=>?_) (fun bw a3=>?_)
 ·refine zI.call [Xj (Xa ⟨p,0,Xb⟩),Xi #[U8 z,U8 A,U8 B,U8 C,U8 D,U8 E,U8 G,U8 H,I6 L,Xh M,Xh K,I6 (fi:Int),I6 (ix:Int)]] rfl func227 rfl rfl rfl ?_;refine(g w' (N.trans d)).mono ?_;rintro e a5⟨rfl,aj⟩;exact⟨_,rfl,(a _).2 (((a _).1 i).aA aj),rfl,d.trans aj⟩
 subst a3;refine Uq ?_;iterate 4 refine zw ?_
 refine zL rfl rfl (fun _ u=>JC w0 X p w V a8 u) (fun w' i d=>?_) (fun bw a3=>?_)
 ·refine zI.call [Xj (Xa ⟨p,0,Xb⟩),Xi #[U8 aa,U8 ab,U8 ac,U8 ae,U8 af,U8 ag,U8 ah,U8 ai],I6 (fi:Int),I6 (ix:Int)] rfl func194 rfl rfl rfl ?_;refine(h w' (N.trans d)).mono ?_;rintro e a5⟨rfl,t⟩;have ba:=JC.aG (N.trans d) t;obtain⟨bz,_,_,bv,_⟩:=t;exact⟨_,rfl,(a _).2 (((a _).1 i).chg bv v),rfl,ba⟩
 subst a3;refine Uq ?_;refine jL fun c8 bc Z=>?_
 have ao:=dD Z;go_wp2;go_ret;exact⟨rfl,ao⟩
variable{X:Nat->Prop}
theorem zls(m:Ma)(pg)(a b:Int):(wrM m pg a b).fs=m.fs/\(wrM m pg a b).aB=m.aB/\(wrM m pg a b).ca=m.ca/\(wrM m pg a b).sp=m.sp/\(wrM m pg a b).sl=m.sl:=by grind[wrM]
def clM(m:Ma)(k:Nat)(f:Fr)(F:Fl):Ma:=
 if jM m.fl m.cnt f.f f.x=0 then{wrM m (Zm (pgL f.p) f.x F.size) f.f f.x with fs:=m.fs.set k {f with d:=false}}else m
theorem zdp{w0 w:Xn}{p:Nat}{V:MaV}{m:Ma}(h:ChW w0 X p w V m)(k:Nat)(f:Fr)(hk:m.fs[k]?=Xa f)(fi ix:Nat)(F:Fl)(hf:f.f=(fi:Int))(hx:f.x=(ix:Int))(hF:m.fl[fi]?=Xa F)(hs:0<=F.size/\F.size<=96)(hi:ix<=12):
  Xp Tryz.prog 158 #[Xj (Xa ⟨p,0,Xb⟩),Xe Xf (k:Int)] w fun e w'=>e=Xl (Xh (decide (jM m.fl m.cnt f.f f.x=0)))/\JC w0 X p w V (clM m k f F) w':=by
 have hc:=zjx h k f hk fi ix F hf hx hF hs hi;obtain⟨N,HN⟩:∃N,Xo (wrM m (Zm (pgL f.p) (ix:Int) F.size) fi ix=N):=⟨_,rfl⟩;have HNF:Xo (N.fs=m.fs):=show _=_ by rw[<-HN.out];exact(zls _ _ _ _).1
 have HC1:Xo (jM m.fl m.cnt f.f f.x=0->clM m k f F={N with fs:=m.fs.set k {f with d:=false}}):=show _->_ from fun e=>by
  unfold clM;rw[if_pos e,hf,hx,HN.out]
 have HC2:Xo (jM m.fl m.cnt f.f f.x≠0->clM m k f F=m/\N=m):=show _->_ from fun e=>⟨by
  unfold clM;rw[if_neg e],by
  rw[<-HN.out];unfold wrM;rw[hf,hx]at e;rw[if_neg e]⟩
 rw[HN.out,<-hf,<-hx]at hc;obtain⟨M,HM⟩:∃M,Xo (clM m k f F=M):=⟨_,rfl⟩;rw[HM.out]at HC1 HC2⊢;obtain⟨R,HR⟩:∃R:Bool,Xo (decide (jM m.fl m.cnt f.f f.x=0)=R):=⟨_,rfl⟩;rw[HR.out]at hc⊢;have HKF:Xo (m.fs[k]?=Xa f):=hk;have hkl:=(gS.1 hk).1;clear h hk hf hx hF hs hi HN HM
 go_enter Tryz.func158,Tryz.ntmps158
 go_upto_region 1 with fail;go_wp2_with fail;refine hc.mono ?_;clear hc;rintro e W2⟨rfl,hch⟩;have HCH:Xo (JC w0 X p w V N W2):=hch;clear hch
 cases R with
 |false=>
  have HN:Xo (M=m/\N=m):=show _/\_ from HC2.out (of_decide_eq_false HR.out)
  have HRR:Xo (JC w0 X p w V M W2):=show JC _ _ _ _ _ _ _ by rw[HN.out.1,<-HN.out.2];exact HCH.out
  go_wp2;go_ret;exact⟨rfl,HRR.out⟩
 |true=>
  have HN:Xo (M={N with fs:=m.fs.set k {f with d:=false}}):=show _=_ from HC1.out (of_decide_eq_true HR.out)
  obtain⟨V2,e2,m2,o2,d2⟩:=HCH.out;have E2:Xo (V2.ca=V.ca):=e2;have M2:Xo (ChW w0 X p W2 V2 N):=m2;have O2:Xo (zk (Dw p V) w W2):=o2;have D2:Xo (∀k,Dw p V2 k->Dw p V k\/w.heap.size<=k):=d2;obtain⟨g,c9,heq⟩:=m2.fs.aJ (by rw[HNF.out];omega)
  have x0:=m2.box.box.c 0 rfl;rw[heq]at x0;have HFO:Xo (zb z9 w0.heap.size W2 (O (Xa ⟨g,0,Xb⟩) N.fs.length c9) m.fs):=show zb _ _ _ _ _ by rw[<-heq,<-HNF.out];exact m2.fs
  have HG:Xo (oB V2.f g):=show oB _ _ by unfold oB;rw[heq];rfl
  have HEQ:Xo (O V2.f.a V2.f.n V2.f.c=O (Xa ⟨g,0,Xb⟩) N.fs.length c9):=heq;have hlt:(k:Int)<(N.fs.length:Int):=by rw[HNF.out];omega
  clear m2 o2 d2 e2 heq HC1 HC2
  go_wp2_with(refine zt (E:=z9) rfl (.tmp 17) (.const (Xh Xd)) 4 rfl w0.heap.size _ m.fs HFO.out g k 10 rfl f {f with d:=false} HKF.out [Xh Xd] Kr rfl (Yo rfl) (by intro u hu;simp at hu;subst hu;rfl) ⟨g,k*13+10,Xb⟩ rfl rfl _ rfl rfl ?_)
  intro W3 ow3 gr3 _;have HRR:Xo (JC w0 X p w V M W3):=show JC _ _ _ _ _ _ _ by
   rw[HN.out];refine JC.step O2.out D2.out E2.out (M2.out.frameC HG.out gr3 ?_);(try unfold Sli.x);rw[HEQ.out];exact ow3
  go_wp2;go_ret;exact⟨rfl,HRR.out⟩
theorem zlU{a:Act}{w:Xn}(e x)(h:o.op=.load e x)(b c:Nat)(j:a.eval x=Xj (Xa ⟨b,c,Xb⟩))(vs:List Xq)(f:w.rangeAt b c vs){d:TypeDesc}(i:Tryz.prog.underlying e=Xa d)(g:d.isRow=Xc)(hi:(Tryz.prog.info? e).map (·.size)=Xa vs.length):(execOp a.eval o).run prog w=.ok (.value (Xi vs.toArray)) w:=by
 have:=run_loadAt_mid (P:=prog) w b c e vs d f i g hi;simp only[execOp,h,j,Xz,this,rA,Ye]
theorem zbv{a:Act}{w:Xn}(f x)(i:o.op=.load f x)(b c:Nat)(j:a.eval x=Xj (Xa ⟨b,c,Xb⟩))(v)(h:w.cell? ⟨b,c,Xb⟩=Xa v){d:TypeDesc}(g:Tryz.prog.underlying f=Xa d)(e:d.isRow=Xd):(execOp a.eval o).run prog w=.ok (.value v) w:=by
 have e:(isAgg f).run prog w=.ok Xd w:=by
  unfold isAgg;rw[Xz,run_underlying g w]
  cases d<;>simp_all [TypeDesc.isRow]
 have g:(loadVar f ⟨b,c,Xb⟩).run prog w=.ok v w:=by simp[loadVar,Xz,e,h]
 simp only[execOp,i,j,Instr.loadAt,Instr.sureAddr,Xz,Ye,g,rA]
theorem zk7(y:Ar)(h:j<l.length):splice (qo l) (j*7) (arv y)=qo (l.set j y):=zbs (enc:=arv) (k:=7) y rfl l j (fun _ _=>rfl) h
theorem zha{e:Ar}(h:l[j]?=Xa e)(i:Nat)(u:Xq)(a:(arv e)[i]?=Xa u):(qo l)[j*7+i]?=Xa u:=Zu (enc:=arv) (k:=7) l j e (fun _ _=>rfl) h i u a
theorem QL(f:Nat->Ar):(qo (tab f)).length=448:=by rw[zk8,zhL]
theorem zdZ{rest:List Oper}{c:Oper}{a:Act}{w:Xn}(d:c.guard=Xb)(p x:Operand)(m:c.op=.store 125 p x)(b k:Nat)(l:k<64)(hp:a.eval p=Xj (Xa ⟨b,k*7,Xb⟩))(y:Ar)(n:a.eval x=arA y)
  {f:Nat->Ar}(j:Box w b (qo (tab f)))
  (h:∀w',Box w' b (qo (tab (upd f k y)))->w.grownBy w' (Xa b)->w'.heap.size=w.heap.size->wpList prog ops Q rest (a.put c.dst undef) w'):wpList prog ops Q (c::rest) a w:=by
 refine zhw d 125 p x m b (k*7) hp (arv y) n j (by rw[QL];show _+7<=_;omega) zr0 (arE.one y) fun w' e g i=>h w' ?_ g i
 rw[zk7 y (Rx zhL l),zpy]at e
 exact e
theorem zgR{cs:List Xq}{o k:Nat}(a:vs.length=k)(h:∀(i:Nat)u,vs[i]?=Xa u->cs[o+i]?=Xa u):cs.toArray.extract o (o+k)=vs.toArray:=by
 apply Array.ext_getElem?
 grind
theorem znY{w:Xn}{f:Nat->Ar}(i:Nat)(hi:i<64):(Instr.index 233 (Xi (qo (tab f)).toArray) (I6 (i:Int))).run prog w=.ok (arA (f i)) w:=by
 have g:(isAgg 125).run prog w=.ok Xc w:=by
  unfold isAgg;rw[Xz,run_underlying underlying125 w];rfl
 have h:(Go.sizeOf 125).run prog w=.ok 7 w:=by
  obtain⟨a,d,e⟩:∃a,Tryz.prog.info? 125=Xa a/\a.size=7:=by
   have:=zr0
   cases c:Tryz.prog.info? 125 with
   |none=>rw[c]at this;cases this
   |some a=>rw[c]at this;exact⟨a,rfl,by simpa using this⟩
  simp[Go.sizeOf,typeInfo,d,e]
 have b:(0:Int)<=(i:Int)/\(i:Int)<((64:Nat):Int):=Wm
 have k:(qo (tab f)).toArray.extract (i*7) (i*7+7)=(arv (f i)).toArray:=zgR rfl fun l u j=>zha (zlI hi) l u j
 simp only[Instr.index,asIntOf,Xz,Ye,rA,run_underlying underlying233];rw[kE b];simp only[Xz,h,rA,part,g,if_true,tN,Ye,k];rfl
theorem zpu{rest:List Oper}{a:Act}{w:Xn}(b:o.guard=Xb)(x ix:Operand)(e:o.op=.index 233 x ix)(f:Nat->Ar)(g:a.eval x=Xi (qo (tab f)).toArray)(i:Nat)(c:a.eval ix=I6 (i:Int))(hi:i<64)
  (h:wpList prog ops Q rest (a.put o.dst (arA (f i))) w):wpList prog ops Q (o::rest) a w:=by
 refine wpList_plain b fun K d=>?_
 unfold Oper.wp execOp;simp only[e,g,c,Xz,Ye,rA,znY i hi];exact d _ _ h
theorem znN{rest:List Oper}{a:Act}{w:Xn}(b:o.guard=Xb)(x ix:Operand)(d:o.op=.index 233 x ix)(f:Nat->Ar)(g:a.eval x=Xi (qo (tab f)).toArray)(i:Nat)(c:a.eval ix=I6 (i:Int))(hi:i<64){v:Xq}(e:arA (f i)=v)
  (h:wpList prog ops Q rest (a.put o.dst v) w):wpList prog ops Q (o::rest) a w:=zpu b x ix d f g i c hi (Rx e h)
theorem zlv{rest:List Oper}{a:Act}{w:Xn}(c:o.guard=Xb)(x:Operand)(g:o.op=.load 125 x)(b k:Nat)(e:k<64)(j:a.eval x=Xj (Xa ⟨b,k*7,Xb⟩)){f:Nat->Ar}(d:Box w b (qo (tab f)))
  (h:wpList prog ops Q rest (a.put o.dst (arA (f k))) w):wpList prog ops Q (o::rest) a w:=
 wpList_load_mid c 125 x g b (k*7) j (arv (f k)) _ (d.mid _ fun l u i=>zha (zlI e) l u i) underlying125 rfl zr0 h
theorem zjS{rest:List Oper}{a:Act}{w:Xn}(c:o.guard=Xb)(x:Operand)(g:o.op=.load 125 x)(b k:Nat)(e:k<64)(j:a.eval x=Xj (Xa ⟨b,k*7,Xb⟩)){f:Nat->Ar}(d:Box w b (qo (tab f))){v:Xq}(i:arA (f k)=v)
  (h:wpList prog ops Q rest (a.put o.dst v) w):wpList prog ops Q (o::rest) a w:=zlv c x g b k e j d (Rx i h)
theorem zrg:(Tryz.prog.info? 233).map (·.zero)=Xa (Xa (Xi (qo (tab fun _=>ar0)).toArray)):=by kernel_rfl
theorem zf9(w:Xn):(zeroValue 233).run prog w=.ok (Xi (qo (tab fun _=>ar0)).toArray) w:=by
 have h:=zrg
 cases a:Tryz.prog.info? 233 with
 |none=>simp[a]at h
 |some i=>
  simp[a]at h
  simp[zeroValue,typeInfo,a,h]
end
end Go.Proofs.YtmfckdkcmbncdaaGreat
