import Derived.Test.YtkfjajbalegoeaaGreatFP4
namespace Go.Proofs.YtkfjajbalegoeaaGreat
open Go.Value renaming slice→O,int→Xe,bool→Xh,agg→Xi,pointer→Xj,tuple→Xm
open Go.IntKind renaming i64→Xf,u8→Xg
open Go.Obj renaming cells→Xk
open Go.Ending renaming returned→Xl
open Go renaming World→Xn,Calls→Xp,Value→Xq
open Go.RowKit renaming Hid→Xo
open Option renaming some→Xa,none→Xb
open Bool renaming true→Xc,false→Xd
open List renaming replicate→Xr
open _root_.List renaming eq_of_mem_replicate→Xs,take→Xu,drop→Xv,take_of_length_le→Xx,map_nil→Yb,contains_eq_mem→Yc,mem_singleton→Yd,getElem?_map→Ye,map_toArray→Yf,getElem?_replicate→Yg,length_eq_one_iff→Yh,length_set→Yi,mem_append→Yj,mem_of_mem_take→Yk,getElem?_range→Yl
open Go.Addr renaming add_lit→Xt
open Go.Sem renaming run_pure→Xw,run_bind→Xz
open _root_.Array renaming getD_eq_getD_getElem?→Xy
open _root_.Nat renaming lt_of_lt_of_le→Ya,lt_irrefl→Ym,sub_self→Yp
open Go.Region renaming ready→Yn
open _root_.Bool renaming not_eq_true'→Yo
open Go.Act renaming put→Yq
set_option maxRecDepth 100000
set_option maxHeartbeats 4000000
variable{α:Type}{a:Act}{H:Ar}{U:Array Xq}{E:Elt α}{z:Int}{g:List (Int×List Int)}{G:List (List En)}{C:List En}{K:List Oper}{D:List Xq}{y:List α}{b k p:Nat}{s:Sp}{w:Xn}{A:Xq}{N:Xq->Xn->Prop}
variable{B B0 B1 b hi id j:Nat}{L:List Int}{Q:Exit->Act->Xn->Prop}{T:List (Nat->En)}{V:MaV}{W w' w0 w1:Xn}{l:List Ar}{m m':Ma}{o:Oper}{ops:Array Oper}{t:TypeId}{us vs xs:List Xq}{vl vt:Sli}
open Go.Proofs.Tryz
section
open Go.RowKit
def Qu(m:Ma)(p n:Int)(wr:Bool)(a:Ar)(e:Int):Prop:=
 (e=5/\a=ar0/\((p<0\/(m.sp.length:Int)<=p)\/∃(pp:Nat)(s:Sp),p=(pp:Int)/\m.sp[pp]?=Xa s/\∀a∈s.aC,inZ a n=Xd))\/
 (∃(pp nn k:Nat)(s:Sp)(x:Ar),p=(pp:Int)/\n=(nn:Int)/\nn<64/\m.sp[pp]?=Xa s/\s.aC[k]?=Xa x/\jS x/\(x.fr<=(nn:Int)/\(nn:Int)<x.tz)/\zr s.aC nn=qq x nn/\
  ((e=8/\a=ar0/\(if wr=Xc then x.wr else x.rd)=Xd)\/(e=0/\a=x/\(if wr=Xc then x.wr else x.rd)=Xc)))
theorem zk7(V m)(p n:Int)(wr:Bool)(w)(aj:zK w V m)(az:maW m=0):
  Xp prog 30 #[Xi (mL V m).toArray,I6 p,I6 n,Xh wr] w fun e w'=>(∃(a:Ar)(H:Int),e=Xl (Xm #[Xi #[I6 a.fr,I6 a.tz,Xh a.rd,Xh a.wr,Xh a.sh,I6 a.file,I6 a.base],I6 H])/\Qu m p n wr a H)/\zc w w':=by
 have bg:=dD aj;have al:=dD az;have R:=dD<|fun W(bn:zc w W)=>zdK V m W (bg.aA bn) az;obtain⟨-,-,-,-,-,-,-,-,b4⟩:=aj.ns;obtain⟨be,a2,s,a1⟩:=aj.aU;obtain⟨bc,bd,a8,a9,a5,a6,a7,a4,⟨K,j,a3⟩⟩:=V;dsimp only[mL]at b4 s R⊢;have A:=dD b4.symm;have au:Xo (be.length=j):=show _=_ by rw[a2];exact A.out
 have an:=dD s;have ap:=dD a1;clear aj b4 a2 s a1 az;obtain⟨B,v⟩:=kA w.heap.size;obtain⟨av,r⟩:=kB ((w.alloc (Xk #[bc.x,I6 m.aB,bd.x,a8.x,a9.x,a5.x,a6.x,a7.x,I6 m.cnt,a4.x,O K j a3] 41)).alloc (Xk #[I6 0,I6 0,Xh Xd,Xh Xd,Xh Xd,I6 0,I6 0] 77));have b7:=gD2 r;have b9:Xo (Box av B [bc.x,I6 m.aB,bd.x,a8.x,a9.x,a5.x,a6.x,a7.x,I6 m.cnt,a4.x,O K j a3]):=dD<|by rw[<-r];exact(Box.aE _ _ _ v.symm).alloc _
 have bj:Xo (zm av (B+1) 77 [I6 0,I6 0,Xh Xd,Xh Xd,Xh Xd,I6 0,I6 0]):=dD<|by rw[<-r];exact zm.aE _ [I6 0,I6 0,Xh Xd,Xh Xd,Xh Xd,I6 0,I6 0] _ (by have:=v.out;simp;omega)
 have ar:=dD r;clear r;go_enter func30,ntmps30;go_upto_region 1 with fail;rw[ar.out,v.out];obtain⟨bu,bv,bw,bx,bz,c0,c1,c2,c3,c4,E⟩:=b9.aY;have X:=R.out av b7.out;go_wp2_with fail;refine X.mono ?_;clear X bu bv bw bx bz c0 c1 c2 c3 c4 E;rintro bt b8⟨rfl,ai⟩;have N:=dD (b7.trans ai);have bi:=dD (b9.aA ai);have aw:=dD (bj.aA ai);clear ai;have E:=bi.c 10 rfl;by_cases a0:p<0\/(j:Int)<=p
 ·by_cases C:p<0
  ·have b1:decide (p<0)=Xc:=decide_eq_true C;have x:Xo (Qu m p n wr ar0 5):=dD<|.inl ⟨rfl,rfl,.inl (Rx A.out a0)⟩;clear a0 C;go_wp2_with(refine zP rfl 77 (.tmp 8) (.tmp 29) rfl (B+1) rfl [I6 0,I6 0,Xh Xd,Xh Xd,Xh Xd,I6 0,I6 0] rfl aw rfl Kr (by simp[Value.oneCell']) ?_)
   intro k b c _;have f:Xo (zc w k):=dD<|zd N c (Hm v.out);have d:=dD b;clear b c;go_wp2;refine bodyPost_ret (qI rfl _ rfl d.box underlying77 rfl Kr) rfl ⟨⟨ar0,5,rfl,x⟩,f⟩
  have b1:decide (p<0)=Xd:=decide_eq_false C;have Y:decide ((j:Int)<=p)=Xc:=decide_eq_true Wm;have x:Xo (Qu m p n wr ar0 5):=dD<|.inl ⟨rfl,rfl,.inl (Rx A.out a0)⟩;clear a0 C;go_wp2_with(refine zP rfl 77 (.tmp 8) (.tmp 29) rfl (B+1) rfl [I6 0,I6 0,Xh Xd,Xh Xd,Xh Xd,I6 0,I6 0] rfl aw rfl Kr (by simp[Value.oneCell']) ?_)
  intro k b c _;have f:Xo (zc w k):=dD<|zd N c (Hm v.out);have d:=dD b;clear b c;go_wp2;refine bodyPost_ret (qI rfl _ rfl d.box underlying77 rfl Kr) rfl ⟨⟨ar0,5,rfl,x⟩,f⟩
 have b1:decide (p<0)=Xd:=decide_eq_false Wm;have Y:decide ((j:Int)<=p)=Xd:=decide_eq_false Wm;obtain⟨h,rfl⟩:∃h:Nat,p=(h:Int):=⟨p.toNat,Wm⟩;obtain⟨D,b2⟩:∃D,be[h]?=Xa D:=⟨_,gE (by rw[au.out];omega)⟩;obtain⟨y,aa⟩:∃y,Xo (m.sp[h]?=Xa y):=⟨_,gE (by rw[A.out];omega)⟩;have G:=dD<|ap.out h D y b2 aa.out;obtain⟨ax,ao,ba⟩:∃ax,Xo (K=Xa ax)/\∀W,zc w W->ziN W (ax.add (h*10)) D:=an.out h D b2;obtain⟨-,bk,-,-,-,-,-,-,-,-⟩:=ba b8 N.out;rw[ao.out]at E;have bq:(h:Int)<(j:Int):=Wm;clear ba b2 a0;have X:=zgT (D.ar.x) y.aC n b8 (G.ar.aA N);go_wp2_with fail;refine X.mono ?_;clear X bk E b1 Y;rintro bt bh⟨⟨bf,rfl,bb⟩,ay⟩;have Q:=dD bb;have L:=dD (N.trans ay);have S:=dD (aw.aA ay);clear ay bb;by_cases b3:bf<0
 ·have I:∀a∈y.aC,inZ a n=Xd:=by
   rcases Q with⟨t,a,M,_⟩|⟨_,br⟩;·omega
   exact br
  have x:Xo (Qu m (h:Int) n wr ar0 5):=dD<|.inl ⟨rfl,rfl,.inr ⟨h,y,rfl,aa,I⟩⟩;clear I;go_wp2_with(refine zP rfl 77 (.tmp 8) (.tmp 41) rfl (B+1) rfl [I6 0,I6 0,Xh Xd,Xh Xd,Xh Xd,I6 0,I6 0] rfl S rfl Kr (by simp[Value.oneCell']) ?_)
  intro k b c _;have f:Xo (zc w k):=dD<|zd L c (Hm v.out);have d:=dD b;clear b c;go_wp2;refine bodyPost_ret (qI rfl _ rfl d.box underlying77 rfl Kr) rfl ⟨⟨ar0,5,rfl,x⟩,f⟩
 obtain⟨t,a,rfl,l,z⟩:∃(t:Nat)(a:Ar),bf=(t:Int)/\Xo (y.aC[t]?=Xa a)/\Xo (inZ a n=Xc):=by
  rcases Q with⟨t,a,M,b5,b6⟩|⟨M,_⟩;·exact⟨t,a,M,b5,b6⟩
  omega
 have P:=dD<|(jJ.1 ((zhA (Q0 al)).ar y (mG aa)).1).2;have F:=dD<|zgX P l.out;obtain⟨u,rfl⟩:∃u:Nat,n=(u:Int):=⟨n.toNat,by have bm:=zcL.1 z.out;have b0:=F.out;unfold jS at b0;omega⟩;have Z:u<64:=by have bm:=zcL.1 z.out;have b0:=F.out;unfold jS at b0;omega
 have am:Xo (zr y.aC u=qq a u):=zb2 P l (Ry zjv z);have bo:t<D.ar.n:=by rw[G.ar.n];exact(gS.1 l).1
 have bp:(t:Int)<(D.ar.n:Int):=Wm;obtain⟨q,aq,ak⟩:∃q,Xo (D.ar.a=Xa q)/\Xo (∀W,zc w W->zj8 W (q.add (t*7)) a):=by
  obtain⟨_,_,M,b5⟩:=G.ar.aC;simp only[vJ]at M;obtain⟨q,b6,bs⟩:=b5 t a l.out;exact⟨q,Rx M.1 b6,bs⟩
 have x:Xo (∀H ab,(H=8/\ab=ar0/\(if wr=Xc then a.wr else a.rd)=Xd)\/(H=0/\ab=a/\(if wr=Xc then a.wr else a.rd)=Xc)->Qu m (h:Int) (u:Int) wr ab H):=dD<|fun H ab bl=>.inr ⟨h,u,t,y,a,rfl,rfl,Z,aa,l,F,zcL.1 z,am,bl⟩;rw[aq.out];obtain⟨ac,ae,T,U,af,ag,ah⟩:=ak.out bh L.out;clear b3;cases wr
 ·obtain⟨ok,g⟩:=kA a.rd;rw[g.out]at T;cases ok
  ·have i:Xo (Qu m (h:Int) (u:Int) Xd ar0 8):=x.out 8 ar0 (.inl ⟨rfl,rfl,g⟩)
   go_wp2_with(refine zP rfl 77 (.tmp 8) (.tmp 55) rfl (B+1) rfl [I6 0,I6 0,Xh Xd,Xh Xd,Xh Xd,I6 0,I6 0] rfl S rfl Kr (by simp[Value.oneCell']) ?_)
   intro k b c _;have f:Xo (zc w k):=dD<|zd L c (Hm v.out);have d:=dD b;clear b c ac ae T U af ag ah;go_wp2;refine bodyPost_ret (qI rfl _ rfl d.box underlying77 rfl Kr) rfl ⟨⟨ar0,8,rfl,i⟩,f⟩
  have i:Xo (Qu m (h:Int) (u:Int) Xd a 0):=x.out 0 a (.inr ⟨rfl,rfl,g⟩);go_wp2_with(refine zP rfl 77 (.tmp 8) (.tmp 59) rfl (B+1) rfl [I6 a.fr,I6 a.tz,Xh Xc,Xh a.wr,Xh a.sh,I6 a.file,I6 a.base] rfl S rfl Kr (by simp[Value.oneCell']) ?_)
  intro k b c _;have f:Xo (zc w k):=dD<|zd L c (Hm v.out);have d:=dD b;clear b c ac ae T U af ag ah;go_wp2;refine bodyPost_ret (qI rfl _ rfl d.box underlying77 rfl Kr) rfl ⟨⟨a,0,Rr g.out,i⟩,f⟩
 obtain⟨ok,g⟩:=kA a.wr;rw[g.out]at U;cases ok
 ·have i:Xo (Qu m (h:Int) (u:Int) Xc ar0 8):=x.out 8 ar0 (.inl ⟨rfl,rfl,g⟩)
  go_wp2_with(refine zP rfl 77 (.tmp 8) (.tmp 55) rfl (B+1) rfl [I6 0,I6 0,Xh Xd,Xh Xd,Xh Xd,I6 0,I6 0] rfl S rfl Kr (by simp[Value.oneCell']) ?_)
  intro k b c _;have f:Xo (zc w k):=dD<|zd L c (Hm v.out);have d:=dD b;clear b c ac ae T U af ag ah;go_wp2;refine bodyPost_ret (qI rfl _ rfl d.box underlying77 rfl Kr) rfl ⟨⟨ar0,8,rfl,i⟩,f⟩
 have i:Xo (Qu m (h:Int) (u:Int) Xc a 0):=x.out 0 a (.inr ⟨rfl,rfl,g⟩);go_wp2_with(refine zP rfl 77 (.tmp 8) (.tmp 59) rfl (B+1) rfl [I6 a.fr,I6 a.tz,Xh a.rd,Xh Xc,Xh a.sh,I6 a.file,I6 a.base] rfl S rfl Kr (by simp[Value.oneCell']) ?_)
 intro k b c _;have f:Xo (zc w k):=dD<|zd L c (Hm v.out);have d:=dD b;clear b c ac ae T U af ag ah;go_wp2;refine bodyPost_ret (qI rfl _ rfl d.box underlying77 rfl Kr) rfl ⟨⟨a,0,Rr g.out,i⟩,f⟩
theorem zb.other(h:zb E b w A y)(a:w.grownBy w' (Xa k))(d:zm w k t D)(ht:t≠E.ty):zb E b w' A y:=h.grown a fun v c e=>by
 cases e;exact h.ne d ht k c rfl
theorem za2{g:Nat}{e:TypeId}(h:w.ownsRow b e k A p xs)(n:w.grownBy w' (Xa g))(q:zm w g t D)(ht:t≠e):w'.ownsRow b e k A p xs:=by
 have i:A.ownBlock≠Xa g:=fun s=>by
  obtain⟨_,_,u,f⟩:=zby h s;have r:w.heap[g]?=_:=q;grind
 refine⟨h.1,?_⟩;rcases h.2 with j|⟨v,c,d,rfl,l,f,m⟩;·exact .inl j
 exact .inr ⟨v,c,d,rfl,l,by rw[n.block v (aS.1 f).1 (fun e=>by cases e;exact i rfl)];exact f,m⟩
theorem zm.off{a:TypeId}{ds:List Xq}(h:zm w b t D)(g:zm w k a ds)(ht:t≠a):b≠k:=fun e=>by
 subst e;have c:w.heap[b]?=Xa (Xk D.toArray t (0,0)):=h;have d:w.heap[b]?=Xa (Xk ds.toArray a (0,0)):=g;grind
theorem zdF.other(h:zdF k w V m)(a:w.grownBy w' (Xa p))(hb:zm w p 97 D):zdF k w' V m:=by obtain⟨u,⟨H,j,cs,d,l⟩,s,t⟩:=h.fl;obtain⟨F,B,y,z,A,C,g⟩:=h.sp;refine⟨h.fs.other a hb Dc,h.sl.other a hb Dc,⟨za2 h.sb.1 a hb Dc,h.sb.2⟩,⟨za2 h.sq.1 a hb Dc,h.sq.2⟩,⟨za2 h.db.1 a hb Dc,h.db.2⟩,⟨za2 h.dq.1 a hb Dc,h.dq.2⟩,⟨u,⟨H,j.other a hb Dc,cs,fun i x f c e=>⟨(d i x f c e).1,(d i x f c e).2.other a hb Dc⟩,l⟩,s,t⟩,h.ca.other a hb Dc,⟨F,B,y.other a hb Dc,z,A,C,fun i x v c n=>?_⟩,h.ap⟩;have b:=g i x v c n;exact⟨b.aD,b.ar.other a hb Dc,⟨b.tb.len,b.tb.aL,fun r E G base q=>(b.tb.row r E G base q).other a hb Dc,b.tb.two⟩,b.arh,b.tbh⟩
theorem ChW.of(h:zdF B w V m)(s:w0.heap.size<=B)(X:zc w0 w)(lo:w0.heap.size<=k)(u:zm w k 102 (chL V m)):ChW w0 k w V m:=by
 obtain⟨a7,r,M,a3,a4,a5,a6⟩:=h.sp;have b:∀{W:Xn}{g f K:Nat}{j:TypeId}{v:Xq}{N:List Xq},qC (Dr w0.heap.size k V) w W->w.ownsRow g j f v K N->B<=g->ZP.ty≠j/\q3.ty≠j/\jF.ty≠j/\102≠j->W.ownsRow g j f v K N:=fun p n d D=>zc1 n p fun U Y c=>by
  obtain⟨ab,ac,aa,ad⟩:=zby n Y;rcases c with c|c|c|c|c;·omega
  ·subst c;have Q:w.heap[U]?=_:=u;grind
  ·obtain⟨y,C⟩:=h.fs.obj c
   grind
  ·obtain⟨y,C⟩:=h.ca.obj c
   grind
  obtain⟨y,C⟩:=M.obj c;grind
 have a:∀{W:Xn}{P:Type}{E:Elt P}{g:Nat}{v:Xq}{G:List P},qC (Dr w0.heap.size k V) w W->zb E g w v G->B<=g->ZP.ty≠E.ty/\q3.ty≠E.ty/\jF.ty≠E.ty/\102≠E.ty->zb E g W v G:=fun p n d D=>⟨b p n.1 d D,n.2⟩;refine⟨X,lo,u,h.fs.base s,h.ca.base s,⟨a7,M.base s,a3,fun i x L q Z W p=>?_⟩,fun W p=>?_⟩
 ·have e:=a6 i x L q Z;have l:B<=r i:=nT a4 (zef a5 (nZ i));have a2:zac (r i) (r (i+1)) W x L:=⟨e.aD,a p e.ar l Dc,⟨e.tb.len,e.tb.aL,fun a1 v a8 I a0=>a p (e.tb.row a1 v a8 I a0) l Dc,e.tb.two⟩,e.arh,e.tbh⟩;exact a2.at
 obtain⟨lo,⟨a9,R,S,A,T⟩,H,ae⟩:=h.fl;have t:q8 lo W (V.fl.x) m.fl:=⟨a9,a p R H Dc,S,fun i x z q F=>⟨(A i x z q F).1,a p (A i x z q F).2 H Dc⟩,T⟩;have d:=nR B;exact⟨(a p h.sl d Dc).at,zl.at ⟨b p h.sb.1 d Dc,h.sb.2⟩,zu.at ⟨b p h.sq.1 d Dc,h.sq.2⟩,zl.at ⟨b p h.db.1 d Dc,h.db.2⟩,zu.at ⟨b p h.dq.1 d Dc,h.dq.2⟩,t.new.now0⟩
theorem ChW.lower{u1:Xn}(h:ChW w1 k w V m)(u:w.grownBy u1 (Xa b))(n:b<w1.heap.size)(l:zc w0 u1)(d:w0.heap.size<=w1.heap.size):ChW w0 k u1 V m:=by obtain⟨g,j,t,v⟩:=h.sp;have f:∀{W:Xn},qC (Dr w0.heap.size k V) u1 W->qC (Dr w1.heap.size k V) w W:=fun c=>(qC.grown u (show Dr w1.heap.size k V b from .inl n)).trans (c.wide fun p a=>a.elim (fun e=>.inl (Ya e d)) .inr);exact⟨l,nT d h.lo,h.box.beside u (fun p e=>by cases e;have:=h.lo;omega),(h.fs.grown u (fun p a e=>by cases e;have:=(h.fs.lt _ a).1;omega)).base d,(h.ca.grown u (fun p a e=>by cases e;have:=(h.ca.lt _ a).1;omega)).base d,⟨g,(j.grown u (fun p a e=>by cases e;have:=(j.lt _ a).1;omega)).base d,t,fun r x s q i W c=>v r x s q i W (f c)⟩,fun W c=>h.rest W (f c)⟩
theorem zm3(V m)(w:Xn)(f:zK w V m):
  Xp prog 32 #[Xi (mL V m).toArray] w fun e w'=>∃(p B:Nat)(V':MaV),e=Xl (Xj (Xa ⟨p,0,Xb⟩))/\zdF B w' V' m/\w.heap.size<=B/\w.heap.size<=p/\zm w' p 102 (chL V' m)/\zc w w':=by obtain⟨b,a⟩:=kB (w.alloc (Xk (mL V m).toArray 41));have c:=gA a;have g:=xA a;have d:=dD a;clear a;have a:=zgq V m b (f.aA c);clear f;go_enter func32,ntmps32;go_upto_region 1 with fail;rw[d.out];obtain⟨f,h,i,j,k,l,n,q,r,s,d⟩:=g.aY;go_wp2_with fail;refine a.mono ?_;clear a f h i j k l n q r s d;rintro e a⟨V',rfl,g,f⟩;have d:=dD (c.trans f);have i:=dD g;have h:=dD<|bS c.out;clear g f;have c:Xo (zdF b.heap.size (a.alloc (Xk (chL V' m).toArray 102)) V' m/\w.heap.size<=b.heap.size/\w.heap.size<=a.heap.size/\zm (a.alloc (Xk (chL V' m).toArray 102)) a.heap.size 102 (chL V' m)/\zc w (a.alloc (Xk (chL V' m).toArray 102))):=dD<|⟨i.aA (za _ _),h,bS d,zm.aE _ _ _ rfl,d.trans (za _ _)⟩;go_wp2;go_ret;exact⟨_,b.heap.size,V',rfl,c⟩
theorem zoI(V m)(p n:Int)(w)(a4:zK w V m)(al:maW m=0):
  Xp prog 31 #[Xi (mL V m).toArray,I6 p,I6 n] w fun e w'=>e=Xl (zbS (jR m p n))/\(jR m p n).1.length=8/\zc w w':=by
 have bq:=dD a4;have bt:=dD<|fun x e=>zqA a4.sb.2.1 a4.sq.2.1 a4.db.2.1 a4.dq.2.1 x e;have ae:Xo (∀W,zc w W->Xp prog 64 #[Xi (mL V m).toArray] W fun e w'=>e=Xl (I6 (maW m))/\zc W w'):=dD<|fun W U=>by rw[al];exact zdK V m W (bq.aA U) al
 have ay:Xo (∀W,zc w W->Xp prog 67 #[Xi (mL V m).toArray] W fun e w'=>∃B,e=Xl (Xi #[V.f.x,I6 m.aB,V.s.x,V.sb.x,V.sq.x,V.db.x,V.dq.x,V.fl.x,I6 m.cnt,V.ca.x,V.sp.x,.map (Xa B)])/\QI plK w' B (Jf m.ca)/\zc W w'):=dD<|fun W U=>zbR V m W (bq.aA U);have ac:Xo (maW m=0->∀W B(a:Ar)(n:Nat)(e:En),zc w W->jS a->(a.fr<=(n:Int)/\(n:Int)<a.tz)->(e.kind=1->0<=e.n/\e.n<(m.fs.length:Int))->(e.kind=2->0<=e.n/\e.n<(m.sb.length:Int))->QI plK W B (Jf m.ca)->Xp prog 68 #[Xi #[V.f.x,I6 m.aB,V.s.x,V.sb.x,V.sq.x,V.db.x,V.dq.x,V.fl.x,I6 m.cnt,V.ca.x,V.sp.x,.map (Xa B)],Xi #[I6 a.fr,I6 a.tz,Xh a.rd,Xh a.wr,Xh a.sh,I6 a.file,I6 a.base],I6 (n:Int),Xi #[I6 e.kind,I6 e.n,Xh e.wr]] W fun a6 w'=>a6=Xl (zbS (Z2 m (qq a n) e))/\(Z2 m (qq a n) e).1.length=8/\zc W w'):=dD<|fun al W B a n e U ec cd af a2 L=>zgG V m B a n e W (bq.aA U) al ec cd af a2 L;obtain⟨-,-,-,-,-,-,-,-,dc⟩:=a4.ns;obtain⟨dt,be,M,ba⟩:=a4.aU;obtain⟨ao,ap,u,v,r,s,t,q,⟨i,d,l⟩⟩:=V;dsimp only[mL]at dc M ae ay ac⊢;have aa:=dD dc.symm;have bz:Xo (dt.length=d):=show _=_ by rw[be];exact aa.out
 have br:=dD M;have bu:=dD ba;obtain⟨df,bi⟩:=kA (maW m);rw[bi.out]at ae ac;clear a4 dc be M ba;obtain⟨c1,E⟩:=kB ((w.alloc (Xk #[ao.x,I6 m.aB,ap.x,u.x,v.x,r.x,s.x,t.x,I6 m.cnt,q.x,O i d l] 41)).alloc (Xk #[U8 0,U8 0,U8 0,U8 0,U8 0,U8 0,U8 0,U8 0] 44));have dg:=gD2 E;have dk:=x2a E;have dy:Xo (Box c1 (w.heap.size+1) (pgc zt)):=dD<|by rw[<-E];exact Box.aE _ (pgc zt) _ Sm
 have bx:Xo (_=c1):=E;clear E;go_enter func31,ntmps31;go_upto_region 1 with fail;rw[bx.out];obtain⟨es,et,eu,ev,ew,ex,ey,ez,f0,f1,Z⟩:=dk.aY;have b7:=ae.out c1 dg.out;go_wp2_with fail;refine b7.mono ?_;clear b7 es et eu ev ew ex ey ez f0 f1 Z;rintro a6 bj⟨rfl,bk⟩;have bn:=dD (dg.trans bk);have dl:=dD (dk.aA bk);have dm:=dD (dy.aA bk);clear bk;have a5:df=0:=Ry bi.out al;clear al;have db:(df !=0)=Xd:=by simp[a5]
 have a9:Xo (maW m=0):=dD<|Rx bi.out a5;have ab:Xo (jR m p n=ZY m p n):=dD<|by unfold jR;rw[bi.out,kF (fun c4=>c4 a5)]
 have bw:=show Xo _ from ac.out a5;clear a5;have Z:=dl.c 10 rfl;have a3:=zba p (d:Int) bj;go_wp2_with fail;refine a3.mono ?_;rintro a6 w'⟨rfl,bc⟩;rw[bc];clear bc w' a3 db;cases b5:bel p (d:Int)with
 |false=>
  have a0:Xo (jR m p n=(zt,Xd,5)):=dD<|by
   rw[ab.out];refine zkb ?_;have af:¬(0<=p/\p<(d:Int)):=fun c4=>(by rw[Jc.2 c4]at b5;cases b5);rw[aa.out];omega
  clear b5;go_wp2_with(refine zn rfl 44 (.tmp 6) (.tmp 24) rfl (w.heap.size+1) rfl (pgc zt) rfl dm rfl zsZ (qM _) ?_)
  intro az F G _;have C:Xo (zc w az):=dD<|zd bn G Wm;go_wp2;refine bodyPost_ret (zF rfl _ rfl F underlying44 rfl zsZ) rfl ⟨Rr a0.out,Rr a0.out,C⟩
 |true=>
 obtain⟨e1,f4⟩:=Jc.1 b5;obtain⟨Y,rfl⟩:∃Y:Nat,p=(Y:Int):=⟨p.toNat,Wm⟩;obtain⟨x,am⟩:∃x,dt[Y]?=Xa x:=⟨_,gE (by rw[bz.out];omega)⟩;obtain⟨N,ak⟩:∃N,Xo (m.sp[Y]?=Xa N):=⟨_,gE (by rw[aa.out];omega)⟩;have P:=dD<|bu.out Y x N am ak.out;obtain⟨c2,bs,dq⟩:∃c2,Xo (i=Xa c2)/\∀W,zc w W->ziN W (c2.add (Y*10)) x:=br.out Y x am;obtain⟨e2,e3,e4,e5,e6,e7,e8,e9,ea,eb⟩:=dq bj bn.out;rw[bs.out]at Z;clear dq am b5 e1;go_upto_region 7 with fail;clear e2 e3 e4 e5 e6 e7 e8 e9 ea eb Z;obtain⟨eo,av⟩:=kA bj.heap.size;refine nW fun dw X=>?_;have bl:=gP X;have di:=xP X av;have dh:=dD (bn.trans bl);have dx:=dD (dl.aA bl);have dz:=dD (dm.aA bl);rw[av.out];clear X bl;have er:=di.c 1 rfl;have b7:=zgT (x.ar.x) N.aC n dw (P.ar.aA dh);go_wp2_with fail;refine b7.mono ?_;clear b7 er;rintro a6 dj⟨⟨du,rfl,a5⟩,b2⟩;have au:=dD a5;have z:=dD (dh.trans b2);have D:=dD (dx.aA b2);have dn:=dD (dz.aA b2);have T:=dD (di.aA b2);clear b2 a5;by_cases bf:du<0
 ·have a0:Xo (jR m (Y:Int) n=(zt,Xd,5)):=dD<|by rw[ab.out];exact zmC ak au bf
  go_wp2_with(refine zn rfl 44 (.tmp 6) (.tmp 36) rfl (w.heap.size+1) rfl (pgc zt) rfl dn rfl zsZ (qM _) ?_)
  intro az F G _;have C:Xo (zc w az):=dD<|zd z G Wm;go_wp2;refine bodyPost_ret (zF rfl _ rfl F underlying44 rfl zsZ) rfl ⟨Rr a0.out,Rr a0.out,C⟩
 obtain⟨k,a,rfl,S,R⟩:∃(k:Nat)(a:Ar),du=(k:Int)/\Xo (N.aC[k]?=Xa a)/\Xo (inZ a n=Xc):=by
  rcases au with⟨k,a,bg,dd,de⟩|⟨bg,_⟩;·exact⟨k,a,bg,dd,de⟩
  omega
 have aq:=dD<|(jJ.1 ((zhA (Q0 a9)).ar N (mG ak)).1).2;have a8:=dD<|zgX aq S.out;obtain⟨h,rfl⟩:∃h:Nat,n=(h:Int):=⟨n.toNat,by have af:=zcL.1 R.out;have a2:=a8.out;unfold jS at a2;omega⟩;have j:h<64:=by have af:=zcL.1 R.out;have a2:=a8.out;unfold jS at a2;omega
 obtain⟨e,Q⟩:=kA (ze N h);have ax:Xo (jR m (Y:Int) (h:Int)=Z2 m (qq a h) e):=dD<|by rw[ab.out,zdt ak j,zb2 aq S (Ry zjv R),Q.out]
 have ar:Xo (∀W B,zc w W->QI plK W B (Jf m.ca)->Xp prog 68 #[Xi #[ao.x,I6 m.aB,ap.x,u.x,v.x,r.x,s.x,t.x,I6 m.cnt,q.x,O i d l,.map (Xa B)],Xi #[I6 a.fr,I6 a.tz,Xh a.rd,Xh a.wr,Xh a.sh,I6 a.file,I6 a.base],I6 (h:Int),Xi #[I6 e.kind,I6 e.n,Xh e.wr]] W fun a6 w'=>a6=Xl (zbS (Z2 m (qq a h) e))/\(Z2 m (qq a h) e).1.length=8/\zc W w'):=dD<|fun W B U L=>bw.out W B a h e U a8 (zcL.1 R) (by rw[<-Q.out];exact(zp9 a9 ak j).1) (by rw[<-Q.out];exact(zp9 a9 ak j).2) L;have bo:Xo (∀W,zc w W->Xp prog 69 #[Xi #[x.t0.x,x.t1.x,x.t2.x,x.t3.x,x.t4.x,x.t5.x,x.t6.x,x.t7.x],I6 (h:Int)] W fun a6 w'=>a6=Xl (Xi #[I6 e.kind,I6 e.n,Xh e.wr])/\zc W w'):=dD<|fun W U=>by
  have:=JJ x.tab N.tb (h:Int) W (P.aA U).tb;rw[zgO j,Q.out]at this;exact this
 have ed:k<x.ar.n:=by rw[P.ar.n];exact(gS.1 S).1
 have ee:(k:Int)<(x.ar.n:Int):=Wm;obtain⟨b,bv,g⟩:∃b,Xo (x.ar.a=Xa b)/\Xo (∀W,zc w W->zj8 W (b.add (k*7)) a):=by
  obtain⟨_,_,bg,dd⟩:=P.ar.aC;simp only[vJ]at bg;obtain⟨b,de,ep⟩:=dd k a S.out;exact⟨b,Rx bg.1 de,ep⟩
 obtain⟨c0,aw⟩:=kA (Z2 m (qq a h) e);have bp:Xo (c0.1.length=8):=dD<|by rw[<-aw.out];exact bt _ _
 rw[aw.out]at ax ar;clear bf;go_upto_region 10 with fail;obtain⟨A,c⟩:=Ww fun an=>zc dj an;have ag:=(c _).2 (gW _);have cr:=D.h c 0 rfl;have cs:=D.h c 1 rfl;have ct:=D.h c 2 rfl;have cu:=D.h c 3 rfl;have cv:=D.h c 4 rfl;have cw:=D.h c 5 rfl;have cx:=D.h c 6 rfl;have cy:=D.h c 7 rfl;have cz:=D.h c 8 rfl;have da:=D.h c 9 rfl;have bd:=D.h c 10 rfl;have cj:=T.h c 2 rfl;have ck:=T.h c 3 rfl;have cl:=T.h c 4 rfl;have cm:=T.h c 5 rfl;have cn:=T.h c 6 rfl;have co:=T.h c 7 rfl;have cp:=T.h c 8 rfl;have cq:=T.h c 9 rfl;have ci:∀y:zh A,y.world.cell? ⟨eo,1,Xb⟩=Xa (O (Xa b) x.ar.n x.ar.c):=fun y=>by rw[<-bv.out];exact(T.aA ((c _).1 y.holds)).c 1 rfl
 have c5:=fun y:zh A=>(g _ (z.trans ((c _).1 y.holds))).1;have c6:=fun y:zh A=>(g _ (z.trans ((c _).1 y.holds))).2.1;have c7:=fun y:zh A=>(g _ (z.trans ((c _).1 y.holds))).2.2.1;have c8:=fun y:zh A=>(g _ (z.trans ((c _).1 y.holds))).2.2.2.1;have c9:=fun y:zh A=>(g _ (z.trans ((c _).1 y.holds))).2.2.2.2.1;have ca:=fun y:zh A=>(g _ (z.trans ((c _).1 y.holds))).2.2.2.2.2.1;have cb:=fun y:zh A=>(g _ (z.trans ((c _).1 y.holds))).2.2.2.2.2.2;have cf:Nonempty (zh A):=⟨⟨_,ag⟩⟩;refine q4 (I:=A) 16 [(1,⟨fun a7=>∃B,a7=Xi #[ao.x,I6 m.aB,ap.x,u.x,v.x,r.x,s.x,t.x,I6 m.cnt,q.x,O i d l,.map (Xa B)],fun a7 an=>∃B,a7=Xi #[ao.x,I6 m.aB,ap.x,u.x,v.x,r.x,s.x,t.x,I6 m.cnt,q.x,O i d l,.map (Xa B)]/\QI plK an B (Jf m.ca),fun p aj=>zc p aj,fun _=>True⟩),(11,⟨fun a7=>a7=Xi #[I6 e.kind,I6 e.n,Xh e.wr],fun _ _=>True,fun p aj=>zc p aj,fun _=>True⟩),(12,⟨fun a7=>a7=zbS c0,fun _ _=>True,fun p aj=>zc p aj,fun _=>True⟩)] ag zY Kr rfl rfl Dc (Sc ⟨_,0,rfl⟩ ⟨_,rfl⟩ ⟨_,rfl⟩) ?hp ?hpre ?hpr0 ?_;case hp=>
  intro k N ef dr b9 bm b8 dp a7 p aj ai cg;have K:=zC b9;have H:=zC bm;clear b9 bm;simp only[mC,pJ,nM,or_false]at K H;rcases K with⟨rfl,rfl⟩|⟨rfl,rfl⟩|⟨rfl,rfl⟩
  ·obtain⟨B,af,a2⟩:=cg
   rcases H with⟨rfl,rfl⟩|⟨rfl,rfl⟩|⟨rfl,rfl⟩;·exact absurd rfl b8
   ·exact⟨B,af,a2.aA ai⟩
   exact⟨B,af,a2.aA ai⟩
  ·trivial
  trivial
 case hpre=>
  intro ef dr k N bm b9 b8 p aj ai ah;have H:=zC bm;simp only[mC,pJ,nM,or_false]at H;rcases H with⟨rfl,rfl⟩|⟨rfl,rfl⟩|⟨rfl,rfl⟩<;>trivial
 case hpr0=>
  intro k dr b9;have K:=zC b9;simp only[mC,pJ,nM,or_false]at K;rcases K with⟨rfl,rfl⟩|⟨rfl,rfl⟩|⟨rfl,rfl⟩<;>trivial
 simp only[Xu,Xv];refine zs ?_;refine zT rfl rfl (fun w' f ah b3=>?_) (fun ds bb=>?_);·refine zO.call [Xi #[ao.x,I6 m.aB,ap.x,u.x,v.x,r.x,s.x,t.x,I6 m.cnt,q.x,O i d l]] rfl func67 rfl rfl rfl ?_;refine(ay w' (z.trans ((c _).1 f))).mono ?_;rintro e bh⟨B,rfl,L,a1⟩;exact⟨_,rfl,(c _).2 (((c _).1 f).trans a1),a1,⟨B,rfl⟩,B,rfl,L⟩
 obtain⟨B,rfl⟩:=bb;refine Uq ?_;iterate 9 refine zs ?_
 refine zT rfl rfl (fun w' f ah b3=>?_) (fun ds bb=>?_);·refine zO.call [Xi #[x.t0.x,x.t1.x,x.t2.x,x.t3.x,x.t4.x,x.t5.x,x.t6.x,x.t7.x],I6 (h:Int)] rfl func69 rfl rfl rfl ?_;refine(bo w' (z.trans ((c _).1 f))).mono ?_;rintro e bh⟨rfl,a1⟩;exact⟨_,rfl,(c _).2 (((c _).1 f).trans a1),a1,rfl,trivial⟩
 subst bb;refine Uq ?_;refine zT rfl rfl (fun w' f ah b3=>?_) (fun ds bb=>?_)
 ·obtain⟨f2,b6,cc⟩:=b3 1 Kr
  simp only[Value.agg.injEq,Array.mk.injEq,List.cons.injEq,Value.map.injEq,Option.some.injEq,and_true,true_and]at b6;subst b6;refine zO.call [Xi #[ao.x,I6 m.aB,ap.x,u.x,v.x,r.x,s.x,t.x,I6 m.cnt,q.x,O i d l,.map (Xa B)],Xi #[I6 a.fr,I6 a.tz,Xh a.rd,Xh a.wr,Xh a.sh,I6 a.file,I6 a.base],I6 (h:Int),Xi #[I6 e.kind,I6 e.n,Xh e.wr]] rfl func68 rfl rfl rfl ?_;refine(ar w' B (z.trans ((c _).1 f)) cc).mono ?_;rintro e bh⟨rfl,f5,a1⟩;exact⟨_,rfl,(c _).2 (((c _).1 f).trans a1),a1,rfl,trivial⟩
 obtain⟨eq,f6,f7⟩:=c0;have ce:=bp.out;obtain⟨eg,eh,ei,ej,ek,el,em,en,ch⟩:=zc2 eq ce;subst ch;subst bb;simp only[zbS,pgc,mP,Yb];refine Uq ?_;iterate 3 refine zs ?_
 refine Zv fun f3 b4 b3=>?_;have c3:=(c _).1 b4;have dv:=dD (z.trans c3);have e0:=dD (dn.aA c3);have a0:=ax;clear b3 b4 ag cf c3 cr cs ct cu cv cw cx cy cz da bd ci cj ck cl cm cn co cp cq c5 c6 c7 c8 c9 ca cb;refine zn rfl 44 (.tmp 6) (.tmp 50) rfl (w.heap.size+1) rfl (pgc [eg,eh,ei,ej,ek,el,em,en]) rfl e0 rfl zsZ (qM _) ?_;intro az F G _;have C:Xo (zc w az):=show zc _ _ from zd dv G Wm;go_wp2;refine bodyPost_ret (zF rfl _ rfl F underlying44 rfl zsZ) rfl ⟨Rr a0.out,Rr a0.out,C⟩
def zsl(k q n:Nat)(mB:Ma):Prop:=∃(s:Sp)(fr:Fr)(we:Bool),Rt mB/\mB.sp[q]?=Xa s/\mB.fs[k]?=Xa fr/\ze s n=⟨1,(k:Int),we⟩
def ze0(m:Ma)(BF:Nat->Nat->Ar->Pg->Bool->Bool×Nat×Ma)(p n:Int)(wr:Bool)(er:Int):Prop:=
 er≠0/\(Qu m p n wr ar0 er\/(∃a,Qu m p n wr a 0/\(jR m p n).2.2=er)\/(er=10/\∃(q i:Nat)(a:Ar)(pg:Pg)(ic:Bool),p=(q:Int)/\n=(i:Int)/\Qu m p n wr a 0/\jR m p n=(pgL pg,ic,0)/\(jH m (BF q i a pg wr) pg a ic wr q i).1=Xd))
def zr5(m:Ma)(BF:Nat->Nat->Ar->Pg->Bool->Bool×Nat×Ma)(p n:Int)(wr:Bool)(k:Nat)(m':Ma):Prop:=
 ∃(q i:Nat)(a:Ar)(pg:Pg)(ic:Bool)(fr:Fr),p=(q:Int)/\n=(i:Int)/\Qu m p n wr a 0/\jR m p n=(pgL pg,ic,0)/\(jH m (BF q i a pg wr) pg a ic wr q i).1=Xc/\k=(jH m (BF q i a pg wr) pg a ic wr q i).2.1/\(jH m (BF q i a pg wr) pg a ic wr q i).2.2.fs[k]?=Xa fr/\m'=Jv (jH m (BF q i a pg wr) pg a ic wr q i).2.2 q i k fr wr a.sh
theorem zsb{l:List Int}(h:l.length=8):∃pg:Pg,l=pgL pg:=by obtain⟨a,b,c,d,f,g,i,j,e⟩:=zc2 l h;exact⟨⟨a,b,c,d,f,g,i,j⟩,e⟩
theorem zi1{n:Int}{wr:Bool}{b:Int}(h:Qu m z n wr H b)(c:b≠0):H=ar0:=by
 rcases h with⟨_,e,_⟩|⟨_,_,_,_,_,_,_,_,_,_,_,_,_,⟨_,e,_⟩|⟨e,_⟩⟩;·exact e
 ·exact e
 grind
theorem zhu(b:o.op=.alloc 97):(execOp a.eval o).run prog w=.ok (.value (Xj (Xa ⟨w.heap.size,0,Xb⟩))) (w.alloc (Xk #[Xj Xb,I6 0,I6 0,I6 0,I6 0,Xh Xd,Xh Xd,Xh Xd,I6 0,I6 0,U8 0,U8 0,U8 0,U8 0,U8 0,U8 0,U8 0,U8 0,Xh Xd,Xh Xd] 97)):=by simp only[execOp,b];go_simp
theorem zqo(V)(m:Ma)(p n:Int)(wr:Bool)(w)(r:zK w V m)(b:Rt m)(z:Nat->Nat->Ar->Pg->Bool->Bool×Nat×Ma)
  (a0:∀(w0 W:Xn)(p:Nat)(d:MaV)(m1:Ma)(am:Xq)(l:List (Nat×Nat)),(∀x∈l,x.2<64/\∃s,m.sp[x.1]?=Xa s)->m1=zi m l->ChW w0 p W d m1->Rt m1->Zn m1.fs=0->zmm zbc (Dw p d) W am l->Xp prog 168 #[Xj (Xa ⟨p,0,Xb⟩),am] W fun e w'=>e=Xl (Xh (Q7 m1 l).1)/\Chg w0 p W d (Q7 m1 l).2 w')
  (h:∀(q i:Nat)(a:Ar)(pg:Pg),p=(q:Int)->n=(i:Int)->Qu m p n wr a 0->jR m p n=(pgL pg,Xd,0)->0<=a.file->a.sh=Xc\/wr=Xd->∀(w0 W:Xn)(p:Nat)(d:MaV),ChW w0 p W d m->Xp prog 70 #[Xi #[Xj (Xa ⟨p,0,Xb⟩),I6 (q:Int),I6 (i:Int),I6 a.fr,I6 a.tz,Xh a.rd,Xh a.wr,Xh a.sh,I6 a.file,I6 a.base,U8 pg.b0,U8 pg.b1,U8 pg.b2,U8 pg.b3,U8 pg.b4,U8 pg.b5,U8 pg.b6,U8 pg.b7,Xh Xd,Xh wr]] W fun e w'=>e=Xl (Xm #[I6 ((z q i a pg wr).2.1:Int),I6 (if(z q i a pg wr).1=Xc then 0 else 10)])/\Chg w0 p W d (z q i a pg wr).2.2 w')
  (j:∀(q i:Nat)(a:Ar)(pg:Pg)(t:Bool),p=(q:Int)->n=(i:Int)->Qu m p n wr a 0->jR m p n=(pgL pg,t,0)->(jH m (z q i a pg wr) pg a t wr q i).1=Xc->zsl (jH m (z q i a pg wr) pg a t wr q i).2.1 q i (jH m (z q i a pg wr) pg a t wr q i).2.2):
  Xp prog 11 #[Xi (mL V m).toArray,I6 p,I6 n,Xh wr] w fun e w'=>((∃c:Int,e=Xl (Xm #[Xi qA.toArray,I6 0,I6 c])/\ze0 m z p n wr c)\/(∃(V':MaV)(k f:Nat)(m':Ma),e=Xl (Xm #[Xi (mL V' m').toArray,I6 (k:Int),I6 0])/\zr5 m z p n wr k m'/\ChW w f w' V' m'))/\zc w w':=by
 have Q:=dD r;have bt:=dD b;have ao:=show Xo _ from a0;have an:=show Xo _ from h;have ap:=show Xo _ from j;have g:=dD<|fun W(a9:zc w W)=>zk7 V m p n wr W (Q.aA a9) b.w;have u:=dD<|fun W(a9:zc w W)=>zoI V m p n W (Q.aA a9) b.w;clear r b a0 h j;obtain⟨h,a6⟩:=kA w.heap.size;obtain⟨j,b⟩:=kB ((w.alloc (Xk (mL V m).toArray 41)).alloc (Xk zM.toArray 41));have C:=gD2 b;have D:Xo (zm j h 41 (mL V m)):=dD<|by rw[<-b];exact(zm.aE w (mL V m) _ a6.symm).aA (za _ _)
 have T:Xo (zm j (h+1) 41 qA):=dD<|by rw[<-b];exact zm.aE _ qA _ (by have:=a6.out;simp;omega)
 have r:=dD b;clear b;have b:=g.out j C.out;go_enter func11,ntmps11;go_upto_region 1 with fail;rw[r.out,a6.out];obtain⟨y,A,E,H,K,L,M,N,R,S,g⟩:=D.box.aY;go_wp2_with fail;refine b.mono ?_;clear b y A E H K L M N R S g;rintro af aj⟨⟨a,c,rfl,b⟩,G⟩;have a4:=dD b;clear b;go_upto_region 2 with fail;obtain⟨P,F⟩:=kA aj.heap.size;obtain⟨B,b⟩:=kB (aj.alloc (Xk #[I6 a.fr,I6 a.tz,Xh a.rd,Xh a.wr,Xh a.sh,I6 a.file,I6 a.base] 77));have r:zc j B:=by rw[<-b];exact G.trans (za _ _)
 have a3:=xPT b F;have Z:=dD (D.aA r);have a2:=dD (T.aA r);have D:=dD (C.trans r);rw[b,F.out];clear b G r;by_cases C:c=0
 rotate_left
 ·have a5:(c !=0)=Xc:=by simp[C]
  have ag:Xo (ze0 m z p n wr c):=dD<|⟨C,.inl (by have:=a4.out;rw[zi1 a4.out C]at this;exact this)⟩;clear C;go_wp2_with(refine zP rfl 41 (.tmp 8) (.tmp 27) rfl (h+1) rfl qA rfl a2 rfl Kr (by unfold qA;simp[Value.oneCell']) ?_)
  intro ah j r _;have G:Xo (zc w ah):=dD<|zd D r (Hm a6.out);have F:=dD j;clear j r;go_wp2;refine bodyPost_ret (zF rfl _ rfl F.box underlying41 rfl Kr) rfl ⟨.inl ⟨c,rfl,ag⟩,G⟩
 subst C;have b:=u.out B D.out;obtain⟨y,A,E,H,K,L,M,N,R,S,g⟩:=Z.box.aY;go_wp2_with fail;refine b.mono ?_;clear b y A E H K L M N R S g;rintro af c⟨rfl,b,K⟩;obtain⟨g,a1⟩:=kA (jR m p n);rw[a1.out]at b⊢;obtain⟨u,t,y⟩:=g;obtain⟨pg,rfl⟩:=zsb b;obtain⟨S,A,u,L,T,U,X,Y⟩:=pg;clear b;simp only[zbS,pgL,pgc,List.map];go_upto_region 5 with fail;obtain⟨M,H⟩:=kA c.heap.size;obtain⟨E,b⟩:=kB (c.alloc (Xk #[U8 S,U8 A,U8 u,U8 L,U8 T,U8 U,U8 X,U8 Y] 44));have c:zc B E:=by rw[<-b];exact K.trans (za _ _)
 have B:=xPT b H;have g:=dD (Z.aA c);have aq:=dD (a2.aA c);have N:=dD (a3.aA c);have ab:=dD (D.trans c);rw[b,H.out];clear b K c;by_cases C:y=0
 rotate_left
 ·have a5:(y !=0)=Xc:=by simp[C]
  have ag:Xo (ze0 m z p n wr y):=dD<|⟨C,.inr (.inl ⟨a,a4,by rw[a1.out]⟩)⟩;clear C;go_wp2_with(refine zP rfl 41 (.tmp 8) (.tmp 39) rfl (h+1) rfl qA rfl aq rfl Kr (by unfold qA;simp[Value.oneCell']) ?_)
  intro ah j r _;have G:Xo (zc w ah):=dD<|zd ab r (Hm a6.out);have F:=dD j;clear j r;go_wp2;refine bodyPost_ret (zF rfl _ rfl F.box underlying41 rfl Kr) rfl ⟨.inl ⟨y,rfl,ag⟩,G⟩
 subst C;obtain⟨q,i,K,H,a3,s,bz⟩:∃q i:Nat,Xo (p=(q:Int))/\Xo (n=(i:Int))/\Xo (i<64)/\∃s,Xo (m.sp[q]?=Xa s):=by
  rcases a4 with⟨e,_⟩|⟨q,i,_,s,_,b,c,y,D,_⟩;·cases e
  exact⟨q,i,b,c,y,s,D⟩
 rw[K.out,H.out];have ae:=dD<|fun W(a9:zc w W)=>zm3 V m W (Q.aA a9);go_upto_region 7 with fail;obtain⟨c,b⟩:=Ww fun D=>zc E D;have a8:=(b _).2 (gW _);have ar:Nonempty (zh c):=⟨⟨_,a8⟩⟩;have au:=fun y:zh c=>(g.box.aA ((b _).1 y.holds)).c 0 rfl;have av:=fun y:zh c=>(g.box.aA ((b _).1 y.holds)).c 1 rfl;have aw:=fun y:zh c=>(g.box.aA ((b _).1 y.holds)).c 2 rfl;have ax:=fun y:zh c=>(g.box.aA ((b _).1 y.holds)).c 3 rfl;have ay:=fun y:zh c=>(g.box.aA ((b _).1 y.holds)).c 4 rfl;have az:=fun y:zh c=>(g.box.aA ((b _).1 y.holds)).c 5 rfl;have b8:=fun y:zh c=>(g.box.aA ((b _).1 y.holds)).c 6 rfl;have b9:=fun y:zh c=>(g.box.aA ((b _).1 y.holds)).c 7 rfl;have ba:=fun y:zh c=>(g.box.aA ((b _).1 y.holds)).c 8 rfl;have bc:=fun y:zh c=>(g.box.aA ((b _).1 y.holds)).c 9 rfl;have ai:=fun y:zh c=>(g.box.aA ((b _).1 y.holds)).c 10 rfl;have bd:=fun y:zh c=>(N.box.aA ((b _).1 y.holds)).c 0 rfl;have be:=fun y:zh c=>(N.box.aA ((b _).1 y.holds)).c 1 rfl;have bf:=fun y:zh c=>(N.box.aA ((b _).1 y.holds)).c 2 rfl;have bg:=fun y:zh c=>(N.box.aA ((b _).1 y.holds)).c 3 rfl;have bh:=fun y:zh c=>(N.box.aA ((b _).1 y.holds)).c 4 rfl;have bi:=fun y:zh c=>(N.box.aA ((b _).1 y.holds)).c 5 rfl;have bj:=fun y:zh c=>(N.box.aA ((b _).1 y.holds)).c 6 rfl;have bk:=fun y:zh c=>(B.box.aA ((b _).1 y.holds)).c 0 rfl;have bl:=fun y:zh c=>(B.box.aA ((b _).1 y.holds)).c 1 rfl;have bm:=fun y:zh c=>(B.box.aA ((b _).1 y.holds)).c 2 rfl;have bn:=fun y:zh c=>(B.box.aA ((b _).1 y.holds)).c 3 rfl;have bo:=fun y:zh c=>(B.box.aA ((b _).1 y.holds)).c 4 rfl;have bp:=fun y:zh c=>(B.box.aA ((b _).1 y.holds)).c 5 rfl;have bq:=fun y:zh c=>(B.box.aA ((b _).1 y.holds)).c 6 rfl;have br:=fun y:zh c=>(B.box.aA ((b _).1 y.holds)).c 7 rfl;refine zar (I:=c) 12 [(1,⟨.const (Xh Xd),fun R=>∃f:Nat,R=Xj (Xa ⟨f,0,Xb⟩),fun _ R D=>∃(f B:Nat)(d:MaV),R=Xj (Xa ⟨f,0,Xb⟩)/\E.heap.size<=B/\E.heap.size<=f/\zdF B D d m/\zm D f 102 (chL d m),fun p q=>zc p q,fun _=>True⟩),(10,⟨.const (Xh Xd),fun R=>∃g,R=Xj (Xa ⟨g,0,Xb⟩),fun _ R D=>∃g P,R=Xj (Xa ⟨g,0,Xb⟩)/\E.heap.size<=g/\zm D g 97 P/\P.length=20,fun p q=>zc p q,fun _=>True⟩),(11,⟨.tmp 15,fun _=>True,fun af _ D=>∃(g f B:Nat)(d:MaV),af=Xj (Xa ⟨g,0,Xb⟩)/\E.heap.size<=g/\zm D g 97 [Xj (Xa ⟨f,0,Xb⟩),I6 (q:Int),I6 (i:Int),I6 a.fr,I6 a.tz,Xh a.rd,Xh a.wr,Xh a.sh,I6 a.file,I6 a.base,U8 S,U8 A,U8 u,U8 L,U8 T,U8 U,U8 X,U8 Y,Xh t,Xh wr]/\E.heap.size<=B/\E.heap.size<=f/\zdF B D d m/\zm D f 102 (chL d m),fun p q=>∃g P al,E.heap.size<=g/\p.grownBy q (Xa g)/\zm p g 97 al/\zm q g 97 P/\P.length=20,fun _=>True⟩)] a8 zY Kr Kr rfl rfl Dc (Sc ⟨_,0,rfl⟩ ⟨_,0,rfl⟩ ⟨Xh Xc,trivial⟩) ?hp ?hpre ?hpr0 ?_;case hp=>
  intro k s c1 bw Q ac a2 c af R p q c a7;have D:=zC Q;have y:=zC ac;clear Q ac;simp only[mC,pJ,nM,or_false]at D y;rcases D with⟨rfl,rfl⟩|⟨rfl,rfl⟩|⟨rfl,rfl⟩
  ·obtain⟨f,B,d,M,N,Z,a5,aa⟩:=a7
   rcases y with⟨rfl,rfl⟩|⟨rfl,rfl⟩|⟨rfl,rfl⟩;·exact absurd rfl a2
   ·exact⟨f,B,d,M,N,Z,a5.aA c,aa.aA c⟩
   obtain⟨ak,P,al,c2,ad,bs,bu,bv⟩:=c;exact⟨f,B,d,M,N,Z,a5.other ad bs,aa.beside ad fun k Q=>by cases Q;exact aa.off bs Dc⟩
  ·obtain⟨g,P,M,N,Z,a5⟩:=a7
   rcases y with⟨rfl,rfl⟩|⟨rfl,rfl⟩|⟨rfl,rfl⟩;·exact⟨g,P,M,N,Z.aA c,a5⟩
   ·exact absurd rfl a2
   obtain⟨ak,c0,al,c2,ad,bs,bu,bv⟩:=c;by_cases e:g=ak;·subst e;exact⟨g,_,M,N,bu,bv⟩
   exact⟨g,P,M,N,Z.beside ad (fun k Q=>by cases Q;exact e),a5⟩
  obtain⟨g,f,B,d,M,N,Z,a5,aa,ad,al⟩:=a7;rcases y with⟨rfl,rfl⟩|⟨rfl,rfl⟩|⟨rfl,rfl⟩;·exact⟨g,f,B,d,M,N,Z.aA c,a5,aa,ad.aA c,al.aA c⟩
  ·exact⟨g,f,B,d,M,N,Z.aA c,a5,aa,ad.aA c,al.aA c⟩
  exact absurd rfl a2
 case hpre=>
  intro c1 bw k s ac Q a2 p q c aa;have y:=zC ac;simp only[mC,pJ,nM,or_false]at y;rcases y with⟨rfl,rfl⟩|⟨rfl,rfl⟩|⟨rfl,rfl⟩<;>trivial
 case hpr0=>
  intro k bw Q;have D:=zC Q;simp only[mC,pJ,nM,or_false]at D;rcases D with⟨rfl,rfl⟩|⟨rfl,rfl⟩|⟨rfl,rfl⟩<;>trivial
 simp only[Xu,Xv];refine za4 rfl rfl rfl (fun y c=>?_);go_big_quiet_op;refine c _ ?_;clear c y;refine Zr rfl rfl (fun w' c aa a0=>?_) (fun D a2=>?_);·refine zO.call [Xi (mL V m).toArray] rfl func32 rfl rfl rfl ?_;refine(ae w' (ab.trans ((b _).1 c))).mono ?_;rintro e bs⟨f,B,d,rfl,ae,ac,ad,a7,y⟩;have al:=bS ((b _).1 c);exact⟨_,rfl,(b _).2 (((b _).1 c).trans y),y,⟨f,rfl⟩,f,B,d,rfl,nT al ac,nT al ad,ae,a7⟩
 obtain⟨f,rfl⟩:=a2;refine Uq ?_;iterate 8 refine Qe ?_
 refine Zr rfl rfl (fun w' c aa a0=>?_) (fun D a2=>?_);·refine zO.step (v:=Xj (Xa ⟨w'.heap.size,0,Xb⟩)) (w':=w'.alloc (Xk #[Xj Xb,I6 0,I6 0,I6 0,I6 0,Xh Xd,Xh Xd,Xh Xd,I6 0,I6 0,U8 0,U8 0,U8 0,U8 0,U8 0,U8 0,U8 0,U8 0,Xh Xd,Xh Xd] 97)) (zhu rfl) ⟨(b _).2 (((b _).1 c).trans (za _ _)),za _ _,⟨_,rfl⟩,_,_,rfl,bS ((b _).1 c),zm.aE _ [Xj Xb,I6 0,I6 0,I6 0,I6 0,Xh Xd,Xh Xd,Xh Xd,I6 0,I6 0,U8 0,U8 0,U8 0,U8 0,U8 0,U8 0,U8 0,U8 0,Xh Xd,Xh Xd] _ rfl,rfl⟩
 obtain⟨a5,rfl⟩:=a2;refine Uq ?_;refine Zr rfl rfl (fun w' c aa a0=>?_) (fun D a2=>?_)
 ·obtain⟨g,P,P,g,y,aa⟩:=a0 10 Kr
  simp only[Value.pointer.injEq,Option.some.injEq,Addr.mk.injEq,and_true]at P;subst P;obtain⟨D,B,d,C,ac,ad,ae,a7⟩:=a0 1 Kr;simp only[Value.pointer.injEq,Option.some.injEq,Addr.mk.injEq,and_true]at C;subst C;refine zO.bH 97 (.tmp 15) (.tmp 50) rfl a5 rfl [Xj (Xa ⟨f,0,Xb⟩),I6 (q:Int),I6 (i:Int),I6 a.fr,I6 a.tz,Xh a.rd,Xh a.wr,Xh a.sh,I6 a.file,I6 a.base,U8 S,U8 A,U8 u,U8 L,U8 T,U8 U,U8 X,U8 Y,Xh t,Xh wr] rfl y (Rr aa) (by rw[aa];kernel_rfl) (by simp[Value.oneCell']) fun bs A u L=>?_;exact⟨(b _).2 (zd ((b _).1 c) u g),⟨a5,_,_,g,u,y,A,rfl⟩,trivial,a5,f,B,d,rfl,g,A,ac,ad,ae.other u y,a7.beside u fun k Q=>by cases Q;exact a7.off y Dc⟩
 simp only[Yq];refine zcc fun c f a0=>?_;obtain⟨ak,D,B,d,P,y,g,ac,ad,ae,a7⟩:=a0 11;have c:(Value.pointer (Xa ⟨a5,0,Xb⟩):Xq)=Xj (Xa ⟨ak,0,Xb⟩):=P;simp only[Value.pointer.injEq,Option.some.injEq,Addr.mk.injEq,and_true]at c;subst c;have c:=(b _).1 f;have C:=dD<|ChW.of ae ac c ad a7;have aa:=dD g;have ak:=dD (aq.aA c);have B:=dD aq.box.lt;have Q:=dD<|bS ab.out;have b:=dD (ab.trans c);clear a0 f a8 ar c P g y ac ad ae a7 au av aw ax ay az b8 b9 ba bc ai bd be bf bg bh bi bj bk bl bm bn bo bp bq br;obtain⟨pg,b⟩:∃pg:Pg,Xo ((⟨S,A,u,L,T,U,X,Y⟩:Pg)=pg):=⟨_,rfl⟩;have f:Xo (jR m p n=(pgL pg,t,0)):=show _=_ by rw[<-b.out];exact a1.out
 have c:=zhl C bt q i s bz a3 a ⟨S,A,u,L,T,U,X,Y⟩ t wr (fun l am y a0 aj P g a2=>ao.out E aj D P (zi m l) am l y rfl g (qS l bt y).1.rt a0 a2) (z q i a ⟨S,A,u,L,T,U,X,Y⟩ wr) (fun g W a9=>by
  obtain⟨⟨M,N⟩,Z⟩:=g;have a2:=a1.out;rw[N]at a2⊢;exact an q i a ⟨S,A,u,L,T,U,X,Y⟩ K H a4 a2 M Z E W D d (C.aA a9))
 simp only at c;rw[b.out]at c;obtain⟨g,b⟩:=kA (jH m (z q i a pg wr) pg a t wr q i);have y:Xo (g.1=Xc->zsl g.2.1 q i g.2.2):=dD<|fun d=>by
  rw[<-b.out]at d⊢;exact ap q i a pg t K H a4 f d
 rw[b.out]at c;obtain⟨W,d⟩:=kA (if g.1=Xc then(0:Int)else 10);rw[d.out]at c;go_wp2_with(refine zE rfl 97 (.tmp 15) rfl a5 rfl aa.box underlying97 rfl Kr ?_)
 refine c.mono ?_;clear c;rintro af E⟨rfl,c,c,N,a0⟩;have M:Xo (zm E a5 97 [Xj (Xa ⟨D,0,Xb⟩),I6 (q:Int),I6 (i:Int),I6 a.fr,I6 a.tz,Xh a.rd,Xh a.wr,Xh a.sh,I6 a.file,I6 a.base,U8 S,U8 A,U8 u,U8 L,U8 T,U8 U,U8 X,U8 Y,Xh t,Xh wr]):=aa.aK N (C.bY aa Dc Dc Dc Dc);have P:Xo (zm E (h+1) 41 qA):=ak.aK N (fun e=>by have:=C.dlo _ e;have:=B.out;omega);have E:=dD c;have Z:=dD<|ab.trans c.gr;clear c N a0;obtain⟨c,C,N⟩:=g;simp only at E y⊢;cases c with
 |false=>
  have c:W=10:=by rw[<-d.out];rfl
  subst c;have ag:Xo (ze0 m z p n wr 10):=dD<|⟨Dc,.inr (.inr ⟨rfl,q,i,a,pg,t,K,H,a4,f,by rw[b.out]⟩)⟩;go_wp2_with(refine zP rfl 41 (.tmp 8) (.tmp 58) rfl (h+1) rfl qA rfl P rfl Kr (by unfold qA;simp[Value.oneCell']) ?_)
  intro ah j r _;have G:Xo (zc w ah):=dD<|zd Z r (Hm a6.out);have F:=dD j;clear j r;go_wp2;refine bodyPost_ret (zF rfl _ rfl F.box underlying41 rfl Kr) rfl ⟨.inl ⟨10,rfl,ag⟩,G⟩
 |true=>
  have c:W=0:=by rw[<-d.out];rfl
  subst c;obtain⟨d,fr,g,j,F,r,G⟩:=y.out rfl;have c:Xo (zr5 m z p n wr C (Jv N q i C fr wr a.sh)):=dD<|⟨q,i,a,pg,t,fr,K,H,a4,f,by rw[b.out],by rw[b.out],Rx b.out r,by rw[b.out]⟩;have b:=ziZ E q i C fr d g r j.inv.aN (fun s al=>j.tb al) F a3 G a ⟨S,A,u,L,T,U,X,Y⟩ t wr;obtain⟨g,d⟩:=kA (Jv N q i C fr wr a.sh);simp only at b;rw[d.out]at b c;clear j F r G;go_wp2_with(refine zE rfl 97 (.tmp 15) rfl a5 rfl M.box underlying97 rfl Kr ?_)
  refine b.mono ?_;clear b;rintro af d⟨⟨b,rfl⟩,f,r,b,z⟩;have y:Xo (zm d a5 97 [Xj (Xa ⟨D,0,Xb⟩),I6 (q:Int),I6 (i:Int),I6 a.fr,I6 a.tz,Xh a.rd,Xh a.wr,Xh a.sh,I6 a.file,I6 a.base,U8 S,U8 A,U8 u,U8 L,U8 T,U8 U,U8 X,U8 Y,Xh t,Xh wr]):=M.aK b (E.bY M Dc Dc Dc Dc);have t:Xo (zm d (h+1) 41 qA):=P.aK b (fun e=>by have:=E.dlo _ e;have:=B.out;omega);have j:=dD r;clear r b z;have u0:=y.box.c 0 rfl;obtain⟨r,u,y,z,A,E,F,G,H,K,d⟩:=j.box.box.aY;have b:Xo (∀R∈chL f g,R.oneCell'=Xc):=show∀R∈chL f g,_ by simp[chL,Value.oneCell']
  go_wp2_with(refine zP rfl 41 (.tmp 8) (.tmp 67) rfl (h+1) rfl (chL f g) rfl t rfl Kr b.out ?_)
  clear u0 r u y z A E F G H K d;intro r d b _;have h:Xo (zc w r):=dD<|zd (ab.trans j.gr) b (Hm a6.out);have r:=dD d;have t:=dD<|j.lower b B h Q.out;clear d b;go_wp2;refine bodyPost_ret (zF rfl _ rfl r.box underlying41 rfl Kr) rfl ⟨.inr ⟨f,C,D,g,rfl,c,t⟩,h⟩
theorem zcW.inTo{wr ic:Bool}{a:Ma}{q:Nat}{x:On}{pg:Pg}(h:zcW wr m k p x pg ic q a):zsl q k p a:=by obtain⟨f,e,w,b,c,d,_⟩:=h.into;exact⟨f,e,w,h.rt,b,c,d⟩
theorem zdR{n:Int}{wr:Bool}(c:Qu m z n wr H 0)(u:z=(k:Int))(hi:n=(p:Int)):∃s,m.sp[k]?=Xa s/\p<64/\jS H/\(H.fr<=(p:Int)/\(p:Int)<H.tz)/\zr s.aC p=qq H p/\(if wr=Xc then H.wr else H.rd)=Xc:=by
 rcases c with⟨e,_⟩|⟨x,v,w,s,y,d,f,g,h,j,q,l,r,⟨e,_⟩|⟨_,t,b⟩⟩;·cases e
 ·cases e
 grind
theorem QK(h:Rt m)(a:m.sp[k]?=Xa s)(hi:b<64):jR m (k:Int) (b:Int)=Z2 m (zr s.aC b) (ze s b):=by unfold jR;rw[kF (by rw[h.w];simp)];exact zdt a hi
theorem zoJ(V:MaV)(m:Ma)(p n:Int)(wr:Bool)(w:Xn)(M:zK w V m)(d:Rt m):
  Xp prog 11 #[Xi (mL V m).toArray,I6 p,I6 n,Xh wr] w fun e w'=>((∃E:Int,e=Xl (Xm #[Xi qA.toArray,I6 0,I6 E])/\ze0 m (zab m) p n wr E)\/(∃(V':MaV)(k C:Nat)(m':Ma),e=Xl (Xm #[Xi (mL V' m').toArray,I6 (k:Int),I6 0])/\zr5 m (zab m) p n wr k m'/\ChW w C w' V' m'))/\zc w w':=
 zqo V m p n wr w M d (zab m) (fun Q W C H Z B P U e v N _ h=>zfU v N B P h)
  (fun q i a t r l z h T X Q W C H v=>by
   obtain⟨D,b,c,u,F,G,K⟩:=zdR z r l;unfold jS at u;obtain⟨j,f⟩:∃j:Nat,a.file=(j:Int):=⟨a.file.toNat,Wm⟩;obtain⟨s,g⟩:∃s:Nat,a.base+(i:Int)-a.fr=(s:Int):=⟨(a.base+(i:Int)-a.fr).toNat,Wm⟩;have A:=zhk v d q i D b c a j s f g Wm Wm Wm t Xd wr (zjD (.inr Wm)) (fun _ B S R x y=>zfU x (qS [(q,i)] d (fun I A=>by rw[Yd.1 A];exact⟨c,D,b⟩)).1.rt B [(q,i)] y);have e:zab m q i a t wr=zcQ m t (j:Int) (s:Int) q i:=by
    unfold zab;rw[f,g]
   rw[e];exact A)
  (fun q i a t Y r l z h L=>by
   obtain⟨D,b,c,u,F,G,K⟩:=zdR z r l;rw[r,l,QK d b c]at h;exact(zkR d b c u F G h L).inTo)
structure zeX(wr:Bool)(m:Ma)(q n:Nat)(s:Sp)(a:Ar)(pg:Pg)(ic:Bool)(k:Nat)(m':Ma):Prop where
 sp:m.sp[q]?=Xa s
 n64:n<64
 ok:jS a
 on:zr s.aC n=qq a n
 may:(if wr=Xc then a.wr else a.rd)=Xc
 see:Z2 m (zr s.aC n) (ze s n)=(pgL pg,ic,0)
 rt:Rt m'
 aW:Sam (fun p j=>p=q/\j=n) m m'
 fsl:m'.fs.length=m.fs.length
 into:∃(s':Sp)(fr:Fr)(w:Bool),m'.sp[q]?=Xa s'/\m'.fs[k]?=Xa fr/\ze s' n=⟨1,(k:Int),w⟩/\fr.p=pg/\fr.r≠0/\(wr=Xc->w=Xc/\((fr.f=-1/\fr.r<=1)\/a.sh=Xc))/\(wr=Xd->0<=a.file->decide (fr.f<0)=ic)
theorem zqn(N:Rt m){n:Int}{wr:Bool}(a2:zr5 m (zab m) z n wr k m'):∃(q i:Nat)(s:Sp)(a:Ar)(pg:Pg)(h:Bool),z=(q:Int)/\n=(i:Int)/\zeX wr m q i s a pg h k m':=by
 obtain⟨q,i,a,pg,h,a5,y,w,A,B,a0,a1,u,x⟩:=a2;obtain⟨s,g,e,P,I,d,r⟩:=zdR A y w;rw[y,w,QK N g e]at B;have b:=zkR N g e P I d B a0;rw[<-a1]at b;generalize(jH m (zab m q i a pg wr) pg a h wr q i).2.2=mB at b u x;obtain⟨R,X,a8,j,F,S,T,l,G⟩:=b.into;rw[u]at F;cases F;have K:=(b.aW.sp q s R g j).2;have H:(zr R.aC i).sh=a.sh:=by rw[K,d];rfl
 have V:(zr s.aC i).sh=a.sh:=Rr d;have W:(zr s.aC i).file=a.file:=Rr d
 rw[V]at l;rw[W]at G;obtain⟨C,D,⟨a7,a4,E⟩,Q⟩:=zqJ b.rt j e u S wr (fun f=>⟨by
  rw[K,d];rw[kE f]at r;exact r,by rw[H];exact l f⟩)
 rw[H,<-x]at C D E Q;have:∃t,m'.sp[q]?=Xa t:=⟨_,gE (by rw[D.aI];exact(gS.1 j).1)⟩;obtain⟨t,p⟩:=this;have v:m'.fs.length=mB.fs.length:=by
  rw[x];unfold Jv;split
  ·show(mB.fs.set _ _).length=_
   grind
  grind
 have c:=Q t p;obtain⟨a3,Y,L,M,a6,Z⟩:=C.aO p e (by rw[c]);rw[c]at L;have:k=a3:=Int.ofNat.inj L;subst this;rw[E]at M;cases M;exact⟨q,i,s,a,pg,h,y,w,g,e,P,d,r,B,C,(b.aW.trans D).mono (fun _ _ U=>U.elim id False.elim),v.trans b.fsl,t,_,_,p,E,c,T,Z,fun f=>⟨by rw[f,Bool.or_true],l f⟩,G⟩
theorem zjK(N:ChW w0 k w V m)(q r:Nat)(a6:q<m.sp.length)(a7:r<m.sp.length)(n:Int)(a5:(Z6 m r n).kind=1->Zm m.fs m.aB (Z6 m r n).n 1=0):
  Xp prog 59 #[Xj (Xa ⟨k,0,Xb⟩),Xi #[I6 (q:Int),I6 n],Xi #[I6 (r:Int),I6 n]] w fun e w'=>(∃v,e=Xl v)/\Chg w0 k w V (JE m q r n) w':=by
 obtain⟨E,C⟩:=kA (Z6 m r n);have H:Xo (JE m q r n=jN (jN (Z4 m ⟨E.kind,E.n,Xd⟩ 1) r n ⟨E.kind,E.n,Xd⟩) q n ⟨E.kind,E.n,Xd⟩):=dD<|by rw[<-C.out];rfl
 have T:=dD N;have D:Xo (q<m.sp.length/\r<m.sp.length):=⟨a6,a7⟩;have aa:Xo (E.kind=1->Zm m.fs m.aB E.n 1=0):=show _->_ by rw[<-C.out];exact a5
 have B:=dD N.bA;clear N a6 a7 a5;obtain⟨X,c⟩:=kB ((w.alloc (Xk #[I6 (q:Int),I6 n] 95)).alloc (Xk #[I6 (r:Int),I6 n] 95));have R:=gD2 c;obtain⟨g,s⟩:=kA w.heap.size;have aj:Xo (zm X g 95 [I6 (q:Int),I6 n]):=dD<|by rw[<-c];exact(zm.aE w [I6 (q:Int),I6 n] _ s.symm).aA (za _ _)
 have L:Xo (zm X (g+1) 95 [I6 (r:Int),I6 n]):=dD<|by rw[<-c];exact zm.aE _ [I6 (r:Int),I6 n] _ (by have:=s.out;simp;omega)
 have K:=dD c;clear c;have a:=Qh (T.aA R) r D.2 n;rw[C.out]at a;go_enter func59,ntmps59;go_upto_region 1 with fail;rw[K.out,s.out];obtain⟨P,Q⟩:=L.box.k2;go_wp2_with fail;refine a.mono ?_;clear a P Q;rintro e Y⟨rfl,u⟩;have S:=dD (R.trans u);have ak:=dD (aj.aA u);have am:=dD (L.aA u);clear u;unfold enV;go_upto_region 3 with fail;obtain⟨a2,A⟩:=kA Y.heap.size;refine nW fun ah d=>?_;have x:=gP d;have z:=dD (S.trans x);have Z:=dD (ak.aA x);have an:=dD (am.aA x);have M:=xPT d A;have b:Xo (¬Dw k V g/\¬Dw k V (g+1)/\¬Dw k V a2):=dD<|by
  have aw:=bS S.out;have:=s.out;have:=A.out;exact⟨fun e=>Hm (B.out _ e),fun e=>Hm (B.out _ e),fun e=>Hm (B.out _ e)⟩
 have ab:=dD (T.aA z);have ae:Xo (qC (Dw k V) w ah):=show qC _ _ _ from qC.aA z.out;rw[A.out];clear d x;obtain⟨j,p,l⟩:=M.box.c3;have h:=zcS ab ⟨E.kind,E.n,Xd⟩ 1 aa.out;go_wp2_with fail;refine h.mono ?_;clear h j p l;rintro e au⟨⟨ax,rfl⟩,W,a8,i,t⟩;have ac:=dD a8;have F:=dD<|Chg.far z t;have f:Xo (¬Dw k W g/\¬Dw k W a2):=dD<|⟨fun e=>(t _ e).elim b.1 fun e=>Hm Z.box.lt,fun e=>(t _ e).elim b.2.2 fun e=>Hm M.box.lt⟩;have af:=dD<|ae.trans i;have al:=dD<|Z.aK i b.1;have a0:=dD<|an.aK i b.2.1;have a1:=dD<|M.aK i b.2.2;clear a8 t i;obtain⟨P,Q⟩:=a0.box.k2;obtain⟨j,p,l⟩:=a1.box.c3;have a:=Qi ac r (Rx zcg D.2) n ⟨E.kind,E.n,Xd⟩;go_wp2_with fail;refine a.mono ?_;clear a P Q j p l;rintro e av⟨⟨ay,rfl⟩,ar,a9,y,a3⟩;have ad:=dD a9;have G:=dD a3;have ag:=dD y;have I:=dD<|al.aK y f.1;have ao:=dD<|a1.aK y f.2;clear a9 a3 y;obtain⟨ap,aq⟩:=I.box.k2;obtain⟨j,p,l⟩:=ao.box.c3;have a:=Qi ad q (by rw[za9,zcg];exact D.1) n ⟨E.kind,E.n,Xd⟩;go_wp2_with fail;refine a.mono ?_;clear a ap aq j p l;rintro e ai⟨⟨az,rfl⟩,a4⟩;have U:Xo (Chg w0 k w V (JE m q r n) ai):=dD<|by rw[H.out];exact Chg.step af F (Chg.step ag G a4)
 clear a4;go_wp2;exact Wq U.out
theorem zco(u:ChW w0 k w V m)(q:Nat)(s:Sp)(I:m.sp[q]?=Xa s)(F:Nat)(h:Array Xq)(M:Nat->Ma)(a7:Enters prog F)(a9:M 0=m)
  (c:∀(p:Nat)(n:Int)W D,(qB s.tb Qt 64)[p]?=Xa n->ChW w0 k W D (M p)->(∀{b:Nat}{t:TypeId}{cs:List Xq},zm w b t cs->¬Dw k V b->zm W b t cs)->Xp prog F (#[I6 n]++h) W fun e w'=>(∃v,e=Xl v)/\Chg w0 k W D (M (p+1)) w'):
  Xp prog 57 #[Xj (Xa ⟨k,0,Xb⟩),I6 (q:Int),.func (.func F) #[] h] w fun e w'=>(∃v,e=Xl v)/\Chg w0 k w V (M (qB s.tb Qt 64).length) w':=by
 obtain⟨ae,G,ac,ad⟩:=u.sp;obtain⟨x,E⟩:∃x,ae[q]?=Xa x:=⟨_,gE (by rw[ac];exact(gS.1 I).1)⟩;have K:=dD<|ad q x s E I w (qC.refl _ _);have Z:=(gS.1 E).1;obtain⟨b6,S⟩:=kA ae.length;obtain⟨ay,b7,a⟩:=G.aG Wm;rw[S.out]at a Z;have b5:(q:Int)<(b6:Int):=Wm;have r:=u.box.box.c 10 rfl;rw[a]at r G;have z:ziN w ((Addr.mk ay 0 Xb).add (q*10)) x:=(G.one E).bO;rw[Xt,zA]at z;obtain⟨al,am,an,ao,ap,aq,ar,au,av,aw⟩:=z;have l:Xp prog 90 #[Xi #[x.t0.x,x.t1.x,x.t2.x,x.t3.x,x.t4.x,x.t5.x,x.t6.x,x.t7.x]] w fun e w'=>∃v,e=Xl v/\zb blE w.heap.size w' v (qB s.tb Qt 64)/\zc w w':=J0 x.tab s.tb w K.tb;have ah:=dD u.bA;have af:Xo (∀(g:Array Xq)(w:Xn),(callFunc F g).run prog w=.ok (.enter F g) w):=a7;have P:Xo (∀W,zc w W->Chg w0 k W V (M 0) W):=show∀W,_ from fun W b0=>by rw[a9];exact Chg.refl (u.aA b0) (zc.refl _)
 generalize Y:qB s.tb Qt 64=T at c l⊢;have R:=dD c;clear u I G ac ad E a a7 a9 c Y al am;go_enter func57,ntmps57;go_wp2_with fail;refine l.mono ?_;clear l an ao ap aq ar au av aw r;rintro e X⟨ba,rfl,f,a8⟩;have H:=dD a8;obtain⟨b8,b9,rfl⟩:=f.form;have a4:=dD<|f.new.aV ah.out;have y:=f.at.short;clear f a8;obtain⟨N,Q⟩:=kA T.length;rw[Q.out]at a4 y⊢;go_wp2;go_loopg[19] N (fun az a0 wr=>∃d:Nat,d<=N/\N-d<=az/\a0=I6 d/\Xo (Chg w0 k X V (M d) wr))
 exact⟨0,nZ _,Wm,rfl,P X H⟩;obtain⟨d,b3,b2,rfl,a3⟩:=hrel;obtain⟨D,a5,ab,a6⟩:=a3.out;have ag:=dD a5;have U:=dD ab;have L:=dD a6;clear a5 ab a6;by_cases j:d<N
 ·have B:=kC j
  obtain⟨n,a2⟩:∃n,Xo (T[d]?=Xa n):=⟨_,gE (Rx Q.out j)⟩;obtain⟨_,_,a,C⟩:=(a4 wr U).aX;simp only[vJ]at a;obtain⟨ak,i,A⟩:=C d n a2.out;have ax:=A wr (zc.refl _);rw[<-a.1]at i;subst i;clear a C A;go_wp2_with fail;rw[af.out];refine(R d n wr D a2 ag (fun b1 b4=>(b1.aA H).aK U b4)).mono ?_;clear ax;rintro e aj⟨⟨bb,rfl⟩,aa⟩;have ai:Xo (Chg w0 k X V (M (d+1)) aj):=dD<|Chg.step U L aa;clear aa;go_wp2;go_roundg (N-(d+1));exact⟨d+1,Wm,Wm,Gn,ai⟩;omega
 have B:=kD j;have:d=N:=Wm;subst this;have a1:Xo (Chg w0 k w V (M T.length) wr):=dD<|Rx Q.out (Chg.aH H a3.out);go_wp2;exact Wq a1.out
theorem zlN(h:ChW w0 k w V m)(q r:Nat)(f:q<m.sp.length)(g:r<m.sp.length)(n:Int)(d:(Z6 m r n).kind=1->Zm m.fs m.aB (Z6 m r n).n 1=0)(x y z:Nat)(i:Box w x [Xj (Xa ⟨k,0,Xb⟩)])(j:Box w y [I6 (q:Int)])(p:Box w z [I6 (r:Int)]):
  Xp prog 58 #[I6 n,Xj (Xa ⟨x,0,Xb⟩),Xj (Xa ⟨y,0,Xb⟩),Xj (Xa ⟨z,0,Xb⟩)] w fun e w'=>(∃v,e=Xl v)/\Chg w0 k w V (JE m q r n) w':=by have t:=i.c 0 rfl;have u:=j.c 0 rfl;have A:=p.c 0 rfl;have a:=zjK h q r f g n d;clear h f g i j p d;go_enter func58,ntmps58;go_wp2_with fail;refine a.mono ?_;rintro e l⟨⟨s,rfl⟩,c⟩;have b:Xo (Chg w0 k w V (JE m q r n) l):=c;clear c a;go_wp2;exact Wq b.out
theorem ChW.space{w2 n:Xn}(h:ChW w0 k w V m){xs:List SpV}{F j:Sli}(D:p<=m.sp.length)(s2:xs.length=m.sp.length)(s3:∀(i:Nat)x s,xs[i]?=Xa x->m.sp[i]?=Xa s->∀W,qC (Dr w0.heap.size k V) w W->ZC W x s)
  (C:zc w w1)(B:zb arE w.heap.size w1 (F.x) l)(E:zb ZP w0.heap.size w2 (j.x) (zbd xs p ⟨Xc,F,zJ,zJ,zJ,zJ,zJ,zJ,zJ,zJ⟩))(b:w1.grownBy w2 (V.sp.x).ownBlock)
  (G:∀g,(j.x).ownBlock=Xa g->(V.sp.x).ownBlock=Xa g\/w1.heap.size<=g)(v:w2.grownBy n (Xa k))(H:zm n k 102 (chL {V with sp:=j} m)):
  ChW w0 k n {V with sp:=j} {m with sp:=zbd m.sp p ⟨Xc,l,qG⟩}:=by
 have A:qC (Dw k V) w1 w2:=⟨b.os,b.tape,b.output,b.size,fun i N L=>b.block i N (fun e=>L (.inr (.inr (.inr e.symm))))⟩;have u:qC (Dw k V) w1 n:=A.trans (qC.grown v (.inl rfl));have M:∀p,Dw k {V with sp:=j} p->Dw k V p\/w1.heap.size<=p:=by
  rintro p(e|e|e|e);·exact .inl (.inl e)
  ·exact .inl (.inr (.inl e))
  ·exact .inl (.inr (.inr (.inl e)))
  exact(G p e).imp (fun e=>.inr (.inr (.inr e))) id
 have y:=h.aA C;have t:∀W,qC (Dr w0.heap.size k {V with sp:=j}) n W->qC (Dr w0.heap.size k V) w1 W:=fun W c=>ChW.key u M c;have d:∀W,qC (Dr w0.heap.size k {V with sp:=j}) n W->qC (Dr w0.heap.size k V) w W:=fun W c=>(qC.aA C).trans (t W c);refine⟨y.bP u,h.lo,H,(y.fs.grown b (fun g a e=>h.fS g a e)).grown v (fun g a e=>h.nf g a (by cases e;rfl)),(y.ca.grown b (fun g a e=>h.cS g a e)).grown v (fun g a e=>h.nc g a (by cases e;rfl)),⟨_,E.grown v (fun g a e=>?_),?_,fun i x s q f W c=>?_⟩,fun W c=>?_⟩
 ·have z:zm w2 k 102 (chL V m):=y.box.beside b (fun K e=>h.ns K e)
  cases e;exact E.ne z Dc _ a rfl
 ·show(zbd xs p _).length=(zbd m.sp p _).length
  rw[zdu Wm,zdu D,s2]
 ·have f:(zbd m.sp p ⟨Xc,l,qG⟩)[i]?=Xa s:=f;rw[QV Wm]at q;rw[QV D]at f;by_cases e:i=p;·rw[kE e]at q f;cases q;cases f;exact⟨rfl,B.new.aV h.drt W (t W c),B.cap,Js.nil _ _ _⟩
  rw[kF e]at q f;exact s3 i x s q f W (d W c)
 have r:=h.rest W (d W c);exact⟨r.sl,r.sb,r.sq,r.db,r.dq,r.fl⟩
theorem ChW.setP{w2:Xn}{g:Nat}(h:ChW w0 k w V m){xs:List SpV}{y:SpV}(s2:xs.length=m.sp.length)(s3:∀(i:Nat)x n,xs[i]?=Xa x->m.sp[i]?=Xa n->∀W,qC (Dr w0.heap.size k V) w W->ZC W x n)(f:oB V.sp g)
  (d:w.grownBy w2 (Xa g))(v:zb ZP w0.heap.size w2 (V.sp.x) (xs.set p y))(A:∀W,ZC W y s):ChW w0 k w2 V {m with sp:=m.sp.set p s}:=by
 have l:qC (Dw k V) w w2:=qC.grown d (.inr (.inr (.inr f)));have t:∀q,Dw k V q->Dw k V q\/w.heap.size<=q:=fun _ b=>.inl b;refine⟨h.bP l,h.lo,h.box.beside d (fun q e=>by cases e;exact h.ns g f),h.fs.grown d (fun q b e=>by cases e;exact h.fS _ b f),h.ca.grown d (fun q b e=>by cases e;exact h.cS _ b f),⟨xs.set p y,v,by simp[s2],fun i z u c a W j=>?_⟩,fun W j=>?_⟩
 ·have a:(m.sp.set p s)[i]?=Xa u:=a
  by_cases e:i=p;·grind
  rw[sN (fun h=>e h.symm)]at c a;exact s3 i z u c a W (ChW.key l t j)
 have r:=h.rest W (ChW.key l t j);exact⟨r.sl,r.sb,r.sq,r.db,r.dq,r.fl⟩
theorem znR(V m)(p:Int)(w)(b2:zK w V m)(bw:maW m=0)(a7:∀q s,zaX m p q s->qB s.tb Qt 64=[]):
  Xp prog 52 #[Xi (mL V m).toArray,I6 p] w fun e w'=>zqj m p e w'/\zc w w':=by
 obtain⟨Q,b⟩:=kB (((w.alloc (Xk (mL V m).toArray 41)).alloc (Xk #[I6 p] 3)).alloc (Xk zM.toArray 41));have bl:Xo (zc w Q):=dD<|by rw[<-b];exact((za _ _).trans (za _ _)).trans (za _ _)
 obtain⟨c,F⟩:=kA w.heap.size;have bp:Xo (zm Q c 41 (mL V m)):=dD<|by rw[<-b];exact((zm.aE w (mL V m) _ F.symm).aA (za _ _)).aA (za _ _)
 have bq:Xo (zm Q (c+1) 3 [I6 p]):=dD<|by rw[<-b];exact(zm.aE _ [I6 p] _ (by have:=F.out;simp;omega)).aA (za _ _)
 have cd:Xo (zm Q (c+1+1) 41 qA):=dD<|by rw[<-b];exact zm.aE _ qA _ (by have:=F.out;simp;omega)
 have c8:=dD b2;have ao:=dD b;clear b;have a3:=zad V m p Q (b2.aA bl) bw;have c7:=dD a7;clear b2 bw a7;go_enter func52,ntmps52;go_upto_region 1 with fail;rw[ao.out,F.out];obtain⟨b9,ba,bb,bc,bd,be,bf,bg,bh,bi,D⟩:=bp.box.aY;have bj:=bq.box.c 0 rfl;go_wp2_with fail;refine a3.mono ?_;clear a3 b9 ba bb bc bd be bf bg bh bi D bj;rintro e x⟨a7,W⟩;have af:=dD (bl.trans W);have ca:=dD (bp.aA W);have cb:=dD (bq.aA W);have av:=dD (cd.aA W);clear W;rcases a7 with⟨rfl,a8⟩|⟨rfl,a8⟩;case inr=>
  have ah:=dD a8;clear a8;have b6:∀b8∈qA,b8.oneCell'=Xc:=by simp[qA,Value.oneCell']
  go_wp2_with(refine zP rfl 41 (.tmp 4) (.tmp 13) rfl (c+1+1) rfl qA rfl av rfl Kr b6 ?_)
  intro c9 T X _;have c6:Xo (zc w c9):=dD<|zd af X (Hm F.out);have c4:=dD T;clear T X;go_wp2;refine bodyPost_ret (qI rfl _ rfl c4.box underlying41 rfl Kr) rfl ⟨.inl ⟨ah,rfl⟩,c6⟩
 obtain⟨q,s,cl,a2,b1⟩:=a8;subst cl;have aj:=dD a2;have ai:=dD b1;have N:=dD<|c7.out q s ⟨rfl,a2,b1⟩;clear a2 b1;have a0:=zkN V m x (c8.aA af);obtain⟨b9,ba,bb,bc,bd,be,bf,bg,bh,bi,D⟩:=ca.box.aY;go_wp2_with fail;refine a0.mono ?_;clear a0 b9 ba bb bc bd be bf bg bh bi D;rintro e bo⟨r,bn,rfl,H⟩;go_upto_region 5 with fail;obtain⟨t,ag⟩:=kA bo.heap.size;refine nW fun d2 i=>?_;have ax:=gP i;have z:=H.gr.trans ax;have bm:=dD<|H.aA ax;have ad:=xPT i ag;have br:=dD (cb.aA z);have ce:=dD (av.aA z);have a:Xo (c+1+1<x.heap.size/\r<t/\(∀k,Dw r bn k->x.heap.size<=k/\k<t)):=show _/\_ by
  have:=ag.out;exact⟨av.box.lt,Hm (H.bA r (.inl rfl)),fun k b0=>⟨H.dlo k b0,Hm (H.bA k b0)⟩⟩
 rw[ag.out];clear i ax z H;have Z:=zco bm q s aj 86 #[Xj (Xa ⟨t,0,Xb⟩),Xj (Xa ⟨c+1,0,Xb⟩)] (fun _=>m) (enters_of func86 Kr rfl) rfl (fun d6 d8 ar d1 bz=>by(try unfold Sli.x at bz);rw[N.out]at bz;cases bz);have ck:∀(bv:Fn)(first U:Array Xq)(w:Xn),(Instr.makeFunc bv first U).run prog w=.ok (.func bv first U) w:=fun _ _ _ _=>rfl;have aw:=ad.box.c 0 rfl;have bj:=br.box.c 0 rfl;go_wp2_with fail;refine Z.mono ?_;clear Z aw bj;rintro e S⟨⟨d9,rfl⟩,n,bu,a9,bt⟩;have l:∀k,k<x.heap.size\/k=t->¬Dw r bn k:=fun k b0 a6=>Hm (a.2.2 k a6);have aq:=dD bu;have bk:Xo (zm S t 92 [Xj (Xa ⟨r,0,Xb⟩)]):=show zm _ _ _ _ from ad.aK a9 (l _ (.inr rfl));have cc:Xo (zm S (c+1) 3 [I6 (q:Int)]):=dD<|br.aK a9 (l _ (.inl (Hm a.1)));have cf:Xo (zm S (c+1+1) 41 qA):=dD<|ce.aK a9 (l _ (.inl a.1));have an:Xo (∀g,oB n.sp g->g≠t/\x.heap.size<=g):=dD<|fun g cj=>by
  have d4:=ad.box.lt;have d5:=bS bm.gr;rcases bt g (.inr (.inr (.inr cj)))with a6|a6;·have:=a.2.2 g a6;omega
  omega
 have P:=dD<|(gS.1 aj).1;clear l bu a9 bt;go_upto_region 6 with fail;obtain⟨c3,aa,c0,c1⟩:=aq.sp;obtain⟨c2,u⟩:=kA c3.length;obtain⟨g,ch,j⟩:=aa.aG (Hm P.out);(try unfold Sli.x at j);rw[u.out]at j;have cm:(q:Int)<(c2:Int):=by have:=u.out;have:=P.out;omega
 have f:=dD j;rw[j]at aa;have ak:=dD aa;have al:=dD c0;have am:=dD c1;clear aa c0 c1 j;obtain⟨v,M⟩:=Ww fun ab=>zc S ab;have A:=(M _).2 (gW _);have a1:∀y:zh v,y.world.cell? ⟨r,10,Xb⟩=Xa (O (Xa ⟨g,0,Xb⟩) c2 ch):=fun y=>by(try unfold Sli.x);rw[<-f.out];exact(aq.box.box.aA ((M _).1 y.holds)).c 10 rfl
 have ay:=fun y:zh v=>(bk.box.aA ((M _).1 y.holds)).c 0 rfl;have b5:=fun y:zh v=>(cc.box.aA ((M _).1 y.holds)).c 0 rfl;have b4:Nonempty (zh v):=⟨⟨_,A⟩⟩;refine zH (I:=v) 8 [] (fun _=>True) A trivial zY Kr rfl rfl Dc Sm Kr ?_;simp only[Xu,Xv];refine zg ?_;refine zQ (.tmp 21) ⟨r,0,Xb⟩ rfl rfl rfl rfl ?_;refine Uq ?_;iterate 6 refine zg ?_
 refine qE fun d3 Y _=>?_;have G:=(M _).1 Y;refine z3 (E:=ZP) rfl (.tmp 28) (.tmp 27) rfl x.heap.size _ c3 (ak.aA G) g q rfl ⟨Xd,zJ,zJ,zJ,zJ,zJ,zJ,zJ,zJ,zJ⟩ (by rw[u.out];omega) ⟨g,q*10,Xb⟩ rfl rfl spz rfl rfl ?_;intro au C h _;(try unfold Sli.x at C);rw[<-f.out]at C;have B:oB n.sp g:=show(n.sp.x).ownBlock=Xa g by(first|rw[f.out]|rw[show O _ _ _=_ from f.out]|(unfold Sli.x;rw[f.out]));rfl
 have a5:Xo (ChW x r au n (zqT m q)):=dD<|(aq.aA G).setP al (fun co cz s cn a2 ar ci=>am.out co cz s cn a2 ar ((qC.aA G).trans ci)) B h C (fun ar=>⟨rfl,zq.nil _ _,nR _,Js.nil _ _ _⟩);have b3:=a.1;have az:=an.out g B;have c5:Xo (zm au t 92 [Xj (Xa ⟨r,0,Xb⟩)]):=dD<|(bk.aA G).beside h (fun k e=>by cases e;omega);have cg:Xo (zm au (c+1+1) 41 qA):=dD<|(cf.aA G).beside h (fun k e=>by cases e;omega);clear C h Y G A b4 a1 ay b5 B b3 az;obtain⟨a4,L⟩:=kA (zqT m q);(try unfold Sli.x at a5);rw[L.out]at a5;have ap:Xo (∀b8∈chL n a4,b8.oneCell'=Xc):=dD<|by simp[chL,Value.oneCell']
 have aw:=c5.box.c 0 rfl;obtain⟨cp,cq,cr,cs,ct,cu,cv,cw,cx,cy,b7⟩:=a5.box.box.aY;go_wp2_with(refine zP rfl 41 (.tmp 4) (.tmp 32) rfl (c+1+1) rfl (chL n a4) rfl cg rfl Kr ap.out ?_)
 clear aw cp cq cr cs ct cu cv cw cx cy b7;intro R bs d _;have ae:Xo (zc w R):=dD<|zd (af.trans a5.gr) d (Hm F.out);have ac:=dD bs;have ah:Xo (zK R n a4):=show zK _ _ _ from a5.doneD (qC.grown d (show _<_ from a.1));have K:Xo (zlX m q s=a4):=dD<|by unfold zlX;(try unfold Sli.x);rw[N.out,<-L.out];rfl
 clear bs d;go_wp2;refine bodyPost_ret (qI rfl _ rfl ac.box underlying41 rfl Kr) rfl ⟨.inr ⟨q,s,⟨rfl,aj,ai⟩,n,?_,?_⟩,ae⟩;·(try unfold Sli.x);rw[K.out];rfl
 (try unfold Sli.x);rw[K.out];exact ah.out
def zj6(m:Ma)(p:Int)(w:Xn)(e:Ending)(w':Xn):Prop:=
 ((∀q s,¬zaX m p q s)/\e=Xl (Xm #[Xi qA.toArray,Xe Xf 0,Xe Xf 5]))\/
 ∃q s k,zaX m p q s/\Vac m.sp k/\((k=4/\e=Xl (Xm #[Xi qA.toArray,Xe Xf 0,Xe Xf 4]))\/(k<4/\∃V':MaV,e=Xl (Xm #[Xi #[O V'.f.a V'.f.n V'.f.c,Xe Xf (zaN m k q s).aB,O V'.s.a V'.s.n V'.s.c,O V'.sb.a V'.sb.n V'.sb.c,O V'.sq.a V'.sq.n V'.sq.c,O V'.db.a V'.db.n V'.db.c,O V'.dq.a V'.dq.n V'.dq.c,O V'.fl.a V'.fl.n V'.fl.c,Xe Xf (zaN m k q s).cnt,O V'.ca.a V'.ca.n V'.ca.c,O V'.sp.a V'.sp.n V'.sp.c],Xe Xf (k:Int),Xe Xf 0])/\∀W,qC (fun k=>k<w.heap.size) w' W->zK W V' (zaN m k q s)))
def zqh(m:Ma)(p:Int):Prop:=∀k q s,zaX m p q s->Vac m.sp k->k<4->∀(j:Nat)(n:Int),(qB s.tb Qt 64)[j]?=Xa n->
 (Z6 (QU (Z5 m k s) k q ((qB s.tb Qt 64).take j)) q n).kind=1->Zm (QU (Z5 m k s) k q ((qB s.tb Qt 64).take j)).fs (QU (Z5 m k s) k q ((qB s.tb Qt 64).take j)).aB (Z6 (QU (Z5 m k s) k q ((qB s.tb Qt 64).take j)) q n).n 1=0
theorem znD(V:MaV)(m:Ma)(p:Int)(w)(d2:zK w V m)(P:maW m=0)(fe:m.sp.length<=4)(ej:zqh m p):
  Xp prog 20 #[Xi #[O V.f.a V.f.n V.f.c,Xe Xf m.aB,O V.s.a V.s.n V.s.c,O V.sb.a V.sb.n V.sb.c,O V.sq.a V.sq.n V.sq.c,O V.db.a V.db.n V.db.c,O V.dq.a V.dq.n V.dq.c,O V.fl.a V.fl.n V.fl.c,Xe Xf m.cnt,O V.ca.a V.ca.n V.ca.c,O V.sp.a V.sp.n V.sp.c],Xe Xf p] w fun e w'=>zj6 m p w e w'/\zc w w':=by
 obtain⟨au,G⟩:=kB (((w.alloc (Xk #[O V.f.a V.f.n V.f.c,Xe Xf m.aB,O V.s.a V.s.n V.s.c,O V.sb.a V.sb.n V.sb.c,O V.sq.a V.sq.n V.sq.c,O V.db.a V.db.n V.db.c,O V.dq.a V.dq.n V.dq.c,O V.fl.a V.fl.n V.fl.c,Xe Xf m.cnt,O V.ca.a V.ca.n V.ca.c,O V.sp.a V.sp.n V.sp.c] 41)).alloc (Xk #[Xe Xf p] 3)).alloc (Xk #[O Xb 0 0,Xe Xf 0,O Xb 0 0,O Xb 0 0,O Xb 0 0,O Xb 0 0,O Xb 0 0,O Xb 0 0,Xe Xf 0,O Xb 0 0,O Xb 0 0] 41));have e4:Xo (zc w au):=dD<|by rw[<-G];exact((za _ _).trans (za _ _)).trans (za _ _)
 obtain⟨g,aa⟩:=kA w.heap.size;have e7:Xo (zm au g 41 [O V.f.a V.f.n V.f.c,Xe Xf m.aB,O V.s.a V.s.n V.s.c,O V.sb.a V.sb.n V.sb.c,O V.sq.a V.sq.n V.sq.c,O V.db.a V.db.n V.db.c,O V.dq.a V.dq.n V.dq.c,O V.fl.a V.fl.n V.fl.c,Xe Xf m.cnt,O V.ca.a V.ca.n V.ca.c,O V.sp.a V.sp.n V.sp.c]):=dD<|by rw[<-G];exact((zm.aE w [O V.f.a V.f.n V.f.c,Xe Xf m.aB,O V.s.a V.s.n V.s.c,O V.sb.a V.sb.n V.sb.c,O V.sq.a V.sq.n V.sq.c,O V.db.a V.db.n V.db.c,O V.dq.a V.dq.n V.dq.c,O V.fl.a V.fl.n V.fl.c,Xe Xf m.cnt,O V.ca.a V.ca.n V.ca.c,O V.sp.a V.sp.n V.sp.c] _ aa.symm).aA (za _ _)).aA (za _ _)
 have e9:Xo (zm au (g+1) 3 [Xe Xf p]):=dD<|by rw[<-G];exact(zm.aE _ [Xe Xf p] _ (by have:=aa.out;simp;omega)).aA (za _ _)
 have f5:Xo (zm au (g+1+1) 41 qA):=dD<|by rw[<-G];exact zm.aE _ qA _ (by have:=aa.out;simp;omega)
 have e5:=dD d2;have ew:=dD ej;have cm:Xo (_=au):=G;clear G;have bq:=zad V m p au (d2.aA e4) P;clear d2 P ej;go_enter func20,ntmps20;go_upto_region 1 with fail;rw[cm.out,aa.out];obtain⟨dn,dp,dq,dr,ds,dt,du,dv,dw,dx,T⟩:=e7.box.aY;have dy:=e9.box.c 0 rfl;go_wp2_with fail;refine bq.mono ?_;clear bq dn dp dq dr ds dt du dv dw dx T dy;rintro e e6⟨ff,M⟩;have cc:=dD (e4.trans M);have e8:=dD (e7.aA M);have f1:=dD (e9.aA M);have eb:=dD (f5.aA M);clear M;rcases ff with⟨rfl,c4⟩|⟨rfl,c4⟩;case inr=>
  have ci:=dD c4;clear c4;have aq:∀v∈qA,v.oneCell'=Xc:=by simp[qA,Value.oneCell']
  go_wp2_with(refine zP rfl 41 (.tmp 4) (.tmp 15) rfl (g+1+1) rfl qA rfl eb rfl Kr aq ?_)
  intro b9 bb bh _;have cd:Xo (zc w b9):=dD<|zd cc bh (Hm aa.out);have eq:=dD bb;clear bb bh;go_wp2;refine bodyPost_ret (zF rfl _ rfl eq.box underlying41 rfl Kr) rfl ⟨.inl ⟨ci,rfl⟩,cd⟩
 obtain⟨q,s,fl,em,el⟩:=c4;subst fl;have ac:=dD em;have W:=dD el;clear em el;have bp:=zk6 (O V.sp.a V.sp.n V.sp.c) m.sp e6 (e5.aA cc).sp;have T:=e8.box.c 10 rfl;go_wp2_with fail;refine bp.mono ?_;clear bp T;rintro e b9⟨⟨k,rfl,a8⟩,aw⟩;have a5:=dD a8;have fj:=nT a8.1 fe;have d1:zc e6 b9:=aw;clear a8;have cd:=dD<|cc.trans aw;have ez:=dD (e8.aA aw);have f2:=dD (f1.aA aw);have ec:=dD (eb.aA aw);clear aw d1;go_upto_region 5 with fail;obtain⟨c,cf⟩:=kA b9.heap.size;refine nW fun E a0=>?_;have bf:=gP a0;have c1:=dD<|cd.trans bf;have f0:=dD (ez.aA bf);have f3:=dD (f2.aA bf);have ed:=dD (ec.aA bf);have c9:=xPT a0 cf;have l:Xo (g+1+1<c):=dD<|by have:=ec.box.lt;have:=cf.out;omega
 rw[cf.out];clear a0 bf;have ef:=c9.box.c 0 rfl;by_cases Z:k=4
 ·have cw:((k:Int)==4)=Xc:=Rr Z
  have cj:=dD Z;clear Z;have aq:∀v∈qA,v.oneCell'=Xc:=by simp[qA,Value.oneCell']
  go_wp2_with(refine zP rfl 41 (.tmp 4) (.tmp 22) rfl (g+1+1) rfl qA rfl ed rfl Kr aq ?_)
  intro c2 bc bi _;have ev:Xo (zc w c2):=dD<|zd c1 bi (Hm aa.out);have er:=dD bc;clear bc bi ef;go_wp2;refine bodyPost_ret (zF rfl _ rfl er.box underlying41 rfl Kr) rfl ⟨.inr ⟨q,s,k,⟨rfl,ac,W⟩,a5,.inl ⟨cj,rfl⟩⟩,ev⟩
 have cw:((k:Int)==4)=Xd:=by
  have:(k:Int)≠4:=Wm;simpa using this
 have b1:Xo (k<4):=dD<|Wm;clear Z;have bn:=zkN V m E (e5.aA c1);obtain⟨dn,dp,dq,dr,ds,dt,du,dv,dw,dx,T⟩:=f0.box.aY;go_wp2_with fail;refine bn.mono ?_;clear bn dn dp dq dr ds dt du dv dw dx T ef;rintro e c2⟨r,a6,rfl,ax⟩;go_upto_region 8 with fail;obtain⟨H,ch⟩:=kA c2.heap.size;refine nW fun L a1=>?_;have ct:=gP a1;have X:=ax.gr.trans ct;have U:=dD<|ax.aA ct;have e0:=xPT a1 ch;have es:=dD (c9.aA X);have f4:=dD (f3.aA X);have f6:=dD (ed.aA X);have f:Xo (c<E.heap.size/\r<H/\(∀k,Dw r a6 k->E.heap.size<=k/\k<H)):=show _/\_ by
  have:=ch.out;exact⟨c9.box.lt,Hm (ax.bA r (.inl rfl)),fun k a8=>⟨ax.dlo k a8,Hm (ax.bA k a8)⟩⟩
 rw[ch.out];clear a1 ct X ax;obtain⟨c6,bw,dj,dk⟩:=U.sp;have bo:=(gS.1 ac).1;obtain⟨x,h⟩:∃x,c6[q]?=Xa x:=⟨_,gE (Rx dj bo)⟩;have ce:=dD<|dk q x s h ac L (qC.refl _ _);obtain⟨ay,K⟩:=kA c6.length;obtain⟨j,cu,a2⟩:=bw.aG Wm;(try unfold Sli.x at a2);rw[K.out]at a2;have fm:(q:Int)<(ay:Int):=Hm K.out;have C:Xo (O a6.sp.a a6.sp.n a6.sp.c=O (Xa ⟨j,0,Xb⟩) ay cu):=a2;rw[a2]at bw;have b4:=dD bw;have ck:=dD dj;have cl:=dD dk;have fq:=dD h;have b6:Xo (ay<=4/\k<=ay):=show _/\_ by have:=K.out;have:=a5.1;omega
 have b3:Xo (r≠j/\E.heap.size<=j):=dD<|by
  exact⟨U.ns j (by have P:=C.out;(try simp only[Sli.x]at P);unfold oB;rw[P];rfl),(b4.lt j rfl).1⟩
 have cg:Xo (∀a7,zc L a7->ziN a7 ⟨j,q*10,Xb⟩ x):=dD<|fun a7 cy=>by
  have:=((bw.aA cy).one h).bO;rw[Xt,zA]at this;exact this
 clear bw dj dk h a2 bo;obtain⟨b,d⟩:∃b:Xn->Prop,Xo (∀u,b u↔(zm u r 102 (chL a6 m)/\zm u H 92 [Xj (Xa ⟨r,0,Xb⟩)]/\zm u c 3 [Xe Xf (k:Int)]/\zm u (g+1) 3 [Xe Xf (q:Int)])):=⟨_,fun _=>Iff.rfl⟩;have A:b L.drew:=(d _).2 ⟨U.box.aA (gW _),e0.aA (gW _),es.aA (gW _),f4.aA (gW _)⟩;have Q:zc L L.drew:=show Below _ _ _ from(bR _ _).drew;have S:∀y:zh b,y.world.cell? ⟨r,10,Xb⟩=Xa (O (Xa ⟨j,0,Xb⟩) ay cu):=fun y=>by(try unfold Sli.x);rw[<-C.out];exact((d _).1 y.holds).1.box.c 10 rfl
 have ak:=fun y:zh b=>((d _).1 y.holds).2.1.box.c 0 rfl;have aj:=fun y:zh b=>((d _).1 y.holds).2.2.1.box.c 0 rfl;have dg:=fun y:zh b=>((d _).1 y.holds).2.2.2.box.c 0 rfl;have ao:Nonempty (zh b):=⟨⟨_,A⟩⟩;refine zH (I:=b) 22 [(15,fun v=>v=O x.ar.a x.ar.n x.ar.c),(16,fun v=>∃ar:Sli,v=O ar.a ar.n ar.c),(18,fun v=>∃ar:Sli,v=O ar.a ar.n ar.c)] (fun u=>zc L u) A Q zY Kr rfl rfl Dc (Sc ⟨_,rfl⟩ ⟨_,zJ,rfl⟩ ⟨_,zJ,rfl⟩) Kr ?_;simp only[Xu,Xv];iterate 2 refine zg ?_
 refine zQ (.tmp 26) ⟨r,0,Xb⟩ rfl rfl rfl rfl ?_;refine Uq ?_;iterate 5 refine zg ?_
 refine zQ (.tmp 32) ⟨r,0,Xb⟩ rfl rfl rfl rfl ?_;refine Uq ?_;iterate 6 refine zg ?_
 refine zy rfl rfl (fun _ u=>zc L u) (fun w' z a=>?_) (fun dl a3=>?_);·exact zfS 58 (.tmp 39) rfl j (q*10+1) rfl (O x.ar.a x.ar.n x.ar.c) (cg _ a).2.1 underlying58 rfl ⟨z,rfl,a⟩
 cases a3;refine Uq ?_;refine zy rfl rfl (fun v u=>zc L u/\zb arE L.heap.size u v s.aC) (fun w' z a=>?_) (fun dl a3=>?_);·refine zO.call [O x.ar.a x.ar.n x.ar.c] rfl func56 rfl rfl rfl ?_;refine(zeS _ s.aC w' (ce.aA a).ar).mono ?_;rintro e dm⟨fp,rfl,bu,M⟩;obtain⟨cr,cs,rfl⟩:=bu.form;obtain⟨br,bs,bt,dh⟩:=(d _).1 z;exact⟨_,rfl,(d _).2 ⟨br.aA M,bs.aA M,bt.aA M,dh.aA M⟩,⟨⟨cr,_,cs⟩,rfl⟩,a.trans M,bu.base (bS a)⟩
 obtain⟨a9,rfl⟩:=a3;refine Uq ?_;refine zg ?_;refine zy rfl rfl (fun v u=>∃bz,zc L bz/\zb arE L.heap.size bz (O a9.a a9.n a9.c) s.aC/\zb ZP E.heap.size u v (zbd c6 k ⟨Xc,a9,zJ,zJ,zJ,zJ,zJ,zJ,zJ,zJ⟩)/\bz.grownBy u (Xa j)/\∀ag,v.ownBlock=Xa ag->j=ag\/bz.heap.size<=ag) (fun w' z a=>?_) (fun dl a3=>?_)
 ·refine zO.call [O (Xa ⟨j,0,Xb⟩) ay cu,Xe Xf (k:Int),Xi #[Xh Xc,O a9.a a9.n a9.c,O Xb 0 0,O Xb 0 0,O Xb 0 0,O Xb 0 0,O Xb 0 0,O Xb 0 0,O Xb 0 0,O Xb 0 0]] rfl func55 rfl rfl rfl ?_;refine(zi8 E.heap.size _ c6 k ⟨Xc,a9,zJ,zJ,zJ,zJ,zJ,zJ,zJ,zJ⟩ w' (b4.aA a.1) (nT (bS U.gr) (bS a.1)) (Rx K.out b6.2) (Rx K.out b6.1)).mono ?_;rintro e dm⟨fp,rfl,bu,bg,f9⟩;obtain⟨br,bs,bt,dh⟩:=(d _).1 z;obtain⟨cr,cs,rfl⟩:=bu.form;obtain⟨an,d3,R⟩:=f.out;have bl:=l.out;have df:=b3.1;obtain⟨fh,fi⟩:=R j (.inr (.inr (.inr (by have P:=C.out;(try simp only[Sli.x]at P);unfold oB;rw[P];rfl))));have fc:H≠j:=Wm;have c3:c≠j:=Wm;have fd:g+1≠j:=Wm;exact⟨_,rfl,(d _).2 ⟨br.beside bg (fun k e=>by cases e;exact df),bs.beside bg (fun k e=>by cases e;exact fc),bt.beside bg (fun k e=>by cases e;exact c3),dh.beside bg (fun k e=>by cases e;exact fd)⟩,⟨⟨cr,_,cs⟩,rfl⟩,w',a.1,a.2,bu,bg,fun ag am=>(f9 ag am).imp (fun e=>by cases e;rfl) id⟩
 obtain⟨a4,rfl⟩:=a3;refine Uq ?_;refine zQ (.tmp 25) ⟨r,0,Xb⟩ rfl rfl rfl rfl ?_;refine Uq ?_;iterate 2 refine zg ?_
 refine qE fun ey bk cx=>?_
 obtain⟨ee,eh,eg,ep⟩:=(d _).1 bk;obtain⟨bz,Y,ba,bv,ah,af⟩:=cx;have cn:Xo (zm ey (g+1+1) 41 qA):=dD<|(f6.aA Y).beside ah (fun k e=>by
  cases e;have:=l.out;have:=f.1;have:=b3.2
  omega)
 have b2:Xo (∀x,Dw r {a6 with sp:=a4} x->E.heap.size<=x/\x≠H):=dD<|fun x h=>by
  obtain⟨an,d3,R⟩:=f.out;rcases h with rfl|h|h|h;·exact⟨U.lo,Wm⟩
  ·have:=R x (.inr (.inl h));exact⟨this.1,Wm⟩
  ·have:=R x (.inr (.inr (.inl h)));exact⟨this.1,Wm⟩
  rcases af x h with e|e
  ·subst e;have:=R j (.inr (.inr (.inr (by have P:=C.out;(try simp only[Sli.x]at P);unfold oB;rw[P];rfl))));exact⟨this.1,Wm⟩
  have cv:=bS Y;have fu:=bS U.gr;have fv:=e0.box.lt;exact⟨Wm,Wm⟩
 refine ZW rfl 39 (.tmp 46) (.tmp 43) rfl r 10 rfl (O a4.a a4.n a4.c) rfl [O a4.a a4.n a4.c] rfl ee (by simp[chL]) Kr (by simp[Value.oneCell']) ?_;intro av bd F _;have ex:Xo (ChW E r av {a6 with sp:=a4} (Z5 m k s)):=dD<|U.space a5.1 ck cl Y ba bv (Rx C.out ah) (by(try unfold Sli.x);rw[C.out];exact fun ag am=>(af ag am).imp (fun e=>Rr e) id) F bd;have ca:Xo (zm av H 92 [Xj (Xa ⟨r,0,Xb⟩)]):=dD<|eh.beside F (fun k e=>by cases e;have:=f.2.1;omega);have dz:Xo (zm av c 3 [Xe Xf (k:Int)]):=dD<|eg.beside F (fun k e=>by cases e;have:=f.1;have:=U.lo;omega);have ea:Xo (zm av (g+1) 3 [Xe Xf (q:Int)]):=dD<|ep.beside F (fun k e=>by cases e;have:=f.1;have:=l.out;have:=U.lo;omega);have f7:Xo (zm av (g+1+1) 41 qA):=dD<|cn.beside F (fun k e=>by cases e;have:=f.1;have:=l.out;have:=U.lo;omega);clear bk eh eg ep Y ba bv ah af A Q S ak aj dg ao ee bd F;go_upto_region 9 with fail;obtain⟨cp,t⟩:∃cp:MaV,Xo ((∀x,Dw r cp x->E.heap.size<=x/\x≠H)/\ChW E r av cp (Z5 m k s)):=⟨{a6 with sp:=a4},(show _/\_ from⟨b2,ex⟩)⟩;have bm:q≠k:=fun e=>by
  have cv:=a5.2.1 s (Ry e ac);(try unfold Sli.x at cv);rw[W.out]at cv;cases cv
 have b5:Xo ((Z5 m k s).sp[q]?=Xa s):=dD<|by show(zbd m.sp k _)[q]?=_;rw[QV a5.1,kF bm];exact ac.out
 have b0:Xo (k<(Z5 m k s).sp.length/\q<(Z5 m k s).sp.length):=dD<|by
  refine⟨?_,(gS.1 b5).1⟩;show k<(zbd m.sp k _).length;rw[zdu a5.1];omega
 clear bm;have al:=zco t.2 q s b5 58 #[Xj (Xa ⟨H,0,Xb⟩),Xj (Xa ⟨c,0,Xb⟩),Xj (Xa ⟨g+1,0,Xb⟩)] (fun di=>QU (Z5 m k s) k q ((qB s.tb Qt 64).take di)) (enters_of func58 Kr rfl) (by simp only[List.take_zero];rfl)
  (fun di n a7 ft ek fg ai=>by
   have an:=f.1;have bl:=l.out;refine(zlN fg k q (Rx zcz b0.1) (Rx zcz b0.2) n (ew k q s ⟨rfl,ac,W⟩ a5 b1 di n ek) H c (g+1) (ai ca (fun N=>(t.1 _ N).2 rfl)).box (ai dz (fun N=>Hm ((t.1 _ N).1))).box (ai ea (fun N=>Hm ((t.1 _ N).1))).box).mono ?_
   rintro e w'⟨a3,cz⟩;refine⟨a3,?_⟩;simp only[jU ek,zi7];exact cz)
 simp only[List.take_length]at al;have fk:∀(ei:Fn)(first be:Array Xq)(w:Xn),(Instr.makeFunc ei first be).run prog w=.ok (.func ei first be) w:=fun _ _ _ _=>rfl;have fb:=ca.box.c 0 rfl;have dy:=ea.box.c 0 rfl;go_wp2_with fail;refine al.mono ?_;clear al fb dy;rintro e ae⟨⟨fx,rfl⟩,ad,c3,c5,_⟩;have b8:Xo (ChW E r ae ad (zaN m k q s)):=c3;have eu:=dD<|ca.aK c5 (fun N=>(t.1 _ N).2 rfl);have et:Xo (zm ae c 3 [Xe Xf (k:Int)]):=dz.aK c5 (fun N=>by have:=(t.1 _ N).1;have:=f.1;omega);have f8:Xo (zm ae (g+1+1) 41 qA):=f7.aK c5 (fun N=>by have:=(t.1 _ N).1;have:=f.1;have:=l.out;omega);clear c3 c5;obtain⟨az,ab⟩:=kA (zaN m k q s);(try unfold Sli.x at b8);rw[ab.out]at b8;go_upto_region 10 with fail;obtain⟨b,d⟩:∃b:Xn->Prop,Xo (∀u,b u↔(zm u r 102 (chL ad az)/\zm u H 92 [Xj (Xa ⟨r,0,Xb⟩)]/\zm u c 3 [Xe Xf (k:Int)])):=⟨_,fun _=>Iff.rfl⟩;have A:b ae.drew:=(d _).2 ⟨b8.box.aA (gW _),eu.aA (gW _),et.aA (gW _)⟩;have Q:zc ae ae.drew:=show Below _ _ _ from(bR _ _).drew;have d4:=fun y:zh b=>((d _).1 y.holds).1.box.c 0 rfl;have d5:=fun y:zh b=>((d _).1 y.holds).1.box.c 1 rfl;have d6:=fun y:zh b=>((d _).1 y.holds).1.box.c 2 rfl;have d8:=fun y:zh b=>((d _).1 y.holds).1.box.c 3 rfl;have d9:=fun y:zh b=>((d _).1 y.holds).1.box.c 4 rfl;have da:=fun y:zh b=>((d _).1 y.holds).1.box.c 5 rfl;have db:=fun y:zh b=>((d _).1 y.holds).1.box.c 6 rfl;have dc:=fun y:zh b=>((d _).1 y.holds).1.box.c 7 rfl;have dd:=fun y:zh b=>((d _).1 y.holds).1.box.c 8 rfl;have de:=fun y:zh b=>((d _).1 y.holds).1.box.c 9 rfl;have S:=fun y:zh b=>((d _).1 y.holds).1.box.c 10 rfl;have ak:=fun y:zh b=>((d _).1 y.holds).2.1.box.c 0 rfl;have aj:=fun y:zh b=>((d _).1 y.holds).2.2.box.c 0 rfl;have ao:Nonempty (zh b):=⟨⟨_,A⟩⟩;have co:Xo (∀v∈chL ad az,v.oneCell'=Xc):=dD<|by simp[chL,Value.oneCell']
 refine zH (I:=b) 8 [(5,fun _=>True)] (fun u=>zc ae u) A Q zY Kr rfl rfl Dc (Sa ⟨undef,trivial⟩) Kr ?_;simp only[Xu,Xv];refine zg ?_;refine zQ (.tmp 51) ⟨r,0,Xb⟩ rfl rfl rfl rfl ?_;refine Uq ?_;iterate 3 refine zg ?_
 refine zy rfl rfl (fun _ u=>zc w u/\zm u (g+1+1) 41 (chL ad az)/\∀a7,qC (fun k=>k<w.heap.size) u a7->zK a7 ad az) (fun w' z a=>?_) (fun dl a3=>?_)
 ·refine zO.bH 41 (.tmp 4) (.tmp 54) rfl (g+1+1) rfl (chL ad az) rfl (f8.aA a) rfl Kr co.out ?_
  intro cq fa i eo;have bl:=l.out;have an:=f.1;have fo:=b8.lo;obtain⟨br,bs,bt⟩:=(d _).1 z;have en:=b8.aA a;have fw:=b8.bA;refine⟨(d _).2 ⟨br.beside i (fun k e=>by cases e;omega),bs.beside i (fun k e=>by cases e;have:=f.2.1;omega),bt.beside i (fun k e=>by cases e;omega)⟩,trivial,zd (c1.trans en.gr) i (Hm aa.out),fa,?_⟩;exact fun a7 cy=>en.doneD ((qC.grown (D:=fun k=>k<E.heap.size) i (show g+1+1<E.heap.size by omega)).trans (cy.wide fun k a8=>Ya a8 (bS c1)))
 clear a3;try simp only[Yq]
 iterate 2 refine zg ?_
 refine qE fun cq bj B=>?_;have cb:=dD B.1;have c8:=dD B.2.1;have ci:=dD B.2.2;clear bj B A Q ao d4 d5 d6 d8 d9 da db dc dd de S ak aj;go_wp2;refine bodyPost_ret (zF rfl _ rfl c8.box underlying41 rfl Kr) rfl ⟨.inr ⟨q,s,k,⟨rfl,ac,W⟩,a5,.inr ⟨b1,ad,?_,?_⟩⟩,cb⟩;·(try unfold Sli.x);rw[ab.out];rfl
 (try unfold Sli.x);rw[ab.out];exact ci.out
theorem zld(h:Rt m)(e:m.sp[k]?=Xa s)(d:p<64):(Z6 m k (p:Int)).kind=1->Zm m.fs m.aB (Z6 m k (p:Int)).n 1=0:=by
 have a:Z6 m k (p:Int)=ze s p:=by unfold Z6;rw[Sp.aJ e,Qq d]
 rw[a];intro j;obtain⟨q,g,f,b,l,n⟩:=h.aO e d j;obtain⟨r,t⟩:=h.refs b;have i:=(gS.1 b).1;have c:m.fs.getD q fr0=g:=by rw[gD,b];rfl
 unfold Zm;rw[kE h.parts.1,f,tN,c];grind[inB]
theorem znj(i:Rt m)(p:Int):zqh m p:=by
 intro k q s r b j x n c;obtain⟨-,d,t⟩:=r;have a:q≠k:=fun g=>by
  have y:=b.2.1 s (Ry g d);grind
 rw[ZL]at c⊢;rw[Ye]at c;obtain⟨w,l,rfl⟩:=Option.map_eq_some_iff.1 c;have h:(Z5 m k s).sp[k]?=Xa ⟨Xc,s.aC,qG⟩:=by show(zbd m.sp k _)[k]?=_;rw[QV b.1,kE rfl]
 have e:(Z5 m k s).sp[q]?=Xa s:=by show(zbd m.sp k _)[q]?=_;rw[QV b.1,kF a];exact d
 have v:=(zdX a ((qQ s).take x) (zgZ i d b j) h e rfl (ZE.1.sublist (List.take_sublist _ _)) (fun n f=>⟨(ZE.2 n (Yk f)).1,by rw[JL],(ZE.2 n (Yk f)).2⟩)).1;rw[<-List.map_take];have u:=(gS.1 e).1;exact zld v (gE (Rx zcz u)) (ZE.2 w (mG l)).1
theorem zj6.at{e:Ending}(i:zj6 m z w e w'):zqi m z e w':=i.imp id fun⟨q,s,k,b,c,d⟩=>⟨q,s,k,b,c,d.imp id fun⟨f,a,g,h⟩=>⟨f,a,g,h _ (qC.refl _ _)⟩⟩
theorem zib(V:MaV)(m:Ma)(p:Int)(w:Xn)(b:zK w V m)(a:Rt m):
  Xp prog 20 #[Xi (mL V m).toArray,I6 p] w fun e w'=>zqi m p e w'/\zc w w':=
 (znD V m p w b a.w a.inv.aI (znj a p)).mono fun _ _ h=>⟨h.1.at,h.2⟩
theorem zO.cD(c:o.op=.alloc 68)(h:N (Xj (Xa ⟨w.heap.size,0,Xb⟩)) (w.alloc (Xk (zD (tab fun _=>on0)).toArray 68))):zO prog o a w N:=by
 have b:=zbW w;generalize zD (tab fun _=>on0)=Z at b h;unfold zO;have:(execOp a.eval o).run prog w=.ok (.value (Xj (Xa ⟨w.heap.size,0,Xb⟩))) (w.alloc (Xk Z.toArray 68)):=by
  simp[execOp,c,go_sem,b]
 rw[this];exact h
theorem zO.oneArea(x)(b:o.op=.buildSlice 58 1 #[(0,x)])(q)(c:a.eval x=arA q)(h:N (O (Xa ⟨w.heap.size,0,Xb⟩) 1 1) (w.alloc (Xk (arv q).toArray 77))):zO prog o a w N:=by
 unfold zO;have:(execOp a.eval o).run prog w=.ok (.value (O (Xa ⟨w.heap.size,0,Xb⟩) 1 1)) (w.alloc (Xk (arv q).toArray 77)):=by
  simp only[execOp,b,Yf,mP,Yb,c];simp[go_sem,arA,arv]
 rw[this];exact h
theorem zO.val{v:Xq}(b:(execOp a.eval o).run prog w=.ok (.value v) w)(h:N v w):zO prog o a w N:=by unfold zO;rw[b];exact h
theorem zmS(x)(c:o.op=.load 77 x)(b:Nat)(d:a.eval x=Xj (Xa ⟨b,0,Xb⟩))(hb:Box w b (arv H)):(execOp a.eval o).run prog w=.ok (.value (arA H)) w:=by have:=run_loadAt_mid (P:=prog) w b 0 77 (arv H) _ hb.range underlying77 rfl zsO;simp only[execOp,c,d,Xz,this,rA,Xw];rfl
def zhU:List Oper:=[
 {dst:=some 23,op:=.move (.tmp 0),type:=58,pos:="ref.go:325",after:=#[],guard:=none},
 {dst:=some 24,op:=.call {callee:=.value (.func 16),args:=#[.tmp 23],argTypes:=#[58]},type:=68,pos:="ref.go:325",after:=#[{on:=0,ground:=.data}],guard:=none},
 {dst:=some 25,op:=.load 77 (.tmp 3),type:=77,pos:="ref.go:325",after:=#[],guard:=none},
 {dst:=some 26,op:=.buildSlice 58 1 #[(0,.tmp 25)],type:=58,pos:="ref.go:325",after:=#[{on:=2,ground:=.data}],guard:=none},
 {dst:=some 27,op:=.call {callee:=.value (.func 16),args:=#[.tmp 26],argTypes:=#[58]},type:=68,pos:="ref.go:325",after:=#[{on:=3,ground:=.data},{on:=1,ground:=.chain}],guard:=none},
 {dst:=some 8,op:=.alloc 68,type:=0,pos:="ref.go:325",after:=#[],guard:=none},
 {dst:=some 9,op:=.alloc 68,type:=0,pos:="ref.go:325",after:=#[],guard:=none},
 {dst:=none,op:=.store 68 (.tmp 8) (.tmp 24),type:=0,pos:="ref.go:325",after:=#[{on:=5,ground:=.data},{on:=1,ground:=.data},{on:=4,ground:=.chain},{on:=0,ground:=.phase},{on:=1,ground:=.phase},{on:=2,ground:=.textOnly .lateStores},{on:=3,ground:=.textOnly .lateStores},{on:=4,ground:=.textOnly .lateStoresUnsure},{on:=5,ground:=.phase},{on:=6,ground:=.phase}],guard:=none},
 {dst:=none,op:=.store 68 (.tmp 9) (.tmp 27),type:=0,pos:="ref.go:325",after:=#[{on:=6,ground:=.data},{on:=4,ground:=.data},{on:=7,ground:=.chain},{on:=0,ground:=.phase},{on:=1,ground:=.phase},{on:=2,ground:=.phase},{on:=3,ground:=.phase},{on:=4,ground:=.phase},{on:=5,ground:=.phase},{on:=6,ground:=.phase},{on:=7,ground:=.phase}],guard:=none}]
theorem zpa:∀c a d b e f g:Bool,(Yn .any zhU.toArray #[c,a,d,b,e,f,g,Xd,Xd]).isEmpty=Xd\/(e=Xc/\(a=Xd\/b=Xd))\/(a=Xc/\c=Xd)\/(b=Xc/\d=Xd):=by decide+kernel
theorem znb:∀c a d b e f g:Bool,(!((!a||c)&&(!b||d)&&(!e||(a&&b)))||(Yn .any zhU.toArray #[c,a,d,b,e,f,g,Xd,Xd]).all fun i=>(i==0&&!c)||(i==1&&!a&&c)||(i==2&&!d)||(i==3&&!b&&d)||(i==4&&!e&&a&&b)||(i==5&&!f)||(i==6&&!g)||(i==7&&c&&a&&d&&b&&e&&f&&g))=Xc:=by decide+kernel
theorem zpb(l0 l1 l2 l3 l4 l5 l6:Bool)(i:Nat)(a:l1=Xc->l0=Xc)(b:l3=Xc->l2=Xc)(c:l4=Xc->l1=Xc/\l3=Xc)(hi:i∈Yn .any zhU.toArray #[l0,l1,l2,l3,l4,l5,l6,Xd,Xd]):(i=0/\l0=Xd)\/(i=1/\l1=Xd/\l0=Xc)\/(i=2/\l2=Xd)\/(i=3/\l3=Xd/\l2=Xc)\/(i=4/\l4=Xd/\l1=Xc/\l3=Xc)\/(i=5/\l5=Xd)\/(i=6/\l6=Xd)\/(i=7/\l0=Xc/\l1=Xc/\l2=Xc/\l3=Xc/\l4=Xc/\l5=Xc/\l6=Xc):=by
 have d:((!l1||l0)&&(!l3||l2)&&(!l4||(l1&&l3)))=Xc:=by
  cases l0<;>cases l1<;>cases l2<;>cases l3<;>cases l4<;>simp at a b c⊢
 have a:=znb l0 l1 l2 l3 l4 l5 l6;rw[d,Bool.not_true,Bool.false_or]at a;have h:=List.all_eq_true.1 a i hi;simpa[and_assoc,or_assoc]using h
structure zkY(W0:Xn)(v:Xq)(q:Ar)(O1 O2 Z0:List Xq)(l0 l1 l2 l3 l4 l5 l6:Bool)(t23 t24 t25 t26 t27 t8 t9:Xq)(W:Xn):Prop where
 g:zc W0 W
 h0:l0=Xc->t23=v
 h1:l1=Xc->t24=Xi O1.toArray
 h2:l2=Xc->t25=arA q
 h3:l3=Xc->zq arE W t26 [q]
 h4:l4=Xc->t27=Xi O2.toArray
 h5:l5=Xc->∃b,t8=Xj (Xa ⟨b,0,Xb⟩)/\Box W b Z0/\W0.heap.size<=b
 h6:l6=Xc->∃b,t9=Xj (Xa ⟨b,0,Xb⟩)/\Box W b Z0/\W0.heap.size<=b
 ne:l5=Xc->l6=Xc->t8≠t9
 c1:l1=Xc->l0=Xc
 c3:l3=Xc->l2=Xc
 c4:l4=Xc->l1=Xc/\l3=Xc
section
variable{W0:Xn}{v:Xq}{q:Ar}{O1 O2 Z0:List Xq}{l0 l1 l2 l3 l4 l5 l6:Bool}{t23 t24 t25 t26 t27 t8 t9:Xq}{W W':Xn}
theorem zkY.aA(h:zkY W0 v q O1 O2 Z0 l0 l1 l2 l3 l4 l5 l6 t23 t24 t25 t26 t27 t8 t9 W)(k:zc W W'):zkY W0 v q O1 O2 Z0 l0 l1 l2 l3 l4 l5 l6 t23 t24 t25 t26 t27 t8 t9 W':=
 ⟨h.g.trans k,h.h0,h.h1,h.h2,fun e=>(h.h3 e).aA k,h.h4,fun e=>by obtain⟨b,x,y,z⟩:=h.h5 e;exact⟨b,x,y.aA k,z⟩,fun e=>by obtain⟨b,x,y,z⟩:=h.h6 e;exact⟨b,x,y.aA k,z⟩,h.ne,h.c1,h.c3,h.c4⟩
def Jw(l0 l1 l2 l3 l4 l5 l6:Bool):Nat:=(!l0).toNat+(!l1).toNat+(!l2).toNat+(!l3).toNat+(!l4).toNat+(!l5).toNat+(!l6).toNat
theorem zlv{pa:Nat}(A:Xq->Xq->Xq->Xq->Xq->Xq->Xq->Act)
  (am:∀c d e b f i j,(A c d e b f i j).eval (.tmp 0)=v)(an:∀c d e b f i j,(A c d e b f i j).eval (.tmp 3)=Xj (Xa ⟨pa,0,Xb⟩))
  (I:∀c d e b f i j,(A c d e b f i j).eval (.tmp 23)=c)(a0:∀c d e b f i j,(A c d e b f i j).eval (.tmp 24)=d)(a1:∀c d e b f i j,(A c d e b f i j).eval (.tmp 25)=e)(a2:∀c d e b f i j,(A c d e b f i j).eval (.tmp 26)=b)(a3:∀c d e b f i j,(A c d e b f i j).eval (.tmp 27)=f)(ao:∀c d e b f i j,(A c d e b f i j).eval (.tmp 8)=i)(ap:∀c d e b f i j,(A c d e b f i j).eval (.tmp 9)=j)
  (ae:∀c d e b f i j y,(A c d e b f i j).put (Xa 23) y=A y d e b f i j)(af:∀c d e b f i j y,(A c d e b f i j).put (Xa 24) y=A c y e b f i j)(ag:∀c d e b f i j y,(A c d e b f i j).put (Xa 25) y=A c d y b f i j)(ah:∀c d e b f i j y,(A c d e b f i j).put (Xa 26) y=A c d e y f i j)(ai:∀c d e b f i j y,(A c d e b f i j).put (Xa 27) y=A c d e b y i j)(b7:∀c d e b f i j y,(A c d e b f i j).put (Xa 8) y=A c d e b f y j)(ba:∀c d e b f i j y,(A c d e b f i j).put (Xa 9) y=A c d e b f i y)
  (aj:∀c d e b f i j y,(A c d e b f i j).put Xb y=A c d e b f i j)
  (b4:zq arE W0 v l)(b1:zrv l)(ay:jS q)(hb:Box W0 pa (arv q))
  (aw:∀W B C b,B≠C->zc W0 W->Box W B (zD (tab (zr l)))->Box W C (zD (tab (zr [q])))->W0.heap.size<=B->W0.heap.size<=C->Q .normal (A v (Xi (zD (tab (zr l))).toArray) (arA q) b (Xi (zD (tab (zr [q]))).toArray) (Xj (Xa ⟨B,0,Xb⟩)) (Xj (Xa ⟨C,0,Xb⟩))) W)
  (c d e b f i j:Xq):(Code.region id zhU.toArray Xc).wp prog Q (A c d e b f i j) W0:=by
 have a6:(zD (tab (zr l))).length=384:=Zj _;have a7:(zD (tab (zr [q]))).length=384:=Zj _;have X:(zD (tab fun _=>on0)).length=384:=Zj _;have aa:∀W,zc W0 W->Xp prog 16 #[v] W fun x m=>x=Xl (Xi (zD (tab (zr l))).toArray)/\zc W m:=fun W ax=>Zo v l W (b4.aA ax) b1;have ab:∀W Y,zq arE W Y [q]->Xp prog 16 #[Y] W fun x m=>x=Xl (Xi (zD (tab (zr [q]))).toArray)/\zc W m:=fun W Y b3=>Zo Y [q] W b3 (zpf ay);have ac:=JP (tab (zr l));have ad:=JP (tab (zr [q]));have M:∀W:Xn,Box (W.alloc (Xk (zD (tab fun _=>on0)).toArray 68)) W.heap.size (zD (tab fun _=>on0)):=fun W=>Box.aE _ _ _ rfl;generalize zD (tab (zr l))=H at*;generalize zD (tab (zr [q]))=V at*;have T:∀(U:Nat)(s t u w n p r:Bool)(c d e b f i j:Xq)(W:Xn),Jw s t u w n p r=U->zkY W0 v q H V (zD (tab fun _=>on0)) s t u w n p r c d e b f i j W->wpAnyH prog .any zhU.toArray Q (fun _=>True) (U+2) #[s,t,u,w,n,p,r,Xd,Xd] (A c d e b f i j) W:=by
  intro U;induction U with
  |zero=>
   intro s t u w n p r c d e b f i j W h g;obtain⟨rfl,rfl,rfl,rfl,rfl,rfl,rfl⟩:s=Xc/\t=Xc/\u=Xc/\w=Xc/\n=Xc/\p=Xc/\r=Xc:=by
    revert h;unfold Jw;cases s<;>cases t<;>cases u<;>cases w<;>cases n<;>cases p<;>cases r<;>simp
   obtain⟨B,rfl,a8,P⟩:=g.h5 rfl;obtain⟨C,rfl,a9,R⟩:=g.h6 rfl;have F:B≠C:=fun x=>g.ne rfl rfl (by rw[x]);obtain rfl:=g.h0 rfl;obtain rfl:=g.h1 rfl;obtain rfl:=g.h2 rfl;obtain rfl:=g.h4 rfl;refine wpAnyH_all (rs:=[7]) Kr Sm ?_;intro b6 N;rw[Yd]at N;subst N;refine ZX Xb (fun _ m=>Box m B H/\Box m C (zD (tab fun _=>on0))/\zc W0 m) rfl rfl rfl (zO.storeAll 68 (.tmp 8) (.tmp 24) rfl B (ao ..) H (a0 ..) a8 (by rw[a6,X]) (Rx X zsR) ac (fun m Z K bb=>⟨Z,a9.grown K (fun x=>F x.symm),zd g.g K P⟩)) ?_;rintro y bc⟨ar,L,au⟩;rw[aj];refine⟨trivial,?_⟩;refine wpAnyH_all (rs:=[8]) Kr Sm ?_;intro b6 N;rw[Yd]at N;subst N;refine ZX Xb (fun _ m=>Box m B H/\Box m C V/\zc W0 m) rfl rfl rfl (zO.storeAll 68 (.tmp 9) (.tmp 27) rfl C (ap ..) V (a3 ..) L (by rw[a7,X]) (Rx X zsR) ad (fun m Z K bb=>⟨ar.grown K F,Z,zd au K R⟩)) ?_;rintro y ak⟨av,a4,a5⟩;rw[aj];refine⟨trivial,?_⟩;exact wpAnyH_done Kr (aw ak B C _ F a5 av a4 P R) _
  |succ U G=>
   intro s t u w n p r c d e b f i j W h g;refine⟨fun aq=>?_,fun b5 b0=>?_⟩
   ·rcases zpa s t u w n p r with k|⟨k,z⟩|⟨k,z⟩|⟨k,z⟩
    ·rw[aq]at k;cases k
    ·have:=g.c4 k
     rcases z with z|z;·rw[this.1]at z;cases z
     rw[this.2]at z;cases z
    ·rw[g.c1 k]at z;cases z
    rw[g.c3 k]at z;cases z
   rcases zpb s t u w n p r b5 g.c1 g.c3 g.c4 b0 with⟨rfl,rfl⟩|⟨rfl,rfl,rfl⟩|⟨rfl,rfl⟩|⟨rfl,rfl,rfl⟩|⟨rfl,rfl,rfl,rfl⟩|⟨rfl,rfl⟩|⟨rfl,rfl⟩|⟨rfl,rfl,rfl,rfl,rfl,rfl,rfl,rfl⟩
   ·refine ZX (Xa 23) (fun y m=>y=v/\m=W) rfl rfl rfl (zO.val (v:=v) (by rw[<-am c d e b f i j];rfl) ⟨rfl,rfl⟩) ?_
    rintro y m⟨rfl,rfl⟩;rw[ae];refine⟨trivial,G Xc t u w n p r _ _ _ _ _ _ _ _ (by unfold Jw at h⊢;simp at h⊢;omega) ⟨g.g,fun _=>rfl,g.h1,g.h2,g.h3,g.h4,g.h5,g.h6,g.ne,fun _=>rfl,g.c3,g.c4⟩⟩
   ·refine ZX (Xa 24) (fun y m=>y=Xi H.toArray/\zc W m) rfl rfl rfl (zO.call [v] rfl func16 rfl rfl (by rw[mP,Yb,I,g.h0 rfl]) ((aa W g.g).mono (fun x m k=>⟨_,k.1,rfl,k.2⟩))) ?_
    rintro y m⟨rfl,D⟩;rw[af];have a:=g.aA D;refine⟨trivial,G Xc Xc u w n p r _ _ _ _ _ _ _ _ (by unfold Jw at h⊢;simp at h⊢;omega) ⟨a.g,a.h0,fun _=>rfl,a.h2,a.h3,a.h4,a.h5,a.h6,a.ne,fun _=>rfl,a.c3,fun k=>⟨rfl,(a.c4 k).2⟩⟩⟩
   ·refine ZX (Xa 25) (fun y m=>y=arA q/\m=W) rfl rfl rfl (zO.val (v:=arA q) (zmS (.tmp 3) rfl pa (an ..) (hb.aA g.g)) ⟨rfl,rfl⟩) ?_
    rintro y m⟨rfl,rfl⟩;rw[ag];refine⟨trivial,G s t Xc w n p r _ _ _ _ _ _ _ _ (by unfold Jw at h⊢;simp at h⊢;omega) ⟨g.g,g.h0,g.h1,fun _=>rfl,g.h3,g.h4,g.h5,g.h6,g.ne,g.c1,fun _=>rfl,g.c4⟩⟩
   ·refine ZX (Xa 26) (fun y m=>zq arE m y [q]/\zc W m) rfl rfl rfl (zO.oneArea (.tmp 25) rfl q (by rw[a1,g.h2 rfl]) ⟨Zp arE W q _ _ rfl (by show 40<=_;omega),za _ _⟩) ?_
    rintro y m⟨b2,D⟩;rw[ah];have a:=g.aA D;refine⟨trivial,G s t Xc Xc n p r _ _ _ _ _ _ _ _ (by unfold Jw at h⊢;simp at h⊢;omega) ⟨a.g,a.h0,a.h1,a.h2,fun _=>b2,a.h4,a.h5,a.h6,a.ne,a.c1,fun _=>rfl,fun k=>⟨(a.c4 k).1,rfl⟩⟩⟩
   ·refine ZX (Xa 27) (fun y m=>y=Xi V.toArray/\zc W m) rfl rfl rfl (zO.call [b] rfl func16 rfl rfl (by rw[mP,Yb,a2]) ((ab W b (g.h3 rfl)).mono (fun x m k=>⟨_,k.1,rfl,k.2⟩))) ?_
    rintro y m⟨rfl,D⟩;rw[ai];have a:=g.aA D;refine⟨trivial,G s Xc u Xc Xc p r _ _ _ _ _ _ _ _ (by unfold Jw at h⊢;simp at h⊢;omega) ⟨a.g,a.h0,a.h1,a.h2,a.h3,fun _=>rfl,a.h5,a.h6,a.ne,a.c1,a.c3,fun _=>⟨rfl,rfl⟩⟩⟩
   ·refine ZX (Xa 8) (fun y m=>y=Xj (Xa ⟨W.heap.size,0,Xb⟩)/\Box m W.heap.size (zD (tab fun _=>on0))/\zc W m) rfl rfl rfl (zO.cD rfl ⟨rfl,M W,za _ _⟩) ?_
    rintro y m⟨rfl,E,D⟩;rw[b7];have a:=g.aA D;refine⟨trivial,G s t u w n Xc r _ _ _ _ _ _ _ _ (by unfold Jw at h⊢;simp at h⊢;omega) ⟨a.g,a.h0,a.h1,a.h2,a.h3,a.h4,fun _=>⟨_,rfl,E,bS g.g⟩,a.h6,fun _ a5=>?_,a.c1,a.c3,a.c4⟩⟩;obtain⟨al,rfl,L,_⟩:=g.h6 a5;intro x;cases x;exact absurd L.lt (Ym _)
   ·refine ZX (Xa 9) (fun y m=>y=Xj (Xa ⟨W.heap.size,0,Xb⟩)/\Box m W.heap.size (zD (tab fun _=>on0))/\zc W m) rfl rfl rfl (zO.cD rfl ⟨rfl,M W,za _ _⟩) ?_
    rintro y m⟨rfl,E,D⟩;rw[ba];have a:=g.aA D;refine⟨trivial,G s t u w n p Xc _ _ _ _ _ _ _ _ (by unfold Jw at h⊢;simp at h⊢;omega) ⟨a.g,a.h0,a.h1,a.h2,a.h3,a.h4,a.h5,fun _=>⟨_,rfl,E,bS g.g⟩,fun a4 _=>?_,a.c1,a.c3,a.c4⟩⟩;obtain⟨al,rfl,L,_⟩:=g.h5 a4;intro x;cases x;exact absurd L.lt (Ym _)
   unfold Jw at h;simp at h
 refine wp_region_held (S:=fun _=>True) zY ?_;have az:zc W0 {W0 with drawn:=W0.drawn+1}:=show Below _ _ _ from Below.drew (bR _ _);exact T 7 Xd Xd Xd Xd Xd Xd Xd c d e b f i j _ rfl ⟨az,fun k=>(by cases k),fun k=>(by cases k),fun k=>(by cases k),fun k=>(by cases k),fun k=>(by cases k),fun k=>(by cases k),fun k=>(by cases k),fun k=>(by cases k),fun k=>(by cases k),fun k=>(by cases k),fun k=>(by cases k)⟩
end
def zsm(R:List Ar×Int)(w:Xn)(e:Ending)(w':Xn):Prop:=(∃u,e=Xl (Xm #[u,Xe Xf R.2])/\zb arE w.heap.size w' u R.1)/\zc w w'
def zfV(l:List Ar)(a:Ar)(k:Nat):Nat->On:=fun j=>if j<k/\Qb a j=Xc then qq a j else zr l j
theorem zpO(l a):zfV l a 0=zr l:=by funext j;unfold zfV;rw[kF Wm]
theorem zrW(l a)(k:Nat):zfV l a k k=zr l k:=by unfold zfV;rw[kF Wm]
theorem zq9(h:Qb H k=Xc):upd (zfV l H k) k (qq H k)=zfV l H (k+1):=by grind[upd,zfV,Qb]
theorem zpP(h:Qb H k=Xd):zfV l H k=zfV l H (k+1):=by grind[zfV,Qb,Nat.lt_or_ge]
theorem zra(l a):tab (zfV l a 64)=tab (zjq l a):=zqq fun k b=>by grind[zfV,zjq,Qb]
theorem zp3(a)(k:Nat):zr [a] k=if Qb a k=Xc then qq a k else on0:=rfl
theorem zm2(a)(k:Nat):(zr [a] k).is=Qb a k:=by
 rw[zp3];cases h:Qb a k with
 |true=>rfl
 |false=>rfl
theorem zrO(c:k<64)(h:Qb H k=Xc)(b:(zr l k).is=Xc):zoE l H.fr (H.tz-H.fr)=Xc:=zpm.2 ⟨k,c,Hm (q7.1 h),b⟩
theorem zpl(h:∀k,k<64->Qb H k=Xc->(zr l k).is=Xd):zoE l H.fr (H.tz-H.fr)=Xd:=zqO.2 fun k b c=>h k b (q7.2 Wm)
def Frk(w0:Xn)(hi b:Nat)(w:Xn)(vl:Sli)(L:List Int)(m:Ma)(l:List Ar)(w':Xn):Prop:=∃V' m' vt' T',Mk w0 hi w' b vl L V' m' vt' T'/\zR hi w w'/\qT m' T'/\(m'.sp=m.sp++[⟨Xc,l,qG⟩]/\m'.fl=m.fl/\m'.aB=m.aB/\m'.fs.length=m.fs.length)
theorem zeI(p x t)(r:o.op=.store t p x)(base:Nat)(v:Xq)(l:List α)(b:zb E base w v l)
  (g i j:Nat)(m:v.ownBlock=Xa g)(e y:α)(hi:l[i]?=Xa e)(cs:List Xq)(q:(Tryz.prog.info? t).map (·.size)=Xa cs.length)(z:E.enc y=splice (E.enc e) j cs)(n:j+cs.length<=E.k)(k:∀u∈cs,u.oneCell'=Xc)
  (ad:Addr)(hp:a.eval p=Xj (Xa ad))(d:ad=⟨g,i*E.k+j,Xb⟩)(c:Xq)(s:a.eval x=c)(f:c.cells=cs.toArray)
  (h:∀w',zb E base w' v (l.set i y)->w.grownBy w' (Xa g)->w'.heap.size=w.heap.size->N undef w'):zO prog o a w N:=by grind[zbk,zeJ]
theorem Mk.entry(h:Mk w0 hi w b vl L V m vt T)(hp:zm w k 55 D)(f:hi<=k)(a:w.grownBy w' (Xa k)):Mk w0 hi w' b vl L V m vt T:=by
 have d:b≠k:=fun e=>by
  subst e;have k:w.heap[b]?=_:=h.box;rw[show w.heap[b]?=_ from hp]at k;cases k
 have r:=h.rows;obtain⟨k,g,i,j,cs,l,n,p,q⟩:=r.kept a hp;exact⟨zd h.gr a (nT r.bh f),h.hb,h.box.beside a (fun f e=>by cases e;exact d),h.lr,h.lc,h.lb,⟨nT r.hw a.size,r.bh,k Dc,g (.inl Dc),r.bB,i (.inl Dc),r.bJ,r.sq,j (.inl Dc),r.bG,cs Dc,l Dc (.inl Dc),n Dc,p Dc Dc,q Dc,r.ap⟩⟩
theorem zpy(s0:Sp)(fn:Mk w0 hi w b vl L V m vt T)(d4:qT m T)(bz:m.sp=[s0]):
  Xp prog 26 #[Xj (Xa ⟨b,0,Xb⟩)] w fun e w'=>(∃v,e=Xl v)/\Frk w0 hi b w vl L m s0.aC w':=by
 have ah:=dD fn;have h8:=dD d4;have f3:=dD bz;obtain⟨H,rfl⟩:∃H,T=[H]:=Yh.1 (by rw[d4.tl,bz];rfl);obtain⟨j0,fz,g0,g3⟩:=fn.rows.sp;obtain⟨s,rfl⟩:∃s,j0=[s]:=Yh.1 (by rw[g0,bz];rfl);obtain⟨ce,eo,bq⟩:=fz.aG Sm;have bq:V.sp.x=(O (Xa ⟨ce,0,Xb⟩) 1 eo):=bq;have b4:=dD bq;have dq:Xo (zb ZP w0.heap.size w (V.sp.x) [s]):=fz;have i0:=dD g0;have i4:=dD g3;have g5:Xo (zb arE w0.heap.size w s.ar.v s0.aC):=(g3 0 s s0 rfl (Rr bz)).2.1;have dk:Xo ((wrL s0.aC).1=0):=(d4.aP s0 (by rw[bz];simp)).1;have de:Xo (∀dr,zb arE w0.heap.size dr s.ar.v s0.aC->Xp prog 16 #[s.ar.x] dr fun e w'=>e=Xl (Xi (zD (tab (zr s0.aC))).toArray)/\zc dr w'):=dD<|fun dr ii=>Zo s.ar.v s0.aC dr ii.at (jJ.1 dk).2.cG;have gm:=zbW;obtain⟨gh,dl⟩:=kA (zD (tab fun _=>on0));rw[dl.out]at gm;have dm:Xo (gh.length=384):=dD<|by rw[<-dl.out,Zj]
 have df:Xo ((zD (tab (zr s0.aC))).length=384):=Zj _;have dg:Xo (∀v∈zD (tab (zr s0.aC)),v.oneCell'=Xc):=JP _;have d9:Xo (∀c,c<64->(zD (tab (zr s0.aC)))[c*6+3]?=Xa (Xh (zr s0.aC c).sh)):=show∀c,_ from fun c fu=>Qs (zau fu) 3 _ rfl;generalize zD (tab (zr s0.aC))=ap at de df dg d9;clear fn d4 bz fz g0 g3 bq;go_enter func26,ntmps26;try go_upto_region 0 with fail
 obtain⟨h,l⟩:=Ww fun d=>zm d b 81 [vl.x,V.f.x,I6 m.aB,V.s.x,V.sb.x,V.sq.x,V.db.x,V.dq.x,V.fl.x,I6 m.cnt,V.ca.x,V.sp.x,vt.x]/\zb ZP w0.heap.size d (O (Xa ⟨ce,0,Xb⟩) 1 eo) [s];have j:h w.drew:=(l _).2 ⟨ah.box.aA (gW _),by rw[<-b4.out];exact dq.aA (gW _)⟩;have bc:∀a:zh h,a.world.cell? ⟨b,11,Xb⟩=Xa (O (Xa ⟨ce,0,Xb⟩) 1 eo):=fun a=>by
  have:=((l _).1 a.holds).1.box.c 11 rfl;rw[b4.out]at this;exact this
 have cp:∀a:zh h,a.world.cell? ⟨ce,1,Xb⟩=Xa (s.ar.x):=fun a=>by
  have:=((l _).1 a.holds).2.one (i:=0) (x:=s) rfl 1 _ rfl;rw[zX,Xt]at this;exact this
 have ab:Nonempty (zh h):=⟨⟨_,j⟩⟩;refine zH (I:=h) 20 [(15,fun v=>∃P,v=O (Xa ⟨P,0,Xb⟩) 1 1),(16,fun v=>∃P i9,v=O (Xa ⟨P,0,Xb⟩) 2 i9)] (fun d=>zc w d) j (gW _) zY Kr rfl rfl Dc (Sb ⟨_,0,rfl⟩ ⟨_,0,0,rfl⟩) Kr ?_;simp only[Xu,Xv];iterate 2 refine zg ?_
 refine zQ (.tmp 6) ⟨b,0,Xb⟩ rfl rfl rfl rfl ?_;refine Uq ?_;iterate 4 refine zg ?_
 refine zQ (.tmp 11) ⟨b,0,Xb⟩ rfl rfl rfl rfl ?_;refine Uq ?_;iterate 7 refine zg ?_
 refine zy rfl rfl (fun v d=>zc w d/\zq ZP d v [⟨Xc,s.ar,zJ,zJ,zJ,zJ,zJ,zJ,zJ,zJ⟩]) (fun w' b9 b8=>?_) (fun gp et=>?_);·obtain⟨eu,cq⟩:=(l _).1 b9;refine zO.step (v:=O (Xa ⟨w'.heap.size,0,Xb⟩) 1 1) (w':=w'.alloc (Xk #[Xh Xc,s.ar.x,eS,eS,eS,eS,eS,eS,eS,eS] 63)) (by clear bc cp;simp only[execOp];go_simp) ⟨(l _).2 ⟨eu.aA (za _ _),cq.aA (za _ _)⟩,⟨_,rfl⟩,b8.trans (za _ _),Zp ZP w' ⟨Xc,s.ar,zJ,zJ,zJ,zJ,zJ,zJ,zJ,zJ⟩ _ _ rfl Dc⟩
 obtain⟨fl,rfl⟩:=et;refine Uq ?_;refine zy rfl rfl (fun v d=>∃ex,zc w ex/\ex.grownBy d (Xa ce)/\zb ZP w0.heap.size d v [s,⟨Xc,s.ar,zJ,zJ,zJ,zJ,zJ,zJ,zJ,zJ⟩]) (fun w' b9 b8=>?_) (fun gp et=>?_)
 ·obtain⟨eu,cq⟩:=(l _).1 b9;obtain⟨ec,fx⟩:=b8;obtain⟨j3,gq,eb,gl,e5,fu⟩:=qP (E:=ZP) (w:=w') 39 cq (O (Xa ⟨fl,0,Xb⟩) 1 1) [⟨Xc,s.ar,zJ,zJ,zJ,zJ,zJ,zJ,zJ,zJ⟩] fx (by show(1+1)*224<=_;omega) (nT (bS ah.gr) (bS ec));obtain⟨ic,ia,rfl⟩:=gl.aG Sm;refine zO.step (v:=O (Xa ⟨ic,0,Xb⟩) 2 ia) (w':=gq) ?_ ⟨(l _).2 ⟨zm.row cq e5 eu Dc,fu _ [s] (nR _) cq⟩,⟨_,_,rfl⟩,w',ec,e5,gl⟩;clear bc cp;simp only[execOp,resolve,invoke,builtin,pure_bind,Xz,Xw,Yf,mP,Yb];exact Eq.trans (congrArg (fun r=>Result.andThen r (fun d1 w'=>Result.ok (Next.value d1) w')) eb) rfl
 obtain⟨bj,bw,rfl⟩:=et;refine Uq ?_;refine zQ (.tmp 5) ⟨b,0,Xb⟩ rfl rfl rfl rfl ?_;refine Uq ?_;iterate 2 refine zg ?_
 refine qE fun aq dy fp=>?_;obtain⟨ex,b6,cd,cu⟩:=fp;have c2:=dD<|((l _).1 dy).1;have af:ex.grownBy aq (V.sp.x).ownBlock:=Rx b4.out cd
 have hy:Xo (MkR w0.heap.size hi aq {V with sp:=⟨Xa ⟨bj,0,Xb⟩,2,bw⟩} {m with sp:=m.sp++[⟨Xc,s0.aC,qG⟩]} vt [H]):=(ah.rows.aA b6).addSp (dq.aA b6) i0 (fun i x iv cm bz=>by
  obtain⟨i6,i7,i8⟩:=i4.out i x iv cm bz;exact⟨i6,i7.aA b6,i8⟩) af ⟨Xa ⟨bj,0,Xb⟩,2,bw⟩ s.ar (g5.aA b6) cu
 have gz:=dD<|zc.row (dq.aA b6) af (ah.gr.trans b6);have f8:Xo (zR hi w aq):=(zR.aA b6).trans (zR.row (dq.aA b6) af (fun iu cj=>cj.2.2.2.2.2.2.1 rfl));have gu:Xo (zb arE w0.heap.size aq s.ar.v s0.aC):=dD<|by
  obtain⟨j2,ij⟩:=(dq.aA b6).obj (g:=ce) (Rr b4.out);exact(g5.aA b6).kind cd ij Dc
 have hh:=dD cu;clear b6 cd af cu dy j bc cp ab;have bu:=c2.box.c 11 rfl;rw[b4.out]at bu;have bv:=c2.box.f;go_upto_region 1 with fail;clear bu bv;obtain⟨ca,bn⟩:=kB (aq.setCell ⟨b,11,Xb⟩ (O (Xa ⟨bj,0,Xb⟩) 2 bw));have a9:aq.grownBy ca (Xa b):=by rw[<-bn];exact jV _ _ _ _
 have ga:Xo (Mk w0 hi ca b vl L {V with sp:=⟨Xa ⟨bj,0,Xb⟩,2,bw⟩} {m with sp:=m.sp++[⟨Xc,s0.aC,qG⟩]} vt [H]):=dD<|⟨zd gz a9 ah.hb,ah.hb,by rw[<-bn];exact c2.set 11 _,ah.lr,ah.lc,ah.lb,hy.var a9 c2 a9.size (.inl rfl)⟩;have h9:=dD<|f8.trans (zR.kind a9 c2 (fun _ cj=>absurd rfl cj.1));have gv:Xo (zb arE w0.heap.size ca s.ar.v s0.aC):=gu.kind a9 c2 Dc;have hn:Xo (zb ZP w0.heap.size ca (O (Xa ⟨bj,0,Xb⟩) 2 bw) [s,⟨Xc,s.ar,zJ,zJ,zJ,zJ,zJ,zJ,zJ,zJ⟩]):=hh.kind a9 c2 Dc;rw[bn];clear bn a9;have b2:Xo (w0.heap.size<=b/\zq byE w0 (vl.x) L/\vl.n<=vl.c/\∀ax∈L,0<=ax/\ax<256):=dD<|⟨ah.hb,ah.lr,ah.lc,ah.lb⟩;have bu:ca.cell? ⟨b,11,Xb⟩=Xa (O (Xa ⟨bj,0,Xb⟩) 2 bw):=ga.box.box.c 11 rfl;have iz:ca.cell? ⟨bj,1,Xb⟩=Xa (s.ar.x):=by
  have:=hn.one (i:=0) (x:=s) rfl 1 _ rfl;rw[zX,Xt]at this;exact this
 have e9:=de.out ca gv.out;go_wp2_with fail;refine e9.mono ?_;clear e9 bu iz;rintro e em⟨rfl,fm⟩;obtain⟨ao,dh⟩:=kA em.heap.size;have hg:=dD (ga.aA fm);have ha:=dD (h9.trans (zR.aA fm));clear fm;go_upto_region 2 with(refine zP rfl 68 (.tmp 2) (.tmp 33) rfl em.heap.size rfl ap rfl (zm.aE em gh 68 rfl) (by rw[df.out,dm.out]) (Rx dm.out zsR) dg.out ?_)
 intro fh fi gj iw;have cc:zc em fh:=zd (za _ _) gj (nR _);have ej:=dD (hg.aA cc);have hb:=dD (ha.trans (zR.aA cc));rw[dh.out]at fi⊢;have hq:=dD fi;clear fi gj iw cc gm;try simp only[Yq]
 have be:=ej.box.box.c 12 rfl;have di:=dD<|bS ej.gr;go_wp2_with(at_builtin;refine zw (E:=zdk) rfl (.tmp 38) (.tmp 40) rfl w0.heap.size _ [H] rfl (ej.rows.tt.aA (za _ _)) _ [fun _=>en0] rfl (Zp zdk fh (fun _=>en0) _ _ rfl Dc) ?qb ?qc ?_)
 case qb=>
  show(1+1)*1536<=_;omega
 case qc=>exact nT di (bS (za _ _))
 intro j4 bg cv du;obtain⟨X,ar,rfl⟩:=cv.aG Sm;have c0:zb zdk w0.heap.size bg (O (Xa ⟨X,0,Xb⟩) 2 ar) ([H]++[fun _=>en0]):=cv;obtain⟨i5,ch⟩:=kB (fh.alloc (Xk (zdk.enc (fun _=>en0)).toArray 56));have er:=gP ch;have F:i5.grownBy bg (vt.x).ownBlock:=Ry ch du;clear du ch cv;have Z:=ej.aA er;have cy:Xo (zm bg b 81 [vl.x,V.f.x,I6 m.aB,V.s.x,V.sb.x,V.sq.x,V.db.x,V.dq.x,V.fl.x,I6 m.cnt,V.ca.x,O (Xa ⟨bj,0,Xb⟩) 2 bw,vt.x]):=zm.row Z.rows.tt F Z.box Dc;have ff:=dD<|Z.rows.addT F ⟨Xa ⟨X,0,Xb⟩,2,ar⟩ c0;have h0:=dD<|zc.row Z.rows.tt F Z.gr;have f9:=dD<|(hb.trans (zR.aA er)).trans (zR.row Z.rows.tt F (fun iu cj=>cj.2.2.2.2.2.2.2.1 rfl));have el:Xo (zm bg ao 68 ap):=zm.row Z.rows.tt F (hq.aA er) Dc;clear F c0 er be;have be:=cy.box.c 12 rfl;have bv:=cy.box.f;go_upto_region 3 with fail;clear be bv;obtain⟨cb,bo⟩:=kB (bg.setCell ⟨b,12,Xb⟩ (O (Xa ⟨X,0,Xb⟩) 2 ar));have am:bg.grownBy cb (Xa b):=by rw[<-bo];exact jV _ _ _ _
 obtain⟨p,dj⟩:∃p:Sli,Xo (p=⟨Xa ⟨X,0,Xb⟩,2,ar⟩):=⟨_,rfl⟩;obtain⟨ai,f5⟩:∃ai:MaV,Xo (ai={V with sp:=⟨Xa ⟨bj,0,Xb⟩,2,bw⟩}):=⟨_,rfl⟩;obtain⟨bs,c6⟩:∃bs:Ma,Xo (bs={m with sp:=m.sp++[⟨Xc,s0.aC,qG⟩]}):=⟨_,rfl⟩;have dn:Xo (Mk w0 hi cb b vl L ai bs p [H,fun _=>en0]):=dD<|by
  rw[dj.out,f5.out,c6.out];exact⟨zd h0 am b2.1,b2.1,by rw[<-bo];exact cy.set 12 _,b2.2.1,b2.2.2.1,b2.2.2.2,ff.var am cy am.size (.inl rfl)⟩
 have fa:=dD<|f9.trans (zR.kind am cy (fun _ cj=>absurd rfl cj.1))
 have P9:Xo (zm cb ao 68 ap):=el.beside am (fun P e=>by
  cases e;intro e;have K:bg.heap[ao]?=_:=el.out;rw[e,show bg.heap[b]?=_ from cy.out]at K
  cases K)
 have f1:Xo (qT bs [H,fun _=>en0]):=dD<|by
  rw[c6.out];exact h8.space dk (by rw[f3.out];simp)
 have f4:Xo (bs.sp=[s0,⟨Xc,s0.aC,qG⟩]/\bs.fl=m.fl/\bs.aB=m.aB/\bs.fs.length=m.fs.length):=dD<|by
  rw[c6.out];exact⟨by show m.sp++_=_;rw[f3.out];rfl,rfl,rfl,rfl⟩
 have n:Xo (p.x=O (Xa ⟨X,0,Xb⟩) 2 ar):=dD<|by rw[dj.out]
 rw[bo];clear bo am;have be:cb.cell? ⟨b,12,Xb⟩=Xa (O (Xa ⟨X,0,Xb⟩) 2 ar):=by rw[<-n.out];exact dn.box.box.c 12 rfl
 have ea:cb.rangeAt X 0 (qN (tab H)):=fun an v gk=>by
  have cl:=dn.rows.tt;(first|rw[n.out]at cl|rw[show O _ _ _=_ from n.out]at cl);have:=cl.one (i:=0) (x:=H) rfl an v gk;rw[zX,Xt]at this;simpa using this
 go_wp2_with(refine wpList_load_mid rfl 56 (.tmp 48) rfl X 0 rfl (qN (tab H)) _ ea underlying56 rfl (by rw[QO,Ju];exact zsV) ?_)
 clear ea be;have dd:Xo (∀{ed:Array Oper}{c1:List Oper}{o:Oper}{d1:Act}{w:Xn}{ge:Exit->Act->Xn->Prop}(_:o.guard=Xb)(x ev:Operand)(_:o.op=.index 56 x ev)(_:d1.eval x=Xi (qN (tab H)).toArray)(i:Nat)(_:d1.eval ev=I6 (i:Int))(_:i<64){e:En}(_:H i=e)
  (_:wpList prog ed ge c1 (d1.put o.dst (Xi #[I6 e.kind,I6 e.n,Xh e.wr])) w),wpList prog ed ge (o::c1) d1 w):=fun K x ev aw a6 i es dw _ d2 d3=>zbQ K x ev aw (tab H) a6 i es dw (by rw[zau dw,d2]) d3
 generalize qN (tab H)=j1 at dd⊢;go_wp2;go_loopg[50] 64 (fun ie bd wr=>∃(f:Nat)(q:Ma)(C:List (Nat->En))(a4 av:Nat->En),f<=64/\64-f<=ie/\bd=I6 f/\Xo (Mk w0 hi wr b vl L ai q p C)/\Xo (zR hi w wr)/\Xo (qT q C)/\Xo (q.sp=[s0,⟨Xc,s0.aC,qG⟩]/\q.fl=m.fl/\q.aB=m.aB/\q.fs.length=m.fs.length)/\Xo (C[0]?=Xa a4/\C[1]?=Xa av/\(∀an,f<=an->a4 an=H an/\av an=en0))/\Xo (zm wr ao 68 ap))
 exact⟨0,bs,_,H,fun _=>en0,nZ _,Wm,rfl,dn,fa,f1,f4,(show _/\_ from⟨rfl,rfl,fun _ _=>⟨rfl,rfl⟩⟩),P9⟩;obtain⟨f,q,C,a4,av,im,il,rfl,fc,fb,c3,D,ad,hw⟩:=hrel;by_cases aa:f<64
 ·have e8:(f:Int)<64:=Wm
  obtain⟨b5,bx,au,da⟩:∃b5 bx au,Xo (H f=⟨b5,bx,au⟩):=⟨_,_,_,rfl⟩;have N:Xo (a4 f=⟨b5,bx,au⟩):=dD (by rw[(ad.2.2 f (nR _)).1];exact da.out);have c5:=dD<|(ad.2.2 f (nR _)).2;have f2:Xo (∀U,(((C.set 0 (jG a4 f U)).set 1 (jG av f U))[0]?=Xa (jG a4 f U)/\((C.set 0 (jG a4 f U)).set 1 (jG av f U))[1]?=Xa (jG av f U)/\(∀an,f+1<=an->jG a4 f U an=H an/\jG av f U an=en0))):=show∀U,_ from fun U=>by
   have ih:=(gS.1 ad.1).1;have d4:=(gS.1 ad.2.1).1;refine⟨?_,?_,fun an gk=>?_⟩
   ·rw[sN Dc]
    exact sF ih
   ·exact sF (Si d4)
   unfold jG;rw[kF Wm,kF Wm];exact ad.2.2 an Wm
  have ag:=c3.entry0 (s0:=s0) (Rr D.1) ad.1 aa;rw[N.out]at ag;obtain⟨ay,b0⟩:∃ay:Ma->En->Prop,Xo (∀B z,ay B z↔(qT B ((C.set 0 (jG a4 f z)).set 1 (jG av f z))/\B.sp=[s0,⟨Xc,s0.aC,qG⟩]/\B.fl=m.fl/\B.aB=m.aB/\B.fs.length=m.fs.length)):=⟨fun B z=>_,fun _ _=>Iff.rfl⟩;obtain⟨a0,b1⟩:∃a0:Ma->En->Prop,Xo (∀B z,a0 B z↔((z=⟨b5,bx,au⟩/\B=q/\b5=2)\/(z.kind≠2/\ay B z))):=⟨fun B z=>_,fun _ _=>Iff.rfl⟩;go_upto_region 6 with(refine dd rfl (.tmp 49) (.tmp 50) rfl rfl f rfl aa da.out ?_)
  obtain⟨R,c7⟩:=kA wr.heap.size;refine nW fun gf bl=>?_;have eq:=gP bl;have d7:=xPT bl c7;have cz:=dD (fc.aA eq);have f6:=dD (fb.trans (zR.aA eq));have fd:=dD (hw.aA eq);have db:Xo (hi<=R/\w.heap.size<=R):=show _/\_ by rw[<-c7.out];exact⟨fc.rows.hw,fb.2⟩
  rw[c7.out];clear bl eq;have ep:=d7.box.c 0 rfl;go_upto_if 56 with fail
  go_cut[50] (fun bd bt=>bd=I6 f/\∃(B:Ma)(z:En),Xo (Mk w0 hi bt b vl L ai B p C)/\Xo (zR hi w bt)/\Xo (zm bt R 55 [I6 z.kind,I6 z.n,Xh z.wr])/\Xo (zm bt ao 68 ap)/\Xo (a0 B z))
  case first=>
   rcases ag with d5|⟨c,W,K,aw,a6⟩|⟨c,ax,K,aw,a6,es,dw⟩
   ·have G:Xo (a0 q ⟨b5,bx,au⟩):=(b1 _ _).2 (.inr ⟨by rw[d5];decide,(b0 _ _).2 ⟨by rw[d5,znC ad.1 ad.2.1 (N.trans d5) c5.out];exact c3,D⟩⟩)
    cases d5;have e6:((0:Int)==1)=Xd:=Dc;go_wp2;go_meet;exact⟨rfl,q,⟨0,0,Xd⟩,cz,f6,d7,fd,G⟩
   ·dsimp only at K aw;subst K;subst aw;have bf:=dD a6;obtain⟨ip,iq⟩:=c3.refs a6;obtain⟨cr,Y⟩:=kA q.fs.length;have fv:c<cr:=(by rw[<-Y.out];exact(gS.1 a6).1);have fw:(c:Int)<(cr:Int):=Wm;clear a6;have e6:((1:Int)==1)=Xc:=Dc;have e7:((1:Int)==2)=Xd:=Dc;obtain⟨P,fj,a8⟩:=cz.rows.fs.aG (by rw[Y.out];omega);rw[Y.out]at a8;have t:=dD a8;have Q:=cz.rows.fs;(first|rw[t.out]at Q|rw[show O _ _ _=_ from t.out]at Q);have b3:=dD Q;clear Q a8;go_upto_region 7 with fail;clear ep;obtain⟨h,l⟩:=Ww fun d=>zc gf d;have j:=(l _).2 (gW _);have co:∀a:zh h,a.world.cell? ⟨b,1,Xb⟩=Xa (O (Xa ⟨P,0,Xb⟩) cr fj):=fun a=>(by rw[<-t.out];exact(cz.box.box.aA ((l _).1 a.holds)).c 1 rfl);have bb:=fun a:zh h=>(d7.box.aA ((l _).1 a.holds)).c 1 rfl;have ci:∀a:zh h,a.world.cell? ⟨P,c*13+8,Xb⟩=Xa (I6 W.r):=fun a=>by
     have:=(b3.aA ((l _).1 a.holds)).one bf 8 _ rfl;rw[zX,Xt,zA]at this;exact this
    have ab:Nonempty (zh h):=⟨⟨_,j⟩⟩;refine Jl (I:=h) 14 [] j zY Kr rfl rfl Dc Sm Kr ?_;simp only[Xu,Xv];refine jI ?_;refine zep (.tmp 57) ⟨b,0,Xb⟩ rfl rfl rfl rfl ?_;refine Uq ?_;iterate 12 refine jI ?_
    refine zdB fun c9 ba fo=>?_;have al:=(l _).1 ba;have eh:=dD (cz.aA al);have f7:=dD (f6.trans (zR.aA al));have ez:=dD (d7.aA al);have fe:=dD (fd.aA al);have c8:=dD (b3.aA al);clear al ba fo co bb ci ab j;have bv:=c8.bN rfl;have fk:c9.cell? ⟨P,c*13+8,Xb⟩=Xa (I6 W.r):=by
     have:=c8.one bf 8 _ rfl;rw[zX,Xt,zA]at this;exact this
    go_upto_region 8 with fail;clear fk bv;obtain⟨M,a5,ac⟩:=c8.cell (k:=c) (o:=8) rfl bf (y:={W with r:=W.r+1}) (u:=I6 (W.r+1)) rfl Dc;obtain⟨aj,a7⟩:=kB (c9.setCell ⟨P,c*13+8,Xb⟩ (I6 (W.r+1)));have dt:c9.setCell ⟨P,c*q3.k+8,Xb⟩ (I6 (W.r+1))=aj:=a7;rw[dt]at M a5 ac;rw[a7];rw[<-t.out]at M;have A:=eh.bK (by(first|rw[t.out]|rw[show O _ _ _=_ from t.out]|(simp only[Sli.x];rw[t.out])|(simp only[Sli.x];rw[show O _ _ _=_ from t.out]));rfl) a5 ac M (eh.rows.ap.2.inc c3 bf);have ei:=dD A.1;have eg:=dD<|f7.trans A.2;have bh:Xo (zm aj R 55 [I6 1,I6 (c:Int),Xh au]):=A.2.1 _ _ _ ez zek;have d0:Xo (zm aj ao 68 ap):=A.2.1 _ _ _ fe zdA;clear dt a7 M a5 ac A;have bi:Xo (∀U,U=(if(zr s0.aC f).sh=Xc then(⟨1,(c:Int),au⟩:En)else⟨1,(c:Int),Xd⟩)->qT {q with fs:=q.fs.set c {W with r:=W.r+1}} ((C.set 0 (jG a4 f U)).set 1 (jG av f U))):=show∀U,_ from fun U ik=>c3.forkP (s0:=s0) (s1:=⟨Xc,s0.aC,qG⟩) (Rr D.1) (Rr D.1) rfl ad.1 ad.2.1 aa c5 bf (by rw[N.out]) (by rw[N.out]) (Rx N.out ik);have fy:=d0.box.c _ (d9 f aa);have ep:=bh.box.c 0 rfl;cases br:(zr s0.aC f).sh with
    |true=>
     rw[br]at fy bi;have G:Xo (a0 {q with fs:=q.fs.set c {W with r:=W.r+1}} ⟨1,(c:Int),au⟩):=(b1 _ _).2 (.inr ⟨by show(1:Int)≠2;decide,(b0 _ _).2 ⟨bi _ (kE rfl).symm,D.1,D.2.1,D.2.2.1,by show(q.fs.set c _).length=_;rw[Yi];exact D.2.2.2⟩⟩);clear br;go_wp2;go_meet;exact⟨rfl,_,⟨1,(c:Int),au⟩,ei,eg,bh,d0,G⟩
    |false=>
     rw[br]at fy bi;have G:Xo (a0 {q with fs:=q.fs.set c {W with r:=W.r+1}} ⟨1,(c:Int),Xd⟩):=(b1 _ _).2 (.inr ⟨by show(1:Int)≠2;decide,(b0 _ _).2 ⟨bi _ (kF Dc).symm,D.1,D.2.1,D.2.2.1,by show(q.fs.set c _).length=_;rw[Yi];exact D.2.2.2⟩⟩);clear br;have z:=bh.box.c 2 rfl;have bv:=bh.box.f;go_upto_region 10 with fail;clear fy ep z bv;obtain⟨aq,bm⟩:=kB (aj.setCell ⟨R,2,Xb⟩ (Xh Xd));have bp:aj.grownBy aq (Xa R):=(by rw[<-bm];exact jV _ _ _ _);have gx:Xo (zm aq R 55 [I6 1,I6 (c:Int),Xh Xd]):=dD<|by rw[<-bm];exact bh.set 2 _
     have hf:Xo (Mk w0 hi aq b vl L ai {q with fs:=q.fs.set c {W with r:=W.r+1}} p C):=ei.entry bh db.1 bp;have f8:Xo (zR hi w aq):=eg.own bp db.2;have hp:Xo (zm aq ao 68 ap):=d0.beside bp (fun P e=>by
      cases e;intro e;have K:aj.heap[ao]?=_:=d0.out;rw[e,show aj.heap[R]?=_ from bh.out]at K
      cases K)
     rw[bm];clear bm bp;go_wp2;go_meet;exact⟨rfl,_,⟨1,(c:Int),Xd⟩,hf,f8,gx,hp,G⟩
   have G:Xo (a0 q ⟨b5,bx,au⟩):=(b1 _ _).2 (.inl ⟨rfl,rfl,K⟩);have e6:(b5==1)=Xd:=(by rw[show b5=2 from K];decide);clear K aw a6 es dw;go_wp2;go_meet;exact⟨rfl,q,⟨b5,bx,au⟩,cz,f6,d7,fd,G⟩
  clear ep;obtain⟨rfl,d6,ib,dp,g9,ef,gd,G⟩:=hcut;obtain⟨ae,ak,S⟩:=ib;have gi:=ef.box.c 0 rfl;go_upto_if 79 with fail
  go_cut[50] (fun bd bt=>bd=I6 f/\∃(B:Ma)(z:En),Xo (Mk w0 hi bt b vl L ai B p C)/\Xo (zR hi w bt)/\Xo (zm bt R 55 [I6 z.kind,I6 z.n,Xh z.wr])/\Xo (zm bt ao 68 ap)/\Xo (ay B z))
  case first=>
   rcases(b1 _ _).1 G with⟨d2,rfl,d3⟩|⟨d2,d3⟩
   ·obtain⟨K,aw,a6⟩:=(En.mk.injEq _ _ _ _ _ _).mp d2;subst K aw a6;subst d3;rcases ag with d5|⟨c,W,K,aw,a6⟩|⟨c,ax,K,aw,a6,es,dw⟩;·cases d5
    ·exact absurd (show(2:Int)=1 from K) Dc
    dsimp only at aw;subst aw;have bf:=dD a6;obtain⟨cr,Y⟩:=kA d6.sl.length;have fv:c<cr:=(by rw[<-Y.out];exact(gS.1 a6).1);have fw:(c:Int)<(cr:Int):=Wm;clear a6;have e7:((2:Int)==2)=Xc:=Dc;obtain⟨P,fj,a8⟩:=dp.rows.sl.aG (by rw[Y.out];omega);rw[Y.out]at a8;have t:=dD a8;have Q:=dp.rows.sl;(first|rw[t.out]at Q|rw[show O _ _ _=_ from t.out]at Q);have b3:=dD Q;clear Q a8;go_upto_region 11 with fail;clear gi;obtain⟨h,l⟩:=Ww fun d=>zc wc d;have j:=(l _).2 (gW _);have co:∀a:zh h,a.world.cell? ⟨b,3,Xb⟩=Xa (O (Xa ⟨P,0,Xb⟩) cr fj):=fun a=>(by rw[<-t.out];exact(dp.box.box.aA ((l _).1 a.holds)).c 3 rfl);have bb:=fun a:zh h=>(ef.box.aA ((l _).1 a.holds)).c 1 rfl;have ci:∀a:zh h,a.world.cell? ⟨P,c,Xb⟩=Xa (I6 ax):=fun a=>by
     have:=(b3.aA ((l _).1 a.holds)).one bf 0 _ rfl;rw[zX,Xt,zA]at this;simpa[slE,Nat.mul_one]using this
    have ab:Nonempty (zh h):=⟨⟨_,j⟩⟩;refine Jl (I:=h) 11 [] j zY Kr rfl rfl Dc Sm Kr ?_;simp only[Xu,Xv];refine jI ?_;refine zep (.tmp 80) ⟨b,0,Xb⟩ rfl rfl rfl rfl ?_;refine Uq ?_;iterate 9 refine jI ?_
    refine zdB fun c9 ba fo=>?_;have al:=(l _).1 ba;have eh:=dD (dp.aA al);have f7:=dD (g9.trans (zR.aA al));have ez:=dD (ef.aA al);have fe:=dD (gd.aA al);have c8:=dD (b3.aA al);clear al ba fo co bb ci ab j;have bv:=c8.bN rfl;have fk:c9.cell? ⟨P,c,Xb⟩=Xa (I6 ax):=by
     have:=c8.one bf 0 _ rfl;rw[zX,Xt,zA]at this;simpa[slE,Nat.mul_one]using this
    go_upto_region 12 with fail;clear fk bv;obtain⟨M,a5,ac⟩:=c8.cell (k:=c) (o:=0) rfl bf (y:=ax+1) (u:=I6 (ax+1)) rfl Dc;obtain⟨aj,a7⟩:=kB (c9.setCell ⟨P,c,Xb⟩ (I6 (ax+1)));have dt:c9.setCell ⟨P,c*slE.k+0,Xb⟩ (I6 (ax+1))=aj:=(by rw[<-a7];simp[slE]);rw[dt]at M a5 ac;rw[a7];rw[<-t.out]at M;have A:=eh.cE (by(first|rw[t.out]|rw[show O _ _ _=_ from t.out]|(simp only[Sli.x];rw[t.out])|(simp only[Sli.x];rw[show O _ _ _=_ from t.out]));rfl) a5 ac M
    have ei:Xo (Mk w0 hi aj b vl L ai {d6 with sl:=d6.sl.set c (ax+1)} p C):=A.1;have eg:Xo (zR hi w aj):=f7.trans A.2;have bh:Xo (zm aj R 55 [I6 2,I6 (c:Int),Xh S]):=A.2.1 _ _ _ ez zek;have d0:Xo (zm aj ao 68 ap):=A.2.1 _ _ _ fe zdA;clear dt a7 M a5 ac A;have az:Xo (ay {d6 with sl:=d6.sl.set c (ax+1)} ⟨2,(c:Int),S⟩):=(b0 _ _).2 ⟨by
     have:=c3.forkS (s0:=s0) (s1:=⟨Xc,s0.aC,qG⟩) (Rr D.1) (Rr D.1) rfl ad.1 ad.2.1 aa c5 bf (by rw[N.out]) (by rw[N.out])
     rw[N.out]at this;exact this,D.1,D.2.1,D.2.2.1,D.2.2.2⟩
    go_wp2;go_meet;exact⟨rfl,_,⟨2,(c:Int),S⟩,ei,eg,bh,d0,az⟩
   have e7:(ae==2)=Xd:=beq_eq_false_iff_ne.2 d2;have az:=dD d3;clear d2 d3 ag;go_wp2;go_meet;exact⟨rfl,d6,⟨ae,ak,S⟩,dp,g9,ef,gd,az⟩
  clear gi;obtain⟨rfl,B,z,gc,hd,gy,hu,az⟩:=hcut;obtain⟨ae,ak,S⟩:=z;go_upto_region 12 with fail;obtain⟨h,l⟩:=Ww fun d=>d.cell? ⟨b,12,Xb⟩=Xa (O (Xa ⟨X,0,Xb⟩) 2 ar)/\zm d R 55 [I6 ae,I6 ak,Xh S]/\zm d ao 68 ap;have dc:Xo (∀d q C,Mk w0 hi d b vl L ai q p C->d.cell? ⟨b,12,Xb⟩=Xa (O (Xa ⟨X,0,Xb⟩) 2 ar)):=dD<|fun d q C io=>by
   have:=io.box.box.c 12 rfl;(first|rw[n.out]at this|rw[show O _ _ _=_ from n.out]at this);exact this
  have j:h wc.drew:=(l _).2 ⟨dc _ _ _ (gc.aA (gW _)),gy.aA (gW _),hu.aA (gW _)⟩;have dx:Mk w0 hi wc.drew b vl L ai B p C/\zR hi w wc.drew:=⟨gc.aA (gW _),hd.trans (zR.aA (gW _))⟩;have ir:=fun a:zh h=>((l _).1 a.holds).1;have fq:=fun a:zh h=>((l _).1 a.holds).2.1.box.c 0 rfl;have bb:=fun a:zh h=>((l _).1 a.holds).2.1.box.c 1 rfl;have ft:=fun a:zh h=>((l _).1 a.holds).2.1.box.c 2 rfl;have ab:Nonempty (zh h):=⟨⟨_,j⟩⟩;refine zH (I:=h) 17 [(14,fun _=>True)] (fun d=>Mk w0 hi d b vl L ai B p C/\zR hi w d) j dx zY Kr rfl rfl Dc (Sa ⟨undef,trivial⟩) Kr ?_;simp only[Xu,Xv];refine zg ?_;refine zQ (.tmp 91) ⟨b,0,Xb⟩ rfl rfl rfl rfl ?_;refine Uq ?_;iterate 4 refine zg ?_
  refine zQ (.tmp 96) ⟨b,0,Xb⟩ rfl rfl rfl rfl ?_;refine Uq ?_;iterate 7 refine zg ?_
  refine zy rfl rfl (fun _ d=>Mk w0 hi d b vl L ai B p (C.set 0 (jG a4 f ⟨ae,ak,S⟩))/\zR hi w d) (fun w' b9 b8=>?_) (fun gp et=>?_)
  ·obtain⟨eu,cq,it⟩:=(l _).1 b9;obtain⟨ec,fx⟩:=b8;have cl:=ec.rows.tt;(first|rw[n.out]at cl|rw[show O _ _ _=_ from n.out]at cl);refine zeI (E:=zdk) (.tmp 104) (.tmp 101) 55 rfl w0.heap.size (O (Xa ⟨X,0,Xb⟩) 2 ar) C cl X 0 (f*3) rfl a4 (jG a4 f ⟨ae,ak,S⟩) ad.1 (env ⟨ae,ak,S⟩) Kr (zcn a4 aa _) (by show f*3+3<=192;omega) (enE.one _) _ rfl (by first|rfl|simp) (Xi (env ⟨ae,ak,S⟩).toArray) rfl rfl (fun gq gn ig iy=>?_);rw[<-n.out]at gn;have e4:=ec.bX (by(first|rw[n.out]|rw[show O _ _ _=_ from n.out]|(simp only[Sli.x];rw[n.out])|(simp only[Sli.x];rw[show O _ _ _=_ from n.out]));rfl) ig iy gn;exact⟨(l _).2 ⟨dc _ _ _ e4.1,e4.2.1 _ _ _ cq zek,e4.2.1 _ _ _ it zdA⟩,trivial,e4.1,fx.trans e4.2⟩
  try simp only[Yq]
  iterate 2 refine zg ?_
  refine qE fun bg dz cg=>?_;have gb:=dD cg.1;have f9:=dD cg.2;have el:=dD<|((l _).1 dz).2.2;clear cg dz j dx ir fq bb ft ab;have ff:Xo (zb zdk w0.heap.size bg (O (Xa ⟨X,0,Xb⟩) 2 ar) (C.set 0 (jG a4 f ⟨ae,ak,S⟩))):=show zb _ _ _ _ _ by rw[<-n.out];exact gb.rows.tt
  refine zx (E:=zdk) rfl (.tmp 106) (.tmp 102) 55 rfl w0.heap.size _ _ ff X 1 (f*3) rfl av (jG av f ⟨ae,ak,S⟩) (by rw[sN Dc];exact ad.2.1) (env ⟨ae,ak,S⟩) Kr (zcn av aa _) (by show f*3+3<=192;omega) (enE.one _) _ rfl (by first|rfl|simp) (Xi (env ⟨ae,ak,S⟩).toArray) rfl rfl ?_;intro cb cx dv ee;rw[<-n.out]at cx;have bk:=gb.bX (by(first|rw[n.out]|rw[show O _ _ _=_ from n.out]|(simp only[Sli.x];rw[n.out])|(simp only[Sli.x];rw[show O _ _ _=_ from n.out]));rfl) dv ee cx;have dn:=dD bk.1;have fa:=dD<|f9.trans bk.2;have P9:Xo (zm cb ao 68 ap):=bk.2.1 _ _ _ el zdA;have g8:=(b0 _ _).1 az.out;have ey:=dD g8.1;have fg:=dD g8.2;clear bk cx dv ee;go_wp2;go_roundg (64-(f+1));exact⟨f+1,B,_,_,_,Wm,Wm,Gn,dn,fa,ey,fg,f2 _,P9⟩;omega
 have e8:¬(f:Int)<64:=Wm;have da:Xo (Frk w0 hi b w vl L m s0.aC wr):=dD<|⟨ai,q,p,C,fc,fb,c3,by rw[D.1,f3.out];rfl,D.2⟩;go_wp2;exact Wq da.out
theorem zhg{I:Xn->Prop}{P:Program}{J:Act->Xn->Prop}{l r:List Oper}(T:Nat)(S:List (Nat×zeY))(c:I w.drew)(hJ0:J a w.drew)(hJq:∀(j:Nat)o,K.toArray[j]?=Xa o->S.lookup j=Xb->∀a v w,(execOp a.eval o).run P w=.ok (.value v) w->J a w->J (a.put o.dst v) w)(hJs:∀(j:Nat)o s,K.toArray[j]?=Xa o->S.lookup j=Xa s->∀a w L,J a w->I w->zO P o a w L->zO P o a w fun v w'=>L v w'/\J (a.put o.dst v) w')(hJu:∀(j:Nat)o,K.toArray[j]?=Xa o->∀a w,J a w->J (a.put o.dst undef) w)(f:P.follows .mixedOrders=Xc)(b:Jy K.toArray T=Xc)(e:K.take T=l)(g:K.drop T=r)(d:T<=K.length)
  (hS:∀x∈S,∃v,x.2.pv v)(hp:∀k s j t,S.lookup k=Xa s->S.lookup j=Xa t->j≠k->anc K.toArray 9 j k=Xd->∀v w w',t.step w w'->s.post v w->s.post v w')(hpre:∀j t k s,S.lookup j=Xa t->S.lookup k=Xa s->j≠k->∀w w',s.step w w'->t.pre w->t.pre w')(hpr0:∀k t,S.lookup k=Xa t->t.pre w.drew)
  (h:zdp I P K.toArray (fun k=>S.lookup k) (fun a w=>J a w->wpList P K.toArray Q r a w) l 0 (fun _ _=>True) a):(Code.region id K.toArray Xc).wp P Q a w:=by
 refine zql (J:=J) T c hJ0 f b e g d ?_ ?_ ?_ ?_ ?_ ?_ ?_ hJu h;·intro k s o c _ d b;obtain⟨t,_,rfl⟩:=zbE c;cases b
 ·intro k s c;obtain⟨t,b,rfl⟩:=zbE c;obtain⟨x,d,rfl,_⟩:=J3 b;exact hS x d
 ·intro k s j t c f d g _ v;obtain⟨s,b,rfl⟩:=zbE c;obtain⟨t,e,rfl⟩:=zbE f;exact hp k s j t b e d g v
 ·intro j t k s f c d;obtain⟨s,b,rfl⟩:=zbE c;obtain⟨t,e,rfl⟩:=zbE f;exact hpre j t k s e b d
 ·intro k t c;obtain⟨t,b,rfl⟩:=zbE c;exact hpr0 k t b
 ·intro j o c d;exact hJq j o c (Si d)
 intro j o s c d;obtain⟨t,b,_⟩:=zbE d;exact hJs j o t c b
theorem zO.know{P:Program}{J:Act->Xn->Prop}(h:zO P o a w N)(c:∀n w',(execOp a.eval o).run P w=.ok n w'->(∃v,n=.value v/\J (a.put o.dst v) w')\/(n=.skip/\J (a.put o.dst undef) w')):zO P o a w fun v w'=>N v w'/\J (a.put o.dst v) w':=by
 unfold zO at h⊢;generalize(execOp a.eval o).run P w=r at h c⊢;cases r with
 |ok n w'=>
  rcases c n w' rfl with⟨v,rfl,b⟩|⟨rfl,b⟩;·exact⟨h,b⟩
  exact⟨h,b⟩
 |halt x w'=>exact h
def zbq(ss:List Nat)(a:Act)(w:Xn):Prop:=(∀s∈ss,∀x n c,a.tmps.getD s undef=O (Xa x) n c->x.block<w.heap.size)/\∀s∈ss,∀t∈ss,s≠t->∀x n c y n' c',a.tmps.getD s undef=O (Xa x) n c->a.tmps.getD t undef=O (Xa y) n' c'->x.block≠y.block
theorem QE{d:Option Nat}{v:Xq}{s:Nat}:(a.put d v).tmps.getD s undef=a.tmps.getD s undef\/(d=Xa s/\(a.put d v).tmps.getD s undef=v):=by
 cases d with
 |none=>exact .inl rfl
 |some k=>
  by_cases e:k=s
  ·subst e
   by_cases b:k<a.tmps.size
   ·refine .inr ⟨rfl,?_⟩
    show(a.tmps.setIfInBounds k v).getD k undef=v;rw[Xy,Array.getElem?_setIfInBounds_self_of_lt b];rfl
   refine .inl ?_;show(a.tmps.setIfInBounds k v).getD k undef=_;rw[Array.setIfInBounds_eq_of_size_le Wm]
  refine .inl ?_;show(a.tmps.setIfInBounds k v).getD s undef=_;rw[Xy,Array.getElem?_setIfInBounds_ne e,<-Xy]
theorem zbq.other{b:List Nat}{d:Option Nat}(i:zbq b a w)(hd:∀s∈b,d≠Xa s)(m:w.heap.size<=w'.heap.size):zbq b (a.put d A) w':=by
 have c:∀s∈b,(a.put d A).tmps.getD s undef=a.tmps.getD s undef:=fun s b=>(QE (a:=a) (d:=d) (v:=A) (s:=s)).resolve_right fun e=>hd s b e.1;refine⟨fun s b x n g j=>?_,fun s b t k h x n g y p l e f=>?_⟩;·rw[c s b]at j;exact Ya (i.1 s b x n g j) m
 rw[c s b]at e;rw[c t k]at f;exact i.2 s b t k h x n g y p l e f
theorem zbq.new{c:List Nat}{d:Option Nat}(l:zbq c a w)(j:w.heap.size<w'.heap.size):zbq c (a.put d (O (Xa ⟨w.heap.size,0,Xb⟩) k b)) w':=by
 have g:∀j∈c,∀x n c,(a.put d (O (Xa ⟨w.heap.size,0,Xb⟩) k b)).tmps.getD j undef=O (Xa x) n c->(a.tmps.getD j undef=O (Xa x) n c/\x.block<w.heap.size)\/(d=Xa j/\x.block=w.heap.size):=fun j f x n c h=>by
  rcases QE (a:=a) (d:=d) (v:=O (Xa ⟨w.heap.size,0,Xb⟩) k b) (s:=j)with e|⟨e1,e2⟩;·rw[e]at h;exact .inl ⟨h,l.1 j f x n c h⟩
  grind
 refine⟨fun j f x n c h=>?_,fun j f t p k x n c y q i h b=>?_⟩;·grind
 rcases g j f x n c h with⟨m,h⟩|⟨m,h⟩<;>rcases g t p y q i b with⟨h,g⟩|⟨h,g⟩
 ·exact l.2 j f t p k x n c y q i m h
 ·omega
 ·omega
 grind
theorem zbq.undef{c:List Nat}{d:Option Nat}(k:zbq c a w):zbq c (a.put d Go.undef) w:=by
 have f:∀b∈c,∀x n c,(a.put d Go.undef).tmps.getD b Go.undef=O (Xa x) n c->a.tmps.getD b Go.undef=O (Xa x) n c:=fun b g x n c h=>by
  rcases QE (a:=a) (d:=d) (v:=Go.undef) (s:=b)with e|⟨e1,e2⟩;·grind
  rw[e2]at h;cases h
 exact⟨fun b g x n c h=>k.1 b g x n c (f b g x n c h),fun b g t l j x n c y p m h i=>k.2 b g t l j x n c y p m (f b g _ _ _ h) (f t l _ _ _ i)⟩
theorem zpc{P:Program}{e:TypeId}{i:TypeInfo}(b:P.underlying t=Xa (.slice e))(hi:P.info? e=Xa i)(f:i.zero=Xa A)(x)(a:x=undef\/∃n:Nat,x=I6 n/\n*i.bytes<=140737488355328/\n<=1000){v:Xq}(h:(Instr.makeSlice t x x).run P w=.ok v w'):∃l c,v=O (Xa ⟨w.heap.size,0,Xb⟩) l c/\w.heap.size<w'.heap.size:=by
 rcases a with rfl|⟨n,rfl,a,a⟩
 ·exfalso
  simp[Instr.makeSlice,run_underlying b,asInt,asIntOf,undef]at h
 have d:((i.bytes:Int)*(n:Int))<=281474976710656:=by
  rw[<-Int.natCast_mul,Nat.mul_comm];omega
 have a:=run_make (P:=P) w t e i A b hi f .i64 .i64 n n Wm (Int.le_refl _) d Wm;rw[a]at h;cases h;exact⟨_,_,rfl,Sm⟩
def JB(nf ns nb:Nat)(a:Act)(w:Xn):Prop:=(a.tmps.getD 0 undef=Xe Xf nf/\a.tmps.getD 1 undef=Xe Xf ns/\a.tmps.getD 2 undef=Xe Xf nb)/\(∀s∈[32,35,37,40],a.tmps.getD s undef=undef\/∃n:Nat,a.tmps.getD s undef=Xe Xf n/\n<=80)/\zbq [38,41] a w
section
variable{nf ns nb:Nat}{a:Act}{w w':Xn}
theorem JB.other{d:Option Nat}(h:JB nf ns nb a w)(hd:∀s∈[0,1,2,32,35,37,40,38,41],d≠Xa s)(f:w.heap.size<=w'.heap.size):JB nf ns nb (a.put d A) w':=by have b:∀s∈[0,1,2,32,35,37,40,38,41],(a.put d A).tmps.getD s undef=a.tmps.getD s undef:=fun s c=>(QE (a:=a) (d:=d) (v:=A) (s:=s)).resolve_right fun e=>hd s c e.1;refine⟨⟨by rw[b 0 Sm];exact h.1.1,by rw[b 1 Sm];exact h.1.2.1,by rw[b 2 Sm];exact h.1.2.2⟩,fun s c=>?_,h.2.2.other (fun s c=>hd s (by simp at c⊢;omega)) f⟩;rw[b s (by simp at c⊢;omega)];exact h.2.1 s c
theorem JB.num(h:JB nf ns nb a w)(f:k∈[32,35,37,40])(s:b<=80):JB nf ns nb (a.put (Xa k) (I6 b)) w:=by
 have s:∀t,t≠k->(a.put (Xa k) (I6 b)).tmps.getD t undef=a.tmps.getD t undef:=fun t c=>(QE (a:=a) (d:=some k) (v:=I6 b) (s:=t)).resolve_right fun e=>c (Si e.1.symm);have g:k≠0/\k≠1/\k≠2/\k≠38/\k≠41:=by simp at f;omega
 refine⟨⟨by rw[s 0 Wm];exact h.1.1,by rw[s 1 Wm];exact h.1.2.1,by rw[s 2 Wm];exact h.1.2.2⟩,fun t c=>?_,h.2.2.other (fun t c e=>by simp only[Option.some.injEq]at e;subst e;simp only[mC,nM,or_false]at c;omega) (nR _)⟩;rcases QE (a:=a) (d:=some k) (v:=I6 b) (s:=t)with e|⟨_,e⟩;·rw[e];exact h.2.1 t c
 grind
theorem JB.new{d:Option Nat}(h:JB nf ns nb a w)(hd:∀s∈[0,1,2,32,35,37,40],d≠Xa s)(f:w.heap.size<w'.heap.size):JB nf ns nb (a.put d (O (Xa ⟨w.heap.size,0,Xb⟩) k p)) w':=by have b:∀s∈[0,1,2,32,35,37,40],(a.put d (O (Xa ⟨w.heap.size,0,Xb⟩) k p)).tmps.getD s undef=a.tmps.getD s undef:=fun s p=>(QE (a:=a) (d:=d) (s:=s)).resolve_right fun k=>hd s p k.1;refine⟨⟨by rw[b 0 Sm];exact h.1.1,by rw[b 1 Sm];exact h.1.2.1,by rw[b 2 Sm];exact h.1.2.2⟩,fun s p=>?_,h.2.2.new f⟩;rw[b s (by simp at p⊢;omega)];exact h.2.1 s p
def okQ(o:Oper):Bool:=
 match o.dst with
 |none=>Xc
 |some d=>!([0,1,2,32,35,37,40,38,41].contains d)||(match o.op with|.move (.tmp x)=>[(32,0),(35,1),(37,1),(40,2)].contains (d,x)|_=>Xd)
theorem JB.quiet(h:JB nf ns nb a w)(b:okQ o=Xc)(g:nf<=80)(d:ns<=80)(hb:nb<=80)(f:(execOp a.eval o).run prog w=.ok (.value A) w):JB nf ns nb (a.put o.dst A) w:=by
 unfold okQ at b;cases c:o.dst with
 |none=>exact h.other (fun s _ e=>by cases e) (nR _)
 |some i=>
  rw[c]at b;simp only[Bool.or_eq_true]at b;rcases b with b|b
  ·refine h.other (fun s d e=>?_) (nR _)
   cases e;simp only[Yo,Yc,decide_eq_false_iff_not]at b;exact b d
  cases c:o.op with
  |move x=>
   rw[c]at b;cases x with
   |tmp x=>
    simp only[Yc,decide_eq_true_eq]at b;have e:A=a.tmps.getD x undef:=by
     simp only[execOp,c,Xw,Result.ok.injEq,Next.value.injEq,and_true]at f;exact f.symm
    simp only[mC,pJ,nM,or_false]at b;rcases b with⟨rfl,rfl⟩|⟨rfl,rfl⟩|⟨rfl,rfl⟩|⟨rfl,rfl⟩;·rw[e,h.1.1];exact h.num Sm g
    ·rw[e,h.1.2.1];exact h.num Sm d
    ·rw[e,h.1.2.1];exact h.num Sm d
    rw[e,h.1.2.2];exact h.num Sm hb
   |_=>simp at b
  |_=>rw[c]at b;simp at b
theorem JB.undef{d:Option Nat}(h:JB nf ns nb a w)(hd:∀s∈[0,1,2],d≠Xa s):JB nf ns nb (a.put d Go.undef) w:=by
 have b:∀s∈[0,1,2],(a.put d Go.undef).tmps.getD s Go.undef=a.tmps.getD s Go.undef:=fun s c=>(QE (a:=a) (d:=d) (s:=s)).resolve_right fun e=>hd s c e.1;refine⟨⟨by rw[b 0 Sm];exact h.1.1,by rw[b 1 Sm];exact h.1.2.1,by rw[b 2 Sm];exact h.1.2.2⟩,fun s c=>?_,h.2.2.undef⟩;rcases QE (a:=a) (d:=d) (v:=Go.undef) (s:=s)with e|⟨_,e⟩;·rw[e];exact h.2.1 s c
 grind
theorem JB.make(h:JB nf ns nb a w)(t e)(i:TypeInfo)(z)(s:Nat)(c:o.op=.makeSlice t (.tmp s) (.tmp s))(d:s∈[32,35,37,40])(f:Tryz.prog.underlying t=Xa (.slice e))(hi:Tryz.prog.info? e=Xa i)(g:i.zero=Xa z)(hb:i.bytes<=1000)(hd:∀s∈[0,1,2,32,35,37,40],o.dst≠Xa s)(b:zO prog o a w N):zO prog o a w fun v w'=>N v w'/\JB nf ns nb (a.put o.dst v) w':=by
 refine b.know fun n w' b=>?_;left;simp only[execOp,c,Xz]at b;cases c:(Instr.makeSlice t (a.eval (.tmp s)) (a.eval (.tmp s))).run prog w with
 |halt x j=>rw[c]at b;cases b
 |ok v j=>
  rw[c]at b;simp only[rA,Xw,Result.ok.injEq]at b;obtain⟨rfl,rfl⟩:=b;obtain⟨l,b,rfl,b⟩:=zpc f hi g _ (by
   rcases h.2.1 s d with e|⟨n,e,d⟩;·exact .inl e
   refine .inr ⟨n,e,?_,Wm⟩;have:n*i.bytes<=80*1000:=Nat.mul_le_mul d hb
   omega) c
  exact⟨_,rfl,h.new hd b⟩
end
def okL(L:List Oper)(Sx:List Nat):Bool:=L.zipIdx.all fun p=>Sx.contains p.2||okQ p.1
theorem zo3{Sx:List Nat}(h:okL K Sx=Xc)(a:K.toArray[j]?=Xa o)(b:j∉Sx):okQ o=Xc:=by
 unfold okL at h;have a:(o,j)∈K.zipIdx:=by grind
 grind
def okD(L:List Oper):Bool:=L.all fun o=>match o.dst with|none=>Xc|some d=>!([0,1,2].contains d)
theorem zo4(h:okD K=Xc)(a:K.toArray[j]?=Xa o):∀s∈[0,1,2],o.dst≠Xa s:=fun s b e=>by
 unfold okD at h;have:=List.all_eq_true.1 h o (by simp at a;exact mG a);rw[e]at this;simp only[Yo,Yc,decide_eq_false_iff_not]at this;exact this b
theorem zlx{A B C D:α}(h:List.lookup j [(2,A),(5,B),(7,C),(10,D)]=Xb):j∉[2,5,7,10]:=fun a=>by grind
theorem zht(E:Elt α)(w:Xn)(n:Nat)(hn:n*E.bytes<=140737488355328){l:Operand}(ho:o.op=.makeSlice E.st l l:=by rfl)(hl:a.eval l=I6 n:=by rfl):
  ∃C,(execOp a.eval o).run prog w=.ok (.value (O (Xa ⟨w.heap.size,0,Xb⟩) n n)) (w.alloc (Xk C E.ty))/\zb E w.heap.size (w.alloc (Xk C E.ty)) (O (Xa ⟨w.heap.size,0,Xb⟩) n n) (Xr n E.zero):=by
 obtain⟨i0,hi,hz0,hz1,hz2⟩:=info_parts E.aF;have h2:n*1<=n*E.bytes:=Nat.mul_le_mul_left _ (nT E.pos E.few);have hb:((E.bytes:Int)*(n:Int))<=140737488355328:=by
  obtain⟨B,hB⟩:=kB (n*E.bytes);rw[hB]at hn;rw[<-Int.natCast_mul,Nat.mul_comm,hB];omega
 have hrun:=run_make (P:=prog) w E.st E.ty i0 _ E.bL hi hz0 .i64 .i64 n n (by omega) (Int.le_refl _) (by rw[hz2];exact Int.le_trans hb (by omega)) (by omega);rw[hz1,tN]at hrun;refine⟨madeCells E.zv.cells (n*E.k),by simp only[execOp,ho,hl,Xz,hrun,Result.andThen,Xw],⟨⟨?_,.inr ⟨w.heap.size,n,madeCells E.zv.cells (n*E.k),by rw[lR],nR _,?_,?_,?_,?_,?_⟩⟩,by rw[lR];exact hn⟩⟩;·rw[qF E]
 ·show(w.heap.push _)[w.heap.size]?=_
  simp
 ·rw[lR];exact nR _
 ·exact q5 (by omega)
 ·rw[size_madeCells]
 rw[lR,Xx (by simp[madeCells]),zdz E]
theorem zfb(w)(n:Nat)(b:n<=80){l:Operand}(h:o.op=.makeSlice 31 l l:=by rfl)(g:a.eval l=I6 n:=by rfl):
  ∃C,(execOp a.eval o).run prog w=.ok (.value (O (Xa ⟨w.heap.size,0,Xb⟩) n n)) (w.alloc (Xk C 44))/\zl w.heap.size (w.alloc (Xk C 44)) (O (Xa ⟨w.heap.size,0,Xb⟩) n n) (Xr n zt):=by
 obtain⟨i,f,c,d,e⟩:=info_parts zsG;have b:=run_make (P:=prog) w 31 44 i _ underlying31 f c .i64 .i64 n n Wm (Int.le_refl _) (by rw[e];omega) Wm;rw[d,tN]at b;refine⟨madeCells #[U8 0,U8 0,U8 0,U8 0,U8 0,U8 0,U8 0,U8 0] (n*8),by simp only[execOp,h,g,Xz,b,Result.andThen,Xw,Value.cells],⟨⟨?_,.inr ⟨w.heap.size,n,madeCells #[U8 0,U8 0,U8 0,U8 0,U8 0,U8 0,U8 0,U8 0] (n*8),by rw[lR],nR _,?_,?_,?_,?_,?_⟩⟩,fun p b=>by rw[Xs b];rfl,by rw[lR];omega⟩⟩;·rw[jP (k:=8) _ (fun a b=>by rw[Xs b];rfl)]
 ·show(w.heap.push _)[w.heap.size]?=_
  simp
 ·rw[lR];exact nR _
 ·exact q5 Wm
 ·rw[size_madeCells]
 rw[lR];show(madeCells #[U8 0,U8 0,U8 0,U8 0,U8 0,U8 0,U8 0,U8 0] (n*8)).toList.take (n*8)=_;rw[Xx (by simp[madeCells]),zlw]
theorem zcp(E:Elt α)(w:Xn)(n:Nat)(c:n*E.bytes<=140737488355328)(l)(d:o.op=.makeSlice E.st l l)(b:a.eval l=I6 n)(h:∀C,zb E w.heap.size (w.alloc (Xk C E.ty)) (O (Xa ⟨w.heap.size,0,Xb⟩) n n) (Xr n E.zero)->N (O (Xa ⟨w.heap.size,0,Xb⟩) n n) (w.alloc (Xk C E.ty))):zO prog o a w N:=by obtain⟨C,e,e⟩:=zht E w n c d b;grind[zO.step]
theorem zaR(w:Xn)(n:Nat)(c:n<=80)(l)(d:o.op=.makeSlice 31 l l)(b:a.eval l=I6 n)(h:∀C,zl w.heap.size (w.alloc (Xk C 44)) (O (Xa ⟨w.heap.size,0,Xb⟩) n n) (Xr n zt)->N (O (Xa ⟨w.heap.size,0,Xb⟩) n n) (w.alloc (Xk C 44))):zO prog o a w N:=by obtain⟨C,e,e⟩:=zfb w n c d b;grind[zO.step]
theorem zhf{c:Oper}(d:c.guard=Xb)(e p x)(i:c.op=.store e p x)(b o:Nat)(hp:a.eval p=Xj (Xa ⟨b,o,Xb⟩))(vs:List Xq)(j:a.eval x=Xi vs.toArray)
  {cs:List Xq}{t:TypeId}(hb:zm w b t cs)(g:o+vs.length<=cs.length)(hi:(Tryz.prog.info? e).map (·.size)=Xa vs.length)(f:∀v∈vs,v.oneCell'=Xc)
  (h:∀w',zm w' b t (splice cs o vs)->w.grownBy w' (Xa b)->w'.heap.size=w.heap.size->wpList prog ops Q K (a.put c.dst undef) w'):wpList prog ops Q (c::K) a w:=by
 refine wpList_store_mid d e p x i b o vs.toArray hp j ?_ ?_ (all_oneCell_toArray f) ?_
 ·intro j c;have:=hb.box.there (o+j) (by simp at c;omega);rw[zA]at this;exact this
 ·simpa using hi
 exact h _ (hb.part g) (zW b vs o w).1 (zW b vs o w).2
theorem zo7{c a nf ns nb:Nat}(f:zc w W)(hb:w.heap.size<=b)(d:zm W b 81 [vl.x,O (Xa ⟨k,0,Xb⟩) nf nf,I6 0,O (Xa ⟨p,0,Xb⟩) ns ns,O (Xa ⟨c,0,Xb⟩) ns ns,eS,O (Xa ⟨a,0,Xb⟩) nb nb,eS,eS,I6 (nb:Int),eS,eS,eS])(l:zq byE w (vl.x) L)(gf:vl.n<=vl.c)(lb:∀z∈L,0<=z/\z<256)
  (m:zb q3 w.heap.size W (O (Xa ⟨k,0,Xb⟩) nf nf) (Xr nf fr0))(h:zb slE w.heap.size W (O (Xa ⟨p,0,Xb⟩) ns ns) (Xr ns 0))(i:zl w.heap.size W (O (Xa ⟨c,0,Xb⟩) ns ns) (Xr ns zt))(j:zl w.heap.size W (O (Xa ⟨a,0,Xb⟩) nb nb) (Xr nb zt))(g:c≠a):
  Mk w W.heap.size W b vl L ⟨⟨Xa ⟨k,0,Xb⟩,nf,nf⟩,⟨Xa ⟨p,0,Xb⟩,ns,ns⟩,⟨Xa ⟨c,0,Xb⟩,ns,ns⟩,zJ,⟨Xa ⟨a,0,Xb⟩,nb,nb⟩,zJ,zJ,zJ,zJ⟩ ⟨Xr nf fr0,0,Xr ns 0,Xr ns zt,[],Xr nb zt,[],[],nb,[],[]⟩ zJ []:=by
 have c:∀{v:Xq}{a:List (List Int)},zl w.heap.size W v a->∀g,v.ownBlock=Xa g->g<W.heap.size:=fun p g a=>by
  obtain⟨_,n,n⟩:=Jp p a;grind
 refine⟨f,hb,d,l,gf,lb,⟨nR _,bS f,m,h,fun g a=>(h.lt g a).2,i,c i,⟨rfl,rfl⟩,j,c j,⟨World.ownsRow_nil _ _ _ _,Sm,Sm⟩,⟨[],zb.nil _ _ _,rfl,fun i x f c=>by cases c⟩,zb.nil _ _ _,⟨[],zb.nil _ _ _,rfl,fun i x s c=>by cases c⟩,zb.nil _ _ _,⟨fun g a p=>?_,zf4.free (fun f c _=>by rw[Xs c];rfl) (fun f c=>by rw[Xs c];rfl)⟩⟩⟩;simp only[Value.ownBlock,Option.some.injEq]at a p;grind
def zkB(n k:Nat):List Fr:=Xr k frF++Xr (n-k) fr0
theorem znw(n:Nat):zkB n 0=Xr n fr0:=by simp[zkB]
theorem zpt(n:Nat):zkB n n=Xr n frF:=by simp[zkB]
theorem zqW(n k:Nat):ze2 (zkB n k):=fun f a _=>by
 unfold zkB at a;rcases Yj.1 a with e|e;·rw[Xs e];rfl
 rw[Xs e];rfl
theorem zd0(n:Nat):∀f∈Xr n frF,f.r=0:=fun f a=>by rw[Xs a];rfl
theorem znx(n k:Nat):∀f∈zkB n k,f.r=0:=fun f a=>by
 unfold zkB at a;rcases Yj.1 a with e|e;·rw[Xs e];rfl
 rw[Xs e];rfl
theorem zny(h:b<k):(zkB k b)[b]?=Xa fr0:=by unfold zkB;grind
theorem zps(h:b<k):(zkB k b).set b frF=zkB k (b+1):=by unfold zkB;rw[List.set_append_right _ _ Sm,lR,Yp];obtain⟨j,a⟩:∃j,k-b=j+1:=⟨k-b-1,Wm⟩;rw[a,show k-(b+1)=j by omega,List.replicate_succ,sZ,List.replicate_succ',List.append_assoc];rfl
theorem zfd(j)(h:zu k w A g)(v:Nat)(q:Int×List Int)(i:q.2.length=8)(p:jY w ⟨v,0,Xb⟩ (ptc q))(c:g.length<=1000)(a:k<=w.heap.size):
  ∃c w',(Builtin.append_ #[32,32] j #[A,O (Xa ⟨v,0,Xb⟩) 1 1]).run prog w=.ok c w'/\zu k w' c (g++[q])/\w.grownBy w' A.ownBlock:=by
 obtain⟨r,l,d,e,f⟩:=info_parts zsH;obtain⟨c,w',n,m,base,_⟩:=run_append_own (P:=prog) w k 32 j 88 r _ 9 16 underlying32 l d e f rfl Dc A g.length _ h.1 ⟨v,0,Xb⟩ 1 1 (ptc q) (by rw[zcD,i]) p (zd7 _) (q5 Wm) Wm a;refine⟨c,w',n,⟨?_,fun x a=>?_,by simp;omega⟩,base⟩
 ·rw[lA,List.flatMap_append]
  simpa using m
 rcases Yj.1 a with a|a;·exact h.2.1 x a
 simp only[mC,nM,or_false]at a;rw[a];exact i
section
variable{base hi:Nat}{w w':Xn}{V:MaV}{m:Ma}{vt:Sli}{T:List (Nat->En)}
theorem zbz(h:zu base w A g)(a:A.ownBlock=Xa k):base<=k/\∃cs,w.heap[k]?=Xa (Xk cs 88 (0,0)):=by
 rcases h.1.2 with⟨rfl,_⟩|⟨v,g,g,rfl,g,g,_⟩;·cases a
 simp only[Value.ownBlock,Option.some.injEq]at a;grind
theorem MkR.addDq(h:MkR base hi w V m vt T)(c:w.grownBy w' (V.dq.x).ownBlock)(s:Sli)(d:∀f∈m.fs,f.r=0)(e:zu base w' (s.x) g):MkR base hi w' {V with dq:=s} {m with dq:=g} vt T:=by
 cases b:(V.dq.x).ownBlock with
 |none=>
  rw[b]at c;have g:=h.aA (qV c);exact⟨g.hw,g.bh,g.fs,g.sl,g.bB,g.sb,g.bJ,g.sq,g.db,g.bG,e,g.fl,g.ca,g.sp,g.tt,⟨g.ap.1,g.ap.2.bare d rfl⟩⟩
 |some a=>
  rw[b]at c;obtain⟨_,g,g⟩:=zbz h.dq b;obtain⟨b,a,i,j,k,k,l,n,p⟩:=h.kept c g;exact⟨nT h.hw c.size,h.bh,b Dc,a (.inl Dc),h.bB,i (.inl Dc),h.bJ,h.sq,j (.inl Dc),h.bG,e,k Dc (.inl Dc),l Dc,n Dc Dc,p Dc,⟨h.ap.1,h.ap.2.bare d rfl⟩⟩
theorem MkR.addFl{xs:List FlV}(h:MkR base hi w V m vt T)(g:zb fvE base w (V.fl.x) xs)(a:xs.length=m.fl.length)(b:∀(i:Nat)x f,xs[i]?=Xa x->m.fl[i]?=Xa f->x.size=f.size/\zb blE hi w x.v f.bl)
  (c:w.grownBy w' (V.fl.x).ownBlock)(s:Sli){x:FlV}{f:Fl}(e:∀f∈m.fs,f.r=0)(j:x.size=f.size)(hb:zb blE hi w x.v f.bl)(d:zb fvE base w' (s.x) (xs++[x])):MkR base hi w' {V with fl:=s} {m with fl:=m.fl++[f]} vt T:=by
 have d:(∀{y:FlV}{q:Fl},zb blE hi w y.v q.bl->zb blE hi w' y.v q.bl)->∃a:List FlV,zb fvE base w' (s.x) a/\a.length=(m.fl++[f]).length/\∀(i:Nat)y q,a[i]?=Xa y->(m.fl++[f])[i]?=Xa q->y.size=q.size/\zb blE hi w' y.v q.bl:=fun k=>by grind
 cases b:(V.fl.x).ownBlock with
 |none=>
  rw[b]at c;have k:=qV c;have a:=h.aA k;exact⟨a.hw,a.bh,a.fs,a.sl,a.bB,a.sb,a.bJ,a.sq,a.db,a.bG,a.dq,d (fun h=>h.aA k),a.ca,a.sp,a.tt,⟨a.ap.1,a.ap.2.bare e rfl⟩⟩
 |some a=>
  rw[b]at c;obtain⟨a,a⟩:=g.obj b;obtain⟨b,g,j,k,l,n,n,p,q⟩:=h.kept c a;exact⟨nT h.hw c.size,h.bh,b Dc,g (.inl Dc),h.bB,j (.inl Dc),h.bJ,h.sq,k (.inl Dc),h.bG,l Dc,d (fun h=>h.kind c a Dc),n Dc,p Dc Dc,q Dc,⟨h.ap.1,h.ap.2.bare e rfl⟩⟩
end
section
variable{base hi S0:Nat}{w w':Xn}{V:MaV}{m:Ma}{vt:Sli}{T:List (Nat->En)}
def FlB(base hi S0:Nat)(w:Xn)(V:MaV)(m:Ma):Prop:=∃xs:List FlV,zb fvE base w (O V.fl.a V.fl.n V.fl.c) xs/\xs.length=m.fl.length/\∀(i:Nat)x f,xs[i]?=Xa x->m.fl[i]?=Xa f->(x.size=f.size/\zb blE hi w x.v f.bl)/\∀g,x.v.ownBlock=Xa g->g<S0
theorem MkR.flB(h:MkR base hi w V m vt T):FlB base hi w.heap.size w V m:=by obtain⟨d,b,c,a⟩:=h.fl;exact⟨d,b,c,fun i x f c b=>⟨a i x f c b,fun g d=>((a i x f c b).2.lt g d).2⟩⟩
theorem FlB.aA(h:FlB base hi S0 w V m)(k:zc w w'):FlB base hi S0 w' V m:=by obtain⟨c,a,b,d⟩:=h;refine⟨c,a.aA k,b,fun i x f g e=>?_⟩;obtain⟨⟨a,b⟩,c⟩:=d i x f g e;exact⟨⟨a,b.aA k⟩,c⟩
theorem FlB.kind(e:FlB base hi S0 w V m)(c:w.grownBy w' (Xa k))(h:w.heap[k]?=Xa (Xk U t (0,0)))(a:t≠84\/(V.fl.x).ownBlock≠Xa k)(b:t≠3\/S0<=k):FlB base hi S0 w' V m:=by
 obtain⟨i,d,f,q⟩:=e;refine⟨i,?_,f,fun n x j l g=>?_⟩
 ·rcases a with a|a
  ·exact d.kind c h a
  exact d.grown c fun p d e=>by cases e;exact a d
 obtain⟨⟨i,a⟩,f⟩:=q n x j l g;refine⟨⟨i,?_⟩,f⟩;rcases b with b|b;·exact a.kind c h b
 exact a.grown c fun p d e=>by cases e;have:=f _ d;omega
theorem MkR.cO(h:MkR base hi w V m vt T)(a:w.grownBy w' (Xa k))(b:w.heap[k]?=Xa (Xk U 84 (0,0)))(c:(V.fl.x).ownBlock≠Xa k):MkR base hi w' V m vt T:=by obtain⟨d,e,f,i,j,g,g,l,n⟩:=h.kept a b;obtain⟨s,p,q,r⟩:=h.flB.kind a b (.inr c) (.inl Dc);exact⟨nT h.hw a.size,h.bh,d Dc,e (.inl Dc),h.bB,f (.inl Dc),h.bJ,h.sq,i (.inl Dc),h.bG,j Dc,⟨s,p,q,fun i x f b a=>(r i x f b a).1⟩,g Dc,l Dc Dc,n Dc,h.ap⟩
theorem MkR.ints(h:MkR base hi w V m vt T)(d:FlB base hi S0 w V m)(a:w.grownBy w' (Xa k))(b:w.heap[k]?=Xa (Xk U 3 (0,0)))(hb:S0<=k)(c:hi<=k):MkR base hi w' V m vt T:=by obtain⟨e,f,i,j,g,l,l,n,p⟩:=h.kept a b;obtain⟨t,q,r,s⟩:=d.kind a b (.inl Dc) (.inr hb);exact⟨nT h.hw a.size,h.bh,e Dc,f (.inr c),h.bB,i (.inl Dc),h.bJ,h.sq,j (.inl Dc),h.bG,g Dc,⟨t,q,r,fun i x f b a=>(s i x f b a).1⟩,l Dc,n Dc Dc,p Dc,h.ap⟩
end
section
variable{w0 w w':Xn}{hi b:Nat}{vl:Sli}{L:List Int}{V:MaV}{m:Ma}{vt:Sli}{T:List (Nat->En)}
theorem Mk.setDb(h:Mk w0 hi w b vl L V m vt T){g:Nat}(d:(V.db.x).ownBlock=Xa g)(a:w.grownBy w' (Xa g))(k:w'.heap.size=w.heap.size){e:List (List Int)}(c:∀f∈m.fs,f.r=0)(j:zl w0.heap.size w' (V.db.x) e):Mk w0 hi w' b vl L V {m with db:=e} vt T/\zR hi w w':=by
 obtain⟨e,i,i⟩:=Jp h.rows.db d;refine⟨⟨zd h.gr a e,h.hb,h.box.beside a (fun e e=>?_),h.lr,h.lc,h.lb,h.rows.setDb i d a k c j⟩,zR.kind a i (fun p a=>?_)⟩
 ·cases e;intro e;subst e;have c:w.heap[b]?=_:=h.box;grind
 have:=a.2.2.2.2.2.2.2.2 rfl;have:=h.rows.bG g d;omega
end
theorem zmV(v l)(a:Ar)(w)(aw:zq arE w v l)(r:Cap v)(y:(wrL l).1=0):
  Xp prog 60 #[v,Xi #[I6 a.fr,I6 a.tz,Xh a.rd,Xh a.wr,Xh a.sh,I6 a.file,I6 a.base]] w (zsm (zej l a) w):=by
 have an:=dD aw;have a7:Xo (∀W,zc w W->Xp prog 77 #[v] W fun f z=>f=Xl (Xi #[I6 0,I6 (wrL l).2])/\zc W z):=fun W bc=>zbY v l W (an.aA bc) r y;have s:Xo (∀W,Xp prog 94 #[Xi #[I6 a.fr,I6 a.tz,Xh a.rd,Xh a.wr,Xh a.sh,I6 a.file,I6 a.base]] W fun f z=>f=Xl (I6 (arW a))/\zc W z):=fun W=>zaf a W;clear aw r;obtain⟨ao,p⟩:=kB (w.alloc (Xk #[I6 a.fr,I6 a.tz,Xh a.rd,Xh a.wr,Xh a.sh,I6 a.file,I6 a.base] 77));have R:=gA p;have aq:=xA p;have E:=dD p;clear p;generalize(wrL l).2=I at a7;by_cases g:arW a=0
 ·rw[g]at s;have am:Xo (l.length<=16/\Jh Xb l):=jJ.1 y;have al:Xo (jS a):=QG.1 g;have D:Xo (zej l a=if zoE l a.fr (a.tz-a.fr)=Xc then([],6)else zjH (zjq l a)):=show _=_ by unfold zej;rw[kF (fun k=>k y),kF (fun k=>k g)]
  have B:Xo (∀W,Xp prog 95 #[Xi (zD (tab (zfV l a 64))).toArray] W fun f z=>(∃ag,f=Xl (Xm #[ag,I6 (zjH (zjq l a)).2])/\zb arE W.heap.size z ag (zjH (zjq l a)).1)/\zc W z):=fun W=>by
   rw[zra];exact zlj (zjq l a) W (zb8 am.2 al)
  clear y g;go_enter func60,ntmps60;go_upto_region 1 with fail;rw[E.out];go_wp2_with fail;refine(a7 ao R).mono ?_;rintro f G⟨rfl,h⟩;have Y:=dD (R.trans h);have a9:=dD (aq.aA h);clear h;obtain⟨bf,i⟩:=kA G.heap.size;go_upto_region 2 with fail;refine nW fun a8 c=>?_;have Z:=gT c Y;have X:=xP c i;have U:=yA c a9;rw[i.out];clear c;have ab:=X.c 0 rfl;go_wp2_with(refine zE rfl 77 (.tmp 3) rfl w.heap.size rfl U underlying77 rfl zsO ?_)
  refine(s a8).mono ?_;rintro f b6⟨rfl,h⟩;have A:=dD (Z.trans h);have ba:=dD (U.aA h);clear h ab;go_upto_region 7 with fail;refine zlv (v:=v) (q:=a) (pa:=w.heap.size) (l:=l) (fun ah ai aj Q ak bh bi=>⟨#[_,_,_,_,_,_,_,_,bh,bi,_,_,_,_,_,_,_,_,_,_,_,_,_,ah,ai,aj,Q,ak,_,_,_,_,_,_,_,_,_,_,_,_,_,_,_,_,_,_,_,_,_,_,_,_,_,_,_],[]⟩) (fun _ _ _ _ _ _ _=>rfl) (fun _ _ _ _ _ _ _=>rfl) (fun _ _ _ _ _ _ _=>rfl) (fun _ _ _ _ _ _ _=>rfl) (fun _ _ _ _ _ _ _=>rfl) (fun _ _ _ _ _ _ _=>rfl) (fun _ _ _ _ _ _ _=>rfl) (fun _ _ _ _ _ _ _=>rfl) (fun _ _ _ _ _ _ _=>rfl) (fun _ _ _ _ _ _ _ _=>rfl) (fun _ _ _ _ _ _ _ _=>rfl) (fun _ _ _ _ _ _ _ _=>rfl) (fun _ _ _ _ _ _ _ _=>rfl) (fun _ _ _ _ _ _ _ _=>rfl) (fun _ _ _ _ _ _ _ _=>rfl) (fun _ _ _ _ _ _ _ _=>rfl) (fun _ _ _ _ _ _ _ _=>rfl) (an.aA A) am.2.cG al ba.out ?_ _ _ _ _ _ _ _;intro b7 t aa Q M au K L P ae;have b0:=dD (A.trans au);have ay:Xo (Box b7 t (zD (tab (zfV l a 0)))):=show Box _ _ _ by rw[zpO];exact K
  have az:=dD L;have a5:=dD<|nT (bS A) P;have u:aa≠t:=fun f=>M f.symm;have a3:=dD u;clear au K L P ae;go_wp2;go_loopg[28] 64 (fun bb af wr=>∃b:Nat,b<=64/\64-b<=bb/\af=I6 b/\Xo (zc w wr)/\Xo (Box wr t (zD (tab (zfV l a b))))/\Xo (Box wr aa (zD (tab (zr [a]))))/\Xo (∀j:Nat,j<b->Qb a j=Xc->(zr l j).is=Xd))
  exact⟨0,nZ _,Wm,rfl,b0,ay,az,fun j ad=>absurd ad (nL _)⟩;obtain⟨b,bd,bl,rfl,x,T,F,a1⟩:=hrel;by_cases m:b<64
  ·have N:(b:Int)<64:=Wm
   have H:=T.c (b*6) (Qs (zau m) 0 (Xh (zr l b).is) (Rr zrW));have V:=F.c (b*6) (Qs (zau m) 0 (Xh (Qb a b)) (by rw[<-zm2];rfl));cases d:Qb a b with
   |true=>
    cases e:(zr l b).is with
    |true=>
     have C:Xo (zej l a=([],6)):=dD (by rw[D.out,zrO m d e,kE rfl]);rw[e]at H;rw[d]at V;clear d e;go_wp2;refine bodyPost_ret (results_tmp2 rfl _ _ _) rfl ?_;rw[C.out];exact⟨⟨_,rfl,zb.nil _ _ _⟩,x⟩
    |false=>
     have a6:Xo (upd (zfV l a b) b (qq a b)=zfV l a (b+1)):=zq9 d;have a4:Xo (zr [a] b=qq a b):=show _=_ by rw[zp3,kE d]
     have n:Xo (∀j:Nat,j<b+1->Qb a j=Xc->(zr l j).is=Xd):=dD<|fun j ad k=>by
      by_cases f:j=b;·rw[f];exact e
      exact a1 j Wm k
     rw[e]at H;rw[d]at V;clear d e;have a2:Xo (Value.agg (onv (zr [a] b)).toArray=Xi (onv (qq a b)).toArray):=dD (by rw[a4.out]);go_wp2_with(first|refine zft rfl (.tmp 47) rfl aa b m rfl F a2.out ?_|refine zfs rfl (.tmp 49) (.tmp 48) rfl t b m rfl (qq a b) rfl T.out ?_)
     intro ap ar ac bg;have S:Xo (Box ap t (zD (tab (zfV l a (b+1))))):=dD<|Ry a6.out ar;have b4:=dD<|F.grown ac a3.out;have b1:Xo (zc w ap):=zd x ac a5.out;clear ar ac bg H V;go_wp2;go_roundg (64-(b+1));exact⟨b+1,Wm,Wm,Gn,b1,S,b4,n⟩;omega
   |false=>
    have S:Xo (Box wr t (zD (tab (zfV l a (b+1))))):=dD (by rw[<-zpP d];exact T.out);have n:Xo (∀j:Nat,j<b+1->Qb a j=Xc->(zr l j).is=Xd):=dD<|fun j ad k=>by
     by_cases f:j=b;·rw[f,d]at k;cases k
     exact a1 j Wm k
    rw[d]at V;clear d;cases e:(zr l b).is with
    |true=>
     rw[e]at H;clear e;go_wp2;go_roundg (64-(b+1));exact⟨b+1,Wm,Wm,Gn,x,S,F,n⟩;omega
    |false=>
     rw[e]at H;clear e;go_wp2;go_roundg (64-(b+1));exact⟨b+1,Wm,Wm,Gn,x,S,F,n⟩;omega
  have N:¬(b:Int)<64:=Wm;have:b=64:=Wm;subst this;have C:Xo (zej l a=zjH (zjq l a)):=dD (by rw[D.out,zpl a1.out,kF Dc]);have a0:Xo ((zD (tab (zfV l a 64))).length=384):=Zj _;go_wp2_with(refine zE rfl 68 (.tmp 8) rfl t rfl T underlying68 rfl (Rx a0.out zsR) ?_)
  refine(B wr).mono ?_;rintro f bk⟨⟨ag,rfl,ax⟩,av⟩;have b2:=dD (x.trans av);have b3:=dD<|ax.base (bS x);clear av ax;go_wp2;refine bodyPost_ret (results_tmp2 rfl _ _ _) rfl ?_;rw[C.out];exact⟨⟨_,rfl,b3⟩,b2⟩
 have be:(arW a !=0)=Xc:=by simp[g]
 have C:Xo (zej l a=([],arW a)):=dD<|by unfold zej;rw[kF (fun k=>k y),kE g]
 clear y g;generalize arW a=bj at*;go_enter func60,ntmps60;go_upto_region 1 with fail;rw[E.out];go_wp2_with fail;refine(a7 ao R).mono ?_;rintro f G⟨rfl,h⟩;have Y:=dD (R.trans h);have a9:=dD (aq.aA h);clear h;obtain⟨bf,i⟩:=kA G.heap.size;go_upto_region 2 with fail;refine nW fun a8 c=>?_;have Z:=gT c Y;have X:=xP c i;have U:=yA c a9;rw[i.out];clear c;have ab:=X.c 0 rfl;go_wp2_with(refine zE rfl 77 (.tmp 3) rfl w.heap.size rfl U underlying77 rfl zsO ?_)
 refine(s a8).mono ?_;rintro f b6⟨rfl,h⟩;have A:=dD (Z.trans h);clear h ab;go_wp2;refine bodyPost_ret (results_tmp2 rfl _ _ _) rfl ?_;rw[C.out];exact⟨⟨_,rfl,zb.nil _ _ _⟩,A⟩
theorem zho(Z:Mk w0 hi w b vl L V m vt T)(d:qT m T)(bc:m.sp.length<4):
  Xp prog 27 #[Xj (Xa ⟨b,0,Xb⟩)] w fun e w'=>(∃v,e=Xl v)/\Spc w0 hi b w L m T w':=by
 have f:=dD Z;have bk:=dD d;have bj:=dD bc;have a:=qY 4 Z;obtain⟨A,c⟩:=kA V.fl.n;have aw:Xo (m.fl.length=A):=show _=_ by rw[<-c.out];exact Z.rows.at.ns.2.2.2.2.2.2.1.symm
 have g:A<=5:=by
  rw[<-aw.out];obtain⟨⟨bn,bo,bp⟩,am,g⟩:=(qJ m.fl m.cnt).1 d.st;omega
 have ax:=dD<|bS Z.gr;clear Z d bc;go_enter func27,ntmps27;go_wp2_with fail;refine a.mono ?_;clear a;rintro e a⟨k,q,af,rfl,d,a,g,l,i,yn,h⟩;obtain⟨ac,rfl⟩:∃ac:Nat,af=(ac:Int):=⟨af.toNat,Wm⟩;have j:ac<4:=by rcases i with Z|Z<;>omega
 have av:Xo (L=[]->ac=0):=dD<|fun e=>Hm (yn e);have r:=dD d;have n:=dD<|f.keeps a;have j:=dD<|f.rows.spB.pick f a;have f:=dD h;clear d a g l i yn h;go_wp2;go_loopg[2,11] ac (fun bi au ap wr=>∃(p g:Nat)(l:List Ar)(h:Option Addr)(i:Nat)(K:Sli)(ag:List Int),p<=ac/\ac-p<=bi/\ap=I6 p/\au=(O h g i)/\Xo (Mk w0 hi wr b K ag V m vt T)/\Xo (zbr L ag)/\Xo (zR hi w wr)/\Xo (SpB w0.heap.size w.heap.size wr V m)/\Xo (zb arE w0.heap.size wr (O h g i) l)/\Xo (jQ m.fl.length l/\(wrL l).1=0/\Jd l 64<=4*p)/\Xo (p=0->l=[]))
 exact⟨0,0,[],Xb,0,k,q,nZ _,Wm,rfl,rfl,r,f,n,j,zb.nil _ _ _,(show _/\_ from⟨zjF _,rfl,Dc⟩),(fun _=>rfl)⟩;obtain⟨p,g,l,h,i,n,ar,a,a,rfl,rfl,Y,ay,bl,a,bb,j,bt⟩:=hrel;by_cases b4:p<ac
 ·have b5:=kC b4
  have d:Xo (L≠[]):=dD<|fun e=>Hm (av.out e);go_upto_region 3 with fail;obtain⟨z,P⟩:=Ww fun u=>MkE w0 hi b w L V m vt T u/\SpB w0.heap.size w.heap.size u V m/\zb arE w0.heap.size u (O h g i) l;have B:z wr.drew:=(P _).2 ⟨⟨n,ar,Y.aA (gW _),ay,bl.trans (zR.aA (gW _))⟩,a.aA (gW _),bb.aA (gW _)⟩;have b2:∀af:zh z,af.world.cell? ⟨b,8,Xb⟩=Xa (O V.fl.a A V.fl.c):=fun af=>by
   obtain⟨⟨_,_,mk,_,_⟩,_⟩:=(P _).1 af.holds;have:=mk.box.box.c 8 rfl;(try simp only[Sli.x]at this);rw[c.out]at this;exact this
  have an:Nonempty (zh z):=⟨⟨_,B⟩⟩;have C:Xo (∀(N:Int)w',0<N->z w'->Xp prog 22 #[Xj (Xa ⟨b,0,Xb⟩),I6 N] w' fun e s=>∃x:Int,e=Xl (I6 x)/\0<=x/\x<N/\z s/\zR hi w' s):=dD<|fun N w' bd d=>by
   obtain⟨⟨K,ag,f,a9,R⟩,ab,S⟩:=(P _).1 d;refine(qY N f).mono ?_;rintro e s⟨aq,be,x,rfl,a0,a,_,aa,ai,_,W⟩;exact⟨x,rfl,aa,Wm,(P _).2 ⟨⟨aq,be,a0,a9.trans W,R.trans (f.keeps a)⟩,ab.pick f a,S.pick f a⟩,f.keeps a⟩
  refine q4 (I:=z) 21 [(1,⟨fun v=>∃x:Int,v=I6 x/\0<=x/\x<12,fun _ _=>True,fun H U=>zR hi H U,fun _=>True⟩),(3,⟨fun v=>∃x:Int,v=I6 x/\0<=x/\x<4,fun _ _=>True,fun H U=>zR hi H U,fun _=>True⟩),(6,⟨fun v=>∃x:Int,v=I6 x/\0<=x/\x<3,fun _ _=>True,fun H U=>zR hi H U,fun _=>True⟩),(17,⟨fun v=>∃x:Int,v=I6 x/\0<=x/\x<(A:Int)+1,fun _ _=>True,fun H U=>zR hi H U,fun _=>True⟩),(20,⟨fun v=>∃y,v=Xj (Xa ⟨y,0,Xb⟩),fun v u=>∃y,v=Xj (Xa ⟨y,0,Xb⟩)/\zm u y 77 [I6 0,I6 0,Xh Xd,Xh Xd,Xh Xd,I6 0,I6 0]/\w.heap.size<=y/\∀ae,(O h g i).ownBlock=Xa ae->ae<y,fun H U=>zc H U,fun _=>True⟩)] B zY Kr rfl rfl Dc ?hS ?hp ?hpre ?hpr0 ?_;case hS=>
   intro x ao;simp only[mC,nM,or_false]at ao;rcases ao with rfl|rfl|rfl|rfl|rfl;·exact⟨_,0,rfl,Wm,Wm⟩
   ·exact⟨_,0,rfl,Wm,Wm⟩
   ·exact⟨_,0,rfl,Wm,Wm⟩
   ·exact⟨_,0,rfl,Wm,Wm⟩
   exact⟨_,0,rfl⟩
  case hp=>
   intro ae b7 G b9 M a7 ah b1 v H U F b6;have k:=zC M;have r:=zC a7;clear M a7;simp only[mC,pJ,nM,or_false]at k r;rcases k with⟨rfl,rfl⟩|⟨rfl,rfl⟩|⟨rfl,rfl⟩|⟨rfl,rfl⟩|⟨rfl,rfl⟩;·trivial
   ·trivial
   ·trivial
   ·trivial
   obtain⟨y,c,q,a⟩:=b6;rcases r with⟨rfl,rfl⟩|⟨rfl,rfl⟩|⟨rfl,rfl⟩|⟨rfl,rfl⟩|⟨rfl,rfl⟩;·exact⟨y,c,F.1 _ _ _ q J5,a⟩
   ·exact⟨y,c,F.1 _ _ _ q J5,a⟩
   ·exact⟨y,c,F.1 _ _ _ q J5,a⟩
   ·exact⟨y,c,F.1 _ _ _ q J5,a⟩
   exact absurd rfl ah
  case hpre=>
   intro G b9 ae b7 a7 M ah H U F D;have r:=zC a7;clear M a7;simp only[mC,pJ,nM,or_false]at r;rcases r with⟨rfl,rfl⟩|⟨rfl,rfl⟩|⟨rfl,rfl⟩|⟨rfl,rfl⟩|⟨rfl,rfl⟩<;>trivial
  case hpr0=>
   intro ae b9 M;have k:=zC M;clear M;simp only[mC,pJ,nM,or_false]at k;rcases k with⟨rfl,rfl⟩|⟨rfl,rfl⟩|⟨rfl,rfl⟩|⟨rfl,rfl⟩|⟨rfl,rfl⟩<;>trivial
  simp only[Xu,Xv];refine zs ?_;refine zT rfl rfl (fun w' d D ad=>?_) (fun ba a8=>?_)
  ·refine zO.call [Xj (Xa ⟨b,0,Xb⟩),I6 12] rfl func22 rfl rfl rfl ?_;refine(C 12 w' Wm d).mono ?_;rintro e s⟨x,rfl,aa,ai,Q,X⟩;exact⟨_,rfl,Q,X,⟨x,rfl,aa,ai⟩,trivial⟩
  obtain⟨t,rfl,aj,aj⟩:=a8;refine Uq ?_;refine zs ?_;refine zT rfl rfl (fun w' d D ad=>?_) (fun ba a8=>?_)
  ·refine zO.call [Xj (Xa ⟨b,0,Xb⟩),I6 4] rfl func22 rfl rfl rfl ?_;refine(C 4 w' Wm d).mono ?_;rintro e s⟨x,rfl,aa,ai,Q,X⟩;exact⟨_,rfl,Q,X,⟨x,rfl,aa,ai⟩,trivial⟩
  obtain⟨bu,rfl,aj,aj⟩:=a8;refine Uq ?_;iterate 2 refine zs ?_
  refine zT rfl rfl (fun w' d D ad=>?_) (fun ba a8=>?_)
  ·refine zO.call [Xj (Xa ⟨b,0,Xb⟩),I6 3] rfl func22 rfl rfl rfl ?_;refine(C 3 w' Wm d).mono ?_;rintro e s⟨x,rfl,aa,ai,Q,X⟩;exact⟨_,rfl,Q,X,⟨x,rfl,aa,ai⟩,trivial⟩
  obtain⟨bv,rfl,aj,aj⟩:=a8;refine Uq ?_;iterate 3 refine zs ?_
  refine Q2 (.tmp 22) ⟨b,0,Xb⟩ rfl rfl rfl rfl ?_;refine Uq ?_;iterate 6 refine zs ?_
  refine zT rfl rfl (fun w' d D ad=>?_) (fun ba a8=>?_)
  ·refine zO.call [Xj (Xa ⟨b,0,Xb⟩),I6 ((A:Int)+1)] rfl func22 rfl rfl rfl ?_;refine(C ((A:Int)+1) w' Wm d).mono ?_;rintro e s⟨x,rfl,aa,ai,Q,X⟩;exact⟨_,rfl,Q,X,⟨x,rfl,aa,ai⟩,trivial⟩
  obtain⟨bh,rfl,az,b0⟩:=a8;refine Uq ?_;iterate 2 refine zs ?_
  refine zT rfl rfl (fun w' d D ad=>?_) (fun ba a8=>?_);·obtain⟨⟨K,ag,f,a9,R⟩,ab,S⟩:=(P _).1 d;refine zO.step (v:=Xj (Xa ⟨w'.heap.size,0,Xb⟩)) (w':=w'.alloc (Xk #[I6 0,I6 0,Xh Xd,Xh Xd,Xh Xd,I6 0,I6 0] 77)) (by clear b2;simp only[execOp];go_simp) ⟨(P _).2 ⟨⟨K,ag,f.aA (za _ _),a9,R.trans (zR.aA (za _ _))⟩,ab.aA (za _ _),S.aA (za _ _)⟩,za _ _,⟨_,rfl⟩,_,rfl,zm.aE _ [I6 0,I6 0,Xh Xd,Xh Xd,Xh Xd,I6 0,I6 0] _ rfl,R.2,fun ae M=>(S.lt ae M).2⟩
  obtain⟨X,rfl⟩:=a8;refine Uq ?_;refine Zv fun C aj ad=>?_;obtain⟨C,c,q,a,C⟩:=ad 20;simp only[Value.pointer.injEq,Option.some.injEq,Addr.mk.injEq,and_true]at c;subst c;obtain⟨⟨aq,be,a0,W,c⟩,b8,b3⟩:=(P _).1 aj;have br:=dD a0;have bf:=dD W;have bq:=dD c;have bg:=dD b8;have bs:=dD b3;have bm:=dD q;have Q:=dD a;have al:=dD C;have ak:=dD<|nT ax a;clear q a C a0 W c b8 b3 ad aj b2 an B;obtain⟨W,a⟩:=kA (decide ((0:Int)<bu));obtain⟨c,a0⟩:∃c,Xo (decide ((0:Int)<bv)=c):=⟨_,rfl⟩;rw[a.out,a0.out];obtain⟨a,a0⟩:=kB (bh-1);have bh:a<(A:Int):=Wm;have A:-1<=a:=Wm;rw[a0];refine zP rfl 77 (.tmp 3) (.tmp 32) rfl X rfl [I6 t,I6 0,Xh W,Xh c,Xh Xd,I6 a,I6 0] rfl bm rfl zsO (arE.one ⟨t,0,W,c,Xd,a,0⟩) ?_;intro aj b2 C _;have A:=br.area bg C bm Q ak.out;have bm:=dD A.1;have bg:=dD A.2;have b8:=dD<|bq.own C Q.out;have bq:Xo (zb arE w0.heap.size aj (O h g i) l):=bs.grown C (fun y b3 e=>by cases e;have:=al.out _ b3;omega);have br:=dD b2;clear A b2 C az b0 a0;go_upto_region 4 with fail;simp only[Yq];obtain⟨z,P⟩:=Ww fun u=>MkE w0 hi b w L V m vt T u/\SpB w0.heap.size w.heap.size u V m/\zb arE w0.heap.size u (O h g i) l/\zm u X 77 [I6 t,I6 0,Xh W,Xh c,Xh Xd,I6 a,I6 0];have B:z aj.drew:=(P _).2 ⟨⟨aq,be,bm.aA (gW _),bf,b8.trans (zR.aA (gW _))⟩,bg.aA (gW _),bq.aA (gW _),br.aA (gW _)⟩;have a0:=fun af:zh z=>((P _).1 af.holds).2.2.2.box.c 0 rfl;have an:Nonempty (zh z):=⟨⟨_,B⟩⟩;refine q4 (I:=z) 7 [(4,⟨fun v=>∃x:Int,v=I6 x/\0<=x/\x<4,fun _ _=>True,fun _ _=>True,fun _=>True⟩)] B zY Kr rfl rfl Dc (Sa ⟨_,0,rfl,Wm,Wm⟩) ?hp ?hpre ?hpr0 ?_;case hp=>
   intro ae b7 G b9 M a7 ah b1 v H U F b6;have k:=zC M;simp only[mC,pJ,nM,or_false]at k;obtain⟨rfl,rfl⟩:=k;trivial
  case hpre=>
   intro G b9 ae b7 a7 M ah H U F D;have r:=zC a7;simp only[mC,pJ,nM,or_false]at r;obtain⟨rfl,rfl⟩:=r;trivial
  case hpr0=>
   intro ae b9 M;have k:=zC M;simp only[mC,pJ,nM,or_false]at k;obtain⟨rfl,rfl⟩:=k;trivial
  simp only[Xu,Xv];iterate 4 refine zs ?_
  refine zT rfl rfl (fun w' d D ad=>?_) (fun ba a8=>?_);·obtain⟨⟨K,ag,f,a9,R⟩,ab,S,z⟩:=(P _).1 d;refine zO.call [Xj (Xa ⟨b,0,Xb⟩),I6 4] rfl func22 rfl rfl rfl ?_;refine(qY 4 f).mono ?_;rintro e s⟨U,az,x,rfl,r,d,_,aa,ai,_,k⟩;exact⟨_,rfl,(P _).2 ⟨⟨U,az,r,a9.trans k,R.trans (f.keeps d)⟩,ab.pick f d,S.pick f d,(f.keeps d).1 _ _ _ z J5⟩,trivial,⟨x,rfl,aa,Wm⟩,trivial⟩
  obtain⟨R,rfl,d,d⟩:=a8;refine Uq ?_;iterate 2 refine zs ?_
  refine Zv fun M d ad=>?_;obtain⟨⟨U,az,r,k,f⟩,A,s,z⟩:=(P _).1 d;have a8:=dD r;have aa:=dD k;have aq:=dD f;have D:=dD A;have F:=dD s;have C:=dD z;clear r k f A s z ad d a0 an B;obtain⟨d,f⟩:=kA (t+1+R);have ai:Xo ((d-t).toNat<=4):=show _<=_ by rw[<-f.out];omega
  have b2:=C.box.c 1 rfl;have a0:=C.box.f;rw[f.out];go_upto_region 5 with fail;clear b2 a0;obtain⟨B,f⟩:=kB (M.setCell ⟨X,1,Xb⟩ (I6 d));have k:M.grownBy B (Xa X):=by rw[<-f];exact jV _ _ _ _
  have b1:Xo (zm B X 77 [I6 t,I6 d,Xh W,Xh c,Xh Xd,I6 a,I6 0]):=dD (by rw[<-f];exact C.set 1 _);have r:=a8.area D k C Q ak.out;have a9:=dD r.1;have ab:=dD r.2;have af:=dD<|aq.own k Q.out;have be:Xo (zb arE w0.heap.size B (O h g i) l):=F.grown k (fun y b3 e=>by cases e;have:=al.out _ b3;omega);rw[f];clear f k r;have ah:=b1.box.c 5 rfl;go_upto_if 42 with fail
  go_cut[2,11] (fun au ap s=>au=O h g i/\ap=I6 p/\∃(k:Bool)(r:Int)(f:Sli)(P:List Int),Xo (Mk w0 hi s b f P V m vt T)/\Xo (SpB w0.heap.size w.heap.size s V m)/\Xo (zR hi w s)/\Xo (zb arE w0.heap.size s (O h g i) l)/\Xo (zm s X 77 [I6 t,I6 d,Xh W,Xh c,Xh k,I6 a,I6 r])/\Xo (zbr L P))
  case first=>
   by_cases ae:0<=a
   ·have ba:decide ((0:Int)<=a)=Xc:=Si ae
    have s:=qY 2 a9.out;go_wp2_with fail;refine s.mono ?_;clear s ah;rintro e ad⟨s,s,bm,rfl,C,s,_,_,_,_,z⟩;have A:=dD C;have R:=dD<|ab.pick a9 s;have an:=dD (af.trans (a9.keeps s));have b9:=dD<|be.pick a9 s;have bg:=dD<|(a9.keeps s).1 _ _ _ b1 J5;have F:=dD (aa.trans z);clear C s z;have s:=qY 4 A.out;go_wp2_with fail;refine s.mono ?_;clear s;rintro e b6⟨f,P,r,rfl,D,s,_,z,z,_,C⟩;have b0:=dD D;have S:=dD<|R.pick A s;have ap:=dD (an.trans (A.keeps s));have bf:=dD<|b9.pick A s;have P9:=dD<|(A.keeps s).1 _ _ _ bg J5;have z:=dD (F.trans C);clear D s C;obtain⟨k,s⟩:=kA (bm==1);try rw[s.out]
    have b2:=P9.box.c 4 rfl;have C:=P9.box.c 6 rfl;have a0:=P9.box.f;go_upto_region 7 with fail;try rw[s.out]
    clear b2 C a0;obtain⟨b9,s⟩:=kB ((b6.setCell ⟨X,4,Xb⟩ (Xh k)).setCell ⟨X,6,Xb⟩ (I6 r));have C:b6.grownBy b9 (Xa X):=(by rw[<-s];exact Za (jV _ _ _ _) (jV _ _ _ _));have b2:Xo (zm b9 X 77 [I6 t,I6 d,Xh W,Xh c,Xh k,I6 a,I6 r]):=dD (by rw[<-s];exact(P9.set 4 _).set 6 _);have D:=b0.area S C P9 Q ak.out;have R:=dD D.1;have S:=dD D.2;have F:=dD<|ap.own C Q.out;have Q:Xo (zb arE w0.heap.size b9 (O h g i) l):=bf.grown C (fun y b3 e=>by cases e;have:=al.out _ b3;omega);rw[s];clear s C D;try go_wp2
    go_meet;exact⟨rfl,rfl,k,r,f,P,R,S,F,Q,b2,z⟩
   have ba:decide ((0:Int)<=a)=Xd:=Si ae;try go_wp2
   go_meet;exact⟨rfl,rfl,Xd,0,U,az,a9,ab,af,be,b1,aa⟩
  clear ah;obtain⟨rfl,rfl,k,r,f,P,R,S,F,Q,b2,z⟩:=hcut;obtain⟨C,a9,aa,ab,ae,ah,ak⟩:=b2.box.c7;have s:=zmV (O h g i) l ⟨t,d,W,c,k,a,r⟩ wc Q.at Q.cap j.2.1;have U:Xo ((zej l ⟨t,d,W,c,k,a,r⟩).2=0->jQ m.fl.length (zej l ⟨t,d,W,c,k,a,r⟩).1/\(wrL (zej l ⟨t,d,W,c,k,a,r⟩).1).1=0/\Jd (zej l ⟨t,d,W,c,k,a,r⟩).1 64<=4*(p+1)):=dD<|fun D=>⟨zjG j.1 (by show a<_;rw[aw.out];exact bh) D,zrL D,by have X:=zpY D;have aw:=ai.out;have az:=j.2.2;dsimp only at X;omega⟩;go_wp2_with fail;refine s.mono ?_;clear s C a9 aa ab ae ah ak;rintro e b1⟨⟨u,rfl,s⟩,C⟩;obtain⟨a9,aa,rfl⟩:=s.form;generalize zej l ⟨t,d,W,c,k,a,r⟩=a at U s⊢;obtain⟨t,d⟩:=a;dsimp only at U s⊢;have ae:=dD (R.aA C);have a:=dD (S.aA C);have ab:=dD (F.trans (zR.aA C));have u:=dD (Q.aA C);have r:=dD<|s.base (nT ax F.2);clear C s;obtain⟨s,c⟩:=kA t.length;rw[c.out]at r⊢;by_cases D:d=0
  ·have k:(d==0)=Xc:=by simp[D]
   have c:=dD<|U.out D;clear D;go_wp2;go_roundg (ac-(p+1));exact⟨p+1,s,t,a9,aa,f,P,Wm,Wm,Gn,rfl,ae,z,ab,a,r,c,(fun Z=>Wm)⟩;omega
  have k:(d==0)=Xd:=by simp[D]
  clear D;go_wp2;go_roundg (ac-(p+1));exact⟨p+1,g,l,h,i,f,P,Wm,Wm,Gn,rfl,ae,z,ab,a,u,(show _/\_ from⟨j.1,j.2.1,Hm j.2.2⟩),(fun Z=>Wm)⟩;omega
 have b5:=kD b4;have W:Xo (L=[]->l=[]):=dD<|fun e=>bt.out (Hm (av.out e));obtain⟨d,a,au,c⟩:=Y.rows.sp;have k:=dD a;have f:=dD au;have u:=dD c;clear a au c;obtain⟨s,r⟩:=kA m.sp.length;have a:s<4:=Ry r.out bj.out;have t:=Y.box.box.c 11 rfl;have a:=dD<|bS Y.gr;go_wp2_with(at_builtin;refine zw (E:=ZP) rfl (.tmp 65) (.tmp 68) rfl w0.heap.size _ d rfl (k.aA (za _ _)) _ [⟨Xc,⟨h,g,i⟩,zJ,zJ,zJ,zJ,zJ,zJ,zJ,zJ⟩] rfl (Zp ZP wr ⟨Xc,⟨h,g,i⟩,zJ,zJ,zJ,zJ,zJ,zJ,zJ,zJ⟩ _ _ rfl Dc) ?qb ?qc ?_)
 case qb=>
  rw[f.out,r.out];show(s+1)*224<=_;omega
 case qc=>have:=a.out;omega
 intro a aj z a;obtain⟨am,D,rfl⟩:=z.form;obtain⟨N,bd⟩:=kB ((d++[(⟨Xc,⟨h,g,i⟩,zJ,zJ,zJ,zJ,zJ,zJ,zJ,zJ⟩:SpV)]).length);have c:(N:Int)-1=(s:Int):=by
  have:N=s+1:=by rw[<-bd,lA,f.out,r.out];rfl
  omega
 rw[bd]at z⊢;clear bd;obtain⟨al,d⟩:=kB (wr.alloc (Xk #[Xh Xc,O h g i,eS,eS,eS,eS,eS,eS,eS,eS] 63));have c:=gP d;rw[d]at a;clear d;have P:zm aj b 81 [n.x,V.f.x,I6 m.aB,V.s.x,V.sb.x,V.sq.x,V.db.x,V.dq.x,V.fl.x,I6 m.cnt,V.ca.x,V.sp.x,vt.x]:=zm.row (k.aA c) a (Y.box.aA c) Dc
 have ac:Xo (MkR w0.heap.size hi aj {V with sp:=⟨am,N,D⟩} {m with sp:=m.sp++[⟨Xc,l,qG⟩]} vt T):=(Y.rows.aA c).addSp (k.aA c) f (fun S x b7 ao f=>by
  obtain⟨bn,bo,bp⟩:=u.out S x b7 ao f;exact⟨bn,bo.aA c,bp⟩) a ⟨am,N,D⟩ ⟨h,g,i⟩ (bb.aA c) z
 have aa:=dD<|zc.row (k.aA c) a (Y.gr.trans c);have b8:=dD<|(bl.trans (zR.aA c)).trans (zR.row (k.aA c) a (fun H Q=>Q.2.2.2.2.2.2.1 rfl));have U:Xo (zb arE w0.heap.size aj (O h g i) l):=dD<|by
  cases f:(V.sp.x).ownBlock with
  |none=>
   rw[f]at a;exact(bb.aA c).aA (qV a)
  |some y=>
   obtain⟨ao,ak⟩:=(k.aA c).obj f;rw[f]at a;exact(bb.aA c).kind a ak Dc
 have k:=dD P;have u:Xo (w0.heap.size<=b/\zq byE w0 (n.x) ar/\n.n<=n.c/\∀a9∈ar,0<=a9/\a9<256):=show _/\_ from⟨Y.hb,Y.lr,Y.lc,Y.lb⟩;clear P z a c t;have t:=k.box.c 11 rfl;have a0:=k.box.f;go_upto_region 12 with fail;clear t a0;obtain⟨M,z⟩:=kB (aj.setCell ⟨b,11,Xb⟩ (O am N D));have a:aj.grownBy M (Xa b):=by rw[<-z];exact jV _ _ _ _
 have a8:Xo (Mk w0 hi M b n ar {V with sp:=⟨am,N,D⟩} {m with sp:=m.sp++[⟨Xc,l,qG⟩]} vt T):=dD<|⟨zd aa a u.1,u.1,by rw[<-z];exact k.set 11 _,u.2.1,u.2.2.1,u.2.2.2,ac.var a k a.size (.inl rfl)⟩;have aq:=dD<|b8.trans (zR.kind a k (fun _ Q=>absurd rfl Q.1));have Y:Xo (zb arE w0.heap.size M (O h g i) l):=U.kind a k Dc;rw[z];clear z a;obtain⟨z,k⟩:=kA T.length;have P:Xo (z=s):=dD<|by rw[<-k.out,bk.tl,r.out]
 have U:=a8.box.box.c 12 rfl;have a:=dD<|bS a8.gr;go_wp2_with(at_builtin;refine zw (E:=zdk) rfl (.tmp 77) (.tmp 79) rfl w0.heap.size _ T rfl (a8.rows.tt.aA (za _ _)) _ [fun _=>en0] rfl (Zp zdk M (fun _=>en0) _ _ rfl Dc) ?qb ?qc ?_)
 case qb=>
  rw[k.out];show(z+1)*1536<=_;have:=P.out;omega
 case qc=>exact nT a (bS (za _ _))
 intro a B z a9;obtain⟨ah,ai,rfl⟩:=z.form;obtain⟨ac,aa⟩:=kB ((T++[fun _=>en0]).length);rw[aa]at z⊢;obtain⟨al,d⟩:=kB (M.alloc (Xk (zdk.enc (fun _=>en0)).toArray 56));have c:=gP d;have a:al.grownBy B (vt.x).ownBlock:=Ry d a9;clear a9 d aa;have d:=a8.aA c;have M:Xo (zm B b 81 [n.x,V.f.x,I6 m.aB,V.s.x,V.sb.x,V.sq.x,V.db.x,V.dq.x,V.fl.x,I6 m.cnt,V.ca.x,O am N D,vt.x]):=zm.row d.rows.tt a d.box Dc;have a9:=dD<|d.rows.addT a ⟨ah,ac,ai⟩ z;have a8:=dD<|zc.row d.rows.tt a d.gr;have af:=dD<|(aq.trans (zR.aA c)).trans (zR.row d.rows.tt a (fun H Q=>Q.2.2.2.2.2.2.2.1 rfl));have H:Xo (zb arE w0.heap.size B (O h g i) l):=dD<|by
  cases f:(vt.x).ownBlock with
  |none=>
   rw[f]at a;exact(Y.aA c).aA (qV a)
  |some y=>
   obtain⟨ao,ak⟩:=d.rows.tt.obj f;rw[f]at a;exact(Y.aA c).kind a ak Dc
 clear a z c U;have U:=M.box.c 12 rfl;have a0:=M.box.f;go_upto_region 13 with fail;clear U a0;obtain⟨ad,c⟩:=kB (B.setCell ⟨b,12,Xb⟩ (O ah ac ai));have a:B.grownBy ad (Xa b):=by rw[<-c];exact jV _ _ _ _
 have A:Xo (Mk w0 hi ad b n ar {V with sp:=⟨am,N,D⟩} {m with sp:=m.sp++[⟨Xc,l,qG⟩]} ⟨ah,ac,ai⟩ (T++[fun _=>en0])):=dD<|⟨zd a8 a u.1,u.1,by rw[<-c];exact M.set 12 _,u.2.1,u.2.2.1,u.2.2.2,a9.var a M a.size (.inl rfl)⟩;have an:=dD<|af.trans (zR.kind a M (fun _ Q=>absurd rfl Q.1));have d:Xo (zb arE w0.heap.size ad (O h g i) l):=H.kind a M Dc;rw[c];clear c a;obtain⟨u,a⟩:∃u:Sli,Xo (u=⟨ah,ac,ai⟩):=⟨_,rfl⟩;rw[<-a.out]at A;have y:=dD<|bk.space j.2.1 bj.out;have t:=A.box.box.c 11 rfl;have a:=Zo (O h g i) l ad d.at (jJ.1 j.2.1).2.cG;go_wp2_with fail;refine a.mono ?_;clear a t;rintro e b1⟨rfl,C⟩;have ae:=dD (A.aA C)
 have ab:=dD (an.trans (zR.aA C));clear C;have f:Xo (∀{c:Array Oper}{a:List Oper}{h:Oper}{d:Act}{w:Xn}{Q:Exit->Act->Xn->Prop}(_:h.guard=Xb)(x g:Operand)(_:h.op=.index 68 x g)(_:d.eval x=Xi (zD (tab (zr l))).toArray)(S:Nat)(_:d.eval g=I6 (S:Int))(_:S<64){v:Xq}(_:Xi (onv (zr l S)).toArray=v)
  (_:wpList prog c Q a (d.put h.dst v) w),wpList prog c Q (h::a) d w):=fun X x g aw az S bc a _ c d=>zds X x g aw (zr l) az S bc a c d
 generalize zD (tab (zr l))=C at f⊢;have A:Xo (({m with sp:=m.sp++[⟨Xc,l,qG⟩]}:Ma).sp[s]?=Xa ⟨Xc,l,qG⟩):=dD<|by
  show(m.sp++[(⟨Xc,l,qG⟩:Sp)])[s]?=_;rw[aR (by rw[r.out];exact nR _),r,Yp];rfl
 have d:Xo ((T++[fun _=>en0])[s]?=Xa (fun _=>en0)):=dD<|by
  rw[aR (by rw[k.out,P.out];exact nR _),k,P,Yp];rfl
 go_wp2;go_loopg[92] 64 (fun bi g wr=>∃(p:Nat)(K:Sli)(ag:List Int)(h:MaV)(a:Ma)(c:List (Nat->En))(k:Nat->En),p<=64/\64-p<=bi/\g=I6 p/\Xo (Mk w0 hi wr b K ag h a u c)/\Xo (zbr L ag)/\Xo (zR hi w wr)/\Xo (qT a c)/\Xo (a.sp=m.sp++[⟨Xc,l,qG⟩]/\a.fl=m.fl/\a.aB=m.aB/\a.fs.length=m.fs.length)/\Xo (c[s]?=Xa k/\∀G,p<=G->k G=en0)/\Xo (L=[]->a={m with sp:=m.sp++[⟨Xc,l,qG⟩]}/\c=(T++[fun _=>en0])))
 exact⟨0,n,ar,_,_,_,fun _=>en0,nZ _,Wm,rfl,ae,ay,ab,y,(show _/\_ from⟨rfl,rfl,rfl,rfl⟩),(show _/\_ from⟨d,fun _ _=>rfl⟩),(fun _=>⟨rfl,rfl⟩)⟩;obtain⟨c,B,N,S,U,P,k,a,q,rfl,R,i,F,H,g,a,M⟩:=hrel;by_cases d:c<64
 ·have n:(c:Int)<64:=Wm
  obtain⟨y,h⟩:=kA (zr l c);obtain⟨z,r,x,t,p,q⟩:=y;have y:Xo (Value.agg (onv (zr l c)).toArray=Xi #[Xh z,Xh r,Xh x,Xh t,I6 p,I6 q]):=dD<|Rr h.out;cases z with
  |false=>
   go_wp2_with(refine f rfl (.tmp 91) (.tmp 92) rfl rfl c rfl d y.out ?_)
   go_roundg (64-(c+1));exact⟨c+1,B,N,S,U,P,k,Wm,Wm,Gn,R.aA (za _ _),i,F.trans (zR.aA (za _ _)),H,g,(show _/\_ from⟨a.1,fun G a7=>a.2 G Wm⟩),M⟩;omega
  |true=>
   have K:Xo (L≠[]):=dD<|fun e=>by
    have X:=h.out;rw[W.out e]at X;cases X
   go_upto_region 17 with(refine f rfl (.tmp 91) (.tmp 92) rfl rfl c rfl d y.out ?_)
   obtain⟨f,z⟩:=kA wr.heap.size;refine nW fun b6 f=>?_;have C:=gP f;have y:=xP f z;rw[z.out];have b0:=dD (R.aA C);have ap:=dD (F.trans (zR.aA C));clear f C;obtain⟨z,C,Q,X,D,Y⟩:=y.k6;have f:=znT s c ⟨Xc,l,qG⟩ k ⟨Xc,r,x,t,p,q⟩ b0 H (Rx g.1 A) a.1 d (a.2 c (nR _)) h rfl (Rx g.2.1 j.1);go_wp2_with fail;refine f.mono ?_;clear f z C Q X D Y;rintro e d⟨⟨v,rfl⟩,D,X,a8,A,Q,f,h,p,q,⟨r,t,x,y⟩,z,_⟩;obtain⟨C,d⟩:∃C,Q[s]?=Xa C/\∀G,c+1<=G->C G=en0:=by
    rcases z with rfl|⟨e,rfl⟩;·exact⟨k,a.1,fun G a7=>a.2 G Wm⟩
    refine⟨jG k c e,sF (gS.1 a.1).1,fun G a7=>?_⟩;unfold jG;rw[kF Wm];exact a.2 G Wm
   have Y:=dD f;have a:=dD (i.trans h);have G:=dD (ap.trans p);have k:=dD q;have a0:Xo (A.sp=m.sp++[⟨Xc,l,qG⟩]/\A.fl=m.fl/\A.aB=m.aB/\A.fs.length=m.fs.length):=show _/\_ from⟨r.trans g.1,t.trans g.2.1,x.trans g.2.2.1,y.trans g.2.2.2⟩;have s:=dD d;clear f h p q r t x y z d;go_wp2;go_roundg (64-(c+1));exact⟨c+1,D,X,a8,A,Q,C,Wm,Wm,Gn,Y,a,G,k,a0,s,(fun Z=>absurd Z K)⟩;omega
 have n:¬(c:Int)<64:=Wm
 have a:Xo (Spc w0 hi b w L m T wr):=dD<|⟨B,N,S,U,u,P,l,R,i,F,H,g,⟨j.1,Hm j.2.2⟩,fun e=>by
  obtain⟨c,d⟩:=M.out e;rw[W.out e]at c;exact⟨c,d⟩⟩
 go_wp2;exact Wq a.out
theorem zjc(x)(e:o.op=.load 56 x)(b c:Nat)(f:a.eval x=Xj (Xa ⟨b,c,Xb⟩))(hb:w.rangeAt b c vs)(d:vs.length=192):(execOp a.eval o).run prog w=.ok (.value (Xi vs.toArray)) w:=by have:=run_loadAt_mid (P:=prog) w b c 56 vs _ hb underlying56 rfl (Rx d zsV);simp only[execOp,e,f,Xz,this,rA,Xw]
theorem zb.range{c:Nat}(h:zb E k w (O (Xa ⟨b,0,Xb⟩) p c) y){i:Nat}{x:α}(n:y[i]?=Xa x):w.rangeAt b (i*E.k) (E.enc x):=fun j v a=>by
 have:=h.one n j v a;rw[zX,Xt,zA]at this;exact this
structure MkT(base hi ht k:Nat)(w:Xn)(V:MaV)(m:Ma)(vt:Sli)(T:List (Nat->En)):Prop where
 fs:zb q3 base w (O V.f.a V.f.n V.f.c) m.fs
 sl:zb slE base w (O V.s.a V.s.n V.s.c) m.sl
 bB:∀g,(O V.s.a V.s.n V.s.c).ownBlock=Xa g->g<hi
 sb:zl base w (O V.sb.a V.sb.n V.sb.c) m.sb
 sq:V.sq=zJ/\m.sq=[]
 db:zl base w (O V.db.a V.db.n V.db.c) m.db
 dq:zu base w (O V.dq.a V.dq.n V.dq.c) m.dq
 fl:∃xs:List FlV,zb fvE base w (O V.fl.a V.fl.n V.fl.c) xs/\xs.length=m.fl.length/\∀(i:Nat)x f,xs[i]?=Xa x->m.fl[i]?=Xa f->x.size=f.size/\zb blE hi w x.v f.bl
 ca:zb jF base w (O V.ca.a V.ca.n V.ca.c) m.ca
 sp:∃xs:List SpV,zb ZP base w (O V.sp.a V.sp.n V.sp.c) xs/\xs.length=m.sp.length/\∀(i:Nat)x s f,xs[i]?=Xa x->m.sp[i]?=Xa s->T[i]?=Xa f->x.aD=s.aD/\zb arE base w x.ar.v s.aC/\(i<k->Js 0 ht w x.tab (ZV f))/\(k<=i->x.tab=J2)
 tt:zb zdk base w (O vt.a vt.n vt.c) T
 ap:(∀g,(O V.sb.a V.sb.n V.sb.c).ownBlock=Xa g->(O V.db.a V.db.n V.db.c).ownBlock≠Xa g)/\zf4 m
 lo:∀g,(O V.f.a V.f.n V.f.c).ownBlock=Xa g\/(O V.s.a V.s.n V.s.c).ownBlock=Xa g\/(O V.fl.a V.fl.n V.fl.c).ownBlock=Xa g\/(O V.ca.a V.ca.n V.ca.c).ownBlock=Xa g\/(O V.sp.a V.sp.n V.sp.c).ownBlock=Xa g->g<ht
 hts:ht<=w.heap.size
section
variable{base hi ht k:Nat}{w w':Xn}{V:MaV}{m:Ma}{vt:Sli}{T:List (Nat->En)}
theorem MkR.start(h:MkR base hi w V m vt T)(ht:Nat)(b:w.heap.size=ht):MkT base hi ht 0 w V m vt T:=by
 have c:∀g,(V.f.x).ownBlock=Xa g\/(V.s.x).ownBlock=Xa g\/(V.fl.x).ownBlock=Xa g\/(V.ca.x).ownBlock=Xa g\/(V.sp.x).ownBlock=Xa g->g<ht:=fun g a=>by
  obtain⟨_,e,_⟩:=h.fl;obtain⟨_,d,_⟩:=h.sp;rcases a with a|a|a|a|a;·have:=(h.fs.lt g a).2;omega
  ·have:=(h.sl.lt g a).2;omega
  ·have:=(e.lt g a).2;omega
  ·have:=(h.ca.lt g a).2;omega
  have:=(d.lt g a).2;omega
 obtain⟨f,d,a,e⟩:=h.sp;exact⟨h.fs,h.sl,h.bB,h.sb,h.sq,h.db,h.dq,h.fl,h.ca,⟨f,d,a,fun i x s f d a _=>⟨(e i x s d a).1,(e i x s d a).2.1,fun f=>absurd f (nL _),fun _=>(e i x s d a).2.2.1⟩⟩,h.tt,h.ap,c,Nat.le_of_eq b.symm⟩
theorem MkT.aA(h:MkT base hi ht k w V m vt T)(g:zc w w'):MkT base hi ht k w' V m vt T:=by obtain⟨f,a,c,b⟩:=h.fl;obtain⟨l,e,j,d⟩:=h.sp;exact⟨h.fs.aA g,h.sl.aA g,h.bB,h.sb.aA g,h.sq,h.db.aA g,h.dq.aA g,⟨f,a.aA g,c,fun i x f a c=>⟨(b i x f a c).1,(b i x f a c).2.aA g⟩⟩,h.ca.aA g,⟨l,e.aA g,j,fun i x s f a c b=>⟨(d i x s f a c b).1,(d i x s f a c b).2.1.aA g,fun e=>((d i x s f a c b).2.2.1 e).aA g,(d i x s f a c b).2.2.2⟩⟩,h.tt.aA g,h.ap,h.lo,nT h.hts (bS g)⟩
theorem MkT.table(h:MkT base hi ht k w V m vt T){c:List SpV}(s2:c.length=m.sp.length)(s3:∀(i:Nat)x s f,c[i]?=Xa x->m.sp[i]?=Xa s->T[i]?=Xa f->x.aD=s.aD/\zb arE base w x.ar.v s.aC/\(i<k->Js 0 ht w x.tab (ZV f))/\(k<=i->x.tab=J2)){g:Nat}{cs:Array Xq}(b:w.heap[g]?=Xa (Xk cs 63 (0,0)))(n:g<ht)(a:w.grownBy w' (Xa g)){x y:SpV}{f:Nat->En}(l:c[k]?=Xa x)(d:T[k]?=Xa f)(t:y.aD=x.aD/\y.ar=x.ar)(v:Js 0 ht w' y.tab (ZV f))(u:zb ZP base w' (V.sp.x) (c.set k y)):MkT base hi ht (k+1) w' V m vt T:=by
 obtain⟨z,q,r,p⟩:=h.fl;have j:Out 0 ht w w':=Out.grown a (fun e e=>by cases e;exact⟨nZ _,n⟩);refine⟨h.fs.kind a b Dc,h.sl.kind a b Dc,h.bB,⟨z9 h.sb.1 a b Dc,h.sb.2⟩,h.sq,⟨z9 h.db.1 a b Dc,h.db.2⟩,⟨z9 h.dq.1 a b Dc,h.dq.2⟩,⟨z,q.kind a b Dc,r,fun i x f l d=>⟨(p i x f l d).1,(p i x f l d).2.kind a b Dc⟩⟩,h.ca.kind a b Dc,⟨c.set k y,u,Rx Yi s2,fun i z s u n r c=>?_⟩,h.tt.kind a b Dc,h.ap,h.lo,nT h.hts a.size⟩;by_cases e:i=k;·subst e;rw[sF (gS.1 l).1]at n;cases n;rw[d]at c;cases c;obtain⟨p,q,_⟩:=s3 i x s f l r d;exact⟨t.1.trans p,Rx t.2 (q.kind a b Dc),fun _=>v,fun e=>Wm⟩
 rw[sN (fun h=>e h.symm)]at n;obtain⟨p,q,d,e⟩:=s3 i z s u n r c;exact⟨p,q.kind a b Dc,fun a=>(d Wm).out j,fun a=>e Wm⟩
theorem MkT.mach(h:MkT base hi ht m.sp.length w V m vt T)(p:T.length=m.sp.length)(hd:Int):zK w V (ZT m T hd):=by
 obtain⟨y,d,n,e⟩:=h.fl;obtain⟨z,u,j,v⟩:=h.sp;obtain⟨r,t⟩:=h.sq;refine⟨h.fs.at,h.sl.at,h.sb.at,?_,h.db.at,h.dq.at,⟨d.cap,y,d.at.s0,n,fun i x f b g=>⟨(e i x f b g).1,(e i x f b g).2.at.s0⟩⟩,h.ca.at,⟨z,u.at,by simp[ZT,p,j],fun i x s b q=>?_⟩⟩
 ·show ZA w (V.sq.x) m.sq
  rw[r,t];exact⟨⟨Xb,0,rfl,fun _=>rfl,fun x b=>by cases b⟩,Sm,Sm⟩
 have a:(List.zipWith (fun s f=>({s with tb:=ZV f}:Sp)) m.sp T)[i]?=Xa s:=q;rw[List.getElem?_zipWith]at a;have hi:i<m.sp.length:=by rw[<-j];exact(gS.1 b).1
 rw[gE hi,gE (show i<T.length by omega)]at a;simp only[Option.some.injEq]at a;obtain⟨k,c,l,_⟩:=v i x _ _ b (gE hi) (gE (show i<T.length by omega));subst a;exact⟨k,c.at,c.cap,(l hi).now⟩
end
structure zrm(w0 w:Xn)(b:Nat)(vl:Sli)(L:List Int)(cs:List Xq):Prop where
 gr:zc w0 w
 hb:w0.heap.size<=b
 box:zm w b 81 (O vl.a vl.n vl.c::cs)
 lr:zq byE w0 (O vl.a vl.n vl.c) L
 lc:vl.n<=vl.c
 lb:∀z∈L,0<=z/\z<256
theorem Mk.aX(h:Mk w0 hi w b vl L V m vt T):zrm w0 w b vl L [V.f.x,I6 m.aB,V.s.x,V.sb.x,V.sq.x,V.db.x,V.dq.x,V.fl.x,I6 m.cnt,V.ca.x,V.sp.x,vt.x]:=⟨h.gr,h.hb,h.box,h.lr,h.lc,h.lb⟩
theorem zoX(n:Int)(j:zrm w0 w b vl L D):
  Xp prog 22 #[Xj (Xa ⟨b,0,Xb⟩),I6 n] w fun e w'=>∃F g x,e=Xl (I6 x)/\zrm w0 w' b F g D/\w.grownBy w' (Xa b)/\w'.heap.size=w.heap.size/\0<=x/\(x=0\/x<n)/\(L=[]->x=0)/\zbr L g:=by
 have d:=dD j;have l:=j.box.box;have I:=l.c 0 rfl;have a6:=l.f;have h:=j.lr.n;clear l;obtain⟨⟨a2,t,f⟩,cs⟩:∃Z:Sli,vl=Z:=⟨_,rfl⟩;subst cs;dsimp only[Sli.x]at I h d;clear j;by_cases u:t=0
 ·subst u;clear h;go_enter func22,ntmps22;go_wp2;go_ret;exact⟨_,L,0,rfl,d,World.grownBy.rfl' _ _,rfl,Int.le_refl _,.inl rfl,fun _=>rfl,zbr.refl L⟩
 have Q:((t:Int)==0)=Xd:=by simp;omega
 have R:(t==0)=Xd:=by simp[u]
 by_cases a1:n<1
 ·clear u h
  go_enter func22,ntmps22;go_wp2;go_ret;exact⟨_,L,0,rfl,d,World.grownBy.rfl' _ _,rfl,Int.le_refl _,.inl rfl,fun _=>rfl,zbr.refl L⟩
 obtain⟨z,g,rfl⟩:∃z g,L=z::g:=by
  cases L with
  |nil=>simp at h;omega
  |cons z g=>exact⟨z,g,rfl⟩
 have U:=d.lb z Sm;obtain⟨V,W⟩:=U;obtain⟨p,rfl,H⟩:=d.lr.bZ 0 z rfl;have a0:w.cell? p=Xa (U8 z):=by
  have:=H w d.gr 0 _ rfl;rw[zX]at this;simpa[byE,Addr.add]using this
 obtain⟨k,rfl⟩:∃k,t=k+1:=⟨t-1,Wm⟩;have q:k+1<=f:=d.lc;have s:=zki (w:=w) (ad:=p) (n:=k) (c:=f);clear u H;have T:(0:Int)<((k+1:Nat):Int):=Wm;obtain⟨a,i⟩:∃a,(if f=1 then p else p.add 1)=a:=⟨_,rfl⟩;rw[i]at s;have A:Xo (zq byE w0 (O (Xa a) k (f-1)) g):=dD<|by
  obtain⟨⟨a4,a5,K,a3,X⟩,M⟩:=d.lr;dsimp only[Sli.x]at K;cases K;have Y:=X p rfl;refine⟨⟨Xa a,f-1,rfl,fun j=>(by cases j),fun P E=>?_⟩,?_⟩
  ·cases E
   by_cases S:f=1
   ·have:g=[]:=by
     have:g.length=0:=Wm;exact eN this
    subst this;intro v N r;simp at r
   rw[kF S]at i;subst i;intro v N r;rw[zX,Nat.add_comm 1 v];exact Y (v+1) N (by simpa[byE]using r)
  have:byE.bytes=1:=rfl;rw[this]at M⊢;simp at M⊢;omega
 have y:Xo (zm (w.setCell ⟨b,0,Xb⟩ (O (Xa a) k (f-1))) b 81 (O (Xa a) k (f-1)::D)):=d.box.set 0 _;have m:Xo (w.grownBy (w.setCell ⟨b,0,Xb⟩ (O (Xa a) k (f-1))) (Xa b)):=⟨rfl,rfl,rfl,by simp[World.setCell],fun v _ r=>Below.heap_setCell _ _ _ _ (fun e=>r (by rw[e]))⟩;have C:Xo ((w.setCell ⟨b,0,Xb⟩ (O (Xa a) k (f-1))).heap.size=w.heap.size):=dD<|by simp[World.setCell]
 have B:Xo (zrm w0 (w.setCell ⟨b,0,Xb⟩ (O (Xa a) k (f-1))) b ⟨Xa a,k,f-1⟩ g D):=show zrm _ _ _ _ _ _ from
  ⟨zd d.gr m d.hb,d.hb,y,A,(show k<=f-1 by omega),fun P E=>d.lb P (by simp[E])⟩
 have G:Xo (0<=z%n/\z%n<n):=dD<|⟨Int.emod_nonneg _ Wm,Int.emod_lt_of_pos _ Wm⟩;clear h q i;go_enter func22,ntmps22;go_wp2;go_ret;exact⟨_,g,z%n,rfl,B,m,C,G.1,.inr G.2,fun j=>(by cases j)⟩
theorem zmG(h:Js B0 B1 w us G):∃g t1 t2 j k l m n:Sli,us=[g.v,t1.v,t2.v,j.v,k.v,l.v,m.v,n.v]:=by
 have a:∀i v,us[i]?=Xa v->∃s:Sli,v=s.v:=fun i v b=>by
  obtain⟨y,f⟩:∃y,G[i]?=Xa y:=⟨_,gE (by rw[h.aL,<-h.len];exact(gS.1 b).1)⟩;obtain⟨⟨c,d,e,_⟩,_⟩:=(h.row i v y b f).now;exact⟨⟨c,y.length,d⟩,e⟩
 obtain⟨p,q,r,u,x,z,A,B,rfl⟩:=zl0 h.len;obtain⟨C,rfl⟩:=a 0 p rfl;obtain⟨D,rfl⟩:=a 1 q rfl;obtain⟨E,rfl⟩:=a 2 r rfl;obtain⟨F,rfl⟩:=a 3 u rfl;obtain⟨t,rfl⟩:=a 4 x rfl;obtain⟨H,rfl⟩:=a 5 z rfl;obtain⟨K,rfl⟩:=a 6 A rfl;obtain⟨L,rfl⟩:=a 7 B rfl;grind
theorem zb.cF(h:zb E k w A y)(v:Out b (b+1) w w')(d:∀g,A.ownBlock=Xa g->g≠b):zb E k w' A y:=by
 refine⟨⟨h.1.1,?_⟩,h.2⟩;rcases h.1.2 with a|⟨g,a,c,rfl,f,e,h⟩;·grind
 exact .inr ⟨g,a,c,rfl,f,by rw[v.block g (aS.1 e).1 (Hm (d g rfl))];exact e,h⟩
theorem zm.cF(h:zm w k t D)(p:Out b (b+1) w w')(a:k≠b):zm w' k t D:=by have c:=h.box.lt;have a:w.heap[k]?=_:=h;show w'.heap[k]?=_;rw[p.block k c Wm];exact a
structure FC(w:Xn)(hi b:Nat)(u:Xn)(vl:Sli)(L:List Int)(V:MaV)(m:Ma)(pf:Nat)(sz:Int)(bs:Sli)(bl:List Int):Prop where
 mm:Mk w hi u b vl L V m zJ []
 hp:hi<=pf
 fb:FlB w.heap.size hi pf u V m
 fn:∀g,(O V.fl.a V.fl.n V.fl.c).ownBlock=Xa g->g<pf
 box:zm u pf 84 [Xe Xf sz,O bs.a bs.n bs.c]
 row:zb blE (pf+1) u (O bs.a bs.n bs.c) bl
section
variable{w u u':Xn}{hi b pf:Nat}{vl vl' bs:Sli}{L L':List Int}{V V':MaV}{m m':Ma}{sz:Int}{bl:List Int}
theorem FC.aA(h:FC w hi b u vl L V m pf sz bs bl)(k:zc u u'):FC w hi b u' vl L V m pf sz bs bl:=⟨h.mm.aA k,h.hp,h.fb.aA k,h.fn,h.box.aA k,h.row.aA k⟩
theorem FlB.as(h:FlB w.heap.size hi pf u V m)(a:V'.fl=V.fl)(b:m'.fl=m.fl):FlB w.heap.size hi pf u V' m':=by unfold FlB at h⊢;rw[a,b];exact h
theorem zm.kind{a:TypeId}(h:zm u p t D)(b:u.grownBy u' (Xa k))(c:u.heap[k]?=Xa (Xk U a (0,0)))(ht:a≠t):zm u' p t D:=h.beside b (fun g e=>by
 cases e;intro e;subst e;have a:u.heap[p]?=_:=h;rw[c]at a;cases a;exact ht rfl)
theorem FC.kind(h:FC w hi b u vl L V m pf sz bs bl)(c:u.grownBy u' (Xa k))(d:u.heap[k]?=Xa (Xk U t (0,0)))(ht:t≠84)(a:t≠3)(e:Mk w hi u' b vl' L' V' m' zJ [])(f:V'.fl=V.fl)(i:m'.fl=m.fl):FC w hi b u' vl' L' V' m' pf sz bs bl:=
 ⟨e,h.hp,(h.fb.kind c d (.inl ht) (.inl a)).as f i,Rx f h.fn,h.box.kind c d ht,h.row.kind c d a⟩
theorem FC.pick(h:FC w hi b u vl L V m pf sz bs bl)(c:u.grownBy u' (Xa b))(a:Mk w hi u' b vl' L' V m zJ []):FC w hi b u' vl' L' V m pf sz bs bl:=h.kind c h.mm.box Dc Dc a rfl rfl
theorem FC.fresh(h:FC w hi b u vl L V m pf sz bs bl)(a:u.grownBy u' (Xa k))(c:u.heap[k]?=Xa (Xk U 84 (0,0)))(d:pf<k):FC w hi b u' vl L V m pf sz bs bl:=by
 have d:(V.fl.x).ownBlock≠Xa k:=fun e=>Hm (h.fn k e);have f:w.heap.size<=k:=by have:=h.mm.rows.bh;have:=h.hp;omega
 exact⟨⟨zd h.mm.gr a f,h.mm.hb,h.mm.box.kind a c Dc,h.mm.lr,h.mm.lc,h.mm.lb,h.mm.rows.cO a c d⟩,h.hp,h.fb.kind a c (.inr d) (.inl Dc),h.fn,h.box.beside a (fun g e=>by cases e;omega),h.row.kind a c Dc⟩
theorem zo0(w:Xn)(x:FlV):zb fvE w.heap.size (w.alloc (Xk (fvE.enc x).toArray 84)) (O (Xa ⟨w.heap.size,0,Xb⟩) 1 1) [x]:=by
 refine⟨⟨rfl,.inr ⟨w.heap.size,1,(fvE.enc x).toArray,rfl,nR _,?_,nR _,q5 Wm,rfl,?_⟩⟩,by show 1*32<=_;omega⟩
 ·show(w.heap.push _)[w.heap.size]?=_
  simp;rfl
 simp[fvE,flv]
theorem FC.addB(h:FC w hi b u vl L V m pf sz bs bl)(a:u.grownBy u' (bs.x).ownBlock)(s:Sli){c:List Int}(l:zb blE (pf+1) u' (s.x) c):
  zm u' pf 84 [I6 sz,bs.x]/\(∀p t cs,t≠3->t≠84->zm u p t cs->zm (u'.setCell ⟨pf,1,Xb⟩ (s.x)) p t cs)/\FC w hi b (u'.setCell ⟨pf,1,Xb⟩ (s.x)) vl L V m pf sz s c:=by
 have g:Mk w hi u' b vl L V m zJ []/\FlB w.heap.size hi pf u' V m/\zm u' pf 84 [I6 sz,bs.x]/\(∀p t cs,t≠3->zm u p t cs->zm u' p t cs):=by
  cases c:(bs.x).ownBlock with
  |none=>
   rw[c]at a;have k:=qV a;exact⟨h.mm.aA k,h.fb.aA k,h.box.aA k,fun p t cs _ e=>e.aA k⟩
  |some i=>
   rw[c]at a;obtain⟨cs,d⟩:=h.row.obj c;have f:=(h.row.lt i c).1;have f:w.heap.size<=i:=(by have:=h.mm.rows.bh;have:=h.hp;omega);exact⟨⟨zd h.mm.gr a f,h.mm.hb,h.mm.box.kind a d Dc,h.mm.lr,h.mm.lc,h.mm.lb,h.mm.rows.ints h.fb a d Wm (Hm h.hp)⟩,h.fb.kind a d (.inl Dc) (.inr Wm),h.box.kind a d Dc,fun p t c c e=>e.kind a d (fun e=>c e.symm)⟩
 obtain⟨c,n,d,q⟩:=g;have a:=jV u' pf 1 (s.x);have g:(V.fl.x).ownBlock≠Xa pf:=fun e=>Hm (h.fn pf e);have f:w.heap.size<=pf:=by have:=h.mm.rows.bh;have:=h.hp;omega
 refine⟨d,fun p t cs i j k=>(q p t cs i k).kind a d (fun e=>j e.symm),⟨⟨zd c.gr a f,c.hb,c.box.kind a d Dc,c.lr,c.lc,c.lb,c.rows.cO a d g⟩,h.hp,n.kind a d (.inr g) (.inl Dc),h.fn,d.set 1 _,l.kind a d Dc⟩⟩
def FCE(w:Xn)(hi b:Nat)(L0:List Int)(V:MaV)(m:Ma)(pf:Nat)(sz:Int)(bs:Sli)(bl:List Int)(u:Xn):Prop:=∃vl L,FC w hi b u vl L V m pf sz bs bl/\zbr L0 L
end
theorem MkT.other(h:MkT k hi b p w V m vt T){g:Nat}(a:w.grownBy w' (Xa g))(ht:w.heap[g]?=Xa (Xk U t (0,0)))(c:g<b)(e:t=81\/t=41):MkT k hi b p w' V m vt T:=by
 have d:t≠53/\t≠3/\t≠44/\t≠88/\t≠84/\t≠108/\t≠63/\t≠77/\t≠56:=by rcases e with rfl|rfl<;>decide
 obtain⟨i,e,f,cs,q,r,s,u,v⟩:=d;obtain⟨B,x,y,j⟩:=h.fl;obtain⟨C,z,A,l⟩:=h.sp;have d:Out 0 b w w':=Out.grown a (fun n n=>by cases n;exact⟨nZ _,c⟩);exact⟨h.fs.kind a ht i,h.sl.kind a ht e,h.bB,⟨z9 h.sb.1 a ht f,h.sb.2⟩,h.sq,⟨z9 h.db.1 a ht f,h.db.2⟩,⟨z9 h.dq.1 a ht cs,h.dq.2⟩,⟨B,x.kind a ht q,y,fun i x f c cs=>⟨(j i x f c cs).1,(j i x f c cs).2.kind a ht e⟩⟩,h.ca.kind a ht r,⟨C,z.kind a ht s,A,fun i x s f c j e=>⟨(l i x s f c j e).1,(l i x s f c j e).2.1.kind a ht u,fun n=>((l i x s f c j e).2.2.1 n).out d,(l i x s f c j e).2.2.2⟩⟩,h.tt.kind a ht v,h.ap,h.lo,nT h.hts a.size⟩
theorem zgx:Loc hi k 41:=⟨Dc,Dc,Dc,Dc,Dc,Dc,Dc,Dc,fun h=>absurd h Dc⟩
theorem zs6:(Tryz.prog.info? 41).map (·.size)=Xa 11:=by kernel_rfl
def zhM(nf ns nb k:Nat):Ma:=⟨Xr nf frF,0,Xr ns 0,Xr ns zt,[],Xr nb zt,[],[],nb,[],Xr k ⟨Xc,[],qG⟩⟩
structure zj7(w:Xn)(nf ns nb:Nat)(L:List Int)(w':Xn)(V:MaV)(m:Ma)(T:List (Nat->En))(hd:Int)(hi ht:Nat)(vt:Sli):Prop where
 gr:zc w w'
 rows:MkT w.heap.size hi ht m.sp.length w' V m vt T
 inv:qT m T
 aB:0<=hd/\hd<max (m.fs.length:Int) 1
 fin:∀s∈m.sp,jQ m.fl.length s.aC/\Jd s.aC 64<=12
 fl2:m.fl.length<=2/\∀f∈m.fl,f.size<40
 sp:1<=m.sp.length/\m.sp.length<=2
 fsl:m.fs.length=nf
 new:L=[]->m=zhM nf ns nb 1/\T=[fun _=>en0]/\hd=0
theorem zob(l:List En)(i:Nat):(Jk l i).length=8:=by simp[Jk]
theorem zpU(l:List En)(a:b<8):(Jk l k)[b]?=Xa (l[8*k+b]?.getD en0):=by unfold Jk;rw[Ye,Yl a];rfl
structure zrn(l:List En)(kk:Nat)(t:List (List En)):Prop where
 len:t.length=8
 at':∀j,j<8->t[j]?=Xa (if j<kk then mk (Jk l j)else[])
theorem znc(l:List En):zrn l 0 qG:=⟨rfl,fun j a=>by rw[kF (nL _),qG,Yg,kE a]⟩
theorem zhV(h:zrn C k G)(b:k<8):zrn C (k+1) (G.set k (mk (Jk C k))):=by
 refine⟨by simp[h.len],fun j b=>?_⟩;by_cases e:j=k;·subst e;rw[sF (by rw[h.len];exact b),kE (Nat.lt_succ_self _)]
 rw[sN (fun h=>e h.symm),h.at' j b];grind
theorem zpd(h:zrn C 8 G):G=ZK C:=by
 apply List.ext_getElem?;intro j;by_cases a:j<8;·rw[h.at' j a,kE a];unfold ZK;rw[Ye,Yl a];rfl
 rw[gN (by rw[h.len];omega),gN (by simp[ZK];omega)]
theorem zi2(l:List En)(w:Xn)(cq:l.length=64)(B:∀e∈l,0<=e.kind):
  Xp prog 28 #[Xi (qN l).toArray] w fun e w'=>∃k,e=Xl (Xi k.toArray)/\Js 0 w.heap.size w' k (ZK l)/\zc w w':=by
 have bw:=dD cq;have cz:=dD B;have bu:Xo (∀(j:Nat)e,l[j]?=Xa e->(qN l)[j*3]?=Xa (I6 e.kind)/\(qN l)[j*3+1]?=Xa (I6 e.n)/\(qN l)[j*3+2]?=Xa (Xh e.wr)):=show∀(j:Nat)e,_ from fun j e t=>zeT t;clear cq B;obtain⟨cl,ap⟩:=kA (ZK l);rw[ap.out];generalize qN l=Y at bu⊢;obtain⟨aw,x⟩:=kB (((w.alloc (Xk Y.toArray 56)).alloc (Xk #[eS,eS,eS,eS,eS,eS,eS,eS] 61)).alloc (Xk #[eS,eS,eS,eS,eS,eS,eS,eS] 61));have bv:Xo (zc w aw):=dD<|by rw[<-x];exact((za _ _).trans (za _ _)).trans (za _ _)
 have da:Xo (Box aw w.heap.size Y):=dD<|by rw[<-x];exact((Box.aE w _ _ rfl).alloc _).alloc _
 have dc:Xo (Box aw (w.heap.size+1) J2):=dD<|by rw[<-x];exact(Box.aE _ J2 _ Sm).alloc _
 have d7:Xo (Box aw (w.heap.size+2) J2):=dD<|by rw[<-x];exact Box.aE _ J2 _ Sm
 have bz:Xo (_=aw):=x;clear x;obtain⟨dw,cy⟩:=kA (w.heap.size+2);go_enter func28,ntmps28;go_upto_region 2 with fail;rw[bz.out];go_wp2;go_loopg[8] 8 (fun df dr wr=>∃(a:Nat)(k:List Xq)(U:List (List En)),a<=8/\8-a<=df/\dr=I6 a/\Xo (zc w wr)/\Xo (Box wr w.heap.size Y)/\Xo (Box wr (w.heap.size+1) J2)/\Xo (Box wr (w.heap.size+2) k)/\Xo (Js 0 (w.heap.size+3) wr k U)/\Xo (zrn l a U)/\Xo (∀j,a<=j->j<8->k[j]?=Xa (eS)))
 exact⟨0,J2,qG,nZ _,Wm,rfl,bv,da,dc,d7,Js.nil _ _ _,znc l,show∀j,_ from fun j _ ag=>by rw[J2,Yg,kE ag]⟩;obtain⟨a,k,U,dk,cp,rfl,bs,bm,bn,bl,au,af,c5⟩:=hrel;by_cases n:a<8
 ·have b8:(a:Int)<8:=Wm
  obtain⟨f,P⟩:=kA (Jk l a);have Z:Xo (f.length=8):=dD (by rw[<-P.out];exact zob _ _);have am:Xo (∀D,D<8->∃e,f[D]?=Xa e/\l[8*a+D]?=Xa e/\0<=e.kind):=dD<|fun D B=>by
   obtain⟨e,cb⟩:∃e,l[8*a+D]?=Xa e:=⟨_,gE (by rw[bw.out];omega)⟩;exact⟨e,by rw[<-P.out,zpU l B,cb];rfl,cb,cz e (mG cb)⟩
  obtain⟨i,rfl⟩:∃i,i=wr:=⟨_,rfl⟩;go_wp2;go_loopg[5,6] 8 (fun de dp dq ch=>∃(d:Nat)(ae:Bool),d<=8/\8-d<=de/\dq=I6 d/\dp=Xh ae/\Xo (ae=zaV (f.take d))/\Xo (ch=i))
  exact⟨0,Xd,nZ _,Wm,rfl,rfl,rfl,rfl⟩;obtain⟨d,ae,di,dh,rfl,rfl,ak,cv⟩:=hrel;rw[cv.out];by_cases b6:d<8
  ·have ac:(d:Int)<8:=Wm
   obtain⟨e,z,A,b4⟩:=am.out d b6;have cj:Xo (zaV (f.take (d+1))=(ae||enS e)):=dD<|by
    rw[jU z,ak.out];unfold zaV;rw[List.any_append];simp
   cases ae with
   |true=>
    have bx:Xo (Xc=zaV (f.take (d+1))):=dD<|Rr cj.out;clear z A b4;go_wp2;go_roundg (8-(d+1));exact⟨d+1,Xc,Wm,Wm,Gn,rfl,bx,rfl⟩;omega
   |false=>
    have H:(8:Int)*(a:Int)+(d:Int)=((8*a+d:Nat):Int):=Wm;have G:8*a+d<64:=Wm;obtain⟨a7,_,_⟩:=bu.out _ e A;obtain⟨aj,a1⟩:=kA (8*a+d);rw[a1.out]at H G a7;have ab:(aj:Int)<64:=Wm;have dz:=bm.c _ a7;clear a7 z A;obtain⟨br,al⟩:=kA (enS e);have dg:decide (0<e.kind)=br:=by
     rw[<-al.out];unfold enS;by_cases t:e.kind=0;·rw[t];rfl
     have:0<e.kind:=Wm;rw[decide_eq_true this];simpa using t
    have bx:Xo (br=zaV (f.take (d+1))):=dD (by rw[cj.out,al.out];rfl);clear b4;go_wp2;go_roundg (8-(d+1));exact⟨d+1,br,Wm,Wm,Gn,by first|rfl|rw[dg],bx,rfl⟩;omega
  have ac:¬(d:Int)<8:=Wm;have:d=8:=Wm;subst this;have an:Xo (ae=zaV f):=dD (by rw[ak.out,Xx (by rw[Z.out];exact nR _)]);cases ae with
  |false=>
   have a3:Xo (mk (Jk l a)=[]):=dD (by rw[P.out];unfold mk;rw[<-an.out,kF Dc]);have a4:Xo (U.set a (mk (Jk l a))=U):=dD<|by
    rw[a3.out];refine zgj ?_;rw[af.at' a n,kF (Ym _)]
   have d0:Xo (zrn l (a+1) U):=dD (by rw[<-a4.out];exact zhV af n);go_wp2;go_loopg[7] 1 (fun a8 cg M=>1<=a8/\cg=I6 0/\Xo (M=i))
   exact⟨nR _,rfl,rfl⟩;obtain⟨cc,rfl,bt⟩:=hrel;rw[bt.out];go_wp2;go_roundg (8-(a+1));exact⟨a+1,k,U,Wm,Wm,Gn,bs,bm,bn,bl,au,d0,show∀j,_ from fun j az bp=>c5.out j Wm bp⟩;omega
  |true=>
   have a3:Xo (mk (Jk l a)=f):=dD (by rw[P.out];unfold mk;rw[<-an.out,kE rfl]);have m:=dD au.len;go_wp2;go_loopg[7] 8 (fun a8 cg M=>∃(b s:Nat)(q:Option Addr),b<=8/\8-b<=a8/\cg=I6 b/\Xo (Out (w.heap.size+2) (w.heap.size+3) i M)/\Xo (Box M (w.heap.size+2) (k.set a (O q b s)))/\Xo (zb enE i.heap.size M (O q b s) (f.take b)))
   exact⟨0,0,Xb,nZ _,Wm,rfl,Out.refl _ _ _,by rw[zgj (c5.out a (nR _) n)];exact bl,zb.nil _ _ _⟩;obtain⟨b,s,q,dj,cc,rfl,r,av,a5⟩:=hrel;have a2:Xo (w.heap.size+3<=i.heap.size):=bl.lt;by_cases b7:b<8
   ·have ad:(b:Int)<8:=Wm
    obtain⟨e,z,A,_⟩:=am.out b b7;have H:(8:Int)*(a:Int)+(b:Int)=((8*a+b:Nat):Int):=Wm;have G:8*a+b<64:=Wm;obtain⟨a7,c8,c9⟩:=bu.out _ e A;obtain⟨aj,a1⟩:=kA (8*a+b);rw[a1.out]at H G a7 c8 c9;have ab:(aj:Int)<64:=Wm;have a4:=dD<|jU z;have ao:Xo ((f.take b).length=b):=show _=_ by rw[List.length_take,Z.out];omega
    have c3:Xo (Box wr w.heap.size Y):=bm.out.out r Wm;have c4:Xo (Box wr (w.heap.size+1) J2):=bn.out.out r Wm;have b5:∀F,(O q b s).ownBlock=Xa F->i.heap.size<=F/\F<wr.heap.size:=a5.lt;have a0:=dD b5;clear b5 z A;obtain⟨V,rfl⟩:∃V,V=wr:=⟨_,rfl⟩;obtain⟨Q,N⟩:=Ww fun u=>Box u w.heap.size Y/\Box u (w.heap.size+1) J2/\Box u (w.heap.size+2) (k.set a (O q b s))/\Out (w.heap.size+2) (w.heap.size+3) i u/\V.heap.size<=u.heap.size;go_upto_region 13 with fail;have bg:=fun y:zh Q=>((N _).1 y.holds).2.2.1.c a (sF (Rx m.out n));have bd:=fun y:zh Q=>((N _).1 y.holds).1.c _ a7;have be:=fun y:zh Q=>((N _).1 y.holds).1.c _ c8;have bf:=fun y:zh Q=>((N _).1 y.holds).1.c _ c9;have aa:Q V.drew:=(N _).2 ⟨c3.aA (gW _),c4.aA (gW _),av.aA (gW _),r.trans (Out.drew _),nR _⟩;have b9:Nonempty (zh Q):=⟨⟨_,aa⟩⟩;clear a7 c8 c9;refine q4 (I:=Q) 13 [(10,⟨fun L=>∃F,L=O (Xa ⟨F,0,Xb⟩) 1 1,fun L w'=>q9 enE V.heap.size w' L [e],fun p bk=>zc p bk,fun _=>True⟩),(11,⟨fun L=>∃bo a6,L=O bo (b+1) a6,fun L w'=>zb enE i.heap.size w' L (f.take b++[e]),fun p bk=>p.grownBy bk (O q b s).ownBlock,fun u=>zb enE i.heap.size u (O q b s) (f.take b)⟩)] aa zY Kr rfl rfl Dc ?hS ?hp ?hpre ?hpr0 ?_;case hS=>
     intro y cr;simp at cr;rcases cr with rfl|rfl;·exact⟨_,0,rfl⟩
     exact⟨_,Xb,0,rfl⟩
    case hp=>
     intro D dm j ct B ag R _ L p bk T bb;rcases zly B with⟨rfl,rfl⟩|⟨rfl,rfl⟩
     ·rcases zly ag with⟨rfl,rfl⟩|⟨rfl,rfl⟩
      ·exact absurd rfl R
      have az:q9 enE V.heap.size p L [e]:=bb;exact⟨az.1.beside T (fun ci cs a6 cf t=>by
       have bp:=az.2 ci cs a6 cf;have dx:=(a0 ci.block t.symm).2
       omega),az.2⟩
     rcases zly ag with⟨rfl,rfl⟩|⟨rfl,rfl⟩;·exact zb.aA bb T
     exact absurd rfl R
    case hpre=>
     intro j ct D dm ag B R p bk T S;rcases zly ag with⟨rfl,rfl⟩|⟨rfl,rfl⟩;·trivial
     rcases zly B with⟨rfl,rfl⟩|⟨rfl,rfl⟩;·exact zb.aA S T
     exact absurd rfl R
    case hpr0=>
     intro D ct B;rcases zly B with⟨rfl,rfl⟩|⟨rfl,rfl⟩;·trivial
     exact a5.aA (gW _)
    simp only[Xu,Xv];iterate 10 refine zs ?_
    refine zT rfl rfl (fun w' a9 S b0=>?_) (fun du X=>?_)
    ·obtain⟨bh,bi,ah,C,ai⟩:=(N _).1 a9;have ba:q9 enE V.heap.size (w'.alloc (Xk #[I6 e.kind,I6 e.n,Xh e.wr] 55)) (O (Xa ⟨w'.heap.size,0,Xb⟩) 1 1) [e]:=⟨Zp enE w' e _ _ rfl Dc,fun ci cs a6 cf=>by cases cf;exact ai⟩;clear bg bd be bf b9;refine zO.step (v:=O (Xa ⟨w'.heap.size,0,Xb⟩) 1 1) (w':=w'.alloc (Xk #[I6 e.kind,I6 e.n,Xh e.wr] 55)) (by simp only[execOp];go_simp) ⟨(N _).2 ⟨bh.alloc _,bi.alloc _,ah.alloc _,C.trans (Out.aA (za _ _)),nT ai (bS (za _ _))⟩,za _ _,⟨_,rfl⟩,ba⟩
    obtain⟨ay,rfl⟩:=X;refine Uq ?_;refine zT rfl rfl (fun w' a9 S b0=>?_) (fun du X=>?_)
    ·obtain⟨bh,bi,ah,C,ai⟩:=(N _).1 a9;have ca:q9 enE V.heap.size w' (O (Xa ⟨ay,0,Xb⟩) 1 1) [e]:=b0 10 Kr;have bc:zb enE i.heap.size w' (O q b s) (f.take b):=S;obtain⟨dy,dv,W,ce,c,_⟩:=qP (E:=enE) (w:=w') 59 bc (O (Xa ⟨ay,0,Xb⟩) 1 1) [e] ca.1 (by rw[ao.out];show(b+1)*24<=_;omega) C.size;obtain⟨bo,a6,rfl⟩:=ce.form;have cd:(f.take b++[e]).length=b+1:=(by rw[lA,ao.out];rfl);rw[cd]at ce W;have K:∀c7,c7<w.heap.size+3->∀F,(O q b s).ownBlock=Xa F->c7≠F:=fun c7 co F cp=>by
      have:=(a0 F cp).1;have:=a2.out;omega
     refine zO.step (v:=O bo (b+1) a6) (w':=dv) ?_ ⟨(N _).2 ⟨bh.beside c (K _ Wm),bi.beside c (K _ Wm),ah.beside c (K _ Wm),⟨c.os.trans C.os,c.tape.trans C.tape,c.output.trans C.output,nT C.size c.size,fun D B co=>(c.block D (Ya B C.size) (fun t=>Hm ((a0 D t.symm).1))).trans (C.block D B co)⟩,nT ai c.size⟩,c,⟨bo,a6,rfl⟩,ce⟩;simp only[execOp,resolve,invoke,builtin,pure_bind,Xz,Xw,Yf,mP,Yb];exact Eq.trans (congrArg (fun dl=>Result.andThen dl (fun q w'=>Result.ok (Next.value q) w')) W) rfl
    obtain⟨g,h,rfl⟩:=X;refine Uq ?_;refine zs ?_;refine Zv fun ax b1 b0=>?_;have bj:zb enE i.heap.size ax (O g (b+1) h) (f.take b++[e]):=b0 11;obtain⟨bh,bi,ah,C,ai⟩:=(N _).1 b1;have d3:Xo (zb enE i.heap.size ax (O g (b+1) h) (f.take (b+1))):=dD<|Rx a4.out bj;have c6:=dD ah;have aq:=dD C;clear b0 bg bd be bf b1 b9 aa bj bh bi ah C ai;have ds:=c6.c a (sF (Rx m.out n));have dt:=c6.f;go_upto_region 12 with fail;have d9:Xo (Box (ax.setCell ⟨w.heap.size+2,a,Xb⟩ (O g (b+1) h)) (w.heap.size+2) (k.set a (O g (b+1) h))):=dD<|by
     have:=c6.set a (O g (b+1) h);rw[List.set_set]at this;exact this
    have d4:Xo (zb enE i.heap.size (ax.setCell ⟨w.heap.size+2,a,Xb⟩ (O g (b+1) h)) (O g (b+1) h) (f.take (b+1))):=d3.setCell (by have:=a2.out;simp;omega) _;have ar:Xo (Out (w.heap.size+2) (w.heap.size+3) i (ax.setCell ⟨w.heap.size+2,a,Xb⟩ (O g (b+1) h))):=aq.trans (Out.setCell _ _ _ (p:=⟨w.heap.size+2,a,Xb⟩) (nR _) (Nat.lt_succ_self _) _);clear ds dt;go_wp2;go_roundg (8-(b+1));exact⟨b+1,h,g,Wm,Wm,Gn,ar,d9,d4⟩;omega
   have ad:¬(b:Int)<8:=Wm;have:b=8:=Wm;subst this;have d5:Xo (zb enE i.heap.size wr (O q 8 s) f):=dD<|by
    have:=a5.out;rw[Xx (by rw[Z.out];exact nR _)]at this;exact this
   have d6:Xo (Js 0 (w.heap.size+3) wr (k.set a (O q 8 s)) (U.set a f)):=dD<|⟨by simp[m.out],by simp[af.len],fun j L t X bq=>by
    by_cases e:j=a
    ·subst e;rw[sF (Rx m.out n)]at X;rw[sF (by rw[af.len];exact n)]at bq;cases X;cases bq;exact d5.new.stays.less (nZ _) a2.out
    rw[sN (fun t=>e t.symm)]at X bq
    exact(au.row j L t X bq).out (r.wide Wm Wm)⟩
   have d1:Xo (zrn l (a+1) (U.set a f)):=dD (by rw[<-a3.out];exact zhV af n);have db:Xo (Box wr w.heap.size Y):=bm.out.out r Wm;have dd:Xo (Box wr (w.heap.size+1) J2):=bn.out.out r Wm;have cx:Xo (zc w wr):=dD<|Out.bQ bs Wm r.out;have d2:Xo (∀j,a+1<=j->j<8->(k.set a (O q 8 s))[j]?=Xa (eS)):=dD<|fun j az bp=>(by rw[sN Wm];exact c5 j Wm bp);go_wp2;go_roundg (8-(a+1));exact⟨a+1,_,_,Wm,Wm,Gn,cx,db,dd,av,d6,d1,d2⟩;omega
 have b8:¬(a:Int)<8:=Wm;have:a=8:=Wm;subst this;have ck:Xo (Js 0 (w.heap.size+3) wr k cl):=dD<|by rw[<-ap.out,<-zpd af.out];exact au.out
 have m:=dD au.len;go_wp2_with(first|refine qO rfl (.tmp 3) rfl (w.heap.size+2) rfl bl m.out ?_|refine zn rfl 61 (.tmp 2) (.tmp 47) rfl (w.heap.size+1) rfl k rfl bn m zsM ck.one ?_)
 intro cm cn a8 dn;have cw:Xo (zc w cm):=dD<|zd bs a8 Sm;have cu:=dD cn;have d8:Xo (Js 0 w.heap.size cm k cl):=(ck.out.out (Out.grown a8 (fun F t=>by cases t;omega))).less (nR _) Wm;clear cn a8 dn;go_wp2;refine bodyPost_ret (z8 rfl _ rfl cu underlying61 rfl (Rx m.out zsM)) rfl ⟨k,rfl,d8,cw⟩
end
end Go.Proofs.YtkfjajbalegoeaaGreat
