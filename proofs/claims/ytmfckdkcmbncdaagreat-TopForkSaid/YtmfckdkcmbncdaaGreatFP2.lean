import Derived.Test.YtmfckdkcmbncdaaGreatFP1
import Derived.ChangeKeysEq
import Derived.Deep.Cut
namespace Go.Proofs.YtmfckdkcmbncdaaGreat
open Go.Value renaming slice→O,int→Xe,bool→Xh,agg→Xi,pointer→Xj,tuple→Xm
open Go.IntKind renaming i64→Xf,u8→Xg
open Go.Obj renaming cells→Xk
open Go.Ending renaming returned→Xl
open Go renaming World→Xn,Calls→Xp,Value→Xq
open Go.RowKit renaming Hid→Xo
open Option renaming some→Xa,none→Xb
open Bool renaming true→Xc,false→Xd
open List renaming replicate→Xr
open Go.Region renaming wanted→Xs
open Go.Act renaming put→Xt
open _root_.List renaming drop_of_length_le→Xu,all_eq_true→Xv,length_pos_iff→Xw
set_option maxRecDepth 100000
set_option maxHeartbeats 4000000
variable{B0 B1 base' g hi id j kk:Nat} {L:List Oper} {V:MaV} {W w':Xn} {l:List Ar} {m:Ma} {oj:Oper} {t:TypeId} {us vs xs:List Xq} {z:Int}
open Go.Proofs.Tryz
section
open Go.RowKit
theorem zpk (m:Ma) (c:Ca):caE m Xb c=if zoQ m.fl c.file c.idx=Xd\/bel c.fr m.fs.length=Xd then 3 else if(zQ m c.fr).r=0\/(zQ m c.fr).f≠c.file\/(zQ m c.fr).x≠c.idx then 7 else 0:=by
 unfold caE zoQ;have e:∀(a b:Int),bel a b=Xd↔(a<0\/b<=a):=fun a b=>by
  constructor
  ·intro h
   rcases Int.lt_or_le a 0 with d|d
   ·exact .inl d
   rcases Int.lt_or_le a b with a|a
   ·rw[j9.2 ⟨d,a⟩]at h;cases h
   exact .inr a
  intro h;exact znL (by omega)
 have a:(c.file<0\/(m.fl.length:Int)<=c.file\/c.idx<0\/bkN m c.file<=c.idx\/c.fr<0\/(m.fs.length:Int)<=c.fr)↔((bel c.file m.fl.length && bel c.idx ((m.fl.getD c.file.toNat ⟨0,[]⟩).bl.length:Nat))=Xd\/bel c.fr m.fs.length=Xd):=by
  rw[Bool.and_eq_false_iff,e,e,e];unfold bkN;omega
 simp only[a]
theorem zcO (V m) (c:Ca) (w) (G:zE w V m):
  Xp prog 64 #[Xi (mL V m).toArray,Xi #[I6 c.file,I6 c.idx,I6 c.fr]] w fun e w'=>e= Xl (I6 (caE m Xb c))/\zb w w':=by
 obtain⟨Y,-⟩:=G.ns;rw[zpk,<-Y];have L:=dD<|fun W (aw:zb w W)=>zaN _ m.fl m.cnt c.file c.idx W (G.grew aw).fl
 have f:=dD<|fun W=>QR c.fr V.f.n W
 have aa:=dD Y.symm;have ac:=dD G.frs;clear G Y;obtain⟨a2,d⟩:=kB ((w.alloc (Xk (mL V m).toArray 45)).alloc (Xk #[I6 c.file,I6 c.idx,I6 c.fr] 105));have g:=gD2 d
 have E:=x2a d
 have v:=x2b d
 have M:Xo (a2.heap.size=w.heap.size+1+1):=dD<|by rw[<-d];simp
 have n:=dD d;clear d;have b:=L.out a2 g.out;have I:=E.c 7 rfl;have a0:=E.c 8 rfl;have C:=v.c 0 rfl;have D:=v.c 1 rfl
 cases a8:zoQ m.fl c.file c.idx with
 | false=>
  rw[a8]at b;rw[kE (.inl rfl)]
  go_enter func64,ntmps64
  go_upto_region 1 with fail;rw[n.out]
  go_wp2_with (go_at_call 119;refine b.mono ?_;clear I a0 C D;rintro e s ⟨rfl,a⟩)
  go_ret;exact⟨rfl,g.trans a⟩
 | true=>
  rw[a8]at b
  cases F:bel c.fr V.f.n with
  | false=>
   rw[F]at f;rw[kE (.inr rfl)]
   go_enter func64,ntmps64
   go_upto_region 1 with fail;rw[n.out];go_wp2_with fail;refine b.mono ?_;clear I a0 C D;rintro e s ⟨rfl,a⟩;have i:=dD (g.trans a);have H:=(E.grew a).c 0 rfl;have a9:=(v.grew a).c 2 rfl;clear a
   go_wp2_with (go_at_call 120;refine(f _).mono ?_;rintro e w' ⟨rfl,rfl⟩)
   go_ret;exact⟨rfl,i⟩
  | true=>
   rw[F]at f;rw[kF (by simp)]
   obtain⟨au,av⟩:=j9.1 F;clear F;obtain⟨x,y,a6⟩:=c;simp only at au av f b g v C D⊢;obtain⟨r,rfl⟩:∃r:Nat,a6=(r:Int):=⟨a6.toNat,by omega⟩
   have X:r<V.f.n:=by omega
   obtain⟨q,a1⟩:∃q,Xo (m.fs[r]? =Xa q):=⟨_,gE (by rw[aa.out];exact X)⟩
   have z:zQ m (r:Int)=q:=by unfold zQ;rw[tN,gD,a1.out];rfl
   rw[z];clear z;obtain⟨ax,A,a7⟩:=ac.out r q a1.out;have ab:=dD a7;have N:=dD A;clear a7 A;obtain⟨Z,u⟩:=kA (if q.r=0\/q.f≠x\/q.x≠y then(7:Int)else 0);rw[u.out]
   go_enter func64,ntmps64
   go_upto_region 1 with fail;rw[n.out];go_wp2_with fail;refine b.mono ?_;clear I a0 C D;rintro e s ⟨rfl,a⟩;have i:=dD (g.trans a);have af:=dD (E.grew a);have a4:=dD (v.grew a);have ae:Xo (w.heap.size+1+1<=s.heap.size):=show _<=_ by rw[<-M.out];exact bS a
   clear a;have H:=af.c 0 rfl;have a9:=a4.c 2 rfl
   go_upto_region 3 with(go_at_call 120;refine(f _).mono ?_;rintro e w' ⟨rfl,B⟩;rw[B];clear B w')
   (try simp only[Sli.x]at H);rw[N.out]at H;obtain⟨ag,ah,ai,aj,ak,al,am,an,ao,ap,P,Q,R⟩:=ab.out s i.out;go_upto_region 4 with fail;obtain⟨a3,h⟩:=kB (s.alloc (Xk #[U8 q.p.b0,U8 q.p.b1,U8 q.p.b2,U8 q.p.b3,U8 q.p.b4,U8 q.p.b5,U8 q.p.b6,U8 q.p.b7,I6 q.r,Xh q.u,Xh q.d,I6 q.f,I6 q.x] 93));have j:=gT h i
   have K:Box a3 s.heap.size [U8 q.p.b0,U8 q.p.b1,U8 q.p.b2,U8 q.p.b3,U8 q.p.b4,U8 q.p.b5,U8 q.p.b6,U8 q.p.b7,I6 q.r,Xh q.u,Xh q.d,I6 q.f,I6 q.x]:=by rw[<-h];exact Box.top _ _ _ rfl
   have a5:Box a3 (w.heap.size+1) [I6 x,I6 y,I6 (r:Int)]:=by rw[<-h];exact a4.alloc _
   rw[h];clear h H a9 ag ah ai aj ak al am an ao ap P Q R;have ay:=K.c 8 rfl;have aq:=K.c 11 rfl;have ar:=K.c 12 rfl;have C:=a5.c 0 rfl;have D:=a5.c 1 rfl
   by_cases k:q.r=0
   ·have S:(q.r == 0)=Xc:=by simp[k]
    have l:Xo (Z=7):=dD<|by rw[<-u.out,kE (.inl k)]
    clear k;go_wp2;go_ret;exact⟨by rw[l.out];rfl,j⟩
   have S:(q.r == 0)=Xd:=by simp[k]
   by_cases p:q.f=x
   ·have T:(q.f != x)=Xd:=by simp[p]
    by_cases t:q.x=y
    ·have U:(q.x != y)=Xd:=by simp[t]
     have l:Xo (Z=0):=dD<|by rw[<-u.out,kF (by simp[k,p,t])]
     clear k p t;go_wp2;go_ret;exact⟨by rw[l.out];rfl,j⟩
    have U:(q.x != y)=Xc:=by simp[t]
    have l:Xo (Z=7):=dD<|by rw[<-u.out,kE (.inr (.inr t))]
    clear k p t;go_wp2;go_ret;exact⟨by rw[l.out];rfl,j⟩
   have T:(q.f != x)=Xc:=by simp[p]
   have l:Xo (Z=7):=dD<|by rw[<-u.out,kE (.inr (.inl p))]
   clear k p;go_wp2;go_ret;exact⟨by rw[l.out];rfl,j⟩
theorem zeR (V:MaV) (m:Ma) (w) (b:zE w V m) (c:∀W,zb w W->Xp prog 58 #[Xi #[V.f.x,I6 m.hand]] W fun e w'=>e= Xl (I6 (Zb m.fs m.hand))/\zb W w'):
  Xp prog 28 #[Xi (mL V m).toArray] w fun e w'=>e= Xl (I6 (zu (Zz m)))/\zb w w':=by
 obtain⟨p,d,g,q,n,r,s,-⟩:=b.ns;have f:=dD c
 have i:Xo (∀W,zb w W->Xp prog 59 #[V.s.x] W fun e w'=>e= Xl (I6 (slW m.sl))/\zb W w'):=dD<|fun W a=>by
  have h:=(b.grew a).sl;(try simp only[Sli.x]at h⊢);rw[d]at h⊢;exact zbF _ _ m.sl W h
 have j:Xo (∀W,zb w W->Xp prog 60 #[Xi #[V.sb.x,V.sq.x]] W fun e w'=>e= Xl (I6 (zS m.sb.length m.sq))/\zb W w'):=dD<|fun W a=>by
  have h:=(b.grew a).sq;rw[<-g];exact zcK _ _ _ _ m.sq W h
 have k:Xo (∀W,zb w W->Xp prog 60 #[Xi #[V.db.x,V.dq.x]] W fun e w'=>e= Xl (I6 (zS m.db.length m.dq))/\zb W w'):=dD<|fun W a=>by
  have h:=(b.grew a).dq;rw[<-n];exact zcK _ _ _ _ m.dq W h
 have l:=dD<|fun W (a:zb w W)=>zaC _ m.fl m.cnt W (b.grew a).fl
 clear p d g q n r s b c;obtain⟨g,c⟩:=kB (w.alloc (Xk (mL V m).toArray 45));have b:=gA c
 have a:=xA c
 have d:=dD c;clear c;unfold Zz
 go_enter func28,ntmps28
 go_upto_region 1 with fail;rw[d.out];have p:=a.gw 0 rfl
 have q:=a.gw 1 rfl
 have r:=a.gw 2 rfl
 have s:=a.gw 3 rfl
 have t:=a.gw 4 rfl
 have u:=a.gw 5 rfl
 have y:=a.gw 6 rfl
 have z:=a.gw 7 rfl
 have A:=a.gw 8 rfl
 have n:Nonempty (zg g):=⟨⟨_,zb.refl _⟩⟩;refine qu [(2,⟨fun a=>a=I6 (Zb m.fs m.hand),fun a w'=>True⟩),(5,⟨fun a=>a=I6 (slW m.sl),fun a w'=>True⟩),(8,⟨fun a=>a=I6 (zS m.sb.length m.sq),fun a w'=>True⟩),(11,⟨fun a=>a=I6 (zS m.db.length m.dq),fun a w'=>True⟩),(14,⟨fun a=>a=I6 (stW m.fl m.cnt),fun a w'=>True⟩),(15,⟨fun a=>∃g,a= O (Xa ⟨g,0,Xb⟩) 5 5,fun a w'=>zl zlE w' a [Zb m.fs m.hand,slW m.sl,zS m.sb.length m.sq,zS m.db.length m.dq,stW m.fl m.cnt]⟩),(16,⟨fun a=>a=I6 (zu [Zb m.fs m.hand,slW m.sl,zS m.sb.length m.sq,zS m.db.length m.dq,stW m.fl m.cnt]),fun a w'=>True⟩)] zZ (by kernel_rfl) ?hS ?hp ?_
 case hS=>
  intro x a;simp only[mC,nM,or_false]at a
  rcases a with rfl|rfl|rfl|rfl|rfl|rfl|rfl
  ·exact⟨_,rfl⟩
  ·exact⟨_,rfl⟩
  ·exact⟨_,rfl⟩
  ·exact⟨_,rfl⟩
  ·exact⟨_,rfl⟩
  ·exact⟨_,0,rfl⟩
  exact⟨_,rfl⟩
 case hp=>
  intro x a;simp only[mC,nM,or_false]at a
  rcases a with rfl|rfl|rfl|rfl|rfl|rfl|rfl
  ·exact fun _ _ _ _ h=>h
  ·exact fun _ _ _ _ h=>h
  ·exact fun _ _ _ _ h=>h
  ·exact fun _ _ _ _ h=>h
  ·exact fun _ _ _ _ h=>h
  ·exact fun _ _ _ c h=>zl.grew h c
  exact fun _ _ _ _ h=>h
 iterate 2 refine zf ?_
 refine zC rfl rfl (fun w' c g=>?_) (fun h d=>?_)
 ·refine zR.call [Xi #[V.f.x,I6 m.hand]] rfl func58 rfl rfl rfl ?_;refine(f w' (b.trans c)).mono ?_;rintro e f ⟨rfl,a⟩;exact⟨_,rfl,a,rfl,trivial⟩
 subst d;simp only[Xt,sB,sS,sZ];iterate 2 refine zf ?_
 refine zC rfl rfl (fun w' c g=>?_) (fun h d=>?_)
 ·refine zR.call [V.s.x] rfl func59 rfl rfl rfl ?_;refine(i w' (b.trans c)).mono ?_;rintro e f ⟨rfl,a⟩;exact⟨_,rfl,a,rfl,trivial⟩
 subst d;simp only[Xt,sB,sS,sZ];iterate 2 refine zf ?_
 refine zC rfl rfl (fun w' c g=>?_) (fun h d=>?_)
 ·refine zR.call [Xi #[V.sb.x,V.sq.x]] rfl func60 rfl rfl rfl ?_;refine(j w' (b.trans c)).mono ?_;rintro e f ⟨rfl,a⟩;exact⟨_,rfl,a,rfl,trivial⟩
 subst d;simp only[Xt,sB,sS,sZ];iterate 2 refine zf ?_
 refine zC rfl rfl (fun w' c g=>?_) (fun h d=>?_)
 ·refine zR.call [Xi #[V.db.x,V.dq.x]] rfl func60 rfl rfl rfl ?_;refine(k w' (b.trans c)).mono ?_;rintro e f ⟨rfl,a⟩;exact⟨_,rfl,a,rfl,trivial⟩
 subst d;simp only[Xt,sB,sS,sZ];iterate 2 refine zf ?_
 refine zC rfl rfl (fun w' c g=>?_) (fun h d=>?_)
 ·refine zR.call [Xi #[V.fl.x,I6 m.cnt]] rfl func61 rfl rfl rfl ?_;refine(l w' (b.trans c)).mono ?_;rintro e f ⟨rfl,a⟩;exact⟨_,rfl,a,rfl,trivial⟩
 subst d;simp only[Xt,sB,sS,sZ];refine zC rfl rfl (fun w' c g=>?_) (fun h d=>?_)
 ·have a:zl zlE (w'.alloc (Xk #[I6 (Zb m.fs m.hand),I6 (slW m.sl),I6 (zS m.sb.length m.sq),I6 (zS m.db.length m.dq),I6 (stW m.fl m.cnt)] 47)) (O (Xa ⟨w'.heap.size,0,Xb⟩) 5 5) [Zb m.fs m.hand,slW m.sl,zS m.sb.length m.sq,zS m.db.length m.dq,stW m.fl m.cnt]:=zc3 zlE w' [Zb m.fs m.hand,slW m.sl,zS m.sb.length m.sq,zS m.db.length m.dq,stW m.fl m.cnt] _ rfl (show 5*8<=140737488355328 by decide)
  refine zR.step (v:= O (Xa ⟨w'.heap.size,0,Xb⟩) 5 5) (w':=w'.alloc (Xk #[I6 (Zb m.fs m.hand),I6 (slW m.sl),I6 (zS m.sb.length m.sq),I6 (zS m.db.length m.dq),I6 (stW m.fl m.cnt)] 47)) (by simp only[execOp];go_simp) ⟨za _ _,⟨_,rfl⟩,a⟩
 obtain⟨a,rfl⟩:=d;simp only[Xt,sB,sS,sZ];refine zC rfl rfl (fun w' c g=>?_) (fun h d=>?_)
 ·have c:zl zlE w' (O (Xa ⟨a,0,Xb⟩) 5 5) [Zb m.fs m.hand,slW m.sl,zS m.sb.length m.sq,zS m.db.length m.dq,stW m.fl m.cnt]:=g 15 (by kernel_rfl)
  refine zR.call [O (Xa ⟨a,0,Xb⟩) 5 5] rfl func19 rfl rfl rfl ?_;refine(zdc _ _ w' c).mono ?_;rintro e f ⟨rfl,rfl⟩;exact⟨_,rfl,zb.refl _,rfl,trivial⟩
 subst d;simp only[Xt,sB,sS,sZ];refine zf ?_
 refine zP fun a a g=>?_
 have c:=dD (b.trans a);clear a g p q r s t u y z A n;go_wp2;go_ret;exact⟨rfl,c⟩
theorem zaV (a:Ar) (w):Xp prog 129 #[Xi #[I6 a.fr,I6 a.tz,Xh a.rd,Xh a.wr,Xh a.sh,I6 a.file,I6 a.base]] w fun e w'=>e= Xl (I6 (arW a))/\zb w w':=by
 obtain⟨fr,tz,rd,wr,sh,file,base⟩:=a
 by_cases c1:fr<0
 ·have hz:arW ⟨fr,tz,rd,wr,sh,file,base⟩=3:=by unfold arW;simp only;rw[kE (by omega)]
  rw[hz];clear hz
  go_enter func129,ntmps129
  go_wp2;go_ret;exact⟨rfl,za _ _⟩
 by_cases c2:tz<=fr
 ·have hz:arW ⟨fr,tz,rd,wr,sh,file,base⟩=3:=by unfold arW;simp only;rw[kE (by omega)]
  rw[hz];clear hz
  go_enter func129,ntmps129
  go_wp2;go_ret;exact⟨rfl,za _ _⟩
 by_cases c3:64<tz
 ·have hz:arW ⟨fr,tz,rd,wr,sh,file,base⟩=3:=by unfold arW;simp only;rw[kE (by omega)]
  rw[hz];clear hz
  go_enter func129,ntmps129
  go_wp2;go_ret;exact⟨rfl,za _ _⟩
 by_cases c4:file< -1
 ·have hz:arW ⟨fr,tz,rd,wr,sh,file,base⟩=3:=by unfold arW;simp only;rw[kE (by omega)]
  rw[hz];clear hz
  go_enter func129,ntmps129
  go_wp2;go_ret;exact⟨rfl,za _ _⟩
 by_cases c5:5<=file
 ·have hz:arW ⟨fr,tz,rd,wr,sh,file,base⟩=3:=by unfold arW;simp only;rw[kE (by omega)]
  rw[hz];clear hz
  go_enter func129,ntmps129
  go_wp2;go_ret;exact⟨rfl,za _ _⟩
 by_cases c6:base<0
 ·have hz:arW ⟨fr,tz,rd,wr,sh,file,base⟩=3:=by unfold arW;simp only;rw[kE (by omega)]
  rw[hz];clear hz
  go_enter func129,ntmps129
  go_wp2;go_ret;exact⟨rfl,za _ _⟩
 have hn:¬(fr<0\/tz<=fr\/64<tz\/file< -1\/5<=file\/base<0):=by omega
 by_cases d1:file<0
 ·by_cases d2:base=0
  ·cases sh
   ·have hz:arW ⟨fr,tz,rd,wr,Xd,file,base⟩=0:=by unfold arW;simp only;rw[kF hn,kE d1,kF (by simp[d2])]
    rw[hz];clear hz;have d2e:(base != 0)=Xd:=by simp[d2]
    have d2g:¬0<base:=by omega
    clear d2 hn
    go_enter func129,ntmps129
    go_wp2;go_ret;exact⟨rfl,za _ _⟩
   have hz:arW ⟨fr,tz,rd,wr,Xc,file,base⟩=7:=by unfold arW;simp only;rw[kF hn,kE d1,kE (by simp)]
   rw[hz];clear hz;have d2e:(base != 0)=Xd:=by simp[d2]
   have d2g:¬0<base:=by omega
   clear d2 hn
   go_enter func129,ntmps129
   go_wp2;go_ret;exact⟨rfl,za _ _⟩
  have hz:arW ⟨fr,tz,rd,wr,sh,file,base⟩=7:=by unfold arW;simp only;rw[kF hn,kE d1,kE (by simp[d2])]
  rw[hz];clear hz;have d2e:(base != 0)=Xc:=by simp[d2]
  have d2g:0<base:=by omega
  clear d2 hn
  go_enter func129,ntmps129
  go_wp2;go_ret;exact⟨rfl,za _ _⟩
 by_cases d2:12 -(tz - fr)<base
 ·have hz:arW ⟨fr,tz,rd,wr,sh,file,base⟩=7:=by unfold arW;simp only;rw[kF hn,kF d1,kE d2]
  rw[hz];clear hz;clear hn
  go_enter func129,ntmps129
  go_wp2;go_ret;exact⟨rfl,za _ _⟩
 have hz:arW ⟨fr,tz,rd,wr,sh,file,base⟩=0:=by unfold arW;simp only;rw[kF hn,kF d1,kF d2]
 rw[hz];clear hz;clear hn
 go_enter func129,ntmps129
 go_wp2;go_ret;exact⟨rfl,za _ _⟩
def jI (a:Ar) (n:Int):Ar:={ a with fr:=n,base:=if 0<=a.file then a.base+(n - a.fr)else a.base }
theorem zeO (a:Ar) (n:Int) (w) (ha:jN a) (hn:0<=n/\n<=64):Xp prog 172 #[Xi #[I6 a.fr,I6 a.tz,Xh a.rd,Xh a.wr,Xh a.sh,I6 a.file,I6 a.base],I6 n] w fun e w'=>e= Xl (arA (jI a n))/\zb w w':=by
 have HA:=dD ha;unfold jN at ha;obtain⟨h1,h2,h3,h4,h5,h6,h7,h8⟩:=ha;obtain⟨fr,tz,rd,wr,sh,file,base⟩:=a;simp only at h1 h2 h3 h4 h5 h6 h7 h8⊢;have hb:base<=12:=by
  by_cases h:0<=file
  ·have:=h8 h;omega
  have:=h7 (by omega);omega
 clear h7 h8;obtain⟨n1,n2⟩:=hn;obtain⟨W0,hW0⟩:=kB ((w.alloc (Xk #[I6 fr,.int .i64 tz,Xh rd,Xh wr,Xh sh,I6 file,I6 base] 125)).alloc (Xk #[I6 0,I6 0,Xh Xd,Xh Xd,Xh Xd,I6 0,I6 0] 125));have HG0:=gD2 hW0
 have X0:=x2a hW0
 have Y0:=x2b hW0
 have HW0:=dD hW0;clear hW0
 by_cases hf:0<=file
 ·have HR:Xo (jI ⟨fr,tz,rd,wr,sh,file,base⟩ n=⟨n,tz,rd,wr,sh,file,base+(n - fr)⟩):=dD<|by unfold jI;simp only;rw[kE hf]
  go_enter func172,ntmps172
  go_upto_region 1 with fail;rw[HW0.out];have x0:=X0.c 0 rfl;have x5:=X0.c 5 rfl;have x6:=X0.c 6 rfl;have xf:=X0.f;go_upto_region 4 with fail;obtain⟨W1,hW1⟩:=kB ((W0.setCell ⟨w.heap.size,6,Xb⟩ (I6 (base+(n - fr)))).setCell ⟨w.heap.size,0,Xb⟩ (I6 n));have X1:Xo (Box W1 w.heap.size [I6 n,.int .i64 tz,Xh rd,Xh wr,Xh sh,I6 file,I6 (base+(n - fr))]):=dD<|by rw[<-hW1];exact(X0.set 6 _).set 0 _
  have Y1:Xo (Box W1 (w.heap.size+1) [I6 0,I6 0,Xh Xd,Xh Xd,Xh Xd,I6 0,I6 0]):=dD<|by rw[<-hW1];exact(Y0.other (by simp) _).other (by simp) _
  have HG1:Xo (zb w W1):=dD<|by rw[<-hW1];exact zL (zL HG0 (by simp) _) (by simp) _
  rw[hW1];clear hW1 x0 x5 x6 xf
  go_wp2_with (first | refine zo rfl 125 (.tmp 2) rfl w.heap.size rfl X1 underlying125 rfl zsf ?_ | refine zz rfl 125 (.tmp 4) (.tmp 18) rfl (w.heap.size+1) rfl _ rfl Y1 rfl zsf (arE.one ⟨n,tz,rd,wr,sh,file,base+(n - fr)⟩) ?_)
  intro W2 b2 g2 s2;have G2:Xo (zb w W2):=zd HG1 g2 (by simp)
  have B2:=dD b2;clear b2 g2 s2;go_wp2;refine bodyPost_ret (zG rfl _ rfl B2 underlying125 rfl zsf) rfl ⟨by rw[HR.out];rfl,G2⟩
 have HR:Xo (jI ⟨fr,tz,rd,wr,sh,file,base⟩ n=⟨n,tz,rd,wr,sh,file,base⟩):=dD<|by unfold jI;simp only;rw[kF hf]
 go_enter func172,ntmps172
 go_upto_region 1 with fail;rw[HW0.out];have x0:=X0.c 0 rfl;have x5:=X0.c 5 rfl;have xf:=X0.f;go_upto_region 4 with fail;obtain⟨W1,hW1⟩:=kB (W0.setCell ⟨w.heap.size,0,Xb⟩ (I6 n));have X1:Xo (Box W1 w.heap.size [I6 n,.int .i64 tz,Xh rd,Xh wr,Xh sh,I6 file,I6 base]):=dD<|by rw[<-hW1];exact X0.set 0 _
 have Y1:Xo (Box W1 (w.heap.size+1) [I6 0,I6 0,Xh Xd,Xh Xd,Xh Xd,I6 0,I6 0]):=dD<|by rw[<-hW1];exact Y0.other (by simp) _
 have HG1:Xo (zb w W1):=dD<|by rw[<-hW1];exact zL HG0 (by simp) _
 rw[hW1];clear hW1 x0 x5 xf
 go_wp2_with (first | refine zo rfl 125 (.tmp 2) rfl w.heap.size rfl X1 underlying125 rfl zsf ?_ | refine zz rfl 125 (.tmp 4) (.tmp 18) rfl (w.heap.size+1) rfl _ rfl Y1 rfl zsf (arE.one ⟨n,tz,rd,wr,sh,file,base⟩) ?_)
 intro W2 b2 g2 s2;have G2:Xo (zb w W2):=zd HG1 g2 (by simp)
 have B2:=dD b2;clear b2 g2 s2;go_wp2;refine bodyPost_ret (zG rfl _ rfl B2 underlying125 rfl zsf) rfl ⟨by rw[HR.out];rfl,G2⟩
def zpq (a b:Ar):Bool:=(a.fr == b.fr) &&(a.tz == b.tz) &&(a.rd == b.rd) &&(a.wr == b.wr) &&(a.sh == b.sh) &&(a.file == b.file) &&(a.base == b.base)
theorem zrR (x0 y0:Int) (x1 y1:Int) (x2 y2:Bool) (x3 y3:Bool) (x4 y4:Bool) (x5 y5:Int) (x6 y6:Int) (w):(Op.equalIn 10000 125 (Xi #[I6 x0,I6 x1,Xh x2,Xh x3,Xh x4,I6 x5,I6 x6]) (Xi #[I6 y0,I6 y1,Xh y2,Xh y3,Xh y4,I6 y5,I6 y6])).run prog w= .ok (zpq ⟨x0,x1,x2,x3,x4,x5,x6⟩ ⟨y0,y1,y2,y3,y4,y5,y6⟩) w:=by
 have hf : (Tryz.prog.fieldsOf 125).toList.map (fun f => (f.name, f.type, f.offset)) = [("From", 3, 0), ("To", 3, 1), ("Read", 4, 2), ("Write", 4, 3), ("Shared", 4, 4), ("File", 3, 5), ("Base", 3, 6)] := by kernel_rfl
 rw[run_equalIn_struct w 9999 125 _ _ (by kernel_rfl) (by kernel_rfl)]
 obtain⟨f0,f1,f2,f3,f4,f5,f6,hfs⟩:∃f0 f1 f2 f3 f4 f5 f6,(Tryz.prog.fieldsOf 125).toList=[f0,f1,f2,f3,f4,f5,f6]:=by
  have hl:(Tryz.prog.fieldsOf 125).toList.length=7:=by have:=congrArg List.length hf;simpa using this
  match hq:(Tryz.prog.fieldsOf 125).toList,hl with
  | [f0,f1,f2,f3,f4,f5,f6],_=>exact⟨f0,f1,f2,f3,f4,f5,f6,rfl⟩
 rw[hfs]at hf⊢
 simp at hf
 obtain⟨⟨n0,t0,o0⟩,⟨n1,t1,o1⟩,⟨n2,t2,o2⟩,⟨n3,t3,o3⟩,⟨n4,t4,o4⟩,⟨n5,t5,o5⟩,⟨n6,t6,o6⟩⟩:=hf;have pI:∀(zs:Array Xq) (o:Nat) v,zs[o]? =Xa (I6 v)->(part 3 zs o).run prog w= .ok (I6 v) w:=fun zs o v hz=>run_part_plain w (by simp[Program.plainKey,underlying3]) hz
 have pB:∀(zs:Array Xq) (o:Nat) v,zs[o]? =Xa (Xh v)->(part 4 zs o).run prog w= .ok (Xh v) w:=fun zs o v hz=>run_part_plain w (by simp[Program.plainKey,underlying4]) hz
 simp only[Op.eqFields,n0,t0,o0,n1,t1,o1,n2,t2,o2,n3,t3,o3,n4,t4,o4,n5,t5,o5,n6,t6,o6]
 simp[pI,pB,run_equalIn_bool' w _ _ _ _ underlying4,run_equalIn_int w _ _ _ _ _ _ underlying3]
 unfold zpq;simp only
 by_cases e0:x0=y0
 case neg=>simp[e0]
 subst e0
 by_cases e1:x1=y1
 case neg=>simp[e1]
 subst e1
 by_cases e2:x2=y2
 case neg=>simp[e2]
 subst e2
 by_cases e3:x3=y3
 case neg=>simp[e3]
 subst e3
 by_cases e4:x4=y4
 case neg=>simp[e4]
 subst e4
 by_cases e5:x5=y5
 case neg=>simp[e5]
 subst e5
 by_cases e6:x6=y6
 case neg=>simp[e6]
 subst e6;simp
theorem zp4 {a:Ar} (b:jN a) (n:Nat):(⟨n,(n:Int)+1,a.rd,a.wr,a.sh,a.file,(jI a n).base⟩:Ar)=Jz n (qg a n):=by
 unfold Jz;rw[kE (zji a n)];unfold qg jI;simp only[Ar.mk.injEq,true_and]
 split
 ·rfl
 exact(b.2.2.2.2.2.2.1 (by omega)).1
theorem zqs {a b:Ar}:zpq a ⟨b.tz,a.tz,b.rd,b.wr,b.sh,b.file,(jI b b.tz).base⟩=goB a b:=by
 unfold zpq goB jI;simp only[beq_self_eq_true,Bool.and_true];have c:∀x y:Int,(x == y)=decide (x=y):=fun x y=>rfl
 simp only[c]
theorem zcn (a:Ar) (n:Int):arA (jI a n)= Xi #[I6 n,I6 a.tz,Xh a.rd,Xh a.wr,Xh a.sh,I6 a.file,I6 (jI a n).base]:=rfl
theorem zjg (a:Ar) (n:Nat) (w) (b:jN a) (c:n<64):Xp prog 132 #[Xi #[I6 a.fr,I6 a.tz,Xh a.rd,Xh a.wr,Xh a.sh,I6 a.file,I6 a.base],I6 (n:Int)] w fun e w'=>e= Xl (arA (Jz n (qg a n)))/\zb w w':=by
 have c:∀W,Xp prog 172 #[Xi #[I6 a.fr,I6 a.tz,Xh a.rd,Xh a.wr,Xh a.sh,I6 a.file,I6 a.base],I6 (n:Int)] W fun e w'=>e= Xl (arA (jI a n))/\zb W w':=fun W=>zeO a n W b (by omega)
 rw[<-zp4 b n];rw[zcn]at c
 generalize(jI a n).base=nb at c⊢
 clear b;obtain⟨b,b⟩:=kB ((w.alloc (Xk #[I6 a.fr,I6 a.tz,Xh a.rd,Xh a.wr,Xh a.sh,I6 a.file,I6 a.base] 125)).alloc (Xk #[I6 0,I6 0,Xh Xd,Xh Xd,Xh Xd,I6 0,I6 0] 125));have d:=gD2 b
 have g:=x2a b
 have i:=x2b b
 have f:=dD b;clear b
 go_enter func132,ntmps132
 go_upto_region 1 with fail;rw[f.out]
 go_wp2_with (refine zo rfl 125 (.tmp 2) rfl w.heap.size rfl g underlying125 rfl zsf ?_)
 refine(c _).mono ?_;rintro e g ⟨rfl,b⟩;have h:=dD (d.trans b);have d:=dD (i.grew b);clear b c;obtain⟨p,c⟩:=kA g.heap.size;have f:Xo (w.heap.size+1<p):=show _<_ by rw[<-c.out];exact d.lt
 go_upto_region 2 with fail;obtain⟨i,b⟩:=kB (g.alloc (Xk #[I6 (n:Int),I6 a.tz,Xh a.rd,Xh a.wr,Xh a.sh,I6 a.file,I6 nb] 125));have g:=gT b h
 have j:=yA b d
 have d:=xP b c
 rw[b,c.out];clear b;have k:=d.c 1 rfl;have l:=d.f;go_upto_region 3 with fail;obtain⟨c,b⟩:=kB (i.setCell ⟨p,1,Xb⟩ (I6 ((n:Int)+1)));have h:Xo (zb w c):=dD<|by rw[<-b];exact zL g (by have:=f.out;simp;omega) _
 have g:Xo (Box c (w.heap.size+1) [I6 0,I6 0,Xh Xd,Xh Xd,Xh Xd,I6 0,I6 0]):=dD<|by rw[<-b];exact j.other (by have:=f.out;simp;omega) _
 have f:Xo (Box c p [I6 (n:Int),I6 ((n:Int)+1),Xh a.rd,Xh a.wr,Xh a.sh,I6 a.file,I6 nb]):=dD<|by rw[<-b];exact d.set 1 _
 rw[b];clear b k l
 go_wp2_with (first | refine zo rfl 125 (.tmp 5) rfl p rfl f underlying125 rfl zsf ?_ | refine zz rfl 125 (.tmp 4) (.tmp 12) rfl (w.heap.size+1) rfl _ rfl g rfl zsf (arE.one ⟨n,(n:Int)+1,a.rd,a.wr,a.sh,a.file,nb⟩) ?_)
 intro d b c g;have f:Xo (zb w d):=zd h c (by simp)
 have d:=dD b;clear b c g;go_wp2;refine bodyPost_ret (zG rfl _ rfl d underlying125 rfl zsf) rfl ⟨rfl,f⟩
theorem zey (a b:Ar) (w) (c:jN b):Xp prog 166 #[Xi #[I6 a.fr,I6 a.tz,Xh a.rd,Xh a.wr,Xh a.sh,I6 a.file,I6 a.base],Xi #[I6 b.fr,I6 b.tz,Xh b.rd,Xh b.wr,Xh b.sh,I6 b.file,I6 b.base]] w fun e w'=>e= Xl (Xh (goB a b))/\zb w w':=by
 have d:∀W,Xp prog 172 #[Xi #[I6 b.fr,I6 b.tz,Xh b.rd,Xh b.wr,Xh b.sh,I6 b.file,I6 b.base],I6 b.tz] W fun e w'=>e= Xl (arA (jI b b.tz))/\zb W w':=fun W=>zeO b b.tz W c (by have:=c;unfold jN at this;omega)
 have f:=fun W=>zrR a.fr b.tz a.tz a.tz a.rd b.rd a.wr b.wr a.sh b.sh a.file b.file a.base (jI b b.tz).base W
 have g:=zqs (a:=a) (b:=b);rw[show(⟨a.fr,a.tz,a.rd,a.wr,a.sh,a.file,a.base⟩:Ar)=a from rfl]at f
 rw[g]at f;rw[zcn]at d
 generalize(jI b b.tz).base=nb at d f
 clear g c
 generalize goB a b=R at f⊢
 obtain⟨c,c⟩:=kB ((w.alloc (Xk #[I6 a.fr,I6 a.tz,Xh a.rd,Xh a.wr,Xh a.sh,I6 a.file,I6 a.base] 125)).alloc (Xk #[I6 b.fr,I6 b.tz,Xh b.rd,Xh b.wr,Xh b.sh,I6 b.file,I6 b.base] 125));have f:=gD2 c
 have j:=x2a c
 have h:=x2b c
 have g:=dD c;clear c
 go_enter func166,ntmps166
 go_upto_region 1 with fail;rw[g.out];have g:=h.c 1 rfl
 go_wp2_with (refine zo rfl 125 (.tmp 3) rfl (w.heap.size+1) rfl h underlying125 rfl zsf ?_)
 refine(d _).mono ?_;rintro e h ⟨rfl,c⟩;have i:=dD (f.trans c);have f:=dD (j.grew c);clear c d g;obtain⟨p,d⟩:=kA h.heap.size;have g:Xo (w.heap.size<p):=show _<_ by rw[<-d.out];exact f.lt
 go_upto_region 2 with fail;obtain⟨k,c⟩:=kB (h.alloc (Xk #[I6 b.tz,I6 b.tz,Xh b.rd,Xh b.wr,Xh b.sh,I6 b.file,I6 nb] 125));have j:=gT c i
 have h:=yA c f
 have f:=xP c d
 rw[c,d.out];clear c;have l:=h.c 1 rfl;have m:=f.c 1 rfl;have n:=f.f;go_upto_region 3 with fail;obtain⟨d,c⟩:=kB (k.setCell ⟨p,1,Xb⟩ (I6 a.tz));have i:Xo (zb w d):=dD<|by rw[<-c];exact zL j (by have:=g.out;simp;omega) _
 have j:Xo (Box d w.heap.size [I6 a.fr,I6 a.tz,Xh a.rd,Xh a.wr,Xh a.sh,I6 a.file,I6 a.base]):=dD<|by rw[<-c];exact h.other (by have:=g.out;simp;omega) _
 have g:Xo (Box d p [I6 b.tz,I6 a.tz,Xh b.rd,Xh b.wr,Xh b.sh,I6 b.file,I6 nb]):=dD<|by rw[<-c];exact f.set 1 _
 rw[c];clear c l m n
 go_wp2_with (first | refine zo rfl 125 (.tmp 5) rfl p rfl g underlying125 rfl zsf ?_ | refine zo rfl 125 (.tmp 2) rfl w.heap.size rfl j underlying125 rfl zsf ?_)
 go_ret;exact⟨rfl,i⟩
def inZ (a:Ar) (n:Int):Bool:=decide (a.fr<=n) && decide (n<a.tz)
theorem zbU {a:Ar} {n:Int}:inZ a n=Xc↔a.fr<=n/\n<a.tz:=by simp[inZ]
theorem zir (a) (n:Nat):inZ a (n:Int)=Jk a n:=rfl
def zco (l:List Ar) (n z:Int):Prop:=(∃(k:Nat) (a:Ar),z=k/\l[k]? =Xa a/\inZ a n=Xc)\/(z=-1/\∀a∈l,inZ a n=Xd)
theorem zfE {k:Nat} (h:zco l k z):decide (0<=z)=(zD l k).is:=by
 rcases h with⟨j,b,rfl,c,e⟩|⟨rfl,c⟩
 ·have:∀(m:List Ar),b∈m->(zD m k).is=Xc:=by
   intro m
   induction m with
   | nil=>intro a;cases a
   | cons f m g=>
    intro a
    by_cases d:Jk f k=Xc
    ·rw[zD,kE d];rfl
    rw[zD,kF d]
    rcases mC.1 a with f|a
    ·rw[f,zir]at e;exact absurd e d
    exact g a
  rw[this l (mG c)];simp
 rw[zba (fun b a=>c b a)]
 rfl
theorem znb (a:Ar) (n:Int) (p:Nat) (w) (hb:Box w p [I6 n]):
  Xp prog 124 #[Xi #[I6 a.fr,I6 a.tz,Xh a.rd,Xh a.wr,Xh a.sh,I6 a.file,I6 a.base],Xj (Xa ⟨p,0,Xb⟩)] w fun e w'=>e= Xl (Xh (inZ a n))/\zb w w':=by
 have H:Xo (inZ a n=(decide (a.fr<=n) && decide (n<a.tz))):=rfl;obtain⟨d,b⟩:=kB (w.alloc (Xk #[I6 a.fr,I6 a.tz,Xh a.rd,Xh a.wr,Xh a.sh,I6 a.file,I6 a.base] 125));have c:=gA b
 have f:=xA b
 have g:Xo (Box d p [I6 n]):=dD<|by rw[<-b];exact hb.alloc _
 have d:=dD b;clear b hb
 by_cases b:a.fr<=n
 ·by_cases b:n<a.tz
  ·go_enter func124,ntmps124
   go_upto_region 1 with fail;rw[d.out];have h:=f.c 0 rfl;have i:=f.c 1 rfl;have b:=g.c 0 rfl;go_wp2;go_ret;exact⟨by rw[H.out];simp[*],c⟩
  go_enter func124,ntmps124
  go_upto_region 1 with fail;rw[d.out];have h:=f.c 0 rfl;have i:=f.c 1 rfl;have b:=g.c 0 rfl;go_wp2;go_ret;exact⟨by rw[H.out];simp[*],c⟩
 go_enter func124,ntmps124
 go_upto_region 1 with fail;rw[d.out];have h:=f.c 0 rfl;have i:=f.c 1 rfl;have b:=g.c 0 rfl;go_wp2;go_ret;exact⟨by rw[H.out];simp;omega,c⟩
theorem zfr (v l) (m:Int) (p:Nat) (w) (hb:Box w p [I6 m]) (c:zl arE w v l):
  Xp prog 123 #[v,.func (.func 124) #[] #[Xj (Xa ⟨p,0,Xb⟩)]] w fun e w'=>(∃z:Int,e= Xl (I6 z)/\zco l m z)/\zb w w':=by
 have b:=c.short;obtain⟨a,a,rfl,a⟩:=c.ars;have k:=dD a;have h:=dD hb;have d:=enters_of func124 (by kernel_rfl) rfl
 clear a c hb;obtain⟨n,x⟩:=kA l.length;rw[x.out]at b⊢;obtain⟨d,c⟩:∃d:Int->Prop,Xo (∀z,zco l m z=d z):=⟨zco l m,fun _=>rfl⟩
 simp only[c.out]
 go_enter func123,ntmps123
 go_wp2
 go_loopg [5,8] n (fun a _ f wr=>∃b:Nat,b<=n/\n - b<=a/\f=I6 b/\Xo (zb w wr)/\Xo (∀(j:Nat) (q:Ar),j<b->l[j]? =Xa q->inZ q m=Xd))
 case atStart=>exact⟨0,nZ _,by omega,rfl,zb.refl w,fun j q r=>absurd r (nL _)⟩
 obtain⟨b,a,a,rfl,i,A⟩:=hrel
 by_cases f:b<n
 ·have s:=kC f
  obtain⟨q,y⟩:∃q,Xo (l[b]? =Xa q):=⟨_,gE (by rw[x.out];exact f)⟩
  obtain⟨a,rfl,g⟩:=k.out b q y.out;obtain⟨z,B,C,D,E,F,G⟩:=g wr i.out;have a:=znb q m p wr (h.grew i);clear g
  cases h:inZ q m with
  | true=>
   rw[h]at a;have u:Xo (d (b:Int)):=dD<|by
    rw[<-c.out];exact .inl ⟨b,q,rfl,y,h⟩
   clear h;go_wp2_with fail;refine a.mono ?_;rintro e K ⟨rfl,k⟩;have t:=dD (i.trans k);clear k a z B C D E F G;go_wp2;go_ret;exact⟨⟨_,rfl,u⟩,t⟩
  | false=>
   rw[h]at a;have H:Xo (∀(j:Nat) (q:Ar),j<b+1->l[j]? =Xa q->inZ q m=Xd):=dD<|fun j q r g=>by
    by_cases e:j=b
    ·subst e;rw[y.out]at g;cases g;exact h
    exact A j q (by omega) g
   clear h;go_wp2_with fail;refine a.mono ?_;rintro e K ⟨rfl,k⟩;have t:=dD (i.trans k);clear k a z B C D E F G;go_wp2
   go_roundg (n -(b+1))
   case measure=>omega
   exact⟨b+1,by omega,by omega,by go_num,t,H⟩
 have s:=kD f
 have:b=n:=by omega
 subst this;have u:Xo (d (-1:Int)):=dD<|by
  rw[<-c.out];refine .inr ⟨rfl,fun b a=>?_⟩
  obtain⟨j,r⟩:=List.getElem?_of_mem a;exact A j b (by rw[<-x.out];exact(gS.1 r).1) r
 go_wp2;go_ret;exact⟨⟨_,rfl,u⟩,i⟩
theorem zcH (v l) (m:Int) (w) (b:zl arE w v l):
  Xp prog 67 #[v,I6 m] w fun e w'=>(∃z:Int,e= Xl (I6 z)/\zco l m z)/\zb w w':=by
 have a:∀(c:Fn) (first a:Array Xq) (w:Xn),(Instr.makeFunc c first a).run prog w= .ok (.func c first a) w:=fun _ _ _ _=>rfl
 have a:Xp prog 123 #[v,.func (.func 124) #[] #[Xj (Xa ⟨w.heap.size,0,Xb⟩)]] (w.alloc (Xk #[I6 m] 3)) fun e w'=>(∃z:Int,e= Xl (I6 z)/\zco l m z)/\zb (w.alloc (Xk #[I6 m] 3)) w':=zfr v l m _ _ (Box.top w _ _ rfl) (b.grew (za _ _))
 obtain⟨c,c,rfl,_⟩:=b.ars;clear b
 generalize l.length=n at a⊢
 go_enter func67,ntmps67
 go_wp2_with fail;refine a.mono ?_;rintro e f ⟨⟨z,rfl,c⟩,b⟩;have d:Xo (zb w f):=(za _ _).trans b;have f:=dD c;clear b a c;go_wp2;go_ret;exact⟨⟨_,rfl,f⟩,d⟩
def jY (l:List Ar) (s:Nat):Nat->Nat
 | 0=>0
 | n+1=>jY l s n+if(zD l (s+n)).is=Xc then 1 else 0
theorem zg3 (l) (s:Nat):∀n,jY l s n<=n
 | 0=>nR _
 | n+1=>by
  have:=zg3 l s n;unfold jY
  split <;> omega
theorem zdI {l:List Ar} {s:Nat}:∀{n:Nat},jY l s n=0↔∀j,j<n->(zD l (s+j)).is=Xd
 | 0=>by simp[jY]
 | n+1=>by
  unfold jY;have a:=zdI (l:=l) (s:=s) (n:=n);constructor
  ·intro h j b
   by_cases e:j=n
   ·subst e
    cases c:(zD l (s+j)).is with
    | false=>rfl
    | true=>rw[c]at h;simp at h
   exact a.1 (by omega) j (by omega)
  intro h;rw[a.2 fun j b=>h j (by omega),h n (by omega)]
  simp
theorem znv {s n:Nat} (h:s+n<=64):jY l s n=0↔zqW l s n=Xd:=by
 rw[zdI,zqn];constructor
 ·intro a k b b;have:=a (k - s) (by omega)
  rw[show s+(k - s)=k by omega]at this
  exact this
 intro a j b;exact a (s+j) (by omega) (by omega)
theorem zl4 (v l) (s n:Nat) (w) (b:zl arE w v l) (a:s+n<=64):
  Xp prog 128 #[v,I6 (s:Int),I6 ((s:Int)+(n:Int))] w fun e w'=>e= Xl (I6 (jY l s n:Int))/\zb w w':=by
 have c:=dD b;have a:∀W (k:Int),zb w W->Xp prog 67 #[v,I6 k] W fun e w'=>(∃z:Int,e= Xl (I6 z)/\zco l k z)/\zb W w':=fun W k d=>zcH v l k W (c.grew d)
 have d:Xo _:=a;clear b a;obtain⟨g,c⟩:=kA (jY l s n);rw[c.out]
 go_enter func128,ntmps128
 go_wp2
 go_loopg [7,8] n (fun b f h wr=>∃(a C:Nat),a<=n/\n - a<=b/\h=I6 ((s:Int)+(a:Int))/\f=I6 (C:Int)/\C<=a/\Xo (zb w wr)/\Xo (jY l s a=C))
 case atStart=>exact⟨0,0,nZ _,by omega,by simp,rfl,nR _,zb.refl w,rfl⟩
 obtain⟨a,C,b,b,rfl,rfl,b,h,A⟩:=hrel
 by_cases b:a<n
 ·have f:(s:Int)+(a:Int)< (s:Int)+(n:Int):=by omega
  go_wp2_with fail;refine(d wr _ h).mono ?_;rintro e b ⟨⟨z,rfl,d⟩,i⟩;have k:=dD (h.trans i);rw[show(s:Int)+(a:Int)=((s+a:Nat):Int) by omega]at d
  have b:=zfE d;clear i d
  cases d:(zD l (s+a)).is with
  | true=>
   rw[d]at b;have j:0<=z:=by simpa using b
   have i:Xo (jY l s (a+1)=C+1):=dD<|by unfold jY;rw[d,A.out];rfl
   clear d b;go_wp2
   go_roundg (n -(a+1))
   case measure=>omega
   exact⟨a+1,C+1,by omega,by omega,by go_num,by go_num,by omega,k,i⟩
  | false=>
   rw[d]at b;have j:¬0<=z:=by simpa using b
   have i:Xo (jY l s (a+1)=C):=dD<|by unfold jY;rw[d,A.out];rfl
   clear d b;go_wp2
   go_roundg (n -(a+1))
   case measure=>omega
   exact⟨a+1,C,by omega,by omega,by go_num,rfl,by omega,k,i⟩
 have f:¬(s:Int)+(a:Int)< (s:Int)+(n:Int):=by omega
 have:a=n:=by omega
 subst this;have a:Xo ((C:Int)=(g:Int)):=dD<|by rw[<-c.out,A.out]
 go_wp2;go_ret;exact⟨by rw[a.out];rfl,h⟩
def QE (l:List Ar):Nat->Option Ar
 | 0=>Xb
 | k+1=>l[k]?
theorem zaW (p:Option Ar) (a:Ar) (l) (i:Nat):zb8 p (a :: l) i=if arW a≠0 then(arW a,(i:Int))else match p with | some b=>if a.fr<b.tz\/goB a b=Xc then(2,(i:Int))else zb8 (Xa a) l (i+1) | none=>zb8 (Xa a) l (i+1):=by
 cases p <;> rfl
theorem zpL {k:Nat} {q:Ar} {r:Int × Int} (h:zb8 (QE l k) (l.drop k) k=r) (a:l[k]? =Xa q) (b:arW q≠0):r=(arW q,(k:Int)):=by
 rw[jL a,zaW,kE b]at h;exact h.symm
theorem zlI {q:Ar} {r:Int × Int} (h:zb8 (QE l 0) (l.drop 0) 0=r) (a:l[0]? =Xa q) (b:arW q=0):zb8 (QE l 1) (l.drop 1) 1=r:=by
 rw[jL a,zaW,kF (fun h=>h b)]at h
 simp only[QE]at h⊢;rw[a];exact h
theorem zi0 {b q:Ar} {r:Int × Int} (h:zb8 (QE l (j+1)) (l.drop (j+1)) (j+1)=r) (hb:l[j]? =Xa b) (c:l[j+1]? =Xa q) (d:arW q=0) (a:q.fr<b.tz\/goB q b=Xc):r=(2,((j+1:Nat):Int)):=by
 rw[jL c,zaW,kF (fun h=>h d)]at h
 simp only[QE,hb]at h;rw[kE a]at h;exact h.symm
theorem zn6 {b q:Ar} {r:Int × Int} (h:zb8 (QE l (j+1)) (l.drop (j+1)) (j+1)=r) (hb:l[j]? =Xa b) (d:l[j+1]? =Xa q) (a:arW q=0) (e:¬q.fr<b.tz) (c:goB q b=Xd):zb8 (QE l (j+1+1)) (l.drop (j+1+1)) (j+1+1)=r:=by
 rw[jL d,zaW,kF (fun h=>h a)]at h
 simp only[QE,hb]at h;rw[kF (by rintro(a | a);exact e a;rw[c]at a;cases a)]at h
 simp only[QE,d];exact h
theorem zpK {r:Int × Int} (h:zb8 (QE l l.length) (l.drop l.length) l.length=r):r=(0,0):=by
 rw[List.drop_length,zb8]at h;exact h.symm
theorem zlO (h:¬16<l.length):zb8 (QE l 0) (l.drop 0) 0=wrL l:=by
 unfold wrL;rw[kF h];rfl
theorem zcQ (v:Xq) (l:List Ar) (w:Xn) (hv:zl arE w v l):
  Xp prog 117 #[v] w fun e w'=>e= Xl (Xi #[I6 (wrL l).1,I6 (wrL l).2])/\zb w w':=by
 have hbig:=hv.short;obtain⟨a,c,rfl,hrow⟩:=hv.ars;have HR':Xo (zjX w a l):=hrow;have hwa:Xo (∀(q:Ar) W,Xp prog 129 #[Xi #[I6 q.fr,I6 q.tz,Xh q.rd,Xh q.wr,Xh q.sh,I6 q.file,I6 q.base]] W fun e w'=>e= Xl (I6 (arW q))/\zb W w'):=fun q W=>zaV q W
 have hgo:Xo (∀(q b:Ar) W,jN b->Xp prog 166 #[Xi #[I6 q.fr,I6 q.tz,Xh q.rd,Xh q.wr,Xh q.sh,I6 q.file,I6 q.base],Xi #[I6 b.fr,I6 b.tz,Xh b.rd,Xh b.wr,Xh b.sh,I6 b.file,I6 b.base]] W fun e w'=>e= Xl (Xh (goB q b))/\zb W w'):=fun q b W h=>zey q b W h
 clear hrow hv;have HST:Xo (¬16<l.length->zb8 (QE l 0) (l.drop 0) 0=wrL l):=zlO;have HMA:Xo (16<l.length->wrL l=(4,0)):=fun h=>by unfold wrL;rw[kE h]
 have HEND:Xo (∀r,zb8 (QE l l.length) (l.drop l.length) l.length=r->r=(0,0)):=fun r=>zpK
 obtain⟨n,HN⟩:=kA l.length;rw[HN.out]at hbig⊢;have HST':Xo (¬16<n->zb8 (QE l 0) (l.drop 0) 0=wrL l):=dD<|by rw[<-HN.out];exact HST.out
 have HMA':Xo (16<n->wrL l=(4,0)):=dD<|by rw[<-HN.out];exact HMA.out
 have HEND':Xo (∀r,zb8 (QE l n) (l.drop n) n=r->r=(0,0)):=dD<|by rw[<-HN.out];exact HEND.out
 skip
 generalize hA:wrL l=ANS at HST' HMA'⊢
 clear hA;obtain⟨W0,hW0⟩:=kB (w.alloc (Xk #[I6 0,I6 0] 187));have HG0:=gA hW0
 have X0:=xA hW0
 have HW0:Xo (_=W0):=hW0;clear hW0
 by_cases hmany:16<n
 ·have HR:Xo (ANS=(4,0)):=HMA'.out hmany;have hmz:=kC hmany
  go_enter func117,ntmps117
  go_upto_region 1 with fail;rw[HW0.out];have f0:=X0.c 0 rfl;have f1:=X0.c 1 rfl;have ff:=X0.f;have RB:Xo (Box ((W0.setCell ⟨w.heap.size,0,Xb⟩ (I6 4)).setCell ⟨w.heap.size,1,Xb⟩ (I6 0)) w.heap.size [I6 4,I6 0]):=dD<|(X0.set 0 _).set 1 _
  have RG:Xo (zb w ((W0.setCell ⟨w.heap.size,0,Xb⟩ (I6 4)).setCell ⟨w.heap.size,1,Xb⟩ (I6 0))):=dD<|zL (zL HG0 (by simp) _) (by simp) _
  go_wp2;refine bodyPost_ret (zG (vs:=[I6 4,I6 0]) rfl _ rfl RB underlying187 rfl zsg) rfl ⟨?_,RG⟩;rw[HR.out]
 have hmz:=kD hmany
 have HI:Xo (zb8 (QE l 0) (l.drop 0) 0=ANS):=HST'.out hmany
 go_enter func117,ntmps117
 go_upto_region 1 with fail;rw[HW0.out];go_wp2
 go_loopg [12] n (fun gg s12 wr=>∃kk:Nat,kk<=n/\n - kk<=gg/\s12=I6 kk/\Xo (zb w wr)/\Xo (Box wr w.heap.size [I6 0,I6 0])/\Xo (zb8 (QE l kk) (l.drop kk) kk=ANS)/\Xo (∀(j:Nat) q,j<kk->l[j]? =Xa q->jN q))
 case atStart=>exact⟨0,nZ _,by omega,rfl,HG0,X0,HI,fun j q hj=>absurd hj (nL _)⟩
 obtain⟨kk,hkk,hg,rfl,BW,FW,IW,OW⟩:=hrel
 by_cases hlt:kk<n
 ·have hltz:=kC hlt
  obtain⟨q,HQ⟩:∃q,Xo (l[kk]? =Xa q):=⟨_,gE (by rw[HN.out];exact hlt)⟩
  obtain⟨ad,rfl,hl⟩:=HR'.out kk q HQ.out;obtain⟨d0,d1,d2,d3,d4,d5,d6⟩:=hl wr BW.out;have HL:Xo (w.heap.size<wr.heap.size):=FW.lt;obtain⟨p,HP⟩:=kA wr.heap.size;have HLP:Xo (w.heap.size<p):=show _<_ by rw[<-HP.out];exact HL.out
  clear hl;go_upto_region 6 with fail;obtain⟨W1,hW1⟩:=kB (wr.alloc (Xk #[I6 q.fr,I6 q.tz,Xh q.rd,Xh q.wr,Xh q.sh,I6 q.file,I6 q.base] 125));have G1:=gT hW1 BW
  have F1:=yA hW1 FW
  have P1:=xP hW1 HP
  rw[hW1,HP.out];clear hW1 d0 d1 d2 d3 d4 d5 d6
  go_wp2_with (refine zo rfl 125 (.tmp 4) rfl p rfl P1 underlying125 rfl zsf ?_)
  refine(hwa.out q _).mono ?_;rintro e W2 ⟨rfl,g2⟩;have G2:=dD (G1.trans g2);have F2:=dD (F1.grew g2);have P2:=dD (P1.grew g2);clear g2;have hpne:p≠w.heap.size:=by have:=HLP.out;omega
  have hpne':w.heap.size≠p:=by have:=HLP.out;omega
  by_cases hz:arW q=0
  ·have HZ:Xo (arW q=0):=hz;have hzb:(arW q != 0)=Xd:=by simp[hz]
   have HOK:Xo (jN q):=zbA.1 hz;have OW':Xo (∀(j:Nat) x,j<kk+1->l[j]? =Xa x->jN x):=show∀(j:Nat) x,_ from fun j x hj hx=>by
    by_cases e:j=kk
    ·subst e;rw[HQ.out]at hx;cases hx;exact HOK.out
    exact OW j x (by omega) hx
   clear hz;go_upto_region 9 with fail
   generalize arW q=zq
   cases kk with
   | zero=>
    have HNX:Xo (zb8 (QE l 1) (l.drop 1) 1=ANS):=zlI IW HQ HZ.out;have hz0:¬(0:Int)< ((0:Nat):Int):=by decide
    have hz1:decide ((0:Int)< ((0:Nat):Int))=Xd:=by decide
    go_quiet (fail);go_wp2
    go_roundg (n - 1)
    case measure=>omega
    exact⟨1,by omega,by omega,by go_num,G2.trans (show Below _ _ _ from bD (bR _ _) _),F2.grew (show Below _ _ _ from bD (bR _ _) _),HNX,OW'⟩
   | succ j=>
    obtain⟨b,HB⟩:∃b,Xo (l[j]? =Xa b):=⟨_,gE (by rw[HN.out];omega)⟩
    have HBK:Xo (jN b):=OW.out j b (by omega) HB.out
    have hz0:(0:Int)< ((j+1:Nat):Int):=by omega
    have hz1:decide ((0:Int)< ((j+1:Nat):Int))=Xc:=by simp
    have hj1:((j+1:Nat):Int) - 1=(j:Int):=by omega
    have hjn:(j:Int)< (n:Int):=by omega
    obtain⟨ad',had,hl⟩:=HR'.out j b HB.out;obtain rfl:ad=ad':=by cases had;rfl
    by_cases hc:q.fr<b.tz
    ·have HR:Xo (ANS=(2,((j+1:Nat):Int))):=zi0 IW HB HQ HZ (.inl hc);have hcd:decide (q.fr<b.tz)=Xc:=by simpa using hc
     obtain⟨e0,e1,e2,e3,e4,e5,e6⟩:=hl W2 G2.out;have p0:=P2.c 0 rfl;clear hl;go_quiet (fail);obtain⟨W3,hW3⟩:=kB (W2.drewN nq);have G3:Xo (zb w W3):=dD<|by rw[<-hW3];exact G2.trans (show Below _ _ _ from bD (bR _ _) _)
     have F3:Xo (Box W3 w.heap.size [I6 0,I6 0]):=dD<|by rw[<-hW3];exact F2.grew (show Below _ _ _ from bD (bR _ _) _)
     rw[hW3];clear hW3 e0 e1 e2 e3 e4 e5 e6 p0;have f0:=F3.c 0 rfl;have f1:=F3.c 1 rfl;have ff:=F3.f;have RB:Xo (Box ((W3.setCell ⟨w.heap.size,0,Xb⟩ (I6 2)).setCell ⟨w.heap.size,1,Xb⟩ (I6 ((j+1:Nat):Int))) w.heap.size [I6 2,I6 ((j+1:Nat):Int)]):=dD<|(F3.set 0 _).set 1 _
     have RG:Xo (zb w ((W3.setCell ⟨w.heap.size,0,Xb⟩ (I6 2)).setCell ⟨w.heap.size,1,Xb⟩ (I6 ((j+1:Nat):Int)))):=dD<|zL (zL G3 (by simp) _) (by simp) _
     go_wp2;refine bodyPost_ret (zG (vs:=[I6 2,I6 ((j+1:Nat):Int)]) rfl _ rfl RB underlying187 rfl zsg) rfl ⟨?_,RG⟩;rw[HR.out]
    have hcd:decide (q.fr<b.tz)=Xd:=by simpa using hc
    have HC:Xo (¬q.fr<b.tz):=hc;have hx0:=P2.gw 0 rfl
    have hx1:=P2.gw 1 rfl
    have hx2:=P2.gw 2 rfl
    have hx3:=P2.gw 3 rfl
    have hx4:=P2.gw 4 rfl
    have hx5:=P2.gw 5 rfl
    have hx6:=P2.gw 6 rfl
    have hy0:∀y:zg W2,y.world.cell? (ad.add (j*7))=Xa (I6 b.fr):=fun y=>(hl _ (G2.trans y.grew)).1
    have hy1:∀y:zg W2,y.world.cell? { block:=(ad.add (j*7)).block,off:=(ad.add (j*7)).off+1 }=Xa (I6 b.tz):=fun y=>(hl _ (G2.trans y.grew)).2.1
    have hy2:∀y:zg W2,y.world.cell? { block:=(ad.add (j*7)).block,off:=(ad.add (j*7)).off+2 }=Xa (Xh b.rd):=fun y=>(hl _ (G2.trans y.grew)).2.2.1
    have hy3:∀y:zg W2,y.world.cell? { block:=(ad.add (j*7)).block,off:=(ad.add (j*7)).off+3 }=Xa (Xh b.wr):=fun y=>(hl _ (G2.trans y.grew)).2.2.2.1
    have hy4:∀y:zg W2,y.world.cell? { block:=(ad.add (j*7)).block,off:=(ad.add (j*7)).off+4 }=Xa (Xh b.sh):=fun y=>(hl _ (G2.trans y.grew)).2.2.2.2.1
    have hy5:∀y:zg W2,y.world.cell? { block:=(ad.add (j*7)).block,off:=(ad.add (j*7)).off+5 }=Xa (I6 b.file):=fun y=>(hl _ (G2.trans y.grew)).2.2.2.2.2.1
    have hy6:∀y:zg W2,y.world.cell? { block:=(ad.add (j*7)).block,off:=(ad.add (j*7)).off+6 }=Xa (I6 b.base):=fun y=>(hl _ (G2.trans y.grew)).2.2.2.2.2.2
    have hne:Nonempty (zg W2):=⟨⟨_,zb.refl _⟩⟩;clear hl;refine qu [(19,⟨fun v=>v= Xh (goB q b),fun _ _=>True⟩)] zZ (by kernel_rfl) ?_ ?_ ?_
    ·intro x hx
     simp at hx
     subst hx;exact⟨_,rfl⟩
    ·intro x hx
     simp at hx
     subst hx;exact fun _ _ _ _ h=>h
    iterate 19 (refine zI rfl rfl rfl (fun K hK=>?_);go_big_quiet_op;refine hK _ ?_;clear hK)
    refine zC rfl rfl (fun w' hg hF=>?_) (fun v1 hv=>?_)
    ·refine zR.call [Xi #[I6 q.fr,I6 q.tz,Xh q.rd,Xh q.wr,Xh q.sh,I6 q.file,I6 q.base],Xi #[I6 b.fr,I6 b.tz,Xh b.rd,Xh b.wr,Xh b.sh,I6 b.file,I6 b.base]] rfl func166 rfl rfl rfl ?_;refine(hgo.out q b w' HBK).mono ?_;rintro e w'' ⟨rfl,hg2⟩;exact⟨_,rfl,hg2,rfl,trivial⟩
    subst hv;simp only[Xt,sB,sS,sZ];iterate 2 (refine zI rfl rfl rfl (fun K hK=>?_);go_big_quiet_op;refine hK _ ?_;clear hK)
    refine zP fun W3 hg1 hF=>?_
    have G3:=dD (G2.trans hg1);have F3:=dD (F2.grew hg1);clear hg1 hF hx0 hx1 hx2 hx3 hx4 hx5 hx6 hy0 hy1 hy2 hy3 hy4 hy5 hy6 hne
    cases hgb:goB q b with
    | true=>
     have HR:Xo (ANS=(2,((j+1:Nat):Int))):=zi0 IW HB HQ HZ (.inr hgb);clear hgb;have f0:=F3.c 0 rfl;have f1:=F3.c 1 rfl;have ff:=F3.f;have RB:Xo (Box ((W3.setCell ⟨w.heap.size,0,Xb⟩ (I6 2)).setCell ⟨w.heap.size,1,Xb⟩ (I6 ((j+1:Nat):Int))) w.heap.size [I6 2,I6 ((j+1:Nat):Int)]):=show Box _ _ _ from(F3.set 0 _).set 1 _
     have RG:Xo (zb w ((W3.setCell ⟨w.heap.size,0,Xb⟩ (I6 2)).setCell ⟨w.heap.size,1,Xb⟩ (I6 ((j+1:Nat):Int)))):=dD<|zL (zL G3 (by simp) _) (by simp) _
     go_wp2;refine bodyPost_ret (zG (vs:=[I6 2,I6 ((j+1:Nat):Int)]) rfl _ rfl RB underlying187 rfl zsg) rfl ⟨?_,RG⟩;rw[HR.out]
    | false=>
     have HNX:Xo (zb8 (QE l (j+1+1)) (l.drop (j+1+1)) (j+1+1)=ANS):=zn6 IW HB HQ HZ HC hgb;clear hgb;go_wp2
     go_roundg (n -(j+1+1))
     case measure=>omega
     exact⟨j+1+1,by omega,by omega,by go_num,G3,F3,HNX,OW'⟩
  have HR:Xo (ANS=(arW q,(kk:Int))):=zpL IW HQ hz;have hzb:(arW q != 0)=Xc:=by simp[hz]
  clear hz;have f0:=F2.c 0 rfl;have f1:=F2.c 1 rfl;have ff:=F2.f;have RB:Xo (Box ((W2.setCell ⟨w.heap.size,0,Xb⟩ (I6 (arW q))).setCell ⟨w.heap.size,1,Xb⟩ (I6 (kk:Int))) w.heap.size [I6 (arW q),I6 (kk:Int)]):=dD<|(F2.set 0 _).set 1 _
  have RG:Xo (zb w ((W2.setCell ⟨w.heap.size,0,Xb⟩ (I6 (arW q))).setCell ⟨w.heap.size,1,Xb⟩ (I6 (kk:Int)))):=dD<|zL (zL G2 (by simp) _) (by simp) _
  go_wp2;refine bodyPost_ret (zG (vs:=[I6 (arW q),I6 (kk:Int)]) rfl _ rfl RB underlying187 rfl zsg) rfl ⟨?_,RG⟩;rw[HR.out]
 have hltz:=kD hlt
 have:kk=n:=by omega
 subst this;have HR:Xo (ANS=(0,0)):=HEND'.out _ IW.out;have f0:=FW.c 0 rfl;have f1:=FW.c 1 rfl;have ff:=FW.f;have RB:Xo (Box ((wr.setCell ⟨w.heap.size,0,Xb⟩ (I6 0)).setCell ⟨w.heap.size,1,Xb⟩ (I6 0)) w.heap.size [I6 0,I6 0]):=show Box _ _ _ from(FW.set 0 _).set 1 _
 have RG:Xo (zb w ((wr.setCell ⟨w.heap.size,0,Xb⟩ (I6 0)).setCell ⟨w.heap.size,1,Xb⟩ (I6 0))):=dD<|zL (zL BW (by simp) _) (by simp) _
 go_wp2;refine bodyPost_ret (zG (vs:=[I6 0,I6 0]) rfl _ rfl RB underlying187 rfl zsg) rfl ⟨?_,RG⟩;rw[HR.out]
theorem zo6 (e) (l:List En):esW (e :: l)=if enW e=0 then esW l else enW e:=rfl
theorem zn9 (h:List En) (t:List (List En)):tbW (h :: t)=if haW h=0 then tbW t else haW h:=rfl
theorem zre {h:List En} (a:h.length=8):haW h=if esW h=0 then(if zeP h=Xc then 0 else 2)else esW h:=by
 unfold haW;rw[kF (by omega),kE a]
theorem zeS (v) (fs:List En) (w) (c:zl enE w v fs):
  Xp prog 167 #[v] w fun e w'=>e= Xl (I6 (haW fs))/\zb w w':=by
 have b:=c.short;have d:=dD c;obtain⟨g,i,rfl,a⟩:=c.ens;have m:=dD a;clear a c;obtain⟨n,h⟩:=kA fs.length;obtain⟨Z,p⟩:=kA (haW fs);rw[h.out]at b d⊢;rw[p.out]
 by_cases j:n=0
 ·have l:Xo (Z=0):=dD<|by rw[<-p.out];unfold haW;rw[kE (by rw[h.out];exact j)]
  subst j
  go_enter func167,ntmps167
  go_wp2;go_ret;exact⟨by rw[l.out];rfl,zb.refl _⟩
 have a:((n:Int) == 0)=Xd:=by simpa using j
 by_cases r:n=8
 ·have A:=dD (h.trans r);have x:((n:Int) != 8)=Xd:=by simp[r]
  clear j r;have f:=fun W (a:zb w W)=>ZD (O g n i) fs W (d.grew a)
  go_enter func167,ntmps167
  go_wp2
  go_loopg [14] n (fun b a wr=>∃c:Nat,c<=n/\n - c<=b/\a=I6 c/\Xo (zb w wr)/\Xo (esW (fs.drop c)=esW fs))
  case atStart=>exact⟨0,nZ _,by omega,rfl,zb.refl w,rfl⟩
  obtain⟨c,a,a,rfl,k,t⟩:=hrel
  by_cases i:c<n
  ·have s:=kC i
   obtain⟨q,g⟩:∃q,Xo (fs[c]? =Xa q):=⟨_,gE (by rw[h.out];exact i)⟩
   obtain⟨a,rfl,u⟩:=m.out c q g.out;obtain⟨B,C,D⟩:=u wr k.out;obtain⟨b,d⟩:=kB (wr.alloc (Xk #[I6 q.kind,I6 q.n,Xh q.wr] 127));have y:=gT d k
   have m:=dD d;have a:=zav q.kind q.n q.wr b;have b:Xo (esW (fs.drop c)=if enW ⟨q.kind,q.n,q.wr⟩=0 then esW (fs.drop (c+1))else enW ⟨q.kind,q.n,q.wr⟩):=show _=_ by rw[jL g.out,zo6]
   clear u d
   generalize enW ⟨q.kind,q.n,q.wr⟩=z at a b
   by_cases q:z=0
   ·have E:Xo (esW (fs.drop (c+1))=esW fs):=dD<|by rw[<-t.out,b.out,kE q]
    subst q;go_wp2_with fail;rw[m.out];refine a.mono ?_;rintro e u ⟨rfl,d⟩;have g:=dD (y.trans d);clear d a B C D;go_wp2
    go_roundg (n -(c+1))
    case measure=>omega
    exact⟨c+1,by omega,by omega,by go_num,g,E⟩
   have E:(z != 0)=Xc:=by simpa using q
   have l:Xo (Z=z):=dD<|by
    have z:=t.out;rw[b.out,kF q]at z;rw[<-p.out,zre A.out,<-z,kF q]
   go_wp2_with fail;rw[m.out];refine a.mono ?_;rintro e u ⟨rfl,d⟩;have g:=dD (y.trans d);clear d a B C D;go_wp2;go_ret;exact⟨by rw[l.out];rfl,g⟩
  have s:=kD i
  have:c=n:=by omega
  subst this;have c:Xo (esW fs=0):=dD<|by
   rw[<-t.out,Xu (by rw[h.out];exact nR _)]
   rfl
  have a:=f wr k.out;have b:Xo (Z=if zeP fs=Xc then 0 else 2):=dD<|by rw[<-p.out,zre A.out,c.out,kE rfl]
  generalize zeP fs=A at a b
  clear f
  cases A with
  | true=>
   go_wp2_with fail;refine a.mono ?_;rintro e u ⟨rfl,d⟩;have g:=dD (k.trans d);clear d a;go_wp2;go_ret;exact⟨by rw[b.out];rfl,g⟩
  | false=>
   go_wp2_with fail;refine a.mono ?_;rintro e u ⟨rfl,d⟩;have g:=dD (k.trans d);clear d a;go_wp2;go_ret;exact⟨by rw[b.out];rfl,g⟩
 have x:((n:Int) != 8)=Xc:=by simp;omega
 have l:Xo (Z=2):=dD<|by rw[<-p.out];unfold haW;rw[kF (by rw[h.out];exact j),kF (by rw[h.out];exact r)]
 clear j r
 go_enter func167,ntmps167
 go_wp2;go_ret;exact⟨by rw[l.out];rfl,zb.refl _⟩
theorem zcL (vs:List Xq) (t:List (List En)) (w) (a:zat w vs t):
  Xp prog 118 #[Xi vs.toArray] w fun e w'=>e= Xl (I6 (tbW t))/\zb w w':=by
 have p:=dD a;have d:=dD a.len;clear a;obtain⟨Z,n⟩:=kA (tbW t);rw[n.out];obtain⟨a,a⟩:=kB (w.alloc (Xk vs.toArray 74));have c:=gA a
 have f:=xA a
 have b:=dD a;clear a
 go_enter func118,ntmps118
 go_upto_region 1 with fail;rw[b.out]
 go_wp2_with (refine qH rfl (.tmp 1) rfl w.heap.size rfl f d.out ?_)
 go_loopg [7] 8 (fun a d wr=>∃b:Nat,b<=8/\8 - b<=a/\d=I6 b/\Xo (zb w wr)/\Xo (tbW (t.drop b)=tbW t))
 case atStart=>exact⟨0,nZ _,by omega,rfl,c,rfl⟩
 obtain⟨b,a,a,rfl,i,k⟩:=hrel
 by_cases f:b<8
 ·have g:(b:Int)<8:=by omega
  obtain⟨c,r,q,j,h,l⟩:=p.half f;have m:=dD j;have d:=dD h;have a:=zeS (O c q.length r) q wr (l.grew i);have c:Xo (tbW (t.drop b)=if haW q=0 then tbW (t.drop (b+1))else haW q):=show _=_ by rw[jL m.out,zn9]
  clear j h l
  generalize haW q=z at a c
  generalize q.length=nq at a d
  by_cases j:z=0
  ·have m:Xo (tbW (t.drop (b+1))=tbW t):=dD<|by rw[<-k.out,c.out,kE j]
   subst j
   go_wp2_with (refine zhv rfl (.tmp 6) (.tmp 7) rfl vs rfl b rfl f d.out ?_)
   refine a.mono ?_;rintro e r ⟨rfl,h⟩;have l:=dD (i.trans h);clear h a;go_wp2
   go_roundg (8 -(b+1))
   case measure=>omega
   exact⟨b+1,by omega,by omega,by go_num,l,m⟩
  have m:(z != 0)=Xc:=by simpa using j
  have m:Xo (Z=z):=dD<|by
   have q:=k.out;rw[c.out,kF j]at q;rw[<-n.out,<-q]
  skip
  go_wp2_with (refine zhv rfl (.tmp 6) (.tmp 7) rfl vs rfl b rfl f d.out ?_)
  refine a.mono ?_;rintro e r ⟨rfl,h⟩;have l:=dD (i.trans h);clear h a;go_wp2;go_ret;exact⟨by rw[m.out];rfl,l⟩
 have g:¬(b:Int)<8:=by omega
 have:b=8:=by omega
 subst this;have m:Xo (Z=0):=dD<|by
  rw[<-n.out,<-k.out,Xu (by rw[p.tlen];exact nR _)]
  rfl
 go_wp2;go_ret;exact⟨by rw[m.out];rfl,i⟩
def enV (e:En):Xq:= Xi #[I6 e.kind,I6 e.n,Xh e.wr]
theorem zer {n:Int} (a:0<=n) (b:n<64):∃i k:Nat,i<8/\k<8/\n=8*i+k/\n / 8=(i:Int)/\n % 8=(k:Int)/\n.tdiv 8=(i:Int)/\n.tmod 8=(k:Int)/\n.toNat / 8=i/\n.toNat % 8=k:=by
 refine⟨n.toNat / 8,n.toNat % 8,by omega,by omega,by omega,by omega,by omega,?_,?_,rfl,rfl⟩
 ·rw[Int.tdiv_eq_ediv_of_nonneg a];omega
 rw[Int.tmod_eq_emod_of_nonneg a];omega
theorem QK (vs:List Xq) (t:List (List En)) (n:Int) (w) (a:zat w vs t):
  Xp prog 69 #[Xi vs.toArray,I6 n] w fun e w'=>e= Xl (enV (zd8 t n))/\zb w w':=by
 have j:=dD a;have b:=dD a.len;clear a;obtain⟨Z,s⟩:=kA (zd8 t n);rw[s.out];obtain⟨C,a⟩:=kB ((w.alloc (Xk vs.toArray 74)).alloc (Xk #[I6 0,I6 0,Xh Xd] 127));have b:=gD2 a
 have B:=x2a a
 have g:=x2b a
 have f:=dD a;clear a;have a:∀(W:Xn) (u c x:Xq),Box W (w.heap.size+1) [I6 0,I6 0,Xh Xd]->zb w W->zb w (((W.setCell ⟨w.heap.size+1,0,Xb⟩ u).setCell ⟨w.heap.size+1,1,Xb⟩ c).setCell ⟨w.heap.size+1,2,Xb⟩ x):=fun W u c x _ c=>
  Below.setCell (Below.setCell (Below.setCell c (p:=⟨w.heap.size+1,0,Xb⟩) (by simp) _) (p:=⟨w.heap.size+1,1,Xb⟩) (by simp) _) (p:=⟨w.heap.size+1,2,Xb⟩) (by simp) _
 have r:=dD a;clear a;obtain⟨a,a,a⟩:=g.c3;have a:=g.f
 by_cases q:0<=n/\n<64
 ·obtain⟨a,d⟩:=q;obtain⟨y,k,D,c,h,c,c,c,c,z,A⟩:=zer a d;have l:=fun W=>QQ (m:=n) (n:=64) a d W
  obtain⟨c,c,i,u,c,x⟩:=j.half D;have j:Xo (Z=i[k]?.getD en0):=dD<|by
   rw[<-s.out];unfold zd8;rw[kE ⟨a,d⟩,z,A];unfold zdt;rw[u];rfl
  have D:=B.c y c;obtain⟨_,_,d,a⟩:=x.ens;cases d;have B:=dD a;have d:(y:Int)<8:=by omega
  clear a x u c z A h;obtain⟨nq,d⟩:=kA i.length;rw[d.out]at D
  by_cases h:k<nq
  ·obtain⟨e,a⟩:∃e,Xo (i[k]? =Xa e):=⟨_,gE (by rw[d.out];exact h)⟩
   obtain⟨c,rfl,u⟩:=B.out k e a.out;obtain⟨c,c,c⟩:=u C b.out;have c:Xo (Z=e):=dD<|by rw[j.out,a.out];rfl
   have i:¬(nq:Int)<=(k:Int):=by omega
   have a:decide ((nq:Int)<=(k:Int))=Xd:=decide_eq_false i;have a:=kC h
   clear u
   go_enter func69,ntmps69
   go_wp2_with fail;rw[f.out];refine(l _).mono ?_;rintro e w' ⟨rfl,a⟩;rw[a];clear a w';go_wp2;refine bodyPost_ret (v:= Xi #[I6 e.kind,I6 e.n,Xh e.wr]) (by simp[results,Tryz.results69,go_sem, *]) rfl ⟨?_,?_⟩
   ·rw[c.out];rfl
   exact r _ _ _ _ g b.out
  have c:Xo (Z=en0):=dD<|by rw[j.out,gN (by rw[d.out];omega)];rfl
  have i:(nq:Int)<=(k:Int):=by omega
  go_enter func69,ntmps69
  go_wp2_with fail;rw[f.out];refine(l _).mono ?_;rintro e w' ⟨rfl,a⟩;rw[a];clear a w';go_wp2;refine bodyPost_ret (v:= Xi #[I6 0,I6 0,Xh Xd]) (by simp[results,Tryz.results69,go_sem, *]) rfl ⟨?_,?_⟩
  ·rw[c.out];rfl
  exact r _ _ _ _ g b.out
 have l:=fun W=>zbz (m:=n) (n:=64) q W
 have j:Xo (Z=en0):=dD<|by rw[<-s.out];unfold zd8;rw[kF q]
 clear q
 go_enter func69,ntmps69
 go_wp2_with fail;rw[f.out];refine(l _).mono ?_;rintro e w' ⟨rfl,a⟩;rw[a];clear a w';go_wp2;refine bodyPost_ret (v:= Xi #[I6 0,I6 0,Xh Xd]) (by simp[results,Tryz.results69,go_sem, *]) rfl ⟨?_,?_⟩
 ·rw[j.out];rfl
 exact r _ _ _ _ g b.out
def Zv (_:En):Bool:=true
def zlC (k n:Int) (e:En):Bool:=(e.kind == k) &&(e.n == n)
theorem zkp (k n:Int) (b:Bool) (w):
  Xp prog 122 #[Xi #[I6 k,I6 n,Xh b]] w fun e w'=>e= Xl (Xh Xc)/\zb w w':=by
 go_enter func122,ntmps122
 go_wp2;go_ret;exact⟨rfl,za _ _⟩
theorem znc (a c:Int) (b:Bool) (k n:Int) (d f:Nat) (w) (g:Box w d [I6 k]) (h:Box w f [I6 n]):
  Xp prog 250 #[Xi #[I6 a,I6 c,Xh b],Xj (Xa ⟨d,0,Xb⟩),Xj (Xa ⟨f,0,Xb⟩)] w fun e w'=>e= Xl (Xh (zlC k n ⟨a,c,b⟩))/\zb w w':=by
 have H:Xo (zlC k n ⟨a,c,b⟩=((a == k) &&(c == n))):=rfl
 generalize zlC k n ⟨a,c,b⟩=F at H⊢
 have b:∀b:Obj,(w.alloc b).cell? ⟨d,0,Xb⟩=Xa (I6 k):=fun b=>(g.alloc b).c 0 rfl
 have d:∀b:Obj,(w.alloc b).cell? ⟨f,0,Xb⟩=Xa (I6 n):=fun b=>(h.alloc b).c 0 rfl
 clear g h
 by_cases d:a=k
 ·have b:(a == k)=Xc:=by simpa using d
  have f:Xo (F=(c == n)):=dD<|by rw[H.out,b];rfl
  clear d
  go_enter func250,ntmps250
  go_wp2;go_ret;exact⟨by rw[f.out];rfl,za _ _⟩
 have b:(a == k)=Xd:=by simpa using d
 have f:Xo (F=Xd):=dD<|by rw[H.out,b];rfl
 clear d
 go_enter func250,ntmps250
 go_wp2;go_ret;exact⟨by rw[f.out];rfl,za _ _⟩
theorem zeZ (vs:List Xq) (t:List (List En)) (w:Xn) (a:zat w vs t):
  Xp prog 121 #[Xi vs.toArray,.func (.func 122) #[] #[]] w fun e w'=>∃v,e= Xl v/\zc blE w.heap.size w' v (z6 t Zv 64)/\zb w w':=by
 have i:=dD a;have p:=dD a.len;clear a;obtain⟨l,a⟩:=kB (w.alloc (Xk vs.toArray 74));have h:=gA a
 have j:=xA a
 have f:=dD a;clear a;obtain⟨b,a⟩:=kA (z6 t Zv);have c:Xo (b 0=[]):=show _=_ by rw[<-a.out];rfl
 have d:Xo (∀m:Nat,m<64->b (m+1)=if enS (zd8 t (m:Int)) && Zv (zd8 t (m:Int))then b m++ [(m:Int)]else b m):=dD<|fun m g=>by
  rw[<-a.out,JL];have:zd8 t (m:Int)=zdt t (m / 8) (m % 8):=by unfold zd8;rw[kE (by omega),tN]
  rw[this]
 have A:Xo (∀m,(b m).length<=m):=dD<|fun m=>by rw[<-a.out];exact zaG _ _ _
 rw[a.out];have a:=enters_of func122 (by kernel_rfl) rfl
 go_enter func121,ntmps121
 go_upto_region 1 with fail;rw[f.out];go_wp2
 go_loopg [5,8] 64 (fun f g k wr=>∃(a:Nat) (m:Option Addr) (q n:Nat),a<=64/\64 - a<=f/\k=I6 a/\g= O m q n/\Xo (zb l wr)/\Xo (zc blE l.heap.size wr (O m q n) (b a)))
 case atStart=>exact⟨0,Xb,0,0,nZ _,by omega,rfl,rfl,zb.refl _,by rw[c.out];exact zc.nil _ _ _⟩
 obtain⟨a,m,q,n,c,K,rfl,rfl,s,G⟩:=hrel
 by_cases g:a<64
 ·have r:(a:Int)<64:=by omega
  have c:=QK vs t (a:Int) wr (i.grew (h.trans s));have u:=dD (j.grew s);have f:=d.out a g;obtain⟨x,d⟩:=kA (zd8 t (a:Int));rw[d.out]at c f;have d:=dD f;obtain⟨j,k,i⟩:=x
  go_wp2_with (refine qH rfl (.tmp 2) rfl w.heap.size rfl u p.out ?_)
  refine c.mono ?_;rintro e p ⟨rfl,f⟩;have u:=dD (s.trans f);have x:=dD (G.grew f);clear f c;simp only[enV];go_upto_region 6 with fail;obtain⟨y,f⟩:=kB p.heap.size;obtain⟨g,c⟩:=kB (p.alloc (Xk #[I6 j,I6 k,Xh i] 127));have D:=gT c u
  have F:Xo (zc blE l.heap.size g (O m q n) (b a)):=dD<|by rw[<-c];exact x.grew (za _ _)
  have H:Xo (Box g y [I6 j,I6 k,Xh i]):=dD<|by rw[<-c];exact Box.top _ _ _ f.symm
  rw[c];rw[f];clear c f;obtain⟨u,x,y⟩:=H.c3;have c:=zbT j k i g
  cases p:enS ⟨j,k,i⟩with
  | false=>
   have f:Xo (b (a+1)=b a):=dD<|by rw[d.out,p];rfl
   rw[p]at c;clear p;go_wp2_with fail;refine c.mono ?_;rintro e C ⟨rfl,g⟩;have z:=dD (D.trans g);have B:Xo (zc blE l.heap.size C (O m q n) (b (a+1))):=show zc _ _ _ _ _ by rw[f.out];exact F.grew g
   clear g c u x y;go_wp2
   go_roundg (64 -(a+1))
   case measure=>omega
   exact⟨a+1,m,q,n,by omega,by omega,by go_num,rfl,z,B⟩
  | true=>
   rw[p]at c;have f:Xo (b (a+1)=if Zv ⟨j,k,i⟩=Xc then b a++ [(a:Int)]else b a):=dD<|by rw[d.out,p];rfl
   clear p;go_wp2_with fail;refine c.mono ?_;rintro e C ⟨rfl,g⟩;have z:=dD (D.trans g);have B:=dD (F.grew g);have d:=dD (H.grew g);clear g c u x y;obtain⟨u,x,y⟩:=d.c3;have c:=zkp j k i C;rw[kE (show Zv ⟨j,k,i⟩=Xc from rfl)]at f
   go_wp2_with fail;refine c.mono ?_;rintro e d ⟨rfl,g⟩;have i:=dD (z.trans g);have j:=dD (B.grew g);clear g c u x y;have c:Xo (zl blE (d.alloc (Xk #[I6 (a:Int)] 3)) (O (Xa ⟨d.heap.size,0,Xb⟩) 1 1) [(a:Int)]):=Zg blE d (a:Int) _ _ rfl (by decide)
   go_wp2_with (at_builtin;refine zx (E:=blE) rfl (.tmp 21) (.tmp 23) rfl l.heap.size _ (b a) rfl (j.grew (za _ _)) _ [(a:Int)] rfl c.out ?qb ?qc ?_)
   case qb=>
    have:=A.out a
    show(_+1)*8<=_
    omega
   case qc=>
    have:=bS i.out;simp;omega
   intro c k c d;obtain⟨m,n,rfl⟩:=c.form;have g:Xo (zc blE l.heap.size k (.slice m (b a++ [(a:Int)]).length n) (b (a+1))):=dD<|by rw[f.out];exact c
   have b:=dD<|zX (i.trans (za _ _)) d (fun f K=>(j.lt f K).1)
   clear c d;go_wp2
   go_roundg (64 -(a+1))
   case measure=>omega
   exact⟨a+1,_,_,_,by omega,by omega,by go_num,rfl,b,g⟩
 have r:¬(a:Int)<64:=by omega
 have:a=64:=by omega
 subst this;have b:=dD<|G.base (bS h);have a:=dD (h.trans s);go_wp2;go_ret;exact⟨_,rfl,b,a⟩
theorem zf4 (vs:List Xq) (t:List (List En)) (k n:Int) (H K:Nat) (w:Xn) (a:zat w vs t) (b:Box w H [I6 k]) (c:Box w K [I6 n]):
  Xp prog 121 #[Xi vs.toArray,.func (.func 250) #[] #[Xj (Xa ⟨H,0,Xb⟩),Xj (Xa ⟨K,0,Xb⟩)]] w fun e w'=>∃v,e= Xl v/\zc blE w.heap.size w' v (z6 t (zlC k n) 64)/\zb w w':=by
 have q:=dD a;have s:=dD a.len;clear a;have R:=dD b;have D:=dD c;clear b c;obtain⟨p,a⟩:=kB (w.alloc (Xk vs.toArray 74));have f:=gA a
 have r:=xA a
 have d:=dD a;clear a;obtain⟨c,a⟩:=kA (z6 t (zlC k n));have b:Xo (c 0=[]):=show _=_ by rw[<-a.out];rfl
 have g:Xo (∀m:Nat,m<64->c (m+1)=if enS (zd8 t (m:Int)) &&(zlC k n) (zd8 t (m:Int))then c m++ [(m:Int)]else c m):=dD<|fun m h=>by
  rw[<-a.out,JL];have:zd8 t (m:Int)=zdt t (m / 8) (m % 8):=by unfold zd8;rw[kE (by omega),tN]
  rw[this]
 have F:Xo (∀m,(c m).length<=m):=dD<|fun m=>by rw[<-a.out];exact zaG _ _ _
 rw[a.out];have a:=enters_of func250 (by kernel_rfl) rfl
 go_enter func121,ntmps121
 go_upto_region 1 with fail;rw[d.out];go_wp2
 go_loopg [5,8] 64 (fun d j m wr=>∃(a:Nat) (h:Option Addr) (l i:Nat),a<=64/\64 - a<=d/\m=I6 a/\j= O h l i/\Xo (zb p wr)/\Xo (zc blE p.heap.size wr (O h l i) (c a)))
 case atStart=>exact⟨0,Xb,0,0,nZ _,by omega,rfl,rfl,zb.refl _,by rw[b.out];exact zc.nil _ _ _⟩
 obtain⟨a,h,l,i,b,Q,rfl,rfl,B,N⟩:=hrel
 by_cases j:a<64
 ·have x:(a:Int)<64:=by omega
  have b:=QK vs t (a:Int) wr (q.grew (f.trans B));have u:=dD (r.grew B);have d:=g.out a j;obtain⟨j,g⟩:=kA (zd8 t (a:Int));rw[g.out]at b d;have g:=dD d;obtain⟨q,r,m⟩:=j
  go_wp2_with (refine qH rfl (.tmp 2) rfl w.heap.size rfl u s.out ?_)
  refine b.mono ?_;rintro e s ⟨rfl,d⟩;have u:=dD (B.trans d);have y:=dD (N.grew d);clear d b;simp only[enV];go_upto_region 6 with fail;obtain⟨z,d⟩:=kB s.heap.size;obtain⟨j,b⟩:=kB (s.alloc (Xk #[I6 q,I6 r,Xh m] 127));have L:=gT b u
  have M:Xo (zc blE p.heap.size j (O h l i) (c a)):=dD<|by rw[<-b];exact y.grew (za _ _)
  have P:Xo (Box j z [I6 q,I6 r,Xh m]):=dD<|by rw[<-b];exact Box.top _ _ _ d.symm
  rw[b];rw[d];clear b d;obtain⟨y,z,A⟩:=P.c3;have d:=zbT q r m j
  cases u:enS ⟨q,r,m⟩with
  | false=>
   have b:Xo (c (a+1)=c a):=dD<|by rw[g.out,u];rfl
   rw[u]at d;clear u;go_wp2_with fail;refine d.mono ?_;rintro e G ⟨rfl,j⟩;have s:=dD (L.trans j);have C:Xo (zc blE p.heap.size G (O h l i) (c (a+1))):=show zc _ _ _ _ _ by rw[b.out];exact M.grew j
   clear j d y z A;go_wp2
   go_roundg (64 -(a+1))
   case measure=>omega
   exact⟨a+1,h,l,i,by omega,by omega,by go_num,rfl,s,C⟩
  | true=>
   rw[u]at d;have b:Xo (c (a+1)=if(zlC k n) ⟨q,r,m⟩=Xc then c a++ [(a:Int)]else c a):=dD<|by rw[g.out,u];rfl
   clear u;go_wp2_with fail;refine d.mono ?_;rintro e G ⟨rfl,j⟩;have s:=dD (L.trans j);have C:=dD (M.grew j);have g:=dD (P.grew j);clear j d y z A;obtain⟨y,z,A⟩:=g.c3;have d:=znc q r m k n H K G (R.grew (f.trans s)) (D.grew (f.trans s))
   generalize zlC k n ⟨q,r,m⟩=g at d b
   cases g with
   | true=>
    rw[kE rfl]at b;go_wp2_with fail;refine d.mono ?_;rintro e m ⟨rfl,g⟩;have r:=dD (s.trans g);have u:=dD (C.grew g);clear g d y z A;have j:Xo (zl blE (m.alloc (Xk #[I6 (a:Int)] 3)) (O (Xa ⟨m.heap.size,0,Xb⟩) 1 1) [(a:Int)]):=Zg blE m (a:Int) _ _ rfl (by decide)
    go_wp2_with (at_builtin;refine zx (E:=blE) rfl (.tmp 21) (.tmp 23) rfl p.heap.size _ (c a) rfl (u.grew (za _ _)) _ [(a:Int)] rfl j.out ?qb ?qc ?_)
    case qb=>
     have:=F.out a
     show(_+1)*8<=_
     omega
    case qc=>
     have:=bS r.out;simp;omega
    intro j D j q;obtain⟨G,H,rfl⟩:=j.form;have F:Xo (zc blE p.heap.size D (.slice G (c a++ [(a:Int)]).length H) (c (a+1))):=dD<|by rw[b.out];exact j
    have D:=dD<|zX (r.trans (za _ _)) q (fun G Q=>(u.lt G Q).1)
    clear j q;go_wp2
    go_roundg (64 -(a+1))
    case measure=>omega
    exact⟨a+1,_,_,_,by omega,by omega,by go_num,rfl,D,F⟩
   | false=>
    rw[kF (by decide)]at b
    go_wp2_with fail;refine d.mono ?_;rintro e m ⟨rfl,g⟩;have r:=dD (s.trans g);have u:Xo (zc blE p.heap.size m (O h l i) (c (a+1))):=show zc _ _ _ _ _ by rw[b.out];exact C.grew g
    clear g d y z A;go_wp2
    go_roundg (64 -(a+1))
    case measure=>omega
    exact⟨a+1,h,l,i,by omega,by omega,by go_num,rfl,r,u⟩
 have x:¬(a:Int)<64:=by omega
 have:a=64:=by omega
 subst this;have b:=dD<|N.base (bS f);have a:=dD (f.trans B);go_wp2;go_ret;exact⟨_,rfl,b,a⟩
theorem Q5 (vs:List Xq) (t:List (List En)) (w:Xn) (f:zat w vs t):
  Xp prog 66 #[Xi vs.toArray] w fun e w'=>∃v,e= Xl v/\zc blE w.heap.size w' v (z6 t Zv 64)/\zb w w':=by
 have g:=dD f.len;obtain⟨d,b⟩:=kB (w.alloc (Xk vs.toArray 74));have c:=gA b
 have h:=xA b
 have a:=zeZ vs t d (f.grew c);have d:=dD b;clear b f
 generalize z6 t Zv 64=b at a⊢
 go_enter func66,ntmps66
 go_upto_region 1 with fail;rw[d.out]
 go_wp2_with (refine qH rfl (.tmp 1) rfl w.heap.size rfl h g.out ?_)
 refine a.mono ?_;rintro e b ⟨v,rfl,d,b⟩;have g:=dD<|d.base (bS c);have f:=dD (c.trans b);clear d b a;go_wp2;go_ret;exact⟨v,rfl,g,f⟩
theorem zk1 (vs:List Xq) (t:List (List En)) (k n:Int) (w:Xn) (f:zat w vs t):
  Xp prog 242 #[Xi vs.toArray,I6 k,I6 n] w fun e w'=>∃v,e= Xl v/\zc blE w.heap.size w' v (z6 t (zlC k n) 64)/\zb w w':=by
 have a:∀(b:Fn) (first a:Array Xq) (w:Xn),(Instr.makeFunc b first a).run prog w= .ok (.func b first a) w:=fun _ _ _ _=>rfl
 have h:=dD f.len;obtain⟨d,b⟩:=kB (((w.alloc (Xk vs.toArray 74)).alloc (Xk #[I6 k] 3)).alloc (Xk #[I6 n] 3));have c:Xo (zb w d):=show zb w d by rw[<-b];exact((za _ _).trans (za _ _)).trans (za _ _)
 have j:Xo (Box d w.heap.size vs):=dD<|by rw[<-b];exact((Box.top w _ _ rfl).alloc _).alloc _
 have g:Xo (Box d (w.heap.size+1) [I6 k]):=dD<|by rw[<-b];exact(Box.top _ _ _ (by simp)).alloc _
 have i:Xo (Box d (w.heap.size+2) [I6 n]):=dD<|by rw[<-b];exact Box.top _ _ _ (by simp)
 have a:=zf4 vs t k n (w.heap.size+1) (w.heap.size+2) d (f.grew c) g i.out;have d:=dD b;clear b f
 generalize z6 t (zlC k n) 64=b at a⊢
 go_enter func242,ntmps242
 go_upto_region 1 with fail;rw[d.out]
 go_wp2_with (refine qH rfl (.tmp 3) rfl w.heap.size rfl j h.out ?_)
 refine a.mono ?_;rintro e b ⟨v,rfl,d,b⟩;have g:=dD<|d.base (bS c);have f:=dD (c.trans b);clear d b a;go_wp2;go_ret;exact⟨v,rfl,g,f⟩
theorem zmk (a b:Int) (W):(Instr.field 187 (Xi #[I6 a,I6 b]) 0).run prog W= .ok (I6 a) W:=by
 kernel_rfl
theorem Q4 (s:Sp):z6 s.tb Zv 64=(qM s).map fun(n:Nat)=>(n:Int):=by
 unfold z6 qM ze Zv;simp
theorem zoc {s:Sp} (c:s.tb.length=8):spE s=if zu [(wrL s.ars).1,tbW s.tb]=0 then(if s.live=Xd/\(0<s.ars.length\/0< (z6 s.tb Zv 64).length)then 7 else 0)else zu [(wrL s.ars).1,tbW s.tb]:=by
 unfold spE;simp only[zY,zbX]
 by_cases a:(wrL s.ars).1=0
 ·by_cases b:tbW s.tb=0
  ·simp only[a,b,ne_eq,not_true,if_false,if_true];have d:(0< (z6 s.tb Zv 64).length)↔¬s.tb.all (·.isEmpty)=Xc:=by
    rw[Q4,List.length_map,<-zgk b c,Xw]
   have c:(0<s.ars.length)↔¬s.ars.isEmpty=Xc:=by
    rw[Xw];simp
   simp only[d,c]
   cases s.live <;> cases s.ars.isEmpty <;> cases s.tb.all (·.isEmpty) <;> simp
  simp[a,b]
 simp[a]
theorem zdX (x:SpV) (s w) (n:jT w x s):
  Xp prog 63 #[Xi #[Xh x.live,x.ar.x,x.t0.x,x.t1.x,x.t2.x,x.t3.x,x.t4.x,x.t5.x,x.t6.x,x.t7.x]] w fun e w'=>e= Xl (I6 (spE s))/\zb w w':=by
 have K:=dD<|fun W (B:zb w W)=>zcQ _ s.ars W (n.grew B).ar
 have L:=dD<|fun W (B:zb w W)=>zcL x.tab s.tb W (n.grew B).tb
 have u:=dD<|fun W (B:zb w W)=>Q5 x.tab s.tb W (n.grew B).tb
 have b:=n.live;have aj:=n.ar.n;rw[zoc n.tb.tlen,<-b,<-aj];clear n;obtain⟨r,y⟩:=kA (zu [(wrL s.ars).1,tbW s.tb]);obtain⟨H,A⟩:=kA (z6 s.tb Zv 64);rw[y.out,A.out];rw[A.out]at u;clear b aj;obtain⟨ag,f⟩:=kB (w.alloc (Xk #[Xh x.live,x.ar.x,x.t0.x,x.t1.x,x.t2.x,x.t3.x,x.t4.x,x.t5.x,x.t6.x,x.t7.x] 76));have g:=gA f
 have d:=xA f
 have N:=dD f;clear f;obtain⟨Z,c⟩:=kA (if r=0 then(if x.live=Xd/\(0<x.ar.n\/0<H.length)then 7 else 0)else r);rw[c.out]
 go_enter func63,ntmps63
 go_upto_region 1 with fail;rw[N.out];have X:=d.gw 1 rfl
 have Y:=d.gw 2 rfl
 have I:=d.gw 3 rfl
 have a0:=d.gw 4 rfl
 have a1:=d.gw 5 rfl
 have a2:=d.gw 6 rfl
 have a3:=d.gw 7 rfl
 have a4:=d.gw 8 rfl
 have a5:=d.gw 9 rfl
 have V:Nonempty (zg ag):=⟨⟨_,zb.refl _⟩⟩;have U:=fun(ap:zg ag)=>zmk (wrL s.ars).1 (wrL s.ars).2 ap.world
 refine qu [(2,⟨fun a=>a= Xi #[I6 (wrL s.ars).1,I6 (wrL s.ars).2],fun a w'=>True⟩),(6,⟨fun a=>a=I6 (tbW s.tb),fun a w'=>True⟩),(7,⟨fun a=>∃am,a= O (Xa ⟨am,0,Xb⟩) 2 2,fun a w'=>zl zlE w' a [(wrL s.ars).1,tbW s.tb]⟩),(8,⟨fun a=>a=I6 (zu [(wrL s.ars).1,tbW s.tb]),fun a w'=>True⟩)] zZ (by kernel_rfl) ?hS ?hp ?_
 case hS=>
  intro x E;simp only[mC,nM,or_false]at E
  rcases E with rfl|rfl|rfl|rfl
  ·exact⟨_,rfl⟩
  ·exact⟨_,rfl⟩
  ·exact⟨_,0,rfl⟩
  exact⟨_,rfl⟩
 case hp=>
  intro x E;simp only[mC,nM,or_false]at E
  rcases E with rfl|rfl|rfl|rfl
  ·exact fun _ _ _ _ h=>h
  ·exact fun _ _ _ _ h=>h
  ·exact fun _ _ _ k h=>zl.grew h k
  exact fun _ _ _ _ h=>h
 iterate 2 refine zf ?_
 refine zC rfl rfl (fun w' k q=>?_) (fun a6 p=>?_)
 ·refine zR.call [x.ar.x] rfl func117 rfl rfl rfl ?_;refine(K w' (g.trans k)).mono ?_;rintro e G ⟨rfl,m⟩;exact⟨_,rfl,m,rfl,trivial⟩
 subst p;simp only[Xt,sB,sS,sZ];iterate 3 refine zf ?_
 refine zC rfl rfl (fun w' k q=>?_) (fun a6 p=>?_)
 ·refine zR.call [Xi #[x.t0.x,x.t1.x,x.t2.x,x.t3.x,x.t4.x,x.t5.x,x.t6.x,x.t7.x]] rfl func118 rfl rfl rfl ?_;refine(L w' (g.trans k)).mono ?_;rintro e G ⟨rfl,m⟩;exact⟨_,rfl,m,rfl,trivial⟩
 subst p;simp only[Xt,sB,sS,sZ];refine zC rfl rfl (fun w' k q=>?_) (fun a6 p=>?_)
 ·have D:zl zlE (w'.alloc (Xk #[I6 ((wrL s.ars).1),I6 (tbW s.tb)] 47)) (O (Xa ⟨w'.heap.size,0,Xb⟩) 2 2) [(wrL s.ars).1,tbW s.tb]:=zc3 zlE w' [(wrL s.ars).1,tbW s.tb] _ rfl (show 2*8<=140737488355328 by decide)
  refine zR.step (v:= O (Xa ⟨w'.heap.size,0,Xb⟩) 2 2) (w':=w'.alloc (Xk #[I6 ((wrL s.ars).1),I6 (tbW s.tb)] 47)) (by simp only[execOp];go_simp) ⟨za _ _,⟨_,rfl⟩,D⟩
 obtain⟨ai,rfl⟩:=p;simp only[Xt,sB,sS,sZ];refine zC rfl rfl (fun w' k q=>?_) (fun a6 p=>?_)
 ·have an:zl zlE w' (O (Xa ⟨ai,0,Xb⟩) 2 2) [(wrL s.ars).1,tbW s.tb]:=q 7 (by kernel_rfl)
  refine zR.call [O (Xa ⟨ai,0,Xb⟩) 2 2] rfl func19 rfl rfl rfl ?_;refine(zdc _ _ w' an).mono ?_;rintro e G ⟨rfl,rfl⟩;exact⟨_,rfl,zb.refl _,rfl,trivial⟩
 subst p;simp only[Xt,sB,sS,sZ];refine zf ?_
 refine zP fun ak l q=>?_
 have t:=dD (g.trans l);have al:=dD (d.grew l);clear l q X Y I a0 a1 a2 a3 a4 a5 V U;rw[y.out]
 by_cases j:r=0
 ·have P:(r != 0)=Xd:=by simp[j]
  rw[kE j]at c;have aq:=dD j;clear j;obtain⟨a7,ao,a8,a9,aa,ab,ac,ad,ae,af⟩:=al.c10
  cases b:x.live with
  | true=>
   rw[b]at c a7;have i:Xo (Z=0):=dD<|by rw[<-c.out,kF (by simp)]
   clear a8 a9 aa ab ac ad ae af;go_wp2;go_ret;exact⟨by rw[i.out];rfl,t⟩
  | false=>
   rw[b]at c a7
   by_cases Q:0<x.ar.n
   ·have R:(0:Int)< (x.ar.n:Int):=by omega
    have i:Xo (Z=7):=dD<|by rw[<-c.out,kE ⟨rfl,.inl Q⟩]
    clear a8 a9 aa ab ac ad ae af;go_wp2;go_ret;exact⟨by rw[i.out];rfl,t⟩
   have R:¬(0:Int)< (x.ar.n:Int):=by omega
   have C:=u.out ak t.out;have M:=dD Q;clear Q;go_wp2_with fail;refine C.mono ?_;clear C a7 ao a8 a9 aa ab ac ad ae af;rintro e ar ⟨a,rfl,F,ah⟩;have z:=dD (t.trans ah);obtain⟨au,av,rfl⟩:=F.form;clear F ah
   by_cases S:0<H.length
   ·have T:(0:Int)< (H.length:Int):=by omega
    have i:Xo (Z=7):=dD<|by rw[<-c.out,kE (by first | exact⟨rfl,.inr S⟩ | exact⟨trivial,.inr S⟩)]
    go_wp2;go_ret;exact⟨by rw[i.out];rfl,z⟩
   have T:¬(0:Int)< (H.length:Int):=by omega
   have i:Xo (Z=0):=dD<|by rw[<-c.out,kF (fun h=>h.2.elim M.out S)]
   go_wp2;go_ret;exact⟨by rw[i.out];rfl,z⟩
 have P:(r != 0)=Xc:=by simp[j]
 rw[kF j]at c;clear j;go_wp2;go_ret;exact⟨by rw[<-c.out];rfl,t⟩
def zly (W:Xn) (y:Addr) (x:SpV):Prop:=W.cell? y=Xa (Xh x.live)/\W.cell? { block:=y.block,off:=y.off+1 }=Xa (x.ar.x)/\W.cell? { block:=y.block,off:=y.off+2 }=Xa (x.t0.x)/\W.cell? { block:=y.block,off:=y.off+3 }=Xa (x.t1.x)/\W.cell? { block:=y.block,off:=y.off+4 }=Xa (x.t2.x)/\W.cell? { block:=y.block,off:=y.off+5 }=Xa (x.t3.x)/\W.cell? { block:=y.block,off:=y.off+6 }=Xa (x.t4.x)/\W.cell? { block:=y.block,off:=y.off+7 }=Xa (x.t5.x)/\W.cell? { block:=y.block,off:=y.off+8 }=Xa (x.t6.x)/\W.cell? { block:=y.block,off:=y.off+9 }=Xa (x.t7.x)
theorem qW.sp10 {y:Addr} {x:SpV} (h:qW W y (spv x)):zly W y x:=⟨h 0 _ rfl,h 1 _ rfl,h 2 _ rfl,h 3 _ rfl,h 4 _ rfl,h 5 _ rfl,h 6 _ rfl,h 7 _ rfl,h 8 _ rfl,h 9 _ rfl⟩
theorem zE.spaces {w:Xn} (h:zE w V m):∃a:List SpV,a.length=m.sp.length/\(∀(j:Nat) x,a[j]? =Xa x->∃b,V.sp.a=Xa b/\∀W,zb w W->zly W (b.add (j*10)) x)/\∀(i:Nat) x s,a[i]? =Xa x->m.sp[i]? =Xa s->jT w x s:=by
 obtain⟨a,c,d,e⟩:=h.sp;refine⟨a,d,fun j x f=>?_,e⟩
 obtain⟨b,a,d⟩:=c.rowsAt j x f;exact⟨b,a,fun W a=>(d W a).sp10⟩
theorem zcM (V m w) (N:zE w V m):
  Xp prog 30 #[Xi (mL V m).toArray] w fun e w'=>e= Xl (I6 (Zy m))/\zb w w':=by
 obtain⟨am,an,Y,I,U,W,X,T,⟨R,a,S⟩⟩:=V;dsimp only[mL];obtain⟨-,-,-,-,-,-,-,-,P⟩:=N.ns;dsimp only at P;obtain⟨ao,A,h,z⟩:=N.spaces;have G:=dD A;have a5:=dD h;have F:=dD z;have D:=dD P.symm;obtain⟨Z,a1⟩:=kA (Zy m);rw[a1.out];have r:Xo ((if 4<a then 4 else zu (m.sp.map spE))=Z):=show _=_ by rw[<-a1.out,<-D.out];rfl
 clear N A h z P;obtain⟨ap,f⟩:=kB (w.alloc (Xk #[am.x,I6 m.hand,an.x,Y.x,I.x,U.x,W.x,X.x,I6 m.cnt,T.x,O R a S] 45));have n:=gA f
 have a2:=xA f
 have q:=dD f;clear f
 by_cases u:4<a
 ·have M:=kC u
  have l:Xo (Z=4):=dD<|by rw[<-r.out,kE u]
  go_enter func30,ntmps30
  go_upto_region 1 with fail;rw[q.out];have B:=a2.c 10 rfl;go_wp2;go_ret;exact⟨by rw[l.out];rfl,n⟩
 have M:=kD u
 have al:a<=4:=by omega
 have t:Xo (zu (m.sp.map spE)=Z):=dD<|by rw[<-r.out,kF u]
 clear u
 go_enter func30,ntmps30
 go_upto_region 1 with fail;rw[q.out];have B:=a2.c 10 rfl;go_wp2;clear B
 go_loopg [13] a (fun ai Q wr=>∃c:Nat,c<=a/\a - c<=ai/\Q=I6 c/\Xo (zb w wr)/\Xo (∀(j:Nat) s,j<c->m.sp[j]? =Xa s->spE s=0))
 case atStart=>exact⟨0,nZ _,by omega,rfl,n,fun j s a3=>absurd a3 (nL _)⟩
 obtain⟨c,ak,aj,rfl,C,H⟩:=hrel
 by_cases g:c<a
 ·have y:=kC g
  obtain⟨s,E⟩:∃s,Xo (m.sp[c]? =Xa s):=⟨_,gE (by rw[D.out];exact g)⟩
  obtain⟨x,a0⟩:∃x,Xo (ao[c]? =Xa x):=⟨_,gE (by rw[G.out,D.out];exact g)⟩
  obtain⟨ar,rfl,a4⟩:=a5.out c x a0.out;obtain⟨a6,a7,a8,a9,aa,ab,ac,ae,af,ag⟩:=a4 wr C.out;have b:=zdX x s _ ((F c x s a0 E).grew (C.trans (za wr (Xk #[Xh x.live,x.ar.x,x.t0.x,x.t1.x,x.t2.x,x.t3.x,x.t4.x,x.t5.x,x.t6.x,x.t7.x] 76))));clear a4;obtain⟨e,d⟩:=kA (spE s);rw[d.out]at b;go_upto_region 6 with fail;clear a6 a7 a8 a9 aa ab ac ae af ag;go_wp2_with fail;refine b.mono ?_;clear b;rintro au aq ⟨rfl,v⟩;have p:=dD ((C.trans (za _ _)).trans v);clear v
  by_cases i:e=0
  ·have L:(e != 0)=Xd:=by simp[i]
   have K:Xo (∀(j:Nat) s,j<c+1->m.sp[j]? =Xa s->spE s=0):=dD<|fun j s a3 k=>by
    by_cases ah:j=c
    ·subst ah;rw[E.out]at k;cases k;rw[d.out];exact i
    exact H j s (by omega) k
   clear i;go_wp2
   go_roundg (a -(c+1))
   case measure=>omega
   exact⟨c+1,by omega,by omega,by go_num,p,K⟩
  have L:(e != 0)=Xc:=by simp[i]
  have l:Xo (Z=e):=dD<|by rw[<-t.out,zbs E H (by rw[d.out];exact i)];exact d.out
  clear i;go_wp2;go_ret;exact⟨by rw[l.out];rfl,p⟩
 have y:=kD g
 have:c=a:=by omega
 subst this;have l:Xo (Z=0):=dD<|by rw[<-t.out];exact zbY fun j s k=>H.out j s (by rw[<-D.out];exact(gS.1 k).1) k
 go_wp2;go_ret;exact⟨by rw[l.out];rfl,C⟩
def zbM (l:List Ca) (k:Nat):Option Ca:=match k with | 0=>Xb | k+1=>l[k]?
theorem zqM {p:Option Ca} {c:Ca} (h:caE m Xb c≠0):caE m p c=caE m Xb c:=by
 unfold caE at h⊢
 by_cases a:c.file<0\/(m.fl.length:Int)<=c.file\/c.idx<0\/bkN m c.file<=c.idx\/c.fr<0\/(m.fs.length:Int)<=c.fr
 ·simp only[kE a]
 simp only[kF a]at h⊢
 by_cases a:(zQ m c.fr).r=0\/(zQ m c.fr).f≠c.file\/(zQ m c.fr).x≠c.idx
 ·simp only[kE a]
 simp only[kF a]at h;exact absurd rfl h
theorem zhc {q c:Ca} (h:caE m Xb c=0):caE m (Xa q) c=if z5 c<=z5 q then 2 else 0:=by
 unfold caE at h⊢
 split at h
 ·cases h
 rename_i a
 rw[kF a]
 split at h
 ·cases h
 rename_i a
 rw[kF a]
theorem zjK {l:List Ca} {k:Nat} {c:Ca} {Z:Int} (h:zb4 m (zbM l k) (l.drop k)=Z) (a:l[k]? =Xa c) (b:caE m (zbM l k) c≠0):Z=caE m (zbM l k) c:=by
 rw[jL a]at h;unfold zb4 at h;rw[kF b]at h;exact h.symm
theorem zhb {l:List Ca} {k:Nat} {c:Ca} {Z:Int} (h:zb4 m (zbM l k) (l.drop k)=Z) (a:l[k]? =Xa c) (b:caE m (zbM l k) c=0):zb4 m (zbM l (k+1)) (l.drop (k+1))=Z:=by
 rw[jL a]at h;unfold zb4 at h;rw[kE b]at h
 show zb4 m (l[k]?) _=Z
 rw[a];exact h
theorem zd1 (V m w) (N:zE w V m) (b2:zjS m):
  Xp prog 31 #[Xi (mL V m).toArray] w fun e w'=>e= Xl (I6 (zej m))/\zb w w':=by
 have D:=dD<|fun (c:Ca) az (bl:zb w az)=>zcO V m c az (N.grew bl)
 obtain⟨b7,b8,T,W,Q,R,S,⟨F,a,G⟩,U⟩:=V;dsimp only[mL]at D⊢;obtain⟨-,-,-,-,-,-,-,ar,-⟩:=N.ns;dsimp only at ar;have aw:=dD N.cas;have a6:=dD ar.symm;have b4:a<=9223372036854775807:=by have:=N.ca.short;omega
 have a5:=dD<|fun c br (ac:caE m br c=0)=>zqL b2.st ac
 obtain⟨Z,ax⟩:=kA (zej m);rw[ax.out];have a9:=dD ax.out;clear N ar b2;obtain⟨c8,p⟩:=kB (w.alloc (Xk #[b7.x,I6 m.hand,b8.x,T.x,W.x,Q.x,R.x,S.x,I6 m.cnt,O F a G,U.x] 45));have a4:=gA p
 have b0:=xA p
 have a8:=dD p;clear p
 go_enter func31,ntmps31
 go_upto_region 1 with fail;rw[a8.out];have av:=b0.c 9 rfl;go_wp2;clear av
 go_loopg [9] a (fun bk bs wr=>∃d:Nat,d<=a/\a - d<=bk/\bs=I6 d/\Xo (zb w wr)/\Xo (Box wr w.heap.size [b7.x,I6 m.hand,b8.x,T.x,W.x,Q.x,R.x,S.x,I6 m.cnt,O F a G,U.x])/\Xo (zb4 m (zbM m.ca d) (m.ca.drop d)=Z)/\Xo (∀(j:Nat) c,j<d->m.ca[j]? =Xa c->0<=c.idx/\c.idx<100))
 case atStart=>exact⟨0,nZ _,by omega,rfl,a4,b0,a9,fun j c b5=>absurd b5 (nL _)⟩
 obtain⟨d,bp,bm,rfl,I,bb,x,ay⟩:=hrel
 by_cases t:d<a
 ·have M:=kC t
  obtain⟨c,u⟩:∃c,Xo (m.ca[d]? =Xa c):=⟨_,gE (by rw[a6.out];exact t)⟩
  obtain⟨v,rfl,s⟩:=aw.out d c u.out;obtain⟨bg,bh,bi⟩:=s wr I.out;clear s;go_upto_region 4 with fail;obtain⟨b9,i⟩:=kB (wr.alloc (Xk #[I6 c.file,I6 c.idx,I6 c.fr] 105));have B:=gT i I
  have b1:=yA i bb
  have a0:=xA i
  rw[i];clear i bg bh bi;obtain⟨cc,a7⟩:=kA wr.heap.size;rw[a7.out]at a0⊢;have f:=D.out c b9 B.out;obtain⟨e,n⟩:=kA (caE m Xb c);rw[n.out]at f;obtain⟨bv,bw,bx,bz,c3,c4,c5,c6,c7,av,au⟩:=b1.c11;obtain⟨bd,be,bf⟩:=a0.c3;go_wp2_with fail;refine f.mono ?_;clear f bv bw bx bz c3 c4 c5 c6 c7 av au bd be bf;rintro ca Y ⟨rfl,q⟩;have g:=dD (B.trans q);have aa:=dD (b1.grew q);have a1:=dD (a0.grew q);clear q
  by_cases r:e=0
  ·have ae:(e != 0)=Xd:=by simp[r]
   have l:Xo (caE m Xb c=0):=dD<|by rw[n.out];exact r
   have A:=dD<|a5.out c Xb l.out;have E:Xo (∀(j:Nat) c,j<d+1->m.ca[j]? =Xa c->0<=c.idx/\c.idx<100):=show∀(j:Nat) c,_ from fun j bc b5 af=>by
    by_cases bj:j=d
    ·subst bj;rw[u.out]at af;cases af;exact A.out
    exact ay j bc (by omega) af
   clear r;go_upto_region 7 with fail
   cases d with
   | zero=>
    have a2:=dD<|zhb x u l.out;have ap:¬(0:Int)< ((0:Nat):Int):=by decide
    have aq:decide ((0:Int)< ((0:Nat):Int))=Xd:=by decide
    go_quiet (fail);go_wp2
    go_roundg (a - 1)
    case measure=>omega
    exact⟨1,by omega,by omega,by go_num,g.trans (show Below _ _ _ from bD (bR _ _) _),aa.grew (show Below _ _ _ from bD (bR _ _) _),a2,E⟩
   | succ j=>
    obtain⟨b,X⟩:∃b,Xo (m.ca[j]? =Xa b):=⟨_,gE (by rw[a6.out];omega)⟩
    have a3:Xo (0<=b.idx/\b.idx<100):=ay.out j b (by omega) X.out
    have ap:(0:Int)< ((j+1:Nat):Int):=by omega
    have aq:decide ((0:Int)< ((j+1:Nat):Int))=Xc:=by simp
    have bn:((j+1:Nat):Int) - 1=(j:Int):=by omega
    have bo:(j:Int)< (a:Int):=by omega
    obtain⟨ab,L,s⟩:=aw.out j b X.out;obtain rfl:v=ab:=by cases L;rfl
    have al:=aa.gw 9 rfl
    have ag:=a1.gw 0 rfl
    have ah:=a1.gw 1 rfl
    have ai:=a1.gw 2 rfl
    have am:∀y:zg Y,y.world.cell? (v.add (j*3))=Xa (I6 b.file):=fun y=>(s _ (g.trans y.grew)).1
    have an:∀y:zg Y,y.world.cell? { block:=(v.add (j*3)).block,off:=(v.add (j*3)).off+1 }=Xa (I6 b.idx):=fun y=>(s _ (g.trans y.grew)).2.1
    have ao:∀y:zg Y,y.world.cell? { block:=(v.add (j*3)).block,off:=(v.add (j*3)).off+2 }=Xa (I6 b.fr):=fun y=>(s _ (g.trans y.grew)).2.2
    have aj:Nonempty (zg Y):=⟨⟨_,zb.refl _⟩⟩;clear s L;have z:=dD<|znP a3 A.out;refine qu [(10,⟨fun b6=>b6= Xh (QU b c),fun b6 w'=>True⟩)] zZ (by kernel_rfl) ?hS ?hp ?_
    case hS=>
     intro bu P;simp only[mC,nM,or_false]at P;subst P;exact⟨_,rfl⟩
    case hp=>
     intro bu P;simp only[mC,nM,or_false]at P;subst P;exact fun _ _ _ _ ac=>ac
    iterate 10 refine zf ?_
    refine zC rfl rfl (fun w' cb b3=>?_) (fun cd bq=>?_)
    ·refine zR.call [Xi #[I6 b.file,I6 b.idx,I6 b.fr],Xi #[I6 c.file,I6 c.idx,I6 c.fr]] rfl func65 rfl rfl rfl ?_;refine(zip b c w').mono ?_;rintro e bt ⟨rfl,k⟩;exact⟨_,rfl,k,rfl,trivial⟩
    subst bq;simp only[Xt,sB,sS,sZ];iterate 2 refine zf ?_
    refine zP fun c9 k b3=>?_
    have C:=dD (g.trans k);have ba:=dD (aa.grew k);clear k b3 al ag ah ai am an ao aj
    cases K:QU b c with
    | true=>
     have a2:Xo (zb4 m (zbM m.ca (j+1+1)) (m.ca.drop (j+1+1))=Z):=zhb x u (by
      have ak:zbM m.ca (j+1)=Xa b:=X.out;rw[ak,zhc l.out,kF];have:=z.out;rw[K]at this
      simpa using this)
     go_wp2
     go_roundg (a -(j+1+1))
     case measure=>omega
     exact⟨j+1+1,by omega,by omega,by go_num,C,ba,a2,E⟩
    | false=>
     have h:Xo (Z=2):=dD<|by
      have ak:zbM m.ca (j+1)=Xa b:=X.out;have H:caE m (zbM m.ca (j+1)) c=2:=by
       rw[ak,zhc l.out,kE];have:=z.out;rw[K]at this
       simpa using this
      rw[zjK x u (by rw[H];decide),H]
     go_wp2;go_ret;exact⟨by rw[h.out];rfl,C⟩
  have ae:(e != 0)=Xc:=by simp[r]
  have h:Xo (Z=e):=dD<|by
   have H:caE m (zbM m.ca d) c=e:=by rw[zqM (by rw[n.out];exact r),n.out]
   rw[zjK x u (by rw[H];exact r),H]
  clear r;go_wp2;go_ret;exact⟨by rw[h.out];rfl,g⟩
 have M:=kD t
 have:d=a:=by omega
 subst this;have h:Xo (Z=0):=dD<|by
  rw[<-x.out,Xu (by rw[a6.out];exact nR _)]
  cases zbM m.ca d <;> rfl
 go_wp2;go_ret;exact⟨by rw[h.out];rfl,I⟩
structure Jf (lo hi:Nat) (w:Xn) (x:SpV) (s:Sp):Prop where
 live:x.live=s.live
 ar:zc arE lo w x.ar.v s.ars
 tb:jk lo w x.tab s.tb
 arh:∀g,x.ar.v.ownBlock=Xa g->g<hi
 tbh:∀(i:Nat) v,x.tab[i]? =Xa v->∀g,v.ownBlock=Xa g->g<hi
theorem Jf.grew {a:Nat} {w:Xn} {x:SpV} {s:Sp} (h:Jf a hi w x s) (k:zb w w'):Jf a hi w' x s:=⟨h.live,h.ar.grew k,h.tb.grew k,h.arh,h.tbh⟩
theorem Jf.at {a:Nat} {w:Xn} {x:SpV} {s:Sp} (h:Jf a hi w x s):jT w x s:=⟨h.live,h.ar.at,h.ar.cap,h.tb.new.now⟩
theorem jk.grown {base:Nat} {w:Xn} {t:List (List En)} (h:jk base w vs t) (b:w.grownBy w' (Xa g)) (c:∀(i:Nat) v,vs[i]? =Xa v->v.ownBlock≠Xa g):jk base w' vs t:=
 ⟨h.len,h.tlen,fun i v x a d=>(h.row i v x a d).grown b (fun b b e=>by cases e;exact c i v a b),h.two⟩
theorem Jf.beside {a:Nat} {w:Xn} {x:SpV} {s:Sp} {cs:Array Xq} (h:Jf a hi w x s) (d:w.grownBy w' (Xa g)) (l:w.heap[g]? =Xa (Xk cs t (0,0))) (f:t≠arE.ty) (j:t≠enE.ty):Jf a hi w' x s:=by
 have a:∀{b:Type} {E:Elt b} {c:Nat} {v:Xq} {e:List b},zc E c w v e->t≠E.ty->∀k,v.ownBlock=Xa k->Xa g≠Xa k:=fun m b k i e=>by
  cases e;obtain⟨c,c⟩:=m.obj i;rw[l]at c;cases c;exact b rfl
 refine⟨h.live,h.ar.grown d (a h.ar f),h.tb.grown d (fun i v b e=>?_),h.arh,h.tbh⟩
 obtain⟨y,c⟩:∃y,s.tb[i]? =Xa y:=⟨_,gE (by rw[h.tb.tlen,<-h.tb.len];exact(gS.1 b).1)⟩
 exact a (h.tb.row i v y b c) j g e rfl
def Jl (base:Nat) (w:Xn) (v:Xq) (ss:List Sp):Prop:=
 ∃(xs:List SpV) (B:Nat->Nat),zc ZA base w v xs/\xs.length=ss.length/\base<=B 0/\(∀i,B i<=B (i+1))/\∀(i:Nat) x s,xs[i]? =Xa x->ss[i]? =Xa s->Jf (B i) (B (i+1)) w x s
theorem Jl.grew {base:Nat} {w:Xn} {v:Xq} {a:List Sp} (h:Jl base w v a) (k:zb w w'):Jl base w' v a:=by
 obtain⟨f,B,a,b,c,d,e⟩:=h;exact⟨f,B,a.grew k,b,c,d,fun i x s b a=>(e i x s b a).grew k⟩
theorem Jl.base {base:Nat} {w:Xn} {v:Xq} {a:List Sp} (h:Jl base w v a) (hb:base'<=base):Jl base' w v a:=by
 obtain⟨e,B,a,b,c,c,d⟩:=h;exact⟨e,B,a.base hb,b,by omega,c,d⟩
structure zb6 (base:Nat) (w:Xn) (kk:Nat) (xs ys:List SpV) (ss:List Sp) (B:Nat->Nat):Prop where
 len:ys.length=xs.length
 own:∀(i:Nat) y s,i<kk->ys[i]? =Xa y->ss[i]? =Xa s->Jf (B i) (B (i+1)) w y s
 rest:∀(i:Nat),kk<=i->ys[i]? =xs[i]?
 b0:base<=B 0
 mono:∀i,B i<=B (i+1)
 top:B kk<=w.heap.size
theorem zb6.grew {base:Nat} {w:Xn} {xs b:List SpV} {a:List Sp} {B:Nat->Nat} (h:zb6 base w kk xs b a B) (k:zb w w'):zb6 base w' kk xs b a B:=⟨h.len,fun i y s a c b=>(h.own i y s a c b).grew k,h.rest,h.b0,h.mono,nT h.top (bS k)⟩
theorem zdg {B:Nat->Nat} (h:∀i,B i<=B (i+1)):∀{i j:Nat},i<=j->B i<=B j
 | i,0,a=>by rw[show i=0 from by omega];exact nR _
 | i,j+1,a=>by
  by_cases e:i=j+1
  ·subst e;exact nR _
  exact nT (zdg h (by omega)) (h j)
theorem ZZ:ZA.ty≠arE.ty/\ZA.ty≠enE.ty:=by decide
theorem zb6.step {base:Nat} {w:Xn} {xs c:List SpV} {a:List Sp} {B:Nat->Nat} {cs:Array Xq} (h:zb6 base w kk xs c a B) (f:w.grownBy w' (Xa g)) (k:w.heap[g]? =Xa (Xk cs ZA.ty (0,0))) (d:w'.heap.size=w.heap.size) {x:SpV} {s:Sp} (e:xs[kk]? =Xa x) (l:a[kk]? =Xa s)
  {y:SpV} (b:Jf (B kk) w.heap.size w' y s):zb6 base w' (kk+1) xs (c.set kk y) a (fun i=>if i<=kk then B i else w.heap.size):=by
 have j:kk<c.length:=by rw[h.len];exact(gS.1 e).1
 refine⟨by simp[h.len],fun i z m e c a=>?_,fun i e=>?_,by simpa using h.b0,fun i=>?_,by rw[kF (by omega),d];exact nR _⟩
 ·by_cases e:i=kk
  ·subst e;rw[sF j]at c;cases c;rw[l]at a;cases a;rw[kE (nR _),kF (by omega)]
   exact b
  rw[sN (fun h=>e h.symm)]at c
  have d:=(h.own i z m (by omega) c a).beside f k ZZ.1 ZZ.2
  have b:i<=kk:=by omega
  have a:i+1<=kk:=by omega
  simpa [b,a]using d
 ·rw[sN (by omega)]
  exact h.rest i (by omega)
 by_cases b:i+1<=kk
 ·rw[kE (by omega),kE b]
  exact h.mono i
 rw[kF b]
 by_cases a:i<=kk
 ·rw[kE a];exact nT (zdg h.mono a) h.top
 rw[kF a];exact nR _
theorem zb6.all {base:Nat} {w:Xn} {xs b:List SpV} {a:List Sp} {B:Nat->Nat} {v:Xq} (h:zb6 base w xs.length xs b a B) (c:xs.length=a.length) (d:zc ZA base w v b):Jl base w v a:=
 ⟨b,B,d,h.len.trans c,h.b0,h.mono,fun i y s a b=>h.own i y s (by rw[<-h.len];exact(gS.1 a).1) a b⟩
theorem zob {base:Nat} {w:Xn} {t:List (List En)} (h:jk base w us t):∃a t1 t2 t3 b c d e:Sli,us=[a.v,t1.v,t2.v,t3.v,b.v,c.v,d.v,e.v]:=by
 obtain⟨u0,u1,u2,u3,u4,u5,u6,u7,rfl⟩:=zo9 h.len;obtain⟨a,a,a,a,a,a,a,a,rfl⟩:=zo9 h.tlen;obtain⟨a,j,rfl⟩:=(h.row 0 _ _ rfl rfl).form;obtain⟨b,k,rfl⟩:=(h.row 1 _ _ rfl rfl).form;obtain⟨c,l,rfl⟩:=(h.row 2 _ _ rfl rfl).form;obtain⟨d,m,rfl⟩:=(h.row 3 _ _ rfl rfl).form;obtain⟨e,n,rfl⟩:=(h.row 4 _ _ rfl rfl).form;obtain⟨f,p,rfl⟩:=(h.row 5 _ _ rfl rfl).form;obtain⟨g,q,rfl⟩:=(h.row 6 _ _ rfl rfl).form;obtain⟨i,r,rfl⟩:=(h.row 7 _ _ rfl rfl).form;exact⟨⟨a,_,j⟩,⟨b,_,k⟩,⟨c,_,l⟩,⟨d,_,m⟩,⟨e,_,n⟩,⟨f,_,p⟩,⟨g,_,q⟩,⟨i,_,r⟩,rfl⟩
theorem zfa (v m) (w:Xn) (ck:Qs w v m):
  Xp prog 56 #[v] w fun e w'=>∃bs,e= Xl bs/\Jl w.heap.size w' bs m/\zb w w':=by
 obtain⟨C,ak,bp,bq⟩:=ck;have bl:=dD ak;have bk:=dD bp;have b6:=dD bq;have a2:=ak.short;obtain⟨cx,cy,rfl,_⟩:=ak.rows;clear ak bp bq;obtain⟨n,N⟩:=kA C.length;rw[N.out]at a2 bl⊢;have a5:=ziI _ C w bl.out
 go_enter func56,ntmps56
 go_wp2_with fail;refine a5.mono ?_;clear a5;rintro e c3 ⟨da,rfl,t,bn⟩;obtain⟨bt,aw,rfl⟩:=t.form;rw[N.out]at t⊢;have c1:=dD t;have bi:=dD bn;clear t bn;go_wp2
 go_loopg [10] n (fun cg bd wr=>∃(a:Nat) (b:List SpV) (B:Nat->Nat),a<=n/\n - a<=cg/\bd=I6 a/\Xo (zb w wr)/\Xo (zc ZA w.heap.size wr (O bt n aw) b)/\Xo (zb6 w.heap.size wr a C b m B))
 case atStart=>exact⟨0,C,fun _=>c3.heap.size,nZ _,by omega,rfl,bi,c1,⟨rfl,fun i y cz a8=>absurd a8 (nL _),fun i _=>rfl,bS bi,fun i=>nR _,nR _⟩⟩
 obtain⟨a,b,B,cj,ci,rfl,bh,P,u⟩:=hrel
 by_cases f:a<n
 ·have a9:=kC f
  obtain⟨x,G⟩:∃x,Xo (C[a]? =Xa x):=⟨_,gE (by rw[N.out];exact f)⟩
  obtain⟨s,Y⟩:∃s,Xo (m[a]? =Xa s):=⟨_,gE (by rw[<-bk.out,N.out];exact f)⟩
  have D:=dD<|b6.out a x s G Y.out;have bm:Xo (b[a]? =Xa x):=show _=_ by rw[u.rest a (nR _)];exact G.out
  have H:Xo (b.length=n):=dD<|by rw[u.len,N.out]
  obtain⟨g,cw,a7⟩:=P.formS (by rw[H.out];omega)
  rw[H.out]at a7;cases a7;have a4:zly wr ((Addr.mk g 0 Xb).add (a*10)) x:=(P.one bm).sp10;rw[Addr.add_lit,zA]at a4;obtain⟨c6,c7,c8,c9,ca,cb,cc,cd,ce,cf⟩:=a4;have U:Xo (w.heap.size<=g):=dD<|(P.lt g rfl).1
  go_upto_region 5 with fail;clear c6 c7 c8 c9 ca cb cc cd ce cf;obtain⟨ai,c⟩:=kB (wr.alloc (Xk #[Xh x.live,x.ar.x,x.t0.x,x.t1.x,x.t2.x,x.t3.x,x.t4.x,x.t5.x,x.t6.x,x.t7.x] 76));have S:=gT c bh
  have bb:=xA c
  have b8:Xo (zc ZA w.heap.size ai (O (Xa ⟨g,0,Xb⟩) n aw) b):=dD<|by rw[<-c];exact P.grew (za _ _)
  have bj:Xo (zb6 w.heap.size ai a C b m B):=dD<|by rw[<-c];exact u.grew (za _ _)
  have V:=dD<|(P.lt g rfl).2
  rw[c];clear c;obtain⟨cl,b3⟩:=kA wr.heap.size;rw[b3.out]at bb V⊢;have cm:=bb.c 1 rfl;have a3:=zdM (x.ar.x) s.ars ai (D.ar.grew S);go_wp2_with fail;refine a3.mono ?_;clear a3 cm;rintro e c4 ⟨db,rfl,h,Q⟩;have c0:=dD h.cap;obtain⟨j,k,rfl⟩:=h.form;obtain⟨l,b4⟩:=kA s.ars.length;rw[b4.out]at h⊢;have bf:=dD h;have ay:=dD (S.trans Q);have c2:=dD (bb.grew Q);have K:=dD (b8.grew Q);have bv:=dD (bj.grew Q);have F:=dD bj.top;have W:=dD<|bS Q
  clear h Q
  go_wp2_with (refine z3 (E:=ZA) rfl (.tmp 21) (.tmp 19) 71 rfl w.heap.size _ b K g a 1 rfl x { x with ar:=⟨j,l,k⟩ } bm.out [O j l k] ?s1 rfl ?s2 ?s3 ⟨g,a*10+1,Xb⟩ rfl rfl (O j l k) rfl rfl ?_)
  case s1=>kernel_rfl
  case s2=>show 1+1<=10;omega
  case s3=>simp;rfl
  intro p ac d af;have b1:Xo (∃a0,c4.heap[g]? =Xa (Xk a0 ZA.ty (0,0))):=K.obj rfl;have T:=dD<|zd ay d U.out
  have z:Xo (Box p cl [Xh x.live,x.ar.x,x.t0.x,x.t1.x,x.t2.x,x.t3.x,x.t4.x,x.t5.x,x.t6.x,x.t7.x]):=c2.grown d (by have:=V.out;omega)
  have b9:Xo (zc ZA w.heap.size p (O (Xa ⟨g,0,Xb⟩) n aw) (b.set a { x with ar:=⟨j,l,k⟩ })):=ac;have bu:Xo (zc arE ai.heap.size p (O j l k) s.ars):=bf.grown d (fun aj a1 e=>by
   cases e;exact K.apart bf ZZ.1 g rfl a1)
  have bw:Xo (∀(i:Nat) y M,i<a->b[i]? =Xa y->m[i]? =Xa M->Jf (B i) (B (i+1)) p y M):=dD<|fun i y M a8 ab bc=>by
   obtain⟨a0,r⟩:=b1.out;exact(bv.own i y M a8 ab bc).beside d r ZZ.1 ZZ.2
  have X:=dD af;clear ac d af;have a6:=zgm x.tab s.tb p (D.grew T).tb;have A:Xp prog 105 #[Xi #[x.t0.x,x.t1.x,x.t2.x,x.t3.x,x.t4.x,x.t5.x,x.t6.x,x.t7.x]] p fun e w'=>∃be,e= Xl (Xi be.toArray)/\jk (p.heap.size+2) w' be s.tb/\zb p w'/\p.heap.size+2<=w'.heap.size:=a6
  clear a6;have cn:=z.c 2 rfl;have co:=z.c 3 rfl;have cp:=z.c 4 rfl;have cq:=z.c 5 rfl;have cr:=z.c 6 rfl;have ct:=z.c 7 rfl;have cu:=z.c 8 rfl;have cv:=z.c 9 rfl;go_wp2_with fail;refine A.mono ?_;clear A cn co cp cq cr ct cu cv;rintro e I ⟨be,rfl,L,R,_⟩;obtain⟨al,am,an,ao,ap,aq,au,av,rfl⟩:=zob L;have ah:=dD L;have az:=dD (T.trans R);have Z:=dD (b9.grew R);have bg:=dD (bu.grew R);have bx:=dD<|fun (i:Nat) y M (a8:i<a) (ab:b[i]? =Xa y) (bc:m[i]? =Xa M)=>(bw i y M a8 ab bc).grew R
  have b5:=dD<|bS R
  clear L R;have b7:Xo ((b.set a { x with ar:=⟨j,l,k⟩ })[a]? =Xa { x with ar:=⟨j,l,k⟩ }):=dD<|sF (by rw[H.out];exact f)
  go_wp2_with (refine z3 (E:=ZA) rfl (.tmp 28) (.tmp 26) 74 rfl w.heap.size _ _ Z g a 2 rfl { x with ar:=⟨j,l,k⟩ } ⟨x.live,⟨j,l,k⟩,al,am,an,ao,ap,aq,au,av⟩ b7.out [al.v,am.v,an.v,ao.v,ap.v,aq.v,au.v,av.v] ?s1 rfl ?s2 ?s3 ⟨g,a*10+2,Xb⟩ rfl rfl _ rfl rfl ?_)
  case s1=>kernel_rfl
  case s2=>show 2+8<=10;omega
  case s3=>
   intro br aa;simp only[mC,nM,or_false]at aa
   rcases aa with rfl|rfl|rfl|rfl|rfl|rfl|rfl|rfl <;> rfl
  intro c5 ad q ag;have b2:Xo (∃a0,I.heap[g]? =Xa (Xk a0 ZA.ty (0,0))):=Z.obj rfl;have b0:=dD<|zd az q U.out
  have ba:=dD ad;have ax:Xo (zb6 w.heap.size c5 (a+1) C (b.set a ⟨x.live,⟨j,l,k⟩,al,am,an,ao,ap,aq,au,av⟩) m (fun i=>if i<=a then B i else I.heap.size)):=show zb6 _ _ _ _ _ _ _ by
   obtain⟨a0,r⟩:=b2.out;have ch:zb6 w.heap.size I a C b m B:=⟨u.len,bx,u.rest,u.b0,u.mono,by have:=F.out;have:=W.out;have:=X.out;have:=b5.out;omega⟩
   refine ch.step q r ag G Y.out ?_;have ae:Jf (B a) I.heap.size I ⟨x.live,⟨j,l,k⟩,al,am,an,ao,ap,aq,au,av⟩ s:=⟨D.live,bg.base F,ah.base (by have:=F.out;have:=W.out;have:=X.out;omega),fun aj a1=>(bg.lt aj a1).2,fun i br aa aj a1=>by
    obtain⟨y,ab⟩:∃y,s.tb[i]? =Xa y:=⟨_,gE (by rw[ah.tlen,<-ah.len];exact(gS.1 aa).1)⟩
    exact((ah.row i br y aa ab).lt aj a1).2⟩
   exact ae.beside q r ZZ.1 ZZ.2
  clear ad q ag;go_wp2
  go_roundg (n -(a+1))
  case measure=>omega
  exact⟨a+1,_,_,by omega,by omega,by go_num,b0,ba,ax⟩
 have a9:=kD f
 have:a=n:=by omega
 subst this;have bz:Xo (Jl w.heap.size wr (O bt a aw) m):=dD<|by
  have bo:=u.out;rw[<-N.out]at bo;exact bo.all bk P.out
 go_wp2;go_ret;exact⟨_,rfl,bz,bh⟩
theorem zdL (v fs) (w:Xn) (h:qh w v fs):
  Xp prog 98 #[v] w fun e w'=>∃g,e= Xl g/\zi w.heap.size w' g fs/\zb w w':=by
 have j:=dD h;obtain⟨⟨d,f,rfl,b,c⟩,a⟩:=h;have h:∀(w:Xn) (d:Option Addr) (n f i h:Nat),(binOp .eql 30 (O d n f) (O Xb i h)).run prog w= .ok (Xh d.isNone) w:=fun w d n f i h=>Lib.run_eql_slice_nil w _ _ d n f i h underlying30
 cases d with
 | none=>
  have d:=b rfl;subst d;clear c b a
  go_enter func98,ntmps98
  go_wp2;go_ret;exact⟨_,rfl,zi.nil _ _,zb.refl w⟩
 | some x=>
  have d:=dD a;clear c b a
  go_enter func98,ntmps98
  go_wp2_with (at_builtin;refine zaP rfl (.tmp 5) (.tmp 6) rfl w.heap.size _ [] rfl (zi.made w) _ fs rfl (j.grew (za _ _)) ?qb (by simp) ?_)
  case qb=>rw[List.length_nil,zA];exact d.out
  intro g a b a;go_wp2;go_ret;exact⟨g,rfl,by simpa using b,((bR _ w).alloc (nR _) _).grown a (by simp) (by intro k a;simp[Value.ownBlock]at a;omega)⟩
theorem QF (a) (c:Nat) (fs:List Fr) (h:Int) (w:Xn) (i:qh w (O a fs.length c) fs):
  Xp prog 51 #[Xi #[O a fs.length c,I6 h]] w fun e w'=>∃b,e= Xl (Xi #[b,I6 h])/\zi w.heap.size w' b fs/\zb w w':=by
 have r:=dD i;clear i;obtain⟨n,d⟩:=kA fs.length;rw[d.out]at r⊢
 go_enter func51,ntmps51
 go_wp2;obtain⟨g,d⟩:=kB ((w.alloc (Xk #[O a n c,I6 h] 32)).alloc (Xk #[eS,I6 0] 32));have f:=gD2 d
 have l:Xo (g.heap.size=w.heap.size+2):=dD<|by rw[<-d];simp
 have j:=x2a d
 have s:=x2b d
 rw[d];clear d;have m:∀x:zg g,x.world.cell? ⟨w.heap.size,0,Xb⟩=Xa (O a n c):=fun x=>(j.grew x.grew).c 0 rfl
 have q:∀x:zg g,x.world.cell? ⟨w.heap.size,1,Xb⟩=Xa (I6 h):=fun x=>(j.grew x.grew).c 1 rfl
 have k:Nonempty (zg g):=⟨⟨_,zb.refl _⟩⟩;refine jO 6 [(2,⟨fun g=>∃a n c,g= O a n c,fun g w'=>zi (w.heap.size+2) w' g fs⟩)] zZ (by kernel_rfl) rfl rfl (by decide) ?_ ?_ ?_
 ·intro x d
  simp at d
  subst d;exact⟨_,Xb,0,0,rfl⟩
 ·intro x d
  simp at d
  subst d;intro g d d d h;exact h.grew d
 simp only[List.take,List.drop];iterate 2 refine zf ?_
 refine zC rfl rfl (fun w' d j=>?_) (fun g i=>?_)
 ·refine zR.call [O a n c] rfl func98 rfl rfl rfl ?_;refine(zdL _ fs w' (r.grew (f.out.trans d))).mono ?_;rintro e g ⟨g,rfl,n,g⟩;obtain⟨r,r,rfl⟩:=n.form;exact⟨_,rfl,g,⟨_,_,_,rfl⟩,n.base (by have:=bS d;rw[l.out]at this;exact this)⟩
 obtain⟨l,r,n,rfl⟩:=i;simp only[Xt,sB,sS,sZ];iterate 3 refine zf ?_
 refine zP fun w' d j=>?_
 have i:=dD<|j 2;have g:=s.grew d;have s:=g.c 0 rfl;have s:=g.c 1 rfl;have s:=g.f;have g:=dD (f.out.trans d);clear j m q d k;go_wp2;refine bodyPost_ret (v:= Xi #[O l r n,I6 h]) (by simp[results,Tryz.results51,go_sem, *]) rfl ⟨_,rfl,((i.out.setCell (by simp) _).setCell (by simp) _).base (by omega),?_⟩
 exact Below.setCell (Below.setCell g (p:=⟨w.heap.size+1,0,Xb⟩) (by simp) _) (p:=⟨w.heap.size+1,1,Xb⟩) (by simp) _
def isZ (z:Int):Bool:=z == 0
def zpx (fs:List Int):Int:=if fs.findIdx isZ<fs.length then(fs.findIdx isZ:Int)else -1
theorem zkN (v fs w) (s:zl slE w v fs):
  Xp prog 247 #[v,I6 0] w fun e w'=>e= Xl (I6 (zpx fs))/\zb w w':=by
 have g:=s.short;obtain⟨E,G,rfl,c⟩:=s.sls;have y:=dD c;clear c s;obtain⟨n,m⟩:=kA fs.length;rw[m.out]at g⊢
 go_enter func247,ntmps247
 go_wp2
 go_loopg [5,8] n (fun z _ D wr=>∃a:Nat,a<=n/\n - a<=z/\D=I6 a/\Xo (zb w wr)/\Xo (∀j q,j<a->fs[j]? =Xa q->isZ q=Xd))
 case atStart=>exact⟨0,nZ _,by omega,rfl,zb.refl w,fun j q h=>absurd h (nL _)⟩
 obtain⟨a,B,K,rfl,l,A⟩:=hrel
 by_cases b:a<n
 ·have i:=kC b
  obtain⟨q,r⟩:∃q,Xo (fs[a]? =Xa q):=⟨_,gE (by rw[m.out];exact b)⟩
  obtain⟨F,rfl,u⟩:=y.out a q r.out;have H:=u wr l.out;clear u
  by_cases f:q=0
  ·have p:Xo (zpx fs=(a:Int)):=dD<|by unfold zpx;rw[zo2 r (by simp[isZ,f]) A,m,kE b]
   have t:(q == 0)=Xc:=by simp[f]
   have k:((0:Int) == q)=Xc:=by simp[f]
   clear f;go_wp2;go_ret;exact⟨by rw[p.out];rfl,l⟩
  have x:Xo (∀(j:Nat) q,j<a+1->fs[j]? =Xa q->isZ q=Xd):=dD<|fun j C h d=>by
   by_cases e:j=a
   ·subst e;rw[r.out]at d;cases d
    simpa [isZ]using f
   exact A j C (by omega) d
  have t:(q == 0)=Xd:=by simp[f]
  have k:((0:Int) == q)=Xd:=by simp;omega
  clear f;go_wp2
  go_roundg (n -(a+1))
  case measure=>omega
  exact⟨a+1,by omega,by omega,by go_num,l,x⟩
 have i:=kD b
 have:a=n:=by omega
 subst this;have p:Xo (zpx fs=-1):=dD<|by
  unfold zpx;rw[zo1 (fun j q h=>A.out j q (by rw[<-m.out];exact(gS.1 h).1) h),kF (Nat.lt_irrefl _)]
 go_wp2;go_ret;exact⟨by rw[p.out];rfl,l⟩
theorem zb2 (v fs) (w:Xn) (h:zl slE w v fs):
  Xp prog 52 #[v] w fun e w'=>∃g,e= Xl g/\zc slE w.heap.size w' g fs/\zb w w':=by
 have j:=dD h;obtain⟨⟨d,f,rfl,b,c⟩,a⟩:=h;have h:∀(w:Xn) (d:Option Addr) (n f i h:Nat),(binOp .eql 34 (O d n f) (O Xb i h)).run prog w= .ok (Xh d.isNone) w:=fun w d n f i h=>Lib.run_eql_slice_nil w _ _ d n f i h underlying34
 cases d with
 | none=>
  have d:=b rfl;subst d;clear c b a
  go_enter func52,ntmps52
  go_wp2;go_ret;exact⟨_,rfl,zc.nil _ _ _,zb.refl w⟩
 | some x=>
  have d:=dD a;clear c b a
  go_enter func52,ntmps52
  go_wp2_with (at_builtin;refine zx (E:=slE) rfl (.tmp 5) (.tmp 6) rfl w.heap.size _ [] rfl (zc.made slE w) _ fs rfl (j.grew (za _ _)) ?qb (by simp) ?_)
  case qb=>rw[List.length_nil,zA];exact d.out
  intro g a b a;go_wp2;go_ret;exact⟨g,rfl,by simpa using b,((bR _ w).alloc (nR _) _).grown a (by simp) (by intro k a;simp[Value.ownBlock]at a;omega)⟩
section
variable(I:Xn->Prop) (P:Program) (ops:Array Oper) (S:Nat->Option (Xq->Prop)) (R:Nat->Bool)
def jd (i:Nat) (F:Xn->Prop) (a:Act) (K:(Xn->Prop)->Act->Prop):Prop:=
 match ops[i]? with
 | none=>False
 | some o=>
  if Xs o (yielded ops a.tmps)then
   match S i with
   | none=>∃v,(∀w,I w->(R i=Xc->F w)->(execOp a.eval o).run P w= .ok (.value v) w)/\K F (a.put o.dst v)
   | some s=>∃p:Xq->Xn->Prop,(∀w,I w->F w->zR P o a w fun v w'=>I w'/\s v/\p v w')/\∀v,s v->K (p v) (a.put o.dst v)
  else K F (a.put o.dst undef)
end
section
variable{I:Xn->Prop} {P:Program} {ops:Array Oper} {S:Nat->Option (Xq->Prop)} {R:Nat->Bool} {T:Nat}
theorem jd.mono {i:Nat} {F:Xn->Prop} {a:Act} {K d:(Xn->Prop)->Act->Prop}
  (h:∀c e,K c e->d c e) (b:jd I P ops S R i F a K):jd I P ops S R i F a d:=by
 unfold jd at*
 split
 ·rename_i c;simp only[c]at b
 rename_i d c
 simp only[c]at b
 split
 ·rename_i d
  simp only[d,if_true]at b
  split
  ·rename_i c
   simp only[c]at b;obtain⟨v,e,f⟩:=b;exact⟨v,e,h _ _ f⟩
  rename_i s c
  simp only[c]at b;obtain⟨p,c,b⟩:=b;exact⟨p,c,fun v c=>h _ _ (b v c)⟩
 rename_i d
 simp only[d]at b;exact h _ _ b
theorem jd.swap {i:Nat} {c:Oper} {F:Xn->Prop} {a:Act} {K:(Xn->Prop)->Act->Prop} {w:Xn}
  (hi:ops[i]? =Xa c) (t:ops[j]? =Xa oj) (f:c.apart ops oj=Xc)
  (g:∀cs b,c.op≠.select cs b) (k:∀cs b,oj.op≠.select cs b)
  (l:anc ops 9 i j=Xd) (m:anc ops 9 j i=Xd) (hS:∀s,S i=Xa s->∃v,s v) (n:S i≠Xb->(S j≠Xb\/R j=Xc)->anc ops 9 i j=Xc\/anc ops 9 j i=Xc) (x:R i=Xc->S j≠Xb->anc ops 9 i j=Xc\/anc ops 9 j i=Xc)
  (q:I w)
  (h:jd I P ops S R i F a fun d e=>jd I P ops S R j d e K):jd I P ops S R j F a fun d e=>jd I P ops S R i d e K:=by
 obtain⟨e,r,p⟩:=Oper.apart_spec f;have d:∀v,execOp (a.put oj.dst v).eval c=execOp a.eval c:=fun v=>execOp_put c g a oj.dst v p
 have f:∀v,execOp (a.put c.dst v).eval oj=execOp a.eval oj:=fun v=>execOp_put oj k a c.dst v e
 have y:∀v,Xs c (yielded ops (a.put oj.dst v).tmps)=Xs c (yielded ops a.tmps):=fun v=>wanted_put c a oj.dst v p
 have z:∀v,Xs oj (yielded ops (a.put c.dst v).tmps)=Xs oj (yielded ops a.tmps):=fun v=>wanted_put oj a c.dst v e
 have g:∀v w K,zR P c (a.put oj.dst v) w K=zR P c a w K:=fun v w K=>by unfold zR;rw[d]
 have k:∀v w K,zR P oj (a.put c.dst v) w K=zR P oj a w K:=fun v w K=>by unfold zR;rw[f]
 have p:∀v u,(a.put c.dst v).put oj.dst u=(a.put oj.dst u).put c.dst v:=fun v u=>Act.put_comm a v u r
 unfold jd at h⊢;simp only[hi,t,d,f,y,z,g,k,p]at h⊢
 cases d:Xs c (yielded ops a.tmps) <;> cases c:Xs oj (yielded ops a.tmps) <;>
  simp only[d,c,if_true,if_false,Bool.false_eq_true]at h⊢
 ·exact h
 ·cases c:S j with
  | none=>simp only[c]at h⊢;exact h
  | some s=>simp only[c]at h⊢;exact h
 ·cases d:S i with
  | none=>simp only[d]at h⊢;exact h
  | some s=>simp only[d]at h⊢;exact h
 cases d:S i with
 | none=>
  simp only[d]at h;obtain⟨r,k,h⟩:=h
  cases c:S j with
  | none=>
   simp only[c]at h⊢;obtain⟨p,g,h⟩:=h;exact⟨p,g,r,k,h⟩
  | some s=>
   simp only[c]at h⊢;obtain⟨y,u,z⟩:=h;have t:R i≠Xc:=fun f=>by
    rcases x f (by rw[c];simp)with e|e
    ·rw[l]at e;cases e
    rw[m]at e;cases e
   exact⟨y,u,fun p u=>⟨r,fun w x _=>k w x (fun f=>absurd f t),z p u⟩⟩
 | some k=>
  simp only[d]at h;obtain⟨y,t,h⟩:=h;obtain⟨z,u⟩:=hS k d
  cases c:S j with
  | none=>
   simp only[c]at h⊢;have k:R j≠Xc:=fun f=>by
    rcases n (by rw[d];simp) (.inr f)with e|e
    ·rw[l]at e;cases e
    rw[m]at e;cases e
   obtain⟨p,g,_⟩:=h z u;refine⟨p,fun w x _=>g w x (fun f=>absurd f k),y,t,fun r t=>?_⟩
   obtain⟨p,p,u⟩:=h r t;have h:=g w q (fun f=>absurd f k)
   have g:=p w q (fun f=>absurd f k)
   rw[h]at g;simp only[Result.ok.injEq,Next.value.injEq,and_true]at g;subst g;exact u
  | some f=>
   exfalso
   rcases n (by rw[d];simp) (.inl (by rw[c];simp))with e|e
   ·rw[l]at e;cases e
   rw[m]at e;cases e
theorem zrZ (hS:∀k s,S k=Xa s->∃v,s v) (b:∀i k,i<k->(S i≠Xb/\(S k≠Xb\/R k=Xc))\/(R i=Xc/\S k≠Xb)->anc ops 9 i k=Xc):
  Way P ops (jd I P ops S R) (fun _ _=>∃w,I w) (fun _ F _ w=>I w/\F w) where
 mono h:=jd.mono fun c d=>h c d fun _ _ h=>h
 swap hi hj hlt hap hsi hsj hij hji:=fun⟨_,d⟩=>jd.swap hi hj hap hsi hsj hij hji (hS _) (fun c e=> .inl (b _ _ hlt (.inl ⟨c,e⟩))) (fun c e=> .inl (b _ _ hlt (.inr ⟨c,e⟩))) d
 lean _ h:=⟨_,h.1⟩
 step {listed F a w j oj K N Q} hsz hoj h0 hc hok hcm hN:=by
  obtain⟨d,e⟩:=hok;simp only[jd,hoj]at hcm
  split
  ·rename_i b
   simp only[b,if_true]at hcm
   cases f:S j with
   | none=>
    simp only[f]at hcm;obtain⟨v,c,g⟩:=hcm;unfold Oper.wp;rw[c w d fun _=>e]
    exact hN F _ w ⟨d,e⟩ g
   | some s=>
    simp only[f]at hcm;obtain⟨p,c,g⟩:=hcm;exact(c w d e).wp fun v l ⟨f,h,c⟩=>hN (p v) _ l ⟨f,c⟩ (g v h)
  rename_i b
  simp only[b]at hcm;exact hN F _ w ⟨d,e⟩ hcm
variable{Q:Act->Xn->Prop}
variable(I P ops S R Q)in
abbrev zaq:List Oper->Nat->(Xn->Prop)->Act->Prop:=zhj ops (jd I P ops S R) fun F a=>∀w,I w->F w->Q a w
theorem JB {Q:Exit->Act->Xn->Prop} {a:Act} {w:Xn} {l r:List Oper} (T:Nat) (S:List (Nat ×(Xq->Prop))) (b:List Nat) (F:Xn->Prop) (f:I w.drew) (d:F w.drew) (n:P.follows .mixedOrders=Xc) (c:Q9 L.toArray T=Xc) (m:L.take T=l) (p:L.drop T=r) (j:T<=L.length)
  (hS:∀x∈S,∃v,x.2 v) (g:((S.map (·.1)++b).all fun i=>(S.map (·.1)++b).all fun k=>!decide (i<k) || anc L.toArray 9 i k || (b.contains i && b.contains k))=Xc) (e:(b.all fun i=>(S.lookup i).isNone)=Xc)
  (h:zaq I P L.toArray (fun k=>S.lookup k) (fun k=>b.contains k) (fun a w=>wpList P L.toArray Q r a w) l 0 F a):(Code.region id L.toArray Xc).wp P Q a w:=by
 refine zlR (zrZ ?_ ?_) T n c m p j (fun _=>⟨f,d⟩) (fun _ _ _ _ c h=>h _ c.1 c.2) h
 ·intro k s d;obtain⟨x,f,rfl,_⟩:=zab d;exact hS x f
 intro i k h m;have c:∀k,S.lookup k≠Xb->k∈S.map (·.1)++b/\b.contains k=Xd:=fun k d=>by
  obtain⟨s,j⟩:=Option.ne_none_iff_exists'.1 d;obtain⟨x,f,_,rfl⟩:=zab j;refine⟨List.mem_append.2 (.inl (List.mem_map.2 ⟨x,f,rfl⟩)),?_⟩
  cases f:b.contains x.1 with
  | false=>rfl
  | true=>
   have:=Xv.1 e x.1 (by simpa using f)
   rw[j]at this;cases this
 have f:∀k,b.contains k=Xc->k∈S.map (·.1)++b:=fun k d=>List.mem_append.2 (.inr (by simpa using d))
 have e:i∈S.map (·.1)++b->k∈S.map (·.1)++b->(b.contains i && b.contains k)=Xd->anc L.toArray 9 i k=Xc:=fun b d j=>by
  have:=Xv.1 (Xv.1 g i b) k d;rw[j]at this
  simpa [h]using this
 rcases m with⟨b,d|d⟩|⟨b,d⟩
 ·exact e (c i b).1 (c k d).1 (by rw[(c i b).2];rfl)
 ·exact e (c i b).1 (f k d) (by rw[(c i b).2];rfl)
 exact e (f i b) (c k d).1 (by rw[(c k d).2,Bool.and_false])
variable{o:Oper} {rest:List Oper} {k:Nat} {F:Xn->Prop} {a:Act}
theorem zgB (h:ops[k]? =Xa o->jd I P ops S R k F a (zaq I P ops S R Q rest (k+1))):zaq I P ops S R Q (o :: rest) k F a:=zhj.cons (fun h=>jd.mono h) h
theorem zbe (e:Xs o (yielded ops a.tmps)=Xc) (hS:S k=Xb) {v:Xq} (c:∀w,I w->(R k=Xc->F w)->(execOp a.eval o).run P w= .ok (.value v) w) (d:zaq I P ops S R Q rest (k+1) F (a.put o.dst v)):zaq I P ops S R Q (o :: rest) k F a:=zgB fun b=>by
 simp only[jd,b,e,if_true,hS];exact⟨v,c,d⟩
theorem zev (e:zoa o=Xc) (b:Xs o (yielded ops a.tmps)=Xc) (hS:S k=Xb)
  (h:∀K:Act->Prop,(∀a,zaq I P ops S R Q rest (k+1) F a->K a)->o.quiet P a (fun w'=>∃x:zk I,w'=x.world) K):zaq I P ops S R Q (o :: rest) k F a:=by
 obtain⟨v,c,d⟩:=za5 e (h _ fun _ h=>h)
 exact zbe b hS (fun w b _=>c w ⟨⟨w,b⟩,rfl⟩) d
theorem Zh{P Q:Prop}(k:Q)(h:Go.RowKit.Hid Q->P:=by intro h;refine zev rfl rfl rfl (fun K a=>?_);go_big_quiet_op;exact a _ h.out):P:=h k
theorem zgC (b:Xs o (yielded ops a.tmps)=Xc) (hS:S k=Xb) (f:R k=Xc) (v) (c:∀w,I w->F w->(execOp a.eval o).run P w= .ok (.value v) w) (d:zaq I P ops S R Q rest (k+1) F (a.put o.dst v)):zaq I P ops S R Q (o :: rest) k F a:=zbe b hS (fun w b e=>c w b (e f)) d
theorem zbf {s:Xq->Prop} (d:Xs o (yielded ops a.tmps)=Xc) (hS:S k=Xa s) (p:Xq->Xn->Prop)
  (h:∀w,I w->F w->zR P o a w fun v w'=>I w'/\s v/\p v w')
  (c:∀v,s v->zaq I P ops S R Q rest (k+1) (p v) (a.put o.dst v)):zaq I P ops S R Q (o :: rest) k F a:=zgB fun b=>by
 simp only[jd,b,d,if_true,hS];exact⟨p,h,c⟩
theorem zbg (x p) (b:o.op= .nilCheck x) (d:a.eval x= Xj (Xa p)) (c:Xs o (yielded ops a.tmps)=Xc) (hS:S k=Xb) (h:zaq I P ops S R Q rest (k+1) F (a.put o.dst (Xj (Xa p)))):zaq I P ops S R Q (o :: rest) k F a:=zbe c hS (fun _ _ _=>zi7 x p b d) h
theorem zfi (h:∀w,I w->F w->Q a w):zaq I P ops S R Q [] k F a:=⟨fun _=>h⟩
end
section
variable{I:Xn->Prop} {P:Program} {ops:Array Oper} {S:Nat->Option (Xq->Prop)} {Q:Act->Xn->Prop}
variable(I P ops S Q)in
structure zlw (l:List Oper) (k:Nat) (F:Nat->Xn->Prop) (a:Act):Prop where
 out:(∀i w w',zb w w'->F i w->F i w')->zaq I P ops S (fun _=>Xd) Q l k (fun w=>∀i,F i w) a
theorem zfX {Q:Exit->Act->Xn->Prop} {a:Act} {w:Xn} {l r:List Oper} (T:Nat) (S:List (Nat ×(Xq->Prop))) (d:I w.drew) (g:P.follows .mixedOrders=Xc) (c:Q9 L.toArray T=Xc) (f:L.take T=l) (j:L.drop T=r) (e:T<=L.length)
  (hS:∀x∈S,∃v,x.2 v) (b:((S.map (·.1)).all fun i=>(S.map (·.1)).all fun k=>!decide (i<k) || anc L.toArray 9 i k)=Xc)
  (h:zlw I P L.toArray (fun k=>S.lookup k) (fun a w=>wpList P L.toArray Q r a w) l 0 (fun _ _=>True) a):(Code.region id L.toArray Xc).wp P Q a w:=
 JB T S [] _ d (fun _=>trivial) g c f j e hS (by simpa using b) rfl (h.out fun _ _ _ _ h=>h)
variable{o:Oper} {rest:List Oper} {k:Nat} {F:Nat->Xn->Prop} {a:Act}
theorem zkH (f:zoa o=Xc) (b:Xs o (yielded ops a.tmps)=Xc) (hS:S k=Xb)
  (h:∀K:Act->Prop,(∀a,zlw I P ops S Q rest (k+1) F a->K a)->o.quiet P a (fun w'=>∃x:zk I,w'=x.world) K):zlw I P ops S Q (o :: rest) k F a:=⟨fun e=>by
 obtain⟨v,c,d⟩:=za5 f (h _ fun _ h=>h)
 exact zbe b hS (fun w b _=>c w ⟨⟨w,b⟩,rfl⟩) (d.out e)⟩
theorem jW{P Q:Prop}(k:Q)(h:Go.RowKit.Hid Q->P:=by intro h;refine zkH rfl rfl rfl (fun K a=>?_);go_big_quiet_op;exact a _ h.out):P:=h k
theorem Qb {s:Xq->Prop} (b:Xs o (yielded ops a.tmps)=Xc) (hS:S k=Xa s) (p:Xq->Xn->Prop) (hp:∀v w w',zb w w'->p v w->p v w')
  (h:∀w,I w->(∀m,anc ops 9 m k=Xc->F m w)->zR P o a w fun v w'=>I w'/\zb w w'/\s v/\p v w')
  (e:∀v,s v->zlw I P ops S Q rest (k+1) (zdu F k (p v)) (a.put o.dst v)):zlw I P ops S Q (o :: rest) k F a:=⟨fun c=>zbf b hS (fun v w=>∀i,zdu F k (p v) i w) (fun w d b=>(h w d fun m _=>b m).mono fun v w' ⟨d,f,g,h⟩=>⟨d,g,fun i=>by
 unfold zdu
 split
 ·exact h
 ·exact c i w w' f (b i)⟩) fun v b=>(e v b).out fun i w w' b=>by
 unfold zdu
 split
 ·exact hp v w w' b
 exact c i w w' b⟩
theorem zoM (h:∀w,I w->(∀i,F i w)->Q a w):zlw I P ops S Q [] k F a:=⟨fun _=>zfi h⟩
end
structure zdV (base:Nat) (w:Xn) (V:MaV) (m:Ma):Prop where
 fs:zc Qy base w (V.f.x) m.fs
 sl:zc slE base w (V.s.x) m.sl
 sb:zB base w (V.sb.x) m.sb
 sq:zy base w (V.sq.x) m.sq
 db:zB base w (V.db.x) m.db
 dq:zy base w (V.dq.x) m.dq
 fl:∃lo,z2 lo w (V.fl.x) m.fl/\base<=lo/\∀g,(V.s.x).ownBlock=Xa g->g<lo
 ca:zc Jw base w (V.ca.x) m.ca
 sp:Jl base w (V.sp.x) m.sp
 ap:∀g,(V.sb.x).ownBlock=Xa g->(V.db.x).ownBlock≠Xa g
theorem qp.now0 {w:Xn} {v:Xq} {fs:List Fl} (h:qp B0 B1 w v fs):qq w v fs:=by
 obtain⟨a,e,b,d,c⟩:=h;exact⟨a,e,b.now.s0,d,fun i x f b a=>⟨(c i x f b a).1,(c i x f b a).2.now.s0⟩⟩
theorem zdV.grew {base:Nat} {w:Xn} (h:zdV base w V m) (k:zb w w'):zdV base w' V m:=by
 obtain⟨d,c,a,b⟩:=h.fl;exact⟨h.fs.grew k,h.sl.grew k,h.sb.grew k,h.sq.grew k,h.db.grew k,h.dq.grew k,⟨d,c.grew k,a,b⟩,h.ca.grew k,h.sp.grew k,h.ap⟩
theorem zjf {base:Nat} {w:Xn} {v:Xq} {l:List (List Int)} (h:zB base w v l):∀g,v.ownBlock=Xa g->base<=g/\g<w.heap.size:=h.1.lt
theorem Z5 {w:Xn} {base a n:Nat} {e:TypeId} {v:Xq} (h:w.ownsRow base e a v n xs) (j:w.grownBy w' (Xa g)) (b:g<base):w'.ownsRow base e a v n xs:=by
 refine⟨h.1,?_⟩
 rcases h.2 with f|⟨c,a,b,rfl,h,d,i⟩
 ·exact .inl f
 exact .inr ⟨c,a,b,rfl,h,by rw[j.block c (aS.1 d).1 (fun e=>by cases e;omega)];exact d,i⟩
theorem zc.low {α:Type} {E:Elt α} {base:Nat} {w:Xn} {v:Xq} {l:List α} (h:zc E base w v l) (b:w.grownBy w' (Xa g)) (a:g<base):zc E base w' v l:=⟨Z5 h.1 b a,h.2⟩
theorem Jf.low {b:Nat} {w:Xn} {x:SpV} {s:Sp} (h:Jf b hi w x s) (c:w.grownBy w' (Xa g)) (a:g<b):Jf b hi w' x s:=
 ⟨h.live,h.ar.low c a,⟨h.tb.len,h.tb.tlen,fun i v y b d=>(h.tb.row i v y b d).low c a,h.tb.two⟩,h.arh,h.tbh⟩
theorem zdV.below {base:Nat} {w:Xn} (h:zdV base w V m) (b:w.grownBy w' (Xa g)) (a:g<base) (hb:base'<=base):zdV base' w' V m:=by
 obtain⟨f,⟨i,c,e,d,k⟩,j,l⟩:=h.fl;obtain⟨r,B,n,p,j,j,q⟩:=h.sp;refine⟨(h.fs.low b a).base hb,(h.sl.low b a).base hb,⟨q6 (Z5 h.sb.1 b a) hb,h.sb.2⟩,⟨q6 (Z5 h.sq.1 b a) hb,h.sq.2⟩,⟨q6 (Z5 h.db.1 b a) hb,h.db.2⟩,⟨q6 (Z5 h.dq.1 b a) hb,h.dq.2⟩,⟨f,⟨i,c.low b (by omega),e,fun i x f c e=>⟨(d i x f c e).1,(d i x f c e).2.low b (by omega)⟩,k⟩,by omega,l⟩,(h.ca.low b a).base hb,⟨r,B,(n.low b a).base hb,p,by omega,j,fun i x s c a=>(q i x s c a).low b ?_⟩,h.ap⟩
 have:=zdg j (nZ i);omega
theorem zfb (V m) (w:Xn) (b:zE w V m):
  Xp prog 23 #[Xi (mL V m).toArray] w fun e w'=>∃V':MaV,e= Xl (Xi (mL V' m).toArray)/\zdV w.heap.size w' V' m/\zb w w':=by
 obtain⟨c,C,-⟩:=b.ns;have a:=dD b;have i:Xo (∀W,zb w W->Xp prog 51 #[Xi #[V.f.x,I6 m.hand]] W fun e w'=>∃f,e= Xl (Xi #[f,I6 m.hand])/\zc Qy W.heap.size w' f m.fs/\zb W w'):=show∀W,_ from fun W a=>by
  have k:=(b.grew a).fs;(try simp only[Sli.x]at k⊢);rw[c]at k⊢;exact QF _ _ m.fs m.hand W k
 have y:=dD<|fun W (a:zb w W)=>zb2 _ m.sl W (b.grew a).sl
 have D:=dD<|fun W (a:zb w W)=>zdb _ m.sb m.sq W ⟨_,_,rfl,(b.grew a).sb,(b.grew a).sq⟩
 have T:=dD<|fun W (a:zb w W)=>zdb _ m.db m.dq W ⟨_,_,rfl,(b.grew a).db,(b.grew a).dq⟩
 have X:=dD<|fun W (a:zb w W)=>za8 _ m.fl m.cnt W (b.grew a).fl
 have Y:=dD<|fun W (a:zb w W)=>ziJ _ m.ca W (b.grew a).ca
 have Z:=dD<|fun W (a:zb w W)=>zfa _ m.sp W (b.grew a).sp
 clear b c C;obtain⟨g,a⟩:=kB ((w.alloc (Xk (mL V m).toArray 45)).alloc (Xk zM.toArray 45));have h:=gD2 a
 have b:=x2a a
 have ad:=x2b a
 have d:Xo (g.heap.size=(w.heap.size+1+1)):=dD<|by rw[<-a];simp
 have c:=dD a;clear a
 go_enter func23,ntmps23
 go_upto_region 1 with fail;rw[c.out];obtain⟨a,j⟩:∃a:Xn->Prop,a=fun u=>zb g u:=⟨_,rfl⟩
 have c:Xo (∀u,a u↔zb g u):=dD<|fun u=>by rw[j]
 clear j;have B:=(c _).2 (gW _)
 have a1:=b.h c 0 rfl
 have a4:=b.h c 1 rfl
 have a5:=b.h c 2 rfl
 have a6:=b.h c 3 rfl
 have a7:=b.h c 4 rfl
 have a8:=b.h c 5 rfl
 have a9:=b.h c 6 rfl
 have aa:=b.h c 7 rfl
 have ab:=b.h c 8 rfl
 have ac:=b.h c 9 rfl
 have P:=b.h c 10 rfl
 have a0:Nonempty (zk a):=⟨⟨_,B⟩⟩;have r:Xo (∀u,a u->(w.heap.size+1+1)<=u.heap.size):=dD<|fun u n=>by rw[<-d.out];exact bS ((c _).1 n)
 refine zfX (I:=a) 22 [(2,fun v=>∃s:Sli,v= Xi #[s.x,I6 m.hand]),(5,fun v=>∃s:Sli,v=s.x),(8,fun v=>∃f q:Sli,v= Xi #[f.x,q.x]),(11,fun v=>∃f q:Sli,v= Xi #[f.x,q.x]),(14,fun v=>∃s:Sli,v= Xi #[s.x,I6 m.cnt]),(17,fun v=>∃s:Sli,v=s.x),(20,fun v=>∃s:Sli,v=s.x)] B zZ (by kernel_rfl) rfl rfl (by decide) ?hS (by kernel_rfl) ?_
 case hS=>
  intro x a;simp only[mC,nM,or_false]at a
  rcases a with rfl|rfl|rfl|rfl|rfl|rfl|rfl
  ·exact⟨_,je,rfl⟩
  ·exact⟨_,je,rfl⟩
  ·exact⟨_,je,je,rfl⟩
  ·exact⟨_,je,je,rfl⟩
  ·exact⟨_,je,rfl⟩
  ·exact⟨_,je,rfl⟩
  exact⟨_,je,rfl⟩
 simp only[List.take,List.drop];iterate 2 refine jW ?_
 refine Qb rfl rfl (fun v w'=>∃s:Sli,v= Xi #[s.x,I6 m.hand]/\zc Qy (w.heap.size+1+1) w' (s.x) m.fs) (fun v u H n k=>by obtain⟨s,x,z⟩:=k;exact⟨s,x,z.grew n⟩) (fun w' a l=>?_) (fun K p=>?_)
 ·have g:=h.trans ((c _).1 a);have d:=r.out w' a;refine zR.call [Xi #[V.f.x,I6 m.hand]] rfl func51 rfl rfl rfl ?_;refine(i w' g).mono ?_;rintro e t ⟨f,rfl,A,b⟩;obtain⟨i,j,rfl⟩:=A.form;exact⟨_,rfl,(c _).2 (((c _).1 a).trans b),b,⟨⟨i,_,j⟩,rfl⟩,⟨i,_,j⟩,rfl,A.base d⟩
 obtain⟨U,rfl⟩:=p;simp only[Xt,sB,sS,sZ];iterate 2 refine jW ?_
 refine Qb rfl rfl (fun v w'=>zc slE (w.heap.size+1+1) w' v m.sl) (fun v u H n k=>zc.grew k n) (fun w' a l=>?_) (fun K p=>?_)
 ·have g:=h.trans ((c _).1 a);have d:=r.out w' a;refine zR.call [V.s.x] rfl func52 rfl rfl rfl ?_;refine(y w' g).mono ?_;rintro e t ⟨f,rfl,A,b⟩;obtain⟨i,j,rfl⟩:=A.form;exact⟨_,rfl,(c _).2 (((c _).1 a).trans b),b,⟨⟨i,_,j⟩,rfl⟩,A.base d⟩
 obtain⟨G,rfl⟩:=p;simp only[Xt,sB,sS,sZ];iterate 2 refine jW ?_
 refine Qb rfl rfl (fun v w'=>∃f q:Sli,v= Xi #[f.x,q.x]/\zB (w.heap.size+1+1) w' (f.x) m.sb/\zy (w.heap.size+1+1) w' (q.x) m.sq) (fun v u H n k=>by obtain⟨f,q,x,z,N⟩:=k;exact⟨f,q,x,z.grew n,N.grew n⟩) (fun w' a l=>?_) (fun K p=>?_)
 ·have g:=h.trans ((c _).1 a);have d:=r.out w' a;refine zR.call [Xi #[V.sb.x,V.sq.x]] rfl func53 rfl rfl rfl ?_;refine(D w' g).mono ?_;rintro e t ⟨D,rfl,⟨f,q,rfl,E,R⟩,b⟩;obtain⟨i,C,j,rfl⟩:=E.slice;obtain⟨L,Q,M,rfl⟩:=R.slice;exact⟨_,rfl,(c _).2 (((c _).1 a).trans b),b,⟨⟨i,C,j⟩,⟨L,Q,M⟩,rfl⟩,⟨i,C,j⟩,⟨L,Q,M⟩,rfl,E.base d,R.base d⟩
 obtain⟨F,S,rfl⟩:=p;simp only[Xt,sB,sS,sZ];iterate 2 refine jW ?_
 refine Qb rfl rfl (fun v w'=>∃f q:Sli,v= Xi #[f.x,q.x]/\zB (w.heap.size+1+1) w' (f.x) m.db/\zy (w.heap.size+1+1) w' (q.x) m.dq/\∀y,(F.x).ownBlock=Xa y->(f.x).ownBlock≠Xa y) (fun v u H n k=>by obtain⟨f,q,x,z,N,W⟩:=k;exact⟨f,q,x,z.grew n,N.grew n,W⟩) (fun w' a l=>?_) (fun K p=>?_)
 ·have g:=h.trans ((c _).1 a);have d:=r.out w' a;refine zR.call [Xi #[V.db.x,V.dq.x]] rfl func53 rfl rfl rfl ?_;refine(T w' g).mono ?_;rintro e t ⟨D,rfl,⟨f,q,rfl,E,R⟩,b⟩;obtain⟨i,C,j,rfl⟩:=E.slice;obtain⟨L,Q,M,rfl⟩:=R.slice;obtain⟨ae,af,D,T,_⟩:∃f q:Sli,(Value.agg #[F.x,S.x])= Xi #[f.x,q.x]/\zB (w.heap.size+1+1) w' (f.x) m.sb/\zy (w.heap.size+1+1) w' (q.x) m.sq:=l 8 (by kernel_rfl)
  refine⟨_,rfl,(c _).2 (((c _).1 a).trans b),b,⟨⟨i,C,j⟩,⟨L,Q,M⟩,rfl⟩,⟨i,C,j⟩,⟨L,Q,M⟩,rfl,E.base d,R.base d,fun y x z=>?_⟩
  simp only[Value.agg.injEq,Array.mk.injEq,List.cons.injEq]at D;rw[D.1]at x;have q:=(zjf T y x).2;have q:=(zjf E y z).1;omega
 obtain⟨C,E,rfl⟩:=p;simp only[Xt,sB,sS,sZ];iterate 2 refine jW ?_
 refine Qb rfl rfl (fun v w'=>∃s:Sli,v= Xi #[s.x,I6 m.cnt]/\∃q,z2 q w' (s.x) m.fl/\(w.heap.size+1+1)<=q/\∀y,(G.x).ownBlock=Xa y->y<q) (fun v u H n k=>by obtain⟨s,x,q,z,N,W⟩:=k;exact⟨s,x,q,z.grew n,N,W⟩) (fun w' a l=>?_) (fun K p=>?_)
 ·have g:=h.trans ((c _).1 a);have d:=r.out w' a;refine zR.call [Xi #[V.fl.x,I6 m.cnt]] rfl func54 rfl rfl rfl ?_;refine(X w' g).mono ?_;rintro e t ⟨f,rfl,L,b,_⟩;have s:=L;obtain⟨M,z,_⟩:=L;obtain⟨i,j,rfl⟩:=z.form;have L:zc slE (w.heap.size+1+1) w' (G.x) m.sl:=l 5 (by kernel_rfl)
  exact⟨_,rfl,(c _).2 (((c _).1 a).trans b),b,⟨⟨i,_,j⟩,rfl⟩,⟨i,_,j⟩,rfl,w'.heap.size+2,s,by omega,fun y x=>by have:=(L.lt y x).2;omega⟩
 obtain⟨x,rfl⟩:=p;simp only[Xt,sB,sS,sZ];iterate 2 refine jW ?_
 refine Qb rfl rfl (fun v w'=>zc Jw (w.heap.size+1+1) w' v m.ca) (fun v u H n k=>zc.grew k n) (fun w' a l=>?_) (fun K p=>?_)
 ·have g:=h.trans ((c _).1 a);have d:=r.out w' a;refine zR.call [V.ca.x] rfl func55 rfl rfl rfl ?_;refine(Y w' g).mono ?_;rintro e t ⟨f,rfl,A,b⟩;obtain⟨i,j,rfl⟩:=A.form;exact⟨_,rfl,(c _).2 (((c _).1 a).trans b),b,⟨⟨i,_,j⟩,rfl⟩,A.base d⟩
 obtain⟨s,rfl⟩:=p;simp only[Xt,sB,sS,sZ];iterate 2 refine jW ?_
 refine Qb rfl rfl (fun v w'=>Jl (w.heap.size+1+1) w' v m.sp) (fun v u H n k=>Jl.grew k n) (fun w' a l=>?_) (fun K p=>?_)
 ·have g:=h.trans ((c _).1 a);have d:=r.out w' a;refine zR.call [V.sp.x] rfl func56 rfl rfl rfl ?_;refine(Z w' g).mono ?_;rintro e t ⟨f,rfl,g,b⟩;have f:=g;obtain⟨M,k,z,_⟩:=g;obtain⟨i,j,rfl⟩:=z.form;exact⟨_,rfl,(c _).2 (((c _).1 a).trans b),b,⟨⟨i,_,j⟩,rfl⟩,f.base d⟩
 obtain⟨k,rfl⟩:=p;simp only[Xt,sB,sS,sZ];refine jW ?_
 refine zoM fun g f l=>?_
 have b:=(c _).1 f;have a:=l 2;have L:=l 5;have c:=l 8;have d:=l 11;have n:=l 14;have r:=l 17;have t:=l 20;have u:Xo (zdV (w.heap.size+1+1) g ⟨U,G,F,S,C,E,x,s,k⟩ m):=dD<|by
  obtain⟨g,A,H⟩:=a;obtain⟨ae,af,D,T,K⟩:=c;obtain⟨a,a,a,g,j,c⟩:=d;obtain⟨d,d,q,i,z,y⟩:=n;simp only[Value.agg.injEq,Array.mk.injEq,List.cons.injEq]at A D a d;rw[<-A.1]at H;rw[<-D.1]at T;rw[<-D.2.1]at K;rw[<-a.1]at g c;rw[<-a.2.1]at j;rw[<-d.1]at i;exact⟨H,L,T,K,g,j,⟨q,i,z,y⟩,r,t,c⟩
 have a:=dD (ad.grew b);have c:=dD (h.trans b);clear l f b a1 a4 a5 a6 a7 a8 a9 aa ab ac P a0 B
 go_wp2_with (refine zz rfl 45 (.tmp 2) (.tmp 24) rfl (w.heap.size+1) rfl [U.x,I6 m.hand,G.x,F.x,S.x,C.x,E.x,x.x,I6 m.cnt,s.x,k.x] rfl a rfl (by kernel_rfl) (fun v p=>by
    simp only[mC,nM,or_false]at p
    rcases p with rfl|rfl|rfl|rfl|rfl|rfl|rfl|rfl|rfl|rfl|rfl <;> rfl) ?_)
 intro f d a b;have b:Xo (zb w f):=dD<|zd c a (by omega)
 have c:Xo (zdV w.heap.size f ⟨U,G,F,S,C,E,x,s,k⟩ m):=dD<|u.below a (by omega) (by omega)
 go_wp2;refine bodyPost_ret (zG rfl _ rfl d underlying45 rfl (by kernel_rfl)) rfl ⟨⟨U,G,F,S,C,E,x,s,k⟩,rfl,c,b⟩
def zU:List Xq:=zM
theorem zsl:(Tryz.prog.info? 5).map (fun i=>(i.zero,i.size,i.bytes))=Xa (Xa (U8 0),1,1):=by kernel_rfl
def byE:Elt Int where
 enc:=fun z=>[U8 z]
 k:=1
 ty:=5
 st:=23
 bytes:=1
 zv:=U8 0
 zero:=0
 len:=fun _=>rfl
 one:=fun a u hu=>by
  simp only[mC,nM,or_false]at hu;rw[hu];rfl
 und:=underlying23
 info:=zsl
 zok:=rfl
 few:=by decide
 pos:=by decide
def frH (q:Fr) (n:Int):Fr:=if q.r+n=0 then frF else{ q with r:=q.r+n }
def jQ (fs:List Fr) (h k n:Int):Int:=if Zb fs h=0 then(if inB k fs.length && !((fs.getD k.toNat fr0).r == 0)then(if -(fs.getD k.toNat fr0).r<=n/\n<=1000 -(fs.getD k.toNat fr0).r then 0 else 3)else 5)else Zb fs h
def QI (fs:List Fr) (h k n:Int):List Fr:=if jQ fs h k n=0 then fs.set k.toNat (frH (fs.getD k.toNat fr0) n)else []
def zmR (fs:List Fr) (h k n:Int):Int:=if jQ fs h k n=0 then h else 0
theorem zjv:∀{fs:List Fr},zfS fs=0->∀q∈fs,frW q=0
 | [],_,_,c=>by cases c
 | a :: l,h,q,c=>by
  unfold zfS at h
  by_cases b:frW a=0
  ·rw[kE b]at h
   rcases mC.1 c with rfl|c
   ·exact b
   exact zjv h q c
  rw[kF b]at h;exact absurd h b
theorem ji {fs:List Fr} {h:Int} (a:Zb fs h=0):fs.length<=40/\(∀q∈fs,frW q=0)/\0<=h/\h<max (fs.length:Int) 1:=by
 unfold Zb at a
 by_cases b:40<fs.length
 ·rw[kE b]at a;omega
 rw[kF b]at a
 by_cases b:zfS fs=0
 ·rw[kE b]at a
  cases c:inB h (max fs.length 1)with
  | false=>rw[c]at a;simp at a
  | true=>
   unfold inB at c
   simp at c
   exact⟨by omega,zjv b,by omega,by omega⟩
 rw[kF b]at a;exact absurd a b
theorem zbp {q:Fr} (h:frW q=0):0<=q.r/\q.r<=1000:=by
 unfold frW at h
 by_cases a:(inB q.r 1001 && inB q.x 12)=Xd
 ·rw[kE a]at h;omega
 have b:inB q.r 1001=Xc:=by
  cases c:inB q.r 1001 with
  | true=>rfl
  | false=>rw[c]at a;simp at a
 unfold inB at b
 simp at b
 omega
theorem zi.frc {base:Nat} {w:Xn} {n c:Nat} {fs:List Fr} (h:zi base w (O (Xa ⟨g,0,Xb⟩) n c) fs) {i:Nat} {q:Fr} (e:fs[i]? =Xa q) (j:Nat) {u:Xq} (k:(frv q)[j]? =Xa u):w.cell? ⟨g,i*13+j,Xb⟩=Xa u:=by
 obtain⟨a,a,d,f⟩:=h.at.rows;obtain⟨a,a,b⟩:=f i q e;cases d;cases a;have:=b w (zb.refl _) j u k;rw[jb,Addr.add_lit,zA]at this;exact this
def jV (s:List Int) (n:Int):Int:=if slW s=0 then(if 1<=n/\n<=1000 then(if s.findIdx isZ<s.length then 0 else 10)else 3)else slW s
def Qn (s:List Int) (n:Int):List Int:=if jV s n=0 then s.set (s.findIdx isZ) n else []
def zb9 (s:List Int) (n:Int):Int:=if jV s n=0 then(s.findIdx isZ:Int)else 0
theorem ze0 {s:List Int} {n:Int} (h:jV s n=z) (a:z≠0):Qn s n=[]/\zb9 s n=0:=by
 have:jV s n≠0:=by rw[h];exact a
 exact⟨kF this,kF this⟩
theorem zcY (s:List Int) (m:Int):
  (slW s≠0/\jV s m=slW s/\Qn s m=[]/\zb9 s m=0)\/(slW s=0/\¬(1<=m/\m<=1000)/\jV s m=3/\Qn s m=[]/\zb9 s m=0)\/
  (slW s=0/\(1<=m/\m<=1000)/\¬s.findIdx isZ<s.length/\jV s m=10/\Qn s m=[]/\zb9 s m=0)\/
  (slW s=0/\(1<=m/\m<=1000)/\s.findIdx isZ<s.length/\jV s m=0/\Qn s m=s.set (s.findIdx isZ) m/\zb9 s m=(s.findIdx isZ:Int)):=by
 by_cases a:slW s=0
 ·by_cases b:1<=m/\m<=1000
  ·by_cases c:s.findIdx isZ<s.length
   ·have h:jV s m=0:=by unfold jV;rw[kE a,kE b,kE c]
    exact .inr (.inr (.inr ⟨a,b,c,h,kE h,kE h⟩))
   have h:jV s m=10:=by unfold jV;rw[kE a,kE b,kF c]
   exact .inr (.inr (.inl ⟨a,b,c,h,ze0 h (by decide)⟩))
  have h:jV s m=3:=by unfold jV;rw[kE a,kF b]
  exact .inr (.inl ⟨a,b,h,ze0 h (by decide)⟩)
 have h:jV s m=slW s:=by unfold jV;rw[kF a]
 exact .inl ⟨a,h,ze0 h a⟩
theorem zl6 (a) (c:Nat) (s:List Int) (m:Int) (w:Xn) (d:zl slE w (O a s.length c) s):
  Xp prog 240 #[O a s.length c,I6 m] w fun e w'=>∃b f,e= Xl (Xm #[.slice b (Qn s m).length f,I6 (zb9 s m),I6 (jV s m)])/\qj slE w.heap.size w' (.slice b (Qn s m).length f) (Qn s m)/\zb w w':=by
 have b:=zbF a c s w d;have l:∀W,zb w W->Xp prog 247 #[O a s.length c,I6 0] W fun e w'=>e= Xl (I6 (zpx s))/\zb W w':=fun W f=>zkN _ s W (d.grew f)
 have q:∀W,zb w W->Xp prog 52 #[O a s.length c] W fun e w'=>∃A,e= Xl A/\zc slE W.heap.size w' A s/\zb W w':=fun W f=>zb2 _ s W (d.grew f)
 have f:=d.short;obtain⟨C,n⟩:=kA s.length;clear d
 rcases zcY s m with⟨g,i,j,k⟩|⟨g,r,i,j,k⟩|⟨g,r,p,i,j,k⟩|⟨g,r,p,i,j,k⟩
 ·rw[i,j,k];clear i j k l q
  generalize slW s=t at b g⊢
  have d:(t != 0)=Xc:=by simpa using g
  rw[n.out]at b f⊢
  go_enter func240,ntmps240
  go_wp2_with fail;refine b.mono ?_;rintro e z ⟨rfl,d⟩;have h:=dD d;clear d b g;go_wp2;refine bodyPost_ret (v:= Xm #[eS,I6 0,I6 t]) (by simp[results,Tryz.results240,go_sem, *]) rfl ⟨Xb,0,rfl,qj.nil _ _ _,h⟩
 ·rw[g]at b;rw[i,j,k];clear i j k l q g;rw[n.out]at b f⊢
  by_cases x:m<1
  ·go_enter func240,ntmps240
   go_wp2_with fail;refine b.mono ?_;rintro e z ⟨rfl,d⟩;have h:=dD d;clear d b r;go_wp2;refine bodyPost_ret (v:= Xm #[eS,I6 0,I6 3]) (by simp[results,Tryz.results240,go_sem, *]) rfl ⟨Xb,0,rfl,qj.nil _ _ _,h⟩
  have y:1000<m:=by omega
  go_enter func240,ntmps240
  go_wp2_with fail;refine b.mono ?_;rintro e z ⟨rfl,d⟩;have h:=dD d;clear d b r;go_wp2;refine bodyPost_ret (v:= Xm #[eS,I6 0,I6 3]) (by simp[results,Tryz.results240,go_sem, *]) rfl ⟨Xb,0,rfl,qj.nil _ _ _,h⟩
 ·rw[g]at b;rw[show zpx s=-1 from kF p]at l
  rw[i,j,k];clear i j k q g p;rw[n.out]at b l f⊢;have x:¬m<1:=by omega
  have y:¬1000<m:=by omega
  clear r
  go_enter func240,ntmps240
  go_wp2_with fail;refine b.mono ?_;rintro e z ⟨rfl,d⟩;have h:=dD d;clear d b;go_wp2_with fail;refine(l _ h).mono ?_;rintro e B ⟨rfl,u⟩;have t:=dD (h.trans u);clear u l;go_wp2;refine bodyPost_ret (v:= Xm #[eS,I6 0,I6 10]) (by simp[results,Tryz.results240,go_sem, *]) rfl ⟨Xb,0,rfl,qj.nil _ _ _,t⟩
 rw[g]at b;rw[show zpx s=(s.findIdx isZ:Int)from kE p]at l
 rw[i,j,k,List.length_set];clear i j k g;obtain⟨i,g⟩:=kA (s.findIdx isZ);rw[g.out]at p l⊢;rw[n.out]at b l q p f⊢;have x:¬m<1:=by omega
 have y:¬1000<m:=by omega
 have f:(i:Int)< (C:Int):=by omega
 clear r
 go_enter func240,ntmps240
 go_wp2_with fail;refine b.mono ?_;rintro e z ⟨rfl,d⟩;have h:=dD d;clear d b;go_wp2_with fail;refine(l _ h).mono ?_;rintro e B ⟨rfl,u⟩;have t:=dD (h.trans u);clear u l;go_wp2_with fail;refine(q _ t).mono ?_;rintro e b ⟨A,rfl,b,d⟩;obtain⟨g,l,rfl⟩:=b.formS (by rw[n.out];omega)
 rw[n.out]at b⊢;have f:=dD b;have j:=dD d;clear d q b
 go_wp2_with (refine qn (E:=slE) rfl (.tmp 30) (.tmp 29) rfl B.heap.size _ s f g i rfl m (by rw[n.out];exact p) _ rfl (by simp[slE]) _ rfl rfl ?_)
 intro b d b _;have h:=(f.lt g rfl).1;have f:=dD d;have k:=dD<|zd j b h;clear d b;go_wp2;refine bodyPost_ret (v:= Xm #[O (Xa ⟨g,0,Xb⟩) C l,I6 (i:Int),I6 0]) (by simp[results,Tryz.results240,go_sem, *]) rfl ⟨_,_,rfl,f.new.base (bS t),t.trans k⟩
end
end Go.Proofs.YtmfckdkcmbncdaaGreat
