import Derived.Test.YtkfjajbalegoeaaGreatFP0
import Derived.RangeFuncNested
import Derived.RangeFuncBound
import Derived.RangeFuncCalls
import Derived.RangeFuncLeaves
import Derived.Shelf.RegionOpen
import Derived.OwnWalkIn
import Derived.TacticsInMore
import Derived.LoopNIn
import Derived.LoopIn
namespace Go.Proofs.YtkfjajbalegoeaaGreat
open Go.Value renaming slice→O,int→Xe,bool→Xh,agg→Xi,pointer→Xj,tuple→Xm
open Go.IntKind renaming i64→Xf,u8→Xg
open Go.Obj renaming cells→Xk
open Go.Ending renaming returned→Xl
open Go renaming World→Xn,Calls→Xp,Value→Xq
open Go.RowKit renaming Hid→Xo
open Option renaming some→Xa,none→Xb
open Bool renaming true→Xc,false→Xd
open List renaming replicate→Xr
open Go.Region renaming wanted→Xs
open Go.Sem renaming run_pure→Xt,run_bind→Xu
open _root_.List renaming ext_getElem?→Xv,length_cons→Xw,length_take→Xx,length_set→Xy,length_nil→Xz,nil_append→Ya,drop_of_length_le→Yb,any_eq_true→Yd,cons_append→Ye,getElem?_of_mem→Yf,mem_append→Yg,find?_eq_none→Yi,size_toArray→Yj,eq_of_mem_replicate→Yk,all_eq_true→Yl,map_toArray→Ym,length_drop→Yn,mem_map→Yo,map_nil→Yp,length_singleton→Yr,take_append_drop→Ys,take→Yw,drop→Yx,append_toArray→Yy,reverse_append→Yz,flatMap_append→Oa,append_assoc→Od,find?_append→Oe,push_toArray→Of,reverse_cons→Og
open Go.Addr renaming add_lit→Yc
open _root_.Nat renaming lt_of_lt_of_le→Yh,min_eq_left→Yq,mul_le_mul_right→Yv,mod_lt→Oc
open _root_.Array renaming replicate_succ→Yt,replicate_zero→Yu
open _root_.Bool renaming false_eq_true→Ob
set_option maxRecDepth 100000
set_option maxHeartbeats 4000000
variable{α:Type}{a:Act}{H:Ar}{U:Array Xq}{E:Elt α}{Z:En}{Y:Fr}{z:Int}{S:Int×Int}{g:List (Int×List Int)}{G:List (List En)}{r:List (List Int)}{C:List En}{M:List Fl}{R:List Fr}{L:List Int}{K:List Oper}{D:List Xq}{y:List α}{b k p:Nat}{s:Sp}{w:Xn}{A:Xq}
variable{B B0 B1 b base' hi id j:Nat}{L:List Int}{Q:Exit->Act->Xn->Prop}{T:List (Nat->En)}{V:MaV}{W w' w0 w1:Xn}{l:List Ar}{m m':Ma}{o oj:Oper}{ops:Array Oper}{t:TypeId}{us vs xs:List Xq}{vl vt:Sli}{z:Int}
open Go.Proofs.Tryz
section
open Go.RowKit
theorem zpW(m:Ma)(c:Ca):caE m Xb c=if zpo m.fl c.file c.idx=Xd\/bel c.fr m.fs.length=Xd then 3 else if(z1 m c.fr).r=0\/(z1 m c.fr).f≠c.file\/(z1 m c.fr).x≠c.idx then 7 else 0:=by grind[caE,zpo,bel,Int.lt_or_le,zoo,bkN,Bool.and_eq_false_iff]
theorem zdL(V m)(c:Ca)(w)(G:zK w V m):
  Xp prog 131 #[Xi (mL V m).toArray,Xi #[I6 c.file,I6 c.idx,I6 c.fr]] w fun e w'=>e=Xl (I6 (caE m Xb c))/\zc w w':=by
 obtain⟨Y,-⟩:=G.ns;rw[zpW,<-Y];have L:=dD<|fun W(aw:zc w W)=>zbF _ m.fl m.cnt c.file c.idx W (G.aA aw).fl;have f:=dD<|fun W=>zba c.fr V.f.n W;have aa:=dD Y.symm;have ac:=dD G.bC;clear G Y;obtain⟨a2,d⟩:=kB ((w.alloc (Xk (mL V m).toArray 41)).alloc (Xk #[I6 c.file,I6 c.idx,I6 c.fr] 108));have g:=gD2 d;have E:=x2a d;have v:=x2b d;have M:Xo (a2.heap.size=w.heap.size+1+1):=dD<|by rw[<-d];simp
 have n:=dD d;clear d;have b:=L.out a2 g.out;have I:=E.c 7 rfl;have a0:=E.c 8 rfl;obtain⟨C,D⟩:=v.k2;cases a8:zpo m.fl c.file c.idx with
 |false=>
  rw[a8]at b;rw[kE (.inl rfl)];go_enter func131,ntmps131;go_upto_region 1 with fail;rw[n.out];go_wp2_with(go_at_call 108;refine b.mono ?_;clear I a0 C D;rintro e s⟨rfl,a⟩)
  go_ret;exact⟨rfl,g.trans a⟩
 |true=>
  rw[a8]at b;cases F:bel c.fr V.f.n with
  |false=>
   rw[F]at f;rw[kE (.inr rfl)];go_enter func131,ntmps131;go_upto_region 1 with fail;rw[n.out];go_wp2_with fail;refine b.mono ?_;clear I a0 C D;rintro e s⟨rfl,a⟩;have i:=dD (g.trans a);have H:=(E.aA a).c 0 rfl;have a9:=(v.aA a).c 2 rfl;clear a;go_wp2_with(go_at_call 66;refine(f _).mono ?_;rintro e w'⟨rfl,rfl⟩)
   go_ret;exact⟨rfl,i⟩
  |true=>
   rw[F]at f;rw[kF Sm];obtain⟨au,av⟩:=Jc.1 F;clear F;obtain⟨x,y,a6⟩:=c;simp only at au av f b g v C D⊢;obtain⟨r,rfl⟩:∃r:Nat,a6=(r:Int):=⟨a6.toNat,Wm⟩;have X:r<V.f.n:=Wm;obtain⟨q,a1⟩:∃q,Xo (m.fs[r]?=Xa q):=⟨_,gE (Rx aa.out X)⟩;have z:z1 m (r:Int)=q:=(by unfold z1;rw[tN,gD,a1.out];rfl);rw[z];clear z;obtain⟨ax,A,a7⟩:=ac.out r q a1.out;have ab:=dD a7;have N:=dD A;clear a7 A;obtain⟨Z,u⟩:=kA (if q.r=0\/q.f≠x\/q.x≠y then(7:Int)else 0);rw[u.out];go_enter func131,ntmps131;go_upto_region 1 with fail;rw[n.out];go_wp2_with fail;refine b.mono ?_;clear I a0 C D;rintro e s⟨rfl,a⟩;have i:=dD (g.trans a);have af:=dD (E.aA a);have a4:=dD (v.aA a);have ae:Xo (w.heap.size+1+1<=s.heap.size):=show _<=_ by rw[<-M.out];exact bS a
   clear a;have H:=af.c 0 rfl;have a9:=a4.c 2 rfl;go_upto_region 3 with(go_at_call 66;refine(f _).mono ?_;rintro e w'⟨rfl,B⟩;rw[B];clear B w')
   (try simp only[Sli.x]at H);rw[N.out]at H;obtain⟨ag,ah,ai,aj,ak,al,am,an,ao,ap,P,Q,R⟩:=ab.out s i.out;go_upto_region 4 with fail;obtain⟨a3,h⟩:=kB (s.alloc (Xk #[U8 q.p.b0,U8 q.p.b1,U8 q.p.b2,U8 q.p.b3,U8 q.p.b4,U8 q.p.b5,U8 q.p.b6,U8 q.p.b7,I6 q.r,Xh q.u,Xh q.d,I6 q.f,I6 q.x] 53));have j:=gT h i;have K:Box a3 s.heap.size [U8 q.p.b0,U8 q.p.b1,U8 q.p.b2,U8 q.p.b3,U8 q.p.b4,U8 q.p.b5,U8 q.p.b6,U8 q.p.b7,I6 q.r,Xh q.u,Xh q.d,I6 q.f,I6 q.x]:=(by rw[<-h];exact Box.aE _ _ _ rfl);have a5:Box a3 (w.heap.size+1) [I6 x,I6 y,I6 (r:Int)]:=(by rw[<-h];exact a4.alloc _);rw[h];clear h H a9 ag ah ai aj ak al am an ao ap P Q R;have ay:=K.c 8 rfl;have aq:=K.c 11 rfl;have ar:=K.c 12 rfl;obtain⟨C,D⟩:=a5.k2;by_cases k:q.r=0
   ·have S:(q.r==0)=Xc:=by simp[k]
    have l:Xo (Z=7):=dD (by rw[<-u.out,kE (.inl k)]);clear k;go_wp2;go_ret;exact⟨Rr l.out,j⟩
   have S:(q.r==0)=Xd:=(by simp[k]);by_cases p:q.f=x
   ·have T:(q.f !=x)=Xd:=by simp[p]
    by_cases t:q.x=y
    ·have U:(q.x !=y)=Xd:=by simp[t]
     have l:Xo (Z=0):=dD (by rw[<-u.out,kF (by simp[k,p,t])]);clear k p t;go_wp2;go_ret;exact⟨Rr l.out,j⟩
    have U:(q.x !=y)=Xc:=(by simp[t]);have l:Xo (Z=7):=dD (by rw[<-u.out,kE (.inr (.inr t))]);clear k p t;go_wp2;go_ret;exact⟨Rr l.out,j⟩
   have T:(q.f !=x)=Xc:=(by simp[p]);have l:Xo (Z=7):=dD (by rw[<-u.out,kE (.inr (.inl p))]);clear k p;go_wp2;go_ret;exact⟨Rr l.out,j⟩
theorem zf9(V:MaV)(m:Ma)(w)(b:zK w V m)(c:∀W,zc w W->Xp prog 125 #[Xi #[V.f.x,I6 m.aB]] W fun e w'=>e=Xl (I6 (ZR m.fs m.aB))/\zc W w'):
  Xp prog 98 #[Xi (mL V m).toArray] w fun e w'=>e=Xl (I6 (zG (JX m)))/\zc w w':=by
 obtain⟨p,d,g,q,n,r,s,-⟩:=b.ns;have f:=dD c;have i:Xo (∀W,zc w W->Xp prog 126 #[V.s.x] W fun e w'=>e=Xl (I6 (slW m.sl))/\zc W w'):=dD<|fun W a=>by
  have h:=(b.aA a).sl;(try simp only[Sli.x]at h⊢);rw[d]at h⊢;exact zcw _ _ m.sl W h
 have j:Xo (∀W,zc w W->Xp prog 127 #[Xi #[V.sb.x,V.sq.x]] W fun e w'=>e=Xl (I6 (zS m.sb.length m.sq))/\zc W w'):=dD<|fun W a=>by
  have h:=(b.aA a).sq;rw[<-g];exact zdG _ _ _ _ m.sq W h
 have k:Xo (∀W,zc w W->Xp prog 127 #[Xi #[V.db.x,V.dq.x]] W fun e w'=>e=Xl (I6 (zS m.db.length m.dq))/\zc W w'):=dD<|fun W a=>by
  have h:=(b.aA a).dq;rw[<-n];exact zdG _ _ _ _ m.dq W h
 have l:=dD<|fun W(a:zc w W)=>zdI _ m.fl m.cnt W (b.aA a).fl;clear p d g q n r s b c;obtain⟨g,c⟩:=kB (w.alloc (Xk (mL V m).toArray 41));have b:=gA c;have a:=xA c;have d:=dD c;clear c;unfold JX;go_enter func98,ntmps98;go_upto_region 1 with fail;rw[d.out];have p:=a.gw 0 rfl;have q:=a.gw 1 rfl;have r:=a.gw 2 rfl;have s:=a.gw 3 rfl;have t:=a.gw 4 rfl;have u:=a.gw 5 rfl;have y:=a.gw 6 rfl;have z:=a.gw 7 rfl;have A:=a.gw 8 rfl;have n:Nonempty (zj g):=⟨⟨_,zc.refl _⟩⟩;refine jK [(2,⟨fun a=>a=I6 (ZR m.fs m.aB),fun a w'=>True⟩),(5,⟨fun a=>a=I6 (slW m.sl),fun a w'=>True⟩),(8,⟨fun a=>a=I6 (zS m.sb.length m.sq),fun a w'=>True⟩),(11,⟨fun a=>a=I6 (zS m.db.length m.dq),fun a w'=>True⟩),(14,⟨fun a=>a=I6 (stW m.fl m.cnt),fun a w'=>True⟩),(15,⟨fun a=>∃g,a=O (Xa ⟨g,0,Xb⟩) 5 5,fun a w'=>zq znS w' a [ZR m.fs m.aB,slW m.sl,zS m.sb.length m.sq,zS m.db.length m.dq,stW m.fl m.cnt]⟩),(16,⟨fun a=>a=I6 (zG [ZR m.fs m.aB,slW m.sl,zS m.sb.length m.sq,zS m.db.length m.dq,stW m.fl m.cnt]),fun a w'=>True⟩)] zY Kr ?hS ?hp ?_;case hS=>
  intro x a;simp only[mC,nM,or_false]at a;rcases a with rfl|rfl|rfl|rfl|rfl|rfl|rfl;·exact⟨_,rfl⟩
  ·exact⟨_,rfl⟩
  ·exact⟨_,rfl⟩
  ·exact⟨_,rfl⟩
  ·exact⟨_,rfl⟩
  ·exact⟨_,0,rfl⟩
  exact⟨_,rfl⟩
 case hp=>
  intro x a;simp only[mC,nM,or_false]at a;rcases a with rfl|rfl|rfl|rfl|rfl|rfl|rfl;·exact fun _ _ _ _ h=>h
  ·exact fun _ _ _ _ h=>h
  ·exact fun _ _ _ _ h=>h
  ·exact fun _ _ _ _ h=>h
  ·exact fun _ _ _ _ h=>h
  ·exact fun _ _ _ c h=>zq.aA h c
  exact fun _ _ _ _ h=>h
 iterate 2 refine zf ?_
 refine zI rfl rfl (fun w' c g=>?_) (fun h d=>?_);·refine zO.call [Xi #[V.f.x,I6 m.aB]] rfl func125 rfl rfl rfl ?_;refine(f w' (b.trans c)).mono ?_;rintro e f⟨rfl,a⟩;exact⟨_,rfl,a,rfl,trivial⟩
 subst d;refine Uq ?_;iterate 2 refine zf ?_
 refine zI rfl rfl (fun w' c g=>?_) (fun h d=>?_);·refine zO.call [V.s.x] rfl func126 rfl rfl rfl ?_;refine(i w' (b.trans c)).mono ?_;rintro e f⟨rfl,a⟩;exact⟨_,rfl,a,rfl,trivial⟩
 subst d;refine Uq ?_;iterate 2 refine zf ?_
 refine zI rfl rfl (fun w' c g=>?_) (fun h d=>?_);·refine zO.call [Xi #[V.sb.x,V.sq.x]] rfl func127 rfl rfl rfl ?_;refine(j w' (b.trans c)).mono ?_;rintro e f⟨rfl,a⟩;exact⟨_,rfl,a,rfl,trivial⟩
 subst d;refine Uq ?_;iterate 2 refine zf ?_
 refine zI rfl rfl (fun w' c g=>?_) (fun h d=>?_);·refine zO.call [Xi #[V.db.x,V.dq.x]] rfl func127 rfl rfl rfl ?_;refine(k w' (b.trans c)).mono ?_;rintro e f⟨rfl,a⟩;exact⟨_,rfl,a,rfl,trivial⟩
 subst d;refine Uq ?_;iterate 2 refine zf ?_
 refine zI rfl rfl (fun w' c g=>?_) (fun h d=>?_);·refine zO.call [Xi #[V.fl.x,I6 m.cnt]] rfl func128 rfl rfl rfl ?_;refine(l w' (b.trans c)).mono ?_;rintro e f⟨rfl,a⟩;exact⟨_,rfl,a,rfl,trivial⟩
 subst d;refine Uq ?_;refine zI rfl rfl (fun w' c g=>?_) (fun h d=>?_)
 ·have a:zq znS (w'.alloc (Xk #[I6 (ZR m.fs m.aB),I6 (slW m.sl),I6 (zS m.sb.length m.sq),I6 (zS m.db.length m.dq),I6 (stW m.fl m.cnt)] 45)) (O (Xa ⟨w'.heap.size,0,Xb⟩) 5 5) [ZR m.fs m.aB,slW m.sl,zS m.sb.length m.sq,zS m.db.length m.dq,stW m.fl m.cnt]:=zcB znS w' [ZR m.fs m.aB,slW m.sl,zS m.sb.length m.sq,zS m.db.length m.dq,stW m.fl m.cnt] _ rfl (show 5*8<=140737488355328 by decide)
  refine zO.step (v:=O (Xa ⟨w'.heap.size,0,Xb⟩) 5 5) (w':=w'.alloc (Xk #[I6 (ZR m.fs m.aB),I6 (slW m.sl),I6 (zS m.sb.length m.sq),I6 (zS m.db.length m.dq),I6 (stW m.fl m.cnt)] 45)) (by simp only[execOp];go_simp) ⟨za _ _,⟨_,rfl⟩,a⟩
 obtain⟨a,rfl⟩:=d;refine Uq ?_;refine zI rfl rfl (fun w' c g=>?_) (fun h d=>?_)
 ·have c:zq znS w' (O (Xa ⟨a,0,Xb⟩) 5 5) [ZR m.fs m.aB,slW m.sl,zS m.sb.length m.sq,zS m.db.length m.dq,stW m.fl m.cnt]:=g 15 Kr
  refine zO.call [O (Xa ⟨a,0,Xb⟩) 5 5] rfl func124 rfl rfl rfl ?_;refine(zhH _ _ w' c).mono ?_;rintro e f⟨rfl,rfl⟩;exact⟨_,rfl,zc.refl _,rfl,trivial⟩
 subst d;refine Uq ?_;refine zf ?_;refine z5 fun a a g=>?_;have c:=dD (b.trans a);clear a g p q r s t u y z A n;go_wp2;go_ret;exact⟨rfl,c⟩
theorem zgd(a:Ar)(w):Xp prog 179 #[Xi #[I6 a.fr,I6 a.tz,Xh a.rd,Xh a.wr,Xh a.sh,I6 a.file,I6 a.base]] w fun e w'=>e=Xl (I6 (arW a))/\zc w w':=by
 obtain⟨fr,c,d,wr,f,file,base⟩:=a;by_cases b:fr<0
 ·have b:arW ⟨fr,c,d,wr,f,file,base⟩=3:=by unfold arW;simp only;rw[kE Wm]
  rw[b];go_enter func179,ntmps179;go_wp2;go_ret;exact⟨rfl,za _ _⟩
 by_cases g:c<=fr
 ·have b:arW ⟨fr,c,d,wr,f,file,base⟩=3:=by unfold arW;simp only;rw[kE Wm]
  rw[b];go_enter func179,ntmps179;go_wp2;go_ret;exact⟨rfl,za _ _⟩
 by_cases g:64<c
 ·have b:arW ⟨fr,c,d,wr,f,file,base⟩=3:=by unfold arW;simp only;rw[kE Wm]
  rw[b];go_enter func179,ntmps179;go_wp2;go_ret;exact⟨rfl,za _ _⟩
 by_cases g:file< -1
 ·have b:arW ⟨fr,c,d,wr,f,file,base⟩=3:=by unfold arW;simp only;rw[kE Wm]
  rw[b];go_enter func179,ntmps179;go_wp2;go_ret;exact⟨rfl,za _ _⟩
 by_cases g:5<=file
 ·have b:arW ⟨fr,c,d,wr,f,file,base⟩=3:=by unfold arW;simp only;rw[kE Wm]
  rw[b];go_enter func179,ntmps179;go_wp2;go_ret;exact⟨rfl,za _ _⟩
 by_cases g:base<0
 ·have b:arW ⟨fr,c,d,wr,f,file,base⟩=3:=by unfold arW;simp only;rw[kE Wm]
  rw[b];go_enter func179,ntmps179;go_wp2;go_ret;exact⟨rfl,za _ _⟩
 have k:¬(fr<0\/c<=fr\/64<c\/file< -1\/5<=file\/base<0):=Wm;by_cases h:file<0
 ·by_cases g:base=0
  ·cases f
   ·have b:arW ⟨fr,c,d,wr,Xd,file,base⟩=0:=by unfold arW;simp only;rw[kF k,kE h,kF (by simp[g])]
    rw[b];have i:(base !=0)=Xd:=(by simp[g]);have j:¬0<base:=Wm;go_enter func179,ntmps179;go_wp2;go_ret;exact⟨rfl,za _ _⟩
   have b:arW ⟨fr,c,d,wr,Xc,file,base⟩=7:=(by unfold arW;simp only;rw[kF k,kE h,kE Sm]);rw[b];have i:(base !=0)=Xd:=(by simp[g]);have j:¬0<base:=Wm;go_enter func179,ntmps179;go_wp2;go_ret;exact⟨rfl,za _ _⟩
  have b:arW ⟨fr,c,d,wr,f,file,base⟩=7:=by unfold arW;simp only;rw[kF k,kE h,kE (by simp[g])]
  rw[b];have i:(base !=0)=Xc:=by simp[g]
  have j:0<base:=Wm;go_enter func179,ntmps179;go_wp2;go_ret;exact⟨rfl,za _ _⟩
 by_cases g:12-(c-fr)<base
 ·have b:arW ⟨fr,c,d,wr,f,file,base⟩=7:=by unfold arW;simp only;rw[kF k,kF h,kE g]
  rw[b];go_enter func179,ntmps179;go_wp2;go_ret;exact⟨rfl,za _ _⟩
 have b:arW ⟨fr,c,d,wr,f,file,base⟩=0:=by unfold arW;simp only;rw[kF k,kF h,kF g]
 rw[b];go_enter func179,ntmps179;go_wp2;go_ret;exact⟨rfl,za _ _⟩
theorem zaf(a:Ar)(w):Xp prog 94 #[Xi #[I6 a.fr,I6 a.tz,Xh a.rd,Xh a.wr,Xh a.sh,I6 a.file,I6 a.base]] w fun e w'=>e=Xl (I6 (arW a))/\zc w w':=by
 obtain⟨fr,c,f,wr,h,file,base⟩:=a;by_cases b:fr<0
 ·have b:arW ⟨fr,c,f,wr,h,file,base⟩=3:=by unfold arW;simp only;rw[kE Wm]
  rw[b];clear b;go_enter func94,ntmps94;go_wp2;go_ret;exact⟨rfl,za _ _⟩
 by_cases d:64<c
 ·have b:arW ⟨fr,c,f,wr,h,file,base⟩=3:=by unfold arW;simp only;rw[kE Wm]
  rw[b];clear b;go_enter func94,ntmps94;go_wp2;go_ret;exact⟨rfl,za _ _⟩
 by_cases d:c<=fr
 ·have b:arW ⟨fr,c,f,wr,h,file,base⟩=3:=by unfold arW;simp only;rw[kE Wm]
  rw[b];clear b;go_enter func94,ntmps94;go_wp2;go_ret;exact⟨rfl,za _ _⟩
 by_cases d:file< -1
 ·have b:arW ⟨fr,c,f,wr,h,file,base⟩=3:=by unfold arW;simp only;rw[kE Wm]
  rw[b];clear b;go_enter func94,ntmps94;go_wp2;go_ret;exact⟨rfl,za _ _⟩
 by_cases d:4<file
 ·have b:arW ⟨fr,c,f,wr,h,file,base⟩=3:=by unfold arW;simp only;rw[kE Wm]
  rw[b];clear b;go_enter func94,ntmps94;go_wp2;go_ret;exact⟨rfl,za _ _⟩
 by_cases d:base<0
 ·have b:arW ⟨fr,c,f,wr,h,file,base⟩=3:=by unfold arW;simp only;rw[kE Wm]
  rw[b];clear b;go_enter func94,ntmps94;go_wp2;go_ret;exact⟨rfl,za _ _⟩
 have g:¬(fr<0\/c<=fr\/64<c\/file< -1\/5<=file\/base<0):=Wm;by_cases k:file<0
 ·by_cases d:base=0
  ·cases h
   ·have b:arW ⟨fr,c,f,wr,Xd,file,base⟩=0:=by unfold arW;simp only;rw[kF g,kE k,kF (by simp[d])]
    rw[b];clear b;have i:(file==-1)=Xc:=(by simp;omega);have j:¬0<=file:=Wm;have l:(base !=0)=Xd:=(by simp[d]);have m:¬0<base:=Wm;clear d g;go_enter func94,ntmps94;go_wp2;go_ret;exact⟨rfl,za _ _⟩
   have b:arW ⟨fr,c,f,wr,Xc,file,base⟩=7:=(by unfold arW;simp only;rw[kF g,kE k,kE Sm]);rw[b];clear b;have i:(file==-1)=Xc:=(by simp;omega);have j:¬0<=file:=Wm;have l:(base !=0)=Xd:=(by simp[d]);have m:¬0<base:=Wm;clear d g;go_enter func94,ntmps94;go_wp2;go_ret;exact⟨rfl,za _ _⟩
  have b:arW ⟨fr,c,f,wr,h,file,base⟩=7:=by unfold arW;simp only;rw[kF g,kE k,kE (by simp[d])]
  rw[b];clear b;have i:(file==-1)=Xc:=by simp;omega
  have j:¬0<=file:=Wm;have l:(base !=0)=Xc:=by simp[d]
  have m:0<base:=Wm;clear d g;go_enter func94,ntmps94;go_wp2;go_ret;exact⟨rfl,za _ _⟩
 by_cases d:12-(c-fr)<base
 ·have b:arW ⟨fr,c,f,wr,h,file,base⟩=7:=by unfold arW;simp only;rw[kF g,kF k,kE d]
  rw[b];clear b;have i:(file==-1)=Xd:=by simp;omega
  have j:0<=file:=Wm;clear g;go_enter func94,ntmps94;go_wp2;go_ret;exact⟨rfl,za _ _⟩
 have b:arW ⟨fr,c,f,wr,h,file,base⟩=0:=by unfold arW;simp only;rw[kF g,kF k,kF d]
 rw[b];clear b;have i:(file==-1)=Xd:=by simp;omega
 have j:0<=file:=Wm;clear g;go_enter func94,ntmps94;go_wp2;go_ret;exact⟨rfl,za _ _⟩
def QB(a:Ar)(n:Int):Ar:={a with fr:=n,base:=if 0<=a.file then a.base+(n-a.fr)else a.base}
theorem zmj(a:Ar)(n:Int)(w)(d:jS a)(p:0<=n/\n<=64):Xp prog 188 #[Xi #[I6 a.fr,I6 a.tz,Xh a.rd,Xh a.wr,Xh a.sh,I6 a.file,I6 a.base],I6 n] w fun e w'=>e=Xl (arA (QB a n))/\zc w w':=by
 have b:=dD d;unfold jS at d;obtain⟨h,i,j,k,l,m,b,c⟩:=d;obtain⟨fr,g,d,wr,f,file,base⟩:=a;simp only at h i j k l m b c⊢;have h:base<=12:=by
  by_cases h:0<=file;·have:=c h;omega
  have:=b Wm;omega
 clear b c;obtain⟨b,b⟩:=p;obtain⟨A,b⟩:=kB ((w.alloc (Xk #[I6 fr,I6 g,Xh d,Xh wr,Xh f,I6 file,I6 base] 77)).alloc (Xk #[I6 0,I6 0,Xh Xd,Xh Xd,Xh Xd,I6 0,I6 0] 77));have j:=gD2 b;have c:=x2a b;have B:=x2b b;have k:=dD b;clear b;by_cases C:0<=file
 ·have r:Xo (QB ⟨fr,g,d,wr,f,file,base⟩ n=⟨n,g,d,wr,f,file,base+(n-fr)⟩):=dD<|by unfold QB;simp only;rw[kE C]
  go_enter func188,ntmps188;go_upto_region 1 with fail;rw[k.out];have x:=c.c 0 rfl;have y:=c.c 5 rfl;have l:=c.c 6 rfl;have z:=c.f;go_upto_region 4 with fail;obtain⟨i,b⟩:=kB ((A.setCell ⟨w.heap.size,6,Xb⟩ (I6 (base+(n-fr)))).setCell ⟨w.heap.size,0,Xb⟩ (I6 n));have t:Xo (Box i w.heap.size [I6 n,I6 g,Xh d,Xh wr,Xh f,I6 file,I6 (base+(n-fr))]):=dD (by rw[<-b];exact(c.set 6 _).set 0 _);have u:Xo (Box i (w.heap.size+1) [I6 0,I6 0,Xh Xd,Xh Xd,Xh Xd,I6 0,I6 0]):=dD (by rw[<-b];exact(B.other Sm _).other Sm _);have h:Xo (zc w i):=dD (by rw[<-b];exact zB (zB j Sm _) Sm _);rw[b];clear b x y l z;go_wp2_with(first|refine zE rfl 77 (.tmp 2) rfl w.heap.size rfl t underlying77 rfl zsO ?_|refine zn rfl 77 (.tmp 4) (.tmp 18) rfl (w.heap.size+1) rfl _ rfl u rfl zsO (arE.one ⟨n,g,d,wr,f,file,base+(n-fr)⟩) ?_)
  intro s l m v;have q:Xo (zc w s):=zd h m Sm;have p:=dD l;clear l m v;go_wp2;refine bodyPost_ret (z8 rfl _ rfl p underlying77 rfl zsO) rfl ⟨Rr r.out,q⟩
 have r:Xo (QB ⟨fr,g,d,wr,f,file,base⟩ n=⟨n,g,d,wr,f,file,base⟩):=dD<|by unfold QB;simp only;rw[kF C]
 go_enter func188,ntmps188;go_upto_region 1 with fail;rw[k.out];obtain⟨x,_,_,_,_,y⟩:=c.k6;have z:=c.f;go_upto_region 4 with fail;obtain⟨i,b⟩:=kB (A.setCell ⟨w.heap.size,0,Xb⟩ (I6 n));have t:Xo (Box i w.heap.size [I6 n,I6 g,Xh d,Xh wr,Xh f,I6 file,I6 base]):=dD<|by rw[<-b];exact c.set 0 _
 have u:Xo (Box i (w.heap.size+1) [I6 0,I6 0,Xh Xd,Xh Xd,Xh Xd,I6 0,I6 0]):=dD<|by rw[<-b];exact B.other Sm _
 have h:Xo (zc w i):=dD<|by rw[<-b];exact zB j Sm _
 rw[b];clear b x y z;go_wp2_with(first|refine zE rfl 77 (.tmp 2) rfl w.heap.size rfl t underlying77 rfl zsO ?_|refine zn rfl 77 (.tmp 4) (.tmp 18) rfl (w.heap.size+1) rfl _ rfl u rfl zsO (arE.one ⟨n,g,d,wr,f,file,base⟩) ?_)
 intro s l m v;have q:Xo (zc w s):=zd h m Sm;have p:=dD l;clear l m v;go_wp2;refine bodyPost_ret (z8 rfl _ rfl p underlying77 rfl zsO) rfl ⟨Rr r.out,q⟩
def zp0(a b:Ar):Bool:=(a.fr==b.fr)&&(a.tz==b.tz)&&(a.rd==b.rd)&&(a.wr==b.wr)&&(a.sh==b.sh)&&(a.file==b.file)&&(a.base==b.base)
theorem zsk(x0 y0:Int)(x1 y1:Int)(x2 y2:Bool)(x3 y3:Bool)(x4 y4:Bool)(x5 y5:Int)(x6 y6:Int)(w):(Op.equalIn 10000 77 (Xi #[I6 x0,I6 x1,Xh x2,Xh x3,Xh x4,I6 x5,I6 x6]) (Xi #[I6 y0,I6 y1,Xh y2,Xh y3,Xh y4,I6 y5,I6 y6])).run prog w=.ok (zp0 ⟨x0,x1,x2,x3,x4,x5,x6⟩ ⟨y0,y1,y2,y3,y4,y5,y6⟩) w:=by
 have hf:(Tryz.prog.fieldsOf 77).toList.map (fun f=>(f.name,f.type,f.offset))=[("From",3,0),("To",3,1),("Read",4,2),("Write",4,3),("Shared",4,4),("File",3,5),("Base",3,6)]:=by kernel_rfl
 rw[run_equalIn_struct w 9999 77 _ _ Kr Kr];obtain⟨f0,f1,f2,f3,f4,f5,f6,hfs⟩:∃f0 f1 f2 f3 f4 f5 f6,(Tryz.prog.fieldsOf 77).toList=[f0,f1,f2,f3,f4,f5,f6]:=by
  have hl:(Tryz.prog.fieldsOf 77).toList.length=7:=by have:=congrArg List.length hf;simpa using this
  match hq:(Tryz.prog.fieldsOf 77).toList,hl with
  |[f0,f1,f2,f3,f4,f5,f6],_=>exact⟨f0,f1,f2,f3,f4,f5,f6,rfl⟩
 rw[hfs]at hf⊢;simp at hf;obtain⟨⟨n0,t0,o0⟩,⟨n1,t1,o1⟩,⟨n2,t2,o2⟩,⟨n3,t3,o3⟩,⟨n4,t4,o4⟩,⟨n5,t5,o5⟩,⟨n6,t6,o6⟩⟩:=hf;have pI:=zc0 w;have pB:=zd8 w;simp only[Op.eqFields,n0,t0,o0,n1,t1,o1,n2,t2,o2,n3,t3,o3,n4,t4,o4,n5,t5,o5,n6,t6,o6];simp[pI,pB,run_equalIn_bool' w _ _ _ _ underlying4,run_equalIn_int w _ _ _ _ _ _ underlying3];unfold zp0;simp only;by_cases e0:x0=y0;case neg=>simp[e0]
 subst e0;by_cases e1:x1=y1;case neg=>simp[e1]
 subst e1;by_cases e2:x2=y2;case neg=>simp[e2]
 subst e2;by_cases e3:x3=y3;case neg=>simp[e3]
 subst e3;by_cases e4:x4=y4;case neg=>simp[e4]
 subst e4;by_cases e5:x5=y5;case neg=>simp[e5]
 subst e5;by_cases e6:x6=y6;case neg=>simp[e6]
 subst e6;simp
def zo2(a b:On):Bool:=(a.is==b.is)&&(a.rd==b.rd)&&(a.wr==b.wr)&&(a.sh==b.sh)&&(a.file==b.file)&&(a.page==b.page)
theorem zrH(x0 y0:Bool)(x1 y1:Bool)(x2 y2:Bool)(x3 y3:Bool)(x4 y4:Int)(x5 y5:Int)(w):(Op.equalIn 10000 67 (Xi #[Xh x0,Xh x1,Xh x2,Xh x3,I6 x4,I6 x5]) (Xi #[Xh y0,Xh y1,Xh y2,Xh y3,I6 y4,I6 y5])).run prog w=.ok (zo2 ⟨x0,x1,x2,x3,x4,x5⟩ ⟨y0,y1,y2,y3,y4,y5⟩) w:=by
 have hf:(Tryz.prog.fieldsOf 67).toList.map (fun f=>(f.name,f.type,f.offset))=[("Some",4,0),("Read",4,1),("Write",4,2),("Shared",4,3),("File",3,4),("Page",3,5)]:=by kernel_rfl
 rw[run_equalIn_struct w 9999 67 _ _ Kr Kr];obtain⟨f0,f1,f2,f3,f4,f5,hfs⟩:∃f0 f1 f2 f3 f4 f5,(Tryz.prog.fieldsOf 67).toList=[f0,f1,f2,f3,f4,f5]:=by
  have hl:(Tryz.prog.fieldsOf 67).toList.length=6:=by have:=congrArg List.length hf;simpa using this
  match hq:(Tryz.prog.fieldsOf 67).toList,hl with
  |[f0,f1,f2,f3,f4,f5],_=>exact⟨f0,f1,f2,f3,f4,f5,rfl⟩
 rw[hfs]at hf⊢;simp at hf;obtain⟨⟨n0,t0,o0⟩,⟨n1,t1,o1⟩,⟨n2,t2,o2⟩,⟨n3,t3,o3⟩,⟨n4,t4,o4⟩,⟨n5,t5,o5⟩⟩:=hf;have pI:=zc0 w;have pB:=zd8 w;simp only[Op.eqFields,n0,t0,o0,n1,t1,o1,n2,t2,o2,n3,t3,o3,n4,t4,o4,n5,t5,o5];simp[pI,pB,run_equalIn_bool' w _ _ _ _ underlying4,run_equalIn_int w _ _ _ _ _ _ underlying3];unfold zo2;simp only;by_cases e0:x0=y0;case neg=>simp[e0]
 subst e0;by_cases e1:x1=y1;case neg=>simp[e1]
 subst e1;by_cases e2:x2=y2;case neg=>simp[e2]
 subst e2;by_cases e3:x3=y3;case neg=>simp[e3]
 subst e3;by_cases e4:x4=y4;case neg=>simp[e4]
 subst e4;by_cases e5:x5=y5;case neg=>simp[e5]
 subst e5;simp
theorem zqU{a b:Ar}:zp0 a ⟨b.tz,a.tz,b.rd,b.wr,b.sh,b.file,(QB b b.tz).base⟩=goB a b:=by unfold zp0 goB QB;grind
theorem ziD(a:Ar)(n:Int):arA (QB a n)=Xi #[I6 n,I6 a.tz,Xh a.rd,Xh a.wr,Xh a.sh,I6 a.file,I6 (QB a n).base]:=rfl
theorem zlK(a b:Ar)(w)(c:jS b):Xp prog 180 #[Xi #[I6 a.fr,I6 a.tz,Xh a.rd,Xh a.wr,Xh a.sh,I6 a.file,I6 a.base],Xi #[I6 b.fr,I6 b.tz,Xh b.rd,Xh b.wr,Xh b.sh,I6 b.file,I6 b.base]] w fun e w'=>e=Xl (Xh (goB a b))/\zc w w':=by
 have d:∀W,Xp prog 188 #[Xi #[I6 b.fr,I6 b.tz,Xh b.rd,Xh b.wr,Xh b.sh,I6 b.file,I6 b.base],I6 b.tz] W fun e w'=>e=Xl (arA (QB b b.tz))/\zc W w':=fun W=>zmj b b.tz W c (by have:=c;unfold jS at this;omega);have f:=fun W=>zsk a.fr b.tz a.tz a.tz a.rd b.rd a.wr b.wr a.sh b.sh a.file b.file a.base (QB b b.tz).base W;have g:=zqU (a:=a) (b:=b);rw[show(⟨a.fr,a.tz,a.rd,a.wr,a.sh,a.file,a.base⟩:Ar)=a from rfl]at f;rw[g]at f;rw[ziD]at d;generalize(QB b b.tz).base=nb at d f;clear g c;generalize goB a b=R at f⊢;obtain⟨c,c⟩:=kB ((w.alloc (Xk #[I6 a.fr,I6 a.tz,Xh a.rd,Xh a.wr,Xh a.sh,I6 a.file,I6 a.base] 77)).alloc (Xk #[I6 b.fr,I6 b.tz,Xh b.rd,Xh b.wr,Xh b.sh,I6 b.file,I6 b.base] 77));have f:=gD2 c;have j:=x2a c;have h:=x2b c;have g:=dD c;clear c;go_enter func180,ntmps180;go_upto_region 1 with fail;rw[g.out];have g:=h.c 1 rfl;go_wp2_with(refine zE rfl 77 (.tmp 3) rfl (w.heap.size+1) rfl h underlying77 rfl zsO ?_)
 refine(d _).mono ?_;rintro e h⟨rfl,c⟩;have i:=dD (f.trans c);have f:=dD (j.aA c);clear c d g;obtain⟨p,d⟩:=kA h.heap.size;have g:Xo (w.heap.size<p):=show _<_ by rw[<-d.out];exact f.lt
 go_upto_region 2 with fail;refine nW fun k c=>?_;have j:=gT c i;have h:=yA c f;have f:=xP c d;rw[d.out];clear c;have l:=h.c 1 rfl;have m:=f.c 1 rfl;have n:=f.f;go_upto_region 3 with fail;obtain⟨d,c⟩:=kB (k.setCell ⟨p,1,Xb⟩ (I6 a.tz));have i:Xo (zc w d):=dD<|by rw[<-c];exact zB j (by have:=g.out;simp;omega) _
 have j:Xo (Box d w.heap.size [I6 a.fr,I6 a.tz,Xh a.rd,Xh a.wr,Xh a.sh,I6 a.file,I6 a.base]):=dD<|by rw[<-c];exact h.other (by have:=g.out;simp;omega) _
 have g:Xo (Box d p [I6 b.tz,I6 a.tz,Xh b.rd,Xh b.wr,Xh b.sh,I6 b.file,I6 nb]):=dD<|by rw[<-c];exact f.set 1 _
 rw[c];clear c l m n;go_wp2_with(first|refine zE rfl 77 (.tmp 5) rfl p rfl g underlying77 rfl zsO ?_|refine zE rfl 77 (.tmp 2) rfl w.heap.size rfl j underlying77 rfl zsO ?_)
 go_ret;exact⟨rfl,i⟩
def inZ(a:Ar)(n:Int):Bool:=decide (a.fr<=n)&&decide (n<a.tz)
theorem zcL:inZ H z=Xc↔H.fr<=z/\z<H.tz:=by simp[inZ]
theorem zjv(a)(n:Nat):inZ a (n:Int)=Qb a n:=rfl
def ze1(l:List Ar)(n z:Int):Prop:=(∃(k:Nat)(a:Ar),z=k/\l[k]?=Xa a/\inZ a n=Xc)\/(z=-1/\∀a∈l,inZ a n=Xd)
theorem zkG(h:ze1 l k z):decide (0<=z)=(zr l k).is:=by
 rcases h with⟨j,a,rfl,b,c⟩|⟨rfl,b⟩
 ·have:∀(m:List Ar),a∈m->(zr m k).is=Xc:=by
   intro m;induction m with
   |nil=>intro c;cases c
   |cons d m e=>
    intro c;by_cases c:Qb d k=Xc;·rw[zr,kE c];rfl
    grind[zr,mC.1,zjv]
  rw[this l (mG b)];simp
 rw[zb4 (fun a c=>b a c)];rfl
theorem znL(a:Ar)(n:Int)(p:Nat)(w)(hb:Box w p [I6 n]):
  Xp prog 105 #[Xi #[I6 a.fr,I6 a.tz,Xh a.rd,Xh a.wr,Xh a.sh,I6 a.file,I6 a.base],Xj (Xa ⟨p,0,Xb⟩)] w fun e w'=>e=Xl (Xh (inZ a n))/\zc w w':=by
 have H:Xo (inZ a n=(decide (a.fr<=n)&&decide (n<a.tz))):=rfl;obtain⟨d,b⟩:=kB (w.alloc (Xk #[I6 a.fr,I6 a.tz,Xh a.rd,Xh a.wr,Xh a.sh,I6 a.file,I6 a.base] 77));have c:=gA b;have f:=xA b;have g:Xo (Box d p [I6 n]):=dD<|by rw[<-b];exact hb.alloc _
 have d:=dD b;clear b hb;by_cases b:a.fr<=n
 ·by_cases b:n<a.tz
  ·go_enter func105,ntmps105
   go_upto_region 1 with fail;rw[d.out];obtain⟨h,i⟩:=f.k2;have b:=g.c 0 rfl;go_wp2;go_ret;exact⟨by rw[H.out];simp[*],c⟩
  go_enter func105,ntmps105;go_upto_region 1 with fail;rw[d.out];obtain⟨h,i⟩:=f.k2;have b:=g.c 0 rfl;go_wp2;go_ret;exact⟨by rw[H.out];simp[*],c⟩
 go_enter func105,ntmps105;go_upto_region 1 with fail;rw[d.out];obtain⟨h,i⟩:=f.k2;have b:=g.c 0 rfl;go_wp2;go_ret;exact⟨by rw[H.out];simp;omega,c⟩
theorem zgL(v l)(m:Int)(p:Nat)(w)(hb:Box w p [I6 m])(c:zq arE w v l):
  Xp prog 104 #[v,.func (.func 105) #[] #[Xj (Xa ⟨p,0,Xb⟩)]] w fun e w'=>(∃z:Int,e=Xl (I6 z)/\ze1 l m z)/\zc w w':=by
 have b:=c.short;obtain⟨a,a,rfl,a⟩:=c.aC;have k:=dD a;have h:=dD hb;have d:=enters_of func105 Kr rfl;clear a c hb;obtain⟨n,x⟩:=kA l.length;rw[x.out]at b⊢;obtain⟨d,c⟩:∃d:Int->Prop,Xo (∀z,ze1 l m z=d z):=⟨ze1 l m,fun _=>rfl⟩;simp only[c.out];go_enter func104,ntmps104;go_wp2;go_loopg[5,8] n (fun a _ f wr=>∃b:Nat,b<=n/\n-b<=a/\f=I6 b/\Xo (zc w wr)/\Xo (∀(j:Nat)(q:Ar),j<b->l[j]?=Xa q->inZ q m=Xd))
 exact⟨0,nZ _,Wm,rfl,zc.refl w,fun j q r=>absurd r (nL _)⟩;obtain⟨b,a,a,rfl,i,A⟩:=hrel;by_cases f:b<n
 ·have s:=kC f
  obtain⟨q,y⟩:∃q,Xo (l[b]?=Xa q):=⟨_,gE (Rx x.out f)⟩;obtain⟨a,rfl,g⟩:=k.out b q y.out;obtain⟨B,C,D,E,F,G,H⟩:=g wr i.out;have a:=znL q m p wr (h.aA i);clear g;cases h:inZ q m with
  |true=>
   rw[h]at a;have u:Xo (d (b:Int)):=dD<|by
    rw[<-c.out];exact .inl ⟨b,q,rfl,y,h⟩
   clear h;go_wp2_with fail;refine a.mono ?_;rintro e L⟨rfl,k⟩;have t:=dD (i.trans k);clear k a B C D E F G H;go_wp2;go_ret;exact⟨⟨_,rfl,u⟩,t⟩
  |false=>
   rw[h]at a;have K:Xo (∀(j:Nat)(q:Ar),j<b+1->l[j]?=Xa q->inZ q m=Xd):=dD<|fun j q r g=>by
    by_cases e:j=b;·subst e;rw[y.out]at g;cases g;exact h
    exact A j q Wm g
   clear h;go_wp2_with fail;refine a.mono ?_;rintro e L⟨rfl,k⟩;have t:=dD (i.trans k);clear k a B C D E F G H;go_wp2;go_roundg (n-(b+1));exact⟨b+1,Wm,Wm,Gn,t,K⟩;omega
 have s:=kD f;have:b=n:=Wm;subst this;have u:Xo (d (-1:Int)):=dD<|by
  rw[<-c.out];refine .inr ⟨rfl,fun b a=>?_⟩;obtain⟨j,r⟩:=Yf a;exact A j b (by rw[<-x.out];exact(gS.1 r).1) r
 go_wp2;go_ret;exact⟨⟨_,rfl,u⟩,i⟩
theorem zgT(v l)(m:Int)(w)(b:zq arE w v l):
  Xp prog 65 #[v,I6 m] w fun e w'=>(∃z:Int,e=Xl (I6 z)/\ze1 l m z)/\zc w w':=by have a:∀(c:Fn)(first a:Array Xq)(w:Xn),(Instr.makeFunc c first a).run prog w=.ok (.func c first a) w:=fun _ _ _ _=>rfl;have a:Xp prog 104 #[v,.func (.func 105) #[] #[Xj (Xa ⟨w.heap.size,0,Xb⟩)]] (w.alloc (Xk #[I6 m] 3)) fun e w'=>(∃z:Int,e=Xl (I6 z)/\ze1 l m z)/\zc (w.alloc (Xk #[I6 m] 3)) w':=zgL v l m _ _ (Box.aE w _ _ rfl) (b.aA (za _ _));obtain⟨c,c,rfl,_⟩:=b.aC;clear b;generalize l.length=n at a⊢;go_enter func65,ntmps65;go_wp2_with fail;refine a.mono ?_;rintro e f⟨⟨z,rfl,c⟩,b⟩;have d:Xo (zc w f):=(za _ _).trans b;have f:=dD c;clear b a c;go_wp2;go_ret;exact⟨⟨_,rfl,f⟩,d⟩
def QX(l:List Ar):Nat->Option Ar
 |0=>Xb
 |k+1=>l[k]?
theorem zbO(p:Option Ar)(a:Ar)(l)(i:Nat):zbL p (a::l) i=if arW a≠0 then(arW a,(i:Int))else match p with|some b=>if a.fr<b.tz\/goB a b=Xc then(2,(i:Int))else zbL (Xa a) l (i+1)|none=>zbL (Xa a) l (i+1):=by cases p<;>rfl
theorem zmt(h:zbL (QX l k) (l.drop k) k=S)(a:l[k]?=Xa H)(b:arW H≠0):S=(arW H,(k:Int)):=by rw[Zf a,zbO,kE b]at h;exact h.symm
theorem zhb(h:zbL (QX l 0) (l.drop 0) 0=S)(a:l[0]?=Xa H)(b:arW H=0):zbL (QX l 1) (l.drop 1) 1=S:=by rw[Zf a,zbO,kF (fun h=>h b)]at h;grind[QX]
theorem zdr{q:Ar}(h:zbL (QX l (j+1)) (l.drop (j+1)) (j+1)=S)(hb:l[j]?=Xa H)(a:l[j+1]?=Xa q)(c:arW q=0)(d:q.fr<H.tz\/goB q H=Xc):S=(2,((j+1:Nat):Int)):=by rw[Zf a,zbO,kF (fun h=>h c)]at h;grind[QX]
theorem zj9{q:Ar}(h:zbL (QX l (j+1)) (l.drop (j+1)) (j+1)=S)(hb:l[j]?=Xa H)(c:l[j+1]?=Xa q)(d:arW q=0)(e:¬q.fr<H.tz)(a:goB q H=Xd):zbL (QX l (j+1+1)) (l.drop (j+1+1)) (j+1+1)=S:=by rw[Zf c,zbO,kF (fun h=>h d)]at h;grind[QX]
theorem zms(h:zbL (QX l l.length) (l.drop l.length) l.length=S):S=(0,0):=by rw[List.drop_length,zbL]at h;exact h.symm
theorem zhe(h:¬16<l.length):zbL (QX l 0) (l.drop 0) 0=wrL l:=by unfold wrL;rw[kF h];rfl
theorem ziT(v l w)(a5:zq arE w v l):
  Xp prog 158 #[v] w fun e w'=>e=Xl (Xi #[I6 (wrL l).1,I6 (wrL l).2])/\zc w w':=by
 have a3:=a5.short;obtain⟨cd,ce,rfl,C⟩:=a5.aC;have Z:=dD C;have aw:Xo (∀(q:Ar)W,Xp prog 179 #[Xi #[I6 q.fr,I6 q.tz,Xh q.rd,Xh q.wr,Xh q.sh,I6 q.file,I6 q.base]] W fun e w'=>e=Xl (I6 (arW q))/\zc W w'):=fun q W=>zgd q W;have aq:Xo (∀(q b:Ar)W,jS b->Xp prog 180 #[Xi #[I6 q.fr,I6 q.tz,Xh q.rd,Xh q.wr,Xh q.sh,I6 q.file,I6 q.base],Xi #[I6 b.fr,I6 b.tz,Xh b.rd,Xh b.wr,Xh b.sh,I6 b.file,I6 b.base]] W fun e w'=>e=Xl (Xh (goB q b))/\zc W w'):=fun q b W a2=>zlK q b W a2;clear C a5;have ak:Xo (¬16<l.length->zbL (QX l 0) (l.drop 0) 0=wrL l):=zhe;have ah:Xo (16<l.length->wrL l=(4,0)):=fun a2=>by unfold wrL;rw[kE a2]
 have V:Xo (∀T,zbL (QX l l.length) (l.drop l.length) l.length=T->T=(0,0)):=fun T=>zms;obtain⟨n,R⟩:=kA l.length;rw[R.out]at a3⊢;have A:Xo (¬16<n->zbL (QX l 0) (l.drop 0) 0=wrL l):=dD<|Ry R.out ak.out;have z:Xo (16<n->wrL l=(4,0)):=dD<|Ry R.out ah.out;have F:Xo (∀T,zbL (QX l n) (l.drop n) n=T->T=(0,0)):=dD<|Ry R.out V.out
 skip
 generalize c5:wrL l=D at A z⊢;clear c5;obtain⟨al,s⟩:=kB (w.alloc (Xk #[I6 0,I6 0] 150));have X:=gA s;have a1:=xA s;have I:Xo (_=al):=s;clear s;by_cases a:16<n
 ·have m:=dD<|z.out a;have ar:=kC a;go_enter func158,ntmps158;go_upto_region 1 with fail;rw[I.out];obtain⟨a8,a9⟩:=a1.k2;have aa:=a1.f;have p:Xo (Box ((al.setCell ⟨w.heap.size,0,Xb⟩ (I6 4)).setCell ⟨w.heap.size,1,Xb⟩ (I6 0)) w.heap.size [I6 4,I6 0]):=dD<|(a1.set 0 _).set 1 _;have r:Xo (zc w ((al.setCell ⟨w.heap.size,0,Xb⟩ (I6 4)).setCell ⟨w.heap.size,1,Xb⟩ (I6 0))):=dD<|zB (zB X Sm _) Sm _;go_wp2;refine bodyPost_ret (z8 (vs:=[I6 4,I6 0]) rfl _ rfl p underlying150 rfl zsP) rfl ⟨?_,r⟩;rw[m.out]
 have ar:=kD a;have bn:=dD<|A.out a;go_enter func158,ntmps158;go_upto_region 1 with fail;rw[I.out];go_wp2;go_loopg[12] n (fun c4 be wr=>∃c:Nat,c<=n/\n-c<=c4/\be=I6 c/\Xo (zc w wr)/\Xo (Box wr w.heap.size [I6 0,I6 0])/\Xo (zbL (QX l c) (l.drop c) c=D)/\Xo (∀(j:Nat)q,j<c->l[j]?=Xa q->jS q))
 exact⟨0,nZ _,Wm,rfl,X,a1,bn,fun j q bi=>absurd bi (nL _)⟩;obtain⟨c,c9,c6,rfl,af,Q,S,bf⟩:=hrel;by_cases M:c<n
 ·have a4:=kC M
  obtain⟨q,H⟩:∃q,Xo (l[c]?=Xa q):=⟨_,gE (Rx R.out M)⟩;obtain⟨d,rfl,f⟩:=Z.out c q H.out;obtain⟨bp,bq,br,bs,bt,bu,bv⟩:=f wr af.out;have bo:=dD Q.lt;obtain⟨ae,aj⟩:=kA wr.heap.size;have Y:Xo (w.heap.size<ae):=show _<_ by rw[<-aj.out];exact bo.out
  clear f;go_upto_region 6 with fail;refine nW fun cc i=>?_;have bl:=gT i af;have bk:=yA i Q;have bg:=xP i aj;rw[aj.out];clear i bp bq br bs bt bu bv;go_wp2_with(refine zE rfl 77 (.tmp 4) rfl ae rfl bg underlying77 rfl zsO ?_)
  refine(aw.out q _).mono ?_;rintro e h⟨rfl,ab⟩;have g:=dD (bl.trans ab);have E:=dD (bk.aA ab);have B:=dD (bg.aA ab);clear ab;have bj:ae≠w.heap.size:=Hm Y.out;have av:w.heap.size≠ae:=Hm Y.out;by_cases N:arW q=0
  ·have a7:=dD N;have bd:(arW q !=0)=Xd:=(by simp[N]);have ai:=dD<|QG.1 N;have a0:Xo (∀(j:Nat)P,j<c+1->l[j]?=Xa P->jS P):=show∀(j:Nat)P,_ from fun j P bi x=>by
    by_cases e:j=c;·subst e;rw[H.out]at x;cases x;exact ai.out
    exact bf j P Wm x
   clear N;go_upto_region 9 with fail;generalize arW q=cg;cases c with
   |zero=>
    have G:=dD<|zhb S H a7.out;have bb:¬(0:Int)<((0:Nat):Int):=Dc;have bc:decide ((0:Int)<((0:Nat):Int))=Xd:=Dc;go_quiet(fail);go_wp2;go_roundg (n-1);exact⟨1,Wm,Wm,Gn,g.trans (show Below _ _ _ from bD (bR _ _) _),E.aA (show Below _ _ _ from bD (bR _ _) _),G,a0⟩;omega
   |succ j=>
    obtain⟨b,U⟩:∃b,Xo (l[j]?=Xa b):=⟨_,gE (by rw[R.out];omega)⟩;have ag:Xo (jS b):=bf.out j b Wm U.out;have bb:(0:Int)<((j+1:Nat):Int):=Wm;have bc:decide ((0:Int)<((j+1:Nat):Int))=Xc:=Sm;have c7:((j+1:Nat):Int)-1=(j:Int):=Wm;have c8:(j:Int)<(n:Int):=Wm;obtain⟨am,an,f⟩:=Z.out j b U.out;obtain rfl:d=am:=(by cases an;rfl);by_cases ac:q.fr<b.tz
    ·have m:Xo (D=(2,((j+1:Nat):Int))):=zdr S U H a7 (.inl ac);have ao:decide (q.fr<b.tz)=Xc:=Si ac;obtain⟨bw,bx,bz,c0,c1,c2,c3⟩:=f h g.out;have ca:=B.c 0 rfl;clear f;go_quiet(fail);obtain⟨K,t⟩:=kB (h.drewN nq);have a6:Xo (zc w K):=dD (by rw[<-t];exact g.trans (show Below _ _ _ from bD (bR _ _) _));have k:Xo (Box K w.heap.size [I6 0,I6 0]):=dD (by rw[<-t];exact E.aA (show Below _ _ _ from bD (bR _ _) _));rw[t];clear t bw bx bz c0 c1 c2 c3 ca;obtain⟨a8,a9⟩:=k.k2;have aa:=k.f;have p:Xo (Box ((K.setCell ⟨w.heap.size,0,Xb⟩ (I6 2)).setCell ⟨w.heap.size,1,Xb⟩ (I6 ((j+1:Nat):Int))) w.heap.size [I6 2,I6 ((j+1:Nat):Int)]):=dD<|(k.set 0 _).set 1 _;have r:Xo (zc w ((K.setCell ⟨w.heap.size,0,Xb⟩ (I6 2)).setCell ⟨w.heap.size,1,Xb⟩ (I6 ((j+1:Nat):Int)))):=dD<|zB (zB a6 Sm _) Sm _;go_wp2;refine bodyPost_ret (z8 (vs:=[I6 2,I6 ((j+1:Nat):Int)]) rfl _ rfl p underlying150 rfl zsP) rfl ⟨?_,r⟩;rw[m.out]
    have ao:decide (q.fr<b.tz)=Xd:=Si ac;have bm:=dD ac;have ax:=B.gw 0 rfl;have ay:=B.gw 1 rfl;have az:=B.gw 2 rfl;have b0:=B.gw 3 rfl;have b1:=B.gw 4 rfl;have b2:=B.gw 5 rfl;have b3:=B.gw 6 rfl;have b4:=fun y:zj h=>(f _ (g.trans y.aA)).1;have b5:=fun y:zj h=>(f _ (g.trans y.aA)).2.1;have b6:=fun y:zj h=>(f _ (g.trans y.aA)).2.2.1;have b7:=fun y:zj h=>(f _ (g.trans y.aA)).2.2.2.1;have b8:=fun y:zj h=>(f _ (g.trans y.aA)).2.2.2.2.1;have b9:=fun y:zj h=>(f _ (g.trans y.aA)).2.2.2.2.2.1;have ba:=fun y:zj h=>(f _ (g.trans y.aA)).2.2.2.2.2.2;have au:Nonempty (zj h):=⟨⟨_,zc.refl _⟩⟩;clear f;refine jK [(19,⟨fun v=>v=Xh (goB q b),fun _ _=>True⟩)] zY Kr ?_ ?_ ?_
    ·intro P x
     simp at x;subst x;exact⟨_,rfl⟩
    ·intro P x
     simp at x;subst x;exact fun _ _ _ _ a2=>a2
    iterate 19 refine zf ?_
    refine zI rfl rfl (fun w' c6 bh=>?_) (fun cf a5=>?_);·refine zO.call [Xi #[I6 q.fr,I6 q.tz,Xh q.rd,Xh q.wr,Xh q.sh,I6 q.file,I6 q.base],Xi #[I6 b.fr,I6 b.tz,Xh b.rd,Xh b.wr,Xh b.sh,I6 b.file,I6 b.base]] rfl func180 rfl rfl rfl ?_;refine(aq.out q b w' ag).mono ?_;rintro e cb⟨rfl,ap⟩;exact⟨_,rfl,ap,rfl,trivial⟩
    subst a5;refine Uq ?_;iterate 2 refine zf ?_
    refine z5 fun K L bh=>?_;have a6:=dD (g.trans L);have k:=dD (E.aA L);clear L bh ax ay az b0 b1 b2 b3 b4 b5 b6 b7 b8 b9 ba au;cases u:goB q b with
    |true=>
     have m:Xo (D=(2,((j+1:Nat):Int))):=zdr S U H a7 (.inr u);clear u;obtain⟨a8,a9⟩:=k.k2;have aa:=k.f;have p:Xo (Box ((K.setCell ⟨w.heap.size,0,Xb⟩ (I6 2)).setCell ⟨w.heap.size,1,Xb⟩ (I6 ((j+1:Nat):Int))) w.heap.size [I6 2,I6 ((j+1:Nat):Int)]):=show Box _ _ _ from(k.set 0 _).set 1 _;have r:Xo (zc w ((K.setCell ⟨w.heap.size,0,Xb⟩ (I6 2)).setCell ⟨w.heap.size,1,Xb⟩ (I6 ((j+1:Nat):Int)))):=dD<|zB (zB a6 Sm _) Sm _;go_wp2;refine bodyPost_ret (z8 (vs:=[I6 2,I6 ((j+1:Nat):Int)]) rfl _ rfl p underlying150 rfl zsP) rfl ⟨?_,r⟩;rw[m.out]
    |false=>
     have G:=dD<|zj9 S U H a7 bm u;clear u;go_wp2;go_roundg (n-(j+1+1));exact⟨j+1+1,Wm,Wm,Gn,a6,k,G,a0⟩;omega
  have m:=dD<|zmt S H N;have bd:(arW q !=0)=Xc:=by simp[N]
  clear N;obtain⟨a8,a9⟩:=E.k2;have aa:=E.f;have p:Xo (Box ((h.setCell ⟨w.heap.size,0,Xb⟩ (I6 (arW q))).setCell ⟨w.heap.size,1,Xb⟩ (I6 (c:Int))) w.heap.size [I6 (arW q),I6 (c:Int)]):=dD<|(E.set 0 _).set 1 _;have r:Xo (zc w ((h.setCell ⟨w.heap.size,0,Xb⟩ (I6 (arW q))).setCell ⟨w.heap.size,1,Xb⟩ (I6 (c:Int)))):=dD<|zB (zB g Sm _) Sm _;go_wp2;refine bodyPost_ret (z8 (vs:=[I6 (arW q),I6 (c:Int)]) rfl _ rfl p underlying150 rfl zsP) rfl ⟨?_,r⟩;rw[m.out]
 have a4:=kD M;have:c=n:=Wm;subst this;have m:=dD<|F.out _ S.out;obtain⟨a8,a9⟩:=Q.k2;have aa:=Q.f;have p:Xo (Box ((wr.setCell ⟨w.heap.size,0,Xb⟩ (I6 0)).setCell ⟨w.heap.size,1,Xb⟩ (I6 0)) w.heap.size [I6 0,I6 0]):=show Box _ _ _ from(Q.set 0 _).set 1 _;have r:Xo (zc w ((wr.setCell ⟨w.heap.size,0,Xb⟩ (I6 0)).setCell ⟨w.heap.size,1,Xb⟩ (I6 0))):=dD<|zB (zB af Sm _) Sm _;go_wp2;refine bodyPost_ret (z8 (vs:=[I6 0,I6 0]) rfl _ rfl p underlying150 rfl zsP) rfl ⟨?_,r⟩;rw[m.out]
theorem zpH(e)(l:List En):esW (e::l)=if enW e=0 then esW l else enW e:=rfl
theorem zoL(h:List En)(t:List (List En)):tbW (h::t)=if haW h=0 then tbW t else haW h:=rfl
theorem zrP(a:C.length=8):haW C=if esW C=0 then(if zaV C=Xc then 0 else 2)else esW C:=by unfold haW;rw[kF Wm,kE a]
theorem zga(v)(fs:List En)(w)(c:zq enE w v fs):
  Xp prog 173 #[v] w fun e w'=>e=Xl (I6 (haW fs))/\zc w w':=by
 have b:=c.short;have d:=dD c;obtain⟨g,i,rfl,a⟩:=c.ens;have m:=dD a;clear a c;obtain⟨n,h⟩:=kA fs.length;obtain⟨Z,p⟩:=kA (haW fs);rw[h.out]at b d⊢;rw[p.out];by_cases j:n=0
 ·have l:Xo (Z=0):=dD<|by rw[<-p.out];unfold haW;rw[kE (Rx h.out j)]
  subst j;go_enter func173,ntmps173;go_wp2;go_ret;exact⟨Rr l.out,zc.refl _⟩
 have a:((n:Int)==0)=Xd:=Si j;by_cases r:n=8
 ·have A:=dD (h.trans r);have x:((n:Int)!=8)=Xd:=by simp[r]
  clear j r;have f:=fun W(a:zc w W)=>QA (O g n i) fs W (d.aA a);go_enter func173,ntmps173;go_wp2;go_loopg[14] n (fun b a wr=>∃c:Nat,c<=n/\n-c<=b/\a=I6 c/\Xo (zc w wr)/\Xo (esW (fs.drop c)=esW fs))
  exact⟨0,nZ _,Wm,rfl,zc.refl w,rfl⟩;obtain⟨c,a,a,rfl,k,t⟩:=hrel;by_cases i:c<n
  ·have s:=kC i
   obtain⟨q,g⟩:∃q,Xo (fs[c]?=Xa q):=⟨_,gE (Rx h.out i)⟩;obtain⟨a,rfl,u⟩:=m.out c q g.out;obtain⟨B,C,D⟩:=u wr k.out;obtain⟨b,d⟩:=kB (wr.alloc (Xk #[I6 q.kind,I6 q.n,Xh q.wr] 55));have y:=gT d k;have m:=dD d;have a:=zbj q.kind q.n q.wr b;have b:Xo (esW (fs.drop c)=if enW ⟨q.kind,q.n,q.wr⟩=0 then esW (fs.drop (c+1))else enW ⟨q.kind,q.n,q.wr⟩):=show _=_ by rw[Zf g.out,zpH]
   clear u d;generalize enW ⟨q.kind,q.n,q.wr⟩=z at a b;by_cases q:z=0
   ·have E:Xo (esW (fs.drop (c+1))=esW fs):=dD<|by rw[<-t.out,b.out,kE q]
    subst q;go_wp2_with fail;rw[m.out];refine a.mono ?_;rintro e u⟨rfl,d⟩;have g:=dD (y.trans d);clear d a B C D;go_wp2;go_roundg (n-(c+1));exact⟨c+1,Wm,Wm,Gn,g,E⟩;omega
   have E:(z !=0)=Xc:=Si q;have l:Xo (Z=z):=dD<|by
    have z:=t.out;rw[b.out,kF q]at z;rw[<-p.out,zrP A.out,<-z,kF q]
   go_wp2_with fail;rw[m.out];refine a.mono ?_;rintro e u⟨rfl,d⟩;have g:=dD (y.trans d);clear d a B C D;go_wp2;go_ret;exact⟨Rr l.out,g⟩
  have s:=kD i;have:c=n:=Wm;subst this;have c:Xo (esW fs=0):=dD<|by
   rw[<-t.out,Yb (by rw[h.out];exact nR _)];rfl
  have a:=f wr k.out;have b:Xo (Z=if zaV fs=Xc then 0 else 2):=dD (by rw[<-p.out,zrP A.out,c.out,kE rfl]);generalize zaV fs=A at a b;clear f;cases A with
  |true=>
   go_wp2_with fail;refine a.mono ?_;rintro e u⟨rfl,d⟩;have g:=dD (k.trans d);clear d a;go_wp2;go_ret;exact⟨Rr b.out,g⟩
  |false=>
   go_wp2_with fail;refine a.mono ?_;rintro e u⟨rfl,d⟩;have g:=dD (k.trans d);clear d a;go_wp2;go_ret;exact⟨Rr b.out,g⟩
 have x:((n:Int)!=8)=Xc:=by simp;omega
 have l:Xo (Z=2):=dD<|by rw[<-p.out];unfold haW;rw[kF (Rx h.out j),kF (Rx h.out r)]
 clear j r;go_enter func173,ntmps173;go_wp2;go_ret;exact⟨Rr l.out,zc.refl _⟩
theorem zdH(vs:List Xq)(t:List (List En))(w)(a:JT w vs t):
  Xp prog 146 #[Xi vs.toArray] w fun e w'=>e=Xl (I6 (tbW t))/\zc w w':=by
 have p:=dD a;have d:=dD a.len;clear a;obtain⟨Z,n⟩:=kA (tbW t);rw[n.out];obtain⟨a,a⟩:=kB (w.alloc (Xk vs.toArray 61));have c:=gA a;have f:=xA a;have b:=dD a;clear a;go_enter func146,ntmps146;go_upto_region 1 with fail;rw[b.out];go_wp2_with(refine qO rfl (.tmp 1) rfl w.heap.size rfl f d.out ?_)
 go_loopg[7] 8 (fun a d wr=>∃b:Nat,b<=8/\8-b<=a/\d=I6 b/\Xo (zc w wr)/\Xo (tbW (t.drop b)=tbW t))
 exact⟨0,nZ _,Wm,rfl,c,rfl⟩;obtain⟨b,a,a,rfl,i,k⟩:=hrel;by_cases f:b<8
 ·have g:(b:Int)<8:=Wm
  obtain⟨c,r,q,j,h,l⟩:=p.half f;have m:=dD j;have d:=dD h;have a:=zga (O c q.length r) q wr (l.aA i);have c:Xo (tbW (t.drop b)=if haW q=0 then tbW (t.drop (b+1))else haW q):=show _=_ by rw[Zf m.out,zoL]
  clear j h l;generalize haW q=z at a c;generalize q.length=nq at a d;by_cases j:z=0
  ·have m:Xo (tbW (t.drop (b+1))=tbW t):=dD<|by rw[<-k.out,c.out,kE j]
   subst j;go_wp2_with(refine zdP rfl (.tmp 6) (.tmp 7) rfl vs rfl b rfl f d.out ?_)
   refine a.mono ?_;rintro e r⟨rfl,h⟩;have l:=dD (i.trans h);clear h a;go_wp2;go_roundg (8-(b+1));exact⟨b+1,Wm,Wm,Gn,l,m⟩;omega
  have m:(z !=0)=Xc:=Si j;have m:Xo (Z=z):=dD<|by
   have q:=k.out;rw[c.out,kF j]at q;rw[<-n.out,<-q]
  skip
  go_wp2_with(refine zdP rfl (.tmp 6) (.tmp 7) rfl vs rfl b rfl f d.out ?_)
  refine a.mono ?_;rintro e r⟨rfl,h⟩;have l:=dD (i.trans h);clear h a;go_wp2;go_ret;exact⟨Rr m.out,l⟩
 have g:¬(b:Int)<8:=Wm;have:b=8:=Wm;subst this;have m:Xo (Z=0):=dD<|by
  rw[<-n.out,<-k.out,Yb (by rw[p.aL];exact nR _)];rfl
 go_wp2;go_ret;exact⟨Rr m.out,i⟩
def enV(e:En):Xq:=Xi #[Xe Xf e.kind,Xe Xf e.n,Xh e.wr]
theorem zfD(a:0<=z)(b:z<64):∃i k:Nat,i<8/\k<8/\z=8*i+k/\z/8=(i:Int)/\z%8=(k:Int)/\z.tdiv 8=(i:Int)/\z.tmod 8=(k:Int)/\z.toNat/8=i/\z.toNat%8=k:=by
 refine⟨z.toNat/8,z.toNat%8,Wm,Wm,Wm,Wm,Wm,?_,?_,rfl,rfl⟩;·grind
 grind
theorem JJ(vs:List Xq)(t:List (List En))(n:Int)(w)(a:JT w vs t):
  Xp prog 69 #[Xi vs.toArray,I6 n] w fun e w'=>e=Xl (enV (zfi t n))/\zc w w':=by
 have j:=dD a;have b:=dD a.len;clear a;obtain⟨Z,s⟩:=kA (zfi t n);rw[s.out];obtain⟨C,a⟩:=kB ((w.alloc (Xk vs.toArray 61)).alloc (Xk #[I6 0,I6 0,Xh Xd] 55));have b:=gD2 a;have B:=x2a a;have g:=x2b a;have f:=dD a;clear a;have a:∀(W:Xn)(u c x:Xq),Box W (w.heap.size+1) [I6 0,I6 0,Xh Xd]->zc w W->zc w (((W.setCell ⟨w.heap.size+1,0,Xb⟩ u).setCell ⟨w.heap.size+1,1,Xb⟩ c).setCell ⟨w.heap.size+1,2,Xb⟩ x):=fun W u c x _ c=>
  Below.setCell (Below.setCell (Below.setCell c (p:=⟨w.heap.size+1,0,Xb⟩) Sm _) (p:=⟨w.heap.size+1,1,Xb⟩) Sm _) (p:=⟨w.heap.size+1,2,Xb⟩) Sm _
 have r:=dD a;clear a;obtain⟨a,a,a⟩:=g.c3;have a:=g.f;by_cases q:0<=n/\n<64
 ·obtain⟨a,d⟩:=q;obtain⟨y,k,D,c,h,c,c,c,c,z,A⟩:=zfD a d;have l:=fun W=>JQ (m:=n) (n:=64) a d W;obtain⟨c,c,i,u,c,x⟩:=j.half D;have j:Xo (Z=i[k]?.getD en0):=dD<|by
   rw[<-s.out];unfold zfi;rw[kE ⟨a,d⟩,z,A];unfold zbg;rw[u];rfl
  have D:=B.c y c;obtain⟨_,_,d,a⟩:=x.ens;cases d;have B:=dD a;have d:(y:Int)<8:=Wm;clear a x u c z A h;obtain⟨nq,d⟩:=kA i.length;rw[d.out]at D;by_cases h:k<nq
  ·obtain⟨e,a⟩:∃e,Xo (i[k]?=Xa e):=⟨_,gE (Rx d.out h)⟩
   obtain⟨c,rfl,u⟩:=B.out k e a.out;obtain⟨c,c,c⟩:=u C b.out;have c:Xo (Z=e):=dD (by rw[j.out,a.out];rfl);have i:¬(nq:Int)<=(k:Int):=Wm;have a:decide ((nq:Int)<=(k:Int))=Xd:=decide_eq_false i;have a:=kC h;clear u;go_enter func69,ntmps69;go_wp2_with fail;rw[f.out];refine(l _).mono ?_;rintro e w'⟨rfl,a⟩;rw[a];clear a w';go_wp2;refine bodyPost_ret (v:=Xi #[I6 e.kind,I6 e.n,Xh e.wr]) (by simp[results,Tryz.results69,go_sem, *]) rfl ⟨?_,?_⟩;·rw[c.out];rfl
   exact r _ _ _ _ g b.out
  have c:Xo (Z=en0):=dD (by rw[j.out,gN (by rw[d.out];omega)];rfl);have i:(nq:Int)<=(k:Int):=Wm;go_enter func69,ntmps69;go_wp2_with fail;rw[f.out];refine(l _).mono ?_;rintro e w'⟨rfl,a⟩;rw[a];clear a w';go_wp2;refine bodyPost_ret (v:=Xi #[I6 0,I6 0,Xh Xd]) (by simp[results,Tryz.results69,go_sem, *]) rfl ⟨?_,?_⟩;·rw[c.out];rfl
  exact r _ _ _ _ g b.out
 have l:=fun W=>zct (m:=n) (n:=64) q W;have j:Xo (Z=en0):=dD<|by rw[<-s.out];unfold zfi;rw[kF q]
 clear q;go_enter func69,ntmps69;go_wp2_with fail;rw[f.out];refine(l _).mono ?_;rintro e w'⟨rfl,a⟩;rw[a];clear a w';go_wp2;refine bodyPost_ret (v:=Xi #[I6 0,I6 0,Xh Xd]) (by simp[results,Tryz.results69,go_sem, *]) rfl ⟨?_,?_⟩;·rw[j.out];rfl
 exact r _ _ _ _ g b.out
def Qt(_:En):Bool:=true
def zmp(k n:Int)(e:En):Bool:=(e.kind==k)&&(e.n==n)
theorem zlm(k n:Int)(b:Bool)(w):
  Xp prog 120 #[Xi #[I6 k,I6 n,Xh b]] w fun e w'=>e=Xl (Xh Xc)/\zc w w':=by go_enter func120,ntmps120;go_wp2;go_ret;exact⟨rfl,za _ _⟩
theorem znM(a c:Int)(b:Bool)(k n:Int)(d f:Nat)(w)(g:Box w d [I6 k])(h:Box w f [I6 n]):
  Xp prog 172 #[Xi #[I6 a,I6 c,Xh b],Xj (Xa ⟨d,0,Xb⟩),Xj (Xa ⟨f,0,Xb⟩)] w fun e w'=>e=Xl (Xh (zmp k n ⟨a,c,b⟩))/\zc w w':=by
 have H:Xo (zmp k n ⟨a,c,b⟩=((a==k)&&(c==n))):=rfl;generalize zmp k n ⟨a,c,b⟩=F at H⊢;have b:∀b:Obj,(w.alloc b).cell? ⟨d,0,Xb⟩=Xa (I6 k):=fun b=>(g.alloc b).c 0 rfl;have d:∀b:Obj,(w.alloc b).cell? ⟨f,0,Xb⟩=Xa (I6 n):=fun b=>(h.alloc b).c 0 rfl;clear g h;by_cases d:a=k
 ·have b:(a==k)=Xc:=Si d
  have f:Xo (F=(c==n)):=dD (by rw[H.out,b];rfl);clear d;go_enter func172,ntmps172;go_wp2;go_ret;exact⟨Rr f.out,za _ _⟩
 have b:(a==k)=Xd:=Si d;have f:Xo (F=Xd):=dD<|by rw[H.out,b];rfl
 clear d;go_enter func172,ntmps172;go_wp2;go_ret;exact⟨Rr f.out,za _ _⟩
theorem zgf(vs:List Xq)(t:List (List En))(w:Xn)(a:JT w vs t):
  Xp prog 119 #[Xi vs.toArray,.func (.func 120) #[] #[]] w fun e w'=>∃v,e=Xl v/\zb blE w.heap.size w' v (qB t Qt 64)/\zc w w':=by
 have i:=dD a;have p:=dD a.len;clear a;obtain⟨l,a⟩:=kB (w.alloc (Xk vs.toArray 61));have h:=gA a;have j:=xA a;have f:=dD a;clear a;obtain⟨b,a⟩:=kA (qB t Qt);have c:Xo (b 0=[]):=show _=_ by rw[<-a.out];rfl
 have d:Xo (∀m:Nat,m<64->b (m+1)=if enS (zfi t (m:Int))&&Qt (zfi t (m:Int))then b m++[(m:Int)]else b m):=dD<|fun m g=>by
  rw[<-a.out,zaC];have:zfi t (m:Int)=zbg t (m/8) (m%8):=by unfold zfi;rw[kE Wm,tN]
  rw[this]
 have A:Xo (∀m,(b m).length<=m):=dD<|fun m=>by rw[<-a.out];exact zbx _ _ _
 rw[a.out];have a:=enters_of func120 Kr rfl;go_enter func119,ntmps119;go_upto_region 1 with fail;rw[f.out];go_wp2;go_loopg[5,8] 64 (fun f g k wr=>∃(a:Nat)(m:Option Addr)(q n:Nat),a<=64/\64-a<=f/\k=I6 a/\g=O m q n/\Xo (zc l wr)/\Xo (zb blE l.heap.size wr (O m q n) (b a)))
 exact⟨0,Xb,0,0,nZ _,Wm,rfl,rfl,zc.refl _,by rw[c.out];exact zb.nil _ _ _⟩;obtain⟨a,m,q,n,c,K,rfl,rfl,s,G⟩:=hrel;by_cases g:a<64
 ·have r:(a:Int)<64:=Wm
  have c:=JJ vs t (a:Int) wr (i.aA (h.trans s));have u:=dD (j.aA s);have f:=d.out a g;obtain⟨x,d⟩:=kA (zfi t (a:Int));rw[d.out]at c f;have d:=dD f;obtain⟨j,k,i⟩:=x;go_wp2_with(refine qO rfl (.tmp 2) rfl w.heap.size rfl u p.out ?_)
  refine c.mono ?_;rintro e p⟨rfl,f⟩;have u:=dD (s.trans f);have x:=dD (G.aA f);clear f c;simp only[enV];go_upto_region 6 with fail;obtain⟨y,f⟩:=kB p.heap.size;obtain⟨g,c⟩:=kB (p.alloc (Xk #[I6 j,I6 k,Xh i] 55));have D:=gT c u;have F:Xo (zb blE l.heap.size g (O m q n) (b a)):=dD (by rw[<-c];exact x.aA (za _ _));have H:Xo (Box g y [I6 j,I6 k,Xh i]):=dD (by rw[<-c];exact Box.aE _ _ _ f.symm);rw[c];rw[f];clear c f;obtain⟨u,x,y⟩:=H.c3;have c:=zcK j k i g;cases p:enS ⟨j,k,i⟩with
  |false=>
   have f:Xo (b (a+1)=b a):=dD (by rw[d.out,p];rfl);rw[p]at c;clear p;go_wp2_with fail;refine c.mono ?_;rintro e C⟨rfl,g⟩;have z:=dD (D.trans g);have B:Xo (zb blE l.heap.size C (O m q n) (b (a+1))):=show zb _ _ _ _ _ by rw[f.out];exact F.aA g
   clear g c u x y;go_wp2;go_roundg (64-(a+1));exact⟨a+1,m,q,n,Wm,Wm,Gn,rfl,z,B⟩;omega
  |true=>
   rw[p]at c;have f:Xo (b (a+1)=if Qt ⟨j,k,i⟩=Xc then b a++[(a:Int)]else b a):=dD (by rw[d.out,p];rfl);clear p;go_wp2_with fail;refine c.mono ?_;rintro e C⟨rfl,g⟩;have z:=dD (D.trans g);have B:=dD (F.aA g);have d:=dD (H.aA g);clear g c u x y;obtain⟨u,x,y⟩:=d.c3;have c:=zlm j k i C;rw[kE (show Qt ⟨j,k,i⟩=Xc from rfl)]at f;go_wp2_with fail;refine c.mono ?_;rintro e d⟨rfl,g⟩;have i:=dD (z.trans g);have j:=dD (B.aA g);clear g c u x y;have c:Xo (zq blE (d.alloc (Xk #[I6 (a:Int)] 3)) (O (Xa ⟨d.heap.size,0,Xb⟩) 1 1) [(a:Int)]):=Zp blE d (a:Int) _ _ rfl Dc;go_wp2_with(at_builtin;refine zw (E:=blE) rfl (.tmp 21) (.tmp 23) rfl l.heap.size _ (b a) rfl (j.aA (za _ _)) _ [(a:Int)] rfl c.out ?qb ?qc ?_)
   case qb=>
    have:=A.out a;show(_+1)*8<=_;omega
   case qc=>
    have:=bS i.out;simp;omega
   intro c k c d;obtain⟨m,n,rfl⟩:=c.form;have g:Xo (zb blE l.heap.size k (.slice m (b a++[(a:Int)]).length n) (b (a+1))):=dD<|Rx f.out c;have b:=dD<|z2 (i.trans (za _ _)) d (fun f K=>(j.lt f K).1);clear c d;go_wp2;go_roundg (64-(a+1));exact⟨a+1,_,_,_,Wm,Wm,Gn,rfl,b,g⟩;omega
 have r:¬(a:Int)<64:=Wm;have:a=64:=Wm;subst this;have b:=dD<|G.base (bS h);have a:=dD (h.trans s);go_wp2;go_ret;exact⟨_,rfl,b,a⟩
theorem zhn(vs:List Xq)(t:List (List En))(k n:Int)(H K:Nat)(w:Xn)(a:JT w vs t)(b:Box w H [I6 k])(c:Box w K [I6 n]):
  Xp prog 119 #[Xi vs.toArray,.func (.func 172) #[] #[Xj (Xa ⟨H,0,Xb⟩),Xj (Xa ⟨K,0,Xb⟩)]] w fun e w'=>∃v,e=Xl v/\zb blE w.heap.size w' v (qB t (zmp k n) 64)/\zc w w':=by
 have q:=dD a;have s:=dD a.len;clear a;have R:=dD b;have D:=dD c;clear b c;obtain⟨p,a⟩:=kB (w.alloc (Xk vs.toArray 61));have f:=gA a;have r:=xA a;have d:=dD a;clear a;obtain⟨c,a⟩:=kA (qB t (zmp k n));have b:Xo (c 0=[]):=show _=_ by rw[<-a.out];rfl
 have g:Xo (∀m:Nat,m<64->c (m+1)=if enS (zfi t (m:Int))&&(zmp k n) (zfi t (m:Int))then c m++[(m:Int)]else c m):=dD<|fun m h=>by
  rw[<-a.out,zaC];have:zfi t (m:Int)=zbg t (m/8) (m%8):=by unfold zfi;rw[kE Wm,tN]
  rw[this]
 have F:Xo (∀m,(c m).length<=m):=dD<|fun m=>by rw[<-a.out];exact zbx _ _ _
 rw[a.out];have a:=enters_of func172 Kr rfl;go_enter func119,ntmps119;go_upto_region 1 with fail;rw[d.out];go_wp2;go_loopg[5,8] 64 (fun d j m wr=>∃(a:Nat)(h:Option Addr)(l i:Nat),a<=64/\64-a<=d/\m=I6 a/\j=O h l i/\Xo (zc p wr)/\Xo (zb blE p.heap.size wr (O h l i) (c a)))
 exact⟨0,Xb,0,0,nZ _,Wm,rfl,rfl,zc.refl _,by rw[b.out];exact zb.nil _ _ _⟩;obtain⟨a,h,l,i,b,Q,rfl,rfl,B,N⟩:=hrel;by_cases j:a<64
 ·have x:(a:Int)<64:=Wm
  have b:=JJ vs t (a:Int) wr (q.aA (f.trans B));have u:=dD (r.aA B);have d:=g.out a j;obtain⟨j,g⟩:=kA (zfi t (a:Int));rw[g.out]at b d;have g:=dD d;obtain⟨q,r,m⟩:=j;go_wp2_with(refine qO rfl (.tmp 2) rfl w.heap.size rfl u s.out ?_)
  refine b.mono ?_;rintro e s⟨rfl,d⟩;have u:=dD (B.trans d);have y:=dD (N.aA d);clear d b;simp only[enV];go_upto_region 6 with fail;obtain⟨z,d⟩:=kB s.heap.size;obtain⟨j,b⟩:=kB (s.alloc (Xk #[I6 q,I6 r,Xh m] 55));have L:=gT b u;have M:Xo (zb blE p.heap.size j (O h l i) (c a)):=dD (by rw[<-b];exact y.aA (za _ _));have P:Xo (Box j z [I6 q,I6 r,Xh m]):=dD (by rw[<-b];exact Box.aE _ _ _ d.symm);rw[b];rw[d];clear b d;obtain⟨y,z,A⟩:=P.c3;have d:=zcK q r m j;cases u:enS ⟨q,r,m⟩with
  |false=>
   have b:Xo (c (a+1)=c a):=dD (by rw[g.out,u];rfl);rw[u]at d;clear u;go_wp2_with fail;refine d.mono ?_;rintro e G⟨rfl,j⟩;have s:=dD (L.trans j);have C:Xo (zb blE p.heap.size G (O h l i) (c (a+1))):=show zb _ _ _ _ _ by rw[b.out];exact M.aA j
   clear j d y z A;go_wp2;go_roundg (64-(a+1));exact⟨a+1,h,l,i,Wm,Wm,Gn,rfl,s,C⟩;omega
  |true=>
   rw[u]at d;have b:Xo (c (a+1)=if(zmp k n) ⟨q,r,m⟩=Xc then c a++[(a:Int)]else c a):=dD (by rw[g.out,u];rfl);clear u;go_wp2_with fail;refine d.mono ?_;rintro e G⟨rfl,j⟩;have s:=dD (L.trans j);have C:=dD (M.aA j);have g:=dD (P.aA j);clear j d y z A;obtain⟨y,z,A⟩:=g.c3;have d:=znM q r m k n H K G (R.aA (f.trans s)) (D.aA (f.trans s));generalize zmp k n ⟨q,r,m⟩=g at d b;cases g with
   |true=>
    rw[kE rfl]at b;go_wp2_with fail;refine d.mono ?_;rintro e m⟨rfl,g⟩;have r:=dD (s.trans g);have u:=dD (C.aA g);clear g d y z A;have j:Xo (zq blE (m.alloc (Xk #[I6 (a:Int)] 3)) (O (Xa ⟨m.heap.size,0,Xb⟩) 1 1) [(a:Int)]):=Zp blE m (a:Int) _ _ rfl Dc;go_wp2_with(at_builtin;refine zw (E:=blE) rfl (.tmp 21) (.tmp 23) rfl p.heap.size _ (c a) rfl (u.aA (za _ _)) _ [(a:Int)] rfl j.out ?qb ?qc ?_)
    case qb=>
     have:=F.out a;show(_+1)*8<=_;omega
    case qc=>
     have:=bS r.out;simp;omega
    intro j D j q;obtain⟨G,H,rfl⟩:=j.form;have F:Xo (zb blE p.heap.size D (.slice G (c a++[(a:Int)]).length H) (c (a+1))):=dD<|Rx b.out j;have D:=dD<|z2 (r.trans (za _ _)) q (fun G Q=>(u.lt G Q).1);clear j q;go_wp2;go_roundg (64-(a+1));exact⟨a+1,_,_,_,Wm,Wm,Gn,rfl,D,F⟩;omega
   |false=>
    rw[kF Dc]at b;go_wp2_with fail;refine d.mono ?_;rintro e m⟨rfl,g⟩;have r:=dD (s.trans g);have u:Xo (zb blE p.heap.size m (O h l i) (c (a+1))):=show zb _ _ _ _ _ by rw[b.out];exact C.aA g
    clear g d y z A;go_wp2;go_roundg (64-(a+1));exact⟨a+1,h,l,i,Wm,Wm,Gn,rfl,r,u⟩;omega
 have x:¬(a:Int)<64:=Wm;have:a=64:=Wm;subst this;have b:=dD<|N.base (bS f);have a:=dD (f.trans B);go_wp2;go_ret;exact⟨_,rfl,b,a⟩
theorem J0(vs:List Xq)(t:List (List En))(w:Xn)(f:JT w vs t):
  Xp prog 90 #[Xi vs.toArray] w fun e w'=>∃v,e=Xl v/\zb blE w.heap.size w' v (qB t Qt 64)/\zc w w':=by
 have g:=dD f.len;obtain⟨d,b⟩:=kB (w.alloc (Xk vs.toArray 61));have c:=gA b;have h:=xA b;have a:=zgf vs t d (f.aA c);have d:=dD b;clear b f;generalize qB t Qt 64=b at a⊢;go_enter func90,ntmps90;go_upto_region 1 with fail;rw[d.out];go_wp2_with(refine qO rfl (.tmp 1) rfl w.heap.size rfl h g.out ?_)
 refine a.mono ?_;rintro e b⟨v,rfl,d,b⟩;have g:=dD<|d.base (bS c);have f:=dD (c.trans b);clear d b a;go_wp2;go_ret;exact⟨v,rfl,g,f⟩
theorem zlS(vs:List Xq)(t:List (List En))(k n:Int)(w:Xn)(f:JT w vs t):
  Xp prog 142 #[Xi vs.toArray,I6 k,I6 n] w fun e w'=>∃v,e=Xl v/\zb blE w.heap.size w' v (qB t (zmp k n) 64)/\zc w w':=by
 have a:∀(b:Fn)(first a:Array Xq)(w:Xn),(Instr.makeFunc b first a).run prog w=.ok (.func b first a) w:=fun _ _ _ _=>rfl;have h:=dD f.len;obtain⟨d,b⟩:=kB (((w.alloc (Xk vs.toArray 61)).alloc (Xk #[I6 k] 3)).alloc (Xk #[I6 n] 3));have c:Xo (zc w d):=show zc w d by rw[<-b];exact((za _ _).trans (za _ _)).trans (za _ _)
 have j:Xo (Box d w.heap.size vs):=dD<|by rw[<-b];exact((Box.aE w _ _ rfl).alloc _).alloc _
 have g:Xo (Box d (w.heap.size+1) [I6 k]):=dD<|by rw[<-b];exact(Box.aE _ _ _ Sm).alloc _
 have i:Xo (Box d (w.heap.size+2) [I6 n]):=dD<|by rw[<-b];exact Box.aE _ _ _ Sm
 have a:=zhn vs t k n (w.heap.size+1) (w.heap.size+2) d (f.aA c) g i.out;have d:=dD b;clear b f;generalize qB t (zmp k n) 64=b at a⊢;go_enter func142,ntmps142;go_upto_region 1 with fail;rw[d.out];go_wp2_with(refine qO rfl (.tmp 3) rfl w.heap.size rfl j h.out ?_)
 refine a.mono ?_;rintro e b⟨v,rfl,d,b⟩;have g:=dD<|d.base (bS c);have f:=dD (c.trans b);clear d b a;go_wp2;go_ret;exact⟨v,rfl,g,f⟩
theorem zmT(a b:Int)(W):(Instr.field 150 (Xi #[I6 a,I6 b]) 0).run prog W=.ok (I6 a) W:=by kernel_rfl
theorem ZL(s:Sp):qB s.tb Qt 64=(qQ s).map fun(n:Nat)=>(n:Int):=by unfold qB qQ ze Qt;simp
theorem zoP(a:s.tb.length=8):spE s=if zG [(wrL s.aC).1,tbW s.tb]=0 then(if s.aD=Xd/\(0<s.aC.length\/0<(qB s.tb Qt 64).length)then 7 else 0)else zG [(wrL s.aC).1,tbW s.tb]:=by grind[spE,Qg,zfO,wrL,tbW,qB,Qt,ZL,List.length_map,zhE,List.length_pos_iff]
theorem ze4(x:SpV)(s w)(n:ZC w x s):
  Xp prog 130 #[Xi #[Xh x.aD,x.ar.x,x.t0.x,x.t1.x,x.t2.x,x.t3.x,x.t4.x,x.t5.x,x.t6.x,x.t7.x]] w fun e w'=>e=Xl (I6 (spE s))/\zc w w':=by
 have K:=dD<|fun W(B:zc w W)=>ziT _ s.aC W (n.aA B).ar;have L:=dD<|fun W(B:zc w W)=>zdH x.tab s.tb W (n.aA B).tb;have u:=dD<|fun W(B:zc w W)=>J0 x.tab s.tb W (n.aA B).tb;have b:=n.aD;have aj:=n.ar.n;rw[zoP n.tb.aL,<-b,<-aj];clear n;obtain⟨r,y⟩:=kA (zG [(wrL s.aC).1,tbW s.tb]);obtain⟨H,A⟩:=kA (qB s.tb Qt 64);rw[y.out,A.out];rw[A.out]at u;clear b aj;obtain⟨ag,f⟩:=kB (w.alloc (Xk #[Xh x.aD,x.ar.x,x.t0.x,x.t1.x,x.t2.x,x.t3.x,x.t4.x,x.t5.x,x.t6.x,x.t7.x] 63));have g:=gA f;have d:=xA f;have N:=dD f;clear f;obtain⟨Z,c⟩:=kA (if r=0 then(if x.aD=Xd/\(0<x.ar.n\/0<H.length)then 7 else 0)else r);rw[c.out];go_enter func130,ntmps130;go_upto_region 1 with fail;rw[N.out];have X:=d.gw 1 rfl;have Y:=d.gw 2 rfl;have I:=d.gw 3 rfl;have a0:=d.gw 4 rfl;have a1:=d.gw 5 rfl;have a2:=d.gw 6 rfl;have a3:=d.gw 7 rfl;have a4:=d.gw 8 rfl;have a5:=d.gw 9 rfl;have V:Nonempty (zj ag):=⟨⟨_,zc.refl _⟩⟩;have U:=fun(ap:zj ag)=>zmT (wrL s.aC).1 (wrL s.aC).2 ap.world;refine jK [(2,⟨fun a=>a=Xi #[I6 (wrL s.aC).1,I6 (wrL s.aC).2],fun a w'=>True⟩),(6,⟨fun a=>a=I6 (tbW s.tb),fun a w'=>True⟩),(7,⟨fun a=>∃am,a=O (Xa ⟨am,0,Xb⟩) 2 2,fun a w'=>zq znS w' a [(wrL s.aC).1,tbW s.tb]⟩),(8,⟨fun a=>a=I6 (zG [(wrL s.aC).1,tbW s.tb]),fun a w'=>True⟩)] zY Kr (Sd ⟨_,rfl⟩ ⟨_,rfl⟩ ⟨_,0,rfl⟩ ⟨_,rfl⟩) ?hp ?_;case hp=>
  intro x E;simp only[mC,nM,or_false]at E;rcases E with rfl|rfl|rfl|rfl;·exact fun _ _ _ _ h=>h
  ·exact fun _ _ _ _ h=>h
  ·exact fun _ _ _ k h=>zq.aA h k
  exact fun _ _ _ _ h=>h
 iterate 2 refine zf ?_
 refine zI rfl rfl (fun w' k q=>?_) (fun a6 p=>?_);·refine zO.call [x.ar.x] rfl func158 rfl rfl rfl ?_;refine(K w' (g.trans k)).mono ?_;rintro e G⟨rfl,m⟩;exact⟨_,rfl,m,rfl,trivial⟩
 subst p;refine Uq ?_;iterate 3 refine zf ?_
 refine zI rfl rfl (fun w' k q=>?_) (fun a6 p=>?_);·refine zO.call [Xi #[x.t0.x,x.t1.x,x.t2.x,x.t3.x,x.t4.x,x.t5.x,x.t6.x,x.t7.x]] rfl func146 rfl rfl rfl ?_;refine(L w' (g.trans k)).mono ?_;rintro e G⟨rfl,m⟩;exact⟨_,rfl,m,rfl,trivial⟩
 subst p;refine Uq ?_;refine zI rfl rfl (fun w' k q=>?_) (fun a6 p=>?_)
 ·have D:zq znS (w'.alloc (Xk #[I6 ((wrL s.aC).1),I6 (tbW s.tb)] 45)) (O (Xa ⟨w'.heap.size,0,Xb⟩) 2 2) [(wrL s.aC).1,tbW s.tb]:=zcB znS w' [(wrL s.aC).1,tbW s.tb] _ rfl (show 2*8<=140737488355328 by decide)
  refine zO.step (v:=O (Xa ⟨w'.heap.size,0,Xb⟩) 2 2) (w':=w'.alloc (Xk #[I6 ((wrL s.aC).1),I6 (tbW s.tb)] 45)) (by simp only[execOp];go_simp) ⟨za _ _,⟨_,rfl⟩,D⟩
 obtain⟨ai,rfl⟩:=p;refine Uq ?_;refine zI rfl rfl (fun w' k q=>?_) (fun a6 p=>?_)
 ·have an:zq znS w' (O (Xa ⟨ai,0,Xb⟩) 2 2) [(wrL s.aC).1,tbW s.tb]:=q 7 Kr
  refine zO.call [O (Xa ⟨ai,0,Xb⟩) 2 2] rfl func124 rfl rfl rfl ?_;refine(zhH _ _ w' an).mono ?_;rintro e G⟨rfl,rfl⟩;exact⟨_,rfl,zc.refl _,rfl,trivial⟩
 subst p;refine Uq ?_;refine zf ?_;refine z5 fun ak l q=>?_;have t:=dD (g.trans l);have al:=dD (d.aA l);clear l q X Y I a0 a1 a2 a3 a4 a5 V U;rw[y.out];by_cases j:r=0
 ·have P:(r !=0)=Xd:=by simp[j]
  rw[kE j]at c;have aq:=dD j;clear j;obtain⟨a7,ao,a8,a9,aa,ab,ac,ad,ae,af⟩:=al.c10;cases b:x.aD with
  |true=>
   rw[b]at c a7;have i:Xo (Z=0):=dD (by rw[<-c.out,kF Sm]);clear a8 a9 aa ab ac ad ae af;go_wp2;go_ret;exact⟨Rr i.out,t⟩
  |false=>
   rw[b]at c a7;by_cases Q:0<x.ar.n
   ·have R:(0:Int)<(x.ar.n:Int):=Wm
    have i:Xo (Z=7):=dD (by rw[<-c.out,kE ⟨rfl,.inl Q⟩]);clear a8 a9 aa ab ac ad ae af;go_wp2;go_ret;exact⟨Rr i.out,t⟩
   have R:¬(0:Int)<(x.ar.n:Int):=Wm;have C:=u.out ak t.out;have M:=dD Q;clear Q;go_wp2_with fail;refine C.mono ?_;clear C a7 ao a8 a9 aa ab ac ad ae af;rintro e ar⟨a,rfl,F,ah⟩;have z:=dD (t.trans ah);obtain⟨au,av,rfl⟩:=F.form;clear F ah;by_cases S:0<H.length
   ·have T:(0:Int)<(H.length:Int):=Wm
    have i:Xo (Z=7):=dD (by rw[<-c.out,kE (by first|exact⟨rfl,.inr S⟩|exact⟨trivial,.inr S⟩)]);go_wp2;go_ret;exact⟨Rr i.out,z⟩
   have T:¬(0:Int)<(H.length:Int):=Wm;have i:Xo (Z=0):=dD (by rw[<-c.out,kF (fun h=>h.2.elim M.out S)]);go_wp2;go_ret;exact⟨Rr i.out,z⟩
 have P:(r !=0)=Xc:=by simp[j]
 rw[kF j]at c;clear j;go_wp2;go_ret;exact⟨by rw[<-c.out];rfl,t⟩
def ziN(W:Xn)(y:Addr)(x:SpV):Prop:=W.cell? y=Xa (Xh x.aD)/\W.cell? {block:=y.block,off:=y.off+1}=Xa (O x.ar.a x.ar.n x.ar.c)/\W.cell? {block:=y.block,off:=y.off+2}=Xa (O x.t0.a x.t0.n x.t0.c)/\W.cell? {block:=y.block,off:=y.off+3}=Xa (O x.t1.a x.t1.n x.t1.c)/\W.cell? {block:=y.block,off:=y.off+4}=Xa (O x.t2.a x.t2.n x.t2.c)/\W.cell? {block:=y.block,off:=y.off+5}=Xa (O x.t3.a x.t3.n x.t3.c)/\W.cell? {block:=y.block,off:=y.off+6}=Xa (O x.t4.a x.t4.n x.t4.c)/\W.cell? {block:=y.block,off:=y.off+7}=Xa (O x.t5.a x.t5.n x.t5.c)/\W.cell? {block:=y.block,off:=y.off+8}=Xa (O x.t6.a x.t6.n x.t6.c)/\W.cell? {block:=y.block,off:=y.off+9}=Xa (O x.t7.a x.t7.n x.t7.c)
theorem jY.bO{y:Addr}{x:SpV}(h:jY W y (spv x)):ziN W y x:=⟨h 0 _ rfl,h 1 _ rfl,h 2 _ rfl,h 3 _ rfl,h 4 _ rfl,h 5 _ rfl,h 6 _ rfl,h 7 _ rfl,h 8 _ rfl,h 9 _ rfl⟩
theorem zK.aU(h:zK w V m):∃a:List SpV,a.length=m.sp.length/\(∀(j:Nat)x,a[j]?=Xa x->∃ad,V.sp.a=Xa ad/\∀W,zc w W->ziN W (ad.add (j*10)) x)/\∀(i:Nat)x s,a[i]?=Xa x->m.sp[i]?=Xa s->ZC w x s:=by obtain⟨a,b,c,d⟩:=h.sp;refine⟨a,c,fun j x e=>?_,d⟩;obtain⟨ad,a,c⟩:=b.bZ j x e;exact⟨ad,a,fun W a=>(c W a).bO⟩
theorem zdJ(V m w)(N:zK w V m):
  Xp prog 100 #[Xi (mL V m).toArray] w fun e w'=>e=Xl (I6 (Jt m))/\zc w w':=by
 obtain⟨am,an,Y,I,U,W,X,T,⟨R,a,S⟩⟩:=V;dsimp only[mL];obtain⟨-,-,-,-,-,-,-,-,P⟩:=N.ns;dsimp only at P;obtain⟨ao,A,h,z⟩:=N.aU;have G:=dD A;have a5:=dD h;have F:=dD z;have D:=dD P.symm;obtain⟨Z,a1⟩:=kA (Jt m);rw[a1.out];have r:Xo ((if 4<a then 4 else zG (m.sp.map spE))=Z):=show _=_ by rw[<-a1.out,<-D.out];rfl
 clear N A h z P;obtain⟨ap,f⟩:=kB (w.alloc (Xk #[am.x,I6 m.aB,an.x,Y.x,I.x,U.x,W.x,X.x,I6 m.cnt,T.x,O R a S] 41));have n:=gA f;have a2:=xA f;have q:=dD f;clear f;by_cases u:4<a
 ·have M:=kC u
  have l:Xo (Z=4):=dD (by rw[<-r.out,kE u]);go_enter func100,ntmps100;go_upto_region 1 with fail;rw[q.out];have B:=a2.c 10 rfl;go_wp2;go_ret;exact⟨Rr l.out,n⟩
 have M:=kD u;have al:a<=4:=Wm;have t:Xo (zG (m.sp.map spE)=Z):=dD<|by rw[<-r.out,kF u]
 clear u;go_enter func100,ntmps100;go_upto_region 1 with fail;rw[q.out];have B:=a2.c 10 rfl;go_wp2;clear B;go_loopg[13] a (fun ai Q wr=>∃c:Nat,c<=a/\a-c<=ai/\Q=I6 c/\Xo (zc w wr)/\Xo (∀(j:Nat)s,j<c->m.sp[j]?=Xa s->spE s=0))
 exact⟨0,nZ _,Wm,rfl,n,fun j s a3=>absurd a3 (nL _)⟩;obtain⟨c,ak,aj,rfl,C,H⟩:=hrel;by_cases g:c<a
 ·have y:=kC g
  obtain⟨s,E⟩:∃s,Xo (m.sp[c]?=Xa s):=⟨_,gE (Rx D.out g)⟩;obtain⟨x,a0⟩:∃x,Xo (ao[c]?=Xa x):=⟨_,gE (by rw[G.out,D.out];exact g)⟩;obtain⟨ar,rfl,a4⟩:=a5.out c x a0.out;obtain⟨a6,a7,a8,a9,aa,ab,ac,ae,af,ag⟩:=a4 wr C.out;have b:=ze4 x s _ ((F c x s a0 E).aA (C.trans (za wr (Xk #[Xh x.aD,x.ar.x,x.t0.x,x.t1.x,x.t2.x,x.t3.x,x.t4.x,x.t5.x,x.t6.x,x.t7.x] 63))));clear a4;obtain⟨e,d⟩:=kA (spE s);rw[d.out]at b;go_upto_region 6 with fail;clear a6 a7 a8 a9 aa ab ac ae af ag;go_wp2_with fail;refine b.mono ?_;clear b;rintro au aq⟨rfl,v⟩;have p:=dD ((C.trans (za _ _)).trans v);clear v;by_cases i:e=0
  ·have L:(e !=0)=Xd:=by simp[i]
   have K:Xo (∀(j:Nat)s,j<c+1->m.sp[j]?=Xa s->spE s=0):=dD<|fun j s a3 k=>by
    by_cases ah:j=c;·subst ah;rw[E.out]at k;cases k;rw[d.out];exact i
    exact H j s Wm k
   clear i;go_wp2;go_roundg (a-(c+1));exact⟨c+1,Wm,Wm,Gn,p,K⟩;omega
  have L:(e !=0)=Xc:=by simp[i]
  have l:Xo (Z=e):=dD (by rw[<-t.out,zeE E H (Rx d.out i)];exact d.out);clear i;go_wp2;go_ret;exact⟨Rr l.out,p⟩
 have y:=kD g;have:c=a:=Wm;subst this;have l:Xo (Z=0):=dD<|by rw[<-t.out];exact zfP fun j s k=>H.out j s (by rw[<-D.out];exact(gS.1 k).1) k
 go_wp2;go_ret;exact⟨Rr l.out,C⟩
def zcE(l:List Ca)(k:Nat):Option Ca:=match k with|0=>Xb|k+1=>l[k]?
theorem zrg{p:Option Ca}{c:Ca}(h:caE m Xb c≠0):caE m p c=caE m Xb c:=by unfold caE at h⊢;grind
theorem ziA{q c:Ca}(h:caE m Xb c=0):caE m (Xa q) c=if zZ c<=zZ q then 2 else 0:=by grind[caE]
theorem zkQ{l:List Ca}{c:Ca}(h:zbh m (zcE l k) (l.drop k)=z)(a:l[k]?=Xa c)(b:caE m (zcE l k) c≠0):z=caE m (zcE l k) c:=by rw[Zf a]at h;grind[zbh]
theorem ziz{l:List Ca}{c:Ca}(h:zbh m (zcE l k) (l.drop k)=z)(a:l[k]?=Xa c)(b:caE m (zcE l k) c=0):zbh m (zcE l (k+1)) (l.drop (k+1))=z:=by rw[Zf a]at h;unfold zbh at h;rw[kE b]at h;show zbh m (l[k]?) _=z;grind
theorem ze8(V m w)(N:zK w V m)(b2:zkV m):
  Xp prog 101 #[Xi (mL V m).toArray] w fun e w'=>e=Xl (I6 (zfv m))/\zc w w':=by
 have D:=dD<|fun(c:Ca)az(bl:zc w az)=>zdL V m c az (N.aA bl);obtain⟨b7,b8,T,W,Q,R,S,⟨F,a,G⟩,U⟩:=V;dsimp only[mL]at D⊢;obtain⟨-,-,-,-,-,-,-,ar,-⟩:=N.ns;dsimp only at ar;have aw:=dD N.cas;have a6:=dD ar.symm;have b4:a<=9223372036854775807:=Hm N.ca.short;have a5:=dD<|fun c br(ac:caE m br c=0)=>zrf b2.st ac;obtain⟨Z,ax⟩:=kA (zfv m);rw[ax.out];have a9:=dD ax.out;clear N ar b2;obtain⟨c8,p⟩:=kB (w.alloc (Xk #[b7.x,I6 m.aB,b8.x,T.x,W.x,Q.x,R.x,S.x,I6 m.cnt,O F a G,U.x] 41));have a4:=gA p;have b0:=xA p;have a8:=dD p;clear p;go_enter func101,ntmps101;go_upto_region 1 with fail;rw[a8.out];have av:=b0.c 9 rfl;go_wp2;clear av;go_loopg[9] a (fun bk bs wr=>∃d:Nat,d<=a/\a-d<=bk/\bs=I6 d/\Xo (zc w wr)/\Xo (Box wr w.heap.size [b7.x,I6 m.aB,b8.x,T.x,W.x,Q.x,R.x,S.x,I6 m.cnt,O F a G,U.x])/\Xo (zbh m (zcE m.ca d) (m.ca.drop d)=Z)/\Xo (∀(j:Nat)c,j<d->m.ca[j]?=Xa c->0<=c.idx/\c.idx<100))
 exact⟨0,nZ _,Wm,rfl,a4,b0,a9,fun j c b5=>absurd b5 (nL _)⟩;obtain⟨d,bp,bm,rfl,I,bb,x,ay⟩:=hrel;by_cases t:d<a
 ·have M:=kC t
  obtain⟨c,u⟩:∃c,Xo (m.ca[d]?=Xa c):=⟨_,gE (Rx a6.out t)⟩;obtain⟨v,rfl,s⟩:=aw.out d c u.out;obtain⟨bg,bh,bi⟩:=s wr I.out;clear s;go_upto_region 4 with fail;refine nW fun b9 i=>?_;have B:=gT i I;have b1:=yA i bb;have a0:=xA i;clear i bg bh bi;obtain⟨cc,a7⟩:=kA wr.heap.size;rw[a7.out]at a0⊢;have f:=D.out c b9 B.out;obtain⟨e,n⟩:=kA (caE m Xb c);rw[n.out]at f;obtain⟨bv,bw,bx,bz,c3,c4,c5,c6,c7,av,au⟩:=b1.aY;obtain⟨bd,be,bf⟩:=a0.c3;go_wp2_with fail;refine f.mono ?_;clear f bv bw bx bz c3 c4 c5 c6 c7 av au bd be bf;rintro ca Y⟨rfl,q⟩;have g:=dD (B.trans q);have aa:=dD (b1.aA q);have a1:=dD (a0.aA q);clear q;by_cases r:e=0
  ·have ae:(e !=0)=Xd:=by simp[r]
   have l:Xo (caE m Xb c=0):=dD<|Rx n.out r;have A:=dD<|a5.out c Xb l.out;have E:Xo (∀(j:Nat)c,j<d+1->m.ca[j]?=Xa c->0<=c.idx/\c.idx<100):=show∀(j:Nat)c,_ from fun j bc b5 af=>by
    by_cases bj:j=d;·subst bj;rw[u.out]at af;cases af;exact A.out
    exact ay j bc Wm af
   clear r;go_upto_region 7 with fail;cases d with
   |zero=>
    have a2:=dD<|ziz x u l.out;have ap:¬(0:Int)<((0:Nat):Int):=Dc;have aq:decide ((0:Int)<((0:Nat):Int))=Xd:=Dc;go_quiet(fail);go_wp2;go_roundg (a-1);exact⟨1,Wm,Wm,Gn,g.trans (show Below _ _ _ from bD (bR _ _) _),aa.aA (show Below _ _ _ from bD (bR _ _) _),a2,E⟩;omega
   |succ j=>
    obtain⟨b,X⟩:∃b,Xo (m.ca[j]?=Xa b):=⟨_,gE (by rw[a6.out];omega)⟩;have a3:Xo (0<=b.idx/\b.idx<100):=ay.out j b Wm X.out;have ap:(0:Int)<((j+1:Nat):Int):=Wm;have aq:decide ((0:Int)<((j+1:Nat):Int))=Xc:=Sm;have bn:((j+1:Nat):Int)-1=(j:Int):=Wm;have bo:(j:Int)<(a:Int):=Wm;obtain⟨ab,L,s⟩:=aw.out j b X.out;obtain rfl:v=ab:=(by cases L;rfl);have al:=aa.gw 9 rfl;have ag:=a1.gw 0 rfl;have ah:=a1.gw 1 rfl;have ai:=a1.gw 2 rfl;have am:=fun y:zj Y=>(s _ (g.trans y.aA)).1;have an:=fun y:zj Y=>(s _ (g.trans y.aA)).2.1;have ao:=fun y:zj Y=>(s _ (g.trans y.aA)).2.2;have aj:Nonempty (zj Y):=⟨⟨_,zc.refl _⟩⟩;clear s L;have z:=dD<|zos a3 A.out;refine jK [(10,⟨fun b6=>b6=Xh (JS b c),fun b6 w'=>True⟩)] zY Kr (Sa ⟨_,rfl⟩) ?hp ?_;case hp=>
     intro bu P;simp only[mC,nM,or_false]at P;subst P;exact fun _ _ _ _ ac=>ac
    iterate 10 refine zf ?_
    refine zI rfl rfl (fun w' cb b3=>?_) (fun cd bq=>?_);·refine zO.call [Xi #[I6 b.file,I6 b.idx,I6 b.fr],Xi #[I6 c.file,I6 c.idx,I6 c.fr]] rfl func132 rfl rfl rfl ?_;refine(zju b c w').mono ?_;rintro e bt⟨rfl,k⟩;exact⟨_,rfl,k,rfl,trivial⟩
    subst bq;refine Uq ?_;iterate 2 refine zf ?_
    refine z5 fun c9 k b3=>?_;have C:=dD (g.trans k);have ba:=dD (aa.aA k);clear k b3 al ag ah ai am an ao aj;cases K:JS b c with
    |true=>
     have a2:Xo (zbh m (zcE m.ca (j+1+1)) (m.ca.drop (j+1+1))=Z):=ziz x u (by
      have ak:zcE m.ca (j+1)=Xa b:=X.out;rw[ak,ziA l.out,kF];have:=z.out;rw[K]at this
      simpa using this)
     go_wp2;go_roundg (a-(j+1+1));exact⟨j+1+1,Wm,Wm,Gn,C,ba,a2,E⟩;omega
    |false=>
     have h:Xo (Z=2):=dD<|by
      have ak:zcE m.ca (j+1)=Xa b:=X.out;have H:caE m (zcE m.ca (j+1)) c=2:=by
       rw[ak,ziA l.out,kE];have:=z.out;rw[K]at this;simpa using this
      rw[zkQ x u (by rw[H];decide),H]
     go_wp2;go_ret;exact⟨Rr h.out,C⟩
  have ae:(e !=0)=Xc:=by simp[r]
  have h:Xo (Z=e):=dD<|by
   have H:caE m (zcE m.ca d) c=e:=(by rw[zrg (Rx n.out r),n.out]);rw[zkQ x u (Rx H r),H]
  clear r;go_wp2;go_ret;exact⟨Rr h.out,g⟩
 have M:=kD t;have:d=a:=Wm;subst this;have h:Xo (Z=0):=dD<|by
  rw[<-x.out,Yb (by rw[a6.out];exact nR _)];cases zcE m.ca d<;>rfl
 go_wp2;go_ret;exact⟨Rr h.out,I⟩
structure zac(lo hi:Nat)(w:Xn)(x:SpV)(s:Sp):Prop where
 aD:x.aD=s.aD
 ar:zb arE lo w x.ar.v s.aC
 tb:Zg lo w x.tab s.tb
 arh:∀g,x.ar.v.ownBlock=Xa g->g<hi
 tbh:∀(i:Nat)v,x.tab[i]?=Xa v->∀g,v.ownBlock=Xa g->g<hi
theorem zac.aA{x:SpV}(h:zac b hi w x s)(k:zc w w'):zac b hi w' x s:=⟨h.aD,h.ar.aA k,h.tb.aA k,h.arh,h.tbh⟩
theorem zac.at{x:SpV}(h:zac k hi w x s):ZC w x s:=⟨h.aD,h.ar.at,h.ar.cap,h.tb.new.now⟩
theorem Zg.grown(h:Zg k w vs G)(t:w.grownBy w' (Xa b))(c:∀(i:Nat)v,vs[i]?=Xa v->v.ownBlock≠Xa b):Zg k w' vs G:=
 ⟨h.len,h.aL,fun i v x a d=>(h.row i v x a d).grown t (fun t t e=>by cases e;exact c i v a t),h.two⟩
theorem zac.beside{x:SpV}(h:zac k hi w x s)(lo:w.grownBy w' (Xa b))(a:w.heap[b]?=Xa (Xk U t (0,0)))(f:t≠arE.ty)(j:t≠enE.ty):zac k hi w' x s:=by
 have a:∀{c:Type}{E:Elt c}{d:Nat}{v:Xq}{l:List c},zb E d w v l->t≠E.ty->∀g,v.ownBlock=Xa g->Xa b≠Xa g:=fun d c g c e=>by
  cases e;obtain⟨i,i⟩:=d.obj c;grind
 refine⟨h.aD,h.ar.grown lo (a h.ar f),h.tb.grown lo (fun i v lo e=>?_),h.arh,h.tbh⟩;obtain⟨y,c⟩:∃y,s.tb[i]?=Xa y:=⟨_,gE (by rw[h.tb.aL,<-h.tb.len];exact(gS.1 lo).1)⟩;exact a (h.tb.row i v y lo c) j b e rfl
def Qw(base:Nat)(w:Xn)(v:Xq)(ss:List Sp):Prop:=
 ∃(xs:List SpV)(B:Nat->Nat),zb ZP base w v xs/\xs.length=ss.length/\base<=B 0/\(∀i,B i<=B (i+1))/\∀(i:Nat)x s,xs[i]?=Xa x->ss[i]?=Xa s->zac (B i) (B (i+1)) w x s
theorem Qw.at{base:Nat}{a:List Sp}(h:Qw base w A a):QH w A a:=by obtain⟨g,B,b,c,_,_,d⟩:=h;exact⟨g,b.at,c,fun i x s f e=>(d i x s f e).at⟩
theorem Qw.aA{a:List Sp}(h:Qw p w A a)(k:zc w w'):Qw p w' A a:=by obtain⟨f,B,a,b,c,d,e⟩:=h;exact⟨f,B,a.aA k,b,c,d,fun i x s b a=>(e i x s b a).aA k⟩
theorem Qw.base{a:List Sp}(h:Qw k w A a)(hb:base'<=k):Qw base' w A a:=by obtain⟨e,B,a,b,c,c,d⟩:=h;exact⟨e,B,a.base hb,b,Wm,c,d⟩
structure zcV(base:Nat)(w:Xn)(kk:Nat)(xs ys:List SpV)(ss:List Sp)(B:Nat->Nat):Prop where
 len:ys.length=xs.length
 own:∀(i:Nat)y s,i<kk->ys[i]?=Xa y->ss[i]?=Xa s->zac (B i) (B (i+1)) w y s
 rest:∀(i:Nat),kk<=i->ys[i]?=xs[i]?
 b0:base<=B 0
 mono:∀i,B i<=B (i+1)
 aE:B kk<=w.heap.size
theorem zcV.aA{xs c:List SpV}{base:List Sp}{B:Nat->Nat}(h:zcV b w p xs c base B)(k:zc w w'):zcV b w' p xs c base B:=⟨h.len,fun i y s p c base=>(h.own i y s p c base).aA k,h.rest,h.b0,h.mono,nT h.aE (bS k)⟩
theorem zef{B:Nat->Nat}(h:∀i,B i<=B (i+1)):∀{i j:Nat},i<=j->B i<=B j
 |i,0,a=>by rw[show i=0 from Wm];exact nR _
 |i,j+1,a=>by
  by_cases e:i=j+1
  ·subst e;exact nR _
  exact nT (zef h Wm) (h j)
theorem QS:ZP.ty≠arE.ty/\ZP.ty≠enE.ty:=by decide
theorem zcV.step{xs d:List SpV}{g:List Sp}{B:Nat->Nat}(h:zcV k w b xs d g B)(f:w.grownBy w' (Xa p))(j:w.heap[p]?=Xa (Xk U ZP.ty (0,0)))(c:w'.heap.size=w.heap.size){x:SpV}(cs:xs[b]?=Xa x)(l:g[b]?=Xa s)
  {y:SpV}(e:zac (B b) w.heap.size w' y s):zcV k w' (b+1) xs (d.set b y) g (fun i=>if i<=b then B i else w.heap.size):=by
 have g:b<d.length:=by rw[h.len];exact(gS.1 cs).1
 refine⟨by simp[h.len],fun i z cs e d g=>?_,fun i e=>?_,by simpa using h.b0,fun i=>?_,by rw[kF Wm,c];exact nR _⟩
 ·by_cases e:i=b
  ·grind
  rw[sN (fun h=>e h.symm)]at d;have c:=(h.own i z cs Wm d g).beside f j QS.1 QS.2;grind
 ·rw[sN Wm]
  exact h.rest i Wm
 by_cases g:i+1<=b
 ·rw[kE Wm,kE g]
  exact h.mono i
 rw[kF g];by_cases g:i<=b;·rw[kE g];exact nT (zef h.mono g) h.aE
 grind
theorem zcV.all{xs b:List SpV}{a:List Sp}{B:Nat->Nat}(h:zcV k w xs.length xs b a B)(c:xs.length=a.length)(d:zb ZP k w A b):Qw k w A a:=
 ⟨b,B,d,h.len.trans c,h.b0,h.mono,fun i y s a b=>h.own i y s (by rw[<-h.len];exact(gS.1 a).1) a b⟩
theorem zoO(h:Zg k w us G):∃a t1 t2 b c d e f:Sli,us=[a.v,t1.v,t2.v,b.v,c.v,d.v,e.v,f.v]:=by obtain⟨u0,u1,u2,u3,u4,u5,u6,u7,rfl⟩:=zl0 h.len;obtain⟨a,a,a,a,a,a,a,a,rfl⟩:=zl0 h.aL;obtain⟨a,j,rfl⟩:=(h.row 0 _ _ rfl rfl).form;obtain⟨b,t,rfl⟩:=(h.row 1 _ _ rfl rfl).form;obtain⟨c,l,rfl⟩:=(h.row 2 _ _ rfl rfl).form;obtain⟨d,m,rfl⟩:=(h.row 3 _ _ rfl rfl).form;obtain⟨e,n,rfl⟩:=(h.row 4 _ _ rfl rfl).form;obtain⟨f,p,rfl⟩:=(h.row 5 _ _ rfl rfl).form;obtain⟨g,q,rfl⟩:=(h.row 6 _ _ rfl rfl).form;obtain⟨i,r,rfl⟩:=(h.row 7 _ _ rfl rfl).form;exact⟨⟨a,_,j⟩,⟨b,_,t⟩,⟨c,_,l⟩,⟨d,_,m⟩,⟨e,_,n⟩,⟨f,_,p⟩,⟨g,_,q⟩,⟨i,_,r⟩,rfl⟩
theorem zgp(v k)(w:Xn)(c8:QH w v k):
  Xp prog 51 #[v] w fun e w'=>∃bp,e=Xl bp/\Qw w.heap.size w' bp k/\zc w w':=by
 obtain⟨u,b8,c9,ca⟩:=c8;have bl:=dD b8;have bk:=dD c9;have ay:=dD ca;have a0:=b8.short;obtain⟨cd,ce,rfl,_⟩:=b8.rows;obtain⟨n,L⟩:=kA u.length;rw[L.out]at a0 bl⊢;have b5:=zjO _ u w bl.out;go_enter func51,ntmps51;go_wp2_with fail;refine b5.mono ?_;rintro e c0⟨da,rfl,H,c3⟩;obtain⟨bq,al,rfl⟩:=H.form;rw[L.out]at H⊢;have bx:=dD H;have bi:=dD c3;go_wp2;go_loopg[10] n (fun c4 bb wr=>∃(a:Nat)(b:List SpV)(B:Nat->Nat),a<=n/\n-a<=c4/\bb=I6 a/\Xo (zc w wr)/\Xo (zb ZP w.heap.size wr (O bq n al) b)/\Xo (zcV w.heap.size wr a u b k B))
 exact⟨0,u,fun _=>c0.heap.size,nZ _,Wm,rfl,bi,bx,⟨rfl,fun i y cp a4=>absurd a4 (nL _),fun i _=>rfl,bS bi,fun i=>nR _,nR _⟩⟩;obtain⟨a,b,B,c7,c6,rfl,bh,M,r⟩:=hrel;by_cases d:a<n
 ·have a5:=kC d
  obtain⟨x,C⟩:∃x,Xo (u[a]?=Xa x):=⟨_,gE (Rx L.out d)⟩;obtain⟨s,U⟩:∃s,Xo (k[a]?=Xa s):=⟨_,gE (by rw[<-bk.out,L.out];exact d)⟩;have z:=dD<|ay.out a x s C U.out;have bm:Xo (b[a]?=Xa x):=show _=_ by rw[r.rest a (nR _)];exact C.out
  have D:Xo (b.length=n):=dD (by rw[r.len,L.out]);obtain⟨g,cc,a3⟩:=M.aG (by rw[D.out];omega);rw[D.out]at a3;cases a3;have a1:ziN wr ((Addr.mk g 0 Xb).add (a*10)) x:=(M.one bm).bO;rw[Yc,zA]at a1;obtain⟨cf,cg,ch,ci,cj,ck,cl,cm,cn,co⟩:=a1;have Q:Xo (w.heap.size<=g):=dD<|(M.lt g rfl).1;go_upto_region 5 with fail;obtain⟨ab,c⟩:=kB (wr.alloc (Xk #[Xh x.aD,x.ar.x,x.t0.x,x.t1.x,x.t2.x,x.t3.x,x.t4.x,x.t5.x,x.t6.x,x.t7.x] 63));have N:=gT c bh;have b3:=xA c;have b0:Xo (zb ZP w.heap.size ab (O (Xa ⟨g,0,Xb⟩) n al) b):=dD (by rw[<-c];exact M.aA (za _ _));have bj:Xo (zcV w.heap.size ab a u b k B):=dD (by rw[<-c];exact r.aA (za _ _));have R:=dD<|(M.lt g rfl).2;rw[c];obtain⟨cb,av⟩:=kA wr.heap.size;rw[av.out]at b3 R⊢;have cq:=b3.c 1 rfl;have b4:=zeS (x.ar.x) s.aC ab (z.ar.aA N);go_wp2_with fail;refine b4.mono ?_;rintro e c1⟨db,rfl,q,Y⟩;have bw:=dD q.cap;obtain⟨f,h,rfl⟩:=q.form;obtain⟨j,aw⟩:=kA s.aC.length;rw[aw.out]at q⊢;have bf:=dD q;have an:=dD (N.trans Y);have bz:=dD (b3.aA Y);have F:=dD (b0.aA Y);have bs:=dD (bj.aA Y);have A:=dD bj.aE;have S:=dD<|bS Y;go_wp2_with(refine zx (E:=ZP) rfl (.tmp 21) (.tmp 19) 58 rfl w.heap.size _ b F g a 1 rfl x {x with ar:=⟨f,j,h⟩} bm.out [O f j h] ?s1 rfl ?s2 ?s3 ⟨g,a*10+1,Xb⟩ rfl rfl (O f j h) rfl rfl ?_)
  case s1=>kernel_rfl
  case s2=>show 1+1<=10;omega
  case s3=>simp;rfl
  intro l b9 m bc;have aq:Xo (∃X,c1.heap[g]?=Xa (Xk X ZP.ty (0,0))):=F.obj rfl;have P:=dD<|zd an m Q.out;have t:Xo (Box l cb [Xh x.aD,x.ar.x,x.t0.x,x.t1.x,x.t2.x,x.t3.x,x.t4.x,x.t5.x,x.t6.x,x.t7.x]):=bz.grown m (Hm R.out)
  have b1:Xo (zb ZP w.heap.size l (O (Xa ⟨g,0,Xb⟩) n al) (b.set a {x with ar:=⟨f,j,h⟩})):=b9;have br:Xo (zb arE ab.heap.size l (O f j h) s.aC):=bf.grown m (fun ac I e=>by
   cases e;exact F.apart bf QS.1 g rfl I)
  have bt:Xo (∀(i:Nat)y K,i<a->b[i]?=Xa y->k[i]?=Xa K->zac (B i) (B (i+1)) l y K):=dD<|fun i y K a4 a7 b7=>by
   obtain⟨X,p⟩:=aq.out;exact(bs.own i y K a4 a7 b7).beside m p QS.1 QS.2
  have T:=dD bc;have b6:=zhF x.tab s.tb l (z.aA P).tb;have a2:Xp prog 85 #[Xi #[x.t0.x,x.t1.x,x.t2.x,x.t3.x,x.t4.x,x.t5.x,x.t6.x,x.t7.x]] l fun e w'=>∃be,e=Xl (Xi be.toArray)/\Zg (l.heap.size+2) w' be s.tb/\zc l w'/\l.heap.size+2<=w'.heap.size:=b6;obtain⟨_,_,cr,ct,cu,cv,cw,cx,cy,cz⟩:=t.k10;go_wp2_with fail;refine a2.mono ?_;rintro e W⟨be,rfl,a8,Z,_⟩;obtain⟨ad,ae,af,ag,ah,ai,aj,ak,rfl⟩:=zoO a8;have aa:=dD a8;have ao:=dD (P.trans Z);have V:=dD (b1.aA Z);have bg:=dD (br.aA Z);have bu:=dD<|fun(i:Nat)y K(a4:i<a)(a7:b[i]?=Xa y)(b7:k[i]?=Xa K)=>(bt i y K a4 a7 b7).aA Z;have ax:=dD<|bS Z;have az:Xo ((b.set a {x with ar:=⟨f,j,h⟩})[a]?=Xa {x with ar:=⟨f,j,h⟩}):=dD<|sF (Rx D.out d);go_wp2_with(refine zx (E:=ZP) rfl (.tmp 28) (.tmp 26) 61 rfl w.heap.size _ _ V g a 2 rfl {x with ar:=⟨f,j,h⟩} ⟨x.aD,⟨f,j,h⟩,ad,ae,af,ag,ah,ai,aj,ak⟩ az.out [ad.v,ae.v,af.v,ag.v,ah.v,ai.v,aj.v,ak.v] ?s1 rfl ?s2 ?s3 ⟨g,a*10+2,Xb⟩ rfl rfl _ rfl rfl ?_)
  case s1=>kernel_rfl
  case s2=>show 2+8<=10;omega
  case s3=>
   intro bo a6;simp only[mC,nM,or_false]at a6;rcases a6 with rfl|rfl|rfl|rfl|rfl|rfl|rfl|rfl<;>rfl
  intro c2 ba G bd;have au:Xo (∃X,W.heap[g]?=Xa (Xk X ZP.ty (0,0))):=V.obj rfl;have ap:=dD<|zd ao G Q.out;have b2:=dD ba;have am:Xo (zcV w.heap.size c2 (a+1) u (b.set a ⟨x.aD,⟨f,j,h⟩,ad,ae,af,ag,ah,ai,aj,ak⟩) k (fun i=>if i<=a then B i else W.heap.size)):=show zcV _ _ _ _ _ _ _ by
   obtain⟨X,p⟩:=au.out;have c5:zcV w.heap.size W a u b k B:=⟨r.len,bu,r.rest,r.b0,r.mono,by have:=A.out;have:=S.out;have:=T.out;have:=ax.out;omega⟩
   refine c5.step G p bd C U.out ?_;have a9:zac (B a) W.heap.size W ⟨x.aD,⟨f,j,h⟩,ad,ae,af,ag,ah,ai,aj,ak⟩ s:=⟨z.aD,bg.base A,aa.base (by have:=A.out;have:=S.out;have:=T.out;omega),fun ac I=>(bg.lt ac I).2,fun i bo a6 ac I=>by
    obtain⟨y,a7⟩:∃y,s.tb[i]?=Xa y:=⟨_,gE (by rw[aa.aL,<-aa.len];exact(gS.1 a6).1)⟩
    exact((aa.row i bo y a6 a7).lt ac I).2⟩
   exact a9.beside G p QS.1 QS.2
  go_wp2;go_roundg (n-(a+1));exact⟨a+1,_,_,Wm,Wm,Gn,ap,b2,am⟩;omega
 have a5:=kD d;have:a=n:=Wm;subst this;have bv:Xo (Qw w.heap.size wr (O bq a al) k):=dD<|by
  have bn:=r.out;rw[<-L.out]at bn;exact bn.all bk M.out
 go_wp2;go_ret;exact⟨_,rfl,bv,bh⟩
theorem zeR(v fs)(w:Xn)(h:zq q3 w v fs):
  Xp prog 79 #[v] w fun e w'=>∃d,e=Xl d/\zb q3 w.heap.size w' d fs/\zc w w':=by
 have i:=dD h;obtain⟨⟨f,g,rfl,b,c⟩,a⟩:=h;have h:=fun w f n g j h=>Lib.run_eql_slice_nil w _ _ f n g j h underlying26;cases f with
 |none=>
  have f:=b rfl;subst f;clear c b a;go_enter func79,ntmps79;go_wp2;go_ret;exact⟨_,rfl,zb.nil q3 _ _,zc.refl w⟩
 |some x=>
  have f:=dD a;clear c b a;go_enter func79,ntmps79;go_wp2_with(at_builtin;refine zw (E:=q3) rfl (.tmp 5) (.tmp 6) rfl w.heap.size _ [] rfl (zb.made q3 w) _ fs rfl (i.aA (za _ _)) ?qb Sm ?_)
  case qb=>rw[Xz,zA];exact f.out
  intro d a b a;go_wp2;go_ret;exact⟨d,rfl,Si b,((bR _ w).alloc (nR _) _).grown a Sm (by intro k a;simp[Value.ownBlock]at a;omega)⟩
theorem JG(a)(c:Nat)(fs:List Fr)(h:Int)(w:Xn)(i:zq q3 w (O a fs.length c) fs):
  Xp prog 46 #[Xi #[O a fs.length c,I6 h]] w fun e w'=>∃b,e=Xl (Xi #[b,I6 h])/\zb q3 w.heap.size w' b fs/\zc w w':=by
 have r:=dD i;clear i;obtain⟨n,d⟩:=kA fs.length;rw[d.out]at r⊢;go_enter func46,ntmps46;go_wp2;refine nW fun g d=>?_;have f:=gD2 d;have l:Xo (g.heap.size=w.heap.size+2):=dD<|by rw[<-d];simp
 have j:=x2a d;have s:=x2b d;clear d;have m:=fun x:zj g=>(j.aA x.aA).c 0 rfl;have q:=fun x:zj g=>(j.aA x.aA).c 1 rfl;have k:Nonempty (zj g):=⟨⟨_,zc.refl _⟩⟩;refine jO 6 [(2,⟨fun g=>∃a n c,g=O a n c,fun g w'=>zb q3 (w.heap.size+2) w' g fs⟩)] zY Kr rfl rfl Dc ?_ ?_ ?_
 ·intro x d
  simp at d;subst d;exact⟨_,Xb,0,0,rfl⟩
 ·intro x d
  simp at d;subst d;intro g d d d h;exact h.aA d
 simp only[Yw,Yx];iterate 2 refine zf ?_
 refine zI rfl rfl (fun w' d j=>?_) (fun g i=>?_);·refine zO.call [O a n c] rfl func79 rfl rfl rfl ?_;refine(zeR _ fs w' (r.aA (f.out.trans d))).mono ?_;rintro e g⟨g,rfl,n,g⟩;obtain⟨r,r,rfl⟩:=n.form;exact⟨_,rfl,g,⟨_,_,_,rfl⟩,n.base (by have:=bS d;rw[l.out]at this;exact this)⟩
 obtain⟨l,r,n,rfl⟩:=i;refine Uq ?_;iterate 3 refine zf ?_
 refine z5 fun w' d j=>?_;have i:=dD<|j 2;have g:=s.aA d;obtain⟨s,s⟩:=g.k2;have s:=g.f;have g:=dD (f.out.trans d);clear j m q d k;go_wp2;refine bodyPost_ret (v:=Xi #[O l r n,I6 h]) (by simp[results,Tryz.results46,go_sem, *]) rfl ⟨_,rfl,((i.out.setCell Sm _).setCell Sm _).base Wm,?_⟩;exact Below.setCell (Below.setCell g (p:=⟨w.heap.size+1,0,Xb⟩) Sm _) (p:=⟨w.heap.size+1,1,Xb⟩) Sm _
def isZ(z:Int):Bool:=z==0
def zp5(fs:List Int):Int:=if fs.findIdx isZ<fs.length then(fs.findIdx isZ:Int)else-1
theorem zlE(v fs w)(s:zq slE w v fs):
  Xp prog 200 #[v,I6 0] w fun e w'=>e=Xl (I6 (zp5 fs))/\zc w w':=by
 have g:=s.short;obtain⟨E,G,rfl,c⟩:=s.sls;have y:=dD c;clear c s;obtain⟨n,m⟩:=kA fs.length;rw[m.out]at g⊢;go_enter func200,ntmps200;go_wp2;go_loopg[5,8] n (fun z _ D wr=>∃a:Nat,a<=n/\n-a<=z/\D=I6 a/\Xo (zc w wr)/\Xo (∀j q,j<a->fs[j]?=Xa q->isZ q=Xd))
 exact⟨0,nZ _,Wm,rfl,zc.refl w,fun j q h=>absurd h (nL _)⟩;obtain⟨a,B,K,rfl,l,A⟩:=hrel;by_cases b:a<n
 ·have i:=kC b
  obtain⟨q,r⟩:∃q,Xo (fs[a]?=Xa q):=⟨_,gE (Rx m.out b)⟩;obtain⟨F,rfl,u⟩:=y.out a q r.out;have H:=u wr l.out;clear u;by_cases f:q=0
  ·have p:Xo (zp5 fs=(a:Int)):=dD<|by unfold zp5;rw[zpB r (by simp[isZ,f]) A,m,kE b]
   have t:(q==0)=Xc:=(by simp[f]);have k:((0:Int)==q)=Xc:=(by simp[f]);clear f;go_wp2;go_ret;exact⟨Rr p.out,l⟩
  have x:Xo (∀(j:Nat)q,j<a+1->fs[j]?=Xa q->isZ q=Xd):=dD<|fun j C h d=>by
   by_cases e:j=a
   ·subst e;rw[r.out]at d;cases d;simpa[isZ]using f
   exact A j C Wm d
  have t:(q==0)=Xd:=by simp[f]
  have k:((0:Int)==q)=Xd:=by simp;omega
  clear f;go_wp2;go_roundg (n-(a+1));exact⟨a+1,Wm,Wm,Gn,l,x⟩;omega
 have i:=kD b;have:a=n:=Wm;subst this;have p:Xo (zp5 fs=-1):=dD<|by
  unfold zp5;rw[zpA (fun j q h=>A.out j q (by rw[<-m.out];exact(gS.1 h).1) h),kF (Nat.lt_irrefl _)]
 go_wp2;go_ret;exact⟨Rr p.out,l⟩
theorem zcT(v fs)(w:Xn)(h:zq slE w v fs):
  Xp prog 47 #[v] w fun e w'=>∃d,e=Xl d/\zb slE w.heap.size w' d fs/\zc w w':=by
 have i:=dD h;obtain⟨⟨f,g,rfl,b,c⟩,a⟩:=h;have h:=fun w f n g j h=>Lib.run_eql_slice_nil w _ _ f n g j h underlying30;cases f with
 |none=>
  have f:=b rfl;subst f;clear c b a;go_enter func47,ntmps47;go_wp2;go_ret;exact⟨_,rfl,zb.nil _ _ _,zc.refl w⟩
 |some x=>
  have f:=dD a;clear c b a;go_enter func47,ntmps47;go_wp2_with(at_builtin;refine zw (E:=slE) rfl (.tmp 5) (.tmp 6) rfl w.heap.size _ [] rfl (zb.made slE w) _ fs rfl (i.aA (za _ _)) ?qb Sm ?_)
  case qb=>rw[Xz,zA];exact f.out
  intro d a b a;go_wp2;go_ret;exact⟨d,rfl,Si b,((bR _ w).alloc (nR _) _).grown a Sm (by intro k a;simp[Value.ownBlock]at a;omega)⟩
section
variable(I:Xn->Prop)(P:Program)(ops:Array Oper)(S:Nat->Option (Xq->Prop))(R:Nat->Bool)
def jW(i:Nat)(F:Xn->Prop)(a:Act)(K:(Xn->Prop)->Act->Prop):Prop:=
 match ops[i]? with
 |none=>False
 |some o=>
  if Xs o (yielded ops a.tmps)then
   match S i with
   |none=>∃v,(∀w,I w->(R i=Xc->F w)->(execOp a.eval o).run P w=.ok (.value v) w)/\K F (a.put o.dst v)
   |some s=>∃p:Xq->Xn->Prop,(∀w,I w->F w->zO P o a w fun v w'=>I w'/\s v/\p v w')/\∀v,s v->K (p v) (a.put o.dst v)
  else K F (a.put o.dst undef)
end
section
variable{I:Xn->Prop}{P:Program}{ops:Array Oper}{S:Nat->Option (Xq->Prop)}{R:Nat->Bool}{T:Nat}
theorem jW.mono{F:Xn->Prop}{K d:(Xn->Prop)->Act->Prop}
  (h:∀c e,K c e->d c e)(b:jW I P ops S R k F a K):jW I P ops S R k F a d:=by
 unfold jW at*;split;·grind
 rename_i c c
 simp only[c]at b;split
 ·rename_i c
  simp only[c,if_true]at b;split;·grind
  rename_i s c
  simp only[c]at b;obtain⟨p,c,b⟩:=b;exact⟨p,c,fun v c=>h _ _ (b v c)⟩
 grind
theorem jW.swap{c:Oper}{F:Xn->Prop}{K:(Xn->Prop)->Act->Prop}
  (hi:ops[k]?=Xa c)(t:ops[j]?=Xa oj)(f:c.apart ops oj=Xc)
  (g:∀cs b,c.op≠.select cs b)(i:∀cs b,oj.op≠.select cs b)
  (l:anc ops 9 k j=Xd)(m:anc ops 9 j k=Xd)(hS:∀s,S k=Xa s->∃v,s v)(n:S k≠Xb->(S j≠Xb\/R j=Xc)->anc ops 9 k j=Xc\/anc ops 9 j k=Xc)(x:R k=Xc->S j≠Xb->anc ops 9 k j=Xc\/anc ops 9 j k=Xc)
  (q:I w)
  (h:jW I P ops S R k F a fun d e=>jW I P ops S R j d e K):jW I P ops S R j F a fun d e=>jW I P ops S R k d e K:=by
 obtain⟨e,r,p⟩:=Oper.apart_spec f;have d:∀v,execOp (a.put oj.dst v).eval c=execOp a.eval c:=fun v=>execOp_put c g a oj.dst v p;have f:∀v,execOp (a.put c.dst v).eval oj=execOp a.eval oj:=fun v=>execOp_put oj i a c.dst v e;have y:∀v,Xs c (yielded ops (a.put oj.dst v).tmps)=Xs c (yielded ops a.tmps):=fun v=>wanted_put c a oj.dst v p;have z:∀v,Xs oj (yielded ops (a.put c.dst v).tmps)=Xs oj (yielded ops a.tmps):=fun v=>wanted_put oj a c.dst v e;have g:∀v w K,zO P c (a.put oj.dst v) w K=zO P c a w K:=fun v w K=>by unfold zO;rw[d]
 have i:∀v w K,zO P oj (a.put c.dst v) w K=zO P oj a w K:=fun v w K=>by unfold zO;rw[f]
 have p:∀v u,(a.put c.dst v).put oj.dst u=(a.put oj.dst u).put c.dst v:=fun v u=>Act.put_comm a v u r;unfold jW at h⊢;simp only[hi,t,d,f,y,z,g,i,p]at h⊢;cases d:Xs c (yielded ops a.tmps)<;>cases c:Xs oj (yielded ops a.tmps)<;>
  simp only[d,c,if_true,if_false,Ob]at h⊢
 ·exact h
 ·cases c:S j with
  |none=>simp only[c]at h⊢;exact h
  |some s=>simp only[c]at h⊢;exact h
 ·cases d:S k with
  |none=>simp only[d]at h⊢;exact h
  |some s=>simp only[d]at h⊢;exact h
 cases d:S k with
 |none=>
  simp only[d]at h;obtain⟨r,i,h⟩:=h;cases c:S j with
  |none=>
   simp only[c]at h⊢;obtain⟨p,g,h⟩:=h;exact⟨p,g,r,i,h⟩
  |some s=>
   simp only[c]at h⊢;obtain⟨y,u,z⟩:=h;have t:R k≠Xc:=fun f=>by
    rcases x f (by rw[c];simp)with e|e;·rw[l]at e;cases e
    rw[m]at e;cases e
   exact⟨y,u,fun p u=>⟨r,fun w x _=>i w x (fun f=>absurd f t),z p u⟩⟩
 |some i=>
  simp only[d]at h;obtain⟨y,t,h⟩:=h;obtain⟨z,u⟩:=hS i d;cases c:S j with
  |none=>
   simp only[c]at h⊢;have i:R j≠Xc:=fun f=>by
    rcases n (by rw[d];simp) (.inr f)with e|e;·rw[l]at e;cases e
    rw[m]at e;cases e
   obtain⟨p,g,_⟩:=h z u;refine⟨p,fun w x _=>g w x (fun f=>absurd f i),y,t,fun r t=>?_⟩;obtain⟨p,p,u⟩:=h r t;have h:=g w q (fun f=>absurd f i);have g:=p w q (fun f=>absurd f i);rw[h]at g;simp only[Result.ok.injEq,Next.value.injEq,and_true]at g;subst g;exact u
  |some f=>
   exfalso;rcases n (by rw[d];simp) (.inl (by rw[c];simp))with e|e;·rw[l]at e;cases e
   rw[m]at e;cases e
theorem zss(hS:∀k s,S k=Xa s->∃v,s v)(b:∀i k,i<k->(S i≠Xb/\(S k≠Xb\/R k=Xc))\/(R i=Xc/\S k≠Xb)->anc ops 9 i k=Xc):
  Way P ops (jW I P ops S R) (fun _ _=>∃w,I w) (fun _ F _ w=>I w/\F w) where
 mono h:=jW.mono fun c d=>h c d fun _ _ h=>h
 swap hi hj hlt hap hsi hsj hij hji:=fun⟨_,c⟩=>jW.swap hi hj hap hsi hsj hij hji (hS _) (fun d e=>.inl (b _ _ hlt (.inl ⟨d,e⟩))) (fun d e=>.inl (b _ _ hlt (.inr ⟨d,e⟩))) c
 lean _ h:=⟨_,h.1⟩
 step {listed F a w j oj K N Q} hsz hoj h0 hc hok hcm hN:=by
  obtain⟨c,d⟩:=hok;simp only[jW,hoj]at hcm;split
  ·rename_i b
   simp only[b,if_true]at hcm;cases f:S j with
   |none=>
    simp only[f]at hcm;obtain⟨v,b,e⟩:=hcm;unfold Oper.wp;rw[b w c fun _=>d];exact hN F _ w ⟨c,d⟩ e
   |some s=>
    simp only[f]at hcm;obtain⟨p,b,e⟩:=hcm;exact(b w c d).wp fun v f⟨c,d,b⟩=>hN (p v) _ f ⟨c,b⟩ (e v d)
  grind
variable{Q:Act->Xn->Prop}
variable(I P ops S R Q)in
abbrev zao:List Oper->Nat->(Xn->Prop)->Act->Prop:=ziG ops (jW I P ops S R) fun F a=>∀w,I w->F w->Q a w
theorem zaq{Q:Exit->Act->Xn->Prop}{l r:List Oper}(T:Nat)(S:List (Nat×(Xq->Prop)))(b:List Nat)(F:Xn->Prop)(f:I w.drew)(d:F w.drew)(n:P.follows .mixedOrders=Xc)(c:Jy K.toArray T=Xc)(m:K.take T=l)(p:K.drop T=r)(j:T<=K.length)
  (hS:∀x∈S,∃v,x.2 v)(g:((S.map (·.1)++b).all fun i=>(S.map (·.1)++b).all fun k=>!decide (i<k)||anc K.toArray 9 i k||(b.contains i&&b.contains k))=Xc)(e:(b.all fun i=>(S.lookup i).isNone)=Xc)
  (h:zao I P K.toArray (fun k=>S.lookup k) (fun k=>b.contains k) (fun a w=>wpList P K.toArray Q r a w) l 0 F a):(Code.region id K.toArray Xc).wp P Q a w:=by
 refine ziW (zss ?_ ?_) T n c m p j (fun _=>⟨f,d⟩) (fun _ _ _ _ c h=>h _ c.1 c.2) h;·intro k s d;obtain⟨x,f,rfl,_⟩:=J3 d;exact hS x f
 intro i k h m;have c:∀k,S.lookup k≠Xb->k∈S.map (·.1)++b/\b.contains k=Xd:=fun k d=>by
  obtain⟨s,j⟩:=Option.ne_none_iff_exists'.1 d;obtain⟨x,f,_,rfl⟩:=J3 j;refine⟨Yg.2 (.inl (Yo.2 ⟨x,f,rfl⟩)),?_⟩;cases f:b.contains x.1 with
  |false=>rfl
  |true=>
   have:=Yl.1 e x.1 (Si f);rw[j]at this;cases this
 have f:∀k,b.contains k=Xc->k∈S.map (·.1)++b:=fun k d=>Yg.2 (.inr (Si d));have e:i∈S.map (·.1)++b->k∈S.map (·.1)++b->(b.contains i&&b.contains k)=Xd->anc K.toArray 9 i k=Xc:=fun b d j=>by
  have:=Yl.1 (Yl.1 g i b) k d;rw[j]at this;simpa[h]using this
 rcases m with⟨b,d|d⟩|⟨b,d⟩;·exact e (c i b).1 (c k d).1 (by rw[(c i b).2];rfl)
 ·exact e (c i b).1 (f k d) (by rw[(c i b).2];rfl)
 exact e (f i b) (c k d).1 (by rw[(c k d).2,Bool.and_false])
variable{o:Oper}{rest:List Oper}{k:Nat}{F:Xn->Prop}{a:Act}
theorem zem(h:ops[k]?=Xa o->jW I P ops S R k F a (zao I P ops S R Q rest (k+1))):zao I P ops S R Q (o::rest) k F a:=ziG.cons (fun h=>jW.mono h) h
theorem zca(e:Xs o (yielded ops a.tmps)=Xc)(hS:S k=Xb)(c:∀w,I w->(R k=Xc->F w)->(execOp a.eval o).run P w=.ok (.value A) w)(d:zao I P ops S R Q rest (k+1) F (a.put o.dst A)):zao I P ops S R Q (o::rest) k F a:=zem fun b=>by
 simp only[jW,b,e,if_true,hS];exact⟨A,c,d⟩
theorem zfH(ht:zoM o=Xc)(b:Xs o (yielded ops a.tmps)=Xc)(hS:S k=Xb)
  (h:∀K:Act->Prop,(∀a,zao I P ops S R Q rest (k+1) F a->K a)->o.quiet P a (fun w'=>∃x:zh I,w'=x.world) K):zao I P ops S R Q (o::rest) k F a:=by obtain⟨v,c,d⟩:=zbZ ht (h _ fun _ h=>h);exact zca b hS (fun w b _=>c w ⟨⟨w,b⟩,rfl⟩) d
theorem Qd{P Q:Prop}(k:Q)(h:Go.RowKit.Hid Q->P:=by intro h;refine zfH rfl rfl rfl (fun K a=>?_);go_big_quiet_op;exact a _ h.out):P:=h k
theorem zhW(b:Xs o (yielded ops a.tmps)=Xc)(hS:S k=Xb)(f:R k=Xc)(v)(c:∀w,I w->F w->(execOp a.eval o).run P w=.ok (.value v) w)(d:zao I P ops S R Q rest (k+1) F (a.put o.dst v)):zao I P ops S R Q (o::rest) k F a:=zca b hS (fun w b e=>c w b (e f)) d
theorem zne(b:Xs o (yielded ops a.tmps)=Xd)(h:zao I P ops S R Q rest (k+1) F (a.put o.dst undef)):zao I P ops S R Q (o::rest) k F a:=zem fun b=>by grind[jW,Ob]
theorem zcb{s:Xq->Prop}(d:Xs o (yielded ops a.tmps)=Xc)(hS:S k=Xa s)(p:Xq->Xn->Prop)
  (h:∀w,I w->F w->zO P o a w fun v w'=>I w'/\s v/\p v w')
  (c:∀v,s v->zao I P ops S R Q rest (k+1) (p v) (a.put o.dst v)):zao I P ops S R Q (o::rest) k F a:=zem fun b=>by
 simp only[jW,b,d,if_true,hS];exact⟨p,h,c⟩
theorem zaF(x p)(b:o.op=.nilCheck x)(d:a.eval x=Xj (Xa p))(c:Xs o (yielded ops a.tmps)=Xc)(hS:S k=Xb)(h:zao I P ops S R Q rest (k+1) F (a.put o.dst (Xj (Xa p)))):zao I P ops S R Q (o::rest) k F a:=zca c hS (fun _ _ _=>zkj x p b d) h
theorem zgy(h:∀w,I w->F w->Q a w):zao I P ops S R Q [] k F a:=⟨fun _=>h⟩
end
section
variable{I:Xn->Prop}{P:Program}{ops:Array Oper}{S:Nat->Option (Xq->Prop)}{Q:Act->Xn->Prop}
variable(I P ops S Q)in
structure ziH(l:List Oper)(k:Nat)(F:Nat->Xn->Prop)(a:Act):Prop where
 out:(∀i w w',zc w w'->F i w->F i w')->zao I P ops S (fun _=>Xd) Q l k (fun w=>∀i,F i w) a
theorem Jl{Q:Exit->Act->Xn->Prop}{l r:List Oper}(T:Nat)(S:List (Nat×(Xq->Prop)))(d:I w.drew)(g:P.follows .mixedOrders=Xc)(c:Jy K.toArray T=Xc)(f:K.take T=l)(j:K.drop T=r)(e:T<=K.length)
  (hS:∀x∈S,∃v,x.2 v)(b:((S.map (·.1)).all fun i=>(S.map (·.1)).all fun k=>!decide (i<k)||anc K.toArray 9 i k)=Xc)
  (h:ziH I P K.toArray (fun k=>S.lookup k) (fun a w=>wpList P K.toArray Q r a w) l 0 (fun _ _=>True) a):(Code.region id K.toArray Xc).wp P Q a w:=
 zaq T S [] _ d (fun _=>trivial) g c f j e hS (Si b) rfl (h.out fun _ _ _ _ h=>h)
variable{o:Oper}{rest:List Oper}{k:Nat}{F:Nat->Xn->Prop}{a:Act}
theorem zcH(ht:zoM o=Xc)(b:Xs o (yielded ops a.tmps)=Xc)(hS:S k=Xb)
  (h:∀K:Act->Prop,(∀a,ziH I P ops S Q rest (k+1) F a->K a)->o.quiet P a (fun w'=>∃x:zh I,w'=x.world) K):ziH I P ops S Q (o::rest) k F a:=⟨fun e=>by
 obtain⟨v,c,d⟩:=zbZ ht (h _ fun _ h=>h)
 exact zca b hS (fun w b _=>c w ⟨⟨w,b⟩,rfl⟩) (d.out e)⟩
theorem jI{P Q:Prop}(k:Q)(h:Go.RowKit.Hid Q->P:=by intro h;refine zcH rfl rfl rfl (fun K a=>?_);go_big_quiet_op;exact a _ h.out):P:=h k
theorem Q4{s:Xq->Prop}(b:Xs o (yielded ops a.tmps)=Xc)(hS:S k=Xa s)(p:Xq->Xn->Prop)(hp:∀v w w',zc w w'->p v w->p v w')
  (h:∀w,I w->(∀m,anc ops 9 m k=Xc->F m w)->zO P o a w fun v w'=>I w'/\zc w w'/\s v/\p v w')
  (e:∀v,s v->ziH I P ops S Q rest (k+1) (zew F k (p v)) (a.put o.dst v)):ziH I P ops S Q (o::rest) k F a:=⟨fun c=>zcb b hS (fun v w=>∀i,zew F k (p v) i w) (fun w d b=>(h w d fun m _=>b m).mono fun v w'⟨d,f,g,h⟩=>⟨d,g,fun i=>by
 unfold zew;split;·exact h
 ·exact c i w w' f (b i)⟩) fun v b=>(e v b).out fun i w w' b=>by
 unfold zew;split;·exact hp v w w' b
 exact c i w w' b⟩
theorem zdB(h:∀w,I w->(∀i,F i w)->Q a w):ziH I P ops S Q [] k F a:=⟨fun _=>zgy h⟩
theorem zep(x p)(c:o.op=.nilCheck x)(e:a.eval x=Xj (Xa p))(d:Xs o (yielded ops a.tmps)=Xc)(hS:S k=Xb)(h:ziH I P ops S Q rest (k+1) F (a.put o.dst (Xj (Xa p)))):ziH I P ops S Q (o::rest) k F a:=⟨fun b=>zaF x p c e d hS (h.out b)⟩
end
structure zdF(base:Nat)(w:Xn)(V:MaV)(m:Ma):Prop where
 fs:zb q3 base w (O V.f.a V.f.n V.f.c) m.fs
 sl:zb slE base w (O V.s.a V.s.n V.s.c) m.sl
 sb:zl base w (O V.sb.a V.sb.n V.sb.c) m.sb
 sq:zu base w (O V.sq.a V.sq.n V.sq.c) m.sq
 db:zl base w (O V.db.a V.db.n V.db.c) m.db
 dq:zu base w (O V.dq.a V.dq.n V.dq.c) m.dq
 fl:∃lo,q8 lo w (O V.fl.a V.fl.n V.fl.c) m.fl/\base<=lo/\∀g,(O V.s.a V.s.n V.s.c).ownBlock=Xa g->g<lo
 ca:zb jF base w (O V.ca.a V.ca.n V.ca.c) m.ca
 sp:Qw base w (O V.sp.a V.sp.n V.sp.c) m.sp
 ap:∀g,(O V.sb.a V.sb.n V.sb.c).ownBlock=Xa g->(O V.db.a V.db.n V.db.c).ownBlock≠Xa g
theorem Zh.now0(h:Zh B0 B1 w A M):qH w A M:=by obtain⟨a,e,b,d,c⟩:=h;exact⟨a,e,b.now.s0,d,fun i x f b a=>⟨(c i x f b a).1,(c i x f b a).2.now.s0⟩⟩
theorem zdF.at{base:Nat}(h:zdF base w V m):zK w V m:=by obtain⟨b,a,_⟩:=h.fl;exact⟨h.fs.at,h.sl.at,h.sb.at,h.sq.at,h.db.at,h.dq.at,a.new.now0,h.ca.at,h.sp.at⟩
theorem zdF.aA(h:zdF p w V m)(k:zc w w'):zdF p w' V m:=by obtain⟨d,c,a,b⟩:=h.fl;exact⟨h.fs.aA k,h.sl.aA k,h.sb.aA k,h.sq.aA k,h.db.aA k,h.dq.aA k,⟨d,c.aA k,a,b⟩,h.ca.aA k,h.sp.aA k,h.ap⟩
theorem zkn(h:zl k w A r):∀g,A.ownBlock=Xa g->k<=g/\g<w.heap.size:=h.1.lt
theorem QY{w:Xn}{base a n g:Nat}{e:TypeId}{v:Xq}(h:w.ownsRow base e a v n xs)(i:w.grownBy w' (Xa g))(b:g<base):w'.ownsRow base e a v n xs:=by
 refine⟨h.1,?_⟩;rcases h.2 with a|⟨c,a,b,rfl,f,d,h⟩;·grind
 exact .inr ⟨c,a,b,rfl,f,by rw[i.block c (aS.1 d).1 (fun e=>by cases e;omega)];exact d,h⟩
theorem zb.low(h:zb E k w A y)(v:w.grownBy w' (Xa b))(a:b<k):zb E k w' A y:=⟨QY h.1 v a,h.2⟩
theorem zac.low{x:SpV}(h:zac k hi w x s)(lo:w.grownBy w' (Xa b))(a:b<k):zac k hi w' x s:=
 ⟨h.aD,h.ar.low lo a,⟨h.tb.len,h.tb.aL,fun i v y c d=>(h.tb.row i v y c d).low lo a,h.tb.two⟩,h.arh,h.tbh⟩
theorem zdF.below(h:zdF k w V m)(g:w.grownBy w' (Xa b))(a:b<k)(hb:base'<=k):zdF base' w' V m:=by obtain⟨f,⟨i,c,e,d,base⟩,j,l⟩:=h.fl;obtain⟨r,B,n,p,j,j,q⟩:=h.sp;refine⟨(h.fs.low g a).base hb,(h.sl.low g a).base hb,⟨jL (QY h.sb.1 g a) hb,h.sb.2⟩,⟨jL (QY h.sq.1 g a) hb,h.sq.2⟩,⟨jL (QY h.db.1 g a) hb,h.db.2⟩,⟨jL (QY h.dq.1 g a) hb,h.dq.2⟩,⟨f,⟨i,c.low g Wm,e,fun i x f c e=>⟨(d i x f c e).1,(d i x f c e).2.low g Wm⟩,base⟩,Wm,l⟩,(h.ca.low g a).base hb,⟨r,B,(n.low g a).base hb,p,Wm,j,fun i x s c a=>(q i x s c a).low g ?_⟩,h.ap⟩;have:=zef j (nZ i);omega
theorem zgq(V m)(w:Xn)(b:zK w V m):
  Xp prog 17 #[Xi (mL V m).toArray] w fun e w'=>∃V':MaV,e=Xl (Xi (mL V' m).toArray)/\zdF w.heap.size w' V' m/\zc w w':=by
 obtain⟨c,C,-⟩:=b.ns;have a:=dD b;have i:Xo (∀W,zc w W->Xp prog 46 #[Xi #[V.f.x,I6 m.aB]] W fun e w'=>∃f,e=Xl (Xi #[f,I6 m.aB])/\zb q3 W.heap.size w' f m.fs/\zc W w'):=show∀W,_ from fun W a=>by
  have k:=(b.aA a).fs;(try simp only[Sli.x]at k⊢);rw[c]at k⊢;exact JG _ _ m.fs m.aB W k
 have y:=dD<|fun W(a:zc w W)=>zcT _ m.sl W (b.aA a).sl;have D:=dD<|fun W(a:zc w W)=>zec _ m.sb m.sq W ⟨_,_,rfl,(b.aA a).sb,(b.aA a).sq⟩;have T:=dD<|fun W(a:zc w W)=>zec _ m.db m.dq W ⟨_,_,rfl,(b.aA a).db,(b.aA a).dq⟩;have X:=dD<|fun W(a:zc w W)=>zhG _ m.fl m.cnt W (b.aA a).fl;have Y:=dD<|fun W(a:zc w W)=>zjP _ m.ca W (b.aA a).ca;have Z:=dD<|fun W(a:zc w W)=>zgp _ m.sp W (b.aA a).sp;clear b c C;obtain⟨g,a⟩:=kB ((w.alloc (Xk (mL V m).toArray 41)).alloc (Xk zM.toArray 41));have h:=gD2 a;have b:=x2a a;have ad:=x2b a;have d:Xo (g.heap.size=(w.heap.size+1+1)):=dD<|by rw[<-a];simp
 have c:=dD a;clear a;go_enter func17,ntmps17;go_upto_region 1 with fail;rw[c.out];obtain⟨a,j⟩:∃a:Xn->Prop,a=fun u=>zc g u:=⟨_,rfl⟩;have c:Xo (∀u,a u↔zc g u):=dD<|fun u=>by rw[j]
 clear j;have B:=(c _).2 (gW _);have a1:=b.h c 0 rfl;have a4:=b.h c 1 rfl;have a5:=b.h c 2 rfl;have a6:=b.h c 3 rfl;have a7:=b.h c 4 rfl;have a8:=b.h c 5 rfl;have a9:=b.h c 6 rfl;have aa:=b.h c 7 rfl;have ab:=b.h c 8 rfl;have ac:=b.h c 9 rfl;have P:=b.h c 10 rfl;have a0:Nonempty (zh a):=⟨⟨_,B⟩⟩;have r:Xo (∀u,a u->(w.heap.size+1+1)<=u.heap.size):=dD<|fun u n=>by rw[<-d.out];exact bS ((c _).1 n)
 refine Jl (I:=a) 22 [(2,fun v=>∃s:Sli,v=Xi #[s.x,I6 m.aB]),(5,fun v=>∃s:Sli,v=s.x),(8,fun v=>∃f q:Sli,v=Xi #[f.x,q.x]),(11,fun v=>∃f q:Sli,v=Xi #[f.x,q.x]),(14,fun v=>∃s:Sli,v=Xi #[s.x,I6 m.cnt]),(17,fun v=>∃s:Sli,v=s.x),(20,fun v=>∃s:Sli,v=s.x)] B zY Kr rfl rfl Dc ?hS Kr ?_;case hS=>
  intro x a;simp only[mC,nM,or_false]at a;rcases a with rfl|rfl|rfl|rfl|rfl|rfl|rfl;·exact⟨_,zJ,rfl⟩
  ·exact⟨_,zJ,rfl⟩
  ·exact⟨_,zJ,zJ,rfl⟩
  ·exact⟨_,zJ,zJ,rfl⟩
  ·exact⟨_,zJ,rfl⟩
  ·exact⟨_,zJ,rfl⟩
  exact⟨_,zJ,rfl⟩
 simp only[Yw,Yx];iterate 2 refine jI ?_
 refine Q4 rfl rfl (fun v w'=>∃s:Sli,v=Xi #[s.x,I6 m.aB]/\zb q3 (w.heap.size+1+1) w' (s.x) m.fs) (fun v u H n k=>by obtain⟨s,x,z⟩:=k;exact⟨s,x,z.aA n⟩) (fun w' a l=>?_) (fun K p=>?_);·have g:=h.trans ((c _).1 a);have d:=r.out w' a;refine zO.call [Xi #[V.f.x,I6 m.aB]] rfl func46 rfl rfl rfl ?_;refine(i w' g).mono ?_;rintro e t⟨f,rfl,A,b⟩;obtain⟨i,j,rfl⟩:=A.form;exact⟨_,rfl,(c _).2 (((c _).1 a).trans b),b,⟨⟨i,_,j⟩,rfl⟩,⟨i,_,j⟩,rfl,A.base d⟩
 obtain⟨U,rfl⟩:=p;refine Uq ?_;iterate 2 refine jI ?_
 refine Q4 rfl rfl (fun v w'=>zb slE (w.heap.size+1+1) w' v m.sl) (fun v u H n k=>zb.aA k n) (fun w' a l=>?_) (fun K p=>?_);·have g:=h.trans ((c _).1 a);have d:=r.out w' a;refine zO.call [V.s.x] rfl func47 rfl rfl rfl ?_;refine(y w' g).mono ?_;rintro e t⟨f,rfl,A,b⟩;obtain⟨i,j,rfl⟩:=A.form;exact⟨_,rfl,(c _).2 (((c _).1 a).trans b),b,⟨⟨i,_,j⟩,rfl⟩,A.base d⟩
 obtain⟨G,rfl⟩:=p;refine Uq ?_;iterate 2 refine jI ?_
 refine Q4 rfl rfl (fun v w'=>∃f q:Sli,v=Xi #[f.x,q.x]/\zl (w.heap.size+1+1) w' (f.x) m.sb/\zu (w.heap.size+1+1) w' (q.x) m.sq) (fun v u H n k=>by obtain⟨f,q,x,z,N⟩:=k;exact⟨f,q,x,z.aA n,N.aA n⟩) (fun w' a l=>?_) (fun K p=>?_);·have g:=h.trans ((c _).1 a);have d:=r.out w' a;refine zO.call [Xi #[V.sb.x,V.sq.x]] rfl func48 rfl rfl rfl ?_;refine(D w' g).mono ?_;rintro e t⟨D,rfl,⟨f,q,rfl,E,R⟩,b⟩;obtain⟨i,C,j,rfl⟩:=E.slice;obtain⟨L,Q,M,rfl⟩:=R.slice;exact⟨_,rfl,(c _).2 (((c _).1 a).trans b),b,⟨⟨i,C,j⟩,⟨L,Q,M⟩,rfl⟩,⟨i,C,j⟩,⟨L,Q,M⟩,rfl,E.base d,R.base d⟩
 obtain⟨F,S,rfl⟩:=p;refine Uq ?_;iterate 2 refine jI ?_
 refine Q4 rfl rfl (fun v w'=>∃f q:Sli,v=Xi #[f.x,q.x]/\zl (w.heap.size+1+1) w' (f.x) m.db/\zu (w.heap.size+1+1) w' (q.x) m.dq/\∀y,(F.x).ownBlock=Xa y->(f.x).ownBlock≠Xa y) (fun v u H n k=>by obtain⟨f,q,x,z,N,W⟩:=k;exact⟨f,q,x,z.aA n,N.aA n,W⟩) (fun w' a l=>?_) (fun K p=>?_)
 ·have g:=h.trans ((c _).1 a);have d:=r.out w' a;refine zO.call [Xi #[V.db.x,V.dq.x]] rfl func48 rfl rfl rfl ?_;refine(T w' g).mono ?_;rintro e t⟨D,rfl,⟨f,q,rfl,E,R⟩,b⟩;obtain⟨i,C,j,rfl⟩:=E.slice;obtain⟨L,Q,M,rfl⟩:=R.slice;obtain⟨ae,af,D,T,_⟩:∃f q:Sli,(Value.agg #[F.x,S.x])=Xi #[f.x,q.x]/\zl (w.heap.size+1+1) w' (f.x) m.sb/\zu (w.heap.size+1+1) w' (q.x) m.sq:=l 8 Kr;refine⟨_,rfl,(c _).2 (((c _).1 a).trans b),b,⟨⟨i,C,j⟩,⟨L,Q,M⟩,rfl⟩,⟨i,C,j⟩,⟨L,Q,M⟩,rfl,E.base d,R.base d,fun y x z=>?_⟩;simp only[Value.agg.injEq,Array.mk.injEq,List.cons.injEq]at D;rw[D.1]at x;have q:=(zkn T y x).2;have q:=(zkn E y z).1;omega
 obtain⟨C,E,rfl⟩:=p;refine Uq ?_;iterate 2 refine jI ?_
 refine Q4 rfl rfl (fun v w'=>∃s:Sli,v=Xi #[s.x,I6 m.cnt]/\∃q,q8 q w' (s.x) m.fl/\(w.heap.size+1+1)<=q/\∀y,(G.x).ownBlock=Xa y->y<q) (fun v u H n k=>by obtain⟨s,x,q,z,N,W⟩:=k;exact⟨s,x,q,z.aA n,N,W⟩) (fun w' a l=>?_) (fun K p=>?_)
 ·have g:=h.trans ((c _).1 a);have d:=r.out w' a;refine zO.call [Xi #[V.fl.x,I6 m.cnt]] rfl func49 rfl rfl rfl ?_;refine(X w' g).mono ?_;rintro e t⟨f,rfl,L,b,_⟩;have s:=L;obtain⟨M,z,_⟩:=L;obtain⟨i,j,rfl⟩:=z.form;have L:zb slE (w.heap.size+1+1) w' (G.x) m.sl:=l 5 Kr;exact⟨_,rfl,(c _).2 (((c _).1 a).trans b),b,⟨⟨i,_,j⟩,rfl⟩,⟨i,_,j⟩,rfl,w'.heap.size+2,s,Wm,fun y x=>Hm ((L.lt y x).2)⟩
 obtain⟨x,rfl⟩:=p;refine Uq ?_;iterate 2 refine jI ?_
 refine Q4 rfl rfl (fun v w'=>zb jF (w.heap.size+1+1) w' v m.ca) (fun v u H n k=>zb.aA k n) (fun w' a l=>?_) (fun K p=>?_);·have g:=h.trans ((c _).1 a);have d:=r.out w' a;refine zO.call [V.ca.x] rfl func50 rfl rfl rfl ?_;refine(Y w' g).mono ?_;rintro e t⟨f,rfl,A,b⟩;obtain⟨i,j,rfl⟩:=A.form;exact⟨_,rfl,(c _).2 (((c _).1 a).trans b),b,⟨⟨i,_,j⟩,rfl⟩,A.base d⟩
 obtain⟨s,rfl⟩:=p;refine Uq ?_;iterate 2 refine jI ?_
 refine Q4 rfl rfl (fun v w'=>Qw (w.heap.size+1+1) w' v m.sp) (fun v u H n k=>Qw.aA k n) (fun w' a l=>?_) (fun K p=>?_);·have g:=h.trans ((c _).1 a);have d:=r.out w' a;refine zO.call [V.sp.x] rfl func51 rfl rfl rfl ?_;refine(Z w' g).mono ?_;rintro e t⟨f,rfl,g,b⟩;have f:=g;obtain⟨M,k,z,_⟩:=g;obtain⟨i,j,rfl⟩:=z.form;exact⟨_,rfl,(c _).2 (((c _).1 a).trans b),b,⟨⟨i,_,j⟩,rfl⟩,f.base d⟩
 obtain⟨k,rfl⟩:=p;refine Uq ?_;refine jI ?_;refine zdB fun g f l=>?_;have b:=(c _).1 f;have a:=l 2;have L:=l 5;have c:=l 8;have d:=l 11;have n:=l 14;have r:=l 17;have t:=l 20;have u:Xo (zdF (w.heap.size+1+1) g ⟨U,G,F,S,C,E,x,s,k⟩ m):=dD<|by
  obtain⟨g,A,H⟩:=a;obtain⟨ae,af,D,T,K⟩:=c;obtain⟨a,a,a,g,j,c⟩:=d;obtain⟨d,d,q,i,z,y⟩:=n;simp only[Value.agg.injEq,Array.mk.injEq,List.cons.injEq]at A D a d;rw[<-A.1]at H;rw[<-D.1]at T;rw[<-D.2.1]at K;rw[<-a.1]at g c;rw[<-a.2.1]at j;rw[<-d.1]at i;exact⟨H,L,T,K,g,j,⟨q,i,z,y⟩,r,t,c⟩
 have a:=dD (ad.aA b);have c:=dD (h.trans b);clear l f b a1 a4 a5 a6 a7 a8 a9 aa ab ac P a0 B
 go_wp2_with(refine zn rfl 41 (.tmp 2) (.tmp 24) rfl (w.heap.size+1) rfl [U.x,I6 m.aB,G.x,F.x,S.x,C.x,E.x,x.x,I6 m.cnt,s.x,k.x] rfl a rfl Kr (fun v p=>by
    simp only[mC,nM,or_false]at p
    rcases p with rfl|rfl|rfl|rfl|rfl|rfl|rfl|rfl|rfl|rfl|rfl<;>rfl) ?_)
 intro f d a b;have b:Xo (zc w f):=dD<|zd c a Wm;have c:Xo (zdF w.heap.size f ⟨U,G,F,S,C,E,x,s,k⟩ m):=dD<|u.below a Wm Wm;go_wp2;refine bodyPost_ret (z8 rfl _ rfl d underlying41 rfl Kr) rfl ⟨⟨U,G,F,S,C,E,x,s,k⟩,rfl,c,b⟩
theorem zsV:(Tryz.prog.info? 56).map (·.size)=Xa 192:=by kernel_rfl
def qN(l:List En):List Xq:=l.flatMap env
theorem QO(l:List En):(qN l).length=l.length*3:=jP l (fun _ _=>rfl)
theorem zfZ(l:List En):∀v∈qN l,v.oneCell'=Xc:=qW enE.one l
theorem zeT(h:C[j]?=Xa Z):(qN C)[j*3]?=Xa (I6 Z.kind)/\(qN C)[j*3+1]?=Xa (I6 Z.n)/\(qN C)[j*3+2]?=Xa (Xh Z.wr):=
 ⟨jB (enc:=env) (k:=3) C j Z (fun _ _=>rfl) h 0 _ rfl,jB (enc:=env) (k:=3) C j Z (fun _ _=>rfl) h 1 _ rfl,jB (enc:=env) (k:=3) C j Z (fun _ _=>rfl) h 2 _ rfl⟩
theorem zmL(a b c)(h:j+3<=D.length):((D.set j a).set (j+1) b).set (j+2) c=splice D j [a,b,c]:=by
 apply Xv;intro i;unfold splice;by_cases d:i<j;·grind
 have d:(D.take j).length=j:=by simp;omega
 rw[aR Wm,d];by_cases d:i=j;·grind
 by_cases d:i=j+1;·grind
 grind
theorem zme(e:En)(h:j<C.length):(((qN C).set (j*3) (I6 e.kind)).set (j*3+1) (I6 e.n)).set (j*3+2) (Xh e.wr)=qN (C.set j e):=by rw[zmL _ _ _ (by rw[QO];omega)];exact JD (enc:=env) (k:=3) e rfl C j (fun _ _=>rfl) h
def zif:List En:=Xr 64 en0
theorem zlP:(Tryz.prog.info? 56).map (·.zero)=Xa (Xa (Xi (qN zif).toArray)):=by kernel_rfl
theorem zhs(w):(zeroValue 56).run prog w=.ok (Xi (qN zif).toArray) w:=by
 have h:=zlP;cases a:Tryz.prog.info? 56 with
 |none=>simp[a]at h
 |some i=>
  simp[a]at h;simp[zeroValue,typeInfo,a,h]
def zj3(t:List (List En))(i k:Nat)(l:List En):Prop:=l.length=64/\∀a b,a<8->b<8->l[8*a+b]?=Xa (if a<i\/(a=i/\b<k)then zbg t a b else en0)
theorem zj3.zero(t:List (List En)):zj3 t 0 0 zif:=⟨by simp[zif],fun a b a a=>by
 rw[kF Wm,zif,List.getElem?_replicate,kE Wm]⟩
theorem zj3.step(h:zj3 G k p C)(hi:k<8)(a:p<8):zj3 G k (p+1) (C.set (8*k+p) (zbg G k p)):=by
 refine⟨by simp[h.1],fun a b c d=>?_⟩;by_cases e:a=k/\b=p;·obtain⟨rfl,rfl⟩:=e;rw[sF (by rw[h.1];omega),kE Wm]
 rw[sN Wm,h.2 a b c d];grind
theorem zj3.next(h:zj3 G k p C)(a:∀b,p<=b->zbg G k b=en0):zj3 G (k+1) 0 C:=by refine⟨h.1,fun a b c d=>?_⟩;rw[h.2 a b c d];grind
theorem zj3.all(h:zj3 G 8 0 C):C=zaO G:=by
 apply Xv;intro j;by_cases a:j<64
 ·have:=h.2 (j/8) (j%8) Wm Wm
  grind[zdD]
 rw[gN (by rw[h.1];omega),gN (by rw[zie];omega)]
theorem zcP(vs:List Xq)(t:List (List En))(w)(a7:JT w vs t)(M:∀ba∈t,ba.length<=8):
  Xp prog 14 #[Xi vs.toArray] w fun e w'=>e=Xl (Xi (qN (zaO t)).toArray)/\zc w w':=by
 have av:=dD a7;have au:=dD a7.len;have I:=dD M;clear a7 M;have an:=zhs;obtain⟨u,s⟩:=kA (qN zif);rw[s.out]at an;have E:Xo (u.length=192):=show _=_ by rw[<-s.out,QO];rfl
 obtain⟨P,Q⟩:=kA (qN (zaO t));rw[Q.out];obtain⟨R,c⟩:=kB (((w.alloc (Xk vs.toArray 61)).alloc (Xk u.toArray 56)).alloc (Xk u.toArray 56));have Z:Xo (zc w R):=dD<|by rw[<-c];exact((za _ _).trans (za _ _)).trans (za _ _)
 have b0:Xo (Box R w.heap.size vs):=dD<|by rw[<-c];exact((Box.aE w _ _ rfl).alloc _).alloc _
 have b1:Xo (Box R (w.heap.size+1) u):=dD<|by rw[<-c];exact(Box.aE _ _ _ Sm).alloc _
 have aw:Xo (Box R (w.heap.size+2) (qN zif)):=dD<|by rw[<-c,s.out];exact Box.aE _ _ _ Sm
 have a1:=dD c;clear c;go_enter func14,ntmps14;go_upto_region 2 with fail;rw[a1.out];clear an;go_wp2_with(refine qO rfl (.tmp 1) rfl w.heap.size rfl b0 au.out ?_)
 go_loopg[9] 8 (fun b9 bn wr=>∃(a:Nat)(U:List En),a<=8/\8-a<=b9/\bn=I6 a/\Xo (zc w wr)/\Xo (Box wr (w.heap.size+1) u)/\Xo (Box wr (w.heap.size+2) (qN U))/\Xo (zj3 t a 0 U))
 exact⟨0,zif,nZ _,Wm,rfl,Z,b1,aw,zj3.zero t⟩;obtain⟨a,U,be,bq,rfl,aa,af,ae,ab⟩:=hrel;by_cases v:a<8
 ·have L:(a:Int)<8:=Wm
  obtain⟨br,bs,V,a5,A,am⟩:=av.half v;have a6:=I.out V (mG a5);have C:Xo (∀T,zbg t a T=V[T]?.getD en0):=dD<|fun T=>by unfold zbg;rw[a5];rfl
  obtain⟨_,_,a3,k⟩:=am.ens;cases a3;have ar:=dD k;obtain⟨nq,r⟩:=kA V.length;rw[r.out]at A a6;have a0:=dD A;clear k am a5 A;go_wp2_with(refine zdP rfl (.tmp 8) (.tmp 9) rfl vs rfl a rfl v a0.out ?_)
  go_loopg[15] nq (fun b8 a9 B=>∃(b:Nat)(m:List En),b<=nq/\nq-b<=b8/\a9=I6 b/\Xo (zc w B)/\Xo (Box B (w.heap.size+1) u)/\Xo (Box B (w.heap.size+2) (qN m))/\Xo (zj3 t a b m))
  exact⟨0,U,nZ _,Wm,rfl,aa,af,ae,ab⟩;obtain⟨b,m,bd,bc,rfl,n,H,G,j⟩:=hrel;by_cases h:b<nq
  ·have x:=kC h
   obtain⟨z,ac⟩:∃z,Xo (V[b]?=Xa z):=⟨_,gE (Rx r.out h)⟩;obtain⟨bp,rfl,K⟩:=ar.out b z ac.out;obtain⟨b5,b6,b7⟩:=K wr n.out;clear K;go_upto_region 8 with fail;obtain⟨bl,y⟩:=kB wr.heap.size;obtain⟨S,d⟩:=kB (wr.alloc (Xk #[I6 z.kind,I6 z.n,Xh z.wr] 55));have X:=gT d n;have az:Xo (Box S bl [I6 z.kind,I6 z.n,Xh z.wr]):=dD (by rw[<-d];exact Box.aE _ _ _ y.symm);have b2:=yA d H;have F:=yA d G;rw[d];rw[y];clear d y b5 b6 b7;obtain⟨bi,bj,bk⟩:=az.c3;have l:(8:Int)*(a:Int)+(b:Int)=((8*a+b:Nat):Int):=Wm;have g:8*a+b<64:=Wm;obtain⟨i,D⟩:=kA (8*a+b);rw[D.out]at l g;have a4:(i:Int)<64:=Wm;obtain⟨ao,N⟩:∃ao,m[i]?=Xa ao:=⟨_,gE (Rx j.1 g)⟩;obtain⟨ah,ai,aj⟩:=zeT N;have bf:=F.c _ ah;have bg:=F.c _ ai;have a8:=F.c _ aj;have bh:=F.f;clear ah ai aj N;go_upto_region 9 with fail;obtain⟨a2,f⟩:=kB (((S.setCell ⟨w.heap.size+2,i*3,Xb⟩ (I6 z.kind)).setCell ⟨w.heap.size+2,i*3+1,Xb⟩ (I6 z.n)).setCell ⟨w.heap.size+2,i*3+2,Xb⟩ (Xh z.wr));have ax:Xo (Box a2 (w.heap.size+2) (qN (m.set i z))):=dD<|by
    rw[<-f,<-zme z (Rx j.1 g)];exact((F.set _ _).set _ _).set _ _
   have b4:Xo (Box a2 (w.heap.size+1) u):=dD<|by
    rw[<-f];exact((b2.other Sm _).other Sm _).other Sm _
   have aq:Xo (zc w a2):=dD<|by
    rw[<-f];exact Below.setCell (Below.setCell (Below.setCell X (p:=⟨w.heap.size+2,i*3,Xb⟩) Sm _) (p:=⟨w.heap.size+2,i*3+1,Xb⟩) Sm _) (p:=⟨w.heap.size+2,i*3+2,Xb⟩) Sm _
   have W:Xo (zj3 t a (b+1) (m.set i z)):=dD<|by
    have al:=j.step v (show b<8 by omega);rw[C.out,ac.out,D.out]at al;exact al
   rw[f];clear f bf bg a8 bh bi bj bk l;go_wp2;go_roundg (nq-(b+1));exact⟨b+1,_,Wm,Wm,Gn,aq,b4,ax,W⟩;omega
  have x:=kD h;have:b=nq:=Wm;subst this;have W:Xo (zj3 t (a+1) 0 m):=j.next (fun T bb=>by rw[C.out,gN (Rx r.out bb)];rfl);go_wp2;go_roundg (8-(a+1));exact⟨a+1,m,Wm,Wm,Gn,n,H,G,W⟩;omega
 have L:¬(a:Int)<8:=Wm;have:a=8:=Wm;subst this;have ay:Xo (Box wr (w.heap.size+2) P):=dD<|by rw[<-Q.out,<-ab.all];exact ae.out
 have q:Xo (P.length=192):=dD<|by rw[<-Q.out,QO,zie]
 have Y:Xo (∀bo∈P,bo.oneCell'=Xc):=dD<|by rw[<-Q.out];exact zfZ _
 go_wp2_with(first|refine zE rfl 56 (.tmp 3) rfl (w.heap.size+2) rfl ay underlying56 rfl (Rx q.out zsV) ?_|refine zn rfl 56 (.tmp 2) (.tmp 28) rfl (w.heap.size+1) rfl P rfl af (by rw[q.out,E.out]) (Rx E.out zsV) Y.out ?_)
 intro S ag ak bm;have X:Xo (zc w S):=dD<|zd aa ak Sm;have ap:=dD ag;clear ag ak bm;go_wp2;refine bodyPost_ret (z8 rfl _ rfl ap underlying56 rfl (Rx q.out zsV)) rfl ⟨rfl,X⟩
theorem zlh(i:Nat)(hi:i<64)(g:C[i]?=Xa Z):(Instr.index 56 (Xi (qN C).toArray) (I6 (i:Int))).run prog w=.ok (Xi #[I6 Z.kind,I6 Z.n,Xh Z.wr]) w:=by
 have f:(isAgg 55).run prog w=.ok Xc w:=by
  unfold isAgg;rw[Xu,run_underlying underlying55 w];rfl
 have h:(Go.sizeOf 55).run prog w=.ok 3 w:=by
  obtain⟨a,c,d⟩:∃a,Tryz.prog.info? 55=Xa a/\a.size=3:=by
   have:(Tryz.prog.info? 55).map (·.size)=Xa 3:=Kr;cases b:Tryz.prog.info? 55 with
   |none=>rw[b]at this;cases this
   |some a=>rw[b]at this;exact⟨a,rfl,by simpa using this⟩
  simp[Go.sizeOf,typeInfo,c,d]
 have a:(0:Int)<=(i:Int)/\(i:Int)<((64:Nat):Int):=Wm;obtain⟨c,d,b⟩:=zeT g;have g:(qN C).toArray.extract (i*3) (i*3+3)=#[I6 Z.kind,I6 Z.n,Xh Z.wr]:=by
  apply Array.ext_getElem?;intro j;rw[Array.getElem?_extract];have hlen:i*3+3<=(qN C).toArray.size:=by
   have:=(gS.1 b).1;simp;omega
  by_cases k:j<3
  ·rw[kE Wm]
   obtain rfl|rfl|rfl:j=0\/j=1\/j=2:=Wm;·simpa using c
   ·simpa using d
   simpa using b
  rw[kF Wm];simp;omega
 simp only[Instr.index,asIntOf,Xu,Xt,rA,run_underlying underlying56];rw[kE a];simp only[Xu,h,rA,part,f,if_true,tN,Xt,g]
theorem zbQ(b:o.guard=Xb)(x ix)(f:o.op=.index 56 x ix)(l:List En)(g:a.eval x=Xi (qN l).toArray)(i:Nat)(c:a.eval ix=I6 (i:Int))(hi:i<64)(d:l[i]?=Xa Z)
  (h:wpList prog ops Q K (a.put o.dst (Xi #[I6 Z.kind,I6 Z.n,Xh Z.wr])) w):wpList prog ops Q (o::K) a w:=by refine wpList_plain b fun rest b=>?_;unfold Oper.wp execOp;simp only[f,g,c,Xu,Xt,rA,zlh i hi d];exact b _ _ h
def qA:List Xq:=[O Xb 0 0,Xe Xf 0,O Xb 0 0,O Xb 0 0,O Xb 0 0,O Xb 0 0,O Xb 0 0,O Xb 0 0,Xe Xf 0,O Xb 0 0,O Xb 0 0]
theorem zsW:(Tryz.prog.info? 5).map (fun i=>(i.zero,i.size,i.bytes))=Xa (Xa (U8 0),1,1):=by kernel_rfl
def byE:Elt Int where
 enc:=fun z=>[Xe Xg z]
 k:=1
 ty:=5
 st:=24
 bytes:=1
 zv:=Xe Xg 0
 zero:=0
 len:=fun _=>rfl
 one:=fun a u hu=>by
  simp only[mC,nM,or_false]at hu;rw[hu];rfl
 bL:=underlying24
 aF:=zsW
 zok:=rfl
 few:=by decide
 pos:=by decide
theorem zsX:(Tryz.prog.info? 56).map (fun i=>(i.zero,i.size,i.bytes))=Xa (Xa (Xi (qN (tab fun _=>en0)).toArray),192,1536):=by kernel_rfl
def zdk:Elt (Nat->En) where
 enc:=fun f=>qN (tab f)
 k:=192
 ty:=56
 st:=79
 bytes:=1536
 zv:=Xi (qN (tab fun _=>en0)).toArray
 zero:=fun _=>en0
 len:=fun f=>by rw[QO,Ju]
 one:=fun f=>zfZ _
 bL:=underlying79
 aF:=zsX
 zok:=rfl
 few:=by decide
 pos:=by decide
def ze2(fs:List Fr):Prop:=∀f∈fs,f.f=-1->f.d=Xd
def zr1(m:Ma)(f:Fr):Prop:=(f.f=-1->f.d=Xd)/\(f.r≠0->f.f≠-1->Z8 (pgL f.p) f.x (JC m f.f)=pgL f.p/\(f.d=Xd->Qr m f.f f.x=pgL f.p))
def zf4(m:Ma):Prop:=∀f∈m.fs,zr1 m f
theorem zf4.clean(h:zf4 m):ze2 m.fs:=fun f a=>(h f a).1
theorem zf4.set(h:zf4 m){x:Fr}(b:zr1 m x)(k:Nat):zf4 {m with fs:=m.fs.set k x}:=fun f a=>by
 rcases List.mem_or_eq_of_mem_set a with e|e;·exact h f e
 rw[e];exact b
theorem zf4.free(b:ze2 m.fs)(c:∀f∈m.fs,f.r=0):zf4 m:=fun f a=>⟨b f a,fun e=>absurd (c f a) e⟩
theorem zf4.bare(h:zf4 m)(b:∀f∈m.fs,f.r=0)(a:m'.fs=m.fs):zf4 m':=zf4.free (Rx a h.clean) (Rx a b)
theorem zf4.inc(h:zf4 m)(hb:qT m T)(a:m.fs[k]?=Xa Y):zf4 {m with fs:=m.fs.set k {Y with r:=Y.r+1}}:=
 h.set (x:={Y with r:=Y.r+1}) ⟨(h Y (mG a)).1,fun _ b=>(h Y (mG a)).2 (fun e=>b (by rw[(hb.bE Y (mG a)).2.2.2.1 e];rfl)) b⟩ k
structure MkR(base hi:Nat)(w:Xn)(V:MaV)(m:Ma)(vt:Sli)(T:List (Nat->En)):Prop where
 hw:hi<=w.heap.size
 bh:base<=hi
 fs:zb q3 base w (O V.f.a V.f.n V.f.c) m.fs
 sl:zb slE base w (O V.s.a V.s.n V.s.c) m.sl
 bB:∀g,(O V.s.a V.s.n V.s.c).ownBlock=Xa g->g<hi
 sb:zl base w (O V.sb.a V.sb.n V.sb.c) m.sb
 bJ:∀g,(O V.sb.a V.sb.n V.sb.c).ownBlock=Xa g->g<hi
 sq:V.sq=zJ/\m.sq=[]
 db:zl base w (O V.db.a V.db.n V.db.c) m.db
 bG:∀g,(O V.db.a V.db.n V.db.c).ownBlock=Xa g->g<hi
 dq:zu base w (O V.dq.a V.dq.n V.dq.c) m.dq
 fl:∃xs:List FlV,zb fvE base w (O V.fl.a V.fl.n V.fl.c) xs/\xs.length=m.fl.length/\∀(i:Nat)x f,xs[i]?=Xa x->m.fl[i]?=Xa f->x.size=f.size/\zb blE hi w x.v f.bl
 ca:zb jF base w (O V.ca.a V.ca.n V.ca.c) m.ca
 sp:∃xs:List SpV,zb ZP base w (O V.sp.a V.sp.n V.sp.c) xs/\xs.length=m.sp.length/\∀(i:Nat)x s,xs[i]?=Xa x->m.sp[i]?=Xa s->x.aD=s.aD/\zb arE base w x.ar.v s.aC/\x.tab=J2/\s.tb=qG
 tt:zb zdk base w (O vt.a vt.n vt.c) T
 ap:(∀g,(O V.sb.a V.sb.n V.sb.c).ownBlock=Xa g->(O V.db.a V.db.n V.db.c).ownBlock≠Xa g)/\zf4 m
section
variable{base hi:Nat}{w w':Xn}{V:MaV}{m:Ma}{vt:Sli}{T:List (Nat->En)}
theorem MkR.aA(h:MkR base hi w V m vt T)(k:zc w w'):MkR base hi w' V m vt T:=by obtain⟨f,a,d,b⟩:=h.fl;obtain⟨j,e,g,c⟩:=h.sp;exact⟨nT h.hw (bS k),h.bh,h.fs.aA k,h.sl.aA k,h.bB,h.sb.aA k,h.bJ,h.sq,h.db.aA k,h.bG,h.dq.aA k,⟨f,a.aA k,d,fun i x f a d=>⟨(b i x f a d).1,(b i x f a d).2.aA k⟩⟩,h.ca.aA k,⟨j,e.aA k,g,fun i x s a b=>⟨(c i x s a b).1,(c i x s a b).2.1.aA k,(c i x s a b).2.2⟩⟩,h.tt.aA k,h.ap⟩
theorem zb.kind(h:zb E b w A y)(a:w.grownBy w' (Xa k))(c:w.heap[k]?=Xa (Xk U t (0,0)))(ht:t≠E.ty):zb E b w' A y:=h.grown a fun v a e=>by
 cases e;obtain⟨c,c⟩:=h.obj a;grind
theorem JF{a n g:Nat}{e:TypeId}{v:Xq}(h:w.ownsRow b e a v n xs)(j:w.grownBy w' (Xa g))(d:v.ownBlock≠Xa g):w'.ownsRow b e a v n xs:=by
 refine⟨h.1,?_⟩;rcases h.2 with a|⟨k,a,c,rfl,h,f,i⟩;·grind
 exact .inr ⟨k,a,c,rfl,h,by rw[j.block k (aS.1 f).1 (fun e=>by cases e;exact d rfl)];exact f,i⟩
theorem z9{g:Nat}{e:TypeId}(h:w.ownsRow b e k A p xs)(i:w.grownBy w' (Xa g))(m:w.heap[g]?=Xa (Xk U t (0,0)))(ht:t≠e):w'.ownsRow b e k A p xs:=by
 refine JF h i fun c=>?_;rcases h.2 with⟨rfl,_⟩|⟨n,d,f,rfl,j,v,l⟩;·cases c
 simp only[Value.ownBlock,Option.some.injEq]at c;grind
theorem MkR.kept(h:MkR base hi w V m vt T)(b:w.grownBy w' (Xa k))(d:w.heap[k]?=Xa (Xk U t (0,0))):
  (t≠53->zb q3 base w' (V.f.x) m.fs)/\(t≠3\/hi<=k->zb slE base w' (V.s.x) m.sl)/\
  (t≠44\/hi<=k\/(V.sb.x).ownBlock≠Xa k->zl base w' (V.sb.x) m.sb)/\(t≠44\/hi<=k\/(V.db.x).ownBlock≠Xa k->zl base w' (V.db.x) m.db)/\
  (t≠88->zu base w' (V.dq.x) m.dq)/\
  (t≠84->(t≠3\/k<hi)->∃e:List FlV,zb fvE base w' (V.fl.x) e/\e.length=m.fl.length/\∀(i:Nat)x f,e[i]?=Xa x->m.fl[i]?=Xa f->x.size=f.size/\zb blE hi w' x.v f.bl)/\
  (t≠108->zb jF base w' (V.ca.x) m.ca)/\
  (t≠63->t≠77->∃e:List SpV,zb ZP base w' (V.sp.x) e/\e.length=m.sp.length/\∀(i:Nat)x s,e[i]?=Xa x->m.sp[i]?=Xa s->x.aD=s.aD/\zb arE base w' x.ar.v s.aC/\x.tab=J2/\s.tb=qG)/\
  (t≠56->zb zdk base w' (vt.x) T):=by
 obtain⟨e,j,l,g⟩:=h.fl;obtain⟨r,p,q,n⟩:=h.sp;refine⟨fun a=>h.fs.kind b d a,fun a=>?_,fun a=>?_,fun a=>?_,fun a=>⟨z9 h.dq.1 b d a,h.dq.2⟩,fun a c=>⟨e,j.kind b d a,l,fun i x f e l=>⟨(g i x f e l).1,?_⟩⟩,fun a=>h.ca.kind b d a,fun a c=>⟨r,p.kind b d a,q,fun i x s e j=>⟨(n i x s e j).1,(n i x s e j).2.1.kind b d c,(n i x s e j).2.2⟩⟩,fun a=>h.tt.kind b d a⟩
 ·rcases a with a|a
  ·exact h.sl.kind b d a
  exact h.sl.grown b fun p n j=>by cases j;have:=h.bB _ n;omega
 ·rcases a with a|a|a
  ·exact⟨z9 h.sb.1 b d a,h.sb.2⟩
  ·exact⟨JF h.sb.1 b fun j=>Hm (h.bJ _ j),h.sb.2⟩
  exact⟨JF h.sb.1 b a,h.sb.2⟩
 ·rcases a with a|a|a
  ·exact⟨z9 h.db.1 b d a,h.db.2⟩
  ·exact⟨JF h.db.1 b fun j=>Hm (h.bG _ j),h.db.2⟩
  exact⟨JF h.db.1 b a,h.db.2⟩
 rcases c with c|c;·exact(g i x f e l).2.kind b d c
 exact(g i x f e l).2.grown b fun p n j=>by cases j;have:=((g i x f e l).2.lt _ n).1;omega
theorem MkR.var(h:MkR base hi w V m vt T)(p:w.grownBy w' (Xa k))(q:w.heap[k]?=Xa (Xk U t (0,0)))(b:w.heap.size<=w'.heap.size)(a:t=81\/(t=44/\hi<=k)):MkR base hi w' V m vt T:=by
 obtain⟨c,d,e,f,i,j,g,l,n⟩:=h.kept p q;rcases a with rfl|⟨rfl,a⟩;·exact⟨nT h.hw b,h.bh,c Dc,d (.inl Dc),h.bB,e (.inl Dc),h.bJ,h.sq,f (.inl Dc),h.bG,i Dc,j Dc (.inl Dc),g Dc,l Dc Dc,n Dc,h.ap⟩
 exact⟨nT h.hw b,h.bh,c Dc,d (.inl Dc),h.bB,e (.inr (.inl a)),h.bJ,h.sq,f (.inr (.inl a)),h.bG,i Dc,j Dc (.inl Dc),g Dc,l Dc Dc,n Dc,h.ap⟩
theorem MkR.bK(h:MkR base hi w V m vt T)(f:(V.f.x).ownBlock=Xa k)(c:w.grownBy w' (Xa k))(e:w'.heap.size=w.heap.size)(d:zb q3 base w' (V.f.x) R)(a:zf4 {m with fs:=R}):MkR base hi w' V {m with fs:=R} vt T:=by obtain⟨b,b⟩:=h.fs.obj f;obtain⟨f,f,i,j,g,l,n,p,q⟩:=h.kept c b;exact⟨Rx e h.hw,h.bh,d,f (.inl Dc),h.bB,i (.inl Dc),h.bJ,h.sq,j (.inl Dc),h.bG,g Dc,l Dc (.inl Dc),n Dc,p Dc Dc,q Dc,⟨h.ap.1,a⟩⟩
theorem MkR.cE(h:MkR base hi w V m vt T)(a:(V.s.x).ownBlock=Xa k)(c:w.grownBy w' (Xa k))(e:w'.heap.size=w.heap.size)(d:zb slE base w' (V.s.x) L):MkR base hi w' V {m with sl:=L} vt T:=by obtain⟨L,L⟩:=h.sl.obj a;obtain⟨f,i,i,j,g,l,n,p,q⟩:=h.kept c L;exact⟨Rx e h.hw,h.bh,f Dc,d,h.bB,i (.inl Dc),h.bJ,h.sq,j (.inl Dc),h.bG,g Dc,l Dc (.inr (h.bB k a)),n Dc,p Dc Dc,q Dc,h.ap⟩
theorem MkR.setSb(h:MkR base hi w V m vt T)(b:w.heap[k]?=Xa (Xk U 44 (0,0)))(f:(V.sb.x).ownBlock=Xa k)(c:w.grownBy w' (Xa k))(e:w'.heap.size=w.heap.size)(d:zl base w' (V.sb.x) r):MkR base hi w' V {m with sb:=r} vt T:=by obtain⟨r,i,j,j,g,l,n,p,q⟩:=h.kept c b;exact⟨Rx e h.hw,h.bh,r Dc,i (.inl Dc),h.bB,d,h.bJ,h.sq,j (.inr (.inr (h.ap.1 k f))),h.bG,g Dc,l Dc (.inl Dc),n Dc,p Dc Dc,q Dc,h.ap⟩
theorem MkR.setDb(h:MkR base hi w V m vt T)(c:w.heap[k]?=Xa (Xk U 44 (0,0)))(j:(V.db.x).ownBlock=Xa k)(d:w.grownBy w' (Xa k))(e:w'.heap.size=w.heap.size)(a:∀f∈m.fs,f.r=0)(i:zl base w' (V.db.x) r):MkR base hi w' V {m with db:=r} vt T:=by obtain⟨r,g,l,n,n,p,q,cs,s⟩:=h.kept d c;exact⟨Rx e h.hw,h.bh,r Dc,g (.inl Dc),h.bB,l (.inr (.inr (fun e=>h.ap.1 k e j))),h.bJ,h.sq,i,h.bG,n Dc,p Dc (.inl Dc),q Dc,cs Dc Dc,s Dc,⟨h.ap.1,h.ap.2.bare a rfl⟩⟩
theorem MkR.bX(h:MkR base hi w V m vt T)(e:(vt.x).ownBlock=Xa k)(b:w.grownBy w' (Xa k))(d:w'.heap.size=w.heap.size){a:List (Nat->En)}(c:zb zdk base w' (vt.x) a):MkR base hi w' V m vt a:=by obtain⟨a,a⟩:=h.tt.obj e;obtain⟨e,f,i,j,g,l,n,p,q⟩:=h.kept b a;exact⟨Rx d h.hw,h.bh,e Dc,f (.inl Dc),h.bB,i (.inl Dc),h.bJ,h.sq,j (.inl Dc),h.bG,g Dc,l Dc (.inl Dc),n Dc,p Dc Dc,c,h.ap⟩
end
structure Mk(w0:Xn)(hi:Nat)(w:Xn)(b:Nat)(vl:Sli)(L:List Int)(V:MaV)(m:Ma)(vt:Sli)(T:List (Nat->En)):Prop where
 gr:zc w0 w
 hb:w0.heap.size<=b
 box:zm w b 81 [O vl.a vl.n vl.c,O V.f.a V.f.n V.f.c,Xe Xf m.aB,O V.s.a V.s.n V.s.c,O V.sb.a V.sb.n V.sb.c,O V.sq.a V.sq.n V.sq.c,O V.db.a V.db.n V.db.c,O V.dq.a V.dq.n V.dq.c,O V.fl.a V.fl.n V.fl.c,Xe Xf m.cnt,O V.ca.a V.ca.n V.ca.c,O V.sp.a V.sp.n V.sp.c,O vt.a vt.n vt.c]
 lr:zq byE w0 (O vl.a vl.n vl.c) L
 lc:vl.n<=vl.c
 lb:∀z∈L,0<=z/\z<256
 rows:MkR w0.heap.size hi w V m vt T
theorem Mk.aA(h:Mk w0 hi w b vl L V m vt T)(k:zc w w'):Mk w0 hi w' b vl L V m vt T:=⟨h.gr.trans k,h.hb,h.box.aA k,h.lr,h.lc,h.lb,h.rows.aA k⟩
theorem MkR.at{base:Nat}(h:MkR base hi w V m vt T):zK w V m:=by
 obtain⟨f,a,c,b⟩:=h.fl;obtain⟨l,g,j,k⟩:=h.sp;obtain⟨d,e⟩:=h.sq;refine⟨h.fs.at,h.sl.at,h.sb.at,?_,h.db.at,h.dq.at,⟨a.cap,f,a.at.s0,c,fun i x f a c=>⟨(b i x f a c).1,(b i x f a c).2.at.s0⟩⟩,h.ca.at,⟨l,g.at,j,fun i x s a f=>?_⟩⟩;·rw[d,e];exact⟨⟨Xb,0,rfl,fun _=>rfl,fun x a=>by cases a⟩,Sm,Sm⟩
 obtain⟨c,b,d,e⟩:=k i x s a f;exact⟨c,b.at,b.cap,by rw[d,e];exact Js.nil 0 0 w⟩
section
variable{base:Nat}{w w':Xn}{V:MaV}{m:Ma}
theorem q8.kind{g:Nat}(j:q8 p w A M)(c:w.grownBy w' (Xa g))(h:w.heap[g]?=Xa (Xk U t (0,0)))(k:t≠84)(a:t≠3\/g<p):q8 p w' A M:=by
 obtain⟨v,l,m,e,n⟩:=j;refine⟨v,l.kind c h k,m,fun i x f d b=>⟨(e i x f d b).1,?_⟩,n⟩;rcases a with a|a;·exact(e i x f d b).2.kind c h a
 exact(e i x f d b).2.low c a
theorem Qw.kind{c:List Sp}(h:Qw base w A c)(a:w.grownBy w' (Xa k))(b:w.heap[k]?=Xa (Xk U t (0,0)))(d:t≠63)(e:t≠77)(f:t≠55):Qw base w' A c:=by obtain⟨r,B,l,m,n,p,q⟩:=h;exact⟨r,B,l.kind a b d,m,n,p,fun v x s j i=>(q v x s j i).beside a b e f⟩
theorem zdF.bK(h:zdF base w V m)(e:(V.f.x).ownBlock=Xa k)(b:w.grownBy w' (Xa k))(d:zb q3 base w' (V.f.x) R):zdF base w' V {m with fs:=R}:=by obtain⟨g,a⟩:=h.fs.obj e;obtain⟨j,c,f,i⟩:=h.fl;exact⟨d,h.sl.kind b a Dc,⟨z9 h.sb.1 b a Dc,h.sb.2⟩,⟨z9 h.sq.1 b a Dc,h.sq.2⟩,⟨z9 h.db.1 b a Dc,h.db.2⟩,⟨z9 h.dq.1 b a Dc,h.dq.2⟩,⟨j,c.kind b a Dc (.inl Dc),f,i⟩,h.ca.kind b a Dc,h.sp.kind b a Dc Dc Dc,h.ap⟩
end
def frH(q:Fr)(n:Int):Fr:=if q.r+n=0 then frF else{q with r:=q.r+n}
def Zm(fs:List Fr)(h k n:Int):Int:=if ZR fs h=0 then(if inB k fs.length&&!((fs.getD k.toNat fr0).r==0)then(if-(fs.getD k.toNat fr0).r<=n/\n<=1000-(fs.getD k.toNat fr0).r then 0 else 3)else 5)else ZR fs h
def Jz(fs:List Fr)(h k n:Int):List Fr:=if Zm fs h k n=0 then fs.set k.toNat (frH (fs.getD k.toNat fr0) n)else[]
def zlF(fs:List Fr)(h k n:Int):Int:=if Zm fs h k n=0 then h else 0
theorem zkC:∀{fs:List Fr},zcO fs=0->∀q∈fs,frW q=0
 |[],_,_,c=>by cases c
 |a::l,h,q,c=>by
  unfold zcO at h
  by_cases b:frW a=0
  ·rw[kE b]at h
   rcases mC.1 c with rfl|c
   ·exact b
   exact zkC h q c
  rw[kF b]at h;exact absurd h b
theorem Zd(a:ZR R z=0):R.length<=40/\(∀q∈R,frW q=0)/\0<=z/\z<max (R.length:Int) 1:=by grind[ZR,zcO,inB,zkC]
theorem zcl(h:frW Y=0):0<=Y.r/\Y.r<=1000:=by grind[frW,inB]
theorem zb.frc{n c:Nat}(h:zb q3 k w (O (Xa ⟨p,0,Xb⟩) n c) R){i:Nat}(e:R[i]?=Xa Y)(j:Nat)(u:(frv Y)[j]?=Xa A):w.cell? ⟨p,i*13+j,Xb⟩=Xa A:=by obtain⟨l,q,d,f⟩:=h.at.rows;obtain⟨m,a,b⟩:=f i Y e;cases d;cases a;have:=b w (zc.refl _) j A u;rw[zX,Yc,zA]at this;exact this
def ZO(s:List Int)(n:Int):Int:=if slW s=0 then(if 1<=n/\n<=1000 then(if s.findIdx isZ<s.length then 0 else 10)else 3)else slW s
def Jn(s:List Int)(n:Int):List Int:=if ZO s n=0 then s.set (s.findIdx isZ) n else[]
def zcX(s:List Int)(n:Int):Int:=if ZO s n=0 then(s.findIdx isZ:Int)else 0
theorem zgg{n:Int}(h:ZO L n=z)(a:z≠0):Jn L n=[]/\zcX L n=0:=by have:ZO L n≠0:=Rx h a;exact⟨kF this,kF this⟩
theorem zdT(s:List Int)(m:Int):
  (slW s≠0/\ZO s m=slW s/\Jn s m=[]/\zcX s m=0)\/(slW s=0/\¬(1<=m/\m<=1000)/\ZO s m=3/\Jn s m=[]/\zcX s m=0)\/
  (slW s=0/\(1<=m/\m<=1000)/\¬s.findIdx isZ<s.length/\ZO s m=10/\Jn s m=[]/\zcX s m=0)\/
  (slW s=0/\(1<=m/\m<=1000)/\s.findIdx isZ<s.length/\ZO s m=0/\Jn s m=s.set (s.findIdx isZ) m/\zcX s m=(s.findIdx isZ:Int)):=by
 by_cases a:slW s=0
 ·by_cases b:1<=m/\m<=1000
  ·by_cases c:s.findIdx isZ<s.length
   ·have h:ZO s m=0:=by unfold ZO;rw[kE a,kE b,kE c]
    exact .inr (.inr (.inr ⟨a,b,c,h,kE h,kE h⟩))
   have h:ZO s m=10:=(by unfold ZO;rw[kE a,kE b,kF c]);exact .inr (.inr (.inl ⟨a,b,c,h,zgg h Dc⟩))
  have h:ZO s m=3:=by unfold ZO;rw[kE a,kF b]
  exact .inr (.inl ⟨a,b,h,zgg h Dc⟩)
 have h:ZO s m=slW s:=by unfold ZO;rw[kF a]
 exact .inl ⟨a,h,zgg h a⟩
theorem zmE(a)(c:Nat)(s:List Int)(m:Int)(w:Xn)(f:zq slE w (O a s.length c) s):
  Xp prog 193 #[O a s.length c,I6 m] w fun e w'=>∃b d,e=Xl (Xm #[.slice b (Jn s m).length d,I6 (zcX s m),I6 (ZO s m)])/\q9 slE w.heap.size w' (.slice b (Jn s m).length d) (Jn s m)/\zc w w':=by
 have d:=zcw a c s w f;have n:∀W,zc w W->Xp prog 200 #[O a s.length c,I6 0] W fun e w'=>e=Xl (I6 (zp5 s))/\zc W w':=fun W b=>zlE _ s W (f.aA b);have A:∀W,zc w W->Xp prog 47 #[O a s.length c] W fun e w'=>∃y,e=Xl y/\zb slE W.heap.size w' y s/\zc W w':=fun W b=>zcT _ s W (f.aA b);have b:=f.short;obtain⟨B,i⟩:=kA s.length;rcases zdT s m with⟨h,j,k,l⟩|⟨h,f,j,k,l⟩|⟨h,f,p,j,k,l⟩|⟨h,f,p,j,k,l⟩
 ·rw[j,k,l]
  generalize slW s=z at d h⊢;have f:(z !=0)=Xc:=Si h;rw[i.out]at d b⊢;go_enter func193,ntmps193;go_wp2_with fail;refine d.mono ?_;rintro e u⟨rfl,g⟩;have f:=dD g;go_wp2;refine bodyPost_ret (v:=Xm #[eS,I6 0,I6 z]) (by simp[results,Tryz.results193,go_sem, *]) rfl ⟨Xb,0,rfl,q9.nil _ _ _,f⟩
 ·rw[h]at d;rw[j,k,l];rw[i.out]at d b⊢;by_cases r:m<1
  ·go_enter func193,ntmps193
   go_wp2_with fail;refine d.mono ?_;rintro e u⟨rfl,g⟩;have f:=dD g;go_wp2;refine bodyPost_ret (v:=Xm #[eS,I6 0,I6 3]) (by simp[results,Tryz.results193,go_sem, *]) rfl ⟨Xb,0,rfl,q9.nil _ _ _,f⟩
  have t:1000<m:=Wm;go_enter func193,ntmps193;go_wp2_with fail;refine d.mono ?_;rintro e u⟨rfl,g⟩;have f:=dD g;go_wp2;refine bodyPost_ret (v:=Xm #[eS,I6 0,I6 3]) (by simp[results,Tryz.results193,go_sem, *]) rfl ⟨Xb,0,rfl,q9.nil _ _ _,f⟩
 ·rw[h]at d;rw[show zp5 s=-1 from kF p]at n;rw[j,k,l];rw[i.out]at d n b⊢;have r:¬m<1:=Wm;have t:¬1000<m:=Wm;go_enter func193,ntmps193;go_wp2_with fail;refine d.mono ?_;rintro e u⟨rfl,g⟩;have f:=dD g;go_wp2_with fail;refine(n _ f).mono ?_;rintro e z⟨rfl,x⟩;have q:=dD (f.trans x);go_wp2;refine bodyPost_ret (v:=Xm #[eS,I6 0,I6 10]) (by simp[results,Tryz.results193,go_sem, *]) rfl ⟨Xb,0,rfl,q9.nil _ _ _,q⟩
 rw[h]at d;rw[show zp5 s=(s.findIdx isZ:Int)from kE p]at n;rw[j,k,l,Xy];obtain⟨h,j⟩:=kA (s.findIdx isZ);rw[j.out]at p n⊢;rw[i.out]at d n A p b⊢;have r:¬m<1:=Wm;have t:¬1000<m:=Wm;have b:(h:Int)<(B:Int):=Wm;go_enter func193,ntmps193;go_wp2_with fail;refine d.mono ?_;rintro e u⟨rfl,g⟩;have f:=dD g;go_wp2_with fail;refine(n _ f).mono ?_;rintro e z⟨rfl,x⟩;have q:=dD (f.trans x);go_wp2_with fail;refine(A _ q).mono ?_;rintro e b⟨y,rfl,b,d⟩;obtain⟨g,l,rfl⟩:=b.aG (by rw[i.out];omega);rw[i.out]at b⊢;have j:=dD b;have k:=dD d;go_wp2_with(refine z3 (E:=slE) rfl (.tmp 30) (.tmp 29) rfl z.heap.size _ s j g h rfl m (Rx i.out p) _ rfl (by simp[slE]) _ rfl rfl ?_)
 intro b i d _;have f:=(j.lt g rfl).1;have b:=dD i;have i:=dD<|zd k d f;go_wp2;refine bodyPost_ret (v:=Xm #[O (Xa ⟨g,0,Xb⟩) B l,I6 (h:Int),I6 0]) (by simp[results,Tryz.results193,go_sem, *]) rfl ⟨_,_,rfl,b.new.base (bS q),q.trans i⟩
def atS(s:List Int)(k:Int):Int:=if 0<=k then s.getD k.toNat 0 else 0
def ZG(s:List Int)(k m:Int):Int:=if slW s=0 then(if atS s k=0 then 5 else if 0<=atS s k+m/\atS s k+m<=1000 then 0 else 3)else slW s
def Qp(s:List Int)(k m:Int):List Int:=if ZG s k m=0 then s.set k.toNat (atS s k+m)else[]
theorem zmK(h:slW L=0)(b:L[k]?=Xa z):0<=z/\z<=1000:=by
 have a:L.any zbM=Xd:=by grind[zbM,slW]
 have c:=List.any_eq_false.1 a z (mG b);grind[zbM]
theorem zjy(s:List Int)(k m:Int):
  (slW s≠0/\ZG s k m=slW s/\Qp s k m=[])\/
  (slW s=0/\(k<0\/(s.length:Int)<=k)/\ZG s k m=5/\Qp s k m=[])\/
  (slW s=0/\∃i:Nat,k=(i:Int)/\s[i]?=Xa 0/\ZG s k m=5/\Qp s k m=[])\/
  (slW s=0/\∃(i:Nat)(q:Int),k=(i:Int)/\s[i]?=Xa q/\q≠0/\0<=q/\q<=1000/\¬(0<=q+m/\q+m<=1000)/\ZG s k m=3/\Qp s k m=[])\/
  (slW s=0/\∃(i:Nat)(q:Int),k=(i:Int)/\s[i]?=Xa q/\q≠0/\0<=q/\q<=1000/\(0<=q+m/\q+m<=1000)/\ZG s k m=0/\Qp s k m=s.set i (q+m)):=by
 have g:∀z,ZG s k m=z->z≠0->Qp s k m=[]:=fun z h f=>kF (Rx h f);by_cases b:slW s=0
 ·by_cases e:k<0\/(s.length:Int)<=k
  ·have a:atS s k=0:=by
    unfold atS;split;·grind
    rfl
   have h:ZG s k m=5:=(by unfold ZG;rw[kE b,kE a]);exact .inr (.inl ⟨b,e,h,g _ h Dc⟩)
  obtain⟨i,rfl⟩:∃i:Nat,k=(i:Int):=⟨k.toNat,Wm⟩;have c:i<s.length:=Wm;obtain⟨q,d⟩:∃q,s[i]?=Xa q:=⟨_,gE c⟩;have a:atS s (i:Int)=q:=by
   unfold atS;rw[kE Wm,gD,tN,d];rfl
  by_cases j:q=0;·grind[ZG]
  have n:=zmK b d;by_cases l:0<=q+m/\q+m<=1000;·grind[ZG,Qp,tN]
  grind[ZG]
 grind[ZG,slW]
theorem znk(a)(c:Nat)(s:List Int)(k m:Int)(w:Xn)(H:zq slE w (O a s.length c) s):
  Xp prog 122 #[O a s.length c,I6 k,I6 m] w fun e w'=>∃R S,e=Xl (Xm #[.slice R (Qp s k m).length S,I6 (ZG s k m)])/\q9 slE w.heap.size w' (.slice R (Qp s k m).length S) (Qp s k m)/\zc w w':=by
 have d:=zcw a c s w H;have A:∀W,zc w W->Xp prog 47 #[O a s.length c] W fun e w'=>∃a3,e=Xl a3/\zb slE W.heap.size w' a3 s/\zc W w':=fun W ag=>zcT _ s W (H.aA ag);have f:=H.short;obtain⟨R,S,U,z⟩:=H.sls;cases U;have P:=dD z;clear z H;obtain⟨u,p⟩:=kA s.length;rcases zjy s k m with⟨h,j,l⟩|⟨h,Y,j,l⟩|⟨h,i,rfl,n,j,l⟩|⟨h,i,q,rfl,n,C,a1,a2,G,j,l⟩|⟨h,i,q,rfl,n,C,a1,a2,a8,j,l⟩
 ·rw[j,l];clear j l A;generalize slW s=a9 at d h⊢;have aj:(a9 !=0)=Xc:=Si h;rw[p.out]at d f⊢;go_enter func122,ntmps122;go_wp2_with fail;refine d.mono ?_;rintro e r⟨rfl,b⟩;have g:=dD b;clear b d h;go_wp2;refine bodyPost_ret (v:=Xm #[eS,I6 a9]) (by simp[results,Tryz.results122,go_sem, *]) rfl ⟨Xb,0,rfl,q9.nil _ _ _,g⟩
 ·rw[h]at d;rw[j,l];clear j l A h;rw[p.out]at d f Y⊢;by_cases ah:k<0
  ·go_enter func122,ntmps122
   go_wp2_with fail;refine d.mono ?_;rintro e r⟨rfl,b⟩;have g:=dD b;clear b d Y;go_wp2;refine bodyPost_ret (v:=Xm #[eS,I6 5]) (by simp[results,Tryz.results122,go_sem, *]) rfl ⟨Xb,0,rfl,q9.nil _ _ _,g⟩
  have ai:(u:Int)<=k:=Wm;go_enter func122,ntmps122;go_wp2_with fail;refine d.mono ?_;rintro e r⟨rfl,b⟩;have g:=dD b;clear b d Y;go_wp2;refine bodyPost_ret (v:=Xm #[eS,I6 5]) (by simp[results,Tryz.results122,go_sem, *]) rfl ⟨Xb,0,rfl,q9.nil _ _ _,g⟩
 ·rw[h]at d;rw[j,l];clear j l A h;have B:i<u:=by rw[<-p.out];exact(gS.1 n).1
  rw[p.out]at d f⊢;have y:¬(u:Int)<=(i:Int):=Wm;have F:¬(i:Int)<0:=Wm;have t:(i:Int)<(u:Int):=Wm;obtain⟨a6,rfl,x⟩:=P.out i 0 n;clear n;go_enter func122,ntmps122;go_wp2_with fail;refine d.mono ?_;rintro e r⟨rfl,b⟩;have g:=dD b;have M:=x r b;clear b d x;go_wp2;refine bodyPost_ret (v:=Xm #[eS,I6 5]) (by simp[results,Tryz.results122,go_sem, *]) rfl ⟨Xb,0,rfl,q9.nil _ _ _,g⟩
 ·rw[h]at d;rw[j,l];clear j l A h;have B:i<u:=by rw[<-p.out];exact(gS.1 n).1
  rw[p.out]at d f⊢;have y:¬(u:Int)<=(i:Int):=Wm;have F:¬(i:Int)<0:=Wm;have t:(i:Int)<(u:Int):=Wm;obtain⟨a6,rfl,x⟩:=P.out i q n;have I:(q==0)=Xd:=Si C;by_cases Z:m< -q
  ·clear n C G
   go_enter func122,ntmps122;go_wp2_with fail;refine d.mono ?_;rintro e r⟨rfl,b⟩;have g:=dD b;have M:=x r b;clear b d x;go_wp2;refine bodyPost_ret (v:=Xm #[eS,I6 3]) (by simp[results,Tryz.results122,go_sem, *]) rfl ⟨Xb,0,rfl,q9.nil _ _ _,g⟩
  have X:1000-q<m:=Wm;clear n C G;go_enter func122,ntmps122;go_wp2_with fail;refine d.mono ?_;rintro e r⟨rfl,b⟩;have g:=dD b;have M:=x r b;clear b d x;go_wp2;refine bodyPost_ret (v:=Xm #[eS,I6 3]) (by simp[results,Tryz.results122,go_sem, *]) rfl ⟨Xb,0,rfl,q9.nil _ _ _,g⟩
 rw[h]at d;rw[j,l,Xy];clear j l h;have B:i<u:=by rw[<-p.out];exact(gS.1 n).1
 rw[p.out]at d A f⊢;have y:¬(u:Int)<=(i:Int):=Wm;have F:¬(i:Int)<0:=Wm;have t:(i:Int)<(u:Int):=Wm;obtain⟨a6,rfl,x⟩:=P.out i q n;have I:(q==0)=Xd:=Si C;have Z:¬m< -q:=Wm;have X:¬1000-q<m:=Wm;have ac:=dD n;clear n C;go_enter func122,ntmps122;go_wp2_with fail;refine d.mono ?_;rintro e r⟨rfl,b⟩;have g:=dD b;have M:=x r b;clear b d x;go_wp2_with fail;refine(A _ g).mono ?_;rintro e a5⟨a3,rfl,K,a7⟩;obtain⟨N,ae,rfl⟩:=K.aG (by rw[p.out];omega);rw[p.out]at K⊢;have a4:=dD K;have aa:=dD a7;have af:a5.cell? ⟨N,i,Xb⟩=Xa (I6 q):=by
  obtain⟨al,an,T,a0⟩:=K.at.sls;cases T;obtain⟨am,T,a0⟩:=a0 i q ac.out;cases T;have:=a0 a5 (zc.refl _);rw[Yc,zA]at this;exact this
 clear a7 A K M;go_wp2_with(refine z3 (E:=slE) rfl (.tmp 54) (.tmp 53) rfl r.heap.size _ s a4 N i rfl (q+m) (Rx p.out B) _ rfl (by simp[slE]) _ rfl rfl ?_)
 intro ak L D _;have V:=(a4.lt N rfl).1;have Q:=dD L;have ab:=dD<|zd aa D V;clear L D af;go_wp2;refine bodyPost_ret (v:=Xm #[O (Xa ⟨N,0,Xb⟩) u ae,I6 0]) (by simp[results,Tryz.results122,go_sem, *]) rfl ⟨_,_,rfl,Q.new.base (bS g),g.trans ab⟩
theorem zge(y)(j:Nat)(h:List En)(k:Nat)(S:k<8)(x:En)(base:Nat)(w:Xn)(a:zb enE base w (O y h.length j) h)(hb:base<=w.heap.size)(v:h.length=0\/h.length=8):
  Xp prog 148 #[O y h.length j,I6 (k:Int),Xi #[I6 x.kind,I6 x.n,Xh x.wr]] w fun e w'=>∃b B,e=Xl (.slice b (mk ((zcj h).set k x)).length B)/\zb enE base w' (.slice b (mk ((zcj h).set k x)).length B) (mk ((zcj h).set k x))/\w.grownBy w' (O y h.length j).ownBlock/\(∀g,(Value.slice b (mk ((zcj h).set k x)).length B).ownBlock=Xa g->(O y h.length j).ownBlock=Xa g\/w.heap.size<=g):=by
 have d:=dD a;have t:=dD hb;have b:Xo (mk ((zcj h).set k x)=if zaV ((zcj h).set k x)=Xc then(zcj h).set k x else[]):=rfl;clear a hb;obtain⟨f,a⟩:=kB (w.alloc (Xk #[I6 x.kind,I6 x.n,Xh x.wr] 55));have p:=gA a;have R:=xA a;have m:=sA a;have A:=dD a;clear a;have a:(k:Int)<8:=Wm;rcases v with c|v
 ·have a:=List.length_eq_zero_iff.1 c;subst a;obtain⟨L,l⟩:=kA ((zcj []).set k x);have q:Xo (L.length=8):=dD (by rw[<-l.out];simp[zcj]);rw[l.out]at b⊢;generalize mk L=M at b⊢;simp only[Xz]at d⊢;clear c;go_enter func148,ntmps148;go_upto_region 1 with fail;rw[A.out];go_wp2_with(refine zas enE rfl (.const (I6 8)) rfl 8 rfl Dc ?_)
  intro C s;show wpList _ _ _ _ _ (f.alloc (Xk C 55));have a:zb enE f.heap.size (f.alloc (Xk C 55)) (O (Xa ⟨f.heap.size,0,Xb⟩) 8 8) (zcj []):=s;obtain⟨c,c⟩:=kB (f.alloc (Xk C 55));have r:=gA c;rw[c]at a⊢;obtain⟨g,i⟩:=kA f.heap.size;rw[i.out]at a⊢;have D:=dD a;have f:=dD (R.aA r);have n:Xo (base<=g/\w.heap.size<=g):=show _/\_ by
   have:=m.out;have:=t.out;have:=i.out;constructor<;>omega
  clear c s a;obtain⟨N,P,Q⟩:=f.c3;go_wp2_with(refine z3 (E:=enE) rfl (.tmp 14) (.tmp 13) rfl g _ (zcj []) D g k rfl x ?t1 ⟨g,k*3,Xb⟩ rfl rfl (Xi #[I6 x.kind,I6 x.n,Xh x.wr]) rfl rfl ?_)
  case t1=>exact S
  intro H c i u;rw[l.out]at c;have F:=dD<|c.base n.1;have z:=dD<|zd (p.trans r) i n.2;have a:=QA _ L H c.at;clear c i u N P Q;generalize zaV L=C at a b;cases C with
  |true=>
   have r:Xo (M=L):=dD (by rw[b.out,kE rfl]);go_wp2_with fail;refine a.mono ?_;rintro e s⟨rfl,f⟩;have m:Xo (w.grownBy s _):=show World.grownBy _ _ (Value.ownBlock (O y 0 j))from zcN (z.trans f) _;have G:=dD (F.aA f);clear f a;go_wp2;go_ret;rw[r.out,q.out];exact⟨Xa ⟨g,0,Xb⟩,8,rfl,G,m,fun K t=>.inr (by cases t;exact n.2)⟩
  |false=>
   have r:Xo (M=[]):=dD (by rw[b.out,kF Dc]);go_wp2_with fail;refine a.mono ?_;rintro e s⟨rfl,f⟩;have m:Xo (w.grownBy s _):=show World.grownBy _ _ (Value.ownBlock (O y 0 j))from zcN (z.trans f) _;clear f a;go_wp2;go_ret;rw[r.out];exact⟨Xb,0,rfl,zb.nil _ _ _,m,fun K t=>by cases t⟩
 obtain⟨L,l⟩:=kA ((zcj h).set k x);have n:Xo (zcj h=h):=dD<|by unfold zcj;rw[kF Wm]
 have q:Xo (L.length=8):=dD<|by rw[<-l.out,n.out];simp[v]
 rw[l.out]at b⊢;generalize mk L=M at b⊢;have y:=dD v;obtain⟨g,B,B⟩:=d.aG Wm;cases B;rw[v]at d⊢;clear v;go_enter func148,ntmps148;go_upto_region 1 with fail;rw[A.out];have D:=dD (d.aA p);obtain⟨N,P,Q⟩:=R.c3;go_wp2_with(refine z3 (E:=enE) rfl (.tmp 14) (.tmp 13) rfl base _ h D g k rfl x ?t1 ⟨g,k*3,Xb⟩ rfl rfl (Xi #[I6 x.kind,I6 x.n,Xh x.wr]) rfl rfl ?_)
 case t1=>rw[y.out];exact S
 intro H c i u;rw[n.out]at l;rw[l.out]at c;have F:=dD c;have z:=dD<|Za (zcN p _) i;have a:=QA _ L H c.at;clear c i u N P Q;generalize zaV L=C at a b;cases C with
 |true=>
  have r:Xo (M=L):=dD (by rw[b.out,kE rfl]);go_wp2_with fail;refine a.mono ?_;rintro e s⟨rfl,f⟩;have m:Xo (w.grownBy s _):=show World.grownBy _ _ (Value.ownBlock (O (Xa ⟨g,0,Xb⟩) 8 j))from Za z (zcN f _);have G:=dD (F.aA f);clear f a;go_wp2;go_ret;rw[r.out,q.out];exact⟨Xa ⟨g,0,Xb⟩,j,rfl,G,m,fun K t=>.inl t⟩
 |false=>
  have r:Xo (M=[]):=dD (by rw[b.out,kF Dc]);go_wp2_with fail;refine a.mono ?_;rintro e s⟨rfl,f⟩;have m:Xo (w.grownBy s _):=show World.grownBy _ _ (Value.ownBlock (O (Xa ⟨g,0,Xb⟩) 8 j))from Za z (zcN f _);clear f a;go_wp2;go_ret;rw[r.out];exact⟨Xb,0,rfl,zb.nil _ _ _,m,fun K t=>by cases t⟩
theorem zgu:∀v∈J2,v.oneCell'=Xc:=fun v a=>by
 rw[J2,List.mem_replicate]at a;rw[a.2];rfl
theorem zmM(t:List (List En))(n:Int)(x):
  (tbW t≠0/\zmo t n x=tbW t/\zkg t n x=qG)\/
  (tbW t=0/\¬(0<=n/\n<64)/\zmo t n x=3/\zkg t n x=qG)\/
  (tbW t=0/\(0<=n/\n<64)/\enW x≠0/\zmo t n x=enW x/\zkg t n x=qG)\/
  (tbW t=0/\(0<=n/\n<64)/\enW x=0/\zmo t n x=0/\zkg t n x=zi9 t n.toNat x):=by
 by_cases a:tbW t=0
 ·by_cases a:0<=n/\n<64
  ·grind[zmo,enW,zkg]
  grind[zmo,zkg]
 grind[zmo,tbW,zkg]
theorem zmN(vs:List Xq)(t:List (List En))(n:Int)(x:En)(w:Xn)(r:JT w vs t):
  Xp prog 123 #[Xi vs.toArray,I6 n,Xi #[I6 x.kind,I6 x.n,Xh x.wr]] w fun e w'=>∃k,e=Xl (Xm #[Xi k.toArray,I6 (zmo t n x)])/\Js 0 w.heap.size w' k (zkg t n x)/\zc w w':=by
 have G:=dD r.len;have H:=dD r.aL;have j:∀W,zc w W->Xp prog 146 #[Xi vs.toArray] W fun e w'=>e=Xl (I6 (tbW t))/\zc W w':=fun W a=>zdH vs t W (r.aA a);have N:∀W,zc w W->Xp prog 85 #[Xi vs.toArray] W fun e w'=>∃k,e=Xl (Xi k.toArray)/\Zg (W.heap.size+2) w' k t/\zc W w'/\W.heap.size+2<=w'.heap.size:=fun W a=>zhF vs t W (r.aA a);have v:=fun W=>zbj x.kind x.n x.wr W;clear r;obtain⟨z,a⟩:=kB (((w.alloc (Xk vs.toArray 61)).alloc (Xk #[I6 x.kind,I6 x.n,Xh x.wr] 55)).alloc (Xk #[eS,eS,eS,eS,eS,eS,eS,eS] 61));have b:Xo (zc w z):=dD<|by rw[<-a];exact((za _ _).trans (za _ _)).trans (za _ _)
 have A:Xo (Box z w.heap.size vs):=dD<|by rw[<-a];exact((Box.aE w _ _ rfl).alloc _).alloc _
 have S:Xo (Box z (w.heap.size+1) [I6 x.kind,I6 x.n,Xh x.wr]):=dD<|by rw[<-a];exact(Box.aE _ _ _ Sm).alloc _
 have V:Xo (Box z (w.heap.size+2) J2):=dD<|by rw[<-a];exact Box.aE _ J2 _ Sm
 have y:=dD a;clear a;rcases zmM t n x with⟨l,d,f⟩|⟨l,g,d,f⟩|⟨l,g,R,d,f⟩|⟨l,g,R,d,f⟩
 ·rw[d,f];have q:(tbW t !=0)=Xc:=Si l;clear d f l N v;generalize tbW t=s at j q⊢;go_enter func123,ntmps123;go_upto_region 1 with fail;rw[y.out];go_wp2_with(refine qO rfl (.tmp 3) rfl w.heap.size rfl A G.out ?_)
  refine(j z b).mono ?_;rintro e K⟨rfl,a⟩;have C:=dD (b.trans a);have M:=dD (A.aA a);have B:=dD (S.aA a);have D:=dD (V.aA a);clear a j;go_wp2_with(refine zn rfl 61 (.tmp 6) (.tmp 15) rfl (w.heap.size+2) rfl J2 rfl D rfl zsM zgu ?_)
  intro L h i P;have E:=dD h;have F:Xo (zc w L):=show zc _ _ from zd C i Sm;clear h i P;go_wp2;refine bodyPost_ret (qI rfl _ rfl E underlying61 rfl zsM) rfl ⟨J2,rfl,Js.nil _ _ _,F⟩
 ·rw[d,f];rw[l]at j;have Q:=fun W=>zct (m:=n) (n:=64) g W;clear d f l g N v;go_enter func123,ntmps123;go_upto_region 1 with fail;rw[y.out];go_wp2_with(refine qO rfl (.tmp 3) rfl w.heap.size rfl A G.out ?_)
  refine(j z b).mono ?_;rintro e K⟨rfl,a⟩;have C:=dD (b.trans a);have M:=dD (A.aA a);have B:=dD (S.aA a);have D:=dD (V.aA a);clear a j;go_wp2_with fail;refine(Q _).mono ?_;rintro e w'⟨rfl,c⟩;rw[c];clear c w';go_wp2_with(refine zn rfl 61 (.tmp 6) (.tmp 20) rfl (w.heap.size+2) rfl J2 rfl D rfl zsM zgu ?_)
  intro L h i P;have E:=dD h;have F:Xo (zc w L):=show zc _ _ from zd C i Sm;clear h i P;go_wp2;refine bodyPost_ret (qI rfl _ rfl E underlying61 rfl zsM) rfl ⟨J2,rfl,Js.nil _ _ _,F⟩
 ·rw[d,f];rw[l]at j;have Q:=fun W=>JQ (m:=n) (n:=64) g.1 g.2 W;change∀W,Xp prog 147 _ W fun e w'=>e=Xl (I6 (enW x))/\zc W w' at v;have q:(enW x !=0)=Xc:=Si R;clear d f l g R N;generalize enW x=s at v q⊢;go_enter func123,ntmps123;go_upto_region 1 with fail;rw[y.out];go_wp2_with(refine qO rfl (.tmp 3) rfl w.heap.size rfl A G.out ?_)
  refine(j z b).mono ?_;rintro e K⟨rfl,a⟩;have C:=dD (b.trans a);have M:=dD (A.aA a);have B:=dD (S.aA a);have D:=dD (V.aA a);clear a j;go_wp2_with fail;refine(Q _).mono ?_;rintro e w'⟨rfl,c⟩;rw[c];clear c w';obtain⟨Z,d,f⟩:=B.c3;go_wp2_with fail;refine(v K).mono ?_;rintro e s⟨rfl,u⟩;have U:=dD (C.trans u);have a3:=dD (M.aA u);have a0:=dD (B.aA u);have X:=dD (D.aA u);clear u v Z d f;go_wp2_with(refine zn rfl 61 (.tmp 6) (.tmp 25) rfl (w.heap.size+2) rfl J2 rfl X rfl zsM zgu ?_)
  intro L h i P;have E:=dD h;have F:Xo (zc w L):=show zc _ _ from zd U i Sm;clear h i P;go_wp2;refine bodyPost_ret (qI rfl _ rfl E underlying61 rfl zsM) rfl ⟨J2,rfl,Js.nil _ _ _,F⟩
 rw[d,f];rw[l]at j;have Q:=fun W=>JQ (m:=n) (n:=64) g.1 g.2 W;change∀W,Xp prog 147 _ W fun e w'=>e=Xl (I6 (enW x))/\zc W w' at v;rw[R]at v;obtain⟨i,W,Y,ag,F,h,h,h,h,L,a4⟩:=zfD g.1 g.2;obtain⟨q,E⟩:∃q,Xo (t[i]?=Xa q):=⟨_,gE (Rx H.out Y)⟩;have ae:Xo (q.length=0\/q.length=8):=dD<|by
  rcases ZZ.1 l q (mG E)with h|⟨h,_⟩;·exact .inl (Rr h)
  exact .inr h
 have P:Xo (zi9 t n.toNat x=t.set i (mk ((zcj q).set W x))):=dD<|by
  unfold zi9;rw[L,a4,E.out];rfl
 rw[P.out];obtain⟨T,P⟩:=kA (mk ((zcj q).set W x));rw[P.out];have a5:=g.1;have a5:(i:Int)<8:=Wm;clear d f l g R F L a4;go_enter func123,ntmps123;go_upto_region 1 with fail;rw[y.out];go_wp2_with(refine qO rfl (.tmp 3) rfl w.heap.size rfl A G.out ?_)
 refine(j z b).mono ?_;rintro e K⟨rfl,a⟩;have C:=dD (b.trans a);have M:=dD (A.aA a);have B:=dD (S.aA a);have D:=dD (V.aA a);clear a j;go_wp2_with fail;refine(Q _).mono ?_;rintro e w'⟨rfl,c⟩;rw[c];clear c w';obtain⟨Z,d,f⟩:=B.c3;go_wp2_with fail;refine(v K).mono ?_;rintro e s⟨rfl,u⟩;have U:=dD (C.trans u);have a3:=dD (M.aA u);have a0:=dD (B.aA u);have X:=dD (D.aA u);clear u v Z d f;go_wp2_with(refine qO rfl (.tmp 3) rfl w.heap.size rfl a3 G.out ?_)
 refine(N s U).mono ?_;rintro e g⟨k,rfl,b,d,j⟩;have a:=dD b;have f:=dD d;have D:=dD j;have c:=dD X.lt;clear b d j N;obtain⟨K,d⟩:=kA g.heap.size;go_wp2_with(refine zn rfl 61 (.tmp 10) (.tmp 28) rfl g.heap.size rfl k rfl (Box.aE g J2 61 rfl) a.len zsM a.new.one ?_)
 intro u j l v;rw[d.out]at j l⊢;have aa:=dD j;have b:Xo (zc g u):=show zc _ _ from zd (za g _) l (by rw[d.out];exact nR _);have F:=dD j.lt;clear j l v;have G:=dD (a.aA b);have A:=dD ((a0.aA f).aA b);have af:=dD ((X.aA f).aA b);have ad:=dD ((U.trans f).trans b);have N:Xo (∀(j:Nat)C,k[j]?=Xa C->∀g,C.ownBlock=Xa g->s.heap.size+2<=g/\g<K):=show∀(j:Nat)C,_ from fun j C S g b=>by
  obtain⟨y,M⟩:∃y,t[j]?=Xa y:=⟨_,gE (by rw[H.out,<-a.len];exact(gS.1 S).1)⟩;rw[<-d.out];exact(a.row j C y S M).lt g b
 obtain⟨v,z,f,a,l,b⟩:=G.half Y;obtain rfl:q=f:=by rw[E.out]at a;cases a;rfl
 have f:=dD l;have a9:=dD b;clear a l b;go_upto_region 10 with fail;obtain⟨g,H,a,a,Q⟩:∃g,(∀a,(O v q.length z).ownBlock=Xa a->a=g)/\g≠K/\s.heap.size+2<=g/\((O v q.length z).ownBlock=Xb->u.heap.size<=g):=by
  cases U:(O v q.length z).ownBlock with
  |none=>exact⟨u.heap.size,fun a h=>(by cases h),Hm F.out,by have:=F.out;have:=d.out;have:=D.out;omega,fun _=>nR _⟩
  |some g=>
   have:=N.out i _ f g U;exact⟨g,fun a h=>by cases h;rfl,Wm,Wm,fun h=>by cases h⟩
 have X:Xo (s.heap.size+2<=u.heap.size):=dD<|by have:=F.out;have:=d.out;have:=D.out;omega
 obtain⟨b,E⟩:=Ww fun w=>Out g (g+1) u w;obtain⟨nq,L⟩:=kA q.length;rw[L.out]at H Q f a9;have a5:=fun y:zh b=>(aa.out.out ((E _).1 y.holds) Wm).c i f.out;have l:w.heap.size+1<g:=Hm c.out;have a6:=fun y:zh b=>(A.out.out ((E _).1 y.holds) Wm).c 0 rfl;have a7:=fun y:zh b=>(A.out.out ((E _).1 y.holds) Wm).c 1 rfl;have a8:=fun y:zh b=>(A.out.out ((E _).1 y.holds) Wm).c 2 rfl;have R:Nonempty (zh b):=⟨⟨u,(E _).2 (Out.refl _ _ _)⟩⟩;obtain⟨B,V⟩:=kA T.length;refine q4 (I:=b) 11 [(9,⟨fun A=>∃Z a4,A=O Z B a4,fun A w'=>zb enE (s.heap.size+2) w' A T/\∀a,A.ownBlock=Xa a->(O v nq z).ownBlock=Xa a\/u.heap.size<=a,fun w w'=>w.grownBy w' (O v nq z).ownBlock,fun w=>zb enE (s.heap.size+2) w (O v nq z) q/\u.heap.size<=w.heap.size⟩)] ((E _).2 (Out.drew _)) zY Kr rfl rfl Dc ?hS ?hp ?hpre ?hpr0 ?_;case hS=>
  intro y M;simp at M;subst M;exact⟨_,Xb,0,rfl⟩
 case hp=>
  intro ab ah j ac b M l _ A w w' y a0;have a0:=(zcG b).1;have a3:=(zcG M).1;exact absurd (a3.trans a0.symm) l
 case hpre=>
  intro j ac ab ah M b l w w' y y;have a0:=(zcG b).1;have a3:=(zcG M).1;exact absurd (a3.trans a0.symm) l
 case hpr0=>
  intro ab ac b;obtain⟨rfl,rfl⟩:=zcG b;exact⟨a9.aA (gW _),nR _⟩
 simp only[Yw,Yx];iterate 9 refine zs ?_
 refine zT rfl rfl (fun w' a3 y a0=>?_) (fun b r=>?_)
 ·refine zO.call [O v nq z,I6 (W:Int),Xi #[I6 x.kind,I6 x.n,Xh x.wr]] rfl func148 rfl rfl rfl ?_;have l:zb enE (s.heap.size+2) w' (O v nq z) q/\u.heap.size<=w'.heap.size:=y;have b:=zge v z q W ag x (s.heap.size+2) w' (Rx L.out l.1) (nT X l.2) ae.out;rw[L.out,P.out,V.out]at b;refine b.mono ?_;rintro e b⟨Z,a4,rfl,q,b,U⟩;refine⟨_,rfl,(E _).2 (((E _).1 a3).trans (Out.grown b (fun a h=>Hm (H a h)))),b,⟨Z,a4,rfl⟩,q,fun a b=>?_⟩;rcases U a b with h|h;·exact .inl h
  exact .inr (nT l.2 h)
 obtain⟨y,L,rfl⟩:=r;refine Uq ?_;refine zs ?_;refine Zv fun P V a0=>?_
 have W:zb enE (s.heap.size+2) P (O y B L) T/\∀a,(O y B L).ownBlock=Xa a->(O v nq z).ownBlock=Xa a\/u.heap.size<=a:=a0 9;have l:Xo (Out g (g+1) u P):=(E _).1 V;have q:Xo (Zg (s.heap.size+2) P (k.set i (O y B L)) (t.set i T)):=G.one Y f (by
  cases U:(O v nq z).ownBlock with
  |none=>exact⟨l.os,l.tape,l.output,l.size,fun j M _=>l.block j M (.inl (Yh M (Q U)))⟩
  |some g=>
   have:=H g U;subst this;exact⟨l.os,l.tape,l.output,l.size,fun j M R=>l.block j M (by
    have:j≠g:=fun e=>R (by rw[e])
    omega)⟩) W.1 W.2
 have u:Xo (∀(j:Nat)C,(k.set i (O y B L))[j]?=Xa C->∀a,C.ownBlock=Xa a->K≠a):=dD<|fun j C S a b=>by
  by_cases e:j=i
  ·subst e;rw[sF (by rw[G.len];exact Y)]at S;cases S;rcases W.2 a b with h|h;·have:=N.out j _ f a h;omega
   have:=F.out;omega
  rw[sN (fun h=>e h.symm)]at S;have:=N.out j C S a b;omega
 have v:Xo (Box P K k):=aa.out.out l Wm;have E:Xo (Box P (w.heap.size+2) J2):=af.out.out l (Hm c.out);have z:Xo (zc w P):=dD<|Out.bQ ad (Hm c.out) l.out;clear a0 a5 a6 a7 a8 V R W H Q;have H:=v.c i f.out;have M:=v.f;go_upto_region 11 with fail;have hlen:(k.set i (O y B L)).length=8:=Rx Xy G.len;have g:=dD hlen;clear hlen;obtain⟨l,f⟩:=kB (P.setCell ⟨K,i,Xb⟩ (O y B L));have C:Xo (Box l K (k.set i (O y B L))):=show Box _ _ _ by rw[<-f];exact v.set i _
 have F:Xo (Box l (w.heap.size+2) J2):=dD<|by rw[<-f];exact E.other (by have:=d.out;have:=D.out;have:=c.out;simp;omega) _
 have v:Xo (zc w l):=dD<|by rw[<-f];exact Below.setCell z (p:=⟨K,i,Xb⟩) (by have:=d.out;have:=D.out;have:=c.out;simp;omega) _
 have d:Xo (Zg (s.heap.size+2) l (k.set i (O y B L)) (t.set i T)):=dD<|by
  rw[<-f];exact⟨q.len,q.aL,fun j A h r l=>(q.row j A h r l).aQ (fun a b=>u.out j A r a b) _,q.two⟩
 rw[f];clear f H M;go_wp2_with(first|refine qO rfl (.tmp 10) rfl K rfl C g.out ?_|refine zn rfl 61 (.tmp 6) (.tmp 40) rfl (w.heap.size+2) rfl _ rfl F g zsM d.new.one ?_)
 intro q s f C;have u:=dD s;have z:Xo (zc w q):=show zc _ _ from zd v f Sm;have v:Xo (Js 0 w.heap.size q (k.set i (O y B L)) (t.set i T)):=show Js _ _ _ _ _ from
  ⟨d.len,d.aL,fun j A h r l=>(((d.row j A h r l).grown f (fun a b e=>by
   cases e;have:=((d.row j A h r l).lt _ b).1;have:=c.out
   omega)).new.stays).less (nR _) (Hm c.out)⟩
 clear s f C;go_wp2;refine bodyPost_ret (qI rfl _ rfl u underlying61 rfl (Rx g.out zsM)) rfl ⟨_,rfl,v,z⟩
def chL(V:MaV)(m:Ma):List Xq:=[O V.f.a V.f.n V.f.c,Xe Xf m.aB,O V.s.a V.s.n V.s.c,O V.sb.a V.sb.n V.sb.c,O V.sq.a V.sq.n V.sq.c,O V.db.a V.db.n V.db.c,O V.dq.a V.dq.n V.dq.c,O V.fl.a V.fl.n V.fl.c,Xe Xf m.cnt,O V.ca.a V.ca.n V.ca.c,O V.sp.a V.sp.n V.sp.c]
theorem qC.grown{D:Nat->Prop}(a:w.grownBy w' (Xa b))(h:D b):qC D w w':=
 ⟨a.os,a.tape,a.output,a.size,fun k d c=>a.block k d (fun e=>by cases e;exact c h)⟩
theorem zm.aK{cs:Nat->Prop}(h:zm w b t D)(k:qC cs w w')(a:¬cs b):zm w' b t D:=(k.block b h.box.lt a).trans h
theorem Js.aK{D:Nat->Prop}(h:Js 0 B w us G)(hd:∀k,D k->k<B)(k:qC D w W):JT W us G:=
 (h.out ⟨k.os,k.tape,k.output,k.size,fun i a b=>k.block i a (fun e=>Hm (hd i e))⟩).now
def Z4(m:Ma)(e:En)(n:Int):Ma:=if e.kind=1 then{m with fs:=Jz m.fs m.aB e.n n,aB:=zlF m.fs m.aB e.n n}else if e.kind=2 then{m with sl:=Qp m.sl e.n n}else m
def Z6(m:Ma)(q:Nat)(n:Int):En:=zfi (m.sp.getD q ⟨Xd,[],[]⟩).tb n
def jN(m:Ma)(q:Nat)(n:Int)(e:En):Ma:={m with sp:=m.sp.set q {m.sp.getD q ⟨Xd,[],[]⟩with tb:=zkg (m.sp.getD q ⟨Xd,[],[]⟩).tb n e}}
def JE(m:Ma)(q p:Nat)(n:Int):Ma:=jN (jN (Z4 m {Z6 m p n with wr:=false} 1) p n {Z6 m p n with wr:=false}) q n {Z6 m p n with wr:=false}
def zjJ(m:Ma)(p:Nat)(n:Int):Ma:=jN (Z4 m (Z6 m p n) (-1)) p n en0
theorem Sp.aJ{l:List Sp}{d:Sp}(h:l[k]?=Xa s):l.getD k d=s:=by rw[gD,h];rfl
section
variable{I:Xn->Prop}{P:Program}{ops:Array Oper}{S:Nat->Option (Xq->Prop)}{Q:Act->Xn->Prop}
variable(I P ops S Q)in
abbrev zdq:List Oper->Nat->(Xn->Prop)->Act->Prop:=zao I P ops S (fun _=>Xd) Q
theorem zH{Q:Exit->Act->Xn->Prop}{l r:List Oper}(T:Nat)(S:List (Nat×(Xq->Prop)))(F:Xn->Prop)(e:I w.drew)(d:F w.drew)(j:P.follows .mixedOrders=Xc)(c:Jy K.toArray T=Xc)(g:K.take T=l)(m:K.drop T=r)(f:T<=K.length)
  (hS:∀x∈S,∃v,x.2 v)(b:((S.map (·.1)).all fun i=>(S.map (·.1)).all fun k=>!decide (i<k)||anc K.toArray 9 i k)=Xc)
  (h:zdq I P K.toArray (fun k=>S.lookup k) (fun a w=>wpList P K.toArray Q r a w) l 0 F a):(Code.region id K.toArray Xc).wp P Q a w:=
 zaq T S [] F e d j c g m f hS (Si b) rfl h
variable{o:Oper}{rest:List Oper}{k:Nat}{F:Xn->Prop}{a:Act}
theorem ZS(ht:zoM o=Xc)(b:Xs o (yielded ops a.tmps)=Xc)(hS:S k=Xb)
  (h:∀K:Act->Prop,(∀a,zdq I P ops S Q rest (k+1) F a->K a)->o.quiet P a (fun w'=>∃x:zh I,w'=x.world) K):zdq I P ops S Q (o::rest) k F a:=zfH ht b hS h
theorem zg{P Q:Prop}(k:Q)(h:Go.RowKit.Hid Q->P:=by intro h;refine ZS rfl rfl rfl (fun K a=>?_);go_big_quiet_op;exact a _ h.out):P:=h k
theorem Q3(b:Xs o (yielded ops a.tmps)=Xd)(h:zdq I P ops S Q rest (k+1) F (a.put o.dst undef)):zdq I P ops S Q (o::rest) k F a:=zne b h
theorem zy{s:Xq->Prop}(c:Xs o (yielded ops a.tmps)=Xc)(hS:S k=Xa s)(p:Xq->Xn->Prop)
  (h:∀w,I w->F w->zO P o a w fun v w'=>I w'/\s v/\p v w')
  (b:∀v,s v->zdq I P ops S Q rest (k+1) (p v) (a.put o.dst v)):zdq I P ops S Q (o::rest) k F a:=zcb c hS p h b
theorem zQ(x p)(b:o.op=.nilCheck x)(d:a.eval x=Xj (Xa p))(c:Xs o (yielded ops a.tmps)=Xc)(hS:S k=Xb)(h:zdq I P ops S Q rest (k+1) F (a.put o.dst (Xj (Xa p)))):zdq I P ops S Q (o::rest) k F a:=zaF x p b d c hS h
theorem qE(h:∀w,I w->F w->Q a w):zdq I P ops S Q [] k F a:=zgy h
theorem zpi(v)(b:Xs o (yielded ops a.tmps)=Xc)(hS:S k=Xb)(h:∀w,I w->(execOp a.eval o).run P w=.ok (.value v) w)(c:zdq I P ops S Q rest (k+1) F (a.put o.dst v)):zdq I P ops S Q (o::rest) k F a:=zca b hS (fun w b _=>h w b) c
end
def zbr(L L':List Int):Prop:=L=[]->L'=[]
theorem zbr.refl(L):zbr L L:=fun h=>h
theorem zbr.trans{B C:List Int}(h:zbr L B)(k:zbr B C):zbr L C:=fun e=>k (h e)
theorem zsY:(Tryz.prog.info? 5).map (·.size)=Xa 1:=by kernel_rfl
theorem zki{ad:Addr}{n c:Nat}:(Instr.sliceAt 24 (O (Xa ad) (n+1) c) (Xa (I6 1)) Xb Xb).run prog w=.ok (O (Xa (if c=1 then ad else ad.add 1)) n (c-1)) w:=by
 have f:(Go.sizeOf 5).run prog w=.ok 1 w:=by
  obtain⟨a,b,e⟩:∃a,Tryz.prog.info? 5=Xa a/\a.size=1:=by
   have:=zsY;cases d:Tryz.prog.info? 5 with
   |none=>rw[d]at this;cases this
   |some a=>rw[d]at this;exact⟨a,rfl,by simpa using this⟩
  simp[Go.sizeOf,typeInfo,b,e]
 have b:(0:Int)<=1/\(1:Int)<=((n+1:Nat):Int):=Wm;simp only[Instr.sliceAt,Instr.slice,Instr.sliceBounds,Instr.sliceBound,asIntOf,Xu,Xt,rA,run_underlying underlying24];rw[kE b];simp only[Xt,rA,f];by_cases a:c=1;·simp[a]
 simp[a]
theorem qY(n:Int)(j:Mk w0 hi w b vl L V m vt T):
  Xp prog 22 #[Xj (Xa ⟨b,0,Xb⟩),I6 n] w fun e w'=>∃G g x,e=Xl (I6 x)/\Mk w0 hi w' b G g V m vt T/\w.grownBy w' (Xa b)/\w'.heap.size=w.heap.size/\0<=x/\(x=0\/x<n)/\(L=[]->x=0)/\zbr L g:=by
 have d:=dD j;have p:=j.box.box;have a2:=p.c 0 rfl;have a9:=p.f;have h:=j.lr.n;clear p;obtain⟨⟨a5,v,f⟩,E⟩:∃a1:Sli,vl=a1:=⟨_,rfl⟩;subst E;dsimp only[Sli.x]at a2 h d;clear j;by_cases y:v=0
 ·subst y;clear h;go_enter func22,ntmps22;go_wp2;go_ret;exact⟨_,L,0,rfl,d,World.grownBy.rfl' _ _,rfl,Int.le_refl _,.inl rfl,fun _=>rfl,zbr.refl L⟩
 have R:((v:Int)==0)=Xd:=by simp;omega
 have S:(v==0)=Xd:=by simp[y]
 by_cases a4:n<1
 ·clear y h
  go_enter func22,ntmps22;go_wp2;go_ret;exact⟨_,L,0,rfl,d,World.grownBy.rfl' _ _,rfl,Int.le_refl _,.inl rfl,fun _=>rfl,zbr.refl L⟩
 obtain⟨z,g,rfl⟩:∃z g,L=z::g:=by
  cases L with
  |nil=>simp at h;omega
  |cons z g=>exact⟨z,g,rfl⟩
 have X:=d.lb z Sm;obtain⟨Y,Z⟩:=X;obtain⟨r,rfl,K⟩:=d.lr.bZ 0 z rfl;have a3:w.cell? r=Xa (U8 z):=by
  have:=K w d.gr 0 _ rfl;rw[zX]at this;simpa[byE,Addr.add]using this
 obtain⟨k,rfl⟩:∃k,v=k+1:=⟨v-1,Wm⟩;have s:k+1<=f:=d.lc;have u:=zki (w:=w) (ad:=r) (n:=k) (c:=f);clear y K;have W:(0:Int)<((k+1:Nat):Int):=Wm;obtain⟨a,i⟩:∃a,(if f=1 then r else r.add 1)=a:=⟨_,rfl⟩;rw[i]at u;have C:Xo (zq byE w0 (O (Xa a) k (f-1)) g):=dD<|by
  obtain⟨⟨a7,a8,M,a6,I⟩,N⟩:=d.lr;dsimp only[Sli.x]at M;cases M;have a0:=I r rfl;refine⟨⟨Xa a,f-1,rfl,fun j=>(by cases j),fun Q F=>?_⟩,?_⟩
  ·cases F
   by_cases U:f=1
   ·have:g=[]:=by
     have:g.length=0:=Wm;exact eN this
    subst this;intro A P t;simp at t
   rw[kF U]at i;subst i;intro A P t;rw[zX,Nat.add_comm 1 A];exact a0 (A+1) P (by simpa[byE]using t)
  have:byE.bytes=1:=rfl;rw[this]at N⊢;simp at N⊢;omega
 have B:Xo (zm (w.setCell ⟨b,0,Xb⟩ (O (Xa a) k (f-1))) b 81 [O (Xa a) k (f-1),V.f.x,I6 m.aB,V.s.x,V.sb.x,V.sq.x,V.db.x,V.dq.x,V.fl.x,I6 m.cnt,V.ca.x,V.sp.x,vt.x]):=d.box.set 0 _;have l:Xo (w.grownBy (w.setCell ⟨b,0,Xb⟩ (O (Xa a) k (f-1))) (Xa b)):=⟨rfl,rfl,rfl,by simp[World.setCell],fun A _ t=>Below.heap_setCell _ _ _ _ (fun e=>t (by rw[e]))⟩;have q:Xo ((w.setCell ⟨b,0,Xb⟩ (O (Xa a) k (f-1))).heap.size=w.heap.size):=dD<|by simp[World.setCell]
 have D:Xo (Mk w0 hi (w.setCell ⟨b,0,Xb⟩ (O (Xa a) k (f-1))) b ⟨Xa a,k,f-1⟩ g V m vt T):=show Mk _ _ _ _ _ _ _ _ _ _ from
  ⟨zd d.gr l d.hb,d.hb,B,C,(show k<=f-1 by omega),fun Q F=>d.lb Q (by simp[F]),d.rows.var l d.box (Nat.le_of_eq q.symm) (.inl rfl)⟩
 have H:Xo (0<=z%n/\z%n<n):=dD<|⟨Int.emod_nonneg _ Wm,Int.emod_lt_of_pos _ Wm⟩;clear h s i;go_enter func22,ntmps22;go_wp2;go_ret;exact⟨_,g,z%n,rfl,D,l,q,H.1,.inr H.2,fun j=>(by cases j)⟩
theorem zd9(q:List Int)(i:Nat)(z:Int):pgc (q.set i z)=(pgc q).set i (U8 z):=by unfold pgc;rw[List.map_set]
theorem zhC(h:L[k]?=Xa z):(pgc L)[k]?=Xa (U8 z):=by unfold pgc;rw[List.getElem?_map,h];rfl
theorem zsZ:(Tryz.prog.info? 44).map (·.size)=Xa 8:=by kernel_rfl
theorem zdx(j:Mk w0 hi w b vl L V m vt T):
  Xp prog 25 #[Xj (Xa ⟨b,0,Xb⟩)] w fun e w'=>∃c f q,e=Xl (Xi (pgc q).toArray)/\q.length=8/\Mk w0 hi w' b c f V m vt T/\w.grownBy w' (Xa b)/\zbr L f:=by
 have y:=dD j;obtain⟨g,a⟩:=kB ((w.alloc (Xk #[U8 0,U8 0,U8 0,U8 0,U8 0,U8 0,U8 0,U8 0] 44)).alloc (Xk #[U8 0,U8 0,U8 0,U8 0,U8 0,U8 0,U8 0,U8 0] 44));have d:=gD2 a;have h:Xo (zm g w.heap.size 44 (pgc zt)):=dD<|by rw[<-a];exact(zm.aE _ (pgc zt) _ rfl).aA (za _ _)
 have i:Xo (zm g (w.heap.size+1) 44 (pgc zt)):=dD<|by rw[<-a];exact zm.aE _ (pgc zt) _ Sm
 have s:=dD j.box.box.lt;have C:=dD j.rows.hw;have g:=dD a;clear a j;go_enter func25,ntmps25;go_upto_region 2 with fail;rw[g.out];go_wp2;go_loopg[5] 8 (fun g k wr=>∃(a:Nat)(c:Sli)(f q:List Int),a<=8/\8-a<=g/\k=I6 a/\Xo (w.grownBy wr (Xa b))/\Xo (Mk w0 hi wr b c f V m vt T)/\Xo (zm wr w.heap.size 44 (pgc zt))/\Xo (zm wr (w.heap.size+1) 44 (pgc q))/\Xo (q.length=8)/\Xo (zbr L f))
 exact⟨0,vl,L,zt,nZ _,Wm,rfl,zcN d _,y.aA d,h,i,(show zt.length=8 from rfl),zbr.refl L⟩;obtain⟨a,c,f,q,d,d,rfl,i,g,A,F,t,E⟩:=hrel;by_cases r:a<8
 ·have l:(a:Int)<8:=Wm
  have d:=qY 4 g.out;go_wp2_with fail;refine d.mono ?_;clear d;rintro e h⟨p,D,x,rfl,n,d,B,k,H,M,G⟩;have k:x<4:=by rcases H with j|j<;>omega
  have j:=dD n;have k:=dD<|Za i d;have K:Xo (zm h w.heap.size 44 (pgc zt)):=A.beside d (fun v e=>by cases e;have:=s.out;omega);have u:Xo (zm h (w.heap.size+1) 44 (pgc q)):=F.beside d (fun v e=>by cases e;have:=s.out;omega);have z:=dD (E.trans G);clear n d B H M G;obtain⟨d,B⟩:∃d,q[a]?=Xa d:=⟨_,gE (Rx t.out r)⟩;have d:=u.box.c a (zhC B);have d:=u.box.f;have r:Xo (h.grownBy (h.setCell ⟨w.heap.size+1,a,Xb⟩ (U8 x)) (Xa (w.heap.size+1))):=⟨rfl,rfl,rfl,by simp[World.setCell],fun n _ d=>Below.heap_setCell _ _ _ _ (fun e=>d (by rw[e]))⟩;have M:Xo (zm (h.setCell ⟨w.heap.size+1,a,Xb⟩ (U8 x)) (w.heap.size+1) 44 (pgc (q.set a x))):=dD (by rw[zd9];exact u.set a _);have H:Xo (zm (h.setCell ⟨w.heap.size+1,a,Xb⟩ (U8 x)) w.heap.size 44 (pgc zt)):=K.beside r (fun v e=>by cases e;omega);have G:Xo (Mk w0 hi (h.setCell ⟨w.heap.size+1,a,Xb⟩ (U8 x)) b p D V m vt T):=show Mk _ _ _ _ _ _ _ _ _ _ from
   ⟨zd j.gr r (Hm (bS y.gr)),j.hb,j.box.beside r (fun v e=>by cases e;have:=s.out;omega),j.lr,j.lc,j.lb,j.rows.var r u (by simp[World.setCell]) (.inr ⟨rfl,Hm C.out⟩)⟩
  have j:Xo (w.grownBy (h.setCell ⟨w.heap.size+1,a,Xb⟩ (U8 x)) (Xa b)):=dD<|⟨k.os,k.tape,k.output,by simp[World.setCell];exact k.size,fun n d r=>by
   rw[Below.heap_setCell _ _ _ _ (by simp;omega)]
   exact k.block n d r⟩
  clear B;go_wp2;go_roundg (8-(a+1));exact⟨a+1,p,D,q.set a x,Wm,Wm,Gn,j,G,H,M,(show _=_ by rw[Xy];exact t),z⟩;omega
 have l:¬(a:Int)<8:=Wm;have:a=8:=Wm;subst this;have h:Xo ((pgc q).length=8):=dD<|Rx Z3 t.out;go_wp2_with(first|(refine zE rfl 44 (.tmp 3) rfl (w.heap.size+1) rfl F.box underlying44 rfl (Rx h.out zsZ) ?_)|(refine zn rfl 44 (.tmp 2) (.tmp 14) rfl w.heap.size rfl (pgc q) rfl A.box (Rr h.out) zsZ (qM q) ?_))
 intro l j a k;have p:Xo (Mk w0 hi l b c f V m vt T):=show Mk _ _ _ _ _ _ _ _ _ _ from
  ⟨zd g.gr a (bS y.gr),g.hb,g.box.beside a (fun v e=>by cases e;have:=s.out;omega),g.lr,g.lc,g.lb,g.rows.var a A (Nat.le_of_eq k.symm) (.inr ⟨rfl,C⟩)⟩
 have g:Xo (w.grownBy l (Xa b)):=dD<|⟨a.os.trans i.os,a.tape.trans i.tape,a.output.trans i.output,nT i.size a.size,fun n d r=>by
  rw[a.block n (Yh d i.size) (fun e=>by cases e;omega)]
  exact i.block n d r⟩
 go_wp2;refine bodyPost_ret (z8 rfl _ rfl j underlying44 rfl (Rx h.out zsZ)) rfl ⟨c,f,q,rfl,t,p,g,E⟩
def Loc(hi p:Nat)(t:TypeId):Prop:=t≠81/\t≠53/\t≠3/\t≠88/\t≠84/\t≠108/\t≠63/\t≠56/\(t=44->hi<=p)
def zR(hi:Nat)(w w':Xn):Prop:=(∀p t cs,zm w p t cs->Loc hi p t->zm w' p t cs)/\w.heap.size<=w'.heap.size
theorem zR.trans{b c:Xn}(h:zR hi w b)(k:zR hi b c):zR hi w c:=⟨fun p t d f e=>k.1 p t d (h.1 p t d f e) e,nT h.2 k.2⟩
theorem zR.aA{b:Xn}(h:zc w b):zR hi w b:=⟨fun _ _ _ c _=>c.aA h,bS h⟩
theorem zR.kind(c:w.grownBy w' (Xa k))(i:w.heap[k]?=Xa (Xk U t (0,0)))(h:∀p,Loc hi p t->p≠k):zR hi w w':=⟨fun p u d b f=>b.beside c (fun g e=>by
 cases e;intro a;subst a;have a:w.heap[p]?=Xa (Xk d.toArray u (0,0)):=b;rw[i]at a;simp only[Option.some.injEq,Obj.cells.injEq]at a;obtain⟨_,rfl,_⟩:=a;exact h p f rfl),c.size⟩
theorem Mk.keeps(h:Mk w0 hi w b vl L V m vt T)(a:w.grownBy w' (Xa b)):zR hi w w':=zR.kind a h.box (fun _ a=>absurd rfl a.1)
def MkE(w0:Xn)(hi b:Nat)(w:Xn)(L:List Int)(V:MaV)(m:Ma)(vt:Sli)(T:List (Nat->En))(w':Xn):Prop:=∃vl' L',Mk w0 hi w' b vl' L' V m vt T/\zbr L L'/\zR hi w w'
theorem zq5{a n:Nat}(h:0<n):((a:Int)%(n:Int))=((a%n:Nat):Int)/\a%n<n:=⟨Wm,Oc _ h⟩
theorem zh8(f:Fr)(h:Mk w0 hi w b vl L V m vt T)(hfd:zr1 m f):
  Xp prog 97 #[Xj (Xa ⟨b,0,Xb⟩),Xi (frv f).toArray] w fun e w'=>(e=Xl (Xe Xf (-1))/\MkE w0 hi b w L V m vt T w')\/∃(j:Nat)(q:Fr),e=Xl (Xe Xf (j:Int))/\m.fs[j]?=Xa q/\q.r=0/\MkE w0 hi b w L V {m with fs:=m.fs.set j f} vt T w':=by
 have HM:Xo (Mk w0 hi w b vl L V m vt T):=h;have HFD:Xo (zr1 m f):=show zr1 _ _ from hfd;clear hfd;obtain⟨W0,hW0⟩:=kB (w.alloc (Xk #[Xe Xg f.p.b0,Xe Xg f.p.b1,Xe Xg f.p.b2,Xe Xg f.p.b3,Xe Xg f.p.b4,Xe Xg f.p.b5,Xe Xg f.p.b6,Xe Xg f.p.b7,Xe Xf f.r,Xh f.u,Xh f.d,Xe Xf f.f,Xe Xf f.x] 53));have HG0:=gA hW0;have X0:Xo (zm W0 w.heap.size 53 (frv f)):=dD<|by rw[<-hW0];exact zm.aE _ (frv f) _ rfl
 have M0:Xo (Mk w0 hi W0 b vl L V m vt T):=h.aA HG0.out;have HNF:Xo (V.f.n=m.fs.length):=h.rows.fs.n;have hbig:V.f.n<=140737488355328:=by
  have h1:=h.rows.fs.2;have h40:q3.bytes=40:=rfl;rw[h40]at h1;have:=h.rows.fs.n;omega
 have HB:Xo (b<w.heap.size):=dD<|h.box.box.lt;have HFG:Xo (∀g,(O V.f.a V.f.n V.f.c).ownBlock=Xa g->g<w.heap.size):=dD<|fun g hg=>(h.rows.fs.lt g hg).2;have HW0:Xo (_=W0):=hW0;clear hW0 h;go_enter func97,ntmps97;go_upto_region 1 with fail;have hw:w.alloc (Xk (frv f).toArray 53)=W0:=HW0.out;try rw[hw]
 try rw[HW0.out]
 clear hw;have x1:=M0.box.box.c 1 rfl;go_upto_region 2 with fail;clear x1;obtain⟨n,HN⟩:=kA V.f.n;rw[HN.out]at hbig⊢;have hpk:=qY (n:Int) M0.out;go_wp2_with fail;refine hpk.mono ?_;clear hpk;rintro e W1⟨vl1,L1,x,rfl,mk1,gr1,sz1,x0,x1,xn,ll⟩;obtain⟨fr,rfl⟩:∃fr:Nat,x=(fr:Int):=⟨x.toNat,Wm⟩;have hfr:fr<=n:=by rcases x1 with h|h<;>omega
 have M1:Xo (Mk w0 hi W1 b vl1 L1 V m vt T):=mk1;have K1:Xo (zR hi w W1):=(zR.aA HG0).trans (M0.keeps gr1);have X1:Xo (zm W1 w.heap.size 53 (frv f)):=X0.beside gr1 (fun g e=>by cases e;have:=HB.out;omega);have LL1:Xo (zbr L L1):=ll;clear mk1 gr1 sz1 x1 xn ll x0;go_wp2;go_loopg[20] n (fun gg s20 wr=>∃i:Nat,i<=n/\n-i<=gg/\s20=Xe Xf i/\wr=W1)
 exact⟨0,nZ _,Wm,rfl,rfl⟩;obtain⟨i,hi',hgg,rfl,rfl⟩:=hrel;by_cases hlt:i<n
 ·have hltz:=kC hlt
  have hn0:¬(n:Int)=0:=Wm;have hn1:((n:Int)==0)=Xd:=by simp;omega
  obtain⟨j,hj⟩:∃j:Nat,(fr+i)%n=j:=⟨_,rfl⟩;have hjm:((fr:Int)+(i:Int))%(n:Int)=(j:Int):=by
   rw[<-hj];have:=(zq5 (a:=fr+i) (n:=n) Wm).1;rw[<-this];rfl
  have hjn:j<n:=by rw[<-hj];exact Oc _ Wm
  have hjz:(j:Int)<(n:Int):=Wm;clear hj;obtain⟨q,HQ⟩:∃q,Xo (m.fs[j]?=Xa q):=⟨_,gE (by rw[<-HNF.out,HN.out];exact hjn)⟩;obtain⟨g,c',heq⟩:=M1.rows.fs.aG (by rw[<-HNF.out,HN.out];omega);have hfl:m.fs.length=n:=by rw[<-HNF.out,HN.out]
  rw[hfl]at heq;have HEQ:Xo (O V.f.a V.f.n V.f.c=O (Xa ⟨g,0,Xb⟩) n c'):=heq;have x1:=M1.box.box.c 1 rfl;rw[HEQ.out]at x1;have hrw:=M1.rows.fs;rw[HEQ.out]at hrw;have HRW:Xo (zb q3 w0.heap.size wr (O (Xa ⟨g,0,Xb⟩) n c') m.fs):=hrw;have HGL:Xo (g<w.heap.size):=HFG.out g (Rr HEQ.out);have hce:=hrw.one HQ.out;have d8:wr.cell? ⟨g,j*13+8,Xb⟩=Xa (Xe Xf q.r):=by
   have:=hce 8 _ rfl;rw[zX,Yc,zA]at this;exact this
  clear hce hrw heq hfl;by_cases hr:q.r=0
  ·have hre:(q.r==0)=Xc:=by simp[hr]
   have HR0:Xo (q.r=0):=hr;clear hr;go_upto_region 8 with fail;clear d8;obtain⟨I,hI⟩:∃I:Xn->Prop,I=fun u=>zc wr u:=⟨_,rfl⟩;have HI:Xo (∀u,I u↔zc wr u):=dD<|fun u=>(by rw[hI]);clear hI;have hI0:I wr.drew:=(HI _).2 (gW _);have hx1:∀y:zh I,y.world.cell? ⟨b,1,Xb⟩=Xa (O (Xa ⟨g,0,Xb⟩) n c'):=fun y=>(by rw[<-HEQ.out];exact(M1.box.box.aA ((HI _).1 y.holds)).c 1 rfl);have hf0:=fun y:zh I=>(X1.box.aA ((HI _).1 y.holds)).c 0 rfl;have hf1:=fun y:zh I=>(X1.box.aA ((HI _).1 y.holds)).c 1 rfl;have hf2:=fun y:zh I=>(X1.box.aA ((HI _).1 y.holds)).c 2 rfl;have hf3:=fun y:zh I=>(X1.box.aA ((HI _).1 y.holds)).c 3 rfl;have hf4:=fun y:zh I=>(X1.box.aA ((HI _).1 y.holds)).c 4 rfl;have hf5:=fun y:zh I=>(X1.box.aA ((HI _).1 y.holds)).c 5 rfl;have hf6:=fun y:zh I=>(X1.box.aA ((HI _).1 y.holds)).c 6 rfl;have hf7:=fun y:zh I=>(X1.box.aA ((HI _).1 y.holds)).c 7 rfl;have hf8:=fun y:zh I=>(X1.box.aA ((HI _).1 y.holds)).c 8 rfl;have hf9:=fun y:zh I=>(X1.box.aA ((HI _).1 y.holds)).c 9 rfl;have hf10:=fun y:zh I=>(X1.box.aA ((HI _).1 y.holds)).c 10 rfl;have hf11:=fun y:zh I=>(X1.box.aA ((HI _).1 y.holds)).c 11 rfl;have hf12:=fun y:zh I=>(X1.box.aA ((HI _).1 y.holds)).c 12 rfl;have hne:Nonempty (zh I):=⟨⟨_,hI0⟩⟩;refine Jl (I:=I) 9 [] hI0 zY Kr rfl rfl Dc Sm Kr ?_;simp only[Yw,Yx];iterate 1 (refine zcH rfl rfl rfl (fun K hK=>?_);go_big_quiet_op;refine hK _ ?_;clear hK K)
   refine zep (.tmp 39) ⟨b,0,Xb⟩ rfl rfl rfl rfl ?_;simp only[Act.put,sB,sS,sZ];iterate 7 (refine zcH rfl rfl rfl (fun K hK=>?_);go_big_quiet_op;refine hK _ ?_;clear hK K)
   refine zdB fun W2 hI2 hF=>?_;have hg2:=(HI _).1 hI2;have M2:=dD (M1.aA hg2);have R2:=dD (HRW.aA hg2);have K2:=dD (K1.trans (zR.aA hg2));clear hg2 hI2 hF hx1 hf0 hf1 hf2 hf3 hf4 hf5 hf6 hf7 hf8 hf9 hf10 hf11 hf12 hne hI0;refine z3 (E:=q3) rfl (.tmp 47) (.tmp 46) rfl w0.heap.size _ m.fs R2 g j rfl f (by rw[<-HNF.out,HN.out];exact hjn) ⟨g,j*13,Xb⟩ rfl rfl (Xi (frv f).toArray) rfl rfl ?_;intro W3 ow3 gr3 sz3;have M3:Xo (Mk w0 hi W3 b vl1 L1 V {m with fs:=m.fs.set j f} vt T):=dD<|by
    have hob:(O V.f.a V.f.n V.f.c).ownBlock=Xa g:=Rr HEQ.out;have h2:=M2.out;refine⟨zd h2.gr gr3 (R2.lt g rfl).1,h2.hb,h2.box.beside gr3 (fun k e=>?_),h2.lr,h2.lc,h2.lb,h2.rows.bK hob gr3 sz3 (Rx HEQ.out ow3) (h2.rows.ap.2.set HFD j)⟩;cases e;exact R2.ne h2.box Dc g rfl
   have K3:Xo (zR hi w W3):=dD<|by
    obtain⟨cs,hcs⟩:=R2.obj (g:=g) rfl;exact K2.trans (zR.kind gr3 hcs (fun _ hl=>absurd rfl hl.2.1))
   clear ow3 gr3 sz3;go_wp2;go_ret;exact .inr ⟨j,q,rfl,HQ,HR0,vl1,L1,M3,LL1,K3⟩
  have hre:(q.r==0)=Xd:=by simp[hr]
  clear hr;go_wp2;go_roundg (n-(i+1));exact⟨i+1,Wm,Wm,Gn,rfl⟩;omega
 have hltz:=kD hlt;go_wp2;go_ret;exact .inl ⟨rfl,vl1,L1,M1,LL1,K1⟩
theorem zjn(h:∀p∈r,p.length=8)(b:L.length=8):∀p∈r.set k L,p.length=8:=fun p r=>by grind
theorem Qc(e:o.guard=Xb)(p x)(k:o.op=.store 44 p x)
  (base:Nat)(v:Xq)(c:List (List Int))(b:zl base w v c)(g i:Nat)(j:v.ownBlock=Xa g)(hi:i<c.length)(l:List Int)(f:l.length=8)
  (ad:Addr)(hp:a.eval p=Xj (Xa ad))(d:ad=⟨g,i*8,Xb⟩)(m:a.eval x=Xi (pgc l).toArray)
  (h:∀w',zl base w' v (c.set i l)->w.grownBy w' (Xa g)->w'.heap.size=w.heap.size->wpList prog ops Q K (a.put o.dst undef) w'):wpList prog ops Q (o::K) a w:=by refine zdb e p x 44 k 8 Kr base v c.length _ b.1 g i j hi (pgc l) (by rw[Z3,f]) (qM l) ad hp d m fun w' d e j=>?_;rw[JD l (by rw[Z3,f]) c i (fun c k=>by rw[Z3,b.2.1 c k]) hi]at d;refine h w' ⟨Rx Xy d,zjn b.2.1 f,Rx Xy b.2.2⟩ e j
theorem QR(h:zS k g=0):k<=80/\g.length<=400/\∀q∈g,∃i:Nat,q.1=(i:Int)/\i<k:=by grind[zS,ZB,Yd.2,Int.eq_ofNat_of_zero_le]
theorem zqD(base:Nat)(w):jA base w (Xi #[eS,eS]) [] []:=
 ⟨_,_,rfl,⟨⟨Xb,0,rfl,fun _=>rfl,fun x a=>by cases a⟩,Sm,Sm⟩,⟨⟨Xb,0,rfl,fun _=>rfl,fun x a=>by cases a⟩,Sm,Sm⟩,zex _,zex _⟩
def zrJ(n:Int):Int:=if 0<=n/\n<=80 then 0 else 4
def zsB(n:Int):List (List Int):=if 0<=n/\n<=80 then Xr n.toNat zt else[]
theorem zlw(n:Nat):(madeCells #[U8 0,U8 0,U8 0,U8 0,U8 0,U8 0,U8 0,U8 0] (n*8)).toList=(Xr n zt).flatMap pgc:=by
 have g:((Xr n zt).flatMap pgc).length=n*8:=by rw[jP (k:=8) _ (fun e b=>by rw[Yk b];rfl)];simp
 apply Xv;intro j;rcases Nat.lt_or_ge j (n*8)with h|h
 ·have f:j=j/8*8+j%8:=Wm
  have a:j%8<8:=Oc _ Dc;have i:j/8<n:=Wm;have l:(pgc zt)[j%8]?=Xa (U8 0):=by
   generalize j%8=c at a
   match c,a with
   |0,_=>rfl
   |1,_=>rfl
   |2,_=>rfl
   |3,_=>rfl
   |4,_=>rfl
   |5,_=>rfl
   |6,_=>rfl
   |7,_=>rfl
  have d:=jB (enc:=pgc) (k:=8) (Xr n zt) (j/8) zt (fun e b=>by rw[Yk b];rfl) (by simp[i]) (j%8) _ l;rw[<-f]at d;rw[d];have:(#[U8 0,U8 0,U8 0,U8 0,U8 0,U8 0,U8 0,U8 0]:Array Xq)[j%8]! =U8 0:=by
   generalize j%8=c at a
   match c,a with
   |0,_=>rfl
   |1,_=>rfl
   |2,_=>rfl
   |3,_=>rfl
   |4,_=>rfl
   |5,_=>rfl
   |6,_=>rfl
   |7,_=>rfl
  simp[madeCells,h];grind
 rw[gN (by simp[madeCells];exact h),gN (Rx g h)]
end
section
open Go.RowKit Go.Shelf
section
attribute [local go_sem] Oper.semAt_some
structure P9 where
  (i m b0 b1 b2 b3 b4 b5 b6 b7:Int)
def P9.q(x:P9):Int×List Int:=(x.m,[x.b0,x.b1,x.b2,x.b3,x.b4,x.b5,x.b6,x.b7])
def P9.encs(x:P9):Array Value:=#[.int .i64 x.i,.agg #[.int .i64 x.m,.int .u8 x.b0,.int .u8 x.b1,.int .u8 x.b2,.int .u8 x.b3,.int .u8 x.b4,.int .u8 x.b5,.int .u8 x.b6,.int .u8 x.b7]]
theorem zkM(l:List α)(k:Nat)(q:α)(h:l[k]?=Xa q):(l.drop k).reverse=(l.drop (k+1)).reverse++[q]:=by
  grind[List.getElem?_eq_some_iff.1,List.drop_eq_getElem_cons,List.reverse_cons]
theorem zpK(l:List α)(k:Nat):(l.drop k).reverse<+:l.reverse:=by
  refine⟨(l.take k).reverse,?_⟩;rw[<-List.reverse_append,List.take_append_drop]
theorem zpX(F:Fence)(n:Nat)(hF:F.fn 161)(hro:F.round=Xb)(hn:1<=n)(l Bs n₀:Nat)(w:Xn)(a)(c:Nat)(qs:List (Int×List Int))(hr:zeZ w a qs)(hbig:qs.length<=9223372036854775807)(hw:w.heap.size<=n₀)(hBn:Bs<n₀)(J Jx:List P9->Xn->Prop)
    (hY:∀pre x W,J pre W->pre.length<qs.length->YieldAt F (n-1) Tryz.prog l (P9.encs x) W fun e W'=>
      (e=.returned (.bool true)/\J (pre++[x]) W'/\Below n₀ W W')\/(e=.returned (.bool false)/\Jx (pre++[x]) W'))
    (W:Xn)(hgW:zc w W)(hBs:W.cell? ⟨Bs,0,Xb⟩=Xa (O a qs.length c))(h0:J [] W):
    CallsIn F n Tryz.prog 161 #[.func (.yield l) #[] #[],.pointer (some ⟨Bs,0,none⟩)] W fun e W'=>(∃v,e=.returned v)/\
      ((∃ys,ys.map P9.q=qs.reverse/\J ys W')\/(∃pre,pre.map P9.q<+:qs.reverse/\Jx pre W')):=by
  have HR:Xo (zeZ w a qs):=hr;have HY:Hid _:=hY;obtain⟨nq,HN⟩:∃nq,Hid (qs.length=nq):=⟨_,rfl⟩;rw[HN.out]at hbig hBs;have HBS:Hid (W.cell? ⟨Bs,0,none⟩=some (.slice a nq c)):=hBs;have HGW:Xo (zc w W):=hgW;clear hr hY hgW;refine callsIn_of_wp Tryz.func161 rfl hF ?_ hro;simp only[Tryz.ntmps161,List.size_toArray,List.length_cons,List.length_nil,Nat.reduceAdd,Nat.reduceSub,Array.replicate_succ,Array.replicate_zero,List.push_toArray,List.append_toArray,List.nil_append,List.cons_append]
  gi_wp2
  clear hBs
  gi_loopw[3] (fun p wr=>∃(r:Nat)(pre:List P9),r<=nq/\p=.int .i64 ((r:Int)-1)/\Hid (pre.map P9.q=(qs.drop r).reverse)/\Hid (J pre wr)/\Hid (Below n₀ W wr))
    (fun p _=>((intOf p)+1).toNat)
  case atStart=>exact⟨nq,[],Nat.le_refl _,by go_num,(show Hid _ from by rw[List.drop_of_length_le (by rw[HN.out];exact Nat.le_refl _)];rfl),h0,Below.refl _ _⟩
  case round=>
    obtain⟨r,pre,hrn,rfl,HP,HJ,HB⟩:=hrel;cases r with
    |zero=>
      gi_wp2
      go_end0;exact⟨⟨_,rfl⟩,.inl ⟨pre,by rw[HP.out];rfl,HJ.out⟩⟩
    |succ k=>
      obtain⟨q,HQ⟩:∃q,Hid (qs[k]?=some q):=⟨_,List.getElem?_eq_getElem (by rw[HN.out];omega)⟩;obtain⟨x,m,b0,b1,b2,b3,b4,b5,b6,b7,rfl,rfl,hl⟩:=HR.out k q HQ.out;obtain⟨d0,d1,d2,d3,d4,d5,d6,d7,d8⟩:=hl wr (Below.trans HGW.out (HB.out.mono hw));have hbs:wr.cell? ⟨Bs,0,none⟩=some (.slice (some x) nq c):=(HB.out.cell (p:=⟨Bs,0,none⟩) hBn).trans HBS.out;have hlen:pre.length<qs.length:=by
        have:=congrArg List.length HP.out;rw[List.length_map,List.length_reverse,List.length_drop]at this;have:=HN.out;omega
      obtain⟨fn,tmps,assign,body,hy,hR⟩:=HY.out pre ⟨k,m,b0,b1,b2,b3,b4,b5,b6,b7⟩ wr HJ.out hlen;simp only[P9.encs]at hy;have hk1:((k+1:Nat):Int)-1=(k:Int):=by omega
      have hkn:(k:Int)<(nq:Int):=by omega
      rw[hk1];clear hl
      gi_wp2
      refine hR.mono ?_;rintro e W3(⟨rfl,hJ3,hk3⟩|⟨rfl,hJx3⟩)
      · gi_wp2
        go_roundw
        case rel=>exact⟨k,_,by omega,by go_num,(show Xo _ from by rw[List.map_append,HP.out,zkM qs k _ HQ.out];rfl),hJ3,(show Xo _ from HB.out.trans hk3)⟩
        case measure=>simp[intOf]
      · gi_wp2
        refine bodyPost_ret (results_none rfl _ _ _) rfl ?_;refine⟨⟨_,rfl⟩,.inr ⟨_,?_,hJx3⟩⟩;rw[List.map_append,HP.out];have:=zpK qs k;rw[zkM qs k _ HQ.out]at this;exact this
theorem zri(F:Fence)(n:Nat)(hF:F.fn 137)(hro:F.round=Xb)(a:Option Addr)(len cap:Nat)(w:Xn):
    CallsIn F n Tryz.prog 137 #[.slice a len cap] w fun e w'=>e=.returned (.func (.func 161) #[] #[.pointer (some ⟨w.heap.size,0,none⟩)])/\w'=w.alloc (.cells #[.slice a len cap] 32):=by
  refine callsIn_of_wp Tryz.func137 rfl hF ?_ hro;simp only[Tryz.ntmps137,List.size_toArray,List.length_cons,List.length_nil,Nat.reduceAdd,Nat.reduceSub,Array.replicate_succ,Array.replicate_zero,List.push_toArray,List.append_toArray,List.nil_append,List.cons_append]
  gi_wp2
  go_ret;exact⟨rfl,rfl⟩
theorem zmk(F:Fence)(n:Nat)(hF:F.fn 161)(hro:F.round=Xb)(hn:1<=n)(Bs n₀:Nat)(w0 a)(c:Nat)(qs:List (Int×List Int))(hr:zeZ w0 a qs)(hbig:qs.length<=9223372036854775807)(w:Xn)(hg:zc w0 w)(hBs:Bs<n₀)(hn₀:n₀=w.heap.size)
    (hc:w.cell? ⟨Bs,0,none⟩=some (.slice a qs.length c)):
    SeqStopsK F n Tryz.prog 161 #[.pointer (some ⟨Bs,0,none⟩)] P9.encs (Below n₀) (fun ys=>ys.map P9.q=qs.reverse) (fun pre=>pre.map P9.q<+:qs.reverse) qs.length w:=fun l J Jx W hW _ _ hY h0=>by
  subst hn₀;exact zpX F n hF hro hn l Bs w.heap.size w0 a c qs hr hbig (Below.size hg) hBs J Jx hY W (hg.trans hW) ((hW.cell (p:=⟨Bs,0,Xb⟩) hBs).trans hc) h0
end
section
attribute [local go_sem] Oper.semAt_some
theorem zgY{a:Type}(B:Nat)(f:a->List Xq):Own (fun s W=>Box W B (f s)):=fun s X Y a c d a=>by
 have b:=c.lt;obtain⟨t,h⟩:=c;refine⟨t,?_⟩;rw[d.block B b (fun e=>?_)];·exact h
 obtain⟨b,b,c⟩:=a B e.symm;rw[h]at b;cases b;cases c
theorem Box.put{o:Obj}(h:Box W b D)(o':Obj)(hD:W.heap[k]?=Xa o)(ho:o.isCells=Xd):Box (W.putObj k o') b D:=
 zgY b (fun _:Unit=>D) () W _ (Xa k) h (grownBy_putObj' W k o') (fun r e=>by cases e;exact⟨o,hD,ho⟩)
theorem ZF{B:Xn}(h:KeepsOthers w B)(a u):KeepsOthers w (B.setCell a u):=h.trans (KeepsOthers.setCell _ _ _)
theorem znK{b:List P9}(h:b.map P9.q=g.reverse)(c:∀x∈b,x.m≠z):g.reverse.find? (fun q=>q.1==z)=Xb:=by grind[Yi,Yo.1,P9.q]
theorem znJ{a:List P9}{x:P9}(h:(a++[x]).map P9.q<+:g.reverse)(c:∀y∈a,y.m≠z)(d:x.m=z):g.reverse.find? (fun q=>q.1==z)=Xa x.q:=by
 obtain⟨t,g⟩:=h;rw[<-g,List.map_append,Od,Oe];have g:(a.map P9.q).find? (fun q=>q.1==z)=Xb:=by grind[Yi,Yo.1,P9.q]
 rw[g];simp[P9.q,d]
theorem qX(h:zp k g z=0):zS k g=0/\∃i:Nat,z=(i:Int)/\i<k:=by grind[zp,zS,ZB,Int.eq_ofNat_of_zero_le]
theorem zkl(d)(l:List (List Int))(p:List (Int×List Int))(m:Int)(w)(hd:zai w d l p):
  Xp prog 106 #[d,I6 m] w fun e w'=>e=Xl (Xm #[Xi (pgc (qU l p m)).toArray,I6 (zp l.length p m)])/\zc w w':=by
 obtain⟨dt,au,rfl,bq,bs⟩:=hd;have dr:=dD bq;have ci:=dD bs;obtain⟨X,Y,rfl,aj⟩:=bq.rows;obtain⟨s,t,rfl,ak⟩:=bs.rows;have ay:=dD aj;have az:=dD ak;clear bq bs aj ak;have K:Xo (qU l p m=if zp l.length p m=0 then(match p.reverse.find? (fun au=>au.1==m)with|some au=>au.2|none=>l.getD m.toNat zt)else zt):=rfl;obtain⟨F,h⟩:=kB ((((w.alloc (Xk #[O X l.length Y,O s p.length t] 34)).alloc (Xk #[I6 m] 3)).alloc (Xk #[U8 0,U8 0,U8 0,U8 0,U8 0,U8 0,U8 0,U8 0] 44)).alloc (Xk #[I6 0] 45));have H:Xo (zc w F):=dD<|by rw[<-h];exact(((za _ _).trans (za _ _)).trans (za _ _)).trans (za _ _)
 have a5:Xo (Box F w.heap.size [O X l.length Y,O s p.length t]):=dD<|by rw[<-h];exact(((Box.aE w [O X l.length Y,O s p.length t] _ rfl).alloc _).alloc _).alloc _
 have ao:Xo (Box F (w.heap.size+1) [I6 m]):=dD<|by rw[<-h];exact((Box.aE _ [I6 m] _ Sm).alloc _).alloc _
 have a6:Xo (Box F (w.heap.size+1+1) [U8 0,U8 0,U8 0,U8 0,U8 0,U8 0,U8 0,U8 0]):=dD<|by rw[<-h];exact(Box.aE _ [U8 0,U8 0,U8 0,U8 0,U8 0,U8 0,U8 0,U8 0] _ Sm).alloc _
 have V:Xo (Box F (w.heap.size+1+1+1) [I6 0]):=dD<|by rw[<-h];exact Box.aE _ [I6 0] _ Sm
 have i:=JV X l.length Y (O s p.length t) p m F (ci.aA H);have U:p.length<=9223372036854775807:=Hm ci.2.2;obtain⟨am,cj⟩:=kA (zp l.length p m);rw[cj.out]at i K⊢;obtain⟨bv,a1⟩:=kA l.length;obtain⟨nq,a2⟩:=kA p.length;rw[a1.out,a2.out]at i h a5⊢;have a3:=dD h;clear h;by_cases E:am=0
 ·subst E;rw[kE rfl]at K;refine(callsIn_wide (n:=5)).1 ?_;refine callsIn_of_wp_marks func106 rfl trivial ?_ rfl;simp only[ntmps106,Yj,Xw,Xz,Nat.reduceAdd,Nat.reduceSub,Yt,Yu,Of,Yy,Ya,Ye]
  gi_wp2_with (first
   |(
    refine⟨trivial,?_⟩;gi_at_call 136;rw[a3.out];refine(callsIn_wide.2 i).mono ?_;rintro e B⟨rfl,j⟩;have r:Xo (zc F B):=j;have dc:=(a5.aA j).c 0 rfl;have af:=(a5.aA j).c 1 rfl)
   |(
    refine⟨trivial,?_⟩;gi_at_call 137;refine(zri Fence.wide _ trivial rfl _ _ _ _).mono ?_;rintro e q⟨rfl,ag⟩;have A:Xo (q=B.alloc (Xk #[O s nq t] 32)):=ag;clear ag))
  have g:Xo (zc w q):=dD (by rw[A.out];exact(H.trans r).trans (za _ _));have c:Xo (zc F q):=dD (by rw[A.out];exact r.trans (za _ _));have b8:Xo (w.heap.size+4<=B.heap.size/\q.heap.size=B.heap.size+1):=dD<|⟨by have cn:=bS r.out;have co:=V.lt;omega,by rw[A.out];simp⟩;have bS:Box q B.heap.size [O s nq t]:=by rw[A.out];exact Box.aE _ [O s nq t] _ rfl
  have cr:=bS.c 0 rfl;obtain⟨_,Z,ai,u⟩:=qX cj.out;have cu:Xo (m=(Z:Int)/\Z<l.length):=⟨ai,u⟩;clear dc af i j ai u bS;refine wpIn_rangeFunc_ownH rfl Dc (gf:=161) (lb:=#[Xj (Xa ⟨B.heap.size,0,Xb⟩)]) rfl trivial (enters_of func161 Kr rfl)
   (zmk Fence.wide 4 trivial rfl Dc B.heap.size q.heap.size w s t p az U q g (Hm b8.2) rfl (Rx a2.out cr)) belowK_t (belowK_b (nR _)) (bR _ _) (fun _=>rfl)
   (fun k W=>(∀x∈k,x.m≠m)/\Below q.heap.size q W)
   (fun bb k W=>(bb=.ret/\∃v b,k=v++[b]/\(∀x∈v,x.m≠m)/\b.m=m/\Box W (w.heap.size+1+1) [U8 b.b0,U8 b.b1,U8 b.b2,U8 b.b3,U8 b.b4,U8 b.b5,U8 b.b6,U8 b.b7]/\Box W (w.heap.size+1+1+1) [I6 0])/\Below w.heap.size w W)
   (OwnFrom.and (fun dm a4 a7 y al ah E=>al) (ownFrom_below (nR _) (nR _)))
   (fun bb=>OwnFrom.and (Own.from (fun dm a4 a7 y al ah E=>by
    obtain⟨dh,v,b,af,bl,bm,dd,de⟩:=al;exact⟨dh,v,b,af,bl,bm,zgY _ (fun _:Unit=>_) () a4 a7 y dd ah E,zgY _ (fun _:Unit=>_) () a4 a7 y de ah E⟩) _) (ownFrom_below (nR _) (bS g)))
   ⟨Sm,bR _ _⟩
   (fun x ba W=>∃G,q.heap.size<=G/\Box W G [I6 x.m,U8 x.b0,U8 x.b1,U8 x.b2,U8 x.b3,U8 x.b4,U8 x.b5,U8 x.b6,U8 x.b7]/\
    ba={tmps:=#[Xi #[O X bv Y,O s nq t],I6 m,Xj (Xa ⟨w.heap.size,0,Xb⟩),Xj (Xa ⟨w.heap.size+1,0,Xb⟩),Xj (Xa ⟨w.heap.size+1+1,0,Xb⟩),Xj (Xa ⟨w.heap.size+1+1+1,0,Xb⟩),I6 0,undef,Xj (Xa ⟨G,0,Xb⟩),
     Xi #[O X bv Y,O s nq t],I6 m,I6 0,I6 0,Xh Xd,undef,undef,Xj (Xa ⟨w.heap.size,1,Xb⟩),O s nq t,.func (.func 161) #[] #[Xj (Xa ⟨B.heap.size,0,Xb⟩)],I6 x.i,
     Xi #[I6 x.m,U8 x.b0,U8 x.b1,U8 x.b2,U8 x.b3,U8 x.b4,U8 x.b5,U8 x.b6,U8 x.b7],undef,undef,undef,undef,undef,undef,undef,undef,undef,undef,undef],defers:=[]})
   (fun x ba _ a4 a7 y al ah E=>by obtain⟨G,cn,co,df⟩:=al;exact⟨G,cn,zgY G (fun _:Unit=>_) () a4 a7 y co ah (fun am e=>(E am e).2),df⟩)
   ?assign ?body ?done ?stop
  case assign=>
   rintro dl k x W ds⟨S,f⟩C;simp only[P9.encs]
   gi_wp2
   exact C _ _ ((KeepsOthers.alloc _ _).from _) ((bR _ W).alloc f.size _) ⟨S,f.alloc f.size _⟩ ⟨W.heap.size,f.size,Box.aE W [I6 x.m,U8 x.b0,U8 x.b1,U8 x.b2,U8 x.b3,U8 x.b4,U8 x.b5,U8 x.b6,U8 x.b7] _ rfl,rfl⟩
  case body=>
   rintro dl k x ba W br⟨dv,bt⟩⟨S,f⟩⟨G,dg,z,rfl⟩di;have b9:=(ao.aA c).below f ((ao.aA c).lt);have N:=(a6.aA c).below f ((a6.aA c).lt);have P:=(V.aA c).below f ((V.aA c).lt);have L:=dD N;have M:=dD P;have I:=dD f;obtain⟨bc,bd,be,bf,bg,bh,bi,bj⟩:=N.c8;have bn:=N.f;have bk:=P.c 0 rfl;have bo:=P.f 0;have du:=b9.c 0 rfl;have dw:=z.c 0 rfl;have dx:=z.c 1 rfl;have dy:=z.c 2 rfl;have dz:=z.c 3 rfl;have e6:=z.c 4 rfl;have e7:=z.c 5 rfl;have e8:=z.c 6 rfl;have e9:=z.c 7 rfl;have ea:=z.c 8 rfl;have ch:=dD S;clear S z f bt;by_cases ar:x.m=m
   ·have bu:(x.m==m)=Xc:=Si ar
    gi_wp2
    refine⟨KeepsOthers.from ?_ _,⟨rfl,k,x,rfl,ch,ar,?_,?_⟩,?_⟩
    ·iterate 9 (refine ZF ?_ _ _)
     exact KeepsOthers.refl _
    ·exact((((((((L.set 0 _).set 1 _).set 2 _).set 3 _).set 4 _).set 5 _).set 6 _).set 7 _).other Sm _
    ·refine Box.set (cs:=[I6 0]) ?_ 0 _;iterate 8 (refine Box.other ?_ Sm _)
     exact M.out
    iterate 9 (refine zB ?_ (by simp;omega) _)
    exact Below.trans g (I.mono (bS g))
   have bu:(x.m==m)=Xd:=Si ar
   gi_wp2
   exact⟨KeepsFrom.refl _ _,bR _ _,fun dn dk=>(Yg.1 dk).elim (ch dn) (fun e=>by simp at e;subst e;exact ar),I⟩
  case done=>
   rintro an ec W bp ap⟨S,f⟩C;have cv:=(a5.aA c).below f ((a5.aA c).lt);have b9:=(ao.aA c).below f ((ao.aA c).lt);have N:=(a6.aA c).below f ((a6.aA c).lt);have P:=(V.aA c).below f ((V.aA c).lt);have L:=dD N;have M:=dD P;have a0:=dD<|Below.trans g (f.mono (bS g));have ct:=znK ap S;obtain⟨rfl,u⟩:=cu.out;obtain⟨bw,T⟩:∃bw,l[Z]?=Xa bw:=⟨_,gE u⟩;obtain⟨eb,a8,a9,Q,R,aa,ac,ad,ae,rfl,rfl,br⟩:=ay.out Z bw T;obtain⟨cw,cx,cy,cz,d8,d9,da,db⟩:=br W a0.out;have cp:(Z:Int)<(bv:Int):=(by rw[<-a1.out];omega);rw[ct,show l.getD (Int.toNat (Z:Int)) zt=[a8,a9,Q,R,aa,ac,ad,ae]from by simp[T]]at K;have dp:=cv.c 0 rfl;have dq:=b9.c 0 rfl;obtain⟨bc,bd,be,bf,bg,bh,bi,bj⟩:=N.c8;have bn:=N.f;have bk:=P.c 0 rfl;have bo:=P.f 0;have ax:=dD C;clear br T u ap S C f
   gi_wp2
   clear bc bd be bf bg bh bi bj bk bn bo dp dq cw cx cy cz d8 d9 da db;have D:=(show KeepsOthers W _ from ZF (ZF (ZF (ZF (ZF (ZF (ZF (ZF (ZF (KeepsOthers.refl W) ⟨w.heap.size+1+1,0,Xb⟩ (U8 a8)) ⟨w.heap.size+1+1,1,Xb⟩ (U8 a9)) ⟨w.heap.size+1+1,2,Xb⟩ (U8 Q)) ⟨w.heap.size+1+1,3,Xb⟩ (U8 R)) ⟨w.heap.size+1+1,4,Xb⟩ (U8 aa)) ⟨w.heap.size+1+1,5,Xb⟩ (U8 ac)) ⟨w.heap.size+1+1,6,Xb⟩ (U8 ad)) ⟨w.heap.size+1+1,7,Xb⟩ (U8 ae)) ⟨w.heap.size+1+1+1,0,Xb⟩ (I6 0)).same an _ ax rfl;refine⟨Sm,.inl ⟨_,_,rfl,run_takeDeferred D,?_⟩⟩;have av:=(((((((((L.set 0 (U8 a8)).set 1 (U8 a9)).set 2 (U8 Q)).set 3 (U8 R)).set 4 (U8 aa)).set 5 (U8 ac)).set 6 (U8 ad)).set 7 (U8 ae)).other (a:=⟨w.heap.size+1+1+1,0,Xb⟩) Sm (I6 0)).put (.deferred Xb) D rfl;have aw:=((((((((((M.other (a:=⟨w.heap.size+1+1,0,Xb⟩) Sm (U8 a8)).other (a:=⟨w.heap.size+1+1,1,Xb⟩) Sm (U8 a9)).other (a:=⟨w.heap.size+1+1,2,Xb⟩) Sm (U8 Q)).other (a:=⟨w.heap.size+1+1,3,Xb⟩) Sm (U8 R)).other (a:=⟨w.heap.size+1+1,4,Xb⟩) Sm (U8 aa)).other (a:=⟨w.heap.size+1+1,5,Xb⟩) Sm (U8 ac)).other (a:=⟨w.heap.size+1+1,6,Xb⟩) Sm (U8 ad)).other (a:=⟨w.heap.size+1+1,7,Xb⟩) Sm (U8 ae)).set 0 (I6 0)).put (.deferred Xb) D rfl);obtain⟨bx,bz,c9,ca,cc,cd,ce,cf⟩:=av.c8;have cg:=aw.c 0 rfl;refine⟨Xm #[Xi #[U8 a8,U8 a9,U8 Q,U8 R,U8 aa,U8 ac,U8 ad,U8 ae],I6 0],by simp[results,Tryz.f106,go_sem,bx,bz,c9,ca,cc,cd,ce,cf,cg],?_,?_⟩;·rw[K.out];rfl
   refine Below.trans ?_ (belowK_b (w:=q) (n₀:=w.heap.size) (bS g) _ an _ _ bp D rfl rfl);iterate 9 (refine zB ?_ (by simp;omega) _)
   exact a0.out
  rintro an bb k W bp ap⟨⟨rfl,v,b,af,bl,bm,Q,R⟩,f⟩C
  gi_wp2
  have av:=Q.put (.deferred Xb) C rfl;have aw:=R.put (.deferred Xb) C rfl;obtain⟨bx,bz,c9,ca,cc,cd,ce,cf⟩:=av.c8;have cg:=aw.c 0 rfl;refine⟨Sm,.inl ⟨_,_,rfl,run_takeDeferred C,?_⟩⟩;refine⟨Xm #[Xi #[U8 b.b0,U8 b.b1,U8 b.b2,U8 b.b3,U8 b.b4,U8 b.b5,U8 b.b6,U8 b.b7],I6 0],by simp[results,Tryz.f106,go_sem,bx,bz,c9,ca,cc,cd,ce,cf,cg],?_,?_⟩;·subst af;rw[K.out,znJ ap bl bm];rfl
  exact Below.trans f (belowK_b (w:=q) (n₀:=w.heap.size) (bS g) W an _ _ bp C rfl rfl)
 have dj:(am !=0)=Xc:=Si E;rw[kF E]at K;rw[K.out];refine(callsIn_wide (n:=5)).1 ?_;refine callsIn_of_wp_marks func106 rfl trivial ?_ rfl;simp only[ntmps106,Yj,Xw,Xz,Nat.reduceAdd,Nat.reduceSub,Yt,Yu,Of,Yy,Ya,Ye]
 gi_wp2_with (
  refine⟨trivial,?_⟩;gi_at_call 136;rw[a3.out];refine(callsIn_wide.2 i).mono ?_;rintro e B⟨rfl,j⟩;have ck:=dD (a6.aA j);have cl:=dD (V.aA j);obtain⟨bc,bd,be,bf,bg,bh,bi,bj⟩:=ck.c8;have bn:=ck.f;have bk:=cl.c 0 rfl;have bo:=cl.f 0)
 refine⟨Xm #[Xi #[U8 0,U8 0,U8 0,U8 0,U8 0,U8 0,U8 0,U8 0],I6 am],by simp[results,Tryz.f106,go_sem, *],rfl,?_⟩;have r:=H.trans j;iterate 9 (refine zB ?_ (by simp;omega) _)
 exact r
end
end
section
open Go.RowKit
theorem zu.block{n cap:Nat}(h:zu k w (O (Xa ⟨p,0,Xb⟩) n cap) g):
  n=g.length/\k<=p/\g.length<=cap/\cap<=maxLen/\∃cur,w.heap[p]?=Xa (Xk cur 88 (0,0))/\cur.size=cap*9/\cur.toList.take (g.length*9)=g.flatMap ptc:=by
 rcases h.1.2 with⟨b,_⟩|⟨g,g,cur,b,g,g,g,g,g,g⟩;·cases b
 grind
theorem zu.mk(hb:k<=b)(d:w.heap[b]?=Xa (Xk U 88 (0,0)))(f:g.length<=p)(e:p<=maxLen)(h:U.size=p*9)(ht:U.toList.take (g.length*9)=g.flatMap ptc)
  (c:∀q∈g,q.2.length=8)(a:g.length*16<=140737488355328):zu k w (O (Xa ⟨b,0,Xb⟩) g.length p) g:=
 ⟨⟨jP g fun q g=>by rw[zcD,c q g],.inr ⟨b,p,U,rfl,hb,d,f,e,h,ht⟩⟩,c,a⟩
theorem zbu(c:o.guard=Xb)(s x)(D:o.op=.call {callee:=.builtin .append,args:=#[s,x],argTypes:=#[32,32]})
  (base g cap n:Nat)(j:Int×List Int)(r:List (Int×List Int))(b:zu base w (O (Xa ⟨g,0,Xb⟩) n cap) (j::r))(E:a.eval s=O (Xa ⟨g,0,Xb⟩) 0 cap)(m:Nat)(F:a.eval x=O (Xa ⟨g,9,Xb⟩) r.length m)
  (y:∀w',zu base w' (O (Xa ⟨g,0,Xb⟩) r.length cap) r->w.grownBy w' (Xa g)->w'.heap.size=w.heap.size->wpList prog ops Q K (a.put o.dst (O (Xa ⟨g,0,Xb⟩) r.length cap)) w'):wpList prog ops Q (o::K) a w:=by
 refine wpList_plain c fun rest z=>?_;obtain⟨c,A,c,C,e,i,d,v⟩:=b.block;obtain⟨G,B,d,l,d⟩:=info_parts zsH;have h:=b.2.1;have f:(r.flatMap ptc).length=r.length*9:=jP r fun q k=>by rw[zcD,h q (by simp[k])]
 have d:(ptc j).length=9:=by rw[zcD,h j Sm]
 simp only[Xw]at c v;have c:∀j u,(r.flatMap ptc)[j]?=Xa u->w.cell? ((⟨g,9,Xb⟩:Addr).add j)=Xa u:=fun j u t=>by
  have p:j<r.length*9:=by rw[<-f];exact(gS.1 t).1
  rw[Yc];have p:(e.toList.take ((r.length+1)*9))[9+j]?=Xa u:=by
   rw[v,List.flatMap_cons,aR Wm,d];simpa using t
  rw[List.getElem?_take_of_lt Wm]at p;simp only[World.cell?,i];simpa using p
 have d:=run_append_room (P:=prog) w 32 o.type 88 G underlying32 B g 0 cap e i ⟨g,9,Xb⟩ r.length m (r.flatMap ptc) (Rx l f) c (qW zd7 r) Wm (by rw[f];simp;omega);simp only[Nat.zero_mul,List.take_zero,Ya,zA]at d;unfold Oper.wp execOp;simp only[D,resolve,invoke,builtin,Xu,Xt,rA,Ym,mP,Yp,E,F,d];refine z _ _ (y _ (zu.mk A (setRow_heap w g e _ 88 _ i) Wm C ?_ ?_ (fun q k=>h q (by simp[k])) (by have:=b.2.2;simp at this;omega)) (ZQ _ _ _) (by simp[World.setRow]));·simp[f];omega
 rw[<-f];simp
theorem zf8(n:Nat):∀u∈(Builtin.zeroCells #[I6 0,U8 0,U8 0,U8 0,U8 0,U8 0,U8 0,U8 0,U8 0] n).toList,u.oneCell'=Xc:=fun u a=>by
 simp only[Builtin.zeroCells,Array.toList_map,Yo,Array.toList_range,List.mem_range]at a;obtain⟨i,_,rfl⟩:=a;have a:i%9<9:=Oc _ Dc;show(#[I6 0,U8 0,U8 0,U8 0,U8 0,U8 0,U8 0,U8 0,U8 0]:Array Xq)[i%9]!.oneCell'=Xc;generalize i%9=k at a
 match k,a with
 |0,_=>rfl
 |1,_=>rfl
 |2,_=>rfl
 |3,_=>rfl
 |4,_=>rfl
 |5,_=>rfl
 |6,_=>rfl
 |7,_=>rfl
 |8,_=>rfl
theorem zdc(c:o.guard=Xb)(x)(t:o.op=.call {callee:=.builtin .clear,args:=#[x],argTypes:=#[32]})
  (base g cap n:Nat)(e:List (Int×List Int))(b:zu base w (O (Xa ⟨g,0,Xb⟩) n cap) e)(ad:Addr)(k l:Nat)(u:a.eval x=O (Xa ad) k l)(d:e.length+k<=cap)(f:0<k->ad=⟨g,e.length*9,Xb⟩)
  (q:∀w',zu base w' (O (Xa ⟨g,0,Xb⟩) n cap) e->w.grownBy w' (Xa g)->w'.heap.size=w.heap.size->wpList prog ops Q K (a.put o.dst (Xm #[])) w'):wpList prog ops Q (o::K) a w:=by
 refine wpList_plain c fun rest r=>?_;cases k with
 |zero=>
  have d:(Builtin.clear_ #[32] o.type #[O (Xa ad) 0 l]).run prog w=.ok (Xm #[]) w:=by
   simp[Builtin.clear_,run_underlying underlying32]
  unfold Oper.wp execOp;simp only[t,resolve,invoke,builtin,Xu,Xt,rA,Ym,mP,Yp,u,d];exact r _ _ (q w b (World.grownBy.rfl' _ _) rfl)
 |succ k=>
  have c:=f Wm;subst c;obtain⟨z,v,p,y,c,s,i,A⟩:=b.block;obtain⟨Z,m⟩:=kB ((Builtin.zeroCells #[I6 0,U8 0,U8 0,U8 0,U8 0,U8 0,U8 0,U8 0,U8 0] (k+1)).toList);have j:Z.length=(k+1)*9:=by
   rw[<-m,Array.length_toList,size_zeroCells];rfl
  have f:∀h∈Z,h.oneCell'=Xc:=by rw[<-m];exact zf8 _
  have h:=run_storeCells_at prog g (e.length*9) 88 Z 0 c w s (by rw[j,i];omega) f;simp only[Nat.add_zero]at h;have d:(Builtin.clear_ #[32] o.type #[O (Xa ⟨g,e.length*9,Xb⟩) (k+1) l]).run prog w=.ok (Xm #[]) (w.setRow g (c.toList.take (e.length*9)++Z++c.toList.drop (e.length*9+Z.length)).toArray):=by
   simp only[Builtin.clear_];simp[run_underlying underlying32,Tryz.zeroValue88,Value.cells,m,h]
  unfold Oper.wp execOp;simp only[t,resolve,invoke,builtin,Xu,Xt,rA,Ym,mP,Yp,u,d];subst z;have d:c.toList.length=cap*9:=Si i;refine r _ _ (q _ (zu.mk v (setRow_heap w g c _ 88 _ s) p y ?_ ?_ b.2.1 b.2.2) (ZQ _ _ _) (by simp[World.setRow]));·simp only[Yj,lA,Xx,Yn,j,d];omega
  rw[Od,List.take_left' (by rw[Xx,d];omega)];exact A
theorem zbG{b c:Xn}(h:zc w b)(g:b.grownBy c (Xa k)):w.grownBy c (Xa k):=
 ⟨g.os.trans h.os,g.tape.trans h.tape,g.output.trans h.output,nT h.size g.size,fun i e d=>(g.block i (Yh e h.size) d).trans (h.block i e)⟩
theorem zim(base g cap:Nat)(j:Int×List Int)(r:List (Int×List Int))(w:Xn)(b:zu base w (O (Xa ⟨g,0,Xb⟩) (r.length+1) cap) (j::r))(l:1<=r.length)(f:r.length<=400):
  Xp prog 201 #[O (Xa ⟨g,0,Xb⟩) (r.length+1) cap,I6 0,I6 1] w fun e w'=>e=Xl (O (Xa ⟨g,0,Xb⟩) r.length cap)/\zu base w' (O (Xa ⟨g,0,Xb⟩) r.length cap) r/\w.grownBy w' (Xa g):=by
 obtain⟨_,_,a,c,_⟩:=b.block;have i:=dD b;simp only[Xw]at a;obtain⟨k,d⟩:=kA r.length;have h:cap<=9223372036854775807:=by simpa[maxLen]using c
 rw[d.out]at a l f i⊢;clear b c;have b:¬cap=1:=Wm;have b:((k+1:Nat):Int)=(k:Int)+1:=Wm;have b:(k:Int)+1<=(cap:Int):=Wm;have b:(1:Int)<=(k:Int):=Wm;go_enter func201,ntmps201;go_wp2;have f:Nonempty (zj w):=⟨⟨_,zc.refl _⟩⟩;refine jO 6 [] zY Kr rfl rfl Dc Sm Sm ?_;simp only[Yw,Yx];iterate 6 refine zf ?_
 refine z5 fun w' c _=>?_;have b:=dD (i.aA c);have l:=dD c;clear c f
 go_wp2_with(first
  |(refine zbu rfl (.tmp 22) (.tmp 25) rfl base g cap (k+1) j r b rfl (cap-1) (Rr d.out) ?_;intro h c b f;have j:Xo (zu base h (O (Xa ⟨g,0,Xb⟩) r.length cap) r):=c;have i:Xo (w'.grownBy h (Xa g)):=b;clear c b f;rw[d.out])
  |(refine zdc rfl (.tmp 31) rfl base g cap _ r j _ 1 _ rfl (Rx d.out a) (fun _=>by rw[d.out]) ?_;intro f b a c;have k:Xo (zu base f (O (Xa ⟨g,0,Xb⟩) r.length cap) r):=b;have j:Xo (h.grownBy f (Xa g)):=a;clear b a c))
 go_ret;exact⟨rfl,Ry d.out k,zbG l (Za i j)⟩
theorem zl.beside{c:Xq}(h:zl k w A r)(base:zu base' w c g)(i:w.grownBy w' c.ownBlock):zl k w' A r:=by
 refine⟨⟨h.1.1,?_⟩,h.2⟩;rcases h.1.2 with g|⟨d,A,r,rfl,e,c,f⟩;·exact .inl g
 refine .inr ⟨d,A,r,rfl,e,?_,f⟩;rw[i.block d (aS.1 c).1 (fun e=>?_)];·exact c
 rcases base.1.2 with⟨rfl,_⟩|⟨A,A,A,rfl,_,A,_⟩;·cases e
 simp only[Value.ownBlock,Option.some.injEq]at e;grind
theorem zu.beside{c:Xq}(base:zu base' w c g)(h:zl k w A r)(i:w.grownBy w' A.ownBlock):zu base' w' c g:=by
 refine⟨⟨base.1.1,?_⟩,base.2⟩;rcases base.1.2 with r|⟨d,A,g,rfl,e,c,f⟩;·exact .inl r
 refine .inr ⟨d,A,g,rfl,e,?_,f⟩;rw[i.block d (aS.1 c).1 (fun e=>?_)];·exact c
 rcases h.1.2 with⟨rfl,_⟩|⟨A,A,A,rfl,_,A,_⟩;·cases e
 simp only[Value.ownBlock,Option.some.injEq]at e;grind
theorem zu.lt(h:zu k w A g):∀v,A.ownBlock=Xa v->k<=v/\v<w.heap.size:=h.1.lt
theorem zl.lt(h:zl k w A r):∀g,A.ownBlock=Xa g->k<=g/\g<w.heap.size:=h.1.lt
theorem zu.ne{a:List (Int×List Int)}(h:zu k w A a)(hb:zm w b 34 D):∀g,A.ownBlock=Xa g->b≠g:=fun g a e=>by
 subst e;rcases h.1.2 with⟨rfl,_⟩|⟨c,c,c,rfl,_,c,_⟩;·cases a
 simp only[Value.ownBlock,Option.some.injEq]at a;subst a;rw[hb]at c;cases c
theorem zl.ne{a:List (List Int)}(h:zl k w A a)(hb:zm w b 34 D):∀g,A.ownBlock=Xa g->b≠g:=fun g a e=>by
 subst e;rcases h.1.2 with⟨rfl,_⟩|⟨c,c,c,rfl,_,c,_⟩;·cases a
 simp only[Value.ownBlock,Option.some.injEq]at a;subst a;rw[hb]at c;cases c
theorem zl.aQ(h:zl k w A r){a:Addr}(c:∀g,A.ownBlock=Xa g->a.block≠g)(u):zl k (w.setCell a u) A r:=⟨Qy h.1 c u,h.2⟩
theorem zu.aQ(h:zu k w A g){a:Addr}(c:∀v,A.ownBlock=Xa v->a.block≠v)(u):zu k (w.setCell a u) A g:=⟨Qy h.1 c u,h.2⟩
theorem zl.form(h:zl k w A r):∃a c,A=O a r.length c:=by obtain⟨a,c,r,_⟩:=h.at.rows;grind
theorem zu.form(h:zu k w A g):∃a c,A=O a g.length c:=by obtain⟨a,c,g,_⟩:=h.at.rows;grind
theorem zu.snoc{q:Int×List Int}(h:w.ownsRow k 88 9 A (g.length+1) (g.flatMap ptc++ptc q))(b:∀x∈g,x.2.length=8)(c:q.2.length=8)(hb:(g.length+1)*16<=140737488355328):zu k w A (g++[q]):=by refine⟨Si h,fun x g=>?_,Si hb⟩;grind
theorem znN{f:Xq}(hp:zl k w A r)(i:zu k w f g)(h:zm w b 34 D)(e:p<k)(hb:base'<=k):
  jA base' (((w.setCell ⟨b,1,Xb⟩ f).setCell ⟨p,0,Xb⟩ A).setCell ⟨p,1,Xb⟩ f) (Xi #[A,f]) r g:=by have r:=((hp.aQ (a:=⟨b,1,Xb⟩) (hp.ne h) f).setCell (a:=⟨p,0,Xb⟩) e A).setCell (a:=⟨p,1,Xb⟩) e f;have g:=((i.aQ (a:=⟨b,1,Xb⟩) (i.ne h) f).setCell (a:=⟨p,0,Xb⟩) e A).setCell (a:=⟨p,1,Xb⟩) e f;exact jA.base (zbK.new ⟨_,_,rfl,r,g⟩) hb
theorem zu.head{cap:Nat}{r c d e f h i n:Int}(l:zu k w (O (Xa ⟨b,0,Xb⟩) p cap) ((z,[r,c,d,e,f,h,i,n])::g)):
  w.cell? ⟨b,0,Xb⟩=Xa (I6 z)/\w.cell? ⟨b,1,Xb⟩=Xa (U8 r)/\w.cell? ⟨b,2,Xb⟩=Xa (U8 c)/\w.cell? ⟨b,3,Xb⟩=Xa (U8 d)/\w.cell? ⟨b,4,Xb⟩=Xa (U8 e)/\w.cell? ⟨b,5,Xb⟩=Xa (U8 f)/\w.cell? ⟨b,6,Xb⟩=Xa (U8 h)/\w.cell? ⟨b,7,Xb⟩=Xa (U8 i)/\w.cell? ⟨b,8,Xb⟩=Xa (U8 n):=by
 have a:∀(j:Nat)u,(((z,[r,c,d,e,f,h,i,n])::g).flatMap ptc)[j]?=Xa u->w.cell? ⟨b,j,Xb⟩=Xa u:=fun j u r=>by
  have:=l.1.cells rfl j u r;rwa[Yc,zA]at this
 exact⟨a 0 _ rfl,a 1 _ rfl,a 2 _ rfl,a 3 _ rfl,a 4 _ rfl,a 5 _ rfl,a 6 _ rfl,a 7 _ rfl,a 8 _ rfl⟩
def Zc(ps:List (List Int))(qs:List (Int×List Int)):List (List Int):=if qs.length=400 then ps.set (qs.headD (0,[])).1.toNat (qs.headD (0,[])).2 else ps
def Zi(qs:List (Int×List Int))(m:Int)(p:List Int):List (Int×List Int):=(if qs.length=400 then qs.tail else qs)++[(m,p)]
def jT(ps:List (List Int))(qs:List (Int×List Int))(m:Int):List (List Int):=if zp ps.length qs m=0 then Zc ps qs else[]
def jZ(ps:List (List Int))(qs:List (Int×List Int))(m:Int)(p:List Int):List (Int×List Int):=if zp ps.length qs m=0 then Zi qs m p else[]
theorem zmv(d)(b:List (List Int))(a:List (Int×List Int))(m:Int)(p:List Int)(hp:p.length=8)(w:Xn)(hd:zai w d b a)(B:¬zp b.length a m=0):
  Xp prog 194 #[d,I6 m,Xi (pgc p).toArray] w fun e w'=>∃z,e=Xl (Xm #[z,I6 (zp b.length a m)])/\jA w.heap.size w' z (jT b a m) (jZ b a m p)/\zc w w':=by
 obtain⟨f,q,r,s,t,u,x,y,rfl⟩:=zc2 p hp;have C:=dD hd;obtain⟨c,c,rfl,g,c⟩:=hd;have D:=dD c;obtain⟨j,l,rfl,_⟩:=g.rows;obtain⟨k,n,rfl,_⟩:=c.rows;clear g c hp;show Xp prog 194 #[Xi #[O j b.length l,O k a.length n],I6 m,Xi #[U8 f,U8 q,U8 r,U8 s,U8 t,U8 u,U8 x,U8 y]] w _;have A:Xo (jT b a m=if zp b.length a m=0 then Zc b a else[]):=rfl;have h:Xo (jZ b a m [f,q,r,s,t,u,x,y]=if zp b.length a m=0 then Zi a m [f,q,r,s,t,u,x,y]else[]):=rfl;obtain⟨i,c⟩:=kB (((w.alloc (Xk #[O j b.length l,O k a.length n] 34)).alloc (Xk #[U8 f,U8 q,U8 r,U8 s,U8 t,U8 u,U8 x,U8 y] 44)).alloc (Xk #[eS,eS] 34));have g:Xo (zc w i):=show zc w i by rw[<-c];exact((za _ _).trans (za _ _)).trans (za _ _)
 have E:Xo (Box i w.heap.size [O j b.length l,O k a.length n]):=dD<|by rw[<-c];exact((Box.aE w [O j b.length l,O k a.length n] _ rfl).alloc _).alloc _
 have F:Xo (Box i (w.heap.size+1) [U8 f,U8 q,U8 r,U8 s,U8 t,U8 u,U8 x,U8 y]):=dD<|by rw[<-c];exact(Box.aE _ [U8 f,U8 q,U8 r,U8 s,U8 t,U8 u,U8 x,U8 y] _ Sm).alloc _
 have s:Xo (Box i (w.heap.size+1+1) [eS,eS]):=dD<|by rw[<-c];exact Box.aE _ [eS,eS] _ Sm
 have f:=JV j b.length l (O k a.length n) a m i (D.aA g);have q:∀W,zc i W->Xp prog 48 #[Xi #[O j b.length l,O k a.length n]] W fun e w'=>∃z,e=Xl z/\zbK W.heap.size w' z b a/\zc W w':=fun W i=>zec _ b a W (C.aA (g.trans i));obtain⟨r,j⟩:=kA (zp b.length a m);rw[j.out]at f A h⊢;obtain⟨i,i⟩:=kA b.length;obtain⟨nq,b⟩:=kA a.length;rw[i.out,b.out]at f c E⊢;simp only[i.out,b.out]at q;have a:=dD c;clear c;have b:¬r=0:=fun e=>B (j.trans e);have c:(r !=0)=Xc:=Si b;rw[kF b]at A h;rw[A.out,h.out];go_enter func194,ntmps194
 go_wp2_with(
  go_at_call 136;rw[a.out];refine f.mono ?_;rintro e a⟨rfl,a⟩
  have b:=s.aA a;obtain⟨c,c⟩:=b.k2;have c:=b.f)
 refine bodyPost_ret (v:=Xm #[Xi #[eS,eS],I6 r]) (by simp[results,Tryz.results194,go_sem, *]) rfl ⟨_,rfl,zqD _ _,?_⟩;have b:=g.trans a;iterate 2 (refine zB ?_ (by simp;omega) _)
 exact b
theorem zmu(d)(b:List (List Int))(a:List (Int×List Int))(m:Int)(p:List Int)(hp:p.length=8)(w:Xn)(hd:zai w d b a)(H:zp b.length a m=0)(Q:¬a.length=400):
  Xp prog 194 #[d,I6 m,Xi (pgc p).toArray] w fun e w'=>∃D,e=Xl (Xm #[D,I6 (zp b.length a m)])/\jA w.heap.size w' D (jT b a m) (jZ b a m p)/\zc w w':=by
 obtain⟨g,h,i,j,k,l,n,q,rfl⟩:=zc2 p hp;have C:=dD hd;obtain⟨c,c,rfl,r,f⟩:=hd;have x:=dD f;obtain⟨c,z,rfl,_⟩:=r.rows;obtain⟨y,A,rfl,_⟩:=f.rows;clear r f hp;show Xp prog 194 #[Xi #[O c b.length z,O y a.length A],I6 m,Xi #[U8 g,U8 h,U8 i,U8 j,U8 k,U8 l,U8 n,U8 q]] w _;have B:Xo (jT b a m=if zp b.length a m=0 then Zc b a else[]):=rfl;have t:Xo (jZ b a m [g,h,i,j,k,l,n,q]=if zp b.length a m=0 then Zi a m [g,h,i,j,k,l,n,q]else[]):=rfl;obtain⟨u,f⟩:=kB (((w.alloc (Xk #[O c b.length z,O y a.length A] 34)).alloc (Xk #[U8 g,U8 h,U8 i,U8 j,U8 k,U8 l,U8 n,U8 q] 44)).alloc (Xk #[eS,eS] 34));have r:Xo (zc w u):=show zc w u by rw[<-f];exact((za _ _).trans (za _ _)).trans (za _ _)
 have E:Xo (Box u w.heap.size [O c b.length z,O y a.length A]):=dD<|by rw[<-f];exact((Box.aE w [O c b.length z,O y a.length A] _ rfl).alloc _).alloc _
 have T:Xo (Box u (w.heap.size+1) [U8 g,U8 h,U8 i,U8 j,U8 k,U8 l,U8 n,U8 q]):=dD<|by rw[<-f];exact(Box.aE _ [U8 g,U8 h,U8 i,U8 j,U8 k,U8 l,U8 n,U8 q] _ Sm).alloc _
 have G:Xo (Box u (w.heap.size+1+1) [eS,eS]):=dD<|by rw[<-f];exact Box.aE _ [eS,eS] _ Sm
 have s:=JV c b.length z (O y a.length A) a m u (x.aA r);have x:∀W,zc u W->Xp prog 48 #[Xi #[O c b.length z,O y a.length A]] W fun e w'=>∃D,e=Xl D/\zbK W.heap.size w' D b a/\zc W w':=fun W c=>zec _ b a W (C.aA (r.trans c));obtain⟨c,y⟩:=kA (zp b.length a m);rw[y.out]at s B t⊢;obtain⟨F,A⟩:=kA b.length;obtain⟨nq,c⟩:=kA a.length;rw[A.out,c.out]at s f E⊢;simp only[A.out,c.out]at x;have C:=dD f;clear f;have f:=y.symm.trans H;subst f;rw[kE rfl]at B t;obtain⟨z,f,K,H⟩:=qX y.out;obtain⟨y,f,L⟩:=QR z;obtain⟨X,W,M,N,P⟩:=info_parts zsH;rw[B.out,t.out];clear K H;have t:¬nq=400:=fun e=>Q (c.trans e);have B:((nq:Int)==400)=Xd:=by simp;omega
 have H:Xo (Zc b a=b):=dD<|by unfold Zc;rw[kF (Rx c.out t)]
 have K:Xo (Zi a m [g,h,i,j,k,l,n,q]=a++[(m,[g,h,i,j,k,l,n,q])]):=dD<|by unfold Zi;rw[kF (Rx c.out t)]
 have t:=dD f;clear f L y z;go_enter func194,ntmps194
 go_wp2_with(first
  |(
   go_at_call 136;rw[C.out];refine s.mono ?_;rintro e C⟨rfl,B⟩
   have y:Xo (zc u C):=B;have U:=(E.aA B).c 0 rfl;have V:=(E.aA B).c 1 rfl)
  |(
   go_at_call 48;refine(x C y).mono ?_;rintro e z⟨D,rfl,f,E⟩
   obtain⟨s,s,rfl,Q,R⟩:=f;obtain⟨f,s,rfl⟩:=Q.form;obtain⟨u,x,rfl⟩:=R.form;have S:Xo (zl C.heap.size z (O f b.length s) b):=Q;have L:Xo (zu C.heap.size z (O u a.length x) a):=R;have D:Xo (zc C z):=E;rw[A.out]at S;rw[c.out]at L;rw[A.out,c.out];clear Q R B E U V;have b:=(T.aA y).aA D.out;have B:w.heap.size+1<z.heap.size:=b.lt;obtain⟨u0,u1,u2,u3,u4,u5,u6,u7⟩:=b.c8)
  |(
   at_builtin
   have A:=L.aA ((za z (Xk #[O f F s,O u nq x] 34)).trans (za _ (Xk #[I6 m,U8 g,U8 h,U8 i,U8 j,U8 k,U8 l,U8 n,U8 q] 88)));have Q:=S.aA ((za z (Xk #[O f F s,O u nq x] 34)).trans (za _ (Xk #[I6 m,U8 g,U8 h,U8 i,U8 j,U8 k,U8 l,U8 n,U8 q] 88)));have E:=(zm.aE z [O f F s,O u nq x] 34 rfl).aA (za _ (Xk #[I6 m,U8 g,U8 h,U8 i,U8 j,U8 k,U8 l,U8 n,U8 q] 88));have R:=((((G.aA y).aA D).aA (za z (Xk #[O f F s,O u nq x] 34))).aA (za _ (Xk #[I6 m,U8 g,U8 h,U8 i,U8 j,U8 k,U8 l,U8 n,U8 q] 88)));refine wpList_append_own _ rfl (.tmp 40) (.tmp 44) 32 rfl C.heap.size 88 X _ 9 16 underlying32 W M N P rfl Dc _ _ _ rfl A.1 ⟨z.heap.size+1,0,Xb⟩ 1 1 (ptc (m,[g,h,i,j,k,l,n,q])) rfl rfl (jY.aE _ (ptc (m,[g,h,i,j,k,l,n,q])) _ Sm) (zd7 _) (q5 (Hm t.out)) (Hm t.out) (by have:=bS D.out;simp;omega) ?_;intro N x u b _;have M:Xo (zu C.heap.size x N (a++[(m,[g,h,i,j,k,l,n,q])])):=zu.snoc u L.2.1 rfl (Hm t.out);have n:=dD<|Q.beside A b;have g:=dD<|E.beside b (A.ne E);have h:Xo (Box x (w.heap.size+1+1) [eS,eS]):=R.beside b (fun a i=>by have j:=(A.lt a i).1;have k:=(G.aA y).lt;omega);have l:Xo (zc w x):=z2 (((r.trans y).trans D).trans ((za _ _).trans (za _ _))) b (fun a i=>by have j:=(A.lt a i).1;have k:=bS (r.trans y);omega);obtain⟨i,q,a⟩:=M.form;rw[lA,c.out,Yr]at a;subst a;obtain⟨a,a⟩:=g.box.k2;have a:=g.box.f;obtain⟨a,a⟩:=h.k2;have a:=h.f;have a:w.heap.size+1+1≠z.heap.size:=by have:=((G.aA y).aA D).lt;omega
   clear u b u0 u1 u2 u3 u4 u5 u6 u7 B))
 refine bodyPost_ret (v:=Xm #[Xi #[O f F s,O i (nq+1) q],I6 0]) (by simp[results,Tryz.results194,go_sem, *]) rfl ⟨_,rfl,?_,?_⟩;·rw[H.out,K.out];exact znN n M g (G.aA y).lt (bS (r.trans y))
 have j:=bS (r.trans y);have k:=bS D.out;iterate 3 (refine zB ?_ (by simp;omega) _)
 exact l.out
theorem zk2(d)(g:List (List Int))(f:List (Int×List Int))(m:Int)(p:List Int)(hp:p.length=8)(w:Xn)(hd:zai w d g f)(bw:zp g.length f m=0)(d9:f.length=400):
  Xp prog 194 #[d,I6 m,Xi (pgc p).toArray] w fun e w'=>∃ak,e=Xl (Xm #[ak,I6 (zp g.length f m)])/\jA w.heap.size w' ak (jT g f m) (jZ g f m p)/\zc w w':=by
 obtain⟨s,t,u,x,y,z,A,B,rfl⟩:=zc2 p hp;have cu:=dD hd;obtain⟨ds,dv,rfl,cj,bt⟩:=hd;have cf:=dD bt;obtain⟨ag,ai,rfl,_⟩:=cj.rows;obtain⟨ah,aj,rfl,_⟩:=bt.rows;clear cj bt hp;show Xp prog 194 #[Xi #[O ag g.length ai,O ah f.length aj],I6 m,Xi #[U8 s,U8 t,U8 u,U8 x,U8 y,U8 z,U8 A,U8 B]] w _;have bc:Xo (jT g f m=if zp g.length f m=0 then Zc g f else[]):=rfl;have a8:Xo (jZ g f m [s,t,u,x,y,z,A,B]=if zp g.length f m=0 then Zi f m [s,t,u,x,y,z,A,B]else[]):=rfl;obtain⟨Z,q⟩:=kB (((w.alloc (Xk #[O ag g.length ai,O ah f.length aj] 34)).alloc (Xk #[U8 s,U8 t,U8 u,U8 x,U8 y,U8 z,U8 A,U8 B] 44)).alloc (Xk #[eS,eS] 34));have k:Xo (zc w Z):=show zc w Z by rw[<-q];exact((za _ _).trans (za _ _)).trans (za _ _)
 have bj:Xo (Box Z w.heap.size [O ag g.length ai,O ah f.length aj]):=dD<|by rw[<-q];exact((Box.aE w [O ag g.length ai,O ah f.length aj] _ rfl).alloc _).alloc _
 have b7:Xo (Box Z (w.heap.size+1) [U8 s,U8 t,U8 u,U8 x,U8 y,U8 z,U8 A,U8 B]):=dD<|by rw[<-q];exact(Box.aE _ [U8 s,U8 t,U8 u,U8 x,U8 y,U8 z,U8 A,U8 B] _ Sm).alloc _
 have a9:Xo (Box Z (w.heap.size+1+1) [eS,eS]):=dD<|by rw[<-q];exact Box.aE _ [eS,eS] _ Sm
 have K:=JV ag g.length ai (O ah f.length aj) f m Z (cf.aA k);have a7:∀af,zc Z af->Xp prog 48 #[Xi #[O ag g.length ai,O ah f.length aj]] af fun e w'=>∃ak,e=Xl ak/\zbK af.heap.size w' ak g f/\zc af w':=fun af da=>zec _ g f af (cu.aA (k.trans da));obtain⟨G,be⟩:=kA (zp g.length f m);rw[be.out]at K bc a8⊢;obtain⟨X,C⟩:=kA g.length;obtain⟨nq,n⟩:=kA f.length;rw[C.out,n.out]at K q bj⊢;simp only[C.out,n.out]at a7;have bf:Xo (_=Z):=q;clear q;have dc:=be.symm.trans bw;subst dc;rw[kE rfl]at bc a8;obtain⟨ax,du,bs,br⟩:=qX be.out;obtain⟨au,ae,ar⟩:=QR ax;obtain⟨dd,db,bx,bz,c8⟩:=info_parts zsH;rw[bc.out,a8.out];clear bs br;have an:=n.symm.trans d9;subst an;obtain⟨b1,G,rfl⟩:∃b1 G,f=b1::G:=by
  cases f with
  |nil=>exact absurd (show _ from n.out) Sm
  |cons b1 G=>exact⟨b1,G,rfl⟩
 have a3:Xo (G.length=399):=dD<|by have:=n.out;simpa using this
 obtain⟨dp,cm⟩:=b1;obtain⟨N,P,Q,R,S,T,U,V,rfl⟩:=zc2 cm (cf.2.1 (dp,cm) Sm);obtain⟨F,a6,a5⟩:=ar _ (List.mem_cons_self);simp only at a6;subst a6;have ap:F<X:=Ry C.out a5;have ck:(F:Int)<(X:Int):=Wm;have bb:Xo (Zc g (((F:Int),[N,P,Q,R,S,T,U,V])::G)=g.set F [N,P,Q,R,S,T,U,V]):=dD<|by unfold Zc;rw[kE n.out];rfl
 have bd:Xo (Zi (((F:Int),[N,P,Q,R,S,T,U,V])::G) m [s,t,u,x,y,z,A,B]=G++[(m,[s,t,u,x,y,z,A,B])]):=dD<|by unfold Zi;rw[kE n.out];rfl
 clear ae ar au ax a5;go_enter func194,ntmps194
 go_wp2_with(first
  |(
   go_at_call 136;rw[bf.out];refine K.mono ?_;rintro e I⟨rfl,a1⟩
   have j:Xo (zc Z I):=a1;have d7:=(bj.aA a1).c 0 rfl;have d8:=(bj.aA a1).c 1 rfl)
  |(
   go_at_call 48;refine(a7 I j).mono ?_;rintro e i⟨ak,rfl,bo,ao⟩;obtain⟨d5,dq,rfl,cc,ay⟩:=bo;obtain⟨H,c,bn⟩:∃H c,d5=O (Xa ⟨H,0,Xb⟩) X c:=by
    rcases cc.1.2 with⟨_,al⟩|⟨bl,aa,bk,al,_⟩;·have:=C.out;omega
    exact⟨bl,aa,by rw[al,C.out]⟩
   subst bn;obtain⟨l,b,bu⟩:∃l b,dq=O (Xa ⟨l,0,Xb⟩) 400 b:=by
    rcases ay.1.2 with⟨_,al⟩|⟨bl,aa,bk,al,_⟩;·simp at al
    exact⟨bl,aa,by rw[al,n.out]⟩
   subst bu;have ch:Xo (zl I.heap.size i (O (Xa ⟨H,0,Xb⟩) X c) g):=cc;have cx:Xo (zu I.heap.size i (O (Xa ⟨l,0,Xb⟩) 400 b) (((F:Int),[N,P,Q,R,S,T,U,V])::G)):=ay;have Y:Xo (zc I i):=ao;obtain⟨de,df,dg,dh,di,dj,dk,dl,dm⟩:=ay.head;have dn:l<i.heap.size:=(ay.lt l rfl).2;clear cc ay a1 ao d7 d8)
  |(
   refine Qc rfl (.tmp 34) (.tmp 33) rfl I.heap.size _ g (ch.aA ((za i (Xk #[O (Xa ⟨H,0,Xb⟩) X c,O (Xa ⟨l,0,Xb⟩) 400 b] 34)).trans (za _ (Xk #[I6 (F:Int),U8 N,U8 P,U8 Q,U8 R,U8 S,U8 T,U8 U,U8 V] 88)))) H F rfl (Rx C.out ap) [N,P,Q,R,S,T,U,V] rfl _ rfl Sm rfl ?_;intro b5 az D _;have cw:=cx.aA ((za i (Xk #[O (Xa ⟨H,0,Xb⟩) X c,O (Xa ⟨l,0,Xb⟩) 400 b] 34)).trans (za _ (Xk #[I6 (F:Int),U8 N,U8 P,U8 Q,U8 R,U8 S,U8 T,U8 U,U8 V] 88)));have bh:=ch.aA ((za i (Xk #[O (Xa ⟨H,0,Xb⟩) X c,O (Xa ⟨l,0,Xb⟩) 400 b] 34)).trans (za _ (Xk #[I6 (F:Int),U8 N,U8 P,U8 Q,U8 R,U8 S,U8 T,U8 U,U8 V] 88)));have cd:=(zm.aE i [O (Xa ⟨H,0,Xb⟩) X c,O (Xa ⟨l,0,Xb⟩) 400 b] 34 rfl).aA (za _ (Xk #[I6 (F:Int),U8 N,U8 P,U8 Q,U8 R,U8 S,U8 T,U8 U,U8 V] 88));have bp:=bh.lt H rfl;have b4:=dD<|cw.beside bh D;have cy:=dD az;have b2:=dD<|cd.beside D (bh.ne cd);have d1:Xo (Box b5 (w.heap.size+1+1) [eS,eS]):=((((a9.aA j).aA Y).aA (za i _)).aA (za _ _)).beside D (fun a0 r=>by cases r;have W:=(a9.aA j).lt;omega);have co:Xo (Box b5 (w.heap.size+1) [U8 s,U8 t,U8 u,U8 x,U8 y,U8 z,U8 A,U8 B]):=((((b7.aA j).aA Y).aA (za i _)).aA (za _ _)).beside D (fun a0 r=>by cases r;have W:=(b7.aA j).lt;omega);have cp:Xo (zc w b5):=z2 (((k.trans j).trans Y).trans ((za _ _).trans (za _ _))) D (fun a0 r=>by cases r;have W:=bS (k.trans j);omega)
   obtain⟨b8,b9⟩:=b2.box.k2;clear az D de df dg dh di dj dk dl dm dn bp)
  |(
   go_at_call 201
   have L:=zim I.heap.size l b ((F:Int),[N,P,Q,R,S,T,U,V]) G b5 (Rx a3.out b4) (by rw[a3.out];decide) (by rw[a3.out];decide);rw[a3.out]at L;refine L.mono ?_;rintro e a4⟨rfl,b0,E⟩;have bq:=b4.lt l rfl;have bg:=dD b0;have ci:=dD<|cy.beside b4 E;have a2:=dD<|b2.beside E (b4.ne b2);have d2:Xo (Box a4 (w.heap.size+1+1) [eS,eS]):=d1.beside E (fun a0 r=>by cases r;have W:=(a9.aA j).lt;omega);have ba:Xo (Box a4 (w.heap.size+1) [U8 s,U8 t,U8 u,U8 x,U8 y,U8 z,U8 A,U8 B]):=co.beside E (fun a0 r=>by cases r;have W:=(b7.aA j).lt;omega);have cr:Xo (zc w a4):=z2 cp E (fun a0 r=>by cases r;have W:=bS (k.trans j);omega);clear L b0 E b8 b9 bq;obtain⟨b8,b9⟩:=a2.box.k2;have cn:=a2.box.f;have ad:w.heap.size+1≠i.heap.size:=by have:=((b7.aA j).aA Y).lt;omega
   have c9:w.heap.size+1<a4.heap.size:=ba.lt;have ca:i.heap.size<a4.heap.size:=a2.box.lt;obtain⟨u0,u1,u2,u3,u4,u5,u6⟩:=ba.c7;have u7:=ba.c 7 rfl)
  |(
   at_builtin
   have ac:=za (a4.setCell ⟨i.heap.size,1,Xb⟩ (O (Xa ⟨l,0,Xb⟩) 399 b)) (Xk #[I6 m,U8 s,U8 t,U8 u,U8 x,U8 y,U8 z,U8 A,U8 B] 88);have am:=(bg.aQ (a:=⟨i.heap.size,1,Xb⟩) (bg.ne a2) (O (Xa ⟨l,0,Xb⟩) 399 b)).aA ac;have cz:=(ci.aQ (a:=⟨i.heap.size,1,Xb⟩) (ci.ne a2) (O (Xa ⟨l,0,Xb⟩) 399 b)).aA ac;have ce:=(a2.set 1 (O (Xa ⟨l,0,Xb⟩) 399 b)).aA ac;have d3:=(d2.other (a:=⟨i.heap.size,1,Xb⟩) (by have:=((a9.aA j).aA Y).lt;show w.heap.size+1+1≠i.heap.size;omega) (O (Xa ⟨l,0,Xb⟩) 399 b)).aA ac;have cs:=(show zc w (a4.setCell ⟨i.heap.size,1,Xb⟩ (O (Xa ⟨l,0,Xb⟩) 399 b))from zB cr (by have:=bS ((k.trans j).trans Y);exact this) _).trans ac;refine wpList_append_own _ rfl (.tmp 40) (.tmp 44) 32 rfl I.heap.size 88 dd _ 9 16 underlying32 db bx bz c8 rfl Dc _ _ _ rfl am.1 ⟨a4.heap.size,0,Xb⟩ 1 1 (ptc (m,[s,t,u,x,y,z,A,B])) rfl rfl (jY.aE _ (ptc (m,[s,t,u,x,y,z,A,B])) _ Sm) (zd7 _) (q5 (by rw[a3.out];decide)) (by rw[a3.out];decide) (by have bm:=bS Y.out;have W:=bS ac;have dt:=a2.box.lt;simp at W⊢;omega) ?_;intro dr b6 M h _;have cg:Xo (zu I.heap.size b6 dr (G++[(m,[s,t,u,x,y,z,A,B])])):=zu.snoc M bg.2.1 rfl (by rw[a3.out];decide);have d0:=dD<|cz.beside am h;have b3:Xo (zm b6 i.heap.size 34 [O (Xa ⟨H,0,Xb⟩) X c,O (Xa ⟨l,0,Xb⟩) 399 b]):=ce.beside h (am.ne ce);have bi:Xo (Box b6 (w.heap.size+1+1) [eS,eS]):=d3.beside h (fun a0 r=>by have bm:=(am.lt a0 r).1;have W:=(a9.aA j).lt;omega);have ct:Xo (zc w b6):=z2 cs h (fun a0 r=>by have bm:=(am.lt a0 r).1;have W:=bS (k.trans j);omega);obtain⟨d4,d6,aw⟩:=cg.form;rw[lA,a3.out,Yr]at aw;subst aw;clear b8 b9 cn;obtain⟨b8,b9⟩:=b3.box.k2;have cn:=b3.box.f;obtain⟨dw,dx⟩:=bi.k2;have dy:=bi.f;have cl:w.heap.size+1+1≠i.heap.size:=by have:=((a9.aA j).aA Y).lt;omega
   clear ac M h u0 u1 u2 u3 u4 u5 u6 u7 c9 ca ad))
 refine bodyPost_ret (v:=Xm #[Xi #[O (Xa ⟨H,0,Xb⟩) X c,O d4 400 d6],I6 0]) (by simp[results,Tryz.results194,go_sem, *]) rfl ⟨_,rfl,?_,?_⟩;·rw[bb.out,bd.out];exact znN d0 cg b3 (a9.aA j).lt (bS (k.trans j))
 have bm:=bS (k.trans j);have W:=bS Y.out;iterate 3 (refine zB ?_ (by simp;omega) _)
 exact ct.out
theorem zhd(d)(b:List (List Int))(a:List (Int×List Int))(m:Int)(p:List Int)(hp:p.length=8)(w:Xn)(hd:zai w d b a):
  Xp prog 194 #[d,I6 m,Xi (pgc p).toArray] w fun e w'=>∃c,e=Xl (Xm #[c,I6 (zp b.length a m)])/\jA w.heap.size w' c (jT b a m) (jZ b a m p)/\zc w w':=by
 by_cases c:zp b.length a m=0
 ·by_cases f:a.length=400
  ·exact zk2 d b a m p hp w hd c f
  exact zmu d b a m p hp w hd c f
 exact zmv d b a m p hp w hd c
theorem al1:zrJ 3=0:=by decide
theorem al2:zsB 3=[zt,zt,zt]:=by decide
theorem al3:zp [zt,zt,zt].length [] 1=0:=by decide
theorem al4:jT [zt,zt,zt] [] 1=[zt,zt,zt]:=by decide
theorem zmr(c:k<=80)(d:g.length<=400)(b:∀q∈g,∃i:Nat,q.1=(i:Int)/\i<k):zS k g=0:=by grind[zS,Yd.1,ZB]
theorem ziR(h:zS k g=0)(n:z=(b:Int))(hi:b<k):zp k g z=0:=by grind[zp,ZB]
theorem ziS(h:zS k g=0)(m:Int):zp k g m=if ZB m k then 0 else 3:=by unfold zp;rw[kE h]
theorem JA(a:List (List Int))(b:List (Int×List Int)):(Zc a b).length=a.length:=by unfold Zc;split<;>simp
theorem JW(h:zp r.length g z=0):zS (Zc r g).length (Zi g z L)=0:=by
 obtain⟨g,i,r,r⟩:=qX h;obtain⟨r,c,c⟩:=QR g;rw[JA];refine zmr r ?_ fun q g=>?_;·grind[Zi]
 unfold Zi at g;rcases Yg.1 g with g|g
 ·split at g
  ·exact c q (List.mem_of_mem_tail g)
  grind
 grind
def zff:Option (Int×List Int)->List Int->List Int
 |some q,_=>q.2
 |none,d=>d
theorem zdw(h:zp r.length g z=0):qU r g z=zff (g.reverse.find? (fun q=>q.1==z)) (r.getD z.toNat zt):=by unfold qU;rw[kE h];cases g.reverse.find? (fun q=>q.1==z)<;>rfl
theorem zfr(h:zp r.length g z=0):zp (Zc r g).length (Zi g z L) z=0/\qU (Zc r g) (Zi g z L) z=L:=by grind[JW,qX,zp,Zc,Zi,ziR,JA,zdw,zff]
theorem zdM{p:List Int}(h:zp r.length g z=0)(o:Int):zp (Zc r g).length (Zi g z p) o=zp r.length g o:=by grind[ziS,JW,qX,JA]
theorem zdN(j:zp r.length g z=0){o:Int}(s:¬o=z):qU (Zc r g) (Zi g z L) o=qU r g o:=by
 have n:=zdM (p:=L) j o;by_cases i:zp r.length g o=0
 ·rw[zdw i,zdw (n.trans i)];have h:(z==o)=Xd:=by simpa using fun l=>s (Eq.symm l)
  unfold Zi Zc;by_cases f:g.length=400
  ·rw[kE f,kE f]
   cases g with
   |nil=>simp at f
   |cons e t=>
    obtain⟨_,v,c,m⟩:=qX i;obtain⟨w,a,p⟩:=(QR (qX j).1).2.2 e Sm;simp only[List.tail_cons,List.headD_cons,Yz,Og,List.reverse_nil,Ya,Ye,List.find?_cons,h,Oe];cases u:t.reverse.find? (fun q=>q.1==o)with
    |some q=>rfl
    |none=>
     simp only[Option.none_or];cases k:(e.1==o)with
     |true=>
      have:e.1=o:=Si k;subst this;simp only[a,tN,zff];simp[p]
     |false=>
      have:e.1≠o:=Si k;simp only[List.find?_nil,zff];rw[gD,gD,sN];rw[a,c]at this;rw[a,c];simp only[tN];omega
  grind
 grind[zp,Zc,Zi,qU]
theorem Jo(a)(n c:Nat)(Q)(h:List (Int×List Int))(w)(y:ZA w Q h):
  Xp prog 75 #[Xi #[O a n c,Q]] w fun e w'=>e=Xl (I6 (zS n h))/\zc w w':=by
 have d:Xo (zS n h=if 80<n then 4 else if 400<h.length then 4 else if h.any (fun q=>!ZB q.1 n)then 3 else 0):=rfl;have u:h.length<=9223372036854775807:=Hm y.2.2;obtain⟨U,V,rfl,l⟩:=y.rows;have C:=dD l;clear y l;obtain⟨i,A⟩:=kA h.length;rw[A.out]at d u⊢;by_cases M:80<n
 ·have E:(80:Int)<(n:Int):=Wm
  rw[kE M]at d;go_enter func75,ntmps75;go_wp2;go_ret;exact⟨Rr d.out,za _ _⟩
 have E:¬(80:Int)<(n:Int):=Wm;rw[kF M]at d;by_cases N:400<i
 ·have F:(400:Int)<(i:Int):=Wm
  rw[kE N]at d;go_enter func75,ntmps75;go_wp2;go_ret;exact⟨Rr d.out,za _ _⟩
 have F:¬(400:Int)<(i:Int):=Wm;rw[kF N]at d;obtain⟨S,k⟩:=kB (w.alloc (Xk #[O a n c,O U i V] 34));have j:=gA k;have T:=xA k;have D:=dD k;clear k;go_enter func75,ntmps75;go_wp2;rw[D.out];go_loopg[4,18] i (fun W _ K wr=>∃g:Nat,g<=i/\i-g<=W/\K=I6 g/\Xo (zc S wr)/\Xo (∀(m:Nat)q,m<g->h[m]?=Xa q->ZB q.1 n=Xc))
 exact⟨0,nZ _,Wm,rfl,zc.refl _,fun m q v=>absurd v (nL _)⟩;obtain⟨g,Z,ai,rfl,t,L⟩:=hrel;by_cases r:g<i
 ·have x:=kC r
  obtain⟨q,B⟩:∃q,Xo (h[g]?=Xa q):=⟨_,gE (Rx A.out r)⟩;obtain⟨aj,z,a0,a1,a3,a4,a5,a6,a7,a8,rfl,rfl,P⟩:=C.out g q B.out;obtain⟨a9,aa,ab,ac,ad,ae,af,ag,ah⟩:=P wr (j.trans t);have X:=T.aA t.out;have ak:=X.c 0 rfl;have al:=X.lt;clear P;by_cases f:ZB z n=Xc
  ·have p:=f;unfold ZB at p;simp at p;have G:¬z<0:=Wm;have H:¬(n:Int)<=z:=Wm;have R:=dD f;clear f p;go_wp2;go_roundg (i-(g+1))
   case measure=>omega
   refine⟨g+1,Wm,Wm,Gn,t.trans (za _ _),(show Xo _ from fun m I v s=>?_)⟩;by_cases e:m=g;·subst e;rw[B.out]at s;cases s;exact R.out
   exact L m I Wm s
  have b:(h.any fun q=>!ZB q.1 n)=Xc:=Yd.2 ⟨_,mG B,Si f⟩;rw[kE b]at d;unfold ZB at f;simp at f;clear b;by_cases G:z<0;·clear f;go_wp2;go_ret;exact⟨Rr d.out,(j.trans t).trans (za _ _)⟩
  have H:(n:Int)<=z:=f Wm;clear f;go_wp2;go_ret;exact⟨Rr d.out,(j.trans t).trans (za _ _)⟩
 have x:=kD r;have:g=i:=Wm;subst this;have b:¬(h.any fun q=>!ZB q.1 n)=Xc:=fun Y=>by
  obtain⟨q,y,f⟩:=Yd.1 Y;obtain⟨m,v⟩:=Yf y;have:=L.out m q (by rw[<-A.out];exact(gS.1 v).1) v;rw[this]at f;simp at f
 rw[kF b]at d;clear b;go_wp2;go_ret;exact⟨Rr d.out,j.trans t⟩
theorem zhB{q:Int×List Int}:zff ((g++[q]).reverse.find? (fun q=>q.1==z)) L=if q.1==z then q.2 else zff (g.reverse.find? (fun q=>q.1==z)) L:=by rw[Yz];simp only[Og,List.reverse_nil,Ya,Ye,List.find?_cons];cases a:(q.1==z)<;>simp[zff]
theorem zje(d)(g:List (List Int))(c:List (Int×List Int))(m:Int)(w)(hd:zai w d g c)(j:¬zp g.length c m=0):
  Xp prog 62 #[d,I6 m] w fun e w'=>e=Xl (Xm #[Xi (pgc zt).toArray,I6 (zp g.length c m)])/\zc w w':=by
 obtain⟨a0,a3,rfl,H,A⟩:=hd;have K:=dD A;obtain⟨C,E,rfl,_⟩:=H.rows;obtain⟨D,F,rfl,_⟩:=A.rows;clear H A;have b:Xo (zp g.length c m=if zS g.length c=0 then(if ZB m g.length then 0 else 3)else zS g.length c):=rfl;obtain⟨M,f⟩:=kB ((w.alloc (Xk #[O C g.length E,O D c.length F] 34)).alloc (Xk #[U8 0,U8 0,U8 0,U8 0,U8 0,U8 0,U8 0,U8 0] 44));have k:=gD2 f;have z:=x2a f;have B:=x2b f;have a:=Jo C g.length E (O D c.length F) c M (K.aA k);obtain⟨r,L⟩:=kA (zS g.length c);rw[L.out]at a b;obtain⟨t,q⟩:=kA g.length;obtain⟨a2,y⟩:=kA c.length;rw[q.out]at b j;rw[q.out,y.out]at a f z⊢;have s:=dD f;clear f;have h:(Xo (zp t c m=r)/\(r !=0)=Xc)\/(Xo (zp t c m=3)/\(r !=0)=Xd/\Xo (r=0)/\m<0)\/(Xo (zp t c m=3)/\(r !=0)=Xd/\Xo (r=0)/\¬m<0/\(t:Int)<=m):=by
  by_cases p:r=0
  ·subst p;rw[kE rfl]at b;have i:¬ZB m t=Xc:=fun e=>(by rw[b.out,kE e]at j;exact j rfl);rw[kF i]at b;unfold ZB at i;simp at i;by_cases x:m<0;·exact .inr (.inl ⟨b,rfl,rfl,x⟩)
   exact .inr (.inr ⟨b,rfl,rfl,x,i Wm⟩)
  rw[kF p]at b;exact .inl ⟨b,Si p⟩
 clear j;rcases h with⟨u,p⟩|⟨u,p,G,x⟩|⟨u,p,G,x,a1⟩
 ·rw[u.out]
  go_enter func62,ntmps62
  go_wp2_with(
   go_at_call 75;rw[s.out];refine a.mono ?_;clear a;rintro e N⟨rfl,n⟩
   have X:=(z.aA n).c 0 rfl;have Y:=B.aA n;obtain⟨P,Q,R,S,T,U,V,W⟩:=Y.c8;have Z:=Y.f)
  refine bodyPost_ret (v:=Xm #[Xi #[U8 0,U8 0,U8 0,U8 0,U8 0,U8 0,U8 0,U8 0],I6 r]) (by simp[results,Tryz.results62,go_sem, *]) rfl ⟨rfl,?_⟩;have l:=k.trans n;iterate 8 (refine zB ?_ Sm _)
  exact l
 all_goals
  rw[u.out];have I:=G.out;subst I;go_enter func62,ntmps62
  go_wp2_with(
   go_at_call 75;rw[s.out];refine a.mono ?_;clear a;rintro e N⟨rfl,n⟩
   have X:=(z.aA n).c 0 rfl;have Y:=B.aA n;obtain⟨P,Q,R,S,T,U,V,W⟩:=Y.c8;have Z:=Y.f)
  refine bodyPost_ret (v:=Xm #[Xi #[U8 0,U8 0,U8 0,U8 0,U8 0,U8 0,U8 0,U8 0],I6 3]) (by simp[results,Tryz.results62,go_sem, *]) rfl ⟨rfl,?_⟩;have l:=k.trans n;iterate 8 (refine zB ?_ Sm _)
  exact l
theorem zli(d)(j:List (List Int))(b:List (Int×List Int))(i:Nat)(w)(hd:zai w d j b)(B:zp j.length b (i:Int)=0):
  Xp prog 62 #[d,I6 (i:Int)] w fun e w'=>e=Xl (Xm #[Xi (pgc (qU j b (i:Int))).toArray,I6 0])/\zc w w':=by
 obtain⟨I,cs,aj,ai⟩:=qX B;have bm:i<j.length:=Wm;have l:=zdw B;simp only[tN]at l;obtain⟨cl,q,rfl,bl,ac⟩:=hd;have bt:=dD ac;have W:b.length<=9223372036854775807:=Hm ac.2.2;obtain⟨ck,ba,rfl,Y⟩:=bl.rows;obtain⟨b9,bb,rfl,Z⟩:=ac.rows;have af:=dD Z;obtain⟨an,A⟩:∃an,j[i]?=Xa an:=⟨_,gE bm⟩;obtain⟨bq,E,F,G,H,K,L,M,N,am,rfl,m⟩:=Y i an A;subst am;have S:=dD m;rw[show j.getD i zt=[E,F,G,H,K,L,M,N]from by rw[gD,A];rfl]at l;have bs:=dD l;clear bl ac Y Z m A l;obtain⟨ah,f⟩:=kB ((w.alloc (Xk #[O (Xa bq) j.length ba,O b9 b.length bb] 34)).alloc (Xk #[U8 0,U8 0,U8 0,U8 0,U8 0,U8 0,U8 0,U8 0] 44));have n:=gD2 f;have aa:=x2a f;have ap:=x2b f;have c:=Jo (Xa bq) j.length ba (O b9 b.length bb) b ah (bt.aA n);rw[I]at c;obtain⟨bp,P⟩:=kA j.length;obtain⟨C,k⟩:=kA b.length;rw[P.out]at bm;rw[k.out]at W;rw[P.out,k.out]at c f aa⊢;have ag:Xo (_=ah):=f;have c9:¬(i:Int)<0:=Wm;have co:¬(bp:Int)<=(i:Int):=Wm;have cp:(i:Int)<(bp:Int):=Wm;clear f I aj ai B;go_enter func62,ntmps62
 go_wp2_with(
  go_at_call 75;rw[ag.out];refine c.mono ?_;clear c;rintro e U⟨rfl,V⟩
  have ae:Xo (zc ah U):=V;obtain⟨bv,bw⟩:=(aa.aA V).k2;have bx:=(aa.aA V).lt;obtain⟨bc,bd,be,bf,bg,bh,bi,bj⟩:=S.out U (n.trans V))
 have bu:Xo (∀(ad:Nat)q,b[ad]?=Xa q->b.take (ad+1)=b.take ad++[q]):=dD<|fun ad q c8=>by
  obtain⟨h,rfl⟩:=gS.1 c8;exact List.take_succ_eq_append_getElem h
 clear bv bw bx bc bd be bf bg bh bi bj;go_loopg[9,34] C (fun bz _ ao wr=>∃(a:Nat)(p r s t u x y z:Int),a<=C/\C-a<=bz/\ao=I6 a/\Xo (zc w wr)/\Xo (Box wr U.heap.size [U8 p,U8 r,U8 s,U8 t,U8 u,U8 x,U8 y,U8 z])/\Xo (Box wr (w.heap.size+1) [U8 0,U8 0,U8 0,U8 0,U8 0,U8 0,U8 0,U8 0])/\Xo (zff ((b.take a).reverse.find? (fun q=>q.1==(i:Int))) [E,F,G,H,K,L,M,N]=[p,r,s,t,u,x,y,z]))
 exact⟨0,E,F,G,H,K,L,M,N,nZ _,Wm,rfl,(n.trans ae).trans (za _ _),Box.aE U [U8 E,U8 F,U8 G,U8 H,U8 K,U8 L,U8 M,U8 N] _ rfl,(ap.aA ae).alloc _,rfl⟩;obtain⟨a,p,r,s,t,u,x,y,z,ca,cr,rfl,a9,D,a8,Q⟩:=hrel;have bk:w.heap.size+2<=U.heap.size:=by have cn:=bS ae.out;have c9:=ap.lt;omega
 by_cases h:a<C
 ·have X:=kC h
  obtain⟨q,R⟩:∃q,Xo (b[a]?=Xa q):=⟨_,gE (Rx k.out h)⟩;obtain⟨dd,bo,ar,au,av,aw,ax,ay,az,b8,rfl,rfl,bn⟩:=af.out a q R.out;obtain⟨bc,bd,be,bf,bg,bh,bi,bj,cm⟩:=bn wr a9.out;have T:=bu.out a _ R.out;clear bn;by_cases ak:bo=(i:Int)
  ·subst ak;obtain⟨cc,cd,ce,cf,cg,ch,ci,cj⟩:=D.c8;have ct:=D.f;have cu:=D.lt;have g:Xo (zff ((b.take (a+1)).reverse.find? (fun q=>q.1==(i:Int))) [E,F,G,H,K,L,M,N]=[ar,au,av,aw,ax,ay,az,b8]):=dD (by rw[T,zhB];simp);go_wp2;go_roundg (C-(a+1))
   case measure=>omega
   refine⟨a+1,ar,au,av,aw,ax,ay,az,b8,Wm,Wm,Gn,?_,?_,?_,g⟩
   ·show zc _ _
    refine zc.trans ?_ (za _ _);iterate 8 (refine zB ?_ (by simp;omega) _)
    exact a9.out
   ·exact((((((((D.set 0 _).set 1 _).set 2 _).set 3 _).set 4 _).set 5 _).set 6 _).set 7 _).alloc _
   show Box _ _ _;refine Box.alloc ?_ _;iterate 8 (refine Box.other ?_ (by simp;omega) _)
   exact a8.out
  have al:(bo==(i:Int))=Xd:=Si ak;have g:Xo (zff ((b.take (a+1)).reverse.find? (fun q=>q.1==(i:Int))) [E,F,G,H,K,L,M,N]=[p,r,s,t,u,x,y,z]):=dD (by rw[T,zhB];simp only[al];exact Q.out);clear ak;go_wp2;go_roundg (C-(a+1));exact⟨a+1,p,r,s,t,u,x,y,z,Wm,Wm,Gn,a9.trans (za _ _),D.alloc _,a8.alloc _,g⟩;omega
 have X:=kD h;have:a=C:=Wm;subst this;obtain⟨cc,cd,ce,cf,cg,ch,ci,cj⟩:=D.c8;obtain⟨cv,cw,cx,cy,cz,d9,da,db⟩:=a8.c8;have dc:=a8.f;have br:Xo (qU j b (i:Int)=[p,r,s,t,u,x,y,z]):=dD<|by rw[bs.out,<-Q.out,List.take_of_length_le (by rw[k.out];exact nR _)]
 go_wp2;refine bodyPost_ret (v:=Xm #[Xi #[U8 p,U8 r,U8 s,U8 t,U8 u,U8 x,U8 y,U8 z],I6 0]) (by simp[results,Tryz.results62,go_sem, *]) rfl ⟨Rr br.out,?_⟩;iterate 8 (refine zB ?_ Sm _)
 exact a9.out
theorem zd3(d)(a:List (List Int))(b:List (Int×List Int))(m:Int)(w)(hd:zai w d a b):
  Xp prog 62 #[d,I6 m] w fun e w'=>e=Xl (Xm #[Xi (pgc (qU a b m)).toArray,I6 (zp a.length b m)])/\zc w w':=by
 by_cases c:zp a.length b m=0;·obtain⟨_,i,rfl,_⟩:=qX c;rw[c];exact zli d a b i w hd c
 rw[show qU a b m=zt from kF c];exact zje d a b m w hd c
def QF(p:List Int)(idx size:Int)(k:Nat):List Int:=p.mapIdx fun i z=>if i<k/\size<=8*idx+(i:Int)then 0 else z
theorem zl7(p)(idx a:Int):QF p idx a 0=p:=by unfold QF;apply Xv;intro i;rw[List.getElem?_mapIdx];cases p[i]?<;>simp
theorem zip(p:List Int)(idx a:Int)(k:Nat):(QF p idx a k).length=p.length:=by unfold QF;simp
theorem zir{a:Int}(h:L.length<=k):QF L z a k=Z8 L z a:=by unfold QF Z8;apply Xv;grind
theorem ziq{a:Int}(b:k<L.length)(h:a<=8*z+(k:Int)):(QF L z a k).set k 0=QF L z a (k+1):=by unfold QF;apply Xv;grind
theorem zn2{a:Int}(h:¬a<=8*z+(k:Int)):QF L z a k=QF L z a (k+1):=by unfold QF;grind
theorem zfA(d:∀p∈r,p.length=8)(e:∀q∈g,q.2.length=8):(qU r g z).length=8:=by
 unfold qU;split
 ·cases h:g.reverse.find? (fun q=>q.1==z)with
  |some q=>exact e q (by have:=List.mem_of_find?_eq_some h;simpa using this)
  |none=>
   simp only;rw[gD];cases g:r[z.toNat]? with
   |none=>rfl
   |some p=>exact d p (mG g)
 rfl
theorem zeO(V)(m:Ma)(fi ix:Nat)(f:Fl)(n:Int)(w)(t:zK w V m)(b0:∀c∈m.ca,QM fi ix c=Xc->0<=c.fr/\c.fr<m.fs.length)(bd:m.fl[fi]?=Xa f)(A:f.bl[ix]?=Xa n)(dr:ix<=1000):
  Xp prog 63 #[Xi (mL V m).toArray,I6 (fi:Int),I6 (ix:Int)] w fun e w'=>e=Xl (Xi (pgc (zU m fi ix)).toArray)/\(zU m fi ix).length=8/\zc w w':=by
 have ap:Xo (∀W,zc w W->Xp prog 62 #[Xi #[V.db.x,V.dq.x],I6 n] W fun e w'=>e=Xl (Xm #[Xi (pgc (qU m.db m.dq n)).toArray,I6 (zp m.db.length m.dq n)])/\zc W w'):=dD<|fun W cm=>zd3 _ m.db m.dq n W ⟨_,_,rfl,(t.aA cm).db,(t.aA cm).dq⟩;have aq:Xo ((qU m.db m.dq n).length=8):=zfA t.db.2.1 t.dq.2.1;obtain⟨⟨bb,aw,bw⟩,ch,ac,af,aa,ab,⟨bx,q,S⟩,⟨x,a,Q⟩,ae⟩:=V;dsimp only[mL]at ap⊢;obtain⟨cc,-,-,-,-,-,cd,ce,-⟩:=t.ns;dsimp only at cc cd ce;have bj:Xo (ziK w bb m.fs):=t.bC;have bg:Xo (zf5 w x m.ca):=t.cas;have am:=dD cc.symm;have an:=dD ce.symm;have dk:a<=9223372036854775807:=Hm t.ca.short;obtain⟨_,_,Y,_,b2⟩:=qH.rows t.fl;have bi:Xo (zbs w bx m.fl):=dD<|by
  simp only[vJ]at Y;rw[Y.1];exact b2
 have bm:=dD b0;have dm:fi<q:=by rw[cd];exact(gS.1 bd).1
 obtain⟨bv,rfl,dc,e4,az,b1⟩:=bi.out fi f bd;have H:=dD b1;obtain⟨_,_,U,ay⟩:=az.aX;have c6:=(gS.1 A).1;obtain⟨au,F,d⟩:=ay ix n A;have be:Xo (dc=Xa au/\∀W,zc w W->W.cell? (au.add ix)=Xa (I6 n)):=show _/\_ from⟨by simp only[vJ]at U;rw[U.1];exact F,d⟩;obtain⟨dd,bf⟩:=kA f.bl.length;rw[bf.out]at c6 H;have D:Xo (∀c,m.ca.find? (QM fi ix)=Xa c->zU m fi ix=pgL (z1 m c.fr).p):=dD<|fun c s=>by unfold zU;rw[s]
 have E:Xo (m.ca.find? (QM fi ix)=Xb->zU m fi ix=if n<0 then zt else Z8 (qU m.db m.dq n) ix f.size):=dD<|fun s=>by
  have co:m.fl.getD ((fi:Int).toNat) ⟨0,[]⟩=f:=by rw[tN,gD,bd];rfl
  have dh:zg2 m fi ix=n:=by unfold zg2;rw[co,tN,gD,A];rfl
  have di:JC m fi=f.size:=by unfold JC;rw[co]
  unfold zU;rw[s];simp only[dh,di]
 obtain⟨aj,C⟩:=kA (zU m fi ix);rw[C.out]at D E⊢;clear t cc cd ce Y b2 b0 bd A b1 az U ay F d;have dn:(fi:Int)<(q:Int):=Wm;have dl:(ix:Int)<(dd:Int):=Wm;obtain⟨bt,r⟩:=kB ((w.alloc (Xk #[O bb aw bw,I6 m.aB,ch.x,ac.x,af.x,aa.x,ab.x,O (Xa bv) q S,I6 m.cnt,O x a Q,ae.x] 41)).alloc (Xk #[U8 0,U8 0,U8 0,U8 0,U8 0,U8 0,U8 0,U8 0] 44));have h:=gD2 r;have ag:=x2a r;have b9:Xo (Box bt (w.heap.size+1) (pgc zt)):=dD<|by rw[<-r];exact Box.aE _ (pgc zt) _ Sm
 have bq:Xo (_=bt):=r;clear r;go_enter func63,ntmps63;go_upto_region 1 with fail;rw[bq.out];have e3:=ag.c 9 rfl;go_wp2;clear e3;go_loopg[16] a (fun bz cf wr=>∃g:Nat,g<=a/\a-g<=bz/\cf=I6 g/\Xo (zc bt wr)/\Xo (∀(j:Nat)c,j<g->m.ca[j]?=Xa c->QM fi ix c=Xd))
 exact⟨0,nZ _,Wm,rfl,zc.refl _,fun j c I=>absurd I (nL _)⟩;obtain⟨g,ds,dq,rfl,p,br⟩:=hrel;by_cases a0:g<a
 ·have b5:=kC a0
  obtain⟨c,C⟩:∃c,Xo (m.ca[g]?=Xa c):=⟨_,gE (Rx an.out a0)⟩;obtain⟨da,rfl,b4⟩:=bg.out g c C.out;obtain⟨av,R,ck⟩:=b4 wr (h.trans p);clear b4;go_upto_region 4 with fail;refine nW fun cv y=>?_;have k:=gT y p;have cr:=xA y;clear y av R ck;obtain⟨e5,e6,df⟩:=cr.c3;have ao:Xo (QM fi ix c=Xd->∀(j:Nat)c,j<g+1->m.ca[j]?=Xa c->QM fi ix c=Xd):=dD<|fun dj j de I X=>by
   by_cases e:j=g;·subst e;rw[C.out]at X;cases X;exact dj
   exact br j de Wm X
  by_cases T:c.file=(fi:Int)
  ·have c3:(c.file==(fi:Int))=Xc:=by simp[T]
   by_cases ah:c.idx=(ix:Int)
   ·have c4:(c.idx==(ix:Int))=Xc:=by simp[ah]
    have al:Xo (QM fi ix c=Xc):=dD (by simp[QM,T,ah]);have bh:Xo (m.ca.find? (QM fi ix)=Xa c):=dD<|by
     rw[List.find?_eq_some_iff_getElem];refine⟨al,g,(gS.1 C).1,(gS.1 C).2,fun j I=>?_⟩;have:=br.out j _ I (gE (Hm ((gS.1 C).1)));simp[this]
    obtain⟨dv,dw⟩:=bm.out c (mG C) al.out;obtain⟨ai,c9⟩:∃ai:Nat,c.fr=(ai:Int):=⟨c.fr.toNat,Wm⟩;have ca:ai<aw:=(by rw[<-am.out];omega);have dt:(ai:Int)<(aw:Int):=Wm;obtain⟨b8,ci⟩:∃b8,Xo (m.fs[ai]?=Xa b8):=⟨_,gE (Rx am.out ca)⟩;have b:Xo (aj=pgL b8.p):=dD<|by
     rw[D.out c bh.out,c9];unfold z1;rw[tN,gD,ci.out];rfl
    rw[c9]at df;clear T ah dv dw c9;go_upto_region 5 with fail;obtain⟨db,b7,b4⟩:=bj.out ai b8 ci.out;obtain⟨av,R,ck,e7,e8,e9,ea,eb,-⟩:=b4 cv (h.trans k);have dx:=(ag.aA k).c 0 rfl;rw[b7]at dx;have cz:=dD (b9.aA k);clear b4 b7;go_wp2_with(refine zn rfl 44 (.tmp 6) (.tmp 37) rfl (w.heap.size+1) rfl (pgc (pgL b8.p)) rfl cz rfl zsZ (qM _) ?_)
    intro N d Z _;have l:Xo (zc w N):=dD<|zd (h.trans k) Z Wm;go_wp2;refine bodyPost_ret (z8 rfl _ rfl d underlying44 rfl zsZ) rfl ⟨by rw[b.out],Rr b.out,l⟩
   have c4:(c.idx==(ix:Int))=Xd:=(by simp[ah]);have M:Xo (∀(j:Nat)c,j<g+1->m.ca[j]?=Xa c->QM fi ix c=Xd):=ao.out (by simp[QM,ah]);clear T ah;go_wp2;go_roundg (a-(g+1));exact⟨g+1,Wm,Wm,Gn,k,M⟩;omega
  have c3:(c.file==(fi:Int))=Xd:=by simp[T]
  have M:Xo (∀(j:Nat)c,j<g+1->m.ca[j]?=Xa c->QM fi ix c=Xd):=ao.out (by simp[QM,T]);clear T;go_wp2;go_roundg (a-(g+1));exact⟨g+1,Wm,Wm,Gn,k,M⟩;omega
 have b5:=kD a0;have b3:g=a:=Wm;have bo:Xo (m.ca.find? (QM fi ix)=Xb):=dD<|by
  rw[Yi];intro c s;obtain⟨j,I⟩:=Yf s;have:=br.out j c (by rw[b3,<-an.out];exact(gS.1 I).1) I;simp[this]
 have b:=dD<|E.out bo.out;clear b3;go_upto_region 7 with fail;have cp:=(ag.aA p).c 7 rfl;obtain⟨av,R⟩:=H.out wr (h.trans p);obtain⟨ax,d⟩:=be.out;rw[ax]at R;have dg:=d wr (h.trans p);clear ax d av;have d9:=dD (b9.aA p);by_cases cn:n<0
 ·rw[kE cn]at b
  go_wp2_with(refine zn rfl 44 (.tmp 6) (.tmp 51) rfl (w.heap.size+1) rfl (pgc zt) rfl d9 rfl zsZ (qM _) ?_)
  intro N d Z _;have l:Xo (zc w N):=dD<|zd (h.trans p) Z Wm;go_wp2;refine bodyPost_ret (z8 rfl _ rfl d underlying44 rfl zsZ) rfl ⟨by rw[b.out],Rr b.out,l⟩
 rw[kF cn]at b;have dy:=(ag.aA p).c 5 rfl;have dz:=(ag.aA p).c 6 rfl;have b6:=ap.out wr (h.trans p);go_wp2_with fail;refine b6.mono ?_;clear b6 dy dz cp R dg;rintro e N⟨rfl,cl⟩;obtain⟨du,ct⟩:=kA (qU m.db m.dq n);rw[ct.out]at b aq⊢;have l:=dD (p.trans cl);clear cl;obtain⟨a2,a3,a4,a5,a6,a7,a8,a9,rfl⟩:=zc2 du aq.out;simp only[pgc,mP,Yp];go_upto_region 11 with fail;obtain⟨cw,z⟩:=kB (N.alloc (Xk #[U8 a2,U8 a3,U8 a4,U8 a5,U8 a6,U8 a7,U8 a8,U8 a9] 44));have L:=gT z l;have cj:Xo (Box cw N.heap.size (pgc (QF [a2,a3,a4,a5,a6,a7,a8,a9] ix f.size 0))):=dD<|by rw[<-z,zl7];exact Box.aE _ (pgc [a2,a3,a4,a5,a6,a7,a8,a9]) _ rfl
 have v:=dD<|(b9.aA l).lt;rw[z];clear z;obtain⟨B,bp⟩:=kA N.heap.size;rw[bp.out]at cj v⊢;go_wp2;go_loopg[59] 8 (fun bz cg wr=>∃i:Nat,i<=8/\8-i<=bz/\cg=I6 i/\Xo (zc w wr)/\Xo (Box wr w.heap.size [O bb aw bw,I6 m.aB,ch.x,ac.x,af.x,aa.x,ab.x,O (Xa bv) q S,I6 m.cnt,O x a Q,ae.x])/\Xo (Box wr (w.heap.size+1) (pgc zt))/\Xo (Box wr B (pgc (QF [a2,a3,a4,a5,a6,a7,a8,a9] ix f.size i))))
 exact⟨0,nZ _,Wm,rfl,h.trans L,ag.aA L,b9.aA L,cj⟩;obtain⟨i,ec,dp,rfl,u,bu,P,ar⟩:=hrel;by_cases G:i<8
 ·have a1:(i:Int)<8:=Wm
  obtain⟨av,R⟩:=H.out wr u.out;have cp:=bu.c 7 rfl;clear R;obtain⟨cq,cb⟩:∃cq,(QF [a2,a3,a4,a5,a6,a7,a8,a9] ix f.size i)[i]?=Xa cq:=⟨_,gE (Rx zip G)⟩;have ed:=ar.c i (zhC cb);have ee:=ar.f;by_cases s:f.size<=8*(ix:Int)+(i:Int)
  ·have c7:decide (f.size<=8*(ix:Int)+(i:Int))=Xc:=Si s
   have bs:Xo (Box (wr.setCell ⟨B,i,Xb⟩ (U8 0)) B (pgc (QF [a2,a3,a4,a5,a6,a7,a8,a9] ix f.size (i+1)))):=dD (by rw[<-ziq (by exact G) s,zd9];exact ar.set i _);have cy:Xo (Box (wr.setCell ⟨B,i,Xb⟩ (U8 0)) w.heap.size [O bb aw bw,I6 m.aB,ch.x,ac.x,af.x,aa.x,ab.x,O (Xa bv) q S,I6 m.cnt,O x a Q,ae.x]):=dD<|bu.other (by have:=v.out;simp;omega) _;have d8:Xo (Box (wr.setCell ⟨B,i,Xb⟩ (U8 0)) (w.heap.size+1) (pgc zt)):=dD<|P.other (by have:=v.out;simp;omega) _;have cs:Xo (zc w (wr.setCell ⟨B,i,Xb⟩ (U8 0))):=dD<|zB u (by have:=v.out;simp;omega) _;clear cb;go_wp2;go_roundg (8-(i+1));exact⟨i+1,Wm,Wm,Gn,cs,cy,d8,bs⟩;omega
  have c7:decide (f.size<=8*(ix:Int)+(i:Int))=Xd:=Si s;have bs:Xo (Box wr B (pgc (QF [a2,a3,a4,a5,a6,a7,a8,a9] ix f.size (i+1)))):=dD (by rw[<-zn2 s];exact ar.out);clear cb;go_wp2;go_roundg (8-(i+1));exact⟨i+1,Wm,Wm,Gn,u,bu,P,bs⟩;omega
 have a1:¬(i:Int)<8:=Wm;have:i=8:=Wm;subst this;have cu:Xo (Box wr B (pgc aj)):=dD<|by
  have:=ar.out;rw[zir (by exact nR 8),<-b.out]at this;exact this
 have ak:Xo (aj.length=8):=dD<|by rw[b.out];unfold Z8;simp
 have K:Xo ((pgc aj).length=8):=dD<|Rx Z3 ak.out;go_wp2_with(first|(refine zE rfl 44 (.tmp 10) rfl B rfl cu underlying44 rfl (Rx K.out zsZ) ?_)|(refine zn rfl 44 (.tmp 6) (.tmp 77) rfl (w.heap.size+1) rfl (pgc aj) rfl P (Rr K.out) zsZ (qM _) ?_))
 intro cx c5 c8 _;have bl:Xo (zc w cx):=dD<|zd u c8 Wm;go_wp2;refine bodyPost_ret (z8 rfl _ rfl c5 underlying44 rfl (Rx K.out zsZ)) rfl ⟨rfl,ak,bl⟩
theorem zR.own{b c:Xn}(h:zR hi w b)(e:b.grownBy c (Xa k))(d:w.heap.size<=k):zR hi w c:=⟨fun p t f d i=>(h.1 p t f d i).beside e (fun g f=>by cases f;have:=d.box.lt;omega),nT h.2 e.size⟩
theorem zC{s:α}:∀{S:List (Nat×α)},S.lookup k=Xa s->(k,s)∈S
 |[],h=>by simp at h
 |(p,a)::S,h=>by
  by_cases b:k=p
  ·subst b
   simp at h
   subst h;simp
  have c:(k==p)=Xd:=Si b
  rw[List.lookup_cons,c]at h;exact List.mem_cons_of_mem _ (zC h)
theorem zkd{p:α->Bool}:∀{l:List α}{k:Nat},(∀(j:Nat)x,j<k->l[j]?=Xa x->p x=Xc)->(∀x,l[k]?=Xa x->p x=Xd)->k<=l.length->l.takeWhile p=l.take k/\l.dropWhile p=l.drop k
 |[],0,_,_,_=>⟨rfl,rfl⟩
 |[],k+1,_,_,h=>by simp at h
 |x::l,0,_,h,_=>by
  have:=h x rfl
  simp[this]
 |x::l,k+1,b,e,f=>by
  have g:=b 0 x (Nat.zero_lt_succ _) rfl;obtain⟨c,d⟩:=zkd (l:=l) (k:=k) (fun j y a a=>b (j+1) y Wm (Si a)) (fun y a=>e y (Si a)) (Si f);simp[g,c,d]
theorem zs0:(Tryz.prog.info? 108).map (·.size)=Xa 3:=by kernel_rfl
theorem zdW(w):(Go.sizeOf 108).run prog w=.ok 3 w:=by
 obtain⟨a,c,d⟩:∃a,Tryz.prog.info? 108=Xa a/\a.size=3:=by
  have:=zs0;cases b:Tryz.prog.info? 108 with
  |none=>rw[b]at this;cases this
  |some a=>rw[b]at this;exact⟨a,rfl,by simpa using this⟩
 simp[Go.sizeOf,typeInfo,c,d]
theorem zoR{a:Option Addr}{n c:Nat}(b:k<=c):(Instr.sliceAt 38 (O a n c) Xb (Xa (I6 (k:Int))) Xb).run prog w=.ok (O a k c) w:=by
 have b:(0:Int)<=(k:Int)/\(k:Int)<=(c:Int):=Wm;simp only[Instr.sliceAt,Instr.slice,Instr.sliceBounds,Instr.sliceBound,asIntOf,Xu,Xt,rA,run_underlying underlying38];rw[kE b];simp only[Xt,rA,zdW,tN];cases a with
 |none=>simp
 |some b=>by_cases b:c=0<;>simp[b,Addr.add]
theorem zoT{a:Option Addr}{n c:Nat}(b:k<=n):(Instr.sliceAt 38 (O a n c) (Xa (I6 (k:Int))) Xb Xb).run prog w=.ok (O (a.map fun ad=>if c=k then ad else ad.add (k*3)) (n-k) (c-k)) w:=by
 have b:(0:Int)<=(k:Int)/\(k:Int)<=(n:Int):=Wm;simp only[Instr.sliceAt,Instr.slice,Instr.sliceBounds,Instr.sliceBound,asIntOf,Xu,Xt,rA,run_underlying underlying38];rw[kE b];simp only[Xt,rA,zdW,tN];cases a with
 |none=>simp
 |some ad=>by_cases b:c=k<;>simp[b]
theorem zq.upto{w:Xn}{a:Option Addr}{n c k:Nat}{l:List Ca}(h:zq jF w (O a n c) l)(b:k<=n):zq jF w (O a k c) (l.take k):=by
 have b:=h.n;obtain⟨⟨b,b,b,d,f⟩,g⟩:=h;cases b;refine⟨⟨a,c,by rw[Xx,Yq Wm],fun e=>by rw[d e];simp,fun d e=>?_⟩,?_⟩
 ·intro j u b;refine f d e j u ?_;have d:l.flatMap jF.enc=(l.take k).flatMap jF.enc++(l.drop k).flatMap jF.enc:=by rw[<-Oa,Ys]
  rw[d,List.getElem?_append_left (gS.1 b).1];exact b
 refine nT (Yv _ ?_) g;rw[Xx];omega
theorem zq.from{w:Xn}{a:Option Addr}{n c k:Nat}{l:List Ca}(h:zq jF w (O a n c) l)(d:k<=n)(b:n<=c):zq jF w (O (a.map fun ad=>if c=k then ad else ad.add (k*3)) (n-k) (c-k)) (l.drop k):=by
 have b:=h.n;obtain⟨⟨b,b,b,d,g⟩,i⟩:=h;cases b;refine⟨⟨_,_,by rw[Yn],fun e=>?_,fun ad e=>?_⟩,?_⟩
 ·cases a with
  |none=>rw[d rfl];simp
  |some ad=>cases e
 ·cases a with
  |none=>cases e
  |some b=>
   simp only[Option.map_some,Option.some.injEq]at e;intro j u f;by_cases d:c=k;·grind
   rw[kF d]at e;subst e;rw[zX];refine g b rfl _ u ?_;have d:l.flatMap jF.enc=(l.take k).flatMap jF.enc++(l.drop k).flatMap jF.enc:=(by rw[<-Oa,Ys]);have b:((l.take k).flatMap jF.enc).length=k*3:=(by rw[qF,Xx,Yq Wm];rfl);rw[d,aR (by rw[b];omega),b,show k*3+j-k*3=j by omega];exact f
 refine nT (Yv _ ?_) i;rw[Yn];omega
theorem zln(w:Xn)(c:Ca):zb jF w.heap.size (w.alloc (Xk #[I6 c.file,I6 c.idx,I6 c.fr] 108)) (O (Xa ⟨w.heap.size,0,Xb⟩) 1 1) [c]:=by refine⟨⟨rfl,.inr ⟨w.heap.size,1,#[I6 c.file,I6 c.idx,I6 c.fr],rfl,nR _,?_,nR _,q5 Wm,rfl,rfl⟩⟩,by show 1*24<=_;omega⟩;show(w.heap.push _)[w.heap.size]?=_;simp[jF]
theorem zm.part:∀{ds cs:List Xq}{o:Nat},zm w b t cs->o+ds.length<=cs.length->zm (w.setCells b o ds) b t (splice cs o ds):=by
 have a:∀(ds cs:List Xq)(o:Nat)(w:Xn),zm w b t cs->o+ds.length<=cs.length->zm (w.setCells b o ds) b t (splice cs o ds):=fun ds=>by
  induction ds with
  |nil=>
   intro cs o w h a;have:splice cs o []=cs:=(by simp[splice]);rw[this];exact h
  |cons d ds e=>
   intro cs o w h a;simp only[Xw]at a;have c:=h.set o d;have a:=e (cs.set o d) (o+1) (w.setCell ⟨b,o,Xb⟩ d) c (by simp;omega);have c:splice (cs.set o d) (o+1) ds=splice cs o (d::ds):=by
    unfold splice;rw[List.take_set,List.drop_set,kE Wm,List.take_add_one,gE Wm];simp only[Xw,Option.toList_some];rw[List.set_append_right _ _ (by simp;omega),show o+1+ds.length=o+(ds.length+1) by omega];simp[Xx,Yq (show o<=cs.length by omega)]
   rw[c]at a;exact a
 grind
theorem zP(c:o.guard=Xb)(e p x)(g:o.op=.store e p x)(b:Nat)(hp:a.eval p=Xj (Xa ⟨b,0,Xb⟩))(vs:List Xq)(i:a.eval x=Xi vs.toArray)
  {cs:List Xq}{t:TypeId}(hb:zm w b t cs)(d:vs.length=cs.length)(hi:(Tryz.prog.info? e).map (·.size)=Xa cs.length)(f:∀v∈vs,v.oneCell'=Xc)
  (h:∀w',zm w' b t vs->w.grownBy w' (Xa b)->w'.heap.size=w.heap.size->wpList prog ops Q K (a.put o.dst undef) w'):wpList prog ops Q (o::K) a w:=by
 refine wpList_store_mid c e p x g b 0 vs.toArray hp i ?_ ?_ (all_oneCell_toArray f) ?_;·simpa[d]using hb.box.there
 ·simpa[d]using hi
 have:=hb.part (ds:=vs) (o:=0) Wm;rw[zaZ d]at this;exact h _ this (zW b vs 0 w).1 (zW b vs 0 w).2
theorem MkE.trans{c:List Int}{V':MaV}{a:Sli}{d:List (Nat->En)}(e:zbr L c)(f:zR hi w w1)(h:MkE w0 hi b w1 c V' m' a d w'):MkE w0 hi b w L V' m' a d w':=by obtain⟨a,c,d,g,i⟩:=h;exact⟨a,c,d,e.trans g,f.trans i⟩
theorem Mk.page(h:Mk w0 hi w b vl L V m vt T)(hp:zm w k 44 D)(f:hi<=k)(a:w.grownBy w' (Xa k)):Mk w0 hi w' b vl L V m vt T:=by
 have d:b≠k:=fun e=>by
  subst e;have k:w.heap[b]?=_:=h.box;rw[show w.heap[b]?=_ from hp]at k;cases k
 exact⟨zd h.gr a (nT h.rows.bh f),h.hb,h.box.beside a (fun cs e=>by cases e;exact d),h.lr,h.lc,h.lb,h.rows.var a hp a.size (.inr ⟨rfl,f⟩)⟩
theorem zkr(h:hi<=k):Loc hi k 44:=⟨Dc,Dc,Dc,Dc,Dc,Dc,Dc,Dc,fun _=>h⟩
theorem MkR.setCa(h:MkR k hi w V m vt T){s:Sli}{ca:List Ca}(a:zb jF k w (s.x) ca):MkR k hi w {V with ca:=s} {m with ca:=ca} vt T:=⟨h.hw,h.bh,h.fs,h.sl,h.bB,h.sb,h.bJ,h.sq,h.db,h.bG,h.dq,h.fl,a,h.sp,h.tt,h.ap⟩
end
end Go.Proofs.YtkfjajbalegoeaaGreat
