/- FaultAlone,proved:a page that is written is seen by no other process,nor in any file,unless its area is shared,whatever the numbers and bytes. No condition. -/
import Derived.Test.YtkfjajbalegoeaaGreatFA5
import Derived.Test.YtkfjajbalegoeaaGreatRows
import Derived.ProofKit
import Derived.OpenShut
import Derived.ShutString
import Derived.ChangeOld
import Derived.Carry
import Derived.SizedLaws
import Derived.Test.YtkfjajbalegoeaaGreatChecked
namespace Go.Proofs.YtkfjajbalegoeaaGreat
open Go.Value renaming slice→O,int→Xe,bool→Xh,agg→Xi,pointer→Xj,tuple→Xm
open Go.IntKind renaming i64→Xf,u8→Xg
open Go.Obj renaming cells→Xk
open Go.Ending renaming returned→Xl
open Go renaming World→Xn,Calls→Xp,Value→Xq
open Go.RowKit renaming Hid→Xo
open Option renaming some→Xa,none→Xb
open Bool renaming true→Xc,false→Xd
open List renaming replicate→Xr
open _root_.List renaming length_map→Xs,append_nil→Xt,getElem?_map→Xu,length_take→Xv,take_of_length_le→Xw,getElem?_of_mem→Xx,flatMap_append→Xy,append_assoc→Xz,map_nil→Ya,range→Yc,map→Yd
open Go.Sem renaming run_bind→Yb
set_option maxRecDepth 100000
set_option maxHeartbeats 4000000
variable{α:Type}{a:Act}{k:Nat}{s:Sp}{w:Xn}{A:Xq}
variable{Q:Exit->Act->Xn->Prop}{V:MaV}{m m':Ma}{o:Oper}{ops:Array Oper}{t:TypeId}{w0:Xn}
open Go.Proofs.Tryz
section
open Go.RowKit
def zkH(m:Ma)(p:Nat)(s:Sp)(n:Nat):List Int:=if(zl s.aC n).is=Xd then[]else[(n:Int),(jS m (p:Int) (n:Int)).2.2%256,(zl s.aC n).file%256,(zl s.aC n).page%256]++(jS m (p:Int) (n:Int)).1++[yn (zl s.aC n).rd,yn (zl s.aC n).wr,yn (zl s.aC n).sh,yn ((jS m (p:Int) (n:Int)).2.1&&decide (0<=(zl s.aC n).file))]
def qm(m:Ma)(p:Nat)(s:Sp)(n:Nat):List Int:=(Yc n).flatMap (zkH m p s)
theorem zob(m:Ma)(p:Nat)(s:Sp):zpU m p s=112::((if s.aF=Xc then[108]else[])++qm m p s 64):=rfl
theorem zkF(m:Ma)(p:Nat)(s:Sp)(n:Nat):qm m p s (n+1)=qm m p s n++zkH m p s n:=by unfold qm;rw[List.range_succ,Xy];simp
theorem ze2(m:Ma)(s:Sp):∀(l:List Sp)(p:Nat),zgU m (l++[s]) p=zgU m l p++zpU m (p+l.length) s
 |[],p=>by simp[zgU]
 |t::l,p=>by
  rw[List.cons_append];unfold zgU;rw[ze2 m s l (p+1),Xz,List.length_cons,show p+1+l.length=p+(l.length+1) by omega]
def J8(m:Ma)(p:Nat):List Int:=zgU m (m.sp.take p) 0
theorem zix(a:m.sp[k]?=Xa s):J8 m (k+1)=J8 m k++(112::((if s.aF=Xc then[108]else[])++qm m k s 64)):=by have b:=(gS.1 a).1;unfold J8;rw[qQ a,ze2,<-zob,Xv,Nat.min_eq_left Wm,zA]
theorem zkw(h:k=m.sp.length):J8 m k=zgU m m.sp 0:=by unfold J8;rw[h,List.take_length]
def Zc(m:Ma)(n:Nat):List Int:=(Yc n).flatMap (zoc m)
theorem zlf(m:Ma)(n:Nat):Zc m (n+1)=Zc m n++zoc m n:=by unfold Zc;rw[List.range_succ,Xy];simp
theorem zaZ{rest:List Oper}{a:Act}{w:Xn}(i:o.guard=Xb)(s x:Operand)(z:o.op=.call {callee:=.builtin .append,args:=#[s,x],argTypes:=#[24,24]})(v:Xq)(b:List Int)(C:a.eval s=v)(j:zb byE w0.heap.size w v b)(u:Xq)(l:List Int)(B:a.eval x=u)(y:zs byE w u l)(k:b.length+l.length<=100000000)(m:zc w0 w)(c:List Int)(e:b++l=c)
  (r:∀(f:Option Addr)(n g:Nat)w',Xo (n=c.length)->Xo (zb byE w0.heap.size w' (O f n g) c)->Xo (zc w0 w')->(∀p t cs,t≠5->zt w p t cs->zt w' p t cs)->wpList prog ops Q rest (a.put o.dst (O f n g)) w'):wpList prog ops Q (o::rest) a w:=by subst e;refine zq (E:=byE) i s x z w0.heap.size v b C j u l B y (by show(b.length+l.length)*1<=_;omega) (bS m) ?_;intro F D own d;obtain⟨f,g,rfl⟩:=own.form;exact r f _ g D (show _=_ from rfl) own (zW m d (fun q h=>(j.lt q h).1)) (fun p t cs A k=>zt.row j d k A)
theorem zdz(V)(m:Ma)(w)(i:zK w V m)(c:maW m=0)(d:∀s∈m.sp,qT m.fl.length s.aC):
  Xp prog 44 #[Xi (mL V m).toArray] w fun e w'=>e=Xl (.string (strOfNums (zkx m)))/\zc w w':=by
 have b:=dD i;have y:=dD<|fun W(p:Int)(n:Int)(a:zc w W)=>zdy V m p n W (b.aA a) c d;have b9:=dD<|fun W(f:Int)(a:zc w W)=>zac V m f W (b.aA a) c;have bp:Xo (∀f,(Zx m f).length<=1000):=dD<|fun f=>by
  unfold Zx;split
  ·unfold zj9;rw[Xs,List.length_range];have:QJ m f<=96:=by
    unfold QJ;rw[gD];cases a:m.fl[f.toNat]? with
    |none=>simp
    |some x=>simpa using(zqm c a).1.2
   omega
  simp
 have B:=dD<|ze6 (ZA c);have ao:Xo (zkx m=J8 m m.sp.length++Zc m m.fl.length):=show _=_ by rw[zkw rfl];rfl
 have t:=(zaa c).1.aI;have z:m.fl.length<=5:=by
  have a:=ZA c;unfold Jy at a;rw[zk]at a;have b:=((z8 _ _).1 (a (stW m.fl m.cnt) Sm)).1;omega
 obtain⟨-,-,-,-,-,-,j,-,k⟩:=i.ns;obtain⟨Q,h,a,g⟩:=i.aM;obtain⟨R,S,N,P,K,L,⟨A,M,C⟩,H,⟨F,D,G⟩⟩:=V;dsimp only[mL]at j k a y b9⊢;have r:=dD j.symm;have b:=dD k.symm;rw[<-j]at z;rw[<-k]at t;rw[r.out,b.out]at ao;have r:Xo (Q.length=D):=show _=_ by rw[h];exact b.out
 have t:=dD a;have z:=dD g;clear i j k h a g c d;obtain⟨c,a⟩:=kB (w.alloc (Xk #[R.x,I6 m.aB,S.x,N.x,P.x,K.x,L.x,O A M C,I6 m.cnt,H.x,O F D G] 41));have b8:=gA a;have g:=xA a;have d:=dD a;clear a;go_enter func44,ntmps44;go_upto_region 2 with fail;rw[d.out];have Z:=g.c 10 rfl;go_upto_region 3 with fail;clear Z;go_loopg[3,19] D (fun aa Y j wr=>∃(p F:Nat)(a0:Option Addr)(a1:Nat),p<=D/\D-p<=aa/\F<=2000*p/\j=I6 p/\Y=O a0 F a1/\Xo (F=(J8 m p).length)/\Xo (zc c wr)/\Xo (zb byE c.heap.size wr (O a0 F a1) (J8 m p)))
 exact⟨0,0,Xb,0,nZ _,Wm,Wm,rfl,rfl,rfl,zc.refl _,zb.nil _ _ _⟩;obtain⟨p,F,a0,a1,a,a,a,rfl,rfl,P,aj,ak⟩:=hrel;by_cases ab:p<D
 ·have bj:=kC ab
  obtain⟨s,C⟩:∃s,Xo (m.sp[p]?=Xa s):=⟨_,gE (Rx b.out ab)⟩;obtain⟨x,T⟩:∃x,Q[p]?=Xa x:=⟨_,gE (Rx r.out ab)⟩;have r:=dD<|z.out p x s T C.out;obtain⟨a,a,b⟩:=t.out p x T;obtain⟨d,h,i,k,t,z,A,G,K,N⟩:=b wr (b8.trans aj);subst a;clear b T;go_upto_region 5 with fail;obtain⟨L,b⟩:=kA wr.heap.size;refine nW fun bf a=>?_;have aw:=gP a;have H:=xPT a b;have br:=dD (aj.trans aw);have b6:=dD (ak.aA aw);rw[b.out];clear a aw d h i k t z A G K N;obtain⟨d,h⟩:=kA (J8 m p);rw[h.out]at b6 P;rw[P.out]at b6⊢;obtain⟨a,i⟩:∃a:List Int,Xo (d++[112]=a):=⟨d++[112],rfl⟩;have t:Xo (a.length<=2000*p+1):=show _<=_ by rw[<-i.out];have:=P.out;simp;omega
  obtain⟨k,b⟩:∃k:List Int,Xo (a++(if s.aF=Xc then[108]else[])=k):=⟨a++(if s.aF=Xc then[108]else[]),rfl⟩;have A:Xo (k.length<=2000*p+2):=dD (by rw[<-b.out];have:=t.out;split<;>simp<;>omega);go_wp2_with(at_builtin;refine zaZ (w0:=c) rfl (.tmp 24) (.tmp 25) rfl _ d rfl (b6.aA (za _ _)) _ [112] rfl (qK byE bf 112 _ _ rfl Dc) (by have:=P.out;show d.length+1<=_;omega) (br.trans (za _ _)) a i.out ?_)
  intro N K Q bo d bc bb z;have G:Xo (zt bo L 63 [Xh x.aF,x.ar.x,x.t0.x,x.t1.x,x.t2.x,x.t3.x,x.t4.x,x.t5.x,x.t6.x,x.t7.x]):=z _ _ _ Dc (H.aA (za _ _));clear z;have bq:Xo (J8 m (p+1)=k++qm m p s 64):=dD (by rw[zix C.out,h.out,<-b.out,<-i.out];simp);have h:=G.box.c 0 rfl;obtain⟨i,H⟩:=kA s.aF;rw[r.aF,H.out]at h;go_upto_if 28 with fail
  clear h;go_cut[3,19]from 19 to 92 (fun Y j h=>j=I6 p/\∃(a0:Option Addr)(F a1:Nat),Y=O a0 F a1/\Xo (F=k.length)/\Xo (zb byE c.heap.size h (O a0 F a1) k)/\Xo (zt h L 63 [Xh x.aF,x.ar.x,x.t0.x,x.t1.x,x.t2.x,x.t3.x,x.t4.x,x.t5.x,x.t6.x,x.t7.x])/\Xo (zc c h))
  case first=>
   cases i with
   |false=>
    have h:Xo (k=a):=dD (by rw[<-b.out,kF (by rw[H.out];decide),Xt]);go_wp2;go_meet;exact⟨rfl,N,K,Q,rfl,Rx h.out d,Rx h.out bc,G,bb⟩
   |true=>
    have h:Xo (a++[108]=k):=dD (by rw[<-b.out,kE H.out]);go_wp2_with(at_builtin;refine zaZ (w0:=c) rfl (.tmp 29) (.tmp 30) rfl _ a rfl (bc.aA (za _ _)) _ [108] rfl (qK byE bo 108 _ _ rfl Dc) (by have:=t.out;show a.length+1<=_;omega) (bb.trans (za _ _)) k h.out ?_)
    intro d b h bw a bd b5 i;have t:Xo (zt bw L 63 [Xh x.aF,x.ar.x,x.t0.x,x.t1.x,x.t2.x,x.t3.x,x.t4.x,x.t5.x,x.t6.x,x.t7.x]):=i _ _ _ Dc (G.aA (za _ _));clear i;go_wp2;go_meet;exact⟨rfl,d,b,h,rfl,a,bd,t,b5⟩
  case rest=>
  obtain⟨rfl,d,b,h,rfl,a,bd,t,b5⟩:=hcut;have j:=dD<|(qU.1 (B.ar s (mG C)).1).2;have i:=jF (x.ar.x) s.aC wc (r.ar.aA (b8.trans b5)) j.bZ;have j:=t.box.c 1 rfl;go_wp2_with fail;refine i.mono ?_;clear i j;rintro b7 i⟨rfl,j⟩;have r:=dD (b5.trans j);have t:Xo (zb byE c.heap.size i (O d b h) (k++qm m p s 0)):=show zb _ _ _ _ _ by
   rw[show qm m p s 0=[]from rfl,Xt];exact bd.aA j
  have i:Xo (b=(k++qm m p s 0).length):=dD<|by
   rw[show qm m p s 0=[]from rfl,Xt];exact a.out
  clear j;go_upto_region 9 with fail;go_loopg[3,35] 64 (fun aa Y a wr=>∃(n F:Nat)(a0:Option Addr)(a1:Nat),n<=64/\64-n<=aa/\F<=2000*p+2+16*n/\a=I6 n/\Y=O a0 F a1/\Xo (F=(k++qm m p s n).length)/\Xo (zc c wr)/\Xo (zb byE c.heap.size wr (O a0 F a1) (k++qm m p s n)))
  exact⟨0,b,d,h,Wm,Wm,by have:=i.out;have:=A.out;simp[qm]at*;omega,rfl,rfl,i,r,t⟩;obtain⟨n,cg,ch,ci,a,a,a,rfl,rfl,Q,aj,ak⟩:=hrel;by_cases d:n<64
  ·have ay:(n:Int)<64:=Wm
   obtain⟨a,t⟩:=kA (zl s.aC n);have j:Value.agg (onv (zl s.aC n)).toArray=Xi #[Xh a.is,Xh a.rd,Xh a.wr,Xh a.sh,I6 a.file,I6 a.page]:=Rr t.out;obtain⟨h,b⟩:∃h:List Int,Xo (k++qm m p s n=h):=⟨_,rfl⟩;have an:Xo (k++qm m p s (n+1)=h++zkH m p s n):=dD (by rw[zkF,<-Xz,b.out]);rw[b.out]at ak Q;go_upto_region 11 with(refine zbq rfl (.tmp 34) (.tmp 35) rfl (zl s.aC) rfl n rfl d j ?_)
   obtain⟨X,i⟩:=kA wr.heap.size;refine nW fun r d=>?_;have a7:=gP d;have z:=xPT d i;have b:=dD (aj.trans a7);have W:=dD (ak.aA a7);rw[i.out];clear d a7 j;have j:=z.box.c 0 rfl;cases d:a.is with
   |false=>
    rw[d]at j;have R:Xo (k++qm m p s (n+1)=h):=dD<|by
     rw[an.out];unfold zkH;rw[t.out,kE d,Xt]
    clear d;go_wp2;go_roundg (64-(n+1));exact⟨n+1,cg,ch,ci,Wm,Wm,Wm,Gn,rfl,Rx R.out Q,b,Rx R.out W⟩;omega
   |true=>
    rw[d]at j;have i:=y.out r (p:Int) (n:Int) (b8.trans b);obtain⟨c1,c2,c3,c4,c5,c6,c7,bm,c8,c9,Z⟩:=(g.aA b).k11;go_wp2_with fail;refine i.mono ?_;clear i j c1 c2 c3 c4 c5 c6 c7 bm c8 c9 Z;rintro b7 a8⟨rfl,i,r⟩;obtain⟨⟨a9,ax,A⟩,j⟩:∃y,Xo (jS m (p:Int) (n:Int)=y):=⟨_,rfl⟩;rw[j.out]at i⊢;obtain⟨B,C,G,K,L,N,S,U,y⟩:=zch a9 i;subst y;have am:Xo (zkH m p s n=[(n:Int),A%256,a.file%256,a.page%256]++[B,C,G,K,L,N,S,U]++[yn a.rd,yn a.wr,yn a.sh,yn (ax&&decide (0<=a.file))]):=dD<|by
     unfold zkH;rw[t.out,kF (by rw[d];decide),j.out]
    have y:=dD (b.trans r);have a9:=dD (W.aA r);have t:=dD (z.aA r);clear r i d;simp only[J4,pgc,mP,Ya];go_upto_region 13 with fail;obtain⟨au,d⟩:=kA a8.heap.size;refine nW fun i b=>?_;have j:=gP b;have z:=xPT b d;have ar:=dD (y.trans j);have al:=dD (a9.aA j);have r:=dD (t.aA j);rw[d.out];clear b j;have b:h.length<=20000:=Hm Q.out;obtain⟨b,t⟩:∃b:Xn->Prop,Xo (∀y,b y↔(zt y au 44 [U8 B,U8 C,U8 G,U8 K,U8 L,U8 N,U8 S,U8 U]/\zt y X 67 [Xh a.is,Xh a.rd,Xh a.wr,Xh a.sh,I6 a.file,I6 a.page])):=⟨_,fun _=>Iff.rfl⟩;have W:b i.drew:=(t _).2 ⟨z.aA (gW _),r.aA (gW _)⟩;have a9:zc i i.drew:=show Below _ _ _ from(bR _ _).drew;have ap:Nonempty (zg b):=⟨⟨_,W⟩⟩;have af:=fun z:zg b=>((t _).1 z.holds).2.box.c 4 rfl;have ag:=fun z:zg b=>((t _).1 z.holds).2.box.c 5 rfl;refine zN (I:=b) 15 [(11,fun r=>∃av,r=O (Xa ⟨av,0,Xb⟩) 4 4),(12,fun r=>∃s:Sli,r=s.x),(14,fun r=>∃s:Sli,r=s.x)] (fun y=>zc i y) W a9 z0 Kr rfl rfl Dc (Sc ⟨_,0,rfl⟩ ⟨_,zQ,rfl⟩ ⟨_,zQ,rfl⟩) Kr ?_;simp only[List.take,List.drop];iterate 11 refine zj ?_
    refine zC rfl rfl (fun r y=>zc i y/\zs byE y r [(n:Int),A%256,a.file%256,a.page%256]) (fun w' i d=>?_) (fun az ah=>?_);·obtain⟨T,ai⟩:=(t _).1 i;refine zJ.step (v:=O (Xa ⟨w'.heap.size,0,Xb⟩) 4 4) (w':=w'.alloc (Xk #[U8 (n:Int),U8 (A%256),U8 (a.file%256),U8 (a.page%256)] 5)) (by clear af ag;simp only[execOp];go_simp) ⟨(t _).2 ⟨T.aA (za _ _),ai.aA (za _ _)⟩,⟨_,rfl⟩,d.trans (za _ _),zdu byE w' [(n:Int),A%256,a.file%256,a.page%256] _ rfl (show 4*1<=_ by decide)⟩
    obtain⟨a7,rfl⟩:=ah;refine Uq ?_;refine zC rfl rfl (fun r y=>zc c y/\zb byE c.heap.size y r (h++[(n:Int),A%256,a.file%256,a.page%256])) (fun w' i d=>?_) (fun az ah=>?_)
    ·obtain⟨T,ai⟩:=(t _).1 i;obtain⟨x,X⟩:=d;obtain⟨ba,aq,j,ae,b,b0⟩:=qj (E:=byE) (w:=w') 24 (al.aA x) (O (Xa ⟨a7,0,Xb⟩) 4 4) [(n:Int),A%256,a.file%256,a.page%256] X (by show(h.length+4)*1<=_;omega) (nT (bS ar) (bS x));obtain⟨a7,a8,rfl⟩:=ae.form;refine zJ.step (w':=aq) (v:=.slice a7 (h++[(n:Int),A%256,a.file%256,a.page%256]).length a8) ?_ ⟨(t _).2 ⟨zt.row (al.aA x) b T Dc,zt.row (al.aA x) b ai Dc⟩,⟨⟨a7,_,a8⟩,rfl⟩,zc.row (al.aA x) b (ar.trans x),ae⟩;simp only[execOp,resolve,invoke,builtin,pure_bind,Yb,Sem.run_pure,List.map_toArray,mP,Ya];exact Eq.trans (congrArg (fun b7=>Result.andThen b7 (fun al w'=>Result.ok (Next.value al) w')) j) rfl
    obtain⟨ar,rfl⟩:=ah;refine Uq ?_;refine zj ?_;refine zC rfl rfl (fun r y=>zc c y/\zb byE c.heap.size y r ((h++[(n:Int),A%256,a.file%256,a.page%256])++[B,C,G,K,L,N,S,U])) (fun w' i d=>?_) (fun az ah=>?_)
    ·obtain⟨T,ai⟩:=(t _).1 i;obtain⟨x,X⟩:=d;obtain⟨ba,aq,j,ae,b,b0⟩:=qj (E:=byE) (w:=w') 24 X (O (Xa ⟨au,0,Xb⟩) 8 8) [B,C,G,K,L,N,S,U] (zqC byE T.box [B,C,G,K,L,N,S,U] rfl (show 8*1<=_ by decide)) (by simp only[lA];show(h.length+4+8)*1<=_;omega) (bS x);obtain⟨a7,a8,rfl⟩:=ae.form;refine zJ.step (w':=aq) (v:=.slice a7 ((h++[(n:Int),A%256,a.file%256,a.page%256])++[B,C,G,K,L,N,S,U]).length a8) ?_ ⟨(t _).2 ⟨zt.row X b T Dc,zt.row X b ai Dc⟩,⟨⟨a7,_,a8⟩,rfl⟩,zc.row X b x,ae⟩;simp only[execOp,resolve,invoke,builtin,pure_bind,Yb,Sem.run_pure,List.map_toArray,mP,Ya];exact Eq.trans (congrArg (fun b7=>Result.andThen b7 (fun al w'=>Result.ok (Next.value al) w')) j) rfl
    obtain⟨bk,rfl⟩:=ah;refine Uq ?_;refine qn fun bg d b=>?_;obtain⟨r,T⟩:∃r:List Int,Xo ((h++[(n:Int),A%256,a.file%256,a.page%256])++[B,C,G,K,L,N,S,U]=r):=⟨_,rfl⟩;have ca:=dD b.1;have cb:Xo (zb byE c.heap.size bg (bk.x) r):=show zb _ _ _ _ _ by rw[<-T.out];exact b.2
    have h:=dD<|((t _).1 d).2;have ah:Xo (r.length<=2000*p+2+16*n+12):=show _<=_ by rw[<-T.out];have:=Q.out;simp;omega
    have ai:Xo (r.length<=20020):=dD (by rw[<-T.out];simp;omega);clear d b W a9 ap af ag;have cc:=h.box.c 1 rfl;have cd:=h.box.c 2 rfl;have ce:=h.box.c 3 rfl;have cf:=h.box.c 4 rfl;cases ax with
    |false=>
     have R:Xo (k++qm m p s (n+1)=r++[yn a.rd,yn a.wr,yn a.sh,yn (Xd)]):=dD<|by
      rw[an.out,am.out,<-T.out];simp
     go_upto_region 15 with fail;obtain⟨af,U⟩:=kA bg.heap.size;refine nW fun bh A=>?_;have ax:=gP A;have bv:=xPT A U;have bt:=dD (ca.trans ax);have bu:=dD (cb.aA ax);rw[U.out];clear A ax cc cd ce cf;obtain⟨b,G⟩:∃b:List Bool,Xo (b=[a.rd,a.wr,a.sh,Xd]):=⟨_,rfl⟩;have C:Xo (k++qm m p s (n+1)=r++b.map yn):=show _=_ by rw[R.out,G.out];rfl
     have aq:Xo (zt bh af 4 (b.map Value.bool)):=dD<|Rx G.out bv.out;have h:Xo (b.length=4):=dD<|Rr G.out;have ap:Xo (zb byE c.heap.size bh (bk.x) (r++(b.map yn).take 0)):=dD<|Si bu.out
     skip
     go_loopg[3,79] 4 (fun aa Y b0 wr=>∃(j:Nat)(t:Sli),j<=4/\4-j<=aa/\b0=I6 j/\Y=t.x/\Xo (zc c wr)/\Xo (zt wr af 4 (b.map Value.bool))/\Xo (zb byE c.heap.size wr (t.x) (r++(b.map yn).take j)))
     exact⟨0,bk,Wm,Wm,rfl,rfl,bt,aq,ap⟩;obtain⟨j,t,cj,c0,rfl,rfl,i,au,S⟩:=hrel;by_cases X:j<4
     ·have N:(j:Int)<4:=Wm
      obtain⟨z,ba⟩:∃z,Xo (b[j]?=Xa z):=⟨_,gE (Rx h.out X)⟩;have K:Xo ((r++(b.map yn).take j)++[yn z]=r++(b.map yn).take (j+1)):=dD (by rw[qQ (l:=b.map yn) (q:=yn z) (by rw[Xu,ba.out];rfl)];simp);have y:=au.box.c j (u:=Xh z) (by rw[Xu,ba.out];rfl);have L:Xo ((r++(b.map yn).take j).length<=30000):=dD<|by
       have:=ai.out;simp only[lA,Xv];omega
      generalize r++(b.map yn).take j=x at S K L;have bi:x.length<=30000:=L.out;cases z with
      |true=>
       go_wp2_with(at_builtin;refine zaZ (w0:=c) rfl (.tmp 84) (.tmp 85) rfl _ x rfl (S.aA (za _ _)) _ [121] rfl (qK byE wr 121 _ _ rfl Dc) (by show x.length+1<=_;omega) (i.trans (za _ _)) _ (show x++[121]=_ from K.out) ?_)
       intro ag ae B al a7 a9 a8 d;have ar:Xo (zt al af 4 (b.map Value.bool)):=dD<|d _ _ _ Dc (au.aA (za _ _));clear d y;go_wp2;go_roundg (4-(j+1));exact⟨j+1,⟨ag,ae,B⟩,Wm,Wm,Gn,rfl,a8,ar,a9⟩;omega
      |false=>
       go_wp2_with(at_builtin;refine zaZ (w0:=c) rfl (.tmp 87) (.tmp 88) rfl _ x rfl (S.aA (za _ _)) _ [110] rfl (qK byE wr 110 _ _ rfl Dc) (by show x.length+1<=_;omega) (i.trans (za _ _)) _ (show x++[110]=_ from K.out) ?_)
       intro ag ae B al a7 a9 a8 d;have ar:Xo (zt al af 4 (b.map Value.bool)):=dD<|d _ _ _ Dc (au.aA (za _ _));clear d y;go_wp2;go_roundg (4-(j+1));exact⟨j+1,⟨ag,ae,B⟩,Wm,Wm,Gn,rfl,a8,ar,a9⟩;omega
     have N:¬(j:Int)<4:=Wm;have:j=4:=Wm;subst this;have be:Xo (zb byE c.heap.size wr (t.x) (k++qm m p s (n+1))):=dD<|by
      rw[C.out];have:=S.out;rw[Xw (by rw[Xs,h.out];exact nR _)]at this;exact this
     have W:=dD be.n;have az:t.n<=2000*p+2+16*(n+1):=by
      rw[W.out,C.out,lA,Xs,h.out];have:=ah.out;omega
     go_wp2;go_roundg (64-(n+1));exact⟨n+1,t.n,t.a,t.c,Wm,Wm,az,Gn,rfl,W,i,be⟩;omega
    |true=>
     obtain⟨bx,bz⟩:=kB (decide (0<=a.file));rw[Bool.true_and,bz]at am;have R:Xo (k++qm m p s (n+1)=r++[yn a.rd,yn a.wr,yn a.sh,yn (bx)]):=dD<|by
      rw[an.out,am.out,<-T.out];simp
     go_upto_region 15 with fail;obtain⟨af,U⟩:=kA bg.heap.size;refine nW fun bh A=>?_;have ax:=gP A;have bv:=xPT A U;have bt:=dD (ca.trans ax);have bu:=dD (cb.aA ax);rw[U.out];clear A ax cc cd ce cf;obtain⟨b,G⟩:∃b:List Bool,Xo (b=[a.rd,a.wr,a.sh,bx]):=⟨_,rfl⟩;have C:Xo (k++qm m p s (n+1)=r++b.map yn):=show _=_ by rw[R.out,G.out];rfl
     have aq:Xo (zt bh af 4 (b.map Value.bool)):=dD<|Rx G.out bv.out;have h:Xo (b.length=4):=dD<|Rr G.out;have ap:Xo (zb byE c.heap.size bh (bk.x) (r++(b.map yn).take 0)):=dD<|Si bu.out
     skip
     go_loopg[3,79] 4 (fun aa Y b0 wr=>∃(j:Nat)(t:Sli),j<=4/\4-j<=aa/\b0=I6 j/\Y=t.x/\Xo (zc c wr)/\Xo (zt wr af 4 (b.map Value.bool))/\Xo (zb byE c.heap.size wr (t.x) (r++(b.map yn).take j)))
     exact⟨0,bk,Wm,Wm,rfl,rfl,bt,aq,ap⟩;obtain⟨j,t,cj,c0,rfl,rfl,i,au,S⟩:=hrel;by_cases X:j<4
     ·have N:(j:Int)<4:=Wm
      obtain⟨z,ba⟩:∃z,Xo (b[j]?=Xa z):=⟨_,gE (Rx h.out X)⟩;have K:Xo ((r++(b.map yn).take j)++[yn z]=r++(b.map yn).take (j+1)):=dD (by rw[qQ (l:=b.map yn) (q:=yn z) (by rw[Xu,ba.out];rfl)];simp);have y:=au.box.c j (u:=Xh z) (by rw[Xu,ba.out];rfl);have L:Xo ((r++(b.map yn).take j).length<=30000):=dD<|by
       have:=ai.out;simp only[lA,Xv];omega
      generalize r++(b.map yn).take j=x at S K L;have bi:x.length<=30000:=L.out;cases z with
      |true=>
       go_wp2_with(at_builtin;refine zaZ (w0:=c) rfl (.tmp 84) (.tmp 85) rfl _ x rfl (S.aA (za _ _)) _ [121] rfl (qK byE wr 121 _ _ rfl Dc) (by show x.length+1<=_;omega) (i.trans (za _ _)) _ (show x++[121]=_ from K.out) ?_)
       intro ag ae B al a7 a9 a8 d;have ar:Xo (zt al af 4 (b.map Value.bool)):=dD<|d _ _ _ Dc (au.aA (za _ _));clear d y;go_wp2;go_roundg (4-(j+1));exact⟨j+1,⟨ag,ae,B⟩,Wm,Wm,Gn,rfl,a8,ar,a9⟩;omega
      |false=>
       go_wp2_with(at_builtin;refine zaZ (w0:=c) rfl (.tmp 87) (.tmp 88) rfl _ x rfl (S.aA (za _ _)) _ [110] rfl (qK byE wr 110 _ _ rfl Dc) (by show x.length+1<=_;omega) (i.trans (za _ _)) _ (show x++[110]=_ from K.out) ?_)
       intro ag ae B al a7 a9 a8 d;have ar:Xo (zt al af 4 (b.map Value.bool)):=dD<|d _ _ _ Dc (au.aA (za _ _));clear d y;go_wp2;go_roundg (4-(j+1));exact⟨j+1,⟨ag,ae,B⟩,Wm,Wm,Gn,rfl,a8,ar,a9⟩;omega
     have N:¬(j:Int)<4:=Wm;have:j=4:=Wm;subst this;have be:Xo (zb byE c.heap.size wr (t.x) (k++qm m p s (n+1))):=dD<|by
      rw[C.out];have:=S.out;rw[Xw (by rw[Xs,h.out];exact nR _)]at this;exact this
     have W:=dD be.n;have az:t.n<=2000*p+2+16*(n+1):=by
      rw[W.out,C.out,lA,Xs,h.out];have:=ah.out;omega
     go_wp2;go_roundg (64-(n+1));exact⟨n+1,t.n,t.a,t.c,Wm,Wm,az,Gn,rfl,W,i,be⟩;omega
  have ay:¬(n:Int)<64:=Wm;have:n=64:=Wm;subst this;rw[<-bq.out]at ak Q;go_wp2;go_roundg (D-(p+1));exact⟨p+1,cg,ch,ci,Wm,Wm,Wm,Gn,rfl,Q,aj,ak⟩;omega
 have bj:=kD ab;have:p=D:=Wm;subst this;have bm:=(g.aA aj).c 7 rfl;obtain⟨b,a⟩:∃b:List Int,Xo (J8 m p=b):=⟨_,rfl⟩;rw[a.out]at ak P ao;have j:b.length<=8000:=Hm P.out;have a:Xo (zb byE c.heap.size wr (O a0 F a1) (b++Zc m 0)):=dD<|by
  rw[show Zc m 0=[]from rfl,Xt];exact ak.out
 go_upto_region 24 with fail;clear bm;obtain⟨h,h⟩:=kB wr;rw[h]at a aj⊢;clear h;go_loopg[3,97] M (fun aa Y h wr=>∃(f:Nat)(t:Sli),f<=M/\M-f<=aa/\h=I6 f/\Y=t.x/\Xo (zc c wr)/\Xo (zb byE c.heap.size wr (t.x) (b++Zc m f))/\Xo ((b++Zc m f).length<=8000+1002*f))
 exact⟨0,⟨a0,F,a1⟩,Wm,Wm,rfl,rfl,aj,a,show _<=_ by simpa[Zc]using j⟩;obtain⟨f,t,a,a,rfl,rfl,i,S,H⟩:=hrel;by_cases h:f<M
 ·have k:=kC h
  have a:=b9.out wr (f:Int) (b8.trans i);obtain⟨c1,c2,c3,c4,c5,c6,c7,bm,c8,c9,Z⟩:=(g.aA i).k11;go_wp2_with fail;refine a.mono ?_;clear a c1 c2 c3 c4 c5 c6 c7 bm c8 c9 Z;rintro b7 bf⟨⟨y,rfl,g⟩,aw⟩;obtain⟨C,D,rfl⟩:=g.form;have n:=bp.out (f:Int);have a:Xo (b++Zc m (f+1)=((b++Zc m f)++[102,((Zx m (f:Int)).length:Int)%256])++Zx m (f:Int)):=dD<|by
   rw[zlf];unfold zoc;simp
  obtain⟨y,j⟩:=kA (Zx m (f:Int));rw[j.out]at g n a⊢;have br:=dD (i.trans aw);have b6:=dD (S.aA aw);have r:=dD g;have L:=dD<|fun av(z:(t.x).ownBlock=Xa av)=>(S.lt av z).2;clear g aw;generalize b++Zc m f=x at b6 a H;have bi:x.length<=20000:=Hm H.out;obtain⟨p,j⟩:=kA y.length;rw[j.out]at r n a⊢;obtain⟨bo,g⟩:=kB (bf.alloc (Xk #[U8 102,U8 ((p:Int)%256)] 5));have n:=gP g;have A:Xo (zs byE bo (O (Xa ⟨bf.heap.size,0,Xb⟩) 2 2) [102,(p:Int)%256]):=dD (by rw[<-g];exact zdu byE bf [102,(p:Int)%256] _ rfl (show 2*1<=_ by decide));have bb:=dD (br.trans n);have bc:=dD (b6.aA n);have t:=dD (r.aA n);have r:=dD g;clear g n;go_wp2_with(at_builtin;rw[r.out];refine zq (E:=byE) rfl (.tmp 106) (.tmp 110) rfl c.heap.size _ x rfl bc _ [102,(p:Int)%256] rfl A (by show(x.length+2)*1<=_;omega) (bS bb) ?_)
  intro g bw n g;have b5:=dD<|zc.row bc g bb.out;have r:Xo (zb byE wr.heap.size bw (O C p D) y):=dD<|t.grown g (fun av z e=>by have:=L.out av e;have:=(t.lt av z).1;omega);obtain⟨t,t,rfl⟩:=n.form;have bd:=dD n;clear n g;go_wp2_with(at_builtin;refine zaZ (w0:=c) rfl (.tmp 111) (.tmp 112) rfl _ (x++[102,(p:Int)%256]) rfl bd _ y rfl r.at (by simp only[lA];show x.length+2+_<=_;have:=j.out;omega) b5 _ a.symm ?_)
  intro ag ae B al a7 a9 a8 d;have c:Xo ((b++Zc m (f+1)).length<=8000+1002*(f+1)):=dD<|by
   rw[a.out];have:=H.out;have:=j.out;simp only[lA,List.length_cons,List.length_nil];omega
  clear d;go_wp2;go_roundg (M-(f+1));exact⟨f+1,⟨ag,ae,B⟩,Wm,Wm,Gn,rfl,a8,a9,c⟩;omega
 have k:=kD h;have:f=M:=Wm;subst this;have a:=zes S.at;rw[<-ao.out]at a;have a:=dD (b8.trans i);go_wp2;go_ret;exact⟨rfl,a⟩
theorem zme(V V')(m m':Ma)(p n:Int)(a4:Bool)(w)(cf:zK w V m)(M:zK w V' m')(bk:Rt m)(aj:Rt m')(dg:∀s∈m.sp,qT m.fl.length s.aC)(ao:∀s∈m'.sp,qT m'.fl.length s.aC)(hS:a4=Xd->zkx m'=zkx m)
  (df:a4=Xc->∀q i:Nat,q<m.sp.length->i<64->(qZ m' (q:Int) (i:Int)).2.2=(qZ m (q:Int) (i:Int)).2.2/\(qZ m' (q:Int) (i:Int)).1=(qZ m (q:Int) (i:Int)).1/\(¬((q:Int)=p/\(i:Int)=n)->(qZ m' (q:Int) (i:Int)).2.1=(qZ m (q:Int) (i:Int)).2.1))(de:a4=Xc->∀f:Nat,f<m.fl.length->Zx m' (f:Int)=Zx m (f:Int))(di:a4=Xc->m'.sp.length=m.sp.length):
  Xp prog 15 #[Xi (mL V m).toArray,Xi (mL V' m').toArray,I6 p,I6 n,Xh a4] w fun e w'=>e=Xl (Xh Xc)/\zc w w':=by
 have ds:=dD cf;have dq:=dD M;have bv:=dD bk;have G:=dD aj;have d8:=dD dg;have a8:=dD ao;obtain⟨-,-,-,-,-,-,dk,-,dl⟩:=cf.ns;obtain⟨-,-,-,-,-,-,-,-,dm⟩:=M.ns;have bt:=dD dk;have a9:=dD dl;have bu:=dD dm;have du:=show Xo _ from df;have dp:=show Xo _ from de;have dr:=show Xo _ from di;have dt:=show Xo _ from hS;have D:=bk.inv.aI;have ap:=((z8 _ _).1 bk.inv.st).1.1;clear cf M bk aj dg ao hS df de di dk dl dm;obtain⟨b,E⟩:=kA w.heap.size;obtain⟨a,u⟩:=kB ((w.alloc (Xk (mL V m).toArray 41)).alloc (Xk (mL V' m').toArray 41));have b8:=gD2 u;have d:Xo (zt a b 41 (mL V m)):=dD<|by rw[<-u];exact(zt.aE w (mL V m) _ E.symm).aA (za _ _)
 have j:Xo (zt a (b+1) 41 (mL V' m')):=dD<|by rw[<-u];exact zt.aE _ (mL V' m') _ (by have:=E.out;simp;omega)
 have bl:=dD (ds.aA b8);have c0:=dD (dq.aA b8);have bx:=dD u;clear u;go_enter func15,ntmps15;go_upto_region 1 with fail;rw[bx.out,E.out];cases a4 with
 |false=>
  have au:=dt.out (by trivial);have a6:=dD<|fun W(cc:zc a W)=>zdz V m W (bl.aA cc) bv.w d8.out;have a7:Xo (∀W,zc a W->Xp prog 44 #[Xi (mL V' m').toArray] W fun e w'=>e=Xl (.string (strOfNums (zkx m)))/\zc W w'):=dD<|fun W cc=>by
   have:=zdz V' m' W (c0.aA cc) G.w a8.out;rw[au]at this;exact this
  generalize strOfNums (zkx m)=d9 at a6 a7;have ch:=fun y:zf a=>(d.box.aA y.aA).c 0 rfl;have ci:=fun y:zf a=>(d.box.aA y.aA).c 1 rfl;have cj:=fun y:zf a=>(d.box.aA y.aA).c 2 rfl;have ck:=fun y:zf a=>(d.box.aA y.aA).c 3 rfl;have cl:=fun y:zf a=>(d.box.aA y.aA).c 4 rfl;have cm:=fun y:zf a=>(d.box.aA y.aA).c 5 rfl;have cn:=fun y:zf a=>(d.box.aA y.aA).c 6 rfl;have co:=fun y:zf a=>(d.box.aA y.aA).c 7 rfl;have cp:=fun y:zf a=>(d.box.aA y.aA).c 8 rfl;have cq:=fun y:zf a=>(d.box.aA y.aA).c 9 rfl;have av:=fun y:zf a=>(d.box.aA y.aA).c 10 rfl;have cs:=fun y:zf a=>(j.box.aA y.aA).c 0 rfl;have ct:=fun y:zf a=>(j.box.aA y.aA).c 1 rfl;have cu:=fun y:zf a=>(j.box.aA y.aA).c 2 rfl;have cv:=fun y:zf a=>(j.box.aA y.aA).c 3 rfl;have cw:=fun y:zf a=>(j.box.aA y.aA).c 4 rfl;have cx:=fun y:zf a=>(j.box.aA y.aA).c 5 rfl;have cy:=fun y:zf a=>(j.box.aA y.aA).c 6 rfl;have cz:=fun y:zf a=>(j.box.aA y.aA).c 7 rfl;have d0:=fun y:zf a=>(j.box.aA y.aA).c 8 rfl;have d1:=fun y:zf a=>(j.box.aA y.aA).c 9 rfl;have aw:=fun y:zf a=>(j.box.aA y.aA).c 10 rfl;have cg:Nonempty (zf a):=⟨⟨_,zc.refl _⟩⟩;clear au;go_upto_region 2 with fail;refine qP 6 [(1,⟨fun d6=>d6=.string d9,fun _ _=>True⟩),(3,⟨fun d6=>d6=.string d9,fun _ _=>True⟩)] z0 Kr rfl rfl Dc ?hS ?hp ?_;case hS=>
   intro ef ax;simp only[mC,nM,or_false]at ax;rcases ax with rfl|rfl<;>exact⟨_,rfl⟩
  case hp=>
   intro ef ax;simp only[mC,nM,or_false]at ax;rcases ax with rfl|rfl<;>exact fun _ _ _ _ _=>trivial
  simp only[List.take,List.drop];refine ZU rfl rfl rfl (fun bz ai=>?_);go_big_quiet_op;refine ai _ ?_;clear ai bz;refine zG rfl rfl (fun w' cd e2=>?_) (fun ed cr=>?_);·refine zJ.call [Xi (mL V m).toArray] rfl func44 rfl rfl rfl ?_;refine(a6 w' cd).mono ?_;rintro e d7⟨rfl,B⟩;exact⟨_,rfl,B,rfl,trivial⟩
  cases cr;refine Uq ?_;refine ZU rfl rfl rfl (fun bz ai=>?_);go_big_quiet_op;refine ai _ ?_;clear ai bz;refine zG rfl rfl (fun w' cd e2=>?_) (fun ed cr=>?_);·refine zJ.call [Xi (mL V' m').toArray] rfl func44 rfl rfl rfl ?_;refine(a7 w' cd).mono ?_;rintro e d7⟨rfl,B⟩;exact⟨_,rfl,B,rfl,trivial⟩
  cases cr;refine Uq ?_;iterate 2 refine ze ?_
  refine z2 fun eg db _=>?_;have dn:=dD (b8.trans (show zc _ _ from db));clear db cg ch ci cj ck cl cm cn co cp cq av cs ct cu cv cw cx cy cz d0 d1 aw;go_wp2;go_ret;exact⟨rfl,dn⟩
 |true=>
  obtain⟨R,H⟩:=kA m.sp.length;obtain⟨a3,F⟩:=kA m.fl.length;have e7:R<=4:=Ry H.out D;have e3:a3<=5:=by rw[<-F.out];omega
  clear D ap;have c:=d.box.c 10 rfl;(try simp only[Sli.x]at c);(try unfold Sli.x at c);rw[a9.out,H.out]at c;go_upto_region 4 with fail;clear c;go_loopg[34] R (fun c9 d2 wr=>∃q:Nat,q<=R/\R-q<=c9/\d2=I6 q/\Xo (zc a wr))
  exact⟨0,nZ _,Wm,rfl,zc.refl _⟩;obtain⟨q,es,e4,rfl,a5⟩:=hrel;by_cases g:q<R
  ·have ar:=kC g
   go_wp2;obtain⟨ei,al⟩:=kB wr;rw[al]at a5⊢;clear al;go_loopg[37] 64 (fun e1 d3 wr=>∃i:Nat,i<=64/\64-i<=e1/\d3=I6 i/\Xo (zc a wr))
   exact⟨0,nZ _,Wm,rfl,a5⟩;obtain⟨i,er,B,rfl,b9⟩:=hrel;by_cases aq:i<64
   ·have h:(i:Int)<64:=Wm
    have c4:=dD (d.aA b9);have v:=Jv V m (q:Int) (i:Int) wr (bl.aA b9) bv.w d8.out;obtain⟨S,T,U,X,Y,Z,I,x,a0,a1,c⟩:=c4.box.aY;go_wp2_with fail;refine v.mono ?_;clear v S T U X Y Z I x a0 a1 c;rintro e da⟨rfl,L,dc⟩;obtain⟨bi,bj,ag⟩:=du.out (by trivial) q i (Rx H.out g) aq;obtain⟨dy,bw⟩:=kA (qZ m (q:Int) (i:Int));obtain⟨dx,ae⟩:=kA (qZ m' (q:Int) (i:Int));rw[bw.out]at L bi bj ag⊢;(try unfold Sli.x at bi);(try unfold Sli.x at bj);(try unfold Sli.x at ag);rw[ae.out]at bi bj ag;obtain⟨f0,e8,eq⟩:=dy;obtain⟨ez,dj,ep⟩:=dx;simp only at bi bj ag;subst bi bj;obtain⟨⟨ba,bb,bc,bd,be,bf,bg,bh⟩,rfl⟩:=zq2 L;have bs:=dD ag;clear L ag;simp only[J4,pgL,pgc,Yd];go_upto_region 10 with fail;obtain⟨ew,ac⟩:=kA da.heap.size;obtain⟨c6,A⟩:=kB (da.alloc (Xk #[U8 ba,U8 bb,U8 bc,U8 bd,U8 be,U8 bf,U8 bg,U8 bh] 44));have dd:zc wr c6:=(by rw[<-A];exact dc.trans (za _ _));have e0:=xPT A ac;have bp:=dD (b9.trans dd);have c5:=dD (j.aA bp);rw[A,ac.out];clear A dc dd;have v:=Jv V' m' (q:Int) (i:Int) c6 (c0.aA bp) G.w a8.out;obtain⟨S,T,U,X,Y,Z,I,x,a0,a1,c⟩:=c5.box.aY;go_wp2_with fail;refine v.mono ?_;clear v S T U X Y Z I x a0 a1 c;rintro e af⟨rfl,_,ah⟩;rw[ae.out];simp only[J4,pgL,pgc,Yd];go_upto_region 11 with fail;obtain⟨ex,ad⟩:=kA af.heap.size;obtain⟨z,k⟩:=kB (af.alloc (Xk #[U8 ba,U8 bb,U8 bc,U8 bd,U8 be,U8 bf,U8 bg,U8 bh] 44));have r:zc c6 z:=(by rw[<-k];exact ah.trans (za _ _));have c8:=xPT k ad;have c7:=dD (e0.aA r);have t:=dD (bp.trans r);rw[k,ad.out];clear k ah r;go_cut[78] (fun d4 ee=>d4=Xh Xd/\ee=z)
    case first=>
     have e6:∀W,(Op.equalIn 10000 44 (Xi #[U8 ba,U8 bb,U8 bc,U8 bd,U8 be,U8 bf,U8 bg,U8 bh]) (Xi #[U8 ba,U8 bb,U8 bc,U8 bd,U8 be,U8 bf,U8 bg,U8 bh])).run prog W=.ok Xc W:=fun W=>by
      rw[ziH,decide_eq_true rfl]
     obtain⟨f1,f2,f3,f4,f5,f6,f7,f8⟩:=c7.box.c8;obtain⟨f9,fa,fb,fc,fd,fe,ff,fg⟩:=c8.box.c8;by_cases an:(q:Int)=p/\(i:Int)=n
     ·have et:((q:Int)!=p)=Xd:=by simp[an.1]
      have eu:((i:Int)!=n)=Xd:=(by simp[an.2]);clear an;cases e8<;>cases dj
      all_goals(go_wp2;go_meet;exact⟨rfl,rfl⟩)
     have ce:=bs.out an;subst ce;clear an;cases dj;all_goals(go_wp2;go_meet;exact⟨rfl,rfl⟩)
    case rest=>
    obtain⟨rfl,rfl⟩:=hcut;go_wp2;go_roundg (64-(i+1));exact⟨i+1,Wm,Wm,Gn,t⟩;omega
   have h:¬(i:Int)<64:=Wm;go_wp2;go_roundg (R-(q+1));exact⟨q+1,Wm,Wm,Gn,b9⟩;omega
  have ar:=kD g;have:q=R:=Wm;subst this;obtain⟨eh,ak⟩:=kB wr;rw[ak]at a5⊢;clear ak;have x:=(d.aA a5).box.c 7 rfl;(try simp only[Sli.x]at x);(try unfold Sli.x at x);rw[bt.out,F.out]at x;go_upto_region 16 with fail;clear x;go_loopg[85] a3 (fun c9 d5 wr=>∃l:Nat,l<=a3/\a3-l<=c9/\d5=I6 l/\Xo (zc a wr))
  exact⟨0,nZ _,Wm,rfl,a5⟩;obtain⟨l,e5,dh,rfl,a2⟩:=hrel;by_cases g:l<a3
  ·have h:=kC g
   have c4:=dD (d.aA a2);have am:=zac V m l wr (bl.aA a2) bv.w;obtain⟨S,T,U,X,Y,Z,I,x,a0,a1,c⟩:=c4.box.aY;go_wp2_with fail;refine am.mono ?_;clear am S T U X Y Z I x a0 a1 c;rintro e9 z⟨⟨ec,rfl,Q⟩,r⟩;obtain⟨ej,en,rfl⟩:=Q.form;have dv:=dD Q.at;have t:=dD (a2.trans r);have c5:=dD (j.aA t);clear Q r;have am:=zac V' m' l z (c0.aA t) G.w;have br:Xo (Zx m' (l:Int)=Zx m (l:Int)):=dp.out (by trivial) l (Rx F.out g);obtain⟨S,T,U,X,Y,Z,I,x,a0,a1,c⟩:=c5.box.aY;go_wp2_with fail;refine am.mono ?_;clear am S T U X Y Z I x a0 a1 c;rintro e9 dz⟨⟨ey,rfl,C⟩,K⟩;(try unfold Sli.x at C);rw[br.out]at C;obtain⟨el,eo,rfl⟩:=C.form;have dw:=dD C.at;have bo:=dD (t.trans K);have N:=zes (dv.aA K);have P:=zes dw.out;clear C K;obtain⟨em,bq⟩:=kA ((Zx m (l:Int)).length);rw[bq.out]at N P⊢;generalize strOfNums (Zx m (l:Int))=eb at N P;go_wp2;clear N P;go_roundg (a3-(l+1));exact⟨l+1,Wm,Wm,Gn,bo⟩;omega
  have h:=kD g;have bm:=dD (b8.trans a2);have ay:=(d.aA a2).box.c 10 rfl;have az:=(j.aA a2).box.c 10 rfl;(try unfold Sli.x at ay);rw[a9.out]at ay;(try unfold Sli.x at az);rw[bu.out,dr.out (by trivial)]at az;generalize m.sp.length=ea at ay az;go_wp2;go_ret;exact⟨rfl,bm⟩
theorem Sam.bytes{S:Nat->Nat->Prop}(g:Sam S m m')(h:Rt m)(a:Rt m')(file:Nat):Zx m' (file:Int)=Zx m (file:Int):=by
 have b:zb2 m' (file:Int)=zb2 m (file:Int):=by
  unfold zb2;rw[h.w,a.w,g.fll]
 unfold Zx;rw[b];split
 ·unfold zj9;rw[g.sz];refine List.map_congr_left fun k c=>?_;exact g.byt file k (Hm (List.mem_range.1 c))
 rfl
theorem Sam.files{S:Nat->Nat->Prop}(g:Sam S m m')(d:∀s∈m.sp,qT m.fl.length s.aC):∀s∈m'.sp,qT m'.fl.length s.aC:=fun e a=>by
 obtain⟨i,b⟩:=Xx a;have c:i<m.sp.length:=by rw[<-g.aI];exact(gS.1 b).1
 rw[(g.sp i _ e (gE c) b).2,g.fll];exact d _ (List.getElem_mem c)
section
variable{wr:Bool}{m m':Ma}{q n k:Nat}{s:Sp}{a:Ar}{pg:Pg}{ic:Bool}
theorem zb5.own(h:zb5 wr m q n s a pg ic k m')(p:Rt m):qZ m (q:Int) (n:Int)=(pgL pg,ic,0)/\∃b,qZ m' (q:Int) (n:Int)=(pgL pg,b,0)/\(wr=Xd->0<=a.file->b=ic)/\(wr=Xc->a.sh=Xd->b=Xc):=by
 obtain⟨d,l,x,c,e,f,g,t,u,i⟩:=h.into;have j:=(h.aP.sp q s d h.sp c).2;have r:(zl d.aC n).is=Xc:=by rw[j,h.on];rfl
 refine⟨by rw[jY p h.sp h.n64];exact h.see,decide (l.f<0),?_,i,fun w v=>?_⟩;·rw[jY h.rt c h.n64,f,zmd r e,g]
 grind
theorem zb5.rest(h:zb5 wr m q n s a pg ic k m')(f:Rt m)(p j:Nat)(hp:p<m.sp.length)(c:j<64)(d:¬(p=q/\j=n)):qZ m' (p:Int) (j:Int)=qZ m (p:Int) (j:Int):=by have e:=gE hp;have b:=gE (show p<m'.sp.length by rw[h.aP.aI];exact hp);rw[jY f e c,jY h.rt b c,(h.aP.sp _ _ _ e b).2];exact h.aP.see _ _ _ _ e b c d
theorem zb5.views(h:zb5 wr m q n s a pg ic k m')(b:Rt m)(p j:Nat)(hp:p<m.sp.length)(c:j<64):(qZ m' (p:Int) (j:Int)).2.2=(qZ m (p:Int) (j:Int)).2.2/\(qZ m' (p:Int) (j:Int)).1=(qZ m (p:Int) (j:Int)).1/\(¬((p:Int)=(q:Int)/\(j:Int)=(n:Int))->(qZ m' (p:Int) (j:Int)).2.1=(qZ m (p:Int) (j:Int)).2.1):=by
 by_cases e:p=q/\j=n
 ·obtain⟨rfl,rfl⟩:=e;obtain⟨f,d,g,_⟩:=h.own b;grind
 rw[h.rest b p j hp c e];grind
end
theorem zlX(V A)(a m:Ma)(q i:Nat)(w)(l:zK w V a)(bw:zK w A m)(U:Rt a)(bu:Rt m)(I:∀s∈m.sp,qT m.fl.length s.aC)(pg)(ic:Bool)(df:Int)(bz:qZ m (q:Int) (i:Int)=(pgL pg,ic,df))(D)(bx:a.sp[q]?=Xa D)(hi:i<64)(kk:Nat)(fr)(c2:Bool)(bv:zh D i=⟨1,(kk:Int),c2⟩)(Z:a.fs[kk]?=Xa fr):
  Xp prog 18 #[Xi (mL V a).toArray,I6 (q:Int),I6 (i:Int),Xi (mL A m).toArray] w fun e w'=>(∃bh:MaV,e=Xl (Xi (mL bh a).toArray)/\zK w' bh {a with fs:=a.fs.set kk {fr with p:=pg}})/\zc w w':=by
 have cb:=dD bu;have ap:=dD U;have ca:=dD I;have au:=dD bz;have aq:=dD bx;have an:=dD bv;have L:=dD Z;have bg:=dD hi;obtain⟨a4,a5,a6,a7,a8,a9,aa,ab⟩:=pg;obtain⟨k,u⟩:=kA w.heap.size;obtain⟨j,b⟩:=kB (((w.alloc (Xk (mL V a).toArray 41)).alloc (Xk (mL A m).toArray 41)).alloc (Xk zM.toArray 41));have be:Xo (zc w j):=show zc _ _ by rw[<-b];exact((za _ _).trans (za _ _)).trans (za _ _)
 have bn:Xo (zt j k 41 (mL V a)):=dD<|by rw[<-b];exact((zt.aE w (mL V a) _ u.symm).aA (za _ _)).aA (za _ _)
 have cg:Xo (zt j (k+1) 41 (mL A m)):=dD<|by rw[<-b];exact(zt.aE _ (mL A m) _ (by have:=u.out;simp;omega)).aA (za _ _)
 have co:Xo (zt j (k+2) 41 qJ):=dD<|by rw[<-b];exact zt.aE _ qJ _ (by have:=u.out;simp;omega)
 have ao:=dD bw;have f:Xo (k+3<=j.heap.size):=show _<=_ by rw[<-b];have:=u.out;simp;omega
 have x:=zfS V a j (l.aA be);have av:=dD b;clear b l bw U bu I bz bx bv Z hi;go_enter func18,ntmps18;go_upto_region 1 with fail;rw[av.out,u.out];obtain⟨F,ad,af,ag,ah,ai,aj,ak,al,am,c⟩:=bn.box.aY;go_wp2_with fail;refine x.mono ?_;clear x F ad af ag ah ai aj ak al am c;rintro e du⟨d,rfl,c1,R⟩;have cc:=dD c1;have cj:=dD (bn.aA R);have ch:=dD (cg.aA R);have cp:=dD (co.aA R);have c5:=dD (be.trans R);clear c1 R;go_wp2_with(refine zS rfl 41 (.tmp 4) (.tmp 14) rfl k rfl (mL d a) rfl cj rfl Kr (by simp[Value.oneCell']) ?_)
 intro G W h _;have ck:=dD W;have ci:Xo (zt G (k+1) 41 (mL A m)):=ch.beside h (fun bd l=>by cases l;omega);have cq:Xo (zt G (k+2) 41 qJ):=cp.beside h (fun bd l=>by cases l;omega);have cd:Xo (zdd j.heap.size G d a):=cc.below h (Hm f.out) (nR _);have bf:Xo (zc w G):=dD<|zd c5 h (Hm u.out);have c3:=dD (ao.aA bf);clear W h;have a1:=Jv A m (q:Int) (i:Int) G c3 cb.w ca.out;obtain⟨F,ad,af,ag,ah,ai,aj,ak,al,am,c⟩:=ci.box.aY;go_wp2_with fail;refine a1.mono ?_;clear a1 F ad af ag ah ai aj ak al am c;rintro e bj⟨rfl,_,bs⟩;rw[au.out];simp only[J4,pgL,pgc,Yd];go_upto_region 3 with fail;obtain⟨dx,N⟩:=kA bj.heap.size;obtain⟨H,r⟩:=kB (bj.alloc (Xk #[U8 a4,U8 a5,U8 a6,U8 a7,U8 a8,U8 a9,U8 aa,U8 ab] 44));have S:zc G H:=by rw[<-r];exact bs.trans (za _ _)
 have cm:=xPT r N;have bo:=dD (ck.aA S);have cr:=dD (cq.aA S);have ax:=dD (cd.aA S);have c6:=dD (bf.trans S);rw[r,N.out];clear r bs S;have ar:Xo (∃z:SpV,∃Q,d.sp.a=Xa Q/\q<d.sp.n/\(∀bi,zc H bi->zkd bi (Q.add (q*10)) z)/\QG H z D):=show∃_,_ by
  obtain⟨dj,bc,a0,bb⟩:=ax.at.aM;obtain⟨-,-,-,-,-,-,-,-,dw⟩:=ax.at.ns;have dh:=(gS.1 aq).1;obtain⟨z,c0⟩:∃z,dj[q]?=Xa z:=⟨_,gE (Rx bc dh)⟩;obtain⟨Q,ac,az⟩:=a0 q z c0;exact⟨z,Q,ac,Wm,az,bb q z D c0 aq⟩
 obtain⟨z,Q,ac,az,bq,br⟩:=ar.out;have ba:(q:Int)<(d.sp.n:Int):=Wm;obtain⟨cv,cw,cx,cy,cz,da,db,dc,dd,de⟩:=bq H (zc.refl _);have Y:=zaH _ D.tb H br.tb (tb8 (Zo.2 (ap.tb (mG aq)).2));have aw:=dD<|(zbU D.tb bg).trans (congrArg Xa an);have c:=bo.box.c 10 rfl;(try unfold Sli.x at c);rw[ac]at c;have v:=bg.out;clear ac az bq br;go_wp2_with fail;refine Y.mono ?_;clear Y cv cw cx cy cz da db dc dd de c;rintro e bk⟨rfl,bt⟩;go_upto_region 4 with(refine J1 rfl (.tmp 29) (.tmp 30) rfl (zbV D.tb) rfl i rfl v aw.out ?_)
 obtain⟨dy,P⟩:=kA bk.heap.size;obtain⟨bl,t⟩:=kB (bk.alloc (Xk #[I6 1,I6 (kk:Int),Xh c2] 55));have K:zc H bl:=by rw[<-t];exact bt.trans (za _ _)
 have c4:=xP t P;have bp:=dD (bo.aA K);have cn:=dD (cm.aA K);have cs:=dD (cr.aA K);have a3:=dD (ax.aA K);have c7:=dD (c6.trans K);rw[t,P.out];clear t bt K v ba;have b9:=(gS.1 L).1;obtain⟨di,-⟩:=a3.at.ns;have dg:(kk:Int)<(d.f.n:Int):=Wm;obtain⟨b8,dv,B⟩:=a3.fs.aG Wm;simp only[vJ]at B;have n:=dD B.1;have M:Xo (zb qy j.heap.size bl (O (Xa ⟨b8,0,Xb⟩) d.f.n d.f.c) a.fs):=show zb _ _ _ _ _ by(try unfold Sli.x);rw[<-n.out];exact a3.fs
 have y:=dD<|(M.lt b8 rfl).1;have F:=bp.box.c 0 rfl;(try unfold Sli.x at F);rw[n.out]at F;obtain⟨dk,dl,dm,dn,dp,dq,dr,ds⟩:=cn.box.c8;have dt:=c4.c 1 rfl;clear B b9 di;go_wp2_with(refine zu (E:=qy) rfl (.tmp 39) (.tmp 37) 44 rfl j.heap.size _ a.fs M b8 kk 0 rfl fr {fr with p:=⟨a4,a5,a6,a7,a8,a9,aa,ab⟩} L.out [U8 a4,U8 a5,U8 a6,U8 a7,U8 a8,U8 a9,U8 aa,U8 ab] Kr rfl (by show 0+8<=13;omega) (by simp[Value.oneCell']) _ rfl (by simp[qy]) _ rfl rfl ?_)
 intro ay a2 g _;have T:=a3.bF (Rr n.out) g (Rx n.out a2);have cl:Xo (zt ay k 41 (mL d a)):=bp.beside g (fun bd l=>by cases l;have:=y.out;have:=f.out;omega);have ct:Xo (zt ay (k+2) 41 qJ):=cs.beside g (fun bd l=>by cases l;have:=y.out;have:=f.out;omega);have c8:Xo (zc w ay):=dD<|zd c7 g (by have:=y.out;have:=f.out;have:=u.out;omega);have ce:=dD T;clear F dk dl dm dn dp dq dr ds dt a2 g T;obtain⟨F,ad,af,ag,ah,ai,aj,ak,al,am,c⟩:=cl.box.aY;go_wp2_with(refine zS rfl 41 (.tmp 8) (.tmp 40) rfl (k+2) rfl (mL d a) rfl ct rfl Kr (by simp[Value.oneCell']) ?_)
 intro bm X C _;have cf:Xo (zdd j.heap.size bm d {a with fs:=a.fs.set kk {fr with p:=⟨a4,a5,a6,a7,a8,a9,aa,ab⟩}}):=ce.below C (Hm f.out) (nR _);have c9:Xo (zc w bm):=dD<|zd c8 C (Hm u.out);have cu:=dD X;clear X C;go_wp2;refine bodyPost_ret (z6 rfl _ rfl cu.box underlying41 rfl Kr) rfl ⟨⟨d,rfl,cf.at⟩,c9⟩
theorem zo3(x:On)(w:Xn):(Instr.field 67 (Xi #[Xh x.is,Xh x.rd,Xh x.wr,Xh x.sh,I6 x.file,I6 x.page]) 3).run prog w=.ok (Xh x.sh) w:=by simp only[Instr.field,Yb,run_underlying underlying67,rA,asAgg];exact run_part_plain w (by simp[Program.plainKey,underlying4]) rfl
theorem zq9{V':MaV}{h c:Int}(e:(Xi #[V.f.x,I6 h,V.s.x,V.sb.x,V.sq.x,V.db.x,V.dq.x,V.fl.x,I6 c,V.ca.x,V.sp.x]:Xq)=Xi #[V'.f.x,I6 h,V'.s.x,V'.sb.x,V'.sq.x,V'.db.x,V'.dq.x,V'.fl.x,I6 c,V'.ca.x,V'.sp.x]):V=V':=by obtain⟨⟨F,G,H⟩,⟨K,L,M⟩,⟨N,P,Q⟩,⟨R,S,T⟩,⟨U,W,X⟩,⟨Y,Z,I⟩,⟨a0,a4,a5⟩,⟨a6,a7,a8⟩,⟨a9,aa,ab⟩⟩:=V;obtain⟨⟨a,b,d⟩,⟨f,g,i⟩,⟨j,k,l⟩,⟨m,n,p⟩,⟨q,r,s⟩,⟨t,u,v⟩,⟨w,x,y⟩,⟨z,A,B⟩,⟨C,D,E⟩⟩:=V';grind
theorem zb5.wrote{q n k:Nat}{s:Sp}{a:Ar}{pg:Pg}{ic:Bool}(h:zb5 Xc m q n s a pg ic k m')(w:a.sh=Xd)(b:Pg):∃(c:Sp)(fr:Fr)(d:Bool),m'.sp[q]?=Xa c/\m'.fs[k]?=Xa fr/\zh c n=⟨1,(k:Int),d⟩/\fr.p=pg/\Rt {m' with fs:=m'.fs.set k {fr with p:=b}}/\qZ {m' with fs:=m'.fs.set k {fr with p:=b}} (q:Int) (n:Int)=(pgL b,Xc,0)/\({m' with fs:=(m'.fs.set k {fr with p:=b}).set k {fr with p:=pg}}:Ma)=m':=by
 obtain⟨c,fr,d,e,f,g,i,t,u,v⟩:=h.into;obtain⟨j,r⟩:=zpY h.rt e h.n64 f g b;have l:fr.f=-1:=by grind
 refine⟨c,fr,d,e,f,g,i,j,?_,?_⟩
 ·unfold qZ;rw[kF (by rw[j.w];simp),r,l];rfl
 subst i;have:(m'.fs.set k {fr with p:=b}).set k {fr with p:=fr.p}=m'.fs:=by
  rw[List.set_set];apply List.ext_getElem?;grind
 rw[this]
theorem zh6(F S B:Int)(vl:Sli)(L)(p n:Int)(P:Int)(w)(g4:zs byE w (vl.x) L)(g2:vl.n<=vl.c)(lb:∀M∈L,0<=M/\M<256):
  Xp prog 6 #[Xi #[I6 F,I6 S,I6 B],vl.x,I6 p,I6 n,U8 P] w fun e w'=>e=Xl (Xh Xc)/\zc w w':=by
 obtain⟨gp,aa⟩:=kB (w.alloc (Xk #[I6 F,I6 S,I6 B] 23));have ge:=gA aa;have gc:=xA aa;have dd:=dD aa;have d5:=dD g4;have d4:=dD g2;have d3:=dD lb;obtain⟨fa,d7⟩:∃fa:Nat,Xo (max (min F 40) 0=(fa:Int)):=⟨(max (min F 40) 0).toNat,show _=_ by omega⟩;obtain⟨fb,d8⟩:∃fb:Nat,Xo (max (min S 60) 0=(fb:Int)):=⟨(max (min S 60) 0).toNat,show _=_ by omega⟩;obtain⟨f9,d6⟩:∃f9:Nat,Xo (max (min B 80) 0=(f9:Int)):=⟨(max (min B 80) 0).toNat,show _=_ by omega⟩;clear aa g4 g2 lb;have bm:=zlI gp;go_enter func6,ntmps6;go_wp2_with fail;rw[dd.out];refine bm.mono ?_;clear bm;rintro e gq⟨rfl,dx⟩;have ff:=dD (ge.trans dx);have gd:=dD (gc.aA dx);clear dx;have bn:=zh3 F S B fa fb f9 d7 d8 d6 vl L gq (d5.aA ff) d4 d3.out;obtain⟨fl,fm,fn⟩:=gd.c3;go_wp2_with fail;refine bn.mono ?_;clear bn fl fm fn;rintro e dp⟨V,g5,gm,fx,e6,i0,ia,rfl,cj⟩;obtain⟨bj,gb⟩:=cj.at;obtain⟨q,ay⟩:=kA (ZW g5 gm fx);have fe:Xo (zK dp V q):=show zK _ _ _ by(try unfold Sli.x);rw[<-ay.out];exact bj
 have j:Xo (Rt q):=dD<|⟨Ry ay.out gb,fun s cm=>by
  obtain⟨m,e6⟩:=Xx cm;obtain⟨fd,_,ha,hb⟩:=fe.sp;have ap:m<fd.length:=by rw[ha];exact(gS.1 e6).1
  exact(hb m _ s (gE ap) e6).tb.aJ⟩
 have gf:=dD<|ff.trans cj.gr;have bt:fx=q.aB:=by(try unfold Sli.x);rw[<-ay.out];rfl
 have bs:g5.cnt=q.cnt:=by(try unfold Sli.x);rw[<-ay.out];rfl
 rw[bt,bs];have a3:Xo (∀s∈q.sp,qT q.fl.length s.aC):=dD<|fun s cm=>by
  rw[<-ay.out]at cm⊢;exact cj.filesIn s cm
 clear cj bj gb bt bs;go_upto_region 4 with fail;obtain⟨G,b9⟩:=kA dp.heap.size;refine nW fun bh ab=>?_;have dy:=gP ab;have dm:=xPT ab b9;have co:=dD (fe.aA dy);have cu:=dD (gf.trans dy);rw[b9.out];clear ab dy;have bw:=zfH V q p n Xc bh co j.out;obtain⟨ah,c8,c9,ca,cb,cc,cd,ce,cf,cg,l⟩:=dm.box.aY;go_wp2_with fail;refine bw.mono ?_;clear bw ah c8 c9 ca cb cc cd ce cf cg l;rintro e fi⟨⟨gu,rfl,fy⟩|⟨dn,ac,i3,b,rfl,fz,bo⟩,ar⟩
 ·have i1:(gu !=0)=Xc:=Si fy.1
  have gg:=dD (cu.trans ar);clear fy ar;unfold qJ;go_wp2;go_ret;exact⟨rfl,show zc w _ from gg.trans (za _ _)⟩
 obtain⟨r,m,s,fj,h7,f8,ea,e9,e5⟩:=zio j fz;subst ea e9;have H:=dD e5;have gi:=dD bo.at;have ba:=dD e5.rt;clear fz bo e5;go_upto_region 5 with fail;obtain⟨v,a5⟩:=kA fi.heap.size;obtain⟨aq,R⟩:=kB (fi.alloc (Xk (mL dn b).toArray 41));have ci:zc bh aq:=by rw[<-R];exact ar.trans (za _ _)
 have gj:=xPT R a5;have fh:=dD (dm.aA ci);have cp:=dD (co.aA ci);have gk:Xo (zK aq dn b):=show zK _ _ _ by rw[<-R];exact gi.aA (za _ _)
 have gh:=dD ci;have N:Xo (G<v/\bh.heap.size<=v):=show _/\_ from⟨by have:=dm.box.lt;have:=bS ar;have:=a5.out;omega,by have:=bS ar;have:=a5.out;omega⟩;rw[R,a5.out];clear R ar ci;have db:Xo (∃M:SpV,∃bi,V.sp.a=Xa bi/\r<V.sp.n/\(∀W,zc aq W->zkd W (bi.add (r*10)) M)/\QG aq M s):=dD<|by
  obtain⟨fd,ez,bu,ec⟩:=cp.aM;obtain⟨-,-,-,-,-,-,-,-,i2⟩:=cp.ns;have gz:=(gS.1 H.sp).1;obtain⟨M,g0⟩:∃M,fd[r]?=Xa M:=⟨_,gE (Rx ez gz)⟩;obtain⟨bi,ch,ds⟩:=bu r M g0;exact⟨M,bi,ch,Wm,ds,ec r M s g0 H.sp⟩
 obtain⟨M,bi,ch,ds,fo,fp⟩:=db.out;have eb:(r:Int)<(V.sp.n:Int):=Wm;obtain⟨_,gt,_⟩:=fo aq (zc.refl _);have ao:=jF _ s.aC aq fp.ar (qU.1 ((ze6 (ZA j.w)).ar s (mG H.sp)).1).2.bZ;obtain⟨o,fg⟩:=kA (zl s.aC m);have D:o.sh=fj.sh:=by(try unfold Sli.x);rw[<-fg.out,H.on];rfl
 have C:∀W,(Instr.index 68 (Xi (zE (tab (zl s.aC))).toArray) (I6 (m:Int))).run prog W=.ok (Xi #[Xh o.is,Xh o.rd,Xh o.wr,Xh o.sh,I6 o.file,I6 o.page]) W:=fun W=>by
  have:=zjD (w:=W) (f:=zl s.aC) m H.n64;(try unfold Sli.x at this);rw[fg.out]at this;exact this
 have am:=zo3 o;generalize zE (tab (zl s.aC))=hh at ao C;have l:=fh.box.c 10 rfl;rw[ch]at l;clear ch ds fo fp;go_wp2_with fail;refine ao.mono ?_;clear ao gt l;rintro e dq⟨rfl,au⟩;have dg:=dD (gj.aA au);have P9:=dD (fh.aA au);have hf:=dD (cp.aA au);have gl:=dD (gk.aA au);have cv:=dD (gh.trans au);clear au eb;cases T:fj.sh with
 |true=>
  rw[D,T]at am C;clear T D;go_wp2;go_ret;exact⟨rfl,cu.trans cv⟩
 |false=>
 rw[D,T]at am C;have da:=dD T;clear T D;obtain⟨fk,X,Y,Z,I,a0,a1,a2⟩:=h7;obtain⟨h8,a8,he,fq,dt,ft,fu,du,dv,fv⟩:=H.wrote da ⟨P,X,Y,Z,I,a0,a1,a2⟩;have af:=zfS dn b dq gl.out;obtain⟨ah,c8,c9,ca,cb,cc,cd,ce,cf,cg,l⟩:=dg.box.aY;go_wp2_with fail;refine af.mono ?_;clear af C am ah c8 c9 ca cb cc cd ce cf cg l;rintro e gr⟨U,rfl,g7,a9⟩;have di:=dD g7;have df:=dD (dg.aA a9);have dj:=dD (P9.aA a9);have cq:=dD (cv.trans a9);have aj:=dD dg.box.lt;clear g7 a9;go_wp2_with(refine zS rfl 41 (.tmp 12) (.tmp 50) rfl v rfl (mL U b) rfl df rfl Kr (by simp[Value.oneCell']) ?_)
 intro ak ad A _;have bd:=dD ad;have dk:Xo (zt ak G 41 (mL V q)):=dj.beside A (fun ac bq=>by cases bq;have:=N.out;omega);have a7:=dD<|di.below A aj (nR _);have cr:Xo (zc bh ak):=show zc _ _ from zd cq A (Hm N.out);clear ad A;have br:=(gS.1 dt).1;obtain⟨h5,-⟩:=a7.at.ns;have e7:(ac:Int)<(U.f.n:Int):=Wm;obtain⟨dw,c,al⟩:=a7.fs.aG Wm;simp only[vJ]at al;have a6:=dD al.1;have az:Xo (zb qy dq.heap.size ak (O (Xa ⟨dw,0,Xb⟩) U.f.n U.f.c) b.fs):=show zb _ _ _ _ _ by(try unfold Sli.x);rw[<-a6.out];exact a7.fs
 have ai:=dD<|(az.lt dw rfl).1;have cx:=dD fq;have cy:=dD dt;have cz:=dD ft;have d0:=dD fu;obtain⟨u,a4⟩:∃u:Ma,Xo (({b with fs:=b.fs.set ac {a8 with p:=⟨P,X,Y,Z,I,a0,a1,a2⟩}}:Ma)=u):=⟨_,rfl⟩;(try unfold Sli.x at du);(try unfold Sli.x at dv);rw[a4.out]at du dv;have bc:=dD du;have dc:=dD dv;have cw:Xo (({u with fs:=u.fs.set ac {({a8 with p:=⟨P,X,Y,Z,I,a0,a1,a2⟩}:Fr)with p:=⟨fk,X,Y,Z,I,a0,a1,a2⟩}}:Ma)=b):=show _=_ by
  (try unfold Sli.x);rw[<-a4.out];exact fv
 have i:Xo (u.aB=b.aB/\u.cnt=b.cnt/\u.sp=b.sp/\u.fl=b.fl/\u.fs[ac]?=Xa {a8 with p:=⟨P,X,Y,Z,I,a0,a1,a2⟩}):=dD<|by
  (try unfold Sli.x);rw[<-a4.out];exact⟨rfl,rfl,rfl,rfl,sF br⟩
 have ah:=bd.box.c 0 rfl;(try unfold Sli.x at ah);rw[a6.out]at ah;have h0:qy.enc {a8 with p:=⟨P,X,Y,Z,I,a0,a1,a2⟩}=splice (qy.enc a8) 0 [U8 P]:=by
  have cl:=d0.out;obtain⟨⟨fl,fm,fn,hl,hm,ho,hr,hw⟩,i4,i5,i6,i7,i8⟩:=a8;simp only[Pg.mk.injEq]at cl;obtain⟨rfl,rfl,rfl,rfl,rfl,rfl,rfl,rfl⟩:=cl;rfl
 clear al br h5 fq dt ft fu du dv fv;go_wp2_with(refine zu (E:=qy) rfl (.tmp 58) (.tmp 55) 5 rfl dq.heap.size _ b.fs az dw ac 0 rfl a8 {a8 with p:=⟨P,X,Y,Z,I,a0,a1,a2⟩} cy.out [U8 P] Kr h0 (by show 0+1<=13;omega) (by simp[Value.oneCell']) _ rfl (by simp[qy]) _ rfl rfl ?_)
 intro t ag k _;have Q:=a7.bF (Rr a6.out) k (Rx a6.out ag);(try unfold Sli.x at Q);rw[a4.out]at Q;have bf:=dD Q;have be:Xo (zt t v 41 (mL U b)):=bd.beside k (fun ac bq=>by cases bq;have:=ai.out;have:=aj.out;omega);have dl:Xo (zt t G 41 (mL V q)):=dk.beside k (fun ac bq=>by cases bq;have:=ai.out;have:=aj.out;have:=N.out;omega);have ax:Xo (zc bh t):=dD<|zd cr k (by have:=ai.out;have:=bS cv.out;omega);have cn:=dD (co.aA ax);clear ah ag k Q e7;have d2:Xo (∀s∈u.sp,qT u.fl.length s.aC):=show∀s,_ by
  rw[i.2.2.1,i.2.2.2.1];exact H.aP.files a3.out
 have bz:Xp prog 10 #[Xi (mL U b).toArray,I6 (r:Int),I6 (m:Int)] t fun e w'=>e=Xl (J4 (qZ u (r:Int) (m:Int)))/\(qZ u (r:Int) (m:Int)).1.length=8/\zc t w':=by
  have:=Jv U u (r:Int) (m:Int) t bf.at bc.w d2.out;(try unfold mL at this);rw[i.1,i.2.1]at this;exact this
 obtain⟨ah,c8,c9,ca,cb,cc,cd,ce,cf,cg,l⟩:=be.box.aY;go_wp2_with fail;refine bz.mono ?_;clear bz ah c8 c9 ca cb cc cd ce cf cg l;rintro e bg⟨rfl,_,bk⟩;rw[dc.out];simp only[J4,pgL,pgc,Yd];go_upto_region 10 with fail;obtain⟨h6,b8⟩:=kA bg.heap.size;obtain⟨a,z⟩:=kB (bg.alloc (Xk #[U8 P,U8 X,U8 Y,U8 Z,U8 I,U8 a0,U8 a1,U8 a2] 44));have K:zc t a:=by rw[<-z];exact bk.trans (za _ _)
 have dr:=xPT z b8;have d:=dD (be.aA K);have g:=dD (dl.aA K);have aw:=dD (cn.aA K);have dh:=dD<|bf.at.aA K;have cs:=dD (ax.trans K);rw[z,b8.out];clear z bk K;have de:Xo (∀W,zc a W->Xp prog 18 #[Xi (mL U b).toArray,I6 (r:Int),I6 (m:Int),Xi (mL V q).toArray] W fun e w'=>(∃h:MaV,e=Xl (Xi (mL h b).toArray)/\zK w' h b)/\zc W w'):=show∀W,_ from fun W ck=>by
  have:=zlX U V u q r m W (dh.aA ck) (aw.aA ck) bc j a3 ⟨fk,X,Y,Z,I,a0,a1,a2⟩ f8 0 (H.own j).1 h8 (Rx i.2.2.1 cx) H.n64 ac {a8 with p:=⟨P,X,Y,Z,I,a0,a1,a2⟩} he cz i.2.2.2.2;(try unfold Sli.x at this);(try unfold mL at this);rw[cw.out,i.1,i.2.1]at this;exact this
 have d9:Xo (∀W h,zc a W->zK W h b->Xp prog 15 #[Xi (mL V q).toArray,Xi (mL h b).toArray,I6 (r:Int),I6 (m:Int),Xh Xc] W fun e w'=>e=Xl (Xh Xc)/\zc W w'):=dD<|fun W h ck gx=>zme V h q b (r:Int) (m:Int) Xc W (aw.aA ck) gx j ba a3 (H.aP.files a3) (fun e=>by cases e) (fun _ p h4 cl gy=>H.views j p h4 cl gy) (fun _ f _=>H.aP.bytes j ba f) (fun _=>H.aP.aI);have ed:=fun y:zf a=>(g.box.aA y.aA).c 0 rfl;have ee:=fun y:zf a=>(g.box.aA y.aA).c 1 rfl;have ef:=fun y:zf a=>(g.box.aA y.aA).c 2 rfl;have eg:=fun y:zf a=>(g.box.aA y.aA).c 3 rfl;have eh:=fun y:zf a=>(g.box.aA y.aA).c 4 rfl;have ei:=fun y:zf a=>(g.box.aA y.aA).c 5 rfl;have ej:=fun y:zf a=>(g.box.aA y.aA).c 6 rfl;have ek:=fun y:zf a=>(g.box.aA y.aA).c 7 rfl;have el:=fun y:zf a=>(g.box.aA y.aA).c 8 rfl;have em:=fun y:zf a=>(g.box.aA y.aA).c 9 rfl;have bv:=fun y:zf a=>(g.box.aA y.aA).c 10 rfl;have eo:=fun y:zf a=>(d.box.aA y.aA).c 0 rfl;have ep:=fun y:zf a=>(d.box.aA y.aA).c 1 rfl;have eq:=fun y:zf a=>(d.box.aA y.aA).c 2 rfl;have es:=fun y:zf a=>(d.box.aA y.aA).c 3 rfl;have et:=fun y:zf a=>(d.box.aA y.aA).c 4 rfl;have eu:=fun y:zf a=>(d.box.aA y.aA).c 5 rfl;have ev:=fun y:zf a=>(d.box.aA y.aA).c 6 rfl;have ew:=fun y:zf a=>(d.box.aA y.aA).c 7 rfl;have ex:=fun y:zf a=>(d.box.aA y.aA).c 8 rfl;have ey:=fun y:zf a=>(d.box.aA y.aA).c 9 rfl;have bx:=fun y:zf a=>(d.box.aA y.aA).c 10 rfl;have f0:=fun y:zf a=>(dr.box.aA y.aA).c 0 rfl;have e8:Nonempty (zf a):=⟨⟨_,zc.refl _⟩⟩;refine qP 23 [(17,⟨fun av=>∃h:MaV,av=Xi (mL h b).toArray,fun av ga=>∃h:MaV,av=Xi (mL h b).toArray/\zK ga h b⟩),(20,⟨fun av=>av=Xh Xc,fun _ _=>True⟩)] z0 Kr rfl rfl Dc (Sb ⟨_,⟨zQ,zQ,zQ,zQ,zQ,zQ,zQ,zQ,zQ⟩,rfl⟩ ⟨_,rfl⟩) ?hp ?_;case hp=>
  intro x ap;simp only[mC,nM,or_false]at ap;rcases ap with rfl|rfl;·rintro av ga i9 bp⟨h,dz,e0⟩;exact⟨h,dz,e0.aA bp⟩
  exact fun _ _ _ _ _=>trivial
 simp only[List.take,List.drop];iterate 17 refine ze ?_
 refine zG rfl rfl (fun w' bp fw=>?_) (fun hc en=>?_);·refine zJ.call [Xi (mL U b).toArray,I6 (r:Int),I6 (m:Int),Xi (mL V q).toArray] rfl func18 rfl rfl rfl ?_;refine(de w' bp).mono ?_;rintro e fc⟨⟨h,rfl,gw⟩,an⟩;exact⟨_,rfl,an,⟨h,rfl⟩,h,rfl,gw⟩
 obtain⟨h,rfl⟩:=en;refine Uq ?_;iterate 2 refine ze ?_
 refine zG rfl rfl (fun w' bp fw=>?_) (fun hc en=>?_)
 ·obtain⟨gn,dz,e0⟩:=fw 17 Kr
  have gv:=zq9 dz;subst gv;refine zJ.call [Xi (mL V q).toArray,Xi (mL h b).toArray,I6 (r:Int),I6 (m:Int),Xh Xc] rfl func15 rfl rfl rfl ?_;refine(d9 w' h bp e0).mono ?_;rintro e fc⟨rfl,an⟩;exact⟨_,rfl,an,rfl,trivial⟩
 cases en;refine Uq ?_;iterate 2 refine ze ?_
 refine z2 fun gs bl _=>?_;have ct:=dD (cs.trans (show zc _ _ from bl));clear bl e8 f0 ed ee ef eg eh ei ej ek el em bv eo ep eq es et eu ev ew ex ey bx;go_wp2;go_ret;exact⟨rfl,cu.trans ct⟩
end
section
open Go.ChangeShapes Go.WideShapes Go.ChangeAt Go.RowKit
theorem zsl:Tryz.prog.cellsOf 3=1:=by kernel_rfl
theorem zsm:Tryz.prog.cellsOf 5=1:=by kernel_rfl
theorem zsn:Tryz.prog.cellsOf 23=3:=by kernel_rfl
theorem zso:Tryz.prog.bytesOf 5=1:=by kernel_rfl
section
variable{H:Type}{enc:TypeId×Xq->H}{w:Xn}{base:Nat}{spare:Nat->Bool}{zgy:Bool}
theorem zfr{b:α->List Xq}:∀(l:List α)(x:Addr),(∀a∈l,(b a).length=k)->(∀(i:Nat)a,l[i]?=Xa a->jX w (x.add (i*k)) (b a))->jX w x (l.flatMap b)
 |[],x,_,_=>fun j u b=>by simp at b
 |a::l,x,d,h=>fun j u b=>by
  rw[List.flatMap_cons]at b;have e:=d a Sm
  rcases Nat.lt_or_ge j k with c|c
  ·rw[List.getElem?_append_left Wm]at b
   have:=h 0 a rfl j u b;rw[zY]at this;simpa using this
  rw[aR Wm,e]at b
  have e:=zfr l (x.add k) (fun c f=>d c (by simp[f])) (fun i c d=>by
   have:=h (i+1) c (Si d);rw[zY];rw[show k+i*k=(i+1)*k by rw[Nat.add_mul];omega]
   exact this) (j-k) u b
  rw[zY,show k+(j-k)=j by omega]at e;exact e
theorem zoq[Inhabited α](b:α->List Xq)(Q:α->Prop)(k:Nat){e:TypeId}(M:Tryz.prog.underlying t=Xa (.slice e))(G:Tryz.prog.cellsOf e=k)(c:∀n cs(x:DataW H×List MemPlace),cs.length=k->DataW.trod enc prog w base spare zgy n e cs=Xa x->∃a,Q a/\cs=b a)
  {g:Nat}{cs:List Xq}{x:DataW H×List MemPlace}(m:DataW.trod enc prog w base spare zgy g t cs=Xa x):
  ∃v l,cs=[v]/\QH b w v l/\(∀a∈l,Q a/\(b a).length=k)/\(l=[]\/∃y R,x.1=.slice y R/\y.length=l.length):=by
 rcases Go.Deep.open_slice M m with⟨rfl,_⟩|⟨a,d,j,P,n,S,T,rfl,A,W,X,r,s,p⟩;·exact⟨_,[],rfl,⟨Xb,0,rfl,fun _=>rfl,fun x s=>by cases s⟩,Sm,.inl rfl⟩
 have K:d<=P:=by rw[r];split<;>omega
 have q:∀i,i<d->∃f,Q f/\(b f).length=k/\jX w (a.add (i*k)) (b f):=fun i F=>by
  obtain⟨B,z,D⟩:=p i Wm;rw[G]at z;obtain⟨_,h,E⟩:=World.cells?_some z;obtain⟨f,L,rfl⟩:=c _ _ _ h D;refine⟨f,L,h,fun Y Z V=>?_⟩;grind
 obtain⟨C,U⟩:=Go.Deep.choose_lt q;refine⟨_,(Yc d).map C,rfl,⟨Xa a,j,Sm,fun m=>(by cases m),fun I N=>?_⟩,fun u A=>?_,.inr ⟨_,_,by rw[s],Sm⟩⟩
 ·cases N;refine zfr (k:=k) _ _ (fun u A=>?_) (fun i u F=>?_);·grind
  grind
 grind
theorem zkJ{r:Reach}{d:DataW H}{p:List MemPlace}(v:Value.okWide prog w r k 24 A)(h:DataW.Trod enc prog w base spare zgy 24 A d p)(l:∀n∈d.weights prog 24,n<=reachBytes):
  ∃(k:Sli)(s:List Int),A=k.x/\zs byE w (k.x) s/\k.n<=k.c/\∀z∈s,0<=z/\z<256:=by
 obtain⟨k,g⟩:=h;obtain⟨k,k,j,h,q,u⟩:=zoq byE.enc (fun z=>0<=z/\z<256) 1 underlying24 zsm (fun n b x _ e=>by
  obtain⟨z,f,b,b⟩:=DataW.trod_int underlying5 e;refine⟨z,?_,f⟩;have:=b;simp only[Lit.wf,Bool.and_eq_true,decide_eq_true_eq]at this;have e:IntKind.u8.min=0:=rfl;have b:IntKind.u8.max=255:=rfl;rw[e,b]at this;exact⟨this.1,Hm this.2⟩) g
 obtain⟨b,c,rfl,r,t⟩:=h;obtain⟨h,m,i,rfl⟩:=okWide_slice underlying24 v;have e:O h m i=O b k.length c:=by simpa[Value.cells]using j
 cases e;refine⟨⟨b,k.length,c⟩,k,rfl,⟨⟨b,c,rfl,r,t⟩,?_⟩,?_,fun z f=>(q z f).1⟩
 ·rcases u with rfl|⟨e,f,h,b⟩
  ·grind
  have b:d=.slice e f:=h;have:=l ((e.length+f.length)*Tryz.prog.bytesOf 5) (by rw[b];simp[DataW.weights,underlying24]);rw[zso]at this;unfold reachBytes at this;show k.length*1<=_;omega
 rcases Go.Deep.open_slice underlying24 g with⟨b,_⟩|⟨k,k,k,_,_,_,_,b,_,k,_⟩;·grind
 grind
theorem ziI{r:Reach}{d:DataW H}{p:List MemPlace}(t:Value.okWide prog w r k 23 A)(m:DataW.Trod enc prog w base spare zgy 23 A d p):∃F S B:Int,A=Xi #[I6 F,I6 S,I6 B]:=by
 obtain⟨a,rfl,s,_⟩:∃a,A=Xi a/\a.size=Tryz.prog.cellsOf 23/\Row.okWide prog w r k 23 a:=by simpa[Value.okWide,underlying23]using t
 obtain⟨l,b⟩:=m;obtain⟨g,n,_,_,hlen,q,b⟩:=DataW.trod_struct underlying23 b;rw[zsn]at hlen;have u:g.length=3:=q;obtain⟨a⟩:=a;simp only[Value.cells]at hlen b;have h:DataW.trod enc prog w base spare zgy n 3 ((a.drop 0).take (Tryz.prog.cellsOf 3))=g[0]?:=b 0 _ rfl;have i:DataW.trod enc prog w base spare zgy n 3 ((a.drop 1).take (Tryz.prog.cellsOf 3))=g[1]?:=b 1 _ rfl;have j:DataW.trod enc prog w base spare zgy n 3 ((a.drop 2).take (Tryz.prog.cellsOf 3))=g[2]?:=b 2 _ rfl;rw[zsl]at h i j;rw[gE Wm]at h i j;obtain⟨v,x,_,_⟩:=DataW.trod_int underlying3 h;obtain⟨C,y,_,_⟩:=DataW.trod_int underlying3 i;obtain⟨D,z,_,_⟩:=DataW.trod_int underlying3 j;obtain⟨c,e,f,rfl⟩:∃c e f,a=[c,e,f]:=by
  match a,hlen with
  |[c,e,f],_=>exact⟨c,e,f,rfl⟩
 grind
end
theorem own:ownKnob Tryz.prog.godebug=Xb:=by kernel_rfl
theorem laidOut:laidOutB prog=Xc:=by kernel_rfl
theorem zcp(a0:Os)(f:a0.Started)(H:Type)(enc:TypeId×Xq->H):
  ReturnsInHanded {} Tryz.checked a0 6 .any (Rows.faultAloneSpec.pre6 enc prog Tryz.f6 Rows.faultAloneRow.domain Xd) (Rows.faultAloneSpec.post enc prog Tryz.f6 Xd Xc Xd Xd):=by
 refine returnsInHanded_of_change_sized (C:=Tryz.checked) own f Kr func6
  (ChangeSpec.witness6 (enc:=enc) (C:=Tryz.checked) Xd ⟨#[],#[Xi #[I6 0,I6 0,I6 0],eS,I6 0,I6 0,U8 0],[]⟩ 8 Kr Kr Kr Kr) ?_
 intro W k c U ah s e X Y h _;have r:(DataW.weightsEach prog (Tryz.f6.params.toList++Rows.faultAloneSpec.plain.varTypes prog) (U++ah)).all (·<=reachBytes)=Xc:=h;have a:∀(Z:Nat)i v,Tryz.f6.params[Z]?=Xa i->c[Z]?=Xa v->Value.okWide prog W .any k i v:=e;have u:=X;obtain⟨ay,bk,l,an,rfl,ap,ar⟩:=X;have V:DataW.TrodAll enc prog W 0 (fun _=>Xc) Xc Tryz.f6.params.toList c.toList U ay:=l;rw[Tryz.params6]at V a r;obtain⟨a1,ba,bf,ac,az,bl,w,rfl,rfl,A,b4⟩:=trodAll_cons V;obtain⟨a2,bb,ab,ad,b0,bm,rfl,rfl,rfl,B,b5⟩:=trodAll_cons b4;obtain⟨a3,bc,bg,ae,b1,bn,rfl,rfl,rfl,D,b6⟩:=trodAll_cons b5;obtain⟨a4,bd,bh,af,b2,bo,rfl,rfl,rfl,F,b7⟩:=trodAll_cons b6;obtain⟨a5,be,bi,ag,b3,bp,rfl,rfl,rfl,K,b8⟩:=trodAll_cons b7;obtain⟨rfl,rfl,rfl⟩:=trodAll_nil b8;obtain rfl:c=#[a1,a2,a3,a4,a5]:=by cases c;simp_all
 obtain⟨rfl,rfl⟩:=trodVars_none an;have M:∀x∈az,x.block<W.heap.size:=by obtain⟨m,g⟩:=A;exact DataW.trod_lt m _ _ _ g
 have N:∀x∈b0,x.block<W.heap.size:=by obtain⟨m,g⟩:=B;exact DataW.trod_lt m _ _ _ g
 have P:∀x∈b1,x.block<W.heap.size:=by obtain⟨m,g⟩:=D;exact DataW.trod_lt m _ _ _ g
 have Q:∀x∈b2,x.block<W.heap.size:=by obtain⟨m,g⟩:=F;exact DataW.trod_lt m _ _ _ g
 have R:∀x∈b3,x.block<W.heap.size:=by obtain⟨m,g⟩:=K;exact DataW.trod_lt m _ _ _ g
 obtain⟨a9,aa,a8,y⟩:=ziI (a 0 23 a1 rfl rfl) A;subst y;obtain⟨b9,au,z,q,p,n⟩:=zkJ (a 1 24 a2 rfl rfl) B (fun I aq=>by
  have:=List.all_eq_true.1 r I (DataW.weights_mem_each (j:=1) (t:=24) (d:=ab) rfl rfl I aq)
  simpa using this)
 subst z;have E:=D;have G:=F;have L:=K;obtain⟨av,rfl,rfl,rfl,bq⟩:=open_int underlying3 (a 2 3 a3 rfl rfl) D;obtain⟨aw,rfl,rfl,rfl,br⟩:=open_int underlying3 (a 3 3 a4 rfl rfl) F;obtain⟨ax,rfl,rfl,rfl,bs⟩:=open_int underlying5 (a 4 5 a5 rfl rfl) K;clear l e h;refine(zh6 a9 aa a8 b9 au av aw ax W q p n).mono fun bj a6⟨ao,bel⟩=>?_;subst ao;have b:∀{i:TypeId}{v:Xq}{T:DataW H}{S:List MemPlace},Tryz.prog.readableRec i=Xc->i<Tryz.prog.types.size->DataW.Trod enc prog W 0 (fun _=>Xc) Xc i v T S->(∀x∈S,x.block<W.heap.size)->DataW.Trod enc prog a6 0 (fun a7=>decide (a7<W.heap.size)) Xc i v T S:=
  fun aj ak al am=>Below.trod laidOut aj ak al bel am
 exact⟨_,rfl,_,_,_,[],_,[],u,trodAll_mk1 (shut_bool underlying4 _),(trodAll_cons_mk (b Kr (of_decide_eq_true Kr) A M) (trodAll_cons_mk (b Kr (of_decide_eq_true Kr) B N) (trodAll_cons_mk (b Kr (of_decide_eq_true Kr) E P) (trodAll_cons_mk (b Kr (of_decide_eq_true Kr) G Q) (trodAll_cons_mk (b Kr (of_decide_eq_true Kr) L R) trodAll_mk0))))),rfl,Below.frame bel _,fun ai=>by cases ai⟩
theorem zee:Rows.faultAloneRow.holds Tryz.pinned (OpenSpec.ofChange Rows.faultAloneSpec):=
 OpenClaim.holds_of_wide 6 Tryz.f6 rfl rfl rfl rfl rfl rfl rfl ⟨rfl,rfl,rfl,rfl,rfl⟩ rfl rfl rfl rfl rfl Kr func6 Kr
  (of_decide_eq_true Kr) (by unfold Func.isWrapper;first|(rw[kE (by decide+kernel)];kernel_rfl)|(rw[kF (by decide+kernel)];exact⟨rfl,rfl⟩))
  (fun c a H b _=>zcp c a H b)
theorem faultAlone_holds:Rows.FaultAloneSaid:=zee
#print axioms faultAlone_holds
end
end Go.Proofs.YtkfjajbalegoeaaGreat
