/- FaultSame,proved:a page that is used is in a frame then,with what it had,and nobody sees it,whatever the numbers and bytes. No condition. -/
import Derived.Test.YtkfjajbalegoeaaGreatFS5
import Derived.Test.YtkfjajbalegoeaaGreatRows
import Derived.ProofKit
import Derived.OpenShut
import Derived.ShutString
import Derived.ChangeOld
import Derived.Carry
import Derived.SizedLaws
import Derived.Test.YtkfjajbalegoeaaGreatChecked
namespace Go.Proofs.YtkfjajbalegoeaaGreat
open Go.Value renaming slice→O,int→Xe,bool→Xh,agg→Xi,pointer→Xj,tuple→Xm
open Go.IntKind renaming i64→Xf,u8→Xg
open Go.Obj renaming cells→Xk
open Go.Ending renaming returned→Xl
open Go renaming World→Xn,Calls→Xp,Value→Xq
open Go.RowKit renaming Hid→Xo
open Option renaming some→Xa,none→Xb
open Bool renaming true→Xc,false→Xd
open List renaming replicate→Xr
open _root_.List renaming length_map→Xs,append_nil→Xt,getElem?_map→Xu,length_take→Xv,take_of_length_le→Xw,getElem?_of_mem→Xx,flatMap_append→Xy,append_assoc→Xz,map_nil→Ya,range→Yb
set_option maxRecDepth 100000
set_option maxHeartbeats 4000000
variable{α:Type}{a:Act}{k:Nat}{w:Xn}{A:Xq}
variable{Q:Exit->Act->Xn->Prop}{m m':Ma}{o:Oper}{ops:Array Oper}{t:TypeId}{w0:Xn}
open Go.Proofs.Tryz
section
open Go.RowKit
def zk7(m:Ma)(p:Nat)(s:Sp)(n:Nat):List Int:=if(zl s.aC n).is=Xd then[]else[(n:Int),(jW m (p:Int) (n:Int)).2.2%256,(zl s.aC n).file%256,(zl s.aC n).page%256]++(jW m (p:Int) (n:Int)).1++[yn (zl s.aC n).rd,yn (zl s.aC n).wr,yn (zl s.aC n).sh,yn ((jW m (p:Int) (n:Int)).2.1&&decide (0<=(zl s.aC n).file))]
def qM(m:Ma)(p:Nat)(s:Sp)(n:Nat):List Int:=(Yb n).flatMap (zk7 m p s)
theorem zoA(m:Ma)(p:Nat)(s:Sp):zkX m p s=112::((if s.aE=Xc then[108]else[])++qM m p s 64):=rfl
theorem zk5(m:Ma)(p:Nat)(s:Sp)(n:Nat):qM m p s (n+1)=qM m p s n++zk7 m p s n:=by unfold qM;rw[List.range_succ,Xy];simp
theorem zfq(m:Ma)(s:Sp):∀(l:List Sp)(p:Nat),zdP m (l++[s]) p=zdP m l p++zkX m (p+l.length) s
 |[],p=>by simp[zdP]
 |t::l,p=>by
  rw[List.cons_append];unfold zdP;rw[zfq m s l (p+1),Xz,List.length_cons,show p+1+l.length=p+(l.length+1) by omega]
def zav(m:Ma)(p:Nat):List Int:=zdP m (m.sp.take p) 0
theorem ziX{p:Nat}{s:Sp}(a:m.sp[p]?=Xa s):zav m (p+1)=zav m p++(112::((if s.aE=Xc then[108]else[])++qM m p s 64)):=by have b:=(gS.1 a).1;unfold zav;rw[jE a,zfq,<-zoA,Xv,Nat.min_eq_left Wm,zA]
theorem zkV(h:k=m.sp.length):zav m k=zdP m m.sp 0:=by unfold zav;rw[h,List.take_length]
def Zy(m:Ma)(n:Nat):List Int:=(Yb n).flatMap (zmB m)
theorem zlE(m:Ma)(n:Nat):Zy m (n+1)=Zy m n++zmB m n:=by unfold Zy;rw[List.range_succ,Xy];simp
theorem zbl{rest:List Oper}{a:Act}{w:Xn}(i:o.guard=Xb)(s x:Operand)(z:o.op=.call {callee:=.builtin .append,args:=#[s,x],argTypes:=#[24,24]})(v:Xq)(b:List Int)(C:a.eval s=v)(j:zb byE w0.heap.size w v b)(u:Xq)(l:List Int)(B:a.eval x=u)(y:zq byE w u l)(k:b.length+l.length<=100000000)(m:zc w0 w)(c:List Int)(e:b++l=c)
  (r:∀(f:Option Addr)(n g:Nat)w',Xo (n=c.length)->Xo (zb byE w0.heap.size w' (O f n g) c)->Xo (zc w0 w')->(∀p t cs,t≠5->zt w p t cs->zt w' p t cs)->wpList prog ops Q rest (a.put o.dst (O f n g)) w'):wpList prog ops Q (o::rest) a w:=by subst e;refine zr (E:=byE) i s x z w0.heap.size v b C j u l B y (by show(b.length+l.length)*1<=_;omega) (bS m) ?_;intro F D own d;obtain⟨f,g,rfl⟩:=own.form;exact r f _ g D (show _=_ from rfl) own (zV m d (fun q h=>(j.lt q h).1)) (fun p t cs A k=>zt.row j d k A)
theorem zdX(V)(m:Ma)(w)(i:zQ w V m)(c:maW m=0)(d:∀s∈m.sp,jQ m.fl.length s.aC):
  Xp prog 44 #[Xi (mL V m).toArray] w fun e w'=>e=Xl (.string (strOfNums (zdQ m)))/\zc w w':=by
 have b:=dD i;have y:=dD<|fun W(p:Int)(n:Int)(a:zc w W)=>zdW V m p n W (b.aA a) c d;have b9:=dD<|fun W(f:Int)(a:zc w W)=>zay V m f W (b.aA a) c;have bp:Xo (∀f,(ZD m f).length<=1000):=dD<|fun f=>by
  unfold ZD;split
  ·unfold zky;rw[Xs,List.length_range];have:Q6 m f<=96:=by
    unfold Q6;rw[gD];cases a:m.fl[f.toNat]? with
    |none=>simp
    |some x=>simpa using(zqQ c a).1.2
   omega
  simp
 have B:=dD<|zht (Qj c);have ao:Xo (zdQ m=zav m m.sp.length++Zy m m.fl.length):=show _=_ by rw[zkV rfl];rfl
 have t:=(zax c).1.aI;have z:m.fl.length<=5:=by
  have a:=Qj c;unfold JX at a;rw[zk]at a;have b:=((z8 _ _).1 (a (stW m.fl m.cnt) Sm)).1;omega
 obtain⟨-,-,-,-,-,-,j,-,k⟩:=i.ns;obtain⟨Q,h,a,g⟩:=i.aP;obtain⟨R,S,N,P,K,L,⟨A,M,C⟩,H,⟨F,D,G⟩⟩:=V;dsimp only[mL]at j k a y b9⊢;have r:=dD j.symm;have b:=dD k.symm;rw[<-j]at z;rw[<-k]at t;rw[r.out,b.out]at ao;have r:Xo (Q.length=D):=show _=_ by rw[h];exact b.out
 have t:=dD a;have z:=dD g;clear i j k h a g c d;obtain⟨c,a⟩:=kB (w.alloc (Xk #[R.x,I6 m.aB,S.x,N.x,P.x,K.x,L.x,O A M C,I6 m.cnt,H.x,O F D G] 41));have b8:=gA a;have g:=xA a;have d:=dD a;clear a;go_enter func44,ntmps44;go_upto_region 2 with fail;rw[d.out];have Z:=g.c 10 rfl;go_upto_region 3 with fail;clear Z;go_loopg[3,19] D (fun aa Y j wr=>∃(p F:Nat)(a0:Option Addr)(a1:Nat),p<=D/\D-p<=aa/\F<=2000*p/\j=I6 p/\Y=O a0 F a1/\Xo (F=(zav m p).length)/\Xo (zc c wr)/\Xo (zb byE c.heap.size wr (O a0 F a1) (zav m p)))
 exact⟨0,0,Xb,0,nZ _,Wm,Wm,rfl,rfl,rfl,zc.refl _,zb.nil _ _ _⟩;obtain⟨p,F,a0,a1,a,a,a,rfl,rfl,P,aj,ak⟩:=hrel;by_cases ab:p<D
 ·have bj:=kC ab
  obtain⟨s,C⟩:∃s,Xo (m.sp[p]?=Xa s):=⟨_,gE (Rx b.out ab)⟩;obtain⟨x,T⟩:∃x,Q[p]?=Xa x:=⟨_,gE (Rx r.out ab)⟩;have r:=dD<|z.out p x s T C.out;obtain⟨a,a,b⟩:=t.out p x T;obtain⟨d,h,i,k,t,z,A,G,K,N⟩:=b wr (b8.trans aj);subst a;clear b T;go_upto_region 5 with fail;obtain⟨L,b⟩:=kA wr.heap.size;refine nW fun bf a=>?_;have aw:=gP a;have H:=xPT a b;have br:=dD (aj.trans aw);have b6:=dD (ak.aA aw);rw[b.out];clear a aw d h i k t z A G K N;obtain⟨d,h⟩:=kA (zav m p);rw[h.out]at b6 P;rw[P.out]at b6⊢;obtain⟨a,i⟩:∃a:List Int,Xo (d++[112]=a):=⟨d++[112],rfl⟩;have t:Xo (a.length<=2000*p+1):=show _<=_ by rw[<-i.out];have:=P.out;simp;omega
  obtain⟨k,b⟩:∃k:List Int,Xo (a++(if s.aE=Xc then[108]else[])=k):=⟨a++(if s.aE=Xc then[108]else[]),rfl⟩;have A:Xo (k.length<=2000*p+2):=dD (by rw[<-b.out];have:=t.out;split<;>simp<;>omega);go_wp2_with(at_builtin;refine zbl (w0:=c) rfl (.tmp 24) (.tmp 25) rfl _ d rfl (b6.aA (za _ _)) _ [112] rfl (q8 byE bf 112 _ _ rfl Dc) (by have:=P.out;show d.length+1<=_;omega) (br.trans (za _ _)) a i.out ?_)
  intro N K Q bo d bc bb z;have G:Xo (zt bo L 63 [Xh x.aE,x.ar.x,x.t0.x,x.t1.x,x.t2.x,x.t3.x,x.t4.x,x.t5.x,x.t6.x,x.t7.x]):=z _ _ _ Dc (H.aA (za _ _));clear z;have bq:Xo (zav m (p+1)=k++qM m p s 64):=dD (by rw[ziX C.out,h.out,<-b.out,<-i.out];simp);have h:=G.box.c 0 rfl;obtain⟨i,H⟩:=kA s.aE;rw[r.aE,H.out]at h;go_upto_if 28 with fail
  clear h;go_cut[3,19]from 19 to 92 (fun Y j h=>j=I6 p/\∃(a0:Option Addr)(F a1:Nat),Y=O a0 F a1/\Xo (F=k.length)/\Xo (zb byE c.heap.size h (O a0 F a1) k)/\Xo (zt h L 63 [Xh x.aE,x.ar.x,x.t0.x,x.t1.x,x.t2.x,x.t3.x,x.t4.x,x.t5.x,x.t6.x,x.t7.x])/\Xo (zc c h))
  case first=>
   cases i with
   |false=>
    have h:Xo (k=a):=dD (by rw[<-b.out,kF (by rw[H.out];decide),Xt]);go_wp2;go_meet;exact⟨rfl,N,K,Q,rfl,Rx h.out d,Rx h.out bc,G,bb⟩
   |true=>
    have h:Xo (a++[108]=k):=dD (by rw[<-b.out,kE H.out]);go_wp2_with(at_builtin;refine zbl (w0:=c) rfl (.tmp 29) (.tmp 30) rfl _ a rfl (bc.aA (za _ _)) _ [108] rfl (q8 byE bo 108 _ _ rfl Dc) (by have:=t.out;show a.length+1<=_;omega) (bb.trans (za _ _)) k h.out ?_)
    intro d b h bw a bd b5 i;have t:Xo (zt bw L 63 [Xh x.aE,x.ar.x,x.t0.x,x.t1.x,x.t2.x,x.t3.x,x.t4.x,x.t5.x,x.t6.x,x.t7.x]):=i _ _ _ Dc (G.aA (za _ _));clear i;go_wp2;go_meet;exact⟨rfl,d,b,h,rfl,a,bd,t,b5⟩
  case rest=>
  obtain⟨rfl,d,b,h,rfl,a,bd,t,b5⟩:=hcut;have j:=dD<|(jL.1 (B.ar s (mG C)).1).2;have i:=Zo (x.ar.x) s.aC wc (r.ar.aA (b8.trans b5)) j.cE;have j:=t.box.c 1 rfl;go_wp2_with fail;refine i.mono ?_;clear i j;rintro b7 i⟨rfl,j⟩;have r:=dD (b5.trans j);have t:Xo (zb byE c.heap.size i (O d b h) (k++qM m p s 0)):=show zb _ _ _ _ _ by
   rw[show qM m p s 0=[]from rfl,Xt];exact bd.aA j
  have i:Xo (b=(k++qM m p s 0).length):=dD<|by
   rw[show qM m p s 0=[]from rfl,Xt];exact a.out
  clear j;go_upto_region 9 with fail;go_loopg[3,35] 64 (fun aa Y a wr=>∃(n F:Nat)(a0:Option Addr)(a1:Nat),n<=64/\64-n<=aa/\F<=2000*p+2+16*n/\a=I6 n/\Y=O a0 F a1/\Xo (F=(k++qM m p s n).length)/\Xo (zc c wr)/\Xo (zb byE c.heap.size wr (O a0 F a1) (k++qM m p s n)))
  exact⟨0,b,d,h,Wm,Wm,by have:=i.out;have:=A.out;simp[qM]at*;omega,rfl,rfl,i,r,t⟩;obtain⟨n,cg,ch,ci,a,a,a,rfl,rfl,Q,aj,ak⟩:=hrel;by_cases d:n<64
  ·have ay:(n:Int)<64:=Wm
   obtain⟨a,t⟩:=kA (zl s.aC n);have j:Value.agg (onv (zl s.aC n)).toArray=Xi #[Xh a.is,Xh a.rd,Xh a.wr,Xh a.sh,I6 a.file,I6 a.page]:=Rr t.out;obtain⟨h,b⟩:∃h:List Int,Xo (k++qM m p s n=h):=⟨_,rfl⟩;have an:Xo (k++qM m p s (n+1)=h++zk7 m p s n):=dD (by rw[zk5,<-Xz,b.out]);rw[b.out]at ak Q;go_upto_region 11 with(refine zbO rfl (.tmp 34) (.tmp 35) rfl (zl s.aC) rfl n rfl d j ?_)
   obtain⟨X,i⟩:=kA wr.heap.size;refine nW fun r d=>?_;have a7:=gP d;have z:=xPT d i;have b:=dD (aj.trans a7);have W:=dD (ak.aA a7);rw[i.out];clear d a7 j;have j:=z.box.c 0 rfl;cases d:a.is with
   |false=>
    rw[d]at j;have R:Xo (k++qM m p s (n+1)=h):=dD<|by
     rw[an.out];unfold zk7;rw[t.out,kE d,Xt]
    clear d;go_wp2;go_roundg (64-(n+1));exact⟨n+1,cg,ch,ci,Wm,Wm,Wm,Gn,rfl,Rx R.out Q,b,Rx R.out W⟩;omega
   |true=>
    rw[d]at j;have i:=y.out r (p:Int) (n:Int) (b8.trans b);obtain⟨c1,c2,c3,c4,c5,c6,c7,bm,c8,c9,Z⟩:=(g.aA b).k11;go_wp2_with fail;refine i.mono ?_;clear i j c1 c2 c3 c4 c5 c6 c7 bm c8 c9 Z;rintro b7 a8⟨rfl,i,r⟩;obtain⟨⟨a9,ax,A⟩,j⟩:∃y,Xo (jW m (p:Int) (n:Int)=y):=⟨_,rfl⟩;rw[j.out]at i⊢;obtain⟨B,C,G,K,L,N,S,U,y⟩:=zcE a9 i;subst y;have am:Xo (zk7 m p s n=[(n:Int),A%256,a.file%256,a.page%256]++[B,C,G,K,L,N,S,U]++[yn a.rd,yn a.wr,yn a.sh,yn (ax&&decide (0<=a.file))]):=dD<|by
     unfold zk7;rw[t.out,kF (by rw[d];decide),j.out]
    have y:=dD (b.trans r);have a9:=dD (W.aA r);have t:=dD (z.aA r);clear r i d;simp only[zbp,pgc,mP,Ya];go_upto_region 13 with fail;obtain⟨au,d⟩:=kA a8.heap.size;refine nW fun i b=>?_;have j:=gP b;have z:=xPT b d;have ar:=dD (y.trans j);have al:=dD (a9.aA j);have r:=dD (t.aA j);rw[d.out];clear b j;have b:h.length<=20000:=Hm Q.out;obtain⟨b,t⟩:∃b:Xn->Prop,Xo (∀y,b y↔(zt y au 44 [U8 B,U8 C,U8 G,U8 K,U8 L,U8 N,U8 S,U8 U]/\zt y X 67 [Xh a.is,Xh a.rd,Xh a.wr,Xh a.sh,I6 a.file,I6 a.page])):=⟨_,fun _=>Iff.rfl⟩;have W:b i.drew:=(t _).2 ⟨z.aA (gW _),r.aA (gW _)⟩;have a9:zc i i.drew:=show Below _ _ _ from(bR _ _).drew;have ap:Nonempty (zg b):=⟨⟨_,W⟩⟩;have af:=fun z:zg b=>((t _).1 z.holds).2.box.c 4 rfl;have ag:=fun z:zg b=>((t _).1 z.holds).2.box.c 5 rfl;refine zN (I:=b) 15 [(11,fun r=>∃av,r=O (Xa ⟨av,0,Xb⟩) 4 4),(12,fun r=>∃s:Sli,r=s.x),(14,fun r=>∃s:Sli,r=s.x)] (fun y=>zc i y) W a9 z1 Kr rfl rfl Dc (Sc ⟨_,0,rfl⟩ ⟨_,zP,rfl⟩ ⟨_,zP,rfl⟩) Kr ?_;simp only[List.take,List.drop];iterate 11 refine zj ?_
    refine zC rfl rfl (fun r y=>zc i y/\zq byE y r [(n:Int),A%256,a.file%256,a.page%256]) (fun w' i d=>?_) (fun az ah=>?_);·obtain⟨T,ai⟩:=(t _).1 i;refine zL.step (v:=O (Xa ⟨w'.heap.size,0,Xb⟩) 4 4) (w':=w'.alloc (Xk #[U8 (n:Int),U8 (A%256),U8 (a.file%256),U8 (a.page%256)] 5)) (by clear af ag;simp only[execOp];go_simp) ⟨(t _).2 ⟨T.aA (za _ _),ai.aA (za _ _)⟩,⟨_,rfl⟩,d.trans (za _ _),zdS byE w' [(n:Int),A%256,a.file%256,a.page%256] _ rfl (show 4*1<=_ by decide)⟩
    obtain⟨a7,rfl⟩:=ah;refine Uq ?_;refine zC rfl rfl (fun r y=>zc c y/\zb byE c.heap.size y r (h++[(n:Int),A%256,a.file%256,a.page%256])) (fun w' i d=>?_) (fun az ah=>?_)
    ·obtain⟨T,ai⟩:=(t _).1 i;obtain⟨x,X⟩:=d;obtain⟨ba,aq,j,ae,b,b0⟩:=qI (E:=byE) (w:=w') 24 (al.aA x) (O (Xa ⟨a7,0,Xb⟩) 4 4) [(n:Int),A%256,a.file%256,a.page%256] X (by show(h.length+4)*1<=_;omega) (nT (bS ar) (bS x));obtain⟨a7,a8,rfl⟩:=ae.form;refine zL.step (w':=aq) (v:=.slice a7 (h++[(n:Int),A%256,a.file%256,a.page%256]).length a8) ?_ ⟨(t _).2 ⟨zt.row (al.aA x) b T Dc,zt.row (al.aA x) b ai Dc⟩,⟨⟨a7,_,a8⟩,rfl⟩,zc.row (al.aA x) b (ar.trans x),ae⟩;simp only[execOp,resolve,invoke,builtin,pure_bind,Sem.run_bind,Sem.run_pure,List.map_toArray,mP,Ya];exact Eq.trans (congrArg (fun b7=>Result.andThen b7 (fun al w'=>Result.ok (Next.value al) w')) j) rfl
    obtain⟨ar,rfl⟩:=ah;refine Uq ?_;refine zj ?_;refine zC rfl rfl (fun r y=>zc c y/\zb byE c.heap.size y r ((h++[(n:Int),A%256,a.file%256,a.page%256])++[B,C,G,K,L,N,S,U])) (fun w' i d=>?_) (fun az ah=>?_)
    ·obtain⟨T,ai⟩:=(t _).1 i;obtain⟨x,X⟩:=d;obtain⟨ba,aq,j,ae,b,b0⟩:=qI (E:=byE) (w:=w') 24 X (O (Xa ⟨au,0,Xb⟩) 8 8) [B,C,G,K,L,N,S,U] (zq6 byE T.box [B,C,G,K,L,N,S,U] rfl (show 8*1<=_ by decide)) (by simp only[lA];show(h.length+4+8)*1<=_;omega) (bS x);obtain⟨a7,a8,rfl⟩:=ae.form;refine zL.step (w':=aq) (v:=.slice a7 ((h++[(n:Int),A%256,a.file%256,a.page%256])++[B,C,G,K,L,N,S,U]).length a8) ?_ ⟨(t _).2 ⟨zt.row X b T Dc,zt.row X b ai Dc⟩,⟨⟨a7,_,a8⟩,rfl⟩,zc.row X b x,ae⟩;simp only[execOp,resolve,invoke,builtin,pure_bind,Sem.run_bind,Sem.run_pure,List.map_toArray,mP,Ya];exact Eq.trans (congrArg (fun b7=>Result.andThen b7 (fun al w'=>Result.ok (Next.value al) w')) j) rfl
    obtain⟨bk,rfl⟩:=ah;refine Uq ?_;refine qN fun bg d b=>?_;obtain⟨r,T⟩:∃r:List Int,Xo ((h++[(n:Int),A%256,a.file%256,a.page%256])++[B,C,G,K,L,N,S,U]=r):=⟨_,rfl⟩;have ca:=dD b.1;have cb:Xo (zb byE c.heap.size bg (bk.x) r):=show zb _ _ _ _ _ by rw[<-T.out];exact b.2
    have h:=dD<|((t _).1 d).2;have ah:Xo (r.length<=2000*p+2+16*n+12):=show _<=_ by rw[<-T.out];have:=Q.out;simp;omega
    have ai:Xo (r.length<=20020):=dD (by rw[<-T.out];simp;omega);clear d b W a9 ap af ag;have cc:=h.box.c 1 rfl;have cd:=h.box.c 2 rfl;have ce:=h.box.c 3 rfl;have cf:=h.box.c 4 rfl;cases ax with
    |false=>
     have R:Xo (k++qM m p s (n+1)=r++[yn a.rd,yn a.wr,yn a.sh,yn (Xd)]):=dD<|by
      rw[an.out,am.out,<-T.out];simp
     go_upto_region 15 with fail;obtain⟨af,U⟩:=kA bg.heap.size;refine nW fun bh A=>?_;have ax:=gP A;have bv:=xPT A U;have bt:=dD (ca.trans ax);have bu:=dD (cb.aA ax);rw[U.out];clear A ax cc cd ce cf;obtain⟨b,G⟩:∃b:List Bool,Xo (b=[a.rd,a.wr,a.sh,Xd]):=⟨_,rfl⟩;have C:Xo (k++qM m p s (n+1)=r++b.map yn):=show _=_ by rw[R.out,G.out];rfl
     have aq:Xo (zt bh af 4 (b.map Value.bool)):=dD<|Rx G.out bv.out;have h:Xo (b.length=4):=dD<|Rr G.out;have ap:Xo (zb byE c.heap.size bh (bk.x) (r++(b.map yn).take 0)):=dD<|Si bu.out
     skip
     go_loopg[3,79] 4 (fun aa Y b0 wr=>∃(j:Nat)(t:Sli),j<=4/\4-j<=aa/\b0=I6 j/\Y=t.x/\Xo (zc c wr)/\Xo (zt wr af 4 (b.map Value.bool))/\Xo (zb byE c.heap.size wr (t.x) (r++(b.map yn).take j)))
     exact⟨0,bk,Wm,Wm,rfl,rfl,bt,aq,ap⟩;obtain⟨j,t,cj,c0,rfl,rfl,i,au,S⟩:=hrel;by_cases X:j<4
     ·have N:(j:Int)<4:=Wm
      obtain⟨z,ba⟩:∃z,Xo (b[j]?=Xa z):=⟨_,gE (Rx h.out X)⟩;have K:Xo ((r++(b.map yn).take j)++[yn z]=r++(b.map yn).take (j+1)):=dD (by rw[jE (l:=b.map yn) (q:=yn z) (by rw[Xu,ba.out];rfl)];simp);have y:=au.box.c j (u:=Xh z) (by rw[Xu,ba.out];rfl);have L:Xo ((r++(b.map yn).take j).length<=30000):=dD<|by
       have:=ai.out;simp only[lA,Xv];omega
      generalize r++(b.map yn).take j=x at S K L;have bi:x.length<=30000:=L.out;cases z with
      |true=>
       go_wp2_with(at_builtin;refine zbl (w0:=c) rfl (.tmp 84) (.tmp 85) rfl _ x rfl (S.aA (za _ _)) _ [121] rfl (q8 byE wr 121 _ _ rfl Dc) (by show x.length+1<=_;omega) (i.trans (za _ _)) _ (show x++[121]=_ from K.out) ?_)
       intro ag ae B al a7 a9 a8 d;have ar:Xo (zt al af 4 (b.map Value.bool)):=dD<|d _ _ _ Dc (au.aA (za _ _));clear d y;go_wp2;go_roundg (4-(j+1));exact⟨j+1,⟨ag,ae,B⟩,Wm,Wm,Gn,rfl,a8,ar,a9⟩;omega
      |false=>
       go_wp2_with(at_builtin;refine zbl (w0:=c) rfl (.tmp 87) (.tmp 88) rfl _ x rfl (S.aA (za _ _)) _ [110] rfl (q8 byE wr 110 _ _ rfl Dc) (by show x.length+1<=_;omega) (i.trans (za _ _)) _ (show x++[110]=_ from K.out) ?_)
       intro ag ae B al a7 a9 a8 d;have ar:Xo (zt al af 4 (b.map Value.bool)):=dD<|d _ _ _ Dc (au.aA (za _ _));clear d y;go_wp2;go_roundg (4-(j+1));exact⟨j+1,⟨ag,ae,B⟩,Wm,Wm,Gn,rfl,a8,ar,a9⟩;omega
     have N:¬(j:Int)<4:=Wm;have:j=4:=Wm;subst this;have be:Xo (zb byE c.heap.size wr (t.x) (k++qM m p s (n+1))):=dD<|by
      rw[C.out];have:=S.out;rw[Xw (by rw[Xs,h.out];exact nR _)]at this;exact this
     have W:=dD be.n;have az:t.n<=2000*p+2+16*(n+1):=by
      rw[W.out,C.out,lA,Xs,h.out];have:=ah.out;omega
     go_wp2;go_roundg (64-(n+1));exact⟨n+1,t.n,t.a,t.c,Wm,Wm,az,Gn,rfl,W,i,be⟩;omega
    |true=>
     obtain⟨bx,bz⟩:=kB (decide (0<=a.file));rw[Bool.true_and,bz]at am;have R:Xo (k++qM m p s (n+1)=r++[yn a.rd,yn a.wr,yn a.sh,yn (bx)]):=dD<|by
      rw[an.out,am.out,<-T.out];simp
     go_upto_region 15 with fail;obtain⟨af,U⟩:=kA bg.heap.size;refine nW fun bh A=>?_;have ax:=gP A;have bv:=xPT A U;have bt:=dD (ca.trans ax);have bu:=dD (cb.aA ax);rw[U.out];clear A ax cc cd ce cf;obtain⟨b,G⟩:∃b:List Bool,Xo (b=[a.rd,a.wr,a.sh,bx]):=⟨_,rfl⟩;have C:Xo (k++qM m p s (n+1)=r++b.map yn):=show _=_ by rw[R.out,G.out];rfl
     have aq:Xo (zt bh af 4 (b.map Value.bool)):=dD<|Rx G.out bv.out;have h:Xo (b.length=4):=dD<|Rr G.out;have ap:Xo (zb byE c.heap.size bh (bk.x) (r++(b.map yn).take 0)):=dD<|Si bu.out
     skip
     go_loopg[3,79] 4 (fun aa Y b0 wr=>∃(j:Nat)(t:Sli),j<=4/\4-j<=aa/\b0=I6 j/\Y=t.x/\Xo (zc c wr)/\Xo (zt wr af 4 (b.map Value.bool))/\Xo (zb byE c.heap.size wr (t.x) (r++(b.map yn).take j)))
     exact⟨0,bk,Wm,Wm,rfl,rfl,bt,aq,ap⟩;obtain⟨j,t,cj,c0,rfl,rfl,i,au,S⟩:=hrel;by_cases X:j<4
     ·have N:(j:Int)<4:=Wm
      obtain⟨z,ba⟩:∃z,Xo (b[j]?=Xa z):=⟨_,gE (Rx h.out X)⟩;have K:Xo ((r++(b.map yn).take j)++[yn z]=r++(b.map yn).take (j+1)):=dD (by rw[jE (l:=b.map yn) (q:=yn z) (by rw[Xu,ba.out];rfl)];simp);have y:=au.box.c j (u:=Xh z) (by rw[Xu,ba.out];rfl);have L:Xo ((r++(b.map yn).take j).length<=30000):=dD<|by
       have:=ai.out;simp only[lA,Xv];omega
      generalize r++(b.map yn).take j=x at S K L;have bi:x.length<=30000:=L.out;cases z with
      |true=>
       go_wp2_with(at_builtin;refine zbl (w0:=c) rfl (.tmp 84) (.tmp 85) rfl _ x rfl (S.aA (za _ _)) _ [121] rfl (q8 byE wr 121 _ _ rfl Dc) (by show x.length+1<=_;omega) (i.trans (za _ _)) _ (show x++[121]=_ from K.out) ?_)
       intro ag ae B al a7 a9 a8 d;have ar:Xo (zt al af 4 (b.map Value.bool)):=dD<|d _ _ _ Dc (au.aA (za _ _));clear d y;go_wp2;go_roundg (4-(j+1));exact⟨j+1,⟨ag,ae,B⟩,Wm,Wm,Gn,rfl,a8,ar,a9⟩;omega
      |false=>
       go_wp2_with(at_builtin;refine zbl (w0:=c) rfl (.tmp 87) (.tmp 88) rfl _ x rfl (S.aA (za _ _)) _ [110] rfl (q8 byE wr 110 _ _ rfl Dc) (by show x.length+1<=_;omega) (i.trans (za _ _)) _ (show x++[110]=_ from K.out) ?_)
       intro ag ae B al a7 a9 a8 d;have ar:Xo (zt al af 4 (b.map Value.bool)):=dD<|d _ _ _ Dc (au.aA (za _ _));clear d y;go_wp2;go_roundg (4-(j+1));exact⟨j+1,⟨ag,ae,B⟩,Wm,Wm,Gn,rfl,a8,ar,a9⟩;omega
     have N:¬(j:Int)<4:=Wm;have:j=4:=Wm;subst this;have be:Xo (zb byE c.heap.size wr (t.x) (k++qM m p s (n+1))):=dD<|by
      rw[C.out];have:=S.out;rw[Xw (by rw[Xs,h.out];exact nR _)]at this;exact this
     have W:=dD be.n;have az:t.n<=2000*p+2+16*(n+1):=by
      rw[W.out,C.out,lA,Xs,h.out];have:=ah.out;omega
     go_wp2;go_roundg (64-(n+1));exact⟨n+1,t.n,t.a,t.c,Wm,Wm,az,Gn,rfl,W,i,be⟩;omega
  have ay:¬(n:Int)<64:=Wm;have:n=64:=Wm;subst this;rw[<-bq.out]at ak Q;go_wp2;go_roundg (D-(p+1));exact⟨p+1,cg,ch,ci,Wm,Wm,Wm,Gn,rfl,Q,aj,ak⟩;omega
 have bj:=kD ab;have:p=D:=Wm;subst this;have bm:=(g.aA aj).c 7 rfl;obtain⟨b,a⟩:∃b:List Int,Xo (zav m p=b):=⟨_,rfl⟩;rw[a.out]at ak P ao;have j:b.length<=8000:=Hm P.out;have a:Xo (zb byE c.heap.size wr (O a0 F a1) (b++Zy m 0)):=dD<|by
  rw[show Zy m 0=[]from rfl,Xt];exact ak.out
 go_upto_region 24 with fail;clear bm;obtain⟨h,h⟩:=kB wr;rw[h]at a aj⊢;clear h;go_loopg[3,97] M (fun aa Y h wr=>∃(f:Nat)(t:Sli),f<=M/\M-f<=aa/\h=I6 f/\Y=t.x/\Xo (zc c wr)/\Xo (zb byE c.heap.size wr (t.x) (b++Zy m f))/\Xo ((b++Zy m f).length<=8000+1002*f))
 exact⟨0,⟨a0,F,a1⟩,Wm,Wm,rfl,rfl,aj,a,show _<=_ by simpa[Zy]using j⟩;obtain⟨f,t,a,a,rfl,rfl,i,S,H⟩:=hrel;by_cases h:f<M
 ·have k:=kC h
  have a:=b9.out wr (f:Int) (b8.trans i);obtain⟨c1,c2,c3,c4,c5,c6,c7,bm,c8,c9,Z⟩:=(g.aA i).k11;go_wp2_with fail;refine a.mono ?_;clear a c1 c2 c3 c4 c5 c6 c7 bm c8 c9 Z;rintro b7 bf⟨⟨y,rfl,g⟩,aw⟩;obtain⟨C,D,rfl⟩:=g.form;have n:=bp.out (f:Int);have a:Xo (b++Zy m (f+1)=((b++Zy m f)++[102,((ZD m (f:Int)).length:Int)%256])++ZD m (f:Int)):=dD<|by
   rw[zlE];unfold zmB;simp
  obtain⟨y,j⟩:=kA (ZD m (f:Int));rw[j.out]at g n a⊢;have br:=dD (i.trans aw);have b6:=dD (S.aA aw);have r:=dD g;have L:=dD<|fun av(z:(t.x).ownBlock=Xa av)=>(S.lt av z).2;clear g aw;generalize b++Zy m f=x at b6 a H;have bi:x.length<=20000:=Hm H.out;obtain⟨p,j⟩:=kA y.length;rw[j.out]at r n a⊢;obtain⟨bo,g⟩:=kB (bf.alloc (Xk #[U8 102,U8 ((p:Int)%256)] 5));have n:=gP g;have A:Xo (zq byE bo (O (Xa ⟨bf.heap.size,0,Xb⟩) 2 2) [102,(p:Int)%256]):=dD (by rw[<-g];exact zdS byE bf [102,(p:Int)%256] _ rfl (show 2*1<=_ by decide));have bb:=dD (br.trans n);have bc:=dD (b6.aA n);have t:=dD (r.aA n);have r:=dD g;clear g n;go_wp2_with(at_builtin;rw[r.out];refine zr (E:=byE) rfl (.tmp 106) (.tmp 110) rfl c.heap.size _ x rfl bc _ [102,(p:Int)%256] rfl A (by show(x.length+2)*1<=_;omega) (bS bb) ?_)
  intro g bw n g;have b5:=dD<|zc.row bc g bb.out;have r:Xo (zb byE wr.heap.size bw (O C p D) y):=dD<|t.grown g (fun av z e=>by have:=L.out av e;have:=(t.lt av z).1;omega);obtain⟨t,t,rfl⟩:=n.form;have bd:=dD n;clear n g;go_wp2_with(at_builtin;refine zbl (w0:=c) rfl (.tmp 111) (.tmp 112) rfl _ (x++[102,(p:Int)%256]) rfl bd _ y rfl r.at (by simp only[lA];show x.length+2+_<=_;have:=j.out;omega) b5 _ a.symm ?_)
  intro ag ae B al a7 a9 a8 d;have c:Xo ((b++Zy m (f+1)).length<=8000+1002*(f+1)):=dD<|by
   rw[a.out];have:=H.out;have:=j.out;simp only[lA,List.length_cons,List.length_nil];omega
  clear d;go_wp2;go_roundg (M-(f+1));exact⟨f+1,⟨ag,ae,B⟩,Wm,Wm,Gn,rfl,a8,a9,c⟩;omega
 have k:=kD h;have:f=M:=Wm;subst this;have a:=zeP S.at;rw[<-ao.out]at a;have a:=dD (b8.trans i);go_wp2;go_ret;exact⟨rfl,a⟩
theorem zmE(V V')(m m':Ma)(p n:Int)(a4:Bool)(w)(cf:zQ w V m)(M:zQ w V' m')(bk:Rt m)(aj:Rt m')(dg:∀s∈m.sp,jQ m.fl.length s.aC)(ao:∀s∈m'.sp,jQ m'.fl.length s.aC)(hS:a4=Xd->zdQ m'=zdQ m)
  (df:a4=Xc->∀q i:Nat,q<m.sp.length->i<64->(jR m' (q:Int) (i:Int)).2.2=(jR m (q:Int) (i:Int)).2.2/\(jR m' (q:Int) (i:Int)).1=(jR m (q:Int) (i:Int)).1/\(¬((q:Int)=p/\(i:Int)=n)->(jR m' (q:Int) (i:Int)).2.1=(jR m (q:Int) (i:Int)).2.1))(de:a4=Xc->∀f:Nat,f<m.fl.length->ZD m' (f:Int)=ZD m (f:Int))(di:a4=Xc->m'.sp.length=m.sp.length):
  Xp prog 15 #[Xi (mL V m).toArray,Xi (mL V' m').toArray,I6 p,I6 n,Xh a4] w fun e w'=>e=Xl (Xh Xc)/\zc w w':=by
 have ds:=dD cf;have dq:=dD M;have bv:=dD bk;have G:=dD aj;have d8:=dD dg;have a8:=dD ao;obtain⟨-,-,-,-,-,-,dk,-,dl⟩:=cf.ns;obtain⟨-,-,-,-,-,-,-,-,dm⟩:=M.ns;have bt:=dD dk;have a9:=dD dl;have bu:=dD dm;have du:=show Xo _ from df;have dp:=show Xo _ from de;have dr:=show Xo _ from di;have dt:=show Xo _ from hS;have D:=bk.inv.aI;have ap:=((z8 _ _).1 bk.inv.st).1.1;clear cf M bk aj dg ao hS df de di dk dl dm;obtain⟨b,E⟩:=kA w.heap.size;obtain⟨a,u⟩:=kB ((w.alloc (Xk (mL V m).toArray 41)).alloc (Xk (mL V' m').toArray 41));have b8:=gD2 u;have d:Xo (zt a b 41 (mL V m)):=dD<|by rw[<-u];exact(zt.aF w (mL V m) _ E.symm).aA (za _ _)
 have j:Xo (zt a (b+1) 41 (mL V' m')):=dD<|by rw[<-u];exact zt.aF _ (mL V' m') _ (by have:=E.out;simp;omega)
 have bl:=dD (ds.aA b8);have c0:=dD (dq.aA b8);have bx:=dD u;clear u;go_enter func15,ntmps15;go_upto_region 1 with fail;rw[bx.out,E.out];cases a4 with
 |false=>
  have au:=dt.out (by trivial);have a6:=dD<|fun W(cc:zc a W)=>zdX V m W (bl.aA cc) bv.w d8.out;have a7:Xo (∀W,zc a W->Xp prog 44 #[Xi (mL V' m').toArray] W fun e w'=>e=Xl (.string (strOfNums (zdQ m)))/\zc W w'):=dD<|fun W cc=>by
   have:=zdX V' m' W (c0.aA cc) G.w a8.out;rw[au]at this;exact this
  generalize strOfNums (zdQ m)=d9 at a6 a7;have ch:=fun y:zf a=>(d.box.aA y.aA).c 0 rfl;have ci:=fun y:zf a=>(d.box.aA y.aA).c 1 rfl;have cj:=fun y:zf a=>(d.box.aA y.aA).c 2 rfl;have ck:=fun y:zf a=>(d.box.aA y.aA).c 3 rfl;have cl:=fun y:zf a=>(d.box.aA y.aA).c 4 rfl;have cm:=fun y:zf a=>(d.box.aA y.aA).c 5 rfl;have cn:=fun y:zf a=>(d.box.aA y.aA).c 6 rfl;have co:=fun y:zf a=>(d.box.aA y.aA).c 7 rfl;have cp:=fun y:zf a=>(d.box.aA y.aA).c 8 rfl;have cq:=fun y:zf a=>(d.box.aA y.aA).c 9 rfl;have av:=fun y:zf a=>(d.box.aA y.aA).c 10 rfl;have cs:=fun y:zf a=>(j.box.aA y.aA).c 0 rfl;have ct:=fun y:zf a=>(j.box.aA y.aA).c 1 rfl;have cu:=fun y:zf a=>(j.box.aA y.aA).c 2 rfl;have cv:=fun y:zf a=>(j.box.aA y.aA).c 3 rfl;have cw:=fun y:zf a=>(j.box.aA y.aA).c 4 rfl;have cx:=fun y:zf a=>(j.box.aA y.aA).c 5 rfl;have cy:=fun y:zf a=>(j.box.aA y.aA).c 6 rfl;have cz:=fun y:zf a=>(j.box.aA y.aA).c 7 rfl;have d0:=fun y:zf a=>(j.box.aA y.aA).c 8 rfl;have d1:=fun y:zf a=>(j.box.aA y.aA).c 9 rfl;have aw:=fun y:zf a=>(j.box.aA y.aA).c 10 rfl;have cg:Nonempty (zf a):=⟨⟨_,zc.refl _⟩⟩;clear au;go_upto_region 2 with fail;refine jD 6 [(1,⟨fun d6=>d6=.string d9,fun _ _=>True⟩),(3,⟨fun d6=>d6=.string d9,fun _ _=>True⟩)] z1 Kr rfl rfl Dc ?hS ?hp ?_;case hS=>
   intro ef ax;simp only[mC,nM,or_false]at ax;rcases ax with rfl|rfl<;>exact⟨_,rfl⟩
  case hp=>
   intro ef ax;simp only[mC,nM,or_false]at ax;rcases ax with rfl|rfl<;>exact fun _ _ _ _ _=>trivial
  simp only[List.take,List.drop];refine ZX rfl rfl rfl (fun bz ai=>?_);go_big_quiet_op;refine ai _ ?_;clear ai bz;refine zG rfl rfl (fun w' cd e2=>?_) (fun ed cr=>?_);·refine zL.call [Xi (mL V m).toArray] rfl func44 rfl rfl rfl ?_;refine(a6 w' cd).mono ?_;rintro e d7⟨rfl,B⟩;exact⟨_,rfl,B,rfl,trivial⟩
  cases cr;refine Uq ?_;refine ZX rfl rfl rfl (fun bz ai=>?_);go_big_quiet_op;refine ai _ ?_;clear ai bz;refine zG rfl rfl (fun w' cd e2=>?_) (fun ed cr=>?_);·refine zL.call [Xi (mL V' m').toArray] rfl func44 rfl rfl rfl ?_;refine(a7 w' cd).mono ?_;rintro e d7⟨rfl,B⟩;exact⟨_,rfl,B,rfl,trivial⟩
  cases cr;refine Uq ?_;iterate 2 refine ze ?_
  refine z2 fun eg db _=>?_;have dn:=dD (b8.trans (show zc _ _ from db));clear db cg ch ci cj ck cl cm cn co cp cq av cs ct cu cv cw cx cy cz d0 d1 aw;go_wp2;go_ret;exact⟨rfl,dn⟩
 |true=>
  obtain⟨R,H⟩:=kA m.sp.length;obtain⟨a3,F⟩:=kA m.fl.length;have e7:R<=4:=Ry H.out D;have e3:a3<=5:=by rw[<-F.out];omega
  clear D ap;have c:=d.box.c 10 rfl;(try simp only[Sli.x]at c);(try unfold Sli.x at c);rw[a9.out,H.out]at c;go_upto_region 4 with fail;clear c;go_loopg[34] R (fun c9 d2 wr=>∃q:Nat,q<=R/\R-q<=c9/\d2=I6 q/\Xo (zc a wr))
  exact⟨0,nZ _,Wm,rfl,zc.refl _⟩;obtain⟨q,es,e4,rfl,a5⟩:=hrel;by_cases g:q<R
  ·have ar:=kC g
   go_wp2;obtain⟨ei,al⟩:=kB wr;rw[al]at a5⊢;clear al;go_loopg[37] 64 (fun e1 d3 wr=>∃i:Nat,i<=64/\64-i<=e1/\d3=I6 i/\Xo (zc a wr))
   exact⟨0,nZ _,Wm,rfl,a5⟩;obtain⟨i,er,B,rfl,b9⟩:=hrel;by_cases aq:i<64
   ·have h:(i:Int)<64:=Wm
    have c4:=dD (d.aA b9);have v:=zbr V m (q:Int) (i:Int) wr (bl.aA b9) bv.w d8.out;obtain⟨S,T,U,X,Y,Z,I,x,a0,a1,c⟩:=c4.box.aZ;go_wp2_with fail;refine v.mono ?_;clear v S T U X Y Z I x a0 a1 c;rintro e da⟨rfl,L,dc⟩;obtain⟨bi,bj,ag⟩:=du.out (by trivial) q i (Rx H.out g) aq;obtain⟨dy,bw⟩:=kA (jR m (q:Int) (i:Int));obtain⟨dx,ae⟩:=kA (jR m' (q:Int) (i:Int));rw[bw.out]at L bi bj ag⊢;(try unfold Sli.x at bi);(try unfold Sli.x at bj);(try unfold Sli.x at ag);rw[ae.out]at bi bj ag;obtain⟨f0,e8,eq⟩:=dy;obtain⟨ez,dj,ep⟩:=dx;simp only at bi bj ag;subst bi bj;obtain⟨⟨ba,bb,bc,bd,be,bf,bg,bh⟩,rfl⟩:=zqs L;have bs:=dD ag;clear L ag;simp only[zbp,pgL,pgc,List.map];go_upto_region 10 with fail;obtain⟨ew,ac⟩:=kA da.heap.size;obtain⟨c6,A⟩:=kB (da.alloc (Xk #[U8 ba,U8 bb,U8 bc,U8 bd,U8 be,U8 bf,U8 bg,U8 bh] 44));have dd:zc wr c6:=(by rw[<-A];exact dc.trans (za _ _));have e0:=xPT A ac;have bp:=dD (b9.trans dd);have c5:=dD (j.aA bp);rw[A,ac.out];clear A dc dd;have v:=zbr V' m' (q:Int) (i:Int) c6 (c0.aA bp) G.w a8.out;obtain⟨S,T,U,X,Y,Z,I,x,a0,a1,c⟩:=c5.box.aZ;go_wp2_with fail;refine v.mono ?_;clear v S T U X Y Z I x a0 a1 c;rintro e af⟨rfl,_,ah⟩;rw[ae.out];simp only[zbp,pgL,pgc,List.map];go_upto_region 11 with fail;obtain⟨ex,ad⟩:=kA af.heap.size;obtain⟨z,k⟩:=kB (af.alloc (Xk #[U8 ba,U8 bb,U8 bc,U8 bd,U8 be,U8 bf,U8 bg,U8 bh] 44));have r:zc c6 z:=(by rw[<-k];exact ah.trans (za _ _));have c8:=xPT k ad;have c7:=dD (e0.aA r);have t:=dD (bp.trans r);rw[k,ad.out];clear k ah r;go_cut[78] (fun d4 ee=>d4=Xh Xd/\ee=z)
    case first=>
     have e6:∀W,(Op.equalIn 10000 44 (Xi #[U8 ba,U8 bb,U8 bc,U8 bd,U8 be,U8 bf,U8 bg,U8 bh]) (Xi #[U8 ba,U8 bb,U8 bc,U8 bd,U8 be,U8 bf,U8 bg,U8 bh])).run prog W=.ok Xc W:=fun W=>by
      rw[zgh,decide_eq_true rfl]
     obtain⟨f1,f2,f3,f4,f5,f6,f7,f8⟩:=c7.box.c8;obtain⟨f9,fa,fb,fc,fd,fe,ff,fg⟩:=c8.box.c8;by_cases an:(q:Int)=p/\(i:Int)=n
     ·have et:((q:Int)!=p)=Xd:=by simp[an.1]
      have eu:((i:Int)!=n)=Xd:=(by simp[an.2]);clear an;cases e8<;>cases dj
      all_goals(go_wp2;go_meet;exact⟨rfl,rfl⟩)
     have ce:=bs.out an;subst ce;clear an;cases dj;all_goals(go_wp2;go_meet;exact⟨rfl,rfl⟩)
    case rest=>
    obtain⟨rfl,rfl⟩:=hcut;go_wp2;go_roundg (64-(i+1));exact⟨i+1,Wm,Wm,Gn,t⟩;omega
   have h:¬(i:Int)<64:=Wm;go_wp2;go_roundg (R-(q+1));exact⟨q+1,Wm,Wm,Gn,b9⟩;omega
  have ar:=kD g;have:q=R:=Wm;subst this;obtain⟨eh,ak⟩:=kB wr;rw[ak]at a5⊢;clear ak;have x:=(d.aA a5).box.c 7 rfl;(try simp only[Sli.x]at x);(try unfold Sli.x at x);rw[bt.out,F.out]at x;go_upto_region 16 with fail;clear x;go_loopg[85] a3 (fun c9 d5 wr=>∃l:Nat,l<=a3/\a3-l<=c9/\d5=I6 l/\Xo (zc a wr))
  exact⟨0,nZ _,Wm,rfl,a5⟩;obtain⟨l,e5,dh,rfl,a2⟩:=hrel;by_cases g:l<a3
  ·have h:=kC g
   have c4:=dD (d.aA a2);have am:=zay V m l wr (bl.aA a2) bv.w;obtain⟨S,T,U,X,Y,Z,I,x,a0,a1,c⟩:=c4.box.aZ;go_wp2_with fail;refine am.mono ?_;clear am S T U X Y Z I x a0 a1 c;rintro e9 z⟨⟨ec,rfl,Q⟩,r⟩;obtain⟨ej,en,rfl⟩:=Q.form;have dv:=dD Q.at;have t:=dD (a2.trans r);have c5:=dD (j.aA t);clear Q r;have am:=zay V' m' l z (c0.aA t) G.w;have br:Xo (ZD m' (l:Int)=ZD m (l:Int)):=dp.out (by trivial) l (Rx F.out g);obtain⟨S,T,U,X,Y,Z,I,x,a0,a1,c⟩:=c5.box.aZ;go_wp2_with fail;refine am.mono ?_;clear am S T U X Y Z I x a0 a1 c;rintro e9 dz⟨⟨ey,rfl,C⟩,K⟩;(try unfold Sli.x at C);rw[br.out]at C;obtain⟨el,eo,rfl⟩:=C.form;have dw:=dD C.at;have bo:=dD (t.trans K);have N:=zeP (dv.aA K);have P:=zeP dw.out;clear C K;obtain⟨em,bq⟩:=kA ((ZD m (l:Int)).length);rw[bq.out]at N P⊢;generalize strOfNums (ZD m (l:Int))=eb at N P;go_wp2;clear N P;go_roundg (a3-(l+1));exact⟨l+1,Wm,Wm,Gn,bo⟩;omega
  have h:=kD g;have bm:=dD (b8.trans a2);have ay:=(d.aA a2).box.c 10 rfl;have az:=(j.aA a2).box.c 10 rfl;(try unfold Sli.x at ay);rw[a9.out]at ay;(try unfold Sli.x at az);rw[bu.out,dr.out (by trivial)]at az;generalize m.sp.length=ea at ay az;go_wp2;go_ret;exact⟨rfl,bm⟩
theorem Sam.bytes{S:Nat->Nat->Prop}(g:Sam S m m')(h:Rt m)(a:Rt m')(file:Nat):ZD m' (file:Int)=ZD m (file:Int):=by
 have b:zcp m' (file:Int)=zcp m (file:Int):=by
  unfold zcp;rw[h.w,a.w,g.fll]
 unfold ZD;rw[b];split
 ·unfold zky;rw[g.sz];refine List.map_congr_left fun k c=>?_;exact g.byt file k (Hm (List.mem_range.1 c))
 rfl
theorem Sam.files{S:Nat->Nat->Prop}(g:Sam S m m')(d:∀s∈m.sp,jQ m.fl.length s.aC):∀s∈m'.sp,jQ m'.fl.length s.aC:=fun e a=>by
 obtain⟨i,b⟩:=Xx a;have c:i<m.sp.length:=by rw[<-g.aI];exact(gS.1 b).1
 rw[(g.sp i _ e (gE c) b).2,g.fll];exact d _ (List.getElem_mem c)
section
variable{wr:Bool}{m m':Ma}{q n k:Nat}{s:Sp}{a:Ar}{pg:Pg}{ic:Bool}
theorem zcs.own(h:zcs wr m q n s a pg ic k m')(p:Rt m):jR m (q:Int) (n:Int)=(pgL pg,ic,0)/\∃b,jR m' (q:Int) (n:Int)=(pgL pg,b,0)/\(wr=Xd->0<=a.file->b=ic)/\(wr=Xc->a.sh=Xd->b=Xc):=by
 obtain⟨d,l,x,c,e,f,g,t,u,i⟩:=h.into;have j:=(h.aM.sp q s d h.sp c).2;have r:(zl d.aC n).is=Xc:=by rw[j,h.on];rfl
 refine⟨by rw[Zu p h.sp h.n64];exact h.see,decide (l.f<0),?_,i,fun w v=>?_⟩;·rw[Zu h.rt c h.n64,f,zpR r e,g]
 grind
theorem zcs.rest(h:zcs wr m q n s a pg ic k m')(f:Rt m)(p j:Nat)(hp:p<m.sp.length)(c:j<64)(d:¬(p=q/\j=n)):jR m' (p:Int) (j:Int)=jR m (p:Int) (j:Int):=by have e:=gE hp;have b:=gE (show p<m'.sp.length by rw[h.aM.aI];exact hp);rw[Zu f e c,Zu h.rt b c,(h.aM.sp _ _ _ e b).2];exact h.aM.see _ _ _ _ e b c d
theorem zcs.views(h:zcs wr m q n s a pg ic k m')(b:Rt m)(p j:Nat)(hp:p<m.sp.length)(c:j<64):(jR m' (p:Int) (j:Int)).2.2=(jR m (p:Int) (j:Int)).2.2/\(jR m' (p:Int) (j:Int)).1=(jR m (p:Int) (j:Int)).1/\(¬((p:Int)=(q:Int)/\(j:Int)=(n:Int))->(jR m' (p:Int) (j:Int)).2.1=(jR m (p:Int) (j:Int)).2.1):=by
 by_cases e:p=q/\j=n
 ·obtain⟨rfl,rfl⟩:=e;obtain⟨f,d,g,_⟩:=h.own b;grind
 rw[h.rest b p j hp c e];grind
theorem zcs.seen(h:zcs Xd m q n s a pg ic k m')(c:Rt m):zdQ m'=zdQ m:=by
 refine zmA h.aM.aI (fun p t i d b=>⟨(h.aM.sp p t i d b).1,(h.aM.sp p t i d b).2,fun j u _=>?_⟩) h.aM.fll (fun l _=>h.aM.bytes c h.rt l);have g:∀(M:Ma)(j:Nat),Rt M->jR M (p:Int) (j:Int)=jW M (p:Int) (j:Int):=fun M j r=>by
  unfold jR;rw[kF (by rw[r.w];simp)]
 rw[<-g m j c,<-g m' j h.rt];by_cases e:p=q/\j=n
 ·obtain⟨rfl,rfl⟩:=e;obtain⟨v,y,w,x,_⟩:=h.own c;have:=h.sp;rw[d]at this;cases this;rw[v,w];refine⟨rfl,rfl,fun f=>?_⟩;rw[h.on]at f;exact x rfl f
 rw[h.rest c p j (gS.1 d).1 u e];grind
end
theorem zoC(w:Xn):Xp prog 35 #[Xi #[eS,I6 0],Xi #[eS,I6 0]] w fun e w'=>e=Xl (Xh Xc)/\zc w w':=by
 have G:Xo (zc w ((w.alloc (Xk #[eS,I6 0] 28)).alloc (Xk #[eS,I6 0] 28))):=(za _ _).trans (za _ _);go_enter func35,ntmps35;go_wp2;go_loopg[23] 1 (fun c a wr=>a=I6 0/\0<c/\Xo (zc w wr))
 exact⟨rfl,Wm,G⟩;obtain⟨rfl,d,b⟩:=hrel;go_wp2;go_ret;exact⟨rfl,b⟩
theorem zqq(w:Xn):Xp prog 36 #[eS,eS] w fun e w'=>e=Xl (Xh Xc)/\zc w w':=by
 go_enter func36,ntmps36;go_wp2;go_loopg[13] 1 (fun c a wr=>a=I6 0/\0<c/\Xo (zc w wr))
 exact⟨rfl,Wm,zc.refl _⟩;obtain⟨rfl,d,b⟩:=hrel;go_wp2;go_ret;exact⟨rfl,b⟩
theorem zmD(w:Xn):Xp prog 37 #[Xi #[eS,eS],Xi #[eS,eS]] w fun e w'=>e=Xl (Xh Xc)/\zc w w':=by
 obtain⟨c,a⟩:=kB ((w.alloc (Xk #[eS,eS] 34)).alloc (Xk #[eS,eS] 34));have G:=gD2 a;have X:=x2a a;have b:Xo (_=c):=a;clear a;go_enter func37,ntmps37;go_wp2;rw[b.out];go_loopg[26] 1 (fun d f wr=>f=I6 0/\0<d/\Xo (zc c wr))
 exact⟨rfl,Wm,zc.refl _⟩;obtain⟨rfl,m,h⟩:=hrel;have n:=(X.aA h).c 1 rfl;obtain⟨i,rfl⟩:∃i,i=wr:=⟨_,rfl⟩;go_wp2;clear n;go_loopg[44] 1 (fun d g wr=>g=I6 0/\0<d/\Xo (zc c wr))
 exact⟨rfl,Wm,h⟩;obtain⟨rfl,j,l⟩:=hrel;have k:=dD (G.trans l);go_wp2;go_ret;exact⟨rfl,k⟩
theorem zqp(w:Xn):Xp prog 38 #[Xi #[eS,I6 0],Xi #[eS,I6 0]] w fun e w'=>e=Xl (Xh Xc)/\zc w w':=by
 have G:Xo (zc w ((w.alloc (Xk #[eS,I6 0] 37)).alloc (Xk #[eS,I6 0] 37))):=(za _ _).trans (za _ _);go_enter func38,ntmps38;go_wp2;go_loopg[26] 1 (fun c a wr=>a=I6 0/\0<c/\Xo (zc w wr))
 exact⟨rfl,Wm,G⟩;obtain⟨rfl,d,b⟩:=hrel;go_wp2;go_ret;exact⟨rfl,b⟩
theorem zoI(w:Xn):Xp prog 12 #[Xi qC.toArray,Xi qC.toArray] w fun e w'=>e=Xl (Xh Xc)/\zc w w':=by
 obtain⟨f,d⟩:=kB ((w.alloc (Xk qC.toArray 41)).alloc (Xk qC.toArray 41));have E:=gD2 d;obtain⟨x,n⟩:=kA w.heap.size;have b:Xo (Box f x qC):=dD<|by rw[<-d];exact(Box.aF w qC _ n.symm).alloc _
 have c:Xo (Box f (x+1) qC):=dD<|by rw[<-d];exact Box.aF _ qC _ (by have:=n.out;simp;omega)
 have l:Xo (_=f):=d;clear d;unfold qC at l⊢;go_enter func12,ntmps12;go_upto_region 1 with fail;rw[l.out,n.out];obtain⟨N,P⟩:=b.k2;obtain⟨Y,Z⟩:=c.k2;have a:=zoC f;go_wp2_with fail;refine a.mono ?_;clear a N P Y Z;rintro e u⟨rfl,y⟩;have m:Xo (zc f u):=y;clear y;have Q:=(b.aA m).c 2 rfl;have I:=(c.aA m).c 2 rfl;have a:=zqq u;go_wp2_with fail;refine a.mono ?_;clear a Q I;rintro e H⟨rfl,z⟩;have h:=dD (m.trans z);clear z;have R:=(b.aA h).c 3 rfl;have S:=(b.aA h).c 4 rfl;have a0:=(c.aA h).c 3 rfl;have a1:=(c.aA h).c 4 rfl;have a:=zmD H;go_wp2_with fail;refine a.mono ?_;clear a R S a0 a1;rintro e K⟨rfl,A⟩;have i:=dD (h.trans A);clear A;have T:=(b.aA i).c 5 rfl;have U:=(b.aA i).c 6 rfl;have a2:=(c.aA i).c 5 rfl;have a3:=(c.aA i).c 6 rfl;have a:=zmD K;go_wp2_with fail;refine a.mono ?_;clear a T U a2 a3;rintro e L⟨rfl,B⟩;have j:=dD (i.trans B);clear B;have V:=(b.aA j).c 7 rfl;have W:=(b.aA j).c 8 rfl;have a4:=(c.aA j).c 7 rfl;have a5:=(c.aA j).c 8 rfl;have a:=zqp L;go_wp2_with fail;refine a.mono ?_;clear a V W a4 a5;rintro e a7⟨rfl,C⟩;have k:=dD (j.trans C);clear C;have X:=(b.aA k).c 9 rfl;have a6:=(c.aA k).c 9 rfl;have g:=(b.aA k).c 10 rfl;have s:=(c.aA k).c 10 rfl;go_wp2;clear X a6 g s;go_loopg[66] 1 (fun p q wr=>q=I6 0/\0<p/\Xo (zc f wr))
 exact⟨rfl,Wm,k⟩;obtain⟨rfl,M,t⟩:=hrel;have g:=(b.aA t).c 10 rfl;obtain⟨v,rfl⟩:∃v,v=wr:=⟨_,rfl⟩;go_wp2;clear g;go_loopg[84] 1 (fun p r wr=>r=I6 0/\0<p/\Xo (zc f wr))
 exact⟨rfl,Wm,t⟩;obtain⟨rfl,D,G⟩:=hrel;have F:=dD (E.trans G);go_wp2;go_ret;exact⟨rfl,F⟩
theorem zh1(F S B:Int)(vl:Sli)(L)(p n:Int)(a7:Bool)(w)(q:zq byE w (vl.x) L)(m:vl.n<=vl.c)(lb:∀z∈L,0<=z/\z<256):
  Xp prog 3 #[Xi #[I6 F,I6 S,I6 B],vl.x,I6 p,I6 n,Xh a7] w fun e w'=>e=Xl (Xh Xc)/\zc w w':=by
 obtain⟨t,a⟩:=kB (w.alloc (Xk #[I6 F,I6 S,I6 B] 23));have s:=gA a;have r:=xA a;have i:=dD a;have d:=dD q;have c:=dD m;have b:=dD lb;obtain⟨k,g⟩:∃k:Nat,Xo (max (min F 40) 0=(k:Int)):=⟨(max (min F 40) 0).toNat,show _=_ by omega⟩;obtain⟨l,h⟩:∃l:Nat,Xo (max (min S 60) 0=(l:Int)):=⟨(max (min S 60) 0).toNat,show _=_ by omega⟩;obtain⟨j,f⟩:∃j:Nat,Xo (max (min B 80) 0=(j:Int)):=⟨(max (min B 80) 0).toNat,show _=_ by omega⟩;clear a q m lb;have a:=zl7 t;go_enter func3,ntmps3;go_wp2_with fail;rw[i.out];refine a.mono ?_;clear a;rintro e m⟨rfl,a⟩;have q:=dD (s.trans a);have i:=dD (r.aA a);clear a;have a:=zit F S B k l j g h f vl L m (d.aA q) c b.out;obtain⟨af,ag,ah⟩:=i.c3;go_wp2_with fail;refine a.mono ?_;clear a af ag ah;rintro e j⟨V,r,T,l,c,a,a,rfl,g⟩;obtain⟨b,t⟩:=g.at;obtain⟨m,a⟩:=kA (Ql r T l);have k:Xo (zQ j V m):=show zQ _ _ _ by rw[<-a.out];exact b
 have d:Xo (Rt m):=dD<|⟨Ry a.out t,fun h i=>by
  obtain⟨a4,c⟩:=Xx i;obtain⟨a8,_,f,s⟩:=k.sp;have u:a4<a8.length:=by rw[f];exact(gS.1 c).1
  exact(s a4 _ h (gE u) c).tb.aJ⟩
 have v:=dD<|q.trans g.gr;have f:l=m.aB:=by rw[<-a.out];rfl
 have c:r.cnt=m.cnt:=by rw[<-a.out];rfl
 rw[f,c];have s:Xo (∀h∈m.sp,jQ m.fl.length h.aC):=dD<|fun h i=>by
  rw[<-a.out]at i⊢;exact g.filesIn h i
 clear g b t f c;go_upto_region 4 with fail;obtain⟨a,b⟩:=kA j.heap.size;refine nW fun q a=>?_;have c:=gP a;have l:=xPT a b;have i:=dD (k.aA c);have t:=dD (v.trans c);rw[b.out];clear a c;have a:=zbr V m p n q i d.w s.out;obtain⟨A,C,D,E,G,H,K,M,N,P,b⟩:=l.box.aZ;go_wp2_with fail;refine a.mono ?_;clear a A C D E G H K M N P b;rintro e g⟨rfl,c,k⟩;obtain⟨a,j⟩:=kA (jR m p n);rw[j.out]at c⊢;obtain⟨f,f,f⟩:=a;obtain⟨⟨T,U,X,Y,Z,I,a0,a1⟩,rfl⟩:=zqs c;simp only[zbp,pgL,pgc,List.map];go_upto_region 5 with fail;obtain⟨r,f⟩:=kA g.heap.size;obtain⟨R,a⟩:=kB (g.alloc (Xk #[U8 T,U8 U,U8 X,U8 Y,U8 Z,U8 I,U8 a0,U8 a1] 44));have g:zc q R:=by rw[<-a];exact k.trans (za _ _)
 have ao:=xPT a f;have ac:=dD (l.aA g);have a3:=dD (i.aA g);have ab:=dD (t.trans g);rw[a,f.out];clear a k g c;have a:=zf7 V m p n a7 R a3 d.out;obtain⟨A,C,D,E,G,H,K,M,N,P,b⟩:=ac.box.aZ;go_wp2_with fail;refine a.mono ?_;clear a A C D E G H K M N P b;rintro e y⟨⟨c,rfl,a⟩|⟨i,Q,f,a5,rfl,aj,l⟩,a2⟩
 ·have ba:(c !=0)=Xc:=Si a.1
  have f:=dD (ab.trans a2);clear a a2;unfold qC;go_upto_region 7 with fail;obtain⟨g,c⟩:=kA y.heap.size;obtain⟨k,a⟩:=kB (y.alloc (Xk zM.toArray 41));have t:=gT a f;have q:Xo (zt k g 41 qC):=dD (by rw[<-a];exact zt.aF _ qC _ c.symm);rw[a,c.out];clear a;have f:=zoI k;unfold qC at f;obtain⟨A,C,D,E,G,H,K,M,N,P,b⟩:=q.box.aZ;go_wp2_with fail;refine f.mono ?_;clear f A C D E G H K M N P b;rintro e a⟨rfl,q⟩;have aa:=dD (t.trans q);clear q;go_wp2;go_ret;exact⟨rfl,aa⟩
 obtain⟨v,a4,h,h,W,h,t,k,h⟩:=ziO d aj;subst t k;have t:W=⟨T,U,X,Y,Z,I,a0,a1⟩:=by
  have k:=(h.own d).1;(try unfold Sli.x at k);rw[j.out]at k;simp only[pJ]at k;exact(zi7 k.1).symm
 subst t;have t:=dD h;obtain⟨a6,am,bb,a9,ai,ak,W,j,al,ap⟩:=h.into;have an:=dD l.at;have k:=dD h.rt;clear aj l h j ap;go_upto_region 8 with fail;obtain⟨g,c⟩:=kA y.heap.size;obtain⟨a,j⟩:=kB (y.alloc (Xk (mL i a5).toArray 41));have q:zc R a:=by rw[<-j];exact a2.trans (za _ _)
 have h:=xPT j c;have l:=dD (ao.aA q);have bd:=dD (ac.aA q);have bc:=dD (a3.aA q);have R:Xo (zQ a i a5):=show zQ _ _ _ by rw[<-j];exact an.aA (za _ _)
 have aa:=dD (ab.trans q);rw[j,c.out];clear j a2 q;obtain⟨aq,-,-,-,-,-,-,-,ar⟩:=R.ns;have aj:=(gS.1 ai).1;obtain⟨c,y,an⟩:=R.bB Q am ai;have j:=dD y;have c:=dD an;obtain⟨⟨af,ag,ah,q,q,q,q,q⟩,q,q,q,q,q⟩:=am;replace W:=W.symm;simp only[Pg.mk.injEq]at W;obtain⟨rfl,rfl,rfl,rfl,rfl,rfl,rfl,rfl⟩:=W;have ba:decide ((Q:Int)<0)=Xd:=decide_eq_false Wm;have bl:decide (i.f.n<=Q)=Xd:=decide_eq_false Wm;have b9:decide ((i.f.n:Int)<=(Q:Int))=Xd:=decide_eq_false Wm;have ao:(Q:Int)<(i.f.n:Int):=Wm;have ag:Xo (∃z:SpV,∃q,i.sp.a=Xa q/\v<i.sp.n/\(∀W,zc a W->zkC W (q.add (v*10)) z)/\Qu a z a6):=dD<|by
  obtain⟨a8,a2,a3,ab⟩:=R.aP;have af:=(gS.1 a9).1;obtain⟨z,ac⟩:∃z,a8[v]?=Xa z:=⟨_,gE (Rx a2 af)⟩;obtain⟨q,a2,a8⟩:=a3 v z ac;exact⟨z,q,a2,Wm,a8,ab v z a6 ac a9⟩
 have ab:=dD a9;have ac:=dD ak;have af:Xo (a7=Xc->bb=Xc):=show _->_ from fun e=>(al e).1;have ah:=dD<|fun W(a3:zc a W)=>Jh i a5 W (R.aA a3) k.w;have ap:∀W,(Op.equalIn 10000 44 (Xi #[U8 T,U8 U,U8 X,U8 Y,U8 Z,U8 I,U8 a0,U8 a1]) (Xi #[U8 T,U8 U,U8 X,U8 Y,U8 Z,U8 I,U8 a0,U8 a1])).run prog W=.ok Xc W:=fun W=>by
  rw[zgh,decide_eq_true rfl]
 clear aq ar aj y an a9 ai ak al;have W:=fun y:zf a=>(h.box.aA y.aA).c 0 rfl;have aq:=fun y:zf a=>(h.box.aA y.aA).c 1 rfl;have ar:=fun y:zf a=>(h.box.aA y.aA).c 2 rfl;have au:=fun y:zf a=>(h.box.aA y.aA).c 3 rfl;have av:=fun y:zf a=>(h.box.aA y.aA).c 4 rfl;have aw:=fun y:zf a=>(h.box.aA y.aA).c 5 rfl;have ax:=fun y:zf a=>(h.box.aA y.aA).c 6 rfl;have ay:=fun y:zf a=>(h.box.aA y.aA).c 7 rfl;have az:=fun y:zf a=>(h.box.aA y.aA).c 8 rfl;have b8:=fun y:zf a=>(h.box.aA y.aA).c 9 rfl;have a3:=fun y:zf a=>(h.box.aA y.aA).c 10 rfl;(try unfold Sli.x at W);rw[j.out]at W;have a9:=fun y:zf a=>(l.box.aA y.aA).c 0 rfl;have ai:=fun y:zf a=>(l.box.aA y.aA).c 1 rfl;have g:=fun y:zf a=>(l.box.aA y.aA).c 2 rfl;have aj:=fun y:zf a=>(l.box.aA y.aA).c 3 rfl;have ak:=fun y:zf a=>(l.box.aA y.aA).c 4 rfl;have al:=fun y:zf a=>(l.box.aA y.aA).c 5 rfl;have am:=fun y:zf a=>(l.box.aA y.aA).c 6 rfl;have an:=fun y:zf a=>(l.box.aA y.aA).c 7 rfl;have l:=fun y:zf a=>(c y.world y.aA).1;have T:=fun y:zf a=>(c y.world y.aA).2.1;have U:=fun y:zf a=>(c y.world y.aA).2.2.1;have X:=fun y:zf a=>(c y.world y.aA).2.2.2.1;have Y:=fun y:zf a=>(c y.world y.aA).2.2.2.2.1;have Z:=fun y:zf a=>(c y.world y.aA).2.2.2.2.2.1;have I:=fun y:zf a=>(c y.world y.aA).2.2.2.2.2.2.1;have a0:=fun y:zf a=>(c y.world y.aA).2.2.2.2.2.2.2.1;have y:Nonempty (zf a):=⟨⟨_,zc.refl _⟩⟩;refine jD 26 [(1,⟨fun c=>c=I6 0,fun _ _=>True⟩)] z1 Kr rfl rfl Dc (Sa ⟨_,rfl⟩) ?hp ?_;case hp=>
  intro x u;simp only[mC,nM,or_false]at u;subst u;exact fun _ _ _ _ _=>trivial
 simp only[List.take,List.drop];refine ZX rfl rfl rfl (fun r c=>?_);go_big_quiet_op;(try rw[<-j.out]);refine c _ ?_;clear c r;refine zG rfl rfl (fun w' c j=>?_) (fun j j=>?_);·refine zL.call [Xi (mL i a5).toArray] rfl func13 rfl rfl rfl ?_;refine(ah w' c).mono ?_;rintro e c⟨rfl,g⟩;exact⟨_,rfl,g,rfl,trivial⟩
 cases j;refine Uq ?_;iterate 24 refine ze ?_
 refine z2 fun r c _=>?_;have c:zc a r:=show zc _ _ from c;have u:=dD (h.aA c);have P9:=dD (bd.aA c);have a1:=dD (bc.aA c);have bc:=dD (R.aA c);have ah:=dD (aa.trans c);obtain⟨z,q,a2,a8,q,z⟩:=ag.out;have h:=dD<|z.aA c;have j:=dD a2;have R:(v:Int)<(i.sp.n:Int):=Wm;obtain⟨aa,ag,bd,be,bf,bg,bh,bi,bj,bk⟩:=q r c;have a:=za3 _ a6.tb r h.tb (tb8 (ZL.2 (k.tb (mG ab)).2));have h:=dD<|(zci a6.tb t.n64).trans (congrArg Xa ac);clear c a2 q z y ap ba bl b9 ao W aq ar au av aw ax ay az b8 a3 a9 ai g aj ak al am an l T U X Y Z I a0;have b:=u.box.c 10 rfl;(try unfold Sli.x at b);rw[j.out]at b;have g:=t.n64;go_wp2_with fail;refine a.mono ?_;clear a aa ag bd be bf bg bh bi bj bk b;rintro e c⟨rfl,l⟩;go_upto_region 11 with(refine zap rfl (.tmp 87) (.tmp 88) rfl (zai a6.tb) rfl a4 rfl g h.out ?_)
 obtain⟨a,h⟩:=kA c.heap.size;obtain⟨j,a⟩:=kB (c.alloc (Xk #[I6 1,I6 (Q:Int),Xh bb] 55));have c:zc r j:=by rw[<-a];exact l.trans (za _ _)
 have r:=xP a h;have y:=dD (u.aA c);have Q:=dD (P9.aA c);have q:=dD (a1.aA c);have z:=dD (bc.aA c);have u:=dD (ah.trans c);rw[a,h.out];clear a l c R a8 g;go_cut[106] (fun a c=>a=Xh Xd/\c=j)
 case first=>
  obtain⟨a,a2,a8⟩:=r.c3;have a:=af.out;cases a7
  ·clear a;go_wp2;go_meet;exact⟨rfl,rfl⟩
  have a:=a rfl;subst a;go_wp2;go_meet;exact⟨rfl,rfl⟩
 case rest=>
 obtain⟨rfl,rfl⟩:=hcut;have f:=zmE V i m a5 (v:Int) (a4:Int) a7 wc q z d k s (t.aM.files s) (fun e=>by
  have h:=t.out;(try unfold Sli.x at h);rw[e]at h;exact h.seen d) (fun _ p j c a=>t.views d p j c a) (fun _ a _=>t.aM.bytes d k a) (fun _=>t.aM.aI)
 obtain⟨A,C,D,E,G,H,K,M,N,P,b⟩:=Q.box.aZ;obtain⟨c,d,g,h,i,j,k,l,m,q,a⟩:=y.box.aZ;go_wp2_with fail;refine f.mono ?_;clear f A C D E G H K M N P b c d g h i j k l m q a;rintro e a⟨rfl,a⟩;have b:=dD (u.trans a);clear a;go_wp2;go_ret;exact⟨rfl,b⟩
end
section
open Go.ChangeShapes Go.WideShapes Go.ChangeAt Go.RowKit
theorem zsM:Tryz.prog.cellsOf 3=1:=by kernel_rfl
theorem zsN:Tryz.prog.cellsOf 5=1:=by kernel_rfl
theorem zsO:Tryz.prog.cellsOf 23=3:=by kernel_rfl
theorem zsP:Tryz.prog.bytesOf 5=1:=by kernel_rfl
section
variable{H:Type}{enc:TypeId×Xq->H}{w:Xn}{base:Nat}{spare:Nat->Bool}{zgY:Bool}
theorem zfP{b:α->List Xq}:∀(l:List α)(x:Addr),(∀a∈l,(b a).length=k)->(∀(i:Nat)a,l[i]?=Xa a->Zt w (x.add (i*k)) (b a))->Zt w x (l.flatMap b)
 |[],x,_,_=>fun j u b=>by simp at b
 |a::l,x,d,h=>fun j u b=>by
  rw[List.flatMap_cons]at b;have e:=d a Sm
  rcases Nat.lt_or_ge j k with c|c
  ·rw[List.getElem?_append_left Wm]at b
   have:=h 0 a rfl j u b;rw[zX]at this;simpa using this
  rw[aR Wm,e]at b
  have e:=zfP l (x.add k) (fun c f=>d c (by simp[f])) (fun i c d=>by
   have:=h (i+1) c (Si d);rw[zX];rw[show k+i*k=(i+1)*k by rw[Nat.add_mul];omega]
   exact this) (j-k) u b
  rw[zX,show k+(j-k)=j by omega]at e;exact e
theorem zoR[Inhabited α](b:α->List Xq)(Q:α->Prop)(k:Nat){e:TypeId}(M:Tryz.prog.underlying t=Xa (.slice e))(G:Tryz.prog.cellsOf e=k)(c:∀n cs(x:DataW H×List MemPlace),cs.length=k->DataW.trod enc prog w base spare zgY n e cs=Xa x->∃a,Q a/\cs=b a)
  {g:Nat}{cs:List Xq}{x:DataW H×List MemPlace}(m:DataW.trod enc prog w base spare zgY g t cs=Xa x):
  ∃v l,cs=[v]/\Q3 b w v l/\(∀a∈l,Q a/\(b a).length=k)/\(l=[]\/∃y R,x.1=.slice y R/\y.length=l.length):=by
 rcases Go.Deep.open_slice M m with⟨rfl,_⟩|⟨a,d,j,P,n,S,T,rfl,A,W,X,r,s,p⟩;·exact⟨_,[],rfl,⟨Xb,0,rfl,fun _=>rfl,fun x s=>by cases s⟩,Sm,.inl rfl⟩
 have K:d<=P:=by rw[r];split<;>omega
 have q:∀i,i<d->∃f,Q f/\(b f).length=k/\Zt w (a.add (i*k)) (b f):=fun i F=>by
  obtain⟨B,z,D⟩:=p i Wm;rw[G]at z;obtain⟨_,h,E⟩:=World.cells?_some z;obtain⟨f,L,rfl⟩:=c _ _ _ h D;refine⟨f,L,h,fun Y Z V=>?_⟩;grind
 obtain⟨C,U⟩:=Go.Deep.choose_lt q;refine⟨_,(Yb d).map C,rfl,⟨Xa a,j,Sm,fun m=>(by cases m),fun I N=>?_⟩,fun u A=>?_,.inr ⟨_,_,by rw[s],Sm⟩⟩
 ·cases N;refine zfP (k:=k) _ _ (fun u A=>?_) (fun i u F=>?_);·grind
  grind
 grind
theorem zk9{r:Reach}{d:DataW H}{p:List MemPlace}(v:Value.okWide prog w r k 24 A)(h:DataW.Trod enc prog w base spare zgY 24 A d p)(l:∀n∈d.weights prog 24,n<=reachBytes):
  ∃(k:Sli)(s:List Int),A=k.x/\zq byE w (k.x) s/\k.n<=k.c/\∀z∈s,0<=z/\z<256:=by
 obtain⟨k,g⟩:=h;obtain⟨k,k,j,h,q,u⟩:=zoR byE.enc (fun z=>0<=z/\z<256) 1 underlying24 zsN (fun n b x _ e=>by
  obtain⟨z,f,b,b⟩:=DataW.trod_int underlying5 e;refine⟨z,?_,f⟩;have:=b;simp only[Lit.wf,Bool.and_eq_true,decide_eq_true_eq]at this;have e:IntKind.u8.min=0:=rfl;have b:IntKind.u8.max=255:=rfl;rw[e,b]at this;exact⟨this.1,Hm this.2⟩) g
 obtain⟨b,c,rfl,r,t⟩:=h;obtain⟨h,m,i,rfl⟩:=okWide_slice underlying24 v;have e:O h m i=O b k.length c:=by simpa[Value.cells]using j
 cases e;refine⟨⟨b,k.length,c⟩,k,rfl,⟨⟨b,c,rfl,r,t⟩,?_⟩,?_,fun z f=>(q z f).1⟩
 ·rcases u with rfl|⟨e,f,h,b⟩
  ·grind
  have b:d=.slice e f:=h;have:=l ((e.length+f.length)*Tryz.prog.bytesOf 5) (by rw[b];simp[DataW.weights,underlying24]);rw[zsP]at this;unfold reachBytes at this;show k.length*1<=_;omega
 rcases Go.Deep.open_slice underlying24 g with⟨b,_⟩|⟨k,k,k,_,_,_,_,b,_,k,_⟩;·grind
 grind
theorem zi8{r:Reach}{d:DataW H}{p:List MemPlace}(t:Value.okWide prog w r k 23 A)(m:DataW.Trod enc prog w base spare zgY 23 A d p):∃F S B:Int,A=Xi #[I6 F,I6 S,I6 B]:=by
 obtain⟨a,rfl,s,_⟩:∃a,A=Xi a/\a.size=Tryz.prog.cellsOf 23/\Row.okWide prog w r k 23 a:=by simpa[Value.okWide,underlying23]using t
 obtain⟨l,b⟩:=m;obtain⟨g,n,_,_,hlen,q,b⟩:=DataW.trod_struct underlying23 b;rw[zsO]at hlen;have u:g.length=3:=q;obtain⟨a⟩:=a;simp only[Value.cells]at hlen b;have h:DataW.trod enc prog w base spare zgY n 3 ((a.drop 0).take (Tryz.prog.cellsOf 3))=g[0]?:=b 0 _ rfl;have i:DataW.trod enc prog w base spare zgY n 3 ((a.drop 1).take (Tryz.prog.cellsOf 3))=g[1]?:=b 1 _ rfl;have j:DataW.trod enc prog w base spare zgY n 3 ((a.drop 2).take (Tryz.prog.cellsOf 3))=g[2]?:=b 2 _ rfl;rw[zsM]at h i j;rw[gE Wm]at h i j;obtain⟨v,x,_,_⟩:=DataW.trod_int underlying3 h;obtain⟨C,y,_,_⟩:=DataW.trod_int underlying3 i;obtain⟨D,z,_,_⟩:=DataW.trod_int underlying3 j;obtain⟨c,e,f,rfl⟩:∃c e f,a=[c,e,f]:=by
  match a,hlen with
  |[c,e,f],_=>exact⟨c,e,f,rfl⟩
 grind
end
theorem own:ownKnob Tryz.prog.godebug=Xb:=by kernel_rfl
theorem laidOut:laidOutB prog=Xc:=by kernel_rfl
theorem zdg(a0:Os)(f:a0.Started)(H:Type)(enc:TypeId×Xq->H):
  ReturnsInHanded {} Tryz.checked a0 3 .any (Rows.faultSameSpec.pre6 enc prog Tryz.f3 Rows.faultSameRow.domain Xd) (Rows.faultSameSpec.post enc prog Tryz.f3 Xd Xc Xd Xd):=by
 refine returnsInHanded_of_change_sized (C:=Tryz.checked) own f Kr func3
  (ChangeSpec.witness6 (enc:=enc) (C:=Tryz.checked) Xd ⟨#[],#[Xi #[I6 0,I6 0,I6 0],eS,I6 0,I6 0,Xh Xd],[]⟩ 8 Kr Kr Kr Kr) ?_
 intro W k c U ah s e X Y h _;have r:(DataW.weightsEach prog (Tryz.f3.params.toList++Rows.faultSameSpec.plain.varTypes prog) (U++ah)).all (·<=reachBytes)=Xc:=h;have a:∀(Z:Nat)i v,Tryz.f3.params[Z]?=Xa i->c[Z]?=Xa v->Value.okWide prog W .any k i v:=e;have u:=X;obtain⟨ay,bk,l,an,rfl,ap,ar⟩:=X;have V:DataW.TrodAll enc prog W 0 (fun _=>Xc) Xc Tryz.f3.params.toList c.toList U ay:=l;rw[Tryz.params3]at V a r;obtain⟨a1,ba,bf,ac,az,bl,w,rfl,rfl,A,b4⟩:=trodAll_cons V;obtain⟨a2,bb,ab,ad,b0,bm,rfl,rfl,rfl,B,b5⟩:=trodAll_cons b4;obtain⟨a3,bc,bg,ae,b1,bn,rfl,rfl,rfl,D,b6⟩:=trodAll_cons b5;obtain⟨a4,bd,bh,af,b2,bo,rfl,rfl,rfl,F,b7⟩:=trodAll_cons b6;obtain⟨a5,be,bi,ag,b3,bp,rfl,rfl,rfl,K,b8⟩:=trodAll_cons b7;obtain⟨rfl,rfl,rfl⟩:=trodAll_nil b8;obtain rfl:c=#[a1,a2,a3,a4,a5]:=by cases c;simp_all
 obtain⟨rfl,rfl⟩:=trodVars_none an;have M:∀x∈az,x.block<W.heap.size:=by obtain⟨m,g⟩:=A;exact DataW.trod_lt m _ _ _ g
 have N:∀x∈b0,x.block<W.heap.size:=by obtain⟨m,g⟩:=B;exact DataW.trod_lt m _ _ _ g
 have P:∀x∈b1,x.block<W.heap.size:=by obtain⟨m,g⟩:=D;exact DataW.trod_lt m _ _ _ g
 have Q:∀x∈b2,x.block<W.heap.size:=by obtain⟨m,g⟩:=F;exact DataW.trod_lt m _ _ _ g
 have R:∀x∈b3,x.block<W.heap.size:=by obtain⟨m,g⟩:=K;exact DataW.trod_lt m _ _ _ g
 obtain⟨a9,aa,a8,y⟩:=zi8 (a 0 23 a1 rfl rfl) A;subst y;obtain⟨b9,au,z,q,p,n⟩:=zk9 (a 1 24 a2 rfl rfl) B (fun I aq=>by
  have:=List.all_eq_true.1 r I (DataW.weights_mem_each (j:=1) (t:=24) (d:=ab) rfl rfl I aq)
  simpa using this)
 subst z;have E:=D;have G:=F;have L:=K;obtain⟨av,rfl,rfl,rfl,bq⟩:=open_int underlying3 (a 2 3 a3 rfl rfl) D;obtain⟨aw,rfl,rfl,rfl,br⟩:=open_int underlying3 (a 3 3 a4 rfl rfl) F;obtain⟨ax,rfl,rfl,rfl⟩:=open_bool underlying4 (a 4 4 a5 rfl rfl) K;clear l e h;refine(zh1 a9 aa a8 b9 au av aw ax W q p n).mono fun bj a6⟨ao,bel⟩=>?_;subst ao;have b:∀{i:TypeId}{v:Xq}{T:DataW H}{S:List MemPlace},Tryz.prog.readableRec i=Xc->i<Tryz.prog.types.size->DataW.Trod enc prog W 0 (fun _=>Xc) Xc i v T S->(∀x∈S,x.block<W.heap.size)->DataW.Trod enc prog a6 0 (fun a7=>decide (a7<W.heap.size)) Xc i v T S:=
  fun aj ak al am=>Below.trod laidOut aj ak al bel am
 exact⟨_,rfl,_,_,_,[],_,[],u,trodAll_mk1 (shut_bool underlying4 _),(trodAll_cons_mk (b Kr (of_decide_eq_true Kr) A M) (trodAll_cons_mk (b Kr (of_decide_eq_true Kr) B N) (trodAll_cons_mk (b Kr (of_decide_eq_true Kr) E P) (trodAll_cons_mk (b Kr (of_decide_eq_true Kr) G Q) (trodAll_cons_mk (b Kr (of_decide_eq_true Kr) L R) trodAll_mk0))))),rfl,Below.frame bel _,fun ai=>by cases ai⟩
theorem zfd:Rows.faultSameRow.holds Tryz.pinned (OpenSpec.ofChange Rows.faultSameSpec):=
 OpenClaim.holds_of_wide 3 Tryz.f3 rfl rfl rfl rfl rfl rfl rfl ⟨rfl,rfl,rfl,rfl,rfl⟩ rfl rfl rfl rfl rfl Kr func3 Kr
  (of_decide_eq_true Kr) (by unfold Func.isWrapper;first|(rw[kE (by decide+kernel)];kernel_rfl)|(rw[kF (by decide+kernel)];exact⟨rfl,rfl⟩))
  (fun c a H b _=>zdg c a H b)
theorem faultSame_holds:Rows.FaultSameSaid:=zfd
#print axioms faultSame_holds
end
end Go.Proofs.YtkfjajbalegoeaaGreat
