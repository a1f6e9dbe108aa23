import Derived.Test.YtmfckdkcmbncdaaGreatFP3
import Derived.Shelf.Bits.Mul64
namespace Go.Proofs.YtmfckdkcmbncdaaGreat
open Go.Value renaming slice→O,int→Xe,bool→Xh,agg→Xi,pointer→Xj,tuple→Xm
open Go.IntKind renaming i64→Xf,u8→Xg
open Go.Obj renaming cells→Xk
open Go.Ending renaming returned→Xl
open Go renaming World→Xn,Calls→Xp,Value→Xq
open Go.RowKit renaming Hid→Xo
open Option renaming some→Xa,none→Xb
open Bool renaming true→Xc,false→Xd
open List renaming replicate→Xr
open _root_.List renaming flatMap_append→Xs,take_of_length_le→Xu,countP_le_length→Xv,any_eq_true→Xw,getElem?_append_left→Xx,replicate_append_replicate→Xy,getElem?_map→Xz,contains_iff_mem→Yc,take_zero→Yd,mem_range→Ye,getElem?_of_mem→Yf,mem_map_of_mem→Yh,drop_replicate→Yi
open _root_.Nat renaming lt_of_lt_of_le→Xt,mul_le_mul_right→Yg,min→Yj
open Go.Act renaming put→Ya
open _root_.Bool renaming eq_iff_iff→Yb
set_option maxRecDepth 100000
set_option maxHeartbeats 4000000
variable{B b g j:Nat} {Q:Exit->Act->Xn->Prop} {V:MaV} {W w':Xn} {m:Ma} {o:Oper} {ops:Array Oper} {t:TypeId} {us xs:List Xq}
open Go.Proofs.Tryz
section
open Go.RowKit
def Ju (K:zal) (w:Xn) (b:Nat) (H:Int × Int->Int):Prop:=∃g,Zw K w b g/\∀k,(g k).getD 0=H k
theorem Ju.grew {K:zal} {w:Xn} {H:Int × Int->Int} (h:Ju K w b H) (k:zb w w'):Ju K w' b H:=by
 obtain⟨g,a,c⟩:=h;exact⟨g,a.grew k,c⟩
theorem Ju.congr {K:zal} {w:Xn} {H a:Int × Int->Int} (h:Ju K w b H) (e:∀k,H k=a k):Ju K w b a:=by
 obtain⟨g,a,c⟩:=h;exact⟨g,a,fun k=>(c k).trans (e k)⟩
theorem Ju.ne_box {K:zal} {w:Xn} {cs:List Xq} {H:Int × Int->Int} (k:Ju K w B H) (h:Box w b cs):b≠B:=by
 obtain⟨g,a,_⟩:=k;exact h.ne_map a
theorem Ju.ne_own {α:Type} {E:Elt α} {K:zal} {w:Xn} {base:Nat} {v:Xq} {l:List α} {H:Int × Int->Int} (k:Ju K w B H) (h:zc E base w v l):∀x,v.ownBlock=Xa x->Xa B≠Xa x:=by
 obtain⟨g,a,_⟩:=k;exact h.ne_map a
def zee (K:zal) (w:Xn) (b:Nat) (H:Int × Int->Int) (k:Int × Int) (st:Int):Prop:=∃g,zqY K w b g k st/\∀x,(g x).getD 0=H x
theorem Ju.entry {K:zal} {w:Xn} {H:Int × Int->Int} (h:Ju K w b H) {e:TypeId} (g:Tryz.prog.underlying t=Xa (.map K.ty e)) (i:(zeroValue e).run prog w= .ok (I6 0) w) (k:Int × Int):
  ∃w' a,(Instr.mapEntry t (.map (Xa b)) (K.enc k)).run prog w= .ok (Xm #[I6 (H k),I6 a]) w'/\zee K w' b H k a/\w.grownBy w' (Xa b)/\w'.heap.size=w.heap.size:=by
 obtain⟨c,f,c⟩:=h;obtain⟨w',a,d,h,j,l⟩:=f.entry g i k;rw[c k]at d;refine⟨w',a,d,⟨_,h,fun x=>?_⟩,j,l⟩
 by_cases e:x=k
 ·subst e;rw[kE rfl];exact c x
 rw[kF e];exact c x
theorem zee.h {K:zal} {w:Xn} {H:Int × Int->Int} {k:Int × Int} {a:Int} (h:zee K w b H k a):Ju K w b H:=by
 obtain⟨g,a,c⟩:=h;exact⟨g,a.f,c⟩
theorem Ju.look {K:zal} {w:Xn} {H:Int × Int->Int} (h:Ju K w b H) {e:TypeId} (d:Tryz.prog.underlying t=Xa (.map K.ty e)) (f:(zeroValue e).run prog w= .ok (I6 0) w) (k:Int × Int):
  (Instr.lookup t (.map (Xa b)) (K.enc k) Xd).run prog w= .ok (I6 (H k)) w:=by
 obtain⟨g,a,c⟩:=h;have:=a.look d f k Xd;rw[c k]at this;exact this
def zrW (H:Int × Int->Int) (k:Int × Int):Int × Int->Int:=fun x=>H x+(if x=k then 1 else 0)
theorem zaX {K:zal} {w:Xn} {rest:List Oper} {a:Act} (c:o.guard=Xb) (t m s x) (e:o.op= .entryStore t m s x) (b:Nat) (H:Int × Int->Int) (k:Int × Int) (d:Int) (h:zee K w b H k d)
  (j:a.eval m= .map (Xa b)) (l:a.eval s=I6 d) (n:a.eval x=I6 (H k+1))
  (i:∀w',Ju K w' b (zrW H k)->w.grownBy w' (Xa b)->w'.heap.size=w.heap.size->wpList prog ops Q rest (a.put o.dst undef) w'):wpList prog ops Q (o :: rest) a w:=by
 refine wpList_plain c fun c d=>?_
 obtain⟨g,f,g⟩:=h;obtain⟨w',c,h,p,q⟩:=f.store t (H k+1);unfold Oper.wp
 simp[execOp,e,j,l,n,c,Result.andThen]
 refine d _ _ (i w' ⟨_,h,fun y=>?_⟩ p q)
 unfold zrW
 by_cases e:y=k
 ·subst e;rw[kE rfl,kE rfl];rfl
 rw[kF e,kF e,g y];omega
theorem zoP (l:List Ca) (a:Int × Int):0<=JQ l a/\JQ l a<=l.length:=by
 unfold JQ zO
 split
 ·have:=Xv (p:=fun c:Ca=>decide (c.fr=a.2)) (l:=l)
  omega
 omega
theorem zeq (s):(qM s).length<=64:=by
 unfold qM;have:=List.length_filter_le (fun n=>enS (ze s n)) (List.range 64)
 simpa using this
theorem zqo (m:Ma) (i:Nat) (l:List Nat) (s) (a:Int × Int):0<=qx m i l s a/\qx m i l s a<=m.ca.length+64*m.sp.length+l.length:=by
 unfold qx;have b:(if a.1=1 then zO m.ca a.2 else 0)<=m.ca.length:=by
  split
  ·exact Xv
  omega
 have c:∀(L:List Sp),(L.map fun s=>(qM s).countP fun n=>isE (ze s n) a.1 a.2).sum<=64*L.length:=by
  intro L
  induction L with
  | nil=>simp
  | cons b L d=>
   have d:=Xv (p:=fun n=>isE (ze b n) a.1 a.2) (l:=qM b)
   have d:=zeq b;simp only[mP,List.sum_cons,List.length_cons];omega
 have b:=c (m.sp.take i);have b:(m.sp.take i).length<=m.sp.length:=by simp;omega
 have b:=Xv (p:=fun n=>isE (ze s n) a.1 a.2) (l:=l)
 omega
def zf5:Sp:=⟨Xc,[],[]⟩
theorem zis (V) (m:Ma) (w) (g:zE w V m) (u:m.sp.length<=4) (y:∀s∈m.sp,tbW s.tb=0):
  Xp prog 71 #[Xi (mL V m).toArray] w fun e w'=>∃B,e= Xl (.map (Xa B))/\Ju enK w' B (qx m m.sp.length [] zf5)/\zb w w':=by
 obtain⟨a3,a4,t,z,p,q,r,⟨d,a,l⟩,⟨h,b,n⟩⟩:=V;dsimp only[mL];obtain⟨-,-,-,-,-,-,-,D,E⟩:=g.ns;dsimp only at D E;have F:Xo (zn0 w d m.ca):=g.cas;have b9:=dD D.symm;have c:a<=140737488355328:=by have:=g.ca.2;have c:Jw.bytes=24:=rfl;rw[c]at this;omega
 obtain⟨bb,A,f,k⟩:=g.spaces;have b1:=dD A;have az:Xo (∀(j:Nat) x,bb[j]? =Xa x->∃a8,h=Xa a8/\∀W,zb w W->zly W (a8.add (j*10)) x):=f;have b0:=dD k;have a6:=dD E.symm;have c:=dD y;have C:Xo (∀j c,0<=JQ (m.ca.take j) c/\JQ (m.ca.take j) c<=140737488355328):=show∀j c,_ from fun j c=>by
  have G:=zoP (m.ca.take j) c;have i:(m.ca.take j).length<=m.ca.length:=by simp;omega
  omega
 have ay:Xo (∀i B s c,B.length<=64->0<=qx m i B s c/\qx m i B s c<=140737488360000):=dD<|fun i B s c aj=>by
  have G:=zqo m i B s c;omega
 have c:b<=4:=by omega
 clear g D E A f k u y;have u:=@run_makeMap prog;obtain⟨f,c⟩:=kB ((w.alloc (Xk #[a3.x,I6 m.hand,a4.x,t.x,z.x,p.x,q.x,r.x,I6 m.cnt,O d a l,O h b n] 45)).alloc (.map #[] 0));have g:Xo (zb w f):=dD<|by rw[<-c];exact(za _ _).trans (za _ _)
 have y:Xo (Box f w.heap.size [a3.x,I6 m.hand,a4.x,t.x,z.x,p.x,q.x,r.x,I6 m.cnt,O d a l,O h b n]):=dD<|by rw[<-c];exact(Box.top _ _ _ rfl).alloc _
 have A:Xo (Ju enK f (w.heap.size+1) (JQ (m.ca.take 0))):=dD<|by
  rw[<-c];have:=Zw.made enK (w.alloc (Xk #[a3.x,I6 m.hand,a4.x,t.x,z.x,p.x,q.x,r.x,I6 m.cnt,O d a l,O h b n] 45));have k:(w.alloc (Xk #[a3.x,I6 m.hand,a4.x,t.x,z.x,p.x,q.x,r.x,I6 m.cnt,O d a l,O h b n] 45)).heap.size=w.heap.size+1:=by simp
  rw[k]at this;exact⟨_,this,fun G=>by rw[Yd,zmU];rfl⟩
 have k:Xo (_=f):=c;clear c
 go_enter func71,ntmps71
 go_upto_region 2 with fail;rw[k.out];clear u;have c:=y.c 9 rfl;go_wp2;clear c
 go_loopg [15] a (fun ak c wr=>∃B:Nat,B<=a/\a - B<=ak/\c=I6 B/\Xo (zb w wr)/\Xo (Box wr w.heap.size [a3.x,I6 m.hand,a4.x,t.x,z.x,p.x,q.x,r.x,I6 m.cnt,O d a l,O h b n])/\Xo (Ju enK wr (w.heap.size+1) (JQ (m.ca.take B))))
 case atStart=>exact⟨0,nZ _,by omega,rfl,g,y,A⟩
 obtain⟨B,c,c,rfl,N,ba,a0⟩:=hrel
 by_cases ae:B<a
 ·have an:=kC ae
  obtain⟨c,b8⟩:∃c,Xo (m.ca[B]? =Xa c):=⟨_,gE (by rw[b9.out];exact ae)⟩
  obtain⟨a8,rfl,aj⟩:=F.out B c b8.out;obtain⟨b2,b3,b4⟩:=aj wr N.out;clear aj;go_upto_region 5 with fail;obtain⟨L,d⟩:=kB (wr.alloc (Xk #[I6 c.file,I6 c.idx,I6 c.fr] 105));have P:=gT d N
  have g:=yA d ba
  have av:Xo (Ju enK L (w.heap.size+1) (JQ (m.ca.take B))):=dD<|by rw[<-d];exact a0.grew (za _ _)
  have f:=xA d
  rw[d];clear d b2 b3 b4;obtain⟨ah,a7⟩:=kA wr.heap.size;rw[a7.out]at f⊢;obtain⟨H,a5⟩:=kA (JQ (m.ca.take B));rw[a5.out]at av;obtain⟨ab,ac⟩:0<=H (1,c.fr)/\H (1,c.fr)<=140737488355328:=by rw[<-a5.out];exact C B (1,c.fr)
  obtain⟨k,am⟩:∃k:Xn->Prop,k=fun u=>Ju enK u (w.heap.size+1) H/\Box u ah [I6 c.file,I6 c.idx,I6 c.fr]/\Box u w.heap.size [a3.x,I6 m.hand,a4.x,t.x,z.x,p.x,q.x,r.x,I6 m.cnt,O (Xa a8) a l,O h b n]/\zb w u:=⟨_,rfl⟩
  have E:Xo (∀u,k u↔Ju enK u (w.heap.size+1) H/\Box u ah [I6 c.file,I6 c.idx,I6 c.fr]/\Box u w.heap.size [a3.x,I6 m.hand,a4.x,t.x,z.x,p.x,q.x,r.x,I6 m.cnt,O (Xa a8) a l,O h b n]/\zb w u):=dD<|fun u=>by rw[am]
  clear am;have ao:∀y:zk k,y.world.cell? ⟨ah,2,Xb⟩=Xa (I6 c.fr):=fun y=>((E _).1 y.holds).2.1.c 2 rfl
  have S:∀y:zk k,(Instr.lookup 133 (.map (Xa (w.heap.size+1))) (Xi #[I6 1,I6 c.fr,Xh Xd]) Xd).run prog y.world= .ok (I6 (H (1,c.fr))) y.world:=fun y=>((E _).1 y.holds).1.look (K:=enK) underlying133 (zsn _) (1,c.fr)
  have A:k L.drew:=(E _).2 ⟨av.grew (gW _),f.grew (gW _),g.grew (gW _),P.trans (gW _)⟩
  have T:Nonempty (zk k):=⟨⟨_,A⟩⟩;refine jU (I:=k) 8 [(6,⟨fun M=>∃g,M= Xm #[I6 (H (1,c.fr)),I6 g],fun M w'=>∃g,M= Xm #[I6 (H (1,c.fr)),I6 g]/\zee enK w' (w.heap.size+1) H (1,c.fr) g,fun _ _=>True,fun _=>True⟩)] A zZ (by kernel_rfl) rfl rfl (by decide) ?hS ?hp ?hpre ?hpr0 ?_
  case hS=>
   intro y ap;simp only[mC,nM,or_false]at ap;subst ap;exact⟨_,0,rfl⟩
  case hp=>
   intro G s j ar Y a1 R _ M b7 C f b5;obtain⟨rfl,rfl⟩:=zbQ Y;obtain⟨rfl,rfl⟩:=zbQ a1;exact absurd rfl R
  case hpre=>
   intro j ar G s a1 Y R b7 C f af;obtain⟨rfl,rfl⟩:=zbQ a1;trivial
  case hpr0=>
   intro G ar Y;obtain⟨rfl,rfl⟩:=zbQ Y;trivial
  simp only[List.take,List.drop];iterate 6 refine qI ?_
  refine j5 rfl rfl (fun w' aa af a9=>?_) (fun bf b6=>?_)
  ·obtain⟨F,Z,W,X⟩:=(E _).1 aa;obtain⟨au,g,U,aq,a2,be⟩:=F.entry (K:=enK) underlying133 (zsn w') (1,c.fr);have ag:(Instr.mapEntry 133 (.map (Xa (w.heap.size+1))) (Xi #[I6 1,I6 c.fr,Xh Xd])).run prog w'= .ok (Xm #[I6 (H (1,c.fr)),I6 g]) au:=U;clear ao S T;refine zR.step (v:= Xm #[I6 (H (1,c.fr)),I6 g]) (w':=au) (by simp only[execOp];go_simp) ⟨(E _).2 ⟨aq.h,Z.grown a2 (F.ne_box Z),W.grown a2 (F.ne_box W),zd X a2 (by omega)⟩,trivial,⟨_,rfl⟩,_,rfl,aq⟩
  obtain⟨g,rfl⟩:=b6;simp only[Ya,sB,sS,sZ];refine qI ?_
  refine zad fun aw ai a9=>?_
  obtain⟨F,Z,W,X⟩:=(E _).1 ai;obtain⟨D,f,al⟩:∃D,(Value.tuple #[I6 (H (1,c.fr)),I6 g])= Xm #[I6 (H (1,c.fr)),I6 D]/\zee enK aw (w.heap.size+1) H (1,c.fr) D:=a9 6;have Q:zee enK aw (w.heap.size+1) H (1,c.fr) g:=by
   simp at f
   rw[f];exact al
  have bc:=dD W;have ax:=dD X;have aw:=dD Q;clear ao S T a9 ai F Z W X al f Q A;refine zaX (K:=enK) rfl 133 (.tmp 19) (.tmp 26) (.tmp 24) rfl (w.heap.size+1) H (1,c.fr) g aw rfl rfl (by go_num) ?_
  intro ai aw c _;have bd:Xo (Box ai w.heap.size [a3.x,I6 m.hand,a4.x,t.x,z.x,p.x,q.x,r.x,I6 m.cnt,O (Xa a8) a l,O h b n]):=bc.grown c (by omega)
  have p:Xo (zb w ai):=dD<|zd ax c (by omega)
  have ao:Xo (Ju enK ai (w.heap.size+1) (JQ (m.ca.take (B+1)))):=dD<|aw.congr fun G=>by rw[j0 b8.out,zkQ,<-a5.out];rfl
  clear aw c ab ac;go_wp2
  go_roundg (a -(B+1))
  case measure=>omega
  exact⟨B+1,by omega,by omega,by go_num,p,bd,ao⟩
 have an:=kD ae
 have:B=a:=by omega
 subst this;have h:Xo (Ju enK wr (w.heap.size+1) (qx m 0 [] zf5)):=dD<|a0.congr fun G=>by
  rw[Xu (by rw[b9.out];exact nR _)]
  exact zmV m zf5 G
 have a:=ba.c 10 rfl;go_wp2;clear a;have a:Xo (zb w wr):=N
 go_loopg [31] b (fun ak l wr=>∃i:Nat,i<=b/\b - i<=ak/\l=I6 i/\Xo (zb w wr)/\Xo (Ju enK wr (w.heap.size+1) (qx m i [] zf5)))
 case atStart=>exact⟨0,nZ _,by omega,rfl,a,h⟩
 obtain⟨i,a,a,rfl,N,a0⟩:=hrel
 by_cases h:i<b
 ·have z:=kC h
  obtain⟨s,b8⟩:∃s,Xo (m.sp[i]? =Xa s):=⟨_,gE (by rw[a6.out];exact h)⟩
  obtain⟨x,a⟩:∃x,Xo (bb[i]? =Xa x):=⟨_,gE (by rw[b1.out,a6.out];exact h)⟩
  have a3:=dD<|b0.out i x s a b8.out;obtain⟨a8,rfl,aj⟩:=az.out i x a.out;obtain⟨b2,b3,b4,a,n,q,r,t,B,a4⟩:=aj wr N.out;clear aj;go_upto_region 10 with fail;obtain⟨L,d⟩:=kB (wr.alloc (Xk #[Xh x.live,x.ar.x,x.t0.x,x.t1.x,x.t2.x,x.t3.x,x.t4.x,x.t5.x,x.t6.x,x.t7.x] 76));have P:=gT d N
  have av:Xo (Ju enK L (w.heap.size+1) (qx m i [] s)):=dD<|by rw[<-d];exact(a0.grew (za _ _)).congr fun G=>by unfold qx;simp
  have l:=xA d
  rw[d];clear d b2 b3 b4 a n q r t B a4;obtain⟨ah,a7⟩:=kA wr.heap.size;rw[a7.out]at l⊢;have a:Xp prog 66 #[Xi #[x.t0.x,x.t1.x,x.t2.x,x.t3.x,x.t4.x,x.t5.x,x.t6.x,x.t7.x]] L fun e w'=>∃M,e= Xl M/\zc blE L.heap.size w' M (z6 s.tb Zv 64)/\zb L w':=Q5 x.tab s.tb L (a3.grew P).tb
  have an:=l.c 2 rfl;have aw:=l.c 3 rfl;have ax:=l.c 4 rfl;have az:=l.c 5 rfl;have b0:=l.c 6 rfl;have b1:=l.c 7 rfl;have b2:=l.c 8 rfl;have b3:=l.c 9 rfl;go_wp2_with fail;refine a.mono ?_;clear a an aw ax az b0 b1 b2 b3;rintro b4 a ⟨a,rfl,a,d⟩;have q:=dD (P.trans d);have r:=dD (av.grew d);have t:=dD (l.grew d);have l:=dD<|bS P.out
  clear d;obtain⟨n,ae,rfl⟩:=a.form;have d:=a.at.short;rw[Q4]at a d⊢;rw[List.length_map]at a d⊢;obtain⟨C,a8⟩:=kA ((qM s).length);rw[a8.out]at a d⊢;have d:=dD a
  have l:C<=64:=by rw[<-a8.out];exact zeq s
  clear a;go_wp2
  go_loopg [39] C (fun ak a wr=>∃j:Nat,j<=C/\C - j<=ak/\a=I6 j/\Xo (zb w wr)/\Xo (zc blE L.heap.size wr (O n C ae) ((qM s).map fun(n:Nat)=>(n:Int)))/\Xo (Box wr ah [Xh x.live,x.ar.x,x.t0.x,x.t1.x,x.t2.x,x.t3.x,x.t4.x,x.t5.x,x.t6.x,x.t7.x])/\Xo (Ju enK wr (w.heap.size+1) (qx m i ((qM s).take j) s)))
  case atStart=>exact⟨0,nZ _,by omega,rfl,q,d,t,by rw[Yd];exact r⟩
  obtain⟨j,a1,a,rfl,N,ak,l,a0⟩:=hrel
  by_cases d:j<C
  ·have B:=kC d
   obtain⟨n,q⟩:∃n,Xo ((qM s)[j]? =Xa n):=⟨_,gE (by rw[a8.out];exact d)⟩
   have a4:=zgj q.out;have aj:=dD<|j0 q.out;obtain⟨_,_,t,a7⟩:=ak.at.nums;simp only[vJ]at t;obtain⟨r,a,P⟩:=a7 j (n:Int) (by rw[Xz,q.out];rfl)
   have av:=P wr (zb.refl _);rw[<-t.1]at a;subst a;clear P t a7;have q:Xp prog 69 #[Xi #[x.t0.x,x.t1.x,x.t2.x,x.t3.x,x.t4.x,x.t5.x,x.t6.x,x.t7.x],I6 (n:Int)] wr fun e w'=>e= Xl (enV (ze s n))/\zb wr w':=by
    have:=QK x.tab s.tb (n:Int) wr (a3.grew N).tb;rw[zfw a4]at this;exact this
   obtain⟨a,t⟩:=kA (ze s n);rw[t.out]at q;have an:=l.c 2 rfl;have aw:=l.c 3 rfl;have ax:=l.c 4 rfl;have az:=l.c 5 rfl;have b0:=l.c 6 rfl;have b1:=l.c 7 rfl;have b2:=l.c 8 rfl;have b3:=l.c 9 rfl;go_wp2_with fail;refine q.mono ?_;clear q av an aw ax az b0 b1 b2 b3;rintro b4 ai ⟨rfl,c⟩;have p:=dD (N.trans c);have P:=dD (ak.grew c)
   have a4:=dD (l.grew c);have ao:=dD (a0.grew c);clear c;unfold enV;go_upto_region 14 with fail;obtain⟨a3,c⟩:=kB (ai.alloc (Xk #[I6 a.kind,I6 a.n,Xh a.wr] 127));have q:=gT c p
   have p:Xo (zc blE L.heap.size a3 (O (Xa r) C ae) ((qM s).map fun(n:Nat)=>(n:Int))):=dD<|by rw[<-c];exact P.grew (za _ _)
   have a7:=yA c a4
   have a4:Xo (Ju enK a3 (w.heap.size+1) (qx m i ((qM s).take j) s)):=dD<|by rw[<-c];exact ao.grew (za _ _)
   have P:=xA c
   rw[c];clear c;obtain⟨c,l⟩:=kA ai.heap.size;rw[l.out]at P⊢;obtain⟨H,a5⟩:=kA (qx m i ((qM s).take j) s);rw[a5.out]at a4;obtain⟨ab,ac⟩:0<=H (a.kind,a.n)/\H (a.kind,a.n)<=140737488360000:=by rw[<-a5.out];exact ay i _ s (a.kind,a.n) (by simp;omega)
   obtain⟨k,am⟩:∃k:Xn->Prop,k=fun u=>Ju enK u (w.heap.size+1) H/\Box u c [I6 a.kind,I6 a.n,Xh a.wr]/\Box u ah [Xh x.live,x.ar.x,x.t0.x,x.t1.x,x.t2.x,x.t3.x,x.t4.x,x.t5.x,x.t6.x,x.t7.x]/\zc blE L.heap.size u (O (Xa r) C ae) ((qM s).map fun(n:Nat)=>(n:Int))/\zb w u:=⟨_,rfl⟩
   have E:Xo (∀u,k u↔Ju enK u (w.heap.size+1) H/\Box u c [I6 a.kind,I6 a.n,Xh a.wr]/\Box u ah [Xh x.live,x.ar.x,x.t0.x,x.t1.x,x.t2.x,x.t3.x,x.t4.x,x.t5.x,x.t6.x,x.t7.x]/\zc blE L.heap.size u (O (Xa r) C ae) ((qM s).map fun(n:Nat)=>(n:Int))/\zb w u):=dD<|fun u=>by rw[am]
   clear am;have l:∀y:zk k,y.world.cell? ⟨c,0,Xb⟩=Xa (I6 a.kind):=fun y=>((E _).1 y.holds).2.1.c 0 rfl
   have n:∀y:zk k,y.world.cell? ⟨c,1,Xb⟩=Xa (I6 a.n):=fun y=>((E _).1 y.holds).2.1.c 1 rfl
   have S:∀y:zk k,(Instr.lookup 133 (.map (Xa (w.heap.size+1))) (Xi #[I6 a.kind,I6 a.n,Xh Xd]) Xd).run prog y.world= .ok (I6 (H (a.kind,a.n))) y.world:=fun y=>((E _).1 y.holds).1.look (K:=enK) underlying133 (zsn _) (a.kind,a.n)
   have A:k a3.drew:=(E _).2 ⟨a4.grew (gW _),P.grew (gW _),a7.grew (gW _),p.grew (gW _),q.trans (gW _)⟩
   have T:Nonempty (zk k):=⟨⟨_,A⟩⟩;refine jU (I:=k) 10 [(8,⟨fun M=>∃g,M= Xm #[I6 (H (a.kind,a.n)),I6 g],fun M w'=>∃g,M= Xm #[I6 (H (a.kind,a.n)),I6 g]/\zee enK w' (w.heap.size+1) H (a.kind,a.n) g,fun _ _=>True,fun _=>True⟩)] A zZ (by kernel_rfl) rfl rfl (by decide) ?hS ?hp ?hpre ?hpr0 ?_
   case hS=>
    intro y ap;simp only[mC,nM,or_false]at ap;subst ap;exact⟨_,0,rfl⟩
   case hp=>
    intro G s j ar Y a1 R _ M b7 C f b5;obtain⟨rfl,rfl⟩:=zbQ Y;obtain⟨rfl,rfl⟩:=zbQ a1;exact absurd rfl R
   case hpre=>
    intro j ar G s a1 Y R b7 C f af;obtain⟨rfl,rfl⟩:=zbQ a1;trivial
   case hpr0=>
    intro G ar Y;obtain⟨rfl,rfl⟩:=zbQ Y;trivial
   simp only[List.take,List.drop];iterate 8 refine qI ?_
   refine j5 rfl rfl (fun w' aa af a9=>?_) (fun bf b6=>?_)
   ·obtain⟨F,Z,W,X,p⟩:=(E _).1 aa;obtain⟨au,g,U,aq,a2,be⟩:=F.entry (K:=enK) underlying133 (zsn w') (a.kind,a.n);have ag:(Instr.mapEntry 133 (.map (Xa (w.heap.size+1))) (Xi #[I6 a.kind,I6 a.n,Xh Xd])).run prog w'= .ok (Xm #[I6 (H (a.kind,a.n)),I6 g]) au:=U;clear l n S T;refine zR.step (v:= Xm #[I6 (H (a.kind,a.n)),I6 g]) (w':=au) (by simp only[execOp];go_simp) ⟨(E _).2 ⟨aq.h,Z.grown a2 (F.ne_box Z),W.grown a2 (F.ne_box W),X.grown a2 (F.ne_own X),zd p a2 (by omega)⟩,trivial,⟨_,rfl⟩,_,rfl,aq⟩
   obtain⟨g,rfl⟩:=b6;simp only[Ya,sB,sS,sZ];refine qI ?_
   refine zad fun c k a9=>?_
   obtain⟨F,Z,W,X,p⟩:=(E _).1 k;obtain⟨D,f,al⟩:∃D,(Value.tuple #[I6 (H (a.kind,a.n)),I6 g])= Xm #[I6 (H (a.kind,a.n)),I6 D]/\zee enK c (w.heap.size+1) H (a.kind,a.n) D:=a9 8;have Q:zee enK c (w.heap.size+1) H (a.kind,a.n) g:=by
    simp at f
    rw[f];exact al
   have x:=dD W;have c:=dD X
   have r:=dD p;have u:=dD F;have q:=dD Q;clear l n S T a9 k F Z W X p al f Q A;refine zaX (K:=enK) rfl 133 (.tmp 47) (.tmp 56) (.tmp 54) rfl (w.heap.size+1) H (a.kind,a.n) g q rfl rfl (by go_num) ?_
   intro g k a _;have n:=dD<|x.grown a (u.ne_box x);have f:=dD<|c.grown a (u.ne_own c)
   have c:Xo (zb w g):=dD<|zd r a (by omega)
   have l:Xo (Ju enK g (w.heap.size+1) (qx m i ((qM s).take (j+1)) s)):=dD<|k.congr fun G=>by rw[aj.out,zmS,t.out,a5.out];rfl
   clear k a ab ac;go_wp2
   go_roundg (C -(j+1))
   case measure=>omega
   exact⟨j+1,by omega,by omega,by go_num,c,f,n,l⟩
  have B:=kD d
  have:j=C:=by omega
  subst this;have a:Xo (Ju enK wr (w.heap.size+1) (qx m (i+1) [] zf5)):=dD<|a0.congr fun G=>by
   rw[Xu (by rw[a8.out];exact nR _)]
   exact zmT m i s zf5 b8 G
  go_wp2
  go_roundg (b -(i+1))
  case measure=>omega
  exact⟨i+1,by omega,by omega,by go_num,N,a⟩
 have z:=kD h
 have:i=b:=by omega
 subst this;have a:Xo (Ju enK wr (w.heap.size+1) (qx m m.sp.length [] zf5)):=dD<|by rw[a6.out];exact a0.out
 go_wp2;go_ret;exact⟨_,rfl,a,N⟩
def qF (fl:List Fl) (i:Nat) (bl:List Int):List Int:=(zbB (fl.take i))++bl
theorem zaK {n:Nat} {g h:List Int} (e:∀i:Nat,i<n->g.contains (i:Int)=h.contains (i:Int)):qB n g=qB n h:=by
 unfold qB
 apply List.map_congr_left
 intro i a;rw[e i (Ye.1 a)]
theorem zk4 (c) (i:Nat) (a) {b:Int} (hb:b<0) (n:Nat):qB n (qF c i (a++ [b]))=qB n (qF c i a):=zaK fun j _=>by
 unfold qF;have:¬(j:Int)=b:=by omega
 simp[this]
theorem zne (c) (i:Nat) (a) (b:Nat) (n:Nat):qB n ((b:Int) :: qF c i a)=qB n (qF c i (a++ [(b:Int)])):=zaK fun j _=>by
 unfold qF;rw[Yb];simp only[List.contains_eq_mem,mC,List.mem_append,nM,or_false,decide_eq_true_eq];constructor
 ·rintro(h|h|h)
  ·exact .inr (.inr h)
  ·exact .inl h
  exact .inr (.inl h)
 rintro(h|h|h)
 ·exact .inr (.inl h)
 ·exact .inr (.inr h)
 exact .inl h
theorem zk5 {a:List Fl} {i:Nat} {f:Fl} (b:a[i]? =Xa f):qF a i f.bl=qF a (i+1) []:=by
 unfold qF zbB;rw[List.take_add_one,b];simp
theorem znf (a:List Fl) (b:Int):(qF a a.length []).contains b=qe a b:=by
 unfold qF zbB qe;rw[List.take_length,List.append_nil,Yb];simp
theorem zso:(Tryz.prog.info? 114).map (·.size)=Xa 80:=by kernel_rfl
theorem zgz (n:Nat) (g):∀v∈qB n g,v.oneCell'=Xc:=fun v a=>by
 unfold qB at a;obtain⟨i,_,rfl⟩:=List.mem_map.1 a;rfl
theorem zbc (n:Nat) (g):(qB n g).length=n:=by simp[qB]
theorem zdC (v) (a:List Fl) (g:Int) (w) (a8:qq w v a) (K:stW a g=0):
  Xp prog 62 #[Xi #[v,I6 g]] w fun e w'=>e= Xl (Xi (qB 80 (qF a a.length [])).toArray)/\zb w w':=by
 have az:=zbK;obtain⟨a1,a2,rfl,E,p⟩:=a8.rows;have ag:=dD p;clear p a8;have ae:Xo (∀f∈a,∀b∈f.bl,b=-1\/(0<=b/\b<80)):=show∀f∈a,_ from fun f av b a6=>by
  obtain⟨⟨_,_,au⟩,ar,_⟩:=(qC a g).1 K
  rcases(ar f av).2.2 b a6 with a4|a4
  ·exact .inl a4
  exact .inr (by omega)
 clear K;obtain⟨r,a0⟩:=kA a.length;rw[a0.out]at E⊢;obtain⟨L,c⟩:=kB (((w.alloc (Xk #[O a1 r a2,I6 g] 41)).alloc (Xk zfU 114)).alloc (Xk zfU 114));have N:Xo (zb w L):=dD<|by rw[<-c];exact((za _ _).trans (za _ _)).trans (za _ _)
 have ai:Xo (Box L w.heap.size [O a1 r a2,I6 g]):=dD<|by rw[<-c];exact((Box.top _ _ _ rfl).alloc _).alloc _
 have aj:Xo (Box L (w.heap.size+1) (qB 80 [])):=dD<|by rw[<-c,zdi];exact(Box.top _ (Xr 80 (Xh Xd)) _ (by simp)).alloc _
 have am:Xo (Box L (w.heap.size+1+1) (qB 80 (qF a 0 []))):=dD<|by
  have:qB 80 (qF a 0 [])=qB 80 []:=zaK fun i _=>by simp[qF,zbB]
  rw[<-c,this,zdi];exact Box.top _ (Xr 80 (Xh Xd)) _ (by simp)
 have U:=dD c;clear c
 go_enter func62,ntmps62
 go_upto_region 2 with fail;rw[U.out];clear az;have b0:=ai.c 0 rfl;go_wp2;clear b0
 go_loopg [5,11] r (fun V _ Z wr=>∃i:Nat,i<=r/\r - i<=V/\Z=I6 i/\Xo (zb w wr)/\Xo (Box wr (w.heap.size+1) (qB 80 []))/\Xo (Box wr (w.heap.size+1+1) (qB 80 (qF a i []))))
 case atStart=>exact⟨0,nZ _,by omega,rfl,N,aj,am⟩
 obtain⟨i,b5,ax,rfl,k,B,m⟩:=hrel
 by_cases y:i<r
 ·have G:=kC y
  obtain⟨f,M⟩:∃f,Xo (a[i]? =Xa f):=⟨_,gE (by rw[a0.out];exact y)⟩
  obtain⟨b3,rfl,a9,b1,A,a7⟩:=ag.out i f M.out;obtain⟨ap,a3⟩:=a7 wr k.out;obtain⟨_,_,x,H⟩:=A.nums;have ay:=A.short;have R:Xo (znU w a9 f.bl):=dD<|by
   simp only[vJ]at x;rw[x.1];exact H
  clear x H A a7;obtain⟨s,S⟩:=kA f.bl.length;rw[S.out]at a3 ay;go_upto_region 5 with fail;obtain⟨b2,d⟩:=kB (wr.alloc (Xk #[I6 f.size,O a9 s b1] 159));have P:=gT d k
  have aa:=xA d
  have ak:=yA d B
  have an:=yA d m
  rw[d];clear d ap a3;have aq:=aa.c 1 rfl;go_wp2;clear aq;have af:=dD k
  go_loopg [7,18] s (fun V _ I wr=>∃j:Nat,j<=s/\s - j<=V/\I=I6 j/\Xo (zb w wr)/\Xo (Box wr (w.heap.size+1) (qB 80 []))/\Xo (Box wr (w.heap.size+1+1) (qB 80 (qF a i (f.bl.take j)))))
  case atStart=>exact⟨0,nZ _,by omega,rfl,P,ak,by rw[Yd];exact an⟩
  obtain⟨j,b6,aw,rfl,k,B,m⟩:=hrel
  by_cases h:j<s
  ·have z:=kC h
   obtain⟨b,t⟩:∃b,Xo (f.bl[j]? =Xa b):=⟨_,gE (by rw[S.out];exact h)⟩
   obtain⟨ao,rfl,F⟩:=R.out j b t.out;have b4:=F wr k.out;have T:=dD<|ae.out f (mG M) b (mG t);have C:=dD<|j0 t.out;clear F
   by_cases a6:0<=b
   ·obtain⟨q,rfl⟩:∃q:Nat,b=(q:Int):=⟨b.toNat,by omega⟩
    have n:q<80:=by have:=T.out;omega
    have b7:=m.c q (Q8 _ n);have b8:=m.f;have D:Xo (Box (wr.setCell ⟨w.heap.size+1+1,q,Xb⟩ (Xh Xc)) (w.heap.size+1+1) (qB 80 (qF a i (f.bl.take (j+1))))):=dD<|by
     rw[C.out,<-zne,<-zgy _ n];exact m.set q _
    have al:Xo (Box (wr.setCell ⟨w.heap.size+1+1,q,Xb⟩ (Xh Xc)) (w.heap.size+1) (qB 80 [])):=dD<|B.other (by simp) _
    have ab:Xo (zb w (wr.setCell ⟨w.heap.size+1+1,q,Xb⟩ (Xh Xc))):=dD<|zL k (by simp;omega) _
    go_wp2
    go_roundg (s -(j+1))
    case measure=>omega
    exact⟨j+1,by omega,by omega,by go_num,ab,al,D⟩
   have D:Xo (Box wr (w.heap.size+1+1) (qB 80 (qF a i (f.bl.take (j+1))))):=dD<|by
    rw[C.out,zk4 _ _ _ (by omega)]
    exact m.out
   go_wp2
   go_roundg (s -(j+1))
   case measure=>omega
   exact⟨j+1,by omega,by omega,by go_num,k,B,D⟩
  have z:=kD h
  have:j=s:=by omega
  subst this;have D:Xo (Box wr (w.heap.size+1+1) (qB 80 (qF a (i+1) []))):=dD<|by
   have a5:=m.out;rw[Xu (by rw[S.out];exact nR _),zk5 M.out]at a5
   exact a5
  go_wp2
  go_roundg (r -(i+1))
  case measure=>omega
  exact⟨i+1,by omega,by omega,by go_num,k,B,D⟩
 have G:=kD y
 have:i=r:=by omega
 subst this;obtain⟨Y,l⟩:=kA (qB 80 (qF a i []));have u:Xo (Y.length=80):=dD<|by rw[<-l.out];exact zbc _ _
 have Q:Xo (∀v∈Y,v.oneCell'=Xc):=dD<|by rw[<-l.out];exact zgz _ _
 rw[l.out]at m;go_upto_region 12 with fail
 go_wp2_with (first | (refine zo rfl 114 (.tmp 3) rfl (w.heap.size+1+1) rfl m underlying114 rfl (by rw[u.out];exact zso) ?_) | (refine zz rfl 114 (.tmp 2) (.tmp 28) rfl (w.heap.size+1) rfl Y rfl B (by rw[u.out,zbc]) (by rw[zbc];exact zso) Q.out ?_))
 intro ah W X _;have ac:Xo (zb w ah):=dD<|zd k X (by omega)
 go_wp2;refine bodyPost_ret (zG rfl _ rfl W underlying114 rfl (by rw[u.out];exact zso)) rfl ⟨by rw[<-l.out],ac⟩
theorem zlG (a b c d e f g h:Int):ze7 ⟨a,b,c,d,e,f,g,h⟩ ⟨0,0,0,0,0,0,0,0⟩=([a,b,c,d,e,f,g,h] == z4):=by
 rw[Yb,za7]
 simp[z4]
def Qr (m:Ma) (b:Nat):Bool:=!qe m.fl (b:Int) && !(m.db.getD b [] == z4)
theorem zhd (h:∀b,b<m.db.length->Qr m b=Xd):J4 m=0:=by
 unfold J4;rw[kF];rw[Xw];rintro⟨b,c,a⟩;have:=h b (Ye.1 c);unfold Qr at this;rw[this]at a;cases a
theorem zlr (hb:b<m.db.length) (h:Qr m b=Xc):J4 m=7:=by
 unfold J4;rw[kE];rw[Xw];exact⟨b,Ye.2 hb,h⟩
theorem zmo (h:∀(j:Nat) q,m.dq[j]? =Xa q->qe m.fl q.1=Xc):JJ m=0:=by
 unfold JJ;rw[kF];rw[Xw];rintro⟨q,c,a⟩;obtain⟨j,b⟩:=Yf c;rw[h j q b]at a;cases a
theorem zkl {q:Int × List Int} (a:m.dq[j]? =Xa q) (h:qe m.fl q.1=Xd):JJ m=7:=by
 unfold JJ;rw[kE];rw[Xw];exact⟨q,mG a,by rw[h];rfl⟩
theorem zhr {n:Nat} {a:List (Int × List Int)} (h:zS n a=0):n<=80/\∀(j:Nat) q,a[j]? =Xa q->0<=q.1/\q.1<n:=by
 unfold zS at h
 split at h
 ·cases h
 split at h
 ·cases h
 split at h
 ·cases h
 rename_i a a a
 refine⟨by omega,fun j q b=>?_⟩
 have:(!j7 q.1 n)=Xd:=by
  cases e:(!j7 q.1 n)with
  | false=>rfl
  | true=>exact absurd (Xw.2 ⟨q,mG b,e⟩) a
 simp[j7]at this
 exact this
theorem zo3 (hb:b<80):(qB 80 (qF m.fl m.fl.length []))[b]? =Xa (Xh (qe m.fl (b:Int))):=by
 rw[Q8 _ hb,znf]
theorem zd0 (V m w) (ah:zE w V m) (cd:zjS m):
  Xp prog 29 #[Xi (mL V m).toArray] w fun e w'=>e= Xl (I6 (zu (QZ m)))/\zb w w':=by
 obtain⟨cl,y,d,a4,⟨F,g,Q⟩,⟨G,r,R⟩,K,a2,a3⟩:=V;dsimp only[mL];have dt:=zbK;obtain⟨-,A,cf,-,bb,cg,-⟩:=ah.ns;dsimp only at A cf bb cg;have bj:Xo (∀W,zb w W->Xp prog 62 #[Xi #[K.x,I6 m.cnt]] W fun e w'=>e= Xl (Xi (qB 80 (qF m.fl m.fl.length [])).toArray)/\zb W w'):=dD<|fun W dn=>zdC _ m.fl m.cnt W (ah.grew dn).fl cd.st
 have bq:Xo (zfN w F m.db):=ah.pgs;have br:Xo (zb5 w G m.dq):=ah.puts;obtain⟨aq,ax⟩:=zhr cd.dq;have bt:=dD ax;have E:=dD bb.symm;have al:=dD cg.symm;have ce:r<=9223372036854775807:=by have:=ah.dq.2.2;omega
 rw[E.out]at aq;obtain⟨Z,cq⟩:=kA (zu (QZ m));rw[cq.out];have n:Xo (zu [zlB m,J4 m,JJ m]=Z):=cq.out;have f:zlB m=if y.n≠d.n\/m.cnt≠(g:Int)then 7 else 0:=by unfold zlB;rw[A,cf,bb]
 clear ah cd ax A cf bb cg;obtain⟨c0,s⟩:=kB (w.alloc (Xk #[cl.x,I6 m.hand,y.x,d.x,a4.x,O F g Q,O G r R,K.x,I6 m.cnt,a2.x,a3.x] 45));have C:=gA s
 have k:=xA s
 have de:Xo (w.heap.size<c0.heap.size):=dD<|by rw[<-s];simp
 have P:Xo (_=c0):=s;clear s
 by_cases z:d.n=y.n
 ·by_cases ao:m.cnt=(g:Int)
  ·have bi:Xo (zlB m=0):=dD<|by rw[f,kF (by omega)]
   have am:((d.n:Int) !=(y.n:Int))=Xd:=by simp[z]
   have c3:((g:Int) != m.cnt)=Xd:=by simp[ao]
   have an:(d.n != y.n)=Xd:=by simp[z]
   have be:Xo (∀b,b<m.db.length->Qr m b=Xc->Z=7):=dD<|fun b H ap=>by rw[<-n.out,zY,kE bi.out,zY,zlr H ap];rfl
   have bf:Xo ((∀b,b<m.db.length->Qr m b=Xd)->∀(j:Nat) q,m.dq[j]? =Xa q->qe m.fl q.1=Xd->Z=7):=dD<|fun ap j q L ds=>by rw[<-n.out,zY,kE bi.out,zY,kE (zhd ap),zY,zkl L ds];rfl
   have bg:Xo ((∀b,b<m.db.length->Qr m b=Xd)->(∀(j:Nat) q,m.dq[j]? =Xa q->qe m.fl q.1=Xc)->Z=0):=dD<|fun ap dm=>by rw[<-n.out,zY,kE bi.out,zY,kE (zhd ap),zY,zmo dm];rfl
   have ar:=bj.out c0 C.out;clear f;have dc:=dD z;have dd:=dD ao;clear z ao
   go_enter func29,ntmps29
   go_upto_region 1 with fail;rw[P.out];have cm:=k.c 2 rfl;have cn:=k.c 3 rfl;have bc:=k.c 5 rfl;have co:=k.c 6 rfl;have e1:=k.c 7 rfl;have db:=k.c 8 rfl;go_upto_region 3 with fail;go_wp2_with fail;refine ar.mono ?_;clear ar cm cn bc co e1 db;rintro e b9 ⟨rfl,T⟩;have ai:=dD (C.trans T);have ct:=dD (k.grew T);clear T;obtain⟨a0,D⟩:=kA (qB 80 (qF m.fl m.fl.length []));have bn:Xo (a0.length=80):=show _=_ by rw[<-D.out];exact zbc _ _
   have bo:Xo (∀e0∈a0,e0.oneCell'=Xc):=dD<|by rw[<-D.out];exact zgz _ _
   have ak:Xo (∀b:Nat,b<80->a0[b]? =Xa (Xh (qe m.fl (b:Int)))):=dD<|fun b H=>by rw[<-D.out];exact zo3 H
   rw[D.out];obtain⟨cs,t⟩:=kB (b9.alloc (Xk zfU 114));have bk:=gT t ai
   have di:=yA t ct
   have dj:Xo (Box cs b9.heap.size (Xr 80 (Xh Xd))):=dD<|by rw[<-t];exact Box.top _ (Xr 80 (Xh Xd)) _ rfl
   have bu:Xo (_=cs):=t;clear t;have bm:=dD<|bS ai.out
   have bv:=dD ct.lt
   go_wp2_with (first | (rw[bu.out];refine zz rfl 114 (.tmp 3) (.tmp 28) rfl b9.heap.size rfl a0 rfl dj (by rw[bn.out];simp) (by simpa using zso) bo.out ?_))
   intro dg au U _;have bl:=dD<|zd bk U bm.out
   have cu:Xo (Box dg w.heap.size [cl.x,I6 m.hand,y.x,d.x,a4.x,O F g Q,O G r R,K.x,I6 m.cnt,a2.x,a3.x]):=di.grown U (by have:=bv.out;omega)
   have cx:=dD au;obtain⟨ay,bp⟩:=kA b9.heap.size;rw[bp.out]at cx⊢;clear au U dt;have bc:=cu.c 5 rfl;go_wp2;clear bc;obtain⟨a1,az⟩:=kA g;rw[az.out]at aq⊢
   go_loopg [33] a1 (fun cc cj wr=>∃a:Nat,a<=a1/\a1 - a<=cc/\cj=I6 a/\Xo (zb w wr)/\Xo (Box wr w.heap.size [cl.x,I6 m.hand,y.x,d.x,a4.x,O F g Q,O G r R,K.x,I6 m.cnt,a2.x,a3.x])/\Xo (Box wr ay a0)/\Xo (∀b,b<a->Qr m b=Xd))
   case atStart=>exact⟨0,nZ _,by omega,rfl,bl,cu,cx,fun b H=>absurd H (nL _)⟩
   obtain⟨a,dr,dq,rfl,M,cw,ba,a6⟩:=hrel
   by_cases X:a<a1
   ·have aw:=kC X
    have u:a<80:=by omega
    have aj:Xo (a<m.db.length):=dD<|by rw[E.out,az.out];exact X
    obtain⟨ch,cp⟩:∃ch,Xo (m.db[a]? =Xa ch):=⟨_,gE aj⟩;obtain⟨dk,a8,a9,aa,ab,ac,ae,af,ag,rfl,rfl,av⟩:=bq.out a ch cp.out;have l:Xo (Qr m a=(!qe m.fl (a:Int) && !([a8,a9,aa,ab,ac,ae,af,ag] == z4))):=dD<|by unfold Qr;rw[gD,cp.out];rfl
    obtain⟨c4,c5,c6,c7,c8,c9,ca,cb⟩:=av wr M.out;have I:=fun W=>zbN 9998 a8 a9 aa ab ac ae af ag 0 0 0 0 0 0 0 0 W
    simp only[zlG]at I;obtain⟨bz,a5⟩:=kA (qe m.fl (a:Int));have h:=ak.out a u;rw[a5.out]at h;rw[a5.out]at l;obtain⟨df,bs⟩:=kA ([a8,a9,aa,ab,ac,ae,af,ag] == z4);rw[bs.out]at I l;clear av;go_upto_region 7 with fail;obtain⟨dh,c⟩:=kB (wr.alloc (Xk #[U8 a8,U8 a9,U8 aa,U8 ab,U8 ac,U8 ae,U8 af,U8 ag] 91));have i:=gT c M
    have cv:=yA c cw
    have a7:=yA c ba
    have bx:=xA c
    rw[c];clear c c4 c5 c6 c7 c8 c9 ca cb;have e2:=a7.c a h;obtain⟨d9,du,dv,ay,dw,dx,dy,dz⟩:=bx.c8;clear h
    cases bz with
    | true=>
     have bd:Xo (Qr m a=Xd):=dD<|by rw[l.out];rfl
     have p:Xo (∀b,b<a+1->Qr m b=Xd):=dD<|fun b H=>by
      by_cases e:b=a
      ·rw[e];exact bd.out
      exact a6 b (by omega)
     clear d9 du dv ay dw dx dy dz I;go_wp2
     go_roundg (a1 -(a+1))
     case measure=>omega
     exact⟨a+1,by omega,by omega,by go_num,i,cv,a7,p⟩
    | false=>
     cases df with
     | true=>
      have bd:Xo (Qr m a=Xd):=dD<|by rw[l.out];rfl
      have p:Xo (∀b,b<a+1->Qr m b=Xd):=dD<|fun b H=>by
       by_cases e:b=a
       ·rw[e];exact bd.out
       exact a6 b (by omega)
      go_wp2
      go_roundg (a1 -(a+1))
      case measure=>omega
      exact⟨a+1,by omega,by omega,by go_num,i,cv,a7,p⟩
     | false=>
      have B:Xo (Z=7):=be.out a aj (by rw[l.out];rfl)
      go_wp2;go_ret;exact⟨by rw[B.out];rfl,i⟩
   have aw:=kD X
   have:a=a1:=by omega
   subst this;have cr:Xo (∀b,b<m.db.length->Qr m b=Xd):=dD<|fun b H=>a6.out b (by rw[<-az.out,<-E.out];exact H)
   have co:=cw.c 6 rfl;go_wp2;clear co;obtain⟨A,N⟩:=kA r;rw[N.out]at ce⊢;have bh:Xo (zb w wr):=M;have bw:Xo (Box wr ay a0):=ba
   go_loopg [52] A (fun cc ck wr=>∃j:Nat,j<=A/\A - j<=cc/\ck=I6 j/\Xo (zb w wr)/\Xo (Box wr ay a0)/\Xo (∀(x:Nat) q,x<j->m.dq[x]? =Xa q->qe m.fl q.1=Xc))
   case atStart=>exact⟨0,nZ _,by omega,rfl,bh,bw,fun x q cy=>absurd cy (nL _)⟩
   obtain⟨j,e3,dp,rfl,M,ba,a6⟩:=hrel
   by_cases v:j<A
   ·have Y:=kC v
    obtain⟨q,b8⟩:∃q,Xo (m.dq[j]? =Xa q):=⟨_,gE (by rw[al.out,N.out];exact v)⟩
    obtain⟨dk,cz,a8,a9,aa,ab,ac,ae,af,ag,rfl,rfl,av⟩:=br.out j q b8.out;obtain⟨da,ci⟩:=bt.out j _ b8.out;simp only at da ci;obtain⟨b,rfl⟩:∃b:Nat,cz=(b:Int):=⟨cz.toNat,by omega⟩
    have u:b<80:=by rw[E.out,az.out]at ci;omega
    obtain⟨c4,c5,c6,c7,c8,c9,ca,cb,dl⟩:=av wr M.out;obtain⟨bz,a5⟩:=kA (qe m.fl (b:Int));have h:=ak.out b u;rw[a5.out]at h;clear av da ci;go_upto_region 13 with fail;obtain⟨dh,c⟩:=kB (wr.alloc (Xk #[I6 (b:Int),U8 a8,U8 a9,U8 aa,U8 ab,U8 ac,U8 ae,U8 af,U8 ag] 117));have i:=gT c M
    have a7:=yA c ba
    have bx:=xA c
    rw[c];clear c c4 c5 c6 c7 c8 c9 ca cb dl;have e2:=a7.c b h;have d9:=bx.c 0 rfl;clear h
    cases bz with
    | true=>
     have p:Xo (∀(x:Nat) q,x<j+1->m.dq[x]? =Xa q->qe m.fl q.1=Xc):=dD<|fun x q cy L=>by
      by_cases e:x=j
      ·subst e;rw[b8.out]at L;cases L;exact a5.out
      exact a6 x q (by omega) L
     go_wp2
     go_roundg (A -(j+1))
     case measure=>omega
     exact⟨j+1,by omega,by omega,by go_num,i,a7,p⟩
    | false=>
     have B:=dD<|bf.out cr j _ b8 a5.out;go_wp2;go_ret;exact⟨by rw[B.out];rfl,i⟩
   have Y:=kD v
   have:j=A:=by omega
   subst this;have B:Xo (Z=0):=bg.out cr fun x q L=>a6.out x q (by rw[<-N.out,<-al.out];exact(gS.1 L).1) L
   go_wp2;go_ret;exact⟨by rw[B.out];rfl,M⟩
  have B:Xo (Z=7):=dD<|by
   have S:zlB m=7:=by rw[f,kE (.inr ao)]
   rw[<-n.out,zY,S];rfl
  have am:((d.n:Int) !=(y.n:Int))=Xd:=by simp[z]
  have an:(d.n != y.n)=Xd:=by simp[z]
  have c3:((g:Int) != m.cnt)=Xc:=by simp;omega
  clear z ao f
  go_enter func29,ntmps29
  go_upto_region 1 with fail;rw[P.out];have cm:=k.c 2 rfl;have cn:=k.c 3 rfl;have bc:=k.c 5 rfl;have db:=k.c 8 rfl;go_wp2;go_ret;exact⟨by rw[B.out];rfl,C⟩
 have B:Xo (Z=7):=dD<|by
  have S:zlB m=7:=by rw[f,kE (.inl (fun e=>z e.symm))]
  rw[<-n.out,zY,S];rfl
 have am:((d.n:Int) !=(y.n:Int))=Xc:=by simp;omega
 have an:(d.n != y.n)=Xc:=by simp[z]
 clear z f
 go_enter func29,ntmps29
 go_upto_region 1 with fail;rw[P.out];have cm:=k.c 2 rfl;have cn:=k.c 3 rfl;go_wp2;go_ret;exact⟨by rw[B.out];rfl,C⟩
theorem zoZ (a:zb4 m Xb m.ca=0) (k:Nat):frE m k=if(zQ m k).r≠qx m m.sp.length [] zf5 (1,(k:Int))\/(0<=(zQ m k).f/\¬ZH m.ca ((zQ m k).f,(zQ m k).x)=Xa (k:Int))then 7 else 0:=by
 unfold frE;rw[zjs m zf5 (k:Int) (by decide:(1:Int)≠0),kE rfl]
 have:=zkS a k
 by_cases h:zO m.ca k=0
 ·have a:¬ZH m.ca ((zQ m k).f,(zQ m k).x)=Xa (k:Int):=fun e=>(this.1 e) h
  simp only[h,a,not_false_iff,and_true]
 have a:=this.2 h;simp only[h,a,not_true,and_false]
theorem zma (m:Ma) (k:Nat):zhX m k=if m.sl.getD k 0≠qx m m.sp.length [] zf5 (2,(k:Int))then 7 else 0:=by
 unfold zhX;have h:=zjs m zf5 (k:Int) (by decide:(2:Int)≠0)
 have a:¬(2:Int)=1:=by decide
 rw[kF a,Nat.add_zero]at h;rw[h]
theorem zcN (V) (m:Ma) (w) (aj:zE w V m) (bs:zb4 m Xb m.ca=0) (am:m.sp.length<=4) (bz:∀s∈m.sp,tbW s.tb=0):
  Xp prog 33 #[Xi (mL V m).toArray] w fun e w'=>e= Xl (I6 (Q0 m))/\zb w w':=by
 have bj:Xo (∀W,zb w W->Xp prog 70 #[Xi (mL V m).toArray] W fun e w'=>∃B,e= Xl (Xi #[V.f.x,I6 m.hand,V.s.x,V.sb.x,V.sq.x,V.db.x,V.dq.x,V.fl.x,I6 m.cnt,V.ca.x,V.sp.x,.map (Xa B)])/\Zw plK w' B (ZH m.ca)/\zb W w'):=dD<|fun W ak=>QY V m W (aj.grew ak)
 have be:Xo (∀W,zb w W->Xp prog 71 #[Xi (mL V m).toArray] W fun e w'=>∃B,e= Xl (.map (Xa B))/\Ju enK w' B (qx m m.sp.length [] zf5)/\zb W w'):=dD<|fun W ak=>zis V m W (aj.grew ak) am bz
 have bd:Xo (∀(B n:Nat) W,zb w W->n<m.fs.length->Zw plK W B (ZH m.ca)->Xp prog 72 #[Xi #[V.f.x,I6 m.hand,V.s.x,V.sb.x,V.sq.x,V.db.x,V.dq.x,V.fl.x,I6 m.cnt,V.ca.x,V.sp.x,.map (Xa B)],I6 (n:Int)] W fun e w'=>e= Xl (Xh (decide (ZH m.ca ((zQ m n).f,(zQ m n).x)=Xa (n:Int))))/\zb W w'):=dD<|fun B n W ak bu bo=>zfu V m B n (ZH m.ca) W (aj.grew ak) bu bo
 obtain⟨⟨ae,p,a5⟩,⟨a3,u,a8⟩,g,i,c,d,f,b,h⟩:=V;dsimp only[mL]at bj be bd⊢;obtain⟨dc,dd,-⟩:=aj.ns;dsimp only at dc dd;have ck:Xo (zjV w ae m.fs):=aj.frs;have cp:Xo (zjQ w a3 m.sl):=aj.sls;have bf:=dD dc.symm;have bg:=dD dd.symm;have eh:p<=9223372036854775807:=by have:=aj.fs.short;omega
 have ei:u<=9223372036854775807:=by have:=aj.sl.short;omega
 have cj:=dD<|fun (n:Nat)=>zoZ bs n
 clear aj bs am bz dc dd;obtain⟨ao,cb⟩:=kA (Q0 m);rw[cb.out];have bk:Xo (∀n:Nat,n<m.fs.length->(∀j:Nat,j<n->frE m j=0)->frE m n=7->ao=7):=dD<|fun n bu k D=>by
  have bm:=zce bu k (by rw[D];decide)
  rw[<-cb.out];unfold Q0;rw[bm,D,kF (by decide)]
 have cs:Xo ((∀j:Nat,j<m.fs.length->frE m j=0)->∀n:Nat,n<m.sl.length->(∀j:Nat,j<n->zhX m j=0)->zhX m n=7->ao=7):=dD<|fun da n bu k D=>by
  have bm:=zce bu k (by rw[D];decide)
  rw[<-cb.out];unfold Q0;rw[ZC da,kE rfl,bm,D]
 have ct:Xo ((∀j:Nat,j<m.fs.length->frE m j=0)->(∀j:Nat,j<m.sl.length->zhX m j=0)->ao=0):=dD<|fun da k=>by
  rw[<-cb.out];unfold Q0;rw[ZC da,kE rfl,ZC k]
 obtain⟨dq,af⟩:=kB (w.alloc (Xk #[O ae p a5,I6 m.hand,O a3 u a8,g.x,i.x,c.x,d.x,f.x,I6 m.cnt,b.x,h.x] 45));have ab:=gA af
 have P:=xA af
 have cq:Xo (_=dq):=af;clear af
 go_enter func33,ntmps33
 go_upto_region 1 with fail;rw[cq.out];have c0:=P.gw 0 rfl
 have c1:=P.gw 1 rfl
 have c2:=P.gw 2 rfl
 have c3:=P.gw 3 rfl
 have c4:=P.gw 4 rfl
 have c5:=P.gw 5 rfl
 have c6:=P.gw 6 rfl
 have c7:=P.gw 7 rfl
 have c8:=P.gw 8 rfl
 have c9:=P.gw 9 rfl
 have an:=P.gw 10 rfl
 have N:Nonempty (zg dq):=⟨⟨_,zb.refl _⟩⟩;refine jO 5 [(1,⟨fun C=>∃B,C= Xi #[O ae p a5,I6 m.hand,O a3 u a8,g.x,i.x,c.x,d.x,f.x,I6 m.cnt,b.x,h.x,.map (Xa B)],fun C w'=>∃B,C= Xi #[O ae p a5,I6 m.hand,O a3 u a8,g.x,i.x,c.x,d.x,f.x,I6 m.cnt,b.x,h.x,.map (Xa B)]/\Zw plK w' B (ZH m.ca)⟩),(3,⟨fun C=>∃B,C= .map (Xa B),fun C w'=>∃B,C= .map (Xa B)/\Ju enK w' B (qx m m.sp.length [] zf5)⟩),(4,⟨fun C=>∃a2,C= Xj (Xa ⟨a2,0,Xb⟩),fun C w'=>∃a2,C= Xj (Xa ⟨a2,0,Xb⟩)/\Box w' a2 [eS,I6 0,eS,eS,eS,eS,eS,eS,I6 0,eS,eS,.map Xb]/\w.heap.size<=a2⟩)] zZ (by kernel_rfl) rfl rfl (by decide) ?hS ?hp ?_
 case hS=>
  intro dh I;simp only[mC,nM,or_false]at I
  rcases I with rfl|rfl|rfl
  ·exact⟨_,0,rfl⟩
  ·exact⟨_,0,rfl⟩
  exact⟨_,0,rfl⟩
 case hp=>
  intro dh I;simp only[mC,nM,or_false]at I
  rcases I with rfl|rfl|rfl
  ·exact fun _ _ _ M r=>by obtain⟨B,k,D⟩:=r;exact⟨B,k,D.grew M⟩
  ·exact fun _ _ _ M r=>by obtain⟨B,k,D⟩:=r;exact⟨B,k,D.grew M⟩
  exact fun _ _ _ M r=>by obtain⟨a2,k,D,bm⟩:=r;exact⟨a2,k,D.grew M,bm⟩
 simp only[List.take,List.drop];refine zf ?_
 refine zC rfl rfl (fun w' M E=>?_) (fun dg a7=>?_)
 ·refine zR.call [Xi #[O ae p a5,I6 m.hand,O a3 u a8,g.x,i.x,c.x,d.x,f.x,I6 m.cnt,b.x,h.x]] rfl func70 rfl rfl rfl ?_;refine(bj w' (ab.trans M)).mono ?_;rintro e ca ⟨B,rfl,bo,ah⟩;exact⟨_,rfl,ah,⟨B,rfl⟩,B,rfl,bo⟩
 obtain⟨di,rfl⟩:=a7;simp only[Ya,sB,sS,sZ];refine zf ?_
 refine zC rfl rfl (fun w' M E=>?_) (fun dg a7=>?_)
 ·refine zR.call [Xi #[O ae p a5,I6 m.hand,O a3 u a8,g.x,i.x,c.x,d.x,f.x,I6 m.cnt,b.x,h.x]] rfl func71 rfl rfl rfl ?_;refine(be w' (ab.trans M)).mono ?_;rintro e ca ⟨B,rfl,bo,ah⟩;exact⟨_,rfl,ah,⟨B,rfl⟩,B,rfl,bo⟩
 obtain⟨dj,rfl⟩:=a7;simp only[Ya,sB,sS,sZ];refine zC rfl rfl (fun w' M E=>?_) (fun dg a7=>?_)
 ·have bx:Box (w'.alloc (Xk #[eS,I6 0,eS,eS,eS,eS,eS,eS,I6 0,eS,eS,.map Xb] 131)) w'.heap.size [eS,I6 0,eS,eS,eS,eS,eS,eS,I6 0,eS,eS,.map Xb]:=Box.top _ _ _ rfl;have db:=bS (ab.trans M);clear c0 c1 c2 c3 c4 c5 c6 c7 c8 c9 an N;refine zR.step (v:= Xj (Xa ⟨w'.heap.size,0,Xb⟩)) (w':=w'.alloc (Xk #[eS,I6 0,eS,eS,eS,eS,eS,eS,I6 0,eS,eS,.map Xb] 131)) (by simp only[execOp];go_simp) ⟨za _ _,⟨_,rfl⟩,_,rfl,bx,db⟩
 obtain⟨dx,rfl⟩:=a7;simp only[Ya,sB,sS,sZ];refine zP fun cu X E=>?_
 obtain⟨F,ap,bp⟩:∃B,(Value.agg #[O ae p a5,I6 m.hand,O a3 u a8,g.x,i.x,c.x,d.x,f.x,I6 m.cnt,b.x,h.x,.map (Xa di)])= Xi #[O ae p a5,I6 m.hand,O a3 u a8,g.x,i.x,c.x,d.x,f.x,I6 m.cnt,b.x,h.x,.map (Xa B)]/\Zw plK cu B (ZH m.ca):=E 1;obtain⟨a9,aq,bq⟩:∃B,(Value.map (Xa dj))= .map (Xa B)/\Ju enK cu B (qx m m.sp.length [] zf5):=E 3;obtain⟨b8,ar,bn,al⟩:∃a2,(Value.pointer (Xa ⟨dx,0,Xb⟩))= Xj (Xa ⟨a2,0,Xb⟩)/\Box cu a2 [eS,I6 0,eS,eS,eS,eS,eS,eS,I6 0,eS,eS,.map Xb]/\w.heap.size<=a2:=E 4;have ed:F=di:=by simp at ap;exact ap.symm
 have ee:a9=dj:=by simp at aq;exact aq.symm
 have ef:b8=dx:=by simp at ar;exact ar.symm
 subst ed ee ef;have dm:=dD bp;have dy:=dD bq;have cd:=dD bn;have cn:=dD al;have cm:=dD (ab.trans X);have dt:=dD (P.grew X);clear ap aq ar bp bq bn al X E c0 c1 c2 c3 c4 c5 c6 c7 c8 c9 an N;have cr:Xo (w.heap.size≠b8):=show _≠_ from fun e=>by
  obtain⟨eq,k⟩:=dt.out;obtain⟨er,D⟩:=cd.out;rw[<-e,k]at D
  simp at D
 go_wp2_with (refine zz rfl 131 (.tmp 3) (.tmp 10) rfl b8 rfl [O ae p a5,I6 m.hand,O a3 u a8,g.x,i.x,c.x,d.x,f.x,I6 m.cnt,b.x,h.x,.map (Xa F)] rfl cd rfl (by kernel_rfl) (fun C a7=>by
    simp only[mC,nM,or_false]at a7
    rcases a7 with rfl|rfl|rfl|rfl|rfl|rfl|rfl|rfl|rfl|rfl|rfl|rfl <;> rfl) ?_)
 intro ba br Y _;have e0:=dD br;have du:=dD<|dt.grown Y cr.out;have dz:Xo (Zw plK ba F (ZH m.ca)):=dm.kept Y (fun e=>by cases e;exact cd.ne_map dm rfl)
 have dn:Xo (Ju enK ba a9 (qx m m.sp.length [] zf5)):=dD<|by
  obtain⟨eg,dw,el⟩:=dy.out;exact⟨eg,dw.kept Y (fun e=>by cases e;exact cd.ne_map dw rfl),el⟩
 have x:=dD<|zd cm Y cn.out
 clear br Y;have em:=du.c 0 rfl;go_wp2;clear em
 go_loopg [17] p (fun cz de wr=>∃a:Nat,a<=p/\p - a<=cz/\de=I6 a/\Xo (zb ba wr)/\Xo (∀j:Nat,j<a->frE m j=0))
 case atStart=>exact⟨0,nZ _,by omega,rfl,zb.refl _,fun j a6=>absurd a6 (nL _)⟩
 obtain⟨a,ek,ej,rfl,a4,ac⟩:=hrel
 by_cases av:a<p
 ·have bw:=kC av
  have y:Xo (a<m.fs.length):=dD<|by rw[bf.out];exact av
  obtain⟨q,dk⟩:∃q,Xo (m.fs[a]? =Xa q):=⟨_,gE y⟩;have bb:Xo (zQ m (a:Int)=q):=dD<|by unfold zQ;rw[tN,gD,dk.out];rfl
  obtain⟨cv,rfl,bv⟩:=ck.out a q dk.out;obtain⟨dv,e4,e5,e6,e7,e8,e9,ea,eb,ec,cw,cx,cy⟩:=bv wr (x.trans a4);clear bv;go_upto_region 5 with fail;obtain⟨dr,ag⟩:=kB (wr.alloc (Xk #[U8 q.p.b0,U8 q.p.b1,U8 q.p.b2,U8 q.p.b3,U8 q.p.b4,U8 q.p.b5,U8 q.p.b6,U8 q.p.b7,I6 q.r,Xh q.u,Xh q.d,I6 q.f,I6 q.x] 93));have G:=gT ag a4
  have bc:=dD (x.trans G);have cg:=xA ag
  have Q:=dD (e0.grew G);rw[ag];clear ag dv e4 e5 e6 e7 e8 e9 ea eb ec cw cx cy;obtain⟨ep,co⟩:=kA wr.heap.size;rw[co.out]at cg⊢;obtain⟨r,S⟩:=kA ((qx m m.sp.length [] zf5) (1,(a:Int)));have ai:∀cf:zg dr,(Instr.lookup 133 (.map (Xa a9)) (Xi #[I6 1,I6 (a:Int),Xh Xd]) Xd).run prog cf.world= .ok (I6 r) cf.world:=fun cf=>by
   have:=(dn.grew (G.trans cf.grew)).look (K:=enK) underlying133 (zsn _) (1,(a:Int));rw[S.out]at this;exact this
  have au:=cg.gw 8 rfl
  have U:=cg.gw 11 rfl
  have ay:=Q.gw 0 rfl
  have az:=Q.gw 1 rfl
  have b0:=Q.gw 2 rfl
  have b1:=Q.gw 3 rfl
  have b2:=Q.gw 4 rfl
  have b3:=Q.gw 5 rfl
  have b4:=Q.gw 6 rfl
  have b5:=Q.gw 7 rfl
  have b6:=Q.gw 8 rfl
  have b7:=Q.gw 9 rfl
  have a0:=Q.gw 10 rfl
  have a1:=Q.gw 11 rfl
  have N:Nonempty (zg dr):=⟨⟨_,zb.refl _⟩⟩;have aa:=cj.out a;rw[bb.out,S.out]at aa
  by_cases A:q.r=r
  ·have ax:(q.r != r)=Xd:=by simp[A]
   by_cases L:0<=q.f
   ·have bt:decide (0<=q.f)=Xc:=by simpa using L
    obtain⟨cc,dl⟩:=kA (decide (ZH m.ca ((zQ m (a:Int)).f,(zQ m (a:Int)).x)=Xa (a:Int)));have bi:Xo (frE m a=if cc=Xc then 0 else 7):=dD<|by
     have k:=dl.out;rw[bb.out]at k;rw[aa,<-k]
     by_cases ce:ZH m.ca (q.f,q.x)=Xa (a:Int)
     ·rw[kF (by simp[A,ce]),kE (by simpa using ce)]
     rw[kE (.inr ⟨L,ce⟩),kF (by simpa using ce)]
    have ci:Xo (∀W,zb ba W->Xp prog 72 #[Xi #[O (Xa cv) p a5,I6 m.hand,O a3 u a8,g.x,i.x,c.x,d.x,f.x,I6 m.cnt,b.x,h.x,.map (Xa F)],I6 (a:Int)] W fun e w'=>e= Xl (Xh cc)/\zb W w'):=dD<|fun W ak=>by
     have k:=bd.out F a W (x.trans ak) y (dz.grew ak);rw[dl.out]at k;exact k
    clear A L;refine qu [(14,⟨fun C=>C= Xh cc,fun C w'=>True⟩)] zZ (by kernel_rfl) ?hS ?hp ?_
    case hS=>
     intro dh I;simp only[mC,nM,or_false]at I;subst I;exact⟨_,rfl⟩
    case hp=>
     intro dh I;simp only[mC,nM,or_false]at I;subst I;exact fun _ _ _ _ r=>r
    iterate 14 refine zf ?_
    refine zC rfl rfl (fun w' M E=>?_) (fun dg a7=>?_)
    ·refine zR.call [Xi #[O (Xa cv) p a5,I6 m.hand,O a3 u a8,g.x,i.x,c.x,d.x,f.x,I6 m.cnt,b.x,h.x,.map (Xa F)],I6 (a:Int)] rfl func72 rfl rfl rfl ?_;refine(ci w' (G.trans M)).mono ?_;rintro e ca ⟨rfl,X⟩;exact⟨_,rfl,X,rfl,trivial⟩
    subst a7;simp only[Ya,sB,sS,sZ];iterate 3 refine zf ?_
    refine zP fun ds t E=>?_
    have H:=dD (G.trans t);clear t E ai au U ay az b0 b1 b2 b3 b4 b5 b6 b7 a0 a1 N
    cases cc with
    | true=>
     have T:Xo (∀j:Nat,j<a+1->frE m j=0):=dD<|fun j a6=>by
      by_cases e:j=a
      ·rw[e,bi.out,kE rfl]
      exact ac j (by omega)
     go_wp2
     go_roundg (p -(a+1))
     case measure=>omega
     exact⟨a+1,by omega,by omega,by go_num,H,T⟩
    | false=>
     have z:Xo (ao=7):=bk.out a y ac (by rw[bi.out,kF (by decide)])
     have R:=dD (x.trans H);go_wp2;go_ret;exact⟨by rw[z.out];rfl,R⟩
   have bt:decide (0<=q.f)=Xd:=by simpa using L
   have cl:Xo (frE m a=0):=dD<|by rw[aa,kF (by simp[A,L])]
   have T:Xo (∀j:Nat,j<a+1->frE m j=0):=dD<|fun j a6=>by
    by_cases e:j=a
    ·rw[e];exact cl.out
    exact ac j (by omega)
   clear A L;refine qu [] zZ (by kernel_rfl) (by simp) (by simp) ?_
   iterate 12 refine zf ?_
   refine jB ?_;refine jB ?_;refine jB ?_;refine jB ?_;iterate 2 refine zf ?_
   refine zP fun ds t E=>?_
   have H:=dD (G.trans t);clear t E ai au U ay az b0 b1 b2 b3 b4 b5 b6 b7 a0 a1 N;go_wp2
   go_roundg (p -(a+1))
   case measure=>omega
   exact⟨a+1,by omega,by omega,by go_num,H,T⟩
  have ax:(q.r != r)=Xc:=by simp[A]
  have z:Xo (ao=7):=bk.out a y ac (by rw[aa,kE (.inl A)])
  clear A;refine qu [] zZ (by kernel_rfl) (by simp) (by simp) ?_
  iterate 8 refine zf ?_
  refine jB ?_;refine jB ?_;refine jB ?_;refine jB ?_;refine jB ?_;refine jB ?_;refine jB ?_;refine jB ?_;refine jB ?_;refine zf ?_
  refine zP fun ds t E=>?_
  have H:=dD (bc.trans t);clear t E ai au U ay az b0 b1 b2 b3 b4 b5 b6 b7 a0 a1 N;go_wp2;go_ret;exact⟨by rw[z.out];rfl,H⟩
 have bw:=kD av
 have:a=p:=by omega
 subst this;have dp:Xo (∀j:Nat,j<m.fs.length->frE m j=0):=dD<|fun j a6=>ac.out j (by rw[<-bf.out];exact a6)
 have en:=(du.grew a4).c 2 rfl;go_wp2;clear en;have ch:Xo (zb ba wr):=a4
 go_loopg [44] u (fun cz df wr=>∃l:Nat,l<=u/\u - l<=cz/\df=I6 l/\Xo (zb ba wr)/\Xo (∀j:Nat,j<l->zhX m j=0))
 case atStart=>exact⟨0,nZ _,by omega,rfl,ch,fun j a6=>absurd a6 (nL _)⟩
 obtain⟨l,eo,ah,rfl,a4,ac⟩:=hrel
 by_cases Z:l<u
 ·have aw:=kC Z
  have y:Xo (l<m.sl.length):=dD<|by rw[bg.out];exact Z
  obtain⟨b9,bl⟩:∃b9,Xo (m.sl[l]? =Xa b9):=⟨_,gE y⟩;obtain⟨cv,rfl,bv⟩:=cp.out l b9 bl.out;have dv:=bv wr (x.trans a4);clear bv;obtain⟨r,S⟩:=kA ((qx m m.sp.length [] zf5) (2,(l:Int)));have ai:(Instr.lookup 133 (.map (Xa a9)) (Xi #[I6 2,I6 (l:Int),Xh Xd]) Xd).run prog wr= .ok (I6 r) wr:=by
   have:=(dn.grew a4).look (K:=enK) underlying133 (zsn _) (2,(l:Int));rw[S.out]at this;exact this
  have bh:Xo (zhX m l=if b9≠r then 7 else 0):=dD<|by rw[zma,gD,bl.out,S.out];rfl
  by_cases A:b9=r
  ·have ax:(b9 != r)=Xd:=by simp[A]
   have T:Xo (∀j:Nat,j<l+1->zhX m j=0):=dD<|fun j a6=>by
    by_cases e:j=l
    ·rw[e,bh,kF (by simp[A])]
    exact ac j (by omega)
   clear A;go_wp2
   go_roundg (u -(l+1))
   case measure=>omega
   exact⟨l+1,by omega,by omega,by go_num,a4,T⟩
  have ax:(b9 != r)=Xc:=by simp[A]
  have z:Xo (ao=7):=cs.out dp l y ac (by rw[bh.out,kE A])
  have R:=dD (x.trans a4);clear A;go_wp2;go_ret;exact⟨by rw[z.out];rfl,R⟩
 have aw:=kD Z
 have:l=u:=by omega
 subst this;have z:Xo (ao=0):=ct.out dp fun j a6=>ac.out j (by rw[<-bg.out];exact a6)
 have R:=dD (x.trans a4);go_wp2;go_ret;exact⟨by rw[z.out];rfl,R⟩
def chk:List Nat:=[28,29,30,31,32,33]
def zqK (m:Ma):List Int:=[zu (Zz m),zu (QZ m),Zy m,zej m,zf1 m,Q0 m]
theorem zf0 (h:Zy m=0):m.sp.length<=4:=by
 unfold Zy at h
 split at h
 ·cases h
 omega
theorem zlm (k f:Nat) (a:chk[k]? =Xa f):∀b w,(callFunc f b).run prog w= .ok (.enter f b) w:=by
 match k,a with
 | 0,a=>cases a;exact enters_of func28 (by kernel_rfl) rfl
 | 1,a=>cases a;exact enters_of func29 (by kernel_rfl) rfl
 | 2,a=>cases a;exact enters_of func30 (by kernel_rfl) rfl
 | 3,a=>cases a;exact enters_of func31 (by kernel_rfl) rfl
 | 4,a=>cases a;exact enters_of func32 (by kernel_rfl) rfl
 | 5,a=>cases a;exact enters_of func33 (by kernel_rfl) rfl
 | k+6,a=>simp[chk]at a
def fnV (f:Nat):Xq:= .func (.func f) #[] #[]
theorem zaH {a n:Nat} {w:Xn} {e:TypeId} {v:Xq} (h:w.ownsRow b e a v n xs) (c:v.ownBlock=Xa g):b<=g/\g<w.heap.size/\∃cs,w.heap[g]? =Xa (Xk cs e (0,0)):=by
 rcases h.2 with⟨rfl,_⟩|⟨k,a,a,rfl,f,d,h⟩
 ·cases c
 simp only[Value.ownBlock,Option.some.injEq]at c;subst c;exact⟨f,(aS.1 d).1,a,d⟩
theorem zcb {D:Nat->Prop} {a n:Nat} {w:Xn} {e:TypeId} {v:Xq} (h:w.ownsRow b e a v n xs) (k:zm D w W) (j:∀g,v.ownBlock=Xa g->¬D g):W.ownsRow b e a v n xs:=by
 refine⟨h.1,?_⟩
 rcases h.2 with f|⟨g,a,c,rfl,h,d,i⟩
 ·exact .inl f
 exact .inr ⟨g,a,c,rfl,h,by rw[k.block g (aS.1 d).1 (j g rfl)];exact d,i⟩
theorem jh {D:Nat->Prop} {a n:Nat} {w:Xn} {e:TypeId} {v:Xq} (h:w.ownsRow b e a v n xs) (k:zm D w W) (j:∀g,v.ownBlock=Xa g->¬D g):W.ownsRow b e a v n xs:=by
 refine⟨h.1,?_⟩
 rcases h.2 with f|⟨g,a,c,rfl,h,d,i⟩
 ·exact .inl f
 exact .inr ⟨g,a,c,rfl,h,by rw[k.block g (aS.1 d).1 (j g rfl)];exact d,i⟩
def oB (s:Sli) (b:Nat):Prop:=(s.x).ownBlock=Xa b
def Dw (p:Nat) (V:MaV):Nat->Prop:=fun b=>b=p\/oB V.f b\/oB V.ca b\/oB V.sp b
def Dr (B p:Nat) (V:MaV):Nat->Prop:=fun b=>b<B\/Dw p V b
structure ziW (w:Xn) (V:MaV) (m:Ma):Prop where
 sl:zl slE w (V.s.x) m.sl
 sb:jc w (V.sb.x) m.sb
 sq:jG w (V.sq.x) m.sq
 db:jc w (V.db.x) m.db
 dq:jG w (V.dq.x) m.dq
 fl:qq w (V.fl.x) m.fl
structure ChW (w0:Xn) (p:Nat) (w:Xn) (V:MaV) (m:Ma):Prop where
 gr:zb w0 w
 lo:w0.heap.size<=p
 box:zn w p 88 (chL V m)
 fs:zc Qy w0.heap.size w (V.f.x) m.fs
 ca:zc Jw w0.heap.size w (V.ca.x) m.ca
 sp:∃xs:List SpV,zc ZA w0.heap.size w (V.sp.x) xs/\xs.length=m.sp.length/\∀(i:Nat) x s,xs[i]? =Xa x->m.sp[i]? =Xa s->∀W,zm (Dr w0.heap.size p V) w W->jT W x s
 rest:∀W,zm (Dr w0.heap.size p V) w W->ziW W V m
def Chg (w0:Xn) (p:Nat) (w:Xn) (V:MaV) (m':Ma) (w':Xn):Prop:=∃V':MaV,ChW w0 p w' V' m'/\zm (Dw p V) w w'/\∀k,Dw p V' k->Dw p V k\/w.heap.size<=k
section
variable{w0 w w1 w2:Xn} {p:Nat} {V V':MaV} {m m':Ma}
theorem ChW.dlt (h:ChW w0 p w V m):∀k,Dw p V k->k<w.heap.size:=by
 rintro k (rfl|a|a|a)
 ·exact h.box.box.lt
 ·exact(h.fs.lt k a).2
 ·exact(h.ca.lt k a).2
 obtain⟨b,b,_⟩:=h.sp;exact(b.lt k a).2
theorem ChW.dlo (h:ChW w0 p w V m):∀k,Dw p V k->w0.heap.size<=k:=by
 rintro k (rfl|a|a|a)
 ·exact h.lo
 ·exact(h.fs.lt k a).1
 ·exact(h.ca.lt k a).1
 obtain⟨b,b,_⟩:=h.sp;exact(b.lt k a).1
theorem ChW.drt (h:ChW w0 p w V m):∀k,Dr w0.heap.size p V k->k<w.heap.size:=by
 rintro k (a|a)
 ·exact Xt a (bS h.gr)
 exact h.dlt k a
theorem ChW.grew (h:ChW w0 p w V m) (k:zb w w1):ChW w0 p w1 V m:=by
 obtain⟨c,a,b,d⟩:=h.sp;exact⟨h.gr.trans k,h.lo,h.box.grew k,h.fs.grew k,h.ca.grew k,⟨c,a.grew k,b,fun i x s c b W a=>d i x s c b W ((zm.grew k).trans a)⟩,fun W a=>h.rest W ((zm.grew k).trans a)⟩
theorem ChW.at (h:ChW w0 p w V m):zE w V m:=by
 have r:=h.rest w (zm.refl _ _);obtain⟨d,a,b,c⟩:=h.sp;exact⟨h.fs.at,r.sl,r.sb,r.sq,r.db,r.dq,r.fl,h.ca.at,⟨d,a.at,b,fun i x s b a=>c i x s b a w (zm.refl _ _)⟩⟩
theorem ChW.nf (h:ChW w0 p w V m):∀g,oB V.f g->p≠g:=h.fs.ne h.box (by decide)
theorem ChW.nc (h:ChW w0 p w V m):∀g,oB V.ca g->p≠g:=h.ca.ne h.box (by decide)
theorem ChW.ns (h:ChW w0 p w V m):∀g,oB V.sp g->p≠g:=by
 obtain⟨a,a,_⟩:=h.sp;exact a.ne h.box (by decide)
theorem ChW.fc (h:ChW w0 p w V m):∀g,oB V.f g->¬oB V.ca g:=h.fs.apart h.ca (by decide)
theorem ChW.fS (h:ChW w0 p w V m):∀g,oB V.f g->¬oB V.sp g:=by
 obtain⟨a,a,_⟩:=h.sp;exact h.fs.apart a (by decide)
theorem ChW.cS (h:ChW w0 p w V m):∀g,oB V.ca g->¬oB V.sp g:=by
 obtain⟨a,a,_⟩:=h.sp;exact h.ca.apart a (by decide)
theorem ChW.key (k:zm (Dw p V) w w1) (f:∀k,Dw p V' k->Dw p V k\/w.heap.size<=k) (a:zm (Dr w0.heap.size p V') w1 W):zm (Dr w0.heap.size p V) w W:=
 ⟨a.os.trans k.os,a.tape.trans k.tape,a.output.trans k.output,nT k.size a.size,fun b d c=>(a.block b (Xt d k.size) (fun e=>by
  rcases e with e|e
  ·exact c (.inl e)
  rcases f b e with e|e
  ·exact c (.inr e)
  omega)).trans (k.block b d (fun e=>c (.inr e)))⟩
theorem ChW.grOut (h:ChW w0 p w V m) (k:zm (Dw p V) w w1):zb w0 w1:=
 ⟨k.os.trans (Below.os h.gr),k.tape.trans (Below.tape h.gr),k.output.trans (Below.output h.gr),nT (bS h.gr) k.size,fun b a=>(k.block b (Xt a (bS h.gr)) (fun e=>by have:=h.dlo b e;omega)).trans (Below.block h.gr b a)⟩
theorem Chg.refl (h:ChW w0 p w V m) (g:zb w w1):Chg w0 p w V m w1:=⟨V,h.grew g,zm.grew g,fun _ a=> .inl a⟩
theorem Chg.of_grew (g:zb w w1) (h:Chg w0 p w1 V m' w2):Chg w0 p w V m' w2:=by
 obtain⟨a,b,d,c⟩:=h;refine⟨a,b,(zm.grew g).trans d,fun k a=>?_⟩
 rcases c k a with e|e
 ·exact .inl e
 exact .inr (nT (bS g) e)
theorem Chg.step {b:MaV} (a:zm (Dw p V) w w1) (d:∀k,Dw p b k->Dw p V k\/w.heap.size<=k) (f:Chg w0 p w1 b m' w2):Chg w0 p w V m' w2:=by
 obtain⟨c,e,b,h⟩:=f;refine⟨c,e,⟨b.os.trans a.os,b.tape.trans a.tape,b.output.trans a.output,nT a.size b.size,fun c f g=>(b.block c (Xt f a.size) (fun e=>?_)).trans (a.block c f g)⟩,fun k b=>?_⟩
 ·rcases d c e with e|e
  ·exact g e
  omega
 rcases h k b with e|e
 ·exact d k e
 exact .inr (nT a.size e)
theorem Chg.far {a:MaV} (g:zb w w1) (d:∀k,Dw p a k->Dw p V k\/w1.heap.size<=k):∀k,Dw p a k->Dw p V k\/w.heap.size<=k:=fun k a=>(d k a).elim .inl fun e=> .inr (nT (bS g) e)
theorem zn.chg {cs:List Xq} (h:zn w b t cs) (k:zm (Dw p V) w w1) (a:¬Dw p V b):zn w1 b t cs:=h.outD k a
theorem ChW.field (h:ChW w0 p w V m) (k:zb w w1) (c:w1.grownBy w2 (Xa p)) (f:V'.f=V.f) (n:V'.ca=V.ca) (q:V'.sp=V.sp) (g:m'.fs=m.fs) (u:m'.ca=m.ca) (r:m'.sp=m.sp) (a:zn w2 p 88 (chL V' m')) (rs:∀W,zm (Dr w0.heap.size p V) w W->zm (Dr w0.heap.size p V) w1 W->ziW W V m->ziW W V' m'):Chg w0 p w V m' w2:=by
 have j:zm (Dw p V) w w2:=(zm.grew k).trans (zm.grown c (.inl rfl));have e:Dw p V'=Dw p V:=by unfold Dw;rw[f,n,q]
 have d:Dr w0.heap.size p V'=Dr w0.heap.size p V:=by unfold Dr;rw[e]
 obtain⟨i,x,b,y⟩:=h.sp;refine⟨V',⟨h.grOut j,h.lo,a,?_,?_,⟨i,?_,by rw[r];exact b,fun t z v s i W b=>?_⟩,fun W b=>?_⟩,j,fun l a=> .inl (by rw[e]at a;exact a)⟩
 ·rw[f,g];exact(h.fs.grew k).grown c (fun g f e=>h.nf g f (by cases e;rfl))
 ·rw[n,u];exact(h.ca.grew k).grown c (fun g f e=>h.nc g f (by cases e;rfl))
 ·rw[q];exact(x.grew k).grown c (fun g f e=>h.ns g f (by cases e;rfl))
 ·rw[d]at b;rw[r]at i;exact y t z v s i W ((j.wide fun l a=> .inr a).trans b)
 rw[d]at b;exact rs W ((j.wide fun l a=> .inr a).trans b) (((zm.grown c (.inr (.inl rfl)))).trans b) (h.rest W ((j.wide fun l a=> .inr a).trans b))
theorem ChW.setS (h:ChW w0 p w V m) {b:Sli} {a:List Int} (d:zb w w1) (f:qj slE w.heap.size w1 (b.x) a) (e:w1.grownBy w2 (Xa p)) (c:zn w2 p 88 (chL { V with s:=b } { m with sl:=a })):Chg w0 p w V { m with sl:=a } w2:=
 h.field (V':={ V with s:=b }) (m':={ m with sl:=a }) d e rfl rfl rfl rfl rfl rfl c (fun W _ a r=>⟨f.staysD h.drt W a,r.sb,r.sq,r.db,r.dq,r.fl⟩)
theorem ChW.setF (h:ChW w0 p w V m) {b:Sli} {fs:List Fr} {a:Int} (j:zb w w1) (l:zc Qy w.heap.size w1 (b.x) fs) (d:w1.grownBy w2 (Xa p)) (c:zn w2 p 88 (chL { V with f:=b } { m with fs:=fs,hand:=a })):Chg w0 p w V { m with fs:=fs,hand:=a } w2:=by
 have i:zm (Dw p V) w w2:=(zm.grew j).trans (zm.grown d (.inl rfl));have e:=h.dlt p (.inl rfl);have a:∀k,Dw p { V with f:=b } k->Dw p V k\/w.heap.size<=k:=by
  rintro k (e|e|e|e)
  ·exact .inl (.inl e)
  ·exact .inr (l.lt k e).1
  ·exact .inl (.inr (.inr (.inl e)))
  exact .inl (.inr (.inr (.inr e)))
 obtain⟨r,k,n,q⟩:=h.sp;refine⟨{ V with f:=b },⟨h.grOut i,h.lo,c,(l.base (bS h.gr)).grown d (fun g c e=>?_),(h.ca.grew j).grown d (fun g c e=>h.nc g c (by cases e;rfl)),⟨r,(k.grew j).grown d (fun g c e=>h.ns g c (by cases e;rfl)),n,fun k x s j g W d=>q k x s j g W (ChW.key i a d)⟩,fun W d=>?_⟩,i,a⟩
 ·cases e;have:=(l.lt _ c).1;omega
 have r:=h.rest W (ChW.key i a d);exact⟨r.sl,r.sb,r.sq,r.db,r.dq,r.fl⟩
theorem ChW.frame (h:ChW w0 p w V m) {fs:List Fr} (c:oB V.f g) (b:w.grownBy w1 (Xa g)) (i:zc Qy w0.heap.size w1 (V.f.x) fs):Chg w0 p w V { m with fs:=fs } w1:=by
 have d:zm (Dw p V) w w1:=zm.grown b (.inr (.inl c));have f:∀k,Dw p V k->Dw p V k\/w.heap.size<=k:=fun _ a=> .inl a
 obtain⟨q,j,l,n⟩:=h.sp;refine⟨V,⟨h.grOut d,h.lo,h.box.beside b (fun k e=>by cases e;exact h.nf g c),i,h.ca.grown b (fun k a e=>by cases e;exact h.fc _ c a),⟨q,j.grown b (fun k a e=>by cases e;exact h.fS _ c a),l,fun i x s c b W a=>n i x s c b W (ChW.key d f a)⟩,fun W a=>?_⟩,d,f⟩
 have r:=h.rest W (ChW.key d f a);exact⟨r.sl,r.sb,r.sq,r.db,r.dq,r.fl⟩
theorem ChW.cache (h:ChW w0 p w V m) {b:Sli} {l:List Ca} (i:zm (oB V.ca) w w1) (hb:∀g,oB b g->oB V.ca g\/w.heap.size<=g) (q:zc Jw w0.heap.size w1 (b.x) l) (c:w1.grownBy w2 (Xa p)) (j:zn w2 p 88 (chL { V with ca:=b } { m with ca:=l })):Chg w0 p w V { m with ca:=l } w2:=by
 have a:zm (Dw p V) w w2:=(i.wide fun k d=> .inr (.inr (.inl d))).trans (zm.grown c (.inl rfl))
 have d:∀k,Dw p { V with ca:=b } k->Dw p V k\/w.heap.size<=k:=by
  rintro k (e|e|e|e)
  ·exact .inl (.inl e)
  ·exact .inl (.inr (.inl e))
  ·rcases hb k e with e|e
   ·exact .inl (.inr (.inr (.inl e)))
   exact .inr e
  exact .inl (.inr (.inr (.inr e)))
 have f:=h.dlt p (.inl rfl);have own:∀{f:Type} {E:Elt f} {s:Sli} {l:List f},zc E w0.heap.size w (s.x) l->(∀g,oB s g->¬oB V.ca g)->(∀g,oB s g->p≠g)->zc E w0.heap.size w2 (s.x) l:=fun f k n=>by
  refine zc.grown ⟨jh f.1 i k,f.2⟩ c (fun g f e=>n g f (by cases e;rfl))
 obtain⟨r,i,k,n⟩:=h.sp;refine⟨{ V with ca:=b },⟨h.grOut a,h.lo,j,own h.fs h.fc h.nf,q.grown c (fun g f e=>?_),⟨r,own i (fun g c b=>h.cS g b c) h.ns,k,fun k x s j i W c=>n k x s j i W (ChW.key a d c)⟩,fun W c=>?_⟩,a,d⟩
 ·cases e
  rcases hb _ f with e|e
  ·exact h.nc _ e rfl
  omega
 have r:=h.rest W (ChW.key a d c);exact⟨r.sl,r.sb,r.sq,r.db,r.dq,r.fl⟩
theorem ChW.setT (h:ChW w0 p w V m) {xs:List SpV} {q:Nat} {x y:SpV} {s:Sp} {t:List (List En)} (s2:xs.length=m.sp.length) (s3:∀(i:Nat) x s,xs[i]? =Xa x->m.sp[i]? =Xa s->∀W,zm (Dr w0.heap.size p V) w W->jT W x s) (n:xs[q]? =Xa x) (l:m.sp[q]? =Xa s) (b:oB V.sp g)
  (f:zb w w1) (z:zaB 0 w.heap.size w1 us t) (a:w1.grownBy w2 (Xa g)) (v:zc ZA w0.heap.size w2 (V.sp.x) (xs.set q y)) (r:y.live=x.live/\y.ar=x.ar/\y.tab=us):Chg w0 p w V { m with sp:=m.sp.set q { s with tb:=t } } w2:=by
 have u:zm (Dr w0.heap.size p V) w1 w2:=zm.grown a (.inr (.inr (.inr (.inr b))));have d:zm (Dw p V) w w2:=(zm.grew f).trans (zm.grown a (.inr (.inr (.inr b))));have j:∀k,Dw p V k->Dw p V k\/w.heap.size<=k:=fun _ c=> .inl c
 refine⟨V,⟨h.grOut d,h.lo,(h.box.grew f).beside a (fun k e=>by cases e;exact h.ns g b),(h.fs.grew f).grown a (fun k c e=>by cases e;exact h.fS _ c b),(h.ca.grew f).grown a (fun k c e=>by cases e;exact h.cS _ c b),⟨xs.set q y,v,by simp[s2],fun i v f b a W c=>?_⟩,fun W c=>?_⟩,d,j⟩
 ·by_cases e:i=q
  ·subst e;rw[sF (gS.1 n).1]at b;have a:(m.sp.set i { s with tb:=t })[i]? =Xa f:=a;rw[sF (gS.1 l).1]at a;cases b;cases a;have k:=s3 i x s n l W (ChW.key d j c);obtain⟨n,l,A⟩:=r;refine⟨n.trans k.live,by rw[l];exact k.ar,by rw[l];exact k.cap,?_⟩
   rw[A];exact z.outD h.drt (u.trans c)
  rw[sN (fun h=>e h.symm)]at b
  have a:(m.sp.set q { s with tb:=t })[i]? =Xa f:=a;rw[sN (fun h=>e h.symm)]at a
  exact s3 i v f b a W (ChW.key d j c)
 have r:=h.rest W (ChW.key d j c);exact⟨r.sl,r.sb,r.sq,r.db,r.dq,r.fl⟩
end
theorem zdV.changeW {base p:Nat} {w:Xn} (h:zdV base w V m) (a:B<=base) (hp:w.heap.size<=p) (k:zm (Dr B p V) w W):ziW W V m/\∀(g:List SpV) (c:Nat->Nat),base<=c 0->(∀i,c i<=c (i+1))->(∀(i:Nat) x s,g[i]? =Xa x->m.sp[i]? =Xa s->Jf (c i) (c (i+1)) w x s)->∀(i:Nat) x s,g[i]? =Xa x->m.sp[i]? =Xa s->jT W x s:=by
 obtain⟨a,_,r,_⟩:=h.sp;have b:∀{e a n:Nat} {d:TypeId} {v:Xq} {g:List Xq},w.ownsRow e d a v n g->base<=e->ZA.ty≠d/\Qy.ty≠d/\Jw.ty≠d->W.ownsRow e d a v n g:=fun n d l=>zcb n k fun a j a=>by
  obtain⟨f,f,f,f⟩:=zaH n j
  rcases a with a|a|a|a|a
  ·omega
  ·omega
  ·obtain⟨q,j⟩:=h.fs.obj a;rw[j]at f;cases f;exact l.2.1 rfl
  ·obtain⟨q,j⟩:=h.ca.obj a;rw[j]at f;cases f;exact l.2.2 rfl
  obtain⟨q,j⟩:=r.obj a;rw[j]at f;cases f;exact l.1 rfl
 have a:∀{j:Type} {E:Elt j} {e:Nat} {v:Xq} {f:List j},zc E e w v f->base<=e->ZA.ty≠E.ty/\Qy.ty≠E.ty/\Jw.ty≠E.ty->zc E e W v f:=fun n d l=>⟨b n.1 d l,n.2⟩
 obtain⟨n,⟨t,e,j,l,r⟩,q,f⟩:=h.fl;have f:z2 n W (V.fl.x) m.fl:=⟨t,a e q (by decide),j,fun i x j e n=>⟨(l i x j e n).1,a (l i x j e n).2 q (by decide)⟩,r⟩
 have d:=nR base;refine⟨⟨(a h.sl d (by decide)).at,zB.at ⟨b h.sb.1 d (by decide),h.sb.2⟩,zy.at ⟨b h.sq.1 d (by decide),h.sq.2⟩,zB.at ⟨b h.db.1 d (by decide),h.db.2⟩,zy.at ⟨b h.dq.1 d (by decide),h.dq.2⟩,f.new.now0⟩,fun g c f g d i x s e h=>?_⟩
 have b:=d i x s e h;have d:=nT f (zdg g (nZ i));have f:Jf (c i) (c (i+1)) W x s:=⟨b.live,a b.ar d (by decide),⟨b.tb.len,b.tb.tlen,fun j v y c e=>a (b.tb.row j v y c e) d (by decide),b.tb.two⟩,b.arh,b.tbh⟩
 exact f.at
theorem zjG (V m w) (c:zE w V m):
  Xp prog 24 #[Xi (mL V m).toArray] w fun e w'=>∃(p:Nat) (V':MaV),e= Xl (Xj (Xa ⟨p,0,Xb⟩))/\ChW w p w' V' m:=by
 obtain⟨d,a⟩:=kB (w.alloc (Xk (mL V m).toArray 45));have f:=gA a
 have g:=xA a
 have b:=dD a;clear a;have a:=zfb V m d (c.grew f);clear c
 go_enter func24,ntmps24
 go_upto_region 1 with fail;rw[b.out];obtain⟨c,d,h,i,j,k,l,n,q,r,b⟩:=g.c11;go_wp2_with fail;refine a.mono ?_;clear a c d h i j k l n q r b;rintro e d ⟨V',rfl,h,a⟩;have g:=dD (f.trans a);have c:=dD h;have b:=dD<|bS f.out
 clear h a;have h:Xo (ChW w d.heap.size (d.alloc (Xk (chL V' m).toArray 88)) V' m):=dD<|by
  have a:zb d (d.alloc (Xk (chL V' m).toArray 88)):=za _ _;obtain⟨f,B,d,i,k,l,n⟩:=c.sp;refine⟨g.trans a,bS g,zn.top _ _ _ rfl,(c.fs.grew a).base b,(c.ca.grew a).base b,⟨f,(d.grew a).base b,i,fun j x s i g W d=>(c.changeW b (nR _) ((zm.grew a).trans d)).2 f B k l n j x s i g⟩,fun W d=>(c.changeW b (nR _) ((zm.grew a).trans d)).1⟩
 go_wp2;go_ret;exact⟨_,V',rfl,h⟩
section
variable{α:Type} {E:Elt α}
theorem zcv {w:Xn} {base:Nat} {v:Xq} {d:List α} (t) (n:zc E base w v d) (a) (l:List α) (i:zl E w a l) (hb:(d.length+l.length)*E.bytes<=140737488355328) (b:base<=w.heap.size):
  ∃f w',(Builtin.append_ #[E.st,E.st] t #[v,a]).run prog w= .ok f w'/\zc E base w' f (d++l)/\w.grownBy w' v.ownBlock/\∀g,f.ownBlock=Xa g->v.ownBlock=Xa g\/w.heap.size<=g:=by
 obtain⟨y,x,r,k,s⟩:=info_parts E.info;obtain⟨⟨e,u,rfl,c,a⟩,h⟩:=i;have j:(d.length+l.length)*1<=(d.length+l.length)*E.bytes:=Nat.mul_le_mul_left _ (nT E.pos E.few)
 cases e with
 | none=>
  have e:=c rfl;subst e;exact⟨v,w,JH t n u,by simpa using n,World.grownBy.rfl' _ _,fun g i=> .inl i⟩
 | some m=>
  rcases n.1.2 with⟨rfl,e⟩|⟨g,h,c,rfl,c,c,c,c,c,c⟩
  ·have c:=eN e;subst c;obtain⟨f,w',q,p,e,_⟩:=run_append_own (P:=prog) w w.heap.size E.st t E.ty y _ E.k E.bytes E.und x r k s (zpJ E) E.pos _ 0 [] (World.ownsRow_nil _ _ _ _) m l.length u (l.flatMap E.enc) (jH E l) (a m rfl) (qJ E.one l) (jj (by simp at j hb⊢;omega)) (by simpa using hb) (nR _)
   have c:zc E w.heap.size w' f ([]++l):=⟨by simpa using p,by simpa using hb⟩
   exact⟨f,w',q,c.base b,e,fun g i=> .inr (c.lt g i).1⟩
  by_cases j:d.length+l.length<=h
  ·obtain⟨w',q,p,e⟩:=run_append_fits (P:=prog) w base E.st t E.ty y E.k E.und x k g d.length h _ n.1 m l.length u (l.flatMap E.enc) (jH E l) (a m rfl) (qJ E.one l) j;exact⟨_,w',q,⟨by rw[lA,Xs];exact p,by rw[lA];exact hb⟩,e,fun j i=> .inl i⟩
  obtain⟨f,w',q,p,e⟩:=run_append_arg_grows (P:=prog) w E.st t E.ty y _ E.k E.bytes E.und x r k s (zpJ E) E.pos ⟨g,0,Xb⟩ d.length h (d.flatMap E.enc) (jH E d) (n.1.cells rfl) m l.length u (l.flatMap E.enc) (jH E l) (a m rfl) (by omega) (jj (by omega)) hb
  have c:zc E w.heap.size w' f (d++l):=⟨by rw[lA,Xs];exact p,by rw[lA];exact hb⟩
  exact⟨f,w',q,c.base b,⟨e.os,e.tape,e.output,e.size,fun k a _=>e.block k a (by simp)⟩,fun j i=> .inr (c.lt j i).1⟩
theorem ZX {w:Xn} {rest:List Oper} {a:Act} (d:o.guard=Xb) (s x) (n:o.op= .call { callee:= .builtin .append,args:=#[s,x],argTypes:=#[E.st,E.st] })
  (base:Nat) (vs:Xq) (f:List α) (p:a.eval s=vs) (c:zc E base w vs f) (h:Xq) (l:List α) (r:a.eval x=h) (q:zl E w h l) (hb:(f.length+l.length)*E.bytes<=140737488355328) (b:base<=w.heap.size)
  (i:∀e w',zc E base w' e (f++l)->w.grownBy w' vs.ownBlock->(∀g,e.ownBlock=Xa g->vs.ownBlock=Xa g\/w.heap.size<=g)->wpList prog ops Q rest (a.put o.dst e) w'):wpList prog ops Q (o :: rest) a w:=by
 refine wpList_plain d fun K m=>?_
 obtain⟨e,w',d,f,j,k⟩:=zcv o.type c h l q hb b;unfold Oper.wp execOp;simp only[n,resolve,invoke,builtin,Sem.run_bind,Sem.run_pure,rA,List.map_toArray,mP,List.map_nil,p,r,d];exact m _ _ (i e w' f j k)
end
theorem zhC (x:SpV) (w):
  Xp prog 181 #[Xi #[Xh x.live,x.ar.x,x.t0.x,x.t1.x,x.t2.x,x.t3.x,x.t4.x,x.t5.x,x.t6.x,x.t7.x]] w fun e w'=>e= Xl (Xh (!x.live))/\zb w w':=by
 obtain⟨a,a⟩:=kB (w.alloc (Xk #[Xh x.live,x.ar.x,x.t0.x,x.t1.x,x.t2.x,x.t3.x,x.t4.x,x.t5.x,x.t6.x,x.t7.x] 76));have b:=gA a
 have d:=xA a
 have c:=dD a;clear a
 go_enter func181,ntmps181
 go_upto_region 1 with fail;rw[c.out];have a:=d.c 0 rfl;go_wp2;go_ret;exact⟨rfl,b⟩
def zrz (l:List SpV) (z:Int):Prop:=(∃(k:Nat) (x:SpV),z=k/\l[k]? =Xa x/\x.live=Xd/\∀(j:Nat) (q:SpV),j<k->l[j]? =Xa q->q.live=Xc)\/(z=-1/\∀(j:Nat) (q:SpV),l[j]? =Xa q->q.live=Xc)
theorem zd7 (v) (l:List SpV) (w) (D:zl ZA w v l):
  Xp prog 180 #[v,.func (.func 181) #[] #[]] w fun e w'=>(∃z:Int,e= Xl (I6 z)/\zrz l z)/\zb w w':=by
 have h:=D.short;obtain⟨M,P,rfl,k⟩:=D.sps;have E:=dD k;have Z:=enters_of func181 (by kernel_rfl) rfl
 obtain⟨n,t⟩:=kA l.length;rw[t.out]at h⊢;obtain⟨f,d⟩:∃f:Int->Prop,Xo (∀z,zrz l z=f z):=⟨zrz l,fun _=>rfl⟩
 simp only[d.out]
 go_enter func180,ntmps180
 go_wp2
 go_loopg [5,8] n (fun G _ L wr=>∃b:Nat,b<=n/\n - b<=G/\L=I6 b/\Xo (zb w wr)/\Xo (∀(j:Nat) (q:SpV),j<b->l[j]? =Xa q->q.live=Xc))
 case atStart=>exact⟨0,nZ _,by omega,rfl,zb.refl w,fun j q C=>absurd C (nL _)⟩
 obtain⟨b,H,I,rfl,m,A⟩:=hrel
 by_cases g:b<n
 ·have i:=kC g
  obtain⟨x,u⟩:∃q,Xo (l[b]? =Xa q):=⟨_,gE (by rw[t.out];exact g)⟩
  obtain⟨N,rfl,K⟩:=E.out b x u.out;obtain⟨B,Q,R,S,T,U,V,W,X,Y⟩:=qW.sp10 (K wr m);have a:=zhC x wr
  cases p:x.live with
  | false=>
   have s:Xo (f (b:Int)):=dD<|by
    rw[<-d.out];exact .inl ⟨b,x,rfl,u,p,A⟩
   rw[p]at a B;go_wp2_with fail;refine a.mono ?_;rintro e F ⟨rfl,y⟩;have r:=dD (m.trans y);go_wp2;go_ret;exact⟨⟨_,rfl,s⟩,r⟩
  | true=>
   have A2:Xo (∀(j:Nat) (q:SpV),j<b+1->l[j]? =Xa q->q.live=Xc):=dD<|fun j q C c=>by
    by_cases e:j=b
    ·subst e;rw[u.out]at c;cases c;exact p
    exact A j q (by omega) c
   rw[p]at a B;go_wp2_with fail;refine a.mono ?_;rintro e F ⟨rfl,y⟩;have r:=dD (m.trans y);go_wp2
   go_roundg (n -(b+1))
   case measure=>omega
   exact⟨b+1,by omega,by omega,by go_num,r,A2⟩
 have i:=kD g
 have s:Xo (f (-1)):=dD<|by
  rw[<-d.out];refine .inr ⟨rfl,fun j q c=>A.out j q ?_ c⟩
  have:=(gS.1 c).1;have:=t.out;omega
 go_wp2;go_ret;exact⟨⟨_,rfl,s⟩,m⟩
def Vac (l:List Sp) (k:Nat):Prop:=k<=l.length/\(∀s,l[k]? =Xa s->s.live=Xd)/\∀(j:Nat) (s:Sp),j<k->l[j]? =Xa s->s.live=Xc
theorem zj7 (v a w) (b:Qs w v a):
  Xp prog 143 #[v] w fun e w'=>(∃k:Nat,e= Xl (I6 (k:Int))/\Vac a k)/\zb w w':=by
 obtain⟨f,n,l,q⟩:=b;have b:=zd7 v f w n;have p:Xo (∀z,zrz f z->(∃k:Nat,z=(k:Int)/\Vac a k)\/(z=-1/\Vac a f.length)):=dD<|fun z i=>by
  have c:∀(j:Nat) s,a[j]? =Xa s->∃x,f[j]? =Xa x/\x.live=s.live:=fun j s a=>by
   have h:j<f.length:=by rw[l];exact(gS.1 a).1
   exact⟨_,gE h,(q j _ s (gE h) a).live⟩
  rcases i with⟨k,x,rfl,m,r,t⟩|⟨rfl,m⟩
  ·refine .inl ⟨k,rfl,?_,fun s a=>?_,fun j s h a=>?_⟩
   ·rw[<-l];exact Nat.le_of_lt (gS.1 m).1
   ·obtain⟨y,d,g⟩:=c k s a;rw[m]at d;cases d;rw[<-g,r]
   obtain⟨y,d,g⟩:=c j s a;rw[<-g];exact t j y h d
  refine .inr ⟨rfl,by rw[l];exact nR _,fun s a=>?_,fun j s h a=>?_⟩
  ·rw[l,gN (nR _)]at a;cases a
  obtain⟨y,d,g⟩:=c j s a;rw[<-g];exact m j y d
 obtain⟨a,c,rfl,_⟩:=n.rows;clear n l q;obtain⟨n,a⟩:=kA f.length;rw[a.out]at b p⊢
 go_enter func143,ntmps143
 go_wp2_with fail;refine b.mono ?_;clear b;rintro e a ⟨⟨z,rfl,i⟩,a⟩;have c:=dD a;clear a
 rcases p z i with⟨k,rfl,a⟩|⟨rfl,a⟩
 ·have b:=dD a;have d:¬(k:Int)<0:=by omega
  clear a i;go_wp2;go_ret;exact⟨⟨k,rfl,b⟩,c⟩
 have b:=dD a;clear a i;go_wp2;go_ret;exact⟨⟨n,rfl,b⟩,c⟩
def zen {α:Type} (l:List α) (k:Nat) (y:α):List α:=if k=l.length then l++ [y]else l.set k y
theorem zh1 {α:Type} {l:List α} {k:Nat} (a:k<=l.length) (y:α) (i:Nat):(zen l k y)[i]? =if i=k then Xa y else l[i]?:=by
 unfold zen
 by_cases h:k=l.length
 ·rw[kE h];subst h
  by_cases e:i=l.length
  ·subst e;simp
  rw[kF e]
  rcases Nat.lt_or_gt_of_ne e with a|a
  ·rw[Xx a]
  rw[gN (by simp;omega),gN (by omega)]
 rw[kF h,List.getElem?_set]
 by_cases e:k=i
 ·subst e;rw[kE rfl,kE rfl,kE (by omega)]
 rw[kF e,kF (fun h=>e h.symm)]
theorem ze3 {α:Type} {l:List α} {k:Nat} (a:k<=l.length) (y:α):(zen l k y).length=max l.length (k+1):=by
 unfold zen
 by_cases h:k=l.length
 ·rw[kE h];simp;omega
 rw[kF h];simp;omega
theorem zhZ (base:Nat) (v:Xq) (xs:List SpV) (k:Nat) (y:SpV) (w:Xn) (a:zc ZA base w v xs) (hb:base<=w.heap.size) (c:k<=xs.length) (b:xs.length<=4):
  Xp prog 144 #[v,I6 (k:Int),Xi #[Xh y.live,y.ar.x,y.t0.x,y.t1.x,y.t2.x,y.t3.x,y.t4.x,y.t5.x,y.t6.x,y.t7.x]] w fun e w'=>∃i,e= Xl i/\zc ZA base w' i (zen xs k y)/\w.grownBy w' v.ownBlock/\∀g,i.ownBlock=Xa g->v.ownBlock=Xa g\/w.heap.size<=g:=by
 have s:=dD a;have m:=dD hb;obtain⟨q,j,rfl⟩:=a.form;obtain⟨n,f⟩:=kA xs.length;rw[f.out]at s c b⊢;clear a hb;obtain⟨l,a⟩:=kB (w.alloc (Xk #[Xh y.live,y.ar.x,y.t0.x,y.t1.x,y.t2.x,y.t3.x,y.t4.x,y.t5.x,y.t6.x,y.t7.x] 76));have d:=gA a
 have c:=xA a
 have b:=dD a;clear a
 go_enter func144,ntmps144
 go_upto_region 1 with fail;rw[b.out];obtain⟨b,a⟩:=kA w.heap.size;rw[a.out]at c⊢;obtain⟨A,B,C,D,F,G,H,K,L,M⟩:=c.c10
 by_cases p:k=n
 ·have u:((k:Int) ==(n:Int))=Xc:=by rw[p];simp
  have h:Xo (zen xs k y=xs++ [y]):=dD<|by unfold zen;rw[kE (by rw[f.out];exact p)]
  clear p;obtain⟨b,a⟩:=kB (l.alloc (Xk #[Xh y.live,y.ar.x,y.t0.x,y.t1.x,y.t2.x,y.t3.x,y.t4.x,y.t5.x,y.t6.x,y.t7.x] 76));have c:=gT a d
  have r:Xo (zl ZA b (O (Xa ⟨l.heap.size,0,Xb⟩) 1 1) [y]):=dD<|by rw[<-a];exact zc3 ZA l [y] _ rfl (show 1*224<=140737488355328 by decide)
  have b:=dD a;clear a
  go_wp2_with (at_builtin;rw[b.out];refine ZX (E:=ZA) rfl (.tmp 11) (.tmp 13) rfl base _ xs rfl (s.grew c) _ [y] rfl r.out ?hb (nT m (bS c)) ?_)
  case hb=>
   show(xs.length+1)*224<=_
   rw[f.out];omega
  intro i l b a m;have t:Xo (zc ZA base l i (zen xs k y)/\w.grownBy l (O q n j).ownBlock/\∀g,i.ownBlock=Xa g->(O q n j).ownBlock=Xa g\/w.heap.size<=g):=dD<|⟨by rw[h.out];exact b,⟨a.os.trans (Below.os c),a.tape.trans (Below.tape c),a.output.trans (Below.output c),nT (bS c) a.size,fun r q i=>(a.block r (Xt q (bS c)) i).trans (Below.block c r q)⟩,fun g x=>(m g x).imp id (fun z=>nT (bS c) z)⟩
  clear b a m;go_wp2;go_ret;exact⟨_,rfl,t⟩
 have u:((k:Int) ==(n:Int))=Xd:=by
  have:(k:Int)≠(n:Int):=by omega
  simpa using this
 have h:Xo (zen xs k y=xs.set k y):=dD<|by unfold zen;rw[kF (by rw[f.out];exact p)]
 have m:k<n:=by omega
 have c:(k:Int)< (n:Int):=by omega
 clear p;obtain⟨g,c,c⟩:=s.formS (by rw[f.out];omega)
 rw[f.out]at c;cases c
 go_wp2_with (refine qn (E:=ZA) rfl (.tmp 18) (.tmp 17) rfl base _ xs (s.grew d) g k rfl y (by rw[f.out];exact m) _ rfl (by simp[ZA]) _ rfl rfl ?_)
 intro l b a f;have t:Xo (zc ZA base l (O (Xa ⟨g,0,Xb⟩) n j) (zen xs k y)/\w.grownBy l (O (Xa ⟨g,0,Xb⟩) n j).ownBlock/\∀c,(O (Xa ⟨g,0,Xb⟩) n j).ownBlock=Xa c->(O (Xa ⟨g,0,Xb⟩) n j).ownBlock=Xa c\/w.heap.size<=c):=dD<|⟨by rw[h.out];exact b,⟨a.os.trans (Below.os d),a.tape.trans (Below.tape d),a.output.trans (Below.output d),nT (bS d) a.size,fun r q i=>(a.block r (Xt q (bS d)) i).trans (Below.block d r q)⟩,fun c x=> .inl x⟩
 clear b a f A B C D F G H K L M;go_wp2;go_ret;exact⟨_,rfl,t⟩
theorem zdZ (V:MaV) (m:Ma) (a:Ar) (n:Nat) (e:En) (w:Xn) (hm:zE w V m) (ha:jN a) (hn:n<=64) (he:0<=e.n) (h0:zei m a n e=0):
  Xp prog 68 #[Xi (mL V m).toArray,Xi #[I6 a.fr,I6 a.tz,Xh a.rd,Xh a.wr,Xh a.sh,I6 a.file,I6 a.base],I6 (n:Int),Xi #[I6 e.kind,I6 e.n,Xh e.wr]] w fun e' w'=>e'= Xl (I6 0)/\zb w w':=by
 obtain⟨n1,n2,-⟩:=hm.ns;have hab:(0<=a.base/\a.base<=100)/\(0<=a.fr/\a.fr<=100):=by
  obtain⟨g1,g2,g3,g4,g5,g6,g7,g8⟩:=ha
  by_cases hf:a.file<0
  ·have:=g7 hf;omega
  have:=g8 (by omega);omega
 have HMH:Xo (∀(q:Fr) W,Xp prog 125 #[Xi (frv q).toArray,Xi #[I6 a.fr,I6 a.tz,Xh a.rd,Xh a.wr,Xh a.sh,I6 a.file,I6 a.base],I6 (n:Int)] W fun e w'=>e= Xl (Xh (Q7 q a n))/\zb W w'):=dD<|fun q W=>zie q a n W hab.1 hab.2 hn
 have HMW:Xo (∀(q:Fr) W,Xp prog 126 #[Xi (frv q).toArray,Xi #[I6 a.fr,I6 a.tz,Xh a.rd,Xh a.wr,Xh a.sh,I6 a.file,I6 a.base]] W fun e w'=>e= Xl (Xh (Z7 q a))/\zb W w'):=dD<|fun q W=>zgx q a W
 have HS:Xo (m.sl.length=V.s.n):=n2.symm;have HF:Xo (m.fs.length=V.f.n):=n1.symm;have HR:Xo (zjV w V.f.a m.fs):=hm.frs;have HZ:Xo (zei m a n e=if e.kind=2 then(if(V.s.n:Int)<=e.n\/a.sh=Xc then 7 else 0)else if(V.f.n:Int)<=e.n then 3 else if Q7 (zQ m e.n) a n=Xd\/(e.wr=Xc/\Z7 (zQ m e.n) a=Xd)then 7 else 0):=show _=_ by
  unfold zei;rw[n1,n2]
 rw[HZ.out]at h0;clear hm ha hab n1 n2 hn;have hG3:zb w (((w.alloc (Xk (mL V m).toArray 45)).alloc (Xk #[I6 a.fr,I6 a.tz,Xh a.rd,Xh a.wr,Xh a.sh,I6 a.file,I6 a.base] 125)).alloc (Xk #[I6 e.kind,I6 e.n,Xh e.wr] 127)):=((za _ _).trans (za _ _)).trans (za _ _);have HG3:Xo (zb w (((w.alloc (Xk (mL V m).toArray 45)).alloc (Xk #[I6 a.fr,I6 a.tz,Xh a.rd,Xh a.wr,Xh a.sh,I6 a.file,I6 a.base] 125)).alloc (Xk #[I6 e.kind,I6 e.n,Xh e.wr] 127))):=hG3;clear hG3
 by_cases hk:e.kind=2
 ·have hke:(e.kind == 2)=Xc:=by simp[hk]
  rw[kE hk]at h0;clear hk;have h1:¬(V.s.n:Int)<=e.n:=fun h=>by rw[kE (.inl h)]at h0;exact absurd h0 (by decide)
  have hs:a.sh=Xd:=by
   cases e1:a.sh
   ·rfl
   rw[kE (.inr e1)]at h0;exact absurd h0 (by decide)
  rw[hs]at HG3 HMH HMW;rw[hs];clear h0
  go_enter func68,ntmps68
  go_wp2;go_ret;exact⟨rfl,HG3⟩
 have hke:(e.kind == 2)=Xd:=by simp[hk]
 rw[kF hk]at h0;clear hk;have h1:¬(V.f.n:Int)<=e.n:=fun h=>by rw[kE h]at h0;exact absurd h0 (by decide)
 rw[kF h1]at h0;obtain⟨ek,en,ew⟩:=e;simp only at he hke h1 h0 HZ HG3⊢;obtain⟨k,rfl⟩:∃k:Nat,en=(k:Int):=⟨en.toNat,by omega⟩
 have hkn:k<V.f.n:=by omega
 obtain⟨q,HQ⟩:∃q,Xo (m.fs[k]? =Xa q):=⟨_,gE (by rw[HF.out];exact hkn)⟩
 have hfr:zQ m (k:Int)=q:=by unfold zQ;rw[tN,gD,HQ.out];rfl
 rw[hfr]at h0;clear hfr;obtain⟨ad,hva,hl⟩:=HR.out k q HQ.out;(try simp only[mL,Sli.x]at HG3 HR⊢);rw[hva]at HG3 HR⊢;clear hva;obtain⟨W3,hW3⟩:=kB (((w.alloc (Xk #[O (Xa ad) V.f.n V.f.c,I6 m.hand,V.s.x,V.sb.x,V.sq.x,V.db.x,V.dq.x,V.fl.x,I6 m.cnt,V.ca.x,V.sp.x] 45)).alloc (Xk #[I6 a.fr,I6 a.tz,Xh a.rd,Xh a.wr,Xh a.sh,I6 a.file,I6 a.base] 125)).alloc (Xk #[I6 ek,I6 (k:Int),Xh ew] 127));rw[hW3]at HG3;have Y3:Xo (Box W3 (w.heap.size+1) [I6 a.fr,I6 a.tz,Xh a.rd,Xh a.wr,Xh a.sh,I6 a.file,I6 a.base]):=dD<|by rw[<-hW3];exact(Box.top _ _ _ (by simp)).alloc _
 have Z3:Xo (Box W3 (w.heap.size+1+1) [I6 ek,I6 (k:Int),Xh ew]):=dD<|by rw[<-hW3];exact Box.top _ _ _ (by simp)
 have X3:Xo (Box W3 w.heap.size [O (Xa ad) V.f.n V.f.c,I6 m.hand,V.s.x,V.sb.x,V.sq.x,V.db.x,V.dq.x,V.fl.x,I6 m.cnt,V.ca.x,V.sp.x]):=dD<|by rw[<-hW3];exact((Box.top _ _ _ rfl).alloc _).alloc _
 have x0:=X3.c 0 rfl;have z1:=Z3.c 1 rfl;have HS3:Xo (W3.heap.size=w.heap.size+1+1+1):=dD<|by rw[<-hW3];simp
 obtain⟨d0,d1,d2,d3,d4,d5,d6,d7,d8,d9,d10,d11,d12⟩:=hl W3 HG3.out;have HW3:Xo (_=W3):=hW3;clear hW3 hl;have hmh:Q7 q a n=Xc:=by
  cases e1:Q7 q a n
  ·rw[kE (.inl e1)]at h0;exact absurd h0 (by decide)
  rfl
 have HMWT:Xo (ew=Xc->Z7 q a=Xc):=dD<|fun e2=>by
  cases e1:Z7 q a
  ·rw[kE (.inr ⟨e2,e1⟩)]at h0;exact absurd h0 (by decide)
  rfl
 clear h0;have hmh':=HMH.out q;rw[hmh]at hmh';have HC:Xo (∀W,Xp prog 125 #[Xi (frv q).toArray,Xi #[I6 a.fr,I6 a.tz,Xh a.rd,Xh a.wr,Xh a.sh,I6 a.file,I6 a.base],I6 (n:Int)] W fun e w'=>e= Xl (Xh Xc)/\zb W w'):=hmh'
 clear hmh';clear hmh
 go_enter func68,ntmps68
 go_upto_region 7 with fail;rw[HW3.out];go_upto_region 8 with fail;obtain⟨W4,hW4⟩:=kB (W3.alloc (Xk #[U8 q.p.b0,U8 q.p.b1,U8 q.p.b2,U8 q.p.b3,U8 q.p.b4,U8 q.p.b5,U8 q.p.b6,U8 q.p.b7,I6 q.r,Xh q.u,Xh q.d,I6 q.f,I6 q.x] 93));have HG4:=gT hW4 HG3
 have Y4:=yA hW4 Y3
 have Z4:=yA hW4 Z3
 have F4:=xP hW4 HS3
 rw[hW4,HS3.out];clear hW4 x0 z1 d0 d1 d2 d3 d4 d5 d6 d7 d8 d9 d10 d11 d12;obtain⟨y0,y1,y2,y3,y4,y5,y6⟩:=Y4.c7;have f0:=F4.c 0 rfl;have f1:=F4.c 1 rfl;have f2:=F4.c 2 rfl;have f3:=F4.c 3 rfl;have f4:=F4.c 4 rfl;have f5:=F4.c 5 rfl;have f6:=F4.c 6 rfl;have f7:=F4.c 7 rfl;have f8:=F4.c 8 rfl;have f9:=F4.c 9 rfl;have f10:=F4.c 10 rfl;have f11:=F4.c 11 rfl;have f12:=F4.c 12 rfl;go_wp2_with fail;refine(HC _).mono ?_;clear y0 y1 y2 y3 y4 y5 y6 f0 f1 f2 f3 f4 f5 f6 f7 f8 f9 f10 f11 f12;rintro e W5 ⟨rfl,hg5⟩;have HG5:=dD (HG4.trans hg5);have Y5:=Y4.grew hg5;have z2:=(Z4.grew hg5).c 2 rfl;have F5:=F4.grew hg5;clear hg5
 cases ew with
 | false=>
  go_wp2;go_ret;exact⟨rfl,HG5⟩
 | true=>
 have hmw:=HMWT.out rfl;have hmw':=HMW.out q;rw[hmw]at hmw';have HC2:Xo (∀W,Xp prog 126 #[Xi (frv q).toArray,Xi #[I6 a.fr,I6 a.tz,Xh a.rd,Xh a.wr,Xh a.sh,I6 a.file,I6 a.base]] W fun e w'=>e= Xl (Xh Xc)/\zb W w'):=hmw'
 clear hmw';clear hmw;obtain⟨y0,y1,y2,y3,y4,y5,y6⟩:=Y5.c7;have f0:=F5.c 0 rfl;have f1:=F5.c 1 rfl;have f2:=F5.c 2 rfl;have f3:=F5.c 3 rfl;have f4:=F5.c 4 rfl;have f5:=F5.c 5 rfl;have f6:=F5.c 6 rfl;have f7:=F5.c 7 rfl;have f8:=F5.c 8 rfl;have f9:=F5.c 9 rfl;have f10:=F5.c 10 rfl;have f11:=F5.c 11 rfl;have f12:=F5.c 12 rfl
 go_wp2_with (go_at_call 126;refine(HC2 _).mono ?_;clear y0 y1 y2 y3 y4 y5 y6 f0 f1 f2 f3 f4 f5 f6 f7 f8 f9 f10 f11 f12 z2;rintro e W6 ⟨rfl,hg6⟩)
 go_ret;exact⟨rfl,HG5.trans hg6⟩
theorem zdY (V m w) (ah:zE w V m) (cr:zjS m) (cs:znS m) (cq:zf1 m=0):
  Xp prog 32 #[Xi (mL V m).toArray] w fun e w'=>e= Xl (I6 0)/\zb w w':=by
 have a7:=dD<|fun (a:Ar) (n:Nat) (e:En) W (a9:zb w W) (dr:jN a) (bj:n<=64) (ds:0<=e.n)=>zdZ V m a n e W (ah.grew a9) dr bj ds
 have b6:=dD cr.mem;have b8:=dD cs;obtain⟨aw,ax,L,M,G,H,K,F,⟨ar,d,E⟩⟩:=V;dsimp only[mL]at a7⊢;obtain⟨-,-,-,-,-,-,-,-,cc⟩:=ah.ns;dsimp only at cc;obtain⟨eb,ap,S,al⟩:=ah.spaces;have bd:=dD ap;have cy:=dD S;have ba:=dD al;have cj:=dD cc.symm;have ct:d<=9223372036854775807:=by
  obtain⟨ek,dy,ef,_⟩:=ah.sp;have:=dy.short;omega
 have b0:Xo (∀s∈m.sp,∀n∈qM s,zdD m (zD s.ars n) (ze s n)=0):=dD<|fun s dw n bj=>zp.1 ((zhW m s).symm.trans (zp.1 cq _ (Yh dw))) _ (Yh bj)
 clear ah ap S al cc cr cs cq;obtain⟨ec,C⟩:=kB (w.alloc (Xk #[aw.x,I6 m.hand,ax.x,L.x,M.x,G.x,H.x,K.x,I6 m.cnt,F.x,O ar d E] 45));have b2:=gA C
 have cn:=xA C
 have bc:=dD C;clear C
 go_enter func32,ntmps32
 go_upto_region 1 with fail;rw[bc.out];have ch:=cn.c 10 rfl;go_wp2;clear ch
 go_loopg [12] d (fun bf ce wr=>∃f:Nat,f<=d/\d - f<=bf/\ce=I6 f/\Xo (zb w wr)/\Xo (Box wr w.heap.size [aw.x,I6 m.hand,ax.x,L.x,M.x,G.x,H.x,K.x,I6 m.cnt,F.x,O ar d E]))
 case atStart=>exact⟨0,nZ _,by omega,rfl,b2,cn⟩
 obtain⟨f,du,dt,rfl,g,dc⟩:=hrel
 by_cases D:f<d
 ·have ag:=kC D
  obtain⟨s,b9⟩:∃s,Xo (m.sp[f]? =Xa s):=⟨_,gE (by rw[cj.out];exact D)⟩
  obtain⟨x,cl⟩:∃x,Xo (eb[f]? =Xa x):=⟨_,gE (by rw[bd.out,cj.out];exact D)⟩
  have h:=dD<|ba.out f x s cl b9.out;obtain⟨Q,R⟩:=b8.out s (mG b9);have a1:=dD<|(J6.1 Q).2;have bb:=dD R;have ay:=dD h.ar.n.symm;have az:Xo (zjX w x.ar.a s.ars):=show zjX _ _ _ by
   obtain⟨_,_,aq,cd⟩:=h.ar.ars;simp only[vJ]at aq;rw[aq.1];exact cd
  clear Q R;obtain⟨cp,rfl,q⟩:=cy.out f x cl.out;obtain⟨df,dg,dh,di,dj,dk,dl,dm,dn,dp⟩:=q wr g.out;clear q;go_upto_region 4 with fail;obtain⟨cz,j⟩:=kB (wr.alloc (Xk #[Xh x.live,x.ar.x,x.t0.x,x.t1.x,x.t2.x,x.t3.x,x.t4.x,x.t5.x,x.t6.x,x.t7.x] 76));have a4:=gT j g
  have db:=yA j dc
  have t:=xA j
  rw[j];clear j df dg dh di dj dk dl dm dn dp;obtain⟨eh,b7⟩:=kA wr.heap.size;rw[b7.out]at t⊢;have l:=Q5 x.tab s.tb cz (h.grew a4).tb
  have e2:=t.c 2 rfl;have e3:=t.c 3 rfl;have e4:=t.c 4 rfl;have e5:=t.c 5 rfl;have e6:=t.c 6 rfl;have e7:=t.c 7 rfl;have e8:=t.c 8 rfl;have e9:=t.c 9 rfl;go_wp2_with fail;refine l.mono ?_;clear l e2 e3 e4 e5 e6 e7 e8 e9;rintro be da ⟨ej,rfl,Z,p⟩;have v:=dD (a4.trans p);have co:=dD (db.grew p);have cm:=dD (t.grew p);clear p;obtain⟨eg,ei,rfl,aj⟩:=Z.at.nums;have ak:=Z.at.short;have a6:=dD aj;rw[Q4,List.length_map]at ak⊢;rw[Q4]at a6;clear Z aj;obtain⟨I,ck⟩:=kA ((qM s).length);rw[ck.out]at ak⊢;go_wp2;have cx:=dD g
  go_loopg [20] I (fun bf cf wr=>∃u:Nat,u<=I/\I - u<=bf/\cf=I6 u/\Xo (zb da wr))
  case atStart=>exact⟨0,nZ _,by omega,rfl,zb.refl _⟩
  obtain⟨u,ee,p,rfl,g⟩:=hrel
  by_cases r:u<I
  ·have X:=kC r
   obtain⟨n,T⟩:∃n,Xo ((qM s)[u]? =Xa n):=⟨_,gE (by rw[ck.out];exact r)⟩
   have ai:=zgj T.out;obtain⟨de,rfl,af⟩:=a6.out u (n:Int) (by rw[Xz,T.out];rfl)
   have dq:=af wr g.out;clear af;have ab:=b0.out s (mG b9) n (mG T);have a2:=dD ab;clear ab;have b4:=dD (v.trans g);have aa:=zcH (x.ar.x) s.ars (n:Int) wr (h.ar.grew b4);have e1:=(cm.grew g).c 1 rfl;go_wp2_with fail;refine aa.mono ?_;clear aa dq e1;rintro be N ⟨⟨cv,rfl,cu⟩,ac⟩;have a3:=dD cu;have z:=dD (g.trans ac);have b:=dD (v.trans z);clear ac cu;have dx:¬cv<0:=fun av=>by
    have:=zfE a3.out;rw[decide_eq_false (by omega)]at this
    have bg:=a2.out;unfold zdD at bg;rw[kE this.symm]at bg;exact absurd bg (by decide)
   obtain⟨k,a,rfl,A,b5⟩:∃(k:Nat) (a:Ar),cv=(k:Int)/\Xo (s.ars[k]? =Xa a)/\Xo (inZ a (n:Int)=Xc):=by
    rcases a3 with⟨k,a,aq,cd,dz⟩|⟨aq,_⟩
    ·exact⟨k,a,aq,cd,dz⟩
    omega
   have a0:=dD<|zfK a1 A.out;have dv:k<x.ar.n:=by rw[<-ay.out];exact(gS.1 A).1
   have b1:Xo (zei m a n (ze s n)=0):=dD<|by rw[<-a2.out,za9 a1.out A.out b5.out,zlU b6.out a0.out]
   have P:=(jD (zqx bb n)).2.1.1;have a8:Xo (∀W,zb w W->Xp prog 68 #[Xi #[aw.x,I6 m.hand,ax.x,L.x,M.x,G.x,H.x,K.x,I6 m.cnt,F.x,O (Xa cp) d E],Xi #[I6 a.fr,I6 a.tz,Xh a.rd,Xh a.wr,Xh a.sh,I6 a.file,I6 a.base],I6 (n:Int),enV (ze s n)] W fun be w'=>be= Xl (I6 0)/\zb W w'):=dD<|fun W a9=>a7.out a n (ze s n) W a9 a0 (by omega) P b1.out
   have b3:Xo (∀W,zb w W->Xp prog 69 #[Xi #[x.t0.x,x.t1.x,x.t2.x,x.t3.x,x.t4.x,x.t5.x,x.t6.x,x.t7.x],I6 (n:Int)] W fun e w'=>e= Xl (enV (ze s n))/\zb W w'):=dD<|fun W a9=>by
    have:=QK x.tab s.tb (n:Int) W (h.grew a9).tb;rw[zfw ai]at this;exact this
   clear P;go_upto_region 10 with fail;obtain⟨c,am,q⟩:=az.out k a A.out;have i:=dD (co.grew z);have B:=dD (cm.grew z);have bu:=i.gw 0 rfl
   have bv:=i.gw 1 rfl
   have bw:=i.gw 2 rfl
   have bx:=i.gw 3 rfl
   have bz:=i.gw 4 rfl
   have c0:=i.gw 5 rfl
   have c1:=i.gw 6 rfl
   have c2:=i.gw 7 rfl
   have c3:=i.gw 8 rfl
   have c4:=i.gw 9 rfl
   have ao:=i.gw 10 rfl
   have Y:=B.gw 1 rfl
   have bl:=B.gw 2 rfl
   have bm:=B.gw 3 rfl
   have bn:=B.gw 4 rfl
   have bo:=B.gw 5 rfl
   have bp:=B.gw 6 rfl
   have bq:=B.gw 7 rfl
   have br:=B.gw 8 rfl
   have bs:=B.gw 9 rfl
   (try simp only[Sli.x]at Y);rw[am]at Y;have c5:∀y:zg N,y.world.cell? (c.add (k*7))=Xa (I6 a.fr):=fun y=>(q _ (b.trans y.grew)).1
   have c6:∀y:zg N,y.world.cell? { block:=(c.add (k*7)).block,off:=(c.add (k*7)).off+1 }=Xa (I6 a.tz):=fun y=>(q _ (b.trans y.grew)).2.1
   have c7:∀y:zg N,y.world.cell? { block:=(c.add (k*7)).block,off:=(c.add (k*7)).off+2 }=Xa (Xh a.rd):=fun y=>(q _ (b.trans y.grew)).2.2.1
   have c8:∀y:zg N,y.world.cell? { block:=(c.add (k*7)).block,off:=(c.add (k*7)).off+3 }=Xa (Xh a.wr):=fun y=>(q _ (b.trans y.grew)).2.2.2.1
   have c9:∀y:zg N,y.world.cell? { block:=(c.add (k*7)).block,off:=(c.add (k*7)).off+4 }=Xa (Xh a.sh):=fun y=>(q _ (b.trans y.grew)).2.2.2.2.1
   have ca:∀y:zg N,y.world.cell? { block:=(c.add (k*7)).block,off:=(c.add (k*7)).off+5 }=Xa (I6 a.file):=fun y=>(q _ (b.trans y.grew)).2.2.2.2.2.1
   have cb:∀y:zg N,y.world.cell? { block:=(c.add (k*7)).block,off:=(c.add (k*7)).off+6 }=Xa (I6 a.base):=fun y=>(q _ (b.trans y.grew)).2.2.2.2.2.2
   have bk:Nonempty (zg N):=⟨⟨_,zb.refl _⟩⟩;clear q am;refine qu [(10,⟨fun au=>au=enV (ze s n),fun au w'=>True⟩),(11,⟨fun au=>au=I6 0,fun au w'=>True⟩)] zZ (by kernel_rfl) ?hS ?hp ?_
   case hS=>
    intro x an;simp only[mC,nM,or_false]at an
    rcases an with rfl|rfl
    ·exact⟨_,rfl⟩
    exact⟨_,rfl⟩
   case hp=>
    intro x an;simp only[mC,nM,or_false]at an
    rcases an with rfl|rfl
    ·exact fun _ _ _ _ av=>av
    exact fun _ _ _ _ av=>av
   iterate 10 refine zf ?_
   refine zC rfl rfl (fun w' bi bh=>?_) (fun ea bt=>?_)
   ·refine zR.call [Xi #[x.t0.x,x.t1.x,x.t2.x,x.t3.x,x.t4.x,x.t5.x,x.t6.x,x.t7.x],I6 (n:Int)] rfl func69 rfl rfl rfl ?_;refine(b3 w' (b.trans bi)).mono ?_;rintro e cg ⟨rfl,U⟩;exact⟨_,rfl,U,rfl,trivial⟩
   subst bt;simp only[Ya,sB,sS,sZ];refine zC rfl rfl (fun w' bi bh=>?_) (fun ea bt=>?_)
   ·refine zR.call [Xi #[aw.x,I6 m.hand,ax.x,L.x,M.x,G.x,H.x,K.x,I6 m.cnt,F.x,O (Xa cp) d E],Xi #[I6 a.fr,I6 a.tz,Xh a.rd,Xh a.wr,Xh a.sh,I6 a.file,I6 a.base],I6 (n:Int),enV (ze s n)] rfl func68 rfl rfl rfl ?_;refine(a8 w' (b.trans bi)).mono ?_;rintro e cg ⟨rfl,U⟩;exact⟨_,rfl,U,rfl,trivial⟩
   subst bt;simp only[Ya,sB,sS,sZ];refine zf ?_
   refine zP fun ed ae bh=>?_
   have a5:=dD (z.trans ae);have ci:=dD (v.trans a5);clear ae bh bu bv bw bx bz c0 c1 c2 c3 c4 ao Y bl bm bn bo bp bq br bs c5 c6 c7 c8 c9 ca cb bk;go_wp2
   go_roundg (I -(u+1))
   case measure=>omega
   exact⟨u+1,by omega,by omega,by go_num,a5⟩
  have X:=kD r
  have:u=I:=by omega
  subst this;have dd:=dD (co.grew g);have cw:=dD (v.trans g);go_wp2
  go_roundg (d -(f+1))
  case measure=>omega
  exact⟨f+1,by omega,by omega,by go_num,cw,dd⟩
 have ag:=kD D
 have:f=d:=by omega
 subst this;go_wp2;go_ret;exact⟨rfl,g⟩
theorem zaU (a w) (k:frW a=0):Xp prog 108 #[Xi (frv a).toArray] w fun e w'=>e= Xl (I6 0)/\zb w w':=by
 obtain⟨⟨n,p,q,s,t,u,v,y⟩,r,B,z,h,x⟩:=a
 show Xp prog 108 #[Xi #[U8 n,U8 p,U8 q,U8 s,U8 t,U8 u,U8 v,U8 y,I6 r,Xh B,Xh z,I6 h,I6 x]] w _
 cases b:inB r 1001 with
 | false=>simp[frW,b]at k
 | true=>
 cases d:inB x 12 with
 | false=>simp[frW,b,d]at k
 | true=>
 by_cases l:h=-1
 ·have f:(h == -1)=Xc:=by simp[l]
  have i:(h != -1)=Xd:=by simp[l]
  by_cases m:r=0
  ·have c:(r == 0)=Xc:=by simp[m]
   cases g:zbr (⟨⟨n,p,q,s,t,u,v,y⟩,r,B,z,h,x⟩:Fr) frF with
   | false=>simp[frW,b,d,f,c,g]at k
   | true=>
    have j:x=0:=by have:=zfB g;simp only[frF,Fr.mk.injEq]at this;exact this.2.2.2.2.2
    exact wf7 _ _ _ _ _ _ _ _ _ _ _ _ _ w b d i f c g (by simp[j])
  have c:(r == 0)=Xd:=by simp[m]
  by_cases j:x=0
  ·exact wf9 _ _ _ _ _ _ _ _ _ _ _ _ _ w b d i f c (by simp[j])
  have A:(x == 0)=Xd:=by simp[j]
  simp[frW,b,d,f,c,A]at k
 have f:(h == -1)=Xd:=by simp[l]
 have i:(h != -1)=Xc:=by simp[l]
 cases j:inB h 5 with
 | false=>simp[frW,b,d,f,j]at k
 | true=>
  by_cases m:r=0
  ·have c:(r == 0)=Xc:=by simp[m]
   have g:zbr (⟨⟨n,p,q,s,t,u,v,y⟩,r,B,z,h,x⟩:Fr) frF=Xd:=by
    refine zoY fun h=>?_
    simp only[frF,Fr.mk.injEq]at h;exact l h.2.2.2.2.1
   simp[frW,b,d,f,j,c,g]at k
  have c:(r == 0)=Xd:=by simp[m]
  exact wf5 _ _ _ _ _ _ _ _ _ _ _ _ _ w b d i f j c
theorem zm3:∀{fs:List Fr},zfS fs=0->∀f∈fs,frW f=0
 | [],_,_,a=>by cases a
 | g :: fs,h,f,a=>by
  unfold zfS at h
  by_cases b:frW g=0
  ·rw[kE b]at h
   rcases mC.1 a with rfl|a
   ·exact b
   exact zm3 h f a
  rw[kF b]at h;exact absurd h b
theorem ZV (a) (c:Nat) (fs:List Fr) (h:Int) (w) (g:qh w (O a fs.length c) fs) (i:Zb fs h=0):
  Xp prog 58 #[Xi #[O a fs.length c,I6 h]] w fun e w'=>e= Xl (I6 0)/\zb w w':=by
 have d:=g.short;obtain⟨b,b,f,b⟩:=g.frs;cases f;have r:=dD b;clear b g;have b:Zb fs h=if 40<fs.length then 4 else if zfS fs=0 then(if inB h (max fs.length 1)then 0 else 3)else zfS fs:=rfl;rw[i]at b;obtain⟨n,k⟩:=kA fs.length;rw[k.out]at d b⊢;have d:¬40<n:=fun e=>by rw[kE e]at b;cases b
 rw[kF d]at b;have p:Xo (∀f∈fs,frW f=0):=dD<|zm3 (Decidable.byContradiction fun e=>e (by rw[kF e]at b;exact b.symm))
 have g:zfS fs=0:=Decidable.byContradiction fun e=>e (by rw[kF e]at b;exact b.symm)
 rw[kE g]at b;have f:inB h (max n 1)=Xc:=by
  cases e:inB h (max n 1)with
  | true=>rfl
  | false=>rw[e]at b;cases b
 clear b g i;have b:¬(40:Int)< (n:Int):=by omega
 have j:Xo (∀W,Xp prog 109 #[I6 h,I6 (max (n:Int) 1)] W fun e w'=>e= Xl (Xh Xc)/\w'=W):=dD<|fun W=>by
  have b:=Zl h (max (n:Int) 1) W;rw[show inB h (max (n:Int) 1)=inB h (max n 1) by simp,f]at b
  exact b
 clear f;obtain⟨g,b⟩:=kB (w.alloc (Xk #[O a n c,I6 h] 32));have h:=gA b
 have m:=xA b
 have f:=dD b;clear b d
 go_enter func58,ntmps58
 go_wp2;rw[f.out]
 go_loopg [13] n (fun f d wr=>∃b:Nat,b<=n/\n - b<=f/\d=I6 b/\Xo (zb g wr))
 case atStart=>exact⟨0,nZ _,by omega,rfl,zb.refl _⟩
 obtain⟨b,d,d,rfl,g⟩:=hrel
 by_cases f:b<n
 ·have i:=kC f
  obtain⟨q,l⟩:∃q,Xo (fs[b]? =Xa q):=⟨_,gE (by rw[k.out];exact f)⟩
  obtain⟨d,rfl,k⟩:=r.out b q l.out;obtain⟨d,d,d,d,d,d,d,d,d,d,d,d,d⟩:=k wr (h.trans g);have d:=fun W=>zaU q W (p q (mG l))
  clear k
  go_wp2_with (go_at_call 108;refine(d _).mono ?_;rintro e w' ⟨rfl,d⟩)
  go_roundg (n -(b+1))
  case measure=>omega
  exact⟨b+1,by omega,by omega,by go_num,(g.trans (za _ _)).trans d⟩
 have i:=kD f
 have:b=n:=by omega
 subst this;have b:=(m.grew g).c 0 rfl;have b:=(m.grew g).c 1 rfl;have b:=j.out
 go_wp2_with (go_at_call 109;refine(b _).mono ?_;rintro e w' ⟨rfl,rfl⟩)
 go_ret;exact⟨rfl,h.trans g⟩
theorem zrl (V m w) (b:zE w V m) (d:maW m=0) (k:Nat) (f:Nat) (a:chk[k]? =Xa f):
  Xp prog f #[Xi (mL V m).toArray] w fun e w'=>e= Xl (I6 0)/\zb w w':=by
 have c:∀e∈zqK m,e=0:=zp.1 (by rw[<-d,zqe];rfl)
 have g:zu (Zz m)=0:=c _ (by simp[zqK])
 have n:zu (QZ m)=0:=c _ (by simp[zqK])
 have d:Zy m=0:=c _ (by simp[zqK])
 have j:zej m=0:=c _ (by simp[zqK])
 have p:zf1 m=0:=c _ (by simp[zqK])
 have q:Q0 m=0:=c _ (by simp[zqK])
 have c:=zq5.1 g
 match k,a with
 | 0,a=>
  cases a;have k:=zeR V m w b fun W i=>by
   obtain⟨l,-⟩:=b.ns;have h:=(b.grew i).fs;(try simp only[Sli.x]at h⊢);rw[l]at h⊢;have i:Zb m.fs m.hand=0:=zp.1 g _ (by simp[Zz])
   rw[i];exact ZV _ _ m.fs m.hand W h i
  rw[g]at k;exact k
 | 1,a=>cases a;rw[<-n];exact zd0 V m w b c
 | 2,a=>cases a;rw[<-d];exact zcM V m w b
 | 3,a=>cases a;rw[<-j];exact zd1 V m w b c
 | 4,a=>cases a;exact zdY V m w b c (zml d) p
 | 5,a=>cases a;rw[<-q];exact zcN V m w b j (zf0 d) (fun s b=>(zml d s b).2)
 | k+6,a=>simp[chk]at a
theorem QA (V m w) (b:zE w V m) (a:maW m=0):
  Xp prog 20 #[Xi (mL V m).toArray] w fun e w'=>e= Xl (I6 0)/\zb w w':=by
 have g:Xo (∀W,zb w W->∀(k f:Nat),chk[k]? =Xa f->Xp prog f #[Xi (mL V m).toArray] W fun e w'=>e= Xl (I6 0)/\zb W w'):=dD<|fun W c k f d=>zrl V m W (b.grew c) a k f d
 clear b a;obtain⟨d,a⟩:=kB ((w.alloc (Xk (mL V m).toArray 45)).alloc (Xk #[.func (.func 28) #[] #[],.func (.func 29) #[] #[],.func (.func 30) #[] #[],.func (.func 31) #[] #[],.func (.func 32) #[] #[],.func (.func 33) #[] #[]] 77));have b:=gD2 a
 have j:=x2a a
 have k:Xo (Box d (w.heap.size+1) (chk.map fnV)):=dD<|by rw[<-a];exact Box.top _ (chk.map fnV) _ (by simp)
 have c:=dD a;clear a
 go_enter func20,ntmps20
 go_upto_region 2 with fail;rw[c.out];go_wp2
 go_loopg [10] 6 (fun h c wr=>∃a:Nat,a<=6/\6 - a<=h/\c=I6 a/\Xo (zb d wr))
 case atStart=>exact⟨0,nZ _,by omega,rfl,zb.refl _⟩
 obtain⟨a,c,c,rfl,d⟩:=hrel;have i:=dD (b.trans d)
 by_cases b:a<6
 ·have c:(a:Int)<6:=by omega
  obtain⟨f,h⟩:∃f,Xo (chk[a]? =Xa f):=⟨_,gE (by simp[chk];exact b)⟩
  have v:wr.cell? ⟨w.heap.size+1,a,Xb⟩=Xa (.func (.func f) #[] #[]):=(k.grew d).c a (by rw[Xz,h.out];rfl)
  have k:=zlm a f h.out;have b:=g.out wr i a f h.out;have g:=dD (j.grew d);obtain⟨h,j,l,n,p,q,r,s,t,u,f⟩:=g.c11;go_wp2_with fail;refine b.mono ?_;clear b h j l n p q r s t u f v;rintro b b ⟨rfl,b⟩;have f:=dD (d.trans b);clear b k;go_wp2
  go_roundg (6 -(a+1))
  case measure=>omega
  exact⟨a+1,by omega,by omega,by go_num,f⟩
 have c:¬(a:Int)<6:=by omega
 go_wp2;go_ret;exact⟨rfl,i⟩
def qU (m:Ma) (p:Int) (q:Nat) (s:Sp):Prop:=p=(q:Int)/\m.sp[q]? =Xa s/\s.live=Xc
theorem zcp (V m) (p:Int) (w) (u:zE w V m) (F:maW m=0):
  Xp prog 142 #[Xi (mL V m).toArray,I6 p] w fun e w'=>((e= Xl (I6 0)/\∃q s,qU m p q s)\/(e= Xl (I6 5)/\∀q s,¬qU m p q s))/\zb w w':=by
 obtain⟨W,c⟩:=kB (w.alloc (Xk (mL V m).toArray 45));have C:=gA c
 have y:=xA c
 have U:=dD u;have v:=dD c;clear c;have r:=QA V m W (u.grew C) F;obtain⟨-,-,-,-,-,-,-,-,N⟩:=u.ns;have i:=dD N;clear u F N
 go_enter func142,ntmps142
 go_upto_region 1 with fail;rw[v.out];obtain⟨ae,T⟩:=kA w.heap.size;rw[T.out]at y⊢;obtain⟨a1,a2,a3,a4,a5,a6,a7,a8,a9,aa,a⟩:=y.c11;go_wp2_with fail;refine r.mono ?_;clear r a1 a2 a3 a4 a5 a6 a7 a8 a9 aa a;rintro e X ⟨rfl,z⟩;have l:=dD (C.trans z);have Y:=dD (y.grew z);clear z;have a:=Y.c 10 rfl;obtain⟨S,b⟩:=kA V.sp.n;(try simp only[Sli.x]at a);rw[b.out]at a
 by_cases M:p<0
 ·have g:Xo (∀q s,¬qU m p q s):=dD<|fun q s h=>by have:=h.1;omega
  go_wp2;go_ret;exact⟨.inr ⟨rfl,g⟩,l⟩
 by_cases I:(S:Int)<=p
 ·have g:Xo (∀q s,¬qU m p q s):=dD<|fun q s h=>by
   have:=h.1;have:=(gS.1 h.2.1).1;have:=b.out;have:=i.out;omega
  go_wp2;go_ret;exact⟨.inr ⟨rfl,g⟩,l⟩
 obtain⟨q,rfl⟩:∃q:Nat,p=(q:Int):=⟨p.toNat,by omega⟩
 have a0:(q:Int)< (S:Int):=by omega
 obtain⟨ab,P,Q,R⟩:=(U.grew l).sp;obtain⟨x,B⟩:∃x,ab[q]? =Xa x:=⟨_,gE (by rw[Q,<-i.out,b.out];omega)⟩
 obtain⟨s,A⟩:∃s,m.sp[q]? =Xa s:=⟨_,gE (by rw[<-i.out,b.out];omega)⟩
 have d:=(R q x s B A).live;obtain⟨Z,af,j,f⟩:=P.sps;have K:V.sp.a=Z:=by
  simp only[vJ]at j;exact j.1
 obtain⟨ac,n,L⟩:=f q x B;have D:=dD A;obtain⟨E,-⟩:=qW.sp10 (L X (zb.refl _));(try simp only[Sli.x]at a);rw[K,n]at a;clear L f j K n P Q R B A
 cases k:s.live with
 | true=>
  rw[d,k]at E;have g:Xo (∃t s,qU m (q:Int) t s):=dD<|⟨q,s,rfl,D,k⟩
  clear k d;go_wp2;go_ret;exact⟨.inl ⟨rfl,g⟩,l⟩
 | false=>
  rw[d,k]at E;have g:Xo (∀t s,¬qU m (q:Int) t s):=dD<|fun t ag h=>by
   have e:t=q:=by have:=h.1;omega
   rw[e]at h;have G:=h.2.1;rw[D.out]at G;cases G;have H:=h.2.2;rw[k]at H;cases H
  clear k d;go_wp2;go_ret;exact⟨.inr ⟨rfl,g⟩,l⟩
theorem ziA (n:Nat) (a:n<=40) (w):
  Xp prog 107 #[.int .u64 1,.int .u64 (n:Int)] w fun e w'=>e= Xl (Xm #[.int .u64 0,.int .u64 (n:Int)])/\w'=w:=by
 have h:bits .and .u64 1 4294967295=1:=Mul64.maskN 1 (by omega)
 have i:bits .and .u64 (n:Int) 4294967295=(n:Int):=by rw[Mul64.maskN n (by omega)];omega
 have g:bits .and .u64 0 4294967295=0:=Mul64.maskN 0 (by omega)
 have f:(n:Int) / 4294967296=0:=by omega
 have c:=dD h;have d:=dD i;have b:=dD g;have a:=dD f;clear h i g f
 go_enter func107,ntmps107
 go_wp2;have f:IntKind.u64.wrap 0=0:=Mul64.wrapN 0 (by omega)
 have g:IntKind.u64.wrap (n:Int)=(n:Int):=Mul64.wrapN n (by omega)
 simp only[c.out,d.out,Int.one_mul,g,a.out,f,b.out,Int.mul_zero,Int.add_zero,Int.zero_ediv]
 go_ret2
 exact⟨rfl,rfl⟩
theorem zgN (n:Nat) (b:n<=40) (w):
  Xp prog 57 #[.int .u64 1,.int .u64 (n:Int)] w fun e w'=>e= Xl (Xm #[.int .u64 0,.int .u64 (n:Int)])/\w'=w:=by
 have a:=ziA n b w
 go_enter func57,ntmps57
 go_wp2_with (go_at_call 107;refine a.mono ?_;rintro e w' ⟨rfl,a⟩;rw[a])
 go_ret2
 exact⟨rfl,rfl⟩
theorem zgL (m:List Fr):∀(l:List Fr) (a:Nat),a+m.length<=l.length->splice (l.flatMap frv) (a*13) (m.flatMap frv)=(l.take a++(m++l.drop (a+m.length))).flatMap frv:=fun l a h=>by
 have b:∀(l:List Fr) (j:Nat),j<=l.length->(l.flatMap frv).take (j*13)=(l.take j).flatMap frv/\(l.flatMap frv).drop (j*13)=(l.drop j).flatMap frv:=fun l j e=>by
  have c:l.flatMap frv=(l.take j).flatMap frv++(l.drop j).flatMap frv:=by rw[<-Xs,List.take_append_drop]
  have d:((l.take j).flatMap frv).length=j*13:=by rw[Qg,List.length_take,Nat.min_eq_left e]
  constructor
  ·rw[c,<-d,List.take_left]
  rw[c,<-d,List.drop_left]
 unfold splice;rw[Qg m,<-Nat.add_mul,(b l a (by omega)).1,(b l (a+m.length) h).2,Xs,Xs]
theorem JT {w:Xn} (k) (base:Nat) (v:Xq) (l:List Fr) (d:zi base w v l) (g:Nat) (p:v.ownBlock=Xa g) (a b f:Nat) (j) (e i:Nat)
  (m:List Fr) (r:m.length=Yj e b) (h:qW w j (m.flatMap frv)) (c:a+m.length<=l.length):
  ∃w',(Builtin.copy_ #[30,30] k #[O (Xa ⟨g,a*13,Xb⟩) b f,O (Xa j) e i]).run prog w= .ok (goInt m.length) w'/\zi base w' v (l.take a++(m++l.drop (a+m.length)))/\w.grownBy w' (Xa g)/\w'.heap.size=w.heap.size:=by
 obtain⟨b,q,_,f,_⟩:=info_parts zr5;have e:=Qg m;have b:a*13+(m.flatMap frv).length<=l.length*13:=by
  rw[e,<-Nat.add_mul];exact Yg _ c
 obtain⟨w',s,i,k,n⟩:=qw (P:=prog) d.1 p (a*13) (m.flatMap frv) b (qJ zfy m);have b:=run_loadCells_list (P:=prog) w j (m.flatMap frv) h;rw[e]at b;rw[zgL m l a c]at i;have hlen:(l.take a++(m++l.drop (a+m.length))).length=l.length:=by simp;omega
 refine⟨w',?_,⟨by rw[hlen];exact i,by rw[hlen];exact d.2⟩,k,n⟩
 simp[Builtin.copy_,run_underlying underlying30,Builtin.lenOf,Builtin.firstCells,sizeOf,typeInfo,q,f,<-r,b,s]
theorem Qq {w:Xn} {rest:List Oper} {a:Act} (q:o.guard=Xb) (d s) (B:o.op= .call { callee:= .builtin .copy,args:=#[d,s],argTypes:=#[30,30] })
  (base:Nat) (v:Xq) (l:List Fr) (j:zi base w v l) (g:Nat) (z:v.ownBlock=Xa g) (c b f:Nat) (r:Addr) (y:a.eval d= O (Xa r) b f) (k:r=⟨g,c*13,Xb⟩) (p:Addr) (e h:Nat) (C:a.eval s= O (Xa p) e h)
  (m:List Fr) (A:m.length=Yj e b) (n:qW w p (m.flatMap frv)) (i:c+m.length<=l.length)
  (t:∀w',zi base w' v (l.take c++(m++l.drop (c+m.length)))->w.grownBy w' (Xa g)->w'.heap.size=w.heap.size->wpList prog ops Q rest (a.put o.dst (goInt m.length)) w'):wpList prog ops Q (o :: rest) a w:=by
 subst k;refine wpList_plain q fun K x=>?_
 obtain⟨w',k,q,r,u⟩:=JT o.type base v l j g z c b f p e h m A n i;unfold Oper.wp
 simp[execOp,B,resolve,invoke,builtin,y,C,k,Result.andThen]
 exact x _ _ (t w' q r u)
theorem zkV (q) (n m z:Nat) (_h:m<=n) (a:z=Yj m (n - m)):(Xr m q++Xr (n - m) fr0).take m++(Xr z q++(Xr m q++Xr (n - m) fr0).drop (m+z))=Xr (m+z) q++Xr (n -(m+z)) fr0:=by
 have b:z<=n - m:=by rw[a];exact Nat.min_le_right _ _
 rw[List.take_append_of_le_length (by simp),Xu (by simp),List.drop_append,List.drop_of_length_le (by simp),List.nil_append,lR,Yi,<-List.append_assoc,Xy]
 congr 2
 omega
theorem zgM (q) (x:Nat) (c n:Nat) (i:n<=40) (d:1<=n) (w:Xn) (a:qh w (O (Xa ⟨x,0,Xb⟩) 1 c) [q]):
  Xp prog 25 #[O (Xa ⟨x,0,Xb⟩) 1 c,I6 (n:Int)] w fun e w'=>∃b,e= Xl b/\qR w.heap.size w' b (Xr n q)/\zb w w':=by
 have h:Xo (qW w ⟨x,0,Xb⟩ ([q].flatMap frv)):=by
  obtain⟨⟨f,f,g,_,f⟩,_⟩:=a;cases g;exact f _ rfl
 clear a;have a:=zgN n i w;have i:¬(n:Int)<0:=by omega
 have i:¬(9223372036854775807:Int)< (n:Int):=by omega
 go_enter func25,ntmps25
 go_wp2_with (first
  | (go_at_call 57;refine a.mono ?_;rintro e w' ⟨rfl,a⟩;rw[a])
  | (refine QM rfl (.tmp 29) rfl n rfl (by show n*40<=_;omega) ?_;intro C a;have i:Xo (zi w.heap.size (w.alloc (Xk C 93)) (O (Xa ⟨w.heap.size,0,Xb⟩) n n) (Xr n fr0)):=a;clear a)
  | (refine Qq rfl (.tmp 31) (.tmp 32) rfl w.heap.size (O (Xa ⟨w.heap.size,0,Xb⟩) n n) (Xr n fr0) i w.heap.size rfl 0 n n _ rfl ?a1 _ 1 c rfl [q] ?a2 ?a3 ?a4 ?_))
 case a1=>simp
 case a2=>show 1=Yj 1 n;exact(Nat.min_eq_left d).symm
 case a3=>exact h.grew (za _ _)
 case a4=>simp;omega
 intro j h a _;have i:Xo (zi w.heap.size j (O (Xa ⟨w.heap.size,0,Xb⟩) n n) (Xr 1 q++Xr (n - 1) fr0)):=show zi _ _ _ (Xr 1 q++Xr (n - 1) fr0) by simpa [Yi]using h
 have j:=dD<|zd (za _ _) a (nR _);clear h a;go_wp2
 go_loopg [8] n (fun a h wr=>∃m:Nat,1<=m/\m<=n/\n - m<=a/\h=I6 m/\Xo (zi w.heap.size wr (O (Xa ⟨w.heap.size,0,Xb⟩) n n) (Xr m q++Xr (n - m) fr0))/\Xo (zb w wr))
 case atStart=>exact⟨1,nR _,d,by omega,rfl,i,j⟩
 obtain⟨m,a,a,a,rfl,r,p⟩:=hrel
 by_cases j:m<n
 ·have k:=kC j
  have a:(m:Int)<=(n:Int):=by omega
  have h:=dD<|r.grew (gW _)
  obtain⟨z,l⟩:∃z,Xo (z=Yj m (n - m)):=⟨_,rfl⟩;have a:z=min m (n - m):=l.out;have d:1<=z:=by omega
  have i:z<=m:=by omega
  have d:z<=n - m:=by omega
  clear a;have d:qW wr.drew ⟨w.heap.size,0,Xb⟩ ((Xr z q).flatMap frv):=fun s u a=>by
   have g:=h.1.cells rfl;refine g s u ?_;rw[Xs,Xx]
   ·rw[show m=z+(m - z) by omega,<-Xy,Xs,Xx (gS.1 a).1]
    exact a
   have f:=(gS.1 a).1;rw[Qg]at f⊢;simp only[lR]at f⊢;exact Xt f (Yg _ i)
  obtain⟨s,a,f,i,_⟩:=JT 3 w.heap.size _ _ h w.heap.size rfl m (n - m) (n - m) ⟨w.heap.size,0,Xb⟩ m n (Xr z q) (by rw[lR];exact l) d (by simp;omega)
  have h:(Builtin.copy_ #[30,30] 3 #[O (Xa ⟨w.heap.size,m*13,Xb⟩) (n - m) (n - m),O (Xa ⟨w.heap.size,0,Xb⟩) m n]).run prog wr.drew= .ok (I6 (z:Int)) s:=by
   have g:=a;rw[lR]at g;exact g
  have h:Xo (zi w.heap.size s (O (Xa ⟨w.heap.size,0,Xb⟩) n n) (Xr (m+z) q++Xr (n -(m+z)) fr0)):=dD<|by
   rw[<-zkV q n m z (by omega) l.out]
   rw[lR]at f;exact f
  have g:=dD<|zd (p.trans (gW _)) i (nR _)
  clear d a f i;go_wp2
  go_region
  go_wp2
  go_roundg (n -(m+z))
  case measure=>omega
  exact⟨m+z,by omega,by omega,nR _,by go_num,h,g⟩
 have k:=kD j
 have:m=n:=by omega
 subst this;have a:Xo (zi w.heap.size wr (O (Xa ⟨w.heap.size,0,Xb⟩) m m) (Xr m q)):=dD<|by have:=r.out;simpa using this
 go_wp2;go_ret;exact⟨_,rfl,a.new,p⟩
def zky (n:Int):Int:=if 0<=n/\n<=40 then 0 else 4
def zoA (n:Int):List Fr:=if 0<=n/\n<=40 then Xr n.toNat frF else []
theorem zh4 (q) (x:Nat) (c:Nat) (w:Xn):
  Xp prog 25 #[O (Xa ⟨x,0,Xb⟩) 1 c,I6 0] w fun e w'=>∃b,e= Xl b/\qR w.heap.size w' b (Xr 0 q)/\zb w w':=by
 have a:=zgN 0 (by omega) w
 go_enter func25,ntmps25
 go_wp2_with (first
  | (go_at_call 57;refine a.mono ?_;rintro e w' ⟨rfl,a⟩;rw[a])
  | (refine QM rfl (.tmp 29) rfl 0 rfl (by show 0*40<=_;omega) ?_;intro C a;have d:Xo (zi w.heap.size (w.alloc (Xk C 93)) (O (Xa ⟨w.heap.size,0,Xb⟩) 0 0) (Xr 0 fr0)):=a;clear a)
  | (refine Qq rfl (.tmp 31) (.tmp 32) rfl w.heap.size (O (Xa ⟨w.heap.size,0,Xb⟩) 0 0) (Xr 0 fr0) d w.heap.size rfl 0 0 0 _ rfl ?a1 _ 1 c rfl [] ?a2 ?a3 ?a4 ?_))
 case a1=>simp
 case a2=>rfl
 case a3=>intro j u a;simp at a
 case a4=>simp
 intro g d a _;have f:Xo (zi w.heap.size g (O (Xa ⟨w.heap.size,0,Xb⟩) 0 0) (Xr 0 q)):=dD<|by simpa using d
 have h:=dD<|zd (za _ _) a (nR _);clear d a;go_wp2
 go_loopg [8] 0 (fun _ a wr=>a=I6 0/\wr=g)
 case atStart=>exact⟨rfl,rfl⟩
 obtain⟨rfl,rfl⟩:=hrel;go_wp2;go_ret;exact⟨_,rfl,f.new,h⟩
theorem zkv (n:Nat) (z:n<=40) (w:Xn):
  Xp prog 15 #[I6 (n:Int)] w fun e w'=>∃b,e= Xl (Xm #[Xi #[b,I6 0],I6 0])/\qR w.heap.size w' b (Xr n frF)/\zb w w':=by
 have B:¬(n:Int)<0:=by omega
 have A:¬(40:Int)< (n:Int):=by omega
 have d:∀W x,Box W x (frv frF)->Xp prog 25 #[O (Xa ⟨x,0,Xb⟩) 1 1,I6 (n:Int)] W fun e w'=>∃b,e= Xl b/\qR W.heap.size w' b (Xr n frF)/\zb W w':=fun W x C=>by
  by_cases u:1<=n
  ·refine zgM frF x 1 n z u W ⟨⟨_,1,rfl,fun h=>(by cases h),fun L D=>?_⟩,by show 1*40<=_;omega⟩
   cases D;intro E K y;rw[Addr.add_lit,zA];exact C.c E (by have h:=y;simp only[List.flatMap_cons,List.flatMap_nil,List.append_nil]at h;exact h)
  have:n=0:=by omega
  subst this;exact zh4 frF x 1 W
 go_enter func15,ntmps15
 go_wp2_with fail;refine(Jc _).mono ?_;rintro e g ⟨rfl,i⟩;have m:=dD<|(Box.top w [eS,I6 0] _ rfl).grew i;have k:Xo (zb w g):=(za _ _).trans i;clear i;simp only[frv,frF,pg0];go_wp2_with fail;refine(d _ _ (Box.top g _ _ rfl)).mono ?_;rintro e t ⟨b,rfl,f,j⟩;obtain⟨p,q,rfl,_⟩:=f.1.rows;rw[lR]at f⊢;have s:Xo (qR g.heap.size t (O p n q) (Xr n frF)):=f.base (by simp)
 have c:=(m.alloc (Xk #[U8 0,U8 0,U8 0,U8 0,U8 0,U8 0,U8 0,U8 0,I6 0,Xh Xd,Xh Xd,I6 (-1),I6 0] 93)).grew j;have r:=dD ((k.trans (za _ _)).trans j);have F:=c.c 0 rfl;have G:=c.c 1 rfl;have H:=c.f;have l:=dD m.lt;clear f j;go_wp2;refine bodyPost_ret (v:= Xm #[Xi #[O p n q,I6 0],I6 0]) (by simp[results,Tryz.results15,go_sem, *]) rfl ⟨_,rfl,?_,?_⟩
 ·exact((s.setCell (a:=⟨w.heap.size,0,Xb⟩) l _).setCell (a:=⟨w.heap.size,1,Xb⟩) l _).base (bS k)
 exact zL (zL r (by simp) _) (by simp) _
theorem zkw (n:Int) (a:¬(0<=n/\n<=40)) (w:Xn):
  Xp prog 15 #[I6 n] w fun e w'=>∃b,e= Xl (Xm #[Xi #[b,I6 0],I6 4])/\qR w.heap.size w' b ([]:List Fr)/\zb w w':=by
 by_cases a:n<0
 ·go_enter func15,ntmps15
  go_wp2;refine bodyPost_ret (v:= Xm #[Xi #[eS,I6 0],I6 4]) (by simp[results,Tryz.results15,go_sem, *]) rfl ⟨_,rfl,qR.nil _ _,?_⟩
  exact za _ _
 have a:40<n:=by omega
 go_enter func15,ntmps15
 go_wp2;refine bodyPost_ret (v:= Xm #[Xi #[eS,I6 0],I6 4]) (by simp[results,Tryz.results15,go_sem, *]) rfl ⟨_,rfl,qR.nil _ _,?_⟩
 exact za _ _
theorem zow (n:Nat) (a:n<=60) (w:Xn):
  Xp prog 16 #[I6 (n:Int)] w fun e w'=>∃a b,e= Xl (Xm #[O a n b,I6 0])/\qj slE w.heap.size w' (O a n b) (Xr n 0)/\zb w w':=by
 have a:¬(n:Int)<0:=by omega
 have a:¬(60:Int)< (n:Int):=by omega
 go_enter func16,ntmps16
 go_wp2_with (refine qX slE rfl (.tmp 10) rfl n rfl (by show n*8<=_;omega) ?_)
 intro C a;have b:Xo (zc slE w.heap.size (w.alloc (Xk C 3)) (O (Xa ⟨w.heap.size,0,Xb⟩) n n) (Xr n 0)):=a;clear a
 show wpList _ _ _ _ _ (w.alloc (Xk C 3))
 obtain⟨a,a⟩:=kB (w.alloc (Xk C 3));have c:=gA a
 rw[a]at b⊢;clear a;go_wp2;refine bodyPost_ret (v:= Xm #[O (Xa ⟨w.heap.size,0,Xb⟩) n n,I6 0]) (by simp[results,Tryz.results16,go_sem, *]) rfl ⟨_,_,rfl,b.new,c⟩
theorem zox (n:Int) (a:¬(0<=n/\n<=60)) (w):
  Xp prog 16 #[I6 n] w fun e w'=>e= Xl (Xm #[eS,I6 4])/\zb w w':=by
 by_cases b:n<0
 ·clear a
  go_enter func16,ntmps16
  go_wp2;refine bodyPost_ret (v:= Xm #[eS,I6 4]) (by simp[results,Tryz.results16,go_sem, *]) rfl ⟨rfl,zb.refl _⟩
 have b:60<n:=by omega
 clear a
 go_enter func16,ntmps16
 go_wp2;refine bodyPost_ret (v:= Xm #[eS,I6 4]) (by simp[results,Tryz.results16,go_sem, *]) rfl ⟨rfl,zb.refl _⟩
theorem zgF (v) (fs:List Int) (b:Int) (w) (x:zl blE w v fs):
  Xp prog 251 #[v,I6 b] w fun e w'=>(∃z:Int,e= Xl (I6 z)/\decide (0<=z)=fs.contains b)/\zb w w':=by
 have k:=x.short;obtain⟨K,M,rfl,d⟩:=x.nums;have C:=dD d;clear d x;obtain⟨n,s⟩:=kA fs.length;rw[s.out]at k⊢;obtain⟨i,c⟩:=kA (fs.contains b);rw[c.out]
 go_enter func251,ntmps251
 go_wp2
 go_loopg [5,8] n (fun D _ H wr=>∃a:Nat,a<=n/\n - a<=D/\H=I6 a/\Xo (zb w wr)/\Xo (∀(j:Nat) q,j<a->fs[j]? =Xa q->¬b=q))
 case atStart=>exact⟨0,nZ _,by omega,rfl,zb.refl w,fun j q l=>absurd l (nL _)⟩
 obtain⟨a,F,P,rfl,p,A⟩:=hrel
 by_cases f:a<n
 ·have m:=kC f
  obtain⟨q,t⟩:∃q,Xo (fs[a]? =Xa q):=⟨_,gE (by rw[s.out];exact f)⟩
  obtain⟨L,rfl,y⟩:=C.out a q t.out;have N:=y wr p.out;clear y
  by_cases h:b=q
  ·have u:(b == q)=Xc:=by simpa using h
   have r:Xo (decide (0<=(a:Int))=i):=dD<|by
    rw[<-c.out,h,Yc.2 (mG t.out)];simp
   clear h;go_wp2;go_ret;exact⟨⟨_,rfl,r⟩,p⟩
  have u:(b == q)=Xd:=by simpa using h
  have B:Xo (∀(j:Nat) q,j<a+1->fs[j]? =Xa q->¬b=q):=dD<|fun j G l g=>by
   by_cases e:j=a
   ·subst e;rw[t.out]at g;cases g;exact h
   exact A j G (by omega) g
  clear h;go_wp2
  go_roundg (n -(a+1))
  case measure=>omega
  exact⟨a+1,by omega,by omega,by go_num,p,B⟩
 have m:=kD f
 have:a=n:=by omega
 subst this;have r:Xo (decide (0<=(-1:Int))=i):=dD<|by
  have:fs.contains b=Xd:=by
   cases E:fs.contains b with
   | false=>rfl
   | true=>
    obtain⟨j,l⟩:=Yf (Yc.1 E);exact absurd rfl (A j b (by rw[<-s.out];exact(gS.1 l).1) l)
  rw[<-c.out,this];rfl
 go_wp2;go_ret;exact⟨⟨_,rfl,r⟩,p⟩
theorem zdJ (v) (fs:List Int) (b:Int) (w) (c:zl blE w v fs):
  Xp prog 245 #[v,I6 b] w fun e w'=>e= Xl (Xh (fs.contains b))/\zb w w':=by
 have a:=zgF v fs b w c;obtain⟨d,d,rfl,_⟩:=c.nums;clear c
 generalize fs.contains b=c at a⊢
 generalize fs.length=n at a⊢
 go_enter func245,ntmps245
 go_wp2_with fail;refine a.mono ?_;rintro e c ⟨⟨z,rfl,d⟩,c⟩;have f:=dD c;clear c a;have a:=dD d;clear d;go_wp2;go_ret;exact⟨by rw[<-a.out];rfl,f⟩
theorem zqp (f:Fl) (g) (h:Nat) (b:Int) (p:Nat) (w) (hb:Box w p [I6 b]) (n:zl blE w (O g f.bl.length h) f.bl):
  Xp prog 244 #[Xi #[I6 f.size,O g f.bl.length h],Xj (Xa ⟨p,0,Xb⟩)] w fun e w'=>e= Xl (Xh (f.bl.contains b))/\zb w w':=by
 have j:∀W,zb w W->Xp prog 245 #[O g f.bl.length h,I6 b] W fun e w'=>e= Xl (Xh (f.bl.contains b))/\zb W w':=fun W c=>zdJ _ f.bl b W (n.grew c)
 have k:=hb.lt;have c:p≠w.heap.size:=by omega
 have c:w.heap.size≠p:=by omega
 obtain⟨c,c⟩:=kB (w.alloc (Xk #[I6 f.size,O g f.bl.length h] 159));have d:=gA c
 have l:=(hb.grew d).c 0 rfl;have m:(w.alloc (Xk #[I6 f.size,O g f.bl.length h] 159)).cell? ⟨p,0,Xb⟩=Xa (I6 b):=by rw[c];exact l
 have i:=dD c;clear c n hb
 generalize f.bl.contains b=c at j⊢
 generalize f.bl.length=n at*
 generalize f.size=q at*
 have c:=World.cell?_of_block (w:=w) (w':=w.alloc (Xk #[I6 q,O g n h] 159)) (a:=⟨p,0,Xb⟩) (Below.heap_alloc _ _ _ k);rw[m]at c;have g:=c.symm;clear l m c
 go_enter func244,ntmps244
 go_wp2_with fail;rw[i.out];refine(j _ d).mono ?_;rintro e c ⟨rfl,c⟩;have g:=dD (d.trans c);clear c j;go_wp2;go_ret;exact⟨rfl,g⟩
theorem zfq (v fs) (b:Int) (p:Nat) (w) (hb:Box w p [I6 b]) (d:qq w v fs):
  Xp prog 252 #[v,.func (.func 244) #[] #[Xj (Xa ⟨p,0,Xb⟩)]] w fun e w'=>(∃z:Int,e= Xl (I6 z)/\decide (0<=z)=qe fs b)/\zb w w':=by
 obtain⟨a,c,rfl,c,a⟩:=d.rows;have s:=dD a;have l:=dD hb;have f:=enters_of func244 (by kernel_rfl) rfl
 clear a d hb;obtain⟨n,u⟩:=kA fs.length;rw[u.out]at c⊢;obtain⟨k,d⟩:=kA (qe fs b);rw[d.out]
 go_enter func252,ntmps252
 go_wp2
 go_loopg [5,8] n (fun a _ f wr=>∃c:Nat,c<=n/\n - c<=a/\f=I6 c/\Xo (zb w wr)/\Xo (∀(j:Nat) (q:Fl),j<c->fs[j]? =Xa q->q.bl.contains b=Xd))
 case atStart=>exact⟨0,nZ _,by omega,rfl,zb.refl w,fun j q m=>absurd m (nL _)⟩
 obtain⟨c,a,a,rfl,h,A⟩:=hrel
 by_cases f:c<n
 ·have r:=kC f
  obtain⟨q,x⟩:∃q,Xo (fs[c]? =Xa q):=⟨_,gE (by rw[u.out];exact f)⟩
  obtain⟨a,rfl,t,y,g,i⟩:=s.out c q x.out;obtain⟨a,a⟩:=i wr h.out;have a:=zqp q t y b p wr (l.grew h) (g.grew h);clear i g
  cases i:q.bl.contains b with
  | true=>
   rw[i]at a;have t:Xo (decide (0<=(c:Int))=k):=dD<|by
    rw[<-d.out];unfold qe;rw[zrs x.out i];simp
   clear i;go_wp2_with fail;refine a.mono ?_;rintro e z ⟨rfl,l⟩;have s:=dD (h.trans l);clear l a;go_wp2;go_ret;exact⟨⟨_,rfl,t⟩,s⟩
  | false=>
   rw[i]at a;have y:Xo (∀(j:Nat) (q:Fl),j<c+1->fs[j]? =Xa q->q.bl.contains b=Xd):=dD<|fun j B m g=>by
    by_cases e:j=c
    ·subst e;rw[x.out]at g;cases g;exact i
    exact A j B (by omega) g
   clear i;go_wp2_with fail;refine a.mono ?_;rintro e z ⟨rfl,l⟩;have s:=dD (h.trans l);clear l a;go_wp2
   go_roundg (n -(c+1))
   case measure=>omega
   exact⟨c+1,by omega,by omega,by go_num,s,y⟩
 have r:=kD f
 have:c=n:=by omega
 subst this;have t:Xo (decide (0<=(-1:Int))=k):=dD<|by
  rw[<-d.out];unfold qe;rw[zrr (fun j q m=>A.out j q (by rw[<-u.out];exact(gS.1 m).1) m)]
  rfl
 go_wp2;go_ret;exact⟨⟨_,rfl,t⟩,h⟩
theorem zcA (v fs) (b:Int) (p:Nat) (w) (hb:Box w p [I6 b]) (c:qq w v fs):
  Xp prog 246 #[v,.func (.func 244) #[] #[Xj (Xa ⟨p,0,Xb⟩)]] w fun e w'=>e= Xl (Xh (qe fs b))/\zb w w':=by
 have a:=zfq v fs b p w hb c;obtain⟨d,d,rfl,_⟩:=c.rows;clear c hb
 generalize qe fs b=c at a⊢
 generalize fs.length=n at a⊢
 go_enter func246,ntmps246
 go_wp2_with fail;refine a.mono ?_;rintro e c ⟨⟨z,rfl,d⟩,c⟩;have f:=dD c;clear c a;have a:=dD d;clear d;go_wp2;go_ret;exact⟨by rw[<-a.out];rfl,f⟩
end
end Go.Proofs.YtmfckdkcmbncdaaGreat
