import Derived.Test.YtmfckdkcmbncdaaGreatFP9
namespace Go.Proofs.YtmfckdkcmbncdaaGreat
open Go.Value renaming slice→O,int→Xe,bool→Xh,agg→Xi,pointer→Xj,tuple→Xm
open Go.IntKind renaming i64→Xf,u8→Xg
open Go.Obj renaming cells→Xk
open Go.Ending renaming returned→Xl
open Go renaming World→Xn,Calls→Xp,Value→Xq
open Go.RowKit renaming Hid→Xo
open Option renaming some→Xa,none→Xb
open Bool renaming true→Xc,false→Xd
open List renaming replicate→Xr
open _root_.Nat renaming lt_of_lt_of_le→Xs,pos_of_ne_zero→Ya,lt_or_ge→Yb
open _root_.List renaming mem_cons_self→Xt,getElem?_append_left→Xv,length_set→Xw,mem_cons_of_mem→Xx,getElem?_of_mem→Xy,mem_singleton→Xz,range→Yc
open Go.Act renaming put→Xu
set_option maxRecDepth 100000
set_option maxHeartbeats 4000000
variable{B B0 b base' g kk:Nat} {V:MaV} {W w' w0 w1 w2:Xn} {l:List Ar} {m m':Ma} {us vs:List Xq} {y z:Int}
open Go.Proofs.Tryz
section
open Go.RowKit
theorem zeo {k:Func} {p q:Tmp} {f c:TypeId} (r:k.results=#[.cell p f,.cell q c]) (a:Array Xq) {w:Xn} {e:Nat} (hp:a.getD p undef= Xj (Xa ⟨b,0,Xb⟩)) (t:a.getD q undef= Xj (Xa ⟨e,0,Xb⟩)) (hb:Box w b vs) (h:Box w e us) {d g:TypeDesc} (u:Tryz.prog.underlying f=Xa d) (s:d.isRow=Xc) (hi:(Tryz.prog.info? f).map (·.size)=Xa vs.length) (n:Tryz.prog.underlying c=Xa g) (i:g.isRow=Xc) (j:(Tryz.prog.info? c).map (·.size)=Xa us.length):
  (results k a).run prog w= .ok (Xm #[Xi vs.toArray,Xi us.toArray]) w:=by
 have l:a[p]?.getD undef= Xj (Xa ⟨b,0,Xb⟩):=by simpa using hp
 have m:a[q]?.getD undef= Xj (Xa ⟨e,0,Xb⟩):=by simpa using t
 have k:=run_loadVar_mid (P:=prog) w b 0 f vs d hb.range u s hi;have a:=run_loadVar_mid (P:=prog) w e 0 c us g h.range n i j
 simp[results,r,l,m,asAddr,k,a]
theorem zmi {l:List (Int × Xq)} {x:Xq} {k:Int} (o:Oper) (a:Act) (y z w) (f:o.op= .lookup 82 y z Xc) (i:a.eval y= .map (Xa B)) (j:a.eval z=I6 k) (d:zdW w B l) (g:Qu l k=Xa x):(execOp a.eval o).run prog w= .ok (.value (Xm #[x,Xh Xc])) w:=by
 obtain⟨c,b⟩:∃c,(zeroValue 80).run prog w= .ok c w:=⟨.nilFunc,by go_simp⟩
 have h:=d.look (t:=82) (e:=80) underlying3 underlying82 b k;rw[g]at h;simp only[execOp,f,i,j,Sem.run_bind,h,rA,Sem.run_pure];rfl
theorem zdV.doneD {w:Xn} (h:zdV B w V m) (a:B0<=B) (o:zm (fun k=>k<B0) w W):zE W V m:=by
 obtain⟨r,c⟩:=h.changeW (p:=w.heap.size) a (nR _) (o.wide fun k a=> .inl a)
 obtain⟨d,f,j,n,q,t,u⟩:=h.sp;have a:∀{b:Type} {E:Elt b} {v:Xq} {l:List b},zc E B w v l->zl E W v l:=fun b=>zc.at (base:=B) ⟨jh b.1 o (fun g i e=>by have:=(b.lt g i).1;have e:g<B0:=e;omega),b.2⟩
 exact⟨a h.fs,r.sl,r.sb,r.sq,r.db,r.dq,r.fl,a h.ca,⟨d,a j,n,fun i x s b a=>c d f q t u i x s b a⟩⟩
def Did (m:Ma) (K:Int->Int->List Int->Ma->Prop) (w:Xn) (e:Ending) (w':Xn):Prop:=
 ∃(er n:Int) (s:Sli) (l:List Int) (m' m2:Ma) (V':MaV),e= Xl (Xm #[Xi (mL V' m2).toArray,Qi er n s])/\K er n l m'/\((er=0/\m2=m')\/(er≠0/\m2=m))/\∀W,zm (fun k=>k<w.heap.size) w' W->zE W V' m2/\zl byE W (s.x) l
def J5 (w:Xn) (m:Ma) (c:Cl) (K:Int->Int->List Int->Ma->Prop):Prop:=
 ∀(w0 W:Xn) (p:Nat) (V1:MaV) (v:Xq),zb w w0->ChW w0 p W V1 m->qS W c.kind v->∃(F:Nat) (caps:Array Xq),v= .func (.func F) #[] caps/\Enters prog F/\Xp prog F (#[Xj (Xa ⟨p,0,Xb⟩),Xi #[I6 c.kind,I6 c.proc,I6 c.pt,I6 c.n,I6 c.file,I6 c.base,Xh c.rd,Xh c.wr,Xh c.sh,c.dv.x]]++caps) W fun e w'=>Ql K w0 p W W e w'
theorem zrh (V m w) (k:zE w V m) (j:maW m=0) (c:Cl) (K:Int->Int->List Int->Ma->Prop) (g:1<=c.kind/\c.kind<=15) (f:J5 w m c K):
  Xp prog 14 #[Xi (mL V m).toArray,Xi #[I6 c.kind,I6 c.proc,I6 c.pt,I6 c.n,I6 c.file,I6 c.base,Xh c.rd,Xh c.wr,Xh c.sh,c.dv.x]] w fun e w'=>Did m K w e w'/\zb w w':=by
 have ac:=dD k;have a:=dD j;have r:=dD g;have t:=dD f;obtain⟨b,y⟩:=kA w.heap.size;obtain⟨d,a⟩:=kB ((((w.alloc (Xk (mL V m).toArray 45)).alloc (Xk #[I6 c.kind,I6 c.proc,I6 c.pt,I6 c.n,I6 c.file,I6 c.base,Xh c.rd,Xh c.wr,Xh c.sh,c.dv.x] 25)).alloc (Xk zM.toArray 45)).alloc (Xk #[I6 0,I6 0,eS] 54));have l:Xo (zb w d):=show zb _ _ by rw[<-a];exact(((za _ _).trans (za _ _)).trans (za _ _)).trans (za _ _)
 have p:Xo (zn d b 45 (chL V m)):=dD<|by rw[<-a];exact(zn.top w (chL V m) _ y.symm).grew (((za _ _).trans (za _ _)).trans (za _ _))
 have q:Xo (zn d (b+1) 25 [I6 c.kind,I6 c.proc,I6 c.pt,I6 c.n,I6 c.file,I6 c.base,Xh c.rd,Xh c.wr,Xh c.sh,c.dv.x]):=dD<|by rw[<-a];exact(zn.top _ [I6 c.kind,I6 c.proc,I6 c.pt,I6 c.n,I6 c.file,I6 c.base,Xh c.rd,Xh c.wr,Xh c.sh,c.dv.x] _ (by have:=y.out;simp;omega)).grew ((za _ _).trans (za _ _))
 have s:Xo (zn d (b+2) 45 zU):=dD<|by rw[<-a];exact(zn.top _ zU _ (by have:=y.out;simp;omega)).grew (za _ _)
 have A1:Xo (zn d (b+3) 54 [I6 0,I6 0,eS]):=dD<|by rw[<-a];exact zn.top _ [I6 0,I6 0,eS] _ (by have:=y.out;simp;omega)
 have i:=dD a;have h:=QA V m d (k.grew l) j;have F:Xo ((Tryz.prog.info? 45).map (·.size)=Xa (chL V m).length):=show _=_ by kernel_rfl
 clear a k j g f
 go_enter func14,ntmps14
 go_upto_region 1 with fail;rw[i.out,y.out]
 go_wp2_with (first | refine zo rfl 45 (.tmp 2) rfl b rfl p.box underlying45 rfl F.out ?_ | (go_at_call 20;refine h.mono ?_))
 clear h;rintro e d ⟨rfl,a⟩;have G:=dD (l.trans a);have H:=dD (p.grew a);have E:=dD (q.grew a);have L:=dD (s.grew a);have A2:=dD (A1.grew a);clear a;go_upto_region 4 with fail;have A:∀a:zg d,a.world.cell? ⟨b+1,0,Xb⟩=Xa (I6 c.kind):=fun a=>(E.box.grew a.grew).c 0 rfl
 have z:Nonempty (zg d):=⟨⟨_,zb.refl _⟩⟩;refine qu [(0,⟨fun d=>∃B,d= .map (Xa B),fun d w=>∃(B:Nat) (p:List (Int × Xq)),d= .map (Xa B)/\zdW w B p/\(∀k d,Qu p k=Xa d->qS w k d)/\∀k,(Qu p k).isSome=decide (1<=k/\k<=15)⟩),(3,⟨fun d=>∃x,d= Xm #[x,Xh Xc],fun d w=>∃x,d= Xm #[x,Xh Xc]/\qS w c.kind x⟩)] zZ (by kernel_rfl) ?_ ?_ ?_
 ·intro x a;simp only[mC,nM,or_false]at a
  rcases a with rfl|rfl
  ·exact⟨_,0,rfl⟩
  exact⟨_,I6 0,rfl⟩
 ·intro x a;simp only[mC,nM,or_false]at a
  rcases a with rfl|rfl
  ·rintro d u s h ⟨B,p,l,C,i,q⟩;exact⟨B,p,l,C.grew h,fun k d j=>(i k d j).grew h,q⟩
  rintro d u s h ⟨x,l,C⟩;exact⟨x,l,C.grew h⟩
 refine zC rfl rfl (fun w' h f=>?_) (fun u j=>?_)
 ·refine zR.call [] rfl func22 rfl rfl rfl ?_;refine(zlS w').mono ?_;rintro e a8 ⟨⟨B,p,rfl,l,C,i⟩,s⟩;exact⟨_,rfl,s,⟨B,rfl⟩,B,p,rfl,l,C,i⟩
 obtain⟨B,rfl⟩:=j;simp only[Xu,sB,sS,sZ];iterate 2 refine zf ?_
 refine zC rfl rfl (fun w' h f=>?_) (fun u j=>?_)
 ·obtain⟨h,p,h,l,C,i⟩:=f 0 (by kernel_rfl)
  cases h;obtain⟨x,a⟩:∃x,Qu p c.kind=Xa x:=by
   have q:=i c.kind;rw[decide_eq_true r.out]at q;exact Option.isSome_iff_exists.1 q
  refine zR.step (v:= Xm #[x,Xh Xc]) (w':=w') (zmi _ _ _ _ w' rfl rfl rfl l a) ⟨zb.refl _,⟨x,rfl⟩,x,rfl,C _ _ a⟩
 obtain⟨x,rfl⟩:=j;simp only[Xu,sB,sS,sZ];iterate 5 refine zf ?_
 refine zP fun U a f=>?_
 obtain⟨B,i,h⟩:=f 3;have j:B=x:=by
  have l:(Value.tuple #[x,Xh Xc])= Xm #[B,Xh Xc]:=i;simp only[Value.tuple.injEq,Array.mk.injEq,List.cons.injEq,and_true]at l;exact l.symm
 subst j;have u:=dD h;have D:=dD (G.trans a);have N:=dD (H.grew a);have r:=dD (E.grew a);have P:=dD (L.grew a);have L:=dD (A2.grew a);clear a f i h A z;have a:=zgo V m U (ac.grew D)
 go_wp2_with (first | refine zo rfl 45 (.tmp 2) rfl b rfl N.box underlying45 rfl F.out ?_ | (go_at_call 24;refine a.mono ?_))
 clear a;rintro e X ⟨s,a,E,rfl,f,h,j,z,q⟩;have M:=dD<|ChW.of f h q j z
 have G:=dD (r.grew q);have r:=dD L.box.lt;obtain⟨a,a,i,A,a⟩:=t.out U X s E B D M (u.grew q);subst i;have t:=dD A;have i:=a;clear f h j z q A a
 go_wp2_with (first | refine zo rfl 25 (.tmp 3) rfl (b+1) rfl G.box underlying25 rfl (by kernel_rfl) ?_ | fail)
 rw[t.out];refine i.mono ?_;clear i;rintro e Y ⟨A,n,j,p,z,u,rfl,g,t,a,q,f⟩;have T:=dD q;have i:=dD f;have ab:=dD g;have h:=dD a;have G:Xo (∀d∈chL z u,d.oneCell'=Xc):=show∀d∈chL z u,_ by simp[chL,Value.oneCell']
 clear q f g t a;unfold Qi;go_upto_region 9 with fail;obtain⟨a6,B⟩:=kA Y.heap.size;obtain⟨f,a⟩:=kB (Y.alloc (Xk #[I6 A,I6 n,j.x] 54));have H:=gP a
 have a3:=xPT a B
 have E:=dD H;have q:=dD (h.trans H);have t:=dD M.lo;have R:Xo (U.heap.size<=a6):=show _<=_ by rw[<-B.out];exact bS h.out
 rw[a,B.out];clear a H;have af:=dD (N.grew q);have ad:=dD (P.grew q);have I:=dD (L.grew q);have Q:=dD I.box.lt;have ae:=a3.box.c 0 rfl
 by_cases P:A=0
 ·have aa:=dD P;obtain⟨a,ag⟩:=i.out P;have H:=dD<|a.grew E.out;have h:Xo ((Tryz.prog.info? 45).map (·.size)=Xa (chL z u).length):=show _=_ by kernel_rfl
  subst P;clear a;go_upto_region 11 with fail;clear ae;refine wp_region_held (S:=fun W=>zm (fun k=>k=b+2\/k=b+3) f W/\zb w W) zZ ?_
  show wpAnyH _ _ _ _ _ 7 (Array.replicate 7 Xd) _ f.drew
  have B:zb f f.drew:=(gW _)
  have a:zm (fun k=>k=b+2\/k=b+3) f f.drew/\zb w f.drew:=⟨zm.grew B,(D.trans q).trans B⟩
  have a9:=ad.grew B;have a4:=I.grew B;refine qQ 0 (Xa 42) (Xj (Xa ⟨s,0,Xb⟩)) a ?_
  simp only[Xu,sB,sS,sZ];refine qQ 1 (Xa 43) (Xj (Xa ⟨s,0,Xb⟩)) a ?_
  simp only[Xu,sB,sS,sZ];refine qQ 2 (Xa 44) (Xj (Xa ⟨s,0,Xb⟩)) a ?_
  simp only[Xu,sB,sS,sZ];refine jl 3 (Xa 45) (Xi (chL z u).toArray) rfl rfl (by kernel_rfl) (by kernel_rfl) (by kernel_rfl) (fun _ _ _ L=>L) (yieldsIf_load_mid rfl 45 (.tmp 44) rfl s 0 rfl (chL z u) _ (fun W i=>(H.outD i.1 (by have:=t.out;have:=r.out;omega)).box.range) underlying45 rfl h) a ?_
  simp only[Xu,sB,sS,sZ];refine jl 4 (Xa 46) (Xi #[I6 0,I6 n,j.x]) rfl rfl (by kernel_rfl) (by kernel_rfl) (by kernel_rfl) (fun _ _ _ L=>L) (yieldsIf_load_mid rfl 54 (.tmp 10) rfl a6 0 rfl ([I6 0,I6 n,j.x]) _ (fun W i=>(a3.outD i.1 (by have:=R.out;have:=r.out;omega)).box.range) underlying54 rfl (by kernel_rfl)) a ?_
  simp only[Xu,sB,sS,sZ];refine wpAnyH_all (rs:=[5]) (by kernel_rfl) (by simp) ?_
  intro Z h;simp only[mC,nM,or_false]at h;subst h;refine qk Xb (fun d w'=>zn w' (b+2) 45 (chL z u)/\(f.drew).grownBy w' (Xa (b+2))) rfl rfl rfl (zR.storeAllT 45 (.tmp 4) (.tmp 45) rfl (b+2) rfl (chL z u) rfl a9 rfl (by kernel_rfl) G (fun w' G H a7=>⟨G,H⟩)) ?_
  rintro d s ⟨a1,t⟩;have M:zm (fun k=>k=b+2\/k=b+3) f s/\zb w s:=⟨a.1.trans (zm.grown t (.inl rfl)),zd a.2 t (by have:=y.out;omega)⟩
  have N:=a4.beside t (fun k e=>by cases e;omega)
  refine⟨M,?_⟩;simp only[Xu];refine wpAnyH_all (rs:=[6]) (by kernel_rfl) (by simp) ?_
  intro Z h;simp only[mC,nM,or_false]at h;subst h;refine qk Xb (fun d w'=>zn w' (b+3) 54 ([I6 0,I6 n,j.x])/\(s).grownBy w' (Xa (b+3))) rfl rfl rfl (zR.storeAllT 54 (.tmp 5) (.tmp 46) rfl (b+3) rfl ([I6 0,I6 n,j.x]) rfl N rfl (by kernel_rfl) (by simp[Value.oneCell']) (fun w' G H a7=>⟨G,H⟩)) ?_
  rintro d t ⟨a5,s⟩;have N:zm (fun k=>k=b+2\/k=b+3) f t/\zb w t:=⟨M.1.trans (zm.grown s (.inr rfl)),zd M.2 s (by have:=y.out;omega)⟩
  have M:=a1.beside s (fun k e=>by cases e;omega)
  refine⟨N,?_⟩;simp only[Xu];refine wpAnyH_done (by kernel_rfl) ?_ _
  have a2:=dD M;have a1:=dD a5;have M:zm (Aft U X X) Y t:=(zm.grew E).trans (N.1.wide fun k g=> .inl (by have:=r.out;rcases g with g | g <;> omega))
  have s:Xo (Did m K w (Xl (Xm #[Xi (mL z u).toArray,Qi 0 n j])) t/\zb w t):=dD<|⟨⟨0,n,j,p,u,u,z,rfl,ab,.inl ⟨rfl,rfl⟩,fun W i=>⟨ag W (M.trans (i.wide fun k g=> .inl (Xs g (bS D)))),T W (M.trans (i.wide fun k g=> .inl (Xs g (bS D))))⟩⟩,N.2⟩
  go_wp2;refine bodyPost_ret (zeo rfl _ rfl rfl a2.box a1.box underlying45 rfl (by kernel_rfl) underlying54 rfl (by kernel_rfl)) rfl s.out
 have aa:=dD P;have t:(A != 0)=Xc:=by simp[P]
 clear P;go_upto_region 10 with fail;clear ae t;refine wp_region_held (S:=fun W=>zm (fun k=>k=b+2\/k=b+3) f W/\zb w W) zZ ?_
 show wpAnyH _ _ _ _ _ 5 (Array.replicate 5 Xd) _ f.drew
 have B:zb f f.drew:=(gW _)
 have a:zm (fun k=>k=b+2\/k=b+3) f f.drew/\zb w f.drew:=⟨zm.grew B,(D.trans q).trans B⟩
 have a9:=ad.grew B;have a4:=I.grew B;refine jl 0 (Xa 39) (Xi (chL V m).toArray) rfl rfl (by kernel_rfl) (by kernel_rfl) (by kernel_rfl) (fun _ _ _ L=>L) (yieldsIf_load_mid rfl 45 (.tmp 2) rfl b 0 rfl (chL V m) _ (fun W i=>(af.outD i.1 (by omega)).box.range) underlying45 rfl F) a ?_
 simp only[Xu,sB,sS,sZ];refine jl 2 (Xa 41) (Xi #[I6 A,I6 n,j.x]) rfl rfl (by kernel_rfl) (by kernel_rfl) (by kernel_rfl) (fun _ _ _ L=>L) (yieldsIf_load_mid rfl 54 (.tmp 10) rfl a6 0 rfl ([I6 A,I6 n,j.x]) _ (fun W i=>(a3.outD i.1 (by have:=R.out;have:=r.out;omega)).box.range) underlying54 rfl (by kernel_rfl)) a ?_
 simp only[Xu,sB,sS,sZ];refine wpAnyH_all (rs:=[1]) (by kernel_rfl) (by simp) ?_
 intro Z h;simp only[mC,nM,or_false]at h;subst h;refine qk (Xa 40) (fun d w'=>∃q:MaV,d= Xi (mL q m).toArray/\zdV (f.drew).heap.size w' q m/\zb (f.drew) w') rfl rfl rfl (zR.call [Xi (mL V m).toArray] rfl func23 rfl rfl rfl ((zfb V m (f.drew) (ac.grew a.2)).mono ?_)) ?_
 ·rintro e a8 ⟨q,rfl,l,C⟩;exact⟨_,rfl,q,rfl,l,C⟩
 rintro d t ⟨q,rfl,N,l⟩;have C:b+3< (f.drew).heap.size:=Xs Q a.1.size;have z:zm (fun k=>k=b+2\/k=b+3) f t/\zb w t:=⟨a.1.trans (zm.grew l),a.2.trans l⟩
 have B:=a9.grew l;have F:=a4.grew l;have l:∀d∈chL q m,d.oneCell'=Xc:=by simp[chL,Value.oneCell']
 refine⟨z,?_⟩;simp only[Xu,sB,sS,sZ];refine wpAnyH_all (rs:=[3]) (by kernel_rfl) (by simp) ?_
 intro Z h;simp only[mC,nM,or_false]at h;subst h;refine qk Xb (fun d w'=>zn w' (b+2) 45 (chL q m)/\(t).grownBy w' (Xa (b+2))) rfl rfl rfl (zR.storeAllT 45 (.tmp 4) (.tmp 40) rfl (b+2) rfl (chL q m) rfl B rfl (by kernel_rfl) l (fun w' G H a7=>⟨G,H⟩)) ?_
 rintro d t ⟨L,l⟩;have B:zm (fun k=>k=b+2\/k=b+3) f t/\zb w t:=⟨z.1.trans (zm.grown l (.inl rfl)),zd z.2 l (by have:=y.out;omega)⟩
 have z:=F.beside l (fun k e=>by cases e;omega)
 have F:=N.below l (by have:=C;omega) (nR _)
 refine⟨B,?_⟩;simp only[Xu];refine wpAnyH_all (rs:=[4]) (by kernel_rfl) (by simp) ?_
 intro Z h;simp only[mC,nM,or_false]at h;subst h;refine qk Xb (fun d w'=>zn w' (b+3) 54 ([I6 A,I6 n,j.x])/\(t).grownBy w' (Xa (b+3))) rfl rfl rfl (zR.storeAllT 54 (.tmp 5) (.tmp 41) rfl (b+3) rfl ([I6 A,I6 n,j.x]) rfl z rfl (by kernel_rfl) (by simp[Value.oneCell']) (fun w' G H a7=>⟨G,H⟩)) ?_
 rintro d d ⟨t,h⟩;have l:zm (fun k=>k=b+2\/k=b+3) f d/\zb w d:=⟨B.1.trans (zm.grown h (.inr rfl)),zd B.2 h (by have:=y.out;omega)⟩
 have b:=L.beside h (fun k e=>by cases e;omega)
 have f:=F.below h (by have:=C;omega) (nR _)
 refine⟨l,?_⟩;simp only[Xu];refine wpAnyH_done (by kernel_rfl) ?_ _
 have a2:=dD b;have a1:=dD t;have M:zm (Aft U X X) Y d:=(zm.grew E).trans (l.1.wide fun k g=> .inl (by have:=r.out;rcases g with g | g <;> omega))
 have s:Xo (Did m K w (Xl (Xm #[Xi (mL q m).toArray,Qi A n j])) d/\zb w d):=dD<|⟨⟨A,n,j,p,u,m,q,rfl,ab,.inr ⟨aa,rfl⟩,fun W i=>⟨(f).doneD (nR _) (i.wide fun k g=>Xs g (bS a.2)),T W (M.trans (i.wide fun k g=> .inl (Xs g (bS D))))⟩⟩,l.2⟩
 go_wp2;refine bodyPost_ret (zeo rfl _ rfl rfl a2.box a1.box underlying45 rfl (by kernel_rfl) underlying54 rfl (by kernel_rfl)) rfl s.out
theorem zcI:Enters prog 73:=enters_of func73 (by kernel_rfl) rfl
theorem works_load (w m) (c:Cl) (BF:Nat->Nat->Ar->Pg->Bool->Bool × Nat × Ma) (q:c.kind=4) (d:-9223372036854775808<=c.pt) (f:c.pt<=9223372036854775807) (g:-9223372036854775808<=c.n) (i:c.n<=9223372036854775807)
  (p:∀(a:MaV) (W:Xn),zE W a m->Xp prog 140 #[Xi (mL a m).toArray,I6 c.proc,I6 (c.pt / 8),Xh Xd] W fun e w'=>((∃b:Int,e= Xl (Xm #[Xi zU.toArray,I6 0,I6 b])/\jn m BF c.proc (c.pt / 8) Xd b)\/(∃(V':MaV) (k r:Nat) (m':Ma),e= Xl (Xm #[Xi (mL V' m').toArray,I6 (k:Int),I6 0])/\zcC m BF c.proc (c.pt / 8) Xd k m'/\ChW W r w' V' m'))/\zb W w')
  (n:∀(h:Nat) (m':Ma),zcC m BF c.proc (c.pt / 8) Xd h m'->∃fr:Fr,m'.fs[h]? =Xa fr/\(fr.f=-1\/∃(j:Nat) (l:Fl),fr.f=(j:Int)/\m'.fl[j]? =Xa l)/\0<=fr.x/\fr.x<1000):J5 w m c (Jg m c.proc (ziX m BF c)):=by
 intro b W r a v b h l;obtain⟨b,rfl,j⟩:=l.2.2.2.1 q;exact⟨73,#[Xj (Xa ⟨b,0,Xb⟩)],rfl,zcI,J9 h c b 38 _ (enters_of func38 (by kernel_rfl) rfl) j fun b b _=>(zmK (h.grew b) c BF d f g i (fun f d=>p a f ((h.grew b).at.grew d)) n).mono fun e w' k=>k.more h.lo (h.dlt r (.inl rfl)) (bS (h.gr.trans b))⟩
theorem works_store (w m) (c:Cl) (i) (BF:Nat->Nat->Ar->Pg->Bool->Bool × Nat × Ma) (r:c.kind=5) (d:-9223372036854775808<=c.pt) (f:c.pt<=9223372036854775807) (n:zl byE w (c.dv.x) i) (g:(c.dv.n:Int)<=9223372036854775807)
  (q:∀(a:MaV) (W:Xn),zE W a m->Xp prog 140 #[Xi (mL a m).toArray,I6 c.proc,I6 (c.pt / 8),Xh Xc] W fun e w'=>((∃b:Int,e= Xl (Xm #[Xi zU.toArray,I6 0,I6 b])/\jn m BF c.proc (c.pt / 8) Xc b)\/(∃(V':MaV) (k s:Nat) (m':Ma),e= Xl (Xm #[Xi (mL V' m').toArray,I6 (k:Int),I6 0])/\zcC m BF c.proc (c.pt / 8) Xc k m'/\ChW W s w' V' m'))/\zb W w')
  (p:∀(h:Nat) (m':Ma),zcC m BF c.proc (c.pt / 8) Xc h m'->∃fr:Fr,m'.fs[h]? =Xa fr/\(fr.f=-1\/∃(j:Nat) (l:Fl),fr.f=(j:Int)/\m'.fl[j]? =Xa l)/\0<=fr.x/\fr.x<1000):J5 w m c (Jg m c.proc (zdR m BF c i)):=by
 intro b W t a v l h s;obtain⟨b,rfl,j⟩:=s.2.2.2.2.1 r;exact⟨73,#[Xj (Xa ⟨b,0,Xb⟩)],rfl,zcI,J9 h c b 39 _ (enters_of func39 (by kernel_rfl) rfl) j fun b b _=>(zkJ (h.grew b) c i BF d f (n.grew l) g (fun f d=>q a f ((h.grew b).at.grew d)) p).mono fun e w' k=>k.more h.lo (h.dlt t (.inl rfl)) (bS (h.gr.trans b))⟩
def Jt (m:Ma) (q i:Nat) (a:Ar) (pg:Pg) (_:Bool):Bool × Nat × Ma:=zbt m pg a.file (a.base+(i:Int) - a.fr) q i
structure zas (m:Ma) (q n:Nat) (wr:Bool) (a:Ar) (pg:Pg) (ic:Bool) (kk:Nat) (mB:Ma) (fr:Fr):Prop where
 rt:Rt m
 n64:n<64
 sp:∃s,m.sp[q]? =Xa s
 room:∀l:List (Nat × Nat),(∀x∈l,x.2<64/\∃s,m.sp[x.1]? =Xa s)->qL (zh m l).fs≠0
 may:∀a' e,js m (q:Int) (n:Int) wr a' e->e=0/\a'=a
 view:ZK m (q:Int) (n:Int)=(pgL pg,ic,0)
 bring:qN m (Jt m q n a pg wr) pg a ic wr q n=(Xc,kk,mB)
 into:zpI kk q n mB
 frame:mB.fs[kk]? =Xa fr
 file:0<=a.file->∃fi ix:Nat,a.file=(fi:Int)/\a.base+(n:Int) - a.fr=(ix:Int)/\(0<=a.base/\a.base<=100)/\(0<=a.fr/\a.fr<=100)/\ix<12/\fi<5/\(zbE m.ca ⟨(fi:Int),(ix:Int),0⟩=Xd->m.ca=[])
 mine:(fr.f=-1\/∃(j:Nat) (fl:Fl),fr.f=(j:Int)/\mB.fl[j]? =Xa fl/\fr.x*8+8<=fl.size)/\0<=fr.x/\fr.x<1000
section
variable{m mB:Ma} {q n kk:Nat} {wr:Bool} {a:Ar} {pg:Pg} {ic:Bool} {fr:Fr}
theorem zas.know (h:zas m q n wr a pg ic kk mB fr) {f i:Nat} {e:Ar} {b:Pg} {c:Bool} (j:(q:Int)=(f:Int)) (hi:(n:Int)=(i:Int)) (g:js m (q:Int) (n:Int) wr e 0) (d:ZK m (q:Int) (n:Int)=(pgL b,c,0)):f=q/\i=n/\e=a/\b=pg/\c=ic:=by
 have c:f=q:=by omega
 have f:i=n:=by omega
 rw[h.view]at d;simp only[pJ,and_true]at d;refine⟨c,f,(h.may e 0 g).2,?_,d.2.symm⟩;have e:=d.1;cases pg;cases b
 simpa [pgL,eq_comm]using e
theorem zas.not (h:zas m q n wr a pg ic kk mB fr) {b:Int}:¬jn m (Jt m) (q:Int) (n:Int) wr b:=by
 rintro⟨e,c|⟨d,_,b⟩|⟨_,f,i,d,d,d,l,k,c,b,d⟩⟩
 ·exact e (h.may _ _ c).1
 ·rw[h.view]at b;exact e b.symm
 obtain⟨e,f,g,i,j⟩:=h.know l k c b;subst e f g i j;rw[h.bring]at d;cases d
theorem zas.used (h:zas m q n wr a pg ic kk mB fr) {k:Nat} (g:zcC m (Jt m) (q:Int) (n:Int) wr k m'):k=kk/\m'=Zc mB q n kk fr wr a.sh:=by
 obtain⟨b,i,b,b,b,d,s,r,f,t,b,c,b,e⟩:=g;obtain⟨g,i,j,l,p⟩:=h.know s r f t;subst g i j l p;rw[h.bring]at c b e;have c:k=kk:=c;rw[c]at b e;have b:mB.fs[kk]? =Xa d:=b;rw[h.frame]at b;cases b;exact⟨c,e⟩
theorem zif {m:Ma} {p n k:Nat} {fr:Fr} (b:m.fs[k]? =Xa fr) (w a:Bool):(Zc m p n k fr w a).fs[k]? =Xa { fr with u:=true,d:=if w=Xc then fr.d || a else fr.d }/\(Zc m p n k fr w a).fl=m.fl:=by
 have a:=(gS.1 b).1;unfold Zc
 cases w with
 | true=>
  rw[kE rfl];exact⟨sF a,rfl⟩
 | false=>
  rw[kF (by decide)]
  exact⟨sF a,rfl⟩
theorem zas.inside (h:zas m q n wr a pg ic kk mB fr) (k:Nat) (m':Ma) (e:zcC m (Jt m) (q:Int) (n:Int) wr k m'):∃fr:Fr,m'.fs[k]? =Xa fr/\(fr.f=-1\/∃(j:Nat) (b:Fl),fr.f=(j:Int)/\m'.fl[j]? =Xa b)/\0<=fr.x/\fr.x<1000:=by
 obtain⟨c,d⟩:=h.used e;subst c d;obtain⟨c,d⟩:=zif h.frame (p:=q) (n:=n) wr a.sh;refine⟨_,c,?_,h.mine.2⟩
 rcases h.mine.1 with e|⟨j,b,e,f,_⟩
 ·exact .inl e
 exact .inr ⟨j,b,e,by rw[d];exact f⟩
theorem zas.use (h:zas m q n wr a pg ic kk mB fr) (V W) (c:zE W V m):Xp prog 140 #[Xi (mL V m).toArray,I6 (q:Int),I6 (n:Int),Xh wr] W fun e w'=>((∃b:Int,e= Xl (Xm #[Xi zU.toArray,I6 0,I6 b])/\jn m (Jt m) (q:Int) (n:Int) wr b)\/(∃(V':MaV) (kk b:Nat) (m':Ma),e= Xl (Xm #[Xi (mL V' m').toArray,I6 (kk:Int),I6 0])/\zcC m (Jt m) (q:Int) (n:Int) wr kk m'/\ChW W b w' V' m'))/\zb W w':=
 zhF V m (q:Int) (n:Int) wr W c h.rt (Jt m) (fun k W p c b b l d e _ _ b _=>absurd b (by rw[e];exact h.room l d))
  (fun g i j b v u w x f t k W p c G=>by
   obtain⟨k,l,p,r,s⟩:=h.know v u w x;subst k l p r s;obtain⟨A,B,y,z,D,E,c,c,F⟩:=h.file f;obtain⟨C,c⟩:=h.sp;have d:=h.bring;unfold qN at d;rw[kE ⟨⟨f,rfl⟩,t⟩]at d;have t:zbt m b (A:Int) (B:Int) g i=(Xc,kk,mB):=by
    rw[<-y,<-z];exact d
   have f:=zhH G h.rt g i C c h.n64 j A B y z D E (by omega) b Xd wr (fun y=>⟨F y,h.room _ (fun y f=>by rw[Xz.1 f];exact⟨h.n64,C,c⟩),ziz (.inr (by omega))⟩)
   rw[t]at f;have c:Jt m g i j b wr=(Xc,kk,mB):=d;rw[c];exact f)
  (fun g i j b b v u w x _=>by
   obtain⟨k,l,p,r,s⟩:=h.know v u w x;subst k l p r s;rw[h.bring];exact h.into)
theorem zas.load (h:zas m q n Xd a pg ic kk mB fr) {c:Cl} {i:Nat} (hi:i<8) (k:c.proc=(q:Int)) (hp:c.pt=8*(n:Int)+(i:Int)) (E:c.n=1) (j:∃s,qU m (q:Int) q s) {b:Int} {l:List Int} (d:Jg m c.proc (ziX m (Jt m) c) b z l m'):b=0/\l=((pgL fr.p).drop i).take 1/\m'=Zc mB q n kk fr Xd a.sh:=by
 have t:c.pt / 8=(n:Int):=by omega
 have D:(c.pt % 8).toNat=i:=by omega
 have b:c.pt % 8=(i:Int):=by omega
 have x:qD c.pt c.n=Xc:=by
  unfold qD;exact decide_eq_true (by omega)
 obtain⟨v,B⟩:=zif h.frame (p:=q) (n:=n) Xd a.sh;rw[k]at d
 rcases d with⟨_,_,_,r⟩|⟨_,⟨_,_,b⟩|⟨C,_,u,e,⟨_,g,d,_⟩,f⟩⟩
 ·obtain⟨s,j⟩:=j;exact absurd j (r q s)
 ·rcases b with⟨b,_⟩|⟨_,b⟩|⟨_,_,u,j,e,u,y,g,d,j,e,w⟩
  ·rw[x]at b;cases b
  ·rw[k,t]at b;exact absurd b h.not
  rw[k,t]at g;obtain⟨b,r⟩:=h.used g;subst b r;rw[v]at d;cases d
  rcases h.mine.1 with x|⟨F,A,x,x,A⟩
  ·have j:fr.f=(u:Int):=j;omega
  have j:fr.f=(u:Int):=j;have:F=u:=by omega
  subst this;rw[B,x]at e;cases e;have w:y.size<fr.x*8+c.pt % 8+c.n:=w;omega
 rw[k,t]at g;obtain⟨b,r⟩:=h.used g;subst b r;rw[v]at d;cases d;rw[D,E]at f;exact⟨C,f,rfl⟩
theorem zas.store (h:zas m q n Xc a pg ic kk mB fr) {c:Cl} {i:Nat} (hi:i<8) (t:c.proc=(q:Int)) (hp:c.pt=8*(n:Int)+(i:Int)) (f:c.dv.n=1) (r:∃s,qU m (q:Int) q s) {x b:Int} {l:List Int} (e:Jg m c.proc (zdR m (Jt m) c [x]) b z l m'):b=0/\∃b,splice (pgL fr.p) i [x]=pgL b/\m'={ Zc mB q n kk fr Xc a.sh with fs:=(Zc mB q n kk fr Xc a.sh).fs.set kk { fr with u:=true,d:=fr.d || a.sh,p:=b } }:=by
 have w:c.pt / 8=(n:Int):=by omega
 have K:(c.pt % 8).toNat=i:=by omega
 have f:c.pt % 8=(i:Int):=by omega
 have D:qD c.pt (c.dv.n:Int)=Xc:=by
  unfold qD;exact decide_eq_true (by omega)
 obtain⟨B,G⟩:=zif h.frame (p:=q) (n:=n) Xc a.sh;rw[t]at e
 rcases e with⟨_,_,_,v⟩|⟨_,_,⟨_,e⟩|⟨H,_,A,C,g,b,⟨_,k,f,_⟩,j,y⟩⟩
 ·obtain⟨s,r⟩:=r;exact absurd r (v q s)
 ·rcases e with⟨e,_⟩|⟨_,e⟩|⟨_,_,A,C,g,A,E,k,f,r,g,C⟩
  ·rw[D]at e;cases e
  ·rw[t,w]at e;exact absurd e h.not
  rw[t,w]at k;obtain⟨e,v⟩:=h.used k;subst e v;rw[B]at f;cases f
  rcases h.mine.1 with D|⟨L,F,D,D,F⟩
  ·have r:fr.f=(A:Int):=r;omega
  have r:fr.f=(A:Int):=r;have:L=A:=by omega
  subst this;rw[G,D]at g;cases g;have C:E.size<fr.x*8+c.pt % 8+(c.dv.n:Int):=C;omega
 rw[t,w]at k;obtain⟨e,v⟩:=h.used k;subst e v;rw[B]at f;cases f;rw[K]at j;exact⟨H,b,j,y⟩
theorem zas.works_load (h:zas m q n Xd a pg ic kk mB fr) {c:Cl} {i:Nat} (e:c.kind=4) (hi:i<8) (d:c.proc=(q:Int)) (hp:c.pt=8*(n:Int)+(i:Int)) (b:c.n=1) (W):J5 W m c (Jg m c.proc (ziX m (Jt m) c)):=by
 have b:c.pt / 8=(n:Int):=by omega
 have:=h.n64;refine Go.Proofs.YtmfckdkcmbncdaaGreat.works_load W m c (Jt m) e (by omega) (by omega) (by omega) (by omega) (fun f g j=>?_) (fun k l e=>?_)
 ·rw[b,d];exact h.use f g j
 rw[b,d]at e;exact h.inside k l e
theorem zas.works_store (h:zas m q n Xc a pg ic kk mB fr) {c:Cl} {i:Nat} (e:c.kind=5) (hi:i<8) (d:c.proc=(q:Int)) (hp:c.pt=8*(n:Int)+(i:Int)) (b:c.dv.n=1) {x:Int} (f:zl byE W (c.dv.x) [x]):J5 W m c (Jg m c.proc (zdR m (Jt m) c [x])):=by
 have b:c.pt / 8=(n:Int):=by omega
 have:=h.n64;refine Go.Proofs.YtmfckdkcmbncdaaGreat.works_store W m c [x] (Jt m) e (by omega) (by omega) f (by omega) (fun f g j=>?_) (fun k l e=>?_)
 ·rw[b,d];exact h.use f g j
 rw[b,d]at e;exact h.inside k l e
end
theorem znm {p n k:Nat} {s:Sp} {fr:Fr} (h:Rt m) (d:m.sp[p]? =Xa s) (g:n<64) (a:m.fs[k]? =Xa fr) (i:fr.r=0):(qO m p n).fs[k]? =Xa fr:=by
 have b:m.sp.getD p ⟨Xd,[],[]⟩=s:=by rw[gD,d];rfl
 unfold qO;simp only[b]
 by_cases b:(ze s n).kind=1
 ·rw[kE b];obtain⟨j,c,e,c,f,f⟩:=h.present d g b
  show(m.fs.set _ _)[k]? =_
  rw[e,tN,sN,a];intro e;subst e;rw[a]at c;cases c;exact f i
 rw[kF b]
 by_cases b:(ze s n).kind=2
 ·rw[kE b];exact a
 rw[kF b];exact a
theorem zci:∀(l:List (Nat × Nat)) {m:Ma} {k:Nat} {fr:Fr},Rt m->(∀x∈l,x.2<64/\∃s,m.sp[x.1]? =Xa s)->m.fs[k]? =Xa fr->fr.r=0->(zh m l).fs[k]? =Xa fr
 | [],_,_,_,_,_,a,_=>a
 | x :: l,m,k,fr,h,c,a,e=>by
  obtain⟨d,s,f⟩:=c x (Xt ..);obtain⟨b,_⟩:=JX h f d;refine zci l b.rt (fun y g=>?_) (znm h f d a e) e
  obtain⟨a,t,d⟩:=c y (Xx _ g);exact⟨a,_,gE (by rw[b.sam.spl];exact(gS.1 d).1)⟩
theorem zW {k:Nat} {fr:Fr} (l:List (Nat × Nat)) (h:Rt m) (d:∀x∈l,x.2<64/\∃s,m.sp[x.1]? =Xa s) (c:m.fs[k]? =Xa fr) (a:fr.r=0):qL (zh m l).fs≠0:=by
 have b:=mG (zci l h d c a);have c:0<qL (zh m l).fs:=List.countP_pos_iff.2 ⟨fr,b,by simpa using a⟩
 omega
def chF (f g:Nat->On) (s e:Nat):Nat->On:=fun j=>if s<=j/\j<e then g j else f j
theorem zpi (f g:Nat->On) (s:Nat):chF f g s s=f:=by
 funext j
 unfold chF;rw[kF (by omega)]
theorem zrm (f g:Nat->On) (s k:Nat):qA (chF f g s k) k=qA f k:=by
 unfold qA chF;rw[kF (by omega)]
theorem zpj (f g:Nat->On) {s k:Nat} (h:s<=k):upd (qA (chF f g s k)) k (Jz k (g k))=qA (chF f g s (k+1)):=by
 funext j
 unfold upd qA chF
 by_cases e:j=k
 ·subst e;rw[kE rfl,kE (by omega)]
 rw[kF e]
 congr 1
 by_cases h:s<=j/\j<k
 ·rw[kE h,kE (by omega)]
 rw[kF h,kF (by omega)]
theorem ziK (v l) (s n:Nat) (F:Nat) (f:Array Xq) (g:Nat->On) (w:Xn) (au:zl arE w v l) (V:Qz Xb l) (X:s<=n) (b3:n<=64) (y:zpt (chF (zD l) g s n)) (am:Enters prog F)
  (i:∀W (k:Nat),zb w W->s<=k->k<n->Xp prog F (#[I6 (k:Int),arA (qA (zD l) k)]++f) W fun e w'=>e= Xl (arA (Jz k (g k)))/\zb W w'):
  Xp prog 130 #[v,I6 (s:Int),I6 (n:Int),.func (.func F) #[] f] w fun e w'=>(∃u,e= Xl (Xm #[u,I6 (zlD (chF (zD l) g s n)).2])/\zc arE w.heap.size w' u (zlD (chF (zD l) g s n)).1)/\zb w w':=by
 have K:=zko v l w au V;have m:=dD<|fun W=>zkL _ W y
 have D:Xo _:=i;have a9:=dD am;have d:Xo (¬16< (zd6 (chF (zD l) g s n)).length->zlD (chF (zD l) g s n)=(zd6 (chF (zD l) g s n),0)):=fun T=>by unfold zlD;rw[kF T]
 have c:Xo (16< (zd6 (chF (zD l) g s n)).length->zlD (chF (zD l) g s n)=([],4)):=fun T=>by unfold zlD;rw[kE T]
 have h:=dD<|(zio y).len;have Q:Xo (qA (zD l)=qA (chF (zD l) g s s)):=show _=_ by rw[zpi]
 obtain⟨ay,G⟩:=kA (zlD (chF (zD l) g s n));simp only[G.out]at d c⊢;obtain⟨af,H⟩:=kA (zd6 (chF (zD l) g s n));simp only[H.out]at d c h m;have av:=zga;obtain⟨a3,r⟩:=kA (qr (tab fun _=>ar0))
 rw[r.out]at av;have t:Xo (a3.length=448):=dD<|by rw[<-r.out,Q1]
 have L:Xo ((qr (tab (qA (zD l)))).length=448):=Q1 _;have M:Xo (∀v∈qr (tab (qA (zD l))),v.oneCell'=Xc):=zeJ _
 go_enter func130,ntmps130
 go_wp2_with fail;refine K.mono ?_;rintro e S ⟨rfl,an⟩;have I:=dD an;obtain⟨p,a1⟩:=kA S.heap.size;have q:Xo (w.heap.size<=p):=show _<=_ by rw[<-a1.out];exact bS I.out
 go_upto_region 2 with(refine zz rfl 233 (.tmp 10) (.tmp 14) rfl S.heap.size rfl (qr (tab (qA (zD l)))) rfl (Box.top S a3 233 rfl) (by rw[L.out,t.out]) (by rw[t.out];exact zsh) M.out ?_)
 intro aj a4 a5 b5;rw[a1.out]at a4 a5⊢;have aa:=dD<|zd (I.trans (za _ _)) a5 q.out;have ag:Xo (Box aj p (qr (tab (qA (chF (zD l) g s s))))):=show Box _ _ _ by rw[<-Q.out];exact a4
 go_wp2
 go_loopg [11] (n - s) (fun aq Z wr=>∃a:Nat,s<=a/\a<=n/\n - a<=aq/\Z=I6 a/\Xo (zb w wr)/\Xo (Box wr p (qr (tab (qA (chF (zD l) g s a))))))
 case atStart=>exact⟨s,nR _,X,by omega,rfl,aa,ag⟩
 obtain⟨a,z,ar,b1,rfl,C,R⟩:=hrel
 by_cases j:a<n
 ·have A:=kC j
  have x:a<64:=by omega
  have a7:(a:Int)<64:=by omega
  have ae:Xo (arA (qA (chF (zD l) g s a) a)=arA (qA (zD l) a)):=dD<|by rw[zrm]
  have P:Xo (upd (qA (chF (zD l) g s a)) a (Jz a (g a))=qA (chF (zD l) g s (a+1))):=zpj _ _ z
  go_wp2_with (refine zj2 rfl (.tmp 25) rfl p a x rfl R ae.out ?_)
  rw[a9.out];refine(D wr a C z j).mono ?_;rintro e az ⟨rfl,a6⟩;have ab:=dD (C.trans a6);have ah:=dD (R.grew a6)
  go_wp2_with (refine zeh rfl (.tmp 28) (.tmp 27) rfl p a x rfl (Jz a (g a)) rfl ah.out ?_)
  intro ak al ao b6;have ai:Xo (Box ak p (qr (tab (qA (chF (zD l) g s (a+1)))))):=dD<|by rw[<-P.out];exact al
  have ac:=dD<|zd ab ao q.out;go_wp2
  go_roundg (n -(a+1))
  case measure=>omega
  exact⟨a+1,by omega,by omega,by omega,by go_num,ac,ai⟩
 have A:=kD j
 have:a=n:=by omega
 subst this;have E:Xo ((qr (tab (qA (chF (zD l) g s a)))).length=448):=Q1 _
 go_wp2_with (refine zo rfl 233 (.tmp 10) rfl p rfl R underlying233 rfl (by rw[E.out];exact zsh) ?_)
 refine(m wr).mono ?_;rintro e b0 ⟨⟨u,rfl,B⟩,ap⟩;obtain⟨aw,ax,rfl⟩:=B.form;have a0:=dD (C.trans ap);have a2:=dD<|B.base (nT (bS C) (Nat.le_succ _));obtain⟨Y,ad⟩:=kA af.length;rw[ad.out]at d c h a2⊢;have a8:Y<=64:=h.out
 by_cases b:16<Y
 ·have U:=kC b
  have N:=dD<|c.out b;go_wp2;refine bodyPost_ret (v:= Xm #[eS,I6 4]) (by simp[results,Tryz.results130]) rfl ?_
  rw[N.out];exact⟨⟨_,rfl,zc.nil _ _ _⟩,a0⟩
 have U:=kD b
 have N:=dD<|d.out b;go_wp2;refine bodyPost_ret (v:= Xm #[O aw Y ax,I6 0]) (by simp[results,Tryz.results130]) rfl ?_
 rw[N.out];exact⟨⟨_,rfl,a2⟩,a0⟩
theorem zoI (a q:Ar) (k c:Nat) (w) (hb:Box w c [I6 a.fr,I6 a.tz,Xh a.rd,Xh a.wr,Xh a.sh,I6 a.file,I6 a.base]) (b:jN a) (d:k<64):
  Xp prog 131 #[I6 (k:Int),Xi #[I6 q.fr,I6 q.tz,Xh q.rd,Xh q.wr,Xh q.sh,I6 q.file,I6 q.base],Xj (Xa ⟨c,0,Xb⟩)] w fun e w'=>e= Xl (arA (Jz k (qg a k)))/\zb w w':=by
 have g:∀W,Xp prog 132 #[Xi #[I6 a.fr,I6 a.tz,Xh a.rd,Xh a.wr,Xh a.sh,I6 a.file,I6 a.base],I6 (k:Int)] W fun e w'=>e= Xl (arA (Jz k (qg a k)))/\zb W w':=fun W=>zjg a k W b d
 obtain⟨x,f⟩:=kB (Jz k (qg a k));simp only[f]at g⊢;clear f b d;obtain⟨f,b⟩:=kB ((w.alloc (Xk #[I6 q.fr,I6 q.tz,Xh q.rd,Xh q.wr,Xh q.sh,I6 q.file,I6 q.base] 125)).alloc (Xk #[I6 0,I6 0,Xh Xd,Xh Xd,Xh Xd,I6 0,I6 0] 125));have d:=gD2 b
 have h:Xo (Box f c [I6 a.fr,I6 a.tz,Xh a.rd,Xh a.wr,Xh a.sh,I6 a.file,I6 a.base]):=dD<|by rw[<-b];exact(hb.alloc _).alloc _
 have i:=x2b b
 have f:=dD b;clear b hb
 go_enter func131,ntmps131
 go_upto_region 1 with fail;rw[f.out]
 go_wp2_with (refine zo rfl 125 (.tmp 2) rfl c rfl h underlying125 rfl zsf ?_)
 refine(g _).mono ?_;rintro e b ⟨rfl,b⟩;have f:=dD (d.trans b);have c:=dD (i.grew b);clear b
 go_wp2_with (refine zz rfl 125 (.tmp 5) (.tmp 8) rfl (w.heap.size+1) rfl (arv x) rfl c rfl zsf (arE.one x) ?_)
 intro d b c h;have g:Xo (zb w d):=zd f c (by simp)
 have d:=dD b;clear b c h;go_wp2;refine bodyPost_ret (zG rfl _ rfl d underlying125 rfl zsf) rfl ⟨rfl,g⟩
theorem znh (x y:Int) (w):(Instr.field 187 (Xi #[I6 x,I6 y]) 0).run prog w= .ok (I6 x) w:=by
 simp only[Instr.field,Sem.run_bind,run_underlying underlying187,rA,asAgg];exact run_part_plain w (by simp[Program.plainKey,underlying47]) rfl
theorem zpE (l) {a:Ar} (b:jN a):chF (zD l) (qg a) a.fr.toNat a.tz.toNat=zoH l a:=by
 unfold jN at b
 funext j
 unfold chF zoH
 by_cases h:Jk a j=Xc
 ·have:=ja.1 h;rw[kE h,kE (by omega)]
 have b:¬(a.fr<=(j:Int)/\(j:Int)<a.tz):=fun b=>h (ja.2 b)
 rw[kF h,kF (by omega)]
def zrS (R:List Ar × Int) (w:Xn) (e:Ending) (w':Xn):Prop:=(∃u,e= Xl (Xm #[u,I6 R.2])/\zc arE w.heap.size w' u R.1)/\zb w w'
theorem zrJ {a:Ar} {v:Xq} {w:Xn} {c:Nat} (i:zl arE w v l) (f:Qz Xb l) (b:jN a) (g:zb w W) (hb:Box W c [I6 a.fr,I6 a.tz,Xh a.rd,Xh a.wr,Xh a.sh,I6 a.file,I6 a.base]):
  Xp prog 130 #[v,I6 a.fr,I6 a.tz,.func (.func 131) #[] #[Xj (Xa ⟨c,0,Xb⟩)]] W fun e w'=>(∃u,e= Xl (Xm #[u,I6 (zlD (zoH l a)).2])/\zc arE W.heap.size w' u (zlD (zoH l a)).1)/\zb W w':=by
 have d:=b;unfold jN at d;have h:=ziK v l a.fr.toNat a.tz.toNat 131 #[Xj (Xa ⟨c,0,Xb⟩)] (qg a) W (i.grew g) f (by omega) (by omega) (by rw[zpE l b];exact zmF f b) (enters_of func131 (by kernel_rfl) rfl) (fun d k f g g=>zoI a (qA (zD l) k) k c d (hb.grew f) b (by omega))
 rw[zpE l b,show((a.fr.toNat:Nat):Int)=a.fr by omega,show((a.tz.toNat:Nat):Int)=a.tz by omega]at h
 exact h
theorem zqd (v l) (a:Ar) (w) (a1:zl arE w v l):
  Xp prog 76 #[v,Xi #[I6 a.fr,I6 a.tz,Xh a.rd,Xh a.wr,Xh a.sh,I6 a.file,I6 a.base]] w (zrS (zhn l a) w):=by
 have G:=dD a1;have ac:=znh;have ad:∀(Y:Fn) (first z:Array Xq) (w:Xn),(Instr.makeFunc Y first z).run prog w= .ok (.func Y first z) w:=fun _ _ _ _=>rfl
 have u:=dD<|fun W (A:zb w W)=>zcQ v l W (G.grew A)
 have k:=dD<|fun W=>zaV a W
 clear a1;obtain⟨H,f⟩:=kB (w.alloc (Xk #[I6 a.fr,I6 a.tz,Xh a.rd,Xh a.wr,Xh a.sh,I6 a.file,I6 a.base] 125));have c:=gA f
 have X:=xA f
 have j:=dD f;clear f
 by_cases g:(wrL l).1=0
 ·rw[g]at u
  generalize(wrL l).2=I at u
  by_cases b:arW a=0
  ·rw[b]at k;have a7:=dD<|J6.1 g;have U:=dD<|zbA.1 b;obtain⟨s,n,Q,a0,r,P⟩:∃s n:Nat,(s:Int)=a.fr/\(s:Int)+(n:Int)=a.tz/\s+n<=64/\1<=n:=⟨a.fr.toNat,a.tz.toNat - a.fr.toNat,by have:=U.out;unfold jN at this;omega⟩
   have a8:Xo (∀W,zb w W->Xp prog 128 #[v,I6 a.fr,I6 a.tz] W fun h ae=>h= Xl (I6 (jY l s n:Int))/\zb W ae):=fun W A=>by
    have:=zl4 v l s n W (G.grew A) r;rw[a0,Q]at this;exact this
   have d:=znv (l:=l) r;rw[Q,show(n:Int)=a.tz - a.fr by omega]at d
   have i:=zg3 l s n;have a6:=dD<|fun W (A:zb w W) (ab:Box W w.heap.size [I6 a.fr,I6 a.tz,Xh a.rd,Xh a.wr,Xh a.sh,I6 a.file,I6 a.base])=>zrJ G a7.2 U A ab
   have t:Xo (zhn l a=if zqW l a.fr (a.tz - a.fr)=Xc then([],6)else zlD (zoH l a)):=dD<|by unfold zhn;rw[kF (fun m=>m g),kF (fun m=>m b)]
   clear g b Q a0 r P
   go_enter func76,ntmps76
   go_upto_region 1 with fail;rw[j.out];go_wp2_with fail;refine(u H c).mono ?_;rintro h D ⟨rfl,e⟩;have y:=dD (c.trans e);have E:=dD (X.grew e);clear e
   go_wp2_with (refine zo rfl 125 (.tmp 3) rfl w.heap.size rfl E underlying125 rfl zsf ?_)
   refine(k D).mono ?_;rintro h V ⟨rfl,x⟩;have B:=dD (y.trans x);have K:=dD (E.grew x);clear x;have S:=K.c 0 rfl;have T:=K.c 1 rfl;go_wp2_with fail;refine(a8 V B).mono ?_;rintro h aa ⟨rfl,M⟩;have C:=dD (B.trans M);have L:=dD (K.grew M);clear M S T
   cases q:zqW l a.fr (a.tz - a.fr)with
   | true=>
    have p:(0:Int)< (jY l s n:Int):=by
     have:jY l s n≠0:=fun m=>by rw[d.1 m]at q;cases q
     omega
    have F:Xo (zhn l a=([],6)):=dD<|by rw[t.out,q,kE rfl]
    clear q d i
    generalize jY l s n=a3 at p
    go_wp2;refine bodyPost_ret (results_tmp2 rfl _ _ _) rfl ?_;rw[F.out];exact⟨⟨_,rfl,zc.nil _ _ _⟩,C⟩
   | false=>
    have N:=d.2 q;have p:¬(0:Int)< (jY l s n:Int):=by omega
    have F:Xo (zhn l a=zlD (zoH l a)):=dD<|by rw[t.out,q,kF (by decide)]
    clear q d i N
    generalize jY l s n=a3 at p
    have S:=L.c 0 rfl;have T:=L.c 1 rfl;go_wp2_with fail;refine(a6 aa C L).mono ?_;rintro h af ⟨⟨ag,rfl,a2⟩,Z⟩;have a5:=dD (C.trans Z);have a9:=dD<|a2.base (bS C);clear Z a2 S T;go_wp2;refine bodyPost_ret (results_tmp2 rfl _ _ _) rfl ?_;rw[F.out];exact⟨⟨_,rfl,a9⟩,a5⟩
  have R:(arW a != 0)=Xc:=by simp[b]
  have t:Xo (zhn l a=([],arW a)):=dD<|by unfold zhn;rw[kF (fun m=>m g),kE b]
  clear g b
  generalize arW a=a4 at*
  go_enter func76,ntmps76
  go_upto_region 1 with fail;rw[j.out];go_wp2_with fail;refine(u H c).mono ?_;rintro h D ⟨rfl,e⟩;have y:=dD (c.trans e);have E:=dD (X.grew e);clear e
  go_wp2_with (refine zo rfl 125 (.tmp 3) rfl w.heap.size rfl E underlying125 rfl zsf ?_)
  refine(k D).mono ?_;rintro h V ⟨rfl,x⟩;have B:=dD (y.trans x);clear x;go_wp2;refine bodyPost_ret (results_tmp2 rfl _ _ _) rfl ?_;rw[t.out];exact⟨⟨_,rfl,zc.nil _ _ _⟩,B⟩
 have R:((wrL l).1 != 0)=Xc:=by simp[g]
 have t:Xo (zhn l a=([],(wrL l).1)):=dD<|by unfold zhn;rw[kE g]
 clear g
 generalize(wrL l).2=I at u
 generalize(wrL l).1=a4 at*
 go_enter func76,ntmps76
 go_upto_region 1 with fail;rw[j.out];go_wp2_with fail;refine(u H c).mono ?_;rintro h D ⟨rfl,e⟩;have y:=dD (c.trans e);clear e;go_wp2;refine bodyPost_ret (results_tmp2 rfl _ _ _) rfl ?_;rw[t.out];exact⟨⟨_,rfl,zc.nil _ _ _⟩,y⟩
def A0:Ar:=⟨2,8,Xc,Xd,Xd,-1,0⟩
def A1:List Ar:=[⟨2,4,Xc,Xd,Xd,-1,0⟩,⟨5,8,Xc,Xd,Xd,-1,0⟩]
def A2:List Ar:=[⟨2,4,Xc,Xc,Xd,-1,0⟩,⟨4,8,Xc,Xd,Xd,-1,0⟩]
def arC (c:Cl):Ar:=⟨c.pt,c.pt+c.n,c.rd,c.wr,c.sh,c.file,c.base⟩
def zlu (m:Ma) (q:Nat) (s:Sp) (l:List Ar):Ma:={ m with sp:=m.sp.set q { s with ars:=l } }
def zqQ (m:Ma) (c:Cl) (er n:Int) (l:List Int) (m':Ma):Prop:=
 l=[]/\∃(q:Nat) (s:Sp),qU m c.proc q s/\er=(zhn s.ars (arC c)).2/\(er=0->n=c.pt/\m'=zlu m q s (zhn s.ars (arC c)).1)
theorem zoG {u w:Xn} {p q:Nat} {x y:SpV} {s:Sp} {xs:List SpV} {b:Sli} (h:ChW w0 p u V m) (s1:zc ZA w0.heap.size u (V.sp.x) xs) (s2:xs.length=m.sp.length) (s3:∀(i:Nat) x s,xs[i]? =Xa x->m.sp[i]? =Xa s->∀W,zm (Dr w0.heap.size p V) u W->jT W x s) (A:xs[q]? =Xa x) (z:m.sp[q]? =Xa s) (f:oB V.sp g)
  (d:zb u w) (e:zb w w1) (n:zc arE w.heap.size w1 (b.x) l) (v:w1.grownBy w2 (Xa g)) (C:zc ZA w0.heap.size w2 (V.sp.x) (xs.set q y)) (G:y.live=x.live/\y.ar=b/\y.tab=x.tab) (a:zm (Aft w0 u w) w2 W):zE W V (zlu m q s l):=by
 have c:=(s1.lt g f).2;have c:=(s1.lt g f).1;have c:=bS d;have B:zm (fun k=>k<w0.heap.size\/k=g) u W:=by
  have c:zm (fun k=>k<w0.heap.size\/k=g) u w2:=(zm.grew (d.trans e)).trans (zm.grown v (.inr rfl))
  refine⟨a.os.trans c.os,a.tape.trans c.tape,a.output.trans c.output,nT c.size a.size,fun i j d=>?_⟩
  rw[a.block i (Xs j c.size) (fun e=>by rcases e with e | e;exact d (.inl e);omega)]
  exact c.block i j d
 have t:zm (Dr w0.heap.size p V) u W:=B.wide fun k c=>c.elim .inl fun e=>by cases e;exact .inr (.inr (.inr (.inr f)))
 have r:=h.rest W t;have own:∀{F:Type} {E:Elt F} {j:Sli} {l:List F},zc E w0.heap.size u (j.x) l->(∀k,oB j k->¬oB V.sp k)->zl E W (j.x) l:=fun j d=>zc.at ⟨jh j.1 B (fun k c e=>by
  rcases e with e|e
  ·have:=(j.lt k c).1;omega
  cases e;exact d _ c f),j.2⟩
 have j:zc arE w.heap.size W (b.x) l:=by
  refine⟨jh (D:=fun k=>k<w.heap.size) n.1 ((zm.grown v (by omega)).trans (a.wide fun k c=>?_)) (fun k c e=>?_),n.2⟩
  ·rcases c with e|e
   ·have:=bS h.gr;omega
   exact e.2
  have:=(n.lt k c).1;omega
 refine⟨own h.fs h.fS,r.sl,r.sb,r.sq,r.db,r.dq,r.fl,own h.ca h.cS,xs.set q y,zc.at ⟨jh C.1 a (fun k c e=>?_),C.2⟩,by simp[zlu,s2],fun i B n d a=>?_⟩
 ·have v:k=g:=by
   have r:oB V.sp k:=c;unfold oB at r f;rw[r]at f;cases f;rfl
  subst v
  rcases e with e|e <;> omega
 by_cases e:i=q
 ·subst e;rw[sF (gS.1 A).1]at d;have a:(m.sp.set i { s with ars:=l })[i]? =Xa n:=a;rw[sF (gS.1 z).1]at a;cases d;cases a;have k:=s3 i x s A z W t;obtain⟨f,c,r⟩:=G;refine⟨f.trans k.live,by rw[c];exact j.at,?_,by rw[r];exact k.tb⟩
  rw[c];exact j.cap
 rw[sN (fun h=>e h.symm)]at d
 have a:(m.sp.set q { s with ars:=l })[i]? =Xa n:=a;rw[sN (fun h=>e h.symm)]at a
 exact s3 i B n d a W t
def QV:Ar:=⟨0,1,Xc,Xc,Xd,-1,0⟩
def zaL:Ma:=zlu (Jq 2 2 0) 0 ⟨Xc,[],Jo⟩ [QV]
def frA (pg:Pg):Fr:=⟨pg,1,Xc,Xd,-1,0⟩
def tbA (w:Bool):List (List En):=zhl Jo 0 ⟨1,0,w⟩
def Qx (pg:Pg) (w:Bool):Ma:={ zaL with fs:=[frA pg,frF],sp:=[⟨Xc,[QV],tbA w⟩] }
theorem zrc:zhn [] QV=([QV],0):=by rfl
theorem zom:maW (Jq 2 2 0)=0:=by decide
theorem zi9:maW zaL=0:=by decide
theorem zi8:∀w,maW (Qx ⟨0,0,0,9,0,0,0,0⟩ w)=0:=by decide
theorem zol:∀w,maW (Qx pg0 w)=0:=by decide
theorem zq4:Rt zaL:=⟨zi9,by intro s a;cases a with | head=>rfl | tail _ h=>cases h⟩
theorem zp0 (w:Bool):Rt (Qx ⟨0,0,0,9,0,0,0,0⟩ w):=⟨zi8 w,by intro s a;cases a with | head=>rfl | tail _ h=>cases h⟩
theorem zrG (w:Bool):Rt (Qx pg0 w):=⟨zol w,by intro s a;cases a with | head=>rfl | tail _ h=>cases h⟩
theorem zlX:ZK zaL 0 0=(z4,Xd,0):=by decide
theorem zlW (w:Bool):ZK (Qx ⟨0,0,0,9,0,0,0,0⟩ w) 0 0=([0,0,0,9,0,0,0,0],Xc,0):=by revert w;decide
theorem zj8 {c:List (List En)} (b:m.sp=[⟨Xc,[QV],c⟩]) {wr:Bool} {a:Ar} {e:Int} (h:js m 0 0 wr a e):e=0/\a=QV:=by
 rcases h with⟨_,_,h⟩|⟨d,c,k,s,x,g,c,_,c,f,_,_,_,h⟩
 ·rcases h with(h|h) | ⟨d,s,g,c,h⟩
  ·omega
  ·rw[b]at h
   simp at h
  have:d=0:=by omega
  subst this;rw[b]at c;cases c;have:=h QV (Xt ..);cases this
 have:d=0:=by omega
 subst this;rw[b]at c;cases c
 cases k with
 | zero=>
  cases f
  rcases h with⟨_,_,h⟩|⟨b,c,_⟩
  ·cases wr <;> cases h
  exact⟨b,c⟩
 | succ k=>
  simp at f
theorem zp3 {pg:Pg} (h:z4=pgL pg):pg=pg0:=by
 cases pg;simp only[z4,pgL,List.cons.injEq]at h;simp only[pg0,Pg.mk.injEq];omega
theorem zmq {pg:Pg} (h: [0,0,0,9,0,0,0,0]=pgL pg):pg=⟨0,0,0,9,0,0,0,0⟩:=by
 cases pg;simp only[pgL,List.cons.injEq]at h;simp only[Pg.mk.injEq];omega
theorem zpn (BF:Bool × Nat × Ma):qN zaL BF pg0 QV Xd Xc 0 0=(Xc,0,Qx pg0 Xd):=by
 rfl
theorem zpm (BF:Bool × Nat × Ma):qN (Qx ⟨0,0,0,9,0,0,0,0⟩ Xc) BF ⟨0,0,0,9,0,0,0,0⟩ QV Xc Xd 0 0=(Xc,0,Qx ⟨0,0,0,9,0,0,0,0⟩ Xc):=by
 rfl
theorem zil {BF:Nat->Nat->Ar->Pg->Bool->Bool × Nat × Ma} {q i:Nat} {a:Ar} {pg:Pg} {ic:Bool} (c:(0:Int)=(q:Int)) (hi:(0:Int)=(i:Int)) (e:js zaL 0 0 Xc a 0) (b:ZK zaL 0 0=(pgL pg,ic,0)):q=0/\i=0/\a=QV/\qN zaL (BF q i a pg Xc) pg a ic Xc q i=(Xc,0,Qx pg0 Xd):=by
 have c:q=0:=by omega
 have d:i=0:=by omega
 subst c d;obtain⟨_,c⟩:=zj8 rfl e;subst c;rw[zlX]at b;simp only[pJ]at b;obtain⟨c,d,_⟩:=b;have b:=zp3 c;subst b d;exact⟨rfl,rfl,rfl,zpn _⟩
theorem zq9 {BF:Nat->Nat->Ar->Pg->Bool->Bool × Nat × Ma} {a:Int}:¬jn zaL BF 0 0 Xc a:=by
 rintro⟨b,h|⟨a,_,h⟩|⟨_,q,i,a,a,a,d,c,e,f,a⟩⟩
 ·exact b (zj8 rfl h).1
 ·rw[zlX]at h;exact b h.symm
 rw[(zil d c e f).2.2.2]at a;cases a
theorem zhE {BF:Nat->Nat->Ar->Pg->Bool->Bool × Nat × Ma} (d:zcC zaL BF 0 0 Xc kk m'):kk=0/\m'=Qx pg0 Xc:=by
 obtain⟨q,i,a,a,a,h,j,i,k,l,a,b,a,c⟩:=d;obtain⟨d,e,f,g⟩:=zil (BF:=BF) j i k l;rw[g]at b a c;subst d e f b;have a:(Qx pg0 Xd).fs[0]? =Xa h:=a;cases a;exact⟨rfl,c⟩
theorem zql {BF:Nat->Nat->Ar->Pg->Bool->Bool × Nat × Ma} {q i:Nat} {a:Ar} {pg:Pg} {ic:Bool} (e:(0:Int)=(q:Int)) (hi:(0:Int)=(i:Int)) (f:js zaL 0 0 Xc a 0) (g:ZK zaL 0 0=(pgL pg,ic,0)):zpI (qN zaL (BF q i a pg Xc) pg a ic Xc q i).2.1 q i (qN zaL (BF q i a pg Xc) pg a ic Xc q i).2.2:=by
 obtain⟨b,c,d,d⟩:=zil (BF:=BF) e hi f g;rw[d];subst b c;exact⟨_,_,_,zrG Xd,rfl,rfl,rfl⟩
theorem zpO (V:MaV) (W) (BF:Nat->Nat->Ar->Pg->Bool->Bool × Nat × Ma) (b:zE W V zaL):Xp prog 140 #[Xi #[V.f.x,I6 (zaL).hand,V.s.x,V.sb.x,V.sq.x,V.db.x,V.dq.x,V.fl.x,I6 (zaL).cnt,V.ca.x,V.sp.x],I6 0,I6 0,Xh Xc] W fun e w'=>((∃a:Int,e= Xl (Xm #[Xi zU.toArray,I6 0,I6 a])/\jn zaL BF 0 0 Xc a)\/(∃(V':MaV) (k a:Nat) (m':Ma),e= Xl (Xm #[Xi (mL V' m').toArray,I6 (k:Int),I6 0])/\zcC zaL BF 0 0 Xc k m'/\ChW W a w' V' m'))/\zb W w':=
 zhF V zaL 0 0 Xc W b zq4 BF (fun a W p a a a l b e _ _ a _=>absurd a (by rw[e];exact zW l zq4 b (k:=1) (fr:=frF) rfl rfl))
  (fun q i c d _ _ a _ b _=>by
   obtain⟨_,e⟩:=zj8 rfl a;rw[e]at b;exact absurd b (by decide)) (fun q i c d b c b a d _=>zql c b a d)
theorem zik {BF:Nat->Nat->Ar->Pg->Bool->Bool × Nat × Ma} {q i:Nat} {a:Ar} {pg:Pg} {ic:Bool} (c:(0:Int)=(q:Int)) (hi:(0:Int)=(i:Int)) (e:js (Qx ⟨0,0,0,9,0,0,0,0⟩ Xc) 0 0 Xd a 0) (b:ZK (Qx ⟨0,0,0,9,0,0,0,0⟩ Xc) 0 0=(pgL pg,ic,0)):q=0/\i=0/\a=QV/\qN (Qx ⟨0,0,0,9,0,0,0,0⟩ Xc) (BF q i a pg Xd) pg a ic Xd q i=(Xc,0,Qx ⟨0,0,0,9,0,0,0,0⟩ Xc):=by
 have c:q=0:=by omega
 have d:i=0:=by omega
 subst c d;obtain⟨_,c⟩:=zj8 rfl e;subst c;rw[zlW]at b;simp only[pJ]at b;obtain⟨c,d,_⟩:=b;have b:=zmq c;subst b d;exact⟨rfl,rfl,rfl,zpm _⟩
theorem zq8 {BF:Nat->Nat->Ar->Pg->Bool->Bool × Nat × Ma} {a:Int}:¬jn (Qx ⟨0,0,0,9,0,0,0,0⟩ Xc) BF 0 0 Xd a:=by
 rintro⟨b,h|⟨a,_,h⟩|⟨_,q,i,a,a,a,d,c,e,f,a⟩⟩
 ·exact b (zj8 rfl h).1
 ·rw[zlW]at h;exact b h.symm
 rw[(zik d c e f).2.2.2]at a;cases a
theorem zhD {BF:Nat->Nat->Ar->Pg->Bool->Bool × Nat × Ma} (d:zcC (Qx ⟨0,0,0,9,0,0,0,0⟩ Xc) BF 0 0 Xd kk m'):kk=0/\m'=Qx ⟨0,0,0,9,0,0,0,0⟩ Xc:=by
 obtain⟨q,i,a,a,a,h,j,i,k,l,a,b,a,c⟩:=d;obtain⟨d,e,f,g⟩:=zik (BF:=BF) j i k l;rw[g]at b a c;subst d e f b;have a:(Qx ⟨0,0,0,9,0,0,0,0⟩ Xc).fs[0]? =Xa h:=a;cases a;exact⟨rfl,c⟩
theorem zqk {BF:Nat->Nat->Ar->Pg->Bool->Bool × Nat × Ma} {q i:Nat} {a:Ar} {pg:Pg} {ic:Bool} (e:(0:Int)=(q:Int)) (hi:(0:Int)=(i:Int)) (f:js (Qx ⟨0,0,0,9,0,0,0,0⟩ Xc) 0 0 Xd a 0) (g:ZK (Qx ⟨0,0,0,9,0,0,0,0⟩ Xc) 0 0=(pgL pg,ic,0)):zpI (qN (Qx ⟨0,0,0,9,0,0,0,0⟩ Xc) (BF q i a pg Xd) pg a ic Xd q i).2.1 q i (qN (Qx ⟨0,0,0,9,0,0,0,0⟩ Xc) (BF q i a pg Xd) pg a ic Xd q i).2.2:=by
 obtain⟨b,c,d,d⟩:=zik (BF:=BF) e hi f g;rw[d];subst b c;exact⟨_,_,_,zp0 Xc,rfl,rfl,rfl⟩
theorem zpN (V:MaV) (W) (BF:Nat->Nat->Ar->Pg->Bool->Bool × Nat × Ma) (b:zE W V (Qx ⟨0,0,0,9,0,0,0,0⟩ Xc)):Xp prog 140 #[Xi #[V.f.x,I6 ((Qx ⟨0,0,0,9,0,0,0,0⟩ Xc)).hand,V.s.x,V.sb.x,V.sq.x,V.db.x,V.dq.x,V.fl.x,I6 ((Qx ⟨0,0,0,9,0,0,0,0⟩ Xc)).cnt,V.ca.x,V.sp.x],I6 0,I6 0,Xh Xd] W fun e w'=>((∃a:Int,e= Xl (Xm #[Xi zU.toArray,I6 0,I6 a])/\jn (Qx ⟨0,0,0,9,0,0,0,0⟩ Xc) BF 0 0 Xd a)\/(∃(V':MaV) (k a:Nat) (m':Ma),e= Xl (Xm #[Xi (mL V' m').toArray,I6 (k:Int),I6 0])/\zcC (Qx ⟨0,0,0,9,0,0,0,0⟩ Xc) BF 0 0 Xd k m'/\ChW W a w' V' m'))/\zb W w':=
 zhF V (Qx ⟨0,0,0,9,0,0,0,0⟩ Xc) 0 0 Xd W b (zp0 Xc) BF (fun a W p a a a l b e _ _ a _=>absurd a (by rw[e];exact zW l (zp0 Xc) b (k:=1) (fr:=frF) rfl rfl))
  (fun q i c d _ _ a _ b _=>by
   obtain⟨_,e⟩:=zj8 rfl a;rw[e]at b;exact absurd b (by decide)) (fun q i c d b c b a d _=>zqk c b a d)
def zlk:Cl:=⟨1,0,0,1,-1,0,Xc,Xc,Xd,noS⟩
def zqJ (s:Sli):Cl:=⟨5,0,3,0,0,0,Xd,Xd,Xd,s⟩
def zqI:Cl:=⟨4,0,3,1,0,0,Xd,Xd,Xd,noS⟩
theorem zoF {b n:Int} {l:List Int} (h:Jg (Jq 2 2 0) 0 (zqQ (Jq 2 2 0) zlk) b n l m'):b=0/\m'=zaL:=by
 rcases h with⟨_,_,_,c⟩|⟨_,_,q,s,e,a,d⟩
 ·exact absurd (⟨rfl,rfl,rfl⟩:qU (Jq 2 2 0) 0 0 ⟨Xc,[],Jo⟩) (c 0 _)
 have c:q=0:=by have:=e.1;simp only[zlk]at this;omega
 subst c;have c:=e.2.1;cases c;have c:zhn [] (arC zlk)=([QV],0):=zrc;rw[c]at a d;have a:b=0:=a;exact⟨a,(d a).2⟩
theorem zkc {s:Sli} (b:s.n=1) {BF:Nat->Nat->Ar->Pg->Bool->Bool × Nat × Ma} {a n:Int} {l:List Int} (h:Jg zaL 0 (zdR zaL BF (zqJ s) [9]) a n l m'):a=0/\m'=Qx ⟨0,0,0,9,0,0,0,0⟩ Xc:=by
 have c:qD (zqJ s).pt ((zqJ s).dv.n:Int)=Xc:=by
  show qD 3 (s.n:Int)=Xc
  rw[b]
  decide
 rcases h with⟨_,_,_,b⟩|⟨_,_,⟨_,h⟩|⟨g,_,f,k,d,m,⟨_,e,a,_⟩,j,i⟩⟩
 ·exact absurd (⟨rfl,rfl,rfl⟩:qU zaL 0 0 ⟨Xc,[QV],Jo⟩) (b 0 _)
 ·rcases h with⟨h,_⟩|⟨_,h⟩|⟨_,_,f,k,d,k,b,e,a,f,_⟩
  ·rw[c]at h;cases h
  ·exact absurd h zq9
  obtain⟨b,c⟩:=zhE e;subst b c;have a:(Qx pg0 Xc).fs[0]? =Xa d:=a;cases a;have f:(-1:Int)=(k:Int):=f;omega
 obtain⟨b,c⟩:=zhE e;subst b c;have a:(Qx pg0 Xc).fs[0]? =Xa d:=a;cases a;have e:=zmq (pg:=m) j;subst e;exact⟨g,i⟩
theorem zmH {BF:Nat->Nat->Ar->Pg->Bool->Bool × Nat × Ma} {a n:Int} {l:List Int} (h:Jg (Qx ⟨0,0,0,9,0,0,0,0⟩ Xc) 0 (ziX (Qx ⟨0,0,0,9,0,0,0,0⟩ Xc) BF zqI) a n l m'):a=0/\l=[9]:=by
 have c:qD zqI.pt zqI.n=Xc:=by decide
 rcases h with⟨_,_,_,b⟩|⟨_,⟨_,_,h⟩|⟨g,_,f,d,⟨_,e,a,_⟩,i⟩⟩
 ·exact absurd (⟨rfl,rfl,rfl⟩:qU (Qx ⟨0,0,0,9,0,0,0,0⟩ Xc) 0 0 ⟨Xc,[QV],tbA Xc⟩) (b 0 _)
 ·rcases h with⟨h,_⟩|⟨_,h⟩|⟨_,_,f,b,d,j,b,e,a,f,_⟩
  ·rw[c]at h;cases h
  ·exact absurd h zq8
  obtain⟨b,c⟩:=zhD e;subst b c;have a:(Qx ⟨0,0,0,9,0,0,0,0⟩ Xc).fs[0]? =Xa d:=a;cases a;have f:(-1:Int)=(j:Int):=f;omega
 obtain⟨b,c⟩:=zhD e;subst b c;have a:(Qx ⟨0,0,0,9,0,0,0,0⟩ Xc).fs[0]? =Xa d:=a;cases a;exact⟨g,i⟩
theorem zrM {BF:Nat->Nat->Ar->Pg->Bool->Bool × Nat × Ma} (kk:Nat) (m':Ma) (h:zcC zaL BF 0 0 Xc kk m'):∃fr:Fr,m'.fs[kk]? =Xa fr/\(fr.f=-1\/∃(j:Nat) (a:Fl),fr.f=(j:Int)/\m'.fl[j]? =Xa a)/\0<=fr.x/\fr.x<1000:=by
 obtain⟨a,b⟩:=zhE h;subst a b;exact⟨_,rfl,.inl rfl,by decide,by decide⟩
theorem zrL {BF:Nat->Nat->Ar->Pg->Bool->Bool × Nat × Ma} (kk:Nat) (m':Ma) (h:zcC (Qx ⟨0,0,0,9,0,0,0,0⟩ Xc) BF 0 0 Xd kk m'):∃fr:Fr,m'.fs[kk]? =Xa fr/\(fr.f=-1\/∃(j:Nat) (a:Fl),fr.f=(j:Int)/\m'.fl[j]? =Xa a)/\0<=fr.x/\fr.x<1000:=by
 obtain⟨a,b⟩:=zhD h;subst a b;exact⟨_,rfl,.inl rfl,by decide,by decide⟩
def arB (s:Bool):Ar:=⟨1,2,Xc,Xc,s,0,0⟩
def fkS (s:Bool) (e0 e1:En):Sp:=⟨Xc,[QV,arB s],zhl (zhl Jo 0 e0) 1 e1⟩
def fkM (f0 f1 f2 f3:Fr) (ca:List Ca) (sp:List Sp):Ma:=⟨[f0,f1,f2,f3,frF,frF],0,Xr 6 0,Xr 6 z4,[],Xr 4 z4,[],[⟨8,[-1]⟩],4,ca,sp⟩
def pgX (x:Int):Pg:=⟨0,0,x,0,0,0,0,0⟩
def frP (x r:Int):Fr:=⟨pgX x,r,Xc,Xd,-1,0⟩
def frC (x r:Int) (d:Bool):Fr:=⟨pgX x,r,Xc,d,0,0⟩
theorem ZG {q n:Nat} {s:Bool} {u:Sp} (g:m.sp[q]? =Xa u) (k:u.ars=[QV,arB s]) (b:n<2) {wr:Bool} (a) (e:Int) (h:js m (q:Int) (n:Int) wr a e):e=0/\a=if n=0 then QV else arB s:=by
 rcases h with⟨_,_,h⟩|⟨i,f,l,t,x,c,a,_,d,b,_,j,_,h⟩
 ·rcases h with(h|h) | ⟨i,t,c,d,h⟩
  ·omega
  ·have:=(gS.1 g).1;omega
  have:i=q:=by omega
  subst this;rw[g]at d;cases d;rw[k]at h;have c:=h QV (Xt ..);have a:=h (arB s) (Xx _ (Xt ..));unfold inZ QV at c;unfold inZ arB at a
  simp at c a
  omega
 have:i=q:=by omega
 subst this;have:f=n:=by omega
 subst this;rw[g]at d;cases d;rw[k]at b
 match l,b with
 | 0,b=>
  cases b;have d:f=0:=by
   have a:(f:Int)<1:=j.2;omega
  rw[kE d]
  rcases h with⟨_,_,h⟩|⟨c,a,_⟩
  ·cases wr <;> cases h
  exact⟨c,a⟩
 | 1,b=>
  cases b;have d:¬f=0:=by
   have a:(1:Int)<=(f:Int):=j.1;omega
  rw[kF d]
  rcases h with⟨_,_,h⟩|⟨c,a,_⟩
  ·cases wr <;> cases h
  exact⟨c,a⟩
 | l+2,b=>exact absurd b (by simp)
theorem ZO {P:Prop} (h:0<=QV.file):P:=absurd h (by decide)
theorem zl2:zas (fkM frF frF frF frF [] [fkS Xc en0 en0]) 0 0 Xc QV pg0 Xd 0 (fkM ⟨pg0,1,Xc,Xd,-1,0⟩ frF frF frF [] [fkS Xc ⟨1,0,Xd⟩ en0]) ⟨pg0,1,Xc,Xd,-1,0⟩:=by
 have b:Rt (fkM frF frF frF frF [] [fkS Xc en0 en0]):=⟨by kernel_rfl,by intro s a;rcases mC.1 a with rfl | a;rfl;cases a⟩
 refine⟨b,by decide,⟨_,rfl⟩,fun l c=>zW l b c (k:=5) (fr:=frF) rfl rfl,fun b e h=>ZG (n:=0) rfl rfl (by decide) b e h,by kernel_rfl,by kernel_rfl,⟨_,_,_,⟨by kernel_rfl,by intro s a;rcases mC.1 a with rfl | a;rfl;cases a⟩,rfl,rfl,rfl⟩,rfl,fun h=>ZO h,⟨.inl rfl,by show(0:Int)<=0;omega,by show(0:Int)<1000;omega⟩⟩
theorem zhO:zas (fkM frF frF frF frF [] [fkS Xd en0 en0]) 0 0 Xc QV pg0 Xd 0 (fkM ⟨pg0,1,Xc,Xd,-1,0⟩ frF frF frF [] [fkS Xd ⟨1,0,Xd⟩ en0]) ⟨pg0,1,Xc,Xd,-1,0⟩:=by
 have b:Rt (fkM frF frF frF frF [] [fkS Xd en0 en0]):=⟨by kernel_rfl,by intro s a;rcases mC.1 a with rfl | a;rfl;cases a⟩
 refine⟨b,by decide,⟨_,rfl⟩,fun l c=>zW l b c (k:=5) (fr:=frF) rfl rfl,fun b e h=>ZG (n:=0) rfl rfl (by decide) b e h,by kernel_rfl,by kernel_rfl,⟨_,_,_,⟨by kernel_rfl,by intro s a;rcases mC.1 a with rfl | a;rfl;cases a⟩,rfl,rfl,rfl⟩,rfl,fun h=>ZO h,⟨.inl rfl,by show(0:Int)<=0;omega,by show(0:Int)<1000;omega⟩⟩
theorem zl1 {x:Int}:zas (fkM (frP x 1) frF frF frF [] [fkS Xc ⟨1,0,Xc⟩ en0]) 0 1 Xc (arB Xc) pg0 Xd 1 (fkM (frP x 1) ⟨pg0,2,Xc,Xd,0,0⟩ frF frF [⟨0,0,1⟩] [fkS Xc ⟨1,0,Xc⟩ ⟨1,1,Xd⟩]) ⟨pg0,2,Xc,Xd,0,0⟩:=by
 have b:Rt (fkM (frP x 1) frF frF frF [] [fkS Xc ⟨1,0,Xc⟩ en0]):=⟨by kernel_rfl,by intro s a;rcases mC.1 a with rfl | a;rfl;cases a⟩
 refine⟨b,by decide,⟨_,rfl⟩,fun l c=>zW l b c (k:=5) (fr:=frF) rfl rfl,fun b e h=>ZG (n:=1) rfl rfl (by decide) b e h,by kernel_rfl,by kernel_rfl,⟨_,_,_,⟨by kernel_rfl,by intro s a;rcases mC.1 a with rfl | a;rfl;cases a⟩,rfl,rfl,rfl⟩,rfl,fun _=>⟨0,0,rfl,rfl,by decide,by decide,by decide,by decide,fun h=>rfl⟩,⟨.inr ⟨0,⟨8,[-1]⟩,rfl,rfl,by show(0:Int)*8+8<=8;omega⟩,by show(0:Int)<=0;omega,by show(0:Int)<1000;omega⟩⟩
theorem zhN {x:Int}:zas (fkM (frP x 1) frF frF frF [] [fkS Xd ⟨1,0,Xc⟩ en0]) 0 1 Xc (arB Xd) pg0 Xd 1 (fkM (frP x 1) ⟨pg0,1,Xc,Xd,-1,0⟩ frF frF [] [fkS Xd ⟨1,0,Xc⟩ ⟨1,1,Xd⟩]) ⟨pg0,1,Xc,Xd,-1,0⟩:=by
 have b:Rt (fkM (frP x 1) frF frF frF [] [fkS Xd ⟨1,0,Xc⟩ en0]):=⟨by kernel_rfl,by intro s a;rcases mC.1 a with rfl | a;rfl;cases a⟩
 refine⟨b,by decide,⟨_,rfl⟩,fun l c=>zW l b c (k:=5) (fr:=frF) rfl rfl,fun b e h=>ZG (n:=1) rfl rfl (by decide) b e h,by kernel_rfl,by kernel_rfl,⟨_,_,_,⟨by kernel_rfl,by intro s a;rcases mC.1 a with rfl | a;rfl;cases a⟩,rfl,rfl,rfl⟩,rfl,fun _=>⟨0,0,rfl,rfl,by decide,by decide,by decide,by decide,fun h=>rfl⟩,⟨.inl rfl,by show(0:Int)<=0;omega,by show(0:Int)<1000;omega⟩⟩
theorem zl0 {x:Int}:zas (fkM (frP x 2) (frC x 3 Xc) frF frF [⟨0,0,1⟩] [fkS Xc ⟨1,0,Xd⟩ ⟨1,1,Xd⟩,fkS Xc ⟨1,0,Xd⟩ ⟨1,1,Xd⟩]) 1 0 Xd QV (pgX x) Xc 0 (fkM (frP x 2) (frC x 3 Xc) frF frF [⟨0,0,1⟩] [fkS Xc ⟨1,0,Xd⟩ ⟨1,1,Xd⟩,fkS Xc ⟨1,0,Xd⟩ ⟨1,1,Xd⟩]) (frP x 2):=by
 have b:Rt (fkM (frP x 2) (frC x 3 Xc) frF frF [⟨0,0,1⟩] [fkS Xc ⟨1,0,Xd⟩ ⟨1,1,Xd⟩,fkS Xc ⟨1,0,Xd⟩ ⟨1,1,Xd⟩]):=⟨by kernel_rfl,by intro s a;rcases mC.1 a with rfl | a;rfl;rcases mC.1 a with rfl | a;rfl;cases a⟩
 refine⟨b,by decide,⟨_,rfl⟩,fun l a=>zW l b a (k:=5) (fr:=frF) rfl rfl,fun a e h=>ZG (n:=0) rfl rfl (by decide) a e h,by kernel_rfl,by kernel_rfl,⟨_,_,_,b,rfl,rfl,rfl⟩,rfl,fun h=>ZO h,⟨.inl rfl,by show(0:Int)<=0;omega,by show(0:Int)<1000;omega⟩⟩
theorem zhM {x:Int}:zas (fkM (frP x 2) (frP x 2) frF frF [] [fkS Xd ⟨1,0,Xd⟩ ⟨1,1,Xd⟩,fkS Xd ⟨1,0,Xd⟩ ⟨1,1,Xd⟩]) 1 0 Xd QV (pgX x) Xc 0 (fkM (frP x 2) (frP x 2) frF frF [] [fkS Xd ⟨1,0,Xd⟩ ⟨1,1,Xd⟩,fkS Xd ⟨1,0,Xd⟩ ⟨1,1,Xd⟩]) (frP x 2):=by
 have b:Rt (fkM (frP x 2) (frP x 2) frF frF [] [fkS Xd ⟨1,0,Xd⟩ ⟨1,1,Xd⟩,fkS Xd ⟨1,0,Xd⟩ ⟨1,1,Xd⟩]):=⟨by kernel_rfl,by intro s a;rcases mC.1 a with rfl | a;rfl;rcases mC.1 a with rfl | a;rfl;cases a⟩
 refine⟨b,by decide,⟨_,rfl⟩,fun l a=>zW l b a (k:=5) (fr:=frF) rfl rfl,fun a e h=>ZG (n:=0) rfl rfl (by decide) a e h,by kernel_rfl,by kernel_rfl,⟨_,_,_,b,rfl,rfl,rfl⟩,rfl,fun h=>ZO h,⟨.inl rfl,by show(0:Int)<=0;omega,by show(0:Int)<1000;omega⟩⟩
theorem zlZ {x:Int}:zas (fkM (frP x 2) (frC x 3 Xc) frF frF [⟨0,0,1⟩] [fkS Xc ⟨1,0,Xd⟩ ⟨1,1,Xd⟩,fkS Xc ⟨1,0,Xd⟩ ⟨1,1,Xd⟩]) 1 1 Xd (arB Xc) (pgX x) Xd 1 (fkM (frP x 2) (frC x 3 Xc) frF frF [⟨0,0,1⟩] [fkS Xc ⟨1,0,Xd⟩ ⟨1,1,Xd⟩,fkS Xc ⟨1,0,Xd⟩ ⟨1,1,Xd⟩]) (frC x 3 Xc):=by
 have b:Rt (fkM (frP x 2) (frC x 3 Xc) frF frF [⟨0,0,1⟩] [fkS Xc ⟨1,0,Xd⟩ ⟨1,1,Xd⟩,fkS Xc ⟨1,0,Xd⟩ ⟨1,1,Xd⟩]):=⟨by kernel_rfl,by intro s a;rcases mC.1 a with rfl | a;rfl;rcases mC.1 a with rfl | a;rfl;cases a⟩
 refine⟨b,by decide,⟨_,rfl⟩,fun l a=>zW l b a (k:=5) (fr:=frF) rfl rfl,fun a e h=>ZG (n:=1) rfl rfl (by decide) a e h,by kernel_rfl,by kernel_rfl,⟨_,_,_,b,rfl,rfl,rfl⟩,rfl,fun _=>⟨0,0,rfl,rfl,by decide,by decide,by decide,by decide,fun h=>nomatch(show Xc=Xd from h)⟩,⟨.inr ⟨0,⟨8,[-1]⟩,rfl,rfl,by show(0:Int)*8+8<=8;omega⟩,by show(0:Int)<=0;omega,by show(0:Int)<1000;omega⟩⟩
theorem zhL {x:Int}:zas (fkM (frP x 2) (frP x 2) frF frF [] [fkS Xd ⟨1,0,Xd⟩ ⟨1,1,Xd⟩,fkS Xd ⟨1,0,Xd⟩ ⟨1,1,Xd⟩]) 1 1 Xd (arB Xd) (pgX x) Xc 1 (fkM (frP x 2) (frP x 2) frF frF [] [fkS Xd ⟨1,0,Xd⟩ ⟨1,1,Xd⟩,fkS Xd ⟨1,0,Xd⟩ ⟨1,1,Xd⟩]) (frP x 2):=by
 have b:Rt (fkM (frP x 2) (frP x 2) frF frF [] [fkS Xd ⟨1,0,Xd⟩ ⟨1,1,Xd⟩,fkS Xd ⟨1,0,Xd⟩ ⟨1,1,Xd⟩]):=⟨by kernel_rfl,by intro s a;rcases mC.1 a with rfl | a;rfl;rcases mC.1 a with rfl | a;rfl;cases a⟩
 refine⟨b,by decide,⟨_,rfl⟩,fun l a=>zW l b a (k:=5) (fr:=frF) rfl rfl,fun a e h=>ZG (n:=1) rfl rfl (by decide) a e h,by kernel_rfl,by kernel_rfl,⟨_,_,_,b,rfl,rfl,rfl⟩,rfl,fun _=>⟨0,0,rfl,rfl,by decide,by decide,by decide,by decide,fun h=>rfl⟩,⟨.inl rfl,by show(0:Int)<=0;omega,by show(0:Int)<1000;omega⟩⟩
theorem zlY {x:Int}:zas (fkM (frP x 2) (frC x 3 Xc) frF frF [⟨0,0,1⟩] [fkS Xc ⟨1,0,Xd⟩ ⟨1,1,Xd⟩,fkS Xc ⟨1,0,Xd⟩ ⟨1,1,Xd⟩]) 0 0 Xc QV (pgX x) Xc 2 (fkM (frP x 1) (frC x 3 Xc) (frP x 1) frF [⟨0,0,1⟩] [fkS Xc ⟨1,2,Xd⟩ ⟨1,1,Xd⟩,fkS Xc ⟨1,0,Xd⟩ ⟨1,1,Xd⟩]) (frP x 1):=by
 have b:Rt (fkM (frP x 2) (frC x 3 Xc) frF frF [⟨0,0,1⟩] [fkS Xc ⟨1,0,Xd⟩ ⟨1,1,Xd⟩,fkS Xc ⟨1,0,Xd⟩ ⟨1,1,Xd⟩]):=⟨by kernel_rfl,by intro s a;rcases mC.1 a with rfl | a;rfl;rcases mC.1 a with rfl | a;rfl;cases a⟩
 refine⟨b,by decide,⟨_,rfl⟩,fun l c=>zW l b c (k:=5) (fr:=frF) rfl rfl,fun b e h=>ZG (n:=0) rfl rfl (by decide) b e h,by kernel_rfl,by kernel_rfl,⟨_,_,_,⟨by kernel_rfl,by intro s a;rcases mC.1 a with rfl | a;rfl;rcases mC.1 a with rfl | a;rfl;cases a⟩,rfl,rfl,rfl⟩,rfl,fun h=>ZO h,⟨.inl rfl,by show(0:Int)<=0;omega,by show(0:Int)<1000;omega⟩⟩
theorem zhK {x:Int}:zas (fkM (frP x 2) (frP x 2) frF frF [] [fkS Xd ⟨1,0,Xd⟩ ⟨1,1,Xd⟩,fkS Xd ⟨1,0,Xd⟩ ⟨1,1,Xd⟩]) 0 0 Xc QV (pgX x) Xc 2 (fkM (frP x 1) (frP x 2) (frP x 1) frF [] [fkS Xd ⟨1,2,Xd⟩ ⟨1,1,Xd⟩,fkS Xd ⟨1,0,Xd⟩ ⟨1,1,Xd⟩]) (frP x 1):=by
 have b:Rt (fkM (frP x 2) (frP x 2) frF frF [] [fkS Xd ⟨1,0,Xd⟩ ⟨1,1,Xd⟩,fkS Xd ⟨1,0,Xd⟩ ⟨1,1,Xd⟩]):=⟨by kernel_rfl,by intro s a;rcases mC.1 a with rfl | a;rfl;rcases mC.1 a with rfl | a;rfl;cases a⟩
 refine⟨b,by decide,⟨_,rfl⟩,fun l c=>zW l b c (k:=5) (fr:=frF) rfl rfl,fun b e h=>ZG (n:=0) rfl rfl (by decide) b e h,by kernel_rfl,by kernel_rfl,⟨_,_,_,⟨by kernel_rfl,by intro s a;rcases mC.1 a with rfl | a;rfl;rcases mC.1 a with rfl | a;rfl;cases a⟩,rfl,rfl,rfl⟩,rfl,fun h=>ZO h,⟨.inl rfl,by show(0:Int)<=0;omega,by show(0:Int)<1000;omega⟩⟩
theorem zhQ {x:Int}:zas (fkM (frP x 1) (frC x 3 Xc) (frP y 1) frF [⟨0,0,1⟩] [fkS Xc ⟨1,2,Xc⟩ ⟨1,1,Xd⟩,fkS Xc ⟨1,0,Xd⟩ ⟨1,1,Xd⟩]) 1 0 Xc QV (pgX x) Xc 0 (fkM (frP x 1) (frC x 3 Xc) (frP y 1) frF [⟨0,0,1⟩] [fkS Xc ⟨1,2,Xc⟩ ⟨1,1,Xd⟩,fkS Xc ⟨1,0,Xd⟩ ⟨1,1,Xd⟩]) (frP x 1):=by
 have b:Rt (fkM (frP x 1) (frC x 3 Xc) (frP y 1) frF [⟨0,0,1⟩] [fkS Xc ⟨1,2,Xc⟩ ⟨1,1,Xd⟩,fkS Xc ⟨1,0,Xd⟩ ⟨1,1,Xd⟩]):=⟨by kernel_rfl,by intro s a;rcases mC.1 a with rfl | a;rfl;rcases mC.1 a with rfl | a;rfl;cases a⟩
 refine⟨b,by decide,⟨_,rfl⟩,fun l a=>zW l b a (k:=5) (fr:=frF) rfl rfl,fun a e h=>ZG (n:=0) rfl rfl (by decide) a e h,by kernel_rfl,by kernel_rfl,⟨_,_,_,b,rfl,rfl,rfl⟩,rfl,fun h=>ZO h,⟨.inl rfl,by show(0:Int)<=0;omega,by show(0:Int)<1000;omega⟩⟩
theorem zeY {x:Int}:zas (fkM (frP x 1) (frP x 2) (frP y 1) frF [] [fkS Xd ⟨1,2,Xc⟩ ⟨1,1,Xd⟩,fkS Xd ⟨1,0,Xd⟩ ⟨1,1,Xd⟩]) 1 0 Xc QV (pgX x) Xc 0 (fkM (frP x 1) (frP x 2) (frP y 1) frF [] [fkS Xd ⟨1,2,Xc⟩ ⟨1,1,Xd⟩,fkS Xd ⟨1,0,Xd⟩ ⟨1,1,Xd⟩]) (frP x 1):=by
 have b:Rt (fkM (frP x 1) (frP x 2) (frP y 1) frF [] [fkS Xd ⟨1,2,Xc⟩ ⟨1,1,Xd⟩,fkS Xd ⟨1,0,Xd⟩ ⟨1,1,Xd⟩]):=⟨by kernel_rfl,by intro s a;rcases mC.1 a with rfl | a;rfl;rcases mC.1 a with rfl | a;rfl;cases a⟩
 refine⟨b,by decide,⟨_,rfl⟩,fun l a=>zW l b a (k:=5) (fr:=frF) rfl rfl,fun a e h=>ZG (n:=0) rfl rfl (by decide) a e h,by kernel_rfl,by kernel_rfl,⟨_,_,_,b,rfl,rfl,rfl⟩,rfl,fun h=>ZO h,⟨.inl rfl,by show(0:Int)<=0;omega,by show(0:Int)<1000;omega⟩⟩
theorem zhP {x:Int}:zas (fkM (frP z 1) (frC x 3 Xc) (frP y 1) frF [⟨0,0,1⟩] [fkS Xc ⟨1,2,Xc⟩ ⟨1,1,Xd⟩,fkS Xc ⟨1,0,Xc⟩ ⟨1,1,Xd⟩]) 0 1 Xc (arB Xc) (pgX x) Xd 1 (fkM (frP z 1) (frC x 3 Xc) (frP y 1) frF [⟨0,0,1⟩] [fkS Xc ⟨1,2,Xc⟩ ⟨1,1,Xd⟩,fkS Xc ⟨1,0,Xc⟩ ⟨1,1,Xd⟩]) (frC x 3 Xc):=by
 have b:Rt (fkM (frP z 1) (frC x 3 Xc) (frP y 1) frF [⟨0,0,1⟩] [fkS Xc ⟨1,2,Xc⟩ ⟨1,1,Xd⟩,fkS Xc ⟨1,0,Xc⟩ ⟨1,1,Xd⟩]):=⟨by kernel_rfl,by intro s a;rcases mC.1 a with rfl | a;rfl;rcases mC.1 a with rfl | a;rfl;cases a⟩
 refine⟨b,by decide,⟨_,rfl⟩,fun l a=>zW l b a (k:=5) (fr:=frF) rfl rfl,fun a e h=>ZG (n:=1) rfl rfl (by decide) a e h,by kernel_rfl,by kernel_rfl,⟨_,_,_,b,rfl,rfl,rfl⟩,rfl,fun _=>⟨0,0,rfl,rfl,by decide,by decide,by decide,by decide,fun h=>nomatch(show Xc=Xd from h)⟩,⟨.inr ⟨0,⟨8,[-1]⟩,rfl,rfl,by show(0:Int)*8+8<=8;omega⟩,by show(0:Int)<=0;omega,by show(0:Int)<1000;omega⟩⟩
theorem zeX {x:Int}:zas (fkM (frP z 1) (frP x 2) (frP y 1) frF [] [fkS Xd ⟨1,2,Xc⟩ ⟨1,1,Xd⟩,fkS Xd ⟨1,0,Xc⟩ ⟨1,1,Xd⟩]) 0 1 Xc (arB Xd) (pgX x) Xc 3 (fkM (frP z 1) (frP x 1) (frP y 1) (frP x 1) [] [fkS Xd ⟨1,2,Xc⟩ ⟨1,3,Xd⟩,fkS Xd ⟨1,0,Xc⟩ ⟨1,1,Xd⟩]) (frP x 1):=by
 have b:Rt (fkM (frP z 1) (frP x 2) (frP y 1) frF [] [fkS Xd ⟨1,2,Xc⟩ ⟨1,1,Xd⟩,fkS Xd ⟨1,0,Xc⟩ ⟨1,1,Xd⟩]):=⟨by kernel_rfl,by intro s a;rcases mC.1 a with rfl | a;rfl;rcases mC.1 a with rfl | a;rfl;cases a⟩
 refine⟨b,by decide,⟨_,rfl⟩,fun l c=>zW l b c (k:=5) (fr:=frF) rfl rfl,fun b e h=>ZG (n:=1) rfl rfl (by decide) b e h,by kernel_rfl,by kernel_rfl,⟨_,_,_,⟨by kernel_rfl,by intro s a;rcases mC.1 a with rfl | a;rfl;rcases mC.1 a with rfl | a;rfl;cases a⟩,rfl,rfl,rfl⟩,rfl,fun _=>⟨0,0,rfl,rfl,by decide,by decide,by decide,by decide,fun h=>rfl⟩,⟨.inl rfl,by show(0:Int)<=0;omega,by show(0:Int)<1000;omega⟩⟩
def k12:Bool->Int->Int->Int->Ma
 | true,_,y,z=>(fkM (frP z 1) (frC y 3 Xc) (frP y 1) frF [⟨0,0,1⟩] [fkS Xc ⟨1,2,Xc⟩ ⟨1,1,Xc⟩,fkS Xc ⟨1,0,Xc⟩ ⟨1,1,Xd⟩])
 | false,x,y,z=>(fkM (frP z 1) (frP x 1) (frP y 1) (frP y 1) [] [fkS Xd ⟨1,2,Xc⟩ ⟨1,3,Xc⟩,fkS Xd ⟨1,0,Xc⟩ ⟨1,1,Xd⟩])
theorem zr1:∀(s:Bool) (x y z:Int),Rt (k12 s x y z)
 | true,_,y,z=>⟨by kernel_rfl,by intro s a;rcases mC.1 a with rfl | a;rfl;rcases mC.1 a with rfl | a;rfl;cases a⟩
 | false,x,y,z=>⟨by kernel_rfl,by intro s a;rcases mC.1 a with rfl | a;rfl;rcases mC.1 a with rfl | a;rfl;cases a⟩
theorem zfD (h:Rt m) (a:m.fl.length=1) (d:bkN m 0=1):(∀c∈m.ca,c.file=0/\c.idx=0)/\m.ca.length<=1:=by
 obtain⟨f,_,e⟩:=zw.1 h.inv.ca;have a:∀c∈m.ca,c.file=0/\c.idx=0:=fun c b=>by
  obtain⟨⟨g,g,g,g,_⟩,_⟩:=jr (f c b);have f:c.file=0:=by omega
  rw[f,d]at g;exact⟨f,by omega⟩
 refine⟨a,?_⟩
 match b:m.ca with
 | []=>exact nZ _
 | [_]=>exact nR _
 | c :: d :: l=>
  rw[b]at e;have f:=(List.pairwise_cons.1 e).1 d (Xt ..);obtain⟨e,g⟩:=a c (by rw[b];exact Xt ..)
  obtain⟨h,i⟩:=a d (by rw[b];exact Xx _ (Xt ..))
  unfold z5 at f;rw[e,g,h,i]at f;omega
theorem zqy {s:Bool} (h:Rt m) (u:m.sp.length=2) (b:∀t∈m.sp,t.ars=[QV,arB s]) (d:m.fl.length=1) (c:bkN m 0=1) (q:m.fs.length=6):qL m.fs≠0:=by
 have y:=h.inv.heldLe;have z:=zm5 m.fs;have A:zkm (jy m)<=2*m.sp.length:=zjd (m:=m) m.sp (jy m) 2 (by simp[jy]) (fun C t x g j=>by
  rw[ql g]at j;cases j;have i:=zgh (f:=ze t) (l:=t.ars) (n:=64) (fun w r k=>by
   rcases h.ent g r with e|e
   ·rw[e]at k;cases k
   have a:=e.2.2;unfold zdD at a
   split at a
   ·cases a
   rename_i p
   cases v:(zD t.ars w).is with
   | true=>rfl
   | false=>exact absurd v p)
  rw[b t (mG g)]at i;have B:zjN [QV,arB s] 64=2:=by cases s <;> decide
  omega)
 have i:=(zfD h d c).2;omega
theorem zoo {q n:Nat} {t:Sp} {pg:Pg} (h:Rt m) (v:m.sp[q]? =Xa t) (p:n<64) (j:∀l:List (Nat × Nat),(∀x∈l,x.2<64/\∃s,m.sp[x.1]? =Xa s)->qL (zh m l).fs≠0) (f:(zD t.ars n).is=Xc) (b:ZM m (zD t.ars n) (ze t n)=(pgL pg,Xc,0)) (BF:Bool × Nat × Ma) (a):
  ∃(d:Nat) (c:Ma) (fr:Fr),qN m BF pg a Xc Xd q n=(Xc,d,c)/\zpI d q n c/\c.fs[d]? =Xa fr/\fr.p=pg/\fr.f=-1/\Sam (fun _ _=>False) m c/\c.fs.length=m.fs.length:=by
 have c:Zr m q (n:Int)=ze t n:=by unfold Zr;rw[Sp.getD_of v,Qd p]
 have g:qN m BF pg a Xc Xd q n=ZJ m pg Xc Xd q n:=by
  unfold qN;rw[kF (fun h=>nomatch h.1.2)]
 have i:∀{u d:Pg},pgL u=pgL d->u=d:=fun{u d} e=>by
  cases u;cases d
  simpa [pgL]using e
 rw[g];unfold ZJ;rw[c]
 by_cases c:(ze t n).kind=1
 ·rw[kE ⟨c,rfl,.inl rfl⟩];obtain⟨r,fr,k,w,z,D⟩:=h.present v p c;unfold ZM at b;rw[kF (by rw[f];decide),kE c,z]at b
  simp only[pJ,decide_eq_true_eq]at b;have g:fr.f=-1:=by
   rcases(h.inv.fok fr (mG w)).2.2.1 with e|e <;> omega
  have d:ze t n=⟨1,(r:Int),(ze t n).wr⟩:=by
   rw[<-k]
   generalize ze t n=x at c
   obtain⟨u,u,u⟩:=x;simp only at c;rw[c]
  refine⟨r,m,fr,by rw[k,tN],⟨t,fr,_,h,v,w,d⟩,w,i b.1,g,Sam.refl _ _,rfl⟩
 rw[kF (fun e=>c e.1)]
 have A:(ze t n).kind=2:=by
  unfold ZM at b;rw[kF (by rw[f];decide),kF c]at b
  by_cases e:(ze t n).kind=2
  ·exact e
  rw[kF e]at b
  split at b
  ·simp at b
  split at b <;> simp at b
 rw[kE ⟨A,rfl⟩];have y:∀x∈qK m 2 (ze t n).n m.sp.length,x.2<64/\∃s,m.sp[x.1]? =Xa s/\(zD s.ars x.2).is=Xc/\(zD s.ars x.2).sh=Xd:=fun x k=>by
  obtain⟨d,s,i,g,r,_⟩:=zcd h x k;exact⟨d,s,i,g,r⟩
 have g:∀x∈qK m 2 (ze t n).n m.sp.length,x.2<64/\∃s,m.sp[x.1]? =Xa s:=fun x k=>by
  obtain⟨d,s,i,_⟩:=y x k;exact⟨d,s,i⟩
 have d:=zjt v p A;obtain⟨l,i⟩:=kB (qK m 2 (ze t n).n m.sp.length);have u:∀x,x∈l->∃s,m.sp[x.1]? =Xa s/\isE (ze s x.2) 2 (ze t n).n=Xc:=fun x k=>by
  rw[<-i]at k;obtain⟨_,_,s,p,r⟩:=(QJ (by decide) (nR _)).1 k
  exact⟨s,p,r⟩
 have k:l.Nodup:=by rw[<-i];exact zdq m 2 _ _
 rw[i]at y g d⊢;have i:=j l g;have j:qz (zh m l) l=(Xc,zh m l):=by unfold qz;rw[kF i]
 obtain⟨C,_⟩:=qG l h g;obtain⟨_,w,fr,z,D⟩:=zdw (Ya i);have g:l≠[]:=fun e=>by rw[e]at d;cases d
 obtain⟨E,w,i,B⟩:=zrk h g k y (Qw.refl C.rt) z D pg Xc;have F:=zlj w i B (fun _ _=>False) (fun D z e k e e _=>by
  obtain⟨_,s,p,r,_⟩:=y (D,z) e;obtain⟨g,h,g⟩:=u (D,z) e;simp only at p r h g;rw[k]at p h;cases p;cases h;simp only[isE,Bool.and_eq_true,decide_eq_true_eq]at g;refine⟨r,?_⟩;unfold ZM at b⊢;rw[kF (by rw[f];decide),kF c,kE A]at b
  simp only[pJ]at b;rw[kF (by rw[r];decide),kF (by omega),kE g.1,g.2,b.1])
 have:∃c,(zaS (zh m l) (jm (zh m l).fs) pg Xc l).sp[q]? =Xa c:=⟨_,gE (by rw[w.spl];exact(gS.1 v).1)⟩
 obtain⟨c,b⟩:=this;refine⟨jm (zh m l).fs,zaS (zh m l) (jm (zh m l).fs) pg Xc l,_,?_,⟨c,_,Xd,E,b,i,B (q,n) d c b⟩,i,rfl,rfl,F,?_⟩
 ·unfold JY;rw[j,kE rfl]
 show((zh m l).fs.set _ _).length=_
 rw[Xw,C.fsl]
theorem zjC {q n:Nat} {t:Sp} (h:Rt m) (f:m.sp[q]? =Xa t) (d:n<64) (b:(zD t.ars n).sh=Xc) (l:(zD t.ars n).file=0) (hp:(zD t.ars n).page=0):ze t n=en0\/∃(k:Nat) (fr:Fr) (a:Bool),ze t n=⟨1,(k:Int),a⟩/\m.fs[k]? =Xa fr/\fr.f=0/\fr.x=0/\fr.r≠0:=by
 rcases h.ent f d with e|e
 ·exact .inl e
 have a:=e.2.2
 by_cases g:(ze t n).kind=2
 ·obtain⟨k,z,_,_,_,_,_,c,_⟩:=h.swapped f d g;rw[b]at c;cases c
 have c:(ze t n).kind=1:=by
  have:=(jD e.1).1;have:=e.2.1;omega
 obtain⟨k,fr,e,g,i,j⟩:=h.present f d c;unfold zdD at a
 split at a
 ·cases a
 split at a
 ·cases a
 split at a
 ·cases a
 rename_i f
 have a:0<=(zD t.ars n).file/\(zQ m (ze t n).n).f=(zD t.ars n).file/\(zQ m (ze t n).n).x=(zD t.ars n).page:=by
  by_cases d:0<=(zD t.ars n).file/\(zQ m (ze t n).n).f=(zD t.ars n).file/\(zQ m (ze t n).n).x=(zD t.ars n).page
  ·exact d
  exact absurd (.inr (.inl ⟨b,d⟩)) f
 rw[i,l,hp]at a;refine .inr ⟨k,fr,(ze t n).wr,?_,g,a.2.1,a.2.2,j⟩;rw[<-e]
 generalize ze t n=x at c
 obtain⟨b,a,d⟩:=x;simp only at c;rw[c]
theorem zmn {q n:Nat} {t:Sp} {pg:Pg} {a:Ar} (h:Rt m) (e:m.sp[q]? =Xa t) (p:n<64) (B:∀l:List (Nat × Nat),(∀x∈l,x.2<64/\∃s,m.sp[x.1]? =Xa s)->qL (zh m l).fs≠0) (f:(zD t.ars n).is=Xc) (U:(zD t.ars n).sh=Xc) (P:(zD t.ars n).file=0) (hp:(zD t.ars n).page=0) (a4:m.fl.length=1) (L:bkN m 0=1) (a1:a.file=0) (a2:a.base+(n:Int) - a.fr=0) (i:ZM m (zD t.ars n) (ze t n)=(pgL pg,Xd,0)):
  ∃(ac:Nat) (F:Ma) (fr:Fr),qN m (Jt m q n a pg Xd) pg a Xd Xd q n=(Xc,ac,F)/\zpI ac q n F/\F.fs[ac]? =Xa fr/\fr.p=pg/\fr.f=0/\fr.x=0/\Sam (fun _ _=>False) m F/\F.fs.length=m.fs.length/\F.fl=m.fl:=by
 have V:∀{Z I:Pg},pgL Z=pgL I->Z=I:=fun{Z I} j=>by
  cases Z;cases I
  simpa [pgL]using j
 have ar:qN m (Jt m q n a pg Xd) pg a Xd Xd q n=zbt m pg 0 0 q n:=by
  unfold qN;rw[kE ⟨⟨by omega,rfl⟩,.inr rfl⟩]
  unfold Jt;rw[a1,a2]
 have N:Zr m q (n:Int)=ze t n:=by unfold Zr;rw[Sp.getD_of e,Qd p]
 obtain⟨aq,af⟩:=zfD h a4 L;have am:ze t n=en0->pgL pg=zT m 0 0:=fun j=>by
  rw[j]at i;unfold ZM at i;rw[kF (by rw[f];decide),kF (by decide),kF (by decide),P,hp,kF (by decide),kF (by rw[L];decide)]at i
  simp only[pJ]at i;exact i.1.symm
 rw[ar]
 match b:m.ca with
 | []=>
  have z:zbt m pg 0 0 q n=zaA m pg 0 0 [(q,n)]:=by
   unfold zbt;rw[b];rfl
  have ay:ze t n=en0:=by
   rcases zjC h e p U P hp with j|⟨k,fr,an,_,w,b9,_⟩
   ·exact j
   have:=(h.inv.cf k fr w).2 (by omega)
   rw[b]at this;exact absurd rfl this
  have b0:∀x∈[(q,n)],x.2<64/\∃s,m.sp[x.1]? =Xa s:=fun x b4=>by rw[Xz.1 b4];exact⟨p,t,e⟩
  have R:=B _ b0;have aa:qz (zh m [(q,n)]) [(q,n)]=(Xc,qO m q n):=by unfold qz;rw[kF R];rfl
  obtain⟨ah,_⟩:=JX h e p;obtain⟨_,_,fr,au,av⟩:=zdw (fs:=(qO m q n).fs) (Ya R);have ax:Rt (q5 (qZ (qO m q n) (jm (qO m q n).fs) pg Xc Xd 0 0) (jm (qO m q n).fs) q n)/\Sam (fun ad ab=>ad=q/\ab=n) m (q5 (qZ (qO m q n) (jm (qO m q n).fs) pg Xc Xd 0 0) (jm (qO m q n).fs) q n)/\(q5 (qZ (qO m q n) (jm (qO m q n).fs) pg Xc Xd 0 0) (jm (qO m q n).fs) q n).fs[jm (qO m q n).fs]? =Xa ⟨pg,2,Xc,Xd,0,0⟩/\∀Y,(q5 (qZ (qO m q n) (jm (qO m q n).fs) pg Xc Xd 0 0) (jm (qO m q n).fs) q n).sp[q]? =Xa Y->ze Y n=⟨1,(jm (qO m q n).fs:Int),Xd⟩:=zqA (file:=0) (idx:=0) h e p f P hp (by omega) (by show(0:Int)<bkN m 0;omega) (fun g ai=>by rw[b]at ai;cases ai) (Qw.refl ah.rt) au av (am ay) Xc Xd
  obtain⟨G,D,H,X⟩:=ax;have Q:zaA m pg 0 0 [(q,n)]=(Xc,jm (qO m q n).fs,q5 (qZ (qO m q n) (jm (qO m q n).fs) pg Xc Xd 0 0) (jm (qO m q n).fs) q n):=by
   unfold zaA;rw[aa,kE rfl];rfl
  rw[z,Q];have:∃u,(q5 (qZ (qO m q n) (jm (qO m q n).fs) pg Xc Xd 0 0) (jm (qO m q n).fs) q n).sp[q]? =Xa u:=⟨_,gE (by rw[D.spl];exact(gS.1 e).1)⟩
  obtain⟨u,d⟩:=this;refine⟨_,_,_,rfl,⟨u,_,Xd,G,d,H,X u d⟩,H,rfl,rfl,rfl,D.fill (fun ad ab s Y K y az a0 _=>?_),?_,?_⟩
  ·obtain⟨v,w⟩:=a0;subst v w;rw[e]at K;cases K;have y:=d.symm.trans y;cases y;rw[X u d,zi5 f H,i];rfl
  ·show(List.set (List.set (qO m q n).fs _ _) _ _).length=_
   rw[Xw,Xw,ah.fsl]
  show(qO m q n).fl=m.fl
  exact(JX h e p).2.2.2.1
 | [g]=>
  obtain⟨v,w⟩:=aq g (by rw[b];exact Xt ..)
  obtain⟨ap,_,_⟩:=zw.1 h.inv.ca;obtain⟨⟨_,_,_,_,b7,ao⟩,ae,C,W⟩:=jr (ap g (by rw[b];exact Xt ..))
  obtain⟨k,a7⟩:∃k:Nat,g.fr=(k:Int):=⟨g.fr.toNat,by omega⟩
  rw[a7]at ao ae C W;have S:k<m.fs.length:=by omega
  obtain⟨fr,c⟩:∃fr,m.fs[k]? =Xa fr:=⟨_,gE S⟩;rw[zJ c]at ae C W;have z:zbt m pg 0 0 q n=(Xc,k,if(ze t n).kind=0 then q5 m k q n else m):=by
   unfold zbt;rw[b,N];have:List.find? (fun ag=>decide (z5 ag=z5 ⟨0,0,0⟩)) [g]=Xa g:=by
    rw[List.find?_cons];have:z5 g=z5 ⟨0,0,0⟩:=by unfold z5;rw[v,w]
    rw[decide_eq_true this]
   rw[this];simp only;rw[a7,tN]
  have a3:zT m 0 0=pgL fr.p:=by
   unfold zT;rw[b];have:List.find? (Jr 0 0) [g]=Xa g:=by
    rw[List.find?_cons];have:Jr 0 0 g=Xc:=by unfold Jr;rw[v,w];rfl
    rw[this]
   rw[this];simp only;rw[a7,zJ c]
  rw[z]
  rcases zjC h e p U P hp with j|⟨al,aw,an,G,D,H,X,ba⟩
  ·have T:=V ((am j).trans a3);have a8:(ze t n).kind=0:=by rw[j];rfl
   rw[kE a8];obtain⟨b6,ak⟩:=zgE h c (by rw[C,v];decide) e p j f (by rw[C,v,P]) (by rw[W,w,hp])
   have A:=zfk c q n;have:∃u,(q5 m k q n).sp[q]? =Xa u:=⟨_,gE (by rw[ak.spl];exact(gS.1 e).1)⟩
   obtain⟨u,d⟩:=this;have M:=(JK (m1:={ m with fs:=m.fs.set k { zQ m (k:Int)with r:=(zQ m (k:Int)).r+1 } }) (fun s e=>h.tb e) e p (zch h.inv S Xd) d).1
   refine⟨k,_,_,rfl,⟨u,_,Xd,b6,d,A,M⟩,A,T.symm,by show fr.f=0;rw[C,v],by show fr.x=0;rw[W,w],ak.fill (fun ad ab s Y K y az a0 _=>?_),?_,rfl⟩
   ·obtain⟨E,aj⟩:=a0;subst E aj;rw[e]at K;cases K;have y:=d.symm.trans y;cases y;rw[M,zi5 f A,i]
    show(pgL fr.p,decide (fr.f<0),0)=_
    rw[<-T,C,v];rfl
   show(m.fs.set _ _).length=_
   rw[Xw]
  have a9:al=k:=by
   obtain⟨b5,b8,E,aj,_⟩:=zdN h D (by omega)
   rw[b]at E
   match b5,E with
   | 0,E=>
    cases E;omega
  subst a9;rw[c]at D;cases D;rw[kF (by rw[G];show¬(1:Int)=0;decide)]
  rw[G,zi5 f c]at i;simp only[pJ]at i;exact⟨al,m,fr,rfl,⟨t,fr,an,h,e,c,G⟩,c,V i.1,H,X,Sam.refl _ _,rfl,rfl⟩
 | g :: ag :: l=>
  rw[b]at af
  simp at af
structure FkQ (s:Bool) (x y z:Int) (m:Ma):Prop where
 rt:Rt m
 sam:Sam (fun _ _=>False) (k12 s x y z) m
 fsl:m.fs.length=6
def pgO (s:Bool) (x y z:Int) (q n:Nat):Pg:=if n=0 then(if q=0 then pgX y else pgX z)else(if q=0 then pgX y else if s=Xc then pgX y else pgX x)
def icO (s:Bool) (n:Nat):Bool:=if n=0 then Xc else !s
def arO (s:Bool) (n:Nat):Ar:=if n=0 then QV else arB s
section
variable{s:Bool} {x y z:Int} {m:Ma}
theorem FkQ.at (h:FkQ s x y z m) {q:Nat} (c:q<2):∃t a,m.sp[q]? =Xa t/\(k12 s x y z).sp[q]? =Xa a/\a.ars=[QV,arB s]/\t.ars=[QV,arB s]/\t.live=Xc:=by
 have b:(k12 s x y z).sp.length=2:=by cases s <;> rfl
 obtain⟨t,e⟩:∃t,m.sp[q]? =Xa t:=⟨_,gE (by rw[h.sam.spl,b];exact c)⟩
 have b:∃a,(k12 s x y z).sp[q]? =Xa a/\a.ars=[QV,arB s]/\a.live=Xc:=by
  rcases(show q=0\/q=1 by omega)with rfl|rfl <;> cases s <;> exact⟨_,rfl,rfl,rfl⟩
 obtain⟨a,c,d,g⟩:=b;obtain⟨b,f⟩:=h.sam.sp q a t c e;exact⟨t,a,e,c,d,f.trans d,b.trans g⟩
theorem FkQ.spl (h:FkQ s x y z m):m.sp.length=2:=h.sam.spl.trans (by cases s <;> rfl)
theorem FkQ.ars (h:FkQ s x y z m):∀t∈m.sp,t.ars=[QV,arB s]:=fun t a=>by
 obtain⟨d,b⟩:=Xy a;obtain⟨a,_,a,_,_,c,_⟩:=h.at (q:=d) (by have:=(gS.1 b).1;rw[h.spl]at this;exact this)
 rw[b]at a;cases a;exact c
theorem FkQ.fll (h:FkQ s x y z m):m.fl.length=1:=h.sam.fll.trans (by cases s <;> rfl)
theorem FkQ.bk (h:FkQ s x y z m):bkN m 0=1:=(h.sam.bk 0).trans (by cases s <;> rfl)
theorem FkQ.sz (h:FkQ s x y z m):QD m 0=8:=(h.sam.sz 0).trans (by cases s <;> rfl)
theorem FkQ.room (h:FkQ s x y z m) (l:List (Nat × Nat)) (c:∀x∈l,x.2<64/\∃s,m.sp[x.1]? =Xa s):qL (zh m l).fs≠0:=by
 obtain⟨a,_,_,b,_⟩:=qG l h.rt c;refine zqy (s:=s) a.rt (a.sam.spl.trans h.spl) (fun t c=>?_) (by rw[b];exact h.fll) (by rw[a.sam.bk];exact h.bk) (a.fsl.trans h.fsl)
 obtain⟨q,d⟩:=Xy c;obtain⟨b,c⟩:∃b,m.sp[q]? =Xa b:=⟨_,gE (by rw[<-a.sam.spl];exact(gS.1 d).1)⟩
 rw[(a.sam.sp q b t c d).2];exact h.ars b (mG c)
theorem FkQ.evict (h:FkQ s x y z m):FkQ s x y z (Qe m []).2:=by
 obtain⟨g,_⟩:=zgJ h.rt [];exact⟨g.rt,(h.sam.trans g.sam).mono (fun _ _ e=>e.elim id (fun e=>nomatch e)),g.fsl.trans h.fsl⟩
theorem FkQ.first:FkQ s x y z (k12 s x y z):=⟨zr1 s x y z,Sam.refl _ _,by cases s <;> rfl⟩
theorem FkQ.see (h:FkQ s x y z m) {q n:Nat} (f:q<2) (b:n<2) {t:Sp} (a:m.sp[q]? =Xa t):ZM m (zD t.ars n) (ze t n)=(pgL (pgO s x y z q n),icO s n,0):=by
 obtain⟨b,g,b,c,d,e,_⟩:=h.at f;rw[a]at b;cases b;have b:=h.sam.see q n g t c a (by omega) (fun f=>f)
 rw[e,<-d,b];clear b e d a h
 rcases(show q=0\/q=1 by omega)with rfl|rfl <;> rcases(show n=0\/n=1 by omega)with rfl|rfl <;> cases s <;>(cases c;rfl)
theorem FkQ.read (h:FkQ s x y z m) {q n:Nat} (b:q<2) (G:n<2):∃(j:Nat) (d:Ma) (fr:Fr),zas m q n Xd (arO s n) (pgO s x y z q n) (icO s n) j d fr/\fr.p=pgO s x y z q n/\FkQ s x y z (Zc d q n j fr Xd (arO s n).sh):=by
 obtain⟨B,c,r,c,c,F,_⟩:=h.at b;have c:=h.see b G r;have l:zD B.ars n=qg (arO s n) n:=by
  rw[F]
  rcases(show n=0\/n=1 by omega)with rfl|rfl <;> rfl
 have w:(zD B.ars n).is=Xc:=by
  rw[l]
  rcases(show n=0\/n=1 by omega)with rfl|rfl <;> rfl
 have b:ZK m (q:Int) (n:Int)=(pgL (pgO s x y z q n),icO s n,0):=by
  unfold ZK;rw[kF (by rw[h.rt.w];decide),zeV r (by omega)]
  exact c
 have g:0<=(arO s n).file->∃e f:Nat,(arO s n).file=(e:Int)/\(arO s n).base+(n:Int) -(arO s n).fr=(f:Int)/\(0<=(arO s n).base/\(arO s n).base<=100)/\(0<=(arO s n).fr/\(arO s n).fr<=100)/\f<12/\e<5/\(zbE m.ca ⟨(e:Int),(f:Int),0⟩=Xd->m.ca=[]):=fun f=>by
  rcases(show n=0\/n=1 by omega)with rfl|rfl
  ·exact ZO f
  refine⟨0,0,rfl,rfl,⟨by show(0:Int)<=0;omega,by show(0:Int)<=100;omega⟩,⟨by show(0:Int)<=1;omega,by show(1:Int)<=100;omega⟩,by decide,by decide,fun i=>?_⟩
  match e:m.ca with
  | []=>rfl
  | k :: p=>
   obtain⟨p,t⟩:=(zfD h.rt h.fll h.bk).1 k (by rw[e];exact Xt ..)
   have:z5 k=z5 ⟨((0:Nat):Int),((0:Nat):Int),0⟩:=by unfold z5;rw[p,t];rfl
   rw[e]at i;unfold zbE at i;rw[List.any_cons,decide_eq_true this]at i;cases i
 have i:∀{d:Ma} {j:Nat} {fr:Fr},zpI j q n d->d.fs[j]? =Xa fr->Sam (fun _ _=>False) m d->d.fs.length=m.fs.length->FkQ s x y z (Zc d q n j fr Xd (arO s n).sh):=fun{d j fr} hin f hs hl=>by
  obtain⟨H,C,K,t,p,k,u⟩:=hin;rw[f]at k;cases k;obtain⟨v,A,_⟩:=zqc t p (show n<64 by omega) f u Xd (fun e=>nomatch e)
  exact⟨v,(((h.sam.trans hs).trans A).mono (fun _ _ e=>e.elim (fun e=>e.elim id id) id)),by
   show(d.fs.set _ _).length=6
   rw[Xw,hl,h.fsl]⟩
 cases f:icO s n with
 | true=>
  rw[f]at c b;obtain⟨j,d,fr,t,p,k,u,D,v,E⟩:=zoo h.rt r (show n<64 by omega) h.room w c (Jt m q n (arO s n) (pgO s x y z q n) Xd) (arO s n)
  have A:=p;obtain⟨H,C,K,C,_⟩:=A;have A:=(C.inv.fok fr (mG k)).2.1;exact⟨j,d,fr,⟨h.rt,by omega,⟨B,r⟩,h.room,fun C e H=>ZG r F G C e H,b,t,p,k,g,.inl D,A.1,by have:=A.2;omega⟩,u,i p k v E⟩
 | false=>
  rw[f]at c b;have A:n=1:=by
   unfold icO at f
   by_cases e:n=0
   ·rw[kE e]at f;cases f
   omega
  subst A;have A:s=Xc:=by
   cases s
   ·cases f
   rfl
  subst A;obtain⟨j,d,fr,t,p,k,u,D,v,E,A,K⟩:=zmn (a:=arO Xc 1) h.rt r (by omega) h.room w (by rw[l];rfl) (by rw[l];rfl) (by rw[l];rfl) h.fll h.bk rfl rfl c
  obtain⟨c,f⟩:∃c,m.fl[0]? =Xa c:=⟨_,gE (by rw[h.fll];decide)⟩
  have l:c.size=8:=by
   have:=h.sz;unfold QD at this;rw[gD]at this;have e:m.fl[(0:Int).toNat]? =Xa c:=f;rw[e]at this;exact this
  exact⟨j,d,fr,⟨h.rt,by omega,⟨B,r⟩,h.room,fun C e H=>ZG r F G C e H,b,t,p,k,g,.inr ⟨0,c,by rw[D];rfl,by rw[K];exact f,by rw[v,l];decide⟩,by rw[v];decide,by rw[v];decide⟩,u,i p k E A⟩
theorem FkQ.live (h:FkQ s x y z m) {q:Nat} (c:q<2):∃t,qU m (q:Int) q t:=by
 obtain⟨t,_,a,_,_,_,b⟩:=h.at c;exact⟨t,rfl,a,b⟩
theorem FkQ.byte (h:FkQ s x y z m):Jj m 0=0/\2+1<=(J1 m 0).length/\((J1 m 0).drop 2).take 1=[if s=Xc then y else 0]:=by
 have b:Jj m 0=0:=by
  unfold Jj;rw[kF (by rw[h.rt.w];decide),kF (by have:=h.fll;omega)]
 have d:J1 m 0=(Yc 8).map fun(k:Nat)=>(zT m 0 ((k / 8:Nat):Int)).getD (k % 8) 0:=by
  unfold J1 znE;rw[kE b,h.sz];rfl
 have c:=h.sam.byt 0 2 (by
  have:QD (k12 s x y z) ((0:Nat):Int)=8:=by cases s <;> rfl
  rw[this]
  decide)
 have a:(zT (k12 s x y z) ((0:Nat):Int) ((2 / 8:Nat):Int)).getD (2 % 8) 0=if s=Xc then y else 0:=by cases s <;> rfl
 rw[a]at c;rw[d];refine⟨b,by simp,?_⟩
 have e:((Yc 8).map fun(k:Nat)=>(zT m 0 ((k / 8:Nat):Int)).getD (k % 8) 0).drop 2=(zT m 0 ((2 / 8:Nat):Int)).getD (2 % 8) 0 ::((Yc 8).map fun(k:Nat)=>(zT m 0 ((k / 8:Nat):Int)).getD (k % 8) 0).drop 3:=rfl
 rw[e]
 show [(zT m 0 ((2 / 8:Nat):Int)).getD (2 % 8) 0]=_
 exact congrArg (fun a=>[a]) c
end
def znV (m:Ma) (er n:Int) (l:List Int) (m':Ma):Prop:=er=0/\n=0/\l=[]/\m'=(Qe m []).2
theorem ziD (h:Rt m):∀w0 W p a,ChW w0 p W a m->Xp prog 160 #[Xj (Xa ⟨p,0,Xb⟩),eS] W fun e w'=>∃b m',e= Xl (Xh b)/\m'=(Qe m []).2/\Chg w0 p W a m' w':=fun _ W _ _ a=>by
 refine(zld a h (eS) [] (fun a _=>zl.nil zaw a)).mono ?_
 rintro e w' ⟨rfl,a⟩;exact⟨_,_,rfl,rfl,a⟩
theorem zkK {w:Xn} {p:Nat} (h:ChW w0 p w V m) (q:Rt m) (c:Cl):
  Xp prog 48 #[Xj (Xa ⟨p,0,Xb⟩),Xi #[I6 c.kind,I6 c.proc,I6 c.pt,I6 c.n,I6 c.file,I6 c.base,Xh c.rd,Xh c.wr,Xh c.sh,c.dv.x]] w fun e w'=>ZE (znV m) w0 p w e w':=by
 have z:=dD h;obtain⟨f,i⟩:=kA w.heap.size;obtain⟨l,a⟩:=kB ((w.alloc (Xk #[I6 c.kind,I6 c.proc,I6 c.pt,I6 c.n,I6 c.file,I6 c.base,Xh c.rd,Xh c.wr,Xh c.sh,c.dv.x] 25)).alloc (Xk #[I6 0,I6 0,eS] 54));have k:=gD2 a
 have b:Xo (zn l f 25 [I6 c.kind,I6 c.proc,I6 c.pt,I6 c.n,I6 c.file,I6 c.base,Xh c.rd,Xh c.wr,Xh c.sh,c.dv.x]):=dD<|by rw[<-a];exact(zn.top w [I6 c.kind,I6 c.proc,I6 c.pt,I6 c.n,I6 c.file,I6 c.base,Xh c.rd,Xh c.wr,Xh c.sh,c.dv.x] _ i.symm).grew (za _ _)
 have A1:Xo (zn l (f+1) 54 [I6 0,I6 0,eS]):=dD<|by rw[<-a];exact zn.top _ [I6 0,I6 0,eS] _ (by have:=i.out;simp;omega)
 have j:=dD A1.box.lt;have u:=dD<|h.grew k.out;have b:Xo (p<f):=show _<_ by have:=h.dlt p (.inl rfl);have:=i.out;omega
 have C:Xo (w0.heap.size<=f):=dD<|by have:=h.lo;have:=b.out;omega
 have n:=dD a;have g:=zk6 V m l (h.at.grew k) q.w (fun _ d=>d=(Qe m []).2) (ziD q)
 clear a h q
 go_enter func48,ntmps48
 go_upto_region 1 with fail;rw[n.out,i.out];have a:Xo ((Tryz.prog.info? 45).map (·.size)=Xa (chL V m).length):=dD<|by kernel_rfl
 go_wp2_with (first | refine zo rfl 45 (.tmp 11) rfl p rfl u.box.box underlying45 rfl a.out ?_ | (go_at_call 95;refine g.mono ?_))
 clear g;rintro e n ⟨⟨a,d,g,a,rfl,h⟩,q⟩;have r:=dD a;have B:=dD h
 have y:=dD (k.trans q);have A2:=dD (A1.grew q);have D:=dD (u.box.grew q);obtain⟨v,s⟩:=kA n.heap.size;have t:Xo (f+1<v):=show _<_ by rw[<-s.out];exact A2.box.lt
 have t:Xo (∀x∈chL g d,x.oneCell'=Xc):=dD<|by simp[chL,Value.oneCell']
 clear h q a
 go_upto_region 2 with(refine zj rfl 45 (.tmp 5) (.tmp 14) rfl n.heap.size rfl (chL g d) rfl (zn.top n zU _ rfl) rfl (by kernel_rfl) t.out ?_)
 intro t q x a;clear a;have a:=zd (za _ _) x (nR _);have F:Xo (zn t v 45 (chL g d)):=dD<|by rw[<-s.out];exact q
 have t:=dD (y.trans a);have A:=dD a;have y:=dD (A2.grew a);have E:=dD (D.grew a);rw[s.out];clear q x a;have a:=zhg (V':=g) (m':=d) E u.lo (z.gr.trans t) 0;have q:Xo ((Tryz.prog.info? 45).map (·.size)=Xa (chL g d).length):=show _=_ by kernel_rfl
 go_wp2_with (first | refine zo rfl 45 (.tmp 5) rfl v rfl F.box underlying45 rfl q.out ?_ | (go_at_call 85;refine a.mono ?_))
 clear a;rintro e s ⟨rfl,v,a,u⟩;have D:=dD v;have q:=dD a
 have z:=dD u;have x:Xo (zn s (f+1) 54 [I6 0,I6 0,eS]):=show zn _ _ _ _ from y.outD a (by have:=b.out;omega)
 clear v a u;unfold Qi noS
 go_wp2_with (refine zj rfl 54 (.tmp 4) (.tmp 20) rfl (f+1) rfl [I6 0,I6 0,eS] rfl x rfl (by kernel_rfl) (by simp[Value.oneCell']) ?_)
 intro x u f _;have v:=dD u;have a:Xo (ZE (znV m) w0 p w (Xl (Qi 0 0 noS)) x):=show ZE _ _ _ _ _ _ from by
  refine ZE.ok (V':=g) (m':=d) ⟨rfl,rfl,rfl,r⟩ (((zm.grew t).trans q).beyond f (by have:=i.out;omega)) (zd z f (by have:=C.out;omega)) (D.beside f (fun d e=>by cases e;have:=b.out;omega)) (fun W g=>B.out W ?_)
  have i:zm (fun d=>d<l.heap.size) n s:=(zm.grew A).trans (q.wide fun d h=>by have:=b.out;have:=j.out;omega)
  exact(i.trans (zm.grown f j)).trans (g.wide fun d h=>Xs h (bS k))
 clear u f;go_wp2;refine bodyPost_ret (zG rfl _ rfl v.box underlying54 rfl (by kernel_rfl)) rfl a.out
theorem zhz (w m) (c:Cl) (b:c.kind=13) (a:Rt m):J5 w m c (znV m):=by
 intro d W p d v d h d;obtain rfl:=d.2.2.2.2.2.2.2.2.2.2.2.2.1 b;exact⟨48,#[],rfl,enters_of func48 (by kernel_rfl) rfl,(zkK h a c).mono fun e a k=>k.more h.lo (h.dlt p (.inl rfl)) (bS h.gr)⟩
theorem ziF {w:Xn} {p:Nat} (h:ChW w0 p w V m) (q r:Nat) (c:q<m.sp.length) (d:r<m.sp.length) (n:Int) (a:(Zr m r n).kind=1->jQ m.fs m.hand (Zr m r n).n 1=0):
  Xp prog 147 #[Xj (Xa ⟨p,0,Xb⟩),Xi #[I6 (q:Int),I6 n],Xi #[I6 (r:Int),I6 n]] w fun e w'=>(∃v,e= Xl v)/\Chg w0 p w V (zca m q r n) w':=by
 obtain⟨E,b⟩:=kA (Zr m r n);have t:Xo (zca m q r n=qV (qV (ZQ m ⟨E.kind,E.n,Xd⟩ 1) r n ⟨E.kind,E.n,Xd⟩) q n ⟨E.kind,E.n,Xd⟩):=dD<|by rw[<-b.out];rfl
 have s:=dD h;have l:Xo (q<m.sp.length/\r<m.sp.length):=⟨c,d⟩;have z:Xo (E.kind=1->jQ m.fs m.hand E.n 1=0):=show _->_ by rw[<-b.out];exact a
 have i:=dD h.dlt;clear h c d a;obtain⟨c,a⟩:=kB ((w.alloc (Xk #[I6 (q:Int),I6 n] 142)).alloc (Xk #[I6 (r:Int),I6 n] 142));have h:=gD2 a
 obtain⟨d,f⟩:=kA w.heap.size;have u:Xo (zn c d 142 [I6 (q:Int),I6 n]):=dD<|by rw[<-a];exact(zn.top w [I6 (q:Int),I6 n] _ f.symm).grew (za _ _)
 have g:Xo (zn c (d+1) 142 [I6 (r:Int),I6 n]):=dD<|by rw[<-a];exact zn.top _ [I6 (r:Int),I6 n] _ (by have:=f.out;simp;omega)
 have c:=dD a;clear a;have a:=Zm (s.grew h) r l.2 n;rw[b.out]at a
 go_enter func147,ntmps147
 go_upto_region 1 with fail;rw[c.out,f.out];have x:=g.box.c 0 rfl;have y:=g.box.c 1 rfl;go_wp2_with fail;refine a.mono ?_;clear a x y;rintro e k ⟨rfl,b⟩;have j:=dD (h.trans b);have D:=dD (u.grew b);have u:=dD (g.grew b);clear b;unfold enV;go_upto_region 3 with fail;obtain⟨B,h⟩:=kA k.heap.size;obtain⟨C,c⟩:=kB (k.alloc (Xk #[I6 E.kind,I6 E.n,Xh Xd] 127));have g:=gP c
 have k:=dD (j.trans g);have A:=dD (D.grew g);have G:=dD (u.grew g);have u:=xPT c h
 have b:Xo (¬Dw p V d/\¬Dw p V (d+1)/\¬Dw p V B):=dD<|by
  have D:=bS j.out;have:=f.out;have:=h.out;exact⟨fun e=>by have:=i.out _ e;omega,fun e=>by have:=i.out _ e;omega,fun e=>by have:=i.out _ e;omega⟩
 have f:=dD (s.grew k);have F:Xo (zm (Dw p V) w C):=show zm _ _ _ from zm.grew k.out
 rw[c,h.out];clear c g;obtain⟨g,h,i⟩:=u.box.c3;have c:=zb1 f ⟨E.kind,E.n,Xd⟩ 1 z.out;go_wp2_with fail;refine c.mono ?_;clear c g h i;rintro e c ⟨⟨c,rfl⟩,z,C,f,j⟩;have D:=dD C;have s:=dD<|Chg.far k j
 have c:Xo (¬Dw p z d/\¬Dw p z B):=dD<|⟨fun e=>(j _ e).elim b.1 fun e=>by have:=A.box.lt;omega,fun e=>(j _ e).elim b.2.2 fun e=>by have:=u.box.lt;omega⟩
 have z:=dD<|F.trans f
 have B:=dD<|A.outD f b.1;have d:=dD<|G.outD f b.2.1;have k:=dD<|u.outD f b.2.2;clear C j f;have x:=d.box.c 0 rfl;have y:=d.box.c 1 rfl;obtain⟨g,h,i⟩:=k.box.c3;have a:=Zn D r (by rw[zbl];exact l.2) n ⟨E.kind,E.n,Xd⟩
 go_wp2_with fail;refine a.mono ?_;clear a x y g h i;rintro e b ⟨⟨b,rfl⟩,b,u,b,j⟩;have x:=dD u;have d:=dD j;have y:=dD b;have f:=dD<|B.outD b c.1;have A:=dD<|k.outD b c.2;clear u j b;have b:=f.box.c 0 rfl;have c:=f.box.c 1 rfl;obtain⟨g,h,i⟩:=A.box.c3;have a:=Zn x q (by rw[zaj,zbl];exact l.1) n ⟨E.kind,E.n,Xd⟩
 go_wp2_with fail;refine a.mono ?_;clear a b c g h i;rintro e c ⟨⟨a,rfl⟩,b⟩;have a:Xo (Chg w0 p w V (zca m q r n) c):=dD<|by rw[t.out];exact Chg.step z s (Chg.step y d b)
 clear b;go_wp2
 (first | go_end0 | ((try simp only[Exit.inBlock,Exit.then]);refine bodyPost_ret (results_none rfl _ _ _) rfl ?_))
 first | exact a.out | exact⟨⟨_,rfl⟩,a⟩
theorem zfH {w:Xn} {p:Nat} (u:ChW w0 p w V m) (q:Nat) (s:Sp) (I:m.sp[q]? =Xa s) (F:Nat) (h:Array Xq) (M:Nat->Ma) (a7:Enters prog F) (a9:M 0=m)
  (c:∀(k:Nat) (n:Int) W D,(z6 s.tb Zv 64)[k]? =Xa n->ChW w0 p W D (M k)->(∀{b:Nat} {t:TypeId} {cs:List Xq},zn w b t cs->¬Dw p V b->zn W b t cs)->Xp prog F (#[I6 n]++h) W fun e w'=>(∃v,e= Xl v)/\Chg w0 p W D (M (k+1)) w'):
  Xp prog 145 #[Xj (Xa ⟨p,0,Xb⟩),I6 (q:Int),.func (.func F) #[] h] w fun e w'=>(∃v,e= Xl v)/\Chg w0 p w V (M (z6 s.tb Zv 64).length) w':=by
 obtain⟨ae,G,ac,ad⟩:=u.sp;obtain⟨x,E⟩:∃x,ae[q]? =Xa x:=⟨_,gE (by rw[ac];exact(gS.1 I).1)⟩
 have K:=dD<|ad q x s E I w (zm.refl _ _);have Z:=(gS.1 E).1;obtain⟨b6,S⟩:=kA ae.length;obtain⟨ay,b7,a⟩:=G.formS (by omega)
 rw[S.out]at a Z;have b5:(q:Int)< (b6:Int):=by omega
 have r:=u.box.box.c 10 rfl;rw[a]at r G;have z:zly w ((Addr.mk ay 0 Xb).add (q*10)) x:=(G.one E).sp10;rw[Addr.add_lit,zA]at z;obtain⟨al,am,an,ao,ap,aq,ar,au,av,aw⟩:=z;have l:Xp prog 66 #[Xi #[x.t0.x,x.t1.x,x.t2.x,x.t3.x,x.t4.x,x.t5.x,x.t6.x,x.t7.x]] w fun e w'=>∃v,e= Xl v/\zc blE w.heap.size w' v (z6 s.tb Zv 64)/\zb w w':=Q5 x.tab s.tb w K.tb
 have ah:=dD u.dlt;have af:Xo (∀(g:Array Xq) (w:Xn),(callFunc F g).run prog w= .ok (.enter F g) w):=a7;have P:Xo (∀W,zb w W->Chg w0 p W V (M 0) W):=show∀W,_ from fun W b0=>by rw[a9];exact Chg.refl (u.grew b0) (zb.refl _)
 generalize Y:z6 s.tb Zv 64=T at c l⊢
 have R:=dD c
 clear u I G ac ad E a a7 a9 c Y al am
 go_enter func145,ntmps145
 go_wp2_with fail;refine l.mono ?_;clear l an ao ap aq ar au av aw r;rintro e X ⟨ba,rfl,f,a8⟩;have H:=dD a8;obtain⟨b8,b9,rfl⟩:=f.form;have a4:=dD<|f.new.staysD ah.out
 have y:=f.at.short;clear f a8;obtain⟨N,Q⟩:=kA T.length;rw[Q.out]at a4 y⊢;go_wp2
 go_loopg [19] N (fun az a0 wr=>∃d:Nat,d<=N/\N - d<=az/\a0=I6 d/\Xo (Chg w0 p X V (M d) wr))
 case atStart=>exact⟨0,nZ _,by omega,rfl,P X H⟩
 obtain⟨d,b3,b2,rfl,a3⟩:=hrel;obtain⟨D,a5,ab,a6⟩:=a3.out;have ag:=dD a5;have U:=dD ab;have L:=dD a6;clear a5 ab a6
 by_cases j:d<N
 ·have B:=kC j
  obtain⟨n,a2⟩:∃n,Xo (T[d]? =Xa n):=⟨_,gE (by rw[Q.out];exact j)⟩
  obtain⟨_,_,a,C⟩:=(a4 wr U).nums;simp only[vJ]at a;obtain⟨ak,i,A⟩:=C d n a2.out;have ax:=A wr (zb.refl _);rw[<-a.1]at i;subst i;clear a C A;go_wp2_with fail;rw[af.out];refine(R d n wr D a2 ag (fun b1 b4=>(b1.grew H).outD U b4)).mono ?_
  clear ax;rintro e aj ⟨⟨bb,rfl⟩,aa⟩;have ai:Xo (Chg w0 p X V (M (d+1)) aj):=dD<|Chg.step U L aa
  clear aa;go_wp2
  go_roundg (N -(d+1))
  case measure=>omega
  exact⟨d+1,by omega,by omega,by go_num,ai⟩
 have B:=kD j
 have:d=N:=by omega
 subst this;have a1:Xo (Chg w0 p w V (M T.length) wr):=dD<|by rw[Q.out];exact Chg.of_grew H a3.out
 go_wp2
 (first | go_end0 | ((try simp only[Exit.inBlock,Exit.then]);refine bodyPost_ret (results_none rfl _ _ _) rfl ?_))
 first | exact a1.out | exact⟨⟨_,rfl⟩,a1⟩
theorem zkX {w:Xn} {p:Nat} (h:ChW w0 p w V m) (q r:Nat) (c:q<m.sp.length) (d:r<m.sp.length) (n:Int) (b:(Zr m r n).kind=1->jQ m.fs m.hand (Zr m r n).n 1=0) (x y z:Nat) (f:Box w x [Xj (Xa ⟨p,0,Xb⟩)]) (g:Box w y [I6 (q:Int)]) (i:Box w z [I6 (r:Int)]):
  Xp prog 146 #[I6 n,Xj (Xa ⟨x,0,Xb⟩),Xj (Xa ⟨y,0,Xb⟩),Xj (Xa ⟨z,0,Xb⟩)] w fun e w'=>(∃v,e= Xl v)/\Chg w0 p w V (zca m q r n) w':=by
 have a:=f.c 0 rfl;have a:=g.c 0 rfl;have a:=i.c 0 rfl;have a:=ziF h q r c d n b;clear h c d f g i b
 go_enter func146,ntmps146
 go_wp2_with fail;refine a.mono ?_;rintro e b ⟨⟨b,rfl⟩,c⟩;have b:=dD c;clear c a;go_wp2
 (first | go_end0 | ((try simp only[Exit.inBlock,Exit.then]);refine bodyPost_ret (results_none rfl _ _ _) rfl ?_))
 first | exact b.out | exact⟨⟨_,rfl⟩,b⟩
theorem ChW.space {w f:Xn} {p k:Nat} (h:ChW w0 p w V m) {xs:List SpV} {c a:Sli} (v:k<=m.sp.length) (s2:xs.length=m.sp.length) (s3:∀(i:Nat) x s,xs[i]? =Xa x->m.sp[i]? =Xa s->∀W,zm (Dr w0.heap.size p V) w W->jT W x s)
  (u:zb w w1) (t:zc arE w.heap.size w1 (c.x) l) (y:zc ZA w0.heap.size w2 (a.x) (zen xs k ⟨Xc,c,je,je,je,je,je,je,je,je⟩)) (b:w1.grownBy w2 (V.sp.x).ownBlock)
  (d:∀g,(a.x).ownBlock=Xa g->(V.sp.x).ownBlock=Xa g\/w1.heap.size<=g) (q:w2.grownBy f (Xa p)) (z:zn f p 88 (chL { V with sp:=a } m)):
  ChW w0 p f { V with sp:=a } { m with sp:=zen m.sp k ⟨Xc,l,Jo⟩ }:=by
 have c:zm (Dw p V) w1 w2:=⟨b.os,b.tape,b.output,b.size,fun i e j=>b.block i e (fun e=>j (.inr (.inr (.inr e.symm))))⟩
 have j:zm (Dw p V) w1 f:=c.trans (zm.grown q (.inl rfl));have A:∀k,Dw p { V with sp:=a } k->Dw p V k\/w1.heap.size<=k:=by
  rintro k (e|e|e|e)
  ·exact .inl (.inl e)
  ·exact .inl (.inr (.inl e))
  ·exact .inl (.inr (.inr (.inl e)))
  exact(d k e).imp (fun e=> .inr (.inr (.inr e))) id
 have r:=h.grew u;have n:∀W,zm (Dr w0.heap.size p { V with sp:=a }) f W->zm (Dr w0.heap.size p V) w1 W:=fun W c=>ChW.key j A c
 have d:∀W,zm (Dr w0.heap.size p { V with sp:=a }) f W->zm (Dr w0.heap.size p V) w W:=fun W c=>(zm.grew u).trans (n W c)
 refine⟨r.grOut j,h.lo,z,(r.fs.grown b (fun g a e=>h.fS g a e)).grown q (fun g a e=>h.nf g a (by cases e;rfl)),(r.ca.grown b (fun g a e=>h.cS g a e)).grown q (fun g a e=>h.nc g a (by cases e;rfl)),⟨_,y.grown q (fun g a e=>?_),?_,fun i x s j f W c=>?_⟩,fun W c=>?_⟩
 ·have q:=r.box.beside b (fun b e=>h.ns b e)
  cases e;exact y.ne q (by decide) _ a rfl
 ·show(zen xs k _).length=(zen m.sp k _).length
  rw[ze3 (by omega),ze3 v,s2]
 ·have f:(zen m.sp k ⟨Xc,l,Jo⟩)[i]? =Xa s:=f;rw[zh1 (by omega)]at j
  rw[zh1 v]at f
  by_cases e:i=k
  ·rw[kE e]at j f;cases j;cases f;exact⟨rfl,t.new.staysD h.drt W (n W c),t.cap,zaB.nil _ _ _⟩
  rw[kF e]at j f;exact s3 i x s j f W (d W c)
 have r:=h.rest W (d W c);exact⟨r.sl,r.sb,r.sq,r.db,r.dq,r.fl⟩
def zjU (m:Ma) (p:Int):Prop:=∀k q s,qU m p q s->Vac m.sp k->k<4->∀(j:Nat) (n:Int),(z6 s.tb Zv 64)[j]? =Xa n->
 (Zr (JD (zdO m k s) k q ((z6 s.tb Zv 64).take j)) q n).kind=1->jQ (JD (zdO m k s) k q ((z6 s.tb Zv 64).take j)).fs (JD (zdO m k s) k q ((z6 s.tb Zv 64).take j)).hand (Zr (JD (zdO m k s) k q ((z6 s.tb Zv 64).take j)) q n).n 1=0
theorem zm6 (V) (m:Ma) (p:Int) (w) (cz:zE w V m) (N:maW m=0) (fe:m.sp.length<=4) (ei:zjU m p):
  Xp prog 84 #[Xi (mL V m).toArray,I6 p] w fun e w'=>znY m p w e w'/\zb w w':=by
 obtain⟨an,E⟩:=kB (((w.alloc (Xk (mL V m).toArray 45)).alloc (Xk #[I6 p] 3)).alloc (Xk zM.toArray 45));have e0:Xo (zb w an):=dD<|by rw[<-E];exact((za _ _).trans (za _ _)).trans (za _ _)
 obtain⟨f,a6⟩:=kA w.heap.size;have e6:Xo (zn an f 45 (mL V m)):=dD<|by rw[<-E];exact((zn.top w (mL V m) _ a6.symm).grew (za _ _)).grew (za _ _)
 have e8:Xo (zn an (f+1) 3 [I6 p]):=dD<|by rw[<-E];exact(zn.top _ [I6 p] _ (by have:=a6.out;simp;omega)).grew (za _ _)
 have f5:Xo (zn an (f+1+1) 45 zU):=dD<|by rw[<-E];exact zn.top _ zU _ (by have:=a6.out;simp;omega)
 have e4:=dD cz;have ew:=dD ei;have ck:Xo (_=an):=E;clear E;have bm:=zcp V m p an (cz.grew e0) N;clear cz N ei
 go_enter func84,ntmps84
 go_upto_region 1 with fail;rw[ck.out,a6.out];obtain⟨dm,dn,dp,dq,dr,ds,dt,du,dv,dw,S⟩:=e6.box.c11;have dx:=e8.box.c 0 rfl;go_wp2_with fail;refine bm.mono ?_;clear bm dm dn dp dq dr ds dt du dv dw S dx;rintro e e5 ⟨ff,L⟩;have ca:=dD (e0.trans L);have e7:=dD (e6.grew L);have f1:=dD (e8.grew L);have ea:=dD (f5.grew L);clear L
 rcases ff with⟨rfl,c1⟩|⟨rfl,c1⟩
 case inr=>
  have cg:=dD c1;clear c1;have al:∀v∈zU,v.oneCell'=Xc:=by simp[zU,Value.oneCell']
  go_wp2_with (refine zj rfl 45 (.tmp 4) (.tmp 15) rfl (f+1+1) rfl zU rfl ea rfl (by kernel_rfl) al ?_)
  intro b4 b6 bd _;have cb:Xo (zb w b4):=dD<|zd ca bd (by have:=a6.out;omega)
  have eq:=dD b6;clear b6 bd;go_wp2;refine bodyPost_ret (zN rfl _ rfl eq.box underlying45 rfl (by kernel_rfl)) rfl ⟨.inl ⟨cg,rfl⟩,cb⟩
 obtain⟨q,s,fl,el,ek⟩:=c1;subst fl;have a8:=dD el;have U:=dD ek;clear el ek;have bl:=zj7 (V.sp.x) m.sp e5 (e4.grew ca).sp;have S:=e7.box.c 10 rfl;go_wp2_with fail;refine bl.mono ?_;clear bl S;rintro e b4 ⟨⟨k,rfl,a5⟩,aq⟩;have a3:=dD a5;have fj:=nT a5.1 fe;have cy:zb e5 b4:=aq;clear a5;have cb:=dD<|ca.trans aq
 have ez:=dD (e7.grew aq);have f2:=dD (f1.grew aq);have eb:=dD (ea.grew aq);clear aq cy;go_upto_region 5 with fail;obtain⟨K,cd⟩:=kA b4.heap.size;obtain⟨B,Z⟩:=kB (b4.alloc (Xk #[I6 (k:Int)] 3));have bb:=gP Z
 have bv:=dD<|cb.trans bb
 have f0:=dD (ez.grew bb);have f3:=dD (f2.grew bb);have ec:=dD (eb.grew bb);have c6:=xPT Z cd
 have j:Xo (f+1+1<K):=dD<|by have:=eb.box.lt;have:=cd.out;omega
 rw[Z,cd.out];clear Z bb;have ee:=c6.box.c 0 rfl
 by_cases Y:k=4
 ·have cu:((k:Int) == 4)=Xc:=by rw[Y];rfl
  have ch:=dD Y;clear Y;have al:∀v∈zU,v.oneCell'=Xc:=by simp[zU,Value.oneCell']
  go_wp2_with (refine zj rfl 45 (.tmp 4) (.tmp 22) rfl (f+1+1) rfl zU rfl ec rfl (by kernel_rfl) al ?_)
  intro bw b8 be _;have ev:Xo (zb w bw):=dD<|zd bv be (by have:=a6.out;omega)
  have er:=dD b8;clear b8 be ee;go_wp2;refine bodyPost_ret (zN rfl _ rfl er.box underlying45 rfl (by kernel_rfl)) rfl ⟨.inr ⟨q,s,k,⟨rfl,a8,U⟩,a3,.inl ⟨ch,rfl⟩⟩,ev⟩
 have cu:((k:Int) == 4)=Xd:=by
  have:(k:Int)≠4:=by omega
  simpa using this
 have ax:Xo (k<4):=dD<|by omega
 clear Y;have bj:=zjG V m B (e4.grew bv);obtain⟨dm,dn,dp,dq,dr,ds,dt,du,dv,dw,S⟩:=f0.box.c11;go_wp2_with fail;refine bj.mono ?_;clear bj dm dn dp dq dr ds dt du dv dw S ee;rintro e bw ⟨r,am,rfl,ar⟩;go_upto_region 8 with fail;obtain⟨F,cf⟩:=kA bw.heap.size;obtain⟨H,a0⟩:=kB (bw.alloc (Xk #[Xj (Xa ⟨r,0,Xb⟩)] 85));have cr:=gP a0
 have W:=ar.gr.trans cr;have T:=dD<|ar.grew cr;have dz:=xPT a0 cf
 have es:=dD (c6.grew W);have f4:=dD (f3.grew W);have f6:=dD (ec.grew W);have d:Xo (K<B.heap.size/\r<F/\(∀k,Dw r am k->B.heap.size<=k/\k<F)):=show _/\_ by
  have:=cf.out;exact⟨c6.box.lt,by have:=ar.dlt r (.inl rfl);omega,fun k a5=>⟨ar.dlo k a5,by have:=ar.dlt k a5;omega⟩⟩
 rw[a0,cf.out];clear a0 cr W ar;obtain⟨c3,bs,dh,di⟩:=T.sp;have bk:=(gS.1 a8).1;obtain⟨x,g⟩:∃x,c3[q]? =Xa x:=⟨_,gE (by rw[dh];exact bk)⟩
 have cc:=dD<|di q x s g a8 H (zm.refl _ _);obtain⟨au,G⟩:=kA c3.length;obtain⟨i,cs,a1⟩:=bs.formS (by omega)
 rw[G.out]at a1;have fm:(q:Int)< (au:Int):=by have:=G.out;omega
 have A:Xo (am.sp.x= O (Xa ⟨i,0,Xb⟩) au cs):=a1;rw[a1]at bs;have b0:=dD bs;have ci:=dD dh;have cj:=dD di;have fq:=dD g;have b2:Xo (au<=4/\k<=au):=show _/\_ by have:=G.out;have:=a3.1;omega
 have az:Xo (r≠i/\B.heap.size<=i):=dD<|by
  exact⟨T.ns i (by have N:=A.out;unfold oB;(first|rw[N]|(simp only[Sli.x]at N;rw[N]));rfl),(b0.lt i rfl).1⟩
 have ce:Xo (∀a4,zb H a4->zly a4 ⟨i,q*10,Xb⟩ x):=dD<|fun a4 cw=>by
  have:=((bs.grew cw).one g).sp10;rw[Addr.add_lit,zA]at this;exact this
 clear bs dh di g a1 bk;obtain⟨b,c⟩:∃b:Xn->Prop,Xo (∀u,b u↔(zn u r 88 (chL am m)/\zn u F 85 [Xj (Xa ⟨r,0,Xb⟩)]/\zn u K 3 [I6 (k:Int)]/\zn u (f+1) 3 [I6 (q:Int)])):=⟨_,fun _=>Iff.rfl⟩
 have t:b H.drew:=(c _).2 ⟨T.box.grew (gW _),dz.grew (gW _),es.grew (gW _),f4.grew (gW _)⟩
 have P:zb H H.drew:=show Below _ _ _ from(bR _ _).drew
 have R:∀y:zk b,y.world.cell? ⟨r,10,Xb⟩=Xa (O (Xa ⟨i,0,Xb⟩) au cs):=fun y=>by rw[<-A.out];exact((c _).1 y.holds).1.box.c 10 rfl
 have ag:∀y:zk b,y.world.cell? ⟨F,0,Xb⟩=Xa (Xj (Xa ⟨r,0,Xb⟩)):=fun y=>((c _).1 y.holds).2.1.box.c 0 rfl
 have af:∀y:zk b,y.world.cell? ⟨K,0,Xb⟩=Xa (I6 (k:Int)):=fun y=>((c _).1 y.holds).2.2.1.box.c 0 rfl
 have de:∀y:zk b,y.world.cell? ⟨f+1,0,Xb⟩=Xa (I6 (q:Int)):=fun y=>((c _).1 y.holds).2.2.2.box.c 0 rfl
 have ak:Nonempty (zk b):=⟨⟨_,t⟩⟩;refine z7 (I:=b) 22 [(15,fun v=>v=x.ar.x),(16,fun v=>∃dj:Sli,v=dj.x),(18,fun v=>∃dj:Sli,v=dj.x)] (fun u=>zb H u) t P zZ (by kernel_rfl) rfl rfl (by decide) ?hS (by kernel_rfl) ?_
 case hS=>
  intro x g;simp only[mC,nM,or_false]at g
  rcases g with rfl|rfl|rfl
  ·exact⟨_,rfl⟩
  ·exact⟨_,je,rfl⟩
  exact⟨_,je,rfl⟩
 simp only[List.take,List.drop];iterate 2 refine zt ?_
 refine qa (.tmp 26) ⟨r,0,Xb⟩ rfl rfl rfl rfl ?_;simp only[Xu,sB,sS,sZ];iterate 5 refine zt ?_
 refine qa (.tmp 32) ⟨r,0,Xb⟩ rfl rfl rfl rfl ?_;simp only[Xu,sB,sS,sZ];iterate 6 refine zt ?_
 refine zK rfl rfl (fun _ u=>zb H u) (fun w' n a=>?_) (fun dk a2=>?_)
 ·exact zeG 71 (.tmp 39) rfl i (q*10+1) rfl (x.ar.x) (ce _ a).2.1 underlying71 rfl ⟨n,rfl,a⟩
 cases a2;simp only[Xu,sB,sS,sZ];refine zK rfl rfl (fun v u=>zb H u/\zc arE H.heap.size u v s.ars) (fun w' n a=>?_) (fun dk a2=>?_)
 ·refine zR.call [x.ar.x] rfl func104 rfl rfl rfl ?_;refine(zdM _ s.ars w' (cc.grew a).ar).mono ?_;rintro e dl ⟨fp,rfl,bq,L⟩;obtain⟨cp,cq,rfl⟩:=bq.form;obtain⟨bn,bo,bp,df⟩:=(c _).1 n;exact⟨_,rfl,(c _).2 ⟨bn.grew L,bo.grew L,bp.grew L,df.grew L⟩,⟨⟨cp,_,cq⟩,rfl⟩,a.trans L,bq.base (bS a)⟩
 obtain⟨c4,rfl⟩:=a2;simp only[Xu,sB,sS,sZ];refine zt ?_
 refine zK rfl rfl (fun v u=>∃bu,zb H bu/\zc arE H.heap.size bu (c4.x) s.ars/\zc ZA B.heap.size u v (zen c3 k ⟨Xc,c4,je,je,je,je,je,je,je,je⟩)/\bu.grownBy u (Xa i)/\∀ac,v.ownBlock=Xa ac->i=ac\/bu.heap.size<=ac) (fun w' n a=>?_) (fun dk a2=>?_)
 ·refine zR.call [O (Xa ⟨i,0,Xb⟩) au cs,I6 (k:Int),Xi #[Xh Xc,c4.x,eS,eS,eS,eS,eS,eS,eS,eS]] rfl func144 rfl rfl rfl ?_;refine(zhZ B.heap.size _ c3 k ⟨Xc,c4,je,je,je,je,je,je,je,je⟩ w' (b0.grew a.1) (nT (bS T.gr) (bS a.1)) (by rw[G.out];exact b2.2) (by rw[G.out];exact b2.1)).mono ?_
  rintro e dl ⟨fp,rfl,bq,bc,f9⟩;obtain⟨bn,bo,bp,df⟩:=(c _).1 n;obtain⟨cp,cq,rfl⟩:=bq.form;obtain⟨aj,d1,Q⟩:=d.out;have bh:=j.out;have dd:=az.1;obtain⟨fh,fi⟩:=Q i (.inr (.inr (.inr (by have N:=A.out;unfold oB;(first|rw[N]|(simp only[Sli.x]at N;rw[N]));rfl))))
  have fc:F≠i:=by omega
  have bz:K≠i:=by omega
  have fd:f+1≠i:=by omega
  exact⟨_,rfl,(c _).2 ⟨bn.beside bc (fun k e=>by cases e;exact dd),bo.beside bc (fun k e=>by cases e;exact fc),bp.beside bc (fun k e=>by cases e;exact bz),df.beside bc (fun k e=>by cases e;exact fd)⟩,⟨⟨cp,_,cq⟩,rfl⟩,w',a.1,a.2,bq,bc,fun ac ai=>(f9 ac ai).imp (fun e=>by cases e;rfl) id⟩
 obtain⟨bt,rfl⟩:=a2;simp only[Xu,sB,sS,sZ];refine qa (.tmp 25) ⟨r,0,Xb⟩ rfl rfl rfl rfl ?_;simp only[Xu,sB,sS,sZ];iterate 2 refine zt ?_
 refine jp fun ey bg cv=>?_
 obtain⟨ed,eg,ef,ep⟩:=(c _).1 bg;obtain⟨bu,X,b5,br,ad,ab⟩:=cv;have cl:Xo (zn ey (f+1+1) 45 zU):=dD<|(f6.grew X).beside ad (fun k e=>by
  cases e;have:=j.out;have:=d.1;have:=az.2
  omega)
 have ay:Xo (∀x,Dw r { am with sp:=bt } x->B.heap.size<=x/\x≠F):=dD<|fun x g=>by
  obtain⟨aj,d1,Q⟩:=d.out
  rcases g with rfl|g|g|g
  ·exact⟨T.lo,by omega⟩
  ·have:=Q x (.inr (.inl g));exact⟨this.1,by omega⟩
  ·have:=Q x (.inr (.inr (.inl g)));exact⟨this.1,by omega⟩
  rcases ab x g with e|e
  ·subst e;have:=Q i (.inr (.inr (.inr (by have N:=A.out;unfold oB;(first|rw[N]|(simp only[Sli.x]at N;rw[N]));rfl))))
   exact⟨this.1,by omega⟩
  have ct:=bS X;have fu:=bS T.gr;have fv:=dz.box.lt;exact⟨by omega,by omega⟩
 refine jt rfl 43 (.tmp 46) (.tmp 43) rfl r 10 rfl (bt.x) rfl [bt.x] rfl ed (by simp[chL]) (by kernel_rfl) (by simp[Value.oneCell']) ?_
 intro ao b9 C _;have ex:Xo (ChW B r ao { am with sp:=bt } (zdO m k s)):=dD<|T.space a3.1 ci cj X b5 br (by rw[A.out];exact ad) (by rw[A.out];exact fun ac ai=>(ab ac ai).imp (fun e=>by rw[e];rfl) id) C b9
 have c8:Xo (zn ao F 85 [Xj (Xa ⟨r,0,Xb⟩)]):=dD<|eg.beside C (fun k e=>by cases e;have:=d.2.1;omega)
 have dy:Xo (zn ao K 3 [I6 (k:Int)]):=dD<|ef.beside C (fun k e=>by cases e;have:=d.1;have:=T.lo;omega)
 have e9:Xo (zn ao (f+1) 3 [I6 (q:Int)]):=dD<|ep.beside C (fun k e=>by cases e;have:=d.1;have:=j.out;have:=T.lo;omega)
 have f7:Xo (zn ao (f+1+1) 45 zU):=dD<|cl.beside C (fun k e=>by cases e;have:=d.1;have:=j.out;have:=T.lo;omega)
 clear bg eg ef ep X b5 br ad ab t P R ag af de ak ed b9 C;go_upto_region 9 with fail;obtain⟨cn,l⟩:∃cn:MaV,Xo ((∀x,Dw r cn x->B.heap.size<=x/\x≠F)/\ChW B r ao cn (zdO m k s)):=⟨{ am with sp:=bt },(show _/\_ from⟨ay,ex⟩)⟩
 have bi:q≠k:=fun e=>by
  have ct:=a3.2.1 s (by rw[<-e];exact a8)
  rw[U.out]at ct;cases ct
 have b1:Xo ((zdO m k s).sp[q]? =Xa s):=dD<|by show (zen m.sp k _)[q]? =_;rw[zh1 a3.1,kF bi];exact a8.out
 have aw:Xo (k< (zdO m k s).sp.length/\q< (zdO m k s).sp.length):=dD<|by
  refine⟨?_,(gS.1 b1).1⟩
  show k< (zen m.sp k _).length
  rw[ze3 a3.1];omega
 clear bi;have ah:=zfH l.2 q s b1 146 #[Xj (Xa ⟨F,0,Xb⟩),Xj (Xa ⟨K,0,Xb⟩),Xj (Xa ⟨f+1,0,Xb⟩)] (fun dg=>JD (zdO m k s) k q ((z6 s.tb Zv 64).take dg)) (enters_of func146 (by kernel_rfl) rfl) (by simp only[List.take_zero];rfl)
  (fun dg en a4 ft ej fg ae=>by
   have aj:=d.1;have bh:=j.out;refine(zkX fg k q (by rw[zem];exact aw.1) (by rw[zem];exact aw.2) en (ew k q s ⟨rfl,a8,U⟩ a3 ax dg en ej) F K (f+1) (ae c8 (fun M=>(l.1 _ M).2 rfl)).box (ae dy (fun M=>by have:=(l.1 _ M).1;omega)).box (ae e9 (fun M=>by have:=(l.1 _ M).1;omega)).box).mono ?_
   rintro e w' ⟨a2,cx⟩;refine⟨a2,?_⟩;simp only[j0 ej,zhY];exact cx)
 simp only[List.take_length]at ah;have fk:∀(eh:Fn) (first ba:Array Xq) (w:Xn),(Instr.makeFunc eh first ba).run prog w= .ok (.func eh first ba) w:=fun _ _ _ _=>rfl
 have fb:=c8.box.c 0 rfl;have dx:=e9.box.c 0 rfl;go_wp2_with fail;refine ah.mono ?_;clear ah fb dx;rintro e aa ⟨⟨fx,rfl⟩,a9,bz,c2,_⟩;have b3:Xo (ChW B r aa a9 (zcw m k q s)):=bz;have eu:=dD<|c8.outD c2 (fun M=>(l.1 _ M).2 rfl)
 have et:Xo (zn aa K 3 [I6 (k:Int)]):=dy.outD c2 (fun M=>by have:=(l.1 _ M).1;have:=d.1;omega)
 have f8:Xo (zn aa (f+1+1) 45 zU):=f7.outD c2 (fun M=>by have:=(l.1 _ M).1;have:=d.1;have:=j.out;omega)
 clear bz c2;obtain⟨av,a7⟩:=kA (zcw m k q s);rw[a7.out]at b3;go_upto_region 10 with fail;obtain⟨b,c⟩:∃b:Xn->Prop,Xo (∀u,b u↔(zn u r 88 (chL a9 av)/\zn u F 85 [Xj (Xa ⟨r,0,Xb⟩)]/\zn u K 3 [I6 (k:Int)])):=⟨_,fun _=>Iff.rfl⟩
 have t:b aa.drew:=(c _).2 ⟨b3.box.grew (gW _),eu.grew (gW _),et.grew (gW _)⟩
 have P:zb aa aa.drew:=show Below _ _ _ from(bR _ _).drew
 have d2:∀y:zk b,y.world.cell? ⟨r,0,Xb⟩=_:=fun y=>((c _).1 y.holds).1.box.c 0 rfl
 have d3:∀y:zk b,y.world.cell? ⟨r,1,Xb⟩=_:=fun y=>((c _).1 y.holds).1.box.c 1 rfl
 have d4:∀y:zk b,y.world.cell? ⟨r,2,Xb⟩=_:=fun y=>((c _).1 y.holds).1.box.c 2 rfl
 have d5:∀y:zk b,y.world.cell? ⟨r,3,Xb⟩=_:=fun y=>((c _).1 y.holds).1.box.c 3 rfl
 have d6:∀y:zk b,y.world.cell? ⟨r,4,Xb⟩=_:=fun y=>((c _).1 y.holds).1.box.c 4 rfl
 have d8:∀y:zk b,y.world.cell? ⟨r,5,Xb⟩=_:=fun y=>((c _).1 y.holds).1.box.c 5 rfl
 have d9:∀y:zk b,y.world.cell? ⟨r,6,Xb⟩=_:=fun y=>((c _).1 y.holds).1.box.c 6 rfl
 have da:∀y:zk b,y.world.cell? ⟨r,7,Xb⟩=_:=fun y=>((c _).1 y.holds).1.box.c 7 rfl
 have db:∀y:zk b,y.world.cell? ⟨r,8,Xb⟩=_:=fun y=>((c _).1 y.holds).1.box.c 8 rfl
 have dc:∀y:zk b,y.world.cell? ⟨r,9,Xb⟩=_:=fun y=>((c _).1 y.holds).1.box.c 9 rfl
 have R:∀y:zk b,y.world.cell? ⟨r,10,Xb⟩=_:=fun y=>((c _).1 y.holds).1.box.c 10 rfl
 have ag:∀y:zk b,y.world.cell? ⟨F,0,Xb⟩=Xa (Xj (Xa ⟨r,0,Xb⟩)):=fun y=>((c _).1 y.holds).2.1.box.c 0 rfl
 have af:∀y:zk b,y.world.cell? ⟨K,0,Xb⟩=Xa (I6 (k:Int)):=fun y=>((c _).1 y.holds).2.2.box.c 0 rfl
 have ak:Nonempty (zk b):=⟨⟨_,t⟩⟩;have cm:Xo (∀v∈chL a9 av,v.oneCell'=Xc):=dD<|by simp[chL,Value.oneCell']
 refine z7 (I:=b) 8 [(5,fun _=>True)] (fun u=>zb aa u) t P zZ (by kernel_rfl) rfl rfl (by decide) ?hS (by kernel_rfl) ?_
 case hS=>
  intro x g;simp only[mC,nM,or_false]at g;subst g;exact⟨undef,trivial⟩
 simp only[List.take,List.drop];refine zt ?_
 refine qa (.tmp 51) ⟨r,0,Xb⟩ rfl rfl rfl rfl ?_;simp only[Xu,sB,sS,sZ];iterate 3 refine zt ?_
 refine zK rfl rfl (fun _ u=>zb w u/\zn u (f+1+1) 45 (chL a9 av)/\∀a4,zm (fun k=>k<w.heap.size) u a4->zE a4 a9 av) (fun w' n a=>?_) (fun dk a2=>?_)
 ·refine zR.storeAllT 45 (.tmp 4) (.tmp 54) rfl (f+1+1) rfl (chL a9 av) rfl (f8.grew a) rfl (by kernel_rfl) cm.out ?_
  intro co fa h eo;have bh:=j.out;have aj:=d.1;have fo:=b3.lo;obtain⟨bn,bo,bp⟩:=(c _).1 n;have em:=b3.grew a;have fw:=b3.dlt;refine⟨(c _).2 ⟨bn.beside h (fun k e=>by cases e;omega),bo.beside h (fun k e=>by cases e;have:=d.2.1;omega),bp.beside h (fun k e=>by cases e;omega)⟩,trivial,zd (bv.trans em.gr) h (by have:=a6.out;omega),fa,?_⟩
  exact fun a4 cw=>em.doneD ((zm.grown (D:=fun k=>k<B.heap.size) h (show f+1+1<B.heap.size by omega)).trans (cw.wide fun k a5=>Xs a5 (bS bv)))
 clear a2;try simp only[Xu]
 iterate 2 refine zt ?_
 refine jp fun co bf z=>?_
 have c9:=dD z.1;have c5:=dD z.2.1;have cg:=dD z.2.2
 clear bf z t P ak d2 d3 d4 d5 d6 d8 d9 da db dc R ag af;go_wp2;refine bodyPost_ret (zN rfl _ rfl c5.box underlying45 rfl (by kernel_rfl)) rfl ⟨.inr ⟨q,s,k,⟨rfl,a8,U⟩,a3,.inr ⟨ax,a9,?_,?_⟩⟩,c9⟩
 ·rw[a7.out];rfl
 rw[a7.out];exact cg.out
theorem zhy (w) (m:Ma) (c:Cl) (d:c.kind=6) (e:maW m=0) (f:m.sp.length<=4) (i:zjU m c.proc):J5 w m c (Jg m c.proc (zqR m c.proc)):=by
 intro a W p b v a h j;obtain⟨g,rfl,a⟩:=j.2.2.2.2.2.1 d;exact⟨73,#[Xj (Xa ⟨g,0,Xb⟩)],rfl,zcI,J9 h c g 40 _ (enters_of func40 (by kernel_rfl) rfl) a fun a a _=>(zmL (h.grew a) c (fun d g=>zm6 b m c.proc d g e f i)).mono fun e b k=>k.more h.lo (h.dlt p (.inl rfl)) (bS (h.gr.trans a))⟩
theorem z2.append {base:Nat} {w:Xn} {v a:Xq} {fs:List Fl} {xs:List FlV} (p:zc fvE base w v xs) (m:xs.length=fs.length) (c:∀(i:Nat) x f,xs[i]? =Xa x->fs[i]? =Xa f->x.size=f.size/\zc blE base w x.v f.bl)
  (q:∀(i j:Nat) x y,i≠j->xs[i]? =Xa x->xs[j]? =Xa y->∀g,x.v.ownBlock=Xa g->y.v.ownBlock≠Xa g) (b:zc fvE base' w' a (xs++ [⟨0,Xb,0,0⟩])) (k:w.grownBy w' v.ownBlock) (hb:base'<=base):z2 base' w' a (fs++ [⟨0,[]⟩]):=by
 refine⟨xs++ [⟨0,Xb,0,0⟩],b,by simp[m],fun i x f a e=>?_,fun i j x y l a d g h=>?_⟩
 ·rcases Yb i xs.length with b|b
  ·rw[Xv b]at a;rw[Xv (by omega)]at e
   obtain⟨r,n⟩:=c i x f a e;exact⟨r,(n.grown k (fun g c k=>p.apart n (Ne.symm QC) g k c)).base hb⟩
  rw[aR b]at a;rw[aR (by omega),<-m]at e
  have c:i - xs.length=0:=by
   have:=(gS.1 a).1
   simp at this
   omega
  rw[c]at a e;cases a;cases e;exact⟨rfl,zc.nil _ _ _⟩
 rcases Yb i xs.length with b|b
 ·rw[Xv b]at a
  rcases Yb j xs.length with e|e
  ·rw[Xv e]at d;exact q i j x y l a d g h
  rw[aR e]at d;have e:j - xs.length=0:=by
   have:=(gS.1 d).1
   simp at this
   omega
  rw[e]at d;cases d;exact fun k=>by cases k
 rw[aR b]at a;have c:i - xs.length=0:=by
  have:=(gS.1 a).1
  simp at this
  omega
 rw[c]at a;cases a;cases h
theorem zg0 (v fs) (c:Int) (w:Xn) (f:qq w v fs):
  Xp prog 87 #[Xi #[v,I6 c]] w fun e w'=>∃b,e= Xl (Xm #[Xi #[b,I6 (zqG fs c)],I6 (zqF fs c),I6 (zg1 fs c)])/\qp 0 w.heap.size w' b (zpC fs c)/\zb w w':=by
 have h:∀W,zb w W->Xp prog 61 #[Xi #[v,I6 c]] W fun e w'=>e= Xl (I6 (stW fs c))/\zb W w':=fun W d=>zaC v fs c W (f.grew d)
 have u:∀W,zb w W->Xp prog 54 #[Xi #[v,I6 c]] W fun e w'=>∃b,e= Xl (Xi #[b,I6 c])/\z2 (W.heap.size+2) w' b fs/\zb W w'/\W.heap.size+2<=w'.heap.size:=fun W d=>za8 v fs c W (f.grew d)
 obtain⟨F,G,rfl,d,_⟩:=f.rows;clear f;obtain⟨n,s⟩:=kA fs.length;rw[s.out]at h u d⊢;obtain⟨d,f⟩:=kB ((w.alloc (Xk #[O F n G,I6 c] 41)).alloc (Xk #[eS,I6 0] 41));have d:=gD2 f
 have A:=x2a f
 have y:=x2b f
 have q:=dD f;clear f
 rcases znu fs c with⟨m,i,j,k,l⟩|⟨m,x,i,j,k,l⟩|⟨m,x,i,j,k,l⟩
 ·rw[i,j,k,l];have f:(stW fs c != 0)=Xc:=by simpa using m
  clear i j k l u m
  generalize stW fs c=S at*
  go_enter func87,ntmps87
  go_wp2_with fail;rw[q.out];refine(h _ d).mono ?_;rintro e t ⟨rfl,f⟩;have r:=dD (d.trans f);have g:=y.grew f;have M:=g.c 0 rfl;have N:=g.c 1 rfl;have P:=g.f;clear f h;go_wp2;refine bodyPost_ret (v:= Xm #[Xi #[eS,I6 0],I6 0,I6 S]) (by simp[results,Tryz.results87,go_sem, *]) rfl ⟨_,rfl,qp.nil _ _ _,?_⟩
  exact Below.setCell (Below.setCell r (p:=⟨w.heap.size+1,0,Xb⟩) (by simp) _) (p:=⟨w.heap.size+1,1,Xb⟩) (by simp) _
 ·rw[i,j,k,l];rw[m]at h;rw[s.out]at x;have z:((n:Int) == 5)=Xc:=by simp;omega
  clear i j k l u m x
  go_enter func87,ntmps87
  go_wp2_with fail;rw[q.out];refine(h _ d).mono ?_;rintro e t ⟨rfl,f⟩;have r:=dD (d.trans f);have H:=(A.grew f).c 0 rfl;have g:=y.grew f;have M:=g.c 0 rfl;have N:=g.c 1 rfl;have P:=g.f;clear f h;go_wp2;refine bodyPost_ret (v:= Xm #[Xi #[eS,I6 0],I6 0,I6 4]) (by simp[results,Tryz.results87,go_sem, *]) rfl ⟨_,rfl,qp.nil _ _ _,?_⟩
  exact Below.setCell (Below.setCell r (p:=⟨w.heap.size+1,0,Xb⟩) (by simp) _) (p:=⟨w.heap.size+1,1,Xb⟩) (by simp) _
 rw[i,j,k,l];rw[m]at h;rw[s.out]at x⊢;have z:((n:Int) == 5)=Xd:=by simp;omega
 clear i j k l m
 go_enter func87,ntmps87
 go_wp2_with fail;rw[q.out];refine(h _ d).mono ?_;rintro e t ⟨rfl,f⟩;have r:=dD (d.trans f);have m:=dD (A.grew f);have g:=dD (y.grew f);have H:=m.c 0 rfl;have L:=m.c 1 rfl;clear f h;go_wp2_with fail;refine(u _ r).mono ?_;rintro e q ⟨b,rfl,j,h,K⟩;have d:=dD g.lt;obtain⟨V,f,i,y,C⟩:=j;obtain⟨z,A,rfl⟩:=f.form;rw[i,s.out]at f⊢;have x:=dD f;have D:=dD i;have B:=dD y;have S:=dD C;have Q:=dD (r.trans h);have l:=dD K;have k:=dD h;clear h K u H L f i y C;go_upto_region 7 with fail;obtain⟨j,i⟩:=kB q.heap.size;obtain⟨r,h⟩:=kB (q.alloc (Xk #[O z n A,I6 c] 41));have f:=gA h
 have y:Xo (zn r j 41 [O z n A,I6 c]):=dD<|by rw[<-h];exact zn.top _ _ _ i.symm
 have T:=dD ((m.grew k).grew f);have U:=dD ((g.grew k).grew f);have k:Xo (t.heap.size+2<=j):=show _<=_ by rw[<-i];exact l.out
 have g:=dD y.box.lt;have R:=dD (Q.trans f);rw[h];rw[i];clear h i;have K:=y.box.c 0 rfl
 go_wp2_with (at_builtin;refine zx (E:=fvE) rfl (.tmp 21) (.tmp 23) rfl (t.heap.size+2) _ V rfl (x.grew (f.trans (za _ _))) _ [⟨0,Xb,0,0⟩] rfl (Zg fvE r ⟨0,Xb,0,0⟩ _ _ rfl (by show 32<=_;omega)) ?qb ?qc ?_)
 case qb=>
  rw[D.out,s.out]
  show(_+1)*32<=_
  omega
 case qc=>simp;have:=k.out;have:=g.out;omega
 intro g u q h;have m:=z2.append (x.grew (f.trans (za _ _))) D (fun r C g l i=>⟨(B r C g l i).1,(B r C g l i).2.grew (f.trans (za _ _))⟩) S q h (nR _)
 obtain⟨B,C,rfl⟩:=q.form;rw[lA,D.out,s.out]at m⊢;simp only[List.length_cons,List.length_nil,zA]at m⊢;have g:∀i,(O z n A).ownBlock=Xa i->t.heap.size+2<=i:=fun i l=>(x.lt i l).1
 have r:Xo (zn u j 41 [O z n A,I6 c]):=(y.grew (za _ _)).beside h (fun i l=>(x.grew f).ne y (by decide) i l)
 have y:Xo (Box u w.heap.size [O F n G,I6 c]):=(T.grew (za _ _)).beside h (fun i l=>by have:=g i l;have:=d.out;omega)
 have z:Xo (Box u (w.heap.size+1) [eS,I6 0]):=(U.grew (za _ _)).beside h (fun i l=>by have:=g i l;have:=d.out;omega)
 have s:Xo (zb w u):=dD<|zX (R.trans (za _ _)) h (fun i l=>by have:=g i l;have:=d.out;omega)
 have x:=dD m;clear q h g K;have A:=r.box.c 0 rfl;have D:=r.box.c 1 rfl;have Q:=r.box.f;go_upto_region 8 with fail;obtain⟨i,f⟩:=kB (u.setCell ⟨j,0,Xb⟩ (O B (n+1) C));have g:j≠w.heap.size:=by have:=k.out;have:=d.out;omega
 have h:j≠w.heap.size+1:=by have:=k.out;have:=d.out;omega
 have m:Xo (Box i j [O B (n+1) C,I6 c]):=dD<|by rw[<-f];exact r.box.set 0 _
 have q:Xo (Box i w.heap.size [O F n G,I6 c]):=dD<|by rw[<-f];exact y.other (fun e=>g e.symm) _
 have l:Xo (Box i (w.heap.size+1) [eS,I6 0]):=dD<|by rw[<-f];exact z.other (fun e=>h e.symm) _
 have u:Xo (z2 (t.heap.size+2) i (O B (n+1) C) (fs++ [⟨0,[]⟩])):=dD<|by rw[<-f];exact x.setBox r (by decide) (by decide) 0 _
 have r:Xo (zb w i):=dD<|by rw[<-f];exact Below.setCell s (p:=⟨j,0,Xb⟩) (by have:=k.out;have:=d.out;simp;omega) _
 rw[f];clear f A D Q;have K:=m.c 0 rfl;have f:=m.c 1 rfl;have H:=q.c 0 rfl;have L:=q.c 1 rfl;have M:=l.c 0 rfl;have N:=l.c 1 rfl;have P:=l.f;have f:¬w.heap.size=j:=fun e=>g e.symm
 have f:¬w.heap.size+1=j:=fun e=>h e.symm
 go_region
 all_goals go_wp2
 all_goals
  refine bodyPost_ret (v:= Xm #[Xi #[O B (n+1) C,I6 c],I6 n,I6 0]) (by simp[results,Tryz.results87,go_sem, *]) rfl ⟨_,rfl,?_,?_⟩
  ·refine qp.grew ((z2.setCell (z2.setCell u (a:=⟨w.heap.size+1,0,Xb⟩) ?_ _) (a:=⟨w.heap.size+1,1,Xb⟩) ?_ _).new.less (nR _) ?_) (gW _)
   ·have:=d.out;simp;omega
   ·have:=d.out;simp;omega
   have:=d.out;omega
  exact(Below.setCell (Below.setCell r (p:=⟨w.heap.size+1,0,Xb⟩) (by simp) _) (p:=⟨w.heap.size+1,1,Xb⟩) (by simp) _).drew
theorem zeD {u w:Xn} {p:Nat} {b:Sli} {a:List Fl} {c:Int} (h:ChW w0 p u V m) (e:zb u w) (f:zb w w1) (t:qp 0 w.heap.size w1 (b.x) a) (j:w1.grownBy w2 (Xa p)) (d:zm (Aft w0 u w) w2 W):zE W { V with fl:=b } { m with fl:=a,cnt:=c }:=by
 have a:=h.dlt p (.inl rfl);have a:=bS e;have n:zm (fun k=>k<w0.heap.size\/k=p) u W:=by
  have a:zm (fun k=>k<w0.heap.size\/k=p) u w2:=(zm.grew (e.trans f)).trans (zm.grown j (.inr rfl))
  refine⟨d.os.trans a.os,d.tape.trans a.tape,d.output.trans a.output,nT a.size d.size,fun i g f=>?_⟩
  rw[d.block i (Xs g a.size) (fun e=>by rcases e with e | e;exact f (.inl e);omega)]
  exact a.block i g f
 have q:zm (Dr w0.heap.size p V) u W:=n.wide fun k a=>a.elim .inl fun e=> .inr (.inl e)
 have r:=h.rest W q;obtain⟨A,v,y,z⟩:=h.sp;have own:∀{s:Type} {E:Elt s} {g:Sli} {l:List s},zc E w0.heap.size u (g.x) l->(∀k,oB g k->p≠k)->zl E W (g.x) l:=fun g f=>zc.at ⟨jh g.1 n (fun k a e=>by
  rcases e with e|e
  ·have:=(g.lt k a).1;omega
  exact f _ a e.symm),g.2⟩
 have g:zm (fun k=>k<w.heap.size) w1 W:=(zm.grown j (by omega)).trans (d.wide fun k a=>by
  rcases a with e|e
  ·have:=bS h.gr;omega
  exact e.2)
 exact⟨own h.fs h.nf,r.sl,r.sb,r.sq,r.db,r.dq,(t.out ⟨g.os,g.tape,g.output,g.size,fun k a f=>g.block k a (fun e=>by omega)⟩).now0,own h.ca h.nc,⟨A,own v h.ns,y,fun i x s d a=>z i x s d a W q⟩⟩
def zfP (m:Ma) (er n:Int) (l:List Int) (m':Ma):Prop:=
 l=[]/\er=zg1 m.fl m.cnt/\(er=0->n=zqF m.fl m.cnt/\m'={ m with fl:=zpC m.fl m.cnt,cnt:=zqG m.fl m.cnt })
theorem zim {u w:Xn} {p:Nat} (h:ChW w0 p u V m) (t:zb u w) (c:Cl):
  Xp prog 42 #[Xj (Xa ⟨p,0,Xb⟩),Xi #[I6 c.kind,I6 c.proc,I6 c.pt,I6 c.n,I6 c.file,I6 c.base,Xh c.rd,Xh c.wr,Xh c.sh,c.dv.x]] w fun e w'=>Ql (zfP m) w0 p u w e w':=by
 have s:=dD h;have r:=dD t;obtain⟨b,l⟩:=kA w.heap.size;obtain⟨i,a⟩:=kB ((w.alloc (Xk #[I6 c.kind,I6 c.proc,I6 c.pt,I6 c.n,I6 c.file,I6 c.base,Xh c.rd,Xh c.wr,Xh c.sh,c.dv.x] 25)).alloc (Xk #[I6 0,I6 0,eS] 54));have n:=gD2 a
 have d:Xo (zn i b 25 [I6 c.kind,I6 c.proc,I6 c.pt,I6 c.n,I6 c.file,I6 c.base,Xh c.rd,Xh c.wr,Xh c.sh,c.dv.x]):=dD<|by rw[<-a];exact(zn.top w [I6 c.kind,I6 c.proc,I6 c.pt,I6 c.n,I6 c.file,I6 c.base,Xh c.rd,Xh c.wr,Xh c.sh,c.dv.x] _ l.symm).grew (za _ _)
 have A1:Xo (zn i (b+1) 54 [I6 0,I6 0,eS]):=dD<|by rw[<-a];exact zn.top _ [I6 0,I6 0,eS] _ (by have:=l.out;simp;omega)
 have q:=dD A1.box.lt;have j:=dD<|t.trans n.out
 have x:=dD<|h.box.grew j.out;have d:Xo (p<u.heap.size):=h.dlt p (.inl rfl);have f:Xo (u.heap.size<=b):=show _<=_ by rw[<-l.out];exact bS t
 have K:Xo (w0.heap.size<=b):=dD<|by have:=h.lo;have:=d.out;have:=f.out;omega
 have v:=dD a;obtain⟨E,z⟩:=kA (zg1 m.fl m.cnt);obtain⟨C,G⟩:=kA (zqG m.fl m.cnt);obtain⟨I,H⟩:=kA (zqF m.fl m.cnt);have g:Xp prog 87 #[Xi #[V.fl.x,I6 m.cnt]] i fun e w'=>∃b:Sli,e= Xl (Xm #[Xi #[b.x,I6 C],I6 I,I6 E])/\qp 0 i.heap.size w' (b.x) (zpC m.fl m.cnt)/\zb i w':=by
  rw[<-z.out,<-G.out,<-H.out];refine(zg0 _ m.fl m.cnt i (h.at.grew j).fl).mono ?_;rintro e w' ⟨b,rfl,k,A⟩;obtain⟨y,c,rfl,_⟩:=qq.rows k.now0;exact⟨⟨y,_,c⟩,rfl,k,A⟩
 have y:=x.box.c 7 rfl;have A:=x.box.c 8 rfl;clear a h t
 go_enter func42,ntmps42
 go_upto_region 1 with fail;rw[v.out,l.out]
 go_wp2_with (go_at_call 87;refine g.mono ?_)
 clear g y A;rintro e A ⟨v,rfl,k,a⟩;have B:=dD k;have t:=dD a;have g:=dD<|Xs q (bS a)
 clear k a;go_upto_region 2 with fail;obtain⟨a,y⟩:=kA A.heap.size;obtain⟨N,g⟩:=kB (A.alloc (Xk #[v.x,I6 C] 41));have k:=gP g
 have L:=xPT g y
 have R:=dD (B.grew k);have a:=dD (t.trans k);have F:=dD (A1.grew a);have U:=dD (x.grew a);rw[g,y.out];clear g k
 by_cases x:E=0
 rotate_left
 ·have g:(E != 0)=Xc:=by simp[x]
  have k:=dD x;clear x;have t:=jP E N;go_wp2_with fail;refine t.mono ?_;rintro e A ⟨rfl,g⟩;have y:=dD (F.grew g);have M:Xo (zb w A):=show zb _ _ from(n.trans a).trans g
  clear t g;unfold Qi noS
  go_wp2_with (refine zj rfl 54 (.tmp 4) (.tmp 21) rfl (b+1) rfl [I6 E,I6 0,eS] rfl y rfl (by kernel_rfl) (by simp[Value.oneCell']) ?_)
  intro t P B _;have S:Xo (zb w0 t):=dD<|zd ((s.gr.trans r).trans M) B (by have:=K.out;omega)
  have Q:Xo (zn t (b+1) 54 [I6 E,I6 0,eS]):=P;have T:Xo (zm (zqZ w0 u) w t):=show zm _ _ _ from zm.beyond (zm.grew M) B (by have:=l.out;omega)
  clear P B;go_wp2;refine bodyPost_ret (zG rfl _ rfl Q.box underlying54 rfl (by kernel_rfl)) rfl ⟨E,0,noS,[],V,m,rfl,⟨rfl,z.symm,fun h=>absurd h k⟩,T,S,fun _ _=>zl.nil _ _,fun h=>absurd h k⟩
 subst x;have x:=L.box.c 0 rfl;have E:=L.box.c 1 rfl
 go_wp2_with (refine jt rfl 41 (.tmp 26) (.tmp 23) rfl p 7 rfl (Xi #[v.x,I6 C]) rfl [v.x,I6 C] rfl U (by simp[chL]) (by kernel_rfl) (by simp[Value.oneCell']) ?_)
 intro t B k _;clear x E;have M:=dD B;have x:=dD k;have L:Xo (zn t (b+1) 54 [I6 0,I6 0,eS]):=show zn _ _ _ _ from F.beside k (fun E e=>by cases e;have:=d.out;have:=f.out;omega)
 have F:Xo (zb w0 t):=dD<|zd (((s.gr.trans r).trans n).trans a) k s.lo
 have r:Xo (zm (zqZ w0 u) w t):=dD<|(zm.grew (n.trans a)).trans (zm.grown k ⟨s.lo,d⟩)
 clear B k
 go_wp2_with (refine zj rfl 54 (.tmp 4) (.tmp 28) rfl (b+1) rfl [I6 0,I6 I,eS] rfl L rfl (by kernel_rfl) (by simp[Value.oneCell']) ?_)
 intro A k g _;have y:=dD k;have b:Xo (Ql (zfP m) w0 p u w (Xl (Qi 0 I noS)) A):=show Ql _ _ _ _ _ _ _ from by
  refine⟨0,I,noS,[],{ V with fl:=v },{ m with fl:=zpC m.fl m.cnt,cnt:=C },rfl,⟨rfl,z.symm,fun _=>⟨H.symm,by rw[G.out]⟩⟩,r.beyond g (by have:=l.out;omega),zd F g (by have:=K.out;omega),fun _ _=>zl.nil _ _,fun _=>⟨M.beside g (fun E e=>by cases e;have:=d.out;have:=f.out;omega),fun W d=>?_⟩⟩
  exact zeD (w:=i) (w1:=N) (w2:=t) s j a R x ((zm.grown (D:=Aft w0 u i) g (.inr ⟨by have:=f.out;omega,q⟩)).trans (d.wide fun E a=>a.imp id fun h=>⟨h.1,Xs h.2 (bS n)⟩))
 clear k g;go_wp2;refine bodyPost_ret (zG rfl _ rfl y.box underlying54 rfl (by kernel_rfl)) rfl b.out
theorem zfZ (w m) (c:Cl) (a:c.kind=8):J5 w m c (zfP m):=by
 intro b W p b v b h b;obtain rfl:=b.2.2.2.2.2.2.2.1 a;exact⟨42,#[],rfl,enters_of func42 (by kernel_rfl) rfl,zim h (zb.refl _) c⟩
theorem zgp {w:Xn} {p:Nat} (h:ChW w0 p w V m) (c:Cl) (b:0<=c.file/\c.file< (m.fl.length:Int)) (g F:Nat) (K:Int->Int->List Int->Ma->Prop) (y:Enters prog F) (A:zn w g 80 [.func (.func F) #[] #[]])
  (z:∀W,zb w W->Xp prog F #[Xj (Xa ⟨p,0,Xb⟩),Xi #[I6 c.kind,I6 c.proc,I6 c.pt,I6 c.n,I6 c.file,I6 c.base,Xh c.rd,Xh c.wr,Xh c.sh,c.dv.x]] W fun e w'=>Ql K w0 p w W e w'):
  Xp prog 88 #[Xj (Xa ⟨p,0,Xb⟩),Xi #[I6 c.kind,I6 c.proc,I6 c.pt,I6 c.n,I6 c.file,I6 c.base,Xh c.rd,Xh c.wr,Xh c.sh,c.dv.x],Xj (Xa ⟨g,0,Xb⟩)] w fun e w'=>Ql K w0 p w w e w':=by
 have l:=dD h;have i:Xo (p<w.heap.size):=h.dlt p (.inl rfl);have u:=dD A;have t:=show Xo _ from z
 have E:=dD y;obtain⟨d,f⟩:=kA w.heap.size;obtain⟨k,a⟩:=kB ((w.alloc (Xk #[I6 c.kind,I6 c.proc,I6 c.pt,I6 c.n,I6 c.file,I6 c.base,Xh c.rd,Xh c.wr,Xh c.sh,c.dv.x] 25)).alloc (Xk #[I6 0,I6 0,eS] 54));have B:=gD2 a
 have C:Xo (zn k d 25 [I6 c.kind,I6 c.proc,I6 c.pt,I6 c.n,I6 c.file,I6 c.base,Xh c.rd,Xh c.wr,Xh c.sh,c.dv.x]):=dD<|by rw[<-a];exact(zn.top w [I6 c.kind,I6 c.proc,I6 c.pt,I6 c.n,I6 c.file,I6 c.base,Xh c.rd,Xh c.wr,Xh c.sh,c.dv.x] _ f.symm).grew (za _ _)
 have A1:Xo (zn k (d+1) 54 [I6 0,I6 0,eS]):=dD<|by rw[<-a];exact zn.top _ [I6 0,I6 0,eS] _ (by have:=f.out;simp;omega)
 have s:=dD A1.box.lt;have j:Xo (p<d):=show _<_ by have:=i.out;have:=f.out;omega
 have G:Xo (w0.heap.size<=d):=dD<|by have:=l.lo;have:=j.out;omega
 have H:=dD<|h.grew B.out;have v:=dD a;have l:=h.at.fl.n;obtain⟨q,i⟩:=kA V.fl.n;rw[<-l,i.out]at b;have r:Xo ((Value.bool (decide (0<=c.file) && decide (c.file< (q:Int))))= Xh Xc):=show _=_ by
  rw[decide_eq_true b.1,decide_eq_true b.2];rfl
 clear a h z A y l b
 go_enter func88,ntmps88
 go_upto_region 1 with fail;rw[v.out,f.out];have l:∀y:zg k,y.world.cell? ⟨d,4,Xb⟩=Xa (I6 c.file):=fun y=>(C.box.grew y.grew).c 4 rfl
 have b:∀y:zg k,y.world.cell? ⟨p,7,Xb⟩=Xa (O V.fl.a q V.fl.c):=fun y=>by rw[<-i.out];exact(H.box.box.grew y.grew).c 7 rfl
 have i:Nonempty (zg k):=⟨⟨_,zb.refl _⟩⟩;refine qu [(9,⟨fun v=>v= Xh Xc,fun _ _=>True⟩)] zZ (by kernel_rfl) ?_ ?_ ?_
 ·intro x a
  simp at a
  subst a;exact⟨_,rfl⟩
 ·intro x a
  simp at a
  subst a;exact fun _ _ _ _ h=>h
 iterate 3 refine zf ?_
 refine Zp (.tmp 8) ⟨p,0,Xb⟩ rfl rfl rfl rfl ?_;simp only[Xu,sB,sS,sZ];iterate 5 refine zf ?_
 refine zC rfl rfl (fun w' A z=>?_) (fun a a=>?_)
 ·refine zR.call [I6 c.file,I6 (q:Int)] rfl func74 rfl rfl rfl ?_;refine(QS c.file (q:Int) w').mono ?_;rintro e k ⟨rfl,rfl⟩;exact⟨_,rfl,zb.refl _,r,trivial⟩
 subst a;simp only[Xu,sB,sS,sZ];refine zf ?_
 refine zP fun y a _=>?_
 have A2:=dD (A1.grew a);have k:=dD (C.grew a);have q:=dD (B.trans a);have v:=dD<|Xs s (bS a)
 clear a l b i;have a:=t.out y q.out;have b:=(u.grew q).box.c 0 rfl
 go_wp2_with (first | refine zo rfl 25 (.tmp 4) rfl d rfl k.box underlying25 rfl (by kernel_rfl) ?_ | fail)
 rw[E.out];refine a.mono ?_;clear a b;rintro e k ⟨s,n,t,L,H,M,rfl,a,i,l,z,u⟩;have A:Xo (zn k (d+1) 54 [I6 0,I6 0,eS]):=dD<|A2.outD i (fun a=>by have:=f.out;have:=a.2;omega)
 have C:=dD a;have E:Xo (zm (zqZ w0 w) w k):=show zm _ _ _ from(zm.grew q).trans i
 have B:=dD l;have r:=show Xo _ from z
 have b:=show Xo _ from u
 clear a i l z u;unfold Qi
 go_wp2_with (refine zj rfl 54 (.tmp 5) (.tmp 21) rfl (d+1) rfl [I6 s,I6 n,t.x] rfl A rfl (by kernel_rfl) (by simp[Value.oneCell']) ?_)
 intro u z i _;have A:=dD z;have d:Xo (Ql K w0 p w w (Xl (Qi s n t)) u):=show Ql _ _ _ _ _ _ _ from by
  have l:∀W,zm (Aft w0 w w) u W->zm (Aft w0 w y) k W:=fun W k=>(zm.grown (D:=Aft w0 w y) i (.inr ⟨by have:=f.out;omega,v⟩)).trans (k.wide fun u a=>a.imp id fun h=>⟨h.1,Xs h.2 (bS q)⟩)
  exact⟨s,n,t,L,H,M,rfl,C,E.beyond i (by have:=f.out;omega),zd B i (by have:=G.out;omega),fun W k=>r.out W (l W k),fun a=>⟨(b a).1.beside i (fun u e=>by cases e;have:=j.out;omega),fun W k=>(b a).2 W (l W k)⟩⟩
 clear z i;go_wp2;refine bodyPost_ret (zG rfl _ rfl A.box underlying54 rfl (by kernel_rfl)) rfl d.out
theorem zeE:Enters prog 88:=enters_of func88 (by kernel_rfl) rfl
theorem zpd (p:Nat) (k:Int) (w):Xp prog 151 #[Xj (Xa ⟨p,0,Xb⟩),I6 k,I6 0] w fun e w'=>(∃v,e= Xl v)/\w'=w:=by
 go_enter func151,ntmps151
 go_wp2
 (first | go_end0 | ((try simp only[Exit.inBlock,Exit.then]);refine bodyPost_ret (results_none rfl _ _ _) rfl ?_))
 first | exact rfl | exact⟨⟨_,rfl⟩,rfl⟩
theorem zh3 {u w:Xn} {p:Nat} (Z:ChW w0 p u V m) (Y:zb u w) (k:Nat) (a0:m.fl[k]? =Xa ⟨0,[]⟩) (n:Int) (ar:0<=n):
  Xp prog 90 #[Xj (Xa ⟨p,0,Xb⟩),I6 (k:Int),I6 n] w fun e w'=>(∃v,e= Xl v)/\∃(f:Sli) (w1:Xn),zb w w1/\qp 0 w.heap.size w1 (f.x) (zlz m.fl m.cnt (k:Int) n)/\w1.grownBy w' (Xa p)/\zn w' p 88 (chL { V with fl:=f } { m with fl:=zlz m.fl m.cnt (k:Int) n,cnt:=zn2 m.fl m.cnt (k:Int) n }):=by
 have z:=dD<|Z.box.grew Y;have d:=dD<|Z.at.grew Y;have a2:=z.box.c 7 rfl;have av:=z.box.c 8 rfl;obtain⟨ap,U,b,j,r⟩:=d.fl.rows;have h:=dD b;rw[b]at a2;obtain⟨T,rfl,ai,aj,_,ab⟩:=r k _ a0;obtain⟨an,ao⟩:=ab w (bR _ _);have E:(k:Int)< (m.fl.length:Int):=by have:=(gS.1 a0).1;omega
 obtain⟨C,P⟩:=kA (zn2 m.fl m.cnt (k:Int) n);obtain⟨a3,a4⟩:=kA (zfR m.fl m.cnt (k:Int) n);have g:Xo (∀W,zb w W->Xp prog 153 #[Xi #[O (Xa T) m.fl.length U,I6 m.cnt],I6 (k:Int),I6 n] W fun e w'=>∃s:Sli,e= Xl (Xm #[Xi #[s.x,I6 C],I6 a3])/\qp 0 w.heap.size w' (s.x) (zlz m.fl m.cnt (k:Int) n)/\zb W w'):=dD<|fun W I=>by
  rw[<-P.out,<-a4.out];have q:=(d.grew I).fl;rw[b]at q;refine(zke _ m.fl m.cnt (k:Int) n W q).mono ?_;rintro e w' ⟨s,rfl,t,a9⟩;obtain⟨a6,a8,rfl,_⟩:=qq.rows t.now0;exact⟨⟨a6,_,a8⟩,rfl,t.less (nR _) (bS I),a9⟩
 rw[P.out];obtain⟨ae,y⟩:=kA m.fl.length;rw[y.out]at a2 E j g h;have a1:min n 0=0:=by omega
 have ac:¬n<0:=by omega
 go_enter func90,ntmps90
 go_upto_region 1 with fail;obtain⟨s,N⟩:=kA w.heap.size;obtain⟨i,a⟩:=kB (w.alloc (Xk #[I6 0,O ai 0 aj] 159));have x:=gA a
 have S:=xPT a N
 have A:=dD (z.grew x);rw[a,N.out];have aw:=S.box.c 0 rfl;have ax:=S.box.c 1 rfl;have ag:i.cell? ⟨p,7,Xb⟩=Xa (O (Xa T) ae U):=by
  have:=A.box.c 7 rfl;rw[h.out]at this;exact this
 have ah:=A.box.c 8 rfl;have B:=zpd p (k:Int) i;have l:=zbx 0 i (by decide) (by decide)
 have D:zcl 0=0:=rfl;rw[D]at l;have F:=g.out i x.out;go_wp2_with fail;refine B.mono ?_;rintro e ak ⟨⟨au,rfl⟩,G⟩;rw[G];go_wp2_with fail;refine l.mono ?_;rintro e al ⟨rfl,H⟩;rw[H];go_wp2
 go_loopg [8] 0 (fun aq af wr=>af=I6 0/\i=wr)
 case atStart=>exact⟨rfl,rfl⟩
 obtain⟨rfl,K⟩:=hrel;subst K;go_wp2_with fail;refine F.mono ?_;rintro e R ⟨f,rfl,t,X⟩;have L:=dD t;have M:=dD (x.trans X);have a5:=dD (A.grew X)
 go_wp2_with (refine jt rfl 41 (.tmp 53) (.tmp 49) rfl p 7 rfl (Xi #[f.x,I6 C]) rfl [f.x,I6 C] rfl a5 (by simp[chL]) (by kernel_rfl) (by simp[Value.oneCell']) ?_)
 intro am a7 aa _;have Q:=dD a7;have c:=dD aa;go_wp2
 (first | go_end0 | ((try simp only[Exit.inBlock,Exit.then]);refine bodyPost_ret (results_none rfl _ _ _) rfl ?_))
 first | exact⟨f,R,M,L,c,Q⟩ | exact⟨⟨_,rfl⟩,f,R,M,L,c,Q⟩
def zfO (m:Ma) (k:Nat) (z er n:Int) (l:List Int) (m':Ma):Prop:=er=0/\n=0/\l=[]/\m'={ m with fl:=zlz m.fl m.cnt (k:Int) z,cnt:=zn2 m.fl m.cnt (k:Int) z }
theorem zkI {u w:Xn} {p:Nat} (h:ChW w0 p u V m) (s:zb u w) (c:Cl) (k:Nat) (B:c.file=(k:Int)) (t:m.fl[k]? =Xa ⟨0,[]⟩) (v:0<=c.n/\c.n<97):
  Xp prog 46 #[Xj (Xa ⟨p,0,Xb⟩),Xi #[I6 c.kind,I6 c.proc,I6 c.pt,I6 c.n,I6 c.file,I6 c.base,Xh c.rd,Xh c.wr,Xh c.sh,c.dv.x]] w fun e w'=>Ql (zfO m k c.n) w0 p u w e w':=by
 have r:=dD h;have y:=dD s;obtain⟨j,l⟩:=kA w.heap.size;obtain⟨n,a⟩:=kB ((w.alloc (Xk #[I6 c.kind,I6 c.proc,I6 c.pt,I6 c.n,I6 c.file,I6 c.base,Xh c.rd,Xh c.wr,Xh c.sh,c.dv.x] 25)).alloc (Xk #[I6 0,I6 0,eS] 54));have q:=gD2 a
 have g:Xo (zn n j 25 [I6 c.kind,I6 c.proc,I6 c.pt,I6 c.n,I6 c.file,I6 c.base,Xh c.rd,Xh c.wr,Xh c.sh,c.dv.x]):=dD<|by rw[<-a];exact(zn.top w [I6 c.kind,I6 c.proc,I6 c.pt,I6 c.n,I6 c.file,I6 c.base,Xh c.rd,Xh c.wr,Xh c.sh,c.dv.x] _ l.symm).grew (za _ _)
 have A1:Xo (zn n (j+1) 54 [I6 0,I6 0,eS]):=dD<|by rw[<-a];exact zn.top _ [I6 0,I6 0,eS] _ (by have:=l.out;simp;omega)
 have x:=dD A1.box.lt;have f:=dD<|s.trans q.out
 have b:=dD<|h.box.grew f.out;have b:Xo (p<u.heap.size):=h.dlt p (.inl rfl);have d:Xo (u.heap.size<=j):=show _<=_ by rw[<-l.out];exact bS s
 have H:Xo (w0.heap.size<=j):=dD<|by have:=h.lo;have:=b.out;have:=d.out;omega
 have z:=dD a;have F:=g.box.c 3 rfl;have C:=g.box.c 4 rfl;rw[B]at C;have g:=QS c.n 97 n;rw[decide_eq_true v.1,decide_eq_true v.2]at g;have i:=zh3 h f k t c.n v.1;obtain⟨E,A⟩:=kA (zn2 m.fl m.cnt (k:Int) c.n);rw[A.out]at i;clear a h s v t B
 go_enter func46,ntmps46
 go_upto_region 1 with fail;rw[z.out,l.out];go_wp2_with fail;refine g.mono ?_;clear g;rintro e a ⟨rfl,a⟩;rw[a];clear a;go_wp2_with fail;refine i.mono ?_;clear i F C;rintro e i ⟨⟨a,rfl⟩,M,L,a,s,g,v⟩;have B:=dD s;have G:=dD a;have F:=dD g;have K:=dD v;have z:Xo (zn i (j+1) 54 [I6 0,I6 0,eS]):=show zn _ _ _ _ from(A1.grew a).beside g (fun k e=>by cases e;have:=b.out;have:=d.out;omega)
 have C:Xo (zb w0 i):=dD<|zd (((r.gr.trans y).trans q).trans a) g r.lo
 have y:Xo (zm (zqZ w0 u) w i):=dD<|(zm.grew (q.trans a)).trans (zm.grown g ⟨r.lo,b⟩)
 clear s a g v
 go_wp2_with (refine zj rfl 54 (.tmp 4) (.tmp 16) rfl (j+1) rfl [I6 0,I6 0,eS] rfl z rfl (by kernel_rfl) (by simp[Value.oneCell']) ?_)
 intro v j g _;have s:=dD j;have a:Xo (Ql (zfO m k c.n) w0 p u w (Xl (Qi 0 0 noS)) v):=show Ql _ _ _ _ _ _ _ from by
  refine⟨0,0,noS,[],{ V with fl:=M },{ m with fl:=zlz m.fl m.cnt (k:Int) c.n,cnt:=E },rfl,⟨rfl,rfl,rfl,by rw[A.out]⟩,y.beyond g (by have:=l.out;omega),zd C g (by have:=H.out;omega),fun _ _=>zl.nil _ _,fun _=>⟨K.beside g (fun k e=>by cases e;have:=b.out;have:=d.out;omega),fun W b=>?_⟩⟩
  exact zeD (w:=n) (w1:=L) (w2:=i) r f G B F ((zm.grown (D:=Aft w0 u n) g (.inr ⟨by have:=d.out;omega,x⟩)).trans (b.wide fun k t=>t.imp id fun h=>⟨h.1,Xs h.2 (bS q)⟩))
 clear j g;go_wp2;refine bodyPost_ret (zG rfl _ rfl s.box underlying54 rfl (by kernel_rfl)) rfl a.out
theorem zhw (w) (m:Ma) (c:Cl) (k:Nat) (e:c.kind=11) (d:c.file=(k:Int)) (a:m.fl[k]? =Xa ⟨0,[]⟩) (f:0<=c.n/\c.n<97):J5 w m c (zfO m k c.n):=by
 intro b W p b v b h i;obtain⟨g,rfl,b⟩:=i.2.2.2.2.2.2.2.2.2.2.1 e;exact⟨88,#[Xj (Xa ⟨g,0,Xb⟩)],rfl,zeE,zgp h c (by have:=(gS.1 a).1;omega) g 46 _ (enters_of func46 (by kernel_rfl) rfl) b fun b b=>zkI h b c k d a f⟩
end
end Go.Proofs.YtmfckdkcmbncdaaGreat
