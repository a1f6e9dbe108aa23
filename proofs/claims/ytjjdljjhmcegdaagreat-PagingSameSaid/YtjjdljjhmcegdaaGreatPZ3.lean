import Derived.Test.YtjjdljjhmcegdaaGreatPZ2
namespace Go.Proofs.YtjjdljjhmcegdaaGreat
open Go.Value renaming slice→O,int→Xe,bool→Xh,agg→Xi,pointer→Xj,tuple→Xm
open Go.IntKind renaming i64→Xf,u8→Xg
open Go.Obj renaming cells→Xk
open Go.Ending renaming returned→Xl
open Go renaming World→Xn,Calls→Xp,Value→Xq
open Go.RowKit renaming Hid→Xo
open Option renaming some→Xa,none→Xb
open Bool renaming true→Xc,false→Xd
open List renaming replicate→Xr
open _root_.List renaming eq_of_mem_replicate→Xs,getElem?_append_left→Xx,getElem?_map→Xz,getElem?_of_mem→Ya,take_of_length_le→Yc,ext_getElem?→Yd,contains_eq_mem→Yf,mem_filter→Yh,getElem?_replicate→Yj,map_nil→Yk,set_append_right→Yl,take→Ym,drop→Yn,mem_cons_of_mem→Yo,length_set→Yp,find?_eq_none→Yq,mem_range→Yr,mem_cons_self→Ys,mem_singleton→Yt,pairwise_iff_getElem→Yu,getElem?_cons_succ→Yw,map_toArray→Yx,all_eq_true→Yy,mem_map→Yz,length_eq_one_iff→Oa,mem_append→Ob,contains_iff_mem→Oc,getElem?_modify→Od,getElem?_mapIdx→Oe,countP_eq_zero→Og,filter_eq_self→Oh,map_congr_left→Oi,flatMap_append→Oj,getElem?_range→Ok
open Go.Sem renaming run_pure→Xt,run_bind→Xu
open _root_.Bool renaming and_eq_true→Xv,not_eq_true'→Yv
open Go.Act renaming put→Xw
open _root_.Nat renaming le_of_ble_eq_true→Xy,sub_self→Yg,lt_of_lt_of_le→Yi,le_succ→Of,lt_irrefl→Ol
open Go.Addr renaming add_lit→Yb
open _root_.Array renaming getD_eq_getD_getElem?→Ye
open Go.Region renaming ready→Om
set_option maxRecDepth 100000
set_option maxHeartbeats 4000000
variable{B0 B1 b fi hi id ix j kk:Nat} {L:List Int} {Q:Exit->Act->Xn->Prop} {T:List (Nat->En)} {V:MaV} {W w' w0:Xn} {l:List Ar} {m m':Ma} {o:Oper} {ops:Array Oper} {t:TypeId} {us vs:List Xq} {vl vt:Sli} {z:Int}
open Go.Proofs.Tryz
section
open Go.RowKit
theorem zJ.storeAllT {a:Act} {w:Xn} {K:Xq->Xn->Prop} (d p x) (g:o.op= .store d p x) (b:Nat) (hp:a.eval p= Xj (Xa ⟨b,0,Xb⟩)) (vs:List Xq) (j:a.eval x= Xi vs.toArray)
  {t:TypeId} {cs:List Xq} (e:zo w b t cs) (c:vs.length=cs.length) (hi:(Tryz.prog.info? d).map (·.size)=Xa cs.length) (f:∀v∈vs,v.oneCell'=Xc)
  (h:∀w',zo w' b t vs->w.grownBy w' (Xa b)->w'.heap.size=w.heap.size->K undef w'):zJ prog o a w K:=by
 unfold zJ;have i:(execOp a.eval o).run prog w= .ok .skip (w.setCells b 0 vs):=by
  have:=run_storeAt_mid (P:=prog) w b 0 d vs.toArray (by simpa [c]using e.box.there) (by simpa [c]using hi) (all_oneCell_toArray f)
  simp only[execOp,g,hp,j,Xu,this,rA,Xt]
 rw[i];have hp:=e.part (ds:=vs) (o:=0) Wm
 rw[J4 c]at hp;exact h _ hp (zO b vs 0 w).1 (zO b vs 0 w).2
theorem zgJ (b:∀p∈m.db,p.length=8) (c:∀q∈m.dq,q.2.length=8) (file a:Int):(Qh m file a).length=8:=by
 unfold Qh
 split
 ·rfl
 simp[jV,ziB b c]
theorem zn3 {f:Fl} {a:Int} (d:m.fl[fi]? =Xa f) (b:f.bl[ix]? =Xa a):Qh m fi ix=if a<0 then zp else jV (qv m.db m.dq a) ix f.size:=by
 have c:m.fl.getD ((fi:Int).toNat) ⟨0,[]⟩=f:=by rw[tN,gD,d];rfl
 have d:zdQ m fi ix=a:=by unfold zdQ;rw[c,tN,gD,b];rfl
 have a:Qb m fi=f.size:=by unfold Qb;rw[c]
 unfold Qh;rw[d,a]
theorem zo1 {fl:List Fl} {f:Fl} {c:Int} (b:fl[fi]? =Xa f) (a:f.bl[ix]? =Xa c):zo2 fl fi ix=Xc:=by
 have c:=(gS.1 b).1;have c:=(gS.1 a).1;have a:fl.getD ((fi:Int).toNat) ⟨0,[]⟩=f:=by rw[tN,gD,b];rfl
 unfold zo2;rw[a,JZ.2 ⟨Wm,Wm⟩,JZ.2 ⟨Wm,Wm⟩]
 rfl
theorem zho (V) (m:Ma) (fi ix:Nat) (f:Fl) (d:Int) (w) (g:zy w V m) (x:m.fl[fi]? =Xa f) (b:f.bl[ix]? =Xa d) (a:ix<=1000) (H:0<=f.size/\f.size<=1000):
  Xp prog 131 #[Xi (mL V m).toArray,I6 (fi:Int),I6 (ix:Int)] w fun e w'=>e= Xl (Xi (pgc (Qh m fi ix)).toArray)/\(Qh m fi ix).length=8/\zc w w':=by
 have l:=dD<|fun W (a:zc w W)=>zm6 _ m.db m.dq d W ⟨_,_,rfl,(g.grew a).db,(g.grew a).dq⟩
 have r:Xo (∀W,zc w W->Xp prog 113 #[Xi #[V.fl.x,I6 m.cnt],I6 (fi:Int),I6 (ix:Int)] W fun e w'=>e= Xl (Xh Xc)/\zc W w'):=dD<|fun W a=>by
  have:=zc7 (V.fl.x) m.fl m.cnt fi ix W (g.grew a).fl;rw[zo1 x b]at this;exact this
 have u:Xo ((qv m.db m.dq d).length=8):=ziB g.db.2.1 g.dq.2.1;have j:Xo ((Qh m fi ix).length=8):=zgJ g.db.2.1 g.dq.2.1 _ _;have a:=dD<|zn3 x b;obtain⟨a6,c⟩:=kA (Qh m fi ix);rw[c.out]at a j⊢;obtain⟨⟨X,Z,Y⟩,a0,L,N,S,T,⟨h,k,F⟩,⟨C,E,D⟩,M⟩:=V;dsimp only[mL]at l r⊢;obtain⟨-,-,-,-,-,-,K,-,-⟩:=g.ns;dsimp only at K;obtain⟨_,_,q,_,z⟩:=qg.rows g.fl;have c:Xo (J1 w h m.fl):=show J1 _ _ _ by
  simp only[vJ]at q;rw[q.1];exact z
 have h:fi<k:=by rw[K];exact(gS.1 x).1
 obtain⟨R,rfl,P,U,t,y⟩:=c.out fi f x;have i:=dD y
 obtain⟨_,_,p,s⟩:=t.nums;have G:=(gS.1 b).1;obtain⟨n,h,c⟩:=s ix d b;have B:Xo (P=Xa n/\∀W,zc w W->W.cell? (n.add ix)=Xa (I6 d)):=dD<|⟨by simp only[vJ]at p;rw[p.1];exact h,c⟩
 obtain⟨Q,A⟩:=kA f.bl.length;rw[A.out]at G i;clear g K q z x b y t p s h c;obtain⟨a5,b⟩:=kA f.size;rw[b.out]at i a H;have b:(fi:Int)< (k:Int):=Wm
 have b:(ix:Int)< (Q:Int):=Wm
 obtain⟨s,b⟩:=kB ((w.alloc (Xk #[O X Z Y,I6 m.hand,a0.x,L.x,N.x,S.x,T.x,O (Xa R) k F,I6 m.cnt,O C E D,M.x] 41)).alloc (Xk #[U8 0,U8 0,U8 0,U8 0,U8 0,U8 0,U8 0,U8 0] 60));have q:=gD2 b
 have h:=x2a b
 have t:Xo (Box s (w.heap.size+1) (pgc zp)):=dD<|by rw[<-b];exact Box.top _ (pgc zp) _ Sm
 have g:=dD b;clear b
 go_enter func131,ntmps131
 go_upto_region 1 with fail;rw[g.out];have p:=h.c 7 rfl;have g:=h.c 8 rfl;have b:=r.out s q.out;go_wp2_with fail;refine b.mono ?_;clear b p g;rintro W k ⟨rfl,b⟩;have r:=dD (q.trans b);have q:=dD (h.grew b);have s:=dD (t.grew b);clear b;have p:=q.c 7 rfl;obtain⟨t,y⟩:=i.out k r.out;go_upto_region 4 with fail;obtain⟨b,g⟩:=kA k.heap.size;obtain⟨h,b⟩:=kB (k.alloc (Xk #[I6 a5,O P Q U] 65));have i:=gP b
 have X:=xP b g
 have A:=dD (r.trans i);have x:=dD (q.grew i);have a2:=dD (s.grew i);rw[b,g.out];clear b i t y p;obtain⟨b,c⟩:=B.out;subst b;have b:=dD c
 clear c;have p:=X.c 1 rfl;have i:=b.out h A.out
 by_cases c:d<0
 ·rw[kE c]at a
  go_wp2_with (refine zr rfl 60 (.tmp 6) (.tmp 29) rfl (w.heap.size+1) rfl (pgc zp) rfl a2 rfl zqL (jd _) ?_)
  intro Y s t _;have k:Xo (zc w Y):=dD<|zd A t Wm
  go_wp2;refine bodyPost_ret (zX rfl _ rfl s underlying60 rfl zqL) rfl ⟨by rw[a.out],Rr a.out,k⟩
 rw[kF c]at a;have g:decide (d<0)=Xd:=decide_eq_false c;go_upto_region 6 with fail;clear p i c g;obtain⟨p,c⟩:=kA (qv m.db m.dq d);rw[c.out]at a u l;obtain⟨H,K,L,M,N,P,Q,R,rfl⟩:=zdB p u.out;obtain⟨g,c⟩:=Wq fun u=>zc h u
 have r:=(c _).2 (gW _)
 have F:=x.h c 5 rfl
 have G:=x.h c 6 rfl
 have D:=X.h c 1 rfl
 have C:∀y:zj g,y.world.cell? (n.add ix)=Xa (I6 d):=fun y=>b.out _ (A.trans ((c _).1 y.holds))
 have a0:Nonempty (zj g):=⟨⟨_,r⟩⟩;refine zfJ (I:=g) 14 [(7,⟨.const (Xh Xd),fun b=>b= Xm #[Xi #[U8 H,U8 K,U8 L,U8 M,U8 N,U8 P,U8 Q,U8 R],I6 (zk m.db.length m.dq d)],fun _ _ _=>True,fun p q=>zc p q,fun _=>True⟩),(11,⟨.const (Xh Xd),fun b=>∃g,b= Xj (Xa ⟨g,0,Xb⟩),fun _ b u=>∃g x,b= Xj (Xa ⟨g,0,Xb⟩)/\h.heap.size<=g/\zo u g 60 x/\x.length=8,fun p q=>zc p q,fun _=>True⟩),(12,⟨.tmp 8,fun _=>True,fun W _ u=>∃g,W= Xj (Xa ⟨g,0,Xb⟩)/\h.heap.size<=g/\Box u g (pgc [H,K,L,M,N,P,Q,R]),fun p q=>∃g,h.heap.size<=g/\p.grownBy q (Xa g)/\zo q g 60 (pgc [H,K,L,M,N,P,Q,R]),fun _=>True⟩)] r z6 Kr Kr rfl rfl Dc (Sc ⟨_,rfl⟩ ⟨_,0,rfl⟩ ⟨Xh Xc,trivial⟩) ?hp ?hpre ?hpr0 ?_
 case hp=>
  intro a1 aa a7 a4 u U n h W b p q i E;have h:=zW u;have b:=zW U;clear u U;simp only[mC,pJ,nM,or_false]at h b
  rcases h with⟨rfl,rfl⟩|⟨rfl,rfl⟩|⟨rfl,rfl⟩
  ·trivial
  ·obtain⟨g,x,y,z,B,a3⟩:=E
   rcases b with⟨rfl,rfl⟩|⟨rfl,rfl⟩|⟨rfl,rfl⟩
   ·exact⟨g,x,y,z,B.grew i,a3⟩
   ·exact absurd rfl n
   obtain⟨Z,a8,a8,a9⟩:=i
   by_cases e:g=Z
   ·subst e;exact⟨g,_,y,z,a9,rfl⟩
   exact⟨g,x,y,z,B.beside a8 (fun a1 u=>by cases u;exact e),a3⟩
  obtain⟨g,y,z,B⟩:=E
  rcases b with⟨rfl,rfl⟩|⟨rfl,rfl⟩|⟨rfl,rfl⟩
  ·exact⟨g,y,z,B.grew i⟩
  ·exact⟨g,y,z,B.grew i⟩
  exact absurd rfl n
 case hpre=>
  intro a7 a4 a1 aa U u n p q i i;have b:=zW U;simp only[mC,pJ,nM,or_false]at b
  rcases b with⟨rfl,rfl⟩|⟨rfl,rfl⟩|⟨rfl,rfl⟩ <;> trivial
 case hpr0=>
  intro a1 a4 u;have h:=zW u;simp only[mC,pJ,nM,or_false]at h
  rcases h with⟨rfl,rfl⟩|⟨rfl,rfl⟩|⟨rfl,rfl⟩ <;> trivial
 simp only[Ym,Yn];iterate 7 refine zbA ?_
 refine JJ rfl rfl (fun w' b i n=>?_) (fun q h=>?_)
 ·refine zJ.call [Xi #[S.x,T.x],I6 d] rfl func155 rfl rfl rfl ?_;refine(l w' (A.trans ((c _).1 b))).mono ?_;rintro e p ⟨rfl,d⟩;exact⟨_,rfl,(c _).2 (((c _).1 b).trans d),d,rfl,trivial⟩
 subst h;refine Uq ?_;iterate 3 refine zbA ?_
 refine JJ rfl rfl (fun w' b i n=>?_) (fun q h=>?_)
 ·refine zJ.step (v:= Xj (Xa ⟨w'.heap.size,0,Xb⟩)) (w':=w'.alloc (Xk #[U8 0,U8 0,U8 0,U8 0,U8 0,U8 0,U8 0,U8 0] 60)) (by clear F G D C;simp only[execOp];go_simp) ⟨(c _).2 (((c _).1 b).trans (za _ _)),za _ _,⟨_,rfl⟩,_,_,rfl,bS ((c _).1 b),zo.top _ (pgc zp) _ rfl,rfl⟩
 obtain⟨l,rfl⟩:=h;refine Uq ?_;refine JJ rfl rfl (fun w' b i n=>?_) (fun q h=>?_)
 ·obtain⟨g,x,g,d,h,i⟩:=n 11 Kr
  simp only[Value.pointer.injEq,Option.some.injEq,Addr.mk.injEq,and_true]at g;subst g;refine zJ.storeAllT 60 (.tmp 8) (.tmp 39) rfl l rfl (pgc [H,K,L,M,N,P,Q,R]) rfl h (Rr i) (Rx i zqL) (jd _) fun p i p q=>?_
  exact⟨(c _).2 (zd ((c _).1 b) p d),⟨l,d,p,i⟩,trivial,l,rfl,d,i.box⟩
 simp only[Xw];refine zbA ?_
 refine ze3 fun u i n=>?_
 obtain⟨Z,g,h,d⟩:=n 12;have b:(Value.pointer (Xa ⟨l,0,Xb⟩):Xq)= Xj (Xa ⟨Z,0,Xb⟩):=g;simp only[Value.pointer.injEq,Option.some.injEq,Addr.mk.injEq,and_true]at b;subst b;have b:=(c _).1 i;have p:=dD (A.trans b);have c:=dD (X.grew b);have x:=dD (a2.grew b);have q:=dD d;clear n i r a0 F G D C b g d h;have hcut:=zcN [H,K,L,M,N,P,Q,R] (a5 -(ix:Int)*8) u rfl Wm Wm
 rw[zmm]at hcut;rw[<-a.out]at hcut;have a:=c.c 0 rfl
 go_wp2_with (refine zK rfl 60 (.tmp 8) rfl l rfl q underlying60 rfl zqL ?_)
 refine hcut.mono ?_;clear hcut a;rintro W a ⟨rfl,-,a⟩;have c:=dD (x.grew a);have b:=dD (p.trans a);clear a
 go_wp2_with (refine zr rfl 60 (.tmp 6) (.tmp 47) rfl (w.heap.size+1) rfl (pgc a6) rfl c (by rw[Zr,j.out];rfl) zqL (jd _) ?_)
 intro Y s t _;have k:Xo (zc w Y):=dD<|zd b t Wm
 go_wp2;refine bodyPost_ret (zX rfl _ rfl s underlying60 rfl (by rw[Zr,j.out];exact zqL)) rfl ⟨rfl,j,k⟩
theorem ChW.doneD {w:Xn} {p:Nat} (h:ChW w0 p w V m) (o:qD (fun k=>k<w0.heap.size) w W):zy W V m:=by
 have c:qD (Dr w0.heap.size p V) w W:=o.wide fun k a=> .inl a
 have r:=h.rest W c;obtain⟨n,f,i,j⟩:=h.sp;have a:∀{b:Type} {E:Elt b} {v:Xq} {l:List b},zb E w0.heap.size w v l->zl E W v l:=fun b=>zb.at (base:=w0.heap.size) ⟨zcO b.1 o (fun g d e=>by have:=(b.lt g d).1;have e:g<w0.heap.size:=e;omega),b.2⟩
 exact⟨a h.fs,r.sl,r.sb,r.sq,r.db,r.dq,r.fl,a h.ca,⟨n,a f,i,fun i x s b a=>j i x s b a W c⟩⟩
theorem zen (V m) (w:Xn) (n:zy w V m) (j:maW m=0) (R:Bool->Ma->Prop) (l:∀w0 W p g,ChW w0 p W g m->Xp prog 26 #[Xj (Xa ⟨p,0,Xb⟩),eS] W fun e w'=>∃b m',e= Xl (Xh b)/\R b m'/\Chg w0 p W g m' w'):
  Xp prog 8 #[Xi (mL V m).toArray] w fun e w'=>(∃(b:Bool) (m':Ma) (V':MaV),R b m'/\e= Xl (Xm #[Xi (mL V' m').toArray,Xh b,I6 0])/\∀W,qD (fun k=>k<w.heap.size) w' W->zy W V' m')/\zc w w':=by
 obtain⟨i,a⟩:=kB ((w.alloc (Xk (mL V m).toArray 41)).alloc (Xk zM.toArray 41));have y:=gD2 a
 obtain⟨d,f⟩:=kA w.heap.size;have z:Xo (zo i d 41 (mL V m)):=dD<|by rw[<-a];exact(zo.top w (mL V m) _ f.symm).grew (za _ _)
 have A:Xo (zo i (d+1) 41 qf):=dD<|by rw[<-a];exact zo.top _ qf _ (by have:=f.out;simp;omega)
 have x:=dD<|n.grew y.out;have h:=dD a;have c:=Qy V m i x j;clear a n j;have B:=dD l
 clear l
 go_enter func8,ntmps8
 go_upto_region 1 with fail;rw[h.out,f.out];obtain⟨h,i,j,n,q,r,s,t,u,v,a⟩:=z.box.c11;go_wp2_with fail;refine c.mono ?_;clear c h i j n q r s t u v a;rintro e l ⟨rfl,c⟩;have C:=dD (z.grew c);have z:=dD (A.grew c);have A:=dD (x.grew c);have x:=dD (y.trans c);clear c;have c:=zco V m l A.out;obtain⟨h,i,j,n,q,r,s,t,u,v,a⟩:=C.box.c11;go_wp2_with fail;refine c.mono ?_;clear c h i j n q r s t u v a;rintro e h ⟨p,g,rfl,a⟩;have n:=dD a;have c:=dD z.box.lt;have t:=dD<|z.grew a.gr;clear a;have a:=B.out l h p g n.out;go_wp2_with fail;refine a.mono ?_;clear a;rintro e s ⟨b,h,rfl,a,g,q,r,v⟩;have i:=dD q;have j:=dD a;have u:Xo (zo s (d+1) 41 qf):=t.outD r (fun e=>by have:=n.dlo _ e;have:=c.out;omega)
 clear q r v a;obtain⟨q,r,s,t,v,y,z,A,B,C,n⟩:=i.box.box.c11;have a:Xo (∀D∈chL g h,D.oneCell'=Xc):=dD<|by simp[chL,Value.oneCell']
 go_wp2_with (refine zP rfl 41 (.tmp 2) (.tmp 21) rfl (d+1) rfl (chL g h) rfl u rfl Kr a.out ?_)
 clear q r s t v y z A B C n;intro n q a _;have r:Xo (zc w n):=dD<|zd (x.trans i.gr) a (Hm f.out)
 have f:=dD q;have s:Xo (∀W,qD (fun k=>k<w.heap.size) n W->zy W g h):=show∀W,_ from fun W n=>i.doneD ((qD.grown a (show d+1<l.heap.size from c.out)).trans (n.wide fun k c=>Yi c (bS x)))
 clear q a;go_wp2;refine bodyPost_ret (zZ rfl _ rfl f.box underlying41 rfl Kr) rfl ⟨⟨b,h,g,j,rfl,s⟩,r⟩
theorem zku (V) (m:Ma) (w) (j:zy w V m) (i:maW m=0) (c:m.ca=[]):
  Xp prog 11 #[Xi (mL V m).toArray] w fun e w'=>(∃V':MaV,e= Xl (Xm #[Xi (mL V' m).toArray,Xh Xd,I6 0])/\zy w' V' m)/\zc w w':=by
 obtain⟨g,a⟩:=kB ((w.alloc (Xk (mL V m).toArray 41)).alloc (Xk zM.toArray 41));have u:=gD2 a
 obtain⟨h,f⟩:=kA w.heap.size;have x:Xo (zo g h 41 (mL V m)):=dD<|by rw[<-a];exact(zo.top w (mL V m) _ f.symm).grew (za _ _)
 have y:Xo (zo g (h+1) 41 qf):=dD<|by rw[<-a];exact zo.top _ qf _ (by have:=f.out;simp;omega)
 have t:=dD<|j.grew u.out;have b:=dD a;have d:=Qy V m g t i;clear a j i;have j:Xo (m.ca.length=0):=show _=_ by rw[c];rfl
 clear c
 go_enter func11,ntmps11
 go_upto_region 1 with fail;rw[b.out,f.out];obtain⟨g,i,k,l,n,p,q,r,s,b,a⟩:=x.box.c11;go_wp2_with fail;refine d.mono ?_;clear d g i k l n p q r s b a;rintro e v ⟨rfl,d⟩;have z:=dD (x.grew d);have x:=dD (y.grew d);have y:=dD (t.grew d);have t:=dD (u.trans d);clear d;have d:=zco V m v y.out;obtain⟨g,i,k,l,n,p,q,r,s,b,a⟩:=z.box.c11;go_wp2_with fail;refine d.mono ?_;clear d g i k l n p q r s b a;rintro e k ⟨p,g,rfl,c⟩;have d:=dD c;have i:=dD x.box.lt;have l:=dD<|x.grew c.gr;clear c;obtain⟨-,-,-,-,-,-,-,a,-⟩:=d.at.ns;have b:=d.box.box.c 9 rfl;(try simp only[Sli.x]at b);rw[a,j.out]at b;clear a;go_wp2;clear b
 go_loopg [23] 1 (fun b a wr=>a=I6 0/\0<b/\wr=k)
 exact⟨rfl,Wm,rfl⟩
 obtain⟨rfl,a,rfl⟩:=hrel;have j:=dD l;obtain⟨k,l,n,p,q,r,s,u,x,y,b⟩:=d.box.box.c11;have a:Xo (∀c∈chL g m,c.oneCell'=Xc):=show∀c∈chL g m,_ by simp[chL,Value.oneCell']
 go_wp2_with (refine zP rfl 41 (.tmp 2) (.tmp 52) rfl (h+1) rfl (chL g m) rfl j rfl Kr a.out ?_)
 clear k l n p q r s u x y b;intro c b a _;have j:Xo (zc w c):=dD<|zd (t.trans d.gr) a (Hm f.out)
 have c:=dD b;have f:=dD<|d.doneD (qD.grown a (show h+1<v.heap.size from i.out))
 clear b a;go_wp2;refine bodyPost_ret (zZ rfl _ rfl c.box underlying41 rfl Kr) rfl ⟨⟨g,rfl,f⟩,j⟩
theorem zfP (V) (m:Ma) (file:Int) (w) (n:zy w V m) (d:maW m=0) (l:file<0\/(m.fl.length:Int)<=file):
  Xp prog 12 #[Xi (mL V m).toArray,I6 file] w fun e w'=>e= Xl (Xm #[Xi qf.toArray,I6 5])/\zc w w':=by
 obtain⟨b,a⟩:=kB ((w.alloc (Xk (mL V m).toArray 41)).alloc (Xk zM.toArray 41));have j:=gD2 a
 obtain⟨g,c⟩:=kA w.heap.size;have k:Xo (zo b g 41 (mL V m)):=dD<|by rw[<-a];exact(zo.top w (mL V m) _ c.symm).grew (za _ _)
 have p:Xo (zo b (g+1) 41 qf):=dD<|by rw[<-a];exact zo.top _ qf _ (by have:=c.out;simp;omega)
 have i:=dD<|n.grew j.out;have h:Xo (_=b):=a;have f:=Qy V m b i d;clear a n d;have d:=dD l
 clear l
 go_enter func12,ntmps12
 go_upto_region 1 with fail;rw[h.out,c.out];obtain⟨h,l,n,q,r,s,t,b,u,v,a⟩:=k.box.c11;go_wp2_with fail;refine f.mono ?_;clear f h l n q r s t b u v a;rintro e a ⟨rfl,a⟩;have h:=dD (k.grew a);have n:=dD (p.grew a);have f:=dD (i.grew a);have l:=dD (j.trans a);clear a;obtain⟨-,-,-,-,-,-,a,-⟩:=f.ns;have b:=h.box.c 7 rfl;(try simp only[Sli.x]at b);rw[a]at b;clear a;obtain⟨p,a⟩:=kA m.fl.length;rw[a.out]at b d
 by_cases q:file<0
 ·have k:decide (file<0)=Xc:=Si q
  go_wp2_with (refine zP rfl 41 (.tmp 4) (.tmp 26) rfl (g+1) rfl qf rfl n rfl Kr (by simp[qf,Value.oneCell']) ?_)
  intro j f a _;have i:Xo (zc w j):=dD<|zd l a (Hm c.out)
  have h:=dD f;clear f a b;go_wp2;refine bodyPost_ret (qL rfl _ rfl h.box underlying41 rfl Kr) rfl ⟨rfl,i⟩
 have k:decide (file<0)=Xd:=Si q
 have k:(p:Int)<=file:=Hm d.out
 have d:decide ((p:Int)<=file)=Xc:=Si k
 go_wp2_with (refine zP rfl 41 (.tmp 4) (.tmp 26) rfl (g+1) rfl qf rfl n rfl Kr (by simp[qf,Value.oneCell']) ?_)
 intro j f a _;have i:Xo (zc w j):=dD<|zd l a (Hm c.out)
 have h:=dD f;clear f a b;go_wp2;refine bodyPost_ret (qL rfl _ rfl h.box underlying41 rfl Kr) rfl ⟨rfl,i⟩
def frU (q:Fr):Fr:={ q with u:=false }
def ziP (q:Fr):Bool:=decide (0<q.r) && !q.u
theorem zmz {w:Xn} (h:Below b w W) {a:Addr} (c:b<=a.block) (u):Below b w (W.setCell a u):=Below.setCell h c u
theorem znb (B g n f i base v:Nat) (fs:List Fr) (q W) (b:fs.length=n) (a:n<=40) (h:fs[i]? =Xa q) (j:Box W B [O (Xa ⟨g,0,Xb⟩) n f,I6 (i:Int)]) (k:zb qA base W (O (Xa ⟨g,0,Xb⟩) n f) fs) (p:B≠g) (t:v<=B) (C:v<=g):
  Xp prog 91 #[Xj (Xa ⟨B,0,Xb⟩)] W fun e a=>e= Xl (Xm #[I6 (i:Int),Xh (ziP q)])/\Box a B [O (Xa ⟨g,0,Xb⟩) n f,I6 (((i+1) % n:Nat):Int)]/\zb qA base a (O (Xa ⟨g,0,Xb⟩) n f) (fs.set i (frU q))/\Below v W a:=by
 have d:=dD k;have c:=dD j;have u:=dD h;have a:i<n:=by rw[<-b];exact(gS.1 h).1
 have a:=dD b;clear k j h b;have a:(i:Int)< (n:Int):=Wm
 have a:(0:Int)< (n:Int):=Wm
 have a:¬(n:Int)=0:=Wm
 have a:(((i:Int)+1) %(n:Int))=(((i+1) % n:Nat):Int):=Sm
 have k:=dD a;clear a;have a:=Ne.symm p;have z:=c.c 0 rfl;have j:=c.c 1 rfl;have s:=c.f;have m:=c.lt;have a:=(d.lt g rfl).2;have u8:=d.frc u 8 rfl;have u9:=d.frc u 9 rfl
 go_enter func91,ntmps91
 go_upto_region 3 with fail;obtain⟨h,b⟩:=kB (W.setCell ⟨B,1,Xb⟩ (I6 (((i:Int)+1) %(n:Int))));rw[b];have r:Xo (Box h B [O (Xa ⟨g,0,Xb⟩) n f,I6 (((i:Int)+1) %(n:Int))]):=dD<|by rw[<-b];exact c.set 1 _
 have l:Xo (zb qA base h (O (Xa ⟨g,0,Xb⟩) n f) fs):=dD<|by rw[<-b];exact d.setOther (fun w a=>by cases a;exact p) _
 have d:Xo (Below v W h):=dD<|by rw[<-b];exact zmz (bR _ _) t _
 clear b z j s m u8 u9;have z:=r.c 0 rfl;have u8:=l.frc u 8 rfl;have u9:=l.frc u 9 rfl;have y:Xo (ziP q=(decide (0<q.r) && !q.u)):=rfl;obtain⟨h,b⟩:=kA q.r;obtain⟨A,c⟩:=kA q.u;rw[b.out]at u8 y;rw[c.out]at u9 y
 by_cases D:0<h
 ·cases A with
  | true=>
   have x:Xo (ziP q=Xd):=dD<|by rw[y.out];simp[D]
   skip
   go_wp2_with (refine zD (E:=qA) rfl (.tmp 32) (.const (Xh Xd)) 4 rfl base (O (Xa ⟨g,0,Xb⟩) n f) fs l g i 9 rfl q (frU q) u.out [Xh Xd] Kr rfl (Xy rfl) (by intro A t;simp at t;subst t;rfl) _ rfl (by simp[qA]) _ rfl rfl ?_)
   intro s c b _;have m:=dD c;have j:Xo (Box s B [O (Xa ⟨g,0,Xb⟩) n f,I6 (((i:Int)+1) %(n:Int))]):=r.beside b (fun w a=>by cases a;exact p)
   have h:Xo (Below v W s):=Below.grown d b (Hm (bS d.out)) (fun w a=>by cases a;exact C)
   clear c b u8 u9 z;go_wp2
   go_ret2
   exact⟨Rr x.out,Ry k.out j,m,h⟩
  | false=>
   have x:Xo (ziP q=Xc):=dD<|by rw[y.out];simp[D]
   skip
   go_wp2_with (refine zD (E:=qA) rfl (.tmp 32) (.const (Xh Xd)) 4 rfl base (O (Xa ⟨g,0,Xb⟩) n f) fs l g i 9 rfl q (frU q) u.out [Xh Xd] Kr rfl (Xy rfl) (by intro A t;simp at t;subst t;rfl) _ rfl (by simp[qA]) _ rfl rfl ?_)
   intro s c b _;have m:=dD c;have j:Xo (Box s B [O (Xa ⟨g,0,Xb⟩) n f,I6 (((i:Int)+1) %(n:Int))]):=r.beside b (fun w a=>by cases a;exact p)
   have h:Xo (Below v W s):=Below.grown d b (Hm (bS d.out)) (fun w a=>by cases a;exact C)
   clear c b u8 u9 z;go_wp2
   go_ret2
   exact⟨Rr x.out,Ry k.out j,m,h⟩
 
 have x:Xo (ziP q=Xd):=dD<|by rw[y.out];simp[D]
 skip
 go_wp2_with (refine zD (E:=qA) rfl (.tmp 32) (.const (Xh Xd)) 4 rfl base (O (Xa ⟨g,0,Xb⟩) n f) fs l g i 9 rfl q (frU q) u.out [Xh Xd] Kr rfl (Xy rfl) (by intro A t;simp at t;subst t;rfl) _ rfl (by simp[qA]) _ rfl rfl ?_)
 intro s c b _;have m:=dD c;have j:Xo (Box s B [O (Xa ⟨g,0,Xb⟩) n f,I6 (((i:Int)+1) %(n:Int))]):=r.beside b (fun w a=>by cases a;exact p)
 have h:Xo (Below v W s):=Below.grown d b (Hm (bS d.out)) (fun w a=>by cases a;exact C)
 clear c b u8 u9 z;go_wp2
 go_ret2
 exact⟨Rr x.out,Ry k.out j,m,h⟩
def jC:Nat->List Fr->Nat->List Fr × Nat × Int
 | 0,fs,h=>(fs,h,-1)
 | m+1,fs,h=>if ziP (fs.getD h fr0)then(fs.set h (frU (fs.getD h fr0)),(h+1) % fs.length,(h:Int))else jC m (fs.set h (frU (fs.getD h fr0))) ((h+1) % fs.length)
def Jr (fs:List Fr) (h:Int):List Fr × Nat × Int:=jC (2*fs.length) fs h.toNat
def zby (fs:List Fr) (h:Int):List Fr:=if Zt fs h=0 then(Jr fs h).1 else []
def zbx (fs:List Fr) (h:Int):Int:=if Zt fs h=0 then((Jr fs h).2.1:Int)else 0
def Js (fs:List Fr) (h:Int):Int:=if Zt fs h=0 then(Jr fs h).2.2 else 0
theorem zpO (a) (c:Nat) (fs:List Fr) (l:Nat) (w:Xn) (aq:zl qA w (O a fs.length c) fs) (S:Zt fs (l:Int)=0):
  Xp prog 47 #[Xi #[O a fs.length c,I6 (l:Int)]] w fun e w'=>∃b,e= Xl (Xm #[Xi #[b,I6 ((jC (2*fs.length) fs l).2.1:Int)],I6 (jC (2*fs.length) fs l).2.2,I6 0])/\zb qA w.heap.size w' b (jC (2*fs.length) fs l).1/\zc w w':=by
 have a3:=dD aq;have ah:∀W,zc w W->Xp prog 71 #[Xi #[O a fs.length c,I6 (l:Int)]] W fun e w'=>e= Xl (I6 (Zt fs (l:Int)))/\zc W w':=fun W ae=>by rw[S];exact QU a c fs _ W (a3.grew ae) S
 have ag:∀W,zc w W->Xp prog 86 #[Xi #[O a fs.length c,I6 (l:Int)]] W fun e w'=>∃b,e= Xl (Xi #[b,I6 (l:Int)])/\zb qA W.heap.size w' b fs/\zc W w':=fun W ae=>J7 a c fs _ W (a3.grew ae)
 obtain⟨P,_,_,A⟩:=j0 S;have bb:=enters_of func91 Kr rfl
 clear aq;obtain⟨n,a1⟩:=kA fs.length;simp only[a1.out,S]at ah a3 ag P A⊢;clear S;obtain⟨V,G⟩:=kA (jC (2*n) fs l);rw[G.out];obtain⟨b9,p⟩:=kB ((w.alloc (Xk #[O a n c,I6 (l:Int)] 28)).alloc (Xk #[eS,I6 0] 28));have r:=gD2 p
 have X:=x2a p
 have am:=x2b p
 have a4:=dD p;clear p
 go_enter func47,ntmps47
 go_upto_region 1 with fail;rw[a4.out];have aa:=X.c 0 rfl;have ab:=X.c 1 rfl;go_wp2_with fail;refine(ah _ r).mono ?_;rintro e x ⟨rfl,ao⟩;have B:=dD ao;clear ao aa ab ah;have aa:=(X.grew B).c 0 rfl;have ab:=(X.grew B).c 1 rfl;go_wp2_with fail;refine(ag _ (r.trans B)).mono ?_;rintro e L ⟨b,rfl,i,ad⟩;obtain⟨D,m,rfl⟩:=i.form;rw[a1.out]at i⊢;have ay:=dD i;have aj:=dD (B.trans ad);have ac:=dD<|bS ad;have a7:=dD<|(am.grew B).lt;have a6:=dD<|bS (r.trans B);clear i ad aa ab ag;obtain⟨M,k⟩:=kB (L.alloc (Xk #[O D n m,I6 (l:Int)] 28));have an:=xT k
 have K:Xo (zb qA x.heap.size M (O D n m) fs):=dD<|by rw[<-k];exact ay.grew (za _ _)
 have a9:Xo (Box M (w.heap.size+1) [eS,I6 0]):=dD<|by rw[<-k];exact(am.grew aj).alloc _
 have au:Xo (zc w M):=dD<|by rw[<-k];exact(r.trans aj).trans (za _ _)
 have a5:=dD k;clear k;go_wp2;rw[a5.out]
 go_loopg [8,9,23] (2*n) (fun az _ _ ai wr=>∃(h d:Nat) (g:List Fr),h<=2*n/\2*n - h<=az/\ai=I6 h/\d<max n 1/\Xo (g.length=n)/\Xo (Box wr L.heap.size [O D n m,I6 (d:Int)])/\Xo (zb qA x.heap.size wr (O D n m) g)/\Xo (Below x.heap.size M wr)/\Xo (jC (2*n - h) g d=V))
 exact⟨0,l,fs,nZ _,Wm,rfl,Wm,a1,an.box,K,bR _ _,G⟩
 obtain⟨h,d,g,b1,bc,rfl,b0,C,I,U,Z,Y⟩:=hrel;have u:=a7.out;have t:=a6.out;have j:=dD<|a9.below Z u;have ak:=dD<|Below.trans au (Z.mono t)
 by_cases b2:h<2*n
 ·have R:(h:Int)<2*(n:Int):=Wm
  obtain⟨s,ba,ap⟩:=U.formS (by rw[C.out];omega)
  rw[C.out]at ap;cases ap;obtain⟨q,al⟩:∃q,Xo (g[d]? =Xa q):=⟨_,gE (by rw[C.out];omega)⟩
  have af:=U.lt s rfl;have a2:Xo (L.heap.size≠s):=(K.ne an Dc s rfl)
  have f:=znb L.heap.size s n m d x.heap.size x.heap.size g q wr C P al I U a2 ac.out af.1;have Q:g.getD d fr0=q:=by rw[gD,al.out];rfl
  have H:Xo (jC (2*n - h) g d=if ziP q then(g.set d (frU q),(d+1) % n,(d:Int))else jC (2*n -(h+1)) (g.set d (frU q)) ((d+1) % n)):=dD<|by
   rw[show 2*n - h=(2*n -(h+1))+1 by omega,jC,Q,C.out]
  clear Q
  cases E:ziP q with
  | true=>
   rw[E]at f;have F:Xo (V=(g.set d (frU q),(d+1) % n,(d:Int))):=dD<|by rw[<-Y.out,H.out,E,kE rfl]
   clear E
   go_wp2_with (go_at_call 91;refine f.mono ?_;rintro e z ⟨rfl,N,T,y⟩;have b5:=(j.below y u).c 0 rfl;have b7:=(j.below y u).c 1 rfl;have b8:=(j.below y u).f;have b3:=N.c 0 rfl;have b4:=N.c 1 rfl;have a8:Xo (zb qA x.heap.size z (O (Xa ⟨s,0,Xb⟩) n m) (g.set d (frU q))):=T;have a0:Xo (zc w z):=show zc w z from Below.trans ak (y.mono t);clear T y)
   refine bodyPost_ret (v:= Xm #[Xi #[O (Xa ⟨s,0,Xb⟩) n m,I6 (((d+1) % n:Nat):Int)],I6 (d:Int),I6 0]) (by simp[results,Tryz.results47,go_sem, *]) rfl ⟨O (Xa ⟨s,0,Xb⟩) n m,?_,?_,?_⟩
   ·rw[F.out]
   ·rw[F.out];exact((a8.setCell (a:=⟨w.heap.size+1,0,Xb⟩) (by show w.heap.size+1<_;omega) _).setCell (a:=⟨w.heap.size+1,1,Xb⟩) (by show w.heap.size+1<_;omega) _).base t
   exact zq (zq a0 Sm _) Sm _
  | false=>
   rw[E]at f;have aw:Xo (jC (2*n -(h+1)) (g.set d (frU q)) ((d+1) % n)=V):=dD<|by rw[<-Y.out,H.out,E];rfl
   clear E
   go_wp2_with (go_at_call 91;refine f.mono ?_;rintro e z ⟨rfl,N,T,y⟩;have ar:Xo (Box z L.heap.size [O (Xa ⟨s,0,Xb⟩) n m,I6 (((d+1) % n:Nat):Int)]):=N;have a8:Xo (zb qA x.heap.size z (O (Xa ⟨s,0,Xb⟩) n m) (g.set d (frU q))):=T;have ax:Xo (Below x.heap.size M z):=Below.trans Z y;clear N T y)
   go_roundg (2*n -(h+1));exact⟨h+1,(d+1) % n,g.set d (frU q),Wm,Wm,Gn,(by have:=Nat.mod_lt (d+1) (show 0<n by omega);omega),(show(g.set d (frU q)).length=n by rw[Yp];exact C),ar,a8,ax,aw⟩;omega
 have R:¬(h:Int)<2*(n:Int):=Wm
 have:h=2*n:=Wm
 subst this;have F:Xo (V=(g,d,-1)):=dD<|by rw[<-Y.out,Yg];rfl
 have b5:=j.c 0 rfl;have b7:=j.c 1 rfl;have b8:=j.f;have b3:=I.c 0 rfl;have b4:=I.c 1 rfl;go_wp2;refine bodyPost_ret (v:= Xm #[Xi #[O D n m,I6 (d:Int)],I6 (-1),I6 0]) (by simp[results,Tryz.results47,go_sem, *]) rfl ⟨O D n m,?_,?_,?_⟩
 ·rw[F.out]
 ·rw[F.out];exact((U.setCell (a:=⟨w.heap.size+1,0,Xb⟩) (by show w.heap.size+1<_;omega) _).setCell (a:=⟨w.heap.size+1,1,Xb⟩) (by show w.heap.size+1<_;omega) _).base t
 exact zq (zq ak Sm _) Sm _
theorem znk (a) (c:Nat) (fs:List Fr) (h:Int) (w:Xn) (f:zl qA w (O a fs.length c) fs) (d:Zt fs h=0):
  Xp prog 47 #[Xi #[O a fs.length c,I6 h]] w fun e w'=>∃b,e= Xl (Xm #[Xi #[b,I6 (zbx fs h)],I6 (Js fs h),I6 (Zt fs h)])/\zb qA w.heap.size w' b (zby fs h)/\zc w w':=by
 unfold zbx Js zby Jr;rw[kE d,kE d,kE d];obtain⟨g,rfl⟩:=Int.eq_ofNat_of_zero_le (j0 d).2.2.1;rw[tN,d];exact zpO a c fs g w f d
def jZ (m:Ma):Ma:={ m with fs:=zby m.fs m.hand,hand:=zbx m.fs m.hand }
theorem zoo {w:Xn} {p:Nat} (h:ChW w0 p w V m) (c:Zt m.fs m.hand=0):
  Xp prog 47 #[Xi #[V.f.x,I6 m.hand]] w fun e w'=>∃b:Sli,e= Xl (Xm #[Xi #[b.x,I6 (zbx m.fs m.hand)],I6 (Js m.fs m.hand),I6 0])/\zb qA w.heap.size w' (b.x) (zby m.fs m.hand)/\zc w w':=by
 obtain⟨a,-⟩:=h.at.ns;have k:=h.at.fs;(try simp only[Sli.x]at k⊢);rw[a]at k⊢;refine(znk V.f.a V.f.c m.fs m.hand w k c).mono ?_;rintro e w' ⟨b,rfl,d,h⟩;have a:zb qA w.heap.size w' b (zby m.fs m.hand):=d;obtain⟨f,g,rfl⟩:=a.form;rw[c];exact⟨⟨f,_,g⟩,rfl,d,h⟩
theorem zh1 {w:Xn} {p:Nat} (h:ChW w0 p w V m) (g:Zt m.fs m.hand=0) (hi:Js m.fs m.hand=-1) (i:0<m.fs.length) (b:m.fs.length<=40) (a):
  Xp prog 26 #[Xj (Xa ⟨p,0,Xb⟩),a] w fun e w'=>e= Xl (Xh Xd)/\Chg w0 p w V (jZ m) w':=by
 have f:=dD h;obtain⟨k,-⟩:=h.at.ns;have j:0<V.f.n:=Wm
 have c:V.f.n<=40:=Wm
 have d:=h.box.box.c 0 rfl;have l:=h.box.box.c 1 rfl;have a:=zoo h g;rw[hi]at a;clear h g hi i b k;obtain⟨g,b⟩:=kA V.f.n;(try simp only[Sli.x]at d a);rw[b.out]at d j c a;have b:(0:Int)<2*(g:Int):=Wm
 go_enter func26,ntmps26
 go_wp2
 go_loopg [14] 1 (fun c b wr=>b=I6 0/\0<c/\wr=w)
 exact⟨rfl,Wm,rfl⟩
 obtain⟨rfl,b,rfl⟩:=hrel;go_wp2_with fail;refine a.mono ?_;clear a d l;rintro e a ⟨c,rfl,d,a⟩;have g:=dD (f.box.grew a);have b:=dD d;have h:=dD a;clear d a
 go_upto_region 5 with(refine Zf rfl 28 (.tmp 29) (.tmp 24) rfl p 0 rfl (Xi #[c.x,I6 (zbx m.fs m.hand)]) rfl [c.x,I6 (zbx m.fs m.hand)] rfl g (by simp[chL]) Kr (by simp[Value.oneCell']) ?_)
 intro a c a _;have d:=dD<|f.setF h b a c
 clear c a;try simp only[Xw]
 go_wp2;go_ret;exact⟨rfl,d⟩
def zp9 (B:Nat) (V:MaV):Prop:=(j4 B V.f.v/\j4 B V.s.v/\j4 B V.sb.v/\j4 B V.sq.v)/\(j4 B V.db.v/\j4 B V.dq.v/\j4 B V.fl.v/\j4 B V.ca.v/\j4 B V.sp.v)
theorem j4.less {a:Nat} {v:Xq} (h:j4 b v) (k:a<=b):j4 a v:=fun x n c e=>nT k (h x n c e)
theorem znq (u cs j:Int) (b:zpe u cs j) (w:Xn):
  Xp prog 34 #[Xi #[I6 u,I6 cs,I6 j]] w fun e w'=>(∃V:MaV,e= Xl (Xm #[Xi #[V.f.x,I6 0,V.s.x,V.sb.x,V.sq.x,V.db.x,V.dq.x,V.fl.x,I6 j,V.ca.x,V.sp.x],I6 0])/\zy w' V (zb5 u cs j)/\zp9 w.heap.size V/\∃v,V.sp=⟨Xa ⟨v,0,Xb⟩,1,1⟩)/\zc w w':=by
 obtain⟨a8,a⟩:=kB ((w.alloc (Xk #[I6 u,I6 cs,I6 j] 23)).alloc (Xk zM.toArray 41));have X:=gD2 a
 have l:=x2a a
 have a9:=x2b a
 have i:=dD a;clear a;obtain⟨r,a⟩:∃e,Xo (zjM u=e):=⟨_,rfl⟩;obtain⟨t,c⟩:∃e,Xo (zjI cs=e):=⟨_,rfl⟩;obtain⟨z,d⟩:∃e,Xo (Jk cs=e):=⟨_,rfl⟩;obtain⟨K,g⟩:∃e,Xo (Jk j=e):=⟨_,rfl⟩;obtain⟨M,h⟩:∃e:Int,Xo ((if 0<=j/\j<=80 then(0:Int)else 4)=e):=⟨_,rfl⟩;obtain⟨a3,L⟩:∃e:Int,Xo ((if 0<=j/\j<=80 then j else 0)=e):=⟨_,rfl⟩;have k:=fun W=>zjL u W
 have m:=fun W=>znn cs W
 have n:=fun W=>zgg cs W
 have p:=fun W=>zgg j W
 have q:=fun W=>zlt j W
 rw[a.out]at k;rw[c.out]at m;rw[d.out]at n;rw[g.out]at p;rw[h.out,L.out]at q;have W:Xo (znr u cs j=[r,t,z,K,M]):=dD<|by unfold znr;rw[a.out,c.out,d.out,g.out,h.out]
 have a:=dD k;have h:=dD m;have A:=dD n;have G:=dD p;have Z:=dD q;clear k m n p q
 go_enter func34,ntmps34
 go_upto_region 1 with fail;rw[i.out];have i:=l.c 0 rfl;go_wp2_with fail;refine(a _).mono ?_;rintro e c ⟨P,rfl,⟨g,a⟩,d⟩;clear i;have aa:=dD g;have y:=dD d;have C:=dD a;clear g d a;go_upto_region 2 with fail;obtain⟨a,a⟩:=kB (c.alloc (Xk #[P.x,I6 0] 28));have p:=gA a
 have R:=xA a
 rw[a];clear a;obtain⟨a,a⟩:∃m,Xo (c.heap.size=m):=⟨_,rfl⟩;rw[a.out]at R⊢;have d:=(l.grew (y.trans p)).c 1 rfl;go_wp2_with fail;refine(h _).mono ?_;rintro e a ⟨S,rfl,⟨h,g⟩,a⟩;clear d;have ab:=dD h;have q:=dD a;have c:=dD ((y.trans p).trans a);have D:=dD g;clear h a g;have d:=(l.grew c).c 1 rfl;go_upto_region 3 with fail;go_wp2_with fail;refine(A _).mono ?_;rintro e g ⟨A,Q,rfl,⟨k,B,a,h⟩,i⟩;clear d;have a4:=dD k;have a5:=dD B;have n:=dD i;have E:=dD a;have F:=dD h;clear k B i a h;go_upto_region 4 with fail;obtain⟨a,a⟩:=kB (g.alloc (Xk #[A.x,Q.x] 34));have k:=gA a
 have T:=xA a
 rw[a];clear a;obtain⟨a,a⟩:∃m,Xo (g.heap.size=m):=⟨_,rfl⟩;rw[a.out]at T⊢;have d:=dD ((c.trans n).trans k);have c:=(l.grew d).c 2 rfl;go_wp2_with fail;refine(G _).mono ?_;rintro e g ⟨B,N,rfl,⟨V,Y,a,h⟩,U⟩;clear c;have a6:=dD V;have a7:=dD Y;have i:=dD U;have G:=dD a;have H:=dD h;clear V Y U a h;go_upto_region 5 with fail;obtain⟨a,a⟩:=kB (g.alloc (Xk #[B.x,N.x] 34));have h:=gA a
 have U:=xA a
 rw[a];clear a;obtain⟨a,a⟩:∃m,Xo (g.heap.size=m):=⟨_,rfl⟩;rw[a.out]at U⊢;have g:=dD ((d.trans i).trans h);have c:=(l.grew g).c 2 rfl;go_wp2_with fail;refine(Z _).mono ?_;rintro e l ⟨rfl,a⟩;clear c;have c:=dD a;clear a;go_upto_region 6 with fail;obtain⟨Y,a⟩:=kB (l.alloc (Xk #[eS,I6 a3] 37));have d:=gA a
 have V:=xA a
 rw[a];clear a;obtain⟨a,a⟩:∃m,Xo (l.heap.size=m):=⟨_,rfl⟩;rw[a.out]at V⊢;obtain⟨I,Z⟩:=kA (zw [r,t,z,K,M]);have a:=zcR (O (Xa ⟨Y.heap.size,0,Xb⟩) 5 5) [r,t,z,K,M] _ (zbq zkL Y [r,t,z,K,M] #[I6 r,I6 t,I6 z,I6 K,I6 M] rfl (show 5*8<=140737488355328 by decide))
 rw[Z.out]at a;go_wp2_with fail;refine a.mono ?_;rintro e l ⟨rfl,r⟩;clear a;have a:Xo (zc Y l):=dD<|by rw[r];exact za _ _
 clear r;have z:=dD (((g.trans c).trans d).trans a);have K:=dD (a9.grew z);have g:I=0:=by rw[<-Z.out,<-W.out];exact zlu b
 subst g;have W:=(R.grew ((((((q.trans n).trans k).trans i).trans h).trans c).trans (d.trans a))).c 0 rfl;have Y:=(R.grew ((((((q.trans n).trans k).trans i).trans h).trans c).trans (d.trans a))).c 1 rfl;have Z:=(T.grew (((i.trans h).trans c).trans (d.trans a))).c 0 rfl;have I:=(T.grew (((i.trans h).trans c).trans (d.trans a))).c 1 rfl;have a0:=(U.grew ((c).trans (d.trans a))).c 0 rfl;have a1:=(U.grew ((c).trans (d.trans a))).c 1 rfl;have U:=(V.grew a).c 0 rfl;have a2:=(V.grew a).c 1 rfl;have t:=dD b;clear b;go_upto_region 9 with fail;obtain⟨r,b⟩:=kB (l.alloc (Xk #[Xh Xc,eS,eS,eS,eS,eS,eS,eS,eS,eS] 79));have g:=gA b
 have T:Xo (zl ZC r (O (Xa ⟨l.heap.size,0,Xb⟩) 1 1) [⟨Xc,zG,zG,zG,zG,zG,zG,zG,zG,zG⟩]):=dD<|by rw[<-b];exact qN ZC l ⟨Xc,zG,zG,zG,zG,zG,zG,zG,zG,zG⟩ _ _ rfl Dc
 have M:=dD (K.grew g);have K:=dD b;clear b;obtain⟨v,r⟩:∃m,Xo (l.heap.size=m):=⟨_,rfl⟩
 go_wp2_with (first | (rw[K.out];rw[r.out];refine zr rfl 41 (.tmp 2) (.tmp 63) rfl (w.heap.size+1) rfl [P.x,I6 0,S.x,A.x,Q.x,B.x,N.x,eS,I6 a3,eS,O (Xa ⟨v,0,Xb⟩) 1 1] rfl M rfl Kr (fun V R=>by
   simp only[mC,nM,or_false]at R
   rcases R with rfl|rfl|rfl|rfl|rfl|rfl|rfl|rfl|rfl|rfl|rfl <;> rfl) ?_))
 intro l M b _;clear W Y Z I a0 a1 U a2;have K:Xo (zc w l):=dD<|zd ((X.trans z).trans g) b Wm
 have m:w.heap.size+1<a8.heap.size:=a9.lt;have W:=bS y.out;have X:=bS p.out;have Y:=bS q.out;have Z:=bS n.out;have I:=bS k.out;have a0:=bS z.out;have m:∀{y:Nat} {V:Xq},a8.heap.size<=y->j4 y V->∀x z y,V= O (Xa x) z y->Xa x.block≠Xa (w.heap.size+1):=fun U U x z y R e=>by
  have:=U x z y R;simp only[Option.some.injEq]at e;omega
 have R:=((((((p.trans q).trans n).trans k).trans i).trans h).trans c).trans ((d.trans a).trans g);have p:=((((n.trans k).trans i).trans h).trans c).trans ((d.trans a).trans g);have n:=(((k.trans i).trans h).trans c).trans ((d.trans a).trans g);have k:=(h.trans c).trans ((d.trans a).trans g);have d:Xo (zy l ⟨P,S,A,Q,B,N,zG,zG,⟨Xa ⟨v,0,Xb⟩,1,1⟩⟩ (zb5 u cs j)):=dD<|by
  obtain⟨a,c,g⟩:=t.out;refine⟨?_,?_,?_,?_,?_,?_,?_,zl.nil jG l,?_⟩
  ·have h:=(aa.grew R).beside b (m (nR _) C);unfold znp at h;rw[kE a]at h;exact h
  ·have h:=(ab.grew p).beside b (m Wm D)
   unfold zno at h;rw[kE c]at h;exact h
  ·have h:jk l (A.x) (zkJ cs):=⟨(a4.grew n).1.beside b (m Wm E),a4.2⟩
   unfold zkJ at h;rw[kE Wm]at h
   exact h
  ·exact⟨(a5.grew n).1.beside b (m Wm F),a5.2⟩
  ·have h:jk l (B.x) (zkJ j):=⟨(a6.grew k).1.beside b (m Wm G),a6.2⟩
   unfold zkJ at h;rw[kE g]at h;exact h
  ·exact⟨(a7.grew k).1.beside b (m Wm H),a7.2⟩
  ·exact⟨nR _,[],fun w' _=>zl.nil fvE w',rfl,fun i x f a=>by simp at a⟩
  have c:=T.out;rw[r.out]at c;refine⟨_,c.beside b (fun x z y a e=>?_),rfl,fun i x s a c=>?_⟩
  ·cases a;simp only[Option.some.injEq]at e;have:=r.out;omega
  cases i with
  | zero=>
   cases a;cases c;exact⟨rfl,zl.nil arE l,nR _,Qw.nil 0 0 l⟩
  | succ i=>simp at a
 have a:Xo (zp9 w.heap.size ⟨P,S,A,Q,B,N,zG,zG,⟨Xa ⟨v,0,Xb⟩,1,1⟩⟩):=dD<|by
  refine⟨⟨C.less Wm,D.less Wm,E.less Wm,F.less Wm⟩,G.less Wm,H.less Wm,Zj _,Zj _,fun x z y e=>?_⟩
  cases e;have:=r.out
  show w.heap.size<=v
  omega
 have b:a3=j:=by rw[<-L.out,kE t.2.2]
 subst b;clear R p n k m W X Y Z I a0;go_wp2;refine bodyPost_ret (qL rfl _ rfl M underlying41 rfl Kr) rfl ⟨⟨⟨P,S,A,Q,B,N,zG,zG,⟨Xa ⟨v,0,Xb⟩,1,1⟩⟩,rfl,d,a,v,rfl⟩,K⟩
end
section
theorem zbK {k:Nat} {fr:Fr} (e:k<m.fs.length) (b:zbf m Xb m.ca=0) (f:zH m.ca k≠0->fr.p=(zU m k).p) (file a:Int):qn { m with fs:=m.fs.set k fr } file a=qn m file a:=by
 obtain⟨d,_,_⟩:=zu.1 b;refine zgQ (m:=m) (m':={ m with fs:=m.fs.set k fr }) rfl rfl rfl rfl (fun c b=>?_) file a
 rw[js e c.fr (j8 (d c b)).1.2.2.2.2.1]
 by_cases e:c.fr=(k:Int)
 ·rw[kE e,e];exact f (by have:=zac b;rw[e]at this;exact this)
 rw[kF e]
theorem zlb {k:Nat} {fr:Fr} {x:On} {e:En} (c:k<m.fs.length) (a:zbf m Xb m.ca=0) (f:zH m.ca k≠0->fr.p=(zU m k).p) (d:e.kind=1->0<=e.n) (g:e.kind=1->e.n=(k:Int)->fr.p=(zU m k).p/\(fr.f<0↔(zU m k).f<0)):zkI { m with fs:=m.fs.set k fr } x e=zkI m x e:=by
 refine zeQ rfl rfl (fun b=>?_) (fun _=>rfl) (fun _=>rfl) (zbK c a f)
 rw[js c e.n (d b)]
 by_cases a:e.n=(k:Int)
 ·rw[kE a,a];exact g b a
 rw[kF a];exact⟨rfl,Iff.rfl⟩
structure Rt (m:Ma):Prop where
 w:maW m=0
 t8:∀s∈m.sp,s.tb.length=8
theorem Rt.inv (h:Rt m):qK m (Qg m):=(zaS h.w).1
theorem Rt.hand (h:Rt m):0<=m.hand/\m.hand<max (m.fs.length:Int) 1:=(zaS h.w).2
theorem Rt.tb (h:Rt m) {s:Sp} (c:s∈m.sp):zb0 s.tb:=by
 refine⟨h.t8 s c,Zd.1 ?_⟩;have a:=h.w;unfold maW at a;rw[zi]at a;have b:Jq m=0:=a _ Sm
 unfold Jq at b;rw[zi]at b;have a:=zi.1 (b (zw (m.sp.map spE)) Sm) (spE s) (Yz.2 ⟨s,c,rfl⟩)
 unfold spE at a
 split at a
 ·rename_i b
  exact absurd a b
 split at a
 ·rename_i b
  exact absurd a b
 rename_i b
 exact Classical.byContradiction b
theorem Rt.of (c:qK m (Qg m)) (ht:∀s∈m.sp,zb0 s.tb) (a:0<=m.hand) (b:m.hand<max (m.fs.length:Int) 1):Rt m:=by
 refine⟨?_,fun s d=>(ht s d).1⟩
 have:=c.right a b;rw[ziX ht]at this;exact this
theorem zbb {p:Nat} {s:Sp} (h:m.sp[p]? =Xa s):(Qg m)[p]? =Xa (zm s):=by
 unfold Qg;rw[Xz,h];rfl
theorem qK.tabs (h:qK m T) {sp':List Sp} (e:sp'.length=m.sp.length) (f:∀(p:Nat) s a,m.sp[p]? =Xa s->sp'[p]? =Xa a->a.live=s.live/\a.ars=s.ars):qK { m with sp:=sp' } T:=by
 have b:∀(p:Nat) a,sp'[p]? =Xa a->∃s,m.sp[p]? =Xa s/\a.live=s.live/\a.ars=s.ars:=fun p a c=>by
  have d:p<m.sp.length:=by rw[<-e];exact(gS.1 c).1
  exact⟨_,gE d,f p _ a (gE d) c⟩
 refine⟨h.fs40,h.fok,h.sl60,h.sbl,h.sq,h.dok,h.st,h.cnt,h.blk,h.que,by show sp'.length<=4;rw[e];exact h.spl,fun a c=>?_,h.tl.trans e.symm,?_,fun p a k c l r q=>?_,h.cf,h.cs⟩
 ·obtain⟨p,d⟩:=Ya c;obtain⟨s,e,g,f⟩:=b p a d;rw[g,f];exact h.spok s (mG e)
 ·obtain⟨i,d,j⟩:=zu.1 h.ca;exact zu.2 ⟨fun d n=>i d n,fun i d d=>(by cases d),j⟩
 obtain⟨s,e,g,f⟩:=b p a c;rw[f];exact h.ent p s k e l r q
def zeS (m:Ma) (p n:Nat) (e:En):Ma:={ m with sp:=m.sp.modify p fun s=>{ s with tb:=zkH s.tb n e } }
theorem ziE {p n:Nat} {e:En} {q:Nat}:(zeS m p n e).sp[q]? =(m.sp[q]?).map fun s=>if p=q then{ s with tb:=zkH s.tb n e }else s:=by
 unfold zeS;simp only[Od]
 by_cases h:p=q
 ·simp[h]
 simp[h]
theorem ziD {s:Sp} (ht:zb0 s.tb) {n:Nat} (b:n<64) {e:En} (a:enW e=0):zm { s with tb:=zkH s.tb n e }=jt (zm s) n e:=by
 funext j
 unfold zm jt;simp only;rw[znL ht b a _ _ (Nat.mod_lt _ Dc)]
 by_cases h:j=n
 ·rw[kE h,kE (by subst h;exact⟨rfl,rfl⟩)]
 rw[kF h,kF (fun k=>h Wm)]
theorem zhA {p n:Nat} {e:En}:(zeS m p n e).sp.length=m.sp.length:=by simp[zeS]
theorem zli {p n:Nat} {e:En} {q:Nat} {s b:Sp} (c:m.sp[q]? =Xa s) (a:(zeS m p n e).sp[q]? =Xa b):b.live=s.live/\b.ars=s.ars:=by
 rw[ziE,c]at a;simp only[Option.map_some,Option.some.injEq]at a;subst a
 split <;> exact⟨rfl,rfl⟩
theorem ziC (ht:∀s∈m.sp,zb0 s.tb) {p n:Nat} {e:En} (c:enW e=0):∀s∈(zeS m p n e).sp,zb0 s.tb:=fun s d=>by
 obtain⟨q,a⟩:=Ya d;rw[ziE]at a
 cases h:m.sp[q]? with
 | none=>rw[h]at a;cases a
 | some x=>
  rw[h]at a;simp only[Option.map_some,Option.some.injEq]at a;have b:=ht x (mG h);subst a
  split
  ·exact zoL b c
  exact b
structure Sam (S:Nat->Nat->Prop) (m m':Ma):Prop where
 spl:m'.sp.length=m.sp.length
 sp:∀(q:Nat) s s',m.sp[q]? =Xa s->m'.sp[q]? =Xa s'->s'.live=s.live/\s'.ars=s.ars
 see:∀(q n:Nat) s s',m.sp[q]? =Xa s->m'.sp[q]? =Xa s'->n<64->¬S q n->zkI m' (zB s.ars n) (zm s' n)=zkI m (zB s.ars n) (zm s n)
 fll:m'.fl.length=m.fl.length
 sz:∀f,Qb m' f=Qb m f
 bk:∀f,bkN m' f=bkN m f
 byt:∀(file k:Nat),(k:Int)<Qb m (file:Int)->(qn m' (file:Int) ((k / 8:Nat):Int)).getD (k % 8) 0=(qn m (file:Int) ((k / 8:Nat):Int)).getD (k % 8) 0
theorem Sam.refl (S:Nat->Nat->Prop) (m):Sam S m m:=⟨rfl,fun q s b h a=>by rw[h]at a;cases a;exact⟨rfl,rfl⟩,fun q n s b h a _ _=>by rw[h]at a;cases a;rfl,rfl,fun _=>rfl,fun _=>rfl,fun _ _ _=>rfl⟩
theorem Sam.trans {S d:Nat->Nat->Prop} {a b c:Ma} (h:Sam S a b) (k:Sam d b c):Sam (fun q n=>S q n\/d q n) a c:=by
 have i:∀(q:Nat) s,a.sp[q]? =Xa s->∃t,b.sp[q]? =Xa t:=fun q s e=>⟨_,gE (by rw[h.spl];exact(gS.1 e).1)⟩
 refine⟨k.spl.trans h.spl,fun q s l e f=>?_,fun q n s l e f p m=>?_,k.fll.trans h.fll,fun d=>(k.sz d).trans (h.sz d),fun d=>(k.bk d).trans (h.bk d),fun d j g=>(k.byt d j (by rw[h.sz];exact g)).trans (h.byt d j g)⟩
 ·obtain⟨t,d⟩:=i q s e;have j:=h.sp q s t e d;have g:=k.sp q t l d f;exact⟨g.1.trans j.1,g.2.trans j.2⟩
 obtain⟨t,d⟩:=i q s e;have j:=h.sp q s t e d;have g:=k.see q n t l d f p (fun f=>m (.inr f))
 rw[j.2]at g;exact g.trans (h.see q n s t e d p (fun f=>m (.inl f)))
theorem Sam.mono {S c:Nat->Nat->Prop} {a b:Ma} (h:Sam S a b) (hS:∀q n,S q n->c q n):Sam c a b:=⟨h.spl,h.sp,fun q n s g f d e c=>h.see q n s g f d e (fun e=>c (hS q n e)),h.fll,h.sz,h.bk,h.byt⟩
section
variable{m:Ma} {p n:Nat} {s:Sp}
theorem Rt.ent (h:Rt m) (a:m.sp[p]? =Xa s) (b:n<64):zm s n=en0\/zbQ m (zB s.ars n) (zm s n):=h.inv.ent p s _ a (zbb a) n b
theorem Rt.present (h:Rt m) (c:m.sp[p]? =Xa s) (b:n<64) (a:(zm s n).kind=1):∃(k:Nat) (fr:Fr),(zm s n).n=(k:Int)/\m.fs[k]? =Xa fr/\zU m (zm s n).n=fr/\fr.r≠0:=by
 rcases h.ent c b with e|e
 ·rw[e]at a;cases a
 obtain⟨d,d,d,_⟩:=z8 e Wm
 refine⟨(zm s n).n.toNat,m.fs[(zm s n).n.toNat]' Wm,Wm,gE _,?_,fun d=>?_⟩
 ·have:=qp (m:=m) (k:=(zm s n).n.toNat) (gE Wm)
  rw[show(((zm s n).n.toNat:Nat):Int)=(zm s n).n by omega]at this
  exact this
 have e:=(h.inv.free (gE (show(zm s n).n.toNat<m.fs.length by omega)) d).1
 have d:=zff (zbb c) b a;rw[show(((zm s n).n.toNat:Nat):Int)=(zm s n).n by omega]at e
 omega
end
section
variable{m:Ma} {k p n:Nat} {fr:Fr} {s:Sp}
theorem Rt.kind0 (h:Rt m) (c:m.sp[p]? =Xa s) (b:n<64) (a:(zm s n).kind=1):0<=(zm s n).n:=by
 obtain⟨k,_,e,_⟩:=h.present c b a;omega
theorem zoO {b:Ma} {e:En} (ht:∀s∈b.sp,zb0 s.tb) (d:b.sp[p]? =Xa s) (g:n<64) (f:enW e=0) {c:Sp} (a:(zeS b p n e).sp[p]? =Xa c):zm c n=e/\c.ars=s.ars:=by
 rw[ziE,d]at a;simp only[Option.map_some,Option.some.injEq,if_true]at a;subst a;rw[ziD (ht s (mG d)) g f];exact⟨by unfold jt;rw[kE rfl],rfl⟩
end
theorem zlh {c:Ma} {e:En} {p n q:Nat} {s f:Sp} (ht:∀s∈c.sp,zb0 s.tb) (i:n<64) (g:enW e=0) (d:c.sp[q]? =Xa s) (a:(zeS c p n e).sp[q]? =Xa f) (b:¬(q=p/\j=n)):zm f j=zm s j:=by
 rw[ziE,d]at a;simp only[Option.map_some,Option.some.injEq]at a;subst a
 split
 ·rename_i h
  subst h;rw[ziD (ht s (mG d)) i g];unfold jt;rw[kF (fun h=>b ⟨rfl,h⟩)]
 rfl
section
variable{m:Ma} {k p n:Nat} {fr:Fr} {s:Sp}
theorem ziJ (h:Rt m) (c:m.fs[k]? =Xa fr) (f:fr.r≠0) (u d:Bool):Rt { m with fs:=m.fs.set k { fr with u:=u,d:=d } }/\Sam (fun _ _=>False) m { m with fs:=m.fs.set k { fr with u:=u,d:=d } }:=by
 have e:=(gS.1 c).1;have i:∀a b,qn { m with fs:=m.fs.set k { fr with u:=u,d:=d } } a b=qn m a b:=fun a b=>zbK e h.inv.ca (fun _=>by rw[qp c]) a b
 refine⟨Rt.of (h.inv.marks (p:=fr.p) (u:=u) (d:=d) c f) (fun s b=>h.tb b) h.hand.1 (Si h.hand.2),rfl,fun q s g b f=>?_,fun q j s g b f j _=>?_,rfl,fun _=>rfl,fun _=>rfl,fun a a _=>by rw[i]⟩
 ·have:m.sp[q]? =Xa g:=f;rw[b]at this;cases this;exact⟨rfl,rfl⟩
 have:m.sp[q]? =Xa g:=f;rw[b]at this;cases this;refine zlb e h.inv.ca (fun _=>by rw[qp c]) (h.kind0 b j) (fun _ _=>by rw[qp c];exact⟨rfl,Iff.rfl⟩)
end
def QG (k:Int) (e:En) (f:Nat->En):Nat->En:=fun j=>if isE (f j) 1 k=Xc then e else f j
theorem zi4 (k:Int) (e) (f:Nat->En) (kind j:Int):∀n:Nat,jL (QG k e f) kind j n+(if kind=1/\j=k then jL f 1 k n else 0)=jL f kind j n+(if isE e kind j=Xc then jL f 1 k n else 0)
 | 0=>by simp[jL]
 | n+1=>by
  have b:=zi4 k e f kind j n;unfold jL;have a:QG k e f n=if isE (f n) 1 k=Xc then e else f n:=rfl;rw[a]
  cases d:isE (f n) 1 k with
  | true=>
   simp only[if_true];have g:isE (f n) kind j=Xc↔kind=1/\j=k:=by
    simp only[isE,Xv,decide_eq_true_eq]at d⊢;omega
   by_cases a:kind=1/\j=k
   ·rw[kE a]at b⊢;rw[g.2 a]
    cases c:isE e kind j <;> simp[c]at b⊢<;> omega
   rw[kF a]at b⊢;have:isE (f n) kind j=Xd:=by
    cases h:isE (f n) kind j with
    | false=>rfl
    | true=>exact absurd (g.1 h) a
   rw[this]
   cases c:isE e kind j <;> simp[c]at b⊢<;> omega
  | false=>
   simp only[if_false,Bool.false_eq_true]
   by_cases a:kind=1/\j=k
   ·rw[kE a]at b⊢;rw[a.1,a.2,d];rw[a.1,a.2]at b
    simp at b⊢
    omega
   rw[kF a]at b⊢
   simp at b⊢
   omega
theorem zc4 (k:Int) (e) (kind j:Int):∀T:List (Nat->En),qP (T.map (QG k e)) kind j+(if kind=1/\j=k then qP T 1 k else 0)=qP T kind j+(if isE e kind j=Xc then qP T 1 k else 0)
 | []=>by simp[qP]
 | f :: T=>by
  have a:=zc4 k e kind j T;have b:=zi4 k e f kind j 64;simp only[qP,mP,List.sum_cons]at a⊢
  by_cases d:kind=1/\j=k
  ·rw[kE d]at a b⊢
   by_cases c:isE e kind j=Xc
   ·rw[kE c]at a b⊢;omega
   rw[kF c]at a b⊢;omega
  rw[kF d]at a b⊢
  by_cases c:isE e kind j=Xc
  ·rw[kE c]at a b⊢;omega
  rw[kF c]at a b⊢;omega
section
variable{m:Ma} {T:List (Nat->En)}
theorem qK.moved (h:qK m T) {k:Nat} {fr:Fr} (F:m.fs[k]? =Xa fr) (e:En) (C:e.kind≠1) {sl':List Int} {sb':List (List Int)} {sq':List (Int × List Int)} (p:sl'.length=m.sl.length) (u:sb'.length=m.sb.length) (w:zF sb'.length sq'=0)
  (A:∀(j:Nat) z,sl'[j]? =Xa z->z=(qP T 2 j+(if isE e 2 (j:Int)=Xc then qP T 1 k else 0):Nat)) (B:e=en0\/(enW e=0/\e.kind=2/\e.n<m.sl.length/\fr.f=-1)):
  qK { m with fs:=m.fs.set k frF,ca:=m.ca.filter fun d=>!decide (d.fr=(k:Int)),sl:=sl',sb:=sb',sq:=sq' } (T.map (QG (k:Int) e)):=by
 have s:=(gS.1 F).1;have l:∀j:Int,j≠(k:Int)->zH (m.ca.filter fun d=>!decide (d.fr=(k:Int))) j=zH m.ca j:=fun j c=>by
  unfold zH;rw[List.countP_filter]
  congr 1
  funext d
  by_cases e:d.fr=j
  ·have:d.fr≠(k:Int):=Wm
   simp[e,c]
  simp[e]
 have q:zH (m.ca.filter fun d=>!decide (d.fr=(k:Int))) (k:Int)=0:=by
  unfold zH;rw[Og];intro d t;rw[Yh]at t
  simpa using t.2
 obtain⟨f,a⟩:∃f:Ma,{ m with fs:=m.fs.set k frF,ca:=m.ca.filter fun d=>!decide (d.fr=(k:Int)),sl:=sl',sb:=sb',sq:=sq' }=f:=⟨_,rfl⟩
 have r:∀z:Int,0<=z->z≠(k:Int)->zU f z=zU m z:=fun z b g=>by
  rw[<-a];rw[show zU { m with fs:=m.fs.set k frF,ca:=m.ca.filter fun d=>!decide (d.fr=(k:Int)),sl:=sl',sb:=sb',sq:=sq' } z=zU { m with fs:=m.fs.set k frF } z from rfl,js s _ b,kF g]
 have i:f.sl.length=m.sl.length:=Ry a p
 have n:f.fs.length=m.fs.length:=by rw[<-a];simp
 rw[a];refine⟨Rx n h.fs40,fun v b=>?_,Rx i h.sl60,by rw[<-a];show sb'.length=sl'.length;rw[u,p];exact h.sbl,Ry a w,Ry a h.dok,Ry a h.st,Ry a h.cnt,Ry a h.blk,Ry a h.que,Ry a h.spl,Ry a h.spok,by rw[<-a];simpa using h.tl,?_,fun u D v G b j c=>?_,fun j v c=>?_,fun j z c=>?_⟩
 ·rw[<-a]at b
  rcases List.mem_or_eq_of_mem_set b with b|rfl
  ·exact h.fok v b
  exact⟨Dc,Dc,.inl rfl,fun _=>rfl,fun _=>rfl⟩
 ·obtain⟨y,E,w⟩:=zu.1 h.ca;have p:f.ca=m.ca.filter fun d=>!decide (d.fr=(k:Int)):=by rw[<-a]
  rw[p];refine zu.2 ⟨fun d t=>?_,fun u d f=>(by cases f),w.filter _⟩
  have f:=Yh.1 t;have g:d.fr≠(k:Int):=Si f.2
  obtain⟨p,t,w,x⟩:=j8 (y d f.1);have f:=r d.fr p.2.2.2.2.1 g;refine zbg ?_ (Rx f t) (Rx f w) (Rx f x)
  rw[<-a]
  simpa [bkN]using p
 ·rw[Xz]at b
  cases x:T[u]? with
  | none=>rw[x]at b;cases b
  | some w=>
   rw[x]at b;simp only[Option.map_some,Option.some.injEq]at b;subst b;have t:m.sp[u]? =Xa D:=by rw[<-a]at G;exact G
   unfold QG
   by_cases b:isE (w j) 1 (k:Int)=Xc
   ·rw[kE b]
    rcases B with B|⟨f,G,p,p⟩
    ·exact .inl B
    right;refine⟨f,Wm,?_⟩
    simp only[isE,Xv,decide_eq_true_eq]at b
    rcases h.ent u D w t x j c with f|f
    ·rw[f]at b;have:=b.1
     simp[en0]at this
    have p:=f.2.2;unfold Jm at p⊢
    split at p
    ·cases p
    rename_i y
    rw[kF y,kE G,kF];rw[kF Wm,kF (Hm ((z8 f Wm).2.2.1))]at p
    rw[b.2,qp F]at p
    split at p
    ·cases p
    rename_i E
    rintro(p|p)
    ·rw[i]at p;omega
    exact E (.inr (.inl ⟨p,fun p=>Wm⟩))
   rw[kF b]
   rcases h.ent u D w t x j c with f|f
   ·exact .inl f
   refine .inr ⟨f.1,f.2.1,j5 f.2.2 i n fun i=>?_⟩
   obtain⟨n,p,t,t⟩:=z8 f i;have g:(w j).n≠(k:Int):=fun f=>b (by simp[isE,n,f])
   rw[r _ p g];exact⟨rfl,rfl,t⟩
 ·rw[<-a]at c⊢;simp only at c⊢;have b:=zc4 (k:Int) e 1 (j:Int) T;rw[kF (show¬isE e 1 (j:Int)=Xc by simp[isE,C])]at b
  by_cases f:j=k
  ·subst f;rw[sF s]at c;cases c;rw[kE ⟨rfl,rfl⟩]at b;rw[q];exact⟨by simp[frF];omega,fun h=>by simp[frF]at h⟩
  rw[sN (fun h=>f h.symm)]at c
  rw[kF Wm]at b
  rw[l j Wm]
  have:=h.cf j v c;refine⟨?_,this.2⟩;omega
 have b:=zc4 (k:Int) e 2 (j:Int) T;rw[kF Wm]at b
 have:sl'[j]? =Xa z:=by rw[<-a]at c;exact c
 rw[A j z this];omega
theorem zhV {m:Ma} {k:Nat} (h:zH m.ca (k:Int)=0):(m.ca.filter fun d=>!decide (d.fr=(k:Int)))=m.ca:=by
 rw[Oh];intro d a;unfold zH at h;rw[Og]at h;have:=h d a
 simpa using this
theorem qK.mine0 (h:qK m T) {k:Nat} {fr:Fr} (e:m.fs[k]? =Xa fr) (a:fr.f=-1):zH m.ca (k:Int)=0:=by
 refine Classical.byContradiction fun c=>?_
 obtain⟨d,a,b⟩:=zbL c;obtain⟨c,c,c,f⟩:=j8 ((zu.1 h.ca).1 d a);rw[b,qp e]at c;omega
end
def j7 (k:Int) (e:En) (s:Sp):Sp:={ s with tb:=jU (QG k e (zm s)) }
theorem zaX (h:Rt m) {s:Sp} (a:s∈m.sp) {k:Int} {e:En} (b:enW e=0):zm (j7 k e s)=QG k e (zm s):=by
 have c:∀n,enW (QG k e (zm s) n)=0:=fun n=>by
  unfold QG
  split
  ·exact b
  exact(h.tb a).get _ _
 funext j
 by_cases b:j<64
 ·unfold j7;unfold zm;exact zeN (fun n _=>c n) b
 have b:zm s j=en0:=by
  unfold zm zaC;rw[gN (l:=s.tb) (by rw[(h.tb a).1];omega)]
  rfl
 have a:zm (j7 k e s) j=en0:=by
  unfold zm zaC j7;simp only;rw[gN (l:=jU (QG k e (zm s))) (by simp[jU,jT];omega)]
  rfl
 rw[a];unfold QG;rw[b,jr 1 k Dc]
 rfl
section
variable{m:Ma}
theorem zgh (h:Rt m) {k:Int} {e:En} (b:enW e=0):∀s∈m.sp.map (j7 k e),zb0 s.tb:=fun s c=>by
 obtain⟨d,a,rfl⟩:=Yz.1 c;have c:∀n,n<64->enW (QG k e (zm d) n)=0:=fun n _=>by
  unfold QG
  split
  ·exact b
  exact(h.tb a).get _ _
 exact⟨by simp[j7,jU,jT],Zd.1 (zix c)⟩
theorem zay {k:Int} {e:En} {q:Nat} {a:Sp} (h:(m.sp.map (j7 k e))[q]? =Xa a):∃s,m.sp[q]? =Xa s/\a=j7 k e s:=by
 rw[Xz]at h
 cases a:m.sp[q]? with
 | none=>rw[a]at h;cases h
 | some s=>rw[a]at h;simp only[Option.map_some,Option.some.injEq]at h;exact⟨s,rfl,h.symm⟩
theorem zej (h:Rt m) {k:Int} {e:En} (b:enW e=0) (sp':List Sp) (a:sp'=m.sp.map (j7 k e)):sp'.map zm=(Qg m).map (QG k e):=by
 rw[a];unfold Qg;rw[List.map_map,List.map_map]
 apply Oi
 intro s a;exact zaX h a b
theorem zem {α:Type} {p q:α->Bool}:∀{l:List α},(∀x∈l,p x=q x)->l.find? p=l.find? q
 | [],_=>rfl
 | x :: l,h=>by
  rw[List.find?_cons,List.find?_cons,h x Sm,zem (l:=l) fun y a=>h y (by simp[a])]
theorem zfj {m:Ma} {k:Nat} {fr:Fr} (_hk:k<m.fs.length) (a:m'.fs=m.fs.set k fr) (c:0<=z) (b:z≠(k:Int)):zU m' z=zU m z:=by
 unfold zU;rw[a,gD,gD,sN Wm]
def Zx (m:Ma) (k j:Nat) (r:Int) (sb':List (List Int)) (sq':List (Int × List Int)):Ma:={ m with fs:=m.fs.set k frF,sl:=m.sl.set j r,sb:=sb',sq:=sq',sp:=m.sp.map (j7 (k:Int) ⟨2,(j:Int),Xd⟩) }
theorem zoJ (h:Rt m) {k:Nat} {fr:Fr} {sb':List (List Int)} {sq':List (Int × List Int)} (q:m.fs[k]? =Xa fr) (u:fr.f=-1) (_hr:fr.r≠0) (v:m.sl[j]? =Xa 0) (a:sb'.length=m.sb.length) (c:zF sb'.length sq'=0) (w:qv sb' sq' (j:Int)=pgL fr.p) (x:∀i:Int,0<=i->i≠(j:Int)->qv sb' sq' i=qv m.sb m.sq i):
  Rt (Zx m k j fr.r sb' sq')/\Sam (fun _ _=>False) m (Zx m k j fr.r sb' sq'):=by
 have r:=(gS.1 q).1;have b:=(gS.1 v).1;have d:=h.inv.sl60;have t:enW ⟨2,(j:Int),Xd⟩=0:=Zy Sm ⟨Sm,by simp only;omega,fun h=>by simp at h⟩ Sm
 have n:=h.inv.mine0 q u;have d:=h.inv.moved q ⟨2,(j:Int),Xd⟩ Sm (sl':=m.sl.set j fr.r) (sb':=sb') (sq':=sq') Sm a c (fun i z a=>by
  have c:=(h.inv.cf k fr q).1
  by_cases e:i=j
  ·subst e;rw[sF b]at a;cases a;have:=h.inv.cs i 0 v;rw[kE (by simp[isE])]
   omega
  rw[sN (fun h=>e h.symm)]at a
  have:=h.inv.cs i z a;rw[kF (by simp[isE];omega)]
  omega) (.inr ⟨t,rfl,by simp only;omega,u⟩)
 rw[zhV n]at d;have b:(Zx m k j fr.r sb' sq').sp=m.sp.map (j7 (k:Int) ⟨2,(j:Int),Xd⟩):=rfl;have a:=zej h (k:=(k:Int)) t _ b;have c:qK (Zx m k j fr.r sb' sq') (Qg (Zx m k j fr.r sb' sq')):=by
  unfold Qg;rw[a];refine qK.tabs d (sp':=(Zx m k j fr.r sb' sq').sp) (by rw[b];simp) fun p s A f g=>?_
  rw[b]at g;obtain⟨B,l,rfl⟩:=zay g;have a:m.sp[p]? =Xa s:=f;rw[a]at l;cases l;exact⟨rfl,rfl⟩
 refine⟨Rt.of c (by rw[b];exact zgh h t) h.hand.1 (by show m.hand<max ((m.fs.set k frF).length:Int) 1;simpa using h.hand.2),?_⟩
 have a:(Zx m k j fr.r sb' sq').ca=m.ca:=rfl;have c:∀a d,qn (Zx m k j fr.r sb' sq') a d=qn m a d:=fun a d=>by
  refine zgQ (m:=m) (m':=Zx m k j fr.r sb' sq') rfl rfl rfl rfl (fun y z=>?_) a d
  have d:y.fr≠(k:Int):=fun e=>by have:=zac z;rw[e]at this;exact this n
  rw[zfj r (m':=Zx m k j fr.r sb' sq') rfl (j8 ((zu.1 h.inv.ca).1 y z)).1.2.2.2.2.1 d]
 refine⟨by rw[b];simp,fun n s A f g=>?_,fun n n s A f g y _=>?_,rfl,fun _=>rfl,fun _=>rfl,fun a i _=>by rw[c]⟩
 ·rw[b]at g;obtain⟨B,l,rfl⟩:=zay g;rw[f]at l;cases l;exact⟨rfl,rfl⟩
 rw[b]at g;obtain⟨B,l,rfl⟩:=zay g;rw[f]at l;cases l;rw[zaX h (mG f) t];unfold QG
 by_cases a:isE (zm s n) 1 (k:Int)=Xc
 ·rw[kE a];simp only[isE,Xv,decide_eq_true_eq]at a;unfold zkI
  by_cases b:(zB s.ars n).is=Xd
  ·rw[kE b,kE b]
  rw[kF b,kF b,kF Sm,kE rfl,kE a.1,a.2,qp q]
  show(qv sb' sq' (j:Int),Xc,(0:Int))=_
  rw[w,u];rfl
 rw[kF a];have g:=h.inv.en (zbb f) y;have b:=(Qr g).2.1.1;refine zeQ rfl rfl (fun g=>?_) (fun l=>?_) (fun _=>rfl) c
 ·have d:(zm s n).n≠(k:Int):=fun e=>a (by simp[isE,g,e])
  rw[zfj r (m':=Zx m k j fr.r sb' sq') rfl b d];exact⟨rfl,Iff.rfl⟩
 refine x _ b fun e=>?_
 have a:=h.inv.cs j 0 v;have a:=zck (zbb f) y (kind:=2) (k:=(j:Int)) (by simp[isE,l,e]) Dc
 omega
def qm (m:Ma) (k:Nat):Ma:={ m with fs:=m.fs.set k frF,ca:=m.ca.filter fun d=>!decide (d.fr=(k:Int)),sp:=m.sp.map (j7 (k:Int) en0) }
theorem zpY {p:List Int} {b a:Int} {i:Nat} (h:8*b+(i:Int)<a):(jV p b a).getD i 0=p.getD i 0:=by
 unfold jV;rw[gD,gD,Oe]
 cases p[i]? with
 | none=>rfl
 | some z=>simp only[Option.map_some,Option.getD_some];rw[kF Wm]
theorem zpc (h:Rt m) {k:Nat} {fr:Fr} (S:Nat->Nat->Prop) (j:m.fs[k]? =Xa fr) (b:0<=fr.f) (_hr:fr.r≠0) (l:Qh m fr.f fr.x=jV (pgL fr.p) fr.x (Qb m fr.f))
  (hS:jV (pgL fr.p) fr.x (Qb m fr.f)=pgL fr.p\/∀(q n:Nat) s,m.sp[q]? =Xa s->n<64->(zB s.ars n).is=Xc->(zB s.ars n).file=fr.f->(zB s.ars n).page=fr.x->(zm s n).kind=0\/isE (zm s n) 1 (k:Int)=Xc->S q n):
  Rt (qm m k)/\Sam S m (qm m k):=by
 have C:=(gS.1 j).1;have a:=h.inv.cf k fr j;obtain⟨c,w,d⟩:=zbL (a.2 b);obtain⟨L,a,D,E⟩:=j8 ((zu.1 h.inv.ca).1 c w);rw[d,qp j]at a D E;have c:=h.inv.moved j en0 Dc (sl':=m.sl) (sb':=m.sb) (sq':=m.sq) rfl rfl h.inv.sq (fun y z G=>by
  have:=h.inv.cs y z G;rw[kF (by simp[jr])]
  omega) (.inl rfl)
 have b:(qm m k).sp=m.sp.map (j7 (k:Int) en0):=rfl;have a:=zej h (k:=(k:Int)) zfl _ b;have e:qK (qm m k) (Qg (qm m k)):=by
  unfold Qg;rw[a];refine qK.tabs c (sp':=(qm m k).sp) (by rw[b];simp) fun p s H c i=>?_
  rw[b]at i;obtain⟨K,t,rfl⟩:=zay i;have a:m.sp[p]? =Xa s:=c;rw[a]at t;cases t;exact⟨rfl,rfl⟩
 refine⟨Rt.of e (by rw[b];exact zgh h zfl) h.hand.1 (by show m.hand<max ((m.fs.set k frF).length:Int) 1;simpa using h.hand.2),?_⟩
 have f:∀file a,(qm m k).ca.find? (Jw file a)=if file=fr.f/\a=fr.x then Xb else m.ca.find? (Jw file a):=fun file a=>by
  show(m.ca.filter fun r=>!decide (r.fr=(k:Int))).find? (Jw file a)=_
  by_cases e:file=fr.f/\a=fr.x
  ·rw[kE e];rw[Yq];intro r l g;have u:=Yh.1 l;simp only[Jw,Xv,decide_eq_true_eq]at g;have c:=zaD h.inv.ca u.1;have i:=zaD h.inv.ca w;rw[g.1,g.2,e.1,e.2,D,E,i]at c;cases c;have:=u.2
   simp[d]at this
  rw[kF e];rw[List.find?_filter]
  apply zem
  intro r l
  cases g:Jw file a r with
  | false=>simp
  | true=>
   simp only[Jw,Xv,decide_eq_true_eq]at g;have:r.fr≠(k:Int):=fun B=>by
    obtain⟨x,F,z,A⟩:=j8 ((zu.1 h.inv.ca).1 r l);rw[B,qp j]at z A;exact e ⟨by rw[<-g.1,z],by rw[<-g.2,A]⟩
   simp[this]
 have v:qn m fr.f fr.x=pgL fr.p:=by
  unfold qn;have:=zaD h.inv.ca w;rw[<-D,<-E]at this;rw[this];simp only;rw[d,qp j]
 have u:qn (qm m k) fr.f fr.x=jV (pgL fr.p) fr.x (Qb m fr.f):=by
  unfold qn;rw[f,kE ⟨rfl,rfl⟩];exact l
 have w:∀file a,¬(file=fr.f/\a=fr.x)->qn (qm m k) file a=qn m file a:=fun file a l=>by
  unfold qn;rw[f,kF l]
  cases d:m.ca.find? (Jw file a)with
  | none=>rfl
  | some r=>
   simp only;have a:=List.mem_of_find?_eq_some d;obtain⟨x,F,z,A⟩:=j8 ((zu.1 h.inv.ca).1 r a);have g:=List.find?_some d;simp only[Jw,Xv,decide_eq_true_eq]at g;rw[zfj C (m':=qm m k) rfl x.2.2.2.2.1 (fun B=>?_)]
   rw[B,qp j]at z A;exact l ⟨by rw[<-g.1,z],by rw[<-g.2,A]⟩
 refine⟨by rw[b];simp,fun q s H c i=>?_,fun q n s H c i r a=>?_,rfl,fun _=>rfl,fun _=>rfl,fun file y G=>?_⟩
 ·rw[b]at i;obtain⟨K,t,rfl⟩:=zay i;rw[c]at t;cases t;exact⟨rfl,rfl⟩
 ·rw[b]at i;obtain⟨K,t,rfl⟩:=zay i;rw[c]at t;cases t;rw[zaX h (mG c) zfl];unfold QG;have b:fr.x<bkN m fr.f:=by rw[D,E];exact L.2.2.2.1
  have hcut:(zB s.ars n).is=Xc->(zB s.ars n).file=fr.f->(zB s.ars n).page=fr.x->(zm s n).kind=0\/isE (zm s n) 1 (k:Int)=Xc->qn (qm m k) fr.f fr.x=pgL fr.p:=fun b d f g=>by
   rw[u]
   rcases hS with e|e
   ·exact e
   exact absurd (e q n s c r b d f g) a
  by_cases d:isE (zm s n) 1 (k:Int)=Xc
  ·rw[kE d];have a:=d;simp only[isE,Xv,decide_eq_true_eq]at a;have b:zbQ m (zB s.ars n) (zm s n):=by
    rcases h.ent c r with e|e
    ·rw[e]at a;have:=a.1
     simp[en0]at this
    exact e
   have f:=b.2.2;unfold Jm at f
   split at f
   ·cases f
   rename_i x
   rw[kF Wm,kF (Hm ((z8 b Wm).2.2.1)),a.2,qp j]at f
   split at f
   ·cases f
   rename_i F
   have b:0<=(zB s.ars n).file/\fr.f=(zB s.ars n).file/\fr.x=(zB s.ars n).page:=Classical.byContradiction fun B=>F (.inl ⟨Wm,B⟩)
   have f:(zB s.ars n).is=Xc:=by
    cases g:(zB s.ars n).is with
    | true=>rfl
    | false=>exact absurd g x
   unfold zkI;rw[kF x,kF x,kF Dc,kF Dc,kF Wm,kE a.1,a.2,qp j,kF (by rw[<-b.2.1,<-b.2.2];show¬bkN m fr.f<=fr.x;omega),<-b.2.1,<-b.2.2,hcut f b.2.1.symm b.2.2.symm (.inr d)]
   have:decide (fr.f<0)=Xd:=by simp;omega
   rw[this]
  rw[kF d];have a:=h.inv.en (zbb c) r;have c:=(Qr a).2.1.1;unfold zkI
  by_cases g:(zB s.ars n).is=Xd
  ·rw[kE g,kE g]
  rw[kF g,kF g]
  by_cases b:(zm s n).kind=1
  ·rw[kE b,kE b];have l:(zm s n).n≠(k:Int):=fun e=>d (by simp[isE,b,e])
   rw[zfj C (m':=qm m k) rfl c l]
  rw[kF b,kF b]
  by_cases b:(zm s n).kind=2
  ·rw[kE b,kE b];rfl
  rw[kF b,kF b];have b:bkN (qm m k)=bkN m:=rfl;rw[b]
  by_cases b:(zB s.ars n).file<0
  ·rw[kE b,kE b]
  rw[kF b,kF b]
  by_cases b:bkN m (zB s.ars n).file<=(zB s.ars n).page
  ·rw[kE b,kE b]
  rw[kF b,kF b]
  by_cases b:(zB s.ars n).file=fr.f/\(zB s.ars n).page=fr.x
  ·have f:(zB s.ars n).is=Xc:=by
    cases c:(zB s.ars n).is with
    | true=>rfl
    | false=>exact absurd c g
   have c:(zm s n).kind=0:=Hm ((Qr a).1)
   have:=hcut f b.1 b.2 (.inl c);rw[b.1,b.2,this,v]
  rw[w _ _ b]
 by_cases e:(file:Int)=fr.f/\((y / 8:Nat):Int)=fr.x
 ·rw[e.1,e.2,u,v];refine zpY ?_;rw[e.1]at G;rw[<-e.2];have:8*(y / 8)+y % 8=y:=Wm
  omega
 rw[w _ _ e]
end
theorem zlo:∀{l:List Ar} {p:Option Ar} {n:Nat},Qa p l->(zB l n).is=Xc->0<=(zB l n).page/\((zB l n).page<=11\/(zB l n).file<0)
 | [],_,_,_,h=>by cases h
 | a :: l,p,n,b,h=>by
  unfold zB at h⊢
  by_cases e:jX a n=Xc
  ·rw[kE e]at h⊢;have c:=b.1;have d:=z5.1 e;unfold jQ at c;unfold qw;simp only
   split
   ·exact⟨Wm,.inl Wm⟩
   exact⟨Wm,.inr Wm⟩
  rw[kF e]at h⊢;exact zlo b.2.2 h
theorem Rt.page (h:Rt m) {p n:Nat} {s:Sp} (a:m.sp[p]? =Xa s) (b:(zB s.ars n).is=Xc):0<=(zB s.ars n).page:=
 (zlo (jq.1 (h.inv.spok s (mG a)).1).2 b).1
section
variable{m:Ma}
def zbs (m:Ma) (file idx:Nat) (f:Fl) (b:Int) (db':List (List Int)) (dq':List (Int × List Int)):Ma:={ m with fl:=m.fl.set file ⟨f.size,f.bl.set idx b⟩,db:=db',dq:=dq' }
theorem zg1 (u:Rt m) {file d:Nat} {f:Fl} {h:List (List Int)} {l:List (Int × List Int)} (a0:m.fl[file]? =Xa f) (af:stW (m.fl.set file ⟨f.size,f.bl.set d (b:Int)⟩) m.cnt=0)
  (H:∀x,zR (m.fl.set file ⟨f.size,f.bl.set d (b:Int)⟩) x=Xc↔(zR m.fl x=Xc/\x≠-1)\/x=(b:Int)\/(x=-1/\zR (m.fl.set file ⟨f.size,f.bl.set d (b:Int)⟩) x=Xc))
  (R:h.length=m.db.length) (S:zF h.length l=0) (P:∀i:Nat,h[i]? =m.db[i]?\/∃q∈m.dq,q.1=(i:Int)) (M:∀q∈l,q.1=(b:Int)\/∃a6∈m.dq,a6.1=q.1) (ae:∀i:Int,i≠(b:Int)->qv h l i=qv m.db m.dq i)
  (_hb0:f.bl[d]? =Xa (b:Int)\/(zR m.fl (b:Int)=Xd)) (ab:∃c∈m.ca,c.file=(file:Int)/\c.idx=(d:Int)) (U:∀(i j:Nat) g,m.fl[i]? =Xa g->g.bl[j]? =Xa (b:Int)->i=file/\j=d):
  (Rt (zbs m file d f (b:Int) h l)/\Sam (fun _ _=>False) m (zbs m file d f (b:Int) h l))/\∀(i j:Nat),(j:Int)<bkN m (i:Int)->qn (zbs m file d f (b:Int) h l) (i:Int) (j:Int)=qn m (i:Int) (j:Int):=by
 have G:=(gS.1 a0).1;obtain⟨t,a⟩:∃t,zbs m file d f (b:Int) h l=t:=⟨_,rfl⟩;have W:∀z,Qb t z=Qb m z:=fun z=>by
  rw[<-a];unfold Qb zbs;simp only[gD]
  by_cases e:z.toNat=file
  ·rw[e,sF G,a0];rfl
  rw[sN (fun u=>e u.symm)]
 have E:∀z,bkN t z=bkN m z:=fun z=>by
  rw[<-a];unfold bkN zbs;simp only[gD]
  by_cases e:z.toNat=file
  ·rw[e,sF G,a0];simp
  rw[sN (fun u=>e u.symm)]
 have v:∀z,zU t z=zU m z:=fun z=>by rw[<-a];rfl
 have C:t.fl.length=m.fl.length:=by rw[<-a];simp[zbs]
 have k:t.sp=m.sp:=by rw[<-a];rfl
 have Q:t.ca=m.ca:=by rw[<-a];rfl
 have a9:qK t (Qg t):=by
  have ay:Qg t=Qg m:=by unfold Qg;rw[k]
  rw[ay];have p:=u.inv;refine⟨Ry a p.fs40,Ry a p.fok,Ry a p.sl60,Ry a p.sbl,Ry a p.sq,Ry a S,Ry a af,by rw[<-a];show m.cnt=(h.length:Int);rw[R];exact p.cnt,fun i A al=>?_,fun q V=>?_,Rx k p.spl,Rx k p.spok,Rx k p.tl,?_,?_,Ry a p.cf,Ry a p.cs⟩
  ·rw[<-a]at A al⊢;have X:zR m.fl (i:Int)=Xd:=by
    cases e:zR m.fl (i:Int)with
    | false=>rfl
    | true=>
     have:=(H (i:Int)).2 (.inl ⟨e,Wm⟩)
     have ag:zR (m.fl.set file ⟨f.size,f.bl.set d (b:Int)⟩) (i:Int)=Xd:=al;rw[ag]at this;cases this
   show h[i]? =_
   rcases P i with e|⟨q,a7,a8⟩
   ·rw[e];exact p.blk i (Ry R A) X
   have:=p.que q a7;rw[a8,X]at this;cases this
  ·rw[<-a]at V⊢
   show zR (m.fl.set file ⟨f.size,f.bl.set d (b:Int)⟩) q.1=Xc
   rcases M q V with e|⟨a6,a7,a8⟩
   ·exact(H _).2 (.inr (.inl e))
   refine(H _).2 (.inl ⟨?_,?_⟩)
   ·rw[<-a8];exact p.que a6 a7
   have F:=p.dok;unfold zF at F
   split at F
   ·cases F
   split at F
   ·cases F
   split at F
   ·cases F
   rename_i am
   intro e;refine am (List.any_eq_true.2 ⟨a6,a7,?_⟩);rw[a8,e]
   simp[jn]
  ·obtain⟨an,b6,ao⟩:=zu.1 p.ca;rw[Q];refine zu.2 ⟨fun c ab=>?_,fun q c M=>(by cases M),ao⟩
   obtain⟨ap,aq,ar,au⟩:=j8 (an c ab);refine zbg ?_ (Rx v aq) (Rx v ar) (Rx v au)
   rw[C,E];rw[<-a];exact ap
  intro b0 s g a4 y n ak;rw[k]at a4
  rcases p.ent b0 s g a4 y n ak with e|e
  ·exact .inl e
  refine .inr ⟨e.1,e.2.1,j5 e.2.2 (by rw[<-a];rfl) (by rw[<-a];rfl) fun ad=>?_⟩
  rw[v];exact⟨rfl,rfl,(z8 e ad).2.2.2⟩
 have r:∀(i j:Nat),(j:Int)<bkN m (i:Int)->qn t (i:Int) (j:Int)=qn m (i:Int) (j:Int):=fun i j w=>by
  unfold qn;rw[Q]
  cases M:m.ca.find? (Jw (i:Int) (j:Int))with
  | some c=>simp only;rw[v]
  | none=>
   simp only;have T:¬(i=file/\j=d):=fun e=>by
    obtain⟨c,av,aw,ax⟩:=ab;rw[Yq]at M;refine M c av ?_
    simp[Jw,aw,ax,e.1,e.2]
   have aa:zdQ t (i:Int) (j:Int)=zdQ m (i:Int) (j:Int):=by
    rw[<-a];unfold zdQ zbs;simp only[gD,tN]
    by_cases e:i=file
    ·subst e;rw[sF G,a0];simp only[Option.getD_some];rw[sN (fun u=>T ⟨rfl,u.symm⟩)]
    rw[sN (fun u=>e u.symm)]
   rw[aa,W]
   by_cases B:zdQ m (i:Int) (j:Int)<0
   ·rw[kE B,kE B]
   rw[kF B,kF B];have A:i<m.fl.length:=Classical.byContradiction fun D=>by
    unfold bkN at w;simp only[gD,tN]at w;rw[gN Wm]at w
    simp only[Option.getD_none,List.length_nil]at w;omega
   have y:=gE A;have aj:j< (m.fl[i]).bl.length:=by
    unfold bkN at w;simp only[gD,tN,y,Option.getD_some]at w;omega
   have:zdQ m (i:Int) (j:Int)≠(b:Int):=fun e=>by
    unfold zdQ at e;simp only[gD,tN,y,Option.getD_some,gE aj]at e;exact T (U i j _ y (by rw[gE aj,e]))
   rw[show qv t.db t.dq (zdQ m (i:Int) (j:Int))=qv h l (zdQ m (i:Int) (j:Int)) by rw[<-a];rfl,ae _ this]
 rw[a];refine⟨?_,r⟩;refine⟨Rt.of a9 (by rw[k];exact fun s a4=>u.tb a4) (Ry a u.hand.1) (Ry a u.hand.2),⟨by rw[k],fun q s b5 D N=>?_,fun q n s b5 D N ak _=>?_,C,W,E,fun ai az L=>?_⟩⟩
 ·rw[k,D]at N;cases N;exact⟨rfl,rfl⟩
 ·rw[k,D]at N;cases N;unfold zkI;rw[v,E]
  by_cases Y:(zB s.ars n).is=Xd
  ·rw[kE Y,kE Y]
  rw[kF Y,kF Y]
  by_cases Z:(zm s n).kind=1
  ·rw[kE Z,kE Z]
  rw[kF Z,kF Z]
  by_cases K:(zm s n).kind=2
  ·rw[kE K,kE K];rw[<-a];rfl
  rw[kF K,kF K]
  by_cases I:(zB s.ars n).file<0
  ·rw[kE I,kE I]
  rw[kF I,kF I]
  by_cases a5:bkN m (zB s.ars n).file<=(zB s.ars n).page
  ·rw[kE a5,kE a5]
  rw[kF a5,kF a5];have ac:(zB s.ars n).is=Xc:=by
   cases ah:(zB s.ars n).is with
   | true=>rfl
   | false=>exact absurd ah Y
  have b7:=u.page D ac;have:=r (zB s.ars n).file.toNat (zB s.ars n).page.toNat (by
   rw[show(((zB s.ars n).file.toNat:Nat):Int)=(zB s.ars n).file by omega,show(((zB s.ars n).page.toNat:Nat):Int)=(zB s.ars n).page by omega]
   omega)
  rw[show(((zB s.ars n).file.toNat:Nat):Int)=(zB s.ars n).file by omega,show(((zB s.ars n).page.toNat:Nat):Int)=(zB s.ars n).page by omega]at this
  rw[this]
 rw[r ai (az / 8) ?_]
 by_cases D:ai<m.fl.length
 ·have y:=gE D;obtain⟨Z,K,I⟩:=((qi _ _).1 u.inv.st).2.1 _ (mG y);unfold Qb at L;simp only[gD,tN,y,Option.getD_some]at L;unfold bkN;simp only[gD,tN,y,Option.getD_some];unfold Jn at K
  split at K <;> omega
 unfold Qb at L;simp only[gD,tN]at L;rw[gN Wm]at L
 simp only[Option.getD_none]at L;omega
end
def Unc (m:Ma) (file idx:Int):Prop:=∀c∈m.ca,¬(c.file=file/\c.idx=idx)
theorem Unc.find {file a:Int} (h:Unc m file a):m.ca.find? (Jw file a)=Xb:=by
 rw[Yq];intro c b a;simp only[Jw,Xv,decide_eq_true_eq]at a;exact h c b a
structure Z6 (S:Nat->Nat->Prop) (m m':Ma):Prop where
 rt:Rt m'
 sam:Sam S m m'
 fsl:m'.fs.length=m.fs.length
 bare:∀(q n:Nat) s s',m.sp[q]? =Xa s->m'.sp[q]? =Xa s'->n<64->zm s n=en0->zm s' n=en0
 unc:∀(file idx:Nat),(idx:Int)<bkN m (file:Int)->Unc m (file:Int) (idx:Int)->Unc m' (file:Int) (idx:Int)/\qn m' (file:Int) (idx:Int)=qn m (file:Int) (idx:Int)
theorem Z6.refl {S:Nat->Nat->Prop} (h:Rt m):Z6 S m m:=⟨h,Sam.refl S m,rfl,fun q n s a c a _ b=>by rw[c]at a;cases a;exact b,fun _ _ _ h=>⟨h,rfl⟩⟩
theorem Z6.trans {S:Nat->Nat->Prop} {a b c:Ma} (h:Z6 S a b) (k:Z6 S b c):Z6 S a c:=by
 refine⟨k.rt,(h.sam.trans k.sam).mono (fun _ _ e=>e.elim id id),k.fsl.trans h.fsl,fun q n s r f m i l=>?_,fun d e g p=>?_⟩
 ·have:∃t,b.sp[q]? =Xa t:=⟨_,gE (by rw[h.sam.spl];exact(gS.1 f).1)⟩
  obtain⟨t,j⟩:=this;exact k.bare q n t r j m i (h.bare q n s t f j i l)
 obtain⟨u1,u2⟩:=h.unc d e g p;obtain⟨f,i⟩:=k.unc d e (by rw[h.sam.bk];exact g) u1
 exact⟨f,i.trans u2⟩
section
variable{m:Ma}
theorem zgi (h:Rt m) {k:Int} {e:En} (f:enW e=0) {q n:Nat} {s b:Sp} (a:m.sp[q]? =Xa s) (d:(m.sp.map (j7 k e))[q]? =Xa b) (c:zm s n=en0):zm b n=en0:=by
 obtain⟨b,b,rfl⟩:=zay d;rw[a]at b;cases b;rw[zaX h (mG a) f];unfold QG;rw[c,kF (by simp[isE,en0])]
theorem zk3 (S:Nat->Nat->Prop) (h:Rt m) {k:Nat} {fr:Fr} {sb':List (List Int)} {sq':List (Int × List Int)} (g:m.fs[k]? =Xa fr) (f:fr.f=-1) (l:fr.r≠0) (e:m.sl[j]? =Xa 0) (c:sb'.length=m.sb.length) (d:zF sb'.length sq'=0) (a:qv sb' sq' (j:Int)=pgL fr.p) (b:∀i:Int,0<=i->i≠(j:Int)->qv sb' sq' i=qv m.sb m.sq i):
  Z6 S m (Zx m k j fr.r sb' sq'):=by
 obtain⟨n,p⟩:=zoJ h g f l e c d a b;have a:=h.inv.sl60;have a:=(gS.1 e).1;have d:enW ⟨2,(j:Int),Xd⟩=0:=Zy Sm ⟨Sm,by simp only;omega,fun h=>by simp at h⟩ Sm
 refine⟨n,p.mono (fun _ _ e=>e.elim),by simp[Zx],fun q n s a b c _ a=>zgi h d b c a,fun a c _ b=>⟨b,?_⟩⟩
 unfold qn;rw[show(Zx m k j fr.r sb' sq').ca.find? (Jw (a:Int) (c:Int))=Xb from b.find,b.find]
 rfl
theorem zmc (h:Rt m) {k:Nat} {fr:Fr} (S:Nat->Nat->Prop) (c:m.fs[k]? =Xa fr) (b:0<=fr.f) (d:fr.r≠0) (a:Qh m fr.f fr.x=jV (pgL fr.p) fr.x (Qb m fr.f))
  (hS:jV (pgL fr.p) fr.x (Qb m fr.f)=pgL fr.p\/∀(q n:Nat) s,m.sp[q]? =Xa s->n<64->(zB s.ars n).is=Xc->(zB s.ars n).file=fr.f->(zB s.ars n).page=fr.x->(zm s n).kind=0\/isE (zm s n) 1 (k:Int)=Xc->S q n):
  Z6 S m (qm m k):=by
 obtain⟨f,g⟩:=zpc h S c b d a hS;have c:∀file a,Unc m file a->Unc (qm m k) file a:=fun file a b d e=>b d (Yh.1 e).1
 refine⟨f,g,by simp[qm],fun q n s d e f _ d=>zgi h zfl e f d,fun file a _ b=>⟨c _ _ b,?_⟩⟩
 unfold qn;rw[(c _ _ b).find,b.find];rfl
theorem zd9 (S:Nat->Nat->Prop) (h:Rt m) {k:Nat} {fr:Fr} (a:m.fs[k]? =Xa fr) (b:fr.r≠0) (u d:Bool):Z6 S m { m with fs:=m.fs.set k { fr with u:=u,d:=d } }:=by
 obtain⟨c,e⟩:=ziJ h a b u d;refine⟨c,e.mono (fun _ _ e=>e.elim),Sm,fun q n s g e f _ c=>?_,fun b b _ b=>⟨b,?_⟩⟩
 ·have:m.sp[q]? =Xa g:=f;rw[e]at this;cases this;exact c
 exact zbK (gS.1 a).1 h.inv.ca (fun _=>by rw[qp a]) _ _
theorem zlL (S:Nat->Nat->Prop) (h:Rt m) (e:0<=z) (b:z<max (m.fs.length:Int) 1):Z6 S m { m with hand:=z }:=by
 have a:=h.inv;have c:qK { m with hand:=z } (Qg { m with hand:=z }):=⟨a.fs40,a.fok,a.sl60,a.sbl,a.sq,a.dok,a.st,a.cnt,a.blk,a.que,a.spl,a.spok,a.tl,zu.2 ⟨fun d f=>(zu.1 a.ca).1 d f,fun _ _ d=>(by cases d),(zu.1 a.ca).2.2⟩,a.ent,a.cf,a.cs⟩
 refine⟨Rt.of c (fun s a=>h.tb a) e b,⟨rfl,fun q s c b a=>?_,fun q n s c b a _ _=>?_,rfl,fun _=>rfl,fun _=>rfl,fun _ _ _=>rfl⟩,rfl,fun q n s c b a _ e=>?_,fun d d _ d=>⟨d,rfl⟩⟩
 ·have:m.sp[q]? =Xa c:=a;rw[b]at this;cases this;exact⟨rfl,rfl⟩
 ·have:m.sp[q]? =Xa c:=a;rw[b]at this;cases this;rfl
 have:m.sp[q]? =Xa c:=a;rw[b]at this;cases this;exact e
end
theorem zph (p) (b a:Int):jV (jV p b a) b a=jV p b a:=by
 unfold jV
 apply Yd
 intro i;simp only[Oe]
 cases p[i]? with
 | none=>rfl
 | some z=>
  simp only[Option.map_some,Option.some.injEq]
  split <;> rfl
theorem zjj {file a:Nat} {f:Fl} {c:List (List Int)} {d:List (Int × List Int)} (h:m.fl[file]? =Xa f) (hi:a<f.bl.length) {p:List Int} (g:qv c d (b:Int)=jV p (a:Int) (Qb m (file:Int))):
  Qh (zbs m file a f (b:Int) c d) (file:Int) (a:Int)=jV p (a:Int) (Qb m (file:Int)):=by
 have e:=(gS.1 h).1;have i:zdQ (zbs m file a f (b:Int) c d) (file:Int) (a:Int)=(b:Int):=by
  unfold zdQ zbs;simp only[gD,tN];rw[sF e];simp only[Option.getD_some];rw[sF hi];rfl
 have j:Qb (zbs m file a f (b:Int) c d) (file:Int)=Qb m (file:Int):=by
  unfold Qb zbs;simp only[gD,tN];rw[sF e,h];rfl
 unfold Qh;rw[i,j,kF Wm,show qv (zbs m file a f (b:Int) c d).db (zbs m file a f (b:Int) c d).dq (b:Int)=qv c d (b:Int)from rfl,g,zph]
def znU (s:Sp) (kind k:Int):List Nat:=(List.range 64).filter fun n=>enS (zm s n) && zkK kind k (zm s n)
def j3 (m:Ma) (kind k:Int) (q:Nat):List (Nat × Nat):=(List.range q).flatMap fun p=>(znU (m.sp.getD p ⟨Xd,[],[]⟩) kind k).map fun n=>(p,n)
theorem zj0 (m) (kind k:Int):j3 m kind k 0=[]:=rfl
theorem zeg (m:Ma) (kind k:Int) (q:Nat):j3 m kind k (q+1)=j3 m kind k q++(znU (m.sp.getD q ⟨Xd,[],[]⟩) kind k).map fun n=>(q,n):=by
 unfold j3;rw[List.range_succ,Oj];simp
theorem ziV {s:Sp} {kind k:Int} (c:kind≠0) {n:Nat}:n∈znU s kind k↔n<64/\isE (zm s n) kind k=Xc:=by
 unfold znU;rw[Yh,Yr];refine and_congr_right fun _=>?_
 unfold enS zkK isE;simp only[Xv,decide_eq_true_eq,bne_iff_ne,ne_eq,beq_iff_eq];constructor
 ·rintro⟨_,h⟩;exact h
 rintro⟨a,b⟩;exact⟨Rx a c,a,b⟩
theorem zc5 {kind k:Int} (d:kind≠0) {q:Nat} (a:q<=m.sp.length) {x:Nat × Nat}:x∈j3 m kind k q↔x.1<q/\x.2<64/\∃s,m.sp[x.1]? =Xa s/\isE (zm s x.2) kind k=Xc:=by
 unfold j3;rw[List.mem_flatMap];constructor
 ·rintro⟨p,b,c⟩;obtain⟨n,a,rfl⟩:=Yz.1 c;have f:=Yr.1 b;have e:=gE (show p<m.sp.length by omega)
  rw[gD,e,Option.getD_some,ziV d]at a;exact⟨f,a.1,_,e,a.2⟩
 rintro⟨b,c,s,a,e⟩;refine⟨x.1,Yr.2 b,Yz.2 ⟨x.2,?_,rfl⟩⟩;rw[gD,a,Option.getD_some,ziV d];exact⟨c,e⟩
def j6 (m:Ma) (e:En):List (Nat × Nat)->Ma
 | []=>m
 | x :: l=>j6 (zeS m x.1 x.2 e) e l
theorem zf3 {e:En} (f:enW e=0):∀(l:List (Nat × Nat)) {m:Ma},(∀s∈m.sp,zb0 s.tb)->(∀x∈l,x.2<64)->(j6 m e l).sp.length=m.sp.length/\(∀s∈(j6 m e l).sp,zb0 s.tb)/\∀(q:Nat) s b,m.sp[q]? =Xa s->(j6 m e l).sp[q]? =Xa b->b.live=s.live/\b.ars=s.ars/\∀j,zm b j=if(q,j)∈l then e else zm s j
 | [],m,ht,_=>⟨rfl,ht,fun q s b c d=>by
   simp only[j6]at d;rw[c]at d;cases d;exact⟨rfl,rfl,fun j=>Sm⟩⟩
 | x :: l,m,ht,a=>by
  have g:=a x (Ys ..);obtain⟨i,k,n⟩:=zf3 f l (m:=zeS m x.1 x.2 e) (ziC ht f) (fun y h=>a y (Yo _ h))
  refine⟨i.trans zhA,k,fun q s b c d=>?_⟩
  have:∃t,(zeS m x.1 x.2 e).sp[q]? =Xa t:=⟨_,gE (by rw[zhA];exact(gS.1 c).1)⟩
  obtain⟨t,a⟩:=this;obtain⟨h,i,k⟩:=n q t b a d;obtain⟨b,d⟩:=zli c a;refine⟨h.trans b,i.trans d,fun j=>?_⟩
  rw[k j]
  by_cases b:(q,j)∈l
  ·rw[kE b,kE (Yo _ b)]
  rw[kF b]
  by_cases d:q=x.1/\j=x.2
  ·obtain⟨rfl,rfl⟩:=d;rw[kE (Ys ..)];exact(zoO ht c g f a).1
  rw[zlh ht g f c a d,kF];intro a
  rcases mC.1 a with a|a
  ·rw[<-a]at d;exact d ⟨rfl,rfl⟩
  exact b a
theorem zcJ (e):∀(l:List (Nat × Nat)) (m:Ma),j6 m e l={ m with sp:=(j6 m e l).sp }
 | [],_=>rfl
 | x :: l,m=>by
  show j6 (zeS m x.1 x.2 e) e l=_
  rw[zcJ e l (zeS m x.1 x.2 e)];rfl
theorem zp5 {s:Sp} (h:zb0 s.tb):s.tb=jU (zm s):=by
 have:=ziX (m:=⟨[],0,[],[],[],[],[],[],0,[],[s]⟩) (fun t a=>by
  rw[Yt.1 a];exact h)
 have a:=congrArg (fun b:Ma=>b.sp) this
 simp only[jS,Qg,mP,Yk,List.zipWith_cons_cons,List.zipWith_nil_left,List.cons.injEq,and_true]at a;exact(congrArg Sp.tb a).symm
theorem znB (h:Rt m) {k:Nat} {e:En} (c:enW e=0):(j6 m e (j3 m 1 (k:Int) m.sp.length)).sp=m.sp.map (j7 (k:Int) e):=by
 have d:∀s∈m.sp,zb0 s.tb:=fun s g=>h.tb g
 have a:=fun b=>zc5 (m:=m) (kind:=1) (k:=(k:Int)) Dc (nR m.sp.length) (x:=b)
 obtain⟨h,u,j⟩:=zf3 c (j3 m 1 (k:Int) m.sp.length) d (fun b c=>((a b).1 c).2.1)
 apply Yd
 intro q
 by_cases f:q<m.sp.length
 ·have g:=gE f;have d:=gE (show q< (j6 m e (j3 m 1 (k:Int) m.sp.length)).sp.length by rw[h];exact f)
  obtain⟨i,l,b⟩:=j q _ _ g d;rw[d,Xz,g,Option.map_some]
  congr 1
  have t:zm ((j6 m e (j3 m 1 (k:Int) m.sp.length)).sp[q]'(Rx h f))=fun j=>if j<64 then QG (k:Int) e (zm m.sp[q]) j else zm m.sp[q] j:=by
   funext j
   rw[b j]
   by_cases b:j<64
   ·rw[kE b];unfold QG
    by_cases c:isE (zm m.sp[q] j) 1 (k:Int)=Xc
    ·rw[kE c,kE ((a (q,j)).2 ⟨f,b,_,g,c⟩)]
    rw[kF c,kF];intro n;obtain⟨_,_,s,p,r⟩:=(a (q,j)).1 n;rw[g]at p;cases p;exact c r
   rw[kF b,kF (fun n=>b ((a (q,j)).1 n).2.1)]
  have a:=zp5 (u _ (mG d));have b:jU (zm ((j6 m e (j3 m 1 (k:Int) m.sp.length)).sp[q]'(Rx h f)))=jU (QG (k:Int) e (zm m.sp[q])):=by
   rw[t];unfold jU;refine congrArg jT (Oi fun j c=>?_)
   exact kE (Yr.1 c)
  rw[b]at a;unfold j7
  generalize(j6 m e (j3 m 1 (k:Int) m.sp.length)).sp[q]'(Rx h f)=s' at i l a
  cases s';simp only at i l a;rw[i,l,a]
 rw[gN (by rw[h];omega),gN (by rw[List.length_map];omega)]
theorem zbW {α:Type} {P:α->Bool}:∀{l:List α} {i:Nat},i<l.length->(∀(j:Nat) d,l[j]? =Xa d->(P d=Xc↔j=i))->l.eraseIdx i=l.filter fun d=>!P d
 | [],i,hi,_=>absurd hi Sm
 | a :: l,0,_,h=>by
  have b:=(h 0 a rfl).2 rfl;rw[List.eraseIdx_cons_zero,List.filter_cons,kF (by rw[b];decide)]
  refine(Oh.2 fun d c=>?_).symm
  obtain⟨j,e⟩:=Ya c;have:=h (j+1) d (Rx Yw e)
  cases e:P d with
  | false=>rfl
  | true=>exact absurd (this.1 e) Wm
 | a :: l,i+1,hi,h=>by
  have b:P a=Xd:=by
   cases e:P a with
   | false=>rfl
   | true=>exact absurd ((h 0 a rfl).1 e) Wm
  rw[List.eraseIdx_cons_succ,List.filter_cons,kE (Rr b),zbW (P:=P) (l:=l) (i:=i) (Si hi) fun j d c=>?_]
  have:=h (j+1) d (Rx Yw c)
  rw[this];omega
def zog (ca:List Ca) (c:Ca):Nat:=(ca.takeWhile fun d=>decide (qj d<qj c)).length
section
variable{m:Ma} {k:Nat} {fr:Fr}
theorem zic (a:Rt m) (p:m.fs[k]? =Xa fr) {i:Nat} {c:Ca} (h:m.ca[i]? =Xa c) (n:c.fr=(k:Int)):m.ca.eraseIdx i=m.ca.filter fun d=>!decide (d.fr=(k:Int)):=by
 obtain⟨j,b,l⟩:=zu.1 a.inv.ca;have a:∀d∈m.ca,d.fr=(k:Int)->d.file=fr.f/\d.idx=fr.x:=fun d b e=>by
  obtain⟨f,f,f,g⟩:=j8 (j d b);rw[e,qp p]at f g;exact⟨f.symm,g.symm⟩
 refine zbW (P:=fun d:Ca=>decide (d.fr=(k:Int))) (gS.1 h).1 fun j d b=>?_
 rw[decide_eq_true_eq];constructor
 ·intro e;have f:=a d (mG b) e;have e:=a c (mG h) n;have a:qj d=qj c:=by unfold qj;rw[f.1,f.2,e.1,e.2]
  obtain⟨q,g⟩:=gS.1 b;obtain⟨p,f⟩:=gS.1 h
  rcases Nat.lt_trichotomy j i with e|e|e
  ·have:=Yu.1 l j i q p e;rw[g,f,a]at this;omega
  ·exact e
  have:=Yu.1 l i j p q e;rw[g,f,a]at this;omega
 rintro rfl;rw[h]at b;cases b;exact n
theorem zib (h:Rt m) (f:m.fs[k]? =Xa fr) (b:0<=fr.f):∃(i:Nat) (c:Ca),m.ca[i]? =Xa c/\c.fr=(k:Int)/\c.file=fr.f/\c.idx=fr.x:=by
 obtain⟨c,e,a⟩:=zbL ((h.inv.cf k fr f).2 b);obtain⟨i,g⟩:=Ya e;obtain⟨b,b,b,d⟩:=j8 ((zu.1 h.inv.ca).1 c e);rw[a,qp f]at b d;exact⟨i,c,g,a,b.symm,d.symm⟩
end
theorem zd0:∀(l:List Int) (lo b:Int),l.Pairwise (·< ·)->(∀x∈l,lo<=x/\x<b)->(l.length:Int)<=max (b - lo) 0
 | [],lo,b,_,_=>by simp only[List.length_nil];omega
 | a :: l,lo,b,hp,c=>by
  obtain⟨d,e⟩:=List.pairwise_cons.1 hp;obtain⟨f,f⟩:=c a (Ys ..);have:=zd0 l (a+1) b e fun x b=>⟨Hm (d x b),(c x (Yo _ b)).2⟩
  simp only[List.length_cons];omega
def jJ (fs:List Fr):Nat:=fs.countP fun f=>decide (f.r=0)
section
variable{m:Ma}
theorem zkC (S:Nat->Nat->Prop) (u:Rt m) {file a:Nat} {f:Fl} {d:List (List Int)} {e:List (Int × List Int)} (w:m.fl[file]? =Xa f) (s:stW (m.fl.set file ⟨f.size,f.bl.set a (b:Int)⟩) m.cnt=0)
  (t:∀x,zR (m.fl.set file ⟨f.size,f.bl.set a (b:Int)⟩) x=Xc↔(zR m.fl x=Xc/\x≠-1)\/x=(b:Int)\/(x=-1/\zR (m.fl.set file ⟨f.size,f.bl.set a (b:Int)⟩) x=Xc))
  (p:d.length=m.db.length) (k:zF d.length e=0) (h:∀i:Nat,d[i]? =m.db[i]?\/∃q∈m.dq,q.1=(i:Int)) (y:∀q∈e,q.1=(b:Int)\/∃z∈m.dq,z.1=q.1) (r:∀i:Int,i≠(b:Int)->qv d e i=qv m.db m.dq i)
  (n:f.bl[a]? =Xa (b:Int)\/(zR m.fl (b:Int)=Xd)) (v:∃c∈m.ca,c.file=(file:Int)/\c.idx=(a:Int)) (l:∀(i j:Nat) g,m.fl[i]? =Xa g->g.bl[j]? =Xa (b:Int)->i=file/\j=a):
  Z6 S m (zbs m file a f (b:Int) d e):=by
 obtain⟨⟨d,e⟩,z⟩:=zg1 u w s t p k h y r n v l;refine⟨d,e.mono (fun _ _ e=>e.elim),rfl,fun q n s n e h _ d=>?_,fun file a k l=>⟨l,z file a k⟩⟩
 have:m.sp[q]? =Xa n:=h;rw[e]at this;cases this;exact d
def zim (k:Nat) (fr:Fr) (l:List (Nat × Nat)) (q:Nat) (s:Sp) (a:Ar) (n:Nat):Prop:=(qw a n).file=fr.f/\(qw a n).page=fr.x/\(q,n)∉l/\((zm s n).kind=0\/isE (zm s n) 1 (k:Int)=Xc)
theorem zpD {k:Nat} {fr:Fr} {l:List (Nat × Nat)} (h:∀(q:Nat) s (i:Nat) a (n:Nat),m.sp[q]? =Xa s->s.ars[i]? =Xa a->jX a n=Xc->n<64->¬zim k fr l q s a n) (q n:Nat) (s:Sp) (p:m.sp[q]? =Xa s) (j:n<64) (b:(zB s.ars n).is=Xc) (g:(zB s.ars n).file=fr.f) (hp:(zB s.ars n).page=fr.x) (f:(zm s n).kind=0\/isE (zm s n) 1 (k:Int)=Xc):(q,n)∈l:=by
 obtain⟨i,a,d,e,c⟩:=ZQ b;refine Classical.byContradiction fun b=>h q s i a n p d e j ⟨?_,?_,b,f⟩
 ·rw[<-c];exact g
 rw[<-c];exact hp
theorem zeU (h:Rt m) {k:Nat} {fr:Fr} {l:List (Nat × Nat)} (d:m.fs[k]? =Xa fr) (c:0<=fr.f) (e:fr.r≠0) (b:Qh m fr.f fr.x=jV (pgL fr.p) fr.x (Qb m fr.f))
  (hS:jV (pgL fr.p) fr.x (Qb m fr.f)=pgL fr.p\/∀(q:Nat) s (i:Nat) a (n:Nat),m.sp[q]? =Xa s->s.ars[i]? =Xa a->jX a n=Xc->n<64->¬zim k fr l q s a n):Z6 (fun q j=>(q,j)∈l) m (qm m k):=
 zmc h _ d c e b (hS.imp id fun b q n s c d e f g h=>zpD b q n s c d e f g h)
theorem zfD {l:List (Nat × Nat)} {file c:Nat} {f:Fl} {d:List (List Int)} {e:List (Int × List Int)} {k:Nat} {fr:Fr} (g:Z6 (fun q j=>(q,j)∈l) m (zbs m file c f (b:Int) d e)) (t:m.fl[file]? =Xa f) (hi:c<f.bl.length) (u:m.fs[k]? =Xa fr) (h:fr.f=(file:Int)) (p:fr.x=(c:Int)) (v:fr.r≠0)
  (r:qv d e (b:Int)=jV (pgL fr.p) (c:Int) (Qb m (file:Int)))
  (hS:jV (pgL fr.p) fr.x (Qb m fr.f)=pgL fr.p\/∀(q:Nat) s (i:Nat) a (n:Nat),m.sp[q]? =Xa s->s.ars[i]? =Xa a->jX a n=Xc->n<64->¬zim k fr l q s a n):Z6 (fun q j=>(q,j)∈l) m (qm (zbs m file c f (b:Int) d e) k):=by
 refine g.trans (zeU g.rt (fr:=fr) u Wm v ?_ ?_)
 ·rw[h,p,zjj t hi r,<-g.sam.sz]
 rw[g.sam.sz];exact hS
end
theorem Rt.parts (h:Rt m):Zt m.fs m.hand=0/\slW m.sl=0:=by
 have b:=h.w;unfold maW at b;rw[zi]at b;have a:Jq m=0:=b _ Sm
 unfold Jq at a;rw[zi]at a;exact⟨a _ Sm,a _ Sm⟩
theorem zlR {s:Sp} {n:Nat} (a:n<64):zeh s.tb (n:Int)=zm s n:=by
 unfold zeh zm;rw[kE Wm,tN]
theorem zoM {t:List (List En)} (h:zb0 t) {n:Nat} (a:n<64) {e:En} (b:enW e=0):zhr t (n:Int) e=zkH t n e:=by
 have a:=Zd.2 h.2;have:zg9 t (n:Int) e=0:=by unfold zg9;rw[kE a,kE Wm];exact b
 unfold zhr;rw[kE this,tN]
theorem zmd (ht:∀s∈m.sp,zb0 s.tb) {p n:Nat} (hp:p<m.sp.length) (c:n<64) {e:En} (b:enW e=0):JU m p (n:Int) e=zeS m p n e:=by
 obtain⟨s,a⟩:∃s,m.sp[p]? =Xa s:=⟨_,gE hp⟩;unfold JU zeS;rw[Sp.getD_of a,zoM (ht s (mG a)) c b]
 congr 1
 apply Yd
 intro i;rw[List.getElem?_set,Od]
 by_cases e:p=i
 ·subst e;rw[kE rfl,kE hp,a];simp
 rw[kF e]
 simp[e]
theorem zpL {n:Nat} {a:List (Int × List Int)} (h:zF n a=0) {q:Int × List Int} (c:q∈a):0<=q.1/\q.1< (n:Int):=by
 unfold zF at h
 split at h
 ·cases h
 split at h
 ·cases h
 split at h
 ·cases h
 rename_i a
 refine Classical.byContradiction fun b=>a (List.any_eq_true.2 ⟨q,c,?_⟩)
 simp only[jn,Yv,Bool.and_eq_false_iff,decide_eq_false_iff_not];omega
def zi3 (m:Ma) (db':List (List Int)):Ma:=⟨Xr m.fs.length frF,0,Xr m.sl.length 0,Xr m.sl.length zp,[],db',[],m.fl,m.cnt,[],[⟨Xc,[],qG⟩]⟩
end
section
open Go.RowKit
theorem jF.staysD {α:Type} {enc:α->List Xq} {base:Nat} {w:Xn} {v:Xq} {l:List α} (h:jF enc w v l) (c:j4 base v) {D:Nat->Prop} (g:∀k,D k->k<base) (k:qD D w W):jF enc W v l:=by
 obtain⟨b,d,a,e,f⟩:=h;refine⟨b,d,a,e,fun x b j u d=>?_⟩
 subst b;have b:=f x rfl j u d;have d:=World.block_lt_of_cell? _ _ b;have c:=c x _ _ a;rw[World.cell?_of_block (w:=w) (k.block _ d (fun e=>by have:=g _ e;rw[QS]at this;omega))]
 exact b
theorem qa.staysD {base:Nat} {w:Xn} {v:Xq} {a:List (List Int)} {b:List (Int × List Int)} (h:qa base w v a b) {D:Nat->Prop} (e:∀k,D k->k<base) (k:qD D w W):qa base W v a b:=by
 obtain⟨f,q,g,a,b,c,d⟩:=h;exact⟨f,q,g,⟨a.1.staysD c e k,a.2⟩,⟨b.1.staysD d e k,b.2⟩,c,d⟩
theorem qa.form {base:Nat} {w:Xn} {v:Xq} {a:List (List Int)} {b:List (Int × List Int)} (h:qa base w v a b):∃d q:Sli,v= Xi #[d.x,q.x]/\j4 base d.v/\j4 base q.v:=by
 obtain⟨b,q,rfl,⟨⟨a,c,rfl,_⟩,_⟩,⟨⟨b,e,rfl,_⟩,_⟩,f,g⟩:=h;exact⟨⟨a,_,c⟩,⟨b,_,e⟩,rfl,f,g⟩
theorem qa.rows {base:Nat} {w:Xn} {d q:Sli} {a:List (List Int)} {b:List (Int × List Int)} (h:qa base w (Xi #[d.x,q.x]) a b):jk w (d.x) a/\jz w (q.x) b:=by
 obtain⟨b,q,e,a,b,_⟩:=h;simp only[Value.agg.injEq,Array.mk.injEq,List.cons.injEq,and_true]at e;obtain⟨rfl,rfl⟩:=e;exact⟨a,b⟩
theorem ziA {α:Type} {E:Elt α} {w:Xn} {v:Xq} (h:zl E w v []):zl E W v []:=by
 obtain⟨⟨a,c,b,d,g⟩,e⟩:=h;exact⟨⟨a,c,b,d,fun x i j u f=>by simp at f⟩,e⟩
theorem J5 (a:Nat->Bool):∀(c:List (Int × List Int)) (j:Nat) (b:List (List Int)),(jc a c j b).length=b.length
 | [],_,_=>rfl
 | q :: c,j,b=>by
  unfold jc;rw[J5 a c]
  split <;> simp
theorem zfU (a:Nat->Bool):∀(c:List (Int × List Int)) (j:Nat) (b:List (List Int)) (i:Nat),(jc a c j b)[i]? =b[i]?\/∃q∈c,q.1.toNat=i
 | [],_,_,_=> .inl rfl
 | q :: c,j,b,i=>by
  unfold jc
  rcases zfU a c (j+1) (if a j then b.set q.1.toNat q.2 else b) i with h|⟨x,a,b⟩
  ·by_cases e:q.1.toNat=i
   ·exact .inr ⟨q,Sm,e⟩
   left;rw[h]
   split
   ·exact sN e
   rfl
  exact .inr ⟨x,by simp[a],b⟩
theorem zkp (V:MaV) (m:Ma) (bs:Int) (w:Xn) (hm:zy w V m) (h:Rt m):
  Xp prog 14 #[Xi (mL V m).toArray,I6 bs] w fun e w'=>(∃V':MaV,e= Xl (Xm #[Xi #[V'.f.x,I6 0,V'.s.x,V'.sb.x,V'.sq.x,V'.db.x,V'.dq.x,V'.fl.x,I6 m.cnt,V'.ca.x,V'.sp.x],I6 0])/\(∀W,qD (fun k=>k<w.heap.size) w' W->zy W V' (zi3 m (JL (QN bs) m.db m.dq)))/\∃ps,V'.sp=⟨Xa ⟨ps,0,Xb⟩,1,1⟩)/\zc w w':=by
 obtain⟨W1,hW1⟩:=kB ((w.alloc (Xk (mL V m).toArray 41)).alloc (Xk zM.toArray 41));have G1:=gD2 hW1
 obtain⟨b,HB⟩:=kA w.heap.size;have X1:Xo (zo W1 b 41 (mL V m)):=dD<|by rw[<-hW1];exact(zo.top w (mL V m) _ HB.symm).grew (za _ _)
 have Z1:Xo (zo W1 (b+1) 41 zM):=dD<|by rw[<-hW1];exact zo.top _ zM _ (by have:=HB.out;simp;omega)
 have A1:Xo (zy W1 V m):=hm.grew G1.out;have HR:Xo (Rt m):=h;have HW1:Xo (_=W1):=hW1;obtain⟨n1,n2,-⟩:=hm.ns;have HFW:Xo (zpe (V.f.n:Int) (V.s.n:Int) m.cnt):=show zpe _ _ _ by
  have i:=h.inv;have h1:=i.fs40;have h2:=i.sl60;have h3:=((qi _ _).1 i.st).1;rw[n1,n2];exact⟨⟨Wm,Wm⟩,⟨Wm,Wm⟩,Wm⟩
 have HN1:Xo (V.f.n=m.fs.length):=n1;have HN2:Xo (V.s.n=m.sl.length):=n2;clear hW1 hm h n1 n2
 go_enter func14,ntmps14
 go_upto_region 1 with fail;rw[HW1.out,HB.out];have hwr:=Qy V m W1 A1 HR.w;obtain⟨x0,x1,x2,x3,x4,x5,x6,x7,x8,x9,x10⟩:=X1.box.c11;go_wp2_with fail;refine hwr.mono ?_;clear hwr x0 x1 x2 x3 x4 x5 x6 x7 x8 x9 x10;rintro e W2 ⟨rfl,g2⟩;have X2:=dD (X1.grew g2);have Z2:=dD (Z1.grew g2);have A2:=dD (A1.grew g2);have G2:=dD (G1.trans g2);clear g2;have hnw:=znq (V.f.n:Int) (V.s.n:Int) m.cnt HFW W2;have x0:=X2.box.c 0 rfl;have x2:=X2.box.c 2 rfl;have x8:=X2.box.c 8 rfl;go_wp2_with fail;refine hnw.mono ?_;clear hnw x0 x2 x8;rintro e W3 ⟨⟨U,rfl,hu,hnv,hps⟩,g3⟩;have HPS:Xo (∃ps,U.sp=⟨Xa ⟨ps,0,Xb⟩,1,1⟩):=hps;have HU3:Xo (zy W3 U (zb5 (V.f.n:Int) (V.s.n:Int) m.cnt)):=hu;have HNV:Xo (zp9 W2.heap.size U):=hnv;have G3:Xo (zc W2 W3):=g3;clear hu hnv g3 hps;go_upto_region 5 with fail;obtain⟨c,HC⟩:=kA W3.heap.size;obtain⟨W4,hW4⟩:=kB (W3.alloc (Xk #[U.f.x,I6 0,U.s.x,U.sb.x,U.sq.x,U.db.x,U.dq.x,U.fl.x,I6 m.cnt,U.ca.x,U.sp.x] 41));have G4:=gA hW4
 have Y4:=xPT hW4 HC
 have X4:=dD (X2.grew (G3.trans G4));rw[hW4,HC.out];clear hW4;have A4:=dD (A2.grew (G3.trans G4));have hcr:=zmn (Xi #[V.db.x,V.dq.x]) m.db m.dq bs W4 ⟨_,_,rfl,A4.db,A4.dq⟩;have x5:=X4.box.c 5 rfl;have x6:=X4.box.c 6 rfl;go_wp2_with fail;refine hcr.mono ?_;clear hcr x5 x6;rintro e W5 ⟨dd,rfl,nd,g5⟩;obtain⟨d,q,rfl,fd,fq⟩:=nd.form;have D5:Xo (qa W4.heap.size W5 (Xi #[d.x,q.x]) (JL (QN bs) m.db m.dq) []):=nd;have G5:Xo (zc W4 W5):=g5;have Y5:=dD (Y4.grew g5);clear nd g5 fd fq
 go_upto_region 6 with(refine Zf rfl 34 (.tmp 37) (.tmp 35) rfl c 5 rfl (Xi #[d.x,q.x]) rfl [d.x,q.x] rfl Y5 Sm Kr (by simp[Value.oneCell']) ?_)
 intro W6 bx6 gr6 _;have Y6:Xo (zo W6 c 41 [U.f.x,I6 0,U.s.x,U.sb.x,U.sq.x,d.x,q.x,U.fl.x,I6 m.cnt,U.ca.x,U.sp.x]):=bx6;have HR6:Xo (W5.grownBy W6 (Xa c)):=gr6;have G36:Xo (zc W3 W6):=show zc _ _ from zd (G4.trans G5) gr6 (Hm HC.out)
 have X6:Xo (zo W6 b 41 (mL V m)):=dD<|(X4.grew G5).beside gr6 (fun k e=>by cases e;have h1:=Z2.box.lt;have:=HC.out;have:=bS G3.out;omega)
 have A6:=dD ((A2.grew G3).grew G36);clear bx6 gr6;try simp only[Xw]
 have how:=zcQ (V.fl.x) m.fl m.cnt W6 A6.fl;have x7:=X6.box.c 7 rfl;have x8:=X6.box.c 8 rfl;go_wp2_with fail;refine how.mono ?_;clear how x7 x8;rintro e W7 ⟨fb,rfl,of,g7,_⟩;obtain⟨fa,fc,rfl,_⟩:=qg.rows of.new.now0;obtain⟨f,HF⟩:∃f:Sli,Xo (f=⟨fa,m.fl.length,fc⟩):=⟨_,rfl⟩;have hfe:O fa m.fl.length fc=f.x:=by rw[HF.out]
 rw[hfe]at of⊢;have F7:Xo (jo 0 (W6.heap.size+2) W7 (f.x) m.fl):=of.new;have G7:Xo (zc W6 W7):=g7;have Y7:=dD (Y6.grew g7);clear of g7 hfe
 go_upto_region 7 with(refine Zf rfl 37 (.tmp 41) (.tmp 40) rfl c 7 rfl (Xi #[f.x,I6 m.cnt]) rfl [f.x,I6 m.cnt] rfl Y7 Sm Kr (by simp[Value.oneCell']) ?_)
 intro W8 bx8 gr8 _;have Y8:Xo (zo W8 c 41 [U.f.x,I6 0,U.s.x,U.sb.x,U.sq.x,d.x,q.x,f.x,I6 m.cnt,U.ca.x,U.sp.x]):=bx8;have HR8:Xo (W7.grownBy W8 (Xa c)):=gr8;have G38:Xo (zc W3 W8):=show zc _ _ from zd (G36.trans G7) gr8 (Hm HC.out)
 have Z8:=dD ((Z2.grew G3).grew G38);clear bx8 gr8;try simp only[Xw]
 obtain⟨x0,x1,x2,x3,x4,x5,x6,x7,x8,x9,x10⟩:=Y8.box.c11
 go_wp2_with (refine zP rfl 41 (.tmp 4) (.tmp 42) rfl (b+1) rfl [U.f.x,I6 0,U.s.x,U.sb.x,U.sq.x,d.x,q.x,f.x,I6 m.cnt,U.ca.x,U.sp.x] rfl Z8 rfl Kr (by simp[Value.oneCell']) ?_)
 clear x0 x1 x2 x3 x4 x5 x6 x7 x8 x9 x10;intro W9 bx9 gr9 _;have G9:Xo (zc w W9):=dD<|zd ((G2.trans G3).trans G38) gr9 (Hm HB.out)
 have B9:Xo (zo W9 (b+1) 41 [U.f.x,I6 0,U.s.x,U.sb.x,U.sq.x,d.x,q.x,f.x,I6 m.cnt,U.ca.x,U.sp.x]):=bx9;have HMA:Xo (∀W,qD (fun k=>k<w.heap.size) W9 W->zy W ⟨U.f,U.s,U.sb,U.sq,d,q,f,U.ca,U.sp⟩ (zi3 m (JL (QN bs) m.db m.dq))):=show∀W,_ from fun W hW=>by
  have hb:b+1<W2.heap.size:=Z2.box.lt;have hs3:=bS G3.out;have hs4:=bS G4.out;have hs5:=bS G5.out;have hs6:=HR6.size;have hc:=HC.out;have hcl:c<W4.heap.size:=Y4.box.lt;have u8:=HU3.grew G38.out;have o:qD (fun k=>k<W2.heap.size) W8 W:=(qD.grown gr9 hb).trans (hW.wide fun k hk=>Yi hk (bS G2))
  obtain⟨⟨a1,a2,a3,a4⟩,a5,a6,a7,a8,a9⟩:=HNV.out;have o59:qD (fun k=>k=c\/k<W2.heap.size) W5 W:=(((qD.grown HR6 (.inl rfl)).trans (qD.grew G7)).trans (qD.grown HR8 (.inl rfl))).trans (o.wide fun k hk=> .inr hk)
  have dr:=(D5.staysD (fun k hk=>by rcases hk with rfl | hk <;> omega) o59).rows
  have o79:Out 0 (W6.heap.size+2) W7 W:=(Out.grown HR8 (fun g e=>by cases e;omega)).trans ⟨o.os,o.tape,o.output,o.size,fun i hi hn=>o.block i hi (fun h=>by have h:i<W2.heap.size:=h;omega)⟩
  have hn1:=HN1.out;have hn2:=HN2.out;obtain⟨xs,r1,r2,r3⟩:=u8.sp;refine⟨?_,?_,?_,?_,dr.1,dr.2,(F7.out.out o79).now0,⟨u8.ca.1.staysD a8 (fun _ h=>h) o,u8.ca.2⟩,⟨xs,⟨r1.1.staysD a9 (fun _ h=>h) o,r1.2⟩,r2,fun i x s hx hs=>?_⟩⟩
  ·have:zl _ W _ _:=⟨u8.fs.1.staysD a1 (fun _ h=>h) o,u8.fs.2⟩
   rw[show(zb5 (V.f.n:Int) (V.s.n:Int) m.cnt).fs=Xr m.fs.length frF from by unfold zb5;simp only;rw[hn1,tN]]at this
   exact this
  ·have:zl _ W _ _:=⟨u8.sl.1.staysD a2 (fun _ h=>h) o,u8.sl.2⟩
   rw[show(zb5 (V.f.n:Int) (V.s.n:Int) m.cnt).sl=Xr m.sl.length 0 from by unfold zb5;simp only;rw[hn2,tN]]at this
   exact this
  ·have:jk W _ _:=⟨u8.sb.1.staysD a3 (fun _ h=>h) o,u8.sb.2⟩
   rw[show(zb5 (V.f.n:Int) (V.s.n:Int) m.cnt).sb=Xr m.sl.length zp from by unfold zb5;simp only;rw[hn2,tN]]at this
   exact this
  ·exact⟨u8.sq.1.staysD a4 (fun _ h=>h) o,u8.sq.2⟩
  have hs': [(⟨Xc,[],qG⟩:Sp)][i]? =Xa s:=hs
  cases i with
  | succ i=>simp at hs'
  | zero=>
   cases hs';have k:=r3 0 x _ hx rfl;refine⟨k.live,ziA k.ar,k.cap,⟨k.tb.len,k.tb.tlen,fun j v y hv hy=>?_⟩⟩
   have e:y=[]:=(List.mem_replicate.1 (show y∈Xr 8 []from mG hy)).2
   subst e;exact fun w' _=>ziA (k.tb.row j v [] hv hy).now
 go_wp2;refine bodyPost_ret (qL rfl _ rfl B9.box underlying41 rfl Kr) rfl ⟨⟨_,rfl,HMA,HPS⟩,G9⟩
theorem zkq (V:MaV) (m:Ma) (bs:Int) (w:Xn) (hm:zy w V m) (h:Rt m):
  Xp prog 14 #[Xi (mL V m).toArray,I6 bs] w fun e w'=>(∃V':MaV,e= Xl (Xm #[Xi #[V'.f.x,I6 0,V'.s.x,V'.sb.x,V'.sq.x,V'.db.x,V'.dq.x,V'.fl.x,I6 m.cnt,V'.ca.x,V'.sp.x],I6 0])/\zy w' V' (zi3 m (JL (QN bs) m.db m.dq))/\∃ps,V'.sp=⟨Xa ⟨ps,0,Xb⟩,1,1⟩)/\zc w w':=
 (zkp V m bs w hm h).mono fun _ _ h=>⟨h.1.imp fun _ k=>⟨k.1,k.2.1 _ (qD.refl _ _),k.2.2⟩,h.2⟩
theorem zks {α:Type} (p:α->Bool) {l:List α} {k:Nat} {x:α} (h:l[k]? =Xa x):(l.take (k+1)).countP p=(l.take k).countP p+(if p x=Xc then 1 else 0):=by
 rw[qe h,List.countP_append]
 simp[List.countP_cons]
theorem zet {l:List On} (y:On) (h:j<l.length):splice (zE l) (j*6) (onv y)=zE (l.set j y):=Qz (enc:=onv) (k:=6) y rfl l j (fun _ _=>rfl) h
theorem Zl {l:List On} {e:On} (h:l[j]? =Xa e) (i:Nat) (u) (a:(onv e)[i]? =Xa u):(zE l)[j*6+i]? =Xa u:=qM (enc:=onv) (k:=6) l j e (fun _ _=>rfl) h i u a
theorem jx (f:Nat->On):(zE (tab f)).length=384:=by rw[zkx,Qs]
theorem zdU {rest:List Oper} {c:Oper} {a:Act} {w:Xn} (d:c.guard=Xb) (p x) (i:c.op= .store 81 p x) (b k:Nat) (g:k<64) (hp:a.eval p= Xj (Xa ⟨b,k*6,Xb⟩)) (y:On) (j:a.eval x= Xi (onv y).toArray)
  {f:Nat->On} (e:Box w b (zE (tab f)))
  (h:∀w',Box w' b (zE (tab (upd f k y)))->w.grownBy w' (Xa b)->w'.heap.size=w.heap.size->wpList prog ops Q rest (a.put c.dst undef) w'):wpList prog ops Q (c :: rest) a w:=by
 refine zhh d 81 p x i b (k*6) hp (onv y) j e (by rw[jx];show _+6<=_;omega) zqC (zln y) fun w' c d e=>h w' ?_ d e
 rw[zet y (Rx Qs g),zhl]at c
 exact c
theorem Box.onCell {w:Xn} {k:Nat} {f:Nat->On} (h:Box w b (zE (tab f))) (g:k<64) (i:Nat) (u) (y:On) (a:(onv (f k)).set i u=onv y) (hi:i<6):Box (w.setCell ⟨b,k*6+i,Xb⟩ u) b (zE (tab (upd f k y))):=by
 have d:=h.set (k*6+i) u;have:(zE (tab f)).set (k*6+i) u=zE (tab (upd f k y)):=by
  rw[<-zhl,<-zet y (Rx Qs g),<-a]
  have a:=jx f
  apply Yd
  intro j;unfold splice;have c:((onv (f k)).set i u).length=6:=by simp[onv]
  rw[c]
  by_cases d:j<k*6
  ·rw[sN Wm,Xx (by simp;omega),List.getElem?_take_of_lt d]
  have a:((zE (tab f)).take (k*6)).length=k*6:=by simp;omega
  rw[aR Wm,a]
  by_cases a:j<k*6+6
  ·rw[Xx (by rw[c];omega)]
   have m:∀a,a<6->(zE (tab f))[k*6+a]? =(onv (f k))[a]?:=fun a e=>by
    obtain⟨v,l⟩:∃v,(onv (f k))[a]? =Xa v:=⟨_,gE (by simpa [onv]using e)⟩
    rw[l];exact Zl (Jh g) a v l
   by_cases e:j=k*6+i
   ·subst e;rw[sF Wm,show k*6+i - k*6=i by omega,sF (by simpa [onv]using hi)]
   rw[sN (fun h=>e h.symm),sN Wm,<-m _ Wm,show k*6+(j - k*6)=j by omega]
  rw[sN Wm,aR (by rw[c];omega),c,List.getElem?_drop]
  congr 1
  omega
 rw[this]at d;exact d
theorem zgG {cs:List Xq} {o k:Nat} (a:vs.length=k) (h:∀(i:Nat) u,vs[i]? =Xa u->cs[o+i]? =Xa u):cs.toArray.extract o (o+k)=vs.toArray:=by
 apply Array.ext_getElem?
 intro j;rw[Array.getElem?_extract]
 by_cases a:j<k
 ·obtain⟨u,b⟩:∃u,vs[j]? =Xa u:=⟨_,gE Wm⟩
  have a:=h j u b;have c:=(gS.1 a).1;rw[kE (by simp;omega)]
  simp[a,b]
 rw[kF Wm]
 simp;omega
theorem zm3 {w:Xn} {f:Nat->On} (i:Nat) (hi:i<64):(Instr.index 82 (Xi (zE (tab f)).toArray) (I6 (i:Int))).run prog w= .ok (Xi (onv (f i)).toArray) w:=by
 have e:(isAgg 81).run prog w= .ok Xc w:=by
  unfold isAgg;rw[Xu,run_underlying underlying81 w];rfl
 have g:(Go.sizeOf 81).run prog w= .ok 6 w:=by
  obtain⟨a,c,d⟩:∃a,Tryz.prog.info? 81=Xa a/\a.size=6:=by
   have:=zqC
   cases b:Tryz.prog.info? 81 with
   | none=>rw[b]at this;cases this
   | some a=>rw[b]at this;exact⟨a,rfl,by simpa using this⟩
  simp[Go.sizeOf,typeInfo,c,d]
 have a:(0:Int)<=(i:Int)/\(i:Int)< ((64:Nat):Int):=Wm
 have c:(zE (tab f)).toArray.extract (i*6) (i*6+6)=(onv (f i)).toArray:=zgG rfl fun j u b=>Zl (Jh hi) j u b
 simp only[Instr.index,asIntOf,Xu,Xt,rA,run_underlying underlying82];rw[kE a];simp only[Xu,g,rA,part,e,if_true,tN,Xt,c]
theorem zoB {rest:List Oper} {a:Act} {w:Xn} (b:o.guard=Xb) (x ix) (d:o.op= .index 82 x ix) (f:Nat->On) (e:a.eval x= Xi (zE (tab f)).toArray) (i:Nat) (c:a.eval ix=I6 (i:Int)) (hi:i<64)
  (h:wpList prog ops Q rest (a.put o.dst (Xi (onv (f i)).toArray)) w):wpList prog ops Q (o :: rest) a w:=by
 refine wpList_plain b fun K b=>?_
 unfold Oper.wp execOp;simp only[d,e,c,Xu,Xt,rA,zm3 i hi];exact b _ _ h
theorem zaK {rest:List Oper} {a:Act} {w:Xn} (b:o.guard=Xb) (x ix) (d:o.op= .index 82 x ix) (f:Nat->On) (g:a.eval x= Xi (zE (tab f)).toArray) (i:Nat) (c:a.eval ix=I6 (i:Int)) (hi:i<64) {v:Xq} (e: Xi (onv (f i)).toArray=v)
  (h:wpList prog ops Q rest (a.put o.dst v) w):wpList prog ops Q (o :: rest) a w:=zoB b x ix d f g i c hi (Rx e h)
theorem zkV {rest:List Oper} {a:Act} {w:Xn} (c:o.guard=Xb) (x) (g:o.op= .load 81 x) (b k:Nat) (e:k<64) (i:a.eval x= Xj (Xa ⟨b,k*6,Xb⟩)) {f:Nat->On} (d:Box w b (zE (tab f)))
  (h:wpList prog ops Q rest (a.put o.dst (Xi (onv (f k)).toArray)) w):wpList prog ops Q (o :: rest) a w:=
 wpList_load_mid c 81 x g b (k*6) i (onv (f k)) _ (d.mid _ fun j u c=>Zl (Jh e) j u c) underlying81 rfl zqC h
theorem zdV {rest:List Oper} {a:Act} {w:Xn} (c:o.guard=Xb) (x) (g:o.op= .load 81 x) (b k:Nat) (e:k<64) (j:a.eval x= Xj (Xa ⟨b,k*6,Xb⟩)) {f:Nat->On} (d:Box w b (zE (tab f))) {v:Xq} (i: Xi (onv (f k)).toArray=v)
  (h:wpList prog ops Q rest (a.put o.dst v) w):wpList prog ops Q (o :: rest) a w:=zkV c x g b k e j d (Rx i h)
theorem zp3:(Tryz.prog.info? 82).map (·.zero)=Xa (Xa (Xi (zE (tab fun _=>on0)).toArray)):=by kernel_rfl
theorem zaQ (w):(zeroValue 82).run prog w= .ok (Xi (zE (tab fun _=>on0)).toArray) w:=by
 have h:=zp3
 cases a:Tryz.prog.info? 82 with
 | none=>simp[a]at h
 | some i=>
  simp[a]at h
  simp[zeroValue,typeInfo,a,h]
def zpM (f:Nat->On):Nat->Ar:=fun n=>zal n (f n)
def zjN (l:List Ar) (i:Nat) (a:Ar) (n:Nat):Nat->On:=fun j=>if a.fr<=(j:Int)/\(j:Int)< (n:Int)then qw a j else zB (l.take i) j
theorem Qa.take:∀{l:List Ar} {p:Option Ar},Qa p l->∀i,Qa p (l.take i)
 | [],_,_,i=>by simp[Qa]
 | a :: l,p,h,0=>by simp[Qa]
 | a :: l,p,h,i+1=>⟨h.1,h.2.1,h.2.2.take i⟩
theorem Qa.free (h:Qa Xb l) {i:Nat} {a:Ar} (d:l[i]? =Xa a) (b:a.fr<=(j:Int)):zB (l.take i) j=on0:=by
 refine zaW fun x c=>zdw ?_
 have b:=h.take (i+1);rw[qe d]at b;obtain⟨d,e,f⟩:=JX.1 b
 cases b:JK Xb (l.take i)with
 | none=>
  unfold JK at b
  cases e:l.take i with
  | nil=>rw[e]at c;cases c
  | cons y g=>rw[e]at b;simp[List.getLast?_cons]at b
 | some y=>
  have q:=(f y b).1;have f:jQ y:=d.all y (by
   unfold JK at b
   split at b
   ·rename_i e e
    cases b;exact List.mem_of_getLast? e
   cases b)
  unfold jQ at f
  rcases ze4 _ Xb d x c y b with e|e
  ·rw[e];omega
  omega
theorem zlw {i:Nat} {a:Ar} {n:Nat} (b:(n:Int)=a.fr):zjN l i a n=zB (l.take i):=by
 funext j
 unfold zjN;rw[kF Wm]
def zpB (l:List Ar):Prop:=(∀a∈l,jQ a)/\∀(i:Nat) a,l[i]? =Xa a->∀j:Nat,a.fr<=(j:Int)->zB (l.take i) j=on0
theorem Qa.lies (h:Qa Xb l):zpB l:=⟨h.all,fun _ _ a _ b=>h.free a b⟩
theorem zny {b a:Ar} (e:jQ b) (d:jQ a) (c:b.tz<=a.fr):zpB [b,a]:=by
 refine⟨fun x c=>?_,fun i x c j f=>?_⟩
 ·simp at c
  rcases c with rfl|rfl
  ·exact e
  exact d
 match i with
 | 0=>rfl
 | 1=>
  simp at c
  subst c
  show zB [b] j=on0
  rw[zaV (.inr Wm)]
  rfl
 | k+2=>simp at c
theorem znz {a:Ar} (c:jQ a):zpB [a]:=by
 refine⟨fun x b=>?_,fun i x b j d=>?_⟩
 ·simp at b
  subst b;exact c
 match i with
 | 0=>rfl
 | k+1=>simp at b
theorem zlx {i:Nat} {a:Ar} {n:Nat} (b:a.fr<=(n:Int)):upd (zjN l i a n) n (qw a n)=zjN l i a (n+1):=by
 funext j
 unfold upd zjN
 by_cases e:j=n
 ·subst e;rw[kE rfl,kE Wm]
 rw[kF e]
 by_cases h:a.fr<=(j:Int)/\(j:Int)< (n:Int)
 ·rw[kE h,kE Wm]
 rw[kF h,kF Wm]
theorem znt {i:Nat} {a:Ar} {n:Nat} (h:zpB l) (c:l[i]? =Xa a) (b:(n:Int)=a.tz):zjN l i a n=zB (l.take (i+1)):=by
 funext j
 unfold zjN;rw[qe c,JH]
 ·by_cases b:a.fr<=(j:Int)/\(j:Int)< (n:Int)
  ·rw[kE b,kE (z5.2 Wm)]
  rw[kF b,kF (fun d=>b (Hm (z5.1 d)))]
 by_cases b:a.fr<=(j:Int)
 ·exact .inl (h.2 i a c j b)
 exact .inr (zdw Wm)
theorem zoE {α:Type} (f:Nat->α) (k:Nat) (x y:α):upd (upd f k x) k y=upd f k y:=by
 funext j
 unfold upd
 by_cases e:j=k
 ·rw[kE e,kE e]
 rw[kF e,kF e,kF e]
theorem jB (v l w) (hv:zl arE w v l) (hok:zpB l):
  Xp prog 22 #[v] w fun e w'=>e= Xl (Xi (zE (tab (zB l))).toArray)/\zc w w':=by
 have hbig:=hv.short;obtain⟨a,c,rfl,hrow⟩:=hv.ars;have HR:=dD hrow;have HOK:=dD hok;clear hrow hv hok;have hz:=zaQ;obtain⟨Z0,HZ0⟩:=kA (zE (tab fun _=>on0))
 rw[HZ0.out]at hz;have HZL:Xo (Z0.length=384):=dD<|by rw[<-HZ0.out,jx]
 obtain⟨C,HC⟩:=kA (zE (tab (zB l)));rw[HC.out];obtain⟨n,HN⟩:=kA l.length;rw[HN.out]at hbig⊢;obtain⟨W0,hW0⟩:=kB ((w.alloc (Xk Z0.toArray 82)).alloc (Xk Z0.toArray 82));have HG0:=gD2 hW0
 have Y0:Xo (Box W0 w.heap.size Z0):=dD<|by rw[<-hW0];exact(Box.top _ _ _ Sm).alloc _
 have L0:Xo (Box W0 (w.heap.size+1) (zE (tab (zB (l.take 0))))):=dD<|by rw[<-hW0,List.take_zero,show zB ([]:List Ar)=fun _=>on0 from rfl,HZ0.out];exact Box.top _ _ _ Sm
 have HW0:=dD hW0;clear hW0
 go_enter func22,ntmps22
 go_upto_region 2 with fail;rw[HW0.out];clear hz;go_wp2
 go_loopg [9] n (fun gg s9 wr=>∃kk:Nat,kk<=n/\n - kk<=gg/\s9=I6 kk/\Xo (zc w wr)/\Xo (Box wr w.heap.size Z0)/\Xo (Box wr (w.heap.size+1) (zE (tab (zB (l.take kk))))))
 exact⟨0,nZ _,Wm,rfl,HG0,Y0,L0⟩
 obtain⟨kk,hkk,hg,rfl,BW,YW,LW⟩:=hrel
 by_cases hlt:kk<n
 ·have hltz:=kC hlt
  obtain⟨q,HQ⟩:∃q,Xo (l[kk]? =Xa q):=⟨_,gE (Rx HN.out hlt)⟩
  obtain⟨ad,rfl,hl⟩:=HR.out kk q HQ.out;obtain⟨d0,d1,d2,d3,d4,d5,d6⟩:=hl wr BW.out;have HQK:=dD<|HOK.1 q (mG HQ);have hqb:0<=q.fr/\q.fr<q.tz/\q.tz<=64/\0<=q.base/\q.base<=12:=by
   have:=HQK.out;unfold jQ at this
   rcases Int.lt_or_le q.file 0 with h|h
   ·omega
   omega
  obtain⟨hq1,hq2,hq3,hq4,hq5⟩:=hqb;obtain⟨p,HP⟩:=kA wr.heap.size;have HLP:Xo (w.heap.size+1<p):=dD<|Ry HP.out LW.lt
  clear hl;go_upto_region 5 with fail;obtain⟨W1,hW1⟩:=kB (wr.alloc (Xk #[I6 q.fr,I6 q.tz,Xh q.rd,Xh q.wr,Xh q.sh,I6 q.file,I6 q.base] 105));have G1:=gT hW1 BW
  have Y1:=yA hW1 YW
  obtain⟨f0,hf0⟩:∃f0:Nat,(f0:Int)=q.fr:=⟨q.fr.toNat,Wm⟩
  have L1:Xo (Box W1 (w.heap.size+1) (zE (tab (zjN l kk q f0)))):=dD<|by rw[<-hW1,zlw hf0];exact LW.alloc _
  have P1:=xP hW1 HP
  rw[hW1,HP.out];clear hW1 d0 d1 d2 d3 d4 d5 d6;have p0:=P1.c 0 rfl;go_wp2
  go_loopg [6] (q.tz.toNat - f0) (fun g2 s6 wr2=>∃k2:Nat,f0<=k2/\(k2:Int)<=q.tz/\q.tz.toNat - k2<=g2/\s6=I6 k2/\Xo (zc w wr2)/\Xo (Box wr2 w.heap.size Z0)/\Xo (Box wr2 (w.heap.size+1) (zE (tab (zjN l kk q k2))))/\Xo (Box wr2 p [I6 q.fr,I6 q.tz,Xh q.rd,Xh q.wr,Xh q.sh,I6 q.file,I6 q.base]))
  exact⟨f0,nR _,Wm,Wm,by rw[hf0],G1,Y1,L1,P1⟩
  obtain⟨k2,hk2,hk2',hg2,rfl,BW2,YW2,LW2,PW2⟩:=hrel;clear p0;have p1:=PW2.c 1 rfl
  by_cases hlt2:(k2:Int)<q.tz
  ·have hi64:k2<64:=Wm
   have hi64z:(k2:Int)<64:=Wm
   have HST:Xo (upd (zjN l kk q k2) k2 (qw q k2)=zjN l kk q (k2+1)):=zlx (l:=l) (i:=kk) (a:=q) (n:=k2) Wm
   have p2:=PW2.c 2 rfl;have p3:=PW2.c 3 rfl;have p4:=PW2.c 4 rfl;have p5:=PW2.c 5 rfl
   go_wp2_with (refine zdU rfl (.tmp 31) (.tmp 30) rfl (w.heap.size+1) k2 hi64 rfl ⟨Xc,q.rd,q.wr,q.sh,q.file,0⟩ rfl LW2.out ?_)
   intro W3 b3 g3 s3;have L3:=dD b3;have G3:Xo (zc w W3):=zd BW2 g3 Sm
   have Y3:Xo (Box W3 w.heap.size Z0):=YW2.beside g3 (by intro g hg;cases hg;simp)
   have P3:Xo (Box W3 p [I6 q.fr,I6 q.tz,Xh q.rd,Xh q.wr,Xh q.sh,I6 q.file,I6 q.base]):=PW2.beside g3 (by intro g hg;cases hg;have:=HLP.out;omega)
   clear b3 g3 s3 p1 p2 p3 p4 p5;have p5:=P3.c 5 rfl
   by_cases hfile:0<=q.file
   ·have HONE:Xo (qw q k2=⟨Xc,q.rd,q.wr,q.sh,q.file,q.base+(k2:Int) - q.fr⟩):=dD<|by
     unfold qw;rw[kE hfile]
     congr 1
     omega
    have p0:=P3.c 0 rfl;have p6:=P3.c 6 rfl;have l5:=L3.c (k2*6+5) (Zl (Jh hi64) 5 (I6 0) (by unfold upd;rw[kE rfl];rfl))
    have lf:=L3.f;go_upto_region 7 with fail;obtain⟨W4,hW4⟩:=kB (W3.setCell ⟨w.heap.size+1,k2*6+5,Xb⟩ (I6 (q.base+(k2:Int) - q.fr)));have L4:Xo (Box W4 (w.heap.size+1) (zE (tab (zjN l kk q (k2+1))))):=dD<|by
     rw[<-hW4];have:=L3.onCell hi64 5 (I6 (q.base+(k2:Int) - q.fr)) (qw q k2) (by rw[HONE.out];unfold upd;rw[kE rfl];rfl) Wm
     rw[zoE,HST.out]at this;exact this
    have G4:Xo (zc w W4):=dD<|by rw[<-hW4];exact zq G3 Sm _
    have Y4:Xo (Box W4 w.heap.size Z0):=dD<|by rw[<-hW4];exact Y3.other Sm _
    have P4:Xo (Box W4 p [I6 q.fr,I6 q.tz,Xh q.rd,Xh q.wr,Xh q.sh,I6 q.file,I6 q.base]):=dD<|by rw[<-hW4];exact P3.other (by have:=HLP.out;simp;omega) _
    rw[hW4];clear hW4 l5 lf p0 p5 p6;go_wp2
    go_roundg (q.tz.toNat -(k2+1));exact⟨k2+1,Wm,Wm,Wm,Gn,G4,Y4,L4,P4⟩;omega
   have HONE:Xo (qw q k2=⟨Xc,q.rd,q.wr,q.sh,q.file,0⟩):=dD<|by
    unfold qw;rw[kF hfile]
   have L4:Xo (Box W3 (w.heap.size+1) (zE (tab (zjN l kk q (k2+1))))):=dD<|by rw[<-HST.out,HONE.out];exact L3.out
   go_wp2
   go_roundg (q.tz.toNat -(k2+1));exact⟨k2+1,Wm,Wm,Wm,Gn,G3,Y3,L4,P3⟩;omega
  have hke:(k2:Int)=q.tz:=Wm
  have LE:Xo (Box wr (w.heap.size+1) (zE (tab (zB (l.take (kk+1)))))):=dD<|by rw[<-znt HOK.out HQ.out hke];exact LW2.out
  go_wp2
  go_roundg (n -(kk+1));exact⟨kk+1,Wm,Wm,Gn,BW2,YW2,LE⟩;omega
 have hltz:=kD hlt
 have:kk=n:=Wm
 subst this;have LE:Xo (Box wr (w.heap.size+1) C):=dD<|by rw[<-HC.out];have:=LW.out;rw[<-HN.out,List.take_length]at this;exact this
 have HFL:Xo (C.length=384):=dD<|by rw[<-HC.out,jx]
 have HFO:Xo (∀v∈C,v.oneCell'=Xc):=dD<|by rw[<-HC.out];exact QO _
 go_wp2_with (first | refine zK rfl 82 (.tmp 3) rfl (w.heap.size+1) rfl LE underlying82 rfl (Rx HFL.out zqD) ?_ | refine zr rfl 82 (.tmp 2) (.tmp 46) rfl w.heap.size rfl C rfl YW (by rw[HFL.out,HZL.out]) (Rx HZL.out zqD) HFO.out ?_)
 intro W3 b3 g3 s3;have G3:Xo (zc w W3):=dD<|zd BW g3 Sm
 have B3:=dD b3;clear b3 g3 s3;go_wp2;refine bodyPost_ret (zX rfl _ rfl B3 underlying82 rfl (Rx HFL.out zqD)) rfl ⟨rfl,G3⟩
theorem znc {f:Nat->On} {k:Nat} (h:(f k).is=Xc):zpM f k=⟨k,(k:Int)+1,(f k).rd,(f k).wr,(f k).sh,(f k).file,(f k).page⟩:=by
 unfold zpM zal;rw[kE h]
theorem zpT (x y:On):zng ⟨y.is,y.rd,y.wr,y.sh,y.file,if 0<=x.file then y.page+1 else y.page⟩ x=goJ x y:=by
 unfold zng goJ;have a:∀x y:Int,(x == y)=decide (x=y):=fun x y=>rfl
 simp only[a]
theorem zbT (f:Nat->On) (w:Xn) (I:zip f):
  Xp prog 95 #[Xi (zE (tab f)).toArray] w fun e w'=>(∃v,e= Xl v/\zb arE (w.heap.size+1) w' v (ZX f))/\zc w w':=by
 have K:=dD I;clear I;have be:Xo ((zE (tab f)).length=384):=jx _;obtain⟨Z,U⟩:=kB (w.alloc (Xk (zE (tab f)).toArray 82));have bf:=gA U
 have b3:=xA U
 have r:=sA U
 have bj:Xo (_=Z):=U;clear U
 go_enter func95,ntmps95
 go_upto_region 1 with fail;rw[bj.out]
 go_wp2_with (refine zK rfl 82 (.tmp 1) rfl w.heap.size rfl b3 underlying82 rfl (Rx be.out zqD) ?_)
 go_loopg [3,9] 64 (fun cb ci cj wr=>∃(b:Nat) (a:List Ar) (a4:Option Addr) (C:Nat),b<=64/\64 - b<=cb/\cj=I6 b/\ci= O a4 a.length C/\Xo (zc Z wr)/\Xo (zb arE (w.heap.size+1) wr (O a4 a.length C) a)/\Xo (J f b a))
 exact⟨0,[],Xb,0,nZ _,Wm,rfl,rfl,zc.refl _,zb.nil _ _ _,J.zero f⟩
 obtain⟨b,a,a4,C,cf,cc,rfl,rfl,ar,bp,aj⟩:=hrel
 by_cases X:b<64
 ·have b5:(b:Int)<64:=Wm
  have q:=dD aj.len;have ca:=dD (b3.grew ar);obtain⟨ab,bg⟩:=kA wr.heap.size;have bh:Xo (wr.heap.size<=ab):=show _<=_ by rw[bg.out];exact nR _
  cases ak:(f b).is with
  | false=>
   have a1:Xo (Value.agg (onv (f b)).toArray= Xi #[Xh Xd,Xh (f b).rd,Xh (f b).wr,Xh (f b).sh,I6 (f b).file,I6 (f b).page]):=dD<|by rw[<-ak];rfl
   have Q:=dD<|aj.skip ((K b X).1 ak);clear ak
   go_wp2_with (refine zaK rfl (.tmp 8) (.tmp 9) rfl f rfl b rfl X a1.out ?_)
   go_roundg (64 -(b+1));exact⟨b+1,a,a4,C,Wm,Wm,Gn,rfl,ar.trans (za _ _),bp.grew (za _ _),Q⟩;omega
  | true=>
   have az:=dD ak;have ah:Xo (zal b (f b)=⟨b,(b:Int)+1,(f b).rd,(f b).wr,(f b).sh,(f b).file,(f b).page⟩):=znc ak;have N:Xo ((∀c,a.getLast? =Xa c->goB (zal b (f b)) c=Xd)->J f (b+1) (a++ [zal b (f b)])):=fun a3=>aj.new K X az a3
   have a7:Xo (∀c0 c,a=c0++ [c]->goB (zal b (f b)) c=Xc->J f (b+1) (c0++ [{ c with tz:=(b:Int)+1 }])):=fun c0 c T ap=>by
    have:=aj.out;rw[T]at this;exact this.ext K X az ap
   have a1:Xo (Value.agg (onv (f b)).toArray= Xi #[Xh Xc,Xh (f b).rd,Xh (f b).wr,Xh (f b).sh,I6 (f b).file,I6 (f b).page]):=dD<|by rw[<-ak];rfl
   clear ak;obtain⟨x,H⟩:=kA (f b);rw[H.out]at a1;have av:Xo (Value.agg (onv (f b)).toArray= Xi #[Xh Xc,Xh x.rd,Xh x.wr,Xh x.sh,I6 x.file,I6 x.page]):=dD<|Rx H.out a1.out
   go_upto_region 5 with(refine zaK rfl (.tmp 8) (.tmp 9) rfl f rfl b rfl X av.out ?_)
   obtain⟨b1,F⟩:=kB (wr.alloc (Xk #[Xh Xc,Xh x.rd,Xh x.wr,Xh x.sh,I6 x.file,I6 x.page] 81));have bc:=gT F ar
   have bm:Xo (zb arE (w.heap.size+1) b1 (O a4 a.length C) a):=dD<|by rw[<-F];exact bp.grew (za _ _)
   have a8:=xP F bg
   have c9:=yA F ca
   rw[F,bg.out];clear F;have c4:=a8.c 0 rfl
   cases b with
   | zero=>
    have aw:=dD aj.first;have Q:Xo (J f (0+1) (a++ [⟨((0:Nat):Int),((0:Nat):Int)+1,x.rd,x.wr,x.sh,x.file,x.page⟩])):=show J _ _ _ by
     have:=N.out (fun c aq=>by rw[aw.out]at aq;cases aq)
     rw[ah.out,H.out]at this;exact this
    go_upto_region 14 with fail;clear c4;have g:Xo (w.heap.size+1<=b1.heap.size):=dD<|by rw[<-r.out];exact bS bc.out
    have b8:=a8.c 1 rfl;have b9:=a8.c 2 rfl;have ba:=a8.c 3 rfl;have ac:=a8.c 4 rfl;have bb:=a8.c 5 rfl
    go_wp2_with (at_builtin;refine zn (E:=arE) rfl (.tmp 41) (.tmp 56) rfl (w.heap.size+1) _ a rfl (bm.grew (za _ _)) _ [⟨((0:Nat):Int),((0:Nat):Int)+1,x.rd,x.wr,x.sh,x.file,x.page⟩] rfl (qN arE b1 ⟨((0:Nat):Int),((0:Nat):Int)+1,x.rd,x.wr,x.sh,x.file,x.page⟩ _ _ rfl (by show 40<=_;omega)) ?qb ?qc ?_)
    case qb=>
     show(a.length+1)*40<=_
     have:=q.out;omega
    case qc=>first | exact g.out | exact nT g (Of _) | (have:=g.out;omega) | (simp;have:=g.out;omega)
    intro c5 a9 own s;obtain⟨u,z,rfl⟩:=own.form;have R:Xo (zb arE (w.heap.size+1) a9 (.slice u (a++ [(⟨((0:Nat):Int),((0:Nat):Int)+1,x.rd,x.wr,x.sh,x.file,x.page⟩:Ar)]).length z) (a++ [⟨((0:Nat):Int),((0:Nat):Int)+1,x.rd,x.wr,x.sh,x.file,x.page⟩])):=own;have a6:Xo (zc Z a9):=show zc _ _ from zT (bc.trans (za _ _)) s (fun n I=>by
     have T:=(bm.lt n I).1;rw[r.out];exact T)
    have c3:=dD (b3.grew a6);clear own s b8 b9 ba ac bb;go_wp2
    go_roundg (64 -(0+1));exact⟨0+1,a++ [(⟨((0:Nat):Int),((0:Nat):Int)+1,x.rd,x.wr,x.sh,x.file,x.page⟩:Ar)],u,z,Wm,Wm,Gn,rfl,a6,R,Q⟩;omega
   | succ j=>
    have aa:j<64:=Wm
    have bt:(j:Int)<64:=Wm
    have ce:(0:Int)< ((j+1:Nat):Int):=Wm
    have cd:((j+1:Nat):Int) - 1=(j:Int):=Wm
    have au:=aj.go az.out;obtain⟨y,bk⟩:=kA (f j);have bz:0<=y.page/\y.page<=12:=by
     rw[<-bk.out];have T:=K.out j aa
     cases bx:(f j).is with
     | false=>rw[T.1 bx];exact⟨Dc,Dc⟩
     | true=>
      have ap:=T.2 bx;unfold jQ zal at ap;rw[kE bx]at ap;simp only at ap
      rcases Int.lt_or_le (f j).file 0 with a3|a3
      ·omega
      omega
    obtain⟨cg,ch⟩:=bz;have bl:Xo (Value.agg (onv (f j)).toArray= Xi #[Xh y.is,Xh y.rd,Xh y.wr,Xh y.sh,I6 y.file,I6 y.page]):=dD<|Rr bk.out
    have a0:=zpT x y;rw[H.out,bk.out]at au;have l:Xo _:=au;obtain⟨ad,ag⟩:=kA b1.heap.size;have ax:Xo (ab<ad):=dD<|Ry ag.out a8.lt
    go_upto_region 9 with(refine zdV rfl (.tmp 20) rfl w.heap.size j aa rfl c9 bl.out ?_)
    clear c4;obtain⟨an,G⟩:=kB (b1.alloc (Xk #[Xh y.is,Xh y.rd,Xh y.wr,Xh y.sh,I6 y.file,I6 y.page] 81));have c2:=gT G bc
    have bn:Xo (zb arE (w.heap.size+1) an (O a4 a.length C) a):=dD<|by rw[<-G];exact bm.grew (za _ _)
    have bq:=yA G a8
    have b4:=xPT G ag
    rw[G,ag.out];clear G;have ac:=bq.c 4 rfl
    by_cases V:0<=x.file
    ·rw[kE V]at a0;have ay:=fun bs=>zpN y.is Xc y.rd x.rd y.wr x.wr y.sh x.sh y.file x.file (y.page+1) x.page bs
     have ai:Xo ((⟨Xc,x.rd,x.wr,x.sh,x.file,x.page⟩:On)=x):=dD<|by
      have a3:=az.out;rw[H.out]at a3;rw[<-a3]
     rw[ai.out,a0]at ay;obtain⟨br,bi⟩:=kA (goJ x y);rw[bi.out]at ay l;have cl:=b4.box.c 5 rfl;have cm:=b4.box.f;go_upto_region 11 with fail;obtain⟨a2,p⟩:=kB (an.setCell ⟨ad,5,Xb⟩ (I6 (y.page+1)));have b0:Xo (Z.heap.size<=ad):=dD<|by have T:=ax.out;have ap:=bS ar.out;have cn:=bh.out;omega
     have a5:Xo (zc Z a2):=dD<|by rw[<-p];exact zq c2 b0.out _
     have D:Xo (zb arE (w.heap.size+1) a2 (O a4 a.length C) a):=dD<|by rw[<-p];exact bn.setOther (fun n I=>bn.ne b4 Dc n I) _
     have A:Xo (Box a2 ab [Xh Xc,Xh x.rd,Xh x.wr,Xh x.sh,I6 x.file,I6 x.page]):=dD<|by rw[<-p];exact bq.other (by have:=ax.out;simp;omega) _
     have ao:Xo (Box a2 ad [Xh y.is,Xh y.rd,Xh y.wr,Xh y.sh,I6 y.file,I6 (y.page+1)]):=dD<|by rw[<-p];exact b4.box.set 5 _
     rw[p];clear p cl cm ac
     cases br with
     | true=>
      obtain⟨c,k,W⟩:=l.1 rfl;have h:=zhq k;obtain⟨d,t⟩:=kB a.dropLast;rw[t]at h;have i:=dD h;have Q:Xo (J f (j+1+1) (d++ [{ c with tz:=((j+1:Nat):Int)+1 }])):=a7.out d c h (Rx H.out W)
      obtain⟨m,M⟩:=kA d.length;have B:Xo (a.length=m+1):=dD<|by rw[i.out,<-M.out];simp
      have af:Xo (a[m]? =Xa c):=dD<|by rw[i.out,<-M.out];simp
      obtain⟨n,c1,al⟩:=D.formS (by rw[B.out];omega)
      cases al;have bw:((m+1:Nat):Int) - 1=(m:Int):=Wm
      have bu:(0:Int)<=(m:Int):=Wm
      have b6:(m:Int)< ((m+1:Nat):Int):=Wm
      have bv:m+1<=64:=by have:=q.out;rw[B.out]at this;omega
      clear k W h t;rw[B.out]at D⊢;have P:Xo (a.set m { c with tz:=((j+1:Nat):Int)+1 }=d++ [{ c with tz:=((j+1:Nat):Int)+1 }]):=dD<|by rw[i.out,Yl _ _ (by rw[M.out];exact nR _),M,Yg];rfl
      go_wp2_with (first | refine zK rfl 81 (.tmp 7) rfl ad rfl ao underlying81 rfl zqC ?_ | refine zK rfl 81 (.tmp 5) rfl ab rfl A underlying81 rfl zqC ?_ | refine zD (E:=arE) rfl (.tmp 40) (.tmp 38) 3 rfl (w.heap.size+1) (O (Xa ⟨n,0,Xb⟩) (m+1) C) a D n m 1 rfl c { c with tz:=((j+1:Nat):Int)+1 } af.out [I6 (((j+1:Nat):Int)+1)] Kr rfl (Xy rfl) (by intro ck b7;simp at b7;subst b7;rfl) _ rfl (by simp;rfl) _ rfl rfl ?_)
      intro b2 Y S am;have ae:=D.lt n rfl;have bd:Xo (zc Z b2):=dD<|zd a5 S (Rx r.out ae.1)
      have L:Xo ((d++ [({ c with tz:=((j+1:Nat):Int)+1 }:Ar)]).length=m+1):=dD<|by simp[M.out]
      have bo:Xo (zb arE (w.heap.size+1) b2 (.slice (Xa ⟨n,0,Xb⟩) (d++ [({ c with tz:=((j+1:Nat):Int)+1 }:Ar)]).length C) (d++ [{ c with tz:=((j+1:Nat):Int)+1 }])):=dD<|by rw[L.out,<-P.out];exact Y
      clear Y S am;rw[<-L.out];go_wp2
      go_roundg (64 -(j+1+1));exact⟨j+1+1,d++ [({ c with tz:=((j+1:Nat):Int)+1 }:Ar)],Xa ⟨n,0,Xb⟩,C,Wm,Wm,Gn,rfl,bd,bo,Q⟩;omega
     | false=>
      have Q:Xo (J f (j+1+1) (a++ [⟨((j+1:Nat)),(((j+1:Nat)):Int)+1,x.rd,x.wr,x.sh,x.file,x.page⟩])):=dD<|by
       have:=N.out (fun c aq=>Rx H.out (l.2 rfl c aq))
       rw[ah.out,H.out]at this;exact this
      go_upto_region 14 with(first | refine zK rfl 81 (.tmp 7) rfl ad rfl ao underlying81 rfl zqC ?_ | refine zK rfl 81 (.tmp 5) rfl ab rfl A underlying81 rfl zqC ?_)
      have g:Xo (w.heap.size+1<=a2.heap.size):=dD<|by rw[<-r.out];exact bS a5.out
      have b8:=A.c 1 rfl;have b9:=A.c 2 rfl;have ba:=A.c 3 rfl;have ac:=A.c 4 rfl;have bb:=A.c 5 rfl
      go_wp2_with (at_builtin;refine zn (E:=arE) rfl (.tmp 41) (.tmp 56) rfl (w.heap.size+1) _ a rfl (D.grew (za _ _)) _ [⟨((j+1:Nat):Int),((j+1:Nat):Int)+1,x.rd,x.wr,x.sh,x.file,x.page⟩] rfl (qN arE a2 ⟨((j+1:Nat):Int),((j+1:Nat):Int)+1,x.rd,x.wr,x.sh,x.file,x.page⟩ _ _ rfl (by show 40<=_;omega)) ?qb ?qc ?_)
      case qb=>
       show(a.length+1)*40<=_
       have:=q.out;omega
      case qc=>first | exact g.out | exact nT g (Of _) | (have:=g.out;omega) | (simp;have:=g.out;omega)
      intro c5 a9 own s;obtain⟨u,z,rfl⟩:=own.form;have R:Xo (zb arE (w.heap.size+1) a9 (.slice u (a++ [(⟨((j+1:Nat):Int),((j+1:Nat):Int)+1,x.rd,x.wr,x.sh,x.file,x.page⟩:Ar)]).length z) (a++ [⟨((j+1:Nat):Int),((j+1:Nat):Int)+1,x.rd,x.wr,x.sh,x.file,x.page⟩])):=own;have a6:Xo (zc Z a9):=show zc _ _ from zT (a5.trans (za _ _)) s (fun n I=>by
       have T:=(D.lt n I).1;rw[r.out];exact T)
      have c3:=dD (b3.grew a6);clear own s b8 b9 ba ac bb;go_wp2
      go_roundg (64 -((j+1)+1));exact⟨(j+1)+1,a++ [(⟨((j+1:Nat):Int),((j+1:Nat):Int)+1,x.rd,x.wr,x.sh,x.file,x.page⟩:Ar)],u,z,Wm,Wm,Gn,rfl,a6,R,Q⟩;omega
    rw[kF V]at a0;have ay:=fun bs=>zpN y.is Xc y.rd x.rd y.wr x.wr y.sh x.sh y.file x.file y.page x.page bs
    have ai:Xo ((⟨Xc,x.rd,x.wr,x.sh,x.file,x.page⟩:On)=x):=dD<|by
     have a3:=az.out;rw[H.out]at a3;rw[<-a3]
    rw[ai.out,a0]at ay;obtain⟨br,bi⟩:=kA (goJ x y);rw[bi.out]at ay l;go_upto_region 11 with fail;clear ac;have a5:Xo (zc Z an):=c2;have D:Xo (zb arE (w.heap.size+1) an (O a4 a.length C) a):=bn;have A:Xo (Box an ab [Xh Xc,Xh x.rd,Xh x.wr,Xh x.sh,I6 x.file,I6 x.page]):=bq;have ao:=dD b4.box;obtain⟨a2,p⟩:=kB an;rw[p]at a5 D A ao⊢;clear p
    cases br with
    | true=>
     obtain⟨c,k,W⟩:=l.1 rfl;have h:=zhq k;obtain⟨d,t⟩:=kB a.dropLast;rw[t]at h;have i:=dD h;have Q:Xo (J f (j+1+1) (d++ [{ c with tz:=((j+1:Nat):Int)+1 }])):=a7.out d c h (Rx H.out W)
     obtain⟨m,M⟩:=kA d.length;have B:Xo (a.length=m+1):=dD<|by rw[i.out,<-M.out];simp
     have af:Xo (a[m]? =Xa c):=dD<|by rw[i.out,<-M.out];simp
     obtain⟨n,c1,al⟩:=D.formS (by rw[B.out];omega)
     cases al;have bw:((m+1:Nat):Int) - 1=(m:Int):=Wm
     have bu:(0:Int)<=(m:Int):=Wm
     have b6:(m:Int)< ((m+1:Nat):Int):=Wm
     have bv:m+1<=64:=by have:=q.out;rw[B.out]at this;omega
     clear k W h t;rw[B.out]at D⊢;have P:Xo (a.set m { c with tz:=((j+1:Nat):Int)+1 }=d++ [{ c with tz:=((j+1:Nat):Int)+1 }]):=dD<|by rw[i.out,Yl _ _ (by rw[M.out];exact nR _),M,Yg];rfl
     go_wp2_with (first | refine zK rfl 81 (.tmp 7) rfl ad rfl ao underlying81 rfl zqC ?_ | refine zK rfl 81 (.tmp 5) rfl ab rfl A underlying81 rfl zqC ?_ | refine zD (E:=arE) rfl (.tmp 40) (.tmp 38) 3 rfl (w.heap.size+1) (O (Xa ⟨n,0,Xb⟩) (m+1) C) a D n m 1 rfl c { c with tz:=((j+1:Nat):Int)+1 } af.out [I6 (((j+1:Nat):Int)+1)] Kr rfl (Xy rfl) (by intro ck b7;simp at b7;subst b7;rfl) _ rfl (by simp;rfl) _ rfl rfl ?_)
     intro b2 Y S am;have ae:=D.lt n rfl;have bd:Xo (zc Z b2):=dD<|zd a5 S (Rx r.out ae.1)
     have L:Xo ((d++ [({ c with tz:=((j+1:Nat):Int)+1 }:Ar)]).length=m+1):=dD<|by simp[M.out]
     have bo:Xo (zb arE (w.heap.size+1) b2 (.slice (Xa ⟨n,0,Xb⟩) (d++ [({ c with tz:=((j+1:Nat):Int)+1 }:Ar)]).length C) (d++ [{ c with tz:=((j+1:Nat):Int)+1 }])):=dD<|by rw[L.out,<-P.out];exact Y
     clear Y S am;rw[<-L.out];go_wp2
     go_roundg (64 -(j+1+1));exact⟨j+1+1,d++ [({ c with tz:=((j+1:Nat):Int)+1 }:Ar)],Xa ⟨n,0,Xb⟩,C,Wm,Wm,Gn,rfl,bd,bo,Q⟩;omega
    | false=>
     have Q:Xo (J f (j+1+1) (a++ [⟨((j+1:Nat)),(((j+1:Nat)):Int)+1,x.rd,x.wr,x.sh,x.file,x.page⟩])):=dD<|by
      have:=N.out (fun c aq=>Rx H.out (l.2 rfl c aq))
      rw[ah.out,H.out]at this;exact this
     go_upto_region 14 with(first | refine zK rfl 81 (.tmp 7) rfl ad rfl ao underlying81 rfl zqC ?_ | refine zK rfl 81 (.tmp 5) rfl ab rfl A underlying81 rfl zqC ?_)
     have g:Xo (w.heap.size+1<=a2.heap.size):=dD<|by rw[<-r.out];exact bS a5.out
     have b8:=A.c 1 rfl;have b9:=A.c 2 rfl;have ba:=A.c 3 rfl;have ac:=A.c 4 rfl;have bb:=A.c 5 rfl
     go_wp2_with (at_builtin;refine zn (E:=arE) rfl (.tmp 41) (.tmp 56) rfl (w.heap.size+1) _ a rfl (D.grew (za _ _)) _ [⟨((j+1:Nat):Int),((j+1:Nat):Int)+1,x.rd,x.wr,x.sh,x.file,x.page⟩] rfl (qN arE a2 ⟨((j+1:Nat):Int),((j+1:Nat):Int)+1,x.rd,x.wr,x.sh,x.file,x.page⟩ _ _ rfl (by show 40<=_;omega)) ?qb ?qc ?_)
     case qb=>
      show(a.length+1)*40<=_
      have:=q.out;omega
     case qc=>first | exact g.out | exact nT g (Of _) | (have:=g.out;omega) | (simp;have:=g.out;omega)
     intro c5 a9 own s;obtain⟨u,z,rfl⟩:=own.form;have R:Xo (zb arE (w.heap.size+1) a9 (.slice u (a++ [(⟨((j+1:Nat):Int),((j+1:Nat):Int)+1,x.rd,x.wr,x.sh,x.file,x.page⟩:Ar)]).length z) (a++ [⟨((j+1:Nat):Int),((j+1:Nat):Int)+1,x.rd,x.wr,x.sh,x.file,x.page⟩])):=own;have a6:Xo (zc Z a9):=show zc _ _ from zT (a5.trans (za _ _)) s (fun n I=>by
      have T:=(D.lt n I).1;rw[r.out];exact T)
     have c3:=dD (b3.grew a6);clear own s b8 b9 ba ac bb;go_wp2
     go_roundg (64 -((j+1)+1));exact⟨(j+1)+1,a++ [(⟨((j+1:Nat):Int),((j+1:Nat):Int)+1,x.rd,x.wr,x.sh,x.file,x.page⟩:Ar)],u,z,Wm,Wm,Gn,rfl,a6,R,Q⟩;omega
 have b5:¬(b:Int)<64:=Wm
 have:b=64:=Wm
 subst this;have c7:=dD<|aj.all K.out;have c8:Xo (zb arE (w.heap.size+1) wr (O a4 a.length C) (ZX f)):=show zb _ _ _ _ _ by rw[<-c7.out];exact bp.out
 have c6:=dD (bf.trans ar);go_wp2;go_ret;exact⟨⟨_,rfl,c8⟩,c6⟩
theorem zjy (f:Nat->On) (w:Xn) (a:zip f):
  Xp prog 68 #[Xi (zE (tab f)).toArray] w fun e w'=>(∃u,e= Xl (Xm #[u,I6 (zhY f).2])/\zb arE w.heap.size w' u (zhY f).1)/\zc w w':=by
 have i:=dD<|fun W=>zbT f W a
 have c:Xo (¬16< (ZX f).length->zhY f=(ZX f,0)):=fun h=>by unfold zhY;rw[kF h]
 have b:Xo (16< (ZX f).length->zhY f=([],4)):=fun h=>by unfold zhY;rw[kE h]
 have d:=dD<|(zc1 a).len;clear a;obtain⟨a,a⟩:=kA (zhY f);simp only[a.out]at c b⊢;obtain⟨l,a⟩:=kA (ZX f);simp only[a.out]at c b d i;have g:Xo ((zE (tab f)).length=384):=jx _
 generalize zE (tab f)=C at i g⊢
 obtain⟨k,a⟩:=kB (w.alloc (Xk C.toArray 82));have h:=gA a
 have m:=xA a
 have j:Xo (_=k):=a;clear a
 go_enter func68,ntmps68
 go_upto_region 1 with fail;rw[j.out]
 go_wp2_with (refine zK rfl 82 (.tmp 1) rfl w.heap.size rfl m underlying82 rfl (Rx g.out zqD) ?_)
 refine(i k).mono ?_;rintro e a ⟨⟨u,rfl,a⟩,g⟩;obtain⟨i,i,rfl⟩:=a.form;have i:=dD (h.trans g);have j:=dD<|a.base (nT (bS h) (Of _));clear g a;obtain⟨m,a⟩:=kA l.length;rw[a.out]at c b d j⊢;have a:m<=64:=d.out
 by_cases a:16<m
 ·have g:=kC a
  have d:=dD<|b.out a;go_wp2;refine bodyPost_ret (results_tmp2 rfl _ _ _) rfl ?_;rw[d.out];exact⟨⟨_,rfl,zb.nil _ _ _⟩,i⟩
 have g:=kD a
 have d:=dD<|c.out a;go_wp2;refine bodyPost_ret (results_tmp2 rfl _ _ _) rfl ?_;rw[d.out];exact⟨⟨_,rfl,j⟩,i⟩
theorem zmV {b a:Ar} (i:jQ b) (h:jQ a):zip (zB [b,a]):=fun k _=>⟨zeV,fun e=>by
 obtain⟨c,c,f,d,g⟩:=ZQ e;rw[g];have:c=b\/c=a:=by simpa using mG f
 rcases this with e|e <;> subst e
 ·exact J8 i d
 exact J8 h d⟩
theorem zoH {w:Xn} {ad:Addr} {n c:Nat} {b q:Ar} (h:zl arE w (O (Xa ad) n c) l) (f:l[j]? =Xa b) (g:l[j+1]? =Xa q):zl arE w (O (Xa (ad.add (j*7))) 2 (c - j)) [b,q]:=by
 obtain⟨⟨a,a,a,d,e⟩,d⟩:=h;cases a;refine⟨⟨Xa (ad.add (j*7)),c - j,rfl,fun h=>(by cases h),fun x a d u h=>?_⟩,by show 2*40<=_;omega⟩
 cases a;rw[zS];refine e ad rfl (j*7+d) u ?_;have a:(arv b++arv q)[d]? =Xa u:=by simpa [arE]using h
 by_cases e:d<7
 ·rw[Xx (by simpa [arv]using e)]at a
  exact qM (enc:=arv) (k:=7) l j b (fun _ _=>rfl) f d u a
 rw[aR (by simp[arv];omega)]at a
 have:=qM (enc:=arv) (k:=7) l (j+1) q (fun _ _=>rfl) g (d - 7) u (by simpa [arv]using a)
 rw[show(j+1)*7+(d - 7)=j*7+d by omega]at this
 exact this
theorem zju {w:Xn} {ad:Addr} {n c:Nat} (a:j+2<=c):(Instr.sliceAt 77 (O (Xa ad) n c) (Xa (I6 (j:Int))) (Xa (I6 ((j:Int)+1+1))) Xb).run prog w= .ok (O (Xa (ad.add (j*7))) 2 (c - j)) w:=by
 have f:(Go.sizeOf 105).run prog w= .ok 7 w:=by
  obtain⟨a,b,d⟩:∃a,Tryz.prog.info? 105=Xa a/\a.size=7:=by
   have:=zqA
   cases e:Tryz.prog.info? 105 with
   | none=>rw[e]at this;cases this
   | some a=>rw[e]at this;exact⟨a,rfl,by simpa using this⟩
  simp[Go.sizeOf,typeInfo,b,d]
 have b:(0:Int)<=(j:Int)+1+1/\(j:Int)+1+1<=(c:Int):=Wm
 have d:((j:Int)+1+1).toNat=j+2:=Wm
 have a:(0:Int)<=(j:Int)/\(j:Int)<=((j+2:Nat):Int):=Wm
 have e:¬c=j:=Wm
 simp only[Instr.sliceAt,Instr.slice,Instr.sliceBounds,Instr.sliceBound,asIntOf,Xu,Xt,rA,run_underlying underlying77];rw[kE b];simp only[Xt,rA,d];rw[kE a];simp only[Xt,rA,f,tN,kF e,Option.map_some]
 congr 2
 omega
theorem zai (v l w) (s:zl arE w v l) (K:Cap v):
  Xp prog 53 #[v] w fun e w'=>e= Xl (Xi #[I6 (wrL l).1,I6 (wrL l).2])/\zc w w':=by
 have ah:=s.short;obtain⟨da,c,rfl,L⟩:=s.ars;have ab:=dD L;have bd:Xo (∀(q:Ar) W,Xp prog 67 #[Xi #[I6 q.fr,I6 q.tz,Xh q.rd,Xh q.wr,Xh q.sh,I6 q.file,I6 q.base]] W fun e w'=>e= Xl (I6 (arW q))/\zc W w'):=fun q W=>Jj q W
 have bz:=dD s;have b7:l.length<=c:=K;have cq:=dD<|fun (b:Ar) (q:Ar) v W (s:zl arE W v [b,q]) (b5:jQ b) (bb:jQ q) (c3:b.tz<=q.fr)=>jB v [b,q] W s (zny b5 bb c3)
 have cr:Xo (∀(b q:Ar) W,jQ b->jQ q->b.tz<=q.fr->Xp prog 95 #[Xi (zE (tab (zB [b,q]))).toArray] W fun e w'=>(∃I a0,e= Xl (.slice I (ZX (zB [b,q])).length a0))/\zc W w'):=fun b q W b5 bb c3=>(zbT (zB [b,q]) W (zmV b5 bb)).mono (by
  rintro e w' ⟨⟨v,rfl,cx⟩,co⟩;obtain⟨I,a0,rfl⟩:=cx.form;exact⟨⟨I,a0,rfl⟩,co⟩)
 clear L s K;have az:Xo (¬16<l.length->zbl (Qc l 0) (l.drop 0) 0=wrL l):=zfG;have aw:Xo (16<l.length->wrL l=(4,0)):=fun ag=>by unfold wrL;rw[kE ag]
 have a6:Xo (∀a5,zbl (Qc l l.length) (l.drop l.length) l.length=a5->a5=(0,0)):=fun a5=>zkO
 obtain⟨h,a3⟩:=kA l.length;rw[a3.out]at ah b7 bz⊢;have G:Xo (¬16<h->zbl (Qc l 0) (l.drop 0) 0=wrL l):=dD<|Ry a3.out az.out
 have E:Xo (16<h->wrL l=(4,0)):=dD<|Ry a3.out aw.out
 have Q:Xo (∀a5,zbl (Qc l h) (l.drop h) h=a5->a5=(0,0)):=dD<|Ry a3.out a6.out
 skip
 generalize cs:wrL l=M at G E⊢
 clear cs;obtain⟨b1,A⟩:=kB (w.alloc (Xk #[I6 0,I6 0] 122));have a8:=gA A
 have af:=xA A
 have ac:Xo (_=b1):=A;clear A
 by_cases d:16<h
 ·have u:=dD<|E.out d;have X:=kC d
  go_enter func53,ntmps53
  go_upto_region 1 with fail;rw[ac.out];have am:=af.c 0 rfl;have an:=af.c 1 rfl;have ao:=af.f;have x:Xo (Box ((b1.setCell ⟨w.heap.size,0,Xb⟩ (I6 4)).setCell ⟨w.heap.size,1,Xb⟩ (I6 0)) w.heap.size [I6 4,I6 0]):=dD<|(af.set 0 _).set 1 _
  have z:Xo (zc w ((b1.setCell ⟨w.heap.size,0,Xb⟩ (I6 4)).setCell ⟨w.heap.size,1,Xb⟩ (I6 0))):=dD<|zq (zq a8 Sm _) Sm _
  go_wp2;refine bodyPost_ret (zX (vs:=[I6 4,I6 0]) rfl _ rfl x underlying122 rfl zqB) rfl ⟨?_,z⟩;rw[u.out]
 have X:=kD d
 have c8:=dD<|G.out d
 go_enter func53,ntmps53
 go_upto_region 1 with fail;rw[ac.out];go_wp2
 go_loopg [12] h (fun cp bv wr=>∃f:Nat,f<=h/\h - f<=cp/\bv=I6 f/\Xo (zc w wr)/\Xo (Box wr w.heap.size [I6 0,I6 0])/\Xo (zbl (Qc l f) (l.drop f) f=M)/\Xo (∀(a:Nat) q,a<f->l[a]? =Xa q->jQ q))
 exact⟨0,nZ _,Wm,rfl,a8,af,c8,fun a q c4=>absurd c4 (nL _)⟩
 obtain⟨f,cw,b8,rfl,au,a1,a4,c1⟩:=hrel
 by_cases V:f<h
 ·have ai:=kC V
  obtain⟨q,F⟩:∃q,Xo (l[f]? =Xa q):=⟨_,gE (Rx a3.out V)⟩
  obtain⟨g,rfl,k⟩:=ab.out f q F.out;obtain⟨ca,cb,cc,cd,ce,cf,cg⟩:=k wr au.out;have c9:=dD a1.lt;obtain⟨ar,ax⟩:=kA wr.heap.size;have a9:Xo (w.heap.size<ar):=show _<_ by rw[<-ax.out];exact c9.out
  clear k;go_upto_region 6 with fail;obtain⟨d9,p⟩:=kB (wr.alloc (Xk #[I6 q.fr,I6 q.tz,Xh q.rd,Xh q.wr,Xh q.sh,I6 q.file,I6 q.base] 105));have c7:=gT p au
  have c6:=yA p a1
  have c2:=xP p ax
  rw[p,ax.out];clear p ca cb cc cd ce cf cg
  go_wp2_with (refine zK rfl 105 (.tmp 4) rfl ar rfl c2 underlying105 rfl zqA ?_)
  refine(bd.out q _).mono ?_;rintro e m ⟨rfl,ap⟩;have i:=dD (c7.trans ap);have N:=dD (c6.grew ap);have H:=dD (c2.grew ap);clear ap;have c5:ar≠w.heap.size:=Hm a9.out
  have ba:w.heap.size≠ar:=Hm a9.out
  by_cases Y:arW q=0
  ·have ak:=dD Y;have bu:(arW q != 0)=Xd:=by simp[Y]
   have t:=dD<|ZG.1 Y;have ae:Xo (∀(a:Nat) Z,a<f+1->l[a]? =Xa Z->jQ Z):=show∀(a:Nat) Z,_ from fun a Z c4 D=>by
    by_cases e:a=f
    ·subst e;rw[F.out]at D;cases D;exact t.out
    exact c1 a Z Wm D
   clear Y;go_upto_region 9 with fail
   generalize arW q=db
   cases f with
   | zero=>
    have R:=dD<|zfC a4 F ak.out;have bs:¬(0:Int)< ((0:Nat):Int):=Dc
    have bt:decide ((0:Int)< ((0:Nat):Int))=Xd:=Dc
    go_quiet (fail);go_wp2
    go_roundg (h - 1);exact⟨1,Wm,Wm,Gn,i.trans (show Below _ _ _ from bD (bR _ _) _),N.grew (show Below _ _ _ from bD (bR _ _) _),R,ae⟩;omega
   | succ a=>
    obtain⟨b,a2⟩:∃b,Xo (l[a]? =Xa b):=⟨_,gE (by rw[a3.out];omega)⟩
    have P:Xo (jQ b):=c1.out a b Wm a2.out
    have bs:(0:Int)< ((a+1:Nat):Int):=Wm
    have bt:decide ((0:Int)< ((a+1:Nat):Int))=Xc:=Sm
    have cu:((a+1:Nat):Int) - 1=(a:Int):=Wm
    have cv:(a:Int)< (h:Int):=Wm
    obtain⟨b2,b4,k⟩:=ab.out a b a2.out;obtain rfl:g=b2:=by cases b4;rfl
    by_cases aq:q.fr<b.tz
    ·have u:Xo (M=(2,((a+1:Nat):Int))):=zce a4 a2 F ak (.inl aq);have b6:decide (q.fr<b.tz)=Xc:=Si aq
     obtain⟨ch,ci,cj,ck,cl,cm,cn⟩:=k m i.out;have cy:=H.c 0 rfl;clear k;go_quiet (fail);obtain⟨S,B⟩:=kB (m.drewN nq);have aj:Xo (zc w S):=dD<|by rw[<-B];exact i.trans (show Below _ _ _ from bD (bR _ _) _)
     have r:Xo (Box S w.heap.size [I6 0,I6 0]):=dD<|by rw[<-B];exact N.grew (show Below _ _ _ from bD (bR _ _) _)
     rw[B];clear B ch ci cj ck cl cm cn cy;have am:=r.c 0 rfl;have an:=r.c 1 rfl;have ao:=r.f;have x:Xo (Box ((S.setCell ⟨w.heap.size,0,Xb⟩ (I6 2)).setCell ⟨w.heap.size,1,Xb⟩ (I6 ((a+1:Nat):Int))) w.heap.size [I6 2,I6 ((a+1:Nat):Int)]):=dD<|(r.set 0 _).set 1 _
     have z:Xo (zc w ((S.setCell ⟨w.heap.size,0,Xb⟩ (I6 2)).setCell ⟨w.heap.size,1,Xb⟩ (I6 ((a+1:Nat):Int)))):=dD<|zq (zq aj Sm _) Sm _
     go_wp2;refine bodyPost_ret (zX (vs:=[I6 2,I6 ((a+1:Nat):Int)]) rfl _ rfl x underlying122 rfl zqB) rfl ⟨?_,z⟩;rw[u.out]
    have b6:decide (q.fr<b.tz)=Xd:=Si aq
    have av:=dD aq;have be:=H.gw 0 rfl
    have bf:=H.gw 1 rfl
    have bg:=H.gw 2 rfl
    have bh:=H.gw 3 rfl
    have bi:=H.gw 4 rfl
    have bj:=H.gw 5 rfl
    have bk:=H.gw 6 rfl
    have bl:∀y:ze m,y.world.cell? (g.add (a*7))=Xa (I6 b.fr):=fun y=>(k _ (i.trans y.grew)).1
    have bm:∀y:ze m,y.world.cell? { block:=(g.add (a*7)).block,off:=(g.add (a*7)).off+1 }=Xa (I6 b.tz):=fun y=>(k _ (i.trans y.grew)).2.1
    have bn:∀y:ze m,y.world.cell? { block:=(g.add (a*7)).block,off:=(g.add (a*7)).off+2 }=Xa (Xh b.rd):=fun y=>(k _ (i.trans y.grew)).2.2.1
    have bo:∀y:ze m,y.world.cell? { block:=(g.add (a*7)).block,off:=(g.add (a*7)).off+3 }=Xa (Xh b.wr):=fun y=>(k _ (i.trans y.grew)).2.2.2.1
    have bp:∀y:ze m,y.world.cell? { block:=(g.add (a*7)).block,off:=(g.add (a*7)).off+4 }=Xa (Xh b.sh):=fun y=>(k _ (i.trans y.grew)).2.2.2.2.1
    have bq:∀y:ze m,y.world.cell? { block:=(g.add (a*7)).block,off:=(g.add (a*7)).off+5 }=Xa (I6 b.file):=fun y=>(k _ (i.trans y.grew)).2.2.2.2.2.1
    have br:∀y:ze m,y.world.cell? { block:=(g.add (a*7)).block,off:=(g.add (a*7)).off+6 }=Xa (I6 b.base):=fun y=>(k _ (i.trans y.grew)).2.2.2.2.2.2
    have b9:Nonempty (ze m):=⟨⟨_,zc.refl _⟩⟩;have ay:=dD<|fun W (ct:zc w W)=>zoH (bz.grew ct) a2 F.out
    have bc:=fun W=>zju (w:=W) (ad:=g) (n:=h) (c:=c) (j:=a) Wm
    obtain⟨al,bx⟩:=kA ((ZX (zB [b,q])).length);have b0:Xo (decide (al<2)=goB q b):=dD<|by rw[<-bx.out];exact zpE P t (Hm av.out)
    have a7:Xo (b.tz<=q.fr):=dD<|Hm av.out
    clear k;obtain⟨c0,aa⟩:=kA (zE (tab (zB [b,q])));refine ju [(19,⟨fun v=>v= Xi c0.toArray,fun _ _=>True⟩),(20,⟨fun v=>∃I a0,v= O I al a0,fun _ _=>True⟩)] z6 Kr ?_ ?_ ?_
    ·intro Z D
     simp at D
     rcases D with rfl|rfl
     ·exact⟨_,rfl⟩
     exact⟨O Xb al 0,Xb,0,rfl⟩
    ·intro Z D
     simp at D
     rcases D with rfl|rfl
     ·exact fun _ _ _ _ ag=>ag
     exact fun _ _ _ _ ag=>ag
    iterate 19 refine zg ?_
    refine zx rfl rfl (fun w' b8 b3=>?_) (fun cz s=>?_)
    ·refine zJ.call [O (Xa (g.add (a*7))) 2 (c - a)] rfl func22 rfl rfl rfl ?_;refine(cq.out b q _ w' (ay w' (i.trans b8)) P t a7).mono ?_;rintro e bw ⟨rfl,U⟩;exact⟨_,rfl,U,by rw[aa.out],trivial⟩
    subst s;refine Uq ?_;refine zx rfl rfl (fun w' b8 b3=>?_) (fun cz s=>?_)
    ·refine zJ.call [Xi c0.toArray] rfl func95 rfl rfl rfl ?_;rw[<-aa.out];refine(cr.out b q w' P t a7).mono ?_;rintro e bw ⟨⟨I,a0,rfl⟩,U⟩;exact⟨_,rfl,U,⟨I,a0,by rw[bx.out]⟩,trivial⟩
    obtain⟨d7,d8,rfl⟩:=s;refine Uq ?_;have X:decide ((al:Int)<2)=goB q b:=by rw[<-b0.out];exact decide_eq_decide.2 Wm
    iterate 4 refine zg ?_
    refine qd fun S T b3=>?_
    have aj:=dD (i.trans T);have r:=dD (N.grew T);clear X bc T b3 be bf bg bh bi bj bk bl bm bn bo bp bq br b9
    cases C:goB q b with
    | true=>
     have u:Xo (M=(2,((a+1:Nat):Int))):=zce a4 a2 F ak (.inr C);clear C;have am:=r.c 0 rfl;have an:=r.c 1 rfl;have ao:=r.f;have x:Xo (Box ((S.setCell ⟨w.heap.size,0,Xb⟩ (I6 2)).setCell ⟨w.heap.size,1,Xb⟩ (I6 ((a+1:Nat):Int))) w.heap.size [I6 2,I6 ((a+1:Nat):Int)]):=show Box _ _ _ from(r.set 0 _).set 1 _
     have z:Xo (zc w ((S.setCell ⟨w.heap.size,0,Xb⟩ (I6 2)).setCell ⟨w.heap.size,1,Xb⟩ (I6 ((a+1:Nat):Int)))):=dD<|zq (zq aj Sm _) Sm _
     go_wp2;refine bodyPost_ret (zX (vs:=[I6 2,I6 ((a+1:Nat):Int)]) rfl _ rfl x underlying122 rfl zqB) rfl ⟨?_,z⟩;rw[u.out]
    | false=>
     have R:=dD<|zir a4 a2 F ak av C;clear C;go_wp2
     go_roundg (h -(a+1+1));exact⟨a+1+1,Wm,Wm,Gn,aj,r,R,ae⟩;omega
  have u:=dD<|zkP a4 F Y;have bu:(arW q != 0)=Xc:=by simp[Y]
  clear Y;have am:=N.c 0 rfl;have an:=N.c 1 rfl;have ao:=N.f;have x:Xo (Box ((m.setCell ⟨w.heap.size,0,Xb⟩ (I6 (arW q))).setCell ⟨w.heap.size,1,Xb⟩ (I6 (f:Int))) w.heap.size [I6 (arW q),I6 (f:Int)]):=dD<|(N.set 0 _).set 1 _
  have z:Xo (zc w ((m.setCell ⟨w.heap.size,0,Xb⟩ (I6 (arW q))).setCell ⟨w.heap.size,1,Xb⟩ (I6 (f:Int)))):=dD<|zq (zq i Sm _) Sm _
  go_wp2;refine bodyPost_ret (zX (vs:=[I6 (arW q),I6 (f:Int)]) rfl _ rfl x underlying122 rfl zqB) rfl ⟨?_,z⟩;rw[u.out]
 have ai:=kD V
 have:f=h:=Wm
 subst this;have u:=dD<|Q.out _ a4.out;have am:=a1.c 0 rfl;have an:=a1.c 1 rfl;have ao:=a1.f;have x:Xo (Box ((wr.setCell ⟨w.heap.size,0,Xb⟩ (I6 0)).setCell ⟨w.heap.size,1,Xb⟩ (I6 0)) w.heap.size [I6 0,I6 0]):=show Box _ _ _ from(a1.set 0 _).set 1 _
 have z:Xo (zc w ((wr.setCell ⟨w.heap.size,0,Xb⟩ (I6 0)).setCell ⟨w.heap.size,1,Xb⟩ (I6 0))):=dD<|zq (zq au Sm _) Sm _
 go_wp2;refine bodyPost_ret (zX (vs:=[I6 0,I6 0]) rfl _ rfl x underlying122 rfl zqB) rfl ⟨?_,z⟩;rw[u.out]
theorem zJ.allocOnes {a:Act} {w:Xn} {K:Xq->Xn->Prop} (c:o.op= .alloc 82) (h:K (Xj (Xa ⟨w.heap.size,0,Xb⟩)) (w.alloc (Xk (zE (tab fun _=>on0)).toArray 82))):zJ prog o a w K:=by
 have b:=zaQ w
 generalize zE (tab fun _=>on0)=Z at b h
 unfold zJ;have:(execOp a.eval o).run prog w= .ok (.value (Xj (Xa ⟨w.heap.size,0,Xb⟩))) (w.alloc (Xk Z.toArray 82)):=by
  simp[execOp,c,go_sem,b]
 rw[this];exact h
theorem zJ.oneArea {a:Act} {w:Xn} {K:Xq->Xn->Prop} (x) (b:o.op= .buildSlice 77 1 #[(0,x)]) (q) (c:a.eval x=arA q) (h:K (O (Xa ⟨w.heap.size,0,Xb⟩) 1 1) (w.alloc (Xk (arv q).toArray 105))):zJ prog o a w K:=by
 unfold zJ;have:(execOp a.eval o).run prog w= .ok (.value (O (Xa ⟨w.heap.size,0,Xb⟩) 1 1)) (w.alloc (Xk (arv q).toArray 105)):=by
  simp only[execOp,b,Yx,mP,Yk,c]
  simp[go_sem,arA,arv]
 rw[this];exact h
theorem zJ.val {a:Act} {w:Xn} {K:Xq->Xn->Prop} {v:Xq} (b:(execOp a.eval o).run prog w= .ok (.value v) w) (h:K v w):zJ prog o a w K:=by
 unfold zJ;rw[b];exact h
theorem zle {a:Act} (x) (d:o.op= .load 105 x) (b:Nat) (e:a.eval x= Xj (Xa ⟨b,0,Xb⟩)) {q:Ar} {w:Xn} (c:Box w b (arv q)):(execOp a.eval o).run prog w= .ok (.value (arA q)) w:=by
 have:=run_loadAt_mid (P:=prog) w b 0 105 (arv q) _ c.range underlying105 rfl zqA;simp only[execOp,d,e,Xu,this,rA,Xt];rfl
def zgm:List Oper:=[
 { dst := some 23, op := .move (.tmp 0), type := 77, pos := "ref.go:325", after := #[], guard := none },
 { dst := some 24, op := .call { callee := .value (.func 22), args := #[.tmp 23], argTypes := #[77] }, type := 82, pos := "ref.go:325", after := #[{ on := 0, ground := .data }], guard := none },
 { dst := some 25, op := .load 105 (.tmp 3), type := 105, pos := "ref.go:325", after := #[], guard := none },
 { dst := some 26, op := .buildSlice 77 1 #[(0, .tmp 25)], type := 77, pos := "ref.go:325", after := #[{ on := 2, ground := .data }], guard := none },
 { dst := some 27, op := .call { callee := .value (.func 22), args := #[.tmp 26], argTypes := #[77] }, type := 82, pos := "ref.go:325", after := #[{ on := 3, ground := .data }, { on := 1, ground := .chain }], guard := none },
 { dst := some 8, op := .alloc 82, type := 0, pos := "ref.go:325", after := #[], guard := none },
 { dst := some 9, op := .alloc 82, type := 0, pos := "ref.go:325", after := #[], guard := none },
 { dst := none, op := .store 82 (.tmp 8) (.tmp 24), type := 0, pos := "ref.go:325", after := #[{ on := 5, ground := .data }, { on := 1, ground := .data }, { on := 4, ground := .chain }, { on := 0, ground := .phase }, { on := 1, ground := .phase }, { on := 2, ground := .textOnly .lateStores }, { on := 3, ground := .textOnly .lateStores }, { on := 4, ground := .textOnly .lateStoresUnsure }, { on := 5, ground := .phase }, { on := 6, ground := .phase }], guard := none },
 { dst := none, op := .store 82 (.tmp 9) (.tmp 27), type := 0, pos := "ref.go:325", after := #[{ on := 6, ground := .data }, { on := 4, ground := .data }, { on := 7, ground := .chain }, { on := 0, ground := .phase }, { on := 1, ground := .phase }, { on := 2, ground := .phase }, { on := 3, ground := .phase }, { on := 4, ground := .phase }, { on := 5, ground := .phase }, { on := 6, ground := .phase }, { on := 7, ground := .phase }], guard := none }]
theorem znu:∀c a d b e f g:Bool,(Om .any zgm.toArray #[c,a,d,b,e,f,g,Xd,Xd]).isEmpty=Xd\/(e=Xc/\(a=Xd\/b=Xd))\/(a=Xc/\c=Xd)\/(b=Xc/\d=Xd):=by decide+kernel
theorem zlA:∀c a d b e f g:Bool,(!((!a || c) &&(!b || d) &&(!e || (a && b))) || (Om .any zgm.toArray #[c,a,d,b,e,f,g,Xd,Xd]).all fun i=>(i == 0 && !c) || (i == 1 && !a && c) || (i == 2 && !d) || (i == 3 && !b && d) || (i == 4 && !e && a && b) || (i == 5 && !f) || (i == 6 && !g) || (i == 7 && c && a && d && b && e && f && g))=Xc:=by decide+kernel
theorem znv (l0 l1 l2 l3 l4 l5 l6:Bool) (i:Nat) (a:l1=Xc->l0=Xc) (b:l3=Xc->l2=Xc) (c:l4=Xc->l1=Xc/\l3=Xc) (hi:i∈Om .any zgm.toArray #[l0,l1,l2,l3,l4,l5,l6,Xd,Xd]):(i=0/\l0=Xd)\/(i=1/\l1=Xd/\l0=Xc)\/(i=2/\l2=Xd)\/(i=3/\l3=Xd/\l2=Xc)\/(i=4/\l4=Xd/\l1=Xc/\l3=Xc)\/(i=5/\l5=Xd)\/(i=6/\l6=Xd)\/(i=7/\l0=Xc/\l1=Xc/\l2=Xc/\l3=Xc/\l4=Xc/\l5=Xc/\l6=Xc):=by
 have d:((!l1 || l0) &&(!l3 || l2) &&(!l4 || (l1 && l3)))=Xc:=by
  cases l0 <;> cases l1 <;> cases l2 <;> cases l3 <;> cases l4 <;> simp at a b c⊢
 have a:=zlA l0 l1 l2 l3 l4 l5 l6;rw[d,Bool.not_true,Bool.false_or]at a;have h:=Yy.1 a i hi
 simpa [and_assoc,or_assoc]using h
structure zjf (W0:Xn) (v:Xq) (q:Ar) (O1 O2 Z0:List Xq) (l0 l1 l2 l3 l4 l5 l6:Bool) (t23 t24 t25 t26 t27 t8 t9:Xq) (W:Xn):Prop where
 g:zc W0 W
 h0:l0=Xc->t23=v
 h1:l1=Xc->t24= Xi O1.toArray
 h2:l2=Xc->t25=arA q
 h3:l3=Xc->zl arE W t26 [q]
 h4:l4=Xc->t27= Xi O2.toArray
 h5:l5=Xc->∃b,t8= Xj (Xa ⟨b,0,Xb⟩)/\Box W b Z0/\W0.heap.size<=b
 h6:l6=Xc->∃b,t9= Xj (Xa ⟨b,0,Xb⟩)/\Box W b Z0/\W0.heap.size<=b
 ne:l5=Xc->l6=Xc->t8≠t9
 c1:l1=Xc->l0=Xc
 c3:l3=Xc->l2=Xc
 c4:l4=Xc->l1=Xc/\l3=Xc
section
variable{W0:Xn} {v:Xq} {q:Ar} {O1 O2 Z0:List Xq} {l0 l1 l2 l3 l4 l5 l6:Bool} {t23 t24 t25 t26 t27 t8 t9:Xq} {W W':Xn}
theorem zjf.grew (h:zjf W0 v q O1 O2 Z0 l0 l1 l2 l3 l4 l5 l6 t23 t24 t25 t26 t27 t8 t9 W) (k:zc W W'):zjf W0 v q O1 O2 Z0 l0 l1 l2 l3 l4 l5 l6 t23 t24 t25 t26 t27 t8 t9 W':=
 ⟨h.g.trans k,h.h0,h.h1,h.h2,fun e=>(h.h3 e).grew k,h.h4,fun e=>by obtain⟨b,x,y,z⟩:=h.h5 e;exact⟨b,x,y.grew k,z⟩,fun e=>by obtain⟨b,x,y,z⟩:=h.h6 e;exact⟨b,x,y.grew k,z⟩,h.ne,h.c1,h.c3,h.c4⟩
def Qt (l0 l1 l2 l3 l4 l5 l6:Bool):Nat:=(!l0).toNat+(!l1).toNat+(!l2).toNat+(!l3).toNat+(!l4).toNat+(!l5).toNat+(!l6).toNat
theorem zjQ {pa:Nat} (A:Xq->Xq->Xq->Xq->Xq->Xq->Xq->Act)
  (am:∀c d e b f i j,(A c d e b f i j).eval (.tmp 0)=v) (an:∀c d e b f i j,(A c d e b f i j).eval (.tmp 3)= Xj (Xa ⟨pa,0,Xb⟩))
  (I:∀c d e b f i j,(A c d e b f i j).eval (.tmp 23)=c) (a0:∀c d e b f i j,(A c d e b f i j).eval (.tmp 24)=d) (a1:∀c d e b f i j,(A c d e b f i j).eval (.tmp 25)=e) (a2:∀c d e b f i j,(A c d e b f i j).eval (.tmp 26)=b) (a3:∀c d e b f i j,(A c d e b f i j).eval (.tmp 27)=f) (ao:∀c d e b f i j,(A c d e b f i j).eval (.tmp 8)=i) (ap:∀c d e b f i j,(A c d e b f i j).eval (.tmp 9)=j)
  (ae:∀c d e b f i j y,(A c d e b f i j).put (Xa 23) y=A y d e b f i j) (af:∀c d e b f i j y,(A c d e b f i j).put (Xa 24) y=A c y e b f i j) (ag:∀c d e b f i j y,(A c d e b f i j).put (Xa 25) y=A c d y b f i j) (ah:∀c d e b f i j y,(A c d e b f i j).put (Xa 26) y=A c d e y f i j) (ai:∀c d e b f i j y,(A c d e b f i j).put (Xa 27) y=A c d e b y i j) (ba:∀c d e b f i j y,(A c d e b f i j).put (Xa 8) y=A c d e b f y j) (bb:∀c d e b f i j y,(A c d e b f i j).put (Xa 9) y=A c d e b f i y)
  (aj:∀c d e b f i j y,(A c d e b f i j).put Xb y=A c d e b f i j)
  (b5:zl arE W0 v l) (b2:zpB l) (ay:jQ q) (az:Box W0 pa (arv q))
  (aw:∀W B C b,B≠C->zc W0 W->Box W B (zE (tab (zB l)))->Box W C (zE (tab (zB [q])))->W0.heap.size<=B->W0.heap.size<=C->Q .normal (A v (Xi (zE (tab (zB l))).toArray) (arA q) b (Xi (zE (tab (zB [q]))).toArray) (Xj (Xa ⟨B,0,Xb⟩)) (Xj (Xa ⟨C,0,Xb⟩))) W)
  (c d e b f i j:Xq):(Code.region id zgm.toArray Xc).wp prog Q (A c d e b f i j) W0:=by
 have a6:(zE (tab (zB l))).length=384:=jx _;have a7:(zE (tab (zB [q]))).length=384:=jx _;have X:(zE (tab fun _=>on0)).length=384:=jx _
 have aa:∀W,zc W0 W->Xp prog 22 #[v] W fun x m=>x= Xl (Xi (zE (tab (zB l))).toArray)/\zc W m:=fun W ax=>jB v l W (b5.grew ax) b2
 have ab:∀W Y,zl arE W Y [q]->Xp prog 22 #[Y] W fun x m=>x= Xl (Xi (zE (tab (zB [q]))).toArray)/\zc W m:=fun W Y b4=>jB Y [q] W b4 (znz ay)
 have ac:=QO (tab (zB l));have ad:=QO (tab (zB [q]));have M:∀W:Xn,Box (W.alloc (Xk (zE (tab fun _=>on0)).toArray 82)) W.heap.size (zE (tab fun _=>on0)):=fun W=>Box.top _ _ _ rfl
 generalize zE (tab (zB l))=H at*
 generalize zE (tab (zB [q]))=V at*
 have T:∀(U:Nat) (s t u w n p r:Bool) (c d e b f i j:Xq) (W:Xn),Qt s t u w n p r=U->zjf W0 v q H V (zE (tab fun _=>on0)) s t u w n p r c d e b f i j W->wpAnyH prog .any zgm.toArray Q (fun _=>True) (U+2) #[s,t,u,w,n,p,r,Xd,Xd] (A c d e b f i j) W:=by
  intro U
  induction U with
  | zero=>
   intro s t u w n p r c d e b f i j W h g;obtain⟨rfl,rfl,rfl,rfl,rfl,rfl,rfl⟩:s=Xc/\t=Xc/\u=Xc/\w=Xc/\n=Xc/\p=Xc/\r=Xc:=by
    revert h
    unfold Qt
    cases s <;> cases t <;> cases u <;> cases w <;> cases n <;> cases p <;> cases r <;> simp
   obtain⟨B,rfl,a8,P⟩:=g.h5 rfl;obtain⟨C,rfl,a9,R⟩:=g.h6 rfl;have F:B≠C:=fun x=>g.ne rfl rfl (by rw[x])
   obtain rfl:=g.h0 rfl;obtain rfl:=g.h1 rfl;obtain rfl:=g.h2 rfl;obtain rfl:=g.h4 rfl;refine wpAnyH_all (rs:=[7]) Kr Sm ?_
   intro b7 N;rw[Yt]at N;subst N;refine jY Xb (fun _ m=>Box m B H/\Box m C (zE (tab fun _=>on0))/\zc W0 m) rfl rfl rfl (zJ.storeAll 82 (.tmp 8) (.tmp 24) rfl B (ao ..) H (a0 ..) a8 (by rw[a6,X]) (Rx X zqD) ac (fun m Z K bc=>⟨Z,a9.grown K (fun x=>F x.symm),zd g.g K P⟩)) ?_
   rintro y bd ⟨ar,L,au⟩;rw[aj];refine⟨trivial,?_⟩;refine wpAnyH_all (rs:=[8]) Kr Sm ?_
   intro b7 N;rw[Yt]at N;subst N;refine jY Xb (fun _ m=>Box m B H/\Box m C V/\zc W0 m) rfl rfl rfl (zJ.storeAll 82 (.tmp 9) (.tmp 27) rfl C (ap ..) V (a3 ..) L (by rw[a7,X]) (Rx X zqD) ad (fun m Z K bc=>⟨ar.grown K F,Z,zd au K R⟩)) ?_
   rintro y ak ⟨av,a4,a5⟩;rw[aj];refine⟨trivial,?_⟩;exact wpAnyH_done Kr (aw ak B C _ F a5 av a4 P R) _
  | succ U G=>
   intro s t u w n p r c d e b f i j W h g;refine⟨fun aq=>?_,fun b6 b1=>?_⟩
   ·rcases znu s t u w n p r with k|⟨k,z⟩|⟨k,z⟩|⟨k,z⟩
    ·rw[aq]at k;cases k
    ·have:=g.c4 k
     rcases z with z | z
     ·rw[this.1]at z;cases z
     rw[this.2]at z;cases z
    ·rw[g.c1 k]at z;cases z
    rw[g.c3 k]at z;cases z
   rcases znv s t u w n p r b6 g.c1 g.c3 g.c4 b1 with⟨rfl,rfl⟩|⟨rfl,rfl,rfl⟩|⟨rfl,rfl⟩|⟨rfl,rfl,rfl⟩|⟨rfl,rfl,rfl,rfl⟩|⟨rfl,rfl⟩|⟨rfl,rfl⟩|⟨rfl,rfl,rfl,rfl,rfl,rfl,rfl,rfl⟩
   ·refine jY (Xa 23) (fun y m=>y=v/\m=W) rfl rfl rfl (zJ.val (v:=v) (by rw[<-am c d e b f i j];rfl) ⟨rfl,rfl⟩) ?_
    rintro y m ⟨rfl,rfl⟩;rw[ae];refine⟨trivial,G Xc t u w n p r _ _ _ _ _ _ _ _ (by unfold Qt at h⊢;simp at h⊢;omega) ⟨g.g,fun _=>rfl,g.h1,g.h2,g.h3,g.h4,g.h5,g.h6,g.ne,fun _=>rfl,g.c3,g.c4⟩⟩
   ·refine jY (Xa 24) (fun y m=>y= Xi H.toArray/\zc W m) rfl rfl rfl (zJ.call [v] rfl func22 rfl rfl (by rw[mP,Yk,I,g.h0 rfl]) ((aa W g.g).mono (fun x m k=>⟨_,k.1,rfl,k.2⟩))) ?_
    rintro y m ⟨rfl,D⟩;rw[af];have a:=g.grew D;refine⟨trivial,G Xc Xc u w n p r _ _ _ _ _ _ _ _ (by unfold Qt at h⊢;simp at h⊢;omega) ⟨a.g,a.h0,fun _=>rfl,a.h2,a.h3,a.h4,a.h5,a.h6,a.ne,fun _=>rfl,a.c3,fun k=>⟨rfl,(a.c4 k).2⟩⟩⟩
   ·refine jY (Xa 25) (fun y m=>y=arA q/\m=W) rfl rfl rfl (zJ.val (v:=arA q) (zle (.tmp 3) rfl pa (an ..) (az.grew g.g)) ⟨rfl,rfl⟩) ?_
    rintro y m ⟨rfl,rfl⟩;rw[ag];refine⟨trivial,G s t Xc w n p r _ _ _ _ _ _ _ _ (by unfold Qt at h⊢;simp at h⊢;omega) ⟨g.g,g.h0,g.h1,fun _=>rfl,g.h3,g.h4,g.h5,g.h6,g.ne,g.c1,fun _=>rfl,g.c4⟩⟩
   ·refine jY (Xa 26) (fun y m=>zl arE m y [q]/\zc W m) rfl rfl rfl (zJ.oneArea (.tmp 25) rfl q (by rw[a1,g.h2 rfl]) ⟨qN arE W q _ _ rfl (by show 40<=_;omega),za _ _⟩) ?_
    rintro y m ⟨b3,D⟩;rw[ah];have a:=g.grew D;refine⟨trivial,G s t Xc Xc n p r _ _ _ _ _ _ _ _ (by unfold Qt at h⊢;simp at h⊢;omega) ⟨a.g,a.h0,a.h1,a.h2,fun _=>b3,a.h4,a.h5,a.h6,a.ne,a.c1,fun _=>rfl,fun k=>⟨(a.c4 k).1,rfl⟩⟩⟩
   ·refine jY (Xa 27) (fun y m=>y= Xi V.toArray/\zc W m) rfl rfl rfl (zJ.call [b] rfl func22 rfl rfl (by rw[mP,Yk,a2]) ((ab W b (g.h3 rfl)).mono (fun x m k=>⟨_,k.1,rfl,k.2⟩))) ?_
    rintro y m ⟨rfl,D⟩;rw[ai];have a:=g.grew D;refine⟨trivial,G s Xc u Xc Xc p r _ _ _ _ _ _ _ _ (by unfold Qt at h⊢;simp at h⊢;omega) ⟨a.g,a.h0,a.h1,a.h2,a.h3,fun _=>rfl,a.h5,a.h6,a.ne,a.c1,a.c3,fun _=>⟨rfl,rfl⟩⟩⟩
   ·refine jY (Xa 8) (fun y m=>y= Xj (Xa ⟨W.heap.size,0,Xb⟩)/\Box m W.heap.size (zE (tab fun _=>on0))/\zc W m) rfl rfl rfl (zJ.allocOnes rfl ⟨rfl,M W,za _ _⟩) ?_
    rintro y m ⟨rfl,E,D⟩;rw[ba];have a:=g.grew D;refine⟨trivial,G s t u w n Xc r _ _ _ _ _ _ _ _ (by unfold Qt at h⊢;simp at h⊢;omega) ⟨a.g,a.h0,a.h1,a.h2,a.h3,a.h4,fun _=>⟨_,rfl,E,bS g.g⟩,a.h6,fun _ a5=>?_,a.c1,a.c3,a.c4⟩⟩
    obtain⟨al,rfl,L,_⟩:=g.h6 a5;intro x;cases x;exact absurd L.lt (Ol _)
   ·refine jY (Xa 9) (fun y m=>y= Xj (Xa ⟨W.heap.size,0,Xb⟩)/\Box m W.heap.size (zE (tab fun _=>on0))/\zc W m) rfl rfl rfl (zJ.allocOnes rfl ⟨rfl,M W,za _ _⟩) ?_
    rintro y m ⟨rfl,E,D⟩;rw[bb];have a:=g.grew D;refine⟨trivial,G s t u w n p Xc _ _ _ _ _ _ _ _ (by unfold Qt at h⊢;simp at h⊢;omega) ⟨a.g,a.h0,a.h1,a.h2,a.h3,a.h4,a.h5,fun _=>⟨_,rfl,E,bS g.g⟩,fun a4 _=>?_,a.c1,a.c3,a.c4⟩⟩
    obtain⟨al,rfl,L,_⟩:=g.h5 a4;intro x;cases x;exact absurd L.lt (Ol _)
   unfold Qt at h
   simp at h
 refine wp_region_held (S:=fun _=>True) z6 ?_
 have b0:zc W0 { W0 with drawn:=W0.drawn+1 }:=show Below _ _ _ from Below.drew (bR _ _)
 exact T 7 Xd Xd Xd Xd Xd Xd Xd c d e b f i j _ rfl ⟨b0,fun k=>(by cases k),fun k=>(by cases k),fun k=>(by cases k),fun k=>(by cases k),fun k=>(by cases k),fun k=>(by cases k),fun k=>(by cases k),fun k=>(by cases k),fun k=>(by cases k),fun k=>(by cases k),fun k=>(by cases k)⟩
end
def zqa (R:List Ar × Int) (w:Xn) (e:Ending) (w':Xn):Prop:=(∃u,e= Xl (Xm #[u,Xe Xf R.2])/\zb arE w.heap.size w' u R.1)/\zc w w'
def zep (l:List Ar) (a:Ar) (k:Nat):Nat->On:=fun j=>if j<k/\jX a j=Xc then qw a j else zB l j
theorem zn5 (l a):zep l a 0=zB l:=by
 funext j
 unfold zep;rw[kF Wm]
theorem zpZ (l a) (k:Nat):zep l a k k=zB l k:=by
 unfold zep;rw[kF Wm]
theorem zpi {a:Ar} {k:Nat} (h:jX a k=Xc):upd (zep l a k) k (qw a k)=zep l a (k+1):=by
 funext j
 unfold upd zep
 by_cases e:j=k
 ·subst e;rw[kE rfl,kE ⟨Wm,h⟩]
 rw[kF e]
 by_cases b:j<k/\jX a j=Xc
 ·rw[kE b,kE ⟨Wm,b.2⟩]
 rw[kF b,kF (fun c=>b ⟨Wm,c.2⟩)]
theorem zn6 {a:Ar} {k:Nat} (h:jX a k=Xd):zep l a k=zep l a (k+1):=by
 funext j
 unfold zep
 by_cases b:j<k/\jX a j=Xc
 ·rw[kE b,kE ⟨Wm,b.2⟩]
 rw[kF b]
 by_cases c:j<k+1/\jX a j=Xc
 ·have:j=k:=by
   rcases Nat.lt_or_ge j k with d|d
   ·exact absurd ⟨d,c.2⟩ b
   omega
  rw[this,h]at c
  cases c.2
 rw[kF c]
theorem zpj (l a):tab (zep l a 64)=tab (zhI l a):=zoF fun k b=>by
 unfold zep zhI
 by_cases h:jX a k=Xc
 ·rw[kE ⟨b,h⟩,kE h]
 rw[kF (fun b=>h b.2),kF h]
theorem zoh (a) (k:Nat):zB [a] k=if jX a k=Xc then qw a k else on0:=rfl
theorem zlp (a) (k:Nat):(zB [a] k).is=jX a k:=by
 rw[zoh]
 cases h:jX a k with
 | true=>rfl
 | false=>rfl
theorem zpS {a:Ar} {k:Nat} (c:k<64) (h:jX a k=Xc) (b:(zB l k).is=Xc):zmR l a.fr (a.tz - a.fr)=Xc:=znI.2 ⟨k,c,Hm (z5.1 h),b⟩
theorem znH {a:Ar} (h:∀k,k<64->jX a k=Xc->(zB l k).is=Xd):zmR l a.fr (a.tz - a.fr)=Xd:=zoY.2 fun k b c=>h k b (z5.2 Wm)
theorem zjx (v l) (a:Ar) (w) (d:zl arE w v l) (b:Cap v):
  Xp prog 37 #[v,Xi #[I6 a.fr,I6 a.tz,Xh a.rd,Xh a.wr,Xh a.sh,I6 a.file,I6 a.base]] w (zqa (zb6 l a) w):=by
 have x:=dD d;have A:Xo (∀W,zc w W->Xp prog 53 #[v] W fun g c=>g= Xl (Xi #[I6 (wrL l).1,I6 (wrL l).2])/\zc W c):=fun W e=>zai v l W (x.grew e) b
 have u:Xo (∀W,Xp prog 67 #[Xi #[I6 a.fr,I6 a.tz,Xh a.rd,Xh a.wr,Xh a.sh,I6 a.file,I6 a.base]] W fun g c=>g= Xl (I6 (arW a))/\zc W c):=fun W=>Jj a W
 clear d b;obtain⟨Q,b⟩:=kB (w.alloc (Xk #[I6 a.fr,I6 a.tz,Xh a.rd,Xh a.wr,Xh a.sh,I6 a.file,I6 a.base] 105));have z:=gA b
 have a3:=xA b
 have t:Xo (_=Q):=b;clear b
 by_cases p:(wrL l).1=0
 ·rw[p]at A
  generalize(wrL l).2=I at A
  by_cases i:arW a=0
  ·rw[i]at u;have s:=dD<|jq.1 p;have n:=dD<|ZG.1 i;have G:Xo (zb6 l a=if zmR l a.fr (a.tz - a.fr)=Xc then([],6)else zhY (zhI l a)):=show _=_ by unfold zb6;rw[kF (fun k=>k p),kF (fun k=>k i)]
   have F:Xo (∀W,Xp prog 68 #[Xi (zE (tab (zep l a 64))).toArray] W fun g c=>(∃a2,g= Xl (Xm #[a2,I6 (zhY (zhI l a)).2])/\zb arE W.heap.size c a2 (zhY (zhI l a)).1)/\zc W c):=fun W=>by
    rw[zpj];exact zjy (zhI l a) W (za1 s.2 n)
   clear p i
   go_enter func37,ntmps37
   go_upto_region 1 with fail;rw[t.out];go_wp2_with fail;refine(A Q z).mono ?_;rintro g r ⟨rfl,h⟩;have C:=dD (z.trans h);have Z:=dD (a3.grew h);clear h;obtain⟨a4,f⟩:=kA r.heap.size;go_upto_region 2 with fail;obtain⟨K,c⟩:=kB (r.alloc (Xk #[I6 0,I6 I] 122));have D:=gT c C
   have B:=xP c f
   have R:=yA c Z
   rw[c,f.out];clear c;have M:=B.c 0 rfl
   go_wp2_with (refine zK rfl 105 (.tmp 3) rfl w.heap.size rfl R underlying105 rfl zqA ?_)
   refine(u K).mono ?_;rintro g a5 ⟨rfl,h⟩;have E:=dD (D.trans h);have y:=dD (R.grew h);clear h M;go_upto_region 7 with fail;refine zjQ (v:=v) (q:=a) (pa:=w.heap.size) (l:=l) (fun d e j b m H L=>⟨#[_,_,_,_,_,_,_,_,H,L,_,_,_,_,_,_,_,_,_,_,_,_,_,d,e,j,b,m,_,_,_,_,_,_,_,_,_,_,_,_,_,_,_,_,_,_,_,_,_,_,_,_,_,_,_],[]⟩) (fun _ _ _ _ _ _ _=>rfl) (fun _ _ _ _ _ _ _=>rfl) (fun _ _ _ _ _ _ _=>rfl) (fun _ _ _ _ _ _ _=>rfl) (fun _ _ _ _ _ _ _=>rfl) (fun _ _ _ _ _ _ _=>rfl) (fun _ _ _ _ _ _ _=>rfl) (fun _ _ _ _ _ _ _=>rfl) (fun _ _ _ _ _ _ _=>rfl) (fun _ _ _ _ _ _ _ _=>rfl) (fun _ _ _ _ _ _ _ _=>rfl) (fun _ _ _ _ _ _ _ _=>rfl) (fun _ _ _ _ _ _ _ _=>rfl) (fun _ _ _ _ _ _ _ _=>rfl) (fun _ _ _ _ _ _ _ _=>rfl) (fun _ _ _ _ _ _ _ _=>rfl) (fun _ _ _ _ _ _ _ _=>rfl) (x.grew E) s.2.lies n y.out ?_ _ _ _ _ _ _ _
   intro H x a0 b j s d e m n;have L:=dD (E.trans s);have y:Xo (Box H x (zE (tab (zep l a 0)))):=show Box _ _ _ by rw[zn5];exact d
   have H:=dD e;have X:=dD<|nT (bS E) m;have b:a0≠x:=fun g=>j g.symm
   have V:=dD b;clear s d e m n;go_wp2
   go_loopg [28] 64 (fun e d wr=>∃b:Nat,b<=64/\64 - b<=e/\d=I6 b/\Xo (zc w wr)/\Xo (Box wr x (zE (tab (zep l a b))))/\Xo (Box wr a0 (zE (tab (zB [a]))))/\Xo (∀j:Nat,j<b->jX a j=Xc->(zB l j).is=Xd))
   exact⟨0,nZ _,Wm,rfl,L,y,H,fun j a1=>absurd a1 (nL _)⟩
   obtain⟨b,d,d,rfl,y,P,H,T⟩:=hrel
   by_cases m:b<64
   ·have N:(b:Int)<64:=Wm
    have L:=P.c (b*6) (Zl (Jh m) 0 (Xh (zB l b).is) (Rr zpZ))
    have S:=H.c (b*6) (Zl (Jh m) 0 (Xh (jX a b)) (by rw[<-zlp];rfl))
    cases d:jX a b with
    | true=>
     cases e:(zB l b).is with
     | true=>
      have s:Xo (zb6 l a=([],6)):=dD<|by rw[G.out,zpS m d e,kE rfl]
      rw[e]at L;rw[d]at S;clear d e;go_wp2;refine bodyPost_ret (results_tmp2 rfl _ _ _) rfl ?_;rw[s.out];exact⟨⟨_,rfl,zb.nil _ _ _⟩,y⟩
     | false=>
      have Y:Xo (upd (zep l a b) b (qw a b)=zep l a (b+1)):=zpi d;have W:Xo (zB [a] b=qw a b):=show _=_ by rw[zoh,kE d]
      have n:Xo (∀j:Nat,j<b+1->jX a j=Xc->(zB l j).is=Xd):=dD<|fun j a1 k=>by
       by_cases g:j=b
       ·rw[g];exact e
       exact T j Wm k
      rw[e]at L;rw[d]at S;clear d e;have U:Xo (Value.agg (onv (zB [a] b)).toArray= Xi (onv (qw a b)).toArray):=dD<|by rw[W.out]
      go_wp2_with (first | refine zdV rfl (.tmp 47) rfl a0 b m rfl H U.out ?_ | refine zdU rfl (.tmp 49) (.tmp 48) rfl x b m rfl (qw a b) rfl P.out ?_)
      intro a0 W U a6;have m:Xo (Box a0 x (zE (tab (zep l a (b+1))))):=dD<|Ry Y.out W
      have Y:=dD<|H.grown U V.out;have V:=dD<|zd y U X.out;clear W U a6 L S;go_wp2
      go_roundg (64 -(b+1));exact⟨b+1,Wm,Wm,Gn,V,m,Y,n⟩;omega
    | false=>
     have m:Xo (Box wr x (zE (tab (zep l a (b+1))))):=dD<|by rw[<-zn6 d];exact P.out
     have n:Xo (∀j:Nat,j<b+1->jX a j=Xc->(zB l j).is=Xd):=dD<|fun j a1 k=>by
      by_cases g:j=b
      ·rw[g,d]at k;cases k
      exact T j Wm k
     rw[d]at S;clear d
     cases e:(zB l b).is with
     | true=>
      rw[e]at L;clear e;go_wp2
      go_roundg (64 -(b+1));exact⟨b+1,Wm,Wm,Gn,y,m,H,n⟩;omega
     | false=>
      rw[e]at L;clear e;go_wp2
      go_roundg (64 -(b+1));exact⟨b+1,Wm,Wm,Gn,y,m,H,n⟩;omega
   have N:¬(b:Int)<64:=Wm
   have:b=64:=Wm
   subst this;have s:Xo (zb6 l a=zhY (zhI l a)):=dD<|by rw[G.out,znH T.out,kF Dc]
   have b:Xo ((zE (tab (zep l a 64))).length=384):=jx _
   go_wp2_with (refine zK rfl 82 (.tmp 8) rfl x rfl P underlying82 rfl (Rx b.out zqD) ?_)
   refine(F wr).mono ?_;rintro g b ⟨⟨a2,rfl,d⟩,b⟩;have e:=dD (y.trans b);have j:=dD<|d.base (bS y);clear b d;go_wp2;refine bodyPost_ret (results_tmp2 rfl _ _ _) rfl ?_;rw[s.out];exact⟨⟨_,rfl,j⟩,e⟩
  have b:(arW a != 0)=Xc:=by simp[i]
  have s:Xo (zb6 l a=([],arW a)):=dD<|by unfold zb6;rw[kF (fun k=>k p),kE i]
  clear p i
  generalize arW a=d at*
  go_enter func37,ntmps37
  go_upto_region 1 with fail;rw[t.out];go_wp2_with fail;refine(A Q z).mono ?_;rintro g r ⟨rfl,h⟩;have C:=dD (z.trans h);have Z:=dD (a3.grew h);clear h;obtain⟨a4,f⟩:=kA r.heap.size;go_upto_region 2 with fail;obtain⟨K,c⟩:=kB (r.alloc (Xk #[I6 0,I6 I] 122));have D:=gT c C
  have B:=xP c f
  have R:=yA c Z
  rw[c,f.out];clear c;have M:=B.c 0 rfl
  go_wp2_with (refine zK rfl 105 (.tmp 3) rfl w.heap.size rfl R underlying105 rfl zqA ?_)
  refine(u K).mono ?_;rintro g a5 ⟨rfl,h⟩;have E:=dD (D.trans h);clear h M;go_wp2;refine bodyPost_ret (results_tmp2 rfl _ _ _) rfl ?_;rw[s.out];exact⟨⟨_,rfl,zb.nil _ _ _⟩,E⟩
 have b:((wrL l).1 != 0)=Xc:=by simp[p]
 have s:Xo (zb6 l a=([],(wrL l).1)):=dD<|by unfold zb6;rw[kE p]
 clear p
 generalize(wrL l).2=I at A
 generalize(wrL l).1=d at*
 go_enter func37,ntmps37
 go_upto_region 1 with fail;rw[t.out];go_wp2_with fail;refine(A Q z).mono ?_;rintro g r ⟨rfl,h⟩;have C:=dD (z.trans h);clear h;obtain⟨a4,f⟩:=kA r.heap.size;go_upto_region 2 with fail;obtain⟨K,c⟩:=kB (r.alloc (Xk #[I6 d,I6 I] 122));have D:=gT c C
 have B:=xP c f
 rw[c,f.out];clear c;have M:=B.c 0 rfl;go_upto_region 3 with fail;go_quiet (fail);obtain⟨d,b⟩:=kB (K.drewN nq);have c:Xo (zc w d):=dD<|by rw[<-b];exact D.trans (show Below _ _ _ from bD (bR _ _) _)
 rw[b];clear b M;go_wp2;refine bodyPost_ret (results_tmp2 rfl _ _ _) rfl ?_;rw[s.out];exact⟨⟨_,rfl,zb.nil _ _ _⟩,c⟩
def Frk (w0:Xn) (hi b:Nat) (w:Xn) (vl:Sli) (L:List Int) (m:Ma) (l:List Ar) (w':Xn):Prop:=∃V' m' vt' T',Mk w0 hi w' b vl L V' m' vt' T'/\zC hi w w'/\qK m' T'/\(m'.sp=m.sp++ [⟨Xc,l,qG⟩]/\m'.fl=m.fl/\m'.hand=m.hand/\m'.fs.length=m.fs.length)
theorem zdj {α:Type} {E:Elt α} {w:Xn} {a:Act} {K:Xq->Xn->Prop} (p x t) (B:o.op= .store t p x) (base:Nat) (v:Xq) (l:List α) (b:zb E base w v l)
  (g i j:Nat) (s:v.ownBlock=Xa g) (e y:α) (hi:l[i]? =Xa e) (cs:List Xq) (A:(Tryz.prog.info? t).map (·.size)=Xa cs.length) (D:E.enc y=splice (E.enc e) j cs) (z:j+cs.length<=E.k) (k:∀u∈cs,u.oneCell'=Xc)
  (ad:Addr) (hp:a.eval p= Xj (Xa ad)) (c:ad=⟨g,i*E.k+j,Xb⟩) (f:Xq) (C:a.eval x=f) (d:f.cells=cs.toArray)
  (h:∀w',zb E base w' v (l.set i y)->w.grownBy w' (Xa g)->w'.heap.size=w.heap.size->K undef w'):zJ prog o a w K:=by
 obtain⟨w',m,n,q,r⟩:=zag p x t B base v l b g i j s e y hi cs A D z k ad hp c f C d;exact zdk m (h w' n q r)
theorem Mk.entry {w:Xn} {c:Nat} {cs:List Xq} (h:Mk w0 hi w b vl L V m vt T) (hp:zo w c 75 cs) (f:hi<=c) (a:w.grownBy w' (Xa c)):Mk w0 hi w' b vl L V m vt T:=by
 have d:b≠c:=fun e=>by
  subst e;have c:w.heap[b]? =_:=h.box;rw[show w.heap[b]? =_ from hp]at c
  cases c
 have r:=h.rows;obtain⟨c,g,i,j,k,l,n,p,q⟩:=r.kept a hp;exact⟨zd h.gr a (nT r.bh f),h.hb,h.box.beside a (fun f e=>by cases e;exact d),h.lr,h.lc,h.lb,⟨nT r.hw a.size,r.bh,c Dc,g (.inl Dc),r.slh,i (.inl Dc),r.sbh,r.sq,j (.inl Dc),r.dbh,k Dc,l Dc (.inl Dc),n Dc,p Dc Dc,q Dc,r.ap⟩⟩
theorem znS {w:Xn} (s0:Sp) (h:Mk w0 hi w b vl L V m vt T) (hB:qK m T) (hs:m.sp=[s0]):
  Xp prog 19 #[Xj (Xa ⟨b,0,Xb⟩)] w fun e w'=>(∃v,e= Xl v)/\Frk w0 hi b w vl L m s0.ars w':=by
 have HM:Xo (Mk w0 hi w b vl L V m vt T):=h;have HB:Xo (qK m T):=hB;have HS:Xo (m.sp=[s0]):=hs;obtain⟨f0,rfl⟩:∃f0,T=[f0]:=Oa.1 (by rw[hB.tl,hs];rfl)
 obtain⟨ys,s1,s2,s3⟩:=h.rows.sp;obtain⟨y0,rfl⟩:∃y0,ys=[y0]:=Oa.1 (by rw[s2,hs];rfl)
 obtain⟨gs,cs,hse⟩:=s1.formS Sm
 have hse:V.sp.x=(O (Xa ⟨gs,0,Xb⟩) 1 cs):=hse;have HSE:Xo (V.sp.x=(O (Xa ⟨gs,0,Xb⟩) 1 cs)):=hse;have S1:Xo (zb ZC w0.heap.size w (V.sp.x) [y0]):=s1;have S2:Xo ([y0].length=m.sp.length):=s2;have S3:Xo (∀(i:Nat) x s,[y0][i]? =Xa x->m.sp[i]? =Xa s->x.live=s.live/\zb arE w0.heap.size w x.ar.v s.ars/\x.tab=QF/\s.tb=qG):=show∀i,_ from s3
 have A1:Xo (zb arE w0.heap.size w y0.ar.v s0.ars):=(s3 0 y0 s0 rfl (Rr hs)).2.1
 have HWR:Xo ((wrL s0.ars).1=0):=(hB.spok s0 (by rw[hs];simp)).1
 have HON:Xo (∀W,zb arE w0.heap.size W y0.ar.v s0.ars->Xp prog 22 #[y0.ar.x] W fun e w'=>e= Xl (Xi (zE (tab (zB s0.ars))).toArray)/\zc W w'):=dD<|fun W hW=>jB y0.ar.v s0.ars W hW.at (jq.1 HWR).2.lies
 have hz:=zaQ;obtain⟨Z0,HZ0⟩:=kA (zE (tab fun _=>on0))
 rw[HZ0.out]at hz;have HZL:Xo (Z0.length=384):=dD<|by rw[<-HZ0.out,jx]
 have HPL:Xo ((zE (tab (zB s0.ars))).length=384):=jx _;have HPO:Xo (∀v∈zE (tab (zB s0.ars)),v.oneCell'=Xc):=QO _;have HCA:Xo (∀k,k<64->(zE (tab (zB s0.ars)))[k*6+3]? =Xa (Xh (zB s0.ars k).sh)):=show∀k,_ from fun k hk=>Zl (Jh hk) 3 _ rfl
 generalize zE (tab (zB s0.ars))=CO at HON HPL HPO HCA
 clear h hB hs s1 s2 s3 hse
 go_enter func19,ntmps19
 try go_upto_region 0 with fail
 obtain⟨I,HI⟩:=Wq fun u=>zo u b 58 [vl.x,V.f.x,I6 m.hand,V.s.x,V.sb.x,V.sq.x,V.db.x,V.dq.x,V.fl.x,I6 m.cnt,V.ca.x,V.sp.x,vt.x]/\zb ZC w0.heap.size u (O (Xa ⟨gs,0,Xb⟩) 1 cs) [y0]
 have hI0:I w.drew:=(HI _).2 ⟨HM.box.grew (gW _),by rw[<-HSE.out];exact S1.grew (gW _)⟩
 have hx11:∀y:zj I,y.world.cell? ⟨b,11,Xb⟩=Xa (O (Xa ⟨gs,0,Xb⟩) 1 cs):=fun y=>by
  have:=((HI _).1 y.holds).1.box.c 11 rfl;rw[HSE.out]at this;exact this
 have hy1:∀y:zj I,y.world.cell? ⟨gs,1,Xb⟩=Xa (y0.ar.x):=fun y=>by
  have:=((HI _).1 y.holds).2.one (i:=0) (x:=y0) rfl 1 _ rfl;rw[zS,Yb]at this;exact this
 have hne:Nonempty (zj I):=⟨⟨_,hI0⟩⟩;refine zQ (I:=I) 20 [(15,fun v=>∃g,v= O (Xa ⟨g,0,Xb⟩) 1 1),(16,fun v=>∃g c,v= O (Xa ⟨g,0,Xb⟩) 2 c)] (fun u=>zc w u) hI0 (gW _) z6 Kr rfl rfl Dc (Sb ⟨_,0,rfl⟩ ⟨_,0,0,rfl⟩) Kr ?_
 simp only[Ym,Yn];iterate 2 (refine zL rfl rfl rfl (fun K hK=>?_);go_big_quiet_op;refine hK _ ?_;clear hK K)
 refine z4 (.tmp 6) ⟨b,0,Xb⟩ rfl rfl rfl rfl ?_;simp only[Xw,sB,sS,sZ];iterate 4 (refine zL rfl rfl rfl (fun K hK=>?_);go_big_quiet_op;refine hK _ ?_;clear hK K)
 refine z4 (.tmp 11) ⟨b,0,Xb⟩ rfl rfl rfl rfl ?_;simp only[Xw,sB,sS,sZ];iterate 7 (refine zL rfl rfl rfl (fun K hK=>?_);go_big_quiet_op;refine hK _ ?_;clear hK K)
 refine zI rfl rfl (fun v u=>zc w u/\zl ZC u v [⟨Xc,y0.ar,zG,zG,zG,zG,zG,zG,zG,zG⟩]) (fun w' hI' hF'=>?_) (fun v1 hv=>?_)
 ·obtain⟨i1,i2⟩:=(HI _).1 hI';refine zJ.step (v:= O (Xa ⟨w'.heap.size,0,Xb⟩) 1 1) (w':=w'.alloc (Xk #[Xh Xc,y0.ar.x,eS,eS,eS,eS,eS,eS,eS,eS] 79)) (by clear hx11 hy1;simp only[execOp];go_simp) ⟨(HI _).2 ⟨i1.grew (za _ _),i2.grew (za _ _)⟩,⟨_,rfl⟩,hF'.trans (za _ _),qN ZC w' ⟨Xc,y0.ar,zG,zG,zG,zG,zG,zG,zG,zG⟩ _ _ rfl Dc⟩
 obtain⟨g15,rfl⟩:=hv;simp only[Xw,sB,sS,sZ];refine zI rfl rfl (fun v u=>∃w1,zc w w1/\w1.grownBy u (Xa gs)/\zb ZC w0.heap.size u v [y0,⟨Xc,y0.ar,zG,zG,zG,zG,zG,zG,zG,zG⟩]) (fun w' hI' hF'=>?_) (fun v1 hv=>?_)
 ·obtain⟨i1,i2⟩:=(HI _).1 hI';obtain⟨k1,k2⟩:=hF';obtain⟨v',w2,hrun,ho,hgr,hk⟩:=qx (E:=ZC) (w:=w') 39 i2 (O (Xa ⟨g15,0,Xb⟩) 1 1) [⟨Xc,y0.ar,zG,zG,zG,zG,zG,zG,zG,zG⟩] k2 (by show(1+1)*224<=_;omega) (nT (bS HM.gr) (bS k1))
  obtain⟨g',c',rfl⟩:=ho.formS Sm
  refine zJ.step (v:= O (Xa ⟨g',0,Xb⟩) 2 c') (w':=w2) ?_ ⟨(HI _).2 ⟨zo.row i2 hgr i1 Dc,hk _ [y0] (nR _) i2⟩,⟨_,_,rfl⟩,w',k1,hgr,ho⟩
  clear hx11 hy1;simp only[execOp,resolve,invoke,builtin,pure_bind,Xu,Xt,Yx,mP,Yk];exact Eq.trans (congrArg (fun r=>Result.andThen r (fun a w'=>Result.ok (Next.value a) w')) hrun) rfl
 obtain⟨g4,c4,rfl⟩:=hv;simp only[Xw,sB,sS,sZ];refine z4 (.tmp 5) ⟨b,0,Xb⟩ rfl rfl rfl rfl ?_;simp only[Xw,sB,sS,sZ];iterate 2 (refine zL rfl rfl rfl (fun K hK=>?_);go_big_quiet_op;refine hK _ ?_;clear hK K)
 refine qJ fun W4 hI4 hF4=>?_
 obtain⟨w1,gw,gr4,ow4⟩:=hF4;have B4:Xo (zo W4 b 58 [vl.x,V.f.x,I6 m.hand,V.s.x,V.sb.x,V.sq.x,V.db.x,V.dq.x,V.fl.x,I6 m.cnt,V.ca.x,V.sp.x,vt.x]):=((HI _).1 hI4).1;have gr4':w1.grownBy W4 (V.sp.x).ownBlock:=Rx HSE.out gr4
 have R4:Xo (MkR w0.heap.size hi W4 { V with sp:=⟨Xa ⟨g4,0,Xb⟩,2,c4⟩ } { m with sp:=m.sp++ [⟨Xc,s0.ars,qG⟩] } vt [f0]):=(HM.rows.grew gw).addSp (S1.grew gw) S2 (fun i x s hx hs=>by
  obtain⟨a1,a2,a3⟩:=S3.out i x s hx hs;exact⟨a1,a2.grew gw,a3⟩) gr4' ⟨Xa ⟨g4,0,Xb⟩,2,c4⟩ y0.ar (A1.grew gw) ow4
 have G4:Xo (zc w0 W4):=zc.row (S1.grew gw) gr4' (HM.gr.trans gw);have K4:Xo (zC hi w W4):=(zC.grew gw).trans (zC.row (S1.grew gw) gr4' (fun p hl=>hl.2.2.2.2.2.2.1 rfl))
 have A4:Xo (zb arE w0.heap.size W4 y0.ar.v s0.ars):=dD<|by
  obtain⟨ds,hc⟩:=(S1.grew gw).obj (g:=gs) (Rr HSE.out)
  exact(A1.grew gw).kind gr4 hc Dc
 have O4:Xo (zb ZC w0.heap.size W4 (O (Xa ⟨g4,0,Xb⟩) 2 c4) [y0,⟨Xc,y0.ar,zG,zG,zG,zG,zG,zG,zG,zG⟩]):=ow4;clear gw gr4 gr4' ow4 hI4 hI0 hx11 hy1 hne;have x11:=B4.box.c 11 rfl;rw[HSE.out]at x11;have xf:=B4.box.f;go_upto_region 1 with fail;clear x11 xf;obtain⟨W5,hW5⟩:=kB (W4.setCell ⟨b,11,Xb⟩ (O (Xa ⟨g4,0,Xb⟩) 2 c4));have hg5:W4.grownBy W5 (Xa b):=by rw[<-hW5];exact ji _ _ _ _
 have M5:Xo (Mk w0 hi W5 b vl L { V with sp:=⟨Xa ⟨g4,0,Xb⟩,2,c4⟩ } { m with sp:=m.sp++ [⟨Xc,s0.ars,qG⟩] } vt [f0]):=dD<|⟨zd G4 hg5 HM.hb,HM.hb,by rw[<-hW5];exact B4.set 11 _,HM.lr,HM.lc,HM.lb,R4.var hg5 B4 hg5.size (.inl rfl)⟩
 have K5:Xo (zC hi w W5):=K4.trans (zC.kind hg5 B4 (fun _ hl=>absurd rfl hl.1))
 have A5:Xo (zb arE w0.heap.size W5 y0.ar.v s0.ars):=A4.kind hg5 B4 Dc
 have O5:Xo (zb ZC w0.heap.size W5 (O (Xa ⟨g4,0,Xb⟩) 2 c4) [y0,⟨Xc,y0.ar,zG,zG,zG,zG,zG,zG,zG,zG⟩]):=O4.kind hg5 B4 Dc
 rw[hW5];clear hW5 hg5;have HML:Xo (w0.heap.size<=b/\zl byE w0 (vl.x) L/\vl.n<=vl.c/\∀z∈L,0<=z/\z<256):=dD<|⟨HM.hb,HM.lr,HM.lc,HM.lb⟩
 have x11:W5.cell? ⟨b,11,Xb⟩=Xa (O (Xa ⟨g4,0,Xb⟩) 2 c4):=M5.box.box.c 11 rfl;have y1:W5.cell? ⟨g4,1,Xb⟩=Xa (y0.ar.x):=by
  have:=O5.one (i:=0) (x:=y0) rfl 1 _ rfl;rw[zS,Yb]at this;exact this
 have hon:=HON.out W5 A5.out;go_wp2_with fail;refine hon.mono ?_;clear hon x11 y1;rintro e W6 ⟨rfl,g6⟩;obtain⟨po,HPO2⟩:=kA W6.heap.size;have M6:=dD (M5.grew g6);have K6:=dD (K5.trans (zC.grew g6));clear g6
 go_upto_region 2 with(refine zP rfl 82 (.tmp 2) (.tmp 33) rfl W6.heap.size rfl CO rfl (zo.top W6 Z0 82 rfl) (by rw[HPL.out,HZL.out]) (Rx HZL.out zqD) HPO.out ?_)
 intro W7 b7 g7 s7;have g67:zc W6 W7:=zd (za _ _) g7 (nR _);have M7:=dD (M6.grew g67);have K7:=dD (K6.trans (zC.grew g67));rw[HPO2.out]at b7⊢;have P7:Xo (zo W7 po 82 CO):=b7;clear b7 g7 s7 g67 hz;try simp only[Xw]
 have x12:=M7.box.box.c 12 rfl;have HSZ5:Xo (w0.heap.size<=W7.heap.size):=dD<|bS M7.gr
 go_wp2_with (at_builtin;refine zn (E:=zb7) rfl (.tmp 38) (.tmp 40) rfl w0.heap.size _ [f0] rfl (M7.rows.tt.grew (za _ _)) _ [fun _=>en0] rfl (qN zb7 W7 (fun _=>en0) _ _ rfl Dc) ?qb ?qc ?_)
 case qb=>
  show(1+1)*1536<=_
  omega
 case qc=>exact nT HSZ5 (bS (za _ _))
 intro v8 W8 ow8 gr8;obtain⟨gt,ct,rfl⟩:=ow8.formS Sm
 have ow8':zb zb7 w0.heap.size W8 (O (Xa ⟨gt,0,Xb⟩) 2 ct) ([f0]++ [fun _=>en0]):=ow8
 obtain⟨WX,hWX⟩:=kB (W7.alloc (Xk (zb7.enc (fun _=>en0)).toArray 76))
 have gX:=gP hWX
 have gr8':WX.grownBy W8 (vt.x).ownBlock:=Ry hWX gr8
 clear gr8 hWX ow8;have M7X:=M7.grew gX;have B8:Xo (zo W8 b 58 [vl.x,V.f.x,I6 m.hand,V.s.x,V.sb.x,V.sq.x,V.db.x,V.dq.x,V.fl.x,I6 m.cnt,V.ca.x,O (Xa ⟨g4,0,Xb⟩) 2 c4,vt.x]):=zo.row M7X.rows.tt gr8' M7X.box Dc
 have R8:Xo (MkR w0.heap.size hi W8 { V with sp:=⟨Xa ⟨g4,0,Xb⟩,2,c4⟩ } { m with sp:=m.sp++ [⟨Xc,s0.ars,qG⟩] } ⟨Xa ⟨gt,0,Xb⟩,2,ct⟩ ([f0]++ [fun _=>en0])):=M7X.rows.addT gr8' ⟨Xa ⟨gt,0,Xb⟩,2,ct⟩ ow8'
 have G8:Xo (zc w0 W8):=zc.row M7X.rows.tt gr8' M7X.gr;have K8:Xo (zC hi w W8):=(K7.trans (zC.grew gX)).trans (zC.row M7X.rows.tt gr8' (fun p hl=>hl.2.2.2.2.2.2.2.1 rfl))
 have P8:Xo (zo W8 po 82 CO):=zo.row M7X.rows.tt gr8' (P7.grew gX) Dc
 clear gr8' ow8' gX x12;have x12:=B8.box.c 12 rfl;have xf:=B8.box.f;go_upto_region 3 with fail;clear x12 xf;obtain⟨W9,hW9⟩:=kB (W8.setCell ⟨b,12,Xb⟩ (O (Xa ⟨gt,0,Xb⟩) 2 ct));have hg9:W8.grownBy W9 (Xa b):=by rw[<-hW9];exact ji _ _ _ _
 obtain⟨vt9,HVT⟩:∃vt9:Sli,Xo (vt9=⟨Xa ⟨gt,0,Xb⟩,2,ct⟩):=⟨_,rfl⟩;obtain⟨V9,HV9⟩:∃V9:MaV,Xo (V9={ V with sp:=⟨Xa ⟨g4,0,Xb⟩,2,c4⟩ }):=⟨_,rfl⟩;obtain⟨m9,HM9⟩:∃m9:Ma,Xo (m9={ m with sp:=m.sp++ [⟨Xc,s0.ars,qG⟩] }):=⟨_,rfl⟩;have M9:Xo (Mk w0 hi W9 b vl L V9 m9 vt9 [f0,fun _=>en0]):=dD<|by
  rw[HVT.out,HV9.out,HM9.out];exact⟨zd G8 hg9 HML.1,HML.1,by rw[<-hW9];exact B8.set 12 _,HML.2.1,HML.2.2.1,HML.2.2.2,R8.var hg9 B8 hg9.size (.inl rfl)⟩
 have K9:Xo (zC hi w W9):=K8.trans (zC.kind hg9 B8 (fun _ hl=>absurd rfl hl.1))
 have P9:Xo (zo W9 po 82 CO):=P8.beside hg9 (fun g e=>by
  cases e;intro e;have h1:W8.heap[po]? =_:=P8.out;rw[e,show W8.heap[b]? =_ from B8.out]at h1
  cases h1)
 have HB9:Xo (qK m9 [f0,fun _=>en0]):=dD<|by
  rw[HM9.out];exact HB.space HWR (by rw[HS.out];simp)
 have HS9:Xo (m9.sp=[s0,⟨Xc,s0.ars,qG⟩]/\m9.fl=m.fl/\m9.hand=m.hand/\m9.fs.length=m.fs.length):=dD<|by
  rw[HM9.out];exact⟨by show m.sp++_=_;rw[HS.out];rfl,rfl,rfl,rfl⟩
 have HTV:Xo (vt9.x= O (Xa ⟨gt,0,Xb⟩) 2 ct):=dD<|by rw[HVT.out]
 rw[hW9];clear hW9 hg9;have x12:W9.cell? ⟨b,12,Xb⟩=Xa (O (Xa ⟨gt,0,Xb⟩) 2 ct):=by rw[<-HTV.out];exact M9.box.box.c 12 rfl
 have hrg:W9.rangeAt gt 0 (qr (tab f0)):=fun j v hj=>by
  have hr:=M9.rows.tt;(first|rw[HTV.out]at hr|rw[show O _ _ _=_ from HTV.out]at hr);have:=hr.one (i:=0) (x:=f0) rfl j v hj;rw[zS,Yb]at this
  simpa using this
 go_wp2_with (refine wpList_load_mid rfl 76 (.tmp 48) rfl gt 0 rfl (qr (tab f0)) _ hrg underlying76 rfl (by rw[ZK,Qs];exact zqH) ?_)
 clear hrg x12;have HIX:Xo (∀{ops:Array Oper} {rest:List Oper} {o:Oper} {a:Act} {w:Xn} {Q:Exit->Act->Xn->Prop} (_:o.guard=Xb) (x ix:Operand) (_:o.op= .index 76 x ix) (_:a.eval x= Xi (qr (tab f0)).toArray) (i:Nat) (_:a.eval ix=I6 (i:Int)) (_:i<64) {e:En} (_:f0 i=e)
  (_:wpList prog ops Q rest (a.put o.dst (Xi #[I6 e.kind,I6 e.n,Xh e.wr])) w),wpList prog ops Q (o :: rest) a w):=fun h1 x ix h2 h3 i h4 h5 _ h6 h7=>zaL h1 x ix h2 (tab f0) h3 i h4 h5 (by rw[Jh h5,h6]) h7
 generalize qr (tab f0)=CF at HIX⊢
 go_wp2
 go_loopg [50] 64 (fun gg s50 wr=>∃(kk:Nat) (m':Ma) (T':List (Nat->En)) (fA fB:Nat->En),kk<=64/\64 - kk<=gg/\s50=I6 kk/\Xo (Mk w0 hi wr b vl L V9 m' vt9 T')/\Xo (zC hi w wr)/\Xo (qK m' T')/\Xo (m'.sp=[s0,⟨Xc,s0.ars,qG⟩]/\m'.fl=m.fl/\m'.hand=m.hand/\m'.fs.length=m.fs.length)/\Xo (T'[0]? =Xa fA/\T'[1]? =Xa fB/\(∀j,kk<=j->fA j=f0 j/\fB j=en0))/\Xo (zo wr po 82 CO))
 exact⟨0,m9,_,f0,fun _=>en0,nZ _,Wm,rfl,M9,K9,HB9,HS9,(show _/\_ from⟨rfl,rfl,fun _ _=>⟨rfl,rfl⟩⟩),P9⟩
 obtain⟨kk,m',T',fA,fB,hkk,hgg,rfl,MW,KW,BW,SW,TW,PW⟩:=hrel
 by_cases hlt:kk<64
 ·have hltz:(kk:Int)<64:=Wm
  obtain⟨ek,en,ew,HE⟩:∃ek en ew,Xo (f0 kk=⟨ek,en,ew⟩):=⟨_,_,_,rfl⟩;have HAK:Xo (fA kk=⟨ek,en,ew⟩):=dD<|by rw[(TW.2.2 kk (nR _)).1];exact HE.out
  have HBK:Xo (fB kk=en0):=(TW.2.2 kk (nR _)).2;have HNX:Xo (∀e',(((T'.set 0 (jt fA kk e')).set 1 (jt fB kk e'))[0]? =Xa (jt fA kk e')/\((T'.set 0 (jt fA kk e')).set 1 (jt fB kk e'))[1]? =Xa (jt fB kk e')/\(∀j,kk+1<=j->jt fA kk e' j=f0 j/\jt fB kk e' j=en0))):=show∀e',_ from fun e'=>by
   have hA:=(gS.1 TW.1).1;have hB:=(gS.1 TW.2.1).1;refine⟨?_,?_,fun j hj=>?_⟩
   ·rw[sN Dc]
    exact sF hA
   ·exact sF (Si hB)
   unfold jt;rw[kF Wm,kF Wm]
   exact TW.2.2 j Wm
  have hent:=BW.entry0 (s0:=s0) (Rr SW.1) TW.1 hlt
  rw[HAK.out]at hent;obtain⟨FIN,HFN⟩:∃FIN:Ma->En->Prop,Xo (∀m2 e2,FIN m2 e2↔(qK m2 ((T'.set 0 (jt fA kk e2)).set 1 (jt fB kk e2))/\m2.sp=[s0,⟨Xc,s0.ars,qG⟩]/\m2.fl=m.fl/\m2.hand=m.hand/\m2.fs.length=m.fs.length)):=⟨fun m2 e2=>_,fun _ _=>Iff.rfl⟩
  obtain⟨MID,HMD⟩:∃MID:Ma->En->Prop,Xo (∀m2 e2,MID m2 e2↔((e2=⟨ek,en,ew⟩/\m2=m'/\ek=2)\/(e2.kind≠2/\FIN m2 e2))):=⟨fun m2 e2=>_,fun _ _=>Iff.rfl⟩
  go_upto_region 6 with(refine HIX rfl (.tmp 49) (.tmp 50) rfl rfl kk rfl hlt HE.out ?_)
  obtain⟨pe,HPE⟩:=kA wr.heap.size;obtain⟨W1,hW1⟩:=kB (wr.alloc (Xk #[I6 ek,I6 en,Xh ew] 75));have g1:=gP hW1
  have E1:=xPT hW1 HPE
  have M1:=dD (MW.grew g1);have K1:=dD (KW.trans (zC.grew g1));have P1:=dD (PW.grew g1);have HEL:Xo (hi<=pe/\w.heap.size<=pe):=show _/\_ by rw[<-HPE.out];exact⟨MW.rows.hw,KW.2⟩
  rw[hW1,HPE.out];clear hW1 g1;have e0:=E1.box.c 0 rfl
  go_upto_if 56 with fail
  go_cut [50] (fun s50 wx=>s50=I6 kk/\∃(m2:Ma) (e2:En),Xo (Mk w0 hi wx b vl L V9 m2 vt9 T')/\Xo (zC hi w wx)/\Xo (zo wx pe 75 [I6 e2.kind,I6 e2.n,Xh e2.wr])/\Xo (zo wx po 82 CO)/\Xo (MID m2 e2))
  case first=>
   rcases hent with hE|⟨k,fr,h1,h2,h3⟩|⟨k,z,h1,h2,h3,h4,h5⟩
   ·have HMI:Xo (MID m' ⟨ek,en,ew⟩):=(HMD _ _).2 (.inr ⟨by rw[hE];decide,(HFN _ _).2 ⟨by rw[hE,zl1 TW.1 TW.2.1 (HAK.trans hE) HBK.out];exact BW,SW⟩⟩)
    cases hE;have hk1:((0:Int) == 1)=Xd:=Dc
    go_wp2
    go_meet
    exact⟨rfl,m',⟨0,0,Xd⟩,M1,K1,E1,P1,HMI⟩
   ·dsimp only at h1 h2;subst h1;subst h2;have HK:Xo (m'.fs[k]? =Xa fr):=h3;obtain⟨hr0,hr1⟩:=BW.refs h3;obtain⟨nf,HNF⟩:=kA m'.fs.length;have hkn:k<nf:=by rw[<-HNF.out];exact(gS.1 h3).1
    have hkz:(k:Int)< (nf:Int):=Wm
    clear h3;have hk1:((1:Int) == 1)=Xc:=Dc
    have hk2:((1:Int) == 2)=Xd:=Dc
    obtain⟨g,cf,heq⟩:=M1.rows.fs.formS (by rw[HNF.out];omega)
    rw[HNF.out]at heq;have HEQ:Xo (V9.f.x= O (Xa ⟨g,0,Xb⟩) nf cf):=heq;have hrw:=M1.rows.fs;(first|rw[HEQ.out]at hrw|rw[show O _ _ _=_ from HEQ.out]at hrw);have HRW:Xo (zb qA w0.heap.size W1 (O (Xa ⟨g,0,Xb⟩) nf cf) m'.fs):=hrw;clear hrw heq;go_upto_region 7 with fail;clear e0;obtain⟨I,HI⟩:=Wq fun u=>zc W1 u
    have hI0:I W1.drew:=(HI _).2 (gW _)
    have hx1:∀y:zj I,y.world.cell? ⟨b,1,Xb⟩=Xa (O (Xa ⟨g,0,Xb⟩) nf cf):=fun y=>by rw[<-HEQ.out];exact(M1.box.box.grew ((HI _).1 y.holds)).c 1 rfl
    have he1:∀y:zj I,y.world.cell? ⟨pe,1,Xb⟩=Xa (I6 (k:Int)):=fun y=>(E1.box.grew ((HI _).1 y.holds)).c 1 rfl
    have hd8:∀y:zj I,y.world.cell? ⟨g,k*13+8,Xb⟩=Xa (I6 fr.r):=fun y=>by
     have:=(HRW.grew ((HI _).1 y.holds)).one HK 8 _ rfl;rw[zS,Yb,zA]at this;exact this
    have hne:Nonempty (zj I):=⟨⟨_,hI0⟩⟩;refine Qj (I:=I) 14 [] hI0 z6 Kr rfl rfl Dc Sm Kr ?_
    simp only[Ym,Yn];iterate 1 (refine QJ rfl rfl rfl (fun K hK=>?_);go_big_quiet_op;refine hK _ ?_;clear hK K)
    refine zc0 (.tmp 57) ⟨b,0,Xb⟩ rfl rfl rfl rfl ?_;simp only[Xw,sB,sS,sZ];iterate 12 (refine QJ rfl rfl rfl (fun K hK=>?_);go_big_quiet_op;refine hK _ ?_;clear hK K)
    refine zcj fun W2 hI2 hF=>?_
    have g2:=(HI _).1 hI2;have M2:=dD (M1.grew g2);have K2:=dD (K1.trans (zC.grew g2));have E2:=dD (E1.grew g2);have P2:=dD (P1.grew g2);have R2:=dD (HRW.grew g2);clear g2 hI2 hF hx1 he1 hd8 hne hI0;have xf:=R2.unfrozen rfl;have d8:W2.cell? ⟨g,k*13+8,Xb⟩=Xa (I6 fr.r):=by
     have:=R2.one HK 8 _ rfl;rw[zS,Yb,zA]at this;exact this
    go_upto_region 8 with fail;clear d8 xf;obtain⟨ow3,gr3,sz3⟩:=R2.cell (k:=k) (o:=8) rfl HK (y:={ fr with r:=fr.r+1 }) (u:=I6 (fr.r+1)) rfl Dc
    obtain⟨W3,hW3⟩:=kB (W2.setCell ⟨g,k*13+8,Xb⟩ (I6 (fr.r+1)));have e3:W2.setCell ⟨g,k*qA.k+8,Xb⟩ (I6 (fr.r+1))=W3:=hW3;rw[e3]at ow3 gr3 sz3;rw[hW3];rw[<-HEQ.out]at ow3;have hM3:=M2.setF (by (first|rw[HEQ.out]|rw[show O _ _ _=_ from HEQ.out]);rfl) gr3 sz3 ow3 (M2.rows.ap.2.inc BW HK)
    have M3:Xo (Mk w0 hi W3 b vl L V9 { m' with fs:=m'.fs.set k { fr with r:=fr.r+1 } } vt9 T'):=hM3.1;have K3:Xo (zC hi w W3):=K2.trans hM3.2;have E3:Xo (zo W3 pe 75 [I6 1,I6 (k:Int),Xh ew]):=hM3.2.1 _ _ _ E2 zcW;have P3:Xo (zo W3 po 82 CO):=hM3.2.1 _ _ _ P2 zci;clear e3 hW3 ow3 gr3 sz3 hM3;have HBF:Xo (∀e',e'=(if(zB s0.ars kk).sh=Xc then(⟨1,(k:Int),ew⟩:En)else⟨1,(k:Int),Xd⟩)->qK { m' with fs:=m'.fs.set k { fr with r:=fr.r+1 } } ((T'.set 0 (jt fA kk e')).set 1 (jt fB kk e'))):=show∀e',_ from fun e' he=>BW.forkP (s0:=s0) (s1:=⟨Xc,s0.ars,qG⟩) (Rr SW.1) (Rr SW.1) rfl TW.1 TW.2.1 hlt HBK HK (by rw[HAK.out]) (by rw[HAK.out]) (Rx HAK.out he)
    have o3:=P3.box.c _ (HCA kk hlt);have e0:=E3.box.c 0 rfl
    cases hsh:(zB s0.ars kk).sh with
    | true=>
     rw[hsh]at o3 HBF;have HMI:Xo (MID { m' with fs:=m'.fs.set k { fr with r:=fr.r+1 } } ⟨1,(k:Int),ew⟩):=(HMD _ _).2 (.inr ⟨by show(1:Int)≠2;decide,(HFN _ _).2 ⟨HBF _ (kE rfl).symm,SW.1,SW.2.1,SW.2.2.1,by show(m'.fs.set k _).length=_;rw[Yp];exact SW.2.2.2⟩⟩)
     clear hsh;go_wp2
     go_meet
     exact⟨rfl,_,⟨1,(k:Int),ew⟩,M3,K3,E3,P3,HMI⟩
    | false=>
     rw[hsh]at o3 HBF;have HMI:Xo (MID { m' with fs:=m'.fs.set k { fr with r:=fr.r+1 } } ⟨1,(k:Int),Xd⟩):=(HMD _ _).2 (.inr ⟨by show(1:Int)≠2;decide,(HFN _ _).2 ⟨HBF _ (kF Dc).symm,SW.1,SW.2.1,SW.2.2.1,by show(m'.fs.set k _).length=_;rw[Yp];exact SW.2.2.2⟩⟩)
     clear hsh;have e2:=E3.box.c 2 rfl;have xf:=E3.box.f;go_upto_region 10 with fail;clear o3 e0 e2 xf;obtain⟨W4,hW4⟩:=kB (W3.setCell ⟨pe,2,Xb⟩ (Xh Xd));have hg4:W3.grownBy W4 (Xa pe):=by rw[<-hW4];exact ji _ _ _ _
     have E4:Xo (zo W4 pe 75 [I6 1,I6 (k:Int),Xh Xd]):=dD<|by rw[<-hW4];exact E3.set 2 _
     have M4:Xo (Mk w0 hi W4 b vl L V9 { m' with fs:=m'.fs.set k { fr with r:=fr.r+1 } } vt9 T'):=M3.entry E3 HEL.1 hg4;have K4:Xo (zC hi w W4):=K3.own hg4 HEL.2;have P4:Xo (zo W4 po 82 CO):=P3.beside hg4 (fun g e=>by
      cases e;intro e;have h1:W3.heap[po]? =_:=P3.out;rw[e,show W3.heap[pe]? =_ from E3.out]at h1
      cases h1)
     rw[hW4];clear hW4 hg4;go_wp2
     go_meet
     exact⟨rfl,_,⟨1,(k:Int),Xd⟩,M4,K4,E4,P4,HMI⟩
   have HMI:Xo (MID m' ⟨ek,en,ew⟩):=(HMD _ _).2 (.inl ⟨rfl,rfl,h1⟩);have hk1:(ek == 1)=Xd:=by rw[show ek=2 from h1];decide
   clear h1 h2 h3 h4 h5;go_wp2
   go_meet
   exact⟨rfl,m',⟨ek,en,ew⟩,M1,K1,E1,P1,HMI⟩
  clear e0;obtain⟨rfl,m1,e1,MA,KA,EA,PA,HMI⟩:=hcut;obtain⟨ck,cn,cw⟩:=e1;have eA:=EA.box.c 0 rfl
  go_upto_if 79 with fail
  go_cut [50] (fun s50 wx=>s50=I6 kk/\∃(m2:Ma) (e2:En),Xo (Mk w0 hi wx b vl L V9 m2 vt9 T')/\Xo (zC hi w wx)/\Xo (zo wx pe 75 [I6 e2.kind,I6 e2.n,Xh e2.wr])/\Xo (zo wx po 82 CO)/\Xo (FIN m2 e2))
  case first=>
   rcases(HMD _ _).1 HMI with⟨h6,rfl,h7⟩|⟨h6,h7⟩
   ·obtain⟨h1,h2,h3⟩:=(En.mk.injEq _ _ _ _ _ _).mp h6;subst h1 h2 h3;subst h7
    rcases hent with hE|⟨k,fr,h1,h2,h3⟩|⟨k,z,h1,h2,h3,h4,h5⟩
    ·cases hE
    ·exact absurd (show(2:Int)=1 from h1) Dc
    dsimp only at h2;subst h2;have HK:Xo (m1.sl[k]? =Xa z):=h3;obtain⟨nf,HNF⟩:=kA m1.sl.length;have hkn:k<nf:=by rw[<-HNF.out];exact(gS.1 h3).1
    have hkz:(k:Int)< (nf:Int):=Wm
    clear h3;have hk2:((2:Int) == 2)=Xc:=Dc
    obtain⟨g,cf,heq⟩:=MA.rows.sl.formS (by rw[HNF.out];omega)
    rw[HNF.out]at heq;have HEQ:Xo (V9.s.x= O (Xa ⟨g,0,Xb⟩) nf cf):=heq;have hrw:=MA.rows.sl;rw[show O _ _ _=_ from HEQ.out]at hrw;have HRW:Xo (zb slE w0.heap.size wc (O (Xa ⟨g,0,Xb⟩) nf cf) m1.sl):=hrw;clear hrw heq;go_upto_region 11 with fail;clear eA;obtain⟨I,HI⟩:=Wq fun u=>zc wc u
    have hI0:I wc.drew:=(HI _).2 (gW _)
    have hx1:∀y:zj I,y.world.cell? ⟨b,3,Xb⟩=Xa (O (Xa ⟨g,0,Xb⟩) nf cf):=fun y=>by rw[<-HEQ.out];exact(MA.box.box.grew ((HI _).1 y.holds)).c 3 rfl
    have he1:∀y:zj I,y.world.cell? ⟨pe,1,Xb⟩=Xa (I6 (k:Int)):=fun y=>(EA.box.grew ((HI _).1 y.holds)).c 1 rfl
    have hd8:∀y:zj I,y.world.cell? ⟨g,k,Xb⟩=Xa (I6 z):=fun y=>by
     have:=(HRW.grew ((HI _).1 y.holds)).one HK 0 _ rfl;rw[zS,Yb,zA]at this
     simpa [slE,Nat.mul_one]using this
    have hne:Nonempty (zj I):=⟨⟨_,hI0⟩⟩;refine Qj (I:=I) 11 [] hI0 z6 Kr rfl rfl Dc Sm Kr ?_
    simp only[Ym,Yn];iterate 1 (refine QJ rfl rfl rfl (fun K hK=>?_);go_big_quiet_op;refine hK _ ?_;clear hK K)
    refine zc0 (.tmp 80) ⟨b,0,Xb⟩ rfl rfl rfl rfl ?_;simp only[Xw,sB,sS,sZ];iterate 9 (refine QJ rfl rfl rfl (fun K hK=>?_);go_big_quiet_op;refine hK _ ?_;clear hK K)
    refine zcj fun W2 hI2 hF=>?_
    have g2:=(HI _).1 hI2;have M2:=dD (MA.grew g2);have K2:=dD (KA.trans (zC.grew g2));have E2:=dD (EA.grew g2);have P2:=dD (PA.grew g2);have R2:=dD (HRW.grew g2);clear g2 hI2 hF hx1 he1 hd8 hne hI0;have xf:=R2.unfrozen rfl;have d8:W2.cell? ⟨g,k,Xb⟩=Xa (I6 z):=by
     have:=R2.one HK 0 _ rfl;rw[zS,Yb,zA]at this
     simpa [slE,Nat.mul_one]using this
    go_upto_region 12 with fail;clear d8 xf;obtain⟨ow3,gr3,sz3⟩:=R2.cell (k:=k) (o:=0) rfl HK (y:=z+1) (u:=I6 (z+1)) rfl Dc
    obtain⟨W3,hW3⟩:=kB (W2.setCell ⟨g,k,Xb⟩ (I6 (z+1)));have e3:W2.setCell ⟨g,k*slE.k+0,Xb⟩ (I6 (z+1))=W3:=by rw[<-hW3];simp[slE]
    rw[e3]at ow3 gr3 sz3;rw[hW3];rw[<-HEQ.out]at ow3;have hM3:=M2.setS (by (first|rw[HEQ.out]|rw[show O _ _ _=_ from HEQ.out]);rfl) gr3 sz3 ow3
    have M3:Xo (Mk w0 hi W3 b vl L V9 { m1 with sl:=m1.sl.set k (z+1) } vt9 T'):=hM3.1;have K3:Xo (zC hi w W3):=K2.trans hM3.2;have E3:Xo (zo W3 pe 75 [I6 2,I6 (k:Int),Xh cw]):=hM3.2.1 _ _ _ E2 zcW;have P3:Xo (zo W3 po 82 CO):=hM3.2.1 _ _ _ P2 zci;clear e3 hW3 ow3 gr3 sz3 hM3;have HFI:Xo (FIN { m1 with sl:=m1.sl.set k (z+1) } ⟨2,(k:Int),cw⟩):=(HFN _ _).2 ⟨by
     have:=BW.forkS (s0:=s0) (s1:=⟨Xc,s0.ars,qG⟩) (Rr SW.1) (Rr SW.1) rfl TW.1 TW.2.1 hlt HBK HK (by rw[HAK.out]) (by rw[HAK.out])
     rw[HAK.out]at this;exact this,SW.1,SW.2.1,SW.2.2.1,SW.2.2.2⟩
    go_wp2
    go_meet
    exact⟨rfl,_,⟨2,(k:Int),cw⟩,M3,K3,E3,P3,HFI⟩
   have hk2:(ck == 2)=Xd:=beq_eq_false_iff_ne.2 h6;have HFI:Xo (FIN m1 ⟨ck,cn,cw⟩):=h7;clear h6 h7 hent;go_wp2
   go_meet
   exact⟨rfl,m1,⟨ck,cn,cw⟩,MA,KA,EA,PA,HFI⟩
  clear eA;obtain⟨rfl,m2,e2,MB,KB,EB,PB,HFI⟩:=hcut;obtain⟨ck,cn,cw⟩:=e2;go_upto_region 12 with fail;obtain⟨I,HI⟩:=Wq fun u=>u.cell? ⟨b,12,Xb⟩=Xa (O (Xa ⟨gt,0,Xb⟩) 2 ct)/\zo u pe 75 [I6 ck,I6 cn,Xh cw]/\zo u po 82 CO
  have HIM:Xo (∀u m' T',Mk w0 hi u b vl L V9 m' vt9 T'->u.cell? ⟨b,12,Xb⟩=Xa (O (Xa ⟨gt,0,Xb⟩) 2 ct)):=dD<|fun u m' T' hm=>by
   have:=hm.box.box.c 12 rfl;(first|rw[HTV.out]at this|rw[show O _ _ _=_ from HTV.out]at this);exact this
  have hI0:I wc.drew:=(HI _).2 ⟨HIM _ _ _ (MB.grew (gW _)),EB.grew (gW _),PB.grew (gW _)⟩
  have hF0:Mk w0 hi wc.drew b vl L V9 m2 vt9 T'/\zC hi w wc.drew:=⟨MB.grew (gW _),KB.trans (zC.grew (gW _))⟩
  have ht:∀y:zj I,y.world.cell? ⟨b,12,Xb⟩=Xa (O (Xa ⟨gt,0,Xb⟩) 2 ct):=fun y=>((HI _).1 y.holds).1
  have he0:∀y:zj I,y.world.cell? ⟨pe,0,Xb⟩=Xa (I6 ck):=fun y=>((HI _).1 y.holds).2.1.box.c 0 rfl
  have he1:∀y:zj I,y.world.cell? ⟨pe,1,Xb⟩=Xa (I6 cn):=fun y=>((HI _).1 y.holds).2.1.box.c 1 rfl
  have he2:∀y:zj I,y.world.cell? ⟨pe,2,Xb⟩=Xa (Xh cw):=fun y=>((HI _).1 y.holds).2.1.box.c 2 rfl
  have hne:Nonempty (zj I):=⟨⟨_,hI0⟩⟩;refine zQ (I:=I) 17 [(14,fun _=>True)] (fun u=>Mk w0 hi u b vl L V9 m2 vt9 T'/\zC hi w u) hI0 hF0 z6 Kr rfl rfl Dc (Sa ⟨undef,trivial⟩) Kr ?_
  simp only[Ym,Yn];iterate 1 (refine zL rfl rfl rfl (fun K hK=>?_);go_big_quiet_op;refine hK _ ?_;clear hK K)
  refine z4 (.tmp 91) ⟨b,0,Xb⟩ rfl rfl rfl rfl ?_;simp only[Xw,sB,sS,sZ];iterate 4 (refine zL rfl rfl rfl (fun K hK=>?_);go_big_quiet_op;refine hK _ ?_;clear hK K)
  refine z4 (.tmp 96) ⟨b,0,Xb⟩ rfl rfl rfl rfl ?_;simp only[Xw,sB,sS,sZ];iterate 7 (refine zL rfl rfl rfl (fun K hK=>?_);go_big_quiet_op;refine hK _ ?_;clear hK K)
  refine zI rfl rfl (fun _ u=>Mk w0 hi u b vl L V9 m2 vt9 (T'.set 0 (jt fA kk ⟨ck,cn,cw⟩))/\zC hi w u) (fun w' hI' hF'=>?_) (fun v1 hv=>?_)
  ·obtain⟨i1,i2,i3⟩:=(HI _).1 hI';obtain⟨k1,k2⟩:=hF';have hr:=k1.rows.tt;(first|rw[HTV.out]at hr|rw[show O _ _ _=_ from HTV.out]at hr);refine zdj (E:=zb7) (.tmp 104) (.tmp 101) 75 rfl w0.heap.size (O (Xa ⟨gt,0,Xb⟩) 2 ct) T' hr gt 0 (kk*3) rfl fA (jt fA kk ⟨ck,cn,cw⟩) TW.1 (env ⟨ck,cn,cw⟩) Kr (zbc fA hlt _) (by show kk*3+3<=192;omega) (enE.one _) _ rfl (by first | rfl | simp) (Xi (env ⟨ck,cn,cw⟩).toArray) rfl rfl (fun w2 ow gr sz=>?_)
   rw[<-HTV.out]at ow;have hM:=k1.setT (by (first|rw[HTV.out]|rw[show O _ _ _=_ from HTV.out]);rfl) gr sz ow
   exact⟨(HI _).2 ⟨HIM _ _ _ hM.1,hM.2.1 _ _ _ i2 zcW,hM.2.1 _ _ _ i3 zci⟩,trivial,hM.1,k2.trans hM.2⟩
  try simp only[Xw]
  iterate 2 (refine zL rfl rfl rfl (fun K hK=>?_);go_big_quiet_op;refine hK _ ?_;clear hK K)
  refine qJ fun W8 hI8 hF8=>?_
  have M8:Xo (Mk w0 hi W8 b vl L V9 m2 vt9 (T'.set 0 (jt fA kk ⟨ck,cn,cw⟩))):=hF8.1;have K8:Xo (zC hi w W8):=hF8.2;have P8:Xo (zo W8 po 82 CO):=((HI _).1 hI8).2.2;clear hF8 hI8 hI0 hF0 ht he0 he1 he2 hne;have R8:Xo (zb zb7 w0.heap.size W8 (O (Xa ⟨gt,0,Xb⟩) 2 ct) (T'.set 0 (jt fA kk ⟨ck,cn,cw⟩))):=show zb _ _ _ _ _ by rw[<-HTV.out];exact M8.rows.tt
  refine zD (E:=zb7) rfl (.tmp 106) (.tmp 102) 75 rfl w0.heap.size _ _ R8 gt 1 (kk*3) rfl fB (jt fB kk ⟨ck,cn,cw⟩) (by rw[sN Dc];exact TW.2.1) (env ⟨ck,cn,cw⟩) Kr (zbc fB hlt _) (by show kk*3+3<=192;omega) (enE.one _) _ rfl (by first | rfl | simp) (Xi (env ⟨ck,cn,cw⟩).toArray) rfl rfl ?_
  intro W9 ow9 gr9 sz9;rw[<-HTV.out]at ow9;have hM9:=M8.setT (by (first|rw[HTV.out]|rw[show O _ _ _=_ from HTV.out]);rfl) gr9 sz9 ow9
  have M9:Xo (Mk w0 hi W9 b vl L V9 m2 vt9 ((T'.set 0 (jt fA kk ⟨ck,cn,cw⟩)).set 1 (jt fB kk ⟨ck,cn,cw⟩))):=hM9.1;have K9:Xo (zC hi w W9):=K8.trans hM9.2;have P9:Xo (zo W9 po 82 CO):=hM9.2.1 _ _ _ P8 zci;have B9:=(HFN _ _).1 HFI.out;have BB9:Xo (qK m2 ((T'.set 0 (jt fA kk ⟨ck,cn,cw⟩)).set 1 (jt fB kk ⟨ck,cn,cw⟩))):=B9.1;have SS9:Xo (m2.sp=[s0,⟨Xc,s0.ars,qG⟩]/\m2.fl=m.fl/\m2.hand=m.hand/\m2.fs.length=m.fs.length):=show _/\_ from B9.2
  clear hM9 ow9 gr9 sz9;go_wp2
  go_roundg (64 -(kk+1));exact⟨kk+1,m2,_,_,_,Wm,Wm,Gn,M9,K9,BB9,SS9,HNX _,P9⟩;omega
 have hltz:¬(kk:Int)<64:=Wm
 have HE:Xo (Frk w0 hi b w vl L m s0.ars wr):=dD<|⟨V9,m',vt9,T',MW,KW,BW,by rw[SW.1,HS.out];rfl,SW.2⟩
 go_wp2
 exact Ge HE.out
theorem zfI {I:Xn->Prop} {P:Program} {J:Act->Xn->Prop} {a:Act} {w:Xn} {L l r:List Oper} (T:Nat) (S:List (Nat × zdy)) (c:I w.drew) (hJ0:J a w.drew) (hJq:∀(j:Nat) o,L.toArray[j]? =Xa o->S.lookup j=Xb->∀a v w,(execOp a.eval o).run P w= .ok (.value v) w->J a w->J (a.put o.dst v) w) (hJs:∀(j:Nat) o s,L.toArray[j]? =Xa o->S.lookup j=Xa s->∀a w K,J a w->I w->zJ P o a w K->zJ P o a w fun v w'=>K v w'/\J (a.put o.dst v) w') (hJu:∀(j:Nat) o,L.toArray[j]? =Xa o->∀a w,J a w->J (a.put o.dst undef) w) (f:P.follows .mixedOrders=Xc) (b:Qu L.toArray T=Xc) (e:L.take T=l) (g:L.drop T=r) (d:T<=L.length)
  (hS:∀x∈S,∃v,x.2.pv v) (hp:∀k s j t,S.lookup k=Xa s->S.lookup j=Xa t->j≠k->anc L.toArray 9 j k=Xd->∀v w w',t.step w w'->s.post v w->s.post v w') (hpre:∀j t k s,S.lookup j=Xa t->S.lookup k=Xa s->j≠k->∀w w',s.step w w'->t.pre w->t.pre w') (hpr0:∀k t,S.lookup k=Xa t->t.pre w.drew)
  (h:zcc I P L.toArray (fun k=>S.lookup k) (fun a w=>J a w->wpList P L.toArray Q r a w) l 0 (fun _ _=>True) a):(Code.region id L.toArray Xc).wp P Q a w:=by
 refine zoA (J:=J) T c hJ0 f b e g d ?_ ?_ ?_ ?_ ?_ ?_ ?_ hJu h
 ·intro k s o c _ d b;obtain⟨t,_,rfl⟩:=zaA c;cases b
 ·intro k s c;obtain⟨t,b,rfl⟩:=zaA c;obtain⟨x,d,rfl,_⟩:=Q3 b;exact hS x d
 ·intro k s j t c f d g _ v;obtain⟨s,b,rfl⟩:=zaA c;obtain⟨t,e,rfl⟩:=zaA f;exact hp k s j t b e d g v
 ·intro j t k s f c d;obtain⟨s,b,rfl⟩:=zaA c;obtain⟨t,e,rfl⟩:=zaA f;exact hpre j t k s e b d
 ·intro k t c;obtain⟨t,b,rfl⟩:=zaA c;exact hpr0 k t b
 ·intro j o c d;exact hJq j o c (Si d)
 intro j o s c d;obtain⟨t,b,_⟩:=zaA d;exact hJs j o t c b
theorem zJ.know {P:Program} {a:Act} {w:Xn} {K:Xq->Xn->Prop} {J:Act->Xn->Prop} (h:zJ P o a w K) (c:∀n w',(execOp a.eval o).run P w= .ok n w'->(∃v,n= .value v/\J (a.put o.dst v) w')\/(n= .skip/\J (a.put o.dst undef) w')):zJ P o a w fun v w'=>K v w'/\J (a.put o.dst v) w':=by
 unfold zJ at h⊢
 generalize(execOp a.eval o).run P w=r at h c⊢
 cases r with
 | ok n w'=>
  rcases c n w' rfl with⟨v,rfl,b⟩|⟨rfl,b⟩
  ·exact⟨h,b⟩
  exact⟨h,b⟩
 | halt x w'=>exact h
def zam (ss:List Nat) (a:Act) (w:Xn):Prop:=(∀s∈ss,∀x n c,a.tmps.getD s undef= O (Xa x) n c->x.block<w.heap.size)/\∀s∈ss,∀t∈ss,s≠t->∀x n c y n' c',a.tmps.getD s undef= O (Xa x) n c->a.tmps.getD t undef= O (Xa y) n' c'->x.block≠y.block
theorem ZE {a:Act} {d:Option Nat} {v:Xq} {s:Nat}:(a.put d v).tmps.getD s undef=a.tmps.getD s undef\/(d=Xa s/\(a.put d v).tmps.getD s undef=v):=by
 cases d with
 | none=>exact .inl rfl
 | some k=>
  by_cases e:k=s
  ·subst e
   by_cases b:k<a.tmps.size
   ·refine .inr ⟨rfl,?_⟩
    show(a.tmps.setIfInBounds k v).getD k undef=v
    rw[Ye,Array.getElem?_setIfInBounds_self_of_lt b];rfl
   refine .inl ?_
   show(a.tmps.setIfInBounds k v).getD k undef=_
   rw[Array.setIfInBounds_eq_of_size_le Wm]
  refine .inl ?_
  show(a.tmps.setIfInBounds k v).getD s undef=_
  rw[Ye,Array.getElem?_setIfInBounds_ne e,<-Ye]
theorem zam.other {b:List Nat} {a:Act} {w:Xn} {d:Option Nat} {v:Xq} (i:zam b a w) (f:∀s∈b,d≠Xa s) (m:w.heap.size<=w'.heap.size):zam b (a.put d v) w':=by
 have c:∀s∈b,(a.put d v).tmps.getD s undef=a.tmps.getD s undef:=fun s b=>(ZE (a:=a) (d:=d) (v:=v) (s:=s)).resolve_right fun e=>f s b e.1
 refine⟨fun s b x n g j=>?_,fun s b t k h x n g y p l e f=>?_⟩
 ·rw[c s b]at j;exact Yi (i.1 s b x n g j) m
 rw[c s b]at e;rw[c t k]at f;exact i.2 s b t k h x n g y p l e f
theorem zam.new {c:List Nat} {a:Act} {w:Xn} {d:Option Nat} {j i:Nat} (m:zam c a w) (b:w.heap.size<w'.heap.size):zam c (a.put d (O (Xa ⟨w.heap.size,0,Xb⟩) j i)) w':=by
 have g:∀b∈c,∀x n c,(a.put d (O (Xa ⟨w.heap.size,0,Xb⟩) j i)).tmps.getD b undef= O (Xa x) n c->(a.tmps.getD b undef= O (Xa x) n c/\x.block<w.heap.size)\/(d=Xa b/\x.block=w.heap.size):=fun b h x n c f=>by
  rcases ZE (a:=a) (d:=d) (v:= O (Xa ⟨w.heap.size,0,Xb⟩) j i) (s:=b)with e|⟨e1,e2⟩
  ·rw[e]at f;exact .inl ⟨f,m.1 b h x n c f⟩
  rw[e2]at f;cases f;exact .inr ⟨e1,rfl⟩
 refine⟨fun b h x n c f=>?_,fun b h t p i x n c y q l j k=>?_⟩
 ·rcases g b h x n c f with f|f <;> omega
 rcases g b h x n c j with⟨f,j⟩|⟨f,j⟩ <;> rcases g t p y q l k with⟨g,j⟩|⟨g,j⟩
 ·exact m.2 b h t p i x n c y q l f g
 ·omega
 ·omega
 rw[f]at g;cases g;exact absurd rfl i
theorem zam.undef {c:List Nat} {a:Act} {w:Xn} {d:Option Nat} (k:zam c a w):zam c (a.put d Go.undef) w:=by
 have f:∀b∈c,∀x n c,(a.put d Go.undef).tmps.getD b Go.undef= O (Xa x) n c->a.tmps.getD b Go.undef= O (Xa x) n c:=fun b h x n c g=>by
  rcases ZE (a:=a) (d:=d) (v:=Go.undef) (s:=b)with e|⟨e1,e2⟩
  ·rw[e]at g;exact g
  rw[e2]at g;cases g
 exact⟨fun b h x n c g=>k.1 b h x n c (f b h x n c g),fun b h t l j x n c y p m g i=>k.2 b h t l j x n c y p m (f b h _ _ _ g) (f t l _ _ _ i)⟩
theorem znw {P:Program} {w:Xn} {e:TypeId} {i:TypeInfo} {z:Xq} (b:P.underlying t=Xa (.slice e)) (hi:P.info? e=Xa i) (f:i.zero=Xa z) (x) (a:x=undef\/∃n:Nat,x=I6 n/\n*i.bytes<=140737488355328/\n<=1000) {v:Xq} (h:(Instr.makeSlice t x x).run P w= .ok v w'):∃l c,v= O (Xa ⟨w.heap.size,0,Xb⟩) l c/\w.heap.size<w'.heap.size:=by
 rcases a with rfl|⟨n,rfl,a,a⟩
 ·exfalso
  simp[Instr.makeSlice,run_underlying b,asInt,asIntOf,undef]at h
 have d:((i.bytes:Int)*(n:Int))<=281474976710656:=by
  rw[<-Int.natCast_mul,Nat.mul_comm];omega
 have a:=run_make (P:=P) w t e i z b hi f .i64 .i64 n n Wm (Int.le_refl _) d Wm
 rw[a]at h;cases h;exact⟨_,_,rfl,Sm⟩
def JB (nf ns nb:Nat) (a:Act) (w:Xn):Prop:=(a.tmps.getD 0 undef= Xe Xf nf/\a.tmps.getD 1 undef= Xe Xf ns/\a.tmps.getD 2 undef= Xe Xf nb)/\(∀s∈[32,35,37,40],a.tmps.getD s undef=undef\/∃n:Nat,a.tmps.getD s undef= Xe Xf n/\n<=80)/\zam [38,41] a w
section
variable{nf ns nb:Nat} {a:Act} {w w':Xn}
theorem JB.other {d:Option Nat} {v:Xq} (h:JB nf ns nb a w) (e:∀s∈[0,1,2,32,35,37,40,38,41],d≠Xa s) (g:w.heap.size<=w'.heap.size):JB nf ns nb (a.put d v) w':=by
 have b:∀s∈[0,1,2,32,35,37,40,38,41],(a.put d v).tmps.getD s undef=a.tmps.getD s undef:=fun s c=>(ZE (a:=a) (d:=d) (v:=v) (s:=s)).resolve_right fun f=>e s c f.1
 refine⟨⟨by rw[b 0 Sm];exact h.1.1,by rw[b 1 Sm];exact h.1.2.1,by rw[b 2 Sm];exact h.1.2.2⟩,fun s c=>?_,h.2.2.other (fun s c=>e s (by simp at c⊢;omega)) g⟩
 rw[b s (by simp at c⊢;omega)]
 exact h.2.1 s c
theorem JB.num {s:Nat} {n:Nat} (h:JB nf ns nb a w) (g:s∈[32,35,37,40]) (f:n<=80):JB nf ns nb (a.put (Xa s) (I6 n)) w:=by
 have b:∀t,t≠s->(a.put (Xa s) (I6 n)).tmps.getD t undef=a.tmps.getD t undef:=fun t c=>(ZE (a:=a) (d:=some s) (v:=I6 n) (s:=t)).resolve_right fun e=>c (Si e.1.symm)
 have i:s≠0/\s≠1/\s≠2/\s≠38/\s≠41:=by simp at g;omega
 refine⟨⟨by rw[b 0 Wm];exact h.1.1,by rw[b 1 Wm];exact h.1.2.1,by rw[b 2 Wm];exact h.1.2.2⟩,fun t c=>?_,h.2.2.other (fun t c e=>by simp only[Option.some.injEq]at e;subst e;simp only[mC,nM,or_false]at c;omega) (nR _)⟩
 rcases ZE (a:=a) (d:=some s) (v:=I6 n) (s:=t)with e|⟨_,e⟩
 ·rw[e];exact h.2.1 t c
 exact .inr ⟨n,e,f⟩
theorem JB.new {d:Option Nat} {e c:Nat} (h:JB nf ns nb a w) (f:∀s∈[0,1,2,32,35,37,40],d≠Xa s) (g:w.heap.size<w'.heap.size):JB nf ns nb (a.put d (O (Xa ⟨w.heap.size,0,Xb⟩) e c)) w':=by
 have b:∀s∈[0,1,2,32,35,37,40],(a.put d (O (Xa ⟨w.heap.size,0,Xb⟩) e c)).tmps.getD s undef=a.tmps.getD s undef:=fun s c=>(ZE (a:=a) (d:=d) (s:=s)).resolve_right fun e=>f s c e.1
 refine⟨⟨by rw[b 0 Sm];exact h.1.1,by rw[b 1 Sm];exact h.1.2.1,by rw[b 2 Sm];exact h.1.2.2⟩,fun s c=>?_,h.2.2.new g⟩
 rw[b s (by simp at c⊢;omega)]
 exact h.2.1 s c
def okQ (o:Oper):Bool:=
 match o.dst with
 | none=>Xc
 | some d=>!([0,1,2,32,35,37,40,38,41].contains d) || (match o.op with | .move (.tmp x)=>[(32,0),(35,1),(37,1),(40,2)].contains (d,x) | _=>Xd)
theorem JB.quiet {v:Xq} (h:JB nf ns nb a w) (b:okQ o=Xc) (i:nf<=80) (d:ns<=80) (g:nb<=80) (f:(execOp a.eval o).run prog w= .ok (.value v) w):JB nf ns nb (a.put o.dst v) w:=by
 unfold okQ at b
 cases c:o.dst with
 | none=>exact h.other (fun s _ e=>by cases e) (nR _)
 | some j=>
  rw[c]at b;simp only[Bool.or_eq_true]at b
  rcases b with b|b
  ·refine h.other (fun s d e=>?_) (nR _)
   cases e;simp only[Yv,Yf,decide_eq_false_iff_not]at b;exact b d
  cases c:o.op with
  | move x=>
   rw[c]at b
   cases x with
   | tmp x=>
    simp only[Yf,decide_eq_true_eq]at b;have e:v=a.tmps.getD x undef:=by
     simp only[execOp,c,Xt,Result.ok.injEq,Next.value.injEq,and_true]at f;exact f.symm
    simp only[mC,pJ,nM,or_false]at b
    rcases b with⟨rfl,rfl⟩|⟨rfl,rfl⟩|⟨rfl,rfl⟩|⟨rfl,rfl⟩
    ·rw[e,h.1.1];exact h.num Sm i
    ·rw[e,h.1.2.1];exact h.num Sm d
    ·rw[e,h.1.2.1];exact h.num Sm d
    rw[e,h.1.2.2];exact h.num Sm g
   | _=>simp at b
  | _=>rw[c]at b;simp at b
theorem JB.undef {d:Option Nat} (h:JB nf ns nb a w) (f:∀s∈[0,1,2],d≠Xa s):JB nf ns nb (a.put d Go.undef) w:=by
 have b:∀s∈[0,1,2],(a.put d Go.undef).tmps.getD s Go.undef=a.tmps.getD s Go.undef:=fun s c=>(ZE (a:=a) (d:=d) (s:=s)).resolve_right fun e=>f s c e.1
 refine⟨⟨by rw[b 0 Sm];exact h.1.1,by rw[b 1 Sm];exact h.1.2.1,by rw[b 2 Sm];exact h.1.2.2⟩,fun s c=>?_,h.2.2.undef⟩
 rcases ZE (a:=a) (d:=d) (v:=Go.undef) (s:=s)with e|⟨_,e⟩
 ·rw[e];exact h.2.1 s c
 exact .inl e
theorem JB.make {K:Xq->Xn->Prop} (h:JB nf ns nb a w) (t e) (i:TypeInfo) (z) (s:Nat) (c:o.op= .makeSlice t (.tmp s) (.tmp s)) (g:s∈[32,35,37,40]) (j:Tryz.prog.underlying t=Xa (.slice e)) (hi:Tryz.prog.info? e=Xa i) (k:i.zero=Xa z) (d:i.bytes<=1000) (f:∀s∈[0,1,2,32,35,37,40],o.dst≠Xa s) (b:zJ prog o a w K):zJ prog o a w fun v w'=>K v w'/\JB nf ns nb (a.put o.dst v) w':=by
 refine b.know fun n w' b=>?_
 left;simp only[execOp,c,Xu]at b
 cases c:(Instr.makeSlice t (a.eval (.tmp s)) (a.eval (.tmp s))).run prog w with
 | halt x l=>rw[c]at b;cases b
 | ok v l=>
  rw[c]at b;simp only[rA,Xt,Result.ok.injEq]at b;obtain⟨rfl,rfl⟩:=b;obtain⟨l,b,rfl,b⟩:=znw j hi k _ (by
   rcases h.2.1 s g with e|⟨n,e,g⟩
   ·exact .inl e
   refine .inr ⟨n,e,?_,Wm⟩
   have:n*i.bytes<=80*1000:=Nat.mul_le_mul g d
   omega) c
  exact⟨_,rfl,h.new f b⟩
end
def okL (L:List Oper) (Sx:List Nat):Bool:=L.zipIdx.all fun p=>Sx.contains p.2 || okQ p.1
theorem znh {L:List Oper} {Sx:List Nat} (h:okL L Sx=Xc) (a:L.toArray[j]? =Xa o) (c:j∉Sx):okQ o=Xc:=by
 unfold okL at h;have b:(o,j)∈L.zipIdx:=by
  rw[List.mem_iff_getElem?];exact⟨j,by rw[List.getElem?_zipIdx];simp at a;simp[a]⟩
 have:=Yy.1 h _ b;simp only[Bool.or_eq_true,Yf,decide_eq_true_eq]at this;exact this.resolve_left c
def okD (L:List Oper):Bool:=L.all fun o=>match o.dst with | none=>Xc | some d=>!([0,1,2].contains d)
theorem zni {L:List Oper} (h:okD L=Xc) (a:L.toArray[j]? =Xa o):∀s∈[0,1,2],o.dst≠Xa s:=fun s b e=>by
 unfold okD at h;have:=Yy.1 h o (by simp at a;exact mG a)
 rw[e]at this;simp only[Yv,Yf,decide_eq_false_iff_not]at this;exact this b
theorem zjR {α:Type} {A B C D:α} (h:List.lookup j [(2,A),(5,B),(7,C),(10,D)]=Xb):j∉ [2,5,7,10]:=fun a=>by
 simp only[mC,nM,or_false]at a
 rcases a with rfl|rfl|rfl|rfl <;> simp[List.lookup_cons]at h
theorem zfY {α:Type} (E:Elt α) {a:Act} (w) (n:Nat) (f:n*E.bytes<=140737488355328) {l:Operand} (j:o.op= .makeSlice E.st l l:=by rfl) (i:a.eval l=I6 n:=by rfl):
  ∃C,(execOp a.eval o).run prog w= .ok (.value (O (Xa ⟨w.heap.size,0,Xb⟩) n n)) (w.alloc (Xk C E.ty))/\zb E w.heap.size (w.alloc (Xk C E.ty)) (O (Xa ⟨w.heap.size,0,Xb⟩) n n) (Xr n E.zero):=by
 obtain⟨k,h,c,d,e⟩:=info_parts E.info;have b:n*1<=n*E.bytes:=Nat.mul_le_mul_left _ (nT E.pos E.few);have g:((E.bytes:Int)*(n:Int))<=140737488355328:=by
  obtain⟨B,b⟩:=kB (n*E.bytes);rw[b]at f;rw[<-Int.natCast_mul,Nat.mul_comm,b];omega
 have b:=run_make (P:=prog) w E.st E.ty k _ E.und h c .i64 .i64 n n Wm (Int.le_refl _) (by rw[e];exact Int.le_trans g Wm) Wm
 rw[d,tN]at b;refine⟨madeCells E.zv.cells (n*E.k),by simp only[execOp,j,i,Xu,b,Result.andThen,Xt],⟨⟨?_,.inr ⟨w.heap.size,n,madeCells E.zv.cells (n*E.k),by rw[lR],nR _,?_,?_,?_,?_,?_⟩⟩,by rw[lR];exact f⟩⟩
 ·rw[qV E]
 ·show(w.heap.push _)[w.heap.size]? =_
  simp
 ·rw[lR];exact nR _
 ·exact qO Wm
 ·rw[size_madeCells]
 rw[lR,Yc (by simp[madeCells]),ziK E]
theorem zdI {a:Act} (w) (n:Nat) (b:n<=80) {l:Operand} (h:o.op= .makeSlice 31 l l:=by rfl) (g:a.eval l=I6 n:=by rfl):
  ∃C,(execOp a.eval o).run prog w= .ok (.value (O (Xa ⟨w.heap.size,0,Xb⟩) n n)) (w.alloc (Xk C 60))/\zh w.heap.size (w.alloc (Xk C 60)) (O (Xa ⟨w.heap.size,0,Xb⟩) n n) (Xr n zp):=by
 obtain⟨i,f,c,d,e⟩:=info_parts zqs;have b:=run_make (P:=prog) w 31 60 i _ underlying31 f c .i64 .i64 n n Wm (Int.le_refl _) (by rw[e];omega) Wm
 rw[d,tN]at b;refine⟨madeCells #[U8 0,U8 0,U8 0,U8 0,U8 0,U8 0,U8 0,U8 0] (n*8),by simp only[execOp,h,g,Xu,b,Result.andThen,Xt,Value.cells],⟨⟨?_,.inr ⟨w.heap.size,n,madeCells #[U8 0,U8 0,U8 0,U8 0,U8 0,U8 0,U8 0,U8 0] (n*8),by rw[lR],nR _,?_,?_,?_,?_,?_⟩⟩,fun p b=>by rw[Xs b];rfl,by rw[lR];omega⟩⟩
 ·rw[qQ (k:=8) _ (fun a b=>by rw[Xs b];rfl)]
 ·show(w.heap.push _)[w.heap.size]? =_
  simp
 ·rw[lR];exact nR _
 ·exact qO Wm
 ·rw[size_madeCells]
 rw[lR]
 show(madeCells #[U8 0,U8 0,U8 0,U8 0,U8 0,U8 0,U8 0,U8 0] (n*8)).toList.take (n*8)=_
 rw[Yc (by simp[madeCells]),zea]
theorem zbe {α:Type} (E:Elt α) {a:Act} {K:Xq->Xn->Prop} (w:Xn) (n:Nat) (d:n*E.bytes<=140737488355328) (l) (e:o.op= .makeSlice E.st l l) (c:a.eval l=I6 n) (h:∀C,zb E w.heap.size (w.alloc (Xk C E.ty)) (O (Xa ⟨w.heap.size,0,Xb⟩) n n) (Xr n E.zero)->K (O (Xa ⟨w.heap.size,0,Xb⟩) n n) (w.alloc (Xk C E.ty))):zJ prog o a w K:=by
 obtain⟨C,f,b⟩:=zfY E w n d e c;exact zJ.step f (h C b)
theorem JW {a:Act} {K:Xq->Xn->Prop} (w:Xn) (n:Nat) (d:n<=80) (l) (e:o.op= .makeSlice 31 l l) (c:a.eval l=I6 n) (h:∀C,zh w.heap.size (w.alloc (Xk C 60)) (O (Xa ⟨w.heap.size,0,Xb⟩) n n) (Xr n zp)->K (O (Xa ⟨w.heap.size,0,Xb⟩) n n) (w.alloc (Xk C 60))):zJ prog o a w K:=by
 obtain⟨C,f,b⟩:=zdI w n d e c;exact zJ.step f (h C b)
theorem zfH {rest:List Oper} {c:Oper} {a:Act} {w:Xn} (d:c.guard=Xb) (e p x) (j:c.op= .store e p x) (b o:Nat) (hp:a.eval p= Xj (Xa ⟨b,o,Xb⟩)) (vs:List Xq) (k:a.eval x= Xi vs.toArray)
  {cs:List Xq} {t:TypeId} (f:zo w b t cs) (i:o+vs.length<=cs.length) (hi:(Tryz.prog.info? e).map (·.size)=Xa vs.length) (g:∀v∈vs,v.oneCell'=Xc)
  (h:∀w',zo w' b t (splice cs o vs)->w.grownBy w' (Xa b)->w'.heap.size=w.heap.size->wpList prog ops Q rest (a.put c.dst undef) w'):wpList prog ops Q (c :: rest) a w:=by
 refine wpList_store_mid d e p x j b o vs.toArray hp k ?_ ?_ (all_oneCell_toArray g) ?_
 ·intro j c;have:=f.box.there (o+j) (by simp at c;omega)
  rw[zA]at this;exact this
 ·simpa using hi
 exact h _ (f.part i) (zO b vs o w).1 (zO b vs o w).2
theorem zns {w:Xn} {gf e c a nf ns nb:Nat} (h:zc w W) (m:w.heap.size<=b) (d:zo W b 58 [vl.x,O (Xa ⟨gf,0,Xb⟩) nf nf,I6 0,O (Xa ⟨e,0,Xb⟩) ns ns,O (Xa ⟨c,0,Xb⟩) ns ns,eS,O (Xa ⟨a,0,Xb⟩) nb nb,eS,eS,I6 (nb:Int),eS,eS,eS]) (p:zl byE w (vl.x) L) (n:vl.n<=vl.c) (lb:∀z∈L,0<=z/\z<256)
  (q:zb qA w.heap.size W (O (Xa ⟨gf,0,Xb⟩) nf nf) (Xr nf fr0)) (i:zb slE w.heap.size W (O (Xa ⟨e,0,Xb⟩) ns ns) (Xr ns 0)) (j:zh w.heap.size W (O (Xa ⟨c,0,Xb⟩) ns ns) (Xr ns zp)) (k:zh w.heap.size W (O (Xa ⟨a,0,Xb⟩) nb nb) (Xr nb zp)) (f:c≠a):
  Mk w W.heap.size W b vl L ⟨⟨Xa ⟨gf,0,Xb⟩,nf,nf⟩,⟨Xa ⟨e,0,Xb⟩,ns,ns⟩,⟨Xa ⟨c,0,Xb⟩,ns,ns⟩,zG,⟨Xa ⟨a,0,Xb⟩,nb,nb⟩,zG,zG,zG,zG⟩ ⟨Xr nf fr0,0,Xr ns 0,Xr ns zp,[],Xr nb zp,[],[],nb,[],[]⟩ zG []:=by
 have c:∀{v:Xq} {a:List (List Int)},zh w.heap.size W v a->∀g,v.ownBlock=Xa g->g<W.heap.size:=fun e g a=>by
  obtain⟨_,l,l⟩:=Qo e a;exact(aS.1 l).1
 refine⟨h,m,d,p,n,lb,⟨nR _,bS h,q,i,fun g a=>(i.lt g a).2,j,c j,⟨rfl,rfl⟩,k,c k,⟨World.ownsRow_nil _ _ _ _,Sm,Sm⟩,⟨[],zb.nil _ _ _,rfl,fun i x d c=>by cases c⟩,zb.nil _ _ _,⟨[],zb.nil _ _ _,rfl,fun i x s c=>by cases c⟩,zb.nil _ _ _,⟨fun g a e=>?_,zez.free (fun d c _=>by rw[Xs c];rfl) (fun d c=>by rw[Xs c];rfl)⟩⟩⟩
 simp only[Value.ownBlock,Option.some.injEq]at a e;exact f (a.trans e.symm)
def ziT (n k:Nat):List Fr:=Xr k frF++Xr (n - k) fr0
theorem zlT (n:Nat):ziT n 0=Xr n fr0:=by simp[ziT]
theorem znO (n:Nat):ziT n n=Xr n frF:=by simp[ziT]
theorem zo5 (n k:Nat):J2 (ziT n k):=fun f a _=>by
 unfold ziT at a
 rcases Ob.1 a with e|e
 ·rw[Xs e];rfl
 rw[Xs e];rfl
theorem zcF (n:Nat):∀f∈Xr n frF,f.r=0:=fun f a=>by rw[Xs a];rfl
theorem zlU (n k:Nat):∀f∈ziT n k,f.r=0:=fun f a=>by
 unfold ziT at a
 rcases Ob.1 a with e|e
 ·rw[Xs e];rfl
 rw[Xs e];rfl
theorem zlV {n k:Nat} (h:k<n):(ziT n k)[k]? =Xa fr0:=by
 unfold ziT;rw[aR Sm,lR,Yg,Yj,kE Wm]
theorem znN {n k:Nat} (h:k<n):(ziT n k).set k frF=ziT n (k+1):=by
 unfold ziT;rw[Yl _ _ Sm,lR,Yg]
 obtain⟨j,a⟩:∃j,n - k=j+1:=⟨n - k - 1,Wm⟩
 rw[a,show n -(k+1)=j by omega,List.replicate_succ,sZ,List.replicate_succ',List.append_assoc]
 rfl
theorem zdK {w:Xn} {base:Nat} {v:Xq} {b:List (Int × List Int)} (j) (h:zt base w v b) (g:Nat) (q:Int × List Int) (i:q.2.length=8) (p:jP w ⟨g,0,Xb⟩ (ptc q)) (c:b.length<=1000) (a:base<=w.heap.size):
  ∃c w',(Builtin.append_ #[32,32] j #[v,O (Xa ⟨g,0,Xb⟩) 1 1]).run prog w= .ok c w'/\zt base w' c (b++ [q])/\w.grownBy w' v.ownBlock:=by
 obtain⟨r,l,d,e,f⟩:=info_parts zqt;obtain⟨c,w',n,m,k,_⟩:=run_append_own (P:=prog) w base 32 j 69 r _ 9 16 underlying32 l d e f rfl Dc v b.length _ h.1 ⟨g,0,Xb⟩ 1 1 (ptc q) (by rw[zbt,i]) p (zcK _) (qO Wm) Wm a
 refine⟨c,w',n,⟨?_,fun x a=>?_,by simp;omega⟩,k⟩
 ·rw[lA,Oj]
  simpa using m
 rcases Ob.1 a with a|a
 ·exact h.2.1 x a
 simp only[mC,nM,or_false]at a;rw[a];exact i
section
variable{base hi:Nat} {w w':Xn} {V:MaV} {m:Ma} {vt:Sli} {T:List (Nat->En)}
theorem zaw {v:Xq} {a:List (Int × List Int)} (h:zt base w v a) {g:Nat} (b:v.ownBlock=Xa g):base<=g/\∃cs,w.heap[g]? =Xa (Xk cs 69 (0,0)):=by
 rcases h.1.2 with⟨rfl,_⟩|⟨k,a,a,rfl,c,d,_⟩
 ·cases b
 simp only[Value.ownBlock,Option.some.injEq]at b;subst b;exact⟨c,a,d⟩
theorem MkR.addDq (h:MkR base hi w V m vt T) (c:w.grownBy w' (V.dq.x).ownBlock) (s:Sli) {a:List (Int × List Int)} (d:∀f∈m.fs,f.r=0) (e:zt base w' (s.x) a):MkR base hi w' { V with dq:=s } { m with dq:=a } vt T:=by
 cases b:(V.dq.x).ownBlock with
 | none=>
  rw[b]at c;have a:=h.grew (qz c);exact⟨a.hw,a.bh,a.fs,a.sl,a.slh,a.sb,a.sbh,a.sq,a.db,a.dbh,e,a.fl,a.ca,a.sp,a.tt,⟨a.ap.1,a.ap.2.bare d rfl⟩⟩
 | some g=>
  rw[b]at c;obtain⟨_,a,a⟩:=zaw h.dq b;obtain⟨b,g,i,j,k,k,l,n,p⟩:=h.kept c a;exact⟨nT h.hw c.size,h.bh,b Dc,g (.inl Dc),h.slh,i (.inl Dc),h.sbh,h.sq,j (.inl Dc),h.dbh,e,k Dc (.inl Dc),l Dc,n Dc Dc,p Dc,⟨h.ap.1,h.ap.2.bare d rfl⟩⟩
theorem MkR.addFl {xs:List FlV} (h:MkR base hi w V m vt T) (n:zb fvE base w (V.fl.x) xs) (g:xs.length=m.fl.length) (p:∀(i:Nat) x f,xs[i]? =Xa x->m.fl[i]? =Xa f->x.size=f.size/\zb blE hi w x.v f.bl)
  (c:w.grownBy w' (V.fl.x).ownBlock) (s:Sli) {x:FlV} {f:Fl} (e:∀f∈m.fs,f.r=0) (t:x.size=f.size) (r:zb blE hi w x.v f.bl) (b:zb fvE base w' (s.x) (xs++ [x])):MkR base hi w' { V with fl:=s } { m with fl:=m.fl++ [f] } vt T:=by
 have d:(∀{y:FlV} {q:Fl},zb blE hi w y.v q.bl->zb blE hi w' y.v q.bl)->∃a:List FlV,zb fvE base w' (s.x) a/\a.length=(m.fl++ [f]).length/\∀(i:Nat) y q,a[i]? =Xa y->(m.fl++ [f])[i]? =Xa q->y.size=q.size/\zb blE hi w' y.v q.bl:=fun k=>by
  refine⟨_,b,by simp[g],fun i y q a b=>?_⟩
  rcases Nat.lt_or_ge i xs.length with hi|hi
  ·rw[Xx hi]at a;rw[Xx Wm]at b
   obtain⟨j,l⟩:=p i y q a b;exact⟨j,k l⟩
  rw[aR hi]at a;rw[aR Wm,<-g]at b
  have g:i - xs.length=0:=by
   have:=(gS.1 a).1
   simp at this
   omega
  rw[g]at a b;cases a;cases b;exact⟨t,k r⟩
 cases b:(V.fl.x).ownBlock with
 | none=>
  rw[b]at c;have k:=qz c;have a:=h.grew k;exact⟨a.hw,a.bh,a.fs,a.sl,a.slh,a.sb,a.sbh,a.sq,a.db,a.dbh,a.dq,d (fun h=>h.grew k),a.ca,a.sp,a.tt,⟨a.ap.1,a.ap.2.bare e rfl⟩⟩
 | some g=>
  rw[b]at c;obtain⟨a,a⟩:=n.obj b;obtain⟨b,g,j,k,l,n,n,p,q⟩:=h.kept c a;exact⟨nT h.hw c.size,h.bh,b Dc,g (.inl Dc),h.slh,j (.inl Dc),h.sbh,h.sq,k (.inl Dc),h.dbh,l Dc,d (fun h=>h.kind c a Dc),n Dc,p Dc Dc,q Dc,⟨h.ap.1,h.ap.2.bare e rfl⟩⟩
end
section
variable{base hi S0:Nat} {w w':Xn} {V:MaV} {m:Ma} {vt:Sli} {T:List (Nat->En)}
def FlB (base hi S0:Nat) (w:Xn) (V:MaV) (m:Ma):Prop:=∃xs:List FlV,zb fvE base w (O V.fl.a V.fl.n V.fl.c) xs/\xs.length=m.fl.length/\∀(i:Nat) x f,xs[i]? =Xa x->m.fl[i]? =Xa f->(x.size=f.size/\zb blE hi w x.v f.bl)/\∀g,x.v.ownBlock=Xa g->g<S0
theorem MkR.flB (h:MkR base hi w V m vt T):FlB base hi w.heap.size w V m:=by
 obtain⟨d,b,c,a⟩:=h.fl;exact⟨d,b,c,fun i x f c b=>⟨a i x f c b,fun g d=>((a i x f c b).2.lt g d).2⟩⟩
theorem FlB.grew (h:FlB base hi S0 w V m) (k:zc w w'):FlB base hi S0 w' V m:=by
 obtain⟨c,a,b,d⟩:=h;refine⟨c,a.grew k,b,fun i x f g e=>?_⟩
 obtain⟨⟨a,b⟩,c⟩:=d i x f g e;exact⟨⟨a,b.grew k⟩,c⟩
theorem FlB.kind (e:FlB base hi S0 w V m) {g:Nat} {cs:Array Xq} (c:w.grownBy w' (Xa g)) (h:w.heap[g]? =Xa (Xk cs t (0,0))) (a:t≠65\/(V.fl.x).ownBlock≠Xa g) (b:t≠3\/S0<=g):FlB base hi S0 w' V m:=by
 obtain⟨i,d,f,q⟩:=e;refine⟨i,?_,f,fun n x j l k=>?_⟩
 ·rcases a with a|a
  ·exact d.kind c h a
  exact d.grown c fun p d e=>by cases e;exact a d
 obtain⟨⟨i,a⟩,f⟩:=q n x j l k;refine⟨⟨i,?_⟩,f⟩
 rcases b with b|b
 ·exact a.kind c h b
 exact a.grown c fun p d e=>by cases e;have:=f _ d;omega
theorem MkR.fileVar (h:MkR base hi w V m vt T) {g:Nat} {cs:Array Xq} (a:w.grownBy w' (Xa g)) (b:w.heap[g]? =Xa (Xk cs 65 (0,0))) (c:(V.fl.x).ownBlock≠Xa g):MkR base hi w' V m vt T:=by
 obtain⟨d,e,f,i,j,k,k,l,n⟩:=h.kept a b;obtain⟨s,p,q,r⟩:=h.flB.kind a b (.inr c) (.inl Dc)
 exact⟨nT h.hw a.size,h.bh,d Dc,e (.inl Dc),h.slh,f (.inl Dc),h.sbh,h.sq,i (.inl Dc),h.dbh,j Dc,⟨s,p,q,fun i x f b a=>(r i x f b a).1⟩,k Dc,l Dc Dc,n Dc,h.ap⟩
theorem MkR.ints (h:MkR base hi w V m vt T) (e:FlB base hi S0 w V m) {g:Nat} {cs:Array Xq} (a:w.grownBy w' (Xa g)) (b:w.heap[g]? =Xa (Xk cs 3 (0,0))) (c:S0<=g) (d:hi<=g):MkR base hi w' V m vt T:=by
 obtain⟨f,i,j,k,l,n,n,p,q⟩:=h.kept a b;obtain⟨u,r,s,t⟩:=e.kind a b (.inl Dc) (.inr c)
 exact⟨nT h.hw a.size,h.bh,f Dc,i (.inr d),h.slh,j (.inl Dc),h.sbh,h.sq,k (.inl Dc),h.dbh,l Dc,⟨u,r,s,fun i x f b a=>(t i x f b a).1⟩,n Dc,p Dc Dc,q Dc,h.ap⟩
end
section
variable{w0 w w':Xn} {hi b:Nat} {vl:Sli} {L:List Int} {V:MaV} {m:Ma} {vt:Sli} {T:List (Nat->En)}
theorem Mk.setDb (h:Mk w0 hi w b vl L V m vt T) {g:Nat} (i:(V.db.x).ownBlock=Xa g) (a:w.grownBy w' (Xa g)) (k:w'.heap.size=w.heap.size) {c:List (List Int)} (d:∀f∈m.fs,f.r=0) (j:zh w0.heap.size w' (V.db.x) c):Mk w0 hi w' b vl L V { m with db:=c } vt T/\zC hi w w':=by
 obtain⟨e,c,c⟩:=Qo h.rows.db i;refine⟨⟨zd h.gr a e,h.hb,h.box.beside a (fun e e=>?_),h.lr,h.lc,h.lb,h.rows.setDb c i a k d j⟩,zC.kind a c (fun p d=>?_)⟩
 ·cases e;intro e;subst e;have a:w.heap[b]? =_:=h.box;rw[c]at a;cases a
 have:=d.2.2.2.2.2.2.2.2 rfl;have:=h.rows.dbh g i;omega
end
theorem zfS {w:Xn} (h:Mk w0 hi w b vl L V m vt T) (hB:qK m T) (h4:m.sp.length<4):
  Xp prog 20 #[Xj (Xa ⟨b,0,Xb⟩)] w fun e w'=>(∃v,e= Xl v)/\Spc w0 hi b w L m T w':=by
 have HM:Xo (Mk w0 hi w b vl L V m vt T):=h;have HB:Xo (qK m T):=hB;have H4:Xo (m.sp.length<4):=h4;have hpk:=qB 4 h;obtain⟨fln,HFN⟩:=kA V.fl.n;have HFM:Xo (m.fl.length=fln):=show _=_ by rw[<-HFN.out];exact h.rows.at.ns.2.2.2.2.2.2.1.symm
 have hfl5:fln<=5:=by
  rw[<-HFM.out];obtain⟨⟨a1,a2,a3⟩,a4,a5⟩:=(qi m.fl m.cnt).1 hB.st;omega
 have HWB:Xo (w0.heap.size<=w.heap.size):=dD<|bS h.gr
 clear h hB h4
 go_enter func20,ntmps20
 go_wp2_with fail;refine hpk.mono ?_;clear hpk;rintro e W1 ⟨vl1,L1,y,rfl,mk1,gr1,sz1,y0,y1,yn,ll⟩;obtain⟨c,rfl⟩:∃c:Nat,y=(c:Int):=⟨y.toNat,Wm⟩
 have hc4:c<4:=by rcases y1 with h | h <;> omega
 have HC0:Xo (L=[]->c=0):=dD<|fun e=>Hm (yn e)
 have M1:Xo (Mk w0 hi W1 b vl1 L1 V m vt T):=mk1;have K1:Xo (zC hi w W1):=HM.keeps gr1;have SB1:Xo (SpB w0.heap.size w.heap.size W1 V m):=HM.rows.spB.pick HM gr1;have LL1:Xo (QT L L1):=ll;clear mk1 gr1 sz1 y0 y1 yn ll;go_wp2
 go_loopg [2,11] c (fun gg s2 s11 wr=>∃(kk ln:Nat) (l:List Ar) (xa:Option Addr) (xc:Nat) (vl':Sli) (L':List Int),kk<=c/\c - kk<=gg/\s11=I6 kk/\s2=(O xa ln xc)/\Xo (Mk w0 hi wr b vl' L' V m vt T)/\Xo (QT L L')/\Xo (zC hi w wr)/\Xo (SpB w0.heap.size w.heap.size wr V m)/\Xo (zb arE w0.heap.size wr (O xa ln xc) l)/\Xo (qH m.fl.length l/\(wrL l).1=0/\ZA l 64<=4*kk)/\Xo (kk=0->l=[]))
 exact⟨0,0,[],Xb,0,vl1,L1,nZ _,Wm,rfl,rfl,M1,LL1,K1,SB1,zb.nil _ _ _,(show _/\_ from⟨zhW _,rfl,Dc⟩),(fun _=>rfl)⟩
 obtain⟨kk,ln,l,xa,xc,vl2,L2,hkk,hgg,rfl,rfl,M2,LL2,K2,SB2,O2,FI2,Z2⟩:=hrel
 by_cases hlt:kk<c
 ·have hltz:=kC hlt
  have HLC:Xo (L≠[]):=dD<|fun e=>Hm (HC0.out e)
  go_upto_region 3 with fail;obtain⟨I,HI⟩:=Wq fun u=>MkE w0 hi b w L V m vt T u/\SpB w0.heap.size w.heap.size u V m/\zb arE w0.heap.size u (O xa ln xc) l
  have hI0:I wr.drew:=(HI _).2 ⟨⟨vl2,L2,M2.grew (gW _),LL2,K2.trans (zC.grew (gW _))⟩,SB2.grew (gW _),O2.grew (gW _)⟩
  have hx8:∀y:zj I,y.world.cell? ⟨b,8,Xb⟩=Xa (O V.fl.a fln V.fl.c):=fun y=>by
   obtain⟨⟨_,_,mk,_,_⟩,_⟩:=(HI _).1 y.holds;have:=mk.box.box.c 8 rfl;(try simp only[Sli.x]at this);rw[HFN.out]at this;exact this
  have hne:Nonempty (zj I):=⟨⟨_,hI0⟩⟩;have HPK:Xo (∀(N:Int) w',0<N->I w'->Xp prog 15 #[Xj (Xa ⟨b,0,Xb⟩),I6 N] w' fun e w''=>∃x:Int,e= Xl (I6 x)/\0<=x/\x<N/\I w''/\zC hi w' w''):=dD<|fun N w' hN hI'=>by
   obtain⟨⟨vl',L',mk',ll',kp'⟩,sb',ow'⟩:=(HI _).1 hI';refine(qB N mk').mono ?_;rintro e w'' ⟨vl3,L3,x,rfl,mk3,gr3,_,q0,q1,_,ll3⟩;exact⟨x,rfl,q0,Wm,(HI _).2 ⟨⟨vl3,L3,mk3,ll'.trans ll3,kp'.trans (mk'.keeps gr3)⟩,sb'.pick mk' gr3,ow'.pick mk' gr3⟩,mk'.keeps gr3⟩
  refine qX (I:=I) 21 [(1,⟨fun v=>∃x:Int,v=I6 x/\0<=x/\x<12,fun _ _=>True,fun p q=>zC hi p q,fun _=>True⟩),(3,⟨fun v=>∃x:Int,v=I6 x/\0<=x/\x<4,fun _ _=>True,fun p q=>zC hi p q,fun _=>True⟩),(6,⟨fun v=>∃x:Int,v=I6 x/\0<=x/\x<3,fun _ _=>True,fun p q=>zC hi p q,fun _=>True⟩),(17,⟨fun v=>∃x:Int,v=I6 x/\0<=x/\x< (fln:Int)+1,fun _ _=>True,fun p q=>zC hi p q,fun _=>True⟩),(20,⟨fun v=>∃g,v= Xj (Xa ⟨g,0,Xb⟩),fun v u=>∃g,v= Xj (Xa ⟨g,0,Xb⟩)/\zo u g 105 [I6 0,I6 0,Xh Xd,Xh Xd,Xh Xd,I6 0,I6 0]/\w.heap.size<=g/\∀k,(O xa ln xc).ownBlock=Xa k->k<g,fun p q=>zc p q,fun _=>True⟩)] hI0 z6 Kr rfl rfl Dc ?hS ?hp ?hpre ?hpr0 ?_
  case hS=>
   intro x hx;simp only[mC,nM,or_false]at hx
   rcases hx with rfl|rfl|rfl|rfl|rfl
   ·exact⟨_,0,rfl,Wm,Wm⟩
   ·exact⟨_,0,rfl,Wm,Wm⟩
   ·exact⟨_,0,rfl,Wm,Wm⟩
   ·exact⟨_,0,rfl,Wm,Wm⟩
   exact⟨_,0,rfl⟩
  case hp=>
   intro k s j t hk hj hjk hanc v p q hst hpo;have hk':=zW hk;have hj':=zW hj;clear hk hj;simp only[mC,pJ,nM,or_false]at hk' hj'
   rcases hk' with⟨rfl,rfl⟩|⟨rfl,rfl⟩|⟨rfl,rfl⟩|⟨rfl,rfl⟩|⟨rfl,rfl⟩
   ·trivial
   ·trivial
   ·trivial
   ·trivial
   obtain⟨g,hg1,hg2,hg3⟩:=hpo
   rcases hj' with⟨rfl,rfl⟩|⟨rfl,rfl⟩|⟨rfl,rfl⟩|⟨rfl,rfl⟩|⟨rfl,rfl⟩
   ·exact⟨g,hg1,hst.1 _ _ _ hg2 Ja,hg3⟩
   ·exact⟨g,hg1,hst.1 _ _ _ hg2 Ja,hg3⟩
   ·exact⟨g,hg1,hst.1 _ _ _ hg2 Ja,hg3⟩
   ·exact⟨g,hg1,hst.1 _ _ _ hg2 Ja,hg3⟩
   exact absurd rfl hjk
  case hpre=>
   intro j t k s hj hk hjk p q hst hpr;have hj':=zW hj;clear hk hj;simp only[mC,pJ,nM,or_false]at hj'
   rcases hj' with⟨rfl,rfl⟩|⟨rfl,rfl⟩|⟨rfl,rfl⟩|⟨rfl,rfl⟩|⟨rfl,rfl⟩ <;> trivial
  case hpr0=>
   intro k t hk;have hk':=zW hk;clear hk;simp only[mC,pJ,nM,or_false]at hk'
   rcases hk' with⟨rfl,rfl⟩|⟨rfl,rfl⟩|⟨rfl,rfl⟩|⟨rfl,rfl⟩|⟨rfl,rfl⟩ <;> trivial
  simp only[Ym,Yn];iterate 1 (refine qu rfl rfl rfl (fun K hK=>?_);go_big_quiet_op;refine hK _ ?_;clear hK K)
  refine zV rfl rfl (fun w' hI' hpr hF=>?_) (fun v1 hv=>?_)
  ·refine zJ.call [Xj (Xa ⟨b,0,Xb⟩),I6 12] rfl func15 rfl rfl rfl ?_;refine(HPK 12 w' Wm hI').mono ?_
   rintro e w'' ⟨x,rfl,q0,q1,q2,q3⟩;exact⟨_,rfl,q2,q3,⟨x,rfl,q0,q1⟩,trivial⟩
  obtain⟨f1,rfl,f1a,f1b⟩:=hv;simp only[Xw,sB,sS,sZ];iterate 1 (refine qu rfl rfl rfl (fun K hK=>?_);go_big_quiet_op;refine hK _ ?_;clear hK K)
  refine zV rfl rfl (fun w' hI' hpr hF=>?_) (fun v1 hv=>?_)
  ·refine zJ.call [Xj (Xa ⟨b,0,Xb⟩),I6 4] rfl func15 rfl rfl rfl ?_;refine(HPK 4 w' Wm hI').mono ?_
   rintro e w'' ⟨x,rfl,q0,q1,q2,q3⟩;exact⟨_,rfl,q2,q3,⟨x,rfl,q0,q1⟩,trivial⟩
  obtain⟨f3,rfl,f3a,f3b⟩:=hv;simp only[Xw,sB,sS,sZ];iterate 2 (refine qu rfl rfl rfl (fun K hK=>?_);go_big_quiet_op;refine hK _ ?_;clear hK K)
  refine zV rfl rfl (fun w' hI' hpr hF=>?_) (fun v1 hv=>?_)
  ·refine zJ.call [Xj (Xa ⟨b,0,Xb⟩),I6 3] rfl func15 rfl rfl rfl ?_;refine(HPK 3 w' Wm hI').mono ?_
   rintro e w'' ⟨x,rfl,q0,q1,q2,q3⟩;exact⟨_,rfl,q2,q3,⟨x,rfl,q0,q1⟩,trivial⟩
  obtain⟨f6,rfl,f6a,f6b⟩:=hv;simp only[Xw,sB,sS,sZ];iterate 3 (refine qu rfl rfl rfl (fun K hK=>?_);go_big_quiet_op;refine hK _ ?_;clear hK K)
  refine ZS (.tmp 22) ⟨b,0,Xb⟩ rfl rfl rfl rfl ?_;simp only[Xw,sB,sS,sZ];iterate 6 (refine qu rfl rfl rfl (fun K hK=>?_);go_big_quiet_op;refine hK _ ?_;clear hK K)
  refine zV rfl rfl (fun w' hI' hpr hF=>?_) (fun v1 hv=>?_)
  ·refine zJ.call [Xj (Xa ⟨b,0,Xb⟩),I6 ((fln:Int)+1)] rfl func15 rfl rfl rfl ?_;refine(HPK ((fln:Int)+1) w' Wm hI').mono ?_
   rintro e w'' ⟨x,rfl,q0,q1,q2,q3⟩;exact⟨_,rfl,q2,q3,⟨x,rfl,q0,q1⟩,trivial⟩
  obtain⟨f17,rfl,f17a,f17b⟩:=hv;simp only[Xw,sB,sS,sZ];iterate 2 (refine qu rfl rfl rfl (fun K hK=>?_);go_big_quiet_op;refine hK _ ?_;clear hK K)
  refine zV rfl rfl (fun w' hI' hpr hF=>?_) (fun v1 hv=>?_)
  ·obtain⟨⟨vl',L',mk',ll',kp'⟩,sb',ow'⟩:=(HI _).1 hI';refine zJ.step (v:= Xj (Xa ⟨w'.heap.size,0,Xb⟩)) (w':=w'.alloc (Xk #[I6 0,I6 0,Xh Xd,Xh Xd,Xh Xd,I6 0,I6 0] 105)) (by clear hx8;simp only[execOp];go_simp) ⟨(HI _).2 ⟨⟨vl',L',mk'.grew (za _ _),ll',kp'.trans (zC.grew (za _ _))⟩,sb'.grew (za _ _),ow'.grew (za _ _)⟩,za _ _,⟨_,rfl⟩,_,rfl,zo.top _ [I6 0,I6 0,Xh Xd,Xh Xd,Xh Xd,I6 0,I6 0] _ rfl,kp'.2,fun k hk=>(ow'.lt k hk).2⟩
  obtain⟨pa,rfl⟩:=hv;simp only[Xw,sB,sS,sZ];refine j2 fun W3 hI3 hF=>?_
  obtain⟨g',hg1,hg2,hg3,hg4⟩:=hF 20;simp only[Value.pointer.injEq,Option.some.injEq,Addr.mk.injEq,and_true]at hg1;subst hg1;obtain⟨⟨vl3,L3,mk3,ll3,kp3⟩,sb3,ow3⟩:=(HI _).1 hI3;have M3:Xo (Mk w0 hi W3 b vl3 L3 V m vt T):=mk3;have LL3:Xo (QT L L3):=ll3;have K3:Xo (zC hi w W3):=kp3;have SB3:Xo (SpB w0.heap.size w.heap.size W3 V m):=sb3;have O3:Xo (zb arE w0.heap.size W3 (O xa ln xc) l):=ow3;have P3:Xo (zo W3 pa 105 [I6 0,I6 0,Xh Xd,Xh Xd,Xh Xd,I6 0,I6 0]):=hg2;have HPA:Xo (w.heap.size<=pa):=hg3;have HPO:Xo (∀k,(O xa ln xc).ownBlock=Xa k->k<pa):=hg4;have HPB:Xo (w0.heap.size<=pa):=show _<=_ from nT HWB hg3
  clear hg2 hg3 hg4 mk3 ll3 kp3 sb3 ow3 hF hI3 hx8 hne hI0;obtain⟨rd,HRD⟩:=kA (decide ((0:Int)<f3));obtain⟨wr',HWR⟩:∃wr',Xo (decide ((0:Int)<f6)=wr'):=⟨_,rfl⟩;rw[HRD.out,HWR.out];obtain⟨file,hfile⟩:=kB (f17 - 1);have hfn:file< (fln:Int):=Wm
  have hf0:-1<=file:=Wm
  rw[hfile];refine zP rfl 105 (.tmp 3) (.tmp 32) rfl pa rfl [I6 f1,I6 0,Xh rd,Xh wr',Xh Xd,I6 file,I6 0] rfl P3 rfl zqA (arE.one ⟨f1,0,rd,wr',Xd,file,0⟩) ?_;intro W4 hb4 hg4 _;have hM4:=M3.area SB3 hg4 P3 HPA HPB.out;have M4:Xo (Mk w0 hi W4 b vl3 L3 V m vt T):=hM4.1;have SB4:Xo (SpB w0.heap.size w.heap.size W4 V m):=hM4.2;have K4:Xo (zC hi w W4):=K3.own hg4 HPA.out;have O4:Xo (zb arE w0.heap.size W4 (O xa ln xc) l):=O3.grown hg4 (fun g hg e=>by cases e;have:=HPO.out _ hg;omega)
  have P4:Xo (zo W4 pa 105 [I6 f1,I6 0,Xh rd,Xh wr',Xh Xd,I6 file,I6 0]):=hb4;clear hM4 hb4 hg4 f17a f17b hfile;go_upto_region 4 with fail;simp only[Xw];obtain⟨I,HI⟩:=Wq fun u=>MkE w0 hi b w L V m vt T u/\SpB w0.heap.size w.heap.size u V m/\zb arE w0.heap.size u (O xa ln xc) l/\zo u pa 105 [I6 f1,I6 0,Xh rd,Xh wr',Xh Xd,I6 file,I6 0]
  have hI0:I W4.drew:=(HI _).2 ⟨⟨vl3,L3,M4.grew (gW _),LL3,K4.trans (zC.grew (gW _))⟩,SB4.grew (gW _),O4.grew (gW _),P4.grew (gW _)⟩
  have hp0:∀y:zj I,y.world.cell? ⟨pa,0,Xb⟩=Xa (I6 f1):=fun y=>((HI _).1 y.holds).2.2.2.box.c 0 rfl
  have hne:Nonempty (zj I):=⟨⟨_,hI0⟩⟩;refine qX (I:=I) 7 [(4,⟨fun v=>∃x:Int,v=I6 x/\0<=x/\x<4,fun _ _=>True,fun _ _=>True,fun _=>True⟩)] hI0 z6 Kr rfl rfl Dc (Sa ⟨_,0,rfl,Wm,Wm⟩) ?hp ?hpre ?hpr0 ?_
  case hp=>
   intro k s j t hk hj hjk hanc v p q hst hpo;have hk':=zW hk;simp only[mC,pJ,nM,or_false]at hk';obtain⟨rfl,rfl⟩:=hk';trivial
  case hpre=>
   intro j t k s hj hk hjk p q hst hpr;have hj':=zW hj;simp only[mC,pJ,nM,or_false]at hj';obtain⟨rfl,rfl⟩:=hj';trivial
  case hpr0=>
   intro k t hk;have hk':=zW hk;simp only[mC,pJ,nM,or_false]at hk';obtain⟨rfl,rfl⟩:=hk';trivial
  simp only[Ym,Yn];iterate 4 (refine qu rfl rfl rfl (fun K hK=>?_);go_big_quiet_op;refine hK _ ?_;clear hK K)
  refine zV rfl rfl (fun w' hI' hpr hF=>?_) (fun v1 hv=>?_)
  ·obtain⟨⟨vl',L',mk',ll',kp'⟩,sb',ow',pb'⟩:=(HI _).1 hI';refine zJ.call [Xj (Xa ⟨b,0,Xb⟩),I6 4] rfl func15 rfl rfl rfl ?_;refine(qB 4 mk').mono ?_;rintro e w'' ⟨vl5,L5,x,rfl,mk5,gr5,_,q0,q1,_,ll5⟩;exact⟨_,rfl,(HI _).2 ⟨⟨vl5,L5,mk5,ll'.trans ll5,kp'.trans (mk'.keeps gr5)⟩,sb'.pick mk' gr5,ow'.pick mk' gr5,(mk'.keeps gr5).1 _ _ _ pb' Ja⟩,trivial,⟨x,rfl,q0,Wm⟩,trivial⟩
  obtain⟨f4,rfl,f4a,f4b⟩:=hv;simp only[Xw,sB,sS,sZ];iterate 2 (refine qu rfl rfl rfl (fun K hK=>?_);go_big_quiet_op;refine hK _ ?_;clear hK K)
  refine j2 fun W5 hI5 hF=>?_
  obtain⟨⟨vl5,L5,mk5,ll5,kp5⟩,sb5,ow5,pb5⟩:=(HI _).1 hI5;have M5:Xo (Mk w0 hi W5 b vl5 L5 V m vt T):=mk5;have LL5:Xo (QT L L5):=ll5;have K5:Xo (zC hi w W5):=kp5;have SB5:Xo (SpB w0.heap.size w.heap.size W5 V m):=sb5;have O5:Xo (zb arE w0.heap.size W5 (O xa ln xc) l):=ow5;have P5:Xo (zo W5 pa 105 [I6 f1,I6 0,Xh rd,Xh wr',Xh Xd,I6 file,I6 0]):=pb5;clear mk5 ll5 kp5 sb5 ow5 pb5 hF hI5 hp0 hne hI0;obtain⟨to_,HTO⟩:=kA (f1+1+f4);have HT4:Xo ((to_ - f1).toNat<=4):=show _<=_ by rw[<-HTO.out];omega
  have xp:=P5.box.c 1 rfl;have xf:=P5.box.f;rw[HTO.out];go_upto_region 5 with fail;clear xp xf;obtain⟨W6,hW6⟩:=kB (W5.setCell ⟨pa,1,Xb⟩ (I6 to_));have hg6:W5.grownBy W6 (Xa pa):=by rw[<-hW6];exact ji _ _ _ _
  have P6:Xo (zo W6 pa 105 [I6 f1,I6 to_,Xh rd,Xh wr',Xh Xd,I6 file,I6 0]):=dD<|by rw[<-hW6];exact P5.set 1 _
  have hM6:=M5.area SB5 hg6 P5 HPA HPB.out;have M6:Xo (Mk w0 hi W6 b vl5 L5 V m vt T):=hM6.1;have SB6:Xo (SpB w0.heap.size w.heap.size W6 V m):=hM6.2;have K6:Xo (zC hi w W6):=K5.own hg6 HPA.out;have O6:Xo (zb arE w0.heap.size W6 (O xa ln xc) l):=O5.grown hg6 (fun g hg e=>by cases e;have:=HPO.out _ hg;omega)
  rw[hW6];clear hW6 hg6 hM6;have p5:=P6.box.c 5 rfl
  go_upto_if 42 with fail
  go_cut [2,11] (fun s2 s11 wx=>s2= O xa ln xc/\s11=I6 kk/\∃(sh:Bool) (z9:Int) (vl9:Sli) (L9:List Int),Xo (Mk w0 hi wx b vl9 L9 V m vt T)/\Xo (SpB w0.heap.size w.heap.size wx V m)/\Xo (zC hi w wx)/\Xo (zb arE w0.heap.size wx (O xa ln xc) l)/\Xo (zo wx pa 105 [I6 f1,I6 to_,Xh rd,Xh wr',Xh sh,I6 file,I6 z9])/\Xo (QT L L9))
  case first=>
   by_cases hfz:0<=file
   ·have hfd:decide ((0:Int)<=file)=Xc:=Si hfz
    have hpk1:=qB 2 M6.out;go_wp2_with fail;refine hpk1.mono ?_;clear hpk1 p5;rintro e W7 ⟨vl7,L7,z7,rfl,mk7,gr7,_,_,_,_,ll7⟩;have M7:Xo (Mk w0 hi W7 b vl7 L7 V m vt T):=mk7;have SB7:Xo (SpB w0.heap.size w.heap.size W7 V m):=SB6.pick M6 gr7;have K7:=dD (K6.trans (M6.keeps gr7));have O7:Xo (zb arE w0.heap.size W7 (O xa ln xc) l):=O6.pick M6 gr7;have P7:Xo (zo W7 pa 105 [I6 f1,I6 to_,Xh rd,Xh wr',Xh Xd,I6 file,I6 0]):=(M6.keeps gr7).1 _ _ _ P6 Ja;have LL7:=dD (LL5.trans ll7);clear mk7 gr7 ll7;have hpk2:=qB 4 M7.out;go_wp2_with fail;refine hpk2.mono ?_;clear hpk2;rintro e W9 ⟨vl9,L9,z9,rfl,mk9,gr9,_,z9a,z9b,_,ll9⟩;have M9:Xo (Mk w0 hi W9 b vl9 L9 V m vt T):=mk9;have SB9:Xo (SpB w0.heap.size w.heap.size W9 V m):=SB7.pick M7 gr9;have K9:=dD (K7.trans (M7.keeps gr9));have OA:Xo (zb arE w0.heap.size W9 (O xa ln xc) l):=O7.pick M7 gr9;have P9:Xo (zo W9 pa 105 [I6 f1,I6 to_,Xh rd,Xh wr',Xh Xd,I6 file,I6 0]):=(M7.keeps gr9).1 _ _ _ P7 Ja;have LL9:=dD (LL7.trans ll9);clear mk9 gr9 ll9;obtain⟨sh,HSH⟩:=kA (z7 == 1);try rw[HSH.out]
    have xp:=P9.box.c 4 rfl;have xq:=P9.box.c 6 rfl;have xf:=P9.box.f;go_upto_region 7 with fail;try rw[HSH.out]
    clear xp xq xf;obtain⟨WA,hWA⟩:=kB ((W9.setCell ⟨pa,4,Xb⟩ (Xh sh)).setCell ⟨pa,6,Xb⟩ (I6 z9));have hgA:W9.grownBy WA (Xa pa):=by rw[<-hWA];exact jD (ji _ _ _ _) (ji _ _ _ _)
    have PA:Xo (zo WA pa 105 [I6 f1,I6 to_,Xh rd,Xh wr',Xh sh,I6 file,I6 z9]):=dD<|by rw[<-hWA];exact(P9.set 4 _).set 6 _
    have hMA:=M9.area SB9 hgA P9 HPA HPB.out;have MA:Xo (Mk w0 hi WA b vl9 L9 V m vt T):=hMA.1;have SBA:Xo (SpB w0.heap.size w.heap.size WA V m):=hMA.2;have KA:Xo (zC hi w WA):=K9.own hgA HPA.out;have OB:Xo (zb arE w0.heap.size WA (O xa ln xc) l):=OA.grown hgA (fun g hg e=>by cases e;have:=HPO.out _ hg;omega)
    rw[hWA];clear hWA hgA hMA
    try go_wp2
    go_meet
    exact⟨rfl,rfl,sh,z9,vl9,L9,MA,SBA,KA,OB,PA,LL9⟩
   have hfd:decide ((0:Int)<=file)=Xd:=Si hfz
   try go_wp2
   go_meet
   exact⟨rfl,rfl,Xd,0,vl5,L5,M6,SB6,K6,O6,P6,LL5⟩
  clear p5;obtain⟨rfl,rfl,sh,z9,vl9,L9,MA,SBA,KA,OB,PA,LL9⟩:=hcut;obtain⟨p0,p1,p2,p3,p4,p5,p6⟩:=PA.box.c7;have hmp:=zjx (O xa ln xc) l ⟨f1,to_,rd,wr',sh,file,z9⟩ wc OB.at OB.cap;have HR:Xo ((zb6 l ⟨f1,to_,rd,wr',sh,file,z9⟩).2=0->qH m.fl.length (zb6 l ⟨f1,to_,rd,wr',sh,file,z9⟩).1/\(wrL (zb6 l ⟨f1,to_,rd,wr',sh,file,z9⟩).1).1=0/\ZA (zb6 l ⟨f1,to_,rd,wr',sh,file,z9⟩).1 64<=4*(kk+1)):=dD<|fun he=>⟨zhX FI2.1 (by show file<_;rw[HFM.out];exact hfn) he,zpQ he,by have h1:=zoc he;have h2:=HT4.out;have h3:=FI2.2.2;dsimp only at h1;omega⟩
  go_wp2_with fail;refine hmp.mono ?_;clear hmp p0 p1 p2 p3 p4 p5 p6;rintro e W8 ⟨⟨u,rfl,ow8⟩,g8⟩;obtain⟨ua,uc,rfl⟩:=ow8.form
  generalize zb6 l ⟨f1,to_,rd,wr',sh,file,z9⟩=R at HR ow8⊢
  obtain⟨R1,R2⟩:=R;dsimp only at HR ow8⊢;have M8:=dD (MA.grew g8);have SB8:=dD (SBA.grew g8);have K8:=dD (KA.trans (zC.grew g8));have O8:=dD (OB.grew g8);have O9:Xo (zb arE w0.heap.size W8 (O ua R1.length uc) R1):=ow8.base (nT HWB KA.2);clear g8 ow8;obtain⟨n9,HN9⟩:=kA R1.length;rw[HN9.out]at O9⊢
  by_cases he:R2=0
  ·have hee:(R2 == 0)=Xc:=by simp[he]
   have HR2:Xo (qH m.fl.length R1/\(wrL R1).1=0/\ZA R1 64<=4*(kk+1)):=dD<|HR.out he
   clear he;go_wp2
   go_roundg (c -(kk+1));exact⟨kk+1,n9,R1,ua,uc,vl9,L9,Wm,Wm,Gn,rfl,M8,LL9,K8,SB8,O9,HR2,(fun h=>Wm)⟩;omega
  have hee:(R2 == 0)=Xd:=by simp[he]
  clear he;go_wp2
  go_roundg (c -(kk+1));exact⟨kk+1,ln,l,xa,xc,vl9,L9,Wm,Wm,Gn,rfl,M8,LL9,K8,SB8,O8,(show _/\_ from⟨FI2.1,FI2.2.1,Hm FI2.2.2⟩),(fun h=>Wm)⟩;omega
 have hltz:=kD hlt
 have HL0:Xo (L=[]->l=[]):=dD<|fun e=>Z2.out (Hm (HC0.out e))
 obtain⟨ys,s1,s2,s3⟩:=M2.rows.sp;have S1:Xo (zb ZC w0.heap.size wr (V.sp.x) ys):=s1;have S2:Xo (ys.length=m.sp.length):=s2;have S3:Xo (∀(i:Nat) x s,ys[i]? =Xa x->m.sp[i]? =Xa s->x.live=s.live/\zb arE w0.heap.size wr x.ar.v s.ars/\x.tab=QF/\s.tb=qG):=show∀i,_ from s3
 clear s1 s2 s3;obtain⟨ps,HPS⟩:=kA m.sp.length;have hps4:ps<4:=Ry HPS.out H4.out
 have x11:=M2.box.box.c 11 rfl;have HSZ:Xo (w0.heap.size<=wr.heap.size):=dD<|bS M2.gr
 go_wp2_with (at_builtin;refine zn (E:=ZC) rfl (.tmp 65) (.tmp 68) rfl w0.heap.size _ ys rfl (S1.grew (za _ _)) _ [⟨Xc,⟨xa,ln,xc⟩,zG,zG,zG,zG,zG,zG,zG,zG⟩] rfl (qN ZC wr ⟨Xc,⟨xa,ln,xc⟩,zG,zG,zG,zG,zG,zG,zG,zG⟩ _ _ rfl Dc) ?qb ?qc ?_)
 case qb=>
  rw[S2.out,HPS.out]
  show(ps+1)*224<=_
  omega
 case qc=>have:=HSZ.out;omega
 intro v4 W4 ow4 gr4;obtain⟨a4,c4,rfl⟩:=ow4.form;obtain⟨N,hN⟩:=kB ((ys++ [(⟨Xc,⟨xa,ln,xc⟩,zG,zG,zG,zG,zG,zG,zG,zG⟩:SpV)]).length);have hNp:(N:Int) - 1=(ps:Int):=by
  have:N=ps+1:=by rw[<-hN,lA,S2.out,HPS.out];rfl
  omega
 rw[hN]at ow4⊢;clear hN;obtain⟨WX,hWX⟩:=kB (wr.alloc (Xk #[Xh Xc,O xa ln xc,eS,eS,eS,eS,eS,eS,eS,eS] 79));have gX:=gP hWX
 rw[hWX]at gr4;clear hWX;have hbx:zo W4 b 58 [vl2.x,V.f.x,I6 m.hand,V.s.x,V.sb.x,V.sq.x,V.db.x,V.dq.x,V.fl.x,I6 m.cnt,V.ca.x,V.sp.x,vt.x]:=zo.row (S1.grew gX) gr4 (M2.box.grew gX) Dc
 have R4:Xo (MkR w0.heap.size hi W4 { V with sp:=⟨a4,N,c4⟩ } { m with sp:=m.sp++ [⟨Xc,l,qG⟩] } vt T):=(M2.rows.grew gX).addSp (S1.grew gX) S2 (fun i x s hx hs=>by
  obtain⟨a1,a2,a3⟩:=S3.out i x s hx hs;exact⟨a1,a2.grew gX,a3⟩) gr4 ⟨a4,N,c4⟩ ⟨xa,ln,xc⟩ (O2.grew gX) ow4
 have G4:Xo (zc w0 W4):=zc.row (S1.grew gX) gr4 (M2.gr.trans gX);have K4:Xo (zC hi w W4):=(K2.trans (zC.grew gX)).trans (zC.row (S1.grew gX) gr4 (fun p hl=>hl.2.2.2.2.2.2.1 rfl))
 have OL4:Xo (zb arE w0.heap.size W4 (O xa ln xc) l):=dD<|by
  cases hob:(V.sp.x).ownBlock with
  | none=>
   rw[hob]at gr4;exact(O2.grew gX).grew (qz gr4)
  | some g=>
   obtain⟨cs,hc⟩:=(S1.grew gX).obj hob;rw[hob]at gr4;exact(O2.grew gX).kind gr4 hc Dc
 have BX4:Xo (zo W4 b 58 [vl2.x,V.f.x,I6 m.hand,V.s.x,V.sb.x,V.sq.x,V.db.x,V.dq.x,V.fl.x,I6 m.cnt,V.ca.x,V.sp.x,vt.x]):=hbx;have ML:Xo (w0.heap.size<=b/\zl byE w0 (vl2.x) L2/\vl2.n<=vl2.c/\∀z∈L2,0<=z/\z<256):=show _/\_ from⟨M2.hb,M2.lr,M2.lc,M2.lb⟩
 clear hbx ow4 gr4 gX x11;have x11:=BX4.box.c 11 rfl;have xf:=BX4.box.f;go_upto_region 12 with fail;clear x11 xf;obtain⟨W5,hW5⟩:=kB (W4.setCell ⟨b,11,Xb⟩ (O a4 N c4));have hg5:W4.grownBy W5 (Xa b):=by rw[<-hW5];exact ji _ _ _ _
 have M5:Xo (Mk w0 hi W5 b vl2 L2 { V with sp:=⟨a4,N,c4⟩ } { m with sp:=m.sp++ [⟨Xc,l,qG⟩] } vt T):=dD<|⟨zd G4 hg5 ML.1,ML.1,by rw[<-hW5];exact BX4.set 11 _,ML.2.1,ML.2.2.1,ML.2.2.2,R4.var hg5 BX4 hg5.size (.inl rfl)⟩
 have K5:Xo (zC hi w W5):=K4.trans (zC.kind hg5 BX4 (fun _ hl=>absurd rfl hl.1))
 have OL5:Xo (zb arE w0.heap.size W5 (O xa ln xc) l):=OL4.kind hg5 BX4 Dc
 rw[hW5];clear hW5 hg5;obtain⟨tn,HTN⟩:=kA T.length;have HTQ:Xo (tn=ps):=dD<|by rw[<-HTN.out,HB.tl,HPS.out]
 have x12:=M5.box.box.c 12 rfl;have HSZ5:Xo (w0.heap.size<=W5.heap.size):=dD<|bS M5.gr
 go_wp2_with (at_builtin;refine zn (E:=zb7) rfl (.tmp 77) (.tmp 79) rfl w0.heap.size _ T rfl (M5.rows.tt.grew (za _ _)) _ [fun _=>en0] rfl (qN zb7 W5 (fun _=>en0) _ _ rfl Dc) ?qb ?qc ?_)
 case qb=>
  rw[HTN.out]
  show(tn+1)*1536<=_
  have:=HTQ.out;omega
 case qc=>exact nT HSZ5 (bS (za _ _))
 intro v6 W6 ow6 gr6;obtain⟨a6,c6,rfl⟩:=ow6.form;obtain⟨N6,hN6⟩:=kB ((T++ [fun _=>en0]).length)
 rw[hN6]at ow6⊢;obtain⟨WX,hWX⟩:=kB (W5.alloc (Xk (zb7.enc (fun _=>en0)).toArray 76))
 have gX:=gP hWX
 have gr6':WX.grownBy W6 (vt.x).ownBlock:=Ry hWX gr6
 clear gr6 hWX hN6;have M5X:=M5.grew gX;have B6:Xo (zo W6 b 58 [vl2.x,V.f.x,I6 m.hand,V.s.x,V.sb.x,V.sq.x,V.db.x,V.dq.x,V.fl.x,I6 m.cnt,V.ca.x,O a4 N c4,vt.x]):=zo.row M5X.rows.tt gr6' M5X.box Dc
 have R6:Xo (MkR w0.heap.size hi W6 { V with sp:=⟨a4,N,c4⟩ } { m with sp:=m.sp++ [⟨Xc,l,qG⟩] } ⟨a6,N6,c6⟩ (T++ [fun _=>en0])):=M5X.rows.addT gr6' ⟨a6,N6,c6⟩ ow6
 have G6:Xo (zc w0 W6):=zc.row M5X.rows.tt gr6' M5X.gr;have K6:Xo (zC hi w W6):=(K5.trans (zC.grew gX)).trans (zC.row M5X.rows.tt gr6' (fun p hl=>hl.2.2.2.2.2.2.2.1 rfl))
 have OL6:Xo (zb arE w0.heap.size W6 (O xa ln xc) l):=dD<|by
  cases hob:(vt.x).ownBlock with
  | none=>
   rw[hob]at gr6';exact(OL5.grew gX).grew (qz gr6')
  | some g=>
   obtain⟨cs,hc⟩:=M5X.rows.tt.obj hob;rw[hob]at gr6';exact(OL5.grew gX).kind gr6' hc Dc
 clear gr6' ow6 gX x12;have x12:=B6.box.c 12 rfl;have xf:=B6.box.f;go_upto_region 13 with fail;clear x12 xf;obtain⟨W7,hW7⟩:=kB (W6.setCell ⟨b,12,Xb⟩ (O a6 N6 c6));have hg7:W6.grownBy W7 (Xa b):=by rw[<-hW7];exact ji _ _ _ _
 have M7:Xo (Mk w0 hi W7 b vl2 L2 { V with sp:=⟨a4,N,c4⟩ } { m with sp:=m.sp++ [⟨Xc,l,qG⟩] } ⟨a6,N6,c6⟩ (T++ [fun _=>en0])):=dD<|⟨zd G6 hg7 ML.1,ML.1,by rw[<-hW7];exact B6.set 12 _,ML.2.1,ML.2.2.1,ML.2.2.2,R6.var hg7 B6 hg7.size (.inl rfl)⟩
 have K7:Xo (zC hi w W7):=K6.trans (zC.kind hg7 B6 (fun _ hl=>absurd rfl hl.1))
 have OL7:Xo (zb arE w0.heap.size W7 (O xa ln xc) l):=OL6.kind hg7 B6 Dc
 rw[hW7];clear hW7 hg7;obtain⟨vt7,HVT⟩:∃vt7:Sli,Xo (vt7=⟨a6,N6,c6⟩):=⟨_,rfl⟩;rw[<-HVT.out]at M7;have HB7:Xo (qK { m with sp:=m.sp++ [⟨Xc,l,qG⟩] } (T++ [fun _=>en0])):=HB.space FI2.2.1 H4.out
 have x11:=M7.box.box.c 11 rfl;have hon:=jB (O xa ln xc) l W7 OL7.at (jq.1 FI2.2.1).2.lies;go_wp2_with fail;refine hon.mono ?_;clear hon x11;rintro e W8 ⟨rfl,g8⟩;have M8:=dD (M7.grew g8)
 have K8:=dD (K7.trans (zC.grew g8));clear g8;have HIX:Xo (∀{ops:Array Oper} {rest:List Oper} {o:Oper} {a:Act} {w:Xn} {Q:Exit->Act->Xn->Prop} (_:o.guard=Xb) (x ix:Operand) (_:o.op= .index 82 x ix) (_:a.eval x= Xi (zE (tab (zB l))).toArray) (i:Nat) (_:a.eval ix=I6 (i:Int)) (_:i<64) {v:Xq} (_: Xi (onv (zB l i)).toArray=v)
  (_:wpList prog ops Q rest (a.put o.dst v) w),wpList prog ops Q (o :: rest) a w):=fun h1 x ix h2 h3 i h4 h5 _ h6 h7=>zaK h1 x ix h2 (zB l) h3 i h4 h5 h6 h7
 generalize zE (tab (zB l))=C at HIX⊢
 have HSP:Xo (({ m with sp:=m.sp++ [⟨Xc,l,qG⟩] }:Ma).sp[ps]? =Xa ⟨Xc,l,qG⟩):=dD<|by
  show(m.sp++ [(⟨Xc,l,qG⟩:Sp)])[ps]? =_
  rw[aR (by rw[HPS.out];exact nR _),HPS,Yg]
  rfl
 have HTP:Xo ((T++ [fun _=>en0])[ps]? =Xa (fun _=>en0)):=dD<|by
  rw[aR (by rw[HTN.out,HTQ.out];exact nR _),HTN,HTQ,Yg]
  rfl
 go_wp2
 go_loopg [92] 64 (fun gg s92 wr=>∃(kk:Nat) (vl':Sli) (L':List Int) (V':MaV) (m':Ma) (T':List (Nat->En)) (fT:Nat->En),kk<=64/\64 - kk<=gg/\s92=I6 kk/\Xo (Mk w0 hi wr b vl' L' V' m' vt7 T')/\Xo (QT L L')/\Xo (zC hi w wr)/\Xo (qK m' T')/\Xo (m'.sp=m.sp++ [⟨Xc,l,qG⟩]/\m'.fl=m.fl/\m'.hand=m.hand/\m'.fs.length=m.fs.length)/\Xo (T'[ps]? =Xa fT/\∀j,kk<=j->fT j=en0)/\Xo (L=[]->m'={ m with sp:=m.sp++ [⟨Xc,l,qG⟩] }/\T'=(T++ [fun _=>en0])))
 exact⟨0,vl2,L2,_,_,_,fun _=>en0,nZ _,Wm,rfl,M8,LL2,K8,HB7,(show _/\_ from⟨rfl,rfl,rfl,rfl⟩),(show _/\_ from⟨HTP,fun _ _=>rfl⟩),(fun _=>⟨rfl,rfl⟩)⟩
 obtain⟨k2,vlA,LA,VA,mA,TA,fT,hk2,hg2,rfl,MA,LLA,KA,BA,SA,TAt,EA⟩:=hrel
 by_cases hlt2:k2<64
 ·have hltz2:(k2:Int)<64:=Wm
  obtain⟨xx,HXX⟩:=kA (zB l k2);obtain⟨xis,xrd,xwr,xsh,xfi,xpg⟩:=xx;have HIV:Xo (Value.agg (onv (zB l k2)).toArray= Xi #[Xh xis,Xh xrd,Xh xwr,Xh xsh,I6 xfi,I6 xpg]):=dD<|Rr HXX.out
  cases xis with
  | false=>
   go_wp2_with (refine HIX rfl (.tmp 91) (.tmp 92) rfl rfl k2 rfl hlt2 HIV.out ?_)
   go_roundg (64 -(k2+1));exact⟨k2+1,vlA,LA,VA,mA,TA,fT,Wm,Wm,Gn,MA.grew (za _ _),LLA,KA.trans (zC.grew (za _ _)),BA,SA,(show _/\_ from⟨TAt.1,fun j hj=>TAt.2 j Wm⟩),EA⟩;omega
  | true=>
   have HLX:Xo (L≠[]):=dD<|fun e=>by
    have h1:=HXX.out;rw[HL0.out e]at h1;cases h1
   go_upto_region 17 with(refine HIX rfl (.tmp 91) (.tmp 92) rfl rfl k2 rfl hlt2 HIV.out ?_)
   obtain⟨px,HPX⟩:=kA wr.heap.size;obtain⟨W9,hW9⟩:=kB (wr.alloc (Xk #[Xh Xc,Xh xrd,Xh xwr,Xh xsh,I6 xfi,I6 xpg] 81));have g9:=gP hW9
   have X9:=xP hW9 HPX
   rw[hW9,HPX.out];have M9:=dD (MA.grew g9);have K9:=dD (KA.trans (zC.grew g9));clear hW9 g9;have c0:=X9.c 0 rfl;have c1:=X9.c 1 rfl;have c2:=X9.c 2 rfl;have c3:=X9.c 3 rfl;have c4:=X9.c 4 rfl;have c5:=X9.c 5 rfl;have hen:=zme ps k2 ⟨Xc,l,qG⟩ fT ⟨Xc,xrd,xwr,xsh,xfi,xpg⟩ M9 BA (Rx SA.1 HSP) TAt.1 hlt2 (TAt.2 k2 (nR _)) HXX rfl (Rx SA.2.1 FI2.1)
   go_wp2_with fail;refine hen.mono ?_;clear hen c0 c1 c2 c3 c4 c5;rintro e WB ⟨⟨v,rfl⟩,vlB,LB,VB,mB,TB,kB1,kB2,kB3,kB4,⟨kB5,kB6,kB7,kB8⟩,kB9,_⟩;obtain⟨fB,hfB⟩:∃fB,TB[ps]? =Xa fB/\∀j,k2+1<=j->fB j=en0:=by
    rcases kB9 with rfl|⟨e,rfl⟩
    ·exact⟨fT,TAt.1,fun j hj=>TAt.2 j Wm⟩
    refine⟨jt fT k2 e,sF (gS.1 TAt.1).1,fun j hj=>?_⟩
    unfold jt;rw[kF Wm]
    exact TAt.2 j Wm
   have MB:Xo (Mk w0 hi WB b vlB LB VB mB vt7 TB):=kB1;have LLB:=dD (LLA.trans kB2);have KB:=dD (K9.trans kB3);have BB:Xo (qK mB TB):=kB4;have SB:Xo (mB.sp=m.sp++ [⟨Xc,l,qG⟩]/\mB.fl=m.fl/\mB.hand=m.hand/\mB.fs.length=m.fs.length):=show _/\_ from⟨kB5.trans SA.1,kB6.trans SA.2.1,kB7.trans SA.2.2.1,kB8.trans SA.2.2.2⟩
   have FB:Xo (TB[ps]? =Xa fB/\∀j,k2+1<=j->fB j=en0):=hfB;clear kB1 kB2 kB3 kB4 kB5 kB6 kB7 kB8 kB9 hfB;go_wp2
   go_roundg (64 -(k2+1));exact⟨k2+1,vlB,LB,VB,mB,TB,fB,Wm,Wm,Gn,MB,LLB,KB,BB,SB,FB,(fun h=>absurd h HLX)⟩;omega
 have hltz2:¬(k2:Int)<64:=Wm
 have HE:Xo (Spc w0 hi b w L m T wr):=dD<|⟨vlA,LA,VA,mA,vt7,TA,l,MA,LLA,KA,BA,SA,⟨FI2.1,Hm FI2.2.2⟩,fun e=>by
  obtain⟨e1,e2⟩:=EA.out e;rw[HL0.out e]at e1;exact⟨e1,e2⟩⟩
 go_wp2
 exact Ge HE.out
theorem zhu {a:Act} (x) (f:o.op= .load 76 x) (b c:Nat) (g:a.eval x= Xj (Xa ⟨b,c,Xb⟩)) {w:Xn} (d:w.rangeAt b c vs) (e:vs.length=192):(execOp a.eval o).run prog w= .ok (.value (Xi vs.toArray)) w:=by
 have:=run_loadAt_mid (P:=prog) w b c 76 vs _ d underlying76 rfl (Rx e zqH)
 simp only[execOp,f,g,Xu,this,rA,Xt]
theorem zb.range {α:Type} {E:Elt α} {base g n c:Nat} {w:Xn} {l:List α} (h:zb E base w (O (Xa ⟨g,0,Xb⟩) n c) l) {i:Nat} {x:α} (b:l[i]? =Xa x):w.rangeAt g (i*E.k) (E.enc x):=fun j v a=>by
 have:=h.one b j v a;rw[zS,Yb,zA]at this;exact this
structure MkT (base hi ht k:Nat) (w:Xn) (V:MaV) (m:Ma) (vt:Sli) (T:List (Nat->En)):Prop where
 fs:zb qA base w (O V.f.a V.f.n V.f.c) m.fs
 sl:zb slE base w (O V.s.a V.s.n V.s.c) m.sl
 slh:∀g,(O V.s.a V.s.n V.s.c).ownBlock=Xa g->g<hi
 sb:zh base w (O V.sb.a V.sb.n V.sb.c) m.sb
 sq:V.sq=zG/\m.sq=[]
 db:zh base w (O V.db.a V.db.n V.db.c) m.db
 dq:zt base w (O V.dq.a V.dq.n V.dq.c) m.dq
 fl:∃xs:List FlV,zb fvE base w (O V.fl.a V.fl.n V.fl.c) xs/\xs.length=m.fl.length/\∀(i:Nat) x f,xs[i]? =Xa x->m.fl[i]? =Xa f->x.size=f.size/\zb blE hi w x.v f.bl
 ca:zb jG base w (O V.ca.a V.ca.n V.ca.c) m.ca
 sp:∃xs:List SpV,zb ZC base w (O V.sp.a V.sp.n V.sp.c) xs/\xs.length=m.sp.length/\∀(i:Nat) x s f,xs[i]? =Xa x->m.sp[i]? =Xa s->T[i]? =Xa f->x.live=s.live/\zb arE base w x.ar.v s.ars/\(i<k->Qw 0 ht w x.tab (jU f))/\(k<=i->x.tab=QF)
 tt:zb zb7 base w (O vt.a vt.n vt.c) T
 ap:(∀g,(O V.sb.a V.sb.n V.sb.c).ownBlock=Xa g->(O V.db.a V.db.n V.db.c).ownBlock≠Xa g)/\zez m
 lo:∀g,(O V.f.a V.f.n V.f.c).ownBlock=Xa g\/(O V.s.a V.s.n V.s.c).ownBlock=Xa g\/(O V.fl.a V.fl.n V.fl.c).ownBlock=Xa g\/(O V.ca.a V.ca.n V.ca.c).ownBlock=Xa g\/(O V.sp.a V.sp.n V.sp.c).ownBlock=Xa g->g<ht
 hts:ht<=w.heap.size
section
variable{base hi ht k:Nat} {w w':Xn} {V:MaV} {m:Ma} {vt:Sli} {T:List (Nat->En)}
theorem MkR.start (h:MkR base hi w V m vt T) (ht:Nat) (b:w.heap.size=ht):MkT base hi ht 0 w V m vt T:=by
 have c:∀g,(V.f.x).ownBlock=Xa g\/(V.s.x).ownBlock=Xa g\/(V.fl.x).ownBlock=Xa g\/(V.ca.x).ownBlock=Xa g\/(V.sp.x).ownBlock=Xa g->g<ht:=fun g a=>by
  obtain⟨_,e,_⟩:=h.fl;obtain⟨_,d,_⟩:=h.sp
  rcases a with a|a|a|a|a
  ·have:=(h.fs.lt g a).2;omega
  ·have:=(h.sl.lt g a).2;omega
  ·have:=(e.lt g a).2;omega
  ·have:=(h.ca.lt g a).2;omega
  have:=(d.lt g a).2;omega
 obtain⟨f,d,a,e⟩:=h.sp;exact⟨h.fs,h.sl,h.slh,h.sb,h.sq,h.db,h.dq,h.fl,h.ca,⟨f,d,a,fun i x s f d a _=>⟨(e i x s d a).1,(e i x s d a).2.1,fun f=>absurd f (nL _),fun _=>(e i x s d a).2.2.1⟩⟩,h.tt,h.ap,c,Nat.le_of_eq b.symm⟩
theorem MkT.grew (h:MkT base hi ht k w V m vt T) (g:zc w w'):MkT base hi ht k w' V m vt T:=by
 obtain⟨f,a,c,b⟩:=h.fl;obtain⟨l,e,j,d⟩:=h.sp;exact⟨h.fs.grew g,h.sl.grew g,h.slh,h.sb.grew g,h.sq,h.db.grew g,h.dq.grew g,⟨f,a.grew g,c,fun i x f a c=>⟨(b i x f a c).1,(b i x f a c).2.grew g⟩⟩,h.ca.grew g,⟨l,e.grew g,j,fun i x s f a c b=>⟨(d i x s f a c b).1,(d i x s f a c b).2.1.grew g,fun e=>((d i x s f a c b).2.2.1 e).grew g,(d i x s f a c b).2.2.2⟩⟩,h.tt.grew g,h.ap,h.lo,nT h.hts (bS g)⟩
theorem MkT.table (h:MkT base hi ht k w V m vt T) {c:List SpV} (s2:c.length=m.sp.length) (s3:∀(i:Nat) x s f,c[i]? =Xa x->m.sp[i]? =Xa s->T[i]? =Xa f->x.live=s.live/\zb arE base w x.ar.v s.ars/\(i<k->Qw 0 ht w x.tab (jU f))/\(k<=i->x.tab=QF)) {g:Nat} {cs:Array Xq} (b:w.heap[g]? =Xa (Xk cs 79 (0,0))) (n:g<ht) (a:w.grownBy w' (Xa g)) {x y:SpV} {f:Nat->En} (l:c[k]? =Xa x) (d:T[k]? =Xa f) (t:y.live=x.live/\y.ar=x.ar) (v:Qw 0 ht w' y.tab (jU f)) (u:zb ZC base w' (V.sp.x) (c.set k y)):MkT base hi ht (k+1) w' V m vt T:=by
 obtain⟨z,q,r,p⟩:=h.fl;have j:Out 0 ht w w':=Out.grown a (fun e e=>by cases e;exact⟨nZ _,n⟩)
 refine⟨h.fs.kind a b Dc,h.sl.kind a b Dc,h.slh,⟨qC h.sb.1 a b Dc,h.sb.2⟩,h.sq,⟨qC h.db.1 a b Dc,h.db.2⟩,⟨qC h.dq.1 a b Dc,h.dq.2⟩,⟨z,q.kind a b Dc,r,fun i x f l d=>⟨(p i x f l d).1,(p i x f l d).2.kind a b Dc⟩⟩,h.ca.kind a b Dc,⟨c.set k y,u,Rx Yp s2,fun i z s u n r c=>?_⟩,h.tt.kind a b Dc,h.ap,h.lo,nT h.hts a.size⟩
 by_cases e:i=k
 ·subst e;rw[sF (gS.1 l).1]at n;cases n;rw[d]at c;cases c;obtain⟨p,q,_⟩:=s3 i x s f l r d;exact⟨t.1.trans p,Rx t.2 (q.kind a b Dc),fun _=>v,fun e=>Wm⟩
 rw[sN (fun h=>e h.symm)]at n
 obtain⟨p,q,d,e⟩:=s3 i z s u n r c;exact⟨p,q.kind a b Dc,fun a=>(d Wm).out j,fun a=>e Wm⟩
theorem MkT.mach (h:MkT base hi ht m.sp.length w V m vt T) (q:T.length=m.sp.length) (p:Int):zy w V (jS m T p):=by
 obtain⟨z,d,n,e⟩:=h.fl;obtain⟨A,v,j,y⟩:=h.sp;obtain⟨t,u⟩:=h.sq;refine⟨h.fs.at,h.sl.at,h.sb.at,?_,h.db.at,h.dq.at,⟨d.cap,z,d.at.s0,n,fun i x f b g=>⟨(e i x f b g).1,(e i x f b g).2.at.s0⟩⟩,h.ca.at,⟨A,v.at,by simp[jS,q,j],fun i x s b r=>?_⟩⟩
 ·show jz w (V.sq.x) m.sq
  rw[t,u];exact⟨⟨Xb,0,rfl,fun _=>rfl,fun x b=>by cases b⟩,Sm,Sm⟩
 have a:(List.zipWith (fun s f=>({ s with tb:=jU f }:Sp)) m.sp T)[i]? =Xa s:=r
 rw[List.getElem?_zipWith]at a;have hi:i<m.sp.length:=by rw[<-j];exact(gS.1 b).1
 rw[gE hi,gE (show i<T.length by omega)]at a
 simp only[Option.some.injEq]at a;obtain⟨k,c,l,_⟩:=y i x _ _ b (gE hi) (gE (show i<T.length by omega))
 subst a;exact⟨k,c.at,c.cap,(l hi).now⟩
end
structure zpt (w0 w:Xn) (b:Nat) (vl:Sli) (L:List Int) (cs:List Xq):Prop where
 gr:zc w0 w
 hb:w0.heap.size<=b
 box:zo w b 58 (O vl.a vl.n vl.c :: cs)
 lr:zl byE w0 (O vl.a vl.n vl.c) L
 lc:vl.n<=vl.c
 lb:∀z∈L,0<=z/\z<256
theorem Mk.nums {w:Xn} (h:Mk w0 hi w b vl L V m vt T):zpt w0 w b vl L [V.f.x,I6 m.hand,V.s.x,V.sb.x,V.sq.x,V.db.x,V.dq.x,V.fl.x,I6 m.cnt,V.ca.x,V.sp.x,vt.x]:=⟨h.gr,h.hb,h.box,h.lr,h.lc,h.lb⟩
theorem zna {w:Xn} {cs:List Xq} (n:Int) (j:zpt w0 w b vl L cs):
  Xp prog 15 #[Xj (Xa ⟨b,0,Xb⟩),I6 n] w fun e w'=>∃F g x,e= Xl (I6 x)/\zpt w0 w' b F g cs/\w.grownBy w' (Xa b)/\w'.heap.size=w.heap.size/\0<=x/\(x=0\/x<n)/\(L=[]->x=0)/\QT L g:=by
 have d:=dD j;have l:=j.box.box;have I:=l.c 0 rfl;have a6:=l.f;have h:=j.lr.n;clear l;obtain⟨⟨a2,t,f⟩,D⟩:∃Z:Sli,vl=Z:=⟨_,rfl⟩;subst D;dsimp only[Sli.x]at I h d;clear j
 by_cases u:t=0
 ·subst u;clear h
  go_enter func15,ntmps15
  go_wp2;go_ret;exact⟨_,L,0,rfl,d,World.grownBy.rfl' _ _,rfl,Int.le_refl _,.inl rfl,fun _=>rfl,QT.refl L⟩
 have Q:((t:Int) == 0)=Xd:=by simp;omega
 have R:(t == 0)=Xd:=by simp[u]
 by_cases a1:n<1
 ·clear u h
  go_enter func15,ntmps15
  go_wp2;go_ret;exact⟨_,L,0,rfl,d,World.grownBy.rfl' _ _,rfl,Int.le_refl _,.inl rfl,fun _=>rfl,QT.refl L⟩
 obtain⟨z,g,rfl⟩:∃z g,L=z :: g:=by
  cases L with
  | nil=>simp at h;omega
  | cons z g=>exact⟨z,g,rfl⟩
 have U:=d.lb z Sm
 obtain⟨V,W⟩:=U;obtain⟨p,rfl,H⟩:=d.lr.rowsAt 0 z rfl;have a0:w.cell? p=Xa (U8 z):=by
  have:=H w d.gr 0 _ rfl;rw[zS]at this
  simpa [byE,Addr.add]using this
 obtain⟨k,rfl⟩:∃k,t=k+1:=⟨t - 1,Wm⟩
 have q:k+1<=f:=d.lc;have s:=ziy (w:=w) (ad:=p) (n:=k) (c:=f);clear u H;have T:(0:Int)< ((k+1:Nat):Int):=Wm
 obtain⟨a,i⟩:∃a,(if f=1 then p else p.add 1)=a:=⟨_,rfl⟩;rw[i]at s;have A:Xo (zl byE w0 (O (Xa a) k (f - 1)) g):=dD<|by
  obtain⟨⟨a4,a5,K,a3,X⟩,M⟩:=d.lr;dsimp only[Sli.x]at K;cases K;have Y:=X p rfl;refine⟨⟨Xa a,f - 1,rfl,fun j=>(by cases j),fun P E=>?_⟩,?_⟩
  ·cases E
   by_cases S:f=1
   ·have:g=[]:=by
     have:g.length=0:=Wm
     exact eN this
    subst this;intro v N r
    simp at r
   rw[kF S]at i;subst i;intro v N r;rw[zS,Nat.add_comm 1 v];exact Y (v+1) N (by simpa [byE]using r)
  have:byE.bytes=1:=rfl;rw[this]at M⊢
  simp at M⊢
  omega
 have y:Xo (zo (w.setCell ⟨b,0,Xb⟩ (O (Xa a) k (f - 1))) b 58 (O (Xa a) k (f - 1) :: cs)):=d.box.set 0 _;have m:Xo (w.grownBy (w.setCell ⟨b,0,Xb⟩ (O (Xa a) k (f - 1))) (Xa b)):=⟨rfl,rfl,rfl,by simp[World.setCell],fun v _ r=>Below.heap_setCell _ _ _ _ (fun e=>r (by rw[e]))⟩
 have C:Xo ((w.setCell ⟨b,0,Xb⟩ (O (Xa a) k (f - 1))).heap.size=w.heap.size):=dD<|by simp[World.setCell]
 have B:Xo (zpt w0 (w.setCell ⟨b,0,Xb⟩ (O (Xa a) k (f - 1))) b ⟨Xa a,k,f - 1⟩ g cs):=show zpt _ _ _ _ _ _ from
  ⟨zd d.gr m d.hb,d.hb,y,A,(show k<=f - 1 by omega),fun P E=>d.lb P (by simp[E])⟩
 have G:Xo (0<=z % n/\z % n<n):=dD<|⟨Int.emod_nonneg _ Wm,Int.emod_lt_of_pos _ Wm⟩
 clear h q i
 go_enter func15,ntmps15
 go_wp2;go_ret;exact⟨_,g,z % n,rfl,B,m,C,G.1,.inr G.2,fun j=>(by cases j)⟩
theorem zkZ {w:Xn} {t:List (List En)} (h:Qw B0 B1 w us t):∃r t1 t2 u x z A B:Sli,us=[r.v,t1.v,t2.v,u.v,x.v,z.v,A.v,B.v]:=by
 have a:∀i v,us[i]? =Xa v->∃s:Sli,v=s.v:=fun i v b=>by
  obtain⟨y,f⟩:∃y,t[i]? =Xa y:=⟨_,gE (by rw[h.tlen,<-h.len];exact(gS.1 b).1)⟩
  obtain⟨⟨c,d,e,_⟩,_⟩:=(h.row i v y b f).now;exact⟨⟨c,y.length,d⟩,e⟩
 obtain⟨C,D,E,F,G,H,K,L,rfl⟩:=zmi h.len;obtain⟨g,rfl⟩:=a 0 C rfl;obtain⟨j,rfl⟩:=a 1 D rfl;obtain⟨k,rfl⟩:=a 2 E rfl;obtain⟨l,rfl⟩:=a 3 F rfl;obtain⟨m,rfl⟩:=a 4 G rfl;obtain⟨n,rfl⟩:=a 5 H rfl;obtain⟨p,rfl⟩:=a 6 K rfl;obtain⟨q,rfl⟩:=a 7 L rfl;exact⟨g,j,k,l,m,n,p,q,rfl⟩
theorem zb.outb {α:Type} {E:Elt α} {base:Nat} {w:Xn} {v:Xq} {l:List α} (h:zb E base w v l) (k:Out b (b+1) w w') (d:∀g,v.ownBlock=Xa g->g≠b):zb E base w' v l:=by
 refine⟨⟨h.1.1,?_⟩,h.2⟩
 rcases h.1.2 with f|⟨g,a,c,rfl,h,e,i⟩
 ·exact .inl f
 exact .inr ⟨g,a,c,rfl,h,by rw[k.block g (aS.1 e).1 (Hm (d g rfl))];exact e,i⟩
theorem zo.outb {p:Nat} {w:Xn} {cs:List Xq} (h:zo w p t cs) (k:Out b (b+1) w w') (a:p≠b):zo w' p t cs:=by
 have c:=h.box.lt;have a:w.heap[p]? =_:=h
 show w'.heap[p]? =_
 rw[k.block p c Wm]
 exact a
structure FC (w:Xn) (hi b:Nat) (u:Xn) (vl:Sli) (L:List Int) (V:MaV) (m:Ma) (pf:Nat) (sz:Int) (bs:Sli) (bl:List Int):Prop where
 mm:Mk w hi u b vl L V m zG []
 hp:hi<=pf
 fb:FlB w.heap.size hi pf u V m
 fn:∀g,(O V.fl.a V.fl.n V.fl.c).ownBlock=Xa g->g<pf
 box:zo u pf 65 [Xe Xf sz,O bs.a bs.n bs.c]
 row:zb blE (pf+1) u (O bs.a bs.n bs.c) bl
section
variable{w u u':Xn} {hi b pf:Nat} {vl vl' bs:Sli} {L L':List Int} {V V':MaV} {m m':Ma} {sz:Int} {bl:List Int}
theorem FC.grew (h:FC w hi b u vl L V m pf sz bs bl) (k:zc u u'):FC w hi b u' vl L V m pf sz bs bl:=⟨h.mm.grew k,h.hp,h.fb.grew k,h.fn,h.box.grew k,h.row.grew k⟩
theorem FlB.as (h:FlB w.heap.size hi pf u V m) (a:V'.fl=V.fl) (b:m'.fl=m.fl):FlB w.heap.size hi pf u V' m':=by
 unfold FlB at h⊢;rw[a,b];exact h
theorem zo.kind {g p:Nat} {a:TypeId} {cs:List Xq} {ds:Array Xq} (h:zo u p t cs) (b:u.grownBy u' (Xa g)) (c:u.heap[g]? =Xa (Xk ds a (0,0))) (ht:a≠t):zo u' p t cs:=h.beside b (fun k e=>by
 cases e;intro e;subst e;have a:u.heap[p]? =_:=h;rw[c]at a;cases a;exact ht rfl)
theorem FC.kind (h:FC w hi b u vl L V m pf sz bs bl) {g:Nat} {cs:Array Xq} (c:u.grownBy u' (Xa g)) (d:u.heap[g]? =Xa (Xk cs t (0,0))) (ht:t≠65) (a:t≠3) (e:Mk w hi u' b vl' L' V' m' zG []) (f:V'.fl=V.fl) (i:m'.fl=m.fl):FC w hi b u' vl' L' V' m' pf sz bs bl:=
 ⟨e,h.hp,(h.fb.kind c d (.inl ht) (.inl a)).as f i,Rx f h.fn,h.box.kind c d ht,h.row.kind c d a⟩
theorem FC.pick (h:FC w hi b u vl L V m pf sz bs bl) (c:u.grownBy u' (Xa b)) (a:Mk w hi u' b vl' L' V m zG []):FC w hi b u' vl' L' V m pf sz bs bl:=h.kind c h.mm.box Dc Dc a rfl rfl
theorem FC.fresh (h:FC w hi b u vl L V m pf sz bs bl) {g:Nat} {cs:Array Xq} (a:u.grownBy u' (Xa g)) (c:u.heap[g]? =Xa (Xk cs 65 (0,0))) (d:pf<g):FC w hi b u' vl L V m pf sz bs bl:=by
 have d:(V.fl.x).ownBlock≠Xa g:=fun e=>Hm (h.fn g e)
 have f:w.heap.size<=g:=by have:=h.mm.rows.bh;have:=h.hp;omega
 exact⟨⟨zd h.mm.gr a f,h.mm.hb,h.mm.box.kind a c Dc,h.mm.lr,h.mm.lc,h.mm.lb,h.mm.rows.fileVar a c d⟩,h.hp,h.fb.kind a c (.inr d) (.inl Dc),h.fn,h.box.beside a (fun k e=>by cases e;omega),h.row.kind a c Dc⟩
theorem znd (w:Xn) (x:FlV):zb fvE w.heap.size (w.alloc (Xk (fvE.enc x).toArray 65)) (O (Xa ⟨w.heap.size,0,Xb⟩) 1 1) [x]:=by
 refine⟨⟨rfl,.inr ⟨w.heap.size,1,(fvE.enc x).toArray,rfl,nR _,?_,nR _,qO Wm,rfl,?_⟩⟩,by show 1*32<=_;omega⟩
 ·show(w.heap.push _)[w.heap.size]? =_
  simp;rfl
 simp[fvE,flv]
theorem FC.addB (h:FC w hi b u vl L V m pf sz bs bl) (a:u.grownBy u' (bs.x).ownBlock) (s:Sli) {c:List Int} (l:zb blE (pf+1) u' (s.x) c):
  zo u' pf 65 [I6 sz,bs.x]/\(∀p t cs,t≠3->t≠65->zo u p t cs->zo (u'.setCell ⟨pf,1,Xb⟩ (s.x)) p t cs)/\FC w hi b (u'.setCell ⟨pf,1,Xb⟩ (s.x)) vl L V m pf sz s c:=by
 have g:Mk w hi u' b vl L V m zG []/\FlB w.heap.size hi pf u' V m/\zo u' pf 65 [I6 sz,bs.x]/\(∀p t cs,t≠3->zo u p t cs->zo u' p t cs):=by
  cases c:(bs.x).ownBlock with
  | none=>
   rw[c]at a;have k:=qz a;exact⟨h.mm.grew k,h.fb.grew k,h.box.grew k,fun p t cs _ e=>e.grew k⟩
  | some i=>
   rw[c]at a;obtain⟨cs,d⟩:=h.row.obj c;have f:=(h.row.lt i c).1;have f:w.heap.size<=i:=by have:=h.mm.rows.bh;have:=h.hp;omega
   exact⟨⟨zd h.mm.gr a f,h.mm.hb,h.mm.box.kind a d Dc,h.mm.lr,h.mm.lc,h.mm.lb,h.mm.rows.ints h.fb a d Wm (Hm h.hp)⟩,h.fb.kind a d (.inl Dc) (.inr Wm),h.box.kind a d Dc,fun p t c c e=>e.kind a d (fun e=>c e.symm)⟩
 obtain⟨c,n,d,q⟩:=g;have a:=ji u' pf 1 (s.x);have g:(V.fl.x).ownBlock≠Xa pf:=fun e=>Hm (h.fn pf e)
 have f:w.heap.size<=pf:=by have:=h.mm.rows.bh;have:=h.hp;omega
 refine⟨d,fun p t cs i j k=>(q p t cs i k).kind a d (fun e=>j e.symm),⟨⟨zd c.gr a f,c.hb,c.box.kind a d Dc,c.lr,c.lc,c.lb,c.rows.fileVar a d g⟩,h.hp,n.kind a d (.inr g) (.inl Dc),h.fn,d.set 1 _,l.kind a d Dc⟩⟩
def FCE (w:Xn) (hi b:Nat) (L0:List Int) (V:MaV) (m:Ma) (pf:Nat) (sz:Int) (bs:Sli) (bl:List Int) (u:Xn):Prop:=∃vl L,FC w hi b u vl L V m pf sz bs bl/\QT L0 L
end
theorem MkT.other {base ht k:Nat} {w:Xn} (h:MkT base hi ht k w V m vt T) {g:Nat} {cs:Array Xq} (a:w.grownBy w' (Xa g)) (b:w.heap[g]? =Xa (Xk cs t (0,0))) (c:g<ht) (e:t=58\/t=41):MkT base hi ht k w' V m vt T:=by
 have d:t≠62/\t≠3/\t≠60/\t≠69/\t≠65/\t≠93/\t≠79/\t≠105/\t≠76:=by rcases e with rfl | rfl <;> decide
 obtain⟨i,e,f,p,q,r,s,u,v⟩:=d;obtain⟨B,x,y,j⟩:=h.fl;obtain⟨C,z,A,l⟩:=h.sp;have d:Out 0 ht w w':=Out.grown a (fun n n=>by cases n;exact⟨nZ _,c⟩)
 exact⟨h.fs.kind a b i,h.sl.kind a b e,h.slh,⟨qC h.sb.1 a b f,h.sb.2⟩,h.sq,⟨qC h.db.1 a b f,h.db.2⟩,⟨qC h.dq.1 a b p,h.dq.2⟩,⟨B,x.kind a b q,y,fun i x f c p=>⟨(j i x f c p).1,(j i x f c p).2.kind a b e⟩⟩,h.ca.kind a b r,⟨C,z.kind a b s,A,fun i x s f c j e=>⟨(l i x s f c j e).1,(l i x s f c j e).2.1.kind a b u,fun n=>((l i x s f c j e).2.2.1 n).out d,(l i x s f c j e).2.2.2⟩⟩,h.tt.kind a b v,h.ap,h.lo,nT h.hts a.size⟩
theorem ze1 {p:Nat}:Loc hi p 41:=⟨Dc,Dc,Dc,Dc,Dc,Dc,Dc,Dc,fun h=>absurd h Dc⟩
theorem zqP:(Tryz.prog.info? 41).map (·.size)=Xa 11:=by kernel_rfl
def zgf (nf ns nb k:Nat):Ma:=⟨Xr nf frF,0,Xr ns 0,Xr ns zp,[],Xr nb zp,[],[],nb,[],Xr k ⟨Xc,[],qG⟩⟩
structure zmO (w:Xn) (nf ns nb:Nat) (L:List Int) (w':Xn) (V:MaV) (m:Ma) (T:List (Nat->En)) (hd:Int) (hi ht:Nat) (vt:Sli):Prop where
 gr:zc w w'
 rows:MkT w.heap.size hi ht m.sp.length w' V m vt T
 inv:qK m T
 hand:0<=hd/\hd<max (m.fs.length:Int) 1
 fin:∀s∈m.sp,qH m.fl.length s.ars/\ZA s.ars 64<=12
 fl2:m.fl.length<=2/\∀f∈m.fl,f.size<40
 sp:1<=m.sp.length/\m.sp.length<=2
 fsl:m.fs.length=nf
 new:L=[]->m=zgf nf ns nb 1/\T=[fun _=>en0]/\hd=0
theorem ziu (v fs) (cnt b:Int) (w) (hv:qg w v fs):
  Xp prog 17 #[Xi #[v,I6 cnt],I6 b] w fun e w'=>e= Xl (Xh (zR fs b))/\zc w w':=by
 obtain⟨a,c,rfl,hbig,hrow⟩:=hv.rows;have HR:=dD hrow;clear hrow hv;obtain⟨n,HN⟩:=kA fs.length;rw[HN.out]at hbig⊢;obtain⟨ANS,HANS⟩:=kA (zR fs b);rw[HANS.out];obtain⟨W0,hW0⟩:=kB (w.alloc (Xk #[O a n c,I6 cnt] 37));have HG0:=gA hW0
 have HW0:=dD hW0;clear hW0
 go_enter func17,ntmps17
 go_wp2;rw[HW0.out]
 go_loopg [12] n (fun gg s12 wr=>∃kk:Nat,kk<=n/\n - kk<=gg/\s12=I6 kk/\Xo (zc w wr)/\Xo (∀(j:Nat) (q:Fl),j<kk->fs[j]? =Xa q->q.bl.contains b=Xd))
 exact⟨0,nZ _,Wm,rfl,HG0,fun j q hj=>absurd hj (nL _)⟩
 obtain⟨kk,hkk,hg,rfl,BW,A⟩:=hrel
 by_cases hlt:kk<n
 ·have hltz:=kC hlt
  obtain⟨q,HQ⟩:∃q,Xo (fs[kk]? =Xa q):=⟨_,gE (Rx HN.out hlt)⟩
  obtain⟨ad,rfl,xa,xc,hra,hl⟩:=HR.out kk q HQ.out;obtain⟨d0,d1⟩:=hl wr BW.out;have hqbig:=hra.short;obtain⟨a',c',heq,hnum⟩:=hra.nums;cases heq;have HRA:=dD hnum;clear hl hra hnum;obtain⟨nb,HNB⟩:=kA q.bl.length;rw[HNB.out]at d1 hqbig;obtain⟨W2,hW2⟩:=kB (wr.alloc (Xk #[I6 q.size,O xa nb xc] 65));have G2:=gT hW2 BW
  have HW2:=dD hW2;clear hW2;go_wp2;rw[HW2.out]
  go_loopg [19] nb (fun g2 s19 wr2=>∃k2:Nat,k2<=nb/\nb - k2<=g2/\s19=I6 k2/\Xo (zc w wr2)/\Xo (∀(j:Nat) z,j<k2->q.bl[j]? =Xa z->¬z=b))
  exact⟨0,nZ _,Wm,rfl,G2,fun j z hj=>absurd hj (nL _)⟩
  obtain⟨k2,hk2,hg2,rfl,BW2,A2⟩:=hrel;clear d0 d1
  by_cases hlt2:k2<nb
  ·have hltz2:=kC hlt2
   obtain⟨z,HZ⟩:∃z,Xo (q.bl[k2]? =Xa z):=⟨_,gE (by rw[HNB.out];exact hlt2)⟩
   obtain⟨ad2,rfl,hl2⟩:=HRA.out k2 z HZ.out;have d2:=hl2 _ BW2.out;clear hl2
   by_cases hz:z=b
   ·have hzb:(z == b)=Xc:=Si hz
    have HF:Xo (ANS=Xc):=dD<|by
     rw[<-HANS.out];unfold zR;exact zpr HQ (Oc.2 (hz ▸ mG HZ))
    clear hz;go_wp2;go_ret;exact⟨Rr HF.out,BW2⟩
   have hzb:(z == b)=Xd:=Si hz
   have HA2:Xo (∀(j:Nat) z,j<k2+1->q.bl[j]? =Xa z->¬z=b):=dD<|fun j z' hj hz'=>by
    by_cases e:j=k2
    ·subst e;rw[HZ.out]at hz';cases hz';exact hz
    exact A2 j z' Wm hz'
   clear hz;go_wp2
   go_roundg (nb -(k2+1));exact⟨k2+1,Wm,Wm,Gn,BW2,HA2⟩;omega
  have hltz2:=kD hlt2
  have:k2=nb:=Wm
  subst this;have HA:Xo (∀(j:Nat) (q:Fl),j<kk+1->fs[j]? =Xa q->q.bl.contains b=Xd):=dD<|fun j q' hj hq'=>by
   by_cases e:j=kk
   ·subst e;rw[HQ.out]at hq';cases hq'
    cases hb:q.bl.contains b with
    | false=>rfl
    | true=>
     obtain⟨p,hp⟩:=Ya (Oc.1 hb);exact absurd rfl (A2 p b (by rw[<-HNB.out];exact(gS.1 hp).1) hp)
   exact A j q' Wm hq'
  go_wp2
  go_roundg (n -(kk+1));exact⟨kk+1,Wm,Wm,Gn,BW2,HA⟩;omega
 have hltz:=kD hlt
 have:kk=n:=Wm
 subst this;have HF:Xo (ANS=Xd):=dD<|by
  rw[<-HANS.out];unfold zR;rw[zpq (fun j q hj=>A.out j q (by rw[<-HN.out];exact(gS.1 hj).1) hj)]
 go_wp2;go_ret;exact⟨Rr HF.out,BW⟩
theorem zms (l:List En) (i:Nat):(Qi l i).length=8:=by simp[Qi]
theorem zn9 (l:List En) {i k:Nat} (a:k<8):(Qi l i)[k]? =Xa (l[8*i+k]?.getD en0):=by
 unfold Qi;rw[Xz,Ok a];rfl
structure zpu (l:List En) (kk:Nat) (t:List (List En)):Prop where
 len:t.length=8
 at':∀j,j<8->t[j]? =Xa (if j<kk then mk (Qi l j)else [])
theorem zlB (l:List En):zpu l 0 qG:=⟨rfl,fun j a=>by rw[kF (nL _),qG,Yj,kE a]⟩
theorem zgn {l:List En} {t:List (List En)} (h:zpu l kk t) (a:kk<8):zpu l (kk+1) (t.set kk (mk (Qi l kk))):=by
 refine⟨by simp[h.len],fun j a=>?_⟩
 by_cases e:j=kk
 ·subst e;rw[sF (by rw[h.len];exact a),kE (Nat.lt_succ_self _)]
 rw[sN (fun h=>e h.symm),h.at' j a]
 by_cases a:j<kk
 ·rw[kE a,kE Wm]
 rw[kF a,kF Wm]
theorem znx {l:List En} {t:List (List En)} (h:zpu l 8 t):t=jT l:=by
 apply Yd
 intro j
 by_cases a:j<8
 ·rw[h.at' j a,kE a];unfold jT;rw[Xz,Ok a];rfl
 rw[gN (by rw[h.len];omega),gN (by simp[jT];omega)]
theorem zhk (l:List En) (w:Xn) (cq:l.length=64) (B:∀e∈l,0<=e.kind):
  Xp prog 21 #[Xi (qr l).toArray] w fun e w'=>∃k,e= Xl (Xi k.toArray)/\Qw 0 w.heap.size w' k (jT l)/\zc w w':=by
 have bw:=dD cq;have cz:=dD B;have bu:Xo (∀(j:Nat) e,l[j]? =Xa e->(qr l)[j*3]? =Xa (I6 e.kind)/\(qr l)[j*3+1]? =Xa (I6 e.n)/\(qr l)[j*3+2]? =Xa (Xh e.wr)):=show∀(j:Nat) e,_ from fun j e t=>zdu t
 clear cq B;obtain⟨cl,ap⟩:=kA (jT l);rw[ap.out]
 generalize qr l=Y at bu⊢
 obtain⟨aw,x⟩:=kB (((w.alloc (Xk Y.toArray 76)).alloc (Xk #[eS,eS,eS,eS,eS,eS,eS,eS] 72)).alloc (Xk #[eS,eS,eS,eS,eS,eS,eS,eS] 72));have bv:Xo (zc w aw):=dD<|by rw[<-x];exact((za _ _).trans (za _ _)).trans (za _ _)
 have da:Xo (Box aw w.heap.size Y):=dD<|by rw[<-x];exact((Box.top w _ _ rfl).alloc _).alloc _
 have dc:Xo (Box aw (w.heap.size+1) QF):=dD<|by rw[<-x];exact(Box.top _ QF _ Sm).alloc _
 have d7:Xo (Box aw (w.heap.size+2) QF):=dD<|by rw[<-x];exact Box.top _ QF _ Sm
 have bz:Xo (_=aw):=x;clear x;obtain⟨dw,cy⟩:=kA (w.heap.size+2)
 go_enter func21,ntmps21
 go_upto_region 2 with fail;rw[bz.out];go_wp2
 go_loopg [8] 8 (fun df dr wr=>∃(a:Nat) (k:List Xq) (U:List (List En)),a<=8/\8 - a<=df/\dr=I6 a/\Xo (zc w wr)/\Xo (Box wr w.heap.size Y)/\Xo (Box wr (w.heap.size+1) QF)/\Xo (Box wr (w.heap.size+2) k)/\Xo (Qw 0 (w.heap.size+3) wr k U)/\Xo (zpu l a U)/\Xo (∀j,a<=j->j<8->k[j]? =Xa (eS)))
 exact⟨0,QF,qG,nZ _,Wm,rfl,bv,da,dc,d7,Qw.nil _ _ _,zlB l,show∀j,_ from fun j _ ag=>by rw[QF,Yj,kE ag]⟩
 obtain⟨a,k,U,dk,cp,rfl,bs,bm,bn,bl,au,af,c5⟩:=hrel
 by_cases n:a<8
 ·have b8:(a:Int)<8:=Wm
  obtain⟨f,P⟩:=kA (Qi l a);have Z:Xo (f.length=8):=dD<|by rw[<-P.out];exact zms _ _
  have am:Xo (∀D,D<8->∃e,f[D]? =Xa e/\l[8*a+D]? =Xa e/\0<=e.kind):=dD<|fun D B=>by
   obtain⟨e,cb⟩:∃e,l[8*a+D]? =Xa e:=⟨_,gE (by rw[bw.out];omega)⟩
   exact⟨e,by rw[<-P.out,zn9 l B,cb];rfl,cb,cz e (mG cb)⟩
  obtain⟨i,rfl⟩:∃i,i=wr:=⟨_,rfl⟩;go_wp2
  go_loopg [5,6] 8 (fun de dp dq ch=>∃(d:Nat) (ae:Bool),d<=8/\8 - d<=de/\dq=I6 d/\dp= Xh ae/\Xo (ae=Zn (f.take d))/\Xo (ch=i))
  exact⟨0,Xd,nZ _,Wm,rfl,rfl,rfl,rfl⟩
  obtain⟨d,ae,di,dh,rfl,rfl,ak,cv⟩:=hrel;rw[cv.out]
  by_cases b6:d<8
  ·have ac:(d:Int)<8:=Wm
   obtain⟨e,z,A,b4⟩:=am.out d b6;have cj:Xo (Zn (f.take (d+1))=(ae || enS e)):=dD<|by
    rw[qe z,ak.out];unfold Zn;rw[List.any_append];simp
   cases ae with
   | true=>
    have bx:Xo (Xc=Zn (f.take (d+1))):=dD<|Rr cj.out
    clear z A b4;go_wp2
    go_roundg (8 -(d+1));exact⟨d+1,Xc,Wm,Wm,Gn,rfl,bx,rfl⟩;omega
   | false=>
    have H:(8:Int)*(a:Int)+(d:Int)=((8*a+d:Nat):Int):=Wm
    have G:8*a+d<64:=Wm
    obtain⟨a7,_,_⟩:=bu.out _ e A;obtain⟨aj,a1⟩:=kA (8*a+d);rw[a1.out]at H G a7;have ab:(aj:Int)<64:=Wm
    have dz:=bm.c _ a7;clear a7 z A;obtain⟨br,al⟩:=kA (enS e);have dg:decide (0<e.kind)=br:=by
     rw[<-al.out];unfold enS
     by_cases t:e.kind=0
     ·rw[t];rfl
     have:0<e.kind:=Wm
     rw[decide_eq_true this]
     simpa using t
    have bx:Xo (br=Zn (f.take (d+1))):=dD<|by rw[cj.out,al.out];rfl
    clear b4;go_wp2
    go_roundg (8 -(d+1));exact⟨d+1,br,Wm,Wm,Gn,by first | rfl | rw[dg],bx,rfl⟩;omega
  have ac:¬(d:Int)<8:=Wm
  have:d=8:=Wm
  subst this;have an:Xo (ae=Zn f):=dD<|by rw[ak.out,Yc (by rw[Z.out];exact nR _)]
  cases ae with
  | false=>
   have a3:Xo (mk (Qi l a)=[]):=dD<|by rw[P.out];unfold mk;rw[<-an.out,kF Dc]
   have a4:Xo (U.set a (mk (Qi l a))=U):=dD<|by
    rw[a3.out];refine zeP ?_;rw[af.at' a n,kF (Ol _)]
   have d0:Xo (zpu l (a+1) U):=dD<|by rw[<-a4.out];exact zgn af n
   go_wp2
   go_loopg [7] 1 (fun a8 cg M=>1<=a8/\cg=I6 0/\Xo (M=i))
   exact⟨nR _,rfl,rfl⟩
   obtain⟨cc,rfl,bt⟩:=hrel;rw[bt.out];go_wp2
   go_roundg (8 -(a+1));exact⟨a+1,k,U,Wm,Wm,Gn,bs,bm,bn,bl,au,d0,show∀j,_ from fun j az bp=>c5.out j Wm bp⟩;omega
  | true=>
   have a3:Xo (mk (Qi l a)=f):=dD<|by rw[P.out];unfold mk;rw[<-an.out,kE rfl]
   have m:=dD au.len;go_wp2
   go_loopg [7] 8 (fun a8 cg M=>∃(b s:Nat) (q:Option Addr),b<=8/\8 - b<=a8/\cg=I6 b/\Xo (Out (w.heap.size+2) (w.heap.size+3) i M)/\Xo (Box M (w.heap.size+2) (k.set a (O q b s)))/\Xo (zb enE i.heap.size M (O q b s) (f.take b)))
   exact⟨0,0,Xb,nZ _,Wm,rfl,Out.refl _ _ _,by rw[zeP (c5.out a (nR _) n)];exact bl,zb.nil _ _ _⟩
   obtain⟨b,s,q,dj,cc,rfl,r,av,a5⟩:=hrel;have a2:Xo (w.heap.size+3<=i.heap.size):=bl.lt
   by_cases b7:b<8
   ·have ad:(b:Int)<8:=Wm
    obtain⟨e,z,A,_⟩:=am.out b b7;have H:(8:Int)*(a:Int)+(b:Int)=((8*a+b:Nat):Int):=Wm
    have G:8*a+b<64:=Wm
    obtain⟨a7,c8,c9⟩:=bu.out _ e A;obtain⟨aj,a1⟩:=kA (8*a+b);rw[a1.out]at H G a7 c8 c9;have ab:(aj:Int)<64:=Wm
    have a4:=dD<|qe z;have ao:Xo ((f.take b).length=b):=show _=_ by rw[List.length_take,Z.out];omega
    have c3:Xo (Box wr w.heap.size Y):=bm.out.out r Wm
    have c4:Xo (Box wr (w.heap.size+1) QF):=bn.out.out r Wm
    have b5:∀F,(O q b s).ownBlock=Xa F->i.heap.size<=F/\F<wr.heap.size:=a5.lt;have a0:=dD b5;clear b5 z A;obtain⟨V,rfl⟩:∃V,V=wr:=⟨_,rfl⟩;obtain⟨Q,N⟩:=Wq fun u=>Box u w.heap.size Y/\Box u (w.heap.size+1) QF/\Box u (w.heap.size+2) (k.set a (O q b s))/\Out (w.heap.size+2) (w.heap.size+3) i u/\V.heap.size<=u.heap.size
    go_upto_region 13 with fail;have bg:∀y:zj Q,y.world.cell? ⟨w.heap.size+2,a,Xb⟩=Xa (O q b s):=fun y=>((N _).1 y.holds).2.2.1.c a (sF (Rx m.out n))
    have bd:∀y:zj Q,y.world.cell? ⟨w.heap.size,aj*3,Xb⟩=Xa (I6 e.kind):=fun y=>((N _).1 y.holds).1.c _ a7
    have be:∀y:zj Q,y.world.cell? ⟨w.heap.size,aj*3+1,Xb⟩=Xa (I6 e.n):=fun y=>((N _).1 y.holds).1.c _ c8
    have bf:∀y:zj Q,y.world.cell? ⟨w.heap.size,aj*3+2,Xb⟩=Xa (Xh e.wr):=fun y=>((N _).1 y.holds).1.c _ c9
    have aa:Q V.drew:=(N _).2 ⟨c3.grew (gW _),c4.grew (gW _),av.grew (gW _),r.trans (Out.drew _),nR _⟩
    have b9:Nonempty (zj Q):=⟨⟨_,aa⟩⟩;clear a7 c8 c9;refine qX (I:=Q) 13 [(10,⟨fun L=>∃F,L= O (Xa ⟨F,0,Xb⟩) 1 1,fun L w'=>qE enE V.heap.size w' L [e],fun p bk=>zc p bk,fun _=>True⟩),(11,⟨fun L=>∃bo a6,L= O bo (b+1) a6,fun L w'=>zb enE i.heap.size w' L (f.take b++ [e]),fun p bk=>p.grownBy bk (O q b s).ownBlock,fun u=>zb enE i.heap.size u (O q b s) (f.take b)⟩)] aa z6 Kr rfl rfl Dc ?hS ?hp ?hpre ?hpr0 ?_
    case hS=>
     intro y cr
     simp at cr
     rcases cr with rfl|rfl
     ·exact⟨_,0,rfl⟩
     exact⟨_,Xb,0,rfl⟩
    case hp=>
     intro D dm j ct B ag R _ L p bk T bb
     rcases zjS B with⟨rfl,rfl⟩|⟨rfl,rfl⟩
     ·rcases zjS ag with⟨rfl,rfl⟩|⟨rfl,rfl⟩
      ·exact absurd rfl R
      have az:qE enE V.heap.size p L [e]:=bb;exact⟨az.1.beside T (fun ci cs a6 cf t=>by
       have bp:=az.2 ci cs a6 cf;have dx:=(a0 ci.block t.symm).2
       omega),az.2⟩
     rcases zjS ag with⟨rfl,rfl⟩|⟨rfl,rfl⟩
     ·exact zb.grew bb T
     exact absurd rfl R
    case hpre=>
     intro j ct D dm ag B R p bk T S
     rcases zjS ag with⟨rfl,rfl⟩|⟨rfl,rfl⟩
     ·trivial
     rcases zjS B with⟨rfl,rfl⟩|⟨rfl,rfl⟩
     ·exact zb.grew S T
     exact absurd rfl R
    case hpr0=>
     intro D ct B
     rcases zjS B with⟨rfl,rfl⟩|⟨rfl,rfl⟩
     ·trivial
     exact a5.grew (gW _)
    simp only[Ym,Yn];iterate 10 refine zN ?_
    refine zV rfl rfl (fun w' a9 S b0=>?_) (fun du X=>?_)
    ·obtain⟨bh,bi,ah,C,ai⟩:=(N _).1 a9;have ba:qE enE V.heap.size (w'.alloc (Xk #[I6 e.kind,I6 e.n,Xh e.wr] 75)) (O (Xa ⟨w'.heap.size,0,Xb⟩) 1 1) [e]:=⟨qN enE w' e _ _ rfl Dc,fun ci cs a6 cf=>by cases cf;exact ai⟩
     clear bg bd be bf b9;refine zJ.step (v:= O (Xa ⟨w'.heap.size,0,Xb⟩) 1 1) (w':=w'.alloc (Xk #[I6 e.kind,I6 e.n,Xh e.wr] 75)) (by simp only[execOp];go_simp) ⟨(N _).2 ⟨bh.alloc _,bi.alloc _,ah.alloc _,C.trans (Out.grew (za _ _)),nT ai (bS (za _ _))⟩,za _ _,⟨_,rfl⟩,ba⟩
    obtain⟨ay,rfl⟩:=X;refine Uq ?_;refine zV rfl rfl (fun w' a9 S b0=>?_) (fun du X=>?_)
    ·obtain⟨bh,bi,ah,C,ai⟩:=(N _).1 a9;have ca:qE enE V.heap.size w' (O (Xa ⟨ay,0,Xb⟩) 1 1) [e]:=b0 10 Kr
     have bc:zb enE i.heap.size w' (O q b s) (f.take b):=S;obtain⟨dy,dv,W,ce,c,_⟩:=qx (E:=enE) (w:=w') 70 bc (O (Xa ⟨ay,0,Xb⟩) 1 1) [e] ca.1 (by rw[ao.out];show(b+1)*24<=_;omega) C.size
     obtain⟨bo,a6,rfl⟩:=ce.form;have cd:(f.take b++ [e]).length=b+1:=by rw[lA,ao.out];rfl
     rw[cd]at ce W;have K:∀c7,c7<w.heap.size+3->∀F,(O q b s).ownBlock=Xa F->c7≠F:=fun c7 co F cp=>by
      have:=(a0 F cp).1;have:=a2.out;omega
     refine zJ.step (v:= O bo (b+1) a6) (w':=dv) ?_ ⟨(N _).2 ⟨bh.beside c (K _ Wm),bi.beside c (K _ Wm),ah.beside c (K _ Wm),⟨c.os.trans C.os,c.tape.trans C.tape,c.output.trans C.output,nT C.size c.size,fun D B co=>(c.block D (Yi B C.size) (fun t=>Hm ((a0 D t.symm).1))).trans (C.block D B co)⟩,nT ai c.size⟩,c,⟨bo,a6,rfl⟩,ce⟩
     simp only[execOp,resolve,invoke,builtin,pure_bind,Xu,Xt,Yx,mP,Yk];exact Eq.trans (congrArg (fun dl=>Result.andThen dl (fun q w'=>Result.ok (Next.value q) w')) W) rfl
    obtain⟨g,h,rfl⟩:=X;refine Uq ?_;refine zN ?_
    refine j2 fun ax b1 b0=>?_
    have bj:zb enE i.heap.size ax (O g (b+1) h) (f.take b++ [e]):=b0 11;obtain⟨bh,bi,ah,C,ai⟩:=(N _).1 b1;have d3:Xo (zb enE i.heap.size ax (O g (b+1) h) (f.take (b+1))):=dD<|Rx a4.out bj
    have c6:=dD ah;have aq:=dD C;clear b0 bg bd be bf b1 b9 aa bj bh bi ah C ai;have ds:=c6.c a (sF (Rx m.out n))
    have dt:=c6.f;go_upto_region 12 with fail;have d9:Xo (Box (ax.setCell ⟨w.heap.size+2,a,Xb⟩ (O g (b+1) h)) (w.heap.size+2) (k.set a (O g (b+1) h))):=dD<|by
     have:=c6.set a (O g (b+1) h);rw[List.set_set]at this;exact this
    have d4:Xo (zb enE i.heap.size (ax.setCell ⟨w.heap.size+2,a,Xb⟩ (O g (b+1) h)) (O g (b+1) h) (f.take (b+1))):=d3.setCell (by have:=a2.out;simp;omega) _
    have ar:Xo (Out (w.heap.size+2) (w.heap.size+3) i (ax.setCell ⟨w.heap.size+2,a,Xb⟩ (O g (b+1) h))):=aq.trans (Out.setCell _ _ _ (p:=⟨w.heap.size+2,a,Xb⟩) (nR _) (Nat.lt_succ_self _) _);clear ds dt;go_wp2
    go_roundg (8 -(b+1));exact⟨b+1,h,g,Wm,Wm,Gn,ar,d9,d4⟩;omega
   have ad:¬(b:Int)<8:=Wm
   have:b=8:=Wm
   subst this;have d5:Xo (zb enE i.heap.size wr (O q 8 s) f):=dD<|by
    have:=a5.out;rw[Yc (by rw[Z.out];exact nR _)]at this
    exact this
   have d6:Xo (Qw 0 (w.heap.size+3) wr (k.set a (O q 8 s)) (U.set a f)):=dD<|⟨by simp[m.out],by simp[af.len],fun j L t X bq=>by
    by_cases e:j=a
    ·subst e;rw[sF (Rx m.out n)]at X
     rw[sF (by rw[af.len];exact n)]at bq
     cases X;cases bq;exact d5.new.stays.less (nZ _) a2.out
    rw[sN (fun t=>e t.symm)]at X bq
    exact(au.row j L t X bq).out (r.wide Wm Wm)⟩
   have d1:Xo (zpu l (a+1) (U.set a f)):=dD<|by rw[<-a3.out];exact zgn af n
   have db:Xo (Box wr w.heap.size Y):=bm.out.out r Wm
   have dd:Xo (Box wr (w.heap.size+1) QF):=bn.out.out r Wm
   have cx:Xo (zc w wr):=dD<|Out.grew_of bs Wm r.out
   have d2:Xo (∀j,a+1<=j->j<8->(k.set a (O q 8 s))[j]? =Xa (eS)):=dD<|fun j az bp=>by rw[sN Wm];exact c5 j Wm bp
   go_wp2
   go_roundg (8 -(a+1));exact⟨a+1,_,_,Wm,Wm,Gn,cx,db,dd,av,d6,d1,d2⟩;omega
 have b8:¬(a:Int)<8:=Wm
 have:a=8:=Wm
 subst this;have ck:Xo (Qw 0 (w.heap.size+3) wr k cl):=dD<|by rw[<-ap.out,<-znx af.out];exact au.out
 have m:=dD au.len
 go_wp2_with (first | refine qt rfl (.tmp 3) rfl (w.heap.size+2) rfl bl m.out ?_ | refine zr rfl 72 (.tmp 2) (.tmp 47) rfl (w.heap.size+1) rfl k rfl bn m zqy ck.one ?_)
 intro cm cn a8 dn;have cw:Xo (zc w cm):=dD<|zd bs a8 Sm
 have cu:=dD cn;have d8:Xo (Qw 0 w.heap.size cm k cl):=(ck.out.out (Out.grown a8 (fun F t=>by cases t;omega))).less (nR _) Wm
 clear cn a8 dn;go_wp2;refine bodyPost_ret (zX rfl _ rfl cu underlying72 rfl (Rx m.out zqy)) rfl ⟨k,rfl,d8,cw⟩
end
end Go.Proofs.YtjjdljjhmcegdaaGreat
