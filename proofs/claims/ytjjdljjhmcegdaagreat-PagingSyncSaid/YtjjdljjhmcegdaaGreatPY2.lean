import Derived.Test.YtjjdljjhmcegdaaGreatPY1
import Derived.Deep.DeepCutAuto
import Derived.Shelf.Bits.Mul64
namespace Go.Proofs.YtjjdljjhmcegdaaGreat
open Go.Value renaming slice→O,int→Xe,bool→Xh,agg→Xi,pointer→Xj,tuple→Xm
open Go.IntKind renaming i64→Xf,u8→Xg
open Go.Obj renaming cells→Xk
open Go.Ending renaming returned→Xl
open Go renaming World→Xn,Calls→Xp,Value→Xq
open Go.RowKit renaming Hid→Xo
open Option renaming some→Xa,none→Xb
open Bool renaming true→Xc,false→Xd
open List renaming replicate→Xr
open _root_.List renaming getElem?_mapIdx→Xs,length_set→Xu,ext_getElem?→Xw,getElem?_append_left→Xx,take_of_length_le→Xy,map_nil→Xz,length_take→Ya,countP_le_length→Yb,flatMap_append→Yd,any_eq_true→Ye,take→Yf,drop→Yg,map_toArray→Yh,getElem?_map→Yi,length_cons→Yj,mem_map→Yl,take_append_drop→Ym,length_drop→Yn,getElem?_of_mem→Yo,mem_append→Yp,mem_range→Ys,take_zero→Yt,mem_of_find?_eq_some→Yu,length→Yv,cons_append→Yw,reverse_append→Yz,mem_map_of_mem→Ob,find?_eq_none→Oc,pairwise_cons→Od,mem_singleton→Oe,reverse_cons→Og,take_add_one→Oh,range→Oj
open Go.Sem renaming run_bind→Xt,run_pure→Xv
open _root_.Nat renaming mul_le_mul_right→Yc,lt_of_lt_of_le→Yk,min_eq_left→Yq,add_mul→Yy
open _root_.Bool renaming eq_iff_iff→Yr,noConfusion→Yx
open _root_.Array renaming toList_modify→Oa,forIn_toList→Of,toList_push→Oi
set_option maxRecDepth 100000
set_option maxHeartbeats 4000000
variable{B B0 B1 b cl fi hi ix j:Nat} {L:List Int} {Q:Exit->Act->Xn->Prop} {T:List (Nat->En)} {V:MaV} {W w' w0 w1:Xn} {l:List Ar} {m m':Ma} {o:Oper} {ops:Array Oper} {t:TypeId} {us xs:List Xq} {vl vt:Sli} {z:Int}
open Go.Proofs.Tryz
section
open Go.RowKit
theorem zjK (d) (g:List (List Int)) (f:List (Int × List Int)) (m:Int) (p:List Int) (hp:p.length=8) (w:Xn) (ck:Qi w d g f) (bw:zi g.length f m=0) (da:f.length=400):
  Xp prog 128 #[d,I6 m,Xi (pgc p).toArray] w fun e w'=>∃ak,e= Xl (Xm #[ak,I6 (zi g.length f m)])/\z3 w.heap.size w' ak (qZ g f m) (jB g f m p)/\zc w w':=by
 obtain⟨s,t,u,x,y,z,A,B,rfl⟩:=zfr p hp;have cw:=dD ck;obtain⟨dt,dw,rfl,cj,bt⟩:=ck;have cf:=dD bt;obtain⟨ag,ai,rfl,_⟩:=cj.rows;obtain⟨ah,aj,rfl,_⟩:=bt.rows;clear cj bt hp
 show Xp prog 128 #[Xi #[O ag g.length ai,O ah f.length aj],I6 m,Xi #[U8 s,U8 t,U8 u,U8 x,U8 y,U8 z,U8 A,U8 B]] w _
 have bc:Xo (qZ g f m=if zi g.length f m=0 then qG g f else []):=rfl;have a8:Xo (jB g f m [s,t,u,x,y,z,A,B]=if zi g.length f m=0 then qp f m [s,t,u,x,y,z,A,B]else []):=rfl;obtain⟨Z,q⟩:=kB (((w.alloc (Xk #[O ag g.length ai,O ah f.length aj] 34)).alloc (Xk #[U8 s,U8 t,U8 u,U8 x,U8 y,U8 z,U8 A,U8 B] 60)).alloc (Xk #[eS,eS] 34));have k:Xo (zc w Z):=show zc w Z by rw[<-q];exact((za _ _).trans (za _ _)).trans (za _ _)
 have bj:Xo (Box Z w.heap.size [O ag g.length ai,O ah f.length aj]):=dD<|by rw[<-q];exact((Box.top w [O ag g.length ai,O ah f.length aj] _ rfl).alloc _).alloc _
 have b7:Xo (Box Z (w.heap.size+1) [U8 s,U8 t,U8 u,U8 x,U8 y,U8 z,U8 A,U8 B]):=dD<|by rw[<-q];exact(Box.top _ [U8 s,U8 t,U8 u,U8 x,U8 y,U8 z,U8 A,U8 B] _ (by simp)).alloc _
 have a9:Xo (Box Z (w.heap.size+1+1) [eS,eS]):=dD<|by rw[<-q];exact Box.top _ [eS,eS] _ (by simp)
 have K:=Jr ag g.length ai (O ah f.length aj) f m Z (cf.grew k);have a7:∀af,zc Z af->Xp prog 88 #[Xi #[O ag g.length ai,O ah f.length aj]] af fun e w'=>∃ak,e= Xl ak/\za5 af.heap.size w' ak g f/\zc af w':=fun af db=>zda _ g f af (cw.grew (k.trans db))
 obtain⟨G,be⟩:=kA (zi g.length f m);rw[be.out]at K bc a8⊢;obtain⟨X,C⟩:=kA g.length;obtain⟨nq,n⟩:=kA f.length;rw[C.out,n.out]at K q bj⊢;simp only[C.out,n.out]at a7;have bf:Xo (_=Z):=q;clear q;have dd:=be.symm.trans bw;subst dd;rw[kE rfl]at bc a8;obtain⟨ax,dv,bs,br⟩:=qf be.out;obtain⟨au,ae,ar⟩:=qY ax;obtain⟨de,dc,bx,bz,c8⟩:=info_parts zqG;rw[bc.out,a8.out];clear bs br;have an:=n.symm.trans da;subst an;obtain⟨b1,G,rfl⟩:∃b1 G,f=b1 :: G:=by
  cases f with
  | nil=>exact absurd (show _ from n.out) (by simp)
  | cons b1 G=>exact⟨b1,G,rfl⟩
 have a3:Xo (G.length=399):=dD<|by have:=n.out;simpa using this
 obtain⟨dq,cn⟩:=b1;obtain⟨N,P,Q,R,S,T,U,V,rfl⟩:=zfr cn (cf.2.1 (dq,cn) (by simp))
 obtain⟨F,a6,a5⟩:=ar _ (List.mem_cons_self);simp only at a6;subst a6;have ap:F<X:=by rw[<-C.out];exact a5
 have cl:(F:Int)< (X:Int):=by omega
 have bb:Xo (qG g (((F:Int),[N,P,Q,R,S,T,U,V]) :: G)=g.set F [N,P,Q,R,S,T,U,V]):=dD<|by unfold qG;rw[kE n.out];rfl
 have bd:Xo (qp (((F:Int),[N,P,Q,R,S,T,U,V]) :: G) m [s,t,u,x,y,z,A,B]=G++ [(m,[s,t,u,x,y,z,A,B])]):=dD<|by unfold qp;rw[kE n.out];rfl
 clear ae ar au ax a5
 go_enter func128,ntmps128
 go_wp2_with (first
  | (
   go_at_call 147;rw[bf.out];refine K.mono ?_;rintro e I ⟨rfl,a1⟩
   have j:Xo (zc Z I):=a1;have d8:=(bj.grew a1).c 0 rfl;have d9:=(bj.grew a1).c 1 rfl)
  | (
   go_at_call 88;refine(a7 I j).mono ?_;rintro e i ⟨ak,rfl,bo,ao⟩
   obtain⟨d6,dr,rfl,cc,ay⟩:=bo;obtain⟨H,c,bn⟩:∃H c,d6= O (Xa ⟨H,0,Xb⟩) X c:=by
    rcases cc.1.2 with⟨_,al⟩|⟨bl,aa,bk,al,_⟩
    ·have:=C.out;omega
    exact⟨bl,aa,by rw[al,C.out]⟩
   subst bn;obtain⟨l,b,bu⟩:∃l b,dr= O (Xa ⟨l,0,Xb⟩) 400 b:=by
    rcases ay.1.2 with⟨_,al⟩|⟨bl,aa,bk,al,_⟩
    ·simp at al
    exact⟨bl,aa,by rw[al,n.out]⟩
   subst bu;have ch:Xo (zj I.heap.size i (O (Xa ⟨H,0,Xb⟩) X c) g):=cc;have cy:Xo (zr I.heap.size i (O (Xa ⟨l,0,Xb⟩) 400 b) (((F:Int),[N,P,Q,R,S,T,U,V]) :: G)):=ay;have Y:Xo (zc I i):=ao;obtain⟨df,dg,dh,di,dj,dk,dl,dm,dn⟩:=ay.head;have dp:l<i.heap.size:=(ay.lt l rfl).2;clear cc ay a1 ao d8 d9)
  | (
   refine Zc rfl (.tmp 34) (.tmp 33) rfl I.heap.size _ g (ch.grew ((za i (Xk #[O (Xa ⟨H,0,Xb⟩) X c,O (Xa ⟨l,0,Xb⟩) 400 b] 34)).trans (za _ (Xk #[I6 (F:Int),U8 N,U8 P,U8 Q,U8 R,U8 S,U8 T,U8 U,U8 V] 69)))) H F rfl (by rw[C.out];exact ap) [N,P,Q,R,S,T,U,V] rfl _ rfl (by simp) rfl ?_
   intro b5 az D _;have cx:=cy.grew ((za i (Xk #[O (Xa ⟨H,0,Xb⟩) X c,O (Xa ⟨l,0,Xb⟩) 400 b] 34)).trans (za _ (Xk #[I6 (F:Int),U8 N,U8 P,U8 Q,U8 R,U8 S,U8 T,U8 U,U8 V] 69)));have bh:=ch.grew ((za i (Xk #[O (Xa ⟨H,0,Xb⟩) X c,O (Xa ⟨l,0,Xb⟩) 400 b] 34)).trans (za _ (Xk #[I6 (F:Int),U8 N,U8 P,U8 Q,U8 R,U8 S,U8 T,U8 U,U8 V] 69)));have cd:=(zx.top i [O (Xa ⟨H,0,Xb⟩) X c,O (Xa ⟨l,0,Xb⟩) 400 b] 34 rfl).grew (za _ (Xk #[I6 (F:Int),U8 N,U8 P,U8 Q,U8 R,U8 S,U8 T,U8 U,U8 V] 69));have bp:=bh.lt H rfl;have b4:=dD<|cx.beside bh D;have cz:=dD az;have b2:=dD<|cd.beside D (bh.ne cd);have d2:Xo (Box b5 (w.heap.size+1+1) [eS,eS]):=((((a9.grew j).grew Y).grew (za i _)).grew (za _ _)).beside D (fun a0 r=>by cases r;have W:=(a9.grew j).lt;omega)
   have cp:Xo (Box b5 (w.heap.size+1) [U8 s,U8 t,U8 u,U8 x,U8 y,U8 z,U8 A,U8 B]):=((((b7.grew j).grew Y).grew (za i _)).grew (za _ _)).beside D (fun a0 r=>by cases r;have W:=(b7.grew j).lt;omega)
   have cr:Xo (zc w b5):=zT (((k.trans j).trans Y).trans ((za _ _).trans (za _ _))) D (fun a0 r=>by cases r;have W:=bS (k.trans j);omega)
   have b8:=b2.box.c 0 rfl;have b9:=b2.box.c 1 rfl;clear az D df dg dh di dj dk dl dm dn dp bp)
  | (
   go_at_call 148
   have L:=zg7 I.heap.size l b ((F:Int),[N,P,Q,R,S,T,U,V]) G b5 (by rw[a3.out];exact b4) (by rw[a3.out];decide) (by rw[a3.out];decide)
   rw[a3.out]at L;refine L.mono ?_;rintro e a4 ⟨rfl,b0,E⟩;have bq:=b4.lt l rfl;have bg:=dD b0;have ci:=dD<|cz.beside b4 E;have a2:=dD<|b2.beside E (b4.ne b2);have d3:Xo (Box a4 (w.heap.size+1+1) [eS,eS]):=d2.beside E (fun a0 r=>by cases r;have W:=(a9.grew j).lt;omega)
   have ba:Xo (Box a4 (w.heap.size+1) [U8 s,U8 t,U8 u,U8 x,U8 y,U8 z,U8 A,U8 B]):=cp.beside E (fun a0 r=>by cases r;have W:=(b7.grew j).lt;omega)
   have cs:Xo (zc w a4):=zT cr E (fun a0 r=>by cases r;have W:=bS (k.trans j);omega)
   clear L b0 E b8 b9 bq;have b8:=a2.box.c 0 rfl;have b9:=a2.box.c 1 rfl;have co:=a2.box.f;have ad:w.heap.size+1≠i.heap.size:=by have:=((b7.grew j).grew Y).lt;omega
   have c9:w.heap.size+1<a4.heap.size:=ba.lt;have ca:i.heap.size<a4.heap.size:=a2.box.lt;obtain⟨u0,u1,u2,u3,u4,u5,u6⟩:=ba.c7;have u7:=ba.c 7 rfl)
  | (
   at_builtin
   have ac:=za (a4.setCell ⟨i.heap.size,1,Xb⟩ (O (Xa ⟨l,0,Xb⟩) 399 b)) (Xk #[I6 m,U8 s,U8 t,U8 u,U8 x,U8 y,U8 z,U8 A,U8 B] 69);have am:=(bg.setOther (a:=⟨i.heap.size,1,Xb⟩) (bg.ne a2) (O (Xa ⟨l,0,Xb⟩) 399 b)).grew ac;have d0:=(ci.setOther (a:=⟨i.heap.size,1,Xb⟩) (ci.ne a2) (O (Xa ⟨l,0,Xb⟩) 399 b)).grew ac;have ce:=(a2.set 1 (O (Xa ⟨l,0,Xb⟩) 399 b)).grew ac;have d4:=(d3.other (a:=⟨i.heap.size,1,Xb⟩) (by have:=((a9.grew j).grew Y).lt;show w.heap.size+1+1≠i.heap.size;omega) (O (Xa ⟨l,0,Xb⟩) 399 b)).grew ac
   have ct:=(show zc w (a4.setCell ⟨i.heap.size,1,Xb⟩ (O (Xa ⟨l,0,Xb⟩) 399 b))from zy cs (by have:=bS ((k.trans j).trans Y);exact this) _).trans ac
   refine wpList_append_own _ rfl (.tmp 40) (.tmp 44) 32 rfl I.heap.size 69 de _ 9 16 underlying32 dc bx bz c8 rfl (by decide) _ _ _ rfl am.1 ⟨a4.heap.size,0,Xb⟩ 1 1 (ptc (m,[s,t,u,x,y,z,A,B])) rfl rfl (Zf.top _ (ptc (m,[s,t,u,x,y,z,A,B])) _ (by simp)) (zc5 _) (qB (by rw[a3.out];decide)) (by rw[a3.out];decide) (by have bm:=bS Y.out;have W:=bS ac;have du:=a2.box.lt;simp at W⊢;omega) ?_
   intro ds b6 M h _;have cg:Xo (zr I.heap.size b6 ds (G++ [(m,[s,t,u,x,y,z,A,B])])):=zr.snoc M bg.2.1 rfl (by rw[a3.out];decide)
   have d1:=dD<|d0.beside am h;have b3:Xo (zx b6 i.heap.size 34 [O (Xa ⟨H,0,Xb⟩) X c,O (Xa ⟨l,0,Xb⟩) 399 b]):=ce.beside h (am.ne ce);have bi:Xo (Box b6 (w.heap.size+1+1) [eS,eS]):=d4.beside h (fun a0 r=>by have bm:=(am.lt a0 r).1;have W:=(a9.grew j).lt;omega)
   have cu:Xo (zc w b6):=zT ct h (fun a0 r=>by have bm:=(am.lt a0 r).1;have W:=bS (k.trans j);omega)
   obtain⟨d5,d7,aw⟩:=cg.form;rw[lA,a3.out,List.length_singleton]at aw;subst aw;clear b8 b9 co;have b8:=b3.box.c 0 rfl;have b9:=b3.box.c 1 rfl;have co:=b3.box.f;have dx:=bi.c 0 rfl;have dy:=bi.c 1 rfl;have dz:=bi.f;have cm:w.heap.size+1+1≠i.heap.size:=by have:=((a9.grew j).grew Y).lt;omega
   clear ac M h u0 u1 u2 u3 u4 u5 u6 u7 c9 ca ad))
 refine bodyPost_ret (v:= Xm #[Xi #[O (Xa ⟨H,0,Xb⟩) X c,O d5 400 d7],I6 0]) (by simp[results,Tryz.results128,go_sem, *]) rfl ⟨_,rfl,?_,?_⟩
 ·rw[bb.out,bd.out];exact zms d1 cg b3 (a9.grew j).lt (bS (k.trans j))
 have bm:=bS (k.trans j);have W:=bS Y.out;iterate 3 (refine zy ?_ (by simp;omega) _)
 exact cu.out
theorem zf2 (d) (b:List (List Int)) (a:List (Int × List Int)) (m:Int) (p:List Int) (hp:p.length=8) (w:Xn) (f:Qi w d b a):
  Xp prog 128 #[d,I6 m,Xi (pgc p).toArray] w fun e w'=>∃c,e= Xl (Xm #[c,I6 (zi b.length a m)])/\z3 w.heap.size w' c (qZ b a m) (jB b a m p)/\zc w w':=by
 by_cases c:zi b.length a m=0
 ·by_cases g:a.length=400
  ·exact zjK d b a m p hp w f c g
  exact zk7 d b a m p hp w f c g
 exact zk8 d b a m p hp w f c
def ZJ (m:Int) (j:Nat):Bool:=bits BinOp.and IntKind.i64 (m / 2 ^(j % 60)) 1 == 1
theorem zkL (m:Int) (B:Nat) (j:Nat) (b:j<=400) (w:Xn) (a:w.cell? ⟨B,0,Xb⟩=Xa (I6 m)):
  Xp prog 64 #[I6 (j:Int),Xj (Xa ⟨B,0,Xb⟩)] w fun e w'=>e= Xl (Xh (ZJ m j))/\zc w w':=by
 have H:Xo (ZJ m j=(bits BinOp.and IntKind.i64 (m / 2 ^(j % 60)) 1 == 1)):=rfl
 go_enter func64,ntmps64
 go_wp2;go_ret;rw[H.out];exact⟨rfl,zc.refl _⟩
theorem zgf (m:Int) (B:Nat) (w:Xn) (a:w.cell? ⟨B,0,Xb⟩=Xa (I6 m)):ziN 64 #[Xj (Xa ⟨B,0,Xb⟩)] (ZJ m) w:=fun W j b c=>
 zkL m B j c W ((Below.cell b (World.block_lt_of_cell? _ _ a)).trans a)
theorem zmG (d) (f:List (List Int)) (b:List (Int × List Int)) (m:Int) (w:Xn) (c:Qi w d f b):
  Xp prog 35 #[d,I6 m] w fun e w'=>∃a,e= Xl (Xm #[a,I6 (zB f.length b)])/\z3 w.heap.size w' a (jX (ZJ m) f b) []/\zc w w':=by
 have k:=dD c;obtain⟨a,q,rfl,a,g⟩:=c;obtain⟨c,i,rfl,_⟩:=a.rows;obtain⟨h,l,rfl,_⟩:=g.rows;clear a g;obtain⟨j,a⟩:=kB (((w.alloc (Xk #[O c f.length i,O h b.length l] 34)).alloc (Xk #[I6 m] 3)).alloc (Xk #[eS,eS] 34));have g:Xo (zc w j):=show zc w j by rw[<-a];exact((za _ _).trans (za _ _)).trans (za _ _)
 have h:Box j (w.heap.size+1) [I6 m]:=by rw[<-a];exact(Box.top _ [I6 m] _ (by simp)).alloc _
 have i:Box j (w.heap.size+1+1) [eS,eS]:=by rw[<-a];exact Box.top _ [eS,eS] _ (by simp)
 have c:=zek (ZJ m) 64 #[Xj (Xa ⟨w.heap.size+1,0,Xb⟩)] (enters_of func64 (by kernel_rfl) rfl) _ f b j (k.grew g) (zgf m (w.heap.size+1) j (h.c 0 rfl))
 have k:=dD i;obtain⟨l,h⟩:=kA f.length;obtain⟨nq,i⟩:=kA b.length;obtain⟨r,n⟩:=kA (zB l b);rw[h.out,i.out,n.out]at c;rw[h.out,i.out]at a;have l:=dD a;clear a;rw[h.out,i.out,n.out]
 go_enter func35,ntmps35
 go_wp2_with (
  go_at_call 57;rw[l.out]
  refine c.mono ?_;rintro e i ⟨n,rfl,c,h⟩;have a:Box i (w.heap.size+1+1) [eS,eS]:=k.grew h;have l:=a.c 0 rfl;have l:=a.c 1 rfl;have l:=a.f 0;have l:=a.f 1;have l:Xo (z3 j.heap.size i n (jX (ZJ m) f b) []):=c;have j:=dD (g.trans h);obtain⟨h,h,rfl,h,i,_⟩:=c;obtain⟨c,q,rfl,_⟩:=h.rows;obtain⟨n,s,rfl,_⟩:=i.rows;clear h i a)
 refine bodyPost_ret (v:= Xm #[Xi #[.slice c (jX (ZJ m) f b).length q,O n 0 s],I6 r]) (by simp[results,Tryz.results35,go_sem, *]) rfl ⟨_,rfl,?_,?_⟩
 ·have:=k.lt;exact((l.setCell (by simpa using this) _).setCell (by simpa using this) _).base (bS g)
 exact Below.setCell (Below.setCell j (p:=⟨w.heap.size+1+1,0,Xb⟩) (by simp;omega) _) (p:=⟨w.heap.size+1+1,1,Xb⟩) (by simp;omega) _
theorem al1:JO 3=0:=by decide
theorem al2:zk1 3=[zz,zz,zz]:=by decide
theorem al3:zi [zz,zz,zz].length [] 1=0:=by decide
theorem al4:qZ [zz,zz,zz] [] 1=[zz,zz,zz]:=by decide
theorem zcO {n:Nat} {b:List (Int × List Int)} (d:n<=80) (c:b.length<=400) (a:∀q∈b,∃i:Nat,q.1=(i:Int)/\i<n):zB n b=0:=by
 unfold zB;rw[kF (by omega),kF (by omega),kF]
 intro h;obtain⟨q,c,d⟩:=Ye.1 h;obtain⟨i,e,b⟩:=a q c
 simp[jE,e,b]at d
theorem zhD {n:Nat} {a:List (Int × List Int)} {m:Int} (h:zB n a=0) {i:Nat} (b:m=(i:Int)) (hi:i<n):zi n a m=0:=by
 unfold zi;rw[kE h,kE]
 simp[jE,b,hi]
theorem ZK {n:Nat} {a:List (Int × List Int)} (h:zB n a=0) (m:Int):zi n a m=if jE m n then 0 else 3:=by
 unfold zi;rw[kE h]
theorem Qq (a:List (List Int)) (b:List (Int × List Int)):(qG a b).length=a.length:=by
 unfold qG
 split <;> simp
theorem Qv {b:List (List Int)} {a:List (Int × List Int)} {m:Int} {p:List Int} (h:zi b.length a m=0):zB (qG b a).length (qp a m p)=0:=by
 obtain⟨a,i,c,b⟩:=qf h;obtain⟨e,d,d⟩:=qY a;rw[Qq];refine zcO e ?_ fun q a=>?_
 ·unfold qp
  split
  ·simp;omega
  simp;omega
 unfold qp at a
 rcases Yp.1 a with a|a
 ·split at a
  ·exact d q (List.mem_of_mem_tail a)
  exact d q a
 simp at a
 subst a;exact⟨i,c,b⟩
def zbi:Option (Int × List Int)->List Int->List Int
 | some q,_=>q.2
 | none,d=>d
theorem QX {b:List (List Int)} {a:List (Int × List Int)} {m:Int} (h:zi b.length a m=0):qj b a m=zbi (a.reverse.find? (fun q=>q.1 == m)) (b.getD m.toNat zz):=by
 unfold qj;rw[kE h]
 cases a.reverse.find? (fun q=>q.1 == m) <;> rfl
theorem zeb {b:List (List Int)} {a:List (Int × List Int)} {m:Int} {p:List Int} (h:zi b.length a m=0):zi (qG b a).length (qp a m p) m=0/\qj (qG b a) (qp a m p) m=p:=by
 have f:=Qv (p:=p) h;obtain⟨_,i,d,c⟩:=qf h;have e:zi (qG b a).length (qp a m p) m=0:=zhD f d (by rw[Qq];exact c)
 refine⟨e,?_⟩;rw[QX e]
 simp[qp,zbi]
theorem zcQ {b:List (List Int)} {a:List (Int × List Int)} {m:Int} {p:List Int} (h:zi b.length a m=0) (o:Int):zi (qG b a).length (qp a m p) o=zi b.length a o:=by
 rw[ZK (Qv h),ZK (qf h).1,Qq]
theorem Js {g:List (List Int)} {a:List (Int × List Int)} {m:Int} {p:List Int} (k:zi g.length a m=0) {o:Int} (t:¬o=m):qj (qG g a) (qp a m p) o=qj g a o:=by
 have l:=zcQ (p:=p) k o
 by_cases f:zi g.length a o=0
 ·rw[QX f,QX (l.trans f)];have d:(m == o)=Xd:=by simpa using fun r=>t (Eq.symm r)
  unfold qp qG
  by_cases c:a.length=400
  ·rw[kE c,kE c]
   cases a with
   | nil=>simp at c
   | cons h u=>
    obtain⟨_,w,e,s⟩:=qf f;obtain⟨x,b,i⟩:=(qY (qf k).1).2.2 h (by simp)
    simp only[List.tail_cons,List.headD_cons,Yz,Og,List.reverse_nil,List.nil_append,Yw,List.find?_cons,d,List.find?_append]
    cases v:u.reverse.find? (fun q=>q.1 == o)with
    | some q=>rfl
    | none=>
     simp only[Option.none_or]
     cases n:(h.1 == o)with
     | true=>
      have:h.1=o:=by simpa using n
      subst this;simp only[b,tN,zbi]
      simp[i]
     | false=>
      have:h.1≠o:=by simpa using n
      simp only[List.find?_nil,zbi];rw[gD,gD,sN];rw[b,e]at this;rw[b,e];simp only[tN];omega
  rw[kF c,kF c]
  simp[d]
 have j:¬zi (qG g a).length (qp a m p) o=0:=by rw[l];exact f
 unfold qj;rw[kF f,kF j]
theorem QV (a) (n c:Nat) (Q) (h:List (Int × List Int)) (w) (y:jU w Q h):
  Xp prog 51 #[Xi #[O a n c,Q]] w fun e w'=>e= Xl (I6 (zB n h))/\zc w w':=by
 have d:Xo (zB n h=if 80<n then 4 else if 400<h.length then 4 else if h.any (fun q=>!jE q.1 n)then 3 else 0):=rfl
 have u:h.length<=9223372036854775807:=by have:=y.2.2;omega
 obtain⟨U,V,rfl,l⟩:=y.rows;have C:=dD l;clear y l;obtain⟨i,A⟩:=kA h.length;rw[A.out]at d u⊢
 by_cases M:80<n
 ·have E:(80:Int)< (n:Int):=by omega
  rw[kE M]at d
  go_enter func51,ntmps51
  go_wp2;go_ret;exact⟨by rw[d.out];rfl,za _ _⟩
 have E:¬(80:Int)< (n:Int):=by omega
 rw[kF M]at d
 by_cases N:400<i
 ·have F:(400:Int)< (i:Int):=by omega
  rw[kE N]at d
  go_enter func51,ntmps51
  go_wp2;go_ret;exact⟨by rw[d.out];rfl,za _ _⟩
 have F:¬(400:Int)< (i:Int):=by omega
 rw[kF N]at d;obtain⟨S,k⟩:=kB (w.alloc (Xk #[O a n c,O U i V] 34));have j:=gA k
 have T:=xA k
 have D:=dD k;clear k
 go_enter func51,ntmps51
 go_wp2;rw[D.out]
 go_loopg [4,18] i (fun W _ K wr=>∃g:Nat,g<=i/\i - g<=W/\K=I6 g/\Xo (zc S wr)/\Xo (∀(m:Nat) q,m<g->h[m]? =Xa q->jE q.1 n=Xc))
 case atStart=>exact⟨0,nZ _,by omega,rfl,zc.refl _,fun m q v=>absurd v (nL _)⟩
 obtain⟨g,Z,ai,rfl,t,L⟩:=hrel
 by_cases r:g<i
 ·have x:=kC r
  obtain⟨q,B⟩:∃q,Xo (h[g]? =Xa q):=⟨_,gE (by rw[A.out];exact r)⟩
  obtain⟨aj,z,a0,a1,a3,a4,a5,a6,a7,a8,rfl,rfl,P⟩:=C.out g q B.out;obtain⟨a9,aa,ab,ac,ad,ae,af,ag,ah⟩:=P wr (j.trans t);have X:=T.grew t.out;have ak:=X.c 0 rfl;have al:=X.lt;clear P
  by_cases f:jE z n=Xc
  ·have p:=f;unfold jE at p
   simp at p
   have G:¬z<0:=by omega
   have H:¬(n:Int)<=z:=by omega
   have R:=dD f;clear f p;go_wp2
   go_roundg (i -(g+1))
   case measure=>omega
   refine⟨g+1,by omega,by omega,by go_num,t.trans (za _ _),(show Xo _ from fun m I v s=>?_)⟩
   by_cases e:m=g
   ·subst e;rw[B.out]at s;cases s;exact R.out
   exact L m I (by omega) s
  have b:(h.any fun q=>!jE q.1 n)=Xc:=Ye.2 ⟨_,mG B,by simpa using f⟩
  rw[kE b]at d;unfold jE at f
  simp at f
  clear b
  by_cases G:z<0
  ·clear f;go_wp2;go_ret;exact⟨by rw[d.out];rfl,(j.trans t).trans (za _ _)⟩
  have H:(n:Int)<=z:=f (by omega)
  clear f;go_wp2;go_ret;exact⟨by rw[d.out];rfl,(j.trans t).trans (za _ _)⟩
 have x:=kD r
 have:g=i:=by omega
 subst this;have b:¬(h.any fun q=>!jE q.1 n)=Xc:=fun Y=>by
  obtain⟨q,y,f⟩:=Ye.1 Y;obtain⟨m,v⟩:=Yo y;have:=L.out m q (by rw[<-A.out];exact(gS.1 v).1) v
  rw[this]at f
  simp at f
 rw[kF b]at d;clear b;go_wp2;go_ret;exact⟨by rw[d.out];rfl,j.trans t⟩
theorem zgu {r:List (Int × List Int)} {q:Int × List Int} {m:Int} {d:List Int}:zbi ((r++ [q]).reverse.find? (fun q=>q.1 == m)) d=if q.1 == m then q.2 else zbi (r.reverse.find? (fun q=>q.1 == m)) d:=by
 rw[Yz];simp only[Og,List.reverse_nil,List.nil_append,Yw,List.find?_cons]
 cases a:(q.1 == m) <;> simp[zbi]
theorem zhT (d) (g:List (List Int)) (c:List (Int × List Int)) (m:Int) (w) (I:Qi w d g c) (j:¬zi g.length c m=0):
  Xp prog 39 #[d,I6 m] w fun e w'=>e= Xl (Xm #[Xi (pgc zz).toArray,I6 (zi g.length c m)])/\zc w w':=by
 obtain⟨a1,a4,rfl,H,A⟩:=I;have K:=dD A;obtain⟨C,E,rfl,_⟩:=H.rows;obtain⟨D,F,rfl,_⟩:=A.rows;clear H A;have b:Xo (zi g.length c m=if zB g.length c=0 then(if jE m g.length then 0 else 3)else zB g.length c):=rfl;obtain⟨M,f⟩:=kB ((w.alloc (Xk #[O C g.length E,O D c.length F] 34)).alloc (Xk #[U8 0,U8 0,U8 0,U8 0,U8 0,U8 0,U8 0,U8 0] 60));have k:=gD2 f
 have z:=x2a f
 have B:=x2b f
 have a:=QV C g.length E (O D c.length F) c M (K.grew k);obtain⟨r,L⟩:=kA (zB g.length c);rw[L.out]at a b;obtain⟨t,q⟩:=kA g.length;obtain⟨a3,y⟩:=kA c.length;rw[q.out]at b j;rw[q.out,y.out]at a f z⊢;have s:=dD f;clear f;have h:(Xo (zi t c m=r)/\(r != 0)=Xc)\/(Xo (zi t c m=3)/\(r != 0)=Xd/\Xo (r=0)/\m<0)\/(Xo (zi t c m=3)/\(r != 0)=Xd/\Xo (r=0)/\¬m<0/\(t:Int)<=m):=by
  by_cases p:r=0
  ·subst p;rw[kE rfl]at b;have i:¬jE m t=Xc:=fun e=>by rw[b.out,kE e]at j;exact j rfl
   rw[kF i]at b;unfold jE at i
   simp at i
   by_cases x:m<0
   ·exact .inr (.inl ⟨b,rfl,rfl,x⟩)
   exact .inr (.inr ⟨b,rfl,rfl,x,i (by omega)⟩)
  rw[kF p]at b;exact .inl ⟨b,by simpa using p⟩
 clear j
 rcases h with⟨u,p⟩|⟨u,p,G,x⟩|⟨u,p,G,x,a2⟩
 ·rw[u.out]
  go_enter func39,ntmps39
  go_wp2_with (
   go_at_call 51;rw[s.out];refine a.mono ?_;clear a;rintro e N ⟨rfl,n⟩
   have X:=(z.grew n).c 0 rfl;have Y:=B.grew n;obtain⟨P,Q,R,S,T,U,V,W⟩:=Y.c8;have Z:=Y.f)
  refine bodyPost_ret (v:= Xm #[Xi #[U8 0,U8 0,U8 0,U8 0,U8 0,U8 0,U8 0,U8 0],I6 r]) (by simp[results,Tryz.results39,go_sem, *]) rfl ⟨rfl,?_⟩
  have l:=k.trans n;iterate 8 (refine zy ?_ (by simp) _)
  exact l
 all_goals
  rw[u.out];have a0:=G.out;subst a0
  go_enter func39,ntmps39
  go_wp2_with (
   go_at_call 51;rw[s.out];refine a.mono ?_;clear a;rintro e N ⟨rfl,n⟩
   have X:=(z.grew n).c 0 rfl;have Y:=B.grew n;obtain⟨P,Q,R,S,T,U,V,W⟩:=Y.c8;have Z:=Y.f)
  refine bodyPost_ret (v:= Xm #[Xi #[U8 0,U8 0,U8 0,U8 0,U8 0,U8 0,U8 0,U8 0],I6 3]) (by simp[results,Tryz.results39,go_sem, *]) rfl ⟨rfl,?_⟩
  have l:=k.trans n;iterate 8 (refine zy ?_ (by simp) _)
  exact l
theorem zjV (d) (j:List (List Int)) (b:List (Int × List Int)) (i:Nat) (w) (ca:Qi w d j b) (B:zi j.length b (i:Int)=0):
  Xp prog 39 #[d,I6 (i:Int)] w fun e w'=>e= Xl (Xm #[Xi (pgc (qj j b (i:Int))).toArray,I6 0])/\zc w w':=by
 obtain⟨I,ct,aj,ai⟩:=qf B;have bm:i<j.length:=by omega
 have l:=QX B;simp only[tN]at l;obtain⟨cm,q,rfl,bl,ac⟩:=ca;have bt:=dD ac;have W:b.length<=9223372036854775807:=by have:=ac.2.2;omega
 obtain⟨cl,ba,rfl,Y⟩:=bl.rows;obtain⟨b9,bb,rfl,Z⟩:=ac.rows;have af:=dD Z;obtain⟨an,A⟩:∃an,j[i]? =Xa an:=⟨_,gE bm⟩;obtain⟨bq,E,F,G,H,K,L,M,N,am,rfl,m⟩:=Y i an A;subst am;have S:=dD m;rw[show j.getD i zz=[E,F,G,H,K,L,M,N]from by rw[gD,A];rfl]at l
 have bs:=dD l
 clear bl ac Y Z m A l;obtain⟨ah,f⟩:=kB ((w.alloc (Xk #[O (Xa bq) j.length ba,O b9 b.length bb] 34)).alloc (Xk #[U8 0,U8 0,U8 0,U8 0,U8 0,U8 0,U8 0,U8 0] 60));have n:=gD2 f
 have aa:=x2a f
 have ap:=x2b f
 have c:=QV (Xa bq) j.length ba (O b9 b.length bb) b ah (bt.grew n);rw[I]at c;obtain⟨bp,P⟩:=kA j.length;obtain⟨C,k⟩:=kA b.length;rw[P.out]at bm;rw[k.out]at W;rw[P.out,k.out]at c f aa⊢;have ag:Xo (_=ah):=f;have c9:¬(i:Int)<0:=by omega
 have cp:¬(bp:Int)<=(i:Int):=by omega
 have cr:(i:Int)< (bp:Int):=by omega
 clear f I aj ai B
 go_enter func39,ntmps39
 go_wp2_with (
  go_at_call 51;rw[ag.out];refine c.mono ?_;clear c;rintro e U ⟨rfl,V⟩
  have ae:Xo (zc ah U):=V;have bv:=(aa.grew V).c 0 rfl;have bw:=(aa.grew V).c 1 rfl;have bx:=(aa.grew V).lt;obtain⟨bc,bd,be,bf,bg,bh,bi,bj⟩:=S.out U (n.trans V))
 have bu:Xo (∀(ad:Nat) q,b[ad]? =Xa q->b.take (ad+1)=b.take ad++ [q]):=dD<|fun ad q c8=>by
  obtain⟨h,rfl⟩:=gS.1 c8;exact List.take_succ_eq_append_getElem h
 clear bv bw bx bc bd be bf bg bh bi bj
 go_loopg [9,34] C (fun bz _ ao wr=>∃(a:Nat) (p r s t u x y z:Int),a<=C/\C - a<=bz/\ao=I6 a/\Xo (zc w wr)/\Xo (Box wr U.heap.size [U8 p,U8 r,U8 s,U8 t,U8 u,U8 x,U8 y,U8 z])/\Xo (Box wr (w.heap.size+1) [U8 0,U8 0,U8 0,U8 0,U8 0,U8 0,U8 0,U8 0])/\Xo (zbi ((b.take a).reverse.find? (fun q=>q.1 ==(i:Int))) [E,F,G,H,K,L,M,N]=[p,r,s,t,u,x,y,z]))
 case atStart=>exact⟨0,E,F,G,H,K,L,M,N,nZ _,by omega,rfl,(n.trans ae).trans (za _ _),Box.top U [U8 E,U8 F,U8 G,U8 H,U8 K,U8 L,U8 M,U8 N] _ rfl,(ap.grew ae).alloc _,rfl⟩
 obtain⟨a,p,r,s,t,u,x,y,z,cc,cs,rfl,a9,D,a8,Q⟩:=hrel;have bk:w.heap.size+2<=U.heap.size:=by have co:=bS ae.out;have c9:=ap.lt;omega
 by_cases h:a<C
 ·have X:=kC h
  obtain⟨q,R⟩:∃q,Xo (b[a]? =Xa q):=⟨_,gE (by rw[k.out];exact h)⟩
  obtain⟨de,bo,ar,au,av,aw,ax,ay,az,b8,rfl,rfl,bn⟩:=af.out a q R.out;obtain⟨bc,bd,be,bf,bg,bh,bi,bj,cn⟩:=bn wr a9.out;have T:=bu.out a _ R.out;clear bn
  by_cases ak:bo=(i:Int)
  ·subst ak;obtain⟨cd,ce,cf,cg,ch,ci,cj,ck⟩:=D.c8;have cu:=D.f;have cv:=D.lt;have g:Xo (zbi ((b.take (a+1)).reverse.find? (fun q=>q.1 ==(i:Int))) [E,F,G,H,K,L,M,N]=[ar,au,av,aw,ax,ay,az,b8]):=dD<|by rw[T,zgu];simp
   go_wp2
   go_roundg (C -(a+1))
   case measure=>omega
   refine⟨a+1,ar,au,av,aw,ax,ay,az,b8,by omega,by omega,by go_num,?_,?_,?_,g⟩
   ·show zc _ _
    refine zc.trans ?_ (za _ _);iterate 8 (refine zy ?_ (by simp;omega) _)
    exact a9.out
   ·exact((((((((D.set 0 _).set 1 _).set 2 _).set 3 _).set 4 _).set 5 _).set 6 _).set 7 _).alloc _
   show Box _ _ _
   refine Box.alloc ?_ _;iterate 8 (refine Box.other ?_ (by simp;omega) _)
   exact a8.out
  have al:(bo ==(i:Int))=Xd:=by simpa using ak
  have g:Xo (zbi ((b.take (a+1)).reverse.find? (fun q=>q.1 ==(i:Int))) [E,F,G,H,K,L,M,N]=[p,r,s,t,u,x,y,z]):=dD<|by rw[T,zgu];simp only[al];exact Q.out
  clear ak;go_wp2
  go_roundg (C -(a+1))
  case measure=>omega
  exact⟨a+1,p,r,s,t,u,x,y,z,by omega,by omega,by go_num,a9.trans (za _ _),D.alloc _,a8.alloc _,g⟩
 have X:=kD h
 have:a=C:=by omega
 subst this;obtain⟨cd,ce,cf,cg,ch,ci,cj,ck⟩:=D.c8;obtain⟨cw,cx,cy,cz,d9,da,db,dc⟩:=a8.c8;have dd:=a8.f;have br:Xo (qj j b (i:Int)=[p,r,s,t,u,x,y,z]):=dD<|by rw[bs.out,<-Q.out,Xy (by rw[k.out];exact nR _)]
 go_wp2;refine bodyPost_ret (v:= Xm #[Xi #[U8 p,U8 r,U8 s,U8 t,U8 u,U8 x,U8 y,U8 z],I6 0]) (by simp[results,Tryz.results39,go_sem, *]) rfl ⟨by rw[br.out];rfl,?_⟩
 iterate 8 (refine zy ?_ (by simp) _)
 exact a9.out
theorem zhU (d) (a:List (List Int)) (b:List (Int × List Int)) (m:Int) (w) (f:Qi w d a b):
  Xp prog 39 #[d,I6 m] w fun e w'=>e= Xl (Xm #[Xi (pgc (qj a b m)).toArray,I6 (zi a.length b m)])/\zc w w':=by
 by_cases c:zi a.length b m=0
 ·obtain⟨_,i,rfl,_⟩:=qf c;rw[c];exact zjV d a b i w f c
 rw[show qj a b m=zz from kF c]
 exact zhT d a b m w f c
def Qo (p:List Int) (idx size:Int) (k:Nat):List Int:=p.mapIdx fun i z=>if i<k/\size<=8*idx+(i:Int)then 0 else z
theorem zkK (p) (b a:Int):Qo p b a 0=p:=by
 unfold Qo
 apply Xw
 intro i;rw[Xs]
 cases p[i]? <;> simp
theorem zg9 (p:List Int) (b a:Int) (k:Nat):(Qo p b a k).length=p.length:=by unfold Qo;simp
theorem zhb {p:List Int} {b a:Int} {k:Nat} (h:p.length<=k):Qo p b a k=Zb p b a:=by
 unfold Qo Zb
 apply Xw
 intro i;rw[Xs,Xs]
 cases a:p[i]? with
 | none=>rfl
 | some z=>
  have:=(gS.1 a).1;have a:i<k:=by omega
  simp[a]
theorem zha {p:List Int} {b a:Int} {k:Nat} (c:k<p.length) (h:a<=8*b+(k:Int)):(Qo p b a k).set k 0=Qo p b a (k+1):=by
 unfold Qo
 apply Xw
 intro i
 by_cases e:i=k
 ·subst e;rw[sF (by simpa using c),Xs,gE c]
  simp[h]
 rw[sN (fun h=>e h.symm),Xs,Xs]
 cases p[i]? with
 | none=>rfl
 | some z=>
  have:i<k↔i<k+1:=by omega
  simp[this]
theorem zmD {p:List Int} {b a:Int} {k:Nat} (h:¬a<=8*b+(k:Int)):Qo p b a k=Qo p b a (k+1):=by
 unfold Qo
 apply Xw
 intro i;rw[Xs,Xs]
 cases p[i]? with
 | none=>rfl
 | some z=>
  by_cases e:i=k
  ·subst e
   simp[h]
  have:i<k↔i<k+1:=by omega
  simp[this]
theorem zlv {a:List (List Int)} {c:List (Int × List Int)} {b:Int} (d:∀p∈a,p.length=8) (e:∀q∈c,q.2.length=8):(qj a c b).length=8:=by
 unfold qj
 split
 ·cases h:c.reverse.find? (fun q=>q.1 == b)with
  | some q=>exact e q (by have:=Yu h;simpa using this)
  | none=>
   simp only;rw[gD]
   cases c:a[b.toNat]? with
   | none=>rfl
   | some p=>exact d p (mG c)
 rfl
theorem zdM (V) (m:Ma) (fi ix:Nat) (f:Fl) (n:Int) (w) (t:zN w V m) (b0:∀c∈m.ca,JQ fi ix c=Xc->0<=c.fr/\c.fr<m.fs.length) (bd:m.fl[fi]? =Xa f) (A:f.bl[ix]? =Xa n) (dr:ix<=1000):
  Xp prog 33 #[Xi (mL V m).toArray,I6 (fi:Int),I6 (ix:Int)] w fun e w'=>e= Xl (Xi (pgc (qn m fi ix)).toArray)/\(qn m fi ix).length=8/\zc w w':=by
 have ap:Xo (∀W,zc w W->Xp prog 39 #[Xi #[V.db.x,V.dq.x],I6 n] W fun e w'=>e= Xl (Xm #[Xi (pgc (qj m.db m.dq n)).toArray,I6 (zi m.db.length m.dq n)])/\zc W w'):=dD<|fun W cm=>zhU _ m.db m.dq n W ⟨_,_,rfl,(t.grew cm).db,(t.grew cm).dq⟩
 have aq:Xo ((qj m.db m.dq n).length=8):=zlv t.db.2.1 t.dq.2.1;obtain⟨⟨bb,aw,bw⟩,ch,ac,af,aa,ab,⟨bx,q,S⟩,⟨x,a,Q⟩,ae⟩:=V;dsimp only[mL]at ap⊢;obtain⟨cc,-,-,-,-,-,cd,ce,-⟩:=t.ns;dsimp only at cc cd ce;have bj:Xo (zjI w bb m.fs):=t.frs;have bg:Xo (zhw w x m.ca):=t.cas;have am:=dD cc.symm;have an:=dD ce.symm;have dk:a<=9223372036854775807:=by have:=t.ca.short;omega
 obtain⟨_,_,Y,_,b2⟩:=z5.rows t.fl;have bi:Xo (zbL w bx m.fl):=dD<|by
  simp only[vJ]at Y;rw[Y.1];exact b2
 have bm:=dD b0;have dm:fi<q:=by rw[cd];exact(gS.1 bd).1
 obtain⟨bv,rfl,dc,e4,az,b1⟩:=bi.out fi f bd;have H:=dD b1;obtain⟨_,_,U,ay⟩:=az.nums;have c6:=(gS.1 A).1;obtain⟨au,F,d⟩:=ay ix n A;have be:Xo (dc=Xa au/\∀W,zc w W->W.cell? (au.add ix)=Xa (I6 n)):=show _/\_ from⟨by simp only[vJ]at U;rw[U.1];exact F,d⟩
 obtain⟨dd,bf⟩:=kA f.bl.length;rw[bf.out]at c6 H;have D:Xo (∀c,m.ca.find? (JQ fi ix)=Xa c->qn m fi ix=pgL (zW m c.fr).p):=dD<|fun c s=>by unfold qn;rw[s]
 have E:Xo (m.ca.find? (JQ fi ix)=Xb->qn m fi ix=if n<0 then zz else Zb (qj m.db m.dq n) ix f.size):=dD<|fun s=>by
  have co:m.fl.getD ((fi:Int).toNat) ⟨0,[]⟩=f:=by rw[tN,gD,bd];rfl
  have dh:zcK m fi ix=n:=by unfold zcK;rw[co,tN,gD,A];rfl
  have di:ZG m fi=f.size:=by unfold ZG;rw[co]
  unfold qn;rw[s];simp only[dh,di]
 obtain⟨aj,C⟩:=kA (qn m fi ix);rw[C.out]at D E⊢;clear t cc cd ce Y b2 b0 bd A b1 az U ay F d;have dn:(fi:Int)< (q:Int):=by omega
 have dl:(ix:Int)< (dd:Int):=by omega
 obtain⟨bt,r⟩:=kB ((w.alloc (Xk #[O bb aw bw,I6 m.hand,ch.x,ac.x,af.x,aa.x,ab.x,O (Xa bv) q S,I6 m.cnt,O x a Q,ae.x] 41)).alloc (Xk #[U8 0,U8 0,U8 0,U8 0,U8 0,U8 0,U8 0,U8 0] 60));have h:=gD2 r
 have ag:=x2a r
 have b9:Xo (Box bt (w.heap.size+1) (pgc zz)):=dD<|by rw[<-r];exact Box.top _ (pgc zz) _ (by simp)
 have bq:Xo (_=bt):=r;clear r
 go_enter func33,ntmps33
 go_upto_region 1 with fail;rw[bq.out];have e3:=ag.c 9 rfl;go_wp2;clear e3
 go_loopg [16] a (fun bz cf wr=>∃g:Nat,g<=a/\a - g<=bz/\cf=I6 g/\Xo (zc bt wr)/\Xo (∀(j:Nat) c,j<g->m.ca[j]? =Xa c->JQ fi ix c=Xd))
 case atStart=>exact⟨0,nZ _,by omega,rfl,zc.refl _,fun j c I=>absurd I (nL _)⟩
 obtain⟨g,ds,dq,rfl,p,br⟩:=hrel
 by_cases a0:g<a
 ·have b5:=kC a0
  obtain⟨c,C⟩:∃c,Xo (m.ca[g]? =Xa c):=⟨_,gE (by rw[an.out];exact a0)⟩
  obtain⟨da,rfl,b4⟩:=bg.out g c C.out;obtain⟨av,R,ck⟩:=b4 wr (h.trans p);clear b4;go_upto_region 4 with fail;obtain⟨cv,y⟩:=kB (wr.alloc (Xk #[I6 c.file,I6 c.idx,I6 c.fr] 93));have k:=gT y p
  have cr:=xA y
  rw[y];clear y av R ck;obtain⟨e5,e6,df⟩:=cr.c3;have ao:Xo (JQ fi ix c=Xd->∀(j:Nat) c,j<g+1->m.ca[j]? =Xa c->JQ fi ix c=Xd):=dD<|fun dj j de I X=>by
   by_cases e:j=g
   ·subst e;rw[C.out]at X;cases X;exact dj
   exact br j de (by omega) X
  by_cases T:c.file=(fi:Int)
  ·have c3:(c.file ==(fi:Int))=Xc:=by simp[T]
   by_cases ah:c.idx=(ix:Int)
   ·have c4:(c.idx ==(ix:Int))=Xc:=by simp[ah]
    have al:Xo (JQ fi ix c=Xc):=dD<|by simp[JQ,T,ah]
    have bh:Xo (m.ca.find? (JQ fi ix)=Xa c):=dD<|by
     rw[List.find?_eq_some_iff_getElem];refine⟨al,g,(gS.1 C).1,(gS.1 C).2,fun j I=>?_⟩
     have:=br.out j _ I (gE (by have:=(gS.1 C).1;omega))
     simp[this]
    obtain⟨dv,dw⟩:=bm.out c (mG C) al.out;obtain⟨ai,c9⟩:∃ai:Nat,c.fr=(ai:Int):=⟨c.fr.toNat,by omega⟩
    have ca:ai<aw:=by rw[<-am.out];omega
    have dt:(ai:Int)< (aw:Int):=by omega
    obtain⟨b8,ci⟩:∃b8,Xo (m.fs[ai]? =Xa b8):=⟨_,gE (by rw[am.out];exact ca)⟩
    have b:Xo (aj=pgL b8.p):=dD<|by
     rw[D.out c bh.out,c9];unfold zW;rw[tN,gD,ci.out];rfl
    rw[c9]at df;clear T ah dv dw c9;go_upto_region 5 with fail;obtain⟨db,b7,b4⟩:=bj.out ai b8 ci.out;obtain⟨av,R,ck,e7,e8,e9,ea,eb,-⟩:=b4 cv (h.trans k);have dx:=(ag.grew k).c 0 rfl;rw[b7]at dx;have cz:=dD (b9.grew k);clear b4 b7
    go_wp2_with (refine zF rfl 60 (.tmp 6) (.tmp 37) rfl (w.heap.size+1) rfl (pgc (pgL b8.p)) rfl cz rfl zqY (Z8 _) ?_)
    intro N d Z _;have l:Xo (zc w N):=dD<|zd (h.trans k) Z (by omega)
    go_wp2;refine bodyPost_ret (zX rfl _ rfl d underlying60 rfl zqY) rfl ⟨by rw[b.out],by rw[b.out];rfl,l⟩
   have c4:(c.idx ==(ix:Int))=Xd:=by simp[ah]
   have M:Xo (∀(j:Nat) c,j<g+1->m.ca[j]? =Xa c->JQ fi ix c=Xd):=ao.out (by simp[JQ,ah])
   clear T ah;go_wp2
   go_roundg (a -(g+1))
   case measure=>omega
   exact⟨g+1,by omega,by omega,by go_num,k,M⟩
  have c3:(c.file ==(fi:Int))=Xd:=by simp[T]
  have M:Xo (∀(j:Nat) c,j<g+1->m.ca[j]? =Xa c->JQ fi ix c=Xd):=ao.out (by simp[JQ,T])
  clear T;go_wp2
  go_roundg (a -(g+1))
  case measure=>omega
  exact⟨g+1,by omega,by omega,by go_num,k,M⟩
 have b5:=kD a0
 have b3:g=a:=by omega
 have bo:Xo (m.ca.find? (JQ fi ix)=Xb):=dD<|by
  rw[Oc];intro c s;obtain⟨j,I⟩:=Yo s;have:=br.out j c (by rw[b3,<-an.out];exact(gS.1 I).1) I
  simp[this]
 have b:=dD<|E.out bo.out;clear b3;go_upto_region 7 with fail;have cp:=(ag.grew p).c 7 rfl;obtain⟨av,R⟩:=H.out wr (h.trans p);obtain⟨ax,d⟩:=be.out;rw[ax]at R;have dg:=d wr (h.trans p);clear ax d av;have d9:=dD (b9.grew p)
 by_cases cn:n<0
 ·rw[kE cn]at b
  go_wp2_with (refine zF rfl 60 (.tmp 6) (.tmp 51) rfl (w.heap.size+1) rfl (pgc zz) rfl d9 rfl zqY (Z8 _) ?_)
  intro N d Z _;have l:Xo (zc w N):=dD<|zd (h.trans p) Z (by omega)
  go_wp2;refine bodyPost_ret (zX rfl _ rfl d underlying60 rfl zqY) rfl ⟨by rw[b.out],by rw[b.out];rfl,l⟩
 rw[kF cn]at b;have dy:=(ag.grew p).c 5 rfl;have dz:=(ag.grew p).c 6 rfl;have b6:=ap.out wr (h.trans p);go_wp2_with fail;refine b6.mono ?_;clear b6 dy dz cp R dg;rintro e N ⟨rfl,cl⟩;obtain⟨du,ct⟩:=kA (qj m.db m.dq n);rw[ct.out]at b aq⊢;have l:=dD (p.trans cl);clear cl;obtain⟨a2,a3,a4,a5,a6,a7,a8,a9,rfl⟩:=zfr du aq.out;simp only[pgc,mP,Xz];go_upto_region 11 with fail;obtain⟨cw,z⟩:=kB (N.alloc (Xk #[U8 a2,U8 a3,U8 a4,U8 a5,U8 a6,U8 a7,U8 a8,U8 a9] 60));have L:=gT z l
 have cj:Xo (Box cw N.heap.size (pgc (Qo [a2,a3,a4,a5,a6,a7,a8,a9] ix f.size 0))):=dD<|by rw[<-z,zkK];exact Box.top _ (pgc [a2,a3,a4,a5,a6,a7,a8,a9]) _ rfl
 have v:=dD<|(b9.grew l).lt
 rw[z];clear z;obtain⟨B,bp⟩:=kA N.heap.size;rw[bp.out]at cj v⊢;go_wp2
 go_loopg [59] 8 (fun bz cg wr=>∃i:Nat,i<=8/\8 - i<=bz/\cg=I6 i/\Xo (zc w wr)/\Xo (Box wr w.heap.size [O bb aw bw,I6 m.hand,ch.x,ac.x,af.x,aa.x,ab.x,O (Xa bv) q S,I6 m.cnt,O x a Q,ae.x])/\Xo (Box wr (w.heap.size+1) (pgc zz))/\Xo (Box wr B (pgc (Qo [a2,a3,a4,a5,a6,a7,a8,a9] ix f.size i))))
 case atStart=>exact⟨0,nZ _,by omega,rfl,h.trans L,ag.grew L,b9.grew L,cj⟩
 obtain⟨i,ec,dp,rfl,u,bu,P,ar⟩:=hrel
 by_cases G:i<8
 ·have a1:(i:Int)<8:=by omega
  obtain⟨av,R⟩:=H.out wr u.out;have cp:=bu.c 7 rfl;clear R;obtain⟨cq,cb⟩:∃cq,(Qo [a2,a3,a4,a5,a6,a7,a8,a9] ix f.size i)[i]? =Xa cq:=⟨_,gE (by rw[zg9];exact G)⟩
  have ed:=ar.c i (zeo cb);have ee:=ar.f
  by_cases s:f.size<=8*(ix:Int)+(i:Int)
  ·have c7:decide (f.size<=8*(ix:Int)+(i:Int))=Xc:=by simpa using s
   have bs:Xo (Box (wr.setCell ⟨B,i,Xb⟩ (U8 0)) B (pgc (Qo [a2,a3,a4,a5,a6,a7,a8,a9] ix f.size (i+1)))):=dD<|by rw[<-zha (by exact G) s,zc6];exact ar.set i _
   have cy:Xo (Box (wr.setCell ⟨B,i,Xb⟩ (U8 0)) w.heap.size [O bb aw bw,I6 m.hand,ch.x,ac.x,af.x,aa.x,ab.x,O (Xa bv) q S,I6 m.cnt,O x a Q,ae.x]):=dD<|bu.other (by have:=v.out;simp;omega) _
   have d8:Xo (Box (wr.setCell ⟨B,i,Xb⟩ (U8 0)) (w.heap.size+1) (pgc zz)):=dD<|P.other (by have:=v.out;simp;omega) _
   have cs:Xo (zc w (wr.setCell ⟨B,i,Xb⟩ (U8 0))):=dD<|zy u (by have:=v.out;simp;omega) _
   clear cb;go_wp2
   go_roundg (8 -(i+1))
   case measure=>omega
   exact⟨i+1,by omega,by omega,by go_num,cs,cy,d8,bs⟩
  have c7:decide (f.size<=8*(ix:Int)+(i:Int))=Xd:=by simpa using s
  have bs:Xo (Box wr B (pgc (Qo [a2,a3,a4,a5,a6,a7,a8,a9] ix f.size (i+1)))):=dD<|by rw[<-zmD s];exact ar.out
  clear cb;go_wp2
  go_roundg (8 -(i+1))
  case measure=>omega
  exact⟨i+1,by omega,by omega,by go_num,u,bu,P,bs⟩
 have a1:¬(i:Int)<8:=by omega
 have:i=8:=by omega
 subst this;have cu:Xo (Box wr B (pgc aj)):=dD<|by
  have:=ar.out;rw[zhb (by exact nR 8),<-b.out]at this
  exact this
 have ak:Xo (aj.length=8):=dD<|by rw[b.out];unfold Zb;simp
 have K:Xo ((pgc aj).length=8):=dD<|by rw[Z9];exact ak.out
 go_wp2_with (first | (refine zO rfl 60 (.tmp 10) rfl B rfl cu underlying60 rfl (by rw[K.out];exact zqY) ?_) | (refine zF rfl 60 (.tmp 6) (.tmp 77) rfl (w.heap.size+1) rfl (pgc aj) rfl P (by rw[K.out];rfl) zqY (Z8 _) ?_))
 intro cx c5 c8 _;have bl:Xo (zc w cx):=dD<|zd u c8 (by omega)
 go_wp2;refine bodyPost_ret (zX rfl _ rfl c5 underlying60 rfl (by rw[K.out];exact zqY)) rfl ⟨rfl,ak,bl⟩
theorem zD.own {g:Nat} {a b c:Xn} (h:zD hi a b) (e:b.grownBy c (Xa g)) (d:a.heap.size<=g):zD hi a c:=⟨fun p t f d i=>(h.1 p t f d i).beside e (fun k f=>by cases f;have:=d.box.lt;omega),nT h.2 e.size⟩
theorem zR {α:Type} {k:Nat} {s:α}:∀{S:List (Nat × α)},S.lookup k=Xa s->(k,s)∈S
 | [],h=>by simp at h
 | (p,a) :: S,h=>by
  by_cases b:k=p
  ·subst b
   simp at h
   subst h;simp
  have c:(k == p)=Xd:=by simpa using b
  rw[List.lookup_cons,c]at h;exact List.mem_cons_of_mem _ (zR h)
theorem ze8 {α:Type} {p:α->Bool}:∀{l:List α} {k:Nat},(∀(j:Nat) x,j<k->l[j]? =Xa x->p x=Xc)->(∀x,l[k]? =Xa x->p x=Xd)->k<=l.length->l.takeWhile p=l.take k/\l.dropWhile p=l.drop k
 | [],0,_,_,_=>⟨rfl,rfl⟩
 | [],k+1,_,_,h=>by simp at h
 | x :: l,0,_,h,_=>by
  have:=h x rfl
  simp[this]
 | x :: l,k+1,b,e,f=>by
  have g:=b 0 x (Nat.zero_lt_succ _) rfl;obtain⟨c,d⟩:=ze8 (l:=l) (k:=k) (fun j y a a=>b (j+1) y (by omega) (by simpa using a)) (fun y a=>e y (by simpa using a)) (by simpa using f)
  simp[g,c,d]
theorem zqZ:(Tryz.prog.info? 93).map (·.size)=Xa 3:=by kernel_rfl
theorem zcX (w):(Go.sizeOf 93).run prog w= .ok 3 w:=by
 obtain⟨a,c,d⟩:∃a,Tryz.prog.info? 93=Xa a/\a.size=3:=by
  have:=zqZ
  cases b:Tryz.prog.info? 93 with
  | none=>rw[b]at this;cases this
  | some a=>rw[b]at this;exact⟨a,rfl,by simpa using this⟩
 simp[Go.sizeOf,typeInfo,c,d]
theorem zi1 {w:Xn} {a:Option Addr} {n c k:Nat} (b:k<=c):(Instr.sliceAt 38 (O a n c) Xb (Xa (I6 (k:Int))) Xb).run prog w= .ok (O a k c) w:=by
 have b:(0:Int)<=(k:Int)/\(k:Int)<=(c:Int):=by omega
 simp only[Instr.sliceAt,Instr.slice,Instr.sliceBounds,Instr.sliceBound,asIntOf,Xt,Xv,rA,run_underlying underlying38];rw[kE b];simp only[Xv,rA,zcX,tN]
 cases a with
 | none=>simp
 | some b=>by_cases b:c=0 <;> simp[b,Addr.add]
theorem zi4 {w:Xn} {a:Option Addr} {n c k:Nat} (b:k<=n):(Instr.sliceAt 38 (O a n c) (Xa (I6 (k:Int))) Xb Xb).run prog w= .ok (O (a.map fun ad=>if c=k then ad else ad.add (k*3)) (n - k) (c - k)) w:=by
 have b:(0:Int)<=(k:Int)/\(k:Int)<=(n:Int):=by omega
 simp only[Instr.sliceAt,Instr.slice,Instr.sliceBounds,Instr.sliceBound,asIntOf,Xt,Xv,rA,run_underlying underlying38];rw[kE b];simp only[Xv,rA,zcX,tN]
 cases a with
 | none=>simp
 | some ad=>by_cases b:c=k <;> simp[b]
theorem zq.upto {w:Xn} {a:Option Addr} {n c k:Nat} {l:List Ca} (h:zq qS w (O a n c) l) (b:k<=n):zq qS w (O a k c) (l.take k):=by
 have b:=h.n;obtain⟨⟨b,b,b,d,f⟩,g⟩:=h;cases b;refine⟨⟨a,c,by rw[Ya,Yq (by omega)],fun e=>by rw[d e];simp,fun d e=>?_⟩,?_⟩
 ·intro j u b;refine f d e j u ?_;have d:l.flatMap qS.enc=(l.take k).flatMap qS.enc++(l.drop k).flatMap qS.enc:=by rw[<-Yd,Ym]
  rw[d,Xx (gS.1 b).1];exact b
 refine nT (Yc _ ?_) g;rw[Ya];omega
theorem zq.from {w:Xn} {a:Option Addr} {n c k:Nat} {l:List Ca} (h:zq qS w (O a n c) l) (d:k<=n) (b:n<=c):zq qS w (O (a.map fun ad=>if c=k then ad else ad.add (k*3)) (n - k) (c - k)) (l.drop k):=by
 have b:=h.n;obtain⟨⟨b,b,b,d,g⟩,i⟩:=h;cases b;refine⟨⟨_,_,by rw[Yn],fun e=>?_,fun ad e=>?_⟩,?_⟩
 ·cases a with
  | none=>rw[d rfl];simp
  | some ad=>cases e
 ·cases a with
  | none=>cases e
  | some b=>
   simp only[Option.map_some,Option.some.injEq]at e;intro j u f
   by_cases d:c=k
   ·have:l.drop k=[]:=List.drop_eq_nil_of_le (by omega)
    rw[this]at f
    simp at f
   rw[kF d]at e;subst e;rw[zV];refine g b rfl _ u ?_;have d:l.flatMap qS.enc=(l.take k).flatMap qS.enc++(l.drop k).flatMap qS.enc:=by rw[<-Yd,Ym]
   have b:((l.take k).flatMap qS.enc).length=k*3:=by rw[jO,Ya,Yq (by omega)];rfl
   rw[d,aR (by rw[b];omega),b,show k*3+j - k*3=j by omega]
   exact f
 refine nT (Yc _ ?_) i;rw[Yn];omega
theorem zer (w:Xn) (c:Ca):zb qS w.heap.size (w.alloc (Xk #[I6 c.file,I6 c.idx,I6 c.fr] 93)) (O (Xa ⟨w.heap.size,0,Xb⟩) 1 1) [c]:=by
 refine⟨⟨rfl,.inr ⟨w.heap.size,1,#[I6 c.file,I6 c.idx,I6 c.fr],rfl,nR _,?_,nR _,qB (by omega),rfl,rfl⟩⟩,by show 1*24<=_;omega⟩
 show(w.heap.push _)[w.heap.size]? =_
 simp[qS]
theorem zx.part {w:Xn}:∀{ds cs:List Xq} {o:Nat},zx w b t cs->o+ds.length<=cs.length->zx (w.setCells b o ds) b t (splice cs o ds):=by
 have c:∀(ds cs:List Xq) (o:Nat) (w:Xn),zx w b t cs->o+ds.length<=cs.length->zx (w.setCells b o ds) b t (splice cs o ds):=fun ds=>by
  induction ds with
  | nil=>
   intro cs o w h a;have:splice cs o []=cs:=by simp[splice]
   rw[this];exact h
  | cons d ds g=>
   intro cs o w h a;simp only[Yj]at a;have f:=h.set o d;have e:=g (cs.set o d) (o+1) (w.setCell ⟨b,o,Xb⟩ d) f (by simp;omega)
   have f:splice (cs.set o d) (o+1) ds=splice cs o (d :: ds):=by
    unfold splice;rw[List.take_set,List.drop_set,kE (by omega),Oh,gE (by omega)]
    simp only[Yj,Option.toList_some];rw[List.set_append_right _ _ (by simp;omega),show o+1+ds.length=o+(ds.length+1) by omega]
    simp[Ya,Yq (show o<=cs.length by omega)]
   rw[f]at e;exact e
 exact fun{ds cs o} h a=>c ds cs o w h a
theorem z9 {rest:List Oper} {a:Act} {w:Xn} (c:o.guard=Xb) (e p x) (i:o.op= .store e p x) (b:Nat) (hp:a.eval p= Xj (Xa ⟨b,0,Xb⟩)) (vs:List Xq) (j:a.eval x= Xi vs.toArray)
  {cs:List Xq} {t:TypeId} (f:zx w b t cs) (d:vs.length=cs.length) (hi:(Tryz.prog.info? e).map (·.size)=Xa cs.length) (g:∀v∈vs,v.oneCell'=Xc)
  (h:∀w',zx w' b t vs->w.grownBy w' (Xa b)->w'.heap.size=w.heap.size->wpList prog ops Q rest (a.put o.dst undef) w'):wpList prog ops Q (o :: rest) a w:=by
 refine wpList_store_mid c e p x i b 0 vs.toArray hp j ?_ ?_ (all_oneCell_toArray g) ?_
 ·simpa [d]using f.box.there
 ·simpa [d]using hi
 have:=f.part (ds:=vs) (o:=0) (by omega)
 rw[zau d]at this;exact h _ this (zS b vs 0 w).1 (zS b vs 0 w).2
theorem MkE.trans {w:Xn} {c:List Int} {V':MaV} {a:Sli} {d:List (Nat->En)} (e:za7 L c) (f:zD hi w w1) (h:MkE w0 hi b w1 c V' m' a d w'):MkE w0 hi b w L V' m' a d w':=by
 obtain⟨a,c,d,g,i⟩:=h;exact⟨a,c,d,e.trans g,f.trans i⟩
theorem Mk.page {w:Xn} {c:Nat} {cs:List Xq} (h:Mk w0 hi w b vl L V m vt T) (hp:zx w c 60 cs) (f:hi<=c) (a:w.grownBy w' (Xa c)):Mk w0 hi w' b vl L V m vt T:=by
 have d:b≠c:=fun e=>by
  subst e;have c:w.heap[b]? =_:=h.box;rw[show w.heap[b]? =_ from hp]at c
  cases c
 exact⟨zd h.gr a (nT h.rows.bh f),h.hb,h.box.beside a (fun k e=>by cases e;exact d),h.lr,h.lc,h.lb,h.rows.var a hp a.size (.inr ⟨rfl,f⟩)⟩
theorem zjf {a:Nat} (h:hi<=a):Loc hi a 60:=⟨by decide,by decide,by decide,by decide,by decide,by decide,by decide,by decide,fun _=>h⟩
theorem MkR.setCa {base:Nat} {w:Xn} (h:MkR base hi w V m vt T) {s:Sli} {ca:List Ca} (a:zb qS base w (s.x) ca):MkR base hi w { V with ca:=s } { m with ca:=ca } vt T:=⟨h.hw,h.bh,h.fs,h.sl,h.slh,h.sb,h.sbh,h.sq,h.db,h.dbh,h.dq,h.fl,a,h.sp,h.tt,h.ap⟩
def zqC (w0:Xn) (hi b:Nat) (w:Xn) (L:List Int) (V:MaV) (m:Ma) (vt:Sli) (T:List (Nat->En)) (fi ix j:Nat) (w':Xn):Prop:=∃(q:Fr) (p:Pg) (u d:Bool) (s:Sli),m.fs[j]? =Xa q/\q.r=0/\(∀c∈m.ca,¬(c.file=(fi:Int)/\c.idx=(ix:Int)))/\MkE w0 hi b w L { V with ca:=s } { m with fs:=m.fs.set j ⟨p,1,u,d,fi,ix⟩,ca:=Qb m.ca ⟨fi,ix,j⟩ } vt T w'
def zpJ (m:Ma) (fi ix:Nat) (q:List Int) (d:Bool):Prop:=Zb q (ix:Int) (ZG m (fi:Int))=q/\(d=Xd->Zh m (fi:Int) (ix:Int)=q)
def zm7 (q:List Int) (ix:Nat) (size:Int) (i:Nat):Prop:=∀j,j<i->size<=8*(ix:Int)+(j:Int)->q[j]? =Xa 0
theorem zm7.set {q:List Int} {a:Int} {i:Nat} (h:zm7 q ix a i) (hi:i<q.length):zm7 (q.set i 0) ix a (i+1):=fun j a a=>by
 by_cases e:j=i
 ·subst e;exact sF hi
 rw[sN (fun h=>e h.symm)]
 exact h j (by omega) a
theorem zm7.next {q:List Int} {a:Int} {i:Nat} (h:zm7 q ix a i) (c:¬a<=8*(ix:Int)+(i:Int)):zm7 q ix a (i+1):=fun j d b=>by
 by_cases e:j=i
 ·subst e;exact absurd b c
 exact h j (by omega) b
theorem zm7.all {q:List Int} {a:Int} (h:zm7 q ix a 8) (b:q.length=8):Zb q (ix:Int) a=q:=by
 unfold Zb;refine Xw fun i=>?_
 rw[Xs]
 cases a:q[i]? with
 | none=>rfl
 | some z=>
  have b:=(gS.1 a).1;simp only[Option.map_some,Option.some.injEq]
  split
  ·rename_i b
   have:=h i (by omega) b
   rw[a]at this;exact(Option.some.inj this).symm
  rfl
theorem zoo (p) (b a:Int):Zb (Zb p b a) b a=Zb p b a:=by
 unfold Zb;refine Xw fun i=>?_
 rw[Xs,Xs]
 cases p[i]? with
 | none=>rfl
 | some z=>
  simp only[Option.map_some,Option.some.injEq]
  split <;> rfl
theorem zl6 (a:∀c∈m.ca,¬(c.file=(fi:Int)/\c.idx=(ix:Int))):zpJ m fi ix (qn m (fi:Int) (ix:Int)) Xd:=by
 have d:m.ca.find? (JQ (fi:Int) (ix:Int))=Xb:=Oc.2 fun c b e=>a c b (by
  unfold JQ at e
  simpa using e)
 have e:qn m (fi:Int) (ix:Int)=Zh m (fi:Int) (ix:Int):=by
  unfold qn;rw[d];rfl
 rw[e];refine⟨?_,fun _=>rfl⟩
 unfold Zh
 split
 ·unfold Zb zz;simp
 exact zoo _ _ _
theorem zoX {f:Fl} (a:m.fl[fi]? =Xa f):ZG m (fi:Int)=f.size:=by
 unfold ZG;rw[tN,gD,a];rfl
theorem zkS {w:Xn} (fi ix:Nat) (f:Fl) (iq:Int) (H:Mk w0 hi w b vl L V m vt T) (eu:∀c∈m.ca,0<=c.file/\c.file<=1000/\0<=c.idx/\c.idx<=1000/\0<=c.fr/\c.fr<m.fs.length) (iu:m.fl[fi]? =Xa f) (et:f.bl[ix]? =Xa iq) (he:ix<=1000) (je:fi<=1000) (ev:m.ca.length<=1000):
  Xp prog 69 #[Xj (Xa ⟨b,0,Xb⟩),I6 (fi:Int),I6 (ix:Int)] w fun e w'=>(e= Xl (I6 (-1))/\MkE w0 hi b w L V m vt T w')\/(∃c,c∈m.ca/\c.file=(fi:Int)/\c.idx=(ix:Int)/\e= Xl (I6 c.fr)/\MkE w0 hi b w L V m vt T w')\/∃j:Nat,e= Xl (I6 (j:Int))/\zqC w0 hi b w L V m vt T fi ix j w':=by
 have da:=dD H;have ec:=dD eu;have fz:=dD iu;have g9:=dD et;obtain⟨N,ce⟩:=kA V.ca.n;have a1:Xo (m.ca.length=N):=show _=_ by rw[<-ce.out,H.rows.ca.n]
 have k9:N<=1000:=by rw[<-a1.out];exact ev
 have cg:Xo (N<=V.ca.c):=dD<|by
  have:=H.rows.ca.cap;(try simp only[Sli.x]at this);rw[ce.out]at this;exact this
 obtain⟨b0,af⟩:∃U,Xo (V.ca.a=U):=⟨_,rfl⟩;have ed:Xo (∀br,(∃cc e6 hu,hu.ca=m.ca/\Mk w0 hi br b cc e6 V hu vt T)->zhw br b0 m.ca):=dD<|fun br ⟨_,_,hu,e,k⟩=>by
  have:=k.rows.at.cas;rw[e,af.out]at this;exact this
 clear H eu iu et ev
 go_enter func69,ntmps69
 have ae:=da.box.box.c 10 rfl;(try simp only[Sli.x]at ae);rw[ce.out,af.out]at ae;go_wp2;clear ae
 go_loopg [20] N (fun eq i3 wr=>∃be:Nat,be<=N/\N - be<=eq/\i3=I6 be/\Xo (zc w wr)/\Xo (∀(j:Nat) c,j<be->m.ca[j]? =Xa c->¬(c.file=(fi:Int)/\c.idx=(ix:Int))))
 case atStart=>exact⟨0,nZ _,by omega,rfl,zc.refl _,fun j c ak=>absurd ak (nL _)⟩
 obtain⟨be,jl,jh,rfl,fy,ik⟩:=hrel
 by_cases e0:be<N
 ·have fb:=kC e0
  obtain⟨c,cu⟩:∃c,Xo (m.ca[be]? =Xa c):=⟨_,gE (by rw[a1.out];exact e0)⟩
  obtain⟨az,rfl,f8⟩:=ed.out wr ⟨vl,L,m,rfl,da.grew fy⟩ be c cu.out;obtain⟨g2,gz,h3⟩:=f8 wr (zc.refl _);clear f8;go_upto_region 4 with fail;obtain⟨gt,co⟩:=kB (wr.alloc (Xk #[I6 c.file,I6 c.idx,I6 c.fr] 93));have ch:=gT co fy
  have iz:=xA co
  rw[co];clear co g2 gz h3;obtain⟨k6,k7,k8⟩:=iz.c3;have ef:Xo (¬(c.file=(fi:Int)/\c.idx=(ix:Int))->∀(j:Nat) c,j<be+1->m.ca[j]? =Xa c->¬(c.file=(fi:Int)/\c.idx=(ix:Int))):=dD<|fun b5 j ab ak b8=>by
   by_cases e:j=be
   ·subst e;rw[cu.out]at b8;cases b8;exact b5
   exact ik j ab (by omega) b8
  by_cases dp:c.file=(fi:Int)
  ·have h9:(c.file ==(fi:Int))=Xc:=by simp[dp]
   by_cases e9:c.idx=(ix:Int)
   ·have ha:(c.idx ==(ix:Int))=Xc:=by simp[e9]
    have ic:Xo (c.file=(fi:Int)/\c.idx=(ix:Int)):=dD<|⟨dp,e9⟩
    clear dp e9;go_wp2;go_ret;exact .inr (.inl ⟨c,mG cu,ic.1,ic.2,rfl,vl,L,da.grew ch,za7.refl L,zD.grew ch⟩)
   have ha:(c.idx ==(ix:Int))=Xd:=by simp[e9]
   have dj:=dD<|ef.out (fun H=>e9 H.2)
   clear dp e9;go_wp2
   go_roundg (N -(be+1))
   case measure=>omega
   exact⟨be+1,by omega,by omega,by go_num,ch,dj⟩
  have h9:(c.file ==(fi:Int))=Xd:=by simp[dp]
  have dj:=dD<|ef.out (fun H=>dp H.1)
  clear dp;go_wp2
  go_roundg (N -(be+1))
  case measure=>omega
  exact⟨be+1,by omega,by omega,by go_num,ch,dj⟩
 have fb:=kD e0
 have f7:be=N:=by omega
 have de:Xo (∀c∈m.ca,¬(c.file=(fi:Int)/\c.idx=(ix:Int))):=dD<|fun c du=>by
  obtain⟨j,ak⟩:=Yo du;exact ik j c (by rw[f7,<-a1.out];exact(gS.1 ak).1) ak
 clear f7;have ij:=dD (da.grew fy);have X:=ij.box.box;have jo:=X.c 1 rfl;have jp:=X.c 2 rfl;have jq:=X.c 3 rfl;have jr:=X.c 4 rfl;have js:=X.c 5 rfl;have jt:=X.c 6 rfl;have ju:=X.c 7 rfl;have g4:=X.c 8 rfl;have jv:=X.c 9 rfl;have ae:=X.c 10 rfl;have ia:=X.c 11 rfl;clear X;have ew:=zdM V m fi ix f iq wr ij.rows.at (fun c du _=>(ec c du).2.2.2.2) fz g9 he
 go_wp2_with fail;refine ew.mono ?_;clear ew jo jp jq jr js jt ju g4 jv ae ia;rintro e gt ⟨rfl,dz,ir⟩;have g8:=dD (fy.trans ir);clear ir;have dw:=zl6 de.out
 generalize qn m fi ix=r at dz dw
 obtain⟨an,ao,ap,aq,ar,au,av,aw,rfl⟩:=zfr r dz;have ga:=dD dw
 clear dz dw;simp only[pgc,mP,Xz];go_upto_region 8 with fail;obtain⟨Z,cj⟩:=kA gt.heap.size;obtain⟨ip,cp⟩:=kB (gt.alloc (Xk #[U8 an,U8 ao,U8 ap,U8 aq,U8 ar,U8 au,U8 av,U8 aw] 60));have ib:=gT cp g8
 have j8:Xo (zx ip Z 60 (pgc [an,ao,ap,aq,ar,au,av,aw])):=dD<|by rw[<-cp];exact zx.top _ (pgc [an,ao,ap,aq,ar,au,av,aw]) _ cj.symm
 have ci:Xo (hi<=Z):=dD<|by rw[<-cj.out];exact(da.grew g8).rows.hw
 have dh:Xo (w.heap.size<=Z):=dD<|by rw[<-cj.out];exact bS g8.out
 have d5:Xo (b≠Z):=dD<|by have:=da.box.box.lt;have:=dh.out;omega
 have ii:=dD (da.grew ib);have j1:Xo (zD hi w ip):=zD.grew ib.out;rw[cp,cj.out];clear cp;have fe:=qz 2 ii.out;go_wp2_with fail;refine fe.mono ?_;clear fe;rintro e jb ⟨i7,j5,z,rfl,fl,dm,i5,jx,jy,yn,iv⟩;have gk:=dD fl;have ig:=dD (j1.trans (ii.keeps dm));have il:Xo (zx jb Z 60 (pgc [an,ao,ap,aq,ar,au,av,aw])):=j8.beside dm (fun a0 e=>by cases e;exact fun H=>d5.out H.symm)
 have eh:=dD iv;clear fl dm i5 jx jy yn iv
 go_upto_if 46 with fail
 go_cut [10,11] (fun i1 jn i9=>∃(bs:Bool) (r:List Int) (cc:Sli) (e6:List Int),i1= Xh bs/\Xo (Mk w0 hi i9 b cc e6 V m vt T)/\Xo (zx i9 Z 60 (pgc r))/\Xo (r.length=8)/\Xo (zD hi w i9)/\Xo (za7 L e6)/\Xo (zpJ m fi ix r bs))
 case first=>
  by_cases g3:z=1
  ·have hh:(z == 1)=Xc:=by simp[g3]
   clear g3;have fd:=zcC gk.out;go_wp2_with fail;refine fd.mono ?_;clear fd;rintro e jc ⟨fw,ih,iw,rfl,ft,fm,dn,fj⟩;have j6:=dD fm;have j2:=dD (ig.trans (gk.keeps dn));have im:Xo (zx jc Z 60 (pgc [an,ao,ap,aq,ar,au,av,aw])):=il.beside dn (fun a0 e=>by cases e;exact fun H=>d5.out H.symm)
   have gj:=dD (eh.trans fj);have io:=dD ft;clear fm dn fj ft
   go_wp2_with (refine z9 rfl 60 (.tmp 9) (.tmp 48) rfl Z rfl (pgc iw) rfl im (by simp[pgc,io.out]) zqY (Z8 _) ?_)
   intro jz es dv _;have j7:=dD<|j6.page im ci dv;have j3:=dD<|j2.own dv dh.out;have j9:=dD es;clear es dv;go_wp2
   go_loopg [49] 8 (fun eq i4 wr=>∃(K:Nat) (r:List Int),K<=8/\8 - K<=eq/\i4=I6 K/\Xo (Mk w0 hi wr b fw ih V m vt T)/\Xo (zx wr Z 60 (pgc r))/\Xo (r.length=8)/\Xo (zD hi w wr)/\Xo (zm7 r ix f.size K))
   case atStart=>exact⟨0,iw,nZ _,by omega,rfl,j7,j9,io,j3,fun j ak=>absurd ak (nL _)⟩
   obtain⟨K,r,jj,jg,rfl,bq,bf,bg,di,cx⟩:=hrel
   by_cases cw:K<8
   ·have e3:(K:Int)<8:=by omega
    obtain⟨iy,eb⟩:∃iy,r[K]? =Xa iy:=⟨_,gE (by rw[bg.out];exact cw)⟩
    have ka:=bf.box.c K (zeo eb);have kb:=bf.box.f;have f5:=bq.rows.at.fl;have g4:=bq.box.box.c 8 rfl;obtain⟨_,_,bw,_,F⟩:=z5.rows f5;have ff:zbL wr V.fl.a m.fl:=by
     simp only[vJ]at bw;rw[bw.1];exact F
    have hd:V.fl.n=m.fl.length:=by
     simp only[vJ]at bw;exact bw.2.1
    obtain⟨e8,fg,k4,k5,_,f9⟩:=ff fi f fz.out;obtain⟨g2,-⟩:=f9 wr (zc.refl _);obtain⟨h6,cv⟩:=kB V.fl.n;have jf:(fi:Int)< (h6:Int):=by
     have:=(gS.1 fz).1;omega
    (try simp only[Sli.x]at g4);rw[fg,cv]at g4;clear f5 bw F ff hd fg f9 cv eb
    by_cases du:f.size<=8*(ix:Int)+(K:Int)
    ·have hb:decide (f.size<=8*(ix:Int)+(K:Int))=Xc:=by simpa using du
     have ee:Xo (wr.grownBy (wr.setCell ⟨Z,K,Xb⟩ (U8 0)) (Xa Z)):=⟨rfl,rfl,rfl,by simp[World.setCell],fun k _ D=>Below.heap_setCell _ _ _ _ (fun e=>D (by rw[e]))⟩
     have ja:Xo (zx (wr.setCell ⟨Z,K,Xb⟩ (U8 0)) Z 60 (pgc (r.set K 0))):=dD<|by rw[zc6];exact bf.set K _
     have gm:=dD<|bq.page bf ci ee.out;have gc:=dD<|di.own ee dh.out;have g6:Xo (zm7 (r.set K 0) ix f.size (K+1)):=show zm7 _ _ _ _ from cx.set (by rw[bg.out];exact cw)
     go_wp2
     go_roundg (8 -(K+1))
     case measure=>omega
     exact⟨K+1,r.set K 0,by omega,by omega,by go_num,gm,ja,(show(r.set K 0).length=8 by rw[Xu];exact bg),gc,g6⟩
    have hb:decide (f.size<=8*(ix:Int)+(K:Int))=Xd:=by simpa using du
    have g6:=dD<|cx.next du
    go_wp2
    go_roundg (8 -(K+1))
    case measure=>omega
    exact⟨K+1,r,by omega,by omega,by go_num,bq,bf,bg,di,g6⟩
   have e3:¬(K:Int)<8:=by omega
   have jd:K=8:=by omega
   subst jd;have d8:Xo (zpJ m fi ix r Xc):=dD<|⟨by rw[zoX fz.out];exact cx.all bg,fun e=>Yx e⟩
   go_wp2
   go_meet
   exact⟨Xc,r,fw,ih,rfl,bq,bf,bg,di,gj,d8⟩
  have hh:(z == 1)=Xd:=by simp[g3]
  clear g3;go_wp2
  go_meet
  exact⟨Xd,[an,ao,ap,aq,ar,au,av,aw],i7,j5,rfl,gk,il,rfl,ig,eh,ga⟩
 obtain⟨bs,r,fv,gi,rfl,gl,gr,gs,gb,ei,d8⟩:=hcut;obtain⟨an,ao,ap,aq,ar,au,av,aw,rfl⟩:=zfr r gs.out;go_upto_region 16 with fail;obtain⟨S,it⟩:∃S:Xn->Prop,S=fun u=>zx u Z 60 (pgc [an,ao,ap,aq,ar,au,av,aw]):=⟨_,rfl⟩
 have x:Xo (∀u,S u↔zx u Z 60 (pgc [an,ao,ap,aq,ar,au,av,aw])):=dD<|fun u=>by rw[it]
 clear it;have W:=(x _).2 (gr.grew (gW _))
 have ds:MkE w0 hi b w L V m vt T wc.drew:=⟨fv,gi,gl.grew (gW _),ei.out,gb.trans (zD.grew (gW _))⟩
 have ex:∀z:zh S,z.world.cell? ⟨Z,0,Xb⟩=Xa (U8 an):=fun z=>((x _).1 z.holds).box.c 0 rfl
 have ey:∀z:zh S,z.world.cell? ⟨Z,1,Xb⟩=Xa (U8 ao):=fun z=>((x _).1 z.holds).box.c 1 rfl
 have ez:∀z:zh S,z.world.cell? ⟨Z,2,Xb⟩=Xa (U8 ap):=fun z=>((x _).1 z.holds).box.c 2 rfl
 have f0:∀z:zh S,z.world.cell? ⟨Z,3,Xb⟩=Xa (U8 aq):=fun z=>((x _).1 z.holds).box.c 3 rfl
 have f1:∀z:zh S,z.world.cell? ⟨Z,4,Xb⟩=Xa (U8 ar):=fun z=>((x _).1 z.holds).box.c 4 rfl
 have f2:∀z:zh S,z.world.cell? ⟨Z,5,Xb⟩=Xa (U8 au):=fun z=>((x _).1 z.holds).box.c 5 rfl
 have f3:∀z:zh S,z.world.cell? ⟨Z,6,Xb⟩=Xa (U8 av):=fun z=>((x _).1 z.holds).box.c 6 rfl
 have f4:∀z:zh S,z.world.cell? ⟨Z,7,Xb⟩=Xa (U8 aw):=fun z=>((x _).1 z.holds).box.c 7 rfl
 have bj:Nonempty (zh S):=⟨⟨_,W⟩⟩;refine zG (I:=S) 10 [(3,fun i=>∃aa:Int,i=I6 aa),(9,fun i=>i=I6 (-1)\/∃j:Nat,i=I6 (j:Int))] (fun u=>MkE w0 hi b w L V m vt T u) W ds zY (by kernel_rfl) rfl rfl (by decide) ?hS (by kernel_rfl) ?_
 case hS=>
  intro aa bl;simp only[mC,nM,or_false]at bl
  rcases bl with rfl|rfl
  ·exact⟨_,0,rfl⟩
  exact⟨_,.inl rfl⟩
 simp only[Yf,Yg];iterate 3 refine ze ?_
 refine zI rfl rfl (fun _ u=>MkE w0 hi b w L V m vt T u) (fun w' t dr=>?_) (fun cb a9=>?_)
 ·obtain⟨cc,e6,cs,cr,cq⟩:=dr;refine zQ.call [Xj (Xa ⟨b,0,Xb⟩),I6 2] rfl func15 rfl rfl rfl ?_;refine(qz 2 cs).mono ?_;rintro e i8 ⟨i6,j4,aa,rfl,hw,er,_,_,_,_,ht⟩;exact⟨_,rfl,(x _).2 (((x _).1 t).beside er (fun a0 e=>by cases e;exact fun H=>d5.out H.symm)),⟨aa,rfl⟩,i6,j4,hw,cr.trans ht,cq.trans (cs.keeps er)⟩
 obtain⟨aa,rfl⟩:=a9;refine Uq ?_;iterate 5 refine ze ?_
 refine zI rfl rfl (fun i u=>(i=I6 (-1)/\MkE w0 hi b w L V m vt T u)\/∃(j:Nat) (r:Fr),i=I6 (j:Int)/\m.fs[j]? =Xa r/\r.r=0/\MkE w0 hi b w L V { m with fs:=m.fs.set j ⟨⟨an,ao,ap,aq,ar,au,av,aw⟩,1,aa == 1,bs,(fi:Int),(ix:Int)⟩ } vt T u) (fun w' t dr=>?_) (fun cb a9=>?_)
 ·obtain⟨cc,e6,cs,cr,cq⟩:=dr;refine zQ.call [Xj (Xa ⟨b,0,Xb⟩),Xi (frv ⟨⟨an,ao,ap,aq,ar,au,av,aw⟩,1,aa == 1,bs,(fi:Int),(ix:Int)⟩).toArray] rfl func70 rfl rfl rfl ?_;refine(zgU ⟨⟨an,ao,ap,aq,ar,au,av,aw⟩,1,aa == 1,bs,(fi:Int),(ix:Int)⟩ cs ⟨fun e=>by have:(fi:Int)=-1:=e;omega,fun _ _=>d8.out⟩).mono ?_
  rintro e i8 (⟨rfl,dq⟩|⟨j,r,rfl,ea,cf,dq⟩)
  ·have dy:=dq;obtain⟨_,_,_,_,hs⟩:=dy;exact⟨_,rfl,(x _).2 (hs.1 Z _ _ ((x _).1 t) (zjf ci)),.inl rfl,.inl ⟨rfl,dq.trans cr cq⟩⟩
  have dy:=dq;obtain⟨_,_,_,_,hs⟩:=dy;exact⟨_,rfl,(x _).2 (hs.1 Z _ _ ((x _).1 t) (zjf ci)),.inr ⟨j,rfl⟩,.inr ⟨j,r,rfl,ea,cf,dq.trans cr cq⟩⟩
 rcases a9 with rfl|⟨j,rfl⟩
 ·refine Uq ?_;refine qe fun gu dt bt=>?_
  have j0:Xo (MkE w0 hi b w L V m vt T gu):=dD<|by
   rcases bt with⟨_,H⟩|⟨j,r,e,_⟩
   ·exact H
   simp only[Value.int.injEq,true_and]at e;omega
  clear bt dt W ds bj ex ey ez f0 f1 f2 f3 f4;go_wp2;go_ret;exact .inl ⟨rfl,j0⟩
 refine Uq ?_;refine qe fun gu dt bt=>?_
 obtain⟨r,ea,cf,bm,e7,fn,fk,fh⟩:∃r:Fr,m.fs[j]? =Xa r/\r.r=0/\MkE w0 hi b w L V { m with fs:=m.fs.set j ⟨⟨an,ao,ap,aq,ar,au,av,aw⟩,1,aa == 1,bs,(fi:Int),(ix:Int)⟩ } vt T gu:=by
  rcases bt with⟨e,_⟩|⟨jm,r,e,ea,cf,dq⟩
  ·simp only[Value.int.injEq,true_and]at e;omega
  simp only[Value.int.injEq,true_and]at e;obtain rfl:j=jm:=by omega
  exact⟨r,ea,cf,dq⟩
 have ie:=dD ea;have eg:=dD cf;have gm:=dD fn;have gc:=dD fh;have ej:=dD fk;clear bt dt W ds bj ea cf fn fk fh ex ey ez f0 f1 f2 f3 f4;have jk:¬(j:Int)<0:=by omega
 go_wp2
 go_loopg [13] N (fun eq i2 wr=>∃d:Nat,d<=N/\N - d<=eq/\i2=I6 d/\Xo (Mk w0 hi wr b bm e7 V { m with fs:=m.fs.set j ⟨⟨an,ao,ap,aq,ar,au,av,aw⟩,1,aa == 1,bs,(fi:Int),(ix:Int)⟩ } vt T)/\Xo (zD hi w wr)/\Xo (∀(K:Nat) c,K<d->m.ca[K]? =Xa c->decide (qg c<qg ⟨(fi:Int),(ix:Int),(j:Int)⟩)=Xc))
 case atStart=>exact⟨0,nZ _,by omega,rfl,gm,gc,fun K c hi=>absurd hi (nL _)⟩
 obtain⟨d,ac,P,rfl,ek,gh,dk⟩:=hrel;have ae:=ek.box.box.c 10 rfl;(try simp only[Sli.x]at ae);rw[ce.out,af.out]at ae
 by_cases c4:d<N
 ·have al:=kC c4
  obtain⟨c,cu⟩:∃c,Xo (m.ca[d]? =Xa c):=⟨_,gE (by rw[a1.out];exact c4)⟩
  obtain⟨az,rfl,f8⟩:=ed.out wr ⟨bm,e7,{ m with fs:=m.fs.set j ⟨⟨an,ao,ap,aq,ar,au,av,aw⟩,1,aa == 1,bs,(fi:Int),(ix:Int)⟩ },rfl,ek⟩ d c cu.out;obtain⟨g2,gz,h3⟩:=f8 wr (zc.refl _);obtain⟨k0,k1,k2,k3,-⟩:=ec.out c (mG cu);clear f8 h3
  by_cases D:100*c.file+c.idx<100*(fi:Int)+(ix:Int)
  ·have dx:decide (100*c.file+c.idx<100*(fi:Int)+(ix:Int))=Xc:=by simpa using D
   have f6:decide ((d:Int)< (N:Int))=Xc:=by simpa using al
   have gq:Xo (∀(K:Nat) c,K<d+1->m.ca[K]? =Xa c->decide (qg c<qg ⟨(fi:Int),(ix:Int),(j:Int)⟩)=Xc):=dD<|fun K ab ji b8=>by
    by_cases e:K=d
    ·subst e;rw[cu.out]at b8;cases b8;exact dx
    exact dk K ab (by omega) b8
   clear D;go_upto_region 20 with fail;go_quiet (fail);go_wp2
   go_roundg (N -(d+1))
   case measure=>omega
   exact⟨d+1,by omega,by omega,by go_num,ek.grew (show Below _ _ _ from bD (bR _ _) _),gh.trans (zD.grew (show Below _ _ _ from bD (bR _ _) _)),gq⟩
  have dx:decide (100*c.file+c.idx<100*(fi:Int)+(ix:Int))=Xd:=by simpa using D
  have f6:decide ((d:Int)< (N:Int))=Xc:=by simpa using al
  have dg:Xo (∀aa,m.ca[d]? =Xa aa->decide (qg aa<qg ⟨(fi:Int),(ix:Int),(j:Int)⟩)=Xd):=dD<|fun aa bl=>by
   rw[cu.out]at bl;cases bl;exact dx
  clear D;go_upto_region 20 with fail;go_quiet (fail);clear ae g2 gz;have ai:Xo (Qb m.ca ⟨(fi:Int),(ix:Int),(j:Int)⟩=m.ca.take d++ [⟨(fi:Int),(ix:Int),(j:Int)⟩]++m.ca.drop d):=dD<|by
   obtain⟨h4,h5⟩:=ze8 (p:=fun gy=>decide (qg gy<qg ⟨(fi:Int),(ix:Int),(j:Int)⟩)) (l:=m.ca) (k:=d) dk dg (by rw[a1.out];exact ac)
   unfold Qb;rw[h4,h5];simp
  obtain⟨el,b7⟩:=kB (wr.drewN nq);have cy:Xo (zc wr el):=dD<|by rw[<-b7];exact(show Below _ _ _ from bD (bR _ _) _)
  rw[b7];clear b7;have bp:=dD (ek.grew cy);have gf:=dD (gh.trans (zD.grew cy));clear cy
  try clear wr
  obtain⟨wr,rfl⟩:∃wr,wr=el:=⟨_,rfl⟩;go_upto_region 22 with fail;obtain⟨A,cz⟩:=kA (m.ca.take d);obtain⟨ax,d7⟩:=kA (m.ca.drop d);rw[cz.out,d7.out]at ai;have y:Xo (A.length=d):=dD<|by rw[<-cz.out,Ya,a1.out];omega
  have d9:Xo (ax.length=N - d):=dD<|by rw[<-d7.out,Yn,a1.out]
  obtain⟨B,ag⟩:∃B:Ca,Xo (B=⟨(fi:Int),(ix:Int),(j:Int)⟩):=⟨_,rfl⟩;rw[<-ag.out]at ai;obtain⟨b6,dc⟩:=kA ((A++ [B]++ax).length);obtain⟨S,x⟩:∃S:Xn->Prop,Xo (∀u,S u↔zc wr u):=⟨fun u=>zc wr u,fun _=>Iff.rfl⟩
  have W:=(x _).2 (gW _)
  have bj:Nonempty (zh S):=⟨⟨_,W⟩⟩;have M:∀z:zh S,z.world.cell? ⟨b,10,Xb⟩=Xa (O (Xa az) N V.ca.c):=fun z=>by
   have:=(bp.box.box.grew ((x _).1 z.holds)).c 10 rfl;(try simp only[Sli.x]at this);rw[ce.out,af.out]at this;exact this
  have bo:Xo (zq qS wr (O (Xa az) N V.ca.c) m.ca):=dD<|by
   have:=bp.rows.ca.at;(try simp only at this);rw[ce.out,af.out]at this;exact this
  have a8:=fun br=>zi1 (w:=br) (a:=(Xa az)) (n:=N) (c:=V.ca.c) (k:=d) (nT ac cg)
  have F:=fun br=>zi4 (w:=br) (a:=(Xa az)) (n:=N) (c:=V.ca.c) (k:=d) ac
  obtain⟨eo,b9⟩:=kB (((Xa az):Option Addr).map fun e8=>if V.ca.c=d then e8 else e8.add (d*3))
  have df:Xo (zq qS wr (O (Xa az) d V.ca.c) A):=dD<|by rw[<-cz.out];exact bo.upto ac
  have bn:Xo (zq qS wr (O eo (N - d) (V.ca.c - d)) ax):=dD<|by rw[<-d7.out,<-b9];exact bo.from ac cg.out
  rw[b9]at F;clear b9;obtain⟨i0,db⟩:=kA (N - d);obtain⟨gx,d6⟩:=kA (V.ca.c - d);rw[db.out,d6.out]at F bn;refine qK (I:=S) 27 [(1,⟨fun i=>∃a0,i= O (Xa ⟨a0,0,Xb⟩) 0 0,fun i w'=>zb qS wr.heap.size w' i [],fun p r=>zc p r,fun _=>True⟩),(9,⟨fun i=>(∃U c,i= O U d c)/\(d=0->∃a0,i= O (Xa ⟨a0,0,Xb⟩) 0 0),fun i w'=>zb qS wr.heap.size w' i A,fun p r=>zc p r,fun _=>True⟩),(14,⟨fun i=>∃a0,i= O (Xa ⟨a0,0,Xb⟩) 1 1,fun i w'=>zb qS wr.heap.size w' i [B],fun p r=>zc p r,fun _=>True⟩),(15,⟨fun i=>∃U c,i= O U (d+1) c,fun i w'=>zb qS wr.heap.size w' i (A++ [B]),fun p r=>(∀u m,m.length<=d\/m.length<=1->zb qS wr.heap.size p u m->zb qS wr.heap.size r u m),fun _=>True⟩),(23,⟨fun i=>∃U c,i= O U b6 c,fun i w'=>zb qS wr.heap.size w' i (A++ [B]++ax),fun p r=>(∀u m,m.length<=d+1->zb qS wr.heap.size p u m->zb qS wr.heap.size r u m),fun _=>True⟩)] W zY (by kernel_rfl) rfl rfl (by decide) ?hS ?hp ?hpre ?hpr0 ?_
  case hS=>
   intro aa bl;simp only[mC,nM,or_false]at bl
   rcases bl with rfl|rfl|rfl|rfl|rfl
   ·exact⟨_,0,rfl⟩
   ·by_cases b5:d=0
    ·exact⟨O (Xa ⟨0,0,Xb⟩) 0 0,⟨Xa ⟨0,0,Xb⟩,0,by rw[b5]⟩,fun _=>⟨0,rfl⟩⟩
    exact⟨O Xb d 0,⟨_,_,rfl⟩,fun H=>absurd H b5⟩
   ·exact⟨_,0,rfl⟩
   ·exact⟨_,Xb,0,rfl⟩
   exact⟨_,Xb,0,rfl⟩
  case hp=>
   intro k s j fu D ak R bv i p r g h;have a4:=zR D;have C:=zR ak;clear D ak;simp only[mC,pJ,nM,or_false]at a4 C
   rcases a4 with⟨rfl,rfl⟩|⟨rfl,rfl⟩|⟨rfl,rfl⟩|⟨rfl,rfl⟩|⟨rfl,rfl⟩
   ·rcases C with⟨rfl,rfl⟩|⟨rfl,rfl⟩|⟨rfl,rfl⟩|⟨rfl,rfl⟩|⟨rfl,rfl⟩
    ·exact absurd rfl R
    ·exact zb.grew h g
    ·exact zb.grew h g
    ·exact g i [] (.inl (nZ _)) h
    exact g i [] (nZ _) h
   ·rcases C with⟨rfl,rfl⟩|⟨rfl,rfl⟩|⟨rfl,rfl⟩|⟨rfl,rfl⟩|⟨rfl,rfl⟩
    ·exact zb.grew h g
    ·exact absurd rfl R
    ·exact zb.grew h g
    ·exact g i A (.inl (by rw[y.out];exact nR _)) h
    exact g i A (by rw[y.out];omega) h
   ·rcases C with⟨rfl,rfl⟩|⟨rfl,rfl⟩|⟨rfl,rfl⟩|⟨rfl,rfl⟩|⟨rfl,rfl⟩
    ·exact zb.grew h g
    ·exact zb.grew h g
    ·exact absurd rfl R
    ·exact g i [B] (.inr (nR _)) h
    exact g i [B] (by simp) h
   ·rcases C with⟨rfl,rfl⟩|⟨rfl,rfl⟩|⟨rfl,rfl⟩|⟨rfl,rfl⟩|⟨rfl,rfl⟩
    ·exact zb.grew h g
    ·exact zb.grew h g
    ·exact zb.grew h g
    ·exact absurd rfl R
    exact g i (A++ [B]) (by rw[lA,y.out];simp) h
   rcases C with⟨rfl,rfl⟩|⟨rfl,rfl⟩|⟨rfl,rfl⟩|⟨rfl,rfl⟩|⟨rfl,rfl⟩
   ·exact zb.grew h g
   ·exact zb.grew h g
   ·exact zb.grew h g
   ·exact Yx (bv.symm.trans (show _=Xc by kernel_rfl))
   exact absurd rfl R
  case hpre=>
   intro j fu k s ak D R p r g a5;have C:=zR ak;clear D ak;simp only[mC,pJ,nM,or_false]at C
   rcases C with⟨rfl,rfl⟩|⟨rfl,rfl⟩|⟨rfl,rfl⟩|⟨rfl,rfl⟩|⟨rfl,rfl⟩ <;> trivial
  case hpr0=>
   intro k fu D;have a4:=zR D;clear D;simp only[mC,pJ,nM,or_false]at a4
   rcases a4 with⟨rfl,rfl⟩|⟨rfl,rfl⟩|⟨rfl,rfl⟩|⟨rfl,rfl⟩|⟨rfl,rfl⟩ <;> trivial
  simp only[Yf,Yg];refine zm ?_
  refine zP rfl rfl (fun w' t a5 a2=>?_) (fun cb a9=>?_)
  ·have G:=(x _).1 t;refine zQ.step (v:= O (Xa ⟨w'.heap.size,0,Xb⟩) 0 0) (w':=w'.alloc (Xk #[] 93)) (by simp only[execOp];go_simp) ⟨(x _).2 (G.trans (za _ _)),za _ _,⟨_,rfl⟩,(zb.made qS w').base (bS G)⟩
  obtain⟨ep,rfl⟩:=a9;refine Uq ?_;refine zm ?_
  refine Zk (.tmp 121) ⟨b,0,Xb⟩ rfl rfl rfl rfl ?_;refine Uq ?_;iterate 5 refine zm ?_
  refine zP rfl rfl (fun w' t a5 a2=>?_) (fun cb a9=>?_)
  ·have G:=(x _).1 t;have b5:zb qS wr.heap.size w' (O (Xa ⟨ep,0,Xb⟩) 0 0) []:=a2 1 (by kernel_rfl)
   obtain⟨am,Q,q,Y,P,eb⟩:=jN (E:=qS) (w:=w') 38 b5 (O (Xa az) d V.ca.c) A (df.grew G) (bS G);obtain⟨ay,ab,rfl⟩:=Y.form;refine zQ.step (v:= O ay A.length ab) (w':=Q) ?_ ⟨(x _).2 (G.trans P),P,⟨⟨ay,ab,by rw[y.out]⟩,fun H=>⟨ep,eb (eN (by rw[y.out];exact H))⟩⟩,Y⟩
   clear M a8 F;simp only[execOp,resolve,invoke,builtin,pure_bind,Xt,Xv,Yh,mP,Xz];exact Eq.trans (congrArg (fun c9=>Result.andThen c9 (fun U w'=>Result.ok (Next.value U) w')) q) rfl
  obtain⟨⟨em,en,rfl⟩,e4⟩:=a9;refine Uq ?_;iterate 4 refine zm ?_
  refine zP rfl rfl (fun w' t a5 a2=>?_) (fun cb a9=>?_)
  ·have G:=(x _).1 t;have c5:=(zer w' B).base (bS G);rw[ag.out]at c5;refine zQ.step (v:= O (Xa ⟨w'.heap.size,0,Xb⟩) 1 1) (w':=w'.alloc (Xk #[I6 (fi:Int),I6 (ix:Int),I6 (j:Int)] 93)) (by clear M a8 F;simp only[execOp];go_simp) ⟨(x _).2 (G.trans (za _ _)),za _ _,⟨_,rfl⟩,by rw[ag.out];exact c5⟩
  obtain⟨cm,rfl⟩:=a9;refine Uq ?_;refine zP rfl rfl (fun w' t a5 a2=>?_) (fun cb a9=>?_)
  ·have G:=(x _).1 t;have ct:zb qS wr.heap.size w' (O em d en) A:=a2 9 (by kernel_rfl)
   have fo:zb qS wr.heap.size w' (O (Xa ⟨cm,0,Xb⟩) 1 1) [B]:=a2 14 (by kernel_rfl)
   have e5:∃am Q,(Builtin.append_ #[38,38] 38 #[O em d en,O (Xa ⟨cm,0,Xb⟩) 1 1]).run prog w'= .ok am Q/\zb qS wr.heap.size Q am (A++ [B])/\zc wr Q/\∀u m,m.length<=d\/m.length<=1->zb qS wr.heap.size w' u m->zb qS wr.heap.size Q u m:=by
    by_cases b5:d=0
    ·have c8:A=[]:=eN (by rw[y.out];exact b5)
     obtain⟨a0,bx⟩:=e4 b5;rw[bx,c8]at ct;rw[bx,c8];obtain⟨am,Q,q,Y,P,_⟩:=jN (E:=qS) (w:=w') 38 ct (O (Xa ⟨cm,0,Xb⟩) 1 1) [B] fo.at (bS G);exact⟨am,Q,q,Y,G.trans P,fun u m _ H=>H.grew P⟩
    obtain⟨am,Q,q,Y,bd,D⟩:=qk (E:=qS) (w:=w') 38 ct (O (Xa ⟨cm,0,Xb⟩) 1 1) [B] fo.at (by rw[y.out];show(d+1)*24<=_;omega) (bS G)
    refine⟨am,Q,q,Y,zT G bd (fun a0 bb=>(ct.lt a0 bb).1),fun u m fc H=>D u m ?_ H⟩
    rw[y.out];omega
   obtain⟨am,Q,q,Y,P,D⟩:=e5;obtain⟨ay,ab,rfl⟩:=Y.form;refine zQ.step (v:= .slice ay (A++ [B]).length ab) (w':=Q) ?_ ⟨(x _).2 P,D,⟨ay,ab,by rw[lA,y.out];rfl⟩,Y⟩
   clear M a8 F;simp only[execOp,resolve,invoke,builtin,pure_bind,Xt,Xv,Yh,mP,Xz];exact Eq.trans (congrArg (fun c9=>Result.andThen c9 (fun U w'=>Result.ok (Next.value U) w')) q) rfl
  obtain⟨gv,gw,rfl⟩:=a9;refine Uq ?_;refine zm ?_
  refine Zk (.tmp 135) ⟨b,0,Xb⟩ rfl rfl rfl rfl ?_;refine Uq ?_;iterate 5 refine zm ?_
  refine zP rfl rfl (fun w' t a5 a2=>?_) (fun cb a9=>?_)
  ·have G:=(x _).1 t;have fp:zb qS wr.heap.size w' (O gv (d+1) gw) (A++ [B]):=a2 15 (by kernel_rfl)
   have bz:(A++ [B]).length=d+1:=by rw[lA,y.out];rfl
   obtain⟨am,Q,q,Y,bd,D⟩:=qk (E:=qS) (w:=w') 38 fp (O eo i0 gx) ax (bn.grew G) (by rw[bz,d9.out];show(d+1+(N - d))*24<=_;omega) (bS G)
   obtain⟨ay,ab,rfl⟩:=Y.form;refine zQ.step (v:= .slice ay (A++ [B]++ax).length ab) (w':=Q) ?_ ⟨(x _).2 (zT G bd (fun a0 bb=>(fp.lt a0 bb).1)),(fun u m fc H=>D u m (by rw[bz];exact fc) H),⟨ay,ab,by rw[dc.out]⟩,Y⟩
   clear M a8 F;simp only[execOp,resolve,invoke,builtin,pure_bind,Xt,Xv,Yh,mP,Xz];exact Eq.trans (congrArg (fun c9=>Result.andThen c9 (fun U w'=>Result.ok (Next.value U) w')) q) rfl
  obtain⟨bh,bi,rfl⟩:=a9;refine Uq ?_;refine Zk (.tmp 119) ⟨b,0,Xb⟩ rfl rfl rfl rfl ?_;refine Uq ?_;iterate 2 refine zm ?_
  refine Zq fun cl bu a2=>?_
  have fq:zb qS wr.heap.size cl (O bh b6 bi) (A++ [B]++ax):=a2 23;have dl:=(x _).1 bu;have ck:=dD (bp.grew dl);have gd:=dD (gf.trans (zD.grew dl));have gp:=dD fq;have d3:=dD<|bS bp.gr
  have d4:=dD bp.box.box.lt
  clear fq dl a2 bu M a8 F bj W;have fx:=ck.box.box.c 10 rfl;(try simp only[Sli.x]at fx);rw[ce.out,af.out]at fx;have jw:=ck.box.box.f;have ah:Xo (cl.grownBy (cl.setCell ⟨b,10,Xb⟩ (O bh b6 bi)) (Xa b)):=⟨rfl,rfl,rfl,by simp[World.setCell],fun k _ D=>Below.heap_setCell _ _ _ _ (fun e=>D (by rw[e]))⟩
  have gn:Xo (Mk w0 hi (cl.setCell ⟨b,10,Xb⟩ (O bh b6 bi)) b bm e7 { V with ca:=⟨bh,b6,bi⟩ } { m with fs:=m.fs.set j ⟨⟨an,ao,ap,aq,ar,au,av,aw⟩,1,aa == 1,bs,(fi:Int),(ix:Int)⟩,ca:=Qb m.ca ⟨(fi:Int),(ix:Int),(j:Int)⟩ } vt T):=dD<|by
   have aj:=ck.out;refine⟨zd aj.gr ah aj.hb,aj.hb,aj.box.set 10 _,aj.lr,aj.lc,aj.lb,?_⟩;have cf:=aj.rows.var ah aj.box ah.size (.inl rfl);have:=cf.setCa (s:=⟨bh,b6,bi⟩) (ca:=A++ [B]++ax) ((gp.setCell (by have:=d4.out;simp;omega) _).base d3)
   rw[ag.out]at this ai;rw[ai.out];exact this
  have ge:=dD (gd.trans (ck.keeps ah));go_wp2;go_ret;exact .inr (.inr ⟨j,rfl,r,_,_,_,⟨bh,b6,bi⟩,ie,eg,de,bm,e7,gn,ej,ge⟩)
 have al:=kD c4
 have f6:decide ((d:Int)< (N:Int))=Xd:=by simpa using al
 have dg:Xo (∀aa,m.ca[d]? =Xa aa->decide (qg aa<qg ⟨(fi:Int),(ix:Int),(j:Int)⟩)=Xd):=dD<|fun aa bl=>by
  have:=(gS.1 bl).1;have:=a1.out;omega
 go_upto_region 20 with fail;go_quiet (fail);clear ae;have ai:Xo (Qb m.ca ⟨(fi:Int),(ix:Int),(j:Int)⟩=m.ca.take d++ [⟨(fi:Int),(ix:Int),(j:Int)⟩]++m.ca.drop d):=dD<|by
  obtain⟨h4,h5⟩:=ze8 (p:=fun gy=>decide (qg gy<qg ⟨(fi:Int),(ix:Int),(j:Int)⟩)) (l:=m.ca) (k:=d) dk dg (by rw[a1.out];exact ac)
  unfold Qb;rw[h4,h5];simp
 obtain⟨el,b7⟩:=kB (wr.drewN nq);have cy:Xo (zc wr el):=dD<|by rw[<-b7];exact(show Below _ _ _ from bD (bR _ _) _)
 rw[b7];clear b7;have bp:=dD (ek.grew cy);have gf:=dD (gh.trans (zD.grew cy));clear cy
 try clear wr
 obtain⟨wr,rfl⟩:∃wr,wr=el:=⟨_,rfl⟩;go_upto_region 22 with fail;obtain⟨A,cz⟩:=kA (m.ca.take d);obtain⟨ax,d7⟩:=kA (m.ca.drop d);rw[cz.out,d7.out]at ai;have y:Xo (A.length=d):=dD<|by rw[<-cz.out,Ya,a1.out];omega
 have d9:Xo (ax.length=N - d):=dD<|by rw[<-d7.out,Yn,a1.out]
 obtain⟨B,ag⟩:∃B:Ca,Xo (B=⟨(fi:Int),(ix:Int),(j:Int)⟩):=⟨_,rfl⟩;rw[<-ag.out]at ai;obtain⟨b6,dc⟩:=kA ((A++ [B]++ax).length);obtain⟨S,x⟩:∃S:Xn->Prop,Xo (∀u,S u↔zc wr u):=⟨fun u=>zc wr u,fun _=>Iff.rfl⟩
 have W:=(x _).2 (gW _)
 have bj:Nonempty (zh S):=⟨⟨_,W⟩⟩;have M:∀z:zh S,z.world.cell? ⟨b,10,Xb⟩=Xa (O b0 N V.ca.c):=fun z=>by
  have:=(bp.box.box.grew ((x _).1 z.holds)).c 10 rfl;(try simp only[Sli.x]at this);rw[ce.out,af.out]at this;exact this
 have bo:Xo (zq qS wr (O b0 N V.ca.c) m.ca):=dD<|by
  have:=bp.rows.ca.at;(try simp only at this);rw[ce.out,af.out]at this;exact this
 have a8:=fun br=>zi1 (w:=br) (a:=b0) (n:=N) (c:=V.ca.c) (k:=d) (nT ac cg)
 have F:=fun br=>zi4 (w:=br) (a:=b0) (n:=N) (c:=V.ca.c) (k:=d) ac
 obtain⟨eo,b9⟩:=kB ((b0:Option Addr).map fun e8=>if V.ca.c=d then e8 else e8.add (d*3))
 have df:Xo (zq qS wr (O b0 d V.ca.c) A):=dD<|by rw[<-cz.out];exact bo.upto ac
 have bn:Xo (zq qS wr (O eo (N - d) (V.ca.c - d)) ax):=dD<|by rw[<-d7.out,<-b9];exact bo.from ac cg.out
 rw[b9]at F;clear b9;obtain⟨i0,db⟩:=kA (N - d);obtain⟨gx,d6⟩:=kA (V.ca.c - d);rw[db.out,d6.out]at F bn;refine qK (I:=S) 27 [(1,⟨fun i=>∃a0,i= O (Xa ⟨a0,0,Xb⟩) 0 0,fun i w'=>zb qS wr.heap.size w' i [],fun p r=>zc p r,fun _=>True⟩),(9,⟨fun i=>(∃U c,i= O U d c)/\(d=0->∃a0,i= O (Xa ⟨a0,0,Xb⟩) 0 0),fun i w'=>zb qS wr.heap.size w' i A,fun p r=>zc p r,fun _=>True⟩),(14,⟨fun i=>∃a0,i= O (Xa ⟨a0,0,Xb⟩) 1 1,fun i w'=>zb qS wr.heap.size w' i [B],fun p r=>zc p r,fun _=>True⟩),(15,⟨fun i=>∃U c,i= O U (d+1) c,fun i w'=>zb qS wr.heap.size w' i (A++ [B]),fun p r=>(∀u m,m.length<=d\/m.length<=1->zb qS wr.heap.size p u m->zb qS wr.heap.size r u m),fun _=>True⟩),(23,⟨fun i=>∃U c,i= O U b6 c,fun i w'=>zb qS wr.heap.size w' i (A++ [B]++ax),fun p r=>(∀u m,m.length<=d+1->zb qS wr.heap.size p u m->zb qS wr.heap.size r u m),fun _=>True⟩)] W zY (by kernel_rfl) rfl rfl (by decide) ?hS ?hp ?hpre ?hpr0 ?_
 case hS=>
  intro aa bl;simp only[mC,nM,or_false]at bl
  rcases bl with rfl|rfl|rfl|rfl|rfl
  ·exact⟨_,0,rfl⟩
  ·by_cases b5:d=0
   ·exact⟨O (Xa ⟨0,0,Xb⟩) 0 0,⟨Xa ⟨0,0,Xb⟩,0,by rw[b5]⟩,fun _=>⟨0,rfl⟩⟩
   exact⟨O Xb d 0,⟨_,_,rfl⟩,fun H=>absurd H b5⟩
  ·exact⟨_,0,rfl⟩
  ·exact⟨_,Xb,0,rfl⟩
  exact⟨_,Xb,0,rfl⟩
 case hp=>
  intro k s j fu D ak R bv i p r g h;have a4:=zR D;have C:=zR ak;clear D ak;simp only[mC,pJ,nM,or_false]at a4 C
  rcases a4 with⟨rfl,rfl⟩|⟨rfl,rfl⟩|⟨rfl,rfl⟩|⟨rfl,rfl⟩|⟨rfl,rfl⟩
  ·rcases C with⟨rfl,rfl⟩|⟨rfl,rfl⟩|⟨rfl,rfl⟩|⟨rfl,rfl⟩|⟨rfl,rfl⟩
   ·exact absurd rfl R
   ·exact zb.grew h g
   ·exact zb.grew h g
   ·exact g i [] (.inl (nZ _)) h
   exact g i [] (nZ _) h
  ·rcases C with⟨rfl,rfl⟩|⟨rfl,rfl⟩|⟨rfl,rfl⟩|⟨rfl,rfl⟩|⟨rfl,rfl⟩
   ·exact zb.grew h g
   ·exact absurd rfl R
   ·exact zb.grew h g
   ·exact g i A (.inl (by rw[y.out];exact nR _)) h
   exact g i A (by rw[y.out];omega) h
  ·rcases C with⟨rfl,rfl⟩|⟨rfl,rfl⟩|⟨rfl,rfl⟩|⟨rfl,rfl⟩|⟨rfl,rfl⟩
   ·exact zb.grew h g
   ·exact zb.grew h g
   ·exact absurd rfl R
   ·exact g i [B] (.inr (nR _)) h
   exact g i [B] (by simp) h
  ·rcases C with⟨rfl,rfl⟩|⟨rfl,rfl⟩|⟨rfl,rfl⟩|⟨rfl,rfl⟩|⟨rfl,rfl⟩
   ·exact zb.grew h g
   ·exact zb.grew h g
   ·exact zb.grew h g
   ·exact absurd rfl R
   exact g i (A++ [B]) (by rw[lA,y.out];simp) h
  rcases C with⟨rfl,rfl⟩|⟨rfl,rfl⟩|⟨rfl,rfl⟩|⟨rfl,rfl⟩|⟨rfl,rfl⟩
  ·exact zb.grew h g
  ·exact zb.grew h g
  ·exact zb.grew h g
  ·exact Yx (bv.symm.trans (show _=Xc by kernel_rfl))
  exact absurd rfl R
 case hpre=>
  intro j fu k s ak D R p r g a5;have C:=zR ak;clear D ak;simp only[mC,pJ,nM,or_false]at C
  rcases C with⟨rfl,rfl⟩|⟨rfl,rfl⟩|⟨rfl,rfl⟩|⟨rfl,rfl⟩|⟨rfl,rfl⟩ <;> trivial
 case hpr0=>
  intro k fu D;have a4:=zR D;clear D;simp only[mC,pJ,nM,or_false]at a4
  rcases a4 with⟨rfl,rfl⟩|⟨rfl,rfl⟩|⟨rfl,rfl⟩|⟨rfl,rfl⟩|⟨rfl,rfl⟩ <;> trivial
 simp only[Yf,Yg];refine zm ?_
 refine zP rfl rfl (fun w' t a5 a2=>?_) (fun cb a9=>?_)
 ·have G:=(x _).1 t;refine zQ.step (v:= O (Xa ⟨w'.heap.size,0,Xb⟩) 0 0) (w':=w'.alloc (Xk #[] 93)) (by simp only[execOp];go_simp) ⟨(x _).2 (G.trans (za _ _)),za _ _,⟨_,rfl⟩,(zb.made qS w').base (bS G)⟩
 obtain⟨ep,rfl⟩:=a9;refine Uq ?_;refine zm ?_
 refine Zk (.tmp 121) ⟨b,0,Xb⟩ rfl rfl rfl rfl ?_;refine Uq ?_;iterate 5 refine zm ?_
 refine zP rfl rfl (fun w' t a5 a2=>?_) (fun cb a9=>?_)
 ·have G:=(x _).1 t;have b5:zb qS wr.heap.size w' (O (Xa ⟨ep,0,Xb⟩) 0 0) []:=a2 1 (by kernel_rfl)
  obtain⟨am,Q,q,Y,P,eb⟩:=jN (E:=qS) (w:=w') 38 b5 (O b0 d V.ca.c) A (df.grew G) (bS G);obtain⟨ay,ab,rfl⟩:=Y.form;refine zQ.step (v:= O ay A.length ab) (w':=Q) ?_ ⟨(x _).2 (G.trans P),P,⟨⟨ay,ab,by rw[y.out]⟩,fun H=>⟨ep,eb (eN (by rw[y.out];exact H))⟩⟩,Y⟩
  clear M a8 F;simp only[execOp,resolve,invoke,builtin,pure_bind,Xt,Xv,Yh,mP,Xz];exact Eq.trans (congrArg (fun c9=>Result.andThen c9 (fun U w'=>Result.ok (Next.value U) w')) q) rfl
 obtain⟨⟨em,en,rfl⟩,e4⟩:=a9;refine Uq ?_;iterate 4 refine zm ?_
 refine zP rfl rfl (fun w' t a5 a2=>?_) (fun cb a9=>?_)
 ·have G:=(x _).1 t;have c5:=(zer w' B).base (bS G);rw[ag.out]at c5;refine zQ.step (v:= O (Xa ⟨w'.heap.size,0,Xb⟩) 1 1) (w':=w'.alloc (Xk #[I6 (fi:Int),I6 (ix:Int),I6 (j:Int)] 93)) (by clear M a8 F;simp only[execOp];go_simp) ⟨(x _).2 (G.trans (za _ _)),za _ _,⟨_,rfl⟩,by rw[ag.out];exact c5⟩
 obtain⟨cm,rfl⟩:=a9;refine Uq ?_;refine zP rfl rfl (fun w' t a5 a2=>?_) (fun cb a9=>?_)
 ·have G:=(x _).1 t;have ct:zb qS wr.heap.size w' (O em d en) A:=a2 9 (by kernel_rfl)
  have fo:zb qS wr.heap.size w' (O (Xa ⟨cm,0,Xb⟩) 1 1) [B]:=a2 14 (by kernel_rfl)
  have e5:∃am Q,(Builtin.append_ #[38,38] 38 #[O em d en,O (Xa ⟨cm,0,Xb⟩) 1 1]).run prog w'= .ok am Q/\zb qS wr.heap.size Q am (A++ [B])/\zc wr Q/\∀u m,m.length<=d\/m.length<=1->zb qS wr.heap.size w' u m->zb qS wr.heap.size Q u m:=by
   by_cases b5:d=0
   ·have c8:A=[]:=eN (by rw[y.out];exact b5)
    obtain⟨a0,bx⟩:=e4 b5;rw[bx,c8]at ct;rw[bx,c8];obtain⟨am,Q,q,Y,P,_⟩:=jN (E:=qS) (w:=w') 38 ct (O (Xa ⟨cm,0,Xb⟩) 1 1) [B] fo.at (bS G);exact⟨am,Q,q,Y,G.trans P,fun u m _ H=>H.grew P⟩
   obtain⟨am,Q,q,Y,bd,D⟩:=qk (E:=qS) (w:=w') 38 ct (O (Xa ⟨cm,0,Xb⟩) 1 1) [B] fo.at (by rw[y.out];show(d+1)*24<=_;omega) (bS G)
   refine⟨am,Q,q,Y,zT G bd (fun a0 bb=>(ct.lt a0 bb).1),fun u m fc H=>D u m ?_ H⟩
   rw[y.out];omega
  obtain⟨am,Q,q,Y,P,D⟩:=e5;obtain⟨ay,ab,rfl⟩:=Y.form;refine zQ.step (v:= .slice ay (A++ [B]).length ab) (w':=Q) ?_ ⟨(x _).2 P,D,⟨ay,ab,by rw[lA,y.out];rfl⟩,Y⟩
  clear M a8 F;simp only[execOp,resolve,invoke,builtin,pure_bind,Xt,Xv,Yh,mP,Xz];exact Eq.trans (congrArg (fun c9=>Result.andThen c9 (fun U w'=>Result.ok (Next.value U) w')) q) rfl
 obtain⟨gv,gw,rfl⟩:=a9;refine Uq ?_;refine zm ?_
 refine Zk (.tmp 135) ⟨b,0,Xb⟩ rfl rfl rfl rfl ?_;refine Uq ?_;iterate 5 refine zm ?_
 refine zP rfl rfl (fun w' t a5 a2=>?_) (fun cb a9=>?_)
 ·have G:=(x _).1 t;have fp:zb qS wr.heap.size w' (O gv (d+1) gw) (A++ [B]):=a2 15 (by kernel_rfl)
  have bz:(A++ [B]).length=d+1:=by rw[lA,y.out];rfl
  obtain⟨am,Q,q,Y,bd,D⟩:=qk (E:=qS) (w:=w') 38 fp (O eo i0 gx) ax (bn.grew G) (by rw[bz,d9.out];show(d+1+(N - d))*24<=_;omega) (bS G)
  obtain⟨ay,ab,rfl⟩:=Y.form;refine zQ.step (v:= .slice ay (A++ [B]++ax).length ab) (w':=Q) ?_ ⟨(x _).2 (zT G bd (fun a0 bb=>(fp.lt a0 bb).1)),(fun u m fc H=>D u m (by rw[bz];exact fc) H),⟨ay,ab,by rw[dc.out]⟩,Y⟩
  clear M a8 F;simp only[execOp,resolve,invoke,builtin,pure_bind,Xt,Xv,Yh,mP,Xz];exact Eq.trans (congrArg (fun c9=>Result.andThen c9 (fun U w'=>Result.ok (Next.value U) w')) q) rfl
 obtain⟨bh,bi,rfl⟩:=a9;refine Uq ?_;refine Zk (.tmp 119) ⟨b,0,Xb⟩ rfl rfl rfl rfl ?_;refine Uq ?_;iterate 2 refine zm ?_
 refine Zq fun cl bu a2=>?_
 have fq:zb qS wr.heap.size cl (O bh b6 bi) (A++ [B]++ax):=a2 23;have dl:=(x _).1 bu;have ck:=dD (bp.grew dl);have gd:=dD (gf.trans (zD.grew dl));have gp:=dD fq;have d3:=dD<|bS bp.gr
 have d4:=dD bp.box.box.lt
 clear fq dl a2 bu M a8 F bj W;have fx:=ck.box.box.c 10 rfl;(try simp only[Sli.x]at fx);rw[ce.out,af.out]at fx;have jw:=ck.box.box.f;have ah:Xo (cl.grownBy (cl.setCell ⟨b,10,Xb⟩ (O bh b6 bi)) (Xa b)):=⟨rfl,rfl,rfl,by simp[World.setCell],fun k _ D=>Below.heap_setCell _ _ _ _ (fun e=>D (by rw[e]))⟩
 have gn:Xo (Mk w0 hi (cl.setCell ⟨b,10,Xb⟩ (O bh b6 bi)) b bm e7 { V with ca:=⟨bh,b6,bi⟩ } { m with fs:=m.fs.set j ⟨⟨an,ao,ap,aq,ar,au,av,aw⟩,1,aa == 1,bs,(fi:Int),(ix:Int)⟩,ca:=Qb m.ca ⟨(fi:Int),(ix:Int),(j:Int)⟩ } vt T):=dD<|by
  have aj:=ck.out;refine⟨zd aj.gr ah aj.hb,aj.hb,aj.box.set 10 _,aj.lr,aj.lc,aj.lb,?_⟩;have cf:=aj.rows.var ah aj.box ah.size (.inl rfl);have:=cf.setCa (s:=⟨bh,b6,bi⟩) (ca:=A++ [B]++ax) ((gp.setCell (by have:=d4.out;simp;omega) _).base d3)
  rw[ag.out]at this ai;rw[ai.out];exact this
 have ge:=dD (gd.trans (ck.keeps ah));go_wp2;go_ret;exact .inr (.inr ⟨j,rfl,r,_,_,_,⟨bh,b6,bi⟩,ie,eg,de,bm,e7,gn,ej,ge⟩)
theorem znh (f:Nat->En) (n:Nat) (e):tab (qN f n e)=(tab f).set n e:=(zhJ f n e).symm
theorem jS (f:Nat->En) {n:Nat} (a:n<64) (e):Jp.enc (qN f n e)=splice (Jp.enc f) (n*3) (env e):=by
 show qv (tab (qN f n e))=splice (qv (tab f)) (n*3) (env e)
 rw[znh];exact(Jd (enc:=env) (k:=3) e rfl (tab f) n (fun _ _=>rfl) (by rw[Q6];exact a)).symm
theorem zi9 {key:Ca->Int}:∀{l:List Ca} {lo N:Nat},l.Pairwise (fun a b=>key a<key b)->(∀c∈l,(lo:Int)<=key c/\key c< (N:Int))->l.length<=N - lo
 | [],_,_,_,_=>nZ _
 | c :: l,lo,N,h,e=>by
  obtain⟨g,d⟩:=Od.1 h;have f:=e c (by simp)
  have f:=zi9 (lo:=(key c).toNat+1) (N:=N) d (fun d f=>by
   have:=g d f;have:=e d (by simp[f])
   omega)
  simp only[Yj];omega
section
variable{m:Ma} {T:List (Nat->En)}
theorem qH.cached (h:qH m T):(∀c∈m.ca,0<=c.file/\c.file<=1000/\0<=c.idx/\c.idx<=1000/\0<=c.fr/\c.fr<m.fs.length)/\m.ca.length<=1000/\∀c∈m.ca,∃(k:Nat) (fr:Fr),c.fr=(k:Int)/\m.fs[k]? =Xa fr/\fr.f=c.file/\fr.x=c.idx:=by
 obtain⟨l,q,n⟩:=zp.1 h.ca;have b:∀c∈m.ca,(0<=c.file/\c.file<5/\0<=c.idx/\c.idx<12/\0<=c.fr/\c.fr<m.fs.length)/\(zW m c.fr).f=c.file/\(zW m c.fr).x=c.idx:=fun c a=>by
  have d:=l c a;unfold caE at d
  split at d
  ·cases d
  rename_i s
  split at d
  ·cases d
  rename_i f
  have r:=h.pages (file:=c.file) (by omega) (by omega)
  refine⟨by omega,?_,?_⟩
  ·exact Classical.byContradiction fun g=>f (.inr (.inl g))
  exact Classical.byContradiction fun g=>f (.inr (.inr g))
 refine⟨fun c a=>?_,?_,fun c a=>?_⟩
 ·have:=(b c a).1;omega
 ·refine nT (zi9 (key:=qg) (lo:=0) (N:=1000) n fun c a=>?_) (nR _)
  have:=(b c a).1;unfold qg;omega
 obtain⟨t,i,j⟩:=b c a;have e:c.fr.toNat<m.fs.length:=by omega
 have p:zW m c.fr=m.fs[c.fr.toNat]:=by
  unfold zW;rw[gD,gE e];rfl
 rw[p]at i j;exact⟨c.fr.toNat,m.fs[c.fr.toNat],by omega,gE e,i,j⟩
theorem qH.alone (h:qH m T) {p n:Nat} {s:Sp} (a:m.sp[p]? =Xa s) (g:(zE s.ars n).is=Xc):-1<=(zE s.ars n).file/\0<=(zE s.ars n).page/\(zE s.ars n).page<=1000/\((zE s.ars n).file<0->(zE s.ars n).sh=Xd):=by
 have b:=(h.spok s (mG a)).1;have f:=Zo.1 b;obtain⟨i,c,d,b,e⟩:=QB g;have a:=f.2.all c (mG d);rw[e];unfold Zi at a;unfold qm;have b:=z4.1 b;obtain⟨b,b,b,b,b,b,b,c⟩:=a;simp only
 split <;> refine⟨by omega,by omega,by omega,fun e=>(b e).2⟩
end
section
variable{w0 w w':Xn} {hi b:Nat} {vl:Sli} {L:List Int} {V:MaV} {m:Ma} {vt:Sli} {T:List (Nat->En)}
theorem Mk.setF (h:Mk w0 hi w b vl L V m vt T) {g:Nat} (c:(V.f.x).ownBlock=Xa g) (a:w.grownBy w' (Xa g)) (i:w'.heap.size=w.heap.size) {fs:List Fr} (f:zb JR w0.heap.size w' (V.f.x) fs) (d:zdV { m with fs:=fs }):Mk w0 hi w' b vl L V { m with fs:=fs } vt T/\zD hi w w':=by
 refine⟨⟨zd h.gr a (h.rows.fs.lt g c).1,h.hb,h.box.beside a (fun k e=>by cases e;exact h.rows.fs.ne h.box (by decide) g c),h.lr,h.lc,h.lb,h.rows.setF c a i f d⟩,?_⟩
 obtain⟨d,d⟩:=h.rows.fs.obj c;exact zD.kind a d (fun _ a=>absurd rfl a.2.1)
theorem Mk.setS (h:Mk w0 hi w b vl L V m vt T) {g:Nat} (c:(V.s.x).ownBlock=Xa g) (a:w.grownBy w' (Xa g)) (i:w'.heap.size=w.heap.size) {d:List Int} (f:zb slE w0.heap.size w' (V.s.x) d):Mk w0 hi w' b vl L V { m with sl:=d } vt T/\zD hi w w':=by
 refine⟨⟨zd h.gr a (h.rows.sl.lt g c).1,h.hb,h.box.beside a (fun k e=>by cases e;exact h.rows.sl.ne h.box (by decide) g c),h.lr,h.lc,h.lb,h.rows.setS c a i f⟩,?_⟩
 obtain⟨d,d⟩:=h.rows.sl.obj c;exact zD.kind a d (fun _ a=>absurd rfl a.2.2.1)
theorem Mk.setT (h:Mk w0 hi w b vl L V m vt T) {g:Nat} (c:(vt.x).ownBlock=Xa g) (a:w.grownBy w' (Xa g)) (i:w'.heap.size=w.heap.size) {d:List (Nat->En)} (f:zb Jp w0.heap.size w' (vt.x) d):Mk w0 hi w' b vl L V m vt d/\zD hi w w':=by
 refine⟨⟨zd h.gr a (h.rows.tt.lt g c).1,h.hb,h.box.beside a (fun k e=>by cases e;exact h.rows.tt.ne h.box (by decide) g c),h.lr,h.lc,h.lb,h.rows.setT c a i f⟩,?_⟩
 obtain⟨d,d⟩:=h.rows.tt.obj c;exact zD.kind a d (fun _ a=>absurd rfl a.2.2.2.2.2.2.2.1)
theorem QZ {base:Nat} {v:Xq} {a:List (List Int)} (h:zj base w v a) {g:Nat} (b:v.ownBlock=Xa g):base<=g/\∃cs,w.heap[g]? =Xa (Xk cs 60 (0,0)):=by
 rcases h.1.2 with⟨rfl,_⟩|⟨k,a,a,rfl,c,d,_⟩
 ·cases b
 simp only[Value.ownBlock,Option.some.injEq]at b;subst b;exact⟨c,a,d⟩
theorem Mk.setSb (h:Mk w0 hi w b vl L V m vt T) {g:Nat} (d:(V.sb.x).ownBlock=Xa g) (a:w.grownBy w' (Xa g)) (i:w'.heap.size=w.heap.size) {c:List (List Int)} (f:zj w0.heap.size w' (V.sb.x) c):Mk w0 hi w' b vl L V { m with sb:=c } vt T/\zD hi w w':=by
 obtain⟨e,c,c⟩:=QZ h.rows.sb d;refine⟨⟨zd h.gr a e,h.hb,h.box.beside a (fun k e=>?_),h.lr,h.lc,h.lb,h.rows.setSb c d a i f⟩,zD.kind a c (fun p f=>?_)⟩
 ·cases e;intro e;subst e;have a:w.heap[b]? =_:=h.box;rw[c]at a;cases a
 have:=f.2.2.2.2.2.2.2.2 rfl;have:=h.rows.sbh g d;omega
end
theorem zeh (l:List Xq) {i:Nat} (h:i<l.length) (u):splice l i [u]=l.set i u:=by
 rw[List.set_eq_take_append_cons_drop,kE h]
 simp[splice]
theorem zb.box {α:Type} {E:Elt α} {w:Xn} {base g:Nat} {v:Xq} {l:List α} (h:zb E base w v l) (b:v.ownBlock=Xa g):∃cs,zx w g E.ty cs:=by
 obtain⟨cs,a⟩:=h.obj b;exact⟨cs.toList,by unfold zx;rw[a]⟩
theorem zb.unfrozen {α:Type} {E:Elt α} {w:Xn} {base g:Nat} {v:Xq} {l:List α} (h:zb E base w v l) (b:v.ownBlock=Xa g):∀j,w.frozen? ⟨g,j,Xb⟩=Xd:=by
 obtain⟨a,a⟩:=h.box b;exact a.box.f
theorem zb.cell {α:Type} {E:Elt α} {w:Xn} {base g:Nat} {v:Xq} {l:List α} (h:zb E base w v l) {k o:Nat} (c:v.ownBlock=Xa g) {x y:α} (f:l[k]? =Xa x) {u:Xq} (s:E.enc y=(E.enc x).set o u) (r:o<E.k):
  zb E base (w.setCell ⟨g,k*E.k+o,Xb⟩ u) v (l.set k y)/\w.grownBy (w.setCell ⟨g,k*E.k+o,Xb⟩ u) (Xa g)/\(w.setCell ⟨g,k*E.k+o,Xb⟩ u).heap.size=w.heap.size:=by
 refine⟨⟨?_,by rw[Xu];exact h.2⟩,⟨rfl,rfl,rfl,by simp[World.setCell],fun j _ a=>Below.heap_setCell _ _ _ _ (fun e=>a (by rw[e]))⟩,by simp[World.setCell]⟩
 have d:=(gS.1 f).1;refine⟨by rw[Xu,jO,Xu],?_⟩
 rcases h.1.2 with⟨rfl,_⟩|⟨e,b,a,rfl,h,i,j,m,n,p⟩
 ·cases c
 simp only[Value.ownBlock,Option.some.injEq]at c;subst c;have q:zx w e E.ty a.toList:=by unfold zx;rw[i]
 have c:=q.set (k*E.k+o) u;refine .inr ⟨e,b,(a.toList.set (k*E.k+o) u).toArray,by rw[Xu],h,c,by rw[Xu];exact j,m,by simpa using n,?_⟩
 rw[Xu,List.toList_toArray,List.take_set,p,<-zeh _ ?_ u]
 ·refine Jt o [u] (y:=y) ?_ (by simp;omega) l k f
  rw[s,zeh _ (by rw[E.len];exact r)]
 rw[jO];have:(k+1)*E.k<=l.length*E.k:=Yc _ d;rw[Yy]at this;omega
theorem JC {p:Nat}:Loc hi p 81:=⟨by decide,by decide,by decide,by decide,by decide,by decide,by decide,by decide,fun h=>absurd h (by decide)⟩
theorem qH.refs (h:qH m T) {k:Nat} {f:Fr} (a:m.fs[k]? =Xa f):0<=f.r/\f.r<=2000:=by
 have b:=(h.cf k f a).1;have a:=zb0 T 1 k;have a:zL m.ca k<=m.ca.length:=Yb;have a:=h.cached.2.1;have a:=h.tl;have a:=h.spl;omega
def Ent (w0:Xn) (hi b:Nat) (w:Xn) (L:List Int) (m:Ma) (vt:Sli) (T:List (Nat->En)) (p n:Nat) (f:Nat->En) (w':Xn):Prop:=∃vl' L' V' m' T',Mk w0 hi w' b vl' L' V' m' vt T'/\za7 L L'/\zD hi w w'/\qH m' T'/\(m'.sp=m.sp/\m'.fl=m.fl/\m'.hand=m.hand/\m'.fs.length=m.fs.length)/\(T'=T\/∃e,T'=T.set p (qN f n e))/\(L=[]->m'=m/\T'=T)
theorem Ent.same {w:Xn} (p n:Nat) (f:Nat->En) (i:qH m T) (h:MkE w0 hi b w L V m vt T w'):Ent w0 hi b w L m vt T p n f w':=by
 obtain⟨a,c,d,e,g⟩:=h;exact⟨a,c,V,m,T,d,e,g,i,⟨rfl,rfl,rfl,rfl⟩,.inl rfl,fun _=>⟨rfl,rfl⟩⟩
theorem zmx {w:Xn} (p n:Nat) (s:Sp) (f:Nat->En) (x:On) (h:Mk w0 hi w b vl L V m vt T) (hB:qH m T) (hs:m.sp[p]? =Xa s) (hT:T[p]? =Xa f) (hn:n<64) (h0:f n=en0) (hx:zE s.ars n=x) (his:x.is=Xc) (hfi:Zv m.fl.length s.ars):
  Xp prog 38 #[Xj (Xa ⟨b,0,Xb⟩),I6 (p:Int),I6 (n:Int),Xi (onv x).toArray] w fun e w'=>(∃v,e= Xl v)/\Ent w0 hi b w L m vt T p n f w':=by
 have hal:=hB.alone hs (n:=n) (by rw[hx];exact his)
 have hfl:x.file< (m.fl.length:Int):=by rw[<-hx];exact hfi n hn (by rw[hx];exact his)
 rw[hx]at hal;obtain⟨al1,al2,al3,al4⟩:=hal;obtain⟨xis,xrd,xwr,xsh,xfi,xpg⟩:=x;dsimp only at his al1 al2 al3 al4 hfl;subst his;have HX:=dD hx;have HM:=dD h;have HB:=dD hB;have HS:=dD hs;have HT:=dD hT;have H0:=dD h0;obtain⟨tn,HTL⟩:=kA T.length;have hpt:p<tn:=by rw[<-HTL.out];exact(gS.1 hT).1
 have HIS:Xo ((zE s.ars n).is=Xc):=dD<|by rw[hx]
 have HWR:Xo ((zE s.ars n).wr=xwr):=dD<|by rw[hx]
 have HSE:Xo ((zE s.ars n).sh=xsh/\(zE s.ars n).file=xfi/\(zE s.ars n).page=xpg):=dD<|by rw[hx];exact⟨rfl,rfl,rfl⟩
 obtain⟨px,HPX⟩:=kA w.heap.size;obtain⟨W0,hW0⟩:=kB (w.alloc (Xk #[Xh Xc,Xh xrd,Xh xwr,Xh xsh,I6 xfi,I6 xpg] 81));have HG0:=gA hW0
 have X0:=xPT hW0 HPX
 have M0:=dD<|h.grew HG0.out;have HBX:=dD h.box.box.lt
 have HW0:Xo (_=W0):=hW0;clear hW0 h hB hs hT h0 hx hfi
 go_enter func38,ntmps38
 go_upto_region 1 with fail;have hw:w.alloc (Xk (onv ⟨Xc,xrd,xwr,xsh,xfi,xpg⟩).toArray 81)=W0:=HW0.out;rw[hw,HPX.out];clear hw;have hpk:=qz 4 M0.out;go_wp2_with fail;refine hpk.mono ?_;clear hpk;rintro e W1 ⟨vl1,L1,y,rfl,mk1,gr1,sz1,y0,y1,yn,ll⟩;have M1:=dD mk1;have K1:=dD<|(zD.grew HG0).trans (M0.keeps gr1);have X1:Xo (zx W1 px 81 [Xh Xc,Xh xrd,Xh xwr,Xh xsh,I6 xfi,I6 xpg]):=X0.beside gr1 (fun g e=>by cases e;have:=HBX.out;have:=HPX.out;omega)
 have LL1:=dD ll;have hy4:y<4:=by rcases y1 with h | h <;> omega
 have HYN:=dD yn;clear mk1 gr1 sz1 y1 yn ll
 by_cases hy:y=0
 ·have hye:(y == 0)=Xc:=by simp[hy]
  clear hy;have HE:=dD<|Ent.same p n f HB ⟨vl1,L1,M1,LL1,K1⟩
  go_wp2
  (first | go_end0 | ((try simp only[Exit.inBlock,Exit.then]);refine bodyPost_ret (results_none rfl _ _ _) rfl ?_))
  first | exact HE.out | exact⟨⟨_,rfl⟩,HE⟩
 have hye:(y == 0)=Xd:=by simp[hy]
 have HLN:Xo (L≠[]):=dD<|fun e=>hy (HYN e)
 clear hy;have c3:=X1.box.c 3 rfl;have c4:=X1.box.c 4 rfl;have HA4:Xo (xfi<0->xsh=Xd):=dD<|fun h=>al4 (by omega)
 clear al4;go_upto_region 6 with fail
 go_cut [44] (fun s44 wx=>∃c1:Bool,s44= Xh c1/\wx=W1/\Xo (c1=Xc->0<=xfi)/\Xo (c1=Xd->xsh=Xd))
 case first=>
  by_cases hfz:0<=xfi
  ·have hfd:decide ((0:Int)<=xfi)=Xc:=by simpa using hfz
   cases xsh with
   | true=>
    go_wp2
    go_meet
    exact⟨Xc,rfl,rfl,fun _=>hfz,fun h=>(by cases h)⟩
   | false=>
    go_wp2
    go_meet
    exact⟨(y == 1),rfl,rfl,fun _=>hfz,fun _=>(by first | rfl | trivial)⟩
  have hfd:decide ((0:Int)<=xfi)=Xd:=by simpa using hfz
  have HSF:Xo (xsh=Xd):=HA4.out (by omega)
  go_wp2
  go_meet
  exact⟨Xd,rfl,rfl,fun h=>(by cases h),fun _=>HSF.out⟩
 obtain⟨c1,rfl,hwc,HC1,HC0⟩:=hcut;rw[hwc];clear hwc c3 c4
 cases c1 with
 | true=>
  have hfz:=HC1.out rfl;obtain⟨fi,rfl⟩:∃fi:Nat,xfi=(fi:Int):=⟨xfi.toNat,by omega⟩
  obtain⟨ix,rfl⟩:∃ix:Nat,xpg=(ix:Int):=⟨xpg.toNat,by omega⟩
  obtain⟨fl,HFL⟩:∃fl,Xo (m.fl[fi]? =Xa fl):=⟨_,gE (by omega)⟩
  have c3:=X1.box.c 3 rfl;have c4:=X1.box.c 4 rfl;have c5:=X1.box.c 5 rfl;go_upto_region 7 with fail;have x8:=M1.box.box.c 8 rfl;obtain⟨_,_,hfe,_,hfr⟩:=z5.rows M1.rows.at.fl;have hrw:zbL W1 V.fl.a m.fl:=by
   simp only[vJ]at hfe;rw[hfe.1];exact hfr
  have hfn:V.fl.n=m.fl.length:=by
   simp only[vJ]at hfe;exact hfe.2.1
  obtain⟨ad,hva,ba,bc,_,hlf⟩:=hrw fi fl HFL.out;obtain⟨-,d1⟩:=hlf W1 (zc.refl _);obtain⟨fln,hfln⟩:=kB V.fl.n;have hflz:(fi:Int)< (fln:Int):=by
   have:=(gS.1 HFL).1;omega
  (try simp only[Sli.x]at x8);rw[hva,hfln]at x8;obtain⟨bn,HBN⟩:=kA fl.bl.length;rw[HBN.out]at d1;clear hfe hfr hrw hfn hva hlf hfln
  by_cases hpg:bn<=ix
  ·have hpgd:decide ((bn:Int)<=(ix:Int))=Xc:=by simpa using hpg
   go_quiet (fail);obtain⟨W2,hW2⟩:=kB (W1.drewN nq);have G2:Xo (zc W1 W2):=dD<|by rw[<-hW2];exact(show Below _ _ _ from bD (bR _ _) _)
   rw[hW2];clear hW2 x8 d1 c3 c4 c5;have HE:=dD<|Ent.same p n f HB ⟨vl1,L1,M1.grew G2,LL1,K1.trans (zD.grew G2)⟩
   go_wp2
   (first | go_end0 | ((try simp only[Exit.inBlock,Exit.then]);refine bodyPost_ret (results_none rfl _ _ _) rfl ?_))
   first | exact HE.out | exact⟨⟨_,rfl⟩,HE⟩
  have hpgd:decide ((bn:Int)<=(ix:Int))=Xd:=by simpa using hpg
  obtain⟨bk,HBK⟩:∃bk,Xo (fl.bl[ix]? =Xa bk):=⟨_,gE (by rw[HBN.out];omega)⟩
  go_quiet (fail);obtain⟨W2,hW2⟩:=kB (W1.drewN nq);have G2:Xo (zc W1 W2):=dD<|by rw[<-hW2];exact(show Below _ _ _ from bD (bR _ _) _)
  rw[hW2];clear hW2 x8 d1 c3 c4 c5;have M2:=dD (M1.grew G2);have K2:=dD (K1.trans (zD.grew G2));have X2:=dD (X1.grew G2);have c4:=X2.box.c 4 rfl;have c5:=X2.box.c 5 rfl;have hcd:=zkS fi ix fl bk M2 HB.cached.1 HFL HBK (by omega) (by have:=(HB.pages (file:=(fi:Int)) (by omega) hfl).2;omega) HB.cached.2.1
  go_wp2_with fail;refine hcd.mono ?_;clear hcd c4 c5;rintro e W3 hres;have hres2:(e= Xl (I6 (-1))/\MkE w0 hi b w L V m vt T W3)\/∃(k:Nat) (V1:MaV) (m1:Ma) (fr:Fr),e= Xl (I6 (k:Int))/\MkE w0 hi b w L V1 m1 vt T W3/\qH m1 T/\m1.fs[k]? =Xa fr/\fr.f=(fi:Int)/\fr.x=(ix:Int)/\(m1.sp=m.sp/\m1.fl=m.fl/\m1.hand=m.hand/\m1.fs.length=m.fs.length):=by
   rcases hres with⟨he,hE⟩|⟨c,hc,hc1,hc2,he,hE⟩|⟨j,he,q,pg,u,d,sl,hj,hr,hno,hE⟩
   ·exact .inl ⟨he,hE.trans LL1 K2⟩
   ·obtain⟨k,fr,k1,k2,k3,k4⟩:=HB.cached.2.2 c hc;exact .inr ⟨k,V,m,fr,by rw[he,k1],hE.trans LL1 K2,HB,k2,k3.trans hc1,k4.trans hc2,rfl,rfl,rfl,rfl⟩
   refine .inr ⟨j,_,_,⟨pg,1,u,d,fi,ix⟩,he,hE.trans LL1 K2,HB.cache hj hr ⟨by omega,hfl⟩ ⟨by omega,?_⟩ hno,?_,rfl,rfl,rfl,rfl,rfl,Xu⟩
   ·unfold bkN;rw[tN,gD,HFL.out];simp only[Option.getD_some];have:=HBN.out;omega
   exact sF (gS.1 hj).1
  have X3:Xo (zx W3 px 81 [Xh Xc,Xh xrd,Xh xwr,Xh xsh,I6 (fi:Int),I6 (ix:Int)]):=dD<|by
   rcases hres with⟨_,_,_,_,_,hk⟩|⟨_,_,_,_,_,_,_,_,_,hk⟩|⟨_,_,_,_,_,_,_,_,_,_,_,_,_,_,hk⟩
   ·exact hk.1 _ _ _ X2 JC
   ·exact hk.1 _ _ _ X2 JC
   exact hk.1 _ _ _ X2 JC
  clear hres
  rcases hres2 with⟨rfl,hE⟩|⟨k,V1,m1,fr,rfl,⟨vl3,L3,mk3,ll3,kp3⟩,hb1,hk,hkf,hkx,hsame⟩
  ·have HEE:=dD hE;clear hE;have HE:=dD<|Ent.same p n f HB HEE.out
   go_wp2
   (first | go_end0 | ((try simp only[Exit.inBlock,Exit.then]);refine bodyPost_ret (results_none rfl _ _ _) rfl ?_))
   first | exact HE.out | exact⟨⟨_,rfl⟩,HE⟩
  have M3:=dD mk3;have K3:=dD kp3;have LL3:=dD ll3;have HB1:=dD hb1;have HK:=dD hk;have HKF:Xo (fr.f=(fi:Int)/\fr.x=(ix:Int)):=show _/\_ from⟨hkf,hkx⟩
  have HSM:=dD hsame
  obtain⟨hr0,hr1⟩:=hb1.refs hk;obtain⟨nf,HNF⟩:=kA m1.fs.length;have hkn:k<nf:=by rw[<-HNF.out];exact(gS.1 hk).1
  have hkz:(k:Int)< (nf:Int):=by omega
  have hk0:¬(k:Int)<0:=by omega
  clear mk3 ll3 kp3 hb1 hk hkf hkx hsame;obtain⟨g,cf,heq⟩:=M3.rows.fs.formS (by rw[HNF.out];omega)
  rw[HNF.out]at heq;have HEQ:Xo (V1.f.x= O (Xa ⟨g,0,Xb⟩) nf cf):=heq;have x1:=M3.box.box.c 1 rfl;(first|rw[HEQ.out]at x1|rw[show O _ _ _=_ from HEQ.out]at x1);have hrw:=M3.rows.fs;(first|rw[HEQ.out]at hrw|rw[show O _ _ _=_ from HEQ.out]at hrw);have HRW:=dD hrw;have hce:=hrw.one HK.out;have d8:W3.cell? ⟨g,k*13+8,Xb⟩=Xa (I6 fr.r):=by
   have:=hce 8 _ rfl;rw[zV,Addr.add_lit,zA]at this;exact this
  clear hce hrw heq;have xf:=HRW.unfrozen rfl;go_upto_region 11 with fail;obtain⟨ow4,gr4,sz4⟩:=HRW.cell (k:=k) (o:=8) rfl HK (y:={ fr with r:=fr.r+1 }) (u:=I6 (fr.r+1)) rfl (by decide)
  obtain⟨W4,hW4⟩:=kB (W3.setCell ⟨g,k*13+8,Xb⟩ (I6 (fr.r+1)));have e4:W3.setCell ⟨g,k*JR.k+8,Xb⟩ (I6 (fr.r+1))=W4:=hW4;rw[e4]at ow4 gr4 sz4;rw[hW4];rw[<-HEQ.out]at ow4;clear e4 hW4 xf;have hM4:=M3.setF (by rw[HEQ.out];rfl) gr4 sz4 ow4 (M3.rows.ap.2.inc HB1 HK)
  have M4:=dD hM4.1;have K4:=dD<|K3.trans hM4.2;have X4:=dD<|hM4.2.1 _ _ _ X3 JC;have HBF:Xo (∀wf:Bool,(wf=Xc->xsh=Xc/\xwr=Xc)->qH { m1 with fs:=m1.fs.set k { fr with r:=fr.r+1 } } (T.set p (qN f n ⟨1,(k:Int),wf⟩))):=show∀wf:Bool,_ from fun wf hwf=>HB1.hold HK (by rw[HKF.1];omega) (by rw[HSM.1];exact HS) HT hn H0 HIS (by rw[HKF.1];exact HSE.2.1) (by rw[HKF.2];exact HSE.2.2) (fun e=>by rw[HSE.1,HWR.out];exact hwf e)
  clear hM4 ow4 gr4 sz4 x1 d8
  cases xsh with
  | false=>
   obtain⟨gt,ct,hte⟩:=M4.rows.tt.formS (by rw[HTL.out];omega)
   rw[HTL.out]at hte;have HTE:Xo (vt.x= O (Xa ⟨gt,0,Xb⟩) tn ct):=hte;clear hte;obtain⟨I,HI⟩:∃I:Xn->Prop,Xo (∀u,I u↔u.cell? ⟨b,12,Xb⟩=Xa (O (Xa ⟨gt,0,Xb⟩) tn ct)/\zx u px 81 [Xh Xc,Xh xrd,Xh xwr,Xh Xd,I6 (fi:Int),I6 (ix:Int)]):=⟨fun u=>u.cell? ⟨b,12,Xb⟩=Xa (O (Xa ⟨gt,0,Xb⟩) tn ct)/\zx u px 81 [Xh Xc,Xh xrd,Xh xwr,Xh Xd,I6 (fi:Int),I6 (ix:Int)],fun _=>Iff.rfl⟩
   have HIM:Xo (∀u vl' L' V' m',Mk w0 hi u b vl' L' V' m' vt T->u.cell? ⟨b,12,Xb⟩=Xa (O (Xa ⟨gt,0,Xb⟩) tn ct)):=dD<|fun u vl' L' V' m' hm=>by
    have:=hm.box.box.c 12 rfl;(first|rw[HTE.out]at this|rw[show O _ _ _=_ from HTE.out]at this);exact this
   have hI0:I W4.drew:=(HI _).2 ⟨HIM _ _ _ _ _ (M4.grew (gW _)),X4.grew (gW _)⟩
   have hF0:MkE w0 hi b w L V1 { m1 with fs:=m1.fs.set k { fr with r:=fr.r+1 } } vt T W4.drew:=⟨vl3,L3,M4.grew (gW _),LL3,K4.trans (zD.grew (gW _))⟩
   have ht:∀y:zh I,y.world.cell? ⟨b,12,Xb⟩=Xa (O (Xa ⟨gt,0,Xb⟩) tn ct):=fun y=>((HI _).1 y.holds).1
   have hx2:∀y:zh I,y.world.cell? ⟨px,2,Xb⟩=Xa (Xh xwr):=fun y=>((HI _).1 y.holds).2.box.c 2 rfl
   have hx3:∀y:zh I,y.world.cell? ⟨px,3,Xb⟩=Xa (Xh Xd):=fun y=>((HI _).1 y.holds).2.box.c 3 rfl
   have hne:Nonempty (zh I):=⟨⟨_,hI0⟩⟩;have hptz:(p:Int)< (tn:Int):=by omega
   have hnz:(n:Int)<64:=by omega
   refine zG (I:=I) 21 [(15,fun v=>∃x:Int,v=I6 x)] (fun u=>MkE w0 hi b w L V1 { m1 with fs:=m1.fs.set k { fr with r:=fr.r+1 } } vt T u) hI0 hF0 zY (by kernel_rfl) rfl rfl (by decide) ?hS (by kernel_rfl) ?_
   case hS=>
    intro x hx;simp only[mC,nM,or_false]at hx;subst hx;exact⟨_,0,rfl⟩
   simp only[Yf,Yg];refine ze ?_
   refine zJ (.tmp 92) ⟨b,0,Xb⟩ rfl rfl rfl rfl ?_;refine Uq ?_;iterate 8 refine ze ?_
   refine jW ?_;refine jW ?_;iterate 2 refine ze ?_
   refine jW ?_;refine jW ?_;refine jW ?_;iterate 4 refine ze ?_
   refine qe fun W8 hI8 hF8=>?_
   obtain⟨vl8,L8,mk8,ll8,kp8⟩:=hF8;have M8:=dD mk8;have LL8:=dD ll8;have K8:=dD kp8;clear mk8 ll8 kp8 hI8 hI0 hF0 ht hx2 hx3 hne;have R8:Xo (zb Jp w0.heap.size W8 (O (Xa ⟨gt,0,Xb⟩) tn ct) T):=show zb _ _ _ _ _ by rw[<-HTE.out];exact M8.rows.tt
   refine zw (E:=Jp) rfl (.tmp 112) (.tmp 110) 75 rfl w0.heap.size _ T R8 gt p (n*3) rfl f (qN f n ⟨1,(k:Int),Xd⟩) HT (env ⟨1,(k:Int),Xd⟩) (by kernel_rfl) (jS f hn _) (by show n*3+3<=192;omega) (enE.one _) ⟨gt,p*192+n*3,Xb⟩ rfl rfl (Xi (env ⟨1,(k:Int),Xd⟩).toArray) rfl rfl ?_
   intro W9 ow9 gr9 sz9;rw[<-HTE.out]at ow9;have hM9:=M8.setT (by rw[HTE.out];rfl) gr9 sz9 ow9
   have M9:=dD hM9.1;have K9:=dD<|K8.trans hM9.2;clear hM9 ow9 gr9 sz9;have HE:Xo (Ent w0 hi b w L m vt T p n f W9):=show Ent _ _ _ _ _ _ _ _ _ _ _ _ from⟨vl8,L8,_,_,_,M9,LL8,K9,HBF _ (by intro e;first | exact⟨rfl,rfl⟩ | cases e),⟨HSM.1,HSM.2.1,HSM.2.2.1,List.length_set.trans HSM.2.2.2⟩,.inr ⟨_,rfl⟩,fun h=>absurd h HLN⟩
   go_wp2
   (first | go_end0 | ((try simp only[Exit.inBlock,Exit.then]);refine bodyPost_ret (results_none rfl _ _ _) rfl ?_))
   first | exact HE.out | exact⟨⟨_,rfl⟩,HE⟩
  | true=>
   cases xwr with
   | false=>
    obtain⟨gt,ct,hte⟩:=M4.rows.tt.formS (by rw[HTL.out];omega)
    rw[HTL.out]at hte;have HTE:Xo (vt.x= O (Xa ⟨gt,0,Xb⟩) tn ct):=hte;clear hte;obtain⟨I,HI⟩:∃I:Xn->Prop,Xo (∀u,I u↔u.cell? ⟨b,12,Xb⟩=Xa (O (Xa ⟨gt,0,Xb⟩) tn ct)/\zx u px 81 [Xh Xc,Xh xrd,Xh Xd,Xh Xc,I6 (fi:Int),I6 (ix:Int)]):=⟨fun u=>u.cell? ⟨b,12,Xb⟩=Xa (O (Xa ⟨gt,0,Xb⟩) tn ct)/\zx u px 81 [Xh Xc,Xh xrd,Xh Xd,Xh Xc,I6 (fi:Int),I6 (ix:Int)],fun _=>Iff.rfl⟩
    have HIM:Xo (∀u vl' L' V' m',Mk w0 hi u b vl' L' V' m' vt T->u.cell? ⟨b,12,Xb⟩=Xa (O (Xa ⟨gt,0,Xb⟩) tn ct)):=dD<|fun u vl' L' V' m' hm=>by
     have:=hm.box.box.c 12 rfl;(first|rw[HTE.out]at this|rw[show O _ _ _=_ from HTE.out]at this);exact this
    have hI0:I W4.drew:=(HI _).2 ⟨HIM _ _ _ _ _ (M4.grew (gW _)),X4.grew (gW _)⟩
    have hF0:MkE w0 hi b w L V1 { m1 with fs:=m1.fs.set k { fr with r:=fr.r+1 } } vt T W4.drew:=⟨vl3,L3,M4.grew (gW _),LL3,K4.trans (zD.grew (gW _))⟩
    have ht:∀y:zh I,y.world.cell? ⟨b,12,Xb⟩=Xa (O (Xa ⟨gt,0,Xb⟩) tn ct):=fun y=>((HI _).1 y.holds).1
    have hx2:∀y:zh I,y.world.cell? ⟨px,2,Xb⟩=Xa (Xh Xd):=fun y=>((HI _).1 y.holds).2.box.c 2 rfl
    have hx3:∀y:zh I,y.world.cell? ⟨px,3,Xb⟩=Xa (Xh Xc):=fun y=>((HI _).1 y.holds).2.box.c 3 rfl
    have hne:Nonempty (zh I):=⟨⟨_,hI0⟩⟩;have hptz:(p:Int)< (tn:Int):=by omega
    have hnz:(n:Int)<64:=by omega
    refine zG (I:=I) 21 [(15,fun v=>∃x:Int,v=I6 x)] (fun u=>MkE w0 hi b w L V1 { m1 with fs:=m1.fs.set k { fr with r:=fr.r+1 } } vt T u) hI0 hF0 zY (by kernel_rfl) rfl rfl (by decide) ?hS (by kernel_rfl) ?_
    case hS=>
     intro x hx;simp only[mC,nM,or_false]at hx;subst hx;exact⟨_,0,rfl⟩
    simp only[Yf,Yg];refine ze ?_
    refine zJ (.tmp 92) ⟨b,0,Xb⟩ rfl rfl rfl rfl ?_;refine Uq ?_;iterate 8 refine ze ?_
    iterate 4 refine ze ?_
    refine jW ?_;refine jW ?_;refine jW ?_;iterate 4 refine ze ?_
    refine qe fun W8 hI8 hF8=>?_
    obtain⟨vl8,L8,mk8,ll8,kp8⟩:=hF8;have M8:=dD mk8;have LL8:=dD ll8;have K8:=dD kp8;clear mk8 ll8 kp8 hI8 hI0 hF0 ht hx2 hx3 hne;have R8:Xo (zb Jp w0.heap.size W8 (O (Xa ⟨gt,0,Xb⟩) tn ct) T):=show zb _ _ _ _ _ by rw[<-HTE.out];exact M8.rows.tt
    refine zw (E:=Jp) rfl (.tmp 112) (.tmp 110) 75 rfl w0.heap.size _ T R8 gt p (n*3) rfl f (qN f n ⟨1,(k:Int),Xd⟩) HT (env ⟨1,(k:Int),Xd⟩) (by kernel_rfl) (jS f hn _) (by show n*3+3<=192;omega) (enE.one _) ⟨gt,p*192+n*3,Xb⟩ rfl rfl (Xi (env ⟨1,(k:Int),Xd⟩).toArray) rfl rfl ?_
    intro W9 ow9 gr9 sz9;rw[<-HTE.out]at ow9;have hM9:=M8.setT (by rw[HTE.out];rfl) gr9 sz9 ow9
    have M9:=dD hM9.1;have K9:=dD<|K8.trans hM9.2;clear hM9 ow9 gr9 sz9;have HE:Xo (Ent w0 hi b w L m vt T p n f W9):=show Ent _ _ _ _ _ _ _ _ _ _ _ _ from⟨vl8,L8,_,_,_,M9,LL8,K9,HBF _ (by intro e;first | exact⟨rfl,rfl⟩ | cases e),⟨HSM.1,HSM.2.1,HSM.2.2.1,List.length_set.trans HSM.2.2.2⟩,.inr ⟨_,rfl⟩,fun h=>absurd h HLN⟩
    go_wp2
    (first | go_end0 | ((try simp only[Exit.inBlock,Exit.then]);refine bodyPost_ret (results_none rfl _ _ _) rfl ?_))
    first | exact HE.out | exact⟨⟨_,rfl⟩,HE⟩
   | true=>
    obtain⟨gt,ct,hte⟩:=M4.rows.tt.formS (by rw[HTL.out];omega)
    rw[HTL.out]at hte;have HTE:Xo (vt.x= O (Xa ⟨gt,0,Xb⟩) tn ct):=hte;clear hte;obtain⟨I,HI⟩:∃I:Xn->Prop,Xo (∀u,I u↔u.cell? ⟨b,12,Xb⟩=Xa (O (Xa ⟨gt,0,Xb⟩) tn ct)/\zx u px 81 [Xh Xc,Xh xrd,Xh Xc,Xh Xc,I6 (fi:Int),I6 (ix:Int)]):=⟨fun u=>u.cell? ⟨b,12,Xb⟩=Xa (O (Xa ⟨gt,0,Xb⟩) tn ct)/\zx u px 81 [Xh Xc,Xh xrd,Xh Xc,Xh Xc,I6 (fi:Int),I6 (ix:Int)],fun _=>Iff.rfl⟩
    have HIM:Xo (∀u vl' L' V' m',Mk w0 hi u b vl' L' V' m' vt T->u.cell? ⟨b,12,Xb⟩=Xa (O (Xa ⟨gt,0,Xb⟩) tn ct)):=dD<|fun u vl' L' V' m' hm=>by
     have:=hm.box.box.c 12 rfl;(first|rw[HTE.out]at this|rw[show O _ _ _=_ from HTE.out]at this);exact this
    have hI0:I W4.drew:=(HI _).2 ⟨HIM _ _ _ _ _ (M4.grew (gW _)),X4.grew (gW _)⟩
    have hF0:MkE w0 hi b w L V1 { m1 with fs:=m1.fs.set k { fr with r:=fr.r+1 } } vt T W4.drew:=⟨vl3,L3,M4.grew (gW _),LL3,K4.trans (zD.grew (gW _))⟩
    have ht:∀y:zh I,y.world.cell? ⟨b,12,Xb⟩=Xa (O (Xa ⟨gt,0,Xb⟩) tn ct):=fun y=>((HI _).1 y.holds).1
    have hx2:∀y:zh I,y.world.cell? ⟨px,2,Xb⟩=Xa (Xh Xc):=fun y=>((HI _).1 y.holds).2.box.c 2 rfl
    have hx3:∀y:zh I,y.world.cell? ⟨px,3,Xb⟩=Xa (Xh Xc):=fun y=>((HI _).1 y.holds).2.box.c 3 rfl
    have hne:Nonempty (zh I):=⟨⟨_,hI0⟩⟩;have hptz:(p:Int)< (tn:Int):=by omega
    have hnz:(n:Int)<64:=by omega
    refine zG (I:=I) 21 [(15,fun v=>∃x:Int,v=I6 x)] (fun u=>MkE w0 hi b w L V1 { m1 with fs:=m1.fs.set k { fr with r:=fr.r+1 } } vt T u) hI0 hF0 zY (by kernel_rfl) rfl rfl (by decide) ?hS (by kernel_rfl) ?_
    case hS=>
     intro x hx;simp only[mC,nM,or_false]at hx;subst hx;exact⟨_,0,rfl⟩
    simp only[Yf,Yg];refine ze ?_
    refine zJ (.tmp 92) ⟨b,0,Xb⟩ rfl rfl rfl rfl ?_;refine Uq ?_;iterate 8 refine ze ?_
    iterate 4 refine ze ?_
    refine ze ?_
    refine zI rfl rfl (fun _ u=>MkE w0 hi b w L V1 { m1 with fs:=m1.fs.set k { fr with r:=fr.r+1 } } vt T u) (fun w' hI' hF'=>?_) (fun v1 hv=>?_)
    ·obtain⟨vl',L',mk',ll',kp'⟩:=hF';refine zQ.call [Xj (Xa ⟨b,0,Xb⟩),I6 2] rfl func15 rfl rfl rfl ?_;refine(qz 2 mk').mono ?_;rintro e w'' ⟨vl2,L2,x,rfl,mk2,gr2,_,_,_,_,ll2⟩;exact⟨_,rfl,(HI _).2 ⟨HIM _ _ _ _ _ mk2,(mk'.keeps gr2).1 _ _ _ ((HI _).1 hI').2 JC⟩,⟨x,rfl⟩,vl2,L2,mk2,ll'.trans ll2,kp'.trans (mk'.keeps gr2)⟩
    obtain⟨xq,rfl⟩:=hv;refine Uq ?_;iterate 5 refine ze ?_
    refine qe fun W8 hI8 hF8=>?_
    obtain⟨vl8,L8,mk8,ll8,kp8⟩:=hF8;have M8:=dD mk8;have LL8:=dD ll8;have K8:=dD kp8;clear mk8 ll8 kp8 hI8 hI0 hF0 ht hx2 hx3 hne;have R8:Xo (zb Jp w0.heap.size W8 (O (Xa ⟨gt,0,Xb⟩) tn ct) T):=show zb _ _ _ _ _ by rw[<-HTE.out];exact M8.rows.tt
    refine zw (E:=Jp) rfl (.tmp 112) (.tmp 110) 75 rfl w0.heap.size _ T R8 gt p (n*3) rfl f (qN f n ⟨1,(k:Int),(xq == 1)⟩) HT (env ⟨1,(k:Int),(xq == 1)⟩) (by kernel_rfl) (jS f hn _) (by show n*3+3<=192;omega) (enE.one _) ⟨gt,p*192+n*3,Xb⟩ rfl rfl (Xi (env ⟨1,(k:Int),(xq == 1)⟩).toArray) rfl rfl ?_
    intro W9 ow9 gr9 sz9;rw[<-HTE.out]at ow9;have hM9:=M8.setT (by rw[HTE.out];rfl) gr9 sz9 ow9
    have M9:=dD hM9.1;have K9:=dD<|K8.trans hM9.2;clear hM9 ow9 gr9 sz9;have HE:Xo (Ent w0 hi b w L m vt T p n f W9):=show Ent _ _ _ _ _ _ _ _ _ _ _ _ from⟨vl8,L8,_,_,_,M9,LL8,K9,HBF _ (by intro e;first | exact⟨rfl,rfl⟩ | cases e),⟨HSM.1,HSM.2.1,HSM.2.2.1,List.length_set.trans HSM.2.2.2⟩,.inr ⟨_,rfl⟩,fun h=>absurd h HLN⟩
    go_wp2
    (first | go_end0 | ((try simp only[Exit.inBlock,Exit.then]);refine bodyPost_ret (results_none rfl _ _ _) rfl ?_))
    first | exact HE.out | exact⟨⟨_,rfl⟩,HE⟩
 | false=>
  have hsh:=HC0.out rfl;subst hsh;have x3:=M1.box.box.c 3 rfl;obtain⟨sn,hsn⟩:=kB V.s.n;have HSL:Xo (m.sl.length=sn):=dD<|by rw[<-hsn];exact M1.rows.sl.n.symm
  (try simp only[Sli.x]at x3);rw[hsn]at x3;clear hsn;go_upto_region 12 with fail
  go_cut [113] (fun s113 wx=>∃c2:Bool,s113= Xh c2/\wx=W1/\Xo (c2=Xc->0<sn))
  case first=>
   by_cases h2:y=2
   ·have h2e:(y == 2)=Xc:=by simp[h2]
    clear h2;go_wp2
    go_meet
    exact⟨_,rfl,rfl,fun h=>by simpa using h⟩
   have h2e:(y == 2)=Xd:=by simp[h2]
   clear h2;go_wp2
   go_meet
   exact⟨Xd,rfl,rfl,fun h=>(by cases h)⟩
  obtain⟨c2,rfl,hwc,HC2⟩:=hcut;rw[hwc];clear hwc
  cases c2 with
  | true=>
   have hs0:=HC2.out rfl;have hpk2:=qz (sn:Int) M1.out;go_wp2_with fail;refine hpk2.mono ?_;clear hpk2;rintro e W2 ⟨vl2,L2,z,rfl,mk2,gr2,sz2,z0,z1,_,ll2⟩;obtain⟨k,rfl⟩:∃k:Nat,z=(k:Int):=⟨z.toNat,by omega⟩
   have hks:k<sn:=by rcases z1 with h | h <;> omega
   have hksz:(k:Int)< (sn:Int):=by omega
   have M2:=dD mk2;have K2:=dD (K1.trans (M1.keeps gr2));have LL2:=dD (LL1.trans ll2);clear mk2 gr2 sz2 z0 z1 ll2 x3;obtain⟨g,cs',heq⟩:=M2.rows.sl.formS (by rw[HSL.out];omega)
   rw[HSL.out]at heq;have HEQ:Xo (V.s.x= O (Xa ⟨g,0,Xb⟩) sn cs'):=heq;have x3:=M2.box.box.c 3 rfl;(first|rw[HEQ.out]at x3|rw[show O _ _ _=_ from HEQ.out]at x3);have hrw:=M2.rows.sl;(first|rw[HEQ.out]at hrw|rw[show O _ _ _=_ from HEQ.out]at hrw);have HRW:=dD hrw;obtain⟨zv,HZV⟩:∃zv,Xo (m.sl[k]? =Xa zv):=⟨_,gE (by rw[HSL.out];exact hks)⟩
   have hce:=hrw.one HZV.out;have d0:W2.cell? ⟨g,k,Xb⟩=Xa (I6 zv):=by
    have:=hce 0 _ rfl;rw[zV,Addr.add_lit,zA]at this
    simpa [slE,Nat.mul_one]using this
   clear hce hrw heq
   by_cases hz:zv=0
   ·have hze:(zv == 0)=Xc:=by simp[hz]
    have HZ0:Xo (m.sl[k]? =Xa 0):=dD<|by rw[HZV.out,hz]
    clear hz;have xf:=HRW.unfrozen rfl;go_upto_region 16 with fail;obtain⟨ow3,gr3,sz3⟩:=HRW.cell (k:=k) (o:=0) rfl HZV (y:=1) (u:=I6 1) rfl (by decide)
    obtain⟨W3,hW3⟩:=kB (W2.setCell ⟨g,k,Xb⟩ (I6 1));have e3:W2.setCell ⟨g,k*slE.k+0,Xb⟩ (I6 1)=W3:=by rw[<-hW3];simp[slE]
    rw[e3]at ow3 gr3 sz3;rw[hW3];rw[<-HEQ.out]at ow3;clear e3 hW3 xf;have hM3:=M2.setS (by rw[HEQ.out];rfl) gr3 sz3 ow3
    have M3:=dD hM3.1;have K3:=dD<|K2.trans hM3.2;clear hM3 ow3 gr3 sz3 x3 d0;have HSBL:Xo (m.sb.length=sn):=show _=_ by rw[HB.sbl,HSL.out]
    obtain⟨gb,cb,hbe⟩:∃gb cb,V.sb.x= O (Xa ⟨gb,0,Xb⟩) sn cb:=by
     have h1:=M3.rows.sb.1;have hl:({ m with sl:=m.sl.set k 1 }:Ma).sb.length=sn:=HSBL.out;rw[hl]at h1
     rcases h1.2 with⟨_,h2⟩|⟨gb,cap,cur,e1,_⟩
     ·omega
     exact⟨gb,cap,e1⟩
    have HBE:=dD hbe;clear hbe;obtain⟨I,HI⟩:∃I:Xn->Prop,Xo (∀u,I u↔u.cell? ⟨b,4,Xb⟩=Xa (O (Xa ⟨gb,0,Xb⟩) sn cb)):=⟨fun u=>u.cell? ⟨b,4,Xb⟩=Xa (O (Xa ⟨gb,0,Xb⟩) sn cb),fun _=>Iff.rfl⟩
    have HIM:Xo (∀u vl' L' m',Mk w0 hi u b vl' L' V m' vt T->u.cell? ⟨b,4,Xb⟩=Xa (O (Xa ⟨gb,0,Xb⟩) sn cb)):=dD<|fun u vl' L' m' hm=>by
     have:=hm.box.box.c 4 rfl;(first|rw[HBE.out]at this|rw[show O _ _ _=_ from HBE.out]at this);exact this
    have hI0:=(HI _).2 (HIM _ _ _ _ (M3.grew (gW _)))
    have hF0:MkE w0 hi b w L V { m with sl:=m.sl.set k 1 } vt T W3.drew:=⟨vl2,L2,M3.grew (gW _),LL2,K3.trans (zD.grew (gW _))⟩
    have ht:∀y:zh I,y.world.cell? ⟨b,4,Xb⟩=Xa (O (Xa ⟨gb,0,Xb⟩) sn cb):=fun y=>(HI _).1 y.holds
    have hne:Nonempty (zh I):=⟨⟨_,hI0⟩⟩;refine zG (I:=I) 10 [(8,fun v=>∃q:List Int,v= Xi (pgc q).toArray/\q.length=8)] (fun u=>MkE w0 hi b w L V { m with sl:=m.sl.set k 1 } vt T u) hI0 hF0 zY (by kernel_rfl) rfl rfl (by decide) ?hS (by kernel_rfl) ?_
    case hS=>
     intro x hx;simp only[mC,nM,or_false]at hx;subst hx;exact⟨_,zz,rfl,rfl⟩
    simp only[Yf,Yg];refine ze ?_
    refine zJ (.tmp 149) ⟨b,0,Xb⟩ rfl rfl rfl rfl ?_;refine Uq ?_;iterate 6 refine ze ?_
    refine zI rfl rfl (fun _ u=>MkE w0 hi b w L V { m with sl:=m.sl.set k 1 } vt T u) (fun w' hI' hF'=>?_) (fun v1 hv=>?_)
    ·obtain⟨vl',L',mk',ll',kp'⟩:=hF';refine zQ.call [Xj (Xa ⟨b,0,Xb⟩)] rfl func18 rfl rfl rfl ?_;refine(zcC mk').mono ?_;rintro e w'' ⟨vl3,L3,q,rfl,ql,mk3,gr3,ll3⟩;exact⟨_,rfl,(HI _).2 (HIM _ _ _ _ mk3),⟨q,rfl,ql⟩,vl3,L3,mk3,ll'.trans ll3,kp'.trans (mk'.keeps gr3)⟩
    obtain⟨q6,rfl,ql6⟩:=hv;have HQL:=dD ql6;clear ql6;refine Uq ?_;refine ze ?_
    refine qe fun W6 hI6 hF6=>?_
    obtain⟨vl6,L6,mk6,ll6,kp6⟩:=hF6;have M6:=dD mk6;have LL6:=dD ll6;have K6:=dD kp6;clear mk6 ll6 kp6 hI6 hI0 hF0 ht hne;have R6:Xo (zj w0.heap.size W6 (O (Xa ⟨gb,0,Xb⟩) sn cb) m.sb):=show zj _ _ _ _ by rw[<-HBE.out];exact M6.rows.sb
    refine Zc rfl (.tmp 158) (.tmp 157) rfl w0.heap.size _ m.sb R6 gb k rfl (by rw[HSBL.out];exact hks) q6 HQL ⟨gb,k*8,Xb⟩ rfl rfl rfl ?_
    intro W7 ow7 gr7 sz7;rw[<-HBE.out]at ow7;have hM7:=M6.setSb (by rw[HBE.out];rfl) gr7 sz7 ow7
    have M7:Xo (Mk w0 hi W7 b vl6 L6 V { m with sl:=m.sl.set k 1,sb:=m.sb.set k q6 } vt T):=hM7.1;have K7:=dD<|K6.trans hM7.2;clear hM7 ow7 gr7 sz7;obtain⟨gt,ct,hte⟩:=M7.rows.tt.formS (by rw[HTL.out];omega)
    rw[HTL.out]at hte;have HTE:Xo (vt.x= O (Xa ⟨gt,0,Xb⟩) tn ct):=hte;have R7:Xo (zb Jp w0.heap.size W7 (O (Xa ⟨gt,0,Xb⟩) tn ct) T):=show zb _ _ _ _ _ by rw[<-HTE.out];exact M7.rows.tt
    have x12:=M7.box.box.c 12 rfl;(first|rw[HTE.out]at x12|rw[show O _ _ _=_ from HTE.out]at x12);have hptz:(p:Int)< (tn:Int):=by omega
    have hnz:(n:Int)<64:=by omega
    clear hte
    go_wp2_with (refine zw (E:=Jp) rfl (.tmp 168) (.tmp 166) 75 rfl w0.heap.size _ T R7 gt p (n*3) rfl f (qN f n ⟨2,(k:Int),Xd⟩) HT (env ⟨2,(k:Int),Xd⟩) (by kernel_rfl) (jS f hn _) (by show n*3+3<=192;omega) (enE.one _) ⟨gt,p*192+n*3,Xb⟩ rfl rfl (Xi (env ⟨2,(k:Int),Xd⟩).toArray) rfl rfl ?_)
    intro W9 ow9 gr9 sz9;rw[<-HTE.out]at ow9;have hM9:=M7.setT (by rw[HTE.out];rfl) gr9 sz9 ow9
    have M9:=dD hM9.1;have K9:=dD<|K7.trans hM9.2;have HBF:Xo (qH { m with sl:=m.sl.set k 1,sb:=m.sb.set k q6 } (T.set p (qN f n ⟨2,(k:Int),Xd⟩))):=HB.swap HZ0 HS HT hn H0 HIS HSE.1;clear hM9 ow9 gr9 sz9 x12;have HE:Xo (Ent w0 hi b w L m vt T p n f W9):=show Ent _ _ _ _ _ _ _ _ _ _ _ _ from⟨vl6,L6,_,_,_,M9,LL6,K9,HBF,⟨rfl,rfl,rfl,rfl⟩,.inr ⟨_,rfl⟩,fun h=>absurd h HLN⟩
    go_wp2
    (first | go_end0 | ((try simp only[Exit.inBlock,Exit.then]);refine bodyPost_ret (results_none rfl _ _ _) rfl ?_))
    first | exact HE.out | exact⟨⟨_,rfl⟩,HE⟩
   have hze:(zv == 0)=Xd:=by simp[hz]
   clear hz;have HE:=dD<|Ent.same p n f HB ⟨vl2,L2,M2,LL2,K2⟩
   go_wp2
   (first | go_end0 | ((try simp only[Exit.inBlock,Exit.then]);refine bodyPost_ret (results_none rfl _ _ _) rfl ?_))
   first | exact HE.out | exact⟨⟨_,rfl⟩,HE⟩
  | false=>
   go_upto_region 2 with fail;clear x3;have hpg2:=zcC M1.out;go_wp2_with fail;refine hpg2.mono ?_;clear hpg2;rintro e W5 ⟨vl5,L5,q5,rfl,ql5,mk5,gr5,ll5⟩;obtain⟨p0,p1,p2,p3,p4,p5,p6,p7,rfl⟩:=zfr q5 ql5;simp only[pgc,mP,Xz];have M5:=dD mk5;have K5:=dD (K1.trans (M1.keeps gr5));have X5:=dD<|(M1.keeps gr5).1 _ _ _ X1 JC;have LL5:=dD (LL1.trans ll5);clear ql5 mk5 gr5 ll5;have hpk2:=qz 2 M5.out;go_wp2_with fail;refine hpk2.mono ?_;clear hpk2;rintro e W6 ⟨vl6,L6,z,rfl,mk6,gr6,_,_,_,_,ll6⟩;have M6:=dD mk6;have K6:=dD (K5.trans (M5.keeps gr6));have X6:=dD<|(M5.keeps gr6).1 _ _ _ X5 JC;have LL6:=dD (LL5.trans ll6);clear mk6 gr6 ll6;have hfm:=zgU ⟨⟨p0,p1,p2,p3,p4,p5,p6,p7⟩,1,z == 1,Xd,-1,0⟩ M6 ⟨fun _=>rfl,fun _ e=>absurd rfl e⟩
   go_wp2_with fail;refine hfm.mono ?_;clear hfm;rintro e W7 (⟨rfl,hE⟩|⟨k,q,rfl,hq,hr,vl7,L7,mk7,ll7,kp7⟩)
   ·have HEE:=dD<|hE.trans LL6 K6.out;clear hE;have HE:=dD<|Ent.same p n f HB HEE.out
    go_wp2
    (first | go_end0 | ((try simp only[Exit.inBlock,Exit.then]);refine bodyPost_ret (results_none rfl _ _ _) rfl ?_))
    first | exact HE.out | exact⟨⟨_,rfl⟩,HE⟩
   have HQ:=dD hq;have HR0:=dD hr;have M7:=dD mk7;have K7:=dD (K6.trans kp7);have X7:=dD<|kp7.1 _ _ _ X6 JC;have LL7:=dD (LL6.trans ll7);clear hq hr mk7 ll7 kp7;have hk0:(0:Int)<=(k:Int):=by omega
   have hkd:decide ((0:Int)<=(k:Int))=Xc:=by simp
   have HBF:Xo (∀wf:Bool,(wf=Xc->xwr=Xc)->qH { m with fs:=m.fs.set k ⟨⟨p0,p1,p2,p3,p4,p5,p6,p7⟩,1,z == 1,Xd,-1,0⟩ } (T.set p (qN f n ⟨1,(k:Int),wf⟩))):=dD<|fun wf hwf=>HB.mine HQ HR0 HS HT hn H0 HIS HSE.1 (fun e=>by rw[HWR.out];exact hwf e)
   go_upto_region 4 with fail
   cases xwr with
   | false=>
    obtain⟨gt,ct,hte⟩:=M7.rows.tt.formS (by rw[HTL.out];omega)
    rw[HTL.out]at hte;have HTE:Xo (vt.x= O (Xa ⟨gt,0,Xb⟩) tn ct):=hte;clear hte;obtain⟨I,HI⟩:∃I:Xn->Prop,Xo (∀u,I u↔u.cell? ⟨b,12,Xb⟩=Xa (O (Xa ⟨gt,0,Xb⟩) tn ct)/\zx u px 81 [Xh Xc,Xh xrd,Xh Xd,Xh Xd,I6 xfi,I6 xpg]):=⟨fun u=>u.cell? ⟨b,12,Xb⟩=Xa (O (Xa ⟨gt,0,Xb⟩) tn ct)/\zx u px 81 [Xh Xc,Xh xrd,Xh Xd,Xh Xd,I6 xfi,I6 xpg],fun _=>Iff.rfl⟩
    have HIM:Xo (∀u vl' L' V' m',Mk w0 hi u b vl' L' V' m' vt T->u.cell? ⟨b,12,Xb⟩=Xa (O (Xa ⟨gt,0,Xb⟩) tn ct)):=dD<|fun u vl' L' V' m' hm=>by
     have:=hm.box.box.c 12 rfl;(first|rw[HTE.out]at this|rw[show O _ _ _=_ from HTE.out]at this);exact this
    have hI0:I W7.drew:=(HI _).2 ⟨HIM _ _ _ _ _ (M7.grew (gW _)),X7.grew (gW _)⟩
    have hF0:MkE w0 hi b w L V { m with fs:=m.fs.set k ⟨⟨p0,p1,p2,p3,p4,p5,p6,p7⟩,1,z == 1,Xd,-1,0⟩ } vt T W7.drew:=⟨vl7,L7,M7.grew (gW _),LL7,K7.trans (zD.grew (gW _))⟩
    have ht:∀y:zh I,y.world.cell? ⟨b,12,Xb⟩=Xa (O (Xa ⟨gt,0,Xb⟩) tn ct):=fun y=>((HI _).1 y.holds).1
    have hx2:∀y:zh I,y.world.cell? ⟨px,2,Xb⟩=Xa (Xh Xd):=fun y=>((HI _).1 y.holds).2.box.c 2 rfl
    have hx3:∀y:zh I,y.world.cell? ⟨px,3,Xb⟩=Xa (Xh Xd):=fun y=>((HI _).1 y.holds).2.box.c 3 rfl
    have hne:Nonempty (zh I):=⟨⟨_,hI0⟩⟩;have hptz:(p:Int)< (tn:Int):=by omega
    have hnz:(n:Int)<64:=by omega
    refine zG (I:=I) 17 [(11,fun v=>∃x:Int,v=I6 x)] (fun u=>MkE w0 hi b w L V { m with fs:=m.fs.set k ⟨⟨p0,p1,p2,p3,p4,p5,p6,p7⟩,1,z == 1,Xd,-1,0⟩ } vt T u) hI0 hF0 zY (by kernel_rfl) rfl rfl (by decide) ?hS (by kernel_rfl) ?_
    case hS=>
     intro x hx;simp only[mC,nM,or_false]at hx;subst hx;exact⟨_,0,rfl⟩
    simp only[Yf,Yg];refine ze ?_
    refine zJ (.tmp 24) ⟨b,0,Xb⟩ rfl rfl rfl rfl ?_;refine Uq ?_;iterate 8 refine ze ?_
    refine jW ?_;refine jW ?_;refine jW ?_;iterate 4 refine ze ?_
    refine qe fun W8 hI8 hF8=>?_
    obtain⟨vl8,L8,mk8,ll8,kp8⟩:=hF8;have M8:=dD mk8;have LL8:=dD ll8;have K8:=dD kp8;clear mk8 ll8 kp8 hI8 hI0 hF0 ht hx2 hx3 hne;have R8:Xo (zb Jp w0.heap.size W8 (O (Xa ⟨gt,0,Xb⟩) tn ct) T):=show zb _ _ _ _ _ by rw[<-HTE.out];exact M8.rows.tt
    refine zw (E:=Jp) rfl (.tmp 40) (.tmp 38) 75 rfl w0.heap.size _ T R8 gt p (n*3) rfl f (qN f n ⟨1,(k:Int),Xd⟩) HT (env ⟨1,(k:Int),Xd⟩) (by kernel_rfl) (jS f hn _) (by show n*3+3<=192;omega) (enE.one _) ⟨gt,p*192+n*3,Xb⟩ rfl rfl (Xi (env ⟨1,(k:Int),Xd⟩).toArray) rfl rfl ?_
    intro W9 ow9 gr9 sz9;rw[<-HTE.out]at ow9;have hM9:=M8.setT (by rw[HTE.out];rfl) gr9 sz9 ow9
    have M9:=dD hM9.1;have K9:=dD<|K8.trans hM9.2;clear hM9 ow9 gr9 sz9;have HE:Xo (Ent w0 hi b w L m vt T p n f W9):=show Ent _ _ _ _ _ _ _ _ _ _ _ _ from⟨vl8,L8,_,_,_,M9,LL8,K9,HBF _ (by intro e;first | rfl | cases e),⟨rfl,rfl,rfl,Xu⟩,.inr ⟨_,rfl⟩,fun h=>absurd h HLN⟩
    go_wp2
    (first | go_end0 | ((try simp only[Exit.inBlock,Exit.then]);refine bodyPost_ret (results_none rfl _ _ _) rfl ?_))
    first | exact HE.out | exact⟨⟨_,rfl⟩,HE⟩
   | true=>
    obtain⟨gt,ct,hte⟩:=M7.rows.tt.formS (by rw[HTL.out];omega)
    rw[HTL.out]at hte;have HTE:Xo (vt.x= O (Xa ⟨gt,0,Xb⟩) tn ct):=hte;clear hte;obtain⟨I,HI⟩:∃I:Xn->Prop,Xo (∀u,I u↔u.cell? ⟨b,12,Xb⟩=Xa (O (Xa ⟨gt,0,Xb⟩) tn ct)/\zx u px 81 [Xh Xc,Xh xrd,Xh Xc,Xh Xd,I6 xfi,I6 xpg]):=⟨fun u=>u.cell? ⟨b,12,Xb⟩=Xa (O (Xa ⟨gt,0,Xb⟩) tn ct)/\zx u px 81 [Xh Xc,Xh xrd,Xh Xc,Xh Xd,I6 xfi,I6 xpg],fun _=>Iff.rfl⟩
    have HIM:Xo (∀u vl' L' V' m',Mk w0 hi u b vl' L' V' m' vt T->u.cell? ⟨b,12,Xb⟩=Xa (O (Xa ⟨gt,0,Xb⟩) tn ct)):=dD<|fun u vl' L' V' m' hm=>by
     have:=hm.box.box.c 12 rfl;(first|rw[HTE.out]at this|rw[show O _ _ _=_ from HTE.out]at this);exact this
    have hI0:I W7.drew:=(HI _).2 ⟨HIM _ _ _ _ _ (M7.grew (gW _)),X7.grew (gW _)⟩
    have hF0:MkE w0 hi b w L V { m with fs:=m.fs.set k ⟨⟨p0,p1,p2,p3,p4,p5,p6,p7⟩,1,z == 1,Xd,-1,0⟩ } vt T W7.drew:=⟨vl7,L7,M7.grew (gW _),LL7,K7.trans (zD.grew (gW _))⟩
    have ht:∀y:zh I,y.world.cell? ⟨b,12,Xb⟩=Xa (O (Xa ⟨gt,0,Xb⟩) tn ct):=fun y=>((HI _).1 y.holds).1
    have hx2:∀y:zh I,y.world.cell? ⟨px,2,Xb⟩=Xa (Xh Xc):=fun y=>((HI _).1 y.holds).2.box.c 2 rfl
    have hx3:∀y:zh I,y.world.cell? ⟨px,3,Xb⟩=Xa (Xh Xd):=fun y=>((HI _).1 y.holds).2.box.c 3 rfl
    have hne:Nonempty (zh I):=⟨⟨_,hI0⟩⟩;have hptz:(p:Int)< (tn:Int):=by omega
    have hnz:(n:Int)<64:=by omega
    refine zG (I:=I) 17 [(11,fun v=>∃x:Int,v=I6 x)] (fun u=>MkE w0 hi b w L V { m with fs:=m.fs.set k ⟨⟨p0,p1,p2,p3,p4,p5,p6,p7⟩,1,z == 1,Xd,-1,0⟩ } vt T u) hI0 hF0 zY (by kernel_rfl) rfl rfl (by decide) ?hS (by kernel_rfl) ?_
    case hS=>
     intro x hx;simp only[mC,nM,or_false]at hx;subst hx;exact⟨_,0,rfl⟩
    simp only[Yf,Yg];refine ze ?_
    refine zJ (.tmp 24) ⟨b,0,Xb⟩ rfl rfl rfl rfl ?_;refine Uq ?_;iterate 8 refine ze ?_
    refine ze ?_
    refine zI rfl rfl (fun _ u=>MkE w0 hi b w L V { m with fs:=m.fs.set k ⟨⟨p0,p1,p2,p3,p4,p5,p6,p7⟩,1,z == 1,Xd,-1,0⟩ } vt T u) (fun w' hI' hF'=>?_) (fun v1 hv=>?_)
    ·obtain⟨vl',L',mk',ll',kp'⟩:=hF';refine zQ.call [Xj (Xa ⟨b,0,Xb⟩),I6 2] rfl func15 rfl rfl rfl ?_;refine(qz 2 mk').mono ?_;rintro e w'' ⟨vl2,L2,x,rfl,mk2,gr2,_,_,_,_,ll2⟩;exact⟨_,rfl,(HI _).2 ⟨HIM _ _ _ _ _ mk2,(mk'.keeps gr2).1 _ _ _ ((HI _).1 hI').2 JC⟩,⟨x,rfl⟩,vl2,L2,mk2,ll'.trans ll2,kp'.trans (mk'.keeps gr2)⟩
    obtain⟨xq,rfl⟩:=hv;refine Uq ?_;iterate 5 refine ze ?_
    refine qe fun W8 hI8 hF8=>?_
    obtain⟨vl8,L8,mk8,ll8,kp8⟩:=hF8;have M8:=dD mk8;have LL8:=dD ll8;have K8:=dD kp8;clear mk8 ll8 kp8 hI8 hI0 hF0 ht hx2 hx3 hne;have R8:Xo (zb Jp w0.heap.size W8 (O (Xa ⟨gt,0,Xb⟩) tn ct) T):=show zb _ _ _ _ _ by rw[<-HTE.out];exact M8.rows.tt
    refine zw (E:=Jp) rfl (.tmp 40) (.tmp 38) 75 rfl w0.heap.size _ T R8 gt p (n*3) rfl f (qN f n ⟨1,(k:Int),(xq == 1)⟩) HT (env ⟨1,(k:Int),(xq == 1)⟩) (by kernel_rfl) (jS f hn _) (by show n*3+3<=192;omega) (enE.one _) ⟨gt,p*192+n*3,Xb⟩ rfl rfl (Xi (env ⟨1,(k:Int),(xq == 1)⟩).toArray) rfl rfl ?_
    intro W9 ow9 gr9 sz9;rw[<-HTE.out]at ow9;have hM9:=M8.setT (by rw[HTE.out];rfl) gr9 sz9 ow9
    have M9:=dD hM9.1;have K9:=dD<|K8.trans hM9.2;clear hM9 ow9 gr9 sz9;have HE:Xo (Ent w0 hi b w L m vt T p n f W9):=show Ent _ _ _ _ _ _ _ _ _ _ _ _ from⟨vl8,L8,_,_,_,M9,LL8,K9,HBF _ (by intro e;first | rfl | cases e),⟨rfl,rfl,rfl,Xu⟩,.inr ⟨_,rfl⟩,fun h=>absurd h HLN⟩
    go_wp2
    (first | go_end0 | ((try simp only[Exit.inBlock,Exit.then]);refine bodyPost_ret (results_none rfl _ _ _) rfl ?_))
    first | exact HE.out | exact⟨⟨_,rfl⟩,HE⟩
end
section
def zk0 (m:Ma) (x:On) (e:En):List Int × Bool × Int:=
 if x.is=Xd then(zz,Xd,5)
 else if e.kind=1 then(pgL (zW m e.n).p,decide ((zW m e.n).f<0),0)
 else if e.kind=2 then(qj m.sb m.sq e.n,Xc,0)
 else if x.file<0 then(zz,Xd,0)
 else if bkN m x.file<=x.page then(zz,Xd,9)
 else(qn m x.file x.page,Xd,0)
theorem ziW {p n:Nat} {s:Sp} (a:m.sp[p]? =Xa s) (b:n<64):zle m (p:Int) (n:Int)=zk0 m (zE s.ars n) (zo s n):=by
 have b:=(gS.1 a).1;unfold zle;rw[kF (by omega)]
 simp only[tN,gD,a,Option.getD_some];rfl
theorem ziX {p n:Int} (h:p<0\/(m.sp.length:Int)<=p\/n<0\/63<n):zle m p n=(zz,Xd,5):=by
 unfold zle;rw[kE h]
def yn (b:Bool):Int:=if b=Xc then 121 else 110
theorem zfe {x:On} {e e':En} (g:e'.kind=e.kind) (h:e'.n=e.n) (b:e.kind=1->(zW m' e.n).p=(zW m e.n).p/\((zW m' e.n).f<0↔(zW m e.n).f<0)) (c:e.kind=2->qj m'.sb m'.sq e.n=qj m.sb m.sq e.n)
  (d:∀file,bkN m' file=bkN m file) (f:∀file a,qn m' file a=qn m file a):zk0 m' x e'=zk0 m x e:=by
 unfold zk0;rw[g,h,d,f]
 by_cases a:x.is=Xd
 ·rw[kE a,kE a]
 rw[kF a,kF a]
 by_cases a:e.kind=1
 ·rw[kE a,kE a,(b a).1,decide_eq_decide.2 (b a).2]
 rw[kF a,kF a]
 by_cases a:e.kind=2
 ·rw[kE a,kE a,c a]
 rw[kF a,kF a]
theorem zhd (b:m'.ca=m.ca) (f:m'.fl=m.fl) (d:m'.db=m.db) (e:m'.dq=m.dq) (g:∀c∈m.ca,(zW m' c.fr).p=(zW m c.fr).p) (file a:Int):qn m' file a=qn m file a:=by
 unfold qn;rw[b]
 cases b:m.ca.find? (JQ file a)with
 | some c=>
  simp only;rw[g c (Yu b)]
 | none=>
  simp only;unfold zcK ZG;rw[f,d,e]
section
variable{m:Ma} {T:List (Nat->En)}
theorem qH.marks (h:qH m T) {k:Nat} {fr:Fr} {p:Pg} {u d:Bool} (i:m.fs[k]? =Xa fr) (r:fr.r≠0):qH { m with fs:=m.fs.set k { fr with p:=p,u:=u,d:=d } } T:=by
 have f:=(gS.1 i).1;have l:=h.fok fr (mG i);have b:∀z:Int,0<=z->(zW { m with fs:=m.fs.set k { fr with p:=p,u:=u,d:=d } } z).f=(zW m z).f/\(zW { m with fs:=m.fs.set k { fr with p:=p,u:=u,d:=d } } z).x=(zW m z).x/\(zW { m with fs:=m.fs.set k { fr with p:=p,u:=u,d:=d } } z).r=(zW m z).r:=fun z a=>by
  rw[jJ f z a]
  by_cases e:z=(k:Int)
  ·subst e;rw[kE rfl,z8 i];exact⟨rfl,rfl,rfl⟩
  rw[kF e];exact⟨rfl,rfl,rfl⟩
 refine⟨by simpa using h.fs40,fun g c=>?_,h.sl60,h.sbl,h.sq,h.dok,h.st,h.cnt,h.blk,h.que,h.spl,h.spok,h.tl,?_,fun y D g C c j a=>?_,fun j g a=>?_,h.cs⟩
 ·rcases List.mem_or_eq_of_mem_set c with c|rfl
  ·exact h.fok g c
  obtain⟨v,n,w,x,q⟩:=l;exact⟨v,n,w,fun h=>absurd h r,q⟩
 ·obtain⟨q,l,r⟩:=zp.1 h.ca;refine zp.2 ⟨fun l s=>?_,fun y l t=>(by cases t),r⟩
  obtain⟨t,z,A,B⟩:=ZE (q l s);obtain⟨q,r,s⟩:=b l.fr t.2.2.2.2.1;exact zbI (by simpa [bkN]using t) (by rw[s];exact z) (by rw[q];exact A) (by rw[r];exact B)
 ·rcases h.ent y D g C c j a with e|e
  ·exact .inl e
  refine .inr ⟨e.1,e.2.1,ZC e.2.2 rfl (by simp) fun c=>?_⟩
  obtain⟨v,n,w,x⟩:=zZ e c;obtain⟨q,r,s⟩:=b (g j).n n;exact⟨q,r,by rw[s];exact x⟩
 by_cases e:j=k
 ·subst e;simp only at a;rw[sF f]at a;cases a;exact h.cf j fr i
 simp only at a;rw[sN (fun h=>e h.symm)]at a
 exact h.cf j g a
end
section
variable{m:Ma} {T:List (Nat->En)}
theorem qH.more (h:qH m T) {s':Sp} (a:m.sp.length<4) (e:(wrL s'.ars).1=0) (b:s'.live=Xd->s'.ars=[]):qH { m with sp:=m.sp++ [s'] } (T++ [fun _=>en0]):=by
 refine⟨h.fs40,h.fok,h.sl60,h.sbl,h.sq,h.dok,h.st,h.cnt,h.blk,h.que,by simp;omega,fun s a=>?_,by simpa using h.tl,?_,fun p s f a c n j=>?_,fun k f d=>?_,fun k z d=>?_⟩
 ·rcases Yp.1 a with a|a
  ·exact h.spok s a
  rw[Oe]at a;subst a;exact⟨e,b⟩
 ·obtain⟨e,b,g⟩:=zp.1 h.ca;exact zp.2 ⟨fun b i=>e b i,fun q b b=>(by cases b),g⟩
 ·by_cases e:p<m.sp.length
  ·rw[Xx e]at a;rw[Xx (by rw[h.tl];exact e)]at c
   exact h.ent p s f a c n j
  have b:p<m.sp.length+1:=by
   have:=(gS.1 a).1
   simpa using this
  have:p=T.length:=by rw[h.tl];omega
  subst this;rw[aR (nR _),Nat.sub_self]at c;cases c;exact .inl rfl
 ·rw[zbw _ _ _ (by decide)]
  exact h.cf k f d
 rw[zbw _ _ _ (by decide)]
 exact h.cs k z d
end
def zqj (g:Nat->Nat):Nat->Nat
 | 0=>0
 | n+1=>zqj g n+g n
def Qh (l:List Ar):Nat->Nat
 | 0=>0
 | n+1=>Qh l n+(zE l n).is.toNat
theorem zjC {a:Ar} (h:(za6 l a).2=0):Qh (za6 l a).1 64<=Qh l 64+(a.tz - a.fr).toNat:=by
 obtain⟨c,d,b,b,f⟩:=zh7 h;have b:=Qp.1 d;have d:=zbq (Zo.1 c).2 b;unfold Zi at b;have c:∀n:Nat,n<=64->Qh (za6 l a).1 n<=Qh l n+(min (n:Int) a.tz - min (n:Int) a.fr).toNat:=by
  intro n
  induction n with
  | zero=>intro _;simp[Qh]
  | succ n b=>
   intro e;have e:=b (by omega)
   unfold Qh;have e:(zE (za6 l a).1 n).is=(zh6 l a n).is:=by rw[f,zfw d (by omega)]
   rw[e];unfold zh6
   by_cases b:ZF a n=Xc
   ·have:=z4.1 b;rw[kE b,zjb];simp only[Bool.toNat_true];omega
   have d:¬(a.fr<=(n:Int)/\(n:Int)<a.tz):=fun h=>b (z4.2 h)
   rw[kF b];omega
 have:=c 64 (nR _);omega
end
section
open Go.RowKit
section
variable{base hi S0:Nat} {w w':Xn} {V:MaV} {m:Ma} {vt:Sli} {T:List (Nat->En)}
def SpB (base S0:Nat) (w:Xn) (V:MaV) (m:Ma):Prop:=∃xs:List SpV,zb Qz base w (O V.sp.a V.sp.n V.sp.c) xs/\xs.length=m.sp.length/\∀(i:Nat) x s,xs[i]? =Xa x->m.sp[i]? =Xa s->(x.live=s.live/\zb arE base w x.ar.v s.ars/\x.tab=Jw/\s.tb=qI)/\∀g,x.ar.v.ownBlock=Xa g->g<S0
theorem MkR.spB (h:MkR base hi w V m vt T):SpB base w.heap.size w V m:=by
 obtain⟨d,b,c,a⟩:=h.sp;exact⟨d,b,c,fun i x s c b=>⟨a i x s c b,fun g d=>((a i x s c b).2.1.lt g d).2⟩⟩
theorem SpB.grew (h:SpB base S0 w V m) (k:zc w w'):SpB base S0 w' V m:=by
 obtain⟨c,a,b,e⟩:=h;refine⟨c,a.grew k,b,fun i x s g f=>?_⟩
 obtain⟨⟨a,b,c⟩,d⟩:=e i x s g f;exact⟨⟨a,b.grew k,c⟩,d⟩
theorem SpB.kind (h:SpB base S0 w V m) {g:Nat} {cs:Array Xq} (b:w.grownBy w' (Xa g)) (e:w.heap[g]? =Xa (Xk cs t (0,0))) (c:t≠79) (a:t≠105\/S0<=g):SpB base S0 w' V m:=by
 obtain⟨i,d,f,l⟩:=h;refine⟨i,d.kind b e c,f,fun k x s j i=>?_⟩
 obtain⟨⟨f,c,h⟩,d⟩:=l k x s j i;refine⟨⟨f,?_,h⟩,d⟩
 rcases a with a|a
 ·exact c.kind b e a
 exact c.grown b fun k a e=>by cases e;have:=d _ a;omega
theorem MkR.area (h:MkR base hi w V m vt T) (b:SpB base S0 w V m) {g:Nat} {cs:Array Xq} (a:w.grownBy w' (Xa g)) (c:w.heap[g]? =Xa (Xk cs 105 (0,0))) (d:S0<=g):MkR base hi w' V m vt T:=by
 obtain⟨e,f,i,j,k,l,n,p,p⟩:=h.kept a c;obtain⟨t,q,r,s⟩:=b.kind a c (by decide) (.inr d)
 exact⟨nT h.hw a.size,h.bh,e (by decide),f (.inl (by decide)),h.slh,i (.inl (by decide)),h.sbh,h.sq,j (.inl (by decide)),h.dbh,k (by decide),l (by decide) (.inl (by decide)),n (by decide),⟨t,q,r,fun i x c a b=>(s i x c a b).1⟩,p (by decide),h.ap⟩
theorem qx (h:w.grownBy w' Xb):zc w w':=zT (zc.refl _) h (fun g e=>by cases e)
theorem MkR.addSp {c:List SpV} (h:MkR base hi w V m vt T) (s1:zb Qz base w (V.sp.x) c) (s2:c.length=m.sp.length) (s3:∀(i:Nat) x s,c[i]? =Xa x->m.sp[i]? =Xa s->x.live=s.live/\zb arE base w x.ar.v s.ars/\x.tab=Jw/\s.tb=qI)
  (b:w.grownBy w' (V.sp.x).ownBlock) (s a:Sli) {l:List Ar} (n:zb arE base w a.v l) (e:zb Qz base w' (s.x) (c++ [⟨Xc,a,zK,zK,zK,zK,zK,zK,zK,zK⟩])):MkR base hi w' { V with sp:=s } { m with sp:=m.sp++ [⟨Xc,l,qI⟩] } vt T:=by
 have d:(∀{x:SpV} {q:Sp},zb arE base w x.ar.v q.ars->zb arE base w' x.ar.v q.ars)->zb arE base w' a.v l->∃a:List SpV,zb Qz base w' (s.x) a/\a.length=(m.sp++ [(⟨Xc,l,qI⟩:Sp)]).length/\∀(i:Nat) x q,a[i]? =Xa x->(m.sp++ [(⟨Xc,l,qI⟩:Sp)])[i]? =Xa q->x.live=q.live/\zb arE base w' x.ar.v q.ars/\x.tab=Jw/\q.tb=qI:=fun g j=>by
  refine⟨_,e,by simp[s2],fun i x q a e=>?_⟩
  rcases Nat.lt_or_ge i c.length with hi|hi
  ·rw[Xx hi]at a;rw[Xx (by omega)]at e
   obtain⟨f,k,p,r⟩:=s3 i x q a e;exact⟨f,g k,p,r⟩
  rw[aR hi]at a;rw[aR (by omega),<-s2]at e
  have f:i - c.length=0:=by
   have:=(gS.1 a).1
   simp at this
   omega
  rw[f]at a e;cases a;cases e;exact⟨rfl,j,rfl,rfl⟩
 cases c:(V.sp.x).ownBlock with
 | none=>
  rw[c]at b;have k:=qx b;have a:=h.grew k;exact⟨a.hw,a.bh,a.fs,a.sl,a.slh,a.sb,a.sbh,a.sq,a.db,a.dbh,a.dq,a.fl,a.ca,d (fun h=>h.grew k) (n.grew k),a.tt,a.ap⟩
 | some a=>
  rw[c]at b;obtain⟨a,a⟩:=s1.obj c;obtain⟨g,j,c,e,f,k,p,q,q⟩:=h.kept b a;exact⟨nT h.hw b.size,h.bh,g (by decide),j (.inl (by decide)),h.slh,c (.inl (by decide)),h.sbh,h.sq,e (.inl (by decide)),h.dbh,f (by decide),k (by decide) (.inl (by decide)),p (by decide),d (fun h=>h.kind b a (by decide)) (n.kind b a (by decide)),q (by decide),h.ap⟩
theorem MkR.addT (h:MkR base hi w V m vt T) (c:w.grownBy w' (vt.x).ownBlock) (s:Sli) {f:Nat->En} (d:zb Jp base w' (s.x) (T++ [f])):MkR base hi w' V m s (T++ [f]):=by
 cases b:(vt.x).ownBlock with
 | none=>
  rw[b]at c;have a:=h.grew (qx c);exact⟨a.hw,a.bh,a.fs,a.sl,a.slh,a.sb,a.sbh,a.sq,a.db,a.dbh,a.dq,a.fl,a.ca,a.sp,d,a.ap⟩
 | some g=>
  rw[b]at c;obtain⟨a,a⟩:=h.tt.obj b;obtain⟨b,e,g,i,j,k,l,n,p⟩:=h.kept c a;exact⟨nT h.hw c.size,h.bh,b (by decide),e (.inl (by decide)),h.slh,g (.inl (by decide)),h.sbh,h.sq,i (.inl (by decide)),h.dbh,j (by decide),k (by decide) (.inl (by decide)),l (by decide),n (by decide) (by decide),d,h.ap⟩
theorem zD.row {α:Type} {E:Elt α} {v:Xq} {l:List α} (h:zb E base w v l) (b:w.grownBy w' v.ownBlock) (d:∀p,¬Loc hi p E.ty):zD hi w w':=by
 cases a:v.ownBlock with
 | none=>
  rw[a]at b;exact zD.grew (qx b)
 | some g=>
  rw[a]at b;obtain⟨c,c⟩:=h.obj a;exact zD.kind b c (fun p a=>absurd a (d p))
theorem zx.row {α:Type} {E:Elt α} {v:Xq} {l:List α} {cs:List Xq} (h:zb E base w v l) (c:w.grownBy w' v.ownBlock) (a:zx w b t cs) (ht:t≠E.ty):zx w' b t cs:=a.beside c fun g e=>h.ne a ht g e
theorem zc.row {α:Type} {E:Elt α} {v:Xq} {l:List α} (h:zb E w0.heap.size w v l) (b:w.grownBy w' v.ownBlock) (a:zc w0 w):zc w0 w':=zT a b fun g e=>(h.lt g e).1
end
section
variable{w0 w w':Xn} {hi b S0:Nat} {vl:Sli} {L:List Int} {V:MaV} {m:Ma} {vt:Sli} {T:List (Nat->En)}
theorem Mk.area (h:Mk w0 hi w b vl L V m vt T) (i:SpB w0.heap.size S0 w V m) {g:Nat} {cs:List Xq} (a:w.grownBy w' (Xa g)) (d:zx w g 105 cs) (f:S0<=g) (c:w0.heap.size<=g):Mk w0 hi w' b vl L V m vt T/\SpB w0.heap.size S0 w' V m:=by
 refine⟨⟨zd h.gr a c,h.hb,h.box.beside a (fun k e=>?_),h.lr,h.lc,h.lb,h.rows.area i a d f⟩,i.kind a d (by decide) (.inr f)⟩
 cases e;intro e;subst e;have a:w.heap[b]? =_:=h.box;rw[show w.heap[b]? =_ from d]at a
 cases a
theorem SpB.pick (c:SpB w0.heap.size S0 w V m) (h:Mk w0 hi w b vl L V m vt T) (a:w.grownBy w' (Xa b)):SpB w0.heap.size S0 w' V m:=c.kind a h.box (by decide) (.inl (by decide))
theorem zb.pick {v:Xq} (c:zb arE w0.heap.size w v l) (h:Mk w0 hi w b vl L V m vt T) (a:w.grownBy w' (Xa b)):zb arE w0.heap.size w' v l:=c.kind a h.box (by decide)
end
theorem JD {p:Nat}:Loc hi p 105:=⟨by decide,by decide,by decide,by decide,by decide,by decide,by decide,by decide,fun h=>absurd h (by decide)⟩
theorem jC (w:Xn) (g i:Nat) (u):w.grownBy (w.setCell ⟨g,i,Xb⟩ u) (Xa g):=⟨rfl,rfl,rfl,by simp[World.setCell],fun k _ a=>Below.heap_setCell _ _ _ _ (fun e=>a (by rw[e]))⟩
def Spc (w0:Xn) (hi b:Nat) (w:Xn) (L:List Int) (m:Ma) (T:List (Nat->En)) (w':Xn):Prop:=∃vl' L' V' m' vt' T' l,Mk w0 hi w' b vl' L' V' m' vt' T'/\za7 L L'/\zD hi w w'/\qH m' T'/\(m'.sp=m.sp++ [⟨Xc,l,qI⟩]/\m'.fl=m.fl/\m'.hand=m.hand/\m'.fs.length=m.fs.length)/\(Zv m.fl.length l/\Qh l 64<=12)/\(L=[]->m'={ m with sp:=m.sp++ [⟨Xc,[],qI⟩] }/\T'=T++ [fun _=>en0])
theorem zbb (f:Nat->En) (n:Nat):qN f n (f n)=f:=by
 funext j
 unfold qN
 split
 ·rename_i e
  rw[e]
 rfl
theorem zcB {α:Type} {l:List α} {i:Nat} {x:α} (h:l[i]? =Xa x):l.set i x=l:=by
 apply Xw
 intro j
 by_cases e:j=i
 ·subst e;rw[sF (gS.1 h).1,h]
 rw[sN (fun h=>e h.symm)]
section
variable{m:Ma} {T:List (Nat->En)} {s0 s1:Sp} {fA fB:Nat->En} {n:Nat}
theorem qH.entry0 (h:qH m T) (a:m.sp[0]? =Xa s0) (b:T[0]? =Xa fA) (c:n<64):fA n=en0\/(∃(k:Nat) (fr:Fr),(fA n).kind=1/\(fA n).n=(k:Int)/\m.fs[k]? =Xa fr)\/(∃(k:Nat) (z:Int),(fA n).kind=2/\(fA n).n=(k:Int)/\m.sl[k]? =Xa z/\0<=z/\z<=1000):=by
 rcases h.ent 0 s0 fA a b n c with e|e
 ·exact .inl e
 by_cases b:(fA n).kind=2
 ·refine .inr (.inr ?_);obtain⟨c,a,a⟩:=e;obtain⟨d,d,d⟩:=Q2 c;unfold za4 at a
  by_cases c:(zE s0.ars n).is=Xd
  ·rw[kE c]at a;cases a
  rw[kF c,kE b]at a
  split at a
  ·cases a
  rename_i c
  have a:(fA n).n.toNat<m.sl.length:=by
   have:¬(m.sl.length:Int)<=(fA n).n:=fun e=>c (.inl e)
   omega
  have c:=h.cs _ _ (gE a);have c:=zb0 T 2 ((fA n).n.toNat:Int);have c:=h.tl;have c:=h.spl;exact⟨(fA n).n.toNat,m.sl[(fA n).n.toNat],b,by omega,gE a,by omega,by omega⟩
 obtain⟨c,d,d,_⟩:=zZ e b;have a:(fA n).n.toNat<m.fs.length:=by omega
 exact .inr (.inl ⟨(fA n).n.toNat,m.fs[(fA n).n.toNat],c,by omega,gE a⟩)
theorem qH.forkP (t:qH m T) (p:m.sp[0]? =Xa s0) (q:m.sp[1]? =Xa s1) (h:s1.ars=s0.ars) (f:T[0]? =Xa fA) (v:T[1]? =Xa fB) (i:n<64) (g:fB n=en0) {k:Nat} {fr:Fr} (u:m.fs[k]? =Xa fr) (a:(fA n).kind=1) (c:(fA n).n=(k:Int)) {e':En} (s:e'=if(zE s0.ars n).sh=Xc then fA n else{ fA n with wr:=false }):
  qH { m with fs:=m.fs.set k { fr with r:=fr.r+1 } } ((T.set 0 (qN fA n e')).set 1 (qN fB n e')):=by
 have j:fA n≠en0:=fun e=>by rw[e]at a;cases a
 have l:=(t.ent 0 s0 fA p f n i).resolve_left j
 by_cases d:(zE s0.ars n).sh=Xc
 ·rw[kE d]at s;subst s;rw[zbb,zcB f];refine t.share u f rfl v (by decide) i g q (by rw[h];exact l) a c (fun _ b=>?_)
  obtain⟨b,b,b⟩:=l;unfold za4 at b
  by_cases l:(zE s0.ars n).is=Xd
  ·rw[kE l]at b;cases b
  rw[kF l,kF (by rw[a];decide)]at b
  split at b
  ·cases b
  split at b
  ·cases b
  rename_i l
  have b:zW m (fA n).n=fr:=by rw[c];exact z8 u
  have:0<=(zE s0.ars n).file/\(zW m (fA n).n).f=(zE s0.ars n).file/\(zW m (fA n).n).x=(zE s0.ars n).page:=Classical.byContradiction fun e=>l (.inr (.inl ⟨d,e⟩))
  rw[b]at this;omega
 rw[kF d]at s;subst s;have l:=t.guard f i j;have b:(T.set 0 (qN fA n { fA n with wr:=false }))[0]? =Xa (qN fA n { fA n with wr:=false }):=sF (gS.1 f).1;have d:(T.set 0 (qN fA n { fA n with wr:=false }))[1]? =Xa fB:=by rw[sN (by decide)];exact v
 have f:qN fA n { fA n with wr:=false } n={ fA n with wr:=false }:=by unfold qN;rw[kE rfl]
 refine l.share u b f d (by decide) i g q ?_ a c (fun e=>by cases e)
 rw[h];have:=l.ent 0 s0 _ p b n i;rw[f]at this;refine this.resolve_left fun e=>?_
 have:({ fA n with wr:=false }:En).kind=en0.kind:=by rw[e]
 rw[show({ fA n with wr:=false }:En).kind=(fA n).kind from rfl,a]at this
 cases this
theorem qH.forkS (h:qH m T) (f:m.sp[0]? =Xa s0) (g:m.sp[1]? =Xa s1) (c:s1.ars=s0.ars) (i:T[0]? =Xa fA) (p:T[1]? =Xa fB) (j:n<64) (b:fB n=en0) {k:Nat} (q:m.sl[k]? =Xa z) (a:(fA n).kind=2) (d:(fA n).n=(k:Int)):
  qH { m with sl:=m.sl.set k (z+1) } ((T.set 0 (qN fA n (fA n))).set 1 (qN fB n (fA n))):=by
 have e:fA n≠en0:=fun l=>by rw[l]at a;cases a
 rw[zbb,zcB i];exact h.shareS q p j b g (by rw[c];exact(h.ent 0 s0 fA f i n j).resolve_left e) a d
theorem zmj (d:T[0]? =Xa fA) (e:T[1]? =Xa fB) (a:fA n=en0) (b:fB n=en0):(T.set 0 (qN fA n en0)).set 1 (qN fB n en0)=T:=by
 have c:qN fA n en0=fA:=by
  have:=zbb fA n;rwa [a]at this
 have a:qN fB n en0=fB:=by
  have:=zbb fB n;rwa [b]at this
 rw[c,a,zcB d,zcB e]
end
section
variable{α:Type} {E:Elt α}
theorem zaH {w:Xn} {a:Act} (p x t) (A:o.op= .store t p x) (base:Nat) (v:Xq) (l:List α) (b:zb E base w v l)
  (g i j:Nat) (s:v.ownBlock=Xa g) (e y:α) (hi:l[i]? =Xa e) (cs:List Xq) (f:(Tryz.prog.info? t).map (·.size)=Xa cs.length) (D:E.enc y=splice (E.enc e) j cs) (z:j+cs.length<=E.k) (n:∀u∈cs,u.oneCell'=Xc)
  (ad:Addr) (hp:a.eval p= Xj (Xa ad)) (c:ad=⟨g,i*E.k+j,Xb⟩) (k:Xq) (C:a.eval x=k) (h:k.cells=cs.toArray):
  ∃w',(execOp a.eval o).run prog w= .ok .skip w'/\zb E base w' v (l.set i y)/\w.grownBy w' (Xa g)/\w'.heap.size=w.heap.size:=by
 subst c;have d:=(gS.1 hi).1;have c:i*E.k+j+cs.length<=l.length*E.k:=by
  have:(i+1)*E.k<=l.length*E.k:=Yc _ d;rw[Yy]at this;omega
 obtain⟨w',B,m,q,r⟩:=qW (P:=prog) b.1 s (i*E.k+j) cs c n;have d:(Go.sizeOf t).run prog w= .ok cs.length w:=by
  cases c:Tryz.prog.info? t with
  | none=>simp[c]at f
  | some i=>simp[c]at f;simp[Go.sizeOf,typeInfo,c,f]
 have c:(Instr.storeAt t (Xj (Xa ⟨g,i*E.k+j,Xb⟩)) k).run prog w= .ok () w':=by
  simp[Instr.storeAt,Instr.sureAddr,storeVar,Xt,d,Result.andThen,h,B]
 rw[Jt j cs D z l i hi]at m;refine⟨w',?_,⟨by rw[Xu];exact m,by rw[Xu];exact b.2⟩,q,r⟩
 simp only[execOp,A,hp,C,Xt,c,Result.andThen,Xv]
theorem zdG {P:Program} {a:Act} {w:Xn} {K:Xq->Xn->Prop} (b:(execOp a.eval o).run P w= .ok .skip w') (h:K undef w'):zQ P o a w K:=by
 unfold zQ;rw[b];exact h
end
theorem Jg {p:Nat}:Loc hi p 75:=⟨by decide,by decide,by decide,by decide,by decide,by decide,by decide,by decide,fun h=>absurd h (by decide)⟩
theorem ZT {p:Nat}:Loc hi p 82:=⟨by decide,by decide,by decide,by decide,by decide,by decide,by decide,by decide,fun h=>absurd h (by decide)⟩
theorem QG {a:Act} {w:Xn} {K:Xq->Xn->Prop} (d p x) (n:o.op= .store d p x) (b c:Nat) (hp:a.eval p= Xj (Xa ⟨b,c,Xb⟩)) (g:Xq) (r:a.eval x=g) (vs:List Xq) (f:g.cells=vs.toArray)
  {t:TypeId} {cs:List Xq} (h:zx w b t cs) (m:c+vs.length<=cs.length) (hi:(Tryz.prog.info? d).map (·.size)=Xa vs.length) (j:∀v∈vs,v.oneCell'=Xc)
  (i:∀w',zx w' b t (splice cs c vs)->w.grownBy w' (Xa b)->w'.heap.size=w.heap.size->K undef w'):zQ prog o a w K:=by
 have e:(Value.agg vs.toArray).cells=vs.toArray:=by
  unfold Value.cells;simp
 have q:(execOp a.eval o).run prog w= .ok .skip (w.setCells b c vs):=by
  have k:=run_storeAt_mid (P:=prog) w b c d vs.toArray (fun s l=>by
   have:=h.box.there (c+s) (by simp at l;omega)
   rw[zA]at this;exact this) (by simpa using hi) (all_oneCell_toArray j)
  have j:(Instr.storeAt d (Xj (Xa ⟨b,c,Xb⟩)) g).run prog w=(Instr.storeAt d (Xj (Xa ⟨b,c,Xb⟩)) (Xi vs.toArray)).run prog w:=by
   simp only[Instr.storeAt,Instr.sureAddr,storeVar,f,e]
  simp only[execOp,n,hp,r,Xt,j,k,rA,Xv]
 exact zdG q (i _ (h.part (ds:=vs) (o:=c) m) (zS b vs c w).1 (zS b vs c w).2)
theorem ZU {rest:List Oper} {a:Act} {w:Xn} (d:o.guard=Xb) (f p x) (l:o.op= .store f p x) (b c:Nat) (hp:a.eval p= Xj (Xa ⟨b,c,Xb⟩)) (g:Xq) (m:a.eval x=g) (vs:List Xq) (e:g.cells=vs.toArray)
  {t:TypeId} {cs:List Xq} (j:zx w b t cs) (k:c+vs.length<=cs.length) (hi:(Tryz.prog.info? f).map (·.size)=Xa vs.length) (i:∀v∈vs,v.oneCell'=Xc)
  (h:∀w',zx w' b t (splice cs c vs)->w.grownBy w' (Xa b)->w'.heap.size=w.heap.size->wpList prog ops Q rest (a.put o.dst undef) w'):wpList prog ops Q (o :: rest) a w:=
 wpList_plain d fun _ d=>(QG (K:=fun v w'=>v=undef/\wpList prog ops Q rest (a.put o.dst undef) w') f p x l b c hp g m vs e j k hi i (fun w' c e f=>⟨rfl,h w' c e f⟩)).wp (fun v w' c=>d _ _ (by rw[c.1];exact c.2))
theorem zdH {a:Act} {w:Xn} {K:Xq->Xn->Prop} (e x) (i:o.op= .load e x) (b c:Nat) (k:a.eval x= Xj (Xa ⟨b,c,Xb⟩)) (vs:List Xq) (f:w.rangeAt b c vs) {d:TypeDesc} (j:Tryz.prog.underlying e=Xa d) (g:d.isRow=Xc) (hi:(Tryz.prog.info? e).map (·.size)=Xa vs.length) (h:K (Xi vs.toArray) w):zQ prog o a w K:=by
 have:=run_loadAt_mid (P:=prog) w b c e vs d f j g hi;exact zQ.step (by simp only[execOp,i,k,Xt,this,rA,Xv]) h
theorem zcu {α:Type} {E:Elt α} {w:Xn} {a:Act} {K:Xq->Xn->Prop} (p x t) (B:o.op= .store t p x) (base:Nat) (v:Xq) (l:List α) (b:zb E base w v l)
  (g i j:Nat) (s:v.ownBlock=Xa g) (e y:α) (hi:l[i]? =Xa e) (cs:List Xq) (A:(Tryz.prog.info? t).map (·.size)=Xa cs.length) (D:E.enc y=splice (E.enc e) j cs) (z:j+cs.length<=E.k) (k:∀u∈cs,u.oneCell'=Xc)
  (ad:Addr) (hp:a.eval p= Xj (Xa ad)) (c:ad=⟨g,i*E.k+j,Xb⟩) (f:Xq) (C:a.eval x=f) (d:f.cells=cs.toArray)
  (h:∀w',zb E base w' v (l.set i y)->w.grownBy w' (Xa g)->w'.heap.size=w.heap.size->K undef w'):zQ prog o a w K:=by
 obtain⟨w',m,n,q,r⟩:=zaH p x t B base v l b g i j s e y hi cs A D z k ad hp c f C d;exact zdG m (h w' n q r)
theorem Ja.form {w:Xn} {t:List (List En)} (h:Ja B0 B1 w us t):∃a t1 t2 b c d e f:Sli,us=[a.v,t1.v,t2.v,b.v,c.v,d.v,e.v,f.v]:=by
 obtain⟨u0,u1,u2,u3,u4,u5,u6,u7,rfl⟩:=zmB h.len;obtain⟨a,a,a,a,a,a,a,a,rfl⟩:=zmB h.tlen;obtain⟨a,j,rfl,_⟩:=(h.row 0 _ _ rfl rfl).now.rows;obtain⟨b,k,rfl,_⟩:=(h.row 1 _ _ rfl rfl).now.rows;obtain⟨c,l,rfl,_⟩:=(h.row 2 _ _ rfl rfl).now.rows;obtain⟨d,m,rfl,_⟩:=(h.row 3 _ _ rfl rfl).now.rows;obtain⟨e,n,rfl,_⟩:=(h.row 4 _ _ rfl rfl).now.rows;obtain⟨f,p,rfl,_⟩:=(h.row 5 _ _ rfl rfl).now.rows;obtain⟨g,q,rfl,_⟩:=(h.row 6 _ _ rfl rfl).now.rows;obtain⟨i,r,rfl,_⟩:=(h.row 7 _ _ rfl rfl).now.rows;exact⟨⟨a,_,j⟩,⟨b,_,k⟩,⟨c,_,l⟩,⟨d,_,m⟩,⟨e,_,n⟩,⟨f,_,p⟩,⟨g,_,q⟩,⟨i,_,r⟩,rfl⟩
theorem zkD (m:Ma) (q:Nat) (n:Int) (e):(zal m q n e).sp.length=m.sp.length:=by simp[zal]
def zm1 (m:Ma):Prop:=∀s∈m.sp,(wrL s.ars).1=0/\tbW s.tb=0
theorem zlu (h:Z6 m=0):zm1 m:=fun s a=>by
 unfold Z6 at h
 split at h
 ·cases h
 have:=zn.1 h (spE s) (Yl.2 ⟨s,a,rfl⟩);unfold spE at this
 split at this
 ·rename_i a;exact absurd this a
 rename_i a
 split at this
 ·rename_i b;exact absurd this b
 rename_i b;exact⟨by simpa using a,by simpa using b⟩
theorem zpp {s:Sp} (h:tbW s.tb=0) (n:Nat):enW (zo s n)=0:=by
 unfold zo zaL;have a:=ZS.1 h;have:zhA (s.tb[n / 8]?.getD []):=by
  cases e:s.tb[n / 8]? with
  | none=>exact .inl rfl
  | some x=>exact a x (mG e)
 exact this.get (n % 8)
theorem zjm {s:Sp} {n:Nat} (h:n<64):zeC s.tb (n:Int)=zo s n:=by
 unfold zeC zo;rw[kE (by omega),tN]
theorem zgv {s:Sp} {n:Nat} (h:(qU s)[j]? =Xa n):n<64:=by
 have:=mG h;unfold qU at this;rw[List.mem_filter,Ys]at this;exact this.1
theorem zmN:∀{l:List Ar} {p:Option Ar} {k:Nat} {a:Ar},Q5 p l->l[k]? =Xa a->Zi a
 | [],_,_,_,_,h=>by simp at h
 | b :: l,p,0,a,c,h=>by
  simp at h
  subst h;exact c.1
 | b :: l,p,k+1,a,c,h=>zmN c.2.2 (by simpa using h)
structure zaD where
 ty:TypeId
 enc:Int × Int->Xq
 und:∃fs,Tryz.prog.underlying ty=Xa (.struct fs)
 check:∀(em:Bool) (a:Int × Int) (w:Xn),(Instr.checkKey em 10000 ty (enc a)).run prog w= .ok () w
 same:∀(a b:Int × Int) (w:Xn),(Op.equal ty (enc a) (enc b)).run prog w= .ok (decide (a=b)) w
 bits:∀a:Int × Int,Instr.sameBits 10000 (enc a) (enc a)=Xc
def zaF:List ((Int × Int) × Int)->Int × Int->Option Int
 | [],_=>Xb
 | p :: l,k=>if k=p.1 then Xa p.2 else zaF l k
def zdC:List ((Int × Int) × Int)->Int × Int->Nat->Option (Nat × Xq)
 | [],_,_=>Xb
 | p :: l,k,i=>if k=p.1 then Xa (i,Xe Xf p.2)else zdC l k (i+1)
def zhY:List ((Int × Int) × Int)->Int × Int->Int->List ((Int × Int) × Int)
 | [],k,v=>[(k,v)]
 | p :: l,k,v=>if k=p.1 then(k,v) :: l else p :: zhY l k v
theorem zbr:∀(l:List ((Int × Int) × Int)) (k x:Int × Int) (v:Int),zaF (zhY l k v) x=if x=k then Xa v else zaF l x
 | [],k,x,v=>by simp[zhY,zaF]
 | p :: l,k,x,v=>by
  unfold zhY
  by_cases h:k=p.1
  ·rw[kE h];unfold zaF
   by_cases a:x=k
   ·simp[a]
   have b:¬x=p.1:=fun e=>a (e.trans h.symm)
   simp[a,b]
  rw[kF h];unfold zaF;rw[zbr l]
  by_cases a:x=p.1
  ·rw[kE a,kE a,kF (fun e=>h (e.symm.trans a))]
  rw[kF a,kF a]
theorem zaB:∀{l:List ((Int × Int) × Int)} {k:Int × Int} {i:Nat},zdC l k i=Xb->zaF l k=Xb/\∀v,zhY l k v=l++ [(k,v)]
 | [],k,i,_=>⟨rfl,fun v=>rfl⟩
 | p :: l,k,i,h=>by
  unfold zdC at h
  by_cases e:k=p.1
  ·rw[kE e]at h;cases h
  rw[kF e]at h;obtain⟨a,b⟩:=zaB h;refine⟨by unfold zaF;rw[kF e,a],fun v=>?_⟩
  unfold zhY;rw[kF e,b];rfl
theorem zaA:∀{l:List ((Int × Int) × Int)} {k:Int × Int} {i j:Nat} {u:Xq},zdC l k i=Xa (j,u)->∃n z,u=I6 z/\j=i+n/\l[n]? =Xa (k,z)/\zaF l k=Xa z/\∀v,zhY l k v=l.set n (k,v)
 | [],k,i,j,u,h=>by cases h
 | p :: l,k,i,j,u,h=>by
  unfold zdC at h
  by_cases e:k=p.1
  ·rw[kE e]at h;cases h;refine⟨0,p.2,rfl,rfl,by rw[e];rfl,by unfold zaF;rw[kE e],fun v=>?_⟩
   unfold zhY;rw[kE e];rfl
  rw[kF e]at h;obtain⟨n,z,a,b,b,c,d⟩:=zaA h;refine⟨n+1,z,a,by omega,by simpa using b,by unfold zaF;rw[kF e,c],fun v=>?_⟩
  unfold zhY;rw[kF e,d];rfl
def Jc (K:zaD) (w:Xn) (b:Nat) (g:Int × Int->Option Int):Prop:=
 ∃es clock l,w.heap[b]? =Xa (.map es clock)/\(es.toList.map (fun e=>(e.key,e.val))=l.map (fun p:(Int × Int) × Int=>(K.enc p.1,Value.int .i64 p.2))/\(es.toList.map (·.born)).Pairwise (·< ·)/\∀e∈es.toList,e.born<clock)/\∀k,zaF l k=g k
theorem Jc.lt {K:zaD} {w:Xn} {g:Int × Int->Option Int} (h:Jc K w b g):b<w.heap.size:=by
 obtain⟨a,c,l,a,_⟩:=h;exact(aS.1 a).1
theorem Jc.made (K:zaD) (w:Xn):Jc K (w.alloc (.map #[] 0)) w.heap.size (fun _=>Xb):=⟨#[],0,[],by
 show(w.heap.push _)[w.heap.size]? =_
 simp,⟨rfl,List.Pairwise.nil,fun e a=>by cases a⟩,fun k=>rfl⟩
theorem Jc.grew {K:zaD} {w:Xn} {g:Int × Int->Option Int} (h:Jc K w b g) (i:zc w w'):Jc K w' b g:=by
 have a:=h.lt;obtain⟨d,c,l,e,f⟩:=h;exact⟨d,c,l,(Below.block i b a).trans e,f⟩
theorem Jc.kept {K:zaD} {w:Xn} {g:Int × Int->Option Int} {a:Option Nat} (h:Jc K w b g) (j:w.grownBy w' a) (c:Xa b≠a):Jc K w' b g:=by
 have a:=h.lt;obtain⟨e,d,l,f,i⟩:=h;exact⟨e,d,l,(j.block b a c).trans f,i⟩
theorem Jc.congr {K:zaD} {w:Xn} {g a:Int × Int->Option Int} (h:Jc K w b g) (e:∀k,g k=a k):Jc K w b a:=by
 obtain⟨a,c,l,d,f,i⟩:=h;exact⟨a,c,l,d,f,fun k=>(i k).trans (e k)⟩
theorem zaI (K:zaD) (k:Int × Int) (w):∀(l:List ((Int × Int) × Int)) (a:List MapEntry) (i:Nat),a.map (fun e=>(e.key,e.val))=l.map (fun p=>(K.enc p.1,I6 p.2))->(Instr.findAsking K.ty (K.enc k) a i).run prog w= .ok (zdC l k i) w
 | [],[],i,_=>rfl
 | [],e :: a,i,h=>by simp at h
 | p :: l,[],i,h=>by simp at h
 | p :: l,e :: a,i,h=>by
  simp only[mP,List.cons.injEq,pJ]at h;obtain⟨⟨b,c⟩,d⟩:=h;unfold Instr.findAsking zdC;simp only[Xt,b,K.same,rA]
  by_cases b:k=p.1
  ·simp[b,c]
  simp[b,zaI K k w l a (i+1) d]
theorem zaT (K:zaD) (k:Int × Int) (w) (l:List ((Int × Int) × Int)) (a:List MapEntry) (h:a.map (fun e=>(e.key,e.val))=l.map (fun p=>(K.enc p.1,I6 p.2))):(Instr.findKey K.ty (K.enc k) a).run prog w= .ok (zdC l k 0) w:=by
 obtain⟨b,c⟩:=K.und;unfold Instr.findKey;simp only[Xt,run_underlying c,rA]
 cases a with
 | nil=>
  cases l with
  | nil=>rfl
  | cons p l=>simp at h
 | cons e a=>
  have:Instr.findNow (.struct b) (K.enc k) (e :: a) 0=Xb:=by simp[Instr.findNow,Instr.sameNow]
  rw[this];exact zaI K k w l (e :: a) 0 h
theorem Jc.look {K:zaD} {w:Xn} {g:Int × Int->Option Int} (a:Jc K w b g) {e:TypeId} (ht:Tryz.prog.underlying t=Xa (.map K.ty e)) (j:(zeroValue e).run prog w= .ok (I6 0) w) (k:Int × Int) (c:Bool):
  (Instr.lookup t (.map (Xa b)) (K.enc k) c).run prog w= .ok (if c then Xm #[I6 ((g k).getD 0),Xh (g k).isSome]else I6 ((g k).getD 0)) w:=by
 obtain⟨d,f,l,f,⟨i,_⟩,h⟩:=a;have a:=zaT K k w l d.toList i;unfold Instr.lookup
 cases d:zdC l k 0 with
 | none=>
  rw[d]at a;have:=(zaB d).1;rw[h k]at this
  cases c <;> simp[run_underlying ht,MapKept.run_getObj_map f,K.check,a,j,this]
 | some q=>
  obtain⟨j,u⟩:=q;rw[d]at a;obtain⟨n,z,rfl,_,_,i,_⟩:=zaA d;rw[h k]at i
  cases c <;> simp[run_underlying ht,MapKept.run_getObj_map f,K.check,a,i]
theorem zdf (f:MapEntry->MapEntry) (b:∀e,(f e).born=e.born):∀(a:List MapEntry) (n:Nat),(a.modify n f).map (·.born)=a.map (·.born)
 | [],n=>by simp
 | e :: a,0=>by simp[b]
 | e :: a,n+1=>by simp[zdf f b a n]
structure ZR (K:zaD) (es:Array MapEntry) (cl:Nat) (l:List ((Int × Int) × Int)):Prop where
 pairs:es.toList.map (fun e=>(e.key,e.val))=l.map (fun p=>(K.enc p.1,Value.int .i64 p.2))
 rise:(es.toList.map (·.born)).Pairwise (·< ·)
 low:∀e∈es.toList,e.born<cl
theorem ZR.push {K:zaD} {a:Array MapEntry} {l:List ((Int × Int) × Int)} (h:ZR K a cl l) (k:Int × Int) (v:Int):ZR K (a.push ⟨K.enc k,I6 v,cl⟩) (cl+1) (l++ [(k,v)]):=by
 refine⟨by simp[h.pairs],?_,fun e a=>?_⟩
 ·simp only[Oi,List.map_append,mP,Xz];rw[List.pairwise_append];refine⟨h.rise,by simp,fun b c b b=>?_⟩
  obtain⟨e,a,rfl⟩:=Yl.1 c
  simp at b
  rw[b];exact h.low e a
 simp only[Oi,Yp,Oe]at a
 rcases a with a|rfl
 ·have:=h.low e a;omega
 simp
theorem ZR.modify {K:zaD} {b:Array MapEntry} {l:List ((Int × Int) × Int)} (h:ZR K b cl l) {n:Nat} {k:Int × Int} (c:l[n]? =Xa (k,z)) (f:MapEntry->MapEntry) (v:Int) (a:∀e,(f e).born=e.born) (r:∀e,e.key=K.enc k->e.val=I6 z->(f e).key=K.enc k/\(f e).val=I6 v):ZR K (b.modify n f) cl (l.set n (k,v)):=by
 have g:(b.modify n f).toList.map (·.born)=b.toList.map (·.born):=by rw[Oa];exact zdf f a b.toList n
 refine⟨?_,by rw[g];exact h.rise,fun e q=>?_⟩
 ·have d:=h.pairs;rw[Oa]
  apply Xw
  intro j;have a:=congrArg (fun(x:List (Xq × Xq))=>x[j]?) d
  simp only[Yi,List.getElem?_modify,List.getElem?_set]at a⊢
  by_cases e:n=j
  ·subst e;rw[c]at a;have d:=(gS.1 c).1
   cases c:b.toList[n]? with
   | none=>rw[c]at a;simp at a
   | some i=>
    rw[c]at a
    simp at a
    obtain⟨m,p⟩:=r i a.1 a.2
    simp[d,m,p]
  simp only[e,if_false]at a⊢
  cases c:b.toList[j]? <;> rw[c]at a <;> simpa using a
 have:e.born∈b.toList.map (·.born):=by rw[<-g];exact Yl.2 ⟨e,q,rfl⟩
 obtain⟨b,a,c⟩:=Yl.1 this;rw[<-c];exact h.low b a
theorem ZR.at {K:zaD} {b:Array MapEntry} {l:List ((Int × Int) × Int)} (h:ZR K b cl l) {n:Nat} {k:Int × Int} (c:l[n]? =Xa (k,z)):∃a,b[n]? =Xa a/\a.key=K.enc k/\a.val=I6 z:=by
 have:=congrArg (fun(x:List (Xq × Xq))=>x[n]?) h.pairs
 simp only[Yi,c,Option.map_some]at this
 cases c:b[n]? with
 | none=>simp[c]at this
 | some a=>simp[c]at this;exact⟨a,rfl,this.1,this.2⟩
theorem zjA:∀{l:List Nat},l.Pairwise (·< ·)->∀{i j:Nat} {x:Nat},l[i]? =Xa x->l[j]? =Xa x->i=j
 | [],_,i,j,x,h,_=>by simp at h
 | a :: l,hp,i,j,x,h,b=>by
  rw[Od]at hp
  cases i with
  | zero=>
   cases j with
   | zero=>rfl
   | succ j=>
    simp at h b
    subst h;have:=hp.1 a (mG b);omega
  | succ i=>
   cases j with
   | zero=>
    simp at h b
    subst b;have:=hp.1 a (mG h);omega
   | succ j=>
    simp at h b
    rw[zjA hp.2 h b]
theorem zdh {K:zaD} {w:Xn} {f c:Array MapEntry} {a:Nat} {l:List ((Int × Int) × Int)} {g:Int × Int->Option Int} {k:Int × Int} {v:Int} (e:w.heap[b]? =Xa (.map f cl)) (h:∀k,zaF l k=g k) (d:ZR K c a (zhY l k v)):
  Jc K (ChangeMaps.setBlock w b (.map c a)) b (fun x=>if x=k then Xa v else g x)/\w.grownBy (ChangeMaps.setBlock w b (.map c a)) (Xa b)/\(ChangeMaps.setBlock w b (.map c a)).heap.size=w.heap.size:=by
 refine⟨⟨c,a,zhY l k v,ChangeMaps.heap_setBlock_same e _,⟨d.pairs,d.rise,d.low⟩,fun x=>?_⟩,⟨rfl,rfl,rfl,by simp[ChangeMaps.setBlock],fun i _ a=>ChangeMaps.heap_setBlock_other e _ (fun e=>a (by rw[e]))⟩,by simp[ChangeMaps.setBlock]⟩
 rw[zbr,h]
theorem Jc.put {K:zaD} {w:Xn} {g:Int × Int->Option Int} (a:Jc K w b g) {e:TypeId} (ht:Tryz.prog.underlying t=Xa (.map K.ty e)) (k:Int × Int) (v:Int):
  ∃w',(Instr.mapUpdate t (.map (Xa b)) (K.enc k) (I6 v)).run prog w= .ok () w'/\Jc K w' b (fun x=>if x=k then Xa v else g x)/\w.grownBy w' (Xa b)/\w'.heap.size=w.heap.size:=by
 obtain⟨i,h,l,c,⟨f,d,j⟩,m⟩:=a;have a:ZR K i h l:=⟨f,d,j⟩;have d:=zaT K k w l i.toList f
 cases j:zdC l k 0 with
 | none=>
  rw[j]at d;have f:=(zaB j).2 v;refine⟨ChangeMaps.setBlock w b (.map (i.push ⟨K.enc k,I6 v,h⟩) (h+1)),?_,zdh c m (by rw[f];exact a.push k v)⟩
  simp[Instr.mapUpdate,run_underlying ht,MapKept.run_getObj_map c,K.check,d,MapKept.run_setObj_map _ c,ChangeMaps.setBlock]
 | some q=>
  obtain⟨f,u⟩:=q;rw[j]at d;obtain⟨p,z,rfl,rfl,l,_,n⟩:=zaA j;rw[zA]at d;obtain⟨f,f,j,_⟩:=a.at l;refine⟨ChangeMaps.setBlock w b (.map (i.modify p fun e=>{ e with key:=K.enc k,val:=I6 v }) h),?_,zdh c m (by rw[n];exact a.modify l _ v (fun _=>rfl) (fun _ _ _=>⟨rfl,rfl⟩))⟩
  simp[Instr.mapUpdate,run_underlying ht,MapKept.run_getObj_map c,K.check,d,f,j,Instr.keyThatStays,K.bits,MapKept.run_setObj_map _ c,ChangeMaps.setBlock]
def zpO (K:zaD) (w:Xn) (b:Nat) (g:Int × Int->Option Int) (k:Int × Int) (st:Int):Prop:=
 ∃es cl l,w.heap[b]? =Xa (.map es cl)/\ZR K es cl l/\(∀k,zaF l k=g k)/\∃(n:Nat) (z:Int) (e:MapEntry),l[n]? =Xa (k,z)/\(∀v,zhY l k v=l.set n (k,v))/\es[n]? =Xa e/\(e.born:Int)=st
theorem zpO.f {K:zaD} {w:Xn} {g:Int × Int->Option Int} {k:Int × Int} {a:Int} (h:zpO K w b g k a):Jc K w b g:=by
 obtain⟨d,c,l,e,a,f,_⟩:=h;exact⟨d,c,l,e,⟨a.pairs,a.rise,a.low⟩,f⟩
theorem zgp:∀{l:List ((Int × Int) × Int)} {k:Int × Int} (z v:Int),zaF l k=Xb->zhY (l++ [(k,z)]) k v=(l++ [(k,z)]).set l.length (k,v)
 | [],k,z,v,_=>by simp[zhY]
 | p :: l,k,z,v,h=>by
  unfold zaF at h
  by_cases e:k=p.1
  ·rw[kE e]at h;cases h
  rw[kF e]at h;simp only[Yw,zhY,e,if_false,Yj,sS];rw[zgp z v h]
theorem Jc.entry {K:zaD} {w:Xn} {g:Int × Int->Option Int} (h:Jc K w b g) {e:TypeId} (ht:Tryz.prog.underlying t=Xa (.map K.ty e)) (s:(zeroValue e).run prog w= .ok (I6 0) w) (k:Int × Int):
  ∃w' a,(Instr.mapEntry t (.map (Xa b)) (K.enc k)).run prog w= .ok (Xm #[I6 ((g k).getD 0),I6 a]) w'/\zpO K w' b (fun x=>if x=k then Xa ((g k).getD 0)else g x) k a/\w.grownBy w' (Xa b)/\w'.heap.size=w.heap.size:=by
 obtain⟨i,f,l,c,⟨r,a,d⟩,j⟩:=h;have h:ZR K i f l:=⟨r,a,d⟩;have m:=zaT K k w l i.toList r
 cases q:zdC l k 0 with
 | none=>
  rw[q]at m;obtain⟨p,d⟩:=zaB q;have n:g k=Xb:=by rw[<-j];exact p
  have a:=h.push k 0;have u:=zdh c j (k:=k) (v:=0) (by rw[d];exact a)
  refine⟨ChangeMaps.setBlock w b (.map (i.push ⟨K.enc k,I6 0,f⟩) (f+1)),f,?_,⟨_,_,_,ChangeMaps.heap_setBlock_same c _,a,fun x=>?_,l.length,0,⟨K.enc k,I6 0,f⟩,by simp,fun A=>zgp 0 A p,?_,rfl⟩,u.2⟩
  ·rw[n]
   simp[Instr.mapEntry,run_underlying ht,MapKept.run_getObj_map c,K.check,m,s,MapKept.run_setObj_map _ c,ChangeMaps.setBlock,goInt]
  ·rw[n,<-d,zbr,j];rfl
  have:i.size=l.length:=by have:=congrArg Yv r;simpa using this
  simp[<-this]
 | some d=>
  obtain⟨p,p⟩:=d;rw[q]at m;obtain⟨r,z,rfl,rfl,p,B,s⟩:=zaA q;rw[zA]at m;obtain⟨y,d,q,C⟩:=h.at p;have n:g k=Xa z:=by rw[<-j];exact B
  have a:ZR K (i.modify r fun e=>{ e with key:=K.enc k }) f (l.set r (k,z)):=h.modify p (fun e=>{ e with key:=K.enc k }) z (fun _=>rfl) (fun _ _ h=>⟨rfl,h⟩)
  have u:=zdh c j (k:=k) (v:=z) (by rw[s];exact a)
  have h:=(gS.1 p).1;refine⟨ChangeMaps.setBlock w b (.map (i.modify r fun e=>{ e with key:=K.enc k }) f),y.born,?_,⟨_,_,_,ChangeMaps.heap_setBlock_same c _,a,fun x=>?_,r,z,{ y with key:=K.enc k },sF h,fun A=>?_,?_,rfl⟩,u.2⟩
  ·rw[n]
   simp[Instr.mapEntry,run_underlying ht,MapKept.run_getObj_map c,K.check,m,d,q,Instr.keyThatStays,K.bits,MapKept.run_setObj_map _ c,ChangeMaps.setBlock,goInt]
  ·rw[n,<-s,zbr,j];rfl
  ·rw[zfd p,s]
  rw[Array.getElem?_modify,kE rfl,d];rfl
theorem zpO.store {K:zaD} {w:Xn} {g:Int × Int->Option Int} {k:Int × Int} {a:Int} (h:zpO K w b g k a) (t) (v:Int):
  ∃w',(Instr.entryStore t (.map (Xa b)) (I6 a) (I6 v)).run prog w= .ok () w'/\Jc K w' b (fun x=>if x=k then Xa v else g x)/\w.grownBy w' (Xa b)/\w'.heap.size=w.heap.size:=by
 obtain⟨a,p,l,i,f,q,n,z,e,r,s,c,rfl⟩:=h;have j:=(aS.1 c).1;have d:a.findIdx? (fun h=>(h.born:Int) ==(e.born:Int))=Xa n:=by
  rw[Array.findIdx?_eq_some_iff_getElem];refine⟨j,?_,fun j l=>?_⟩
  ·have:a[n]=e:=(aS.1 c).2
   simp[this]
  intro u;have m:j<a.size:=by omega
  have l:a[j].born=e.born:=by
   have:(a[j].born:Int)=(e.born:Int):=by simpa using u
   omega
  have u:(a.toList.map (·.born))[n]? =Xa e.born:=by simp[c]
  have c:(a.toList.map (·.born))[j]? =Xa e.born:=by simp[m,l]
  have:=zjA f.rise u c;omega
 refine⟨ChangeMaps.setBlock w b (.map (a.modify n fun h=>{ h with val:=I6 v }) p),?_,zdh i q (by rw[s];exact f.modify r _ v (fun _=>rfl) (fun _ a _=>⟨a,rfl⟩))⟩
 simp[Instr.entryStore,MapKept.run_getObj_map i,asInt,asIntOf,d,MapKept.run_setObj_map _ i,ChangeMaps.setBlock]
theorem zlb {K:zaD} {w:Xn} {rest:List Oper} {a:Act} (c:o.guard=Xb) (t e m x v) (f:o.op= .mapUpdate t m x v) (ht:Tryz.prog.underlying t=Xa (.map K.ty e)) (b:Nat) (g:Int × Int->Option Int) (h:Jc K w b g) (k:Int × Int) (z:Int)
  (j:a.eval m= .map (Xa b)) (n:a.eval x=K.enc k) (l:a.eval v=I6 z)
  (i:∀w',Jc K w' b (fun x=>if x=k then Xa z else g x)->w.grownBy w' (Xa b)->w'.heap.size=w.heap.size->wpList prog ops Q rest (a.put o.dst undef) w'):wpList prog ops Q (o :: rest) a w:=by
 refine wpList_plain c fun c d=>?_
 obtain⟨w',c,p,q,r⟩:=h.put ht k z;unfold Oper.wp
 simp[execOp,f,j,n,l,c,Result.andThen]
 exact d _ _ (i w' p q r)
theorem zlz (em:Bool) (a:Int × Int) (w):(Instr.checkKey em 10000 187 (Xi #[I6 a.1,I6 a.2])).run prog w= .ok () w:=by
 have hf : (Tryz.prog.fieldsOf 187).toList.map (fun f => (f.name, f.type, f.offset)) = [("file", 3, 0), ("index", 3, 1)] := by kernel_rfl
 have hu:∃fs,Tryz.prog.underlying 187=Xa (.struct fs)/\Tryz.prog.fieldsOf 187=fs:=⟨_,underlying187,by kernel_rfl⟩
 obtain⟨fs,hu,hfe⟩:=hu;rw[hfe]at hf;obtain⟨f0,f1,hfs⟩:∃f0 f1,fs.toList=[f0,f1]:=by
  have hl:fs.toList.length=2:=by have:=congrArg Yv hf;simpa using this
  match hq:fs.toList,hl with
  | [f0,f1],_=>exact⟨f0,f1,rfl⟩
 rw[hfs]at hf
 simp at hf
 obtain⟨⟨n0,t0,o0⟩,⟨n1,t1,o1⟩⟩:=hf;have pI:∀(zs:Array Xq) (o:Nat) v,zs[o]? =Xa (I6 v)->(part 3 zs o).run prog w= .ok (I6 v) w:=fun zs o v hz=>run_part_plain w (by simp[Program.plainKey,underlying3]) hz
 have pB:∀(zs:Array Xq) (o:Nat) v,zs[o]? =Xa (Xh v)->(part 4 zs o).run prog w= .ok (Xh v) w:=fun zs o v hz=>run_part_plain w (by simp[Program.plainKey,underlying4]) hz
 have cI:∀(v:Int) (n:Nat),(Instr.checkKey em (n+1) 3 (I6 v)).run prog w= .ok () w:=fun v n=>by
  unfold Instr.checkKey
  simp[run_underlying underlying3]
 have cB:∀(v:Bool) (n:Nat),(Instr.checkKey em (n+1) 4 (Xh v)).run prog w= .ok () w:=fun v n=>by
  unfold Instr.checkKey
  simp[run_underlying underlying4]
 rw[show(10000:Nat)=9999+1 from rfl,Instr.checkKey]
 simp only[Xt,run_underlying hu,rA];rw[<-Of,hfs];have k1:=cI a.1 9998;have k2:=cI a.2 9998;have k3:=cB Xd 9998;have q0:=pI (#[I6 a.1,I6 a.2]) 0 a.1 rfl;have q1:=pI (#[I6 a.1,I6 a.2]) 1 a.2 rfl
 simp[List.forIn_cons,n0,t0,o0,n1,t1,o1,q0,q1,k1,k2]
theorem zns (a b:Int × Int) (w):(Op.equal 187 (Xi #[I6 a.1,I6 a.2]) (Xi #[I6 b.1,I6 b.2])).run prog w= .ok (decide (a=b)) w:=by
 have hf : (Tryz.prog.fieldsOf 187).toList.map (fun f => (f.name, f.type, f.offset)) = [("file", 3, 0), ("index", 3, 1)] := by kernel_rfl
 unfold Op.equal Op.maxDepth;rw[run_equalIn_struct w 9999 187 _ _ (by kernel_rfl) (by kernel_rfl)]
 obtain⟨f0,f1,hfs⟩:∃f0 f1,(Tryz.prog.fieldsOf 187).toList=[f0,f1]:=by
  have hl:(Tryz.prog.fieldsOf 187).toList.length=2:=by have:=congrArg Yv hf;simpa using this
  match hq:(Tryz.prog.fieldsOf 187).toList,hl with
  | [f0,f1],_=>exact⟨f0,f1,rfl⟩
 rw[hfs]at hf⊢
 simp at hf
 obtain⟨⟨n0,t0,o0⟩,⟨n1,t1,o1⟩⟩:=hf;have pI:∀(zs:Array Xq) (o:Nat) v,zs[o]? =Xa (I6 v)->(part 3 zs o).run prog w= .ok (I6 v) w:=fun zs o v hz=>run_part_plain w (by simp[Program.plainKey,underlying3]) hz
 have pB:∀(zs:Array Xq) (o:Nat) v,zs[o]? =Xa (Xh v)->(part 4 zs o).run prog w= .ok (Xh v) w:=fun zs o v hz=>run_part_plain w (by simp[Program.plainKey,underlying4]) hz
 simp only[Op.eqFields,n0,t0,o0,n1,t1,o1];obtain⟨a1,a2⟩:=a;obtain⟨b1,b2⟩:=b
 simp[pI,run_equalIn_int w _ _ _ _ _ _ underlying3]
 by_cases e1:a1=b1 <;> by_cases e2:a2=b2 <;> simp[e1,e2]
def plK:zaD where
 ty:=187
 enc:=fun a=> Xi #[Xe Xf a.1,Xe Xf a.2]
 und:=⟨_,underlying187⟩
 check:=zlz
 same:=zns
 bits:=fun a=>by simp[Instr.sameBits]
theorem zmz (em:Bool) (a:Int × Int) (w):(Instr.checkKey em 10000 75 (Xi #[I6 a.1,I6 a.2,Xh Xd])).run prog w= .ok () w:=by
 have hf : (Tryz.prog.fieldsOf 75).toList.map (fun f => (f.name, f.type, f.offset)) = [("Kind", 3, 0), ("N", 3, 1), ("Write", 4, 2)] := by kernel_rfl
 have hu:∃fs,Tryz.prog.underlying 75=Xa (.struct fs)/\Tryz.prog.fieldsOf 75=fs:=⟨_,underlying75,by kernel_rfl⟩
 obtain⟨fs,hu,hfe⟩:=hu;rw[hfe]at hf;obtain⟨f0,f1,f2,hfs⟩:∃f0 f1 f2,fs.toList=[f0,f1,f2]:=by
  have hl:fs.toList.length=3:=by have:=congrArg Yv hf;simpa using this
  match hq:fs.toList,hl with
  | [f0,f1,f2],_=>exact⟨f0,f1,f2,rfl⟩
 rw[hfs]at hf
 simp at hf
 obtain⟨⟨n0,t0,o0⟩,⟨n1,t1,o1⟩,⟨n2,t2,o2⟩⟩:=hf;have pI:∀(zs:Array Xq) (o:Nat) v,zs[o]? =Xa (I6 v)->(part 3 zs o).run prog w= .ok (I6 v) w:=fun zs o v hz=>run_part_plain w (by simp[Program.plainKey,underlying3]) hz
 have pB:∀(zs:Array Xq) (o:Nat) v,zs[o]? =Xa (Xh v)->(part 4 zs o).run prog w= .ok (Xh v) w:=fun zs o v hz=>run_part_plain w (by simp[Program.plainKey,underlying4]) hz
 have cI:∀(v:Int) (n:Nat),(Instr.checkKey em (n+1) 3 (I6 v)).run prog w= .ok () w:=fun v n=>by
  unfold Instr.checkKey
  simp[run_underlying underlying3]
 have cB:∀(v:Bool) (n:Nat),(Instr.checkKey em (n+1) 4 (Xh v)).run prog w= .ok () w:=fun v n=>by
  unfold Instr.checkKey
  simp[run_underlying underlying4]
 rw[show(10000:Nat)=9999+1 from rfl,Instr.checkKey]
 simp only[Xt,run_underlying hu,rA];rw[<-Of,hfs];have k1:=cI a.1 9998;have k2:=cI a.2 9998;have k3:=cB Xd 9998;have q0:=pI (#[I6 a.1,I6 a.2,Xh Xd]) 0 a.1 rfl;have q1:=pI (#[I6 a.1,I6 a.2,Xh Xd]) 1 a.2 rfl;have q2:=pB (#[I6 a.1,I6 a.2,Xh Xd]) 2 Xd rfl
 simp[List.forIn_cons,n0,t0,o0,n1,t1,o1,n2,t2,o2,q0,q1,q2,k1,k2,k3]
theorem zom (a b:Int × Int) (w):(Op.equal 75 (Xi #[I6 a.1,I6 a.2,Xh Xd]) (Xi #[I6 b.1,I6 b.2,Xh Xd])).run prog w= .ok (decide (a=b)) w:=by
 have hf : (Tryz.prog.fieldsOf 75).toList.map (fun f => (f.name, f.type, f.offset)) = [("Kind", 3, 0), ("N", 3, 1), ("Write", 4, 2)] := by kernel_rfl
 unfold Op.equal Op.maxDepth;rw[run_equalIn_struct w 9999 75 _ _ (by kernel_rfl) (by kernel_rfl)]
 obtain⟨f0,f1,f2,hfs⟩:∃f0 f1 f2,(Tryz.prog.fieldsOf 75).toList=[f0,f1,f2]:=by
  have hl:(Tryz.prog.fieldsOf 75).toList.length=3:=by have:=congrArg Yv hf;simpa using this
  match hq:(Tryz.prog.fieldsOf 75).toList,hl with
  | [f0,f1,f2],_=>exact⟨f0,f1,f2,rfl⟩
 rw[hfs]at hf⊢
 simp at hf
 obtain⟨⟨n0,t0,o0⟩,⟨n1,t1,o1⟩,⟨n2,t2,o2⟩⟩:=hf;have pI:∀(zs:Array Xq) (o:Nat) v,zs[o]? =Xa (I6 v)->(part 3 zs o).run prog w= .ok (I6 v) w:=fun zs o v hz=>run_part_plain w (by simp[Program.plainKey,underlying3]) hz
 have pB:∀(zs:Array Xq) (o:Nat) v,zs[o]? =Xa (Xh v)->(part 4 zs o).run prog w= .ok (Xh v) w:=fun zs o v hz=>run_part_plain w (by simp[Program.plainKey,underlying4]) hz
 simp only[Op.eqFields,n0,t0,o0,n1,t1,o1,n2,t2,o2];obtain⟨a1,a2⟩:=a;obtain⟨b1,b2⟩:=b
 simp[pI,pB,run_equalIn_bool' w _ _ _ _ underlying4,run_equalIn_int w _ _ _ _ _ _ underlying3]
 by_cases e1:a1=b1 <;> by_cases e2:a2=b2 <;> simp[e1,e2]
def enK:zaD where
 ty:=75
 enc:=fun a=> Xi #[Xe Xf a.1,Xe Xf a.2,Xh Xd]
 und:=⟨_,underlying75⟩
 check:=zmz
 same:=zom
 bits:=fun a=>by simp[Instr.sameBits]
theorem Box.ne_map {K:zaD} {w:Xn} {cs:List Xq} {g:Int × Int->Option Int} (h:Box w b cs) (k:Jc K w B g):b≠B:=fun e=>by
 subst e;obtain⟨t,h⟩:=h;obtain⟨a,a,l,a,_⟩:=k;rw[h]at a;cases a
theorem zb.ne_map {α:Type} {E:Elt α} {K:zaD} {w:Xn} {base:Nat} {v:Xq} {l:List α} {g:Int × Int->Option Int} (h:zb E base w v l) (k:Jc K w B g):∀x,v.ownBlock=Xa x->Xa B≠Xa x:=fun x a e=>by
 cases e;obtain⟨b,b⟩:=h.obj a;obtain⟨a,a,l,a,_⟩:=k;rw[b]at a;cases a
theorem zq0 (w):(zeroValue 3).run prog w= .ok (I6 0) w:=by kernel_rfl
theorem ze6 (V:MaV) (m:Ma) (w) (z:zN w V m):
  Xp prog 83 #[Xi (mL V m).toArray] w fun e w'=>∃B,e= Xl (Xi #[V.f.x,I6 m.hand,V.s.x,V.sb.x,V.sq.x,V.db.x,V.dq.x,V.fl.x,I6 m.cnt,V.ca.x,V.sp.x,.map (Xa B)])/\Jc plK w' B (za0 m.ca)/\zc w w':=by
 obtain⟨s,t,h,j,d,f,g,⟨l,a,b⟩,i⟩:=V;dsimp only[mL];obtain⟨-,-,-,-,-,-,-,M,-⟩:=z.ns;dsimp only at M;have a4:=dD z.cas;have S:=dD M.symm;have Z:a<=9223372036854775807:=by have:=z.ca.short;omega
 clear z M;have L:=@run_makeMap prog;obtain⟨x,n⟩:=kB (((w.alloc (Xk #[s.x,I6 m.hand,t.x,h.x,j.x,d.x,f.x,g.x,I6 m.cnt,O l a b,i.x] 41)).alloc (Xk #[eS,I6 0,eS,eS,eS,eS,eS,eS,I6 0,eS,eS,.map Xb] 152)).alloc (.map #[] 0));have C:Xo (zc w x):=dD<|by rw[<-n];exact((za _ _).trans (za _ _)).trans (za _ _)
 have W:Xo (Box x w.heap.size [s.x,I6 m.hand,t.x,h.x,j.x,d.x,f.x,g.x,I6 m.cnt,O l a b,i.x]):=dD<|by rw[<-n];exact((Box.top _ _ _ rfl).alloc _).alloc _
 have ac:Xo (Box x (w.heap.size+1) [eS,I6 0,eS,eS,eS,eS,eS,eS,I6 0,eS,eS,.map Xb]):=dD<|by rw[<-n];exact(Box.top _ _ _ (by simp)).alloc _
 have a5:Xo (Jc plK x (w.heap.size+1+1) (za0 (m.ca.take 0))):=dD<|by
  rw[<-n];have:=Jc.made plK ((w.alloc (Xk #[s.x,I6 m.hand,t.x,h.x,j.x,d.x,f.x,g.x,I6 m.cnt,O l a b,i.x] 41)).alloc (Xk #[eS,I6 0,eS,eS,eS,eS,eS,eS,I6 0,eS,eS,.map Xb] 152));have aq:((w.alloc (Xk #[s.x,I6 m.hand,t.x,h.x,j.x,d.x,f.x,g.x,I6 m.cnt,O l a b,i.x] 41)).alloc (Xk #[eS,I6 0,eS,eS,eS,eS,eS,eS,I6 0,eS,eS,.map Xb] 152)).heap.size=w.heap.size+1+1:=by simp
  rw[aq]at this;exact this.congr fun ar=>by rw[Yt];rfl
 have F:=dD n;clear n
 go_enter func83,ntmps83
 go_upto_region 2 with fail;rw[F.out];clear L;have Q:=W.c 9 rfl;go_wp2;clear Q
 go_loopg [10] a (fun an N wr=>∃k:Nat,k<=a/\a - k<=an/\N=I6 k/\Xo (zc w wr)/\Xo (Box wr w.heap.size [s.x,I6 m.hand,t.x,h.x,j.x,d.x,f.x,g.x,I6 m.cnt,O l a b,i.x])/\Xo (Box wr (w.heap.size+1) [eS,I6 0,eS,eS,eS,eS,eS,eS,I6 0,eS,eS,.map Xb])/\Xo (Jc plK wr (w.heap.size+1+1) (za0 (m.ca.take k))))
 case atStart=>exact⟨0,nZ _,by omega,rfl,C,W,ac,a5⟩
 obtain⟨k,ap,ao,rfl,A,X,Y,T⟩:=hrel
 by_cases r:k<a
 ·have v:=kC r
  obtain⟨p,R⟩:∃p,Xo (m.ca[k]? =Xa p):=⟨_,gE (by rw[S.out];exact r)⟩
  obtain⟨ag,rfl,I⟩:=a4.out k p R.out;obtain⟨ak,al,am⟩:=I wr A.out;clear I;go_upto_region 5 with fail;obtain⟨a9,c⟩:=kB (wr.alloc (Xk #[I6 p.file,I6 p.idx,I6 p.fr] 93));have D:=gT c A
  have aa:=yA c X
  have ae:=yA c Y
  have a6:Xo (Jc plK a9 (w.heap.size+1+1) (za0 (m.ca.take k))):=dD<|by rw[<-c];exact T.grew (za _ _)
  have a2:=xA c
  rw[c];clear c ak al am;obtain⟨ah,ai,aj⟩:=a2.c3
  go_wp2_with (refine zlb (K:=plK) rfl 150 3 (.tmp 14) (.tmp 19) (.tmp 21) rfl underlying150 (w.heap.size+1+1) _ a6 (p.file,p.idx) p.fr rfl rfl rfl ?_)
  clear ah ai aj;intro y a1 q _;have a7:Xo (Jc plK y (w.heap.size+1+1) (za0 (m.ca.take (k+1)))):=dD<|a1.congr fun ar=>by rw[qr R.out,zgR]
  have E:Xo (zc w y):=dD<|zd D q (by omega)
  have ab:Xo (Box y w.heap.size [s.x,I6 m.hand,t.x,h.x,j.x,d.x,f.x,g.x,I6 m.cnt,O (Xa ag) a b,i.x]):=aa.grown q (by omega)
  have af:Xo (Box y (w.heap.size+1) [eS,I6 0,eS,eS,eS,eS,eS,eS,I6 0,eS,eS,.map Xb]):=ae.grown q (by omega)
  clear a1 q;go_wp2
  go_roundg (a -(k+1))
  case measure=>omega
  exact⟨k+1,by omega,by omega,by go_num,E,ab,af,a7⟩
 have v:=kD r
 have:k=a:=by omega
 subst this;have G:Xo (Jc plK wr (w.heap.size+1+1) (za0 m.ca)):=dD<|by
  have:=T.out;rw[Xy (by rw[S.out];exact nR _)]at this
  exact this
 obtain⟨au,av,aw,ax,ay,az,b0,b1,b2,Q,P⟩:=X.c11
 go_wp2_with (refine zF rfl 152 (.tmp 2) (.tmp 25) rfl (w.heap.size+1) rfl [s.x,I6 m.hand,t.x,h.x,j.x,d.x,f.x,g.x,I6 m.cnt,O l k b,i.x,.map (Xa (w.heap.size+1+1))] rfl Y rfl (by kernel_rfl) (fun b3 a0=>by
  simp only[mC,nM,or_false]at a0
  rcases a0 with rfl|rfl|rfl|rfl|rfl|rfl|rfl|rfl|rfl|rfl|rfl|rfl <;> rfl) ?_)
 clear au av aw ax ay az b0 b1 b2 Q P;intro U H u _;have a3:Xo (zc w U):=dD<|zd A u (by omega)
 have a8:Xo (Jc plK U (w.heap.size+1+1) (za0 m.ca)):=G.kept u (by simp)
 go_wp2;refine bodyPost_ret (zX rfl _ rfl H underlying152 rfl (by kernel_rfl)) rfl ⟨_,rfl,a8,a3⟩
theorem zfG (V:MaV) (m:Ma) (B k:Nat) (g:Int × Int->Option Int) (w) (b:zN w V m) (s:k<m.fs.length) (d:Jc plK w B g):
  Xp prog 85 #[Xi #[V.f.x,I6 m.hand,V.s.x,V.sb.x,V.sq.x,V.db.x,V.dq.x,V.fl.x,I6 m.cnt,V.ca.x,V.sp.x,.map (Xa B)],I6 (k:Int)] w fun e w'=>e= Xl (Xh (decide (g ((zW m k).f,(zW m k).x)=Xa (k:Int))))/\zc w w':=by
 obtain⟨⟨x,r,y⟩,z,j,p,f,h,i,c,n⟩:=V;dsimp only[mL];obtain⟨t,-⟩:=b.ns;dsimp only at t;have a:k<r:=by omega
 obtain⟨q,l⟩:∃q,Xo (m.fs[k]? =Xa q):=⟨_,gE s⟩;have a:zW m (k:Int)=q:=by unfold zW;rw[tN,gD,l.out];rfl
 rw[a];obtain⟨v,rfl,u⟩:=(show zjI w x m.fs from b.frs) k q l.out
 clear a b t s;obtain⟨l,b⟩:=kB (w.alloc (Xk #[O (Xa v) r y,I6 m.hand,z.x,j.x,p.x,f.x,h.x,i.x,I6 m.cnt,c.x,n.x,.map (Xa B)] 152));have a:=gA b
 have t:=xA b
 have h:=sA b
 obtain⟨x,y,z,A,C,D,E,F,G,H,n,p,r⟩:=u l a.out;obtain⟨i,c⟩:=kB (l.alloc (Xk #[U8 q.p.b0,U8 q.p.b1,U8 q.p.b2,U8 q.p.b3,U8 q.p.b4,U8 q.p.b5,U8 q.p.b6,U8 q.p.b7,I6 q.r,Xh q.u,Xh q.d,I6 q.f,I6 q.x] 62));have f:=gT c a
 have v:=yA c t
 have s:=xP c h
 have a:(Instr.lookup 150 (.map (Xa B)) (Xi #[I6 q.f,I6 q.x]) Xc).run prog i= .ok (Xm #[I6 ((g (q.f,q.x)).getD 0),Xh (g (q.f,q.x)).isSome]) i:=(d.grew f).look (K:=plK) underlying150 (zq0 i) (q.f,q.x) Xc;have j:Xo (_=l):=b;have l:Xo (_=i):=c;clear b c u d;obtain⟨R,b⟩:=kA (decide (g (q.f,q.x)=Xa (k:Int)));rw[b.out];obtain⟨d,c⟩:=kA (g (q.f,q.x));rw[c.out]at a b
 go_enter func85,ntmps85
 go_upto_region 1 with fail;rw[j.out];have c:=t.c 0 rfl;go_upto_region 2 with fail;rw[l.out];rw[h.out];clear x y z A C D E F G H n p r c;have c:=v.c 11 rfl;have c:=s.c 11 rfl;have c:=s.c 12 rfl
 cases d with
 | none=>
  simp only[Option.getD_none,Option.isSome_none]at a;go_wp2;go_ret;exact⟨by rw[<-b.out];rfl,f⟩
 | some z=>
  simp only[Option.getD_some,Option.isSome_some]at a;have a:Xo ((z ==(k:Int))=R):=dD<|by rw[<-b.out,Yr];simp
  go_wp2;go_ret;exact⟨by rw[<-a.out];rfl,f⟩
def J0 (K:zaD) (w:Xn) (b:Nat) (H:Int × Int->Int):Prop:=∃g,Jc K w b g/\∀k,(g k).getD 0=H k
theorem J0.grew {K:zaD} {w:Xn} {H:Int × Int->Int} (h:J0 K w b H) (k:zc w w'):J0 K w' b H:=by
 obtain⟨g,a,c⟩:=h;exact⟨g,a.grew k,c⟩
theorem J0.congr {K:zaD} {w:Xn} {H a:Int × Int->Int} (h:J0 K w b H) (e:∀k,H k=a k):J0 K w b a:=by
 obtain⟨g,a,c⟩:=h;exact⟨g,a,fun k=>(c k).trans (e k)⟩
theorem J0.ne_box {K:zaD} {w:Xn} {cs:List Xq} {H:Int × Int->Int} (k:J0 K w B H) (h:Box w b cs):b≠B:=by
 obtain⟨g,a,_⟩:=k;exact h.ne_map a
theorem J0.ne_own {α:Type} {E:Elt α} {K:zaD} {w:Xn} {base:Nat} {v:Xq} {l:List α} {H:Int × Int->Int} (k:J0 K w B H) (h:zb E base w v l):∀x,v.ownBlock=Xa x->Xa B≠Xa x:=by
 obtain⟨g,a,_⟩:=k;exact h.ne_map a
def zd9 (K:zaD) (w:Xn) (b:Nat) (H:Int × Int->Int) (k:Int × Int) (st:Int):Prop:=∃g,zpO K w b g k st/\∀x,(g x).getD 0=H x
theorem J0.entry {K:zaD} {w:Xn} {H:Int × Int->Int} (h:J0 K w b H) {e:TypeId} (ht:Tryz.prog.underlying t=Xa (.map K.ty e)) (g:(zeroValue e).run prog w= .ok (I6 0) w) (k:Int × Int):
  ∃w' a,(Instr.mapEntry t (.map (Xa b)) (K.enc k)).run prog w= .ok (Xm #[I6 (H k),I6 a]) w'/\zd9 K w' b H k a/\w.grownBy w' (Xa b)/\w'.heap.size=w.heap.size:=by
 obtain⟨c,f,c⟩:=h;obtain⟨w',a,d,h,i,j⟩:=f.entry ht g k;rw[c k]at d;refine⟨w',a,d,⟨_,h,fun x=>?_⟩,i,j⟩
 by_cases e:x=k
 ·subst e;rw[kE rfl];exact c x
 rw[kF e];exact c x
theorem zd9.h {K:zaD} {w:Xn} {H:Int × Int->Int} {k:Int × Int} {a:Int} (h:zd9 K w b H k a):J0 K w b H:=by
 obtain⟨g,a,c⟩:=h;exact⟨g,a.f,c⟩
theorem J0.look {K:zaD} {w:Xn} {H:Int × Int->Int} (h:J0 K w b H) {e:TypeId} (ht:Tryz.prog.underlying t=Xa (.map K.ty e)) (d:(zeroValue e).run prog w= .ok (I6 0) w) (k:Int × Int):
  (Instr.lookup t (.map (Xa b)) (K.enc k) Xd).run prog w= .ok (I6 (H k)) w:=by
 obtain⟨g,a,c⟩:=h;have:=a.look ht d k Xd;rw[c k]at this;exact this
def zqq (H:Int × Int->Int) (k:Int × Int):Int × Int->Int:=fun x=>H x+(if x=k then 1 else 0)
theorem zba {K:zaD} {w:Xn} {rest:List Oper} {a:Act} (c:o.guard=Xb) (t m s x) (e:o.op= .entryStore t m s x) (b:Nat) (H:Int × Int->Int) (k:Int × Int) (d:Int) (h:zd9 K w b H k d)
  (j:a.eval m= .map (Xa b)) (l:a.eval s=I6 d) (n:a.eval x=I6 (H k+1))
  (i:∀w',J0 K w' b (zqq H k)->w.grownBy w' (Xa b)->w'.heap.size=w.heap.size->wpList prog ops Q rest (a.put o.dst undef) w'):wpList prog ops Q (o :: rest) a w:=by
 refine wpList_plain c fun c d=>?_
 obtain⟨g,f,g⟩:=h;obtain⟨w',c,h,p,q⟩:=f.store t (H k+1);unfold Oper.wp
 simp[execOp,e,j,l,n,c,Result.andThen]
 refine d _ _ (i w' ⟨_,h,fun y=>?_⟩ p q)
 unfold zqq
 by_cases e:y=k
 ·subst e;rw[kE rfl,kE rfl];rfl
 rw[kF e,kF e,g y];omega
theorem zn2 (l:List Ca) (key:Int × Int):0<=zae l key/\zae l key<=l.length:=by
 unfold zae zL
 split
 ·have:=Yb (p:=fun c:Ca=>decide (c.fr=key.2)) (l:=l)
  omega
 omega
theorem zep (s):(qU s).length<=64:=by
 unfold qU;have:=List.length_filter_le (fun n=>enS (zo s n)) (Oj 64)
 simpa using this
theorem zpg (m:Ma) (i:Nat) (l:List Nat) (s) (key:Int × Int):0<=qt m i l s key/\qt m i l s key<=m.ca.length+64*m.sp.length+l.length:=by
 unfold qt;have a:(if key.1=1 then zL m.ca key.2 else 0)<=m.ca.length:=by
  split
  ·exact Yb
  omega
 have b:∀(L:List Sp),(L.map fun s=>(qU s).countP fun n=>isE (zo s n) key.1 key.2).sum<=64*L.length:=by
  intro L
  induction L with
  | nil=>simp
  | cons a L c=>
   have c:=Yb (p:=fun n=>isE (zo a n) key.1 key.2) (l:=qU a)
   have c:=zep a;simp only[mP,List.sum_cons,Yj];omega
 have a:=b (m.sp.take i);have a:(m.sp.take i).length<=m.sp.length:=by simp;omega
 have a:=Yb (p:=fun n=>isE (zo s n) key.1 key.2) (l:=l)
 omega
def zei:Sp:=⟨Xc,[],[]⟩
theorem zib (V) (m:Ma) (w) (hm:zN w V m) (hsp4:m.sp.length<=4) (htb:∀s∈m.sp,tbW s.tb=0):
  Xp prog 84 #[Xi (mL V m).toArray] w fun e w'=>∃B,e= Xl (.map (Xa B))/\J0 enK w' B (qt m m.sp.length [] zei)/\zc w w':=by
 obtain⟨vf,vs,vsb,vsq,vdb,vdq,vfl,⟨caa,can,cac⟩,⟨spa,spn,spc⟩⟩:=V;dsimp only[mL];obtain⟨-,-,-,-,-,-,-,n8,n9⟩:=hm.ns;dsimp only at n8 n9;have HR:Xo (zhw w caa m.ca):=hm.cas;have HN:=dD n8.symm;have hbig:can<=140737488355328:=by have:=hm.ca.2;have h24:qS.bytes=24:=rfl;rw[h24]at this;omega
 obtain⟨xs,hxl,hrow,hsp⟩:=hm.spaces;have HXL:=dD hxl;have HRS:Xo (∀(j:Nat) x,xs[j]? =Xa x->∃ad,spa=Xa ad/\∀W,zc w W->zoz W (ad.add (j*10)) x):=hrow;have HSP:=dD hsp;have HNS:=dD n9.symm;have HTBS:=dD htb;have HC0:Xo (∀j key,0<=zae (m.ca.take j) key/\zae (m.ca.take j) key<=140737488355328):=show∀j key,_ from fun j key=>by
  have h1:=zn2 (m.ca.take j) key;have h2:(m.ca.take j).length<=m.ca.length:=by simp;omega
  omega
 have HH0:Xo (∀i l s key,l.length<=64->0<=qt m i l s key/\qt m i l s key<=140737488360000):=dD<|fun i l s key hl=>by
  have h1:=zpg m i l s key;omega
 have hsn4:spn<=4:=by omega
 clear hm n8 n9 hxl hrow hsp hsp4 htb;have hmm:=@run_makeMap prog;obtain⟨W0,hW0⟩:=kB ((w.alloc (Xk #[vf.x,I6 m.hand,vs.x,vsb.x,vsq.x,vdb.x,vdq.x,vfl.x,I6 m.cnt,O caa can cac,O spa spn spc] 41)).alloc (.map #[] 0));have HG0:Xo (zc w W0):=dD<|by rw[<-hW0];exact(za _ _).trans (za _ _)
 have X0:Xo (Box W0 w.heap.size [vf.x,I6 m.hand,vs.x,vsb.x,vsq.x,vdb.x,vdq.x,vfl.x,I6 m.cnt,O caa can cac,O spa spn spc]):=dD<|by rw[<-hW0];exact(Box.top _ _ _ rfl).alloc _
 have M0:Xo (J0 enK W0 (w.heap.size+1) (zae (m.ca.take 0))):=dD<|by
  rw[<-hW0];have:=Jc.made enK (w.alloc (Xk #[vf.x,I6 m.hand,vs.x,vsb.x,vsq.x,vdb.x,vdq.x,vfl.x,I6 m.cnt,O caa can cac,O spa spn spc] 41));have hs:(w.alloc (Xk #[vf.x,I6 m.hand,vs.x,vsb.x,vsq.x,vdb.x,vdq.x,vfl.x,I6 m.cnt,O caa can cac,O spa spn spc] 41)).heap.size=w.heap.size+1:=by simp
  rw[hs]at this;exact⟨_,this,fun k=>by rw[Yt,zl1];rfl⟩
 have HW0:Xo (_=W0):=hW0;clear hW0
 go_enter func84,ntmps84
 go_upto_region 2 with fail;rw[HW0.out];clear hmm;have x9:=X0.c 9 rfl;go_wp2;clear x9
 go_loopg [15] can (fun gg s15 wr=>∃kk:Nat,kk<=can/\can - kk<=gg/\s15=I6 kk/\Xo (zc w wr)/\Xo (Box wr w.heap.size [vf.x,I6 m.hand,vs.x,vsb.x,vsq.x,vdb.x,vdq.x,vfl.x,I6 m.cnt,O caa can cac,O spa spn spc])/\Xo (J0 enK wr (w.heap.size+1) (zae (m.ca.take kk))))
 case atStart=>exact⟨0,nZ _,by omega,rfl,HG0,X0,M0⟩
 obtain⟨kk,hkk,hgg,rfl,BW,XW,MW⟩:=hrel
 by_cases hlt:kk<can
 ·have hltz:=kC hlt
  obtain⟨c,HC⟩:∃c,Xo (m.ca[kk]? =Xa c):=⟨_,gE (by rw[HN.out];exact hlt)⟩
  obtain⟨ad,rfl,hl⟩:=HR.out kk c HC.out;obtain⟨d0,d1,d2⟩:=hl wr BW.out;clear hl;go_upto_region 5 with fail;obtain⟨W1,hW1⟩:=kB (wr.alloc (Xk #[I6 c.file,I6 c.idx,I6 c.fr] 93));have HG1:=gT hW1 BW
  have X1:=yA hW1 XW
  have M1:Xo (J0 enK W1 (w.heap.size+1) (zae (m.ca.take kk))):=dD<|by rw[<-hW1];exact MW.grew (za _ _)
  have C1:=xA hW1
  rw[hW1];clear hW1 d0 d1 d2;obtain⟨pb,HPB⟩:=kA wr.heap.size;rw[HPB.out]at C1⊢;obtain⟨H,HH⟩:=kA (zae (m.ca.take kk));rw[HH.out]at M1;obtain⟨hb0,hb1⟩:0<=H (1,c.fr)/\H (1,c.fr)<=140737488355328:=by rw[<-HH.out];exact HC0 kk (1,c.fr)
  obtain⟨I,hI⟩:∃I:Xn->Prop,I=fun u=>J0 enK u (w.heap.size+1) H/\Box u pb [I6 c.file,I6 c.idx,I6 c.fr]/\Box u w.heap.size [vf.x,I6 m.hand,vs.x,vsb.x,vsq.x,vdb.x,vdq.x,vfl.x,I6 m.cnt,O (Xa ad) can cac,O spa spn spc]/\zc w u:=⟨_,rfl⟩
  have HI:Xo (∀u,I u↔J0 enK u (w.heap.size+1) H/\Box u pb [I6 c.file,I6 c.idx,I6 c.fr]/\Box u w.heap.size [vf.x,I6 m.hand,vs.x,vsb.x,vsq.x,vdb.x,vdq.x,vfl.x,I6 m.cnt,O (Xa ad) can cac,O spa spn spc]/\zc w u):=dD<|fun u=>by rw[hI]
  clear hI;have hx2:∀y:zh I,y.world.cell? ⟨pb,2,Xb⟩=Xa (I6 c.fr):=fun y=>((HI _).1 y.holds).2.1.c 2 rfl
  have hlk:∀y:zh I,(Instr.lookup 154 (.map (Xa (w.heap.size+1))) (Xi #[I6 1,I6 c.fr,Xh Xd]) Xd).run prog y.world= .ok (I6 (H (1,c.fr))) y.world:=fun y=>((HI _).1 y.holds).1.look (K:=enK) underlying154 (zq0 _) (1,c.fr)
  have hI0:I W1.drew:=(HI _).2 ⟨M1.grew (gW _),C1.grew (gW _),X1.grew (gW _),HG1.trans (gW _)⟩
  have hne:Nonempty (zh I):=⟨⟨_,hI0⟩⟩;refine qK (I:=I) 8 [(6,⟨fun v=>∃st,v= Xm #[I6 (H (1,c.fr)),I6 st],fun v w'=>∃st,v= Xm #[I6 (H (1,c.fr)),I6 st]/\zd9 enK w' (w.heap.size+1) H (1,c.fr) st,fun _ _=>True,fun _=>True⟩)] hI0 zY (by kernel_rfl) rfl rfl (by decide) ?hS ?hp ?hpre ?hpr0 ?_
  case hS=>
   intro y hy;simp only[mC,nM,or_false]at hy;subst hy;exact⟨_,0,rfl⟩
  case hp=>
   intro k s j t' hk hj hjk _ v p q hst hpo;obtain⟨rfl,rfl⟩:=zbW hk;obtain⟨rfl,rfl⟩:=zbW hj;exact absurd rfl hjk
  case hpre=>
   intro j t' k s hj hk hjk p q hst hpr;obtain⟨rfl,rfl⟩:=zbW hj;trivial
  case hpr0=>
   intro k t' hk;obtain⟨rfl,rfl⟩:=zbW hk;trivial
  simp only[Yf,Yg];iterate 6 refine zm ?_
  refine zP rfl rfl (fun w' hI' hpr hF=>?_) (fun v1 hv=>?_)
  ·obtain⟨i1,i2,i3,i4⟩:=(HI _).1 hI';obtain⟨w2,st,hrun,r1,r2,r3⟩:=i1.entry (K:=enK) underlying154 (zq0 w') (1,c.fr);have hrun':(Instr.mapEntry 154 (.map (Xa (w.heap.size+1))) (Xi #[I6 1,I6 c.fr,Xh Xd])).run prog w'= .ok (Xm #[I6 (H (1,c.fr)),I6 st]) w2:=hrun;clear hx2 hlk hne;refine zQ.step (v:= Xm #[I6 (H (1,c.fr)),I6 st]) (w':=w2) (by simp only[execOp];go_simp) ⟨(HI _).2 ⟨r1.h,i2.grown r2 (i1.ne_box i2),i3.grown r2 (i1.ne_box i3),zd i4 r2 (by omega)⟩,trivial,⟨_,rfl⟩,_,rfl,r1⟩
  obtain⟨st,rfl⟩:=hv;refine Uq ?_;refine zm ?_
  refine Zq fun W3 hI3 hF=>?_
  obtain⟨i1,i2,i3,i4⟩:=(HI _).1 hI3;obtain⟨st',hst,hE⟩:∃st',(Value.tuple #[I6 (H (1,c.fr)),I6 st])= Xm #[I6 (H (1,c.fr)),I6 st']/\zd9 enK W3 (w.heap.size+1) H (1,c.fr) st':=hF 6;have hE':zd9 enK W3 (w.heap.size+1) H (1,c.fr) st:=by
   simp at hst
   rw[hst];exact hE
  have X3:=dD i3;have HG3:=dD i4;have HE3:=dD hE';clear hx2 hlk hne hF hI3 i1 i2 i3 i4 hE hst hE' hI0;refine zba (K:=enK) rfl 154 (.tmp 19) (.tmp 26) (.tmp 24) rfl (w.heap.size+1) H (1,c.fr) st HE3 rfl rfl (by go_num) ?_
  intro W4 m4 hg4 _;have X4:Xo (Box W4 w.heap.size [vf.x,I6 m.hand,vs.x,vsb.x,vsq.x,vdb.x,vdq.x,vfl.x,I6 m.cnt,O (Xa ad) can cac,O spa spn spc]):=X3.grown hg4 (by omega)
  have HG4:Xo (zc w W4):=dD<|zd HG3 hg4 (by omega)
  have M4:Xo (J0 enK W4 (w.heap.size+1) (zae (m.ca.take (kk+1)))):=dD<|m4.congr fun k=>by rw[qr HC.out,zkn,<-HH.out];rfl
  clear m4 hg4 hb0 hb1;go_wp2
  go_roundg (can -(kk+1))
  case measure=>omega
  exact⟨kk+1,by omega,by omega,by go_num,HG4,X4,M4⟩
 have hltz:=kD hlt
 have:kk=can:=by omega
 subst this;have MA1:Xo (J0 enK wr (w.heap.size+1) (qt m 0 [] zei)):=dD<|MW.congr fun k=>by
  rw[Xy (by rw[HN.out];exact nR _)]
  exact zl2 m zei k
 have x10:=XW.c 10 rfl;go_wp2;clear x10;have HBW:Xo (zc w wr):=BW
 go_loopg [31] spn (fun gg s31 wr=>∃i:Nat,i<=spn/\spn - i<=gg/\s31=I6 i/\Xo (zc w wr)/\Xo (J0 enK wr (w.heap.size+1) (qt m i [] zei)))
 case atStart=>exact⟨0,nZ _,by omega,rfl,HBW,MA1⟩
 obtain⟨i,hi,hg2,rfl,BW,MW⟩:=hrel
 by_cases hlt2:i<spn
 ·have hltz2:=kC hlt2
  obtain⟨s,HS⟩:∃s,Xo (m.sp[i]? =Xa s):=⟨_,gE (by rw[HNS.out];exact hlt2)⟩
  obtain⟨x,HX⟩:∃x,Xo (xs[i]? =Xa x):=⟨_,gE (by rw[HXL.out,HNS.out];exact hlt2)⟩
  have HAT:=dD<|HSP.out i x s HX HS.out;obtain⟨ad,rfl,hl⟩:=HRS.out i x HX.out;obtain⟨d0,d1,d2,d3,d4,d5,d6,d7,d8,d9⟩:=hl wr BW.out;clear hl;go_upto_region 10 with fail;obtain⟨W1,hW1⟩:=kB (wr.alloc (Xk #[Xh x.live,x.ar.x,x.t0.x,x.t1.x,x.t2.x,x.t3.x,x.t4.x,x.t5.x,x.t6.x,x.t7.x] 79));have HG1:=gT hW1 BW
  have M1:Xo (J0 enK W1 (w.heap.size+1) (qt m i [] s)):=dD<|by rw[<-hW1];exact(MW.grew (za _ _)).congr fun k=>by unfold qt;simp
  have S1:=xA hW1
  rw[hW1];clear hW1 d0 d1 d2 d3 d4 d5 d6 d7 d8 d9;obtain⟨pb,HPB⟩:=kA wr.heap.size;rw[HPB.out]at S1⊢;have hcall:Xp prog 79 #[Xi #[x.t0.x,x.t1.x,x.t2.x,x.t3.x,x.t4.x,x.t5.x,x.t6.x,x.t7.x]] W1 fun e w'=>∃v,e= Xl v/\zb blE W1.heap.size w' v (jD s.tb zb9 64)/\zc W1 w':=zaV x.tab s.tb W1 (HAT.grew HG1).tb
  have s2:=S1.c 2 rfl;have s3:=S1.c 3 rfl;have s4:=S1.c 4 rfl;have s5:=S1.c 5 rfl;have s6:=S1.c 6 rfl;have s7:=S1.c 7 rfl;have s8:=S1.c 8 rfl;have s9:=S1.c 9 rfl;go_wp2_with fail;refine hcall.mono ?_;clear hcall s2 s3 s4 s5 s6 s7 s8 s9;rintro e' W2 ⟨pv,rfl,ow2,hg2'⟩;have HG2:=dD (HG1.trans hg2');have M2:=dD (M1.grew hg2');have S2:=dD (S1.grew hg2');have HW1L:=dD<|bS HG1.out
  clear hg2';obtain⟨pa,pc,rfl⟩:=ow2.form;have hq0:=ow2.at.short;rw[Ju]at ow2 hq0⊢;rw[List.length_map]at ow2 hq0⊢;obtain⟨q,HQ⟩:=kA ((qU s).length);rw[HQ.out]at ow2 hq0⊢;have OW2:=dD ow2
  have hq64:q<=64:=by rw[<-HQ.out];exact zep s
  clear ow2;go_wp2
  go_loopg [39] q (fun gg s39 wr=>∃j:Nat,j<=q/\q - j<=gg/\s39=I6 j/\Xo (zc w wr)/\Xo (zb blE W1.heap.size wr (O pa q pc) ((qU s).map fun(n:Nat)=>(n:Int)))/\Xo (Box wr pb [Xh x.live,x.ar.x,x.t0.x,x.t1.x,x.t2.x,x.t3.x,x.t4.x,x.t5.x,x.t6.x,x.t7.x])/\Xo (J0 enK wr (w.heap.size+1) (qt m i ((qU s).take j) s)))
  case atStart=>exact⟨0,nZ _,by omega,rfl,HG2,OW2,S2,by rw[Yt];exact M2⟩
  obtain⟨j,hj,hg3,rfl,BW,OW,SW,MW⟩:=hrel
  by_cases hlt3:j<q
  ·have hltz3:=kC hlt3
   obtain⟨n,HNI⟩:∃n,Xo ((qU s)[j]? =Xa n):=⟨_,gE (by rw[HQ.out];exact hlt3)⟩
   have hn64:=zgv HNI.out;have HTS:=dD<|qr HNI.out;obtain⟨_,_,heq,hnr⟩:=OW.at.nums;simp only[vJ]at heq;obtain⟨ad2,had2,hl2⟩:=hnr j (n:Int) (by rw[Yi,HNI.out];rfl)
   have e0:=hl2 wr (zc.refl _);rw[<-heq.1]at had2;subst had2;clear hl2 heq hnr;have hcg:Xp prog 82 #[Xi #[x.t0.x,x.t1.x,x.t2.x,x.t3.x,x.t4.x,x.t5.x,x.t6.x,x.t7.x],I6 (n:Int)] wr fun e w'=>e= Xl (enV (zo s n))/\zc wr w':=by
    have:=zah x.tab s.tb (n:Int) wr (HAT.grew BW).tb;rw[zjm hn64]at this;exact this
   obtain⟨en,HEN⟩:=kA (zo s n);rw[HEN.out]at hcg;have s2:=SW.c 2 rfl;have s3:=SW.c 3 rfl;have s4:=SW.c 4 rfl;have s5:=SW.c 5 rfl;have s6:=SW.c 6 rfl;have s7:=SW.c 7 rfl;have s8:=SW.c 8 rfl;have s9:=SW.c 9 rfl;go_wp2_with fail;refine hcg.mono ?_;clear hcg e0 s2 s3 s4 s5 s6 s7 s8 s9;rintro e' W4 ⟨rfl,hg4⟩;have HG4:=dD (BW.trans hg4);have OW4:=dD (OW.grew hg4)
   have S4:=dD (SW.grew hg4);have M4:=dD (MW.grew hg4);clear hg4;unfold enV;go_upto_region 14 with fail;obtain⟨W5,hW5⟩:=kB (W4.alloc (Xk #[I6 en.kind,I6 en.n,Xh en.wr] 75));have HG5:=gT hW5 HG4
   have OW5:Xo (zb blE W1.heap.size W5 (O (Xa ad2) q pc) ((qU s).map fun(n:Nat)=>(n:Int))):=dD<|by rw[<-hW5];exact OW4.grew (za _ _)
   have S5:=yA hW5 S4
   have M5:Xo (J0 enK W5 (w.heap.size+1) (qt m i ((qU s).take j) s)):=dD<|by rw[<-hW5];exact M4.grew (za _ _)
   have E5:=xA hW5
   rw[hW5];clear hW5;obtain⟨pe,HPE⟩:=kA W4.heap.size;rw[HPE.out]at E5⊢;obtain⟨H,HH⟩:=kA (qt m i ((qU s).take j) s);rw[HH.out]at M5;obtain⟨hb0,hb1⟩:0<=H (en.kind,en.n)/\H (en.kind,en.n)<=140737488360000:=by rw[<-HH.out];exact HH0 i _ s (en.kind,en.n) (by simp;omega)
   obtain⟨I,hI⟩:∃I:Xn->Prop,I=fun u=>J0 enK u (w.heap.size+1) H/\Box u pe [I6 en.kind,I6 en.n,Xh en.wr]/\Box u pb [Xh x.live,x.ar.x,x.t0.x,x.t1.x,x.t2.x,x.t3.x,x.t4.x,x.t5.x,x.t6.x,x.t7.x]/\zb blE W1.heap.size u (O (Xa ad2) q pc) ((qU s).map fun(n:Nat)=>(n:Int))/\zc w u:=⟨_,rfl⟩
   have HI:Xo (∀u,I u↔J0 enK u (w.heap.size+1) H/\Box u pe [I6 en.kind,I6 en.n,Xh en.wr]/\Box u pb [Xh x.live,x.ar.x,x.t0.x,x.t1.x,x.t2.x,x.t3.x,x.t4.x,x.t5.x,x.t6.x,x.t7.x]/\zb blE W1.heap.size u (O (Xa ad2) q pc) ((qU s).map fun(n:Nat)=>(n:Int))/\zc w u):=dD<|fun u=>by rw[hI]
   clear hI;have hx0:∀y:zh I,y.world.cell? ⟨pe,0,Xb⟩=Xa (I6 en.kind):=fun y=>((HI _).1 y.holds).2.1.c 0 rfl
   have hx1:∀y:zh I,y.world.cell? ⟨pe,1,Xb⟩=Xa (I6 en.n):=fun y=>((HI _).1 y.holds).2.1.c 1 rfl
   have hlk:∀y:zh I,(Instr.lookup 154 (.map (Xa (w.heap.size+1))) (Xi #[I6 en.kind,I6 en.n,Xh Xd]) Xd).run prog y.world= .ok (I6 (H (en.kind,en.n))) y.world:=fun y=>((HI _).1 y.holds).1.look (K:=enK) underlying154 (zq0 _) (en.kind,en.n)
   have hI0:I W5.drew:=(HI _).2 ⟨M5.grew (gW _),E5.grew (gW _),S5.grew (gW _),OW5.grew (gW _),HG5.trans (gW _)⟩
   have hne:Nonempty (zh I):=⟨⟨_,hI0⟩⟩;refine qK (I:=I) 10 [(8,⟨fun v=>∃st,v= Xm #[I6 (H (en.kind,en.n)),I6 st],fun v w'=>∃st,v= Xm #[I6 (H (en.kind,en.n)),I6 st]/\zd9 enK w' (w.heap.size+1) H (en.kind,en.n) st,fun _ _=>True,fun _=>True⟩)] hI0 zY (by kernel_rfl) rfl rfl (by decide) ?hS ?hp ?hpre ?hpr0 ?_
   case hS=>
    intro y hy;simp only[mC,nM,or_false]at hy;subst hy;exact⟨_,0,rfl⟩
   case hp=>
    intro k s j t' hk hj hjk _ v p q hst hpo;obtain⟨rfl,rfl⟩:=zbW hk;obtain⟨rfl,rfl⟩:=zbW hj;exact absurd rfl hjk
   case hpre=>
    intro j t' k s hj hk hjk p q hst hpr;obtain⟨rfl,rfl⟩:=zbW hj;trivial
   case hpr0=>
    intro k t' hk;obtain⟨rfl,rfl⟩:=zbW hk;trivial
   simp only[Yf,Yg];iterate 8 refine zm ?_
   refine zP rfl rfl (fun w' hI' hpr hF=>?_) (fun v1 hv=>?_)
   ·obtain⟨i1,i2,i3,i4,i5⟩:=(HI _).1 hI';obtain⟨w2,st,hrun,r1,r2,r3⟩:=i1.entry (K:=enK) underlying154 (zq0 w') (en.kind,en.n);have hrun':(Instr.mapEntry 154 (.map (Xa (w.heap.size+1))) (Xi #[I6 en.kind,I6 en.n,Xh Xd])).run prog w'= .ok (Xm #[I6 (H (en.kind,en.n)),I6 st]) w2:=hrun;clear hx0 hx1 hlk hne;refine zQ.step (v:= Xm #[I6 (H (en.kind,en.n)),I6 st]) (w':=w2) (by simp only[execOp];go_simp) ⟨(HI _).2 ⟨r1.h,i2.grown r2 (i1.ne_box i2),i3.grown r2 (i1.ne_box i3),i4.grown r2 (i1.ne_own i4),zd i5 r2 (by omega)⟩,trivial,⟨_,rfl⟩,_,rfl,r1⟩
   obtain⟨st,rfl⟩:=hv;refine Uq ?_;refine zm ?_
   refine Zq fun W6 hI6 hF=>?_
   obtain⟨i1,i2,i3,i4,i5⟩:=(HI _).1 hI6;obtain⟨st',hst,hE⟩:∃st',(Value.tuple #[I6 (H (en.kind,en.n)),I6 st])= Xm #[I6 (H (en.kind,en.n)),I6 st']/\zd9 enK W6 (w.heap.size+1) H (en.kind,en.n) st':=hF 8;have hE':zd9 enK W6 (w.heap.size+1) H (en.kind,en.n) st:=by
    simp at hst
    rw[hst];exact hE
   have S6:=dD i3;have OW6:=dD i4
   have HG6:=dD i5;have M6:=dD i1;have HE6:=dD hE';clear hx0 hx1 hlk hne hF hI6 i1 i2 i3 i4 i5 hE hst hE' hI0;refine zba (K:=enK) rfl 154 (.tmp 47) (.tmp 56) (.tmp 54) rfl (w.heap.size+1) H (en.kind,en.n) st HE6 rfl rfl (by go_num) ?_
   intro W7 m7 hg7 _;have S7:=dD<|S6.grown hg7 (M6.ne_box S6);have OW7:=dD<|OW6.grown hg7 (M6.ne_own OW6)
   have HG7:Xo (zc w W7):=dD<|zd HG6 hg7 (by omega)
   have M7:Xo (J0 enK W7 (w.heap.size+1) (qt m i ((qU s).take (j+1)) s)):=dD<|m7.congr fun k=>by rw[HTS.out,zlZ,HEN.out,HH.out];rfl
   clear m7 hg7 hb0 hb1;go_wp2
   go_roundg (q -(j+1))
   case measure=>omega
   exact⟨j+1,by omega,by omega,by go_num,HG7,OW7,S7,M7⟩
  have hltz3:=kD hlt3
  have:j=q:=by omega
  subst this;have M8:Xo (J0 enK wr (w.heap.size+1) (qt m (i+1) [] zei)):=dD<|MW.congr fun k=>by
   rw[Xy (by rw[HQ.out];exact nR _)]
   exact zl0 m i s zei HS k
  go_wp2
  go_roundg (spn -(i+1))
  case measure=>omega
  exact⟨i+1,by omega,by omega,by go_num,BW,M8⟩
 have hltz2:=kD hlt2
 have:i=spn:=by omega
 subst this;have M9:Xo (J0 enK wr (w.heap.size+1) (qt m m.sp.length [] zei)):=dD<|by rw[HNS.out];exact MW.out
 go_wp2;go_ret;exact⟨_,rfl,M9,BW⟩
def qQ (fl:List Fl) (i:Nat) (bl:List Int):List Int:=(QI (fl.take i))++bl
theorem zaY {n:Nat} {g h:List Int} (e:∀i:Nat,i<n->g.contains (i:Int)=h.contains (i:Int)):qJ n g=qJ n h:=by
 unfold qJ
 apply List.map_congr_left
 intro i a;rw[e i (Ys.1 a)]
theorem zkz (fl) (i:Nat) (bl) {b:Int} (a:b<0) (n:Nat):qJ n (qQ fl i (bl++ [b]))=qJ n (qQ fl i bl):=zaY fun j _=>by
 unfold qQ;have:¬(j:Int)=b:=by omega
 simp[this]
theorem zmt (fl) (i:Nat) (bl) (b:Nat) (n:Nat):qJ n ((b:Int) :: qQ fl i bl)=qJ n (qQ fl i (bl++ [(b:Int)])):=zaY fun j _=>by
 unfold qQ;rw[Yr];simp only[List.contains_eq_mem,mC,Yp,nM,or_false,decide_eq_true_eq];constructor
 ·rintro(h|h|h)
  ·exact .inr (.inr h)
  ·exact .inl h
  exact .inr (.inl h)
 rintro(h|h|h)
 ·exact .inr (.inl h)
 ·exact .inr (.inr h)
 exact .inl h
theorem zkA {fl:List Fl} {i:Nat} {f:Fl} (a:fl[i]? =Xa f):qQ fl i f.bl=qQ fl (i+1) []:=by
 unfold qQ QI;rw[Oh,a];simp
theorem zmu (fl:List Fl) (b:Int):(qQ fl fl.length []).contains b=zU fl b:=by
 unfold qQ QI zU;rw[List.take_length,List.append_nil,Yr];simp
theorem zq1:(Tryz.prog.info? 141).map (·.size)=Xa 80:=by kernel_rfl
theorem zgJ (n:Nat) (g):∀v∈qJ n g,v.oneCell'=Xc:=fun v a=>by
 unfold qJ at a;obtain⟨i,_,rfl⟩:=Yl.1 a;rfl
theorem zbn (n:Nat) (g):(qJ n g).length=n:=by simp[qJ]
theorem zdE (v) (fl:List Fl) (cnt:Int) (w) (hv:z5 w v fl) (hst:stW fl cnt=0):
  Xp prog 75 #[Xi #[v,I6 cnt]] w fun e w'=>e= Xl (Xi (qJ 80 (qQ fl fl.length [])).toArray)/\zc w w':=by
 have hz:=zbQ;obtain⟨a,c,rfl,hbig,hrow⟩:=hv.rows;have HR:=dD hrow;clear hrow hv;have HB:Xo (∀f∈fl,∀b∈f.bl,b=-1\/(0<=b/\b<80)):=show∀f∈fl,_ from fun f hf b hb=>by
  obtain⟨⟨_,_,h80⟩,h2,_⟩:=(z6 fl cnt).1 hst
  rcases(h2 f hf).2.2 b hb with h|h
  ·exact .inl h
  exact .inr (by omega)
 clear hst;obtain⟨n,HN⟩:=kA fl.length;rw[HN.out]at hbig⊢;obtain⟨W0,hW0⟩:=kB (((w.alloc (Xk #[O a n c,I6 cnt] 37)).alloc (Xk zfY 141)).alloc (Xk zfY 141));have HG0:Xo (zc w W0):=dD<|by rw[<-hW0];exact((za _ _).trans (za _ _)).trans (za _ _)
 have X0:Xo (Box W0 w.heap.size [O a n c,I6 cnt]):=dD<|by rw[<-hW0];exact((Box.top _ _ _ rfl).alloc _).alloc _
 have Y0:Xo (Box W0 (w.heap.size+1) (qJ 80 [])):=dD<|by rw[<-hW0,zdg];exact(Box.top _ (Xr 80 (Xh Xd)) _ (by simp)).alloc _
 have Z0:Xo (Box W0 (w.heap.size+1+1) (qJ 80 (qQ fl 0 []))):=dD<|by
  have:qJ 80 (qQ fl 0 [])=qJ 80 []:=zaY fun i _=>by simp[qQ,QI]
  rw[<-hW0,this,zdg];exact Box.top _ (Xr 80 (Xh Xd)) _ (by simp)
 have HW0:=dD hW0;clear hW0
 go_enter func75,ntmps75
 go_upto_region 2 with fail;rw[HW0.out];clear hz;have x0:=X0.c 0 rfl;go_wp2;clear x0
 go_loopg [5,11] n (fun gg _ s11 wr=>∃i:Nat,i<=n/\n - i<=gg/\s11=I6 i/\Xo (zc w wr)/\Xo (Box wr (w.heap.size+1) (qJ 80 []))/\Xo (Box wr (w.heap.size+1+1) (qJ 80 (qQ fl i []))))
 case atStart=>exact⟨0,nZ _,by omega,rfl,HG0,Y0,Z0⟩
 obtain⟨i,hi,hgg,rfl,BW,YW,ZW⟩:=hrel
 by_cases hlt:i<n
 ·have hltz:=kC hlt
  obtain⟨f,HF⟩:∃f,Xo (fl[i]? =Xa f):=⟨_,gE (by rw[HN.out];exact hlt)⟩
  obtain⟨ad,rfl,xa,xc,hr2,hl⟩:=HR.out i f HF.out;obtain⟨d0,d1⟩:=hl wr BW.out;obtain⟨_,_,heq,hnr⟩:=hr2.nums;have hq:=hr2.short;have HNR:Xo (zm3 w xa f.bl):=dD<|by
   simp only[vJ]at heq;rw[heq.1];exact hnr
  clear heq hnr hr2 hl;obtain⟨q,HQ⟩:=kA f.bl.length;rw[HQ.out]at d1 hq;go_upto_region 5 with fail;obtain⟨W1,hW1⟩:=kB (wr.alloc (Xk #[I6 f.size,O xa q xc] 65));have HG1:=gT hW1 BW
  have F1:=xA hW1
  have Y1:=yA hW1 YW
  have Z1:=yA hW1 ZW
  rw[hW1];clear hW1 d0 d1;have f1:=F1.c 1 rfl;go_wp2;clear f1;have HBW:=dD BW
  go_loopg [7,18] q (fun gg _ s18 wr=>∃j:Nat,j<=q/\q - j<=gg/\s18=I6 j/\Xo (zc w wr)/\Xo (Box wr (w.heap.size+1) (qJ 80 []))/\Xo (Box wr (w.heap.size+1+1) (qJ 80 (qQ fl i (f.bl.take j)))))
  case atStart=>exact⟨0,nZ _,by omega,rfl,HG1,Y1,by rw[Yt];exact Z1⟩
  obtain⟨j,hj,hg2,rfl,BW,YW,ZW⟩:=hrel
  by_cases hlt2:j<q
  ·have hltz2:=kC hlt2
   obtain⟨b,HBJ⟩:∃b,Xo (f.bl[j]? =Xa b):=⟨_,gE (by rw[HQ.out];exact hlt2)⟩
   obtain⟨ad2,rfl,hl2⟩:=HNR.out j b HBJ.out;have e0:=hl2 wr BW.out;have HRB:=dD<|HB.out f (mG HF) b (mG HBJ);have HTS:=dD<|qr HBJ.out;clear hl2
   by_cases hb:0<=b
   ·obtain⟨k,rfl⟩:∃k:Nat,b=(k:Int):=⟨b.toNat,by omega⟩
    have hk80:k<80:=by have:=HRB.out;omega
    have z0:=ZW.c k (Jz _ hk80);have zf:=ZW.f;have Z2:Xo (Box (wr.setCell ⟨w.heap.size+1+1,k,Xb⟩ (Xh Xc)) (w.heap.size+1+1) (qJ 80 (qQ fl i (f.bl.take (j+1))))):=dD<|by
     rw[HTS.out,<-zmt,<-zgI _ hk80];exact ZW.set k _
    have Y2:Xo (Box (wr.setCell ⟨w.heap.size+1+1,k,Xb⟩ (Xh Xc)) (w.heap.size+1) (qJ 80 [])):=dD<|YW.other (by simp) _
    have G2:Xo (zc w (wr.setCell ⟨w.heap.size+1+1,k,Xb⟩ (Xh Xc))):=dD<|zy BW (by simp;omega) _
    go_wp2
    go_roundg (q -(j+1))
    case measure=>omega
    exact⟨j+1,by omega,by omega,by go_num,G2,Y2,Z2⟩
   have Z2:Xo (Box wr (w.heap.size+1+1) (qJ 80 (qQ fl i (f.bl.take (j+1))))):=dD<|by
    rw[HTS.out,zkz _ _ _ (by omega)]
    exact ZW.out
   go_wp2
   go_roundg (q -(j+1))
   case measure=>omega
   exact⟨j+1,by omega,by omega,by go_num,BW,YW,Z2⟩
  have hltz2:=kD hlt2
  have:j=q:=by omega
  subst this;have Z2:Xo (Box wr (w.heap.size+1+1) (qJ 80 (qQ fl (i+1) []))):=dD<|by
   have h1:=ZW.out;rw[Xy (by rw[HQ.out];exact nR _),zkA HF.out]at h1
   exact h1
  go_wp2
  go_roundg (n -(i+1))
  case measure=>omega
  exact⟨i+1,by omega,by omega,by go_num,BW,YW,Z2⟩
 have hltz:=kD hlt
 have:i=n:=by omega
 subst this;obtain⟨ms,HMS⟩:=kA (qJ 80 (qQ fl i []));have HML:Xo (ms.length=80):=dD<|by rw[<-HMS.out];exact zbn _ _
 have HMO:Xo (∀v∈ms,v.oneCell'=Xc):=dD<|by rw[<-HMS.out];exact zgJ _ _
 rw[HMS.out]at ZW;go_upto_region 12 with fail
 go_wp2_with (first | (refine zO rfl 141 (.tmp 3) rfl (w.heap.size+1+1) rfl ZW underlying141 rfl (by rw[HML.out];exact zq1) ?_) | (refine zF rfl 141 (.tmp 2) (.tmp 28) rfl (w.heap.size+1) rfl ms rfl YW (by rw[HML.out,zbn]) (by rw[zbn];exact zq1) HMO.out ?_))
 intro W5 hb5 hg5 _;have G5:Xo (zc w W5):=dD<|zd BW hg5 (by omega)
 go_wp2;refine bodyPost_ret (zX rfl _ rfl hb5 underlying141 rfl (by rw[HML.out];exact zq1)) rfl ⟨by rw[<-HMS.out],G5⟩
theorem zfW (a b c d e f g h:Int):zcq ⟨a,b,c,d,e,f,g,h⟩ ⟨0,0,0,0,0,0,0,0⟩=([a,b,c,d,e,f,g,h] == zz):=by
 rw[Yr,zbj]
 simp[zz]
def zcm (m:Ma) (b:Nat):Bool:=!zU m.fl (b:Int) && !(m.db.getD b [] == zz)
theorem zeU (a:b<m.db.length) (h:zcm m b=Xc):zap m=7:=by
 unfold zap;rw[kE];rw[Ye];exact⟨b,Ys.2 a,h⟩
theorem zen {q:Int × List Int} (a:m.dq[j]? =Xa q) (h:zU m.fl q.1=Xd):J6 m=7:=by
 unfold J6;rw[kE];rw[Ye];exact⟨q,mG a,by rw[h];rfl⟩
theorem zhC {n:Nat} {a:List (Int × List Int)} (h:zB n a=0):n<=80/\∀(j:Nat) q,a[j]? =Xa q->0<=q.1/\q.1<n:=by
 unfold zB at h
 split at h
 ·cases h
 split at h
 ·cases h
 split at h
 ·cases h
 rename_i a a a
 refine⟨by omega,fun j q b=>?_⟩
 have:(!jE q.1 n)=Xd:=by
  cases e:(!jE q.1 n)with
  | false=>rfl
  | true=>exact absurd (Ye.2 ⟨q,mG b,e⟩) a
 simp[jE]at this
 exact this
theorem zol (a:b<80):(qJ 80 (qQ m.fl m.fl.length []))[b]? =Xa (Xh (zU m.fl (b:Int))):=by
 rw[Jz _ a,zmu]
theorem zob (a:zbH m Xb m.ca=0) (k:Nat):frE m k=if(zW m k).r≠qt m m.sp.length [] zei (1,(k:Int))\/(0<=(zW m k).f/\¬za0 m.ca ((zW m k).f,(zW m k).x)=Xa (k:Int))then 7 else 0:=by
 unfold frE;rw[zjk m zei (k:Int) (by decide:(1:Int)≠0),kE rfl]
 have:=zkp a k
 by_cases h:zL m.ca k=0
 ·have a:¬za0 m.ca ((zW m k).f,(zW m k).x)=Xa (k:Int):=fun e=>(this.1 e) h
  simp only[h,a,not_false_iff,and_true]
 have a:=this.2 h;simp only[h,a,not_true,and_false]
theorem zll (m:Ma) (k:Nat):zjR m k=if m.sl.getD k 0≠qt m m.sp.length [] zei (2,(k:Int))then 7 else 0:=by
 unfold zjR;have h:=zjk m zei (k:Int) (by decide:(2:Int)≠0)
 have a:¬(2:Int)=1:=by decide
 rw[kF a,Nat.add_zero]at h;rw[h]
def chk:List Nat:=[40,41,42,43,44,45]
def zpy (m:Ma):List Int:=[zu (Z7 m),zu (Qx m),Z6 m,zeg m,zga m,zaR m]
theorem zf9 (h:Z6 m=0):m.sp.length<=4:=by
 unfold Z6 at h
 split at h
 ·cases h
 omega
theorem zkO (k f:Nat) (a:chk[k]? =Xa f):∀b w,(callFunc f b).run prog w= .ok (.enter f b) w:=by
 match k,a with
 | 0,a=>cases a;exact enters_of func40 (by kernel_rfl) rfl
 | 1,a=>cases a;exact enters_of func41 (by kernel_rfl) rfl
 | 2,a=>cases a;exact enters_of func42 (by kernel_rfl) rfl
 | 3,a=>cases a;exact enters_of func43 (by kernel_rfl) rfl
 | 4,a=>cases a;exact enters_of func44 (by kernel_rfl) rfl
 | 5,a=>cases a;exact enters_of func45 (by kernel_rfl) rfl
 | k+6,a=>simp[chk]at a
def fnV (f:Nat):Xq:= .func (.func f) #[] #[]
theorem zh1 {a n g:Nat} {w:Xn} {e:TypeId} {v:Xq} (h:w.ownsRow b e a v n xs) (c:v.ownBlock=Xa g):b<=g/\g<w.heap.size/\∃cs,w.heap[g]? =Xa (Xk cs e (0,0)):=by
 rcases h.2 with⟨rfl,_⟩|⟨k,a,a,rfl,f,d,h⟩
 ·cases c
 simp only[Value.ownBlock,Option.some.injEq]at c;subst c;exact⟨f,(aS.1 d).1,a,d⟩
theorem zgy {D:Nat->Prop} {a n:Nat} {w:Xn} {e:TypeId} {v:Xq} (h:w.ownsRow b e a v n xs) (k:qT D w W) (j:∀g,v.ownBlock=Xa g->¬D g):W.ownsRow b e a v n xs:=by
 refine⟨h.1,?_⟩
 rcases h.2 with f|⟨g,a,c,rfl,h,d,i⟩
 ·exact .inl f
 exact .inr ⟨g,a,c,rfl,h,by rw[k.block g (aS.1 d).1 (j g rfl)];exact d,i⟩
theorem zc9 {D:Nat->Prop} {a n:Nat} {w:Xn} {e:TypeId} {v:Xq} (h:w.ownsRow b e a v n xs) (k:qT D w W) (j:∀g,v.ownBlock=Xa g->¬D g):W.ownsRow b e a v n xs:=by
 refine⟨h.1,?_⟩
 rcases h.2 with f|⟨g,a,c,rfl,h,d,i⟩
 ·exact .inl f
 exact .inr ⟨g,a,c,rfl,h,by rw[k.block g (aS.1 d).1 (j g rfl)];exact d,i⟩
def oB (s:Sli) (b:Nat):Prop:=(O s.a s.n s.c).ownBlock=Xa b
def Dw (p:Nat) (V:MaV):Nat->Prop:=fun b=>b=p\/oB V.f b\/oB V.ca b\/oB V.sp b
def Dr (B p:Nat) (V:MaV):Nat->Prop:=fun b=>b<B\/Dw p V b
structure zkY (w:Xn) (V:MaV) (m:Ma):Prop where
 sl:zq slE w (O V.s.a V.s.n V.s.c) m.sl
 sb:jF w (O V.sb.a V.sb.n V.sb.c) m.sb
 sq:jU w (O V.sq.a V.sq.n V.sq.c) m.sq
 db:jF w (O V.db.a V.db.n V.db.c) m.db
 dq:jU w (O V.dq.a V.dq.n V.dq.c) m.dq
 fl:z5 w (O V.fl.a V.fl.n V.fl.c) m.fl
structure ChW (w0:Xn) (p:Nat) (w:Xn) (V:MaV) (m:Ma):Prop where
 gr:zc w0 w
 lo:w0.heap.size<=p
 box:zx w p 91 (chL V m)
 fs:zb JR w0.heap.size w (O V.f.a V.f.n V.f.c) m.fs
 ca:zb qS w0.heap.size w (O V.ca.a V.ca.n V.ca.c) m.ca
 sp:∃xs:List SpV,zb Qz w0.heap.size w (O V.sp.a V.sp.n V.sp.c) xs/\xs.length=m.sp.length/\∀(i:Nat) x s,xs[i]? =Xa x->m.sp[i]? =Xa s->∀W,qT (Dr w0.heap.size p V) w W->Jb W x s
 rest:∀W,qT (Dr w0.heap.size p V) w W->zkY W V m
def Chg (w0:Xn) (p:Nat) (w:Xn) (V:MaV) (m':Ma) (w':Xn):Prop:=∃V':MaV,ChW w0 p w' V' m'/\qT (Dw p V) w w'/\∀k,Dw p V' k->Dw p V k\/w.heap.size<=k
section
variable{w0 w w1 w2:Xn} {p:Nat} {V V':MaV} {m m':Ma}
theorem ChW.dlt (h:ChW w0 p w V m):∀k,Dw p V k->k<w.heap.size:=by
 rintro k (rfl|a|a|a)
 ·exact h.box.box.lt
 ·exact(h.fs.lt k a).2
 ·exact(h.ca.lt k a).2
 obtain⟨b,b,_⟩:=h.sp;exact(b.lt k a).2
theorem ChW.dlo (h:ChW w0 p w V m):∀k,Dw p V k->w0.heap.size<=k:=by
 rintro k (rfl|a|a|a)
 ·exact h.lo
 ·exact(h.fs.lt k a).1
 ·exact(h.ca.lt k a).1
 obtain⟨b,b,_⟩:=h.sp;exact(b.lt k a).1
theorem ChW.drt (h:ChW w0 p w V m):∀k,Dr w0.heap.size p V k->k<w.heap.size:=by
 rintro k (a|a)
 ·exact Yk a (bS h.gr)
 exact h.dlt k a
theorem ChW.grew (h:ChW w0 p w V m) (k:zc w w1):ChW w0 p w1 V m:=by
 obtain⟨c,a,b,d⟩:=h.sp;exact⟨h.gr.trans k,h.lo,h.box.grew k,h.fs.grew k,h.ca.grew k,⟨c,a.grew k,b,fun i x s c b W a=>d i x s c b W ((qT.grew k).trans a)⟩,fun W a=>h.rest W ((qT.grew k).trans a)⟩
theorem ChW.at (h:ChW w0 p w V m):zN w V m:=by
 have r:=h.rest w (qT.refl _ _);obtain⟨d,a,b,c⟩:=h.sp;exact⟨h.fs.at,r.sl,r.sb,r.sq,r.db,r.dq,r.fl,h.ca.at,⟨d,a.at,b,fun i x s b a=>c i x s b a w (qT.refl _ _)⟩⟩
theorem ChW.nf (h:ChW w0 p w V m):∀g,oB V.f g->p≠g:=h.fs.ne h.box (by decide)
theorem ChW.nc (h:ChW w0 p w V m):∀g,oB V.ca g->p≠g:=h.ca.ne h.box (by decide)
theorem ChW.ns (h:ChW w0 p w V m):∀g,oB V.sp g->p≠g:=by
 obtain⟨a,a,_⟩:=h.sp;exact a.ne h.box (by decide)
theorem ChW.fc (h:ChW w0 p w V m):∀g,oB V.f g->¬oB V.ca g:=h.fs.apart h.ca (by decide)
theorem ChW.fS (h:ChW w0 p w V m):∀g,oB V.f g->¬oB V.sp g:=by
 obtain⟨a,a,_⟩:=h.sp;exact h.fs.apart a (by decide)
theorem ChW.cS (h:ChW w0 p w V m):∀g,oB V.ca g->¬oB V.sp g:=by
 obtain⟨a,a,_⟩:=h.sp;exact h.ca.apart a (by decide)
theorem ChW.key (k:qT (Dw p V) w w1) (f:∀k,Dw p V' k->Dw p V k\/w.heap.size<=k) (a:qT (Dr w0.heap.size p V') w1 W):qT (Dr w0.heap.size p V) w W:=
 ⟨a.os.trans k.os,a.tape.trans k.tape,a.output.trans k.output,nT k.size a.size,fun b d c=>(a.block b (Yk d k.size) (fun e=>by
  rcases e with e|e
  ·exact c (.inl e)
  rcases f b e with e|e
  ·exact c (.inr e)
  omega)).trans (k.block b d (fun e=>c (.inr e)))⟩
theorem ChW.grOut (h:ChW w0 p w V m) (k:qT (Dw p V) w w1):zc w0 w1:=
 ⟨k.os.trans (Below.os h.gr),k.tape.trans (Below.tape h.gr),k.output.trans (Below.output h.gr),nT (bS h.gr) k.size,fun b a=>(k.block b (Yk a (bS h.gr)) (fun e=>by have:=h.dlo b e;omega)).trans (Below.block h.gr b a)⟩
theorem Chg.refl (h:ChW w0 p w V m) (g:zc w w1):Chg w0 p w V m w1:=⟨V,h.grew g,qT.grew g,fun _ a=> .inl a⟩
theorem Chg.of_grew (g:zc w w1) (h:Chg w0 p w1 V m' w2):Chg w0 p w V m' w2:=by
 obtain⟨a,b,d,c⟩:=h;refine⟨a,b,(qT.grew g).trans d,fun k a=>?_⟩
 rcases c k a with e|e
 ·exact .inl e
 exact .inr (nT (bS g) e)
theorem Chg.step {b:MaV} (a:qT (Dw p V) w w1) (d:∀k,Dw p b k->Dw p V k\/w.heap.size<=k) (f:Chg w0 p w1 b m' w2):Chg w0 p w V m' w2:=by
 obtain⟨c,e,b,h⟩:=f;refine⟨c,e,⟨b.os.trans a.os,b.tape.trans a.tape,b.output.trans a.output,nT a.size b.size,fun c f g=>(b.block c (Yk f a.size) (fun e=>?_)).trans (a.block c f g)⟩,fun k b=>?_⟩
 ·rcases d c e with e|e
  ·exact g e
  omega
 rcases h k b with e|e
 ·exact d k e
 exact .inr (nT a.size e)
theorem Chg.far {a:MaV} (g:zc w w1) (d:∀k,Dw p a k->Dw p V k\/w1.heap.size<=k):∀k,Dw p a k->Dw p V k\/w.heap.size<=k:=fun k a=>(d k a).elim .inl fun e=> .inr (nT (bS g) e)
theorem zx.chg {cs:List Xq} (h:zx w b t cs) (k:qT (Dw p V) w w1) (a:¬Dw p V b):zx w1 b t cs:=h.outD k a
theorem ChW.field (h:ChW w0 p w V m) (k:zc w w1) (c:w1.grownBy w2 (Xa p)) (f:V'.f=V.f) (n:V'.ca=V.ca) (q:V'.sp=V.sp) (g:m'.fs=m.fs) (u:m'.ca=m.ca) (r:m'.sp=m.sp) (a:zx w2 p 91 (chL V' m')) (rs:∀W,qT (Dr w0.heap.size p V) w W->qT (Dr w0.heap.size p V) w1 W->zkY W V m->zkY W V' m'):Chg w0 p w V m' w2:=by
 have j:qT (Dw p V) w w2:=(qT.grew k).trans (qT.grown c (.inl rfl));have e:Dw p V'=Dw p V:=by unfold Dw;rw[f,n,q]
 have d:Dr w0.heap.size p V'=Dr w0.heap.size p V:=by unfold Dr;rw[e]
 obtain⟨i,x,b,y⟩:=h.sp;refine⟨V',⟨h.grOut j,h.lo,a,?_,?_,⟨i,?_,by rw[r];exact b,fun t z v s i W b=>?_⟩,fun W b=>?_⟩,j,fun l a=> .inl (by rw[e]at a;exact a)⟩
 ·rw[f,g];exact(h.fs.grew k).grown c (fun g f e=>h.nf g f (by cases e;rfl))
 ·rw[n,u];exact(h.ca.grew k).grown c (fun g f e=>h.nc g f (by cases e;rfl))
 ·rw[q];exact(x.grew k).grown c (fun g f e=>h.ns g f (by cases e;rfl))
 ·rw[d]at b;rw[r]at i;exact y t z v s i W ((j.wide fun l a=> .inr a).trans b)
 rw[d]at b;exact rs W ((j.wide fun l a=> .inr a).trans b) (((qT.grown c (.inr (.inl rfl)))).trans b) (h.rest W ((j.wide fun l a=> .inr a).trans b))
theorem ChW.setS (h:ChW w0 p w V m) {b:Sli} {a:List Int} (d:zc w w1) (f:Za slE w.heap.size w1 (b.x) a) (e:w1.grownBy w2 (Xa p)) (c:zx w2 p 91 (chL { V with s:=b } { m with sl:=a })):Chg w0 p w V { m with sl:=a } w2:=
 h.field (V':={ V with s:=b }) (m':={ m with sl:=a }) d e rfl rfl rfl rfl rfl rfl c (fun W _ a r=>⟨f.staysD h.drt W a,r.sb,r.sq,r.db,r.dq,r.fl⟩)
theorem ChW.setF (h:ChW w0 p w V m) {b:Sli} {fs:List Fr} {a:Int} (j:zc w w1) (l:zb JR w.heap.size w1 (b.x) fs) (d:w1.grownBy w2 (Xa p)) (c:zx w2 p 91 (chL { V with f:=b } { m with fs:=fs,hand:=a })):Chg w0 p w V { m with fs:=fs,hand:=a } w2:=by
 have i:qT (Dw p V) w w2:=(qT.grew j).trans (qT.grown d (.inl rfl));have e:=h.dlt p (.inl rfl);have a:∀k,Dw p { V with f:=b } k->Dw p V k\/w.heap.size<=k:=by
  rintro k (e|e|e|e)
  ·exact .inl (.inl e)
  ·exact .inr (l.lt k e).1
  ·exact .inl (.inr (.inr (.inl e)))
  exact .inl (.inr (.inr (.inr e)))
 obtain⟨r,k,n,q⟩:=h.sp;refine⟨{ V with f:=b },⟨h.grOut i,h.lo,c,(l.base (bS h.gr)).grown d (fun g c e=>?_),(h.ca.grew j).grown d (fun g c e=>h.nc g c (by cases e;rfl)),⟨r,(k.grew j).grown d (fun g c e=>h.ns g c (by cases e;rfl)),n,fun k x s j g W d=>q k x s j g W (ChW.key i a d)⟩,fun W d=>?_⟩,i,a⟩
 ·cases e;have:=(l.lt _ c).1;omega
 have r:=h.rest W (ChW.key i a d);exact⟨r.sl,r.sb,r.sq,r.db,r.dq,r.fl⟩
theorem ChW.cache (h:ChW w0 p w V m) {b:Sli} {l:List Ca} (j:qT (oB V.ca) w w1) (i:∀g,oB b g->oB V.ca g\/w.heap.size<=g) (r:zb qS w0.heap.size w1 (b.x) l) (c:w1.grownBy w2 (Xa p)) (n:zx w2 p 91 (chL { V with ca:=b } { m with ca:=l })):Chg w0 p w V { m with ca:=l } w2:=by
 have a:qT (Dw p V) w w2:=(j.wide fun k d=> .inr (.inr (.inl d))).trans (qT.grown c (.inl rfl))
 have d:∀k,Dw p { V with ca:=b } k->Dw p V k\/w.heap.size<=k:=by
  rintro k (e|e|e|e)
  ·exact .inl (.inl e)
  ·exact .inl (.inr (.inl e))
  ·rcases i k e with e|e
   ·exact .inl (.inr (.inr (.inl e)))
   exact .inr e
  exact .inl (.inr (.inr (.inr e)))
 have f:=h.dlt p (.inl rfl);have own:∀{f:Type} {E:Elt f} {s:Sli} {l:List f},zb E w0.heap.size w (s.x) l->(∀g,oB s g->¬oB V.ca g)->(∀g,oB s g->p≠g)->zb E w0.heap.size w2 (s.x) l:=fun f k q=>by
  refine zb.grown ⟨zc9 f.1 j k,f.2⟩ c (fun g f e=>q g f (by cases e;rfl))
 obtain⟨t,j,k,q⟩:=h.sp;refine⟨{ V with ca:=b },⟨h.grOut a,h.lo,n,own h.fs h.fc h.nf,r.grown c (fun g f e=>?_),⟨t,own j (fun g c b=>h.cS g b c) h.ns,k,fun n x s k j W c=>q n x s k j W (ChW.key a d c)⟩,fun W c=>?_⟩,a,d⟩
 ·cases e
  rcases i _ f with e|e
  ·exact h.nc _ e rfl
  omega
 have r:=h.rest W (ChW.key a d c);exact⟨r.sl,r.sb,r.sq,r.db,r.dq,r.fl⟩
theorem ChW.setT (h:ChW w0 p w V m) {xs:List SpV} {q g:Nat} {x y:SpV} {s:Sp} {t:List (List En)} (s2:xs.length=m.sp.length) (s3:∀(i:Nat) x s,xs[i]? =Xa x->m.sp[i]? =Xa s->∀W,qT (Dr w0.heap.size p V) w W->Jb W x s) (n:xs[q]? =Xa x) (l:m.sp[q]? =Xa s) (b:oB V.sp g)
  (f:zc w w1) (z:Ja 0 w.heap.size w1 us t) (a:w1.grownBy w2 (Xa g)) (v:zb Qz w0.heap.size w2 (V.sp.x) (xs.set q y)) (r:y.live=x.live/\y.ar=x.ar/\y.tab=us):Chg w0 p w V { m with sp:=m.sp.set q { s with tb:=t } } w2:=by
 have u:qT (Dr w0.heap.size p V) w1 w2:=qT.grown a (.inr (.inr (.inr (.inr b))));have d:qT (Dw p V) w w2:=(qT.grew f).trans (qT.grown a (.inr (.inr (.inr b))));have j:∀k,Dw p V k->Dw p V k\/w.heap.size<=k:=fun _ c=> .inl c
 refine⟨V,⟨h.grOut d,h.lo,(h.box.grew f).beside a (fun k e=>by cases e;exact h.ns g b),(h.fs.grew f).grown a (fun k c e=>by cases e;exact h.fS _ c b),(h.ca.grew f).grown a (fun k c e=>by cases e;exact h.cS _ c b),⟨xs.set q y,v,by simp[s2],fun i v f b a W c=>?_⟩,fun W c=>?_⟩,d,j⟩
 ·by_cases e:i=q
  ·subst e;rw[sF (gS.1 n).1]at b;have a:(m.sp.set i { s with tb:=t })[i]? =Xa f:=a;rw[sF (gS.1 l).1]at a;cases b;cases a;have k:=s3 i x s n l W (ChW.key d j c);obtain⟨n,l,A⟩:=r;refine⟨n.trans k.live,by rw[l];exact k.ar,by rw[l];exact k.cap,?_⟩
   rw[A];exact z.outD h.drt (u.trans c)
  rw[sN (fun h=>e h.symm)]at b
  have a:(m.sp.set q { s with tb:=t })[i]? =Xa f:=a;rw[sN (fun h=>e h.symm)]at a
  exact s3 i v f b a W (ChW.key d j c)
 have r:=h.rest W (ChW.key d j c);exact⟨r.sl,r.sb,r.sq,r.db,r.dq,r.fl⟩
end
theorem zoQ.changeW {base p:Nat} {w:Xn} (h:zoQ base w V m) (a:B<=base) (hp:w.heap.size<=p) (k:qT (Dr B p V) w W):zkY W V m/\∀(g:List SpV) (c:Nat->Nat),base<=c 0->(∀i,c i<=c (i+1))->(∀(i:Nat) x s,g[i]? =Xa x->m.sp[i]? =Xa s->JZ (c i) (c (i+1)) w x s)->∀(i:Nat) x s,g[i]? =Xa x->m.sp[i]? =Xa s->Jb W x s:=by
 obtain⟨a,_,r,_⟩:=h.sp;have b:∀{e a n:Nat} {d:TypeId} {v:Xq} {g:List Xq},w.ownsRow e d a v n g->base<=e->Qz.ty≠d/\JR.ty≠d/\qS.ty≠d->W.ownsRow e d a v n g:=fun n d l=>zgy n k fun a j a=>by
  obtain⟨f,f,f,f⟩:=zh1 n j
  rcases a with a|a|a|a|a
  ·omega
  ·omega
  ·obtain⟨q,j⟩:=h.fs.obj a;rw[j]at f;cases f;exact l.2.1 rfl
  ·obtain⟨q,j⟩:=h.ca.obj a;rw[j]at f;cases f;exact l.2.2 rfl
  obtain⟨q,j⟩:=r.obj a;rw[j]at f;cases f;exact l.1 rfl
 have a:∀{j:Type} {E:Elt j} {e:Nat} {v:Xq} {f:List j},zb E e w v f->base<=e->Qz.ty≠E.ty/\JR.ty≠E.ty/\qS.ty≠E.ty->zb E e W v f:=fun n d l=>⟨b n.1 d l,n.2⟩
 obtain⟨n,⟨t,e,j,l,r⟩,q,f⟩:=h.fl;have f:jA n W (V.fl.x) m.fl:=⟨t,a e q (by decide),j,fun i x j e n=>⟨(l i x j e n).1,a (l i x j e n).2 q (by decide)⟩,r⟩
 have d:=nR base;refine⟨⟨(a h.sl d (by decide)).at,zj.at ⟨b h.sb.1 d (by decide),h.sb.2⟩,zr.at ⟨b h.sq.1 d (by decide),h.sq.2⟩,zj.at ⟨b h.db.1 d (by decide),h.db.2⟩,zr.at ⟨b h.dq.1 d (by decide),h.dq.2⟩,f.new.now0⟩,fun g c f g d i x s e h=>?_⟩
 have b:=d i x s e h;have d:=nT f (zfo g (nZ i));have f:JZ (c i) (c (i+1)) W x s:=⟨b.live,a b.ar d (by decide),⟨b.tb.len,b.tb.tlen,fun j v y c e=>a (b.tb.row j v y c e) d (by decide),b.tb.two⟩,b.arh,b.tbh⟩
 exact f.at
theorem zfN (V m w) (c:zN w V m):
  Xp prog 25 #[Xi (mL V m).toArray] w fun e w'=>∃(p:Nat) (V':MaV),e= Xl (Xj (Xa ⟨p,0,Xb⟩))/\ChW w p w' V' m:=by
 obtain⟨d,a⟩:=kB (w.alloc (Xk (mL V m).toArray 41));have f:=gA a
 have g:=xA a
 have b:=dD a;clear a;have a:=znx V m d (c.grew f);clear c
 go_enter func25,ntmps25
 go_upto_region 1 with fail;rw[b.out];obtain⟨c,d,h,i,j,k,l,n,q,r,b⟩:=g.c11;go_wp2_with fail;refine a.mono ?_;clear a c d h i j k l n q r b;rintro e d ⟨V',rfl,h,a⟩;have g:=dD (f.trans a);have c:=dD h;have b:=dD<|bS f.out
 clear h a;have h:Xo (ChW w d.heap.size (d.alloc (Xk (chL V' m).toArray 91)) V' m):=dD<|by
  have a:zc d (d.alloc (Xk (chL V' m).toArray 91)):=za _ _;obtain⟨f,B,d,i,k,l,n⟩:=c.sp;refine⟨g.trans a,bS g,zx.top _ _ _ rfl,(c.fs.grew a).base b,(c.ca.grew a).base b,⟨f,(d.grew a).base b,i,fun j x s i g W d=>(c.changeW b (nR _) ((qT.grew a).trans d)).2 f B k l n j x s i g⟩,fun W d=>(c.changeW b (nR _) ((qT.grew a).trans d)).1⟩
 go_wp2;go_ret;exact⟨_,V',rfl,h⟩
theorem zdZ (V m) (a:Ar) (n:Nat) (e:En) (w) (a9:zN w V m) (ar:Zi a) (av:n<=64) (bg:0<=e.n) (b:zef m a n e=0):
  Xp prog 81 #[Xi (mL V m).toArray,Xi #[I6 a.fr,I6 a.tz,Xh a.rd,Xh a.wr,Xh a.sh,I6 a.file,I6 a.base],I6 (n:Int),Xi #[I6 e.kind,I6 e.n,Xh e.wr]] w fun e' w'=>e'= Xl (I6 0)/\zc w w':=by
 obtain⟨aa,ab,-⟩:=a9.ns;have u:(0<=a.base/\a.base<=100)/\(0<=a.fr/\a.fr<=100):=by
  obtain⟨bp,bq,br,bs,bt,bu,be,bf⟩:=ar
  by_cases bh:a.file<0
  ·have:=be bh;omega
  have:=bf (by omega);omega
 have y:Xo (∀(q:Fr) W,Xp prog 119 #[Xi (frv q).toArray,Xi #[I6 a.fr,I6 a.tz,Xh a.rd,Xh a.wr,Xh a.sh,I6 a.file,I6 a.base],I6 (n:Int)] W fun e w'=>e= Xl (Xh (Q0 q a n))/\zc W w'):=dD<|fun q W=>zh5 q a n W u.1 u.2 av
 have z:Xo (∀(q:Fr) W,Xp prog 120 #[Xi (frv q).toArray,Xi #[I6 a.fr,I6 a.tz,Xh a.rd,Xh a.wr,Xh a.sh,I6 a.file,I6 a.base]] W fun e w'=>e= Xl (Xh (ZX q a))/\zc W w'):=dD<|fun q W=>zgH q a W
 have bl:=dD ab.symm;have ay:=dD aa.symm;have P:=dD a9.frs;have al:Xo (zef m a n e=if e.kind=2 then(if(V.s.n:Int)<=e.n\/a.sh=Xc then 7 else 0)else if(V.f.n:Int)<=e.n then 3 else if Q0 (zW m e.n) a n=Xd\/(e.wr=Xc/\ZX (zW m e.n) a=Xd)then 7 else 0):=show _=_ by
  unfold zef;rw[aa,ab]
 rw[al.out]at b;clear a9 ar u aa ab av;have D:zc w (((w.alloc (Xk (mL V m).toArray 41)).alloc (Xk #[I6 a.fr,I6 a.tz,Xh a.rd,Xh a.wr,Xh a.sh,I6 a.file,I6 a.base] 105)).alloc (Xk #[I6 e.kind,I6 e.n,Xh e.wr] 75)):=((za _ _).trans (za _ _)).trans (za _ _);have c:=dD D;clear D
 by_cases v:e.kind=2
 ·have F:(e.kind == 2)=Xc:=by simp[v]
  rw[kE v]at b;clear v;have a6:¬(V.s.n:Int)<=e.n:=fun a5=>by rw[kE (.inl a5)]at b;exact absurd b (by decide)
  have aw:a.sh=Xd:=by
   cases C:a.sh
   ·rfl
   rw[kE (.inr C)]at b;exact absurd b (by decide)
  rw[aw]at c y z;rw[aw];clear b
  go_enter func81,ntmps81
  go_wp2;go_ret;exact⟨rfl,c⟩
 have F:(e.kind == 2)=Xd:=by simp[v]
 rw[kF v]at b;clear v;have a6:¬(V.f.n:Int)<=e.n:=fun a5=>by rw[kE a5]at b;exact absurd b (by decide)
 rw[kF a6]at b;obtain⟨ap,aq,L⟩:=e;simp only at bg F a6 b al c⊢;obtain⟨l,rfl⟩:∃l:Nat,aq=(l:Int):=⟨aq.toNat,by omega⟩
 have a8:l<V.f.n:=by omega
 obtain⟨q,ak⟩:∃q,Xo (m.fs[l]? =Xa q):=⟨_,gE (by rw[ay.out];exact a8)⟩
 have E:zW m (l:Int)=q:=by unfold zW;rw[tN,gD,ak.out];rfl
 rw[E]at b;clear E;obtain⟨ao,K,au⟩:=P.out l q ak.out;(try simp only[mL,Sli.x]at c P⊢);rw[K]at c P⊢;clear K;obtain⟨p,d⟩:=kB (((w.alloc (Xk #[O (Xa ao) V.f.n V.f.c,I6 m.hand,V.s.x,V.sb.x,V.sq.x,V.db.x,V.dq.x,V.fl.x,I6 m.cnt,V.ca.x,V.sp.x] 41)).alloc (Xk #[I6 a.fr,I6 a.tz,Xh a.rd,Xh a.wr,Xh a.sh,I6 a.file,I6 a.base] 105)).alloc (Xk #[I6 ap,I6 (l:Int),Xh L] 75));rw[d]at c;have b0:Xo (Box p (w.heap.size+1) [I6 a.fr,I6 a.tz,Xh a.rd,Xh a.wr,Xh a.sh,I6 a.file,I6 a.base]):=dD<|by rw[<-d];exact(Box.top _ _ _ (by simp)).alloc _
 have an:Xo (Box p (w.heap.size+1+1) [I6 ap,I6 (l:Int),Xh L]):=dD<|by rw[<-d];exact Box.top _ _ _ (by simp)
 have az:Xo (Box p w.heap.size [O (Xa ao) V.f.n V.f.c,I6 m.hand,V.s.x,V.sb.x,V.sq.x,V.db.x,V.dq.x,V.fl.x,I6 m.cnt,V.ca.x,V.sp.x]):=dD<|by rw[<-d];exact((Box.top _ _ _ rfl).alloc _).alloc _
 have bi:=az.c 0 rfl;have bj:=an.c 1 rfl;have B:Xo (p.heap.size=w.heap.size+1+1+1):=dD<|by rw[<-d];simp
 obtain⟨b3,b4,b5,b6,b7,b8,b9,ba,bb,bc,R,S,T⟩:=au p c.out;have Q:Xo (_=p):=d;clear d au;have G:Q0 q a n=Xc:=by
  cases C:Q0 q a n
  ·rw[kE (.inl C)]at b;exact absurd b (by decide)
  rfl
 have A:Xo (L=Xc->ZX q a=Xc):=dD<|fun bd=>by
  cases C:ZX q a
  ·rw[kE (.inr ⟨bd,C⟩)]at b;exact absurd b (by decide)
  rfl
 clear b;have j:=y.out q;rw[G]at j;have ax:=dD j
 clear j;clear G
 go_enter func81,ntmps81
 go_upto_region 7 with fail;rw[Q.out];go_upto_region 8 with fail;obtain⟨bm,h⟩:=kB (p.alloc (Xk #[U8 q.p.b0,U8 q.p.b1,U8 q.p.b2,U8 q.p.b3,U8 q.p.b4,U8 q.p.b5,U8 q.p.b6,U8 q.p.b7,I6 q.r,Xh q.u,Xh q.d,I6 q.f,I6 q.x] 62));have N:=gT h c
 have am:=yA h b0
 have b2:=yA h an
 have f:=xP h B
 rw[h,B.out];clear h bi bj b3 b4 b5 b6 b7 b8 b9 ba bb bc R S T;obtain⟨ac,ae,af,ag,ah,ai,aj⟩:=am.c7;have U:=f.c 0 rfl;have X:=f.c 1 rfl;have Y:=f.c 2 rfl;have Z:=f.c 3 rfl;have I:=f.c 4 rfl;have a0:=f.c 5 rfl;have a1:=f.c 6 rfl;have a2:=f.c 7 rfl;have a3:=f.c 8 rfl;have a4:=f.c 9 rfl;have r:=f.c 10 rfl;have s:=f.c 11 rfl;have t:=f.c 12 rfl;go_wp2_with fail;refine(ax _).mono ?_;clear ac ae af ag ah ai aj U X Y Z I a0 a1 a2 a3 a4 r s t;rintro e bn ⟨rfl,i⟩;have x:=dD (N.trans i);have b1:=am.grew i;have bk:=(b2.grew i).c 2 rfl;have g:=f.grew i;clear i
 cases L with
 | false=>
  go_wp2;go_ret;exact⟨rfl,x⟩
 | true=>
 have H:=A.out rfl;have k:=z.out q;rw[H]at k;have M:=dD k
 clear k;clear H;obtain⟨ac,ae,af,ag,ah,ai,aj⟩:=b1.c7;have U:=g.c 0 rfl;have X:=g.c 1 rfl;have Y:=g.c 2 rfl;have Z:=g.c 3 rfl;have I:=g.c 4 rfl;have a0:=g.c 5 rfl;have a1:=g.c 6 rfl;have a2:=g.c 7 rfl;have a3:=g.c 8 rfl;have a4:=g.c 9 rfl;have r:=g.c 10 rfl;have s:=g.c 11 rfl;have t:=g.c 12 rfl
 go_wp2_with (go_at_call 120;refine(M _).mono ?_;clear ac ae af ag ah ai aj U X Y Z I a0 a1 a2 a3 a4 r s t bk;rintro e bo ⟨rfl,a7⟩)
 go_ret;exact⟨rfl,x.trans a7⟩
theorem zdY (V m w) (ah:zN w V m) (cr:zjE m) (cs:zm1 m) (cq:zga m=0):
  Xp prog 44 #[Xi (mL V m).toArray] w fun e w'=>e= Xl (I6 0)/\zc w w':=by
 have a7:=dD<|fun (a:Ar) (n:Nat) (e:En) W (a9:zc w W) (dr:Zi a) (bj:n<=64) (ds:0<=e.n)=>zdZ V m a n e W (ah.grew a9) dr bj ds
 have b6:=dD cr.mem;have b8:=dD cs;obtain⟨aw,ax,L,M,G,H,K,F,⟨ar,d,E⟩⟩:=V;dsimp only[mL]at a7⊢;obtain⟨-,-,-,-,-,-,-,-,cc⟩:=ah.ns;dsimp only at cc;obtain⟨eb,ap,S,al⟩:=ah.spaces;have bd:=dD ap;have cy:=dD S;have ba:=dD al;have cj:=dD cc.symm;have ct:d<=9223372036854775807:=by
  obtain⟨ek,dy,ef,_⟩:=ah.sp;have:=dy.short;omega
 have b0:Xo (∀s∈m.sp,∀n∈qU s,za4 m (zE s.ars n) (zo s n)=0):=dD<|fun s dw n bj=>zn.1 ((zhN m s).symm.trans (zn.1 cq _ (Ob dw))) _ (Ob bj)
 clear ah ap S al cc cr cs cq;obtain⟨ec,C⟩:=kB (w.alloc (Xk #[aw.x,I6 m.hand,ax.x,L.x,M.x,G.x,H.x,K.x,I6 m.cnt,F.x,O ar d E] 41));have b2:=gA C
 have cn:=xA C
 have bc:=dD C;clear C
 go_enter func44,ntmps44
 go_upto_region 1 with fail;rw[bc.out];have ch:=cn.c 10 rfl;go_wp2;clear ch
 go_loopg [12] d (fun bf ce wr=>∃f:Nat,f<=d/\d - f<=bf/\ce=I6 f/\Xo (zc w wr)/\Xo (Box wr w.heap.size [aw.x,I6 m.hand,ax.x,L.x,M.x,G.x,H.x,K.x,I6 m.cnt,F.x,O ar d E]))
 case atStart=>exact⟨0,nZ _,by omega,rfl,b2,cn⟩
 obtain⟨f,du,dt,rfl,g,dc⟩:=hrel
 by_cases D:f<d
 ·have ag:=kC D
  obtain⟨s,b9⟩:∃s,Xo (m.sp[f]? =Xa s):=⟨_,gE (by rw[cj.out];exact D)⟩
  obtain⟨x,cl⟩:∃x,Xo (eb[f]? =Xa x):=⟨_,gE (by rw[bd.out,cj.out];exact D)⟩
  have h:=dD<|ba.out f x s cl b9.out;obtain⟨Q,R⟩:=b8.out s (mG b9);have a1:=dD<|(Zo.1 Q).2;have bb:=dD R;have ay:=dD h.ar.n.symm;have az:Xo (zna w x.ar.a s.ars):=show zna _ _ _ by
   obtain⟨_,_,aq,cd⟩:=h.ar.ars;simp only[vJ]at aq;rw[aq.1];exact cd
  clear Q R;obtain⟨cp,rfl,q⟩:=cy.out f x cl.out;obtain⟨df,dg,dh,di,dj,dk,dl,dm,dn,dp⟩:=q wr g.out;clear q;go_upto_region 4 with fail;obtain⟨cz,j⟩:=kB (wr.alloc (Xk #[Xh x.live,x.ar.x,x.t0.x,x.t1.x,x.t2.x,x.t3.x,x.t4.x,x.t5.x,x.t6.x,x.t7.x] 79));have a4:=gT j g
  have db:=yA j dc
  have t:=xA j
  rw[j];clear j df dg dh di dj dk dl dm dn dp;obtain⟨eh,b7⟩:=kA wr.heap.size;rw[b7.out]at t⊢;have l:=zaV x.tab s.tb cz (h.grew a4).tb
  have e2:=t.c 2 rfl;have e3:=t.c 3 rfl;have e4:=t.c 4 rfl;have e5:=t.c 5 rfl;have e6:=t.c 6 rfl;have e7:=t.c 7 rfl;have e8:=t.c 8 rfl;have e9:=t.c 9 rfl;go_wp2_with fail;refine l.mono ?_;clear l e2 e3 e4 e5 e6 e7 e8 e9;rintro be da ⟨ej,rfl,Z,p⟩;have v:=dD (a4.trans p);have co:=dD (db.grew p);have cm:=dD (t.grew p);clear p;obtain⟨eg,ei,rfl,aj⟩:=Z.at.nums;have ak:=Z.at.short;have a6:=dD aj;rw[Ju,List.length_map]at ak⊢;rw[Ju]at a6;clear Z aj;obtain⟨I,ck⟩:=kA ((qU s).length);rw[ck.out]at ak⊢;go_wp2;have cx:=dD g
  go_loopg [20] I (fun bf cf wr=>∃u:Nat,u<=I/\I - u<=bf/\cf=I6 u/\Xo (zc da wr))
  case atStart=>exact⟨0,nZ _,by omega,rfl,zc.refl _⟩
  obtain⟨u,ee,p,rfl,g⟩:=hrel
  by_cases r:u<I
  ·have X:=kC r
   obtain⟨n,T⟩:∃n,Xo ((qU s)[u]? =Xa n):=⟨_,gE (by rw[ck.out];exact r)⟩
   have ai:=zgv T.out;obtain⟨de,rfl,af⟩:=a6.out u (n:Int) (by rw[Yi,T.out];rfl)
   have dq:=af wr g.out;clear af;have ab:=b0.out s (mG b9) n (mG T);have a2:=dD ab;clear ab;have b4:=dD (v.trans g);have aa:=zoi (x.ar.x) s.ars (n:Int) wr (h.ar.grew b4);have e1:=(cm.grew g).c 1 rfl;go_wp2_with fail;refine aa.mono ?_;clear aa dq e1;rintro be N ⟨⟨cv,rfl,cu⟩,ac⟩;have a3:=dD cu;have z:=dD (g.trans ac);have b:=dD (v.trans z);clear ac cu;have dx:¬cv<0:=fun av=>by
    have:=zoh a3.out;rw[decide_eq_false (by omega)]at this
    have bg:=a2.out;unfold za4 at bg;rw[kE this.symm]at bg;exact absurd bg (by decide)
   obtain⟨k,a,rfl,A,b5⟩:∃(k:Nat) (a:Ar),cv=(k:Int)/\Xo (s.ars[k]? =Xa a)/\Xo (inZ a (n:Int)=Xc):=by
    rcases a3 with⟨k,a,aq,cd,dz⟩|⟨aq,_⟩
    ·exact⟨k,a,aq,cd,dz⟩
    omega
   have a0:=dD<|zmN a1 A.out;have dv:k<x.ar.n:=by rw[<-ay.out];exact(gS.1 A).1
   have b1:Xo (zef m a n (zo s n)=0):=dD<|by rw[<-a2.out,zgB a1.out A.out b5.out,zld b6.out a0.out]
   have P:=(Q2 (zpp bb n)).2.1.1;have a8:Xo (∀W,zc w W->Xp prog 81 #[Xi #[aw.x,I6 m.hand,ax.x,L.x,M.x,G.x,H.x,K.x,I6 m.cnt,F.x,O (Xa cp) d E],Xi #[I6 a.fr,I6 a.tz,Xh a.rd,Xh a.wr,Xh a.sh,I6 a.file,I6 a.base],I6 (n:Int),enV (zo s n)] W fun be w'=>be= Xl (I6 0)/\zc W w'):=dD<|fun W a9=>a7.out a n (zo s n) W a9 a0 (by omega) P b1.out
   have b3:Xo (∀W,zc w W->Xp prog 82 #[Xi #[x.t0.x,x.t1.x,x.t2.x,x.t3.x,x.t4.x,x.t5.x,x.t6.x,x.t7.x],I6 (n:Int)] W fun e w'=>e= Xl (enV (zo s n))/\zc W w'):=dD<|fun W a9=>by
    have:=zah x.tab s.tb (n:Int) W (h.grew a9).tb;rw[zjm ai]at this;exact this
   clear P;go_upto_region 10 with fail;obtain⟨c,am,q⟩:=az.out k a A.out;have i:=dD (co.grew z);have B:=dD (cm.grew z);have bu:=i.gw 0 rfl
   have bv:=i.gw 1 rfl
   have bw:=i.gw 2 rfl
   have bx:=i.gw 3 rfl
   have bz:=i.gw 4 rfl
   have c0:=i.gw 5 rfl
   have c1:=i.gw 6 rfl
   have c2:=i.gw 7 rfl
   have c3:=i.gw 8 rfl
   have c4:=i.gw 9 rfl
   have ao:=i.gw 10 rfl
   have Y:=B.gw 1 rfl
   have bl:=B.gw 2 rfl
   have bm:=B.gw 3 rfl
   have bn:=B.gw 4 rfl
   have bo:=B.gw 5 rfl
   have bp:=B.gw 6 rfl
   have bq:=B.gw 7 rfl
   have br:=B.gw 8 rfl
   have bs:=B.gw 9 rfl
   (try simp only[Sli.x]at Y);rw[am]at Y;have c5:∀y:zl N,y.world.cell? (c.add (k*7))=Xa (I6 a.fr):=fun y=>(q _ (b.trans y.grew)).1
   have c6:∀y:zl N,y.world.cell? { block:=(c.add (k*7)).block,off:=(c.add (k*7)).off+1 }=Xa (I6 a.tz):=fun y=>(q _ (b.trans y.grew)).2.1
   have c7:∀y:zl N,y.world.cell? { block:=(c.add (k*7)).block,off:=(c.add (k*7)).off+2 }=Xa (Xh a.rd):=fun y=>(q _ (b.trans y.grew)).2.2.1
   have c8:∀y:zl N,y.world.cell? { block:=(c.add (k*7)).block,off:=(c.add (k*7)).off+3 }=Xa (Xh a.wr):=fun y=>(q _ (b.trans y.grew)).2.2.2.1
   have c9:∀y:zl N,y.world.cell? { block:=(c.add (k*7)).block,off:=(c.add (k*7)).off+4 }=Xa (Xh a.sh):=fun y=>(q _ (b.trans y.grew)).2.2.2.2.1
   have ca:∀y:zl N,y.world.cell? { block:=(c.add (k*7)).block,off:=(c.add (k*7)).off+5 }=Xa (I6 a.file):=fun y=>(q _ (b.trans y.grew)).2.2.2.2.2.1
   have cb:∀y:zl N,y.world.cell? { block:=(c.add (k*7)).block,off:=(c.add (k*7)).off+6 }=Xa (I6 a.base):=fun y=>(q _ (b.trans y.grew)).2.2.2.2.2.2
   have bk:Nonempty (zl N):=⟨⟨_,zc.refl _⟩⟩;clear q am;refine jK [(10,⟨fun au=>au=enV (zo s n),fun au w'=>True⟩),(11,⟨fun au=>au=I6 0,fun au w'=>True⟩)] zY (by kernel_rfl) ?hS ?hp ?_
   case hS=>
    intro x an;simp only[mC,nM,or_false]at an
    rcases an with rfl|rfl
    ·exact⟨_,rfl⟩
    exact⟨_,rfl⟩
   case hp=>
    intro x an;simp only[mC,nM,or_false]at an
    rcases an with rfl|rfl
    ·exact fun _ _ _ _ av=>av
    exact fun _ _ _ _ av=>av
   iterate 10 refine zg ?_
   refine zH rfl rfl (fun w' bi bh=>?_) (fun ea bt=>?_)
   ·refine zQ.call [Xi #[x.t0.x,x.t1.x,x.t2.x,x.t3.x,x.t4.x,x.t5.x,x.t6.x,x.t7.x],I6 (n:Int)] rfl func82 rfl rfl rfl ?_;refine(b3 w' (b.trans bi)).mono ?_;rintro e cg ⟨rfl,U⟩;exact⟨_,rfl,U,rfl,trivial⟩
   subst bt;refine Uq ?_;refine zH rfl rfl (fun w' bi bh=>?_) (fun ea bt=>?_)
   ·refine zQ.call [Xi #[aw.x,I6 m.hand,ax.x,L.x,M.x,G.x,H.x,K.x,I6 m.cnt,F.x,O (Xa cp) d E],Xi #[I6 a.fr,I6 a.tz,Xh a.rd,Xh a.wr,Xh a.sh,I6 a.file,I6 a.base],I6 (n:Int),enV (zo s n)] rfl func81 rfl rfl rfl ?_;refine(a8 w' (b.trans bi)).mono ?_;rintro e cg ⟨rfl,U⟩;exact⟨_,rfl,U,rfl,trivial⟩
   subst bt;refine Uq ?_;refine zg ?_
   refine z7 fun ed ae bh=>?_
   have a5:=dD (z.trans ae);have ci:=dD (v.trans a5);clear ae bh bu bv bw bx bz c0 c1 c2 c3 c4 ao Y bl bm bn bo bp bq br bs c5 c6 c7 c8 c9 ca cb bk;go_wp2
   go_roundg (I -(u+1))
   case measure=>omega
   exact⟨u+1,by omega,by omega,by go_num,a5⟩
  have X:=kD r
  have:u=I:=by omega
  subst this;have dd:=dD (co.grew g);have cw:=dD (v.trans g);go_wp2
  go_roundg (d -(f+1))
  case measure=>omega
  exact⟨f+1,by omega,by omega,by go_num,cw,dd⟩
 have ag:=kD D
 have:f=d:=by omega
 subst this;go_wp2;go_ret;exact⟨rfl,g⟩
theorem ze1 (a w) (k:frW a=0):Xp prog 102 #[Xi (frv a).toArray] w fun e w'=>e= Xl (I6 0)/\zc w w':=by
 obtain⟨⟨n,p,q,s,t,u,v,y⟩,r,B,z,h,x⟩:=a
 show Xp prog 102 #[Xi #[U8 n,U8 p,U8 q,U8 s,U8 t,U8 u,U8 v,U8 y,I6 r,Xh B,Xh z,I6 h,I6 x]] w _
 cases b:inB r 1001 with
 | false=>simp[frW,b]at k
 | true=>
 cases d:inB x 12 with
 | false=>simp[frW,b,d]at k
 | true=>
 by_cases l:h=-1
 ·have f:(h == -1)=Xc:=by simp[l]
  have i:(h != -1)=Xd:=by simp[l]
  by_cases m:r=0
  ·have c:(r == 0)=Xc:=by simp[m]
   cases g:QO (⟨⟨n,p,q,s,t,u,v,y⟩,r,B,z,h,x⟩:Fr) frF with
   | false=>simp[frW,b,d,f,c,g]at k
   | true=>
    have j:x=0:=by have:=zcF g;simp only[frF,Fr.mk.injEq]at this;exact this.2.2.2.2.2
    exact wf7 _ _ _ _ _ _ _ _ _ _ _ _ _ w b d i f c g (by simp[j])
  have c:(r == 0)=Xd:=by simp[m]
  by_cases j:x=0
  ·exact wf9 _ _ _ _ _ _ _ _ _ _ _ _ _ w b d i f c (by simp[j])
  have A:(x == 0)=Xd:=by simp[j]
  simp[frW,b,d,f,c,A]at k
 have f:(h == -1)=Xd:=by simp[l]
 have i:(h != -1)=Xc:=by simp[l]
 cases j:inB h 5 with
 | false=>simp[frW,b,d,f,j]at k
 | true=>
  by_cases m:r=0
  ·have c:(r == 0)=Xc:=by simp[m]
   have g:QO (⟨⟨n,p,q,s,t,u,v,y⟩,r,B,z,h,x⟩:Fr) frF=Xd:=by
    refine zoa fun h=>?_
    simp only[frF,Fr.mk.injEq]at h;exact l h.2.2.2.2.1
   simp[frW,b,d,f,j,c,g]at k
  have c:(r == 0)=Xd:=by simp[m]
  exact wf5 _ _ _ _ _ _ _ _ _ _ _ _ _ w b d i f j c
theorem zmf:∀{fs:List Fr},zch fs=0->∀f∈fs,frW f=0
 | [],_,_,a=>by cases a
 | g :: fs,h,f,a=>by
  unfold zch at h
  by_cases b:frW g=0
  ·rw[kE b]at h
   rcases mC.1 a with rfl|a
   ·exact b
   exact zmf h f a
  rw[kF b]at h;exact absurd h b
theorem Jq (a) (c:Nat) (fs:List Fr) (h:Int) (w) (g:qh w (O a fs.length c) fs) (i:Qa fs h=0):
  Xp prog 71 #[Xi #[O a fs.length c,I6 h]] w fun e w'=>e= Xl (I6 0)/\zc w w':=by
 have d:=g.short;obtain⟨b,b,f,b⟩:=g.frs;cases f;have r:=dD b;clear b g;have b:Qa fs h=if 40<fs.length then 4 else if zch fs=0 then(if inB h (max fs.length 1)then 0 else 3)else zch fs:=rfl;rw[i]at b;obtain⟨n,k⟩:=kA fs.length;rw[k.out]at d b⊢;have d:¬40<n:=fun e=>by rw[kE e]at b;cases b
 rw[kF d]at b;have p:Xo (∀f∈fs,frW f=0):=dD<|zmf (Decidable.byContradiction fun e=>e (by rw[kF e]at b;exact b.symm))
 have g:zch fs=0:=Decidable.byContradiction fun e=>e (by rw[kF e]at b;exact b.symm)
 rw[kE g]at b;have f:inB h (max n 1)=Xc:=by
  cases e:inB h (max n 1)with
  | true=>rfl
  | false=>rw[e]at b;cases b
 clear b g i;have b:¬(40:Int)< (n:Int):=by omega
 have j:Xo (∀W,Xp prog 103 #[I6 h,I6 (max (n:Int) 1)] W fun e w'=>e= Xl (Xh Xc)/\w'=W):=dD<|fun W=>by
  have b:=ZP h (max (n:Int) 1) W;rw[show inB h (max (n:Int) 1)=inB h (max n 1) by simp,f]at b
  exact b
 clear f;obtain⟨g,b⟩:=kB (w.alloc (Xk #[O a n c,I6 h] 28));have h:=gA b
 have m:=xA b
 have f:=dD b;clear b d
 go_enter func71,ntmps71
 go_wp2;rw[f.out]
 go_loopg [13] n (fun f d wr=>∃b:Nat,b<=n/\n - b<=f/\d=I6 b/\Xo (zc g wr))
 case atStart=>exact⟨0,nZ _,by omega,rfl,zc.refl _⟩
 obtain⟨b,d,d,rfl,g⟩:=hrel
 by_cases f:b<n
 ·have i:=kC f
  obtain⟨q,l⟩:∃q,Xo (fs[b]? =Xa q):=⟨_,gE (by rw[k.out];exact f)⟩
  obtain⟨d,rfl,k⟩:=r.out b q l.out;obtain⟨d,d,d,d,d,d,d,d,d,d,d,d,d⟩:=k wr (h.trans g);have d:=fun W=>ze1 q W (p q (mG l))
  clear k
  go_wp2_with (go_at_call 102;refine(d _).mono ?_;rintro e w' ⟨rfl,d⟩)
  go_roundg (n -(b+1))
  case measure=>omega
  exact⟨b+1,by omega,by omega,by go_num,(g.trans (za _ _)).trans d⟩
 have i:=kD f
 have:b=n:=by omega
 subst this;have b:=(m.grew g).c 0 rfl;have b:=(m.grew g).c 1 rfl;have b:=j.out
 go_wp2_with (go_at_call 103;refine(b _).mono ?_;rintro e w' ⟨rfl,rfl⟩)
 go_ret;exact⟨rfl,h.trans g⟩
theorem zdL (h:zaR m=0):(∀k:Nat,k<m.fs.length->frE m k=0)/\∀k:Nat,k<m.sl.length->zjR m k=0:=by
 have a:∀(f:Nat->Int) (n:Nat),zu ((Oj n).map f)=0->∀k,k<n->f k=0:=fun f n b k c=>zn.1 b _ (Yl.2 ⟨k,Ys.2 c,rfl⟩)
 unfold zaR at h
 by_cases b:zu ((Oj m.fs.length).map (fun k=>frE m k))=0
 ·rw[kE b]at h;exact⟨a _ _ b,a _ _ h⟩
 rw[kF b]at h;exact absurd h b
theorem zd0 (V) (m:Ma) (w) (a3:zN w V m) (b2:zbH m Xb m.ca=0) (a9:m.sp.length<=4) (b9:∀s∈m.sp,tbW s.tb=0) (ck:zaR m=0):
  Xp prog 45 #[Xi (mL V m).toArray] w fun e w'=>e= Xl (I6 0)/\zc w w':=by
 have au:=dD<|fun W (a6:zc w W)=>ze6 V m W (a3.grew a6)
 have ar:=dD<|fun W (a6:zc w W)=>zib V m W (a3.grew a6) a9 b9
 have aq:=dD<|fun (B:Nat) (k:Nat) W (a6:zc w W) (b5:k<m.fs.length) (ay:Jc plK W B (za0 m.ca))=>zfG V m B k (za0 m.ca) W (a3.grew a6) b5 ay
 obtain⟨⟨a4,j,S⟩,⟨U,n,X⟩,g,i,c,d,f,b,h⟩:=V;dsimp only[mL]at au ar aq⊢;obtain⟨cn,co,-⟩:=a3.ns;dsimp only at cn co;have c3:=dD a3.frs;have cb:=dD a3.sls;have c7:=dD cn.symm;have c8:=dD co.symm;have e4:j<=9223372036854775807:=by have:=a3.fs.short;omega
 have e5:n<=9223372036854775807:=by have:=a3.sl.short;omega
 have c2:Xo (∀k:Nat,k<m.fs.length->(zW m k).r=qt m m.sp.length [] zei (1,(k:Int))/\(0<=(zW m k).f->za0 m.ca ((zW m k).f,(zW m k).x)=Xa (k:Int))):=dD<|fun k b5=>by
  have l:=(zdL ck).1 k b5;rw[zob b2 k]at l
  by_cases ao:(zW m k).r≠qt m m.sp.length [] zei (1,(k:Int))\/(0<=(zW m k).f/\¬za0 m.ca ((zW m k).f,(zW m k).x)=Xa (k:Int))
  ·rw[kE ao]at l;cases l
  exact⟨Decidable.byContradiction fun e=>ao (.inl e),fun e=>Decidable.byContradiction fun dv=>ao (.inr ⟨e,dv⟩)⟩
 have ca:Xo (∀k:Nat,k<m.sl.length->m.sl.getD k 0=qt m m.sp.length [] zei (2,(k:Int))):=dD<|fun k b5=>by
  have l:=(zdL ck).2 k b5;rw[zll m k]at l
  by_cases ao:m.sl.getD k 0≠qt m m.sp.length [] zei (2,(k:Int))
  ·rw[kE ao]at l;cases l
  exact Decidable.byContradiction ao
 clear a3 b2 a9 b9 cn co ck;obtain⟨di,a0⟩:=kB (w.alloc (Xk #[O a4 j S,I6 m.hand,O U n X,g.x,i.x,c.x,d.x,f.x,I6 m.cnt,b.x,h.x] 41));have I:=gA a0
 have A:=xA a0
 have cc:=dD a0;clear a0
 go_enter func45,ntmps45
 go_upto_region 1 with fail;rw[cc.out];have ba:=A.gw 0 rfl
 have bb:=A.gw 1 rfl
 have bc:=A.gw 2 rfl
 have bd:=A.gw 3 rfl
 have be:=A.gw 4 rfl
 have bf:=A.gw 5 rfl
 have bg:=A.gw 6 rfl
 have bh:=A.gw 7 rfl
 have bi:=A.gw 8 rfl
 have bj:=A.gw 9 rfl
 have aa:=A.gw 10 rfl
 have P:Nonempty (zl di):=⟨⟨_,zc.refl _⟩⟩;refine Zr 5 [(1,⟨fun r=>∃B,r= Xi #[O a4 j S,I6 m.hand,O U n X,g.x,i.x,c.x,d.x,f.x,I6 m.cnt,b.x,h.x,.map (Xa B)],fun r w'=>∃B,r= Xi #[O a4 j S,I6 m.hand,O U n X,g.x,i.x,c.x,d.x,f.x,I6 m.cnt,b.x,h.x,.map (Xa B)]/\Jc plK w' B (za0 m.ca)⟩),(3,⟨fun r=>∃B,r= .map (Xa B),fun r w'=>∃B,r= .map (Xa B)/\J0 enK w' B (qt m m.sp.length [] zei)⟩),(4,⟨fun r=>∃R,r= Xj (Xa ⟨R,0,Xb⟩),fun r w'=>∃R,r= Xj (Xa ⟨R,0,Xb⟩)/\Box w' R [eS,I6 0,eS,eS,eS,eS,eS,eS,I6 0,eS,eS,.map Xb]/\w.heap.size<=R⟩)] zY (by kernel_rfl) rfl rfl (by decide) ?hS ?hp ?_
 case hS=>
  intro cs Q;simp only[mC,nM,or_false]at Q
  rcases Q with rfl|rfl|rfl
  ·exact⟨_,0,rfl⟩
  ·exact⟨_,0,rfl⟩
  exact⟨_,0,rfl⟩
 case hp=>
  intro cs Q;simp only[mC,nM,or_false]at Q
  rcases Q with rfl|rfl|rfl
  ·exact fun _ _ _ z t=>by obtain⟨B,l,a5⟩:=t;exact⟨B,l,a5.grew z⟩
  ·exact fun _ _ _ z t=>by obtain⟨B,l,a5⟩:=t;exact⟨B,l,a5.grew z⟩
  exact fun _ _ _ z t=>by obtain⟨R,l,a5,e0⟩:=t;exact⟨R,l,a5.grew z,e0⟩
 simp only[Yf,Yg];refine zg ?_
 refine zH rfl rfl (fun w' z D=>?_) (fun cr T=>?_)
 ·refine zQ.call [Xi #[O a4 j S,I6 m.hand,O U n X,g.x,i.x,c.x,d.x,f.x,I6 m.cnt,b.x,h.x]] rfl func83 rfl rfl rfl ?_;refine(au w' (I.trans z)).mono ?_;rintro e bu ⟨B,rfl,ay,a2⟩;exact⟨_,rfl,a2,⟨B,rfl⟩,B,rfl,ay⟩
 obtain⟨ct,rfl⟩:=T;refine Uq ?_;refine zg ?_
 refine zH rfl rfl (fun w' z D=>?_) (fun cr T=>?_)
 ·refine zQ.call [Xi #[O a4 j S,I6 m.hand,O U n X,g.x,i.x,c.x,d.x,f.x,I6 m.cnt,b.x,h.x]] rfl func84 rfl rfl rfl ?_;refine(ar w' (I.trans z)).mono ?_;rintro e bu ⟨B,rfl,ay,a2⟩;exact⟨_,rfl,a2,⟨B,rfl⟩,B,rfl,ay⟩
 obtain⟨cu,rfl⟩:=T;refine Uq ?_;refine zH rfl rfl (fun w' z D=>?_) (fun cr T=>?_)
 ·have cl:=bS (I.trans z);clear ba bb bc bd be bf bg bh bi bj aa P;refine zQ.step (v:= Xj (Xa ⟨w'.heap.size,0,Xb⟩)) (w':=w'.alloc (Xk #[eS,I6 0,eS,eS,eS,eS,eS,eS,I6 0,eS,eS,.map Xb] 152)) (by simp only[execOp];go_simp) ⟨za _ _,⟨_,rfl⟩,_,rfl,Box.top _ _ _ rfl,cl⟩
 obtain⟨de,rfl⟩:=T;refine Uq ?_;refine z7 fun ce H D=>?_
 obtain⟨u,af,az⟩:∃B,(Value.agg #[O a4 j S,I6 m.hand,O U n X,g.x,i.x,c.x,d.x,f.x,I6 m.cnt,b.x,h.x,.map (Xa ct)])= Xi #[O a4 j S,I6 m.hand,O U n X,g.x,i.x,c.x,d.x,f.x,I6 m.cnt,b.x,h.x,.map (Xa B)]/\Jc plK ce B (za0 m.ca):=D 1;obtain⟨Y,ag,b0⟩:∃B,(Value.map (Xa cu))= .map (Xa B)/\J0 enK ce B (qt m m.sp.length [] zei):=D 3;obtain⟨an,ah,ax,a8⟩:∃R,(Value.pointer (Xa ⟨de,0,Xb⟩))= Xj (Xa ⟨R,0,Xb⟩)/\Box ce R [eS,I6 0,eS,eS,eS,eS,eS,eS,I6 0,eS,eS,.map Xb]/\w.heap.size<=R:=D 4;have dw:u=ct:=by simp at af;exact af.symm
 have dx:Y=cu:=by simp at ag;exact ag.symm
 have dy:an=de:=by simp at ah;exact ah.symm
 subst dw dx dy;have cx:=dD az;have dg:=dD b0;have bw:=dD ax;have c6:=dD a8;have c4:=dD (I.trans H);have da:=dD (A.grew H);clear af ag ah az b0 ax a8 H D ba bb bc bd be bf bg bh bi bj aa P;have cd:Xo (w.heap.size≠an):=show _≠_ from fun e=>by
  obtain⟨ed,l⟩:=da.out;obtain⟨ee,a5⟩:=bw.out;rw[<-e,l]at a5
  simp at a5
 go_wp2_with (refine zF rfl 152 (.tmp 3) (.tmp 10) rfl an rfl [O a4 j S,I6 m.hand,O U n X,g.x,i.x,c.x,d.x,f.x,I6 m.cnt,b.x,h.x,.map (Xa u)] rfl bw rfl (by kernel_rfl) (fun r T=>by
    simp only[mC,nM,or_false]at T
    rcases T with rfl|rfl|rfl|rfl|rfl|rfl|rfl|rfl|rfl|rfl|rfl|rfl <;> rfl) ?_)
 intro aw b1 L _;have dk:=dD b1;have db:=dD<|da.grown L cd.out;have dh:Xo (Jc plK aw u (za0 m.ca)):=cx.kept L (fun e=>by cases e;exact bw.ne_map cx rfl)
 have cy:Xo (J0 enK aw Y (qt m m.sp.length [] zei)):=dD<|by
  obtain⟨dz,dd,e8⟩:=dg.out;exact⟨dz,dd.kept L (fun e=>by cases e;exact bw.ne_map dd rfl),e8⟩
 have E:=dD<|zd c4 L c6.out
 clear b1 L;have e9:=db.c 0 rfl;go_wp2;clear e9
 go_loopg [17] j (fun cj cp wr=>∃a:Nat,a<=j/\j - a<=cj/\cp=I6 a/\Xo (zc aw wr))
 case atStart=>exact⟨0,nZ _,by omega,rfl,zc.refl _⟩
 obtain⟨a,e7,e6,rfl,Z⟩:=hrel
 by_cases ak:a<j
 ·have b7:=kC ak
  have y:Xo (a<m.fs.length):=dD<|by rw[c7.out];exact ak
  obtain⟨q,cw⟩:∃q,Xo (m.fs[a]? =Xa q):=⟨_,gE y⟩;have ap:Xo (zW m (a:Int)=q):=dD<|by unfold zW;rw[tN,gD,cw.out];rfl
  obtain⟨cf,rfl,b6⟩:=c3.out a q cw.out;obtain⟨dc,dl,dm,dn,dp,dq,dr,ds,dt,du,cg,ch,ci⟩:=b6 wr (E.trans Z);clear b6;go_upto_region 5 with fail;obtain⟨cz,a1⟩:=kB (wr.alloc (Xk #[U8 q.p.b0,U8 q.p.b1,U8 q.p.b2,U8 q.p.b3,U8 q.p.b4,U8 q.p.b5,U8 q.p.b6,U8 q.p.b7,I6 q.r,Xh q.u,Xh q.d,I6 q.f,I6 q.x] 62));have x:=gT a1 Z
  have cv:=dD (E.trans x);have bz:=xA a1
  have C:=dD (dk.grew x);rw[a1];clear a1 dc dl dm dn dp dq dr ds dt du cg ch ci;obtain⟨ec,c9⟩:=kA wr.heap.size;rw[c9.out]at bz⊢;obtain⟨t,F⟩:=kA ((qt m m.sp.length [] zei) (1,(a:Int)));have aj:∀bx:zl cz,(Instr.lookup 154 (.map (Xa Y)) (Xi #[I6 1,I6 (a:Int),Xh Xd]) Xd).run prog bx.world= .ok (I6 t) bx.world:=fun bx=>by
   have:=(cy.grew (x.trans bx.grew)).look (K:=enK) underlying154 (zq0 _) (1,(a:Int));rw[F.out]at this;exact this
  have b4:=bz.gw 8 rfl
  have a7:=bz.gw 11 rfl
  have bk:=C.gw 0 rfl
  have bl:=C.gw 1 rfl
  have bm:=C.gw 2 rfl
  have bn:=C.gw 3 rfl
  have bo:=C.gw 4 rfl
  have bp:=C.gw 5 rfl
  have bq:=C.gw 6 rfl
  have br:=C.gw 7 rfl
  have bs:=C.gw 8 rfl
  have bt:=C.gw 9 rfl
  have ab:=C.gw 10 rfl
  have ac:=C.gw 11 rfl
  have P:Nonempty (zl cz):=⟨⟨_,zc.refl _⟩⟩;obtain⟨am,ai⟩:=c2.out a y.out;rw[ap.out,F.out]at am;have cm:(q.r != t)=Xd:=by simp[am]
  by_cases G:0<=q.f
  ·have b3:decide (0<=q.f)=Xc:=by simpa using G
   have df:Xo (decide (za0 m.ca ((zW m (a:Int)).f,(zW m (a:Int)).x)=Xa (a:Int))=Xc):=dD<|decide_eq_true (ai (by rw[ap.out];exact G))
   have c1:Xo (∀W,zc aw W->Xp prog 85 #[Xi #[O (Xa cf) j S,I6 m.hand,O U n X,g.x,i.x,c.x,d.x,f.x,I6 m.cnt,b.x,h.x,.map (Xa u)],I6 (a:Int)] W fun e w'=>e= Xl (Xh Xc)/\zc W w'):=dD<|fun W a6=>by
    have l:=aq.out u a W (E.trans a6) y (dh.grew a6);rw[df.out]at l;exact l
   clear am G ai;refine jK [(14,⟨fun r=>r= Xh Xc,fun r w'=>True⟩)] zY (by kernel_rfl) ?hS ?hp ?_
   case hS=>
    intro cs Q;simp only[mC,nM,or_false]at Q;subst Q;exact⟨_,rfl⟩
   case hp=>
    intro cs Q;simp only[mC,nM,or_false]at Q;subst Q;exact fun _ _ _ _ t=>t
   iterate 14 refine zg ?_
   refine zH rfl rfl (fun w' z D=>?_) (fun cr T=>?_)
   ·refine zQ.call [Xi #[O (Xa cf) j S,I6 m.hand,O U n X,g.x,i.x,c.x,d.x,f.x,I6 m.cnt,b.x,h.x,.map (Xa u)],I6 (a:Int)] rfl func85 rfl rfl rfl ?_;refine(c1 w' (x.trans z)).mono ?_;rintro e bu ⟨rfl,H⟩;exact⟨_,rfl,H,rfl,trivial⟩
   subst T;refine Uq ?_;iterate 3 refine zg ?_
   refine z7 fun dj M D=>?_
   have ae:=dD (x.trans M);clear M D aj b4 a7 bk bl bm bn bo bp bq br bs bt ab ac P;go_wp2
   go_roundg (j -(a+1))
   case measure=>omega
   exact⟨a+1,by omega,by omega,by go_num,ae⟩
  have b3:decide (0<=q.f)=Xd:=by simpa using G
  clear am G ai;refine jK [] zY (by kernel_rfl) (by simp) (by simp) ?_
  iterate 12 refine zg ?_
  iterate 4 (refine Qk (by kernel_rfl) ?_;simp only[Act.put,sB,sS,sZ])
  iterate 2 refine zg ?_
  refine z7 fun dj M D=>?_
  have ae:=dD (x.trans M);clear M D aj b4 a7 bk bl bm bn bo bp bq br bs bt ab ac P;go_wp2
  go_roundg (j -(a+1))
  case measure=>omega
  exact⟨a+1,by omega,by omega,by go_num,ae⟩
 have b7:=kD ak
 have:a=j:=by omega
 subst this;have ea:=(db.grew Z).c 2 rfl;go_wp2;clear ea;have c0:=dD Z
 go_loopg [44] n (fun cj cq wr=>∃p:Nat,p<=n/\n - p<=cj/\cq=I6 p/\Xo (zc aw wr))
 case atStart=>exact⟨0,nZ _,by omega,rfl,c0⟩
 obtain⟨p,eb,a2,rfl,Z⟩:=hrel
 by_cases N:p<n
 ·have al:=kC N
  have y:Xo (p<m.sl.length):=dD<|by rw[c8.out];exact N
  obtain⟨bv,av⟩:∃bv,Xo (m.sl[p]? =Xa bv):=⟨_,gE y⟩;obtain⟨cf,rfl,b6⟩:=cb.out p bv av.out;have dc:=b6 wr (E.trans Z);clear b6;obtain⟨t,F⟩:=kA ((qt m m.sp.length [] zei) (2,(p:Int)));have aj:(Instr.lookup 154 (.map (Xa Y)) (Xi #[I6 2,I6 (p:Int),Xh Xd]) Xd).run prog wr= .ok (I6 t) wr:=by
   have:=(cy.grew Z).look (K:=enK) underlying154 (zq0 _) (2,(p:Int));rw[F.out]at this;exact this
  have am:bv=t:=by
   have:=ca.out p y.out;rw[gD,av.out,F.out]at this;exact this
  have cm:(bv != t)=Xd:=by simp[am]
  clear am;go_wp2
  go_roundg (n -(p+1))
  case measure=>omega
  exact⟨p+1,by omega,by omega,by go_num,Z⟩
 have al:=kD N
 have:p=n:=by omega
 subst this;have c5:=dD (E.trans Z);go_wp2;go_ret;exact⟨rfl,c5⟩
theorem ze3 (V m w) (a3:zN w V m) (bu:zjE m) (ch:zu (Qx m)=0):
  Xp prog 41 #[Xi (mL V m).toArray] w fun e w'=>e= Xl (I6 0)/\zc w w':=by
 obtain⟨c6,y,f,T,⟨D,d,E⟩,⟨F,i,G⟩,R,Q,S⟩:=V;dsimp only[mL];have df:=zbQ;obtain⟨-,s,bx,-,am,bz,-⟩:=a3.ns;dsimp only at s bx am bz;have aq:=dD<|fun ai (d9:zc w ai)=>zdE _ m.fl m.cnt ai (a3.grew d9).fl bu.st
 have b9:=dD a3.pgs;have ba:=dD a3.puts;obtain⟨ab,ah⟩:=zhC bu.dq;have bd:=dD ah;have B:=dD am.symm;have az:=dD bz.symm;have bw:i<=9223372036854775807:=by have:=a3.dq.2.2;omega
 rw[B.out]at ab;have h:zmn m=if y.n≠f.n\/m.cnt≠(d:Int)then 7 else 0:=by unfold zmn;rw[s,bx,am]
 have v:=zn.1 ch;have n:zap m=0:=v _ (by simp[Qx])
 have r:J6 m=0:=v _ (by simp[Qx])
 rw[v (zmn m) (by simp[Qx])]at h
 have ao:Xo (∀c,c<m.db.length->zcm m c=Xd):=dD<|fun c bv=>by
  cases aa:zcm m c with
  | false=>rfl
  | true=>rw[zeU bv aa]at n;cases n
 have be:Xo (∀(j:Nat) x,m.dq[j]? =Xa x->zU m.fl x.1=Xc):=dD<|fun j x de=>by
  cases aa:zU m.fl x.1 with
  | true=>rfl
  | false=>rw[zen de aa]at r;cases r
 have da:¬(y.n≠f.n\/m.cnt≠(d:Int)):=fun aa=>by rw[kE aa]at h;cases h
 have al:f.n=y.n:=by omega
 have bk:m.cnt=(d:Int):=by omega
 clear a3 bu ah s bx am bz h v n r ch da;obtain⟨cb,k⟩:=kB (w.alloc (Xk #[c6.x,I6 m.hand,y.x,f.x,T.x,O D d E,O F i G,R.x,I6 m.cnt,Q.x,S.x] 41));have a5:=gA k
 have C:=xA k
 have cn:Xo (w.heap.size<cb.heap.size):=dD<|by rw[<-k];simp
 have bf:=dD k;clear k;have cw:((f.n:Int) !=(y.n:Int))=Xd:=by simp[al]
 have cy:((d:Int) != m.cnt)=Xd:=by simp[bk]
 have cx:(f.n != y.n)=Xd:=by simp[al]
 have ac:=aq.out cb a5.out;have cl:=dD al;have cm:=dD bk;clear al bk
 go_enter func41,ntmps41
 go_upto_region 1 with fail;rw[bf.out];have dn:=C.c 2 rfl;have dp:=C.c 3 rfl;have c7:=C.c 5 rfl;have c8:=C.c 6 rfl;have dq:=C.c 7 rfl;have dr:=C.c 8 rfl;go_upto_region 3 with fail;go_wp2_with fail;refine ac.mono ?_;clear ac dn dp c7 c8 dq dr;rintro e aj ⟨rfl,H⟩;have a6:=dD (a5.trans H);have cc:=dD (C.grew H);clear H;obtain⟨a4,u⟩:=kA (qJ 80 (qQ m.fl m.fl.length []));have aw:Xo (a4.length=80):=show _=_ by rw[<-u.out];exact zbn _ _
 have ax:Xo (∀dm∈a4,dm.oneCell'=Xc):=dD<|by rw[<-u.out];exact zgJ _ _
 have a8:Xo (∀c:Nat,c<80->a4[c]? =Xa (Xh (zU m.fl (c:Int)))):=dD<|fun c bv=>by rw[<-u.out];exact zol bv
 rw[u.out];obtain⟨cq,l⟩:=kB (aj.alloc (Xk zfY 141));have ar:=gT l a6
 have ct:=yA l cc
 have cu:Xo (Box cq aj.heap.size (Xr 80 (Xh Xd))):=dD<|by rw[<-l];exact Box.top _ (Xr 80 (Xh Xd)) _ rfl
 have bg:=dD l;clear l;have av:=dD<|bS a6.out
 have bh:=dD cc.lt
 go_wp2_with (first | (rw[bg.out];refine zF rfl 141 (.tmp 3) (.tmp 28) rfl aj.heap.size rfl a4 rfl cu (by rw[aw.out];simp) (by simpa using zq1) ax.out ?_))
 intro cr ae K _;have au:=dD<|zd ar K av.out
 have cd:Xo (Box cr w.heap.size [c6.x,I6 m.hand,y.x,f.x,T.x,O D d E,O F i G,R.x,I6 m.cnt,Q.x,S.x]):=ct.grown K (by have:=bh.out;omega)
 have cg:=dD ae;obtain⟨an,b8⟩:=kA aj.heap.size;rw[b8.out]at cg⊢;clear ae K df;have c7:=cd.c 5 rfl;go_wp2;clear c7;obtain⟨P,ay⟩:=kA d;rw[ay.out]at ab⊢
 go_loopg [33] P (fun bt c4 wr=>∃b:Nat,b<=P/\P - b<=bt/\c4=I6 b/\Xo (zc w wr)/\Xo (Box wr w.heap.size [c6.x,I6 m.hand,y.x,f.x,T.x,O D d E,O F i G,R.x,I6 m.cnt,Q.x,S.x])/\Xo (Box wr an a4))
 case atStart=>exact⟨0,nZ _,by omega,rfl,au,cd,cg⟩
 obtain⟨b,dd,dc,rfl,z,cf,ak⟩:=hrel
 by_cases L:b<P
 ·have ag:=kC L
  have p:b<80:=by omega
  have a7:Xo (b<m.db.length):=dD<|by rw[B.out,ay.out];exact L
  obtain⟨c0,c9⟩:∃c0,Xo (m.db[b]? =Xa c0):=⟨_,gE a7⟩;obtain⟨cv,W,X,Y,Z,I,a0,a1,a2,rfl,rfl,af⟩:=b9.out b c0 c9.out;have A:Xo (zcm m b=(!zU m.fl (b:Int) && !([W,X,Y,Z,I,a0,a1,a2] == zz))):=dD<|by unfold zcm;rw[gD,c9.out];rfl
  obtain⟨bl,bm,bn,bo,bp,bq,br,bs⟩:=af wr z.out;have N:=fun ai=>Qr 9998 W X Y Z I a0 a1 a2 0 0 0 0 0 0 0 0 ai
  simp only[zfW]at N;obtain⟨cp,ca⟩:=kA (zU m.fl (b:Int));have g:=a8.out b p;rw[ca.out]at g;rw[ca.out]at A;obtain⟨co,bb⟩:=kA ([W,X,Y,Z,I,a0,a1,a2] == zz);rw[bb.out]at N A;clear af;go_upto_region 7 with fail;obtain⟨cs,a⟩:=kB (wr.alloc (Xk #[U8 W,U8 X,U8 Y,U8 Z,U8 I,U8 a0,U8 a1,U8 a2] 60));have t:=gT a z
  have ce:=yA a cf
  have U:=yA a ak
  have bj:=xA a
  rw[a];clear a bl bm bn bo bp bq br bs;have ds:=U.c b g;obtain⟨cj,dg,dh,an,di,dj,dk,dl⟩:=bj.c8;clear g
  cases cp with
  | true=>
   clear cj dg dh an di dj dk dl N;go_wp2
   go_roundg (P -(b+1))
   case measure=>omega
   exact⟨b+1,by omega,by omega,by go_num,t,ce,U⟩
  | false=>
   cases co with
   | true=>
    go_wp2
    go_roundg (P -(b+1))
    case measure=>omega
    exact⟨b+1,by omega,by omega,by go_num,t,ce,U⟩
   | false=>
    have:=ao.out b a7.out;rw[A.out]at this;cases this
 have ag:=kD L
 have:b=P:=by omega
 subst this;have c8:=cf.c 6 rfl;go_wp2;clear c8;obtain⟨s,a9⟩:=kA i;rw[a9.out]at bw⊢;have ap:=dD z;have bi:=dD ak
 go_loopg [52] s (fun bt c5 wr=>∃j:Nat,j<=s/\s - j<=bt/\c5=I6 j/\Xo (zc w wr)/\Xo (Box wr an a4))
 case atStart=>exact⟨0,nZ _,by omega,rfl,ap,bi⟩
 obtain⟨j,dt,db,rfl,z,ak⟩:=hrel
 by_cases q:j<s
 ·have M:=kC q
  obtain⟨x,bc⟩:∃x,Xo (m.dq[j]? =Xa x):=⟨_,gE (by rw[az.out,a9.out];exact q)⟩
  obtain⟨cv,ci,W,X,Y,Z,I,a0,a1,a2,rfl,rfl,af⟩:=ba.out j x bc.out;obtain⟨ck,c3⟩:=bd.out j _ bc.out;simp only at ck c3;obtain⟨c,rfl⟩:∃c:Nat,ci=(c:Int):=⟨ci.toNat,by omega⟩
  have p:c<80:=by rw[B.out,ay.out]at c3;omega
  obtain⟨bl,bm,bn,bo,bp,bq,br,bs,cz⟩:=af wr z.out;have g:=a8.out c p;rw[show zU m.fl (c:Int)=Xc from be.out j _ bc.out]at g
  clear af ck c3;go_upto_region 13 with fail;obtain⟨cs,a⟩:=kB (wr.alloc (Xk #[I6 (c:Int),U8 W,U8 X,U8 Y,U8 Z,U8 I,U8 a0,U8 a1,U8 a2] 69));have t:=gT a z
  have U:=yA a ak
  have bj:=xA a
  rw[a];clear a bl bm bn bo bp bq br bs cz;have ds:=U.c c g;have cj:=bj.c 0 rfl;clear g;go_wp2
  go_roundg (s -(j+1))
  case measure=>omega
  exact⟨j+1,by omega,by omega,by go_num,t,U⟩
 have M:=kD q
 have:j=s:=by omega
 subst this;go_wp2;go_ret;exact⟨rfl,z⟩
theorem zqc (V m w) (b:zN w V m) (d:maW m=0) (k:Nat) (f:Nat) (a:chk[k]? =Xa f):
  Xp prog f #[Xi (mL V m).toArray] w fun e w'=>e= Xl (I6 0)/\zc w w':=by
 have c:∀e∈zpy m,e=0:=zn.1 (by rw[<-d,zpb];rfl)
 have g:zu (Z7 m)=0:=c _ (by simp[zpy])
 have n:zu (Qx m)=0:=c _ (by simp[zpy])
 have d:Z6 m=0:=c _ (by simp[zpy])
 have j:zeg m=0:=c _ (by simp[zpy])
 have p:zga m=0:=c _ (by simp[zpy])
 have q:zaR m=0:=c _ (by simp[zpy])
 have c:=zpY.1 g
 match k,a with
 | 0,a=>
  cases a;have k:=zeZ V m w b fun W i=>by
   obtain⟨l,-⟩:=b.ns;have h:=(b.grew i).fs;(try simp only[Sli.x]at h⊢);rw[l]at h⊢;have i:Qa m.fs m.hand=0:=zn.1 g _ (by simp[Z7])
   rw[i];exact Jq _ _ m.fs m.hand W h i
  rw[g]at k;exact k
 | 1,a=>cases a;exact ze3 V m w b c n
 | 2,a=>cases a;rw[<-d];exact zcN V m w b
 | 3,a=>cases a;rw[<-j];exact zd1 V m w b c
 | 4,a=>cases a;exact zdY V m w b c (zlu d) p
 | 5,a=>cases a;exact zd0 V m w b j (zf9 d) (fun s b=>(zlu d s b).2) q
 | k+6,a=>simp[chk]at a
theorem J1 (V m w) (b:zN w V m) (a:maW m=0):
  Xp prog 24 #[Xi (mL V m).toArray] w fun e w'=>e= Xl (I6 0)/\zc w w':=by
 have g:Xo (∀W,zc w W->∀(k f:Nat),chk[k]? =Xa f->Xp prog f #[Xi (mL V m).toArray] W fun e w'=>e= Xl (I6 0)/\zc W w'):=dD<|fun W c k f d=>zqc V m W (b.grew c) a k f d
 clear b a;obtain⟨d,a⟩:=kB ((w.alloc (Xk (mL V m).toArray 41)).alloc (Xk #[.func (.func 40) #[] #[],.func (.func 41) #[] #[],.func (.func 42) #[] #[],.func (.func 43) #[] #[],.func (.func 44) #[] #[],.func (.func 45) #[] #[]] 47));have b:=gD2 a
 have j:=x2a a
 have k:Xo (Box d (w.heap.size+1) (chk.map fnV)):=dD<|by rw[<-a];exact Box.top _ (chk.map fnV) _ (by simp)
 have c:=dD a;clear a
 go_enter func24,ntmps24
 go_upto_region 2 with fail;rw[c.out];go_wp2
 go_loopg [10] 6 (fun h c wr=>∃a:Nat,a<=6/\6 - a<=h/\c=I6 a/\Xo (zc d wr))
 case atStart=>exact⟨0,nZ _,by omega,rfl,zc.refl _⟩
 obtain⟨a,c,c,rfl,d⟩:=hrel;have i:=dD (b.trans d)
 by_cases b:a<6
 ·have c:(a:Int)<6:=by omega
  obtain⟨f,h⟩:∃f,Xo (chk[a]? =Xa f):=⟨_,gE (by simp[chk];exact b)⟩
  have v:wr.cell? ⟨w.heap.size+1,a,Xb⟩=Xa (.func (.func f) #[] #[]):=(k.grew d).c a (by rw[Yi,h.out];rfl)
  have k:=zkO a f h.out;have b:=g.out wr i a f h.out;have g:=dD (j.grew d);obtain⟨h,j,l,n,p,q,r,s,t,u,f⟩:=g.c11;go_wp2_with fail;refine b.mono ?_;clear b h j l n p q r s t u f v;rintro b b ⟨rfl,b⟩;have f:=dD (d.trans b);clear b k;go_wp2
  go_roundg (6 -(a+1))
  case measure=>omega
  exact⟨a+1,by omega,by omega,by go_num,f⟩
 have c:¬(a:Int)<6:=by omega
 go_wp2;go_ret;exact⟨rfl,i⟩
theorem zii (n:Nat) (a:n<=40) (w):
  Xp prog 161 #[.int .u64 1,.int .u64 (n:Int)] w fun e w'=>e= Xl (Xm #[.int .u64 0,.int .u64 (n:Int)])/\w'=w:=by
 have h:bits .and .u64 1 4294967295=1:=Mul64.maskN 1 (by omega)
 have i:bits .and .u64 (n:Int) 4294967295=(n:Int):=by rw[Mul64.maskN n (by omega)];omega
 have g:bits .and .u64 0 4294967295=0:=Mul64.maskN 0 (by omega)
 have f:(n:Int) / 4294967296=0:=by omega
 have c:=dD h;have d:=dD i;have b:=dD g;have a:=dD f;clear h i g f
 go_enter func161,ntmps161
 go_wp2;have f:IntKind.u64.wrap 0=0:=Mul64.wrapN 0 (by omega)
 have g:IntKind.u64.wrap (n:Int)=(n:Int):=Mul64.wrapN n (by omega)
 simp only[c.out,d.out,Int.one_mul,g,a.out,f,b.out,Int.mul_zero,Int.add_zero,Int.zero_ediv]
 go_ret2
 exact⟨rfl,rfl⟩
theorem zgY (n:Nat) (b:n<=40) (w):
  Xp prog 135 #[.int .u64 1,.int .u64 (n:Int)] w fun e w'=>e= Xl (Xm #[.int .u64 0,.int .u64 (n:Int)])/\w'=w:=by
 have a:=zii n b w
 go_enter func135,ntmps135
 go_wp2_with (go_at_call 161;refine a.mono ?_;rintro e w' ⟨rfl,a⟩;rw[a])
 go_ret2
 exact⟨rfl,rfl⟩
theorem zgW (m:List Fr):∀(l:List Fr) (a:Nat),a+m.length<=l.length->splice (l.flatMap frv) (a*13) (m.flatMap frv)=(l.take a++(m++l.drop (a+m.length))).flatMap frv:=fun l a h=>by
 have b:∀(l:List Fr) (j:Nat),j<=l.length->(l.flatMap frv).take (j*13)=(l.take j).flatMap frv/\(l.flatMap frv).drop (j*13)=(l.drop j).flatMap frv:=fun l j e=>by
  have c:l.flatMap frv=(l.take j).flatMap frv++(l.drop j).flatMap frv:=by rw[<-Yd,Ym]
  have d:((l.take j).flatMap frv).length=j*13:=by rw[QF,Ya,Yq e]
  constructor
  ·rw[c,<-d,List.take_left]
  rw[c,<-d,List.drop_left]
 unfold splice;rw[QF m,<-Yy,(b l a (by omega)).1,(b l (a+m.length) h).2,Yd,Yd]
theorem zak {w:Xn} (j) (base:Nat) (v:Xq) (l:List Fr) (d:zk base w v l) (g:Nat) (n:v.ownBlock=Xa g) (a b f:Nat) (ad) (e i:Nat)
  (m:List Fr) (q:m.length=Nat.min e b) (h:Zf w ad (m.flatMap frv)) (c:a+m.length<=l.length):
  ∃w',(Builtin.copy_ #[26,26] j #[O (Xa ⟨g,a*13,Xb⟩) b f,O (Xa ad) e i]).run prog w= .ok (goInt m.length) w'/\zk base w' v (l.take a++(m++l.drop (a+m.length)))/\w.grownBy w' (Xa g)/\w'.heap.size=w.heap.size:=by
 obtain⟨b,p,_,f,_⟩:=info_parts zqD;have e:=QF m;have b:a*13+(m.flatMap frv).length<=l.length*13:=by
  rw[e,<-Yy];exact Yc _ c
 obtain⟨w',r,i,j,k⟩:=qW (P:=prog) d.1 n (a*13) (m.flatMap frv) b (qP zfI m);have b:=run_loadCells_list (P:=prog) w ad (m.flatMap frv) h;rw[e]at b;rw[zgW m l a c]at i;have hlen:(l.take a++(m++l.drop (a+m.length))).length=l.length:=by simp;omega
 refine⟨w',?_,⟨by rw[hlen];exact i,by rw[hlen];exact d.2⟩,j,k⟩
 simp[Builtin.copy_,run_underlying underlying26,Builtin.lenOf,Builtin.firstCells,sizeOf,typeInfo,p,f,<-q,b,r]
theorem Q1 {w:Xn} {rest:List Oper} {a:Act} (p:o.guard=Xb) (d s) (A:o.op= .call { callee:= .builtin .copy,args:=#[d,s],argTypes:=#[26,26] })
  (base:Nat) (v:Xq) (l:List Fr) (j:zk base w v l) (g:Nat) (y:v.ownBlock=Xa g) (c b f:Nat) (q:Addr) (x:a.eval d= O (Xa q) b f) (k:q=⟨g,c*13,Xb⟩) (ad:Addr) (e h:Nat) (B:a.eval s= O (Xa ad) e h)
  (m:List Fr) (z:m.length=Nat.min e b) (n:Zf w ad (m.flatMap frv)) (i:c+m.length<=l.length)
  (r:∀w',zk base w' v (l.take c++(m++l.drop (c+m.length)))->w.grownBy w' (Xa g)->w'.heap.size=w.heap.size->wpList prog ops Q rest (a.put o.dst (goInt m.length)) w'):wpList prog ops Q (o :: rest) a w:=by
 subst k;refine wpList_plain p fun K u=>?_
 obtain⟨w',k,p,q,t⟩:=zak o.type base v l j g y c b f ad e h m z n i;unfold Oper.wp
 simp[execOp,A,resolve,invoke,builtin,x,B,k,Result.andThen]
 exact u _ _ (r w' p q t)
end
end Go.Proofs.YtjjdljjhmcegdaaGreat
