import Derived.Test.YtacihbmelcegbaaGreatPE2
import Derived.BigQuiet
import Derived.Deep.Cut
import Derived.Laws.CopyRow
import Derived.Laws.CopyOwn
import Derived.Laws.MakeOwn
import Derived.RangeFuncNested
import Derived.RangeFuncBound
import Derived.RangeFuncCalls
import Derived.RangeFuncLeaves
import Derived.Shelf.Abstract
import Derived.Shelf.RegionOpen
import Derived.WalkKit
import Derived.OwnWalkIn
import Derived.TacticsInMore
import Derived.LoopNIn
import Derived.LoopIn
namespace Go.Proofs.YtacihbmelcegbaaGreat
open Go.Value renaming slice→O,int→Xe,bool→Xh,agg→Xi,pointer→Xj,tuple→Xm
open Go.IntKind renaming i64→Xf,u8→Xg
open Go.Obj renaming cells→Xk
open Go.Ending renaming returned→Xl
open Go renaming World→Xo,Calls→Xq,Value→Xr
open Go.RowKit renaming Hid→Xp
open Option renaming some→Xa,none→Xb
open Bool renaming true→Xc,false→Xd
open List renaming replicate→Xs
open Go.Sem renaming run_bind→Xt,run_pure→Xu
open _root_.List renaming eq_of_mem_replicate→Xv,length_set→Xw,any_eq_true→Xx,length_cons→Xy,nil_append→Ya,mem_or_eq_of_mem_set→Yc,size_toArray→Ye,cons_append→Yf,map_toArray→Yg,length_nil→Yi,mem_append→Yj,length_singleton→Yk,reverse_append→Yn,append_toArray→Yo,find?_eq_none→Yq,mem_map→Yr,append_assoc→Ys,find?_append→Yt,push_toArray→Yu,map_nil→Yv,take→Yw,drop→Yx
open Go.Region renaming wanted→Xz
open _root_.Nat renaming lt_of_lt_of_le→Yb,mod_lt→Yp
open Go.Act renaming put→Yd
open Go.Addr renaming add_lit→Yh
open _root_.Array renaming replicate_succ→Yl,replicate_zero→Ym
set_option maxRecDepth 100000
set_option maxHeartbeats 4000000
variable{B B0 B1 b base' hi id j:Nat} {L:List Int} {Q:Exit->Act->Xo->Prop} {T:List (Nat->En)} {V:MaV} {W w' w0:Xo} {m m':Ma} {o:Oper} {ops:Array Oper} {t:TypeId} {us xs:List Xr} {vl vt:Sli} {z:Int}
open Go.Proofs.Tryz
section
open Go.RowKit
structure zmA (base:Nat) (w:Xo) (V:MaV) (m:Ma):Prop where
 fs:zb Qj base w (V.f.x) m.fs
 sl:zb slE base w (V.s.x) m.sl
 sb:zi base w (V.sb.x) m.sb
 sq:zp base w (V.sq.x) m.sq
 db:zi base w (V.db.x) m.db
 dq:zp base w (V.dq.x) m.dq
 fl:∃lo,qU lo w (V.fl.x) m.fl/\base<=lo/\∀g,(V.s.x).ownBlock=Xa g->g<lo
 ca:zb qJ base w (V.ca.x) m.ca
 sp:Qb base w (V.sp.x) m.sp
 ap:∀g,(V.sb.x).ownBlock=Xa g->(V.db.x).ownBlock≠Xa g
theorem ja.now0 {w:Xo} {v:Xr} {fs:List Fl} (h:ja B0 B1 w v fs):qh w v fs:=by
 obtain⟨hc,xs,k1,k2,k3⟩:=h;exact⟨hc,xs,k1.now.s0,k2,fun i x f hx hf=>⟨(k3 i x f hx hf).1,(k3 i x f hx hf).2.now.s0⟩⟩
theorem zhj {base:Nat} {w:Xo} {v:Xr} {l:List (List Int)} (h:zi base w v l):∀g,v.ownBlock=Xa g->base<=g/\g<w.heap.size:=h.1.lt
theorem ZI {w:Xo} {base size n g:Nat} {e:TypeId} {v:Xr} (h:w.ownsRow base e size v n xs) (hg:w.grownBy w' (Xa g)) (hlt:g<base):w'.ownsRow base e size v n xs:=by
 refine⟨h.1,?_⟩
 rcases h.2 with h1|⟨b,cap,cur,rfl,h2,h3,h4⟩
 ·exact .inl h1
 exact .inr ⟨b,cap,cur,rfl,h2,by rw[hg.block b (aS.1 h3).1 (fun e=>by cases e;omega)];exact h3,h4⟩
theorem zb.low {α:Type} {E:Elt α} {base g:Nat} {w:Xo} {v:Xr} {l:List α} (h:zb E base w v l) (hg:w.grownBy w' (Xa g)) (hlt:g<base):zb E base w' v l:=⟨ZI h.1 hg hlt,h.2⟩
theorem QO.low {lo g:Nat} {w:Xo} {x:SpV} {s:Sp} (h:QO lo hi w x s) (hg:w.grownBy w' (Xa g)) (hlt:g<lo):QO lo hi w' x s:=
 ⟨h.live,h.ar.low hg hlt,⟨h.tb.len,h.tb.tlen,fun i v y hv hy=>(h.tb.row i v y hv hy).low hg hlt,h.tb.two⟩,h.arh,h.tbh⟩
theorem zmA.below {base g:Nat} {w:Xo} (h:zmA base w V m) (hg:w.grownBy w' (Xa g)) (hlt:g<base) (hb:base'<=base):zmA base' w' V m:=by
 obtain⟨lo,⟨ys,f1,f2,f3,f4⟩,l1,l2⟩:=h.fl;obtain⟨xs,B,s1,s2,s3,s4,s5⟩:=h.sp;refine⟨(h.fs.low hg hlt).base hb,(h.sl.low hg hlt).base hb,⟨qQ (ZI h.sb.1 hg hlt) hb,h.sb.2⟩,⟨qQ (ZI h.sq.1 hg hlt) hb,h.sq.2⟩,⟨qQ (ZI h.db.1 hg hlt) hb,h.db.2⟩,⟨qQ (ZI h.dq.1 hg hlt) hb,h.dq.2⟩,⟨lo,⟨ys,f1.low hg (by omega),f2,fun i x f hx hf=>⟨(f3 i x f hx hf).1,(f3 i x f hx hf).2.low hg (by omega)⟩,f4⟩,by omega,l2⟩,(h.ca.low hg hlt).base hb,⟨xs,B,(s1.low hg hlt).base hb,s2,by omega,s4,fun i x s hx hs=>(s5 i x s hx hs).low hg ?_⟩,h.ap⟩
 have:=zdW s4 (nZ i);omega
theorem zlv (V:MaV) (m:Ma) (w:Xo) (hm:zN w V m):
  Xq prog 21 #[Xi (mL V m).toArray] w fun e w'=>∃V':MaV,e= Xl (Xi (mL V' m).toArray)/\zmA w.heap.size w' V' m/\zc w w':=by
 obtain⟨n1,n2,-⟩:=hm.ns;have HM:Xp (zN w V m):=hm;have HC1:Xp (∀W,zc w W->Xq prog 58 #[Xi #[V.f.x,I6 m.hand]] W fun e w'=>∃b,e= Xl (Xi #[b,I6 m.hand])/\zb Qj W.heap.size w' b m.fs/\zc W w'):=show∀W,_ from fun W hW=>by
  have h:=(hm.grew hW).fs;(try simp only[Sli.x]at h⊢);rw[n1]at h⊢;exact Jy _ _ m.fs m.hand W h
 have HC2:Xp (∀W,zc w W->Xq prog 59 #[V.s.x] W fun e w'=>∃v',e= Xl v'/\zb slE W.heap.size w' v' m.sl/\zc W w'):=dD<|fun W hW=>zdu _ m.sl W (hm.grew hW).sl
 have HC3:Xp (∀W,zc w W->Xq prog 60 #[Xi #[V.sb.x,V.sq.x]] W fun e w'=>∃d',e= Xl d'/\QP W.heap.size w' d' m.sb m.sq/\zc W w'):=dD<|fun W hW=>zb5 _ m.sb m.sq W ⟨_,_,rfl,(hm.grew hW).sb,(hm.grew hW).sq⟩
 have HC4:Xp (∀W,zc w W->Xq prog 60 #[Xi #[V.db.x,V.dq.x]] W fun e w'=>∃d',e= Xl d'/\QP W.heap.size w' d' m.db m.dq/\zc W w'):=dD<|fun W hW=>zb5 _ m.db m.dq W ⟨_,_,rfl,(hm.grew hW).db,(hm.grew hW).dq⟩
 have HC5:Xp (∀W,zc w W->Xq prog 61 #[Xi #[V.fl.x,I6 m.cnt]] W fun e w'=>∃b,e= Xl (Xi #[b,I6 m.cnt])/\qU (W.heap.size+2) w' b m.fl/\zc W w'/\W.heap.size+2<=w'.heap.size):=dD<|fun W hW=>zb6 _ m.fl m.cnt W (hm.grew hW).fl
 have HC6:Xp (∀W,zc w W->Xq prog 62 #[V.ca.x] W fun e w'=>∃v',e= Xl v'/\zb qJ W.heap.size w' v' m.ca/\zc W w'):=dD<|fun W hW=>zgP _ m.ca W (hm.grew hW).ca
 have HC7:Xp (∀W,zc w W->Xq prog 63 #[V.sp.x] W fun e w'=>∃v',e= Xl v'/\Qb W.heap.size w' v' m.sp/\zc W w'):=dD<|fun W hW=>zdR _ m.sp W (hm.grew hW).sp
 clear hm n1 n2;obtain⟨W0,hW0⟩:=kB ((w.alloc (Xk (mL V m).toArray 41)).alloc (Xk zM.toArray 41));have HG0:=gD2 hW0
 have X0:=x2a hW0
 have Y0:=x2b hW0
 have HS0:Xp (W0.heap.size=(w.heap.size+1+1)):=dD<|by rw[<-hW0];simp
 have HW0:Xp (_=W0):=hW0;clear hW0
 go_enter func21,ntmps21
 go_upto_region 1 with fail;rw[HW0.out];obtain⟨I,hI⟩:∃I:Xo->Prop,I=fun u=>zc W0 u:=⟨_,rfl⟩
 have HI:Xp (∀u,I u↔zc W0 u):=dD<|fun u=>by rw[hI]
 clear hI;have hI0:I W0.drew:=(HI _).2 (gW _)
 have hx0:=X0.h HI 0 rfl
 have hx1:=X0.h HI 1 rfl
 have hx2:=X0.h HI 2 rfl
 have hx3:=X0.h HI 3 rfl
 have hx4:=X0.h HI 4 rfl
 have hx5:=X0.h HI 5 rfl
 have hx6:=X0.h HI 6 rfl
 have hx7:=X0.h HI 7 rfl
 have hx8:=X0.h HI 8 rfl
 have hx9:=X0.h HI 9 rfl
 have hx10:=X0.h HI 10 rfl
 have hne:Nonempty (zj I):=⟨⟨_,hI0⟩⟩;have HSZ:Xp (∀u,I u->(w.heap.size+1+1)<=u.heap.size):=dD<|fun u hu=>by rw[<-HS0.out];exact bS ((HI _).1 hu)
 refine ZV (I:=I) 22 [(2,fun v=>∃s:Sli,v= Xi #[s.x,I6 m.hand]),(5,fun v=>∃s:Sli,v=s.x),(8,fun v=>∃b q:Sli,v= Xi #[b.x,q.x]),(11,fun v=>∃b q:Sli,v= Xi #[b.x,q.x]),(14,fun v=>∃s:Sli,v= Xi #[s.x,I6 m.cnt]),(17,fun v=>∃s:Sli,v=s.x),(20,fun v=>∃s:Sli,v=s.x)] hI0 zW (by kernel_rfl) rfl rfl (by decide) ?hS (by kernel_rfl) ?_
 case hS=>
  intro x hx;simp only[mC,nM,or_false]at hx
  rcases hx with rfl|rfl|rfl|rfl|rfl|rfl|rfl
  ·exact⟨_,zy,rfl⟩
  ·exact⟨_,zy,rfl⟩
  ·exact⟨_,zy,zy,rfl⟩
  ·exact⟨_,zy,zy,rfl⟩
  ·exact⟨_,zy,rfl⟩
  ·exact⟨_,zy,rfl⟩
  exact⟨_,zy,rfl⟩
 simp only[Yw,Yx];iterate 2 (refine qG rfl rfl rfl (fun K hK=>?_);go_big_quiet_op;refine hK _ ?_;clear hK)
 refine ZK rfl rfl (fun v w'=>∃s:Sli,v= Xi #[s.x,I6 m.hand]/\zb Qj (w.heap.size+1+1) w' (s.x) m.fs) (fun v u u' hu h=>by obtain⟨s,h1,h2⟩:=h;exact⟨s,h1,h2.grew hu⟩) (fun w' hI' hF=>?_) (fun v1 hv=>?_)
 ·have hg':zc w w':=HG0.trans ((HI _).1 hI');have hsz:=HSZ.out w' hI';refine zQ.call [Xi #[V.f.x,I6 m.hand]] rfl func58 rfl rfl rfl ?_;refine(HC1 w' hg').mono ?_;rintro e w'' ⟨b,rfl,ow,hg2⟩;obtain⟨a2,c2,rfl⟩:=ow.form;exact⟨_,rfl,(HI _).2 (((HI _).1 hI').trans hg2),hg2,⟨⟨a2,_,c2⟩,rfl⟩,⟨a2,_,c2⟩,rfl,ow.base hsz⟩
 obtain⟨sf,rfl⟩:=hv;simp only[Yd,sB,sS,sZ];iterate 2 (refine qG rfl rfl rfl (fun K hK=>?_);go_big_quiet_op;refine hK _ ?_;clear hK)
 refine ZK rfl rfl (fun v w'=>zb slE (w.heap.size+1+1) w' v m.sl) (fun v u u' hu h=>zb.grew h hu) (fun w' hI' hF=>?_) (fun v1 hv=>?_)
 ·have hg':zc w w':=HG0.trans ((HI _).1 hI');have hsz:=HSZ.out w' hI';refine zQ.call [V.s.x] rfl func59 rfl rfl rfl ?_;refine(HC2 w' hg').mono ?_;rintro e w'' ⟨b,rfl,ow,hg2⟩;obtain⟨a2,c2,rfl⟩:=ow.form;exact⟨_,rfl,(HI _).2 (((HI _).1 hI').trans hg2),hg2,⟨⟨a2,_,c2⟩,rfl⟩,ow.base hsz⟩
 obtain⟨ss,rfl⟩:=hv;simp only[Yd,sB,sS,sZ];iterate 2 (refine qG rfl rfl rfl (fun K hK=>?_);go_big_quiet_op;refine hK _ ?_;clear hK)
 refine ZK rfl rfl (fun v w'=>∃b q:Sli,v= Xi #[b.x,q.x]/\zi (w.heap.size+1+1) w' (b.x) m.sb/\zp (w.heap.size+1+1) w' (q.x) m.sq) (fun v u u' hu h=>by obtain⟨b,q,h1,h2,h3⟩:=h;exact⟨b,q,h1,h2.grew hu,h3.grew hu⟩) (fun w' hI' hF=>?_) (fun v1 hv=>?_)
 ·have hg':zc w w':=HG0.trans ((HI _).1 hI');have hsz:=HSZ.out w' hI';refine zQ.call [Xi #[V.sb.x,V.sq.x]] rfl func60 rfl rfl rfl ?_;refine(HC3 w' hg').mono ?_;rintro e w'' ⟨d,rfl,⟨b,q,rfl,ob,oq⟩,hg2⟩;obtain⟨a2,n2,c2,rfl⟩:=ob.slice;obtain⟨a3,n3,c3,rfl⟩:=oq.slice;exact⟨_,rfl,(HI _).2 (((HI _).1 hI').trans hg2),hg2,⟨⟨a2,n2,c2⟩,⟨a3,n3,c3⟩,rfl⟩,⟨a2,n2,c2⟩,⟨a3,n3,c3⟩,rfl,ob.base hsz,oq.base hsz⟩
 obtain⟨sb,sq,rfl⟩:=hv;simp only[Yd,sB,sS,sZ];iterate 2 (refine qG rfl rfl rfl (fun K hK=>?_);go_big_quiet_op;refine hK _ ?_;clear hK)
 refine ZK rfl rfl (fun v w'=>∃b q:Sli,v= Xi #[b.x,q.x]/\zi (w.heap.size+1+1) w' (b.x) m.db/\zp (w.heap.size+1+1) w' (q.x) m.dq/\∀g,(sb.x).ownBlock=Xa g->(b.x).ownBlock≠Xa g) (fun v u u' hu h=>by obtain⟨b,q,h1,h2,h3,h4⟩:=h;exact⟨b,q,h1,h2.grew hu,h3.grew hu,h4⟩) (fun w' hI' hF=>?_) (fun v1 hv=>?_)
 ·have hg':zc w w':=HG0.trans ((HI _).1 hI');have hsz:=HSZ.out w' hI';refine zQ.call [Xi #[V.db.x,V.dq.x]] rfl func60 rfl rfl rfl ?_;refine(HC4 w' hg').mono ?_;rintro e w'' ⟨d,rfl,⟨b,q,rfl,ob,oq⟩,hg2⟩;obtain⟨a2,n2,c2,rfl⟩:=ob.slice;obtain⟨a3,n3,c3,rfl⟩:=oq.slice;obtain⟨b8,q8,e8,o8,_⟩:∃b q:Sli,(Value.agg #[sb.x,sq.x])= Xi #[b.x,q.x]/\zi (w.heap.size+1+1) w' (b.x) m.sb/\zp (w.heap.size+1+1) w' (q.x) m.sq:=hF 8 (by kernel_rfl)
  refine⟨_,rfl,(HI _).2 (((HI _).1 hI').trans hg2),hg2,⟨⟨a2,n2,c2⟩,⟨a3,n3,c3⟩,rfl⟩,⟨a2,n2,c2⟩,⟨a3,n3,c3⟩,rfl,ob.base hsz,oq.base hsz,fun g h1 h2=>?_⟩
  simp only[Value.agg.injEq,Array.mk.injEq,List.cons.injEq]at e8;rw[e8.1]at h1;have q1:=(zhj o8 g h1).2;have q2:=(zhj ob g h2).1;omega
 obtain⟨db,dq,rfl⟩:=hv;simp only[Yd,sB,sS,sZ];iterate 2 (refine qG rfl rfl rfl (fun K hK=>?_);go_big_quiet_op;refine hK _ ?_;clear hK)
 refine ZK rfl rfl (fun v w'=>∃s:Sli,v= Xi #[s.x,I6 m.cnt]/\∃lo,qU lo w' (s.x) m.fl/\(w.heap.size+1+1)<=lo/\∀g,(ss.x).ownBlock=Xa g->g<lo) (fun v u u' hu h=>by obtain⟨s,h1,lo,h2,h3,h4⟩:=h;exact⟨s,h1,lo,h2.grew hu,h3,h4⟩) (fun w' hI' hF=>?_) (fun v1 hv=>?_)
 ·have hg':zc w w':=HG0.trans ((HI _).1 hI');have hsz:=HSZ.out w' hI';refine zQ.call [Xi #[V.fl.x,I6 m.cnt]] rfl func61 rfl rfl rfl ?_;refine(HC5 w' hg').mono ?_;rintro e w'' ⟨b,rfl,of,hg2,_⟩;have hof:=of;obtain⟨ys,oy,_⟩:=of;obtain⟨a2,c2,rfl⟩:=oy.form;have o5:zb slE (w.heap.size+1+1) w' (ss.x) m.sl:=hF 5 (by kernel_rfl)
  exact⟨_,rfl,(HI _).2 (((HI _).1 hI').trans hg2),hg2,⟨⟨a2,_,c2⟩,rfl⟩,⟨a2,_,c2⟩,rfl,w'.heap.size+2,hof,by omega,fun g h1=>by have:=(o5.lt g h1).2;omega⟩
 obtain⟨sl,rfl⟩:=hv;simp only[Yd,sB,sS,sZ];iterate 2 (refine qG rfl rfl rfl (fun K hK=>?_);go_big_quiet_op;refine hK _ ?_;clear hK)
 refine ZK rfl rfl (fun v w'=>zb qJ (w.heap.size+1+1) w' v m.ca) (fun v u u' hu h=>zb.grew h hu) (fun w' hI' hF=>?_) (fun v1 hv=>?_)
 ·have hg':zc w w':=HG0.trans ((HI _).1 hI');have hsz:=HSZ.out w' hI';refine zQ.call [V.ca.x] rfl func62 rfl rfl rfl ?_;refine(HC6 w' hg').mono ?_;rintro e w'' ⟨b,rfl,ow,hg2⟩;obtain⟨a2,c2,rfl⟩:=ow.form;exact⟨_,rfl,(HI _).2 (((HI _).1 hI').trans hg2),hg2,⟨⟨a2,_,c2⟩,rfl⟩,ow.base hsz⟩
 obtain⟨sc,rfl⟩:=hv;simp only[Yd,sB,sS,sZ];iterate 2 (refine qG rfl rfl rfl (fun K hK=>?_);go_big_quiet_op;refine hK _ ?_;clear hK)
 refine ZK rfl rfl (fun v w'=>Qb (w.heap.size+1+1) w' v m.sp) (fun v u u' hu h=>Qb.grew h hu) (fun w' hI' hF=>?_) (fun v1 hv=>?_)
 ·have hg':zc w w':=HG0.trans ((HI _).1 hI');have hsz:=HSZ.out w' hI';refine zQ.call [V.sp.x] rfl func63 rfl rfl rfl ?_;refine(HC7 w' hg').mono ?_;rintro e w'' ⟨b,rfl,os,hg2⟩;have hos:=os;obtain⟨ys,B,oy,_⟩:=os;obtain⟨a2,c2,rfl⟩:=oy.form;exact⟨_,rfl,(HI _).2 (((HI _).1 hI').trans hg2),hg2,⟨⟨a2,_,c2⟩,rfl⟩,hos.base hsz⟩
 obtain⟨sp,rfl⟩:=hv;simp only[Yd,sB,sS,sZ];iterate 1 (refine qG rfl rfl rfl (fun K hK=>?_);go_big_quiet_op;refine hK _ ?_;clear hK)
 refine zbE fun W3 hI3 hF=>?_
 have hg3:=(HI _).1 hI3;have F2:∃s:Sli,(Value.agg #[sf.x,I6 m.hand])= Xi #[s.x,I6 m.hand]/\zb Qj (w.heap.size+1+1) W3 (s.x) m.fs:=hF 2;have F5:zb slE (w.heap.size+1+1) W3 (ss.x) m.sl:=hF 5;have F8:∃b q:Sli,(Value.agg #[sb.x,sq.x])= Xi #[b.x,q.x]/\zi (w.heap.size+1+1) W3 (b.x) m.sb/\zp (w.heap.size+1+1) W3 (q.x) m.sq:=hF 8;have F11:∃b q:Sli,(Value.agg #[db.x,dq.x])= Xi #[b.x,q.x]/\zi (w.heap.size+1+1) W3 (b.x) m.db/\zp (w.heap.size+1+1) W3 (q.x) m.dq/\∀g,(sb.x).ownBlock=Xa g->(b.x).ownBlock≠Xa g:=hF 11;have F14:∃s:Sli,(Value.agg #[sl.x,I6 m.cnt])= Xi #[s.x,I6 m.cnt]/\∃lo,qU lo W3 (s.x) m.fl/\(w.heap.size+1+1)<=lo/\∀g,(ss.x).ownBlock=Xa g->g<lo:=hF 14;have F17:zb qJ (w.heap.size+1+1) W3 (sc.x) m.ca:=hF 17;have F20:Qb (w.heap.size+1+1) W3 (sp.x) m.sp:=hF 20;have HOM:Xp (zmA (w.heap.size+1+1) W3 ⟨sf,ss,sb,sq,db,dq,sl,sc,sp⟩ m):=dD<|by
  obtain⟨s2,e2,o2⟩:=F2;obtain⟨b8,q8,e8,o8,p8⟩:=F8;obtain⟨b11,q11,e11,o11,p11,a11⟩:=F11;obtain⟨s14,e14,lo,o14,l14,a14⟩:=F14;simp only[Value.agg.injEq,Array.mk.injEq,List.cons.injEq]at e2 e8 e11 e14;rw[<-e2.1]at o2;rw[<-e8.1]at o8;rw[<-e8.2.1]at p8;rw[<-e11.1]at o11 a11;rw[<-e11.2.1]at p11;rw[<-e14.1]at o14;exact⟨o2,F5,o8,p8,o11,p11,⟨lo,o14,l14,a14⟩,F17,F20,a11⟩
 have Y3:=dD (Y0.grew hg3);have HG3:=dD (HG0.trans hg3);clear hF hI3 hg3 hx0 hx1 hx2 hx3 hx4 hx5 hx6 hx7 hx8 hx9 hx10 hne hI0
 go_wp2_with (refine zK rfl 41 (.tmp 2) (.tmp 24) rfl (w.heap.size+1) rfl [sf.x,I6 m.hand,ss.x,sb.x,sq.x,db.x,dq.x,sl.x,I6 m.cnt,sc.x,sp.x] rfl Y3 rfl (by kernel_rfl) (fun v hv=>by
    simp only[mC,nM,or_false]at hv
    rcases hv with rfl|rfl|rfl|rfl|rfl|rfl|rfl|rfl|rfl|rfl|rfl <;> rfl) ?_)
 intro W4 hb4 hg4 sz4;have HG4:Xp (zc w W4):=dD<|ze HG3 hg4 (by omega)
 have HO4:Xp (zmA w.heap.size W4 ⟨sf,ss,sb,sq,db,dq,sl,sc,sp⟩ m):=dD<|HOM.below hg4 (by omega) (by omega)
 go_wp2;refine bodyPost_ret (zZ rfl _ rfl hb4 underlying41 rfl (by kernel_rfl)) rfl ⟨⟨sf,ss,sb,sq,db,dq,sl,sc,sp⟩,rfl,HO4,HG4⟩
theorem zoE:(Tryz.prog.info? 56).map (·.size)=Xa 192:=by kernel_rfl
def jp (l:List En):List Xr:=l.flatMap env
theorem za5 (l:List En):(jp l).length=l.length*3:=qI l (fun _ _=>rfl)
theorem ziV (l:List En):∀v∈jp l,v.oneCell'=Xc:=qT enE.one l
theorem zfM {l:List En} {e:En} (h:l[j]? =Xa e):(jp l)[j*3]? =Xa (I6 e.kind)/\(jp l)[j*3+1]? =Xa (I6 e.n)/\(jp l)[j*3+2]? =Xa (Xh e.wr):=
 ⟨qE (enc:=env) (k:=3) l j e (fun _ _=>rfl) h 0 _ rfl,qE (enc:=env) (k:=3) l j e (fun _ _=>rfl) h 1 _ rfl,qE (enc:=env) (k:=3) l j e (fun _ _=>rfl) h 2 _ rfl⟩
theorem zh1 {w:Xo} {l:List En} (i:Nat) (hi:i<64) {e:En} (he:l[i]? =Xa e):(Instr.index 56 (Xi (jp l).toArray) (I6 (i:Int))).run prog w= .ok (Xi #[I6 e.kind,I6 e.n,Xh e.wr]) w:=by
 have ha:(isAgg 55).run prog w= .ok Xc w:=by
  unfold isAgg;rw[Xt,run_underlying underlying55 w];rfl
 have hs:(Go.sizeOf 55).run prog w= .ok 3 w:=by
  obtain⟨i0,h1,h2⟩:∃i0,Tryz.prog.info? 55=Xa i0/\i0.size=3:=by
   have:(Tryz.prog.info? 55).map (·.size)=Xa 3:=by kernel_rfl
   cases hq:Tryz.prog.info? 55 with
   | none=>rw[hq]at this;cases this
   | some i0=>rw[hq]at this;exact⟨i0,rfl,by simpa using this⟩
  simp[Go.sizeOf,typeInfo,h1,h2]
 have hlt:(0:Int)<=(i:Int)/\(i:Int)< ((64:Nat):Int):=by omega
 obtain⟨c0,c1,c2⟩:=zfM he;have hx:(jp l).toArray.extract (i*3) (i*3+3)=#[I6 e.kind,I6 e.n,Xh e.wr]:=by
  apply Array.ext_getElem?
  intro j;rw[Array.getElem?_extract];have hlen:i*3+3<=(jp l).toArray.size:=by
   have:=(gS.1 c2).1;simp;omega
  by_cases hj:j<3
  ·rw[kE (by omega)]
   obtain rfl|rfl|rfl:j=0\/j=1\/j=2:=by omega
   ·simpa using c0
   ·simpa using c1
   simpa using c2
  rw[kF (by omega)]
  simp;omega
 simp only[Instr.index,asIntOf,Xt,Xu,rA,run_underlying underlying56];rw[kE hlt];simp only[Xt,hs,rA,part,ha,if_true,tN,Xu,hx]
theorem zjn {rest:List Oper} {a:Act} {w:Xo} (hgd:o.guard=Xb) (x ix:Operand) (ho:o.op= .index 56 x ix) (l:List En) (hx:a.eval x= Xi (jp l).toArray) (i:Nat) (hix:a.eval ix=I6 (i:Int)) (hi:i<64) {e:En} (he:l[i]? =Xa e)
  (h:wpList prog ops Q rest (a.put o.dst (Xi #[I6 e.kind,I6 e.n,Xh e.wr])) w):wpList prog ops Q (o :: rest) a w:=by
 refine wpList_plain hgd fun K hK=>?_
 unfold Oper.wp execOp;simp only[ho,hx,hix,Xt,Xu,rA,zh1 i hi he];exact hK _ _ h
def qy:List Xr:=zM
theorem zoF:(Tryz.prog.info? 5).map (fun i=>(i.zero,i.size,i.bytes))=Xa (Xa (U8 0),1,1):=by kernel_rfl
def byE:Elt Int where
 enc:=fun z=>[U8 z]
 k:=1
 ty:=5
 st:=24
 bytes:=1
 zv:=U8 0
 zero:=0
 len:=fun _=>rfl
 one:=fun a u hu=>by
  simp only[mC,nM,or_false]at hu;rw[hu];rfl
 und:=underlying24
 info:=zoF
 zok:=rfl
 few:=by decide
 pos:=by decide
theorem zoG:(Tryz.prog.info? 56).map (fun i=>(i.zero,i.size,i.bytes))=Xa (Xa (Xi (jp (tab fun _=>en0)).toArray),192,1536):=by kernel_rfl
def Qw:Elt (Nat->En) where
 enc:=fun f=>jp (tab f)
 k:=192
 ty:=56
 st:=93
 bytes:=1536
 zv:= Xi (jp (tab fun _=>en0)).toArray
 zero:=fun _=>en0
 len:=fun f=>by rw[za5,Qd]
 one:=fun f=>ziV _
 und:=underlying93
 info:=zoG
 zok:=rfl
 few:=by decide
 pos:=by decide
def zcO (fs:List Fr):Prop:=∀f∈fs,f.f=-1->f.d=Xd
def zn3 (m:Ma) (f:Fr):Prop:=(f.f=-1->f.d=Xd)/\(f.r≠0->f.f≠-1->Qr (pgL f.p) f.x (zcR m f.f)=pgL f.p/\(f.d=Xd->Jn m f.f f.x=pgL f.p))
def zcN (m:Ma):Prop:=∀f∈m.fs,zn3 m f
theorem zcN.clean (h:zcN m):zcO m.fs:=fun f hf=>(h f hf).1
theorem zcN.set (h:zcN m) {x:Fr} (hx:zn3 m x) (k:Nat):zcN { m with fs:=m.fs.set k x }:=fun f hf=>by
 rcases Yc hf with e|e
 ·exact h f e
 rw[e];exact hx
theorem zcN.free (hc:zcO m.fs) (hr:∀f∈m.fs,f.r=0):zcN m:=fun f hf=>⟨hc f hf,fun e=>absurd (hr f hf) e⟩
theorem zcN.bare (h:zcN m) (hr:∀f∈m.fs,f.r=0) (hf:m'.fs=m.fs):zcN m':=zcN.free (by rw[hf];exact h.clean) (by rw[hf];exact hr)
theorem zcN.inc (h:zcN m) (hb:qV m T) {k:Nat} {fr:Fr} (hk:m.fs[k]? =Xa fr):zcN { m with fs:=m.fs.set k { fr with r:=fr.r+1 } }:=
 h.set (x:={ fr with r:=fr.r+1 }) ⟨(h fr (mG hk)).1,fun _ hf=>(h fr (mG hk)).2 (fun e=>hf (by rw[(hb.fok fr (mG hk)).2.2.2.1 e];rfl)) hf⟩ k
structure MkR (base hi:Nat) (w:Xo) (V:MaV) (m:Ma) (vt:Sli) (T:List (Nat->En)):Prop where
 hw:hi<=w.heap.size
 bh:base<=hi
 fs:zb Qj base w (V.f.x) m.fs
 sl:zb slE base w (V.s.x) m.sl
 slh:∀g,(V.s.x).ownBlock=Xa g->g<hi
 sb:zi base w (V.sb.x) m.sb
 sbh:∀g,(V.sb.x).ownBlock=Xa g->g<hi
 sq:V.sq=zy/\m.sq=[]
 db:zi base w (V.db.x) m.db
 dbh:∀g,(V.db.x).ownBlock=Xa g->g<hi
 dq:zp base w (V.dq.x) m.dq
 fl:∃xs:List FlV,zb fvE base w (V.fl.x) xs/\xs.length=m.fl.length/\∀(i:Nat) x f,xs[i]? =Xa x->m.fl[i]? =Xa f->x.size=f.size/\zb blE hi w x.v f.bl
 ca:zb qJ base w (V.ca.x) m.ca
 sp:∃xs:List SpV,zb Zh base w (V.sp.x) xs/\xs.length=m.sp.length/\∀(i:Nat) x s,xs[i]? =Xa x->m.sp[i]? =Xa s->x.live=s.live/\zb arE base w x.ar.v s.ars/\x.tab=Qf/\s.tb=qL
 tt:zb Qw base w (vt.x) T
 ap:(∀g,(V.sb.x).ownBlock=Xa g->(V.db.x).ownBlock≠Xa g)/\zcN m
section
variable{base hi:Nat} {w w':Xo} {V:MaV} {m:Ma} {vt:Sli} {T:List (Nat->En)}
theorem MkR.grew (h:MkR base hi w V m vt T) (k:zc w w'):MkR base hi w' V m vt T:=by
 obtain⟨xs,f1,f2,f3⟩:=h.fl;obtain⟨ys,s1,s2,s3⟩:=h.sp;exact⟨nT h.hw (bS k),h.bh,h.fs.grew k,h.sl.grew k,h.slh,h.sb.grew k,h.sbh,h.sq,h.db.grew k,h.dbh,h.dq.grew k,⟨xs,f1.grew k,f2,fun i x f hx hf=>⟨(f3 i x f hx hf).1,(f3 i x f hx hf).2.grew k⟩⟩,h.ca.grew k,⟨ys,s1.grew k,s2,fun i x s hx hs=>⟨(s3 i x s hx hs).1,(s3 i x s hx hs).2.1.grew k,(s3 i x s hx hs).2.2⟩⟩,h.tt.grew k,h.ap⟩
theorem zb.kind {α:Type} {E:Elt α} {g:Nat} {v:Xr} {l:List α} {cs:Array Xr} (h:zb E b w v l) (hg:w.grownBy w' (Xa g)) (ho:w.heap[g]? =Xa (Xk cs t (0,0))) (ht:t≠E.ty):zb E b w' v l:=h.grown hg fun k hk e=>by
 cases e;obtain⟨ds,h3⟩:=h.obj hk;rw[ho]at h3;cases h3;exact ht rfl
theorem Ql {size n g:Nat} {e:TypeId} {v:Xr} (h:w.ownsRow b e size v n xs) (hg:w.grownBy w' (Xa g)) (hne:v.ownBlock≠Xa g):w'.ownsRow b e size v n xs:=by
 refine⟨h.1,?_⟩
 rcases h.2 with h1|⟨k,cap,cur,rfl,h2,h3,h4⟩
 ·exact .inl h1
 exact .inr ⟨k,cap,cur,rfl,h2,by rw[hg.block k (aS.1 h3).1 (fun e=>by cases e;exact hne rfl)];exact h3,h4⟩
theorem qB {size n g:Nat} {e:TypeId} {cs:Array Xr} {v:Xr} (h:w.ownsRow b e size v n xs) (hg:w.grownBy w' (Xa g)) (ho:w.heap[g]? =Xa (Xk cs t (0,0))) (ht:t≠e):w'.ownsRow b e size v n xs:=by
 refine Ql h hg fun hv=>?_
 rcases h.2 with⟨rfl,_⟩|⟨k,cap,cur,rfl,h2,h3,h4⟩
 ·cases hv
 simp only[Value.ownBlock,Option.some.injEq]at hv;subst hv;rw[ho]at h3;cases h3;exact ht rfl
theorem MkR.kept (h:MkR base hi w V m vt T) {g:Nat} {cs:Array Xr} (hg:w.grownBy w' (Xa g)) (ho:w.heap[g]? =Xa (Xk cs t (0,0))):
  (t≠53->zb Qj base w' (V.f.x) m.fs)/\(t≠3\/hi<=g->zb slE base w' (V.s.x) m.sl)/\
  (t≠44\/hi<=g\/(V.sb.x).ownBlock≠Xa g->zi base w' (V.sb.x) m.sb)/\(t≠44\/hi<=g\/(V.db.x).ownBlock≠Xa g->zi base w' (V.db.x) m.db)/\
  (t≠100->zp base w' (V.dq.x) m.dq)/\
  (t≠84->(t≠3\/g<hi)->∃xs:List FlV,zb fvE base w' (V.fl.x) xs/\xs.length=m.fl.length/\∀(i:Nat) x f,xs[i]? =Xa x->m.fl[i]? =Xa f->x.size=f.size/\zb blE hi w' x.v f.bl)/\
  (t≠120->zb qJ base w' (V.ca.x) m.ca)/\
  (t≠63->t≠91->∃xs:List SpV,zb Zh base w' (V.sp.x) xs/\xs.length=m.sp.length/\∀(i:Nat) x s,xs[i]? =Xa x->m.sp[i]? =Xa s->x.live=s.live/\zb arE base w' x.ar.v s.ars/\x.tab=Qf/\s.tb=qL)/\
  (t≠56->zb Qw base w' (vt.x) T):=by
 obtain⟨xs,f1,f2,f3⟩:=h.fl;obtain⟨ys,s1,s2,s3⟩:=h.sp;refine⟨fun ht=>h.fs.kind hg ho ht,fun ht=>?_,fun ht=>?_,fun ht=>?_,fun ht=>⟨qB h.dq.1 hg ho ht,h.dq.2⟩,fun ht ht2=>⟨xs,f1.kind hg ho ht,f2,fun i x f hx hf=>⟨(f3 i x f hx hf).1,?_⟩⟩,fun ht=>h.ca.kind hg ho ht,fun ht ht2=>⟨ys,s1.kind hg ho ht,s2,fun i x s hx hs=>⟨(s3 i x s hx hs).1,(s3 i x s hx hs).2.1.kind hg ho ht2,(s3 i x s hx hs).2.2⟩⟩,fun ht=>h.tt.kind hg ho ht⟩
 ·rcases ht with ht|ht
  ·exact h.sl.kind hg ho ht
  exact h.sl.grown hg fun k hk e=>by cases e;have:=h.slh _ hk;omega
 ·rcases ht with ht|ht|ht
  ·exact⟨qB h.sb.1 hg ho ht,h.sb.2⟩
  ·exact⟨Ql h.sb.1 hg fun e=>by have:=h.sbh _ e;omega,h.sb.2⟩
  exact⟨Ql h.sb.1 hg ht,h.sb.2⟩
 ·rcases ht with ht|ht|ht
  ·exact⟨qB h.db.1 hg ho ht,h.db.2⟩
  ·exact⟨Ql h.db.1 hg fun e=>by have:=h.dbh _ e;omega,h.db.2⟩
  exact⟨Ql h.db.1 hg ht,h.db.2⟩
 rcases ht2 with ht2|ht2
 ·exact(f3 i x f hx hf).2.kind hg ho ht2
 exact(f3 i x f hx hf).2.grown hg fun k hk e=>by cases e;have:=((f3 i x f hx hf).2.lt _ hk).1;omega
theorem MkR.var (h:MkR base hi w V m vt T) {g:Nat} {cs:Array Xr} (hg:w.grownBy w' (Xa g)) (ho:w.heap[g]? =Xa (Xk cs t (0,0))) (hs:w.heap.size<=w'.heap.size) (h1:t=95\/(t=44/\hi<=g)):MkR base hi w' V m vt T:=by
 obtain⟨k1,k2,k3,k4,k5,k6,k7,k8,k9⟩:=h.kept hg ho
 rcases h1 with rfl|⟨rfl,h1⟩
 ·exact⟨nT h.hw hs,h.bh,k1 (by decide),k2 (.inl (by decide)),h.slh,k3 (.inl (by decide)),h.sbh,h.sq,k4 (.inl (by decide)),h.dbh,k5 (by decide),k6 (by decide) (.inl (by decide)),k7 (by decide),k8 (by decide) (by decide),k9 (by decide),h.ap⟩
 exact⟨nT h.hw hs,h.bh,k1 (by decide),k2 (.inl (by decide)),h.slh,k3 (.inr (.inl h1)),h.sbh,h.sq,k4 (.inr (.inl h1)),h.dbh,k5 (by decide),k6 (by decide) (.inl (by decide)),k7 (by decide),k8 (by decide) (by decide),k9 (by decide),h.ap⟩
theorem MkR.setF (h:MkR base hi w V m vt T) {g:Nat} (hv:(V.f.x).ownBlock=Xa g) (hg:w.grownBy w' (Xa g)) (hs:w'.heap.size=w.heap.size) {fs:List Fr} (ho:zb Qj base w' (V.f.x) fs) (hcl:zcN { m with fs:=fs }):MkR base hi w' V { m with fs:=fs } vt T:=by
 obtain⟨cs,hc⟩:=h.fs.obj hv;obtain⟨k1,k2,k3,k4,k5,k6,k7,k8,k9⟩:=h.kept hg hc;exact⟨by rw[hs];exact h.hw,h.bh,ho,k2 (.inl (by decide)),h.slh,k3 (.inl (by decide)),h.sbh,h.sq,k4 (.inl (by decide)),h.dbh,k5 (by decide),k6 (by decide) (.inl (by decide)),k7 (by decide),k8 (by decide) (by decide),k9 (by decide),⟨h.ap.1,hcl⟩⟩
theorem MkR.setS (h:MkR base hi w V m vt T) {g:Nat} (hv:(V.s.x).ownBlock=Xa g) (hg:w.grownBy w' (Xa g)) (hs:w'.heap.size=w.heap.size) {ls:List Int} (ho:zb slE base w' (V.s.x) ls):MkR base hi w' V { m with sl:=ls } vt T:=by
 obtain⟨cs,hc⟩:=h.sl.obj hv;obtain⟨k1,k2,k3,k4,k5,k6,k7,k8,k9⟩:=h.kept hg hc;exact⟨by rw[hs];exact h.hw,h.bh,k1 (by decide),ho,h.slh,k3 (.inl (by decide)),h.sbh,h.sq,k4 (.inl (by decide)),h.dbh,k5 (by decide),k6 (by decide) (.inr (h.slh g hv)),k7 (by decide),k8 (by decide) (by decide),k9 (by decide),h.ap⟩
theorem MkR.setSb (h:MkR base hi w V m vt T) {g:Nat} {cs:Array Xr} (hc:w.heap[g]? =Xa (Xk cs 44 (0,0))) (hv:(V.sb.x).ownBlock=Xa g) (hg:w.grownBy w' (Xa g)) (hs:w'.heap.size=w.heap.size) {ls:List (List Int)} (ho:zi base w' (V.sb.x) ls):MkR base hi w' V { m with sb:=ls } vt T:=by
 obtain⟨k1,k2,k3,k4,k5,k6,k7,k8,k9⟩:=h.kept hg hc;exact⟨by rw[hs];exact h.hw,h.bh,k1 (by decide),k2 (.inl (by decide)),h.slh,ho,h.sbh,h.sq,k4 (.inr (.inr (h.ap.1 g hv))),h.dbh,k5 (by decide),k6 (by decide) (.inl (by decide)),k7 (by decide),k8 (by decide) (by decide),k9 (by decide),h.ap⟩
theorem MkR.setDb (h:MkR base hi w V m vt T) {g:Nat} {cs:Array Xr} (hc:w.heap[g]? =Xa (Xk cs 44 (0,0))) (hv:(V.db.x).ownBlock=Xa g) (hg:w.grownBy w' (Xa g)) (hs:w'.heap.size=w.heap.size) {ls:List (List Int)} (hno:∀f∈m.fs,f.r=0) (ho:zi base w' (V.db.x) ls):MkR base hi w' V { m with db:=ls } vt T:=by
 obtain⟨k1,k2,k3,k4,k5,k6,k7,k8,k9⟩:=h.kept hg hc;exact⟨by rw[hs];exact h.hw,h.bh,k1 (by decide),k2 (.inl (by decide)),h.slh,k3 (.inr (.inr (fun e=>h.ap.1 g e hv))),h.sbh,h.sq,ho,h.dbh,k5 (by decide),k6 (by decide) (.inl (by decide)),k7 (by decide),k8 (by decide) (by decide),k9 (by decide),⟨h.ap.1,h.ap.2.bare hno rfl⟩⟩
theorem MkR.setT (h:MkR base hi w V m vt T) {g:Nat} (hv:(vt.x).ownBlock=Xa g) (hg:w.grownBy w' (Xa g)) (hs:w'.heap.size=w.heap.size) {T':List (Nat->En)} (ho:zb Qw base w' (vt.x) T'):MkR base hi w' V m vt T':=by
 obtain⟨cs,hc⟩:=h.tt.obj hv;obtain⟨k1,k2,k3,k4,k5,k6,k7,k8,k9⟩:=h.kept hg hc;exact⟨by rw[hs];exact h.hw,h.bh,k1 (by decide),k2 (.inl (by decide)),h.slh,k3 (.inl (by decide)),h.sbh,h.sq,k4 (.inl (by decide)),h.dbh,k5 (by decide),k6 (by decide) (.inl (by decide)),k7 (by decide),k8 (by decide) (by decide),ho,h.ap⟩
end
structure Mk (w0:Xo) (hi:Nat) (w:Xo) (b:Nat) (vl:Sli) (L:List Int) (V:MaV) (m:Ma) (vt:Sli) (T:List (Nat->En)):Prop where
 gr:zc w0 w
 hb:w0.heap.size<=b
 box:zt w b 95 [vl.x,V.f.x,I6 m.hand,V.s.x,V.sb.x,V.sq.x,V.db.x,V.dq.x,V.fl.x,I6 m.cnt,V.ca.x,V.sp.x,vt.x]
 lr:zm byE w0 (vl.x) L
 lc:vl.n<=vl.c
 lb:∀z∈L,0<=z/\z<256
 rows:MkR w0.heap.size hi w V m vt T
theorem Mk.grew {w:Xo} (h:Mk w0 hi w b vl L V m vt T) (k:zc w w'):Mk w0 hi w' b vl L V m vt T:=⟨h.gr.trans k,h.hb,h.box.grew k,h.lr,h.lc,h.lb,h.rows.grew k⟩
theorem MkR.at {base:Nat} {w:Xo} (h:MkR base hi w V m vt T):zN w V m:=by
 obtain⟨xs,f1,f2,f3⟩:=h.fl;obtain⟨ys,s1,s2,s3⟩:=h.sp;obtain⟨q1,q2⟩:=h.sq;refine⟨h.fs.at,h.sl.at,h.sb.at,?_,h.db.at,h.dq.at,⟨f1.cap,xs,f1.at.s0,f2,fun i x f hx hf=>⟨(f3 i x f hx hf).1,(f3 i x f hx hf).2.at.s0⟩⟩,h.ca.at,⟨ys,s1.at,s2,fun i x s hx hs=>?_⟩⟩
 ·rw[q1,q2];exact⟨⟨Xb,0,rfl,fun _=>rfl,fun x hx=>by cases hx⟩,by simp,by simp⟩
 obtain⟨a1,a2,a3,a4⟩:=s3 i x s hx hs;exact⟨a1,a2.at,a2.cap,by rw[a3,a4];exact ZS.nil 0 0 w⟩
def frH (q:Fr) (n:Int):Fr:=if q.r+n=0 then frF else{ q with r:=q.r+n }
def zef (fs:List Fr) (h k n:Int):Int:=if ZR fs h=0 then(if inB k fs.length && !((fs.getD k.toNat fr0).r == 0)then(if -(fs.getD k.toNat fr0).r<=n/\n<=1000 -(fs.getD k.toNat fr0).r then 0 else 3)else 5)else ZR fs h
def zee (fs:List Fr) (h k n:Int):List Fr:=if zef fs h k n=0 then fs.set k.toNat (frH (fs.getD k.toNat fr0) n)else []
def znS (fs:List Fr) (h k n:Int):Int:=if zef fs h k n=0 then h else 0
theorem zhx:∀{fs:List Fr},zfp fs=0->∀q∈fs,frW q=0
 | [],_,_,hq=>by cases hq
 | a :: l,h,q,hq=>by
  unfold zfp at h
  by_cases h0:frW a=0
  ·rw[kE h0]at h
   rcases mC.1 hq with rfl|h1
   ·exact h0
   exact zhx h q h1
  rw[kF h0]at h;exact absurd h h0
theorem j2 {fs:List Fr} {h:Int} (hz:ZR fs h=0):fs.length<=40/\(∀q∈fs,frW q=0)/\0<=h/\h<max (fs.length:Int) 1:=by
 unfold ZR at hz
 by_cases h1:40<fs.length
 ·rw[kE h1]at hz;omega
 rw[kF h1]at hz
 by_cases h2:zfp fs=0
 ·rw[kE h2]at hz
  cases hb:inB h (max fs.length 1)with
  | false=>rw[hb]at hz;simp at hz
  | true=>
   unfold inB at hb
   simp at hb
   exact⟨by omega,zhx h2,by omega,by omega⟩
 rw[kF h2]at hz;exact absurd hz h2
theorem zaD {q:Fr} (h:frW q=0):0<=q.r/\q.r<=1000:=by
 unfold frW at h
 by_cases h1:(inB q.r 1001 && inB q.x 12)=Xd
 ·rw[kE h1]at h;omega
 have h2:inB q.r 1001=Xc:=by
  cases hb:inB q.r 1001 with
  | true=>rfl
  | false=>rw[hb]at h1;simp at h1
 unfold inB at h2
 simp at h2
 omega
theorem zh.frc {base:Nat} {w:Xo} {g n c:Nat} {fs:List Fr} (h:zh base w (O (Xa ⟨g,0,Xb⟩) n c) fs) {i:Nat} {q:Fr} (hq:fs[i]? =Xa q) (j:Nat) {u:Xr} (hu:(frv q)[j]? =Xa u):w.cell? ⟨g,i*13+j,Xb⟩=Xa u:=by
 obtain⟨a',c',he,hr⟩:=h.at.rows;obtain⟨ad,he2,hc⟩:=hr i q hq;cases he;cases he2;have:=hc w (zc.refl _) j u hu;rw[zX,Yh,zA]at this;exact this
def jT (s:List Int) (n:Int):Int:=if slW s=0 then(if 1<=n/\n<=1000 then(if s.findIdx isZ<s.length then 0 else 10)else 3)else slW s
def Zy (s:List Int) (n:Int):List Int:=if jT s n=0 then s.set (s.findIdx isZ) n else []
def zbb (s:List Int) (n:Int):Int:=if jT s n=0 then(s.findIdx isZ:Int)else 0
theorem zdL {s:List Int} {n:Int} (h:jT s n=z) (hz:z≠0):Zy s n=[]/\zbb s n=0:=by
 have:jT s n≠0:=by rw[h];exact hz
 exact⟨kF this,kF this⟩
theorem zbT (s:List Int) (m:Int):
  (slW s≠0/\jT s m=slW s/\Zy s m=[]/\zbb s m=0)\/(slW s=0/\¬(1<=m/\m<=1000)/\jT s m=3/\Zy s m=[]/\zbb s m=0)\/
  (slW s=0/\(1<=m/\m<=1000)/\¬s.findIdx isZ<s.length/\jT s m=10/\Zy s m=[]/\zbb s m=0)\/
  (slW s=0/\(1<=m/\m<=1000)/\s.findIdx isZ<s.length/\jT s m=0/\Zy s m=s.set (s.findIdx isZ) m/\zbb s m=(s.findIdx isZ:Int)):=by
 by_cases h1:slW s=0
 ·by_cases h2:1<=m/\m<=1000
  ·by_cases h3:s.findIdx isZ<s.length
   ·have h:jT s m=0:=by unfold jT;rw[kE h1,kE h2,kE h3]
    exact .inr (.inr (.inr ⟨h1,h2,h3,h,kE h,kE h⟩))
   have h:jT s m=10:=by unfold jT;rw[kE h1,kE h2,kF h3]
   exact .inr (.inr (.inl ⟨h1,h2,h3,h,zdL h (by decide)⟩))
  have h:jT s m=3:=by unfold jT;rw[kE h1,kF h2]
  exact .inr (.inl ⟨h1,h2,h,zdL h (by decide)⟩)
 have h:jT s m=slW s:=by unfold jT;rw[kF h1]
 exact .inl ⟨h1,h,zdL h h1⟩
theorem zjr (a:Option Addr) (c:Nat) (s:List Int) (m:Int) (w:Xo) (hv:zm slE w (O a s.length c) s):
  Xq prog 194 #[O a s.length c,I6 m] w fun e w'=>∃a' c',e= Xl (Xm #[.slice a' (Zy s m).length c',I6 (zbb s m),I6 (jT s m)])/\jy slE w.heap.size w' (.slice a' (Zy s m).length c') (Zy s m)/\zc w w':=by
 have h1:=zc4 a c s w hv;have h2:∀W,zc w W->Xq prog 220 #[O a s.length c,I6 0] W fun e w'=>e= Xl (I6 (zmI s))/\zc W w':=fun W hW=>zip _ s W (hv.grew hW)
 have h3:∀W,zc w W->Xq prog 59 #[O a s.length c] W fun e w'=>∃v',e= Xl v'/\zb slE W.heap.size w' v' s/\zc W w':=fun W hW=>zdu _ s W (hv.grew hW)
 have hbig:=hv.short;obtain⟨n,HN⟩:=kA s.length;clear hv
 rcases zbT s m with⟨hw,e1,e2,e3⟩|⟨hw,hm,e1,e2,e3⟩|⟨hw,hm,hi,e1,e2,e3⟩|⟨hw,hm,hi,e1,e2,e3⟩
 ·rw[e1,e2,e3];clear e1 e2 e3 h2 h3
  generalize slW s=z at h1 hw⊢
  have hzb:(z != 0)=Xc:=by simpa using hw
  rw[HN.out]at h1 hbig⊢
  go_enter func194,ntmps194
  go_wp2_with fail;refine h1.mono ?_;rintro e W1 ⟨rfl,g1⟩;have G1:Xp (zc w W1):=g1;clear g1 h1 hw;go_wp2;refine bodyPost_ret (v:= Xm #[eS,I6 0,I6 z]) (by simp[results,Tryz.results194,go_sem, *]) rfl ⟨Xb,0,rfl,jy.nil _ _ _,G1⟩
 ·rw[hw]at h1;rw[e1,e2,e3];clear e1 e2 e3 h2 h3 hw;rw[HN.out]at h1 hbig⊢
  by_cases hm1:m<1
  ·go_enter func194,ntmps194
   go_wp2_with fail;refine h1.mono ?_;rintro e W1 ⟨rfl,g1⟩;have G1:Xp (zc w W1):=g1;clear g1 h1 hm;go_wp2;refine bodyPost_ret (v:= Xm #[eS,I6 0,I6 3]) (by simp[results,Tryz.results194,go_sem, *]) rfl ⟨Xb,0,rfl,jy.nil _ _ _,G1⟩
  have hm2:1000<m:=by omega
  go_enter func194,ntmps194
  go_wp2_with fail;refine h1.mono ?_;rintro e W1 ⟨rfl,g1⟩;have G1:Xp (zc w W1):=g1;clear g1 h1 hm;go_wp2;refine bodyPost_ret (v:= Xm #[eS,I6 0,I6 3]) (by simp[results,Tryz.results194,go_sem, *]) rfl ⟨Xb,0,rfl,jy.nil _ _ _,G1⟩
 ·rw[hw]at h1;rw[show zmI s=-1 from kF hi]at h2
  rw[e1,e2,e3];clear e1 e2 e3 h3 hw hi;rw[HN.out]at h1 h2 hbig⊢;have hm1:¬m<1:=by omega
  have hm2:¬1000<m:=by omega
  clear hm
  go_enter func194,ntmps194
  go_wp2_with fail;refine h1.mono ?_;rintro e W1 ⟨rfl,g1⟩;have G1:Xp (zc w W1):=g1;clear g1 h1;go_wp2_with fail;refine(h2 _ G1).mono ?_;rintro e W2 ⟨rfl,g2⟩;have G2:=dD (G1.trans g2);clear g2 h2;go_wp2;refine bodyPost_ret (v:= Xm #[eS,I6 0,I6 10]) (by simp[results,Tryz.results194,go_sem, *]) rfl ⟨Xb,0,rfl,jy.nil _ _ _,G2⟩
 rw[hw]at h1;rw[show zmI s=(s.findIdx isZ:Int)from kE hi]at h2
 rw[e1,e2,e3,Xw];clear e1 e2 e3 hw;obtain⟨i,HI⟩:=kA (s.findIdx isZ);rw[HI.out]at hi h2⊢;rw[HN.out]at h1 h2 h3 hi hbig⊢;have hm1:¬m<1:=by omega
 have hm2:¬1000<m:=by omega
 have hiz:(i:Int)< (n:Int):=by omega
 clear hm
 go_enter func194,ntmps194
 go_wp2_with fail;refine h1.mono ?_;rintro e W1 ⟨rfl,g1⟩;have G1:Xp (zc w W1):=g1;clear g1 h1;go_wp2_with fail;refine(h2 _ G1).mono ?_;rintro e W2 ⟨rfl,g2⟩;have G2:=dD (G1.trans g2);clear g2 h2;go_wp2_with fail;refine(h3 _ G2).mono ?_;rintro e W3 ⟨v',rfl,ow,g3⟩;obtain⟨g,cv,rfl⟩:=ow.formS (by rw[HN.out];omega)
 rw[HN.out]at ow⊢;have OW:Xp (zb slE W2.heap.size W3 (O (Xa ⟨g,0,Xb⟩) n cv) s):=ow;have G3:Xp (zc W2 W3):=g3;clear g3 h3 ow
 go_wp2_with (refine jm (E:=slE) rfl (.tmp 30) (.tmp 29) rfl W2.heap.size _ s OW g i rfl m (by rw[HN.out];exact hi) _ rfl (by simp[slE]) _ rfl rfl ?_)
 intro w4 ow4 gr4 _;have hg2:=(OW.lt g rfl).1;have OW4:Xp (zb slE W2.heap.size w4 (O (Xa ⟨g,0,Xb⟩) n cv) (s.set i m)):=ow4;have G4:Xp (zc W2 w4):=ze G3 gr4 hg2;clear ow4 gr4;go_wp2;refine bodyPost_ret (v:= Xm #[O (Xa ⟨g,0,Xb⟩) n cv,I6 (i:Int),I6 0]) (by simp[results,Tryz.results194,go_sem, *]) rfl ⟨_,_,rfl,OW4.new.base (bS G2),G2.trans G4⟩
theorem zdI (xa:Option Addr) (xc:Nat) (h:List En) (k:Nat) (hk:k<8) (x:En) (base:Nat) (w:Xo) (hown:zb enE base w (O xa h.length xc) h) (hb:base<=w.heap.size) (h8:h.length=0\/h.length=8):
  Xq prog 182 #[O xa h.length xc,I6 (k:Int),Xi #[I6 x.kind,I6 x.n,Xh x.wr]] w fun e w'=>∃a' c',e= Xl (.slice a' (mk ((zae h).set k x)).length c')/\zb enE base w' (.slice a' (mk ((zae h).set k x)).length c') (mk ((zae h).set k x))/\w.grownBy w' (O xa h.length xc).ownBlock/\(∀g,(Value.slice a' (mk ((zae h).set k x)).length c').ownBlock=Xa g->(O xa h.length xc).ownBlock=Xa g\/w.heap.size<=g):=by
 have HOWN:Xp (zb enE base w (O xa h.length xc) h):=hown;have HB:Xp (base<=w.heap.size):=hb;have HMK:Xp (mk ((zae h).set k x)=if zbk ((zae h).set k x)=Xc then(zae h).set k x else []):=rfl;clear hown hb;obtain⟨W0,hW0⟩:=kB (w.alloc (Xk #[I6 x.kind,I6 x.n,Xh x.wr] 55));have HG0:=gA hW0
 have X0:=xA hW0
 have HS0:=sA hW0
 have HW0:Xp (_=W0):=hW0;clear hW0;have hkz:(k:Int)<8:=by omega
 rcases h8 with h0|h8
 ·have hnil:h=[]:=List.length_eq_zero_iff.1 h0;subst hnil;obtain⟨L,HL⟩:=kA ((zae []).set k x);have HLL:Xp (L.length=8):=dD<|by rw[<-HL.out];simp[zae]
  rw[HL.out]at HMK⊢
  generalize mk L=M at HMK⊢
  simp only[Yi]at HOWN⊢;clear h0
  go_enter func182,ntmps182
  go_upto_region 1 with fail;rw[HW0.out]
  go_wp2_with (refine Q4 enE rfl (.const (I6 8)) rfl 8 rfl (by decide) ?_)
  intro C ow
  show wpList _ _ _ _ _ (W0.alloc (Xk C 55))
  have ow':zb enE W0.heap.size (W0.alloc (Xk C 55)) (O (Xa ⟨W0.heap.size,0,Xb⟩) 8 8) (zae []):=ow;obtain⟨W1,hW1⟩:=kB (W0.alloc (Xk C 55));have G1:=gA hW1
  rw[hW1]at ow'⊢;obtain⟨g,HGG⟩:=kA W0.heap.size;rw[HGG.out]at ow'⊢;have O1:Xp (zb enE g W1 (O (Xa ⟨g,0,Xb⟩) 8 8) (zae [])):=ow';have X1:=dD (X0.grew G1);have HBG:Xp (base<=g/\w.heap.size<=g):=show _/\_ by
   have:=HS0.out;have:=HB.out;have:=HGG.out
   constructor <;> omega
  clear hW1 ow ow';obtain⟨x0,x1,x2⟩:=X1.c3
  go_wp2_with (refine jm (E:=enE) rfl (.tmp 14) (.tmp 13) rfl g _ (zae []) O1 g k rfl x ?t1 ⟨g,k*3,Xb⟩ rfl rfl (Xi #[I6 x.kind,I6 x.n,Xh x.wr]) rfl rfl ?_)
  case t1=>exact hk
  intro W2 ow2 gr2 sz2;rw[HL.out]at ow2;have O2:Xp (zb enE base W2 (O (Xa ⟨g,0,Xb⟩) 8 8) L):=ow2.base HBG.1;have G2:Xp (zc w W2):=show zc _ _ from ze (HG0.trans G1) gr2 HBG.2
  have hcall:=Zw _ L W2 ow2.at;clear ow2 gr2 sz2 x0 x1 x2
  generalize zbk L=A at hcall HMK
  cases A with
  | true=>
   have HM:Xp (M=L):=dD<|by rw[HMK.out,kE rfl]
   go_wp2_with fail;refine hcall.mono ?_;rintro e W3 ⟨rfl,k1⟩;have G3:Xp (w.grownBy W3 _):=show World.grownBy _ _ (Value.ownBlock (O xa 0 xc))from zaZ (G2.trans k1) _
   have O3:=dD (O2.grew k1);clear k1 hcall;go_wp2;go_ret;rw[HM.out,HLL.out];exact⟨Xa ⟨g,0,Xb⟩,8,rfl,O3,G3,fun g' hg=> .inr (by cases hg;exact HBG.2)⟩
  | false=>
   have HM:Xp (M=[]):=dD<|by rw[HMK.out,kF (by decide)]
   go_wp2_with fail;refine hcall.mono ?_;rintro e W3 ⟨rfl,k1⟩;have G3:Xp (w.grownBy W3 _):=show World.grownBy _ _ (Value.ownBlock (O xa 0 xc))from zaZ (G2.trans k1) _
   clear k1 hcall;go_wp2;go_ret;rw[HM.out];exact⟨Xb,0,rfl,zb.nil _ _ _,G3,fun g' hg=>by cases hg⟩
 obtain⟨L,HL⟩:=kA ((zae h).set k x);have HFU:Xp (zae h=h):=dD<|by unfold zae;rw[kF (by omega)]
 have HLL:Xp (L.length=8):=dD<|by rw[<-HL.out,HFU.out];simp[h8]
 rw[HL.out]at HMK⊢
 generalize mk L=M at HMK⊢
 have HH8:Xp (h.length=8):=h8;obtain⟨g,c',heq⟩:=HOWN.formS (by omega)
 cases heq;rw[h8]at HOWN⊢;clear h8
 go_enter func182,ntmps182
 go_upto_region 1 with fail;rw[HW0.out];have O1:=dD (HOWN.grew HG0);obtain⟨x0,x1,x2⟩:=X0.c3
 go_wp2_with (refine jm (E:=enE) rfl (.tmp 14) (.tmp 13) rfl base _ h O1 g k rfl x ?t1 ⟨g,k*3,Xb⟩ rfl rfl (Xi #[I6 x.kind,I6 x.n,Xh x.wr]) rfl rfl ?_)
 case t1=>rw[HH8.out];exact hk
 intro W2 ow2 gr2 sz2;rw[HFU.out]at HL;rw[HL.out]at ow2;have O2:Xp (zb enE base W2 (O (Xa ⟨g,0,Xb⟩) 8 xc) L):=ow2;have G2:Xp (w.grownBy W2 (Xa g)):=show World.grownBy _ _ _ from jE (zaZ HG0 _) gr2
 have hcall:=Zw _ L W2 ow2.at;clear ow2 gr2 sz2 x0 x1 x2
 generalize zbk L=A at hcall HMK
 cases A with
 | true=>
  have HM:Xp (M=L):=dD<|by rw[HMK.out,kE rfl]
  go_wp2_with fail;refine hcall.mono ?_;rintro e W3 ⟨rfl,k1⟩;have G3:Xp (w.grownBy W3 _):=show World.grownBy _ _ (Value.ownBlock (O (Xa ⟨g,0,Xb⟩) 8 xc))from jE G2 (zaZ k1 _)
  have O3:=dD (O2.grew k1);clear k1 hcall;go_wp2;go_ret;rw[HM.out,HLL.out];exact⟨Xa ⟨g,0,Xb⟩,xc,rfl,O3,G3,fun g' hg=> .inl hg⟩
 | false=>
  have HM:Xp (M=[]):=dD<|by rw[HMK.out,kF (by decide)]
  go_wp2_with fail;refine hcall.mono ?_;rintro e W3 ⟨rfl,k1⟩;have G3:Xp (w.grownBy W3 _):=show World.grownBy _ _ (Value.ownBlock (O (Xa ⟨g,0,Xb⟩) 8 xc))from jE G2 (zaZ k1 _)
  clear k1 hcall;go_wp2;go_ret;rw[HM.out];exact⟨Xb,0,rfl,zb.nil _ _ _,G3,fun g' hg=>by cases hg⟩
theorem zdV:∀v∈Qf,v.oneCell'=Xc:=fun v hv=>by
 rw[Qf,List.mem_replicate]at hv;rw[hv.2];rfl
theorem zjv (t:List (List En)) (n:Int) (x:En):
  (tbW t≠0/\zeS t n x=tbW t/\zeR t n x=qL)\/
  (tbW t=0/\¬(0<=n/\n<64)/\zeS t n x=3/\zeR t n x=qL)\/
  (tbW t=0/\(0<=n/\n<64)/\enW x≠0/\zeS t n x=enW x/\zeR t n x=qL)\/
  (tbW t=0/\(0<=n/\n<64)/\enW x=0/\zeS t n x=0/\zeR t n x=zi7 t n.toNat x):=by
 by_cases h1:tbW t=0
 ·by_cases h2:0<=n/\n<64
  ·have e:zeS t n x=enW x:=by unfold zeS;rw[kE h1,kE h2]
   by_cases h3:enW x=0
   ·exact .inr (.inr (.inr ⟨h1,h2,h3,e.trans h3,by unfold zeR;rw[kE (e.trans h3)]⟩))
   exact .inr (.inr (.inl ⟨h1,h2,h3,e,by unfold zeR;rw[kF (by rw[e];exact h3)]⟩))
  have e:zeS t n x=3:=by unfold zeS;rw[kE h1,kF h2]
  exact .inr (.inl ⟨h1,h2,e,by unfold zeR;rw[kF (by rw[e];decide)]⟩)
 have e:zeS t n x=tbW t:=by unfold zeS;rw[kF h1]
 exact .inl ⟨h1,e,by unfold zeR;rw[kF (by rw[e];exact h1)]⟩
theorem zjw (vs:List Xr) (t:List (List En)) (n:Int) (x:En) (w:Xo) (hv:Qi w vs t):
  Xq prog 151 #[Xi vs.toArray,I6 n,Xi #[I6 x.kind,I6 x.n,Xh x.wr]] w fun e w'=>∃us,e= Xl (Xm #[Xi us.toArray,I6 (zeS t n x)])/\ZS 0 w.heap.size w' us (zeR t n x)/\zc w w':=by
 have HL:Xp (vs.length=8):=hv.len;have HT8:Xp (t.length=8):=hv.tlen;have h1:∀W,zc w W->Xq prog 180 #[Xi vs.toArray] W fun e w'=>e= Xl (I6 (tbW t))/\zc W w':=fun W hW=>zbI vs t W (hv.grew hW)
 have h2:∀W,zc w W->Xq prog 102 #[Xi vs.toArray] W fun e w'=>∃us,e= Xl (Xi us.toArray)/\jf (W.heap.size+2) w' us t/\zc W w'/\W.heap.size+2<=w'.heap.size:=fun W hW=>ze6 vs t W (hv.grew hW)
 have h3:=fun W=>JM x.kind x.n x.wr W
 clear hv;obtain⟨W0,hW0⟩:=kB (((w.alloc (Xk vs.toArray 61)).alloc (Xk #[I6 x.kind,I6 x.n,Xh x.wr] 55)).alloc (Xk #[eS,eS,eS,eS,eS,eS,eS,eS] 61));have HG0:Xp (zc w W0):=dD<|by rw[<-hW0];exact((za _ _).trans (za _ _)).trans (za _ _)
 have X0:Xp (Box W0 w.heap.size vs):=dD<|by rw[<-hW0];exact((Box.top w _ _ rfl).alloc _).alloc _
 have E0:Xp (Box W0 (w.heap.size+1) [I6 x.kind,I6 x.n,Xh x.wr]):=dD<|by rw[<-hW0];exact(Box.top _ _ _ (by simp)).alloc _
 have Y0:Xp (Box W0 (w.heap.size+2) Qf):=dD<|by rw[<-hW0];exact Box.top _ Qf _ (by simp)
 have HW0:Xp (_=W0):=hW0;clear hW0
 rcases zjv t n x with⟨hz,e1,e2⟩|⟨hz,hn,e1,e2⟩|⟨hz,hn,hx,e1,e2⟩|⟨hz,hn,hx,e1,e2⟩
 ·rw[e1,e2];have hzb:(tbW t != 0)=Xc:=by simpa using hz
  clear e1 e2 hz h2 h3
  generalize tbW t=z at h1 hzb⊢
  go_enter func151,ntmps151
  go_upto_region 1 with fail;rw[HW0.out]
  go_wp2_with (refine qF rfl (.tmp 3) rfl w.heap.size rfl X0 HL.out ?_)
  refine(h1 W0 HG0).mono ?_;rintro e W1 ⟨rfl,g1⟩;have G1:=dD (HG0.trans g1);have X1:=dD (X0.grew g1);have E1:=dD (E0.grew g1);have Y1:=dD (Y0.grew g1);clear g1 h1
  go_wp2_with (refine zK rfl 61 (.tmp 6) (.tmp 15) rfl (w.heap.size+2) rfl Qf rfl Y1 rfl zov zdV ?_)
  intro W9 b9 g9 s9;have B9:Xp (Box W9 (w.heap.size+2) Qf):=b9;have G9:Xp (zc w W9):=show zc _ _ from ze G1 g9 (by simp)
  clear b9 g9 s9;go_wp2;refine bodyPost_ret (jj rfl _ rfl B9 underlying61 rfl zov) rfl ⟨Qf,rfl,ZS.nil _ _ _,G9⟩
 ·rw[e1,e2];rw[hz]at h1;have hb:=fun W=>zaJ (m:=n) (n:=64) hn W
  clear e1 e2 hz hn h2 h3
  go_enter func151,ntmps151
  go_upto_region 1 with fail;rw[HW0.out]
  go_wp2_with (refine qF rfl (.tmp 3) rfl w.heap.size rfl X0 HL.out ?_)
  refine(h1 W0 HG0).mono ?_;rintro e W1 ⟨rfl,g1⟩;have G1:=dD (HG0.trans g1);have X1:=dD (X0.grew g1);have E1:=dD (E0.grew g1);have Y1:=dD (Y0.grew g1);clear g1 h1;go_wp2_with fail;refine(hb _).mono ?_;rintro e w' ⟨rfl,hw'⟩;rw[hw'];clear hw' w'
  go_wp2_with (refine zK rfl 61 (.tmp 6) (.tmp 20) rfl (w.heap.size+2) rfl Qf rfl Y1 rfl zov zdV ?_)
  intro W9 b9 g9 s9;have B9:Xp (Box W9 (w.heap.size+2) Qf):=b9;have G9:Xp (zc w W9):=show zc _ _ from ze G1 g9 (by simp)
  clear b9 g9 s9;go_wp2;refine bodyPost_ret (jj rfl _ rfl B9 underlying61 rfl zov) rfl ⟨Qf,rfl,ZS.nil _ _ _,G9⟩
 ·rw[e1,e2];rw[hz]at h1;have hb:=fun W=>Qs (m:=n) (n:=64) hn.1 hn.2 W
  change ∀W,Xq prog 181 _ W fun e w'=>e= Xl (I6 (enW x))/\zc W w' at h3
  have hzb:(enW x != 0)=Xc:=by simpa using hx
  clear e1 e2 hz hn hx h2
  generalize enW x=z at h3 hzb⊢
  go_enter func151,ntmps151
  go_upto_region 1 with fail;rw[HW0.out]
  go_wp2_with (refine qF rfl (.tmp 3) rfl w.heap.size rfl X0 HL.out ?_)
  refine(h1 W0 HG0).mono ?_;rintro e W1 ⟨rfl,g1⟩;have G1:=dD (HG0.trans g1);have X1:=dD (X0.grew g1);have E1:=dD (E0.grew g1);have Y1:=dD (Y0.grew g1);clear g1 h1;go_wp2_with fail;refine(hb _).mono ?_;rintro e w' ⟨rfl,hw'⟩;rw[hw'];clear hw' w';obtain⟨e0,e1,e2⟩:=E1.c3;go_wp2_with fail;refine(h3 W1).mono ?_;rintro e W2 ⟨rfl,g2⟩;have G2:=dD (G1.trans g2);have X2:=dD (X1.grew g2);have E2:=dD (E1.grew g2);have Y2:=dD (Y1.grew g2);clear g2 h3 e0 e1 e2
  go_wp2_with (refine zK rfl 61 (.tmp 6) (.tmp 25) rfl (w.heap.size+2) rfl Qf rfl Y2 rfl zov zdV ?_)
  intro W9 b9 g9 s9;have B9:Xp (Box W9 (w.heap.size+2) Qf):=b9;have G9:Xp (zc w W9):=show zc _ _ from ze G2 g9 (by simp)
  clear b9 g9 s9;go_wp2;refine bodyPost_ret (jj rfl _ rfl B9 underlying61 rfl zov) rfl ⟨Qf,rfl,ZS.nil _ _ _,G9⟩
 rw[e1,e2];rw[hz]at h1;have hb:=fun W=>Qs (m:=n) (n:=64) hn.1 hn.2 W
 change ∀W,Xq prog 181 _ W fun e w'=>e= Xl (I6 (enW x))/\zc W w' at h3
 rw[hx]at h3;obtain⟨i,k,hi,hk,hnk,q1,q2,q3,q4,q5,q6⟩:=zdd hn.1 hn.2;obtain⟨q,HQ⟩:∃q,Xp (t[i]? =Xa q):=⟨_,gE (by rw[HT8.out];exact hi)⟩
 have H8:Xp (q.length=0\/q.length=8):=dD<|by
  rcases QB.1 hz q (mG HQ)with h|⟨h,_⟩
  ·exact .inl (by rw[h];rfl)
  exact .inr h
 have HM:Xp (zi7 t n.toNat x=t.set i (mk ((zae q).set k x))):=dD<|by
  unfold zi7;rw[q5,q6,HQ.out];rfl
 rw[HM.out];obtain⟨M,HMM⟩:=kA (mk ((zae q).set k x));rw[HMM.out];have hn0:=hn.1;have hiz:(i:Int)<8:=by omega
 clear e1 e2 hz hn hx hnk q5 q6
 go_enter func151,ntmps151
 go_upto_region 1 with fail;rw[HW0.out]
 go_wp2_with (refine qF rfl (.tmp 3) rfl w.heap.size rfl X0 HL.out ?_)
 refine(h1 W0 HG0).mono ?_;rintro e W1 ⟨rfl,g1⟩;have G1:=dD (HG0.trans g1);have X1:=dD (X0.grew g1);have E1:=dD (E0.grew g1);have Y1:=dD (Y0.grew g1);clear g1 h1;go_wp2_with fail;refine(hb _).mono ?_;rintro e w' ⟨rfl,hw'⟩;rw[hw'];clear hw' w';obtain⟨e0,e1,e2⟩:=E1.c3;go_wp2_with fail;refine(h3 W1).mono ?_;rintro e W2 ⟨rfl,g2⟩;have G2:=dD (G1.trans g2);have X2:=dD (X1.grew g2);have E2:=dD (E1.grew g2);have Y2:=dD (Y1.grew g2);clear g2 h3 e0 e1 e2
 go_wp2_with (refine qF rfl (.tmp 3) rfl w.heap.size rfl X2 HL.out ?_)
 refine(h2 W2 G2).mono ?_;rintro e W3 ⟨us,rfl,ot3,g3,s3⟩;have OT3:Xp (jf (W2.heap.size+2) W3 us t):=ot3;have G23:Xp (zc W2 W3):=g3;have HB3:Xp (W2.heap.size+2<=W3.heap.size):=s3;have HB2:Xp (w.heap.size+3<=W2.heap.size):=Y2.lt;clear ot3 g3 s3 h2;obtain⟨po,HPO⟩:=kA W3.heap.size
 go_wp2_with (refine zK rfl 61 (.tmp 10) (.tmp 28) rfl W3.heap.size rfl us rfl (Box.top W3 Qf 61 rfl) OT3.len zov OT3.new.one ?_)
 intro W4 b4 g4 s4;rw[HPO.out]at b4 g4⊢;have P4:Xp (Box W4 po us):=b4;have G34:Xp (zc W3 W4):=show zc _ _ from ze (za W3 _) g4 (by rw[HPO.out];exact nR _)
 have HS4:Xp (po<W4.heap.size):=b4.lt;clear b4 g4 s4;have OT4:=dD (OT3.grew G34);have E4:=dD ((E2.grew G23).grew G34);have Y4:=dD ((Y2.grew G23).grew G34);have G4:=dD ((G2.trans G23).trans G34);have HLT:Xp (∀(j:Nat) u,us[j]? =Xa u->∀g,u.ownBlock=Xa g->W2.heap.size+2<=g/\g<po):=show∀(j:Nat) u,_ from fun j u hu g hg=>by
  obtain⟨y,hy⟩:∃y,t[j]? =Xa y:=⟨_,gE (by rw[HT8.out,<-OT3.len];exact(gS.1 hu).1)⟩
  rw[<-HPO.out];exact(OT3.row j u y hu hy).lt g hg
 obtain⟨xa,xc,q',hq',hvk,ho4⟩:=OT4.half hi;obtain rfl:q=q':=by rw[HQ.out]at hq';cases hq';rfl
 have HVK:Xp (us[i]? =Xa (O xa q.length xc)):=hvk;have O4:Xp (zb enE (W2.heap.size+2) W4 (O xa q.length xc) q):=ho4;clear hq' hvk ho4;go_upto_region 10 with fail;obtain⟨g,hg1,hg3,hg4,hg5⟩:∃g,(∀g',(O xa q.length xc).ownBlock=Xa g'->g'=g)/\g≠po/\W2.heap.size+2<=g/\((O xa q.length xc).ownBlock=Xb->W4.heap.size<=g):=by
  cases ho:(O xa q.length xc).ownBlock with
  | none=>exact⟨W4.heap.size,fun g' h=>(by cases h),by have:=HS4.out;omega,by have:=HS4.out;have:=HPO.out;have:=HB3.out;omega,fun _=>nR _⟩
  | some g=>
   have:=HLT.out i _ HVK g ho;exact⟨g,fun g' h=>by cases h;rfl,by omega,by omega,fun h=>by cases h⟩
 have HWP:Xp (W2.heap.size+2<=W4.heap.size):=dD<|by have:=HS4.out;have:=HPO.out;have:=HB3.out;omega
 obtain⟨I,HI⟩:∃I:Xo->Prop,Xp (∀w,I w↔Out g (g+1) W4 w):=⟨fun w=>Out g (g+1) W4 w,fun _=>Iff.rfl⟩
 obtain⟨nq,HNQ⟩:=kA q.length;rw[HNQ.out]at hg1 hg5 HVK O4;have hx0:∀y:zj I,y.world.cell? ⟨po,i,Xb⟩=Xa (O xa nq xc):=fun y=>(P4.out.out ((HI _).1 y.holds) (by omega)).c i HVK.out
 have hgE:w.heap.size+1<g:=by have:=HB2.out;omega
 have hx1:∀y:zj I,y.world.cell? ⟨w.heap.size+1,0,Xb⟩=Xa (I6 x.kind):=fun y=>(E4.out.out ((HI _).1 y.holds) (by omega)).c 0 rfl
 have hx2:∀y:zj I,y.world.cell? ⟨w.heap.size+1,1,Xb⟩=Xa (I6 x.n):=fun y=>(E4.out.out ((HI _).1 y.holds) (by omega)).c 1 rfl
 have hx3:∀y:zj I,y.world.cell? ⟨w.heap.size+1,2,Xb⟩=Xa (Xh x.wr):=fun y=>(E4.out.out ((HI _).1 y.holds) (by omega)).c 2 rfl
 have hne:Nonempty (zj I):=⟨⟨W4,(HI _).2 (Out.refl _ _ _)⟩⟩;obtain⟨nm,HNM⟩:=kA M.length;refine qP (I:=I) 11 [(9,⟨fun v=>∃a' c',v= O a' nm c',fun v w'=>zb enE (W2.heap.size+2) w' v M/\∀g',v.ownBlock=Xa g'->(O xa nq xc).ownBlock=Xa g'\/W4.heap.size<=g',fun w w'=>w.grownBy w' (O xa nq xc).ownBlock,fun w=>zb enE (W2.heap.size+2) w (O xa nq xc) q/\W4.heap.size<=w.heap.size⟩)] ((HI _).2 (Out.drew _)) zW (by kernel_rfl) rfl rfl (by decide) ?hS ?hp ?hpre ?hpr0 ?_
 case hS=>
  intro y hy
  simp at hy
  subst hy;exact⟨_,Xb,0,rfl⟩
 case hp=>
  intro k' s j t' hk' hj hjk _ v w w' hst hpo;have a1:=(zaW hk').1;have a2:=(zaW hj).1;exact absurd (a2.trans a1.symm) hjk
 case hpre=>
  intro j t' k' s hj hk' hjk w w' hst hpr;have a1:=(zaW hk').1;have a2:=(zaW hj).1;exact absurd (a2.trans a1.symm) hjk
 case hpr0=>
  intro k' t' hk';obtain⟨rfl,rfl⟩:=zaW hk';exact⟨O4.grew (gW _),nR _⟩
 simp only[Yw,Yx];iterate 9 (refine zk rfl rfl rfl (fun K hK=>?_);go_big_quiet_op;refine hK _ ?_;clear hK)
 refine zP rfl rfl (fun w' hI' hpr hF=>?_) (fun v1 hv=>?_)
 ·refine zQ.call [O xa nq xc,I6 (k:Int),Xi #[I6 x.kind,I6 x.n,Xh x.wr]] rfl func182 rfl rfl rfl ?_;have hpr':zb enE (W2.heap.size+2) w' (O xa nq xc) q/\W4.heap.size<=w'.heap.size:=hpr;have hcall:=zdI xa xc q k hk x (W2.heap.size+2) w' (by rw[HNQ.out];exact hpr'.1) (nT HWP hpr'.2) H8.out
  rw[HNQ.out,HMM.out,HNM.out]at hcall;refine hcall.mono ?_;rintro e w'' ⟨a',c',rfl,nr,gb,ho⟩;refine⟨_,rfl,(HI _).2 (((HI _).1 hI').trans (Out.grown gb (fun g' h=>by have:=hg1 g' h;omega))),gb,⟨a',c',rfl⟩,nr,fun g' hg'=>?_⟩
  rcases ho g' hg' with h|h
  ·exact .inl h
  exact .inr (nT hpr'.2 h)
 obtain⟨ra,rc,rfl⟩:=hv;simp only[Yd,sB,sS,sZ];iterate 1 (refine zk rfl rfl rfl (fun K hK=>?_);go_big_quiet_op;refine hK _ ?_;clear hK)
 refine jS fun W5 hI5 hF=>?_
 have f9:zb enE (W2.heap.size+2) W5 (O ra nm rc) M/\∀g',(O ra nm rc).ownBlock=Xa g'->(O xa nq xc).ownBlock=Xa g'\/W4.heap.size<=g':=hF 9;have O5:Xp (Out g (g+1) W4 W5):=(HI _).1 hI5;have OT5:Xp (jf (W2.heap.size+2) W5 (us.set i (O ra nm rc)) (t.set i M)):=OT4.one hi HVK (by
  cases ho:(O xa nq xc).ownBlock with
  | none=>exact⟨O5.os,O5.tape,O5.output,O5.size,fun j hj _=>O5.block j hj (.inl (Yb hj (hg5 ho)))⟩
  | some g0=>
   have:=hg1 g0 ho;subst this;exact⟨O5.os,O5.tape,O5.output,O5.size,fun j hj hne=>O5.block j hj (by
    have:j≠g0:=fun e=>hne (by rw[e])
    omega)⟩) f9.1 f9.2
 have HNE:Xp (∀(j:Nat) u,(us.set i (O ra nm rc))[j]? =Xa u->∀g',u.ownBlock=Xa g'->po≠g'):=dD<|fun j u hu g' hg'=>by
  by_cases e:j=i
  ·subst e;rw[sF (by rw[OT4.len];exact hi)]at hu
   cases hu
   rcases f9.2 g' hg' with h|h
   ·have:=HLT.out j _ HVK g' h;omega
   have:=HS4.out;omega
  rw[sN (fun h=>e h.symm)]at hu
  have:=HLT.out j u hu g' hg';omega
 have P5:Xp (Box W5 po us):=P4.out.out O5 (by omega)
 have Y5:Xp (Box W5 (w.heap.size+2) Qf):=Y4.out.out O5 (by have:=HB2.out;omega)
 have G5:Xp (zc w W5):=dD<|Out.grew_of G4 (by have:=HB2.out;omega) O5.out
 clear hF hx0 hx1 hx2 hx3 hI5 hne f9 hg1 hg5;have p0:=P5.c i HVK.out;have pf:=P5.f;go_upto_region 11 with fail;have hlen:(us.set i (O ra nm rc)).length=8:=by rw[Xw];exact OT4.len
 have HLEN:Xp ((us.set i (O ra nm rc)).length=8):=hlen;clear hlen;obtain⟨W6,hW6⟩:=kB (W5.setCell ⟨po,i,Xb⟩ (O ra nm rc));have P6:Xp (Box W6 po (us.set i (O ra nm rc))):=show Box _ _ _ by rw[<-hW6];exact P5.set i _
 have Y6:Xp (Box W6 (w.heap.size+2) Qf):=dD<|by rw[<-hW6];exact Y5.other (by have:=HPO.out;have:=HB3.out;have:=HB2.out;simp;omega) _
 have G6:Xp (zc w W6):=dD<|by rw[<-hW6];exact Below.setCell G5 (p:=⟨po,i,Xb⟩) (by have:=HPO.out;have:=HB3.out;have:=HB2.out;simp;omega) _
 have OT6:Xp (jf (W2.heap.size+2) W6 (us.set i (O ra nm rc)) (t.set i M)):=dD<|by
  rw[<-hW6];exact⟨OT5.len,OT5.tlen,fun j v h hv hh=>(OT5.row j v h hv hh).setOther (fun g' hg'=>HNE.out j v hv g' hg') _,OT5.two⟩
 rw[hW6];clear hW6 p0 pf
 go_wp2_with (first | refine qF rfl (.tmp 10) rfl po rfl P6 HLEN.out ?_ | refine zK rfl 61 (.tmp 6) (.tmp 40) rfl (w.heap.size+2) rfl _ rfl Y6 HLEN zov OT6.new.one ?_)
 intro W7 b7 g7 s7;have B7:Xp (Box W7 (w.heap.size+2) (us.set i (O ra nm rc))):=b7;have G7:Xp (zc w W7):=show zc _ _ from ze G6 g7 (by simp)
 have T7:Xp (ZS 0 w.heap.size W7 (us.set i (O ra nm rc)) (t.set i M)):=show ZS _ _ _ _ _ from
  ⟨OT6.len,OT6.tlen,fun j v h hv hh=>(((OT6.row j v h hv hh).grown g7 (fun g' hg' e=>by
   cases e;have:=((OT6.row j v h hv hh).lt _ hg').1;have:=HB2.out
   omega)).new.stays).less (nR _) (by have:=HB2.out;omega)⟩
 clear b7 g7 s7;go_wp2;refine bodyPost_ret (jj rfl _ rfl B7 underlying61 rfl (by rw[HLEN.out];exact zov)) rfl ⟨_,rfl,T7,G7⟩
def chL (V:MaV) (m:Ma):List Xr:=(mL V m)
theorem qW.grown {D:Nat->Prop} {w:Xo} (hg:w.grownBy w' (Xa b)) (h:D b):qW D w w':=
 ⟨hg.os,hg.tape,hg.output,hg.size,fun k hk hb=>hg.block k hk (fun e=>by cases e;exact hb h)⟩
theorem zt.outD {D:Nat->Prop} {w:Xo} {cs:List Xr} (h:zt w b t cs) (k:qW D w w') (hn:¬D b):zt w' b t cs:=(k.block b h.box.lt hn).trans h
theorem ZS.outD {D:Nat->Prop} {w:Xo} {t:List (List En)} (h:ZS 0 B w us t) (hd:∀k,D k->k<B) (k:qW D w W):Qi W us t:=
 (h.out ⟨k.os,k.tape,k.output,k.size,fun i hi hb=>k.block i hi (fun e=>by have:=hd i e;omega)⟩).now
def znW (m:Ma) (q:Nat) (n:Int):En:=zdn (m.sp.getD q ⟨Xd,[],[]⟩).tb n
def Jl (m:Ma) (q:Nat) (n:Int) (e:En):Ma:={ m with sp:=m.sp.set q { m.sp.getD q ⟨Xd,[],[]⟩with tb:=zeR (m.sp.getD q ⟨Xd,[],[]⟩).tb n e } }
theorem Sp.getD_of {l:List Sp} {q:Nat} {s d:Sp} (h:l[q]? =Xa s):l.getD q d=s:=by
 rw[gD,h];rfl
section
variable{I:Xo->Prop} {P:Program} {ops:Array Oper} {S:Nat->Option (Xr->Prop)} {Q:Act->Xo->Prop}
variable(I P ops S Q)in
abbrev zby:List Oper->Nat->(Xo->Prop)->Act->Prop:=Q2 I P ops S (fun _=>Xd) Q
theorem zG {Q:Exit->Act->Xo->Prop} {a:Act} {w:Xo} {L l r:List Oper} (T:Nat) (S:List (Nat ×(Xr->Prop))) (F:Xo->Prop) (hI:I w.drew) (hF:F w.drew) (hm:P.follows .mixedOrders=Xc) (hB:Qh L.toArray T=Xc) (hl:L.take T=l) (hr:L.drop T=r) (hT:T<=L.length)
  (hS:∀x∈S,∃v,x.2 v) (hch:((S.map (·.1)).all fun i=>(S.map (·.1)).all fun k=>!decide (i<k) || anc L.toArray 9 i k)=Xc)
  (h:zby I P L.toArray (fun k=>S.lookup k) (fun a w=>wpList P L.toArray Q r a w) l 0 F a):(Code.region id L.toArray Xc).wp P Q a w:=
 Q3 T S [] F hI hF hm hB hl hr hT hS (by simpa using hch) rfl h
variable{o:Oper} {rest:List Oper} {k:Nat} {F:Xo->Prop} {a:Act}
theorem zg (ht:zlg o=Xc) (hw:Xz o (yielded ops a.tmps)=Xc) (hS:S k=Xb)
  (h:∀K:Act->Prop,(∀a,zby I P ops S Q rest (k+1) F a->K a)->o.quiet P a (fun w'=>∃x:zj I,w'=x.world) K):zby I P ops S Q (o :: rest) k F a:=jU ht hw hS h
theorem jD (hw:Xz o (yielded ops a.tmps)=Xd) (h:zby I P ops S Q rest (k+1) F (a.put o.dst undef)):zby I P ops S Q (o :: rest) k F a:=zj1 hw h
theorem zH {s:Xr->Prop} (hw:Xz o (yielded ops a.tmps)=Xc) (hS:S k=Xa s) (p:Xr->Xo->Prop)
  (h:∀w,I w->F w->zQ P o a w fun v w'=>I w'/\s v/\p v w')
  (hn:∀v,s v->zby I P ops S Q rest (k+1) (p v) (a.put o.dst v)):zby I P ops S Q (o :: rest) k F a:=zay hw hS p h hn
theorem zI (x:Operand) (p:Addr) (ho:o.op= .nilCheck x) (hx:a.eval x= Xj (Xa p)) (hw:Xz o (yielded ops a.tmps)=Xc) (hS:S k=Xb) (h:zby I P ops S Q rest (k+1) F (a.put o.dst (Xj (Xa p)))):zby I P ops S Q (o :: rest) k F a:=Jb x p ho hx hw hS h
theorem qj (h:∀w,I w->F w->Q a w):zby I P ops S Q [] k F a:=zd0 h
theorem zlU (v:Xr) (hw:Xz o (yielded ops a.tmps)=Xc) (hS:S k=Xb) (h:∀w,I w->(execOp a.eval o).run P w= .ok (.value v) w) (hn:zby I P ops S Q rest (k+1) F (a.put o.dst v)):zby I P ops S Q (o :: rest) k F a:=zax hw hS (fun w hw _=>h w hw) hn
end
def ZP (L L':List Int):Prop:=L=[]->L'=[]
theorem ZP.refl (L:List Int):ZP L L:=fun h=>h
theorem ZP.trans {A B C:List Int} (h:ZP A B) (k:ZP B C):ZP A C:=fun e=>k (h e)
theorem zoH:(Tryz.prog.info? 5).map (·.size)=Xa 1:=by kernel_rfl
theorem zhb {w:Xo} {ad:Addr} {n c:Nat}:(Instr.sliceAt 24 (O (Xa ad) (n+1) c) (Xa (I6 1)) Xb Xb).run prog w= .ok (O (Xa (if c=1 then ad else ad.add 1)) n (c - 1)) w:=by
 have hs:(Go.sizeOf 5).run prog w= .ok 1 w:=by
  obtain⟨i0,h1,h2⟩:∃i0,Tryz.prog.info? 5=Xa i0/\i0.size=1:=by
   have:=zoH
   cases hq:Tryz.prog.info? 5 with
   | none=>rw[hq]at this;cases this
   | some i0=>rw[hq]at this;exact⟨i0,rfl,by simpa using this⟩
  simp[Go.sizeOf,typeInfo,h1,h2]
 have h1:(0:Int)<=1/\(1:Int)<=((n+1:Nat):Int):=by omega
 simp only[Instr.sliceAt,Instr.slice,Instr.sliceBounds,Instr.sliceBound,asIntOf,Xt,Xu,rA,run_underlying underlying24];rw[kE h1];simp only[Xu,rA,hs]
 by_cases hc:c=1
 ·simp[hc]
 simp[hc]
theorem qA {w:Xo} (n:Int) (h:Mk w0 hi w b vl L V m vt T):
  Xq prog 36 #[Xj (Xa ⟨b,0,Xb⟩),I6 n] w fun e w'=>∃vl' L' x,e= Xl (I6 x)/\Mk w0 hi w' b vl' L' V m vt T/\w.grownBy w' (Xa b)/\w'.heap.size=w.heap.size/\0<=x/\(x=0\/x<n)/\(L=[]->x=0)/\ZP L L':=by
 have HM:Xp (Mk w0 hi w b vl L V m vt T):=h;have hbx:=h.box.box;have x0:=hbx.c 0 rfl;have xf:=hbx.f;have hln:=h.lr.n;clear hbx;obtain⟨⟨la,ln,lc⟩,hvl⟩:∃s:Sli,vl=s:=⟨_,rfl⟩;subst hvl;dsimp only[Sli.x]at x0 hln HM;clear h
 by_cases h0:ln=0
 ·subst h0;clear hln
  go_enter func36,ntmps36
  go_wp2;go_ret;exact⟨_,L,0,rfl,HM,World.grownBy.rfl' _ _,rfl,Int.le_refl _,.inl rfl,fun _=>rfl,ZP.refl L⟩
 have h0e:((ln:Int) == 0)=Xd:=by simp;omega
 have h0f:(ln == 0)=Xd:=by simp[h0]
 by_cases h1:n<1
 ·clear h0 hln
  go_enter func36,ntmps36
  go_wp2;go_ret;exact⟨_,L,0,rfl,HM,World.grownBy.rfl' _ _,rfl,Int.le_refl _,.inl rfl,fun _=>rfl,ZP.refl L⟩
 obtain⟨z,L',rfl⟩:∃z L',L=z :: L':=by
  cases L with
  | nil=>simp at hln;omega
  | cons z L'=>exact⟨z,L',rfl⟩
 have hz:=HM.lb z (by simp)
 obtain⟨hz0,hz1⟩:=hz;obtain⟨ad,rfl,hl⟩:=HM.lr.rowsAt 0 z rfl;have d0:w.cell? ad=Xa (U8 z):=by
  have:=hl w HM.gr 0 _ rfl;rw[zX]at this
  simpa [byE,Addr.add]using this
 obtain⟨k,rfl⟩:∃k,ln=k+1:=⟨ln - 1,by omega⟩
 have hcap:k+1<=lc:=HM.lc;have hrun:=zhb (w:=w) (ad:=ad) (n:=k) (c:=lc);clear h0 hl;have hlt:(0:Int)< ((k+1:Nat):Int):=by omega
 obtain⟨ad',had⟩:∃ad',(if lc=1 then ad else ad.add 1)=ad':=⟨_,rfl⟩;rw[had]at hrun;have HL':Xp (zm byE w0 (O (Xa ad') k (lc - 1)) L'):=dD<|by
  obtain⟨⟨xa,xc,q1,q2,q3⟩,q4⟩:=HM.lr;dsimp only[Sli.x]at q1;cases q1;have q5:=q3 ad rfl;refine⟨⟨Xa ad',lc - 1,rfl,fun h=>(by cases h),fun y hy=>?_⟩,?_⟩
  ·cases hy
   by_cases hc:lc=1
   ·have:L'=[]:=by
     have:L'.length=0:=by omega
     exact eN this
    subst this;intro j u hj
    simp at hj
   rw[kF hc]at had;subst had;intro j u hj;rw[zX,Nat.add_comm 1 j];exact q5 (j+1) u (by simpa [byE]using hj)
  have:byE.bytes=1:=rfl;rw[this]at q4⊢
  simp at q4⊢
  omega
 have HBX:Xp (zt (w.setCell ⟨b,0,Xb⟩ (O (Xa ad') k (lc - 1))) b 95 [O (Xa ad') k (lc - 1),V.f.x,I6 m.hand,V.s.x,V.sb.x,V.sq.x,V.db.x,V.dq.x,V.fl.x,I6 m.cnt,V.ca.x,V.sp.x,vt.x]):=HM.box.set 0 _;have HGR:Xp (w.grownBy (w.setCell ⟨b,0,Xb⟩ (O (Xa ad') k (lc - 1))) (Xa b)):=⟨rfl,rfl,rfl,by simp[World.setCell],fun j _ hj=>Below.heap_setCell _ _ _ _ (fun e=>hj (by rw[e]))⟩
 have HSZ:Xp ((w.setCell ⟨b,0,Xb⟩ (O (Xa ad') k (lc - 1))).heap.size=w.heap.size):=dD<|by simp[World.setCell]
 have HMK:Xp (Mk w0 hi (w.setCell ⟨b,0,Xb⟩ (O (Xa ad') k (lc - 1))) b ⟨Xa ad',k,lc - 1⟩ L' V m vt T):=show Mk _ _ _ _ _ _ _ _ _ _ from
  ⟨ze HM.gr HGR HM.hb,HM.hb,HBX,HL',(show k<=lc - 1 by omega),fun y hy=>HM.lb y (by simp[hy]),HM.rows.var HGR HM.box (Nat.le_of_eq HSZ.symm) (.inl rfl)⟩
 have HX:Xp (0<=z % n/\z % n<n):=dD<|⟨Int.emod_nonneg _ (by omega),Int.emod_lt_of_pos _ (by omega)⟩
 clear hln hcap had
 go_enter func36,ntmps36
 go_wp2;go_ret;exact⟨_,L',z % n,rfl,HMK,HGR,HSZ,HX.1,.inr HX.2,fun h=>(by cases h)⟩
theorem zb3 (q:List Int) (i:Nat) (z:Int):pgc (q.set i z)=(pgc q).set i (U8 z):=by
 unfold pgc;rw[List.map_set]
theorem ze0 {q:List Int} {i:Nat} (h:q[i]? =Xa z):(pgc q)[i]? =Xa (U8 z):=by
 unfold pgc;rw[List.getElem?_map,h];rfl
theorem zoI:(Tryz.prog.info? 44).map (·.size)=Xa 8:=by kernel_rfl
theorem zbD {w:Xo} (h:Mk w0 hi w b vl L V m vt T):
  Xq prog 39 #[Xj (Xa ⟨b,0,Xb⟩)] w fun e w'=>∃vl' L' q,e= Xl (Xi (pgc q).toArray)/\q.length=8/\Mk w0 hi w' b vl' L' V m vt T/\w.grownBy w' (Xa b)/\ZP L L':=by
 have HM:Xp (Mk w0 hi w b vl L V m vt T):=h;obtain⟨W0,hW0⟩:=kB ((w.alloc (Xk #[U8 0,U8 0,U8 0,U8 0,U8 0,U8 0,U8 0,U8 0] 44)).alloc (Xk #[U8 0,U8 0,U8 0,U8 0,U8 0,U8 0,U8 0,U8 0] 44));have HG0:=gD2 hW0
 have X0:Xp (zt W0 w.heap.size 44 (pgc zx)):=dD<|by rw[<-hW0];exact(zt.top _ (pgc zx) _ rfl).grew (za _ _)
 have Y0:Xp (zt W0 (w.heap.size+1) 44 (pgc zx)):=dD<|by rw[<-hW0];exact zt.top _ (pgc zx) _ (by simp)
 have HB:Xp (b<w.heap.size):=dD<|h.box.box.lt
 have HH:Xp (hi<=w.heap.size):=dD<|h.rows.hw
 have HW0:Xp (_=W0):=hW0;clear hW0 h
 go_enter func39,ntmps39
 go_upto_region 2 with fail;rw[HW0.out];go_wp2
 go_loopg [5] 8 (fun gg s5 wr=>∃(kk:Nat) (vl':Sli) (L' q:List Int),kk<=8/\8 - kk<=gg/\s5=I6 kk/\Xp (w.grownBy wr (Xa b))/\Xp (Mk w0 hi wr b vl' L' V m vt T)/\Xp (zt wr w.heap.size 44 (pgc zx))/\Xp (zt wr (w.heap.size+1) 44 (pgc q))/\Xp (q.length=8)/\Xp (ZP L L'))
 case atStart=>exact⟨0,vl,L,zx,nZ _,by omega,rfl,zaZ HG0 _,HM.grew HG0,X0,Y0,(show zx.length=8 from rfl),ZP.refl L⟩
 obtain⟨kk,vl',L',q,hkk,hgg,rfl,BW,MW,XW,YW,QL,LL⟩:=hrel
 by_cases hlt:kk<8
 ·have hltz:(kk:Int)<8:=by omega
  have hpk:=qA 4 MW.out;go_wp2_with fail;refine hpk.mono ?_;clear hpk;rintro e W1 ⟨vl2,L2,x,rfl,mk1,gr1,sz1,x0,x1,xn,ll⟩;have hx4:x<4:=by rcases x1 with h|h <;> omega
  have M1:Xp (Mk w0 hi W1 b vl2 L2 V m vt T):=mk1;have B1:Xp (w.grownBy W1 (Xa b)):=jE BW gr1;have X1:Xp (zt W1 w.heap.size 44 (pgc zx)):=XW.beside gr1 (fun g e=>by cases e;have:=HB.out;omega)
  have Y1:Xp (zt W1 (w.heap.size+1) 44 (pgc q)):=YW.beside gr1 (fun g e=>by cases e;have:=HB.out;omega)
  have LL1:=dD (LL.trans ll);clear mk1 gr1 sz1 x1 xn ll;obtain⟨z,hz⟩:∃z,q[kk]? =Xa z:=⟨_,gE (by rw[QL.out];exact hlt)⟩
  have y0:=Y1.box.c kk (ze0 hz);have yf:=Y1.box.f;have GS:Xp (W1.grownBy (W1.setCell ⟨w.heap.size+1,kk,Xb⟩ (U8 x)) (Xa (w.heap.size+1))):=⟨rfl,rfl,rfl,by simp[World.setCell],fun j _ hj=>Below.heap_setCell _ _ _ _ (fun e=>hj (by rw[e]))⟩
  have Y2:Xp (zt (W1.setCell ⟨w.heap.size+1,kk,Xb⟩ (U8 x)) (w.heap.size+1) 44 (pgc (q.set kk x))):=dD<|by rw[zb3];exact Y1.set kk _
  have X2:Xp (zt (W1.setCell ⟨w.heap.size+1,kk,Xb⟩ (U8 x)) w.heap.size 44 (pgc zx)):=X1.beside GS (fun g e=>by cases e;omega)
  have M2:Xp (Mk w0 hi (W1.setCell ⟨w.heap.size+1,kk,Xb⟩ (U8 x)) b vl2 L2 V m vt T):=show Mk _ _ _ _ _ _ _ _ _ _ from
   ⟨ze M1.gr GS (by have:=bS HM.gr;omega),M1.hb,M1.box.beside GS (fun g e=>by cases e;have:=HB.out;omega),M1.lr,M1.lc,M1.lb,M1.rows.var GS Y1 (by simp[World.setCell]) (.inr ⟨rfl,by have:=HH.out;omega⟩)⟩
  have B2:Xp (w.grownBy (W1.setCell ⟨w.heap.size+1,kk,Xb⟩ (U8 x)) (Xa b)):=dD<|⟨B1.os,B1.tape,B1.output,by simp[World.setCell];exact B1.size,fun j hj hn=>by
   rw[Below.heap_setCell _ _ _ _ (by simp;omega)]
   exact B1.block j hj hn⟩
  clear hz;go_wp2
  go_roundg (8 -(kk+1))
  case measure=>omega
  exact⟨kk+1,vl2,L2,q.set kk x,by omega,by omega,by go_num,B2,M2,X2,Y2,(show _=_ by rw[Xw];exact QL),LL1⟩
 have hltz:¬(kk:Int)<8:=by omega
 have:kk=8:=by omega
 subst this;have HP:Xp ((pgc q).length=8):=dD<|by rw[Zs];exact QL.out
 go_wp2_with (first | (refine zR rfl 44 (.tmp 3) rfl (w.heap.size+1) rfl YW.box underlying44 rfl (by rw[HP.out];exact zoI) ?_) | (refine zK rfl 44 (.tmp 2) (.tmp 14) rfl w.heap.size rfl (pgc q) rfl XW.box (by rw[HP.out];rfl) zoI (Zr q) ?_))
 intro W5 hb5 hg5 sz5;have M5:Xp (Mk w0 hi W5 b vl' L' V m vt T):=show Mk _ _ _ _ _ _ _ _ _ _ from
  ⟨ze MW.gr hg5 (bS HM.gr),MW.hb,MW.box.beside hg5 (fun g e=>by cases e;have:=HB.out;omega),MW.lr,MW.lc,MW.lb,MW.rows.var hg5 XW (Nat.le_of_eq sz5.symm) (.inr ⟨rfl,HH⟩)⟩
 have B5:Xp (w.grownBy W5 (Xa b)):=dD<|⟨hg5.os.trans BW.os,hg5.tape.trans BW.tape,hg5.output.trans BW.output,nT BW.size hg5.size,fun j hj hn=>by
  rw[hg5.block j (Yb hj BW.size) (fun e=>by cases e;omega)]
  exact BW.block j hj hn⟩
 go_wp2;refine bodyPost_ret (zZ rfl _ rfl hb5 underlying44 rfl (by rw[HP.out];exact zoI)) rfl ⟨vl',L',q,rfl,QL,M5,B5,LL⟩
def Loc (hi p:Nat) (t:TypeId):Prop:=t≠95/\t≠53/\t≠3/\t≠100/\t≠84/\t≠120/\t≠63/\t≠56/\(t=44->hi<=p)
def zr (hi:Nat) (w w':Xo):Prop:=(∀p t cs,zt w p t cs->Loc hi p t->zt w' p t cs)/\w.heap.size<=w'.heap.size
theorem zr.trans {a b c:Xo} (h:zr hi a b) (k:zr hi b c):zr hi a c:=⟨fun p t cs h1 h2=>k.1 p t cs (h.1 p t cs h1 h2) h2,nT h.2 k.2⟩
theorem zr.grew {a b:Xo} (h:zc a b):zr hi a b:=⟨fun _ _ _ h1 _=>h1.grew h,bS h⟩
theorem zr.kind {g:Nat} {w:Xo} {cs:Array Xr} (hg:w.grownBy w' (Xa g)) (ho:w.heap[g]? =Xa (Xk cs t (0,0))) (hn:∀p,Loc hi p t->p≠g):zr hi w w':=⟨fun p u ds h1 h2=>h1.beside hg (fun k e=>by
 cases e;intro he;subst he;have h3:w.heap[p]? =Xa (Xk ds.toArray u (0,0)):=h1;rw[ho]at h3;simp only[Option.some.injEq,Obj.cells.injEq]at h3;obtain⟨_,rfl,_⟩:=h3;exact hn p h2 rfl),hg.size⟩
theorem Mk.keeps {w:Xo} (h:Mk w0 hi w b vl L V m vt T) (hg:w.grownBy w' (Xa b)):zr hi w w':=zr.kind hg h.box (fun _ hl=>absurd rfl hl.1)
def MkE (w0:Xo) (hi b:Nat) (w:Xo) (L:List Int) (V:MaV) (m:Ma) (vt:Sli) (T:List (Nat->En)) (w':Xo):Prop:=∃vl' L',Mk w0 hi w' b vl' L' V m vt T/\ZP L L'/\zr hi w w'
theorem zno {a n:Nat} (h:0<n):((a:Int) %(n:Int))=((a % n:Nat):Int)/\a % n<n:=⟨by omega,Yp _ h⟩
theorem zfq {w:Xo} (f:Fr) (h:Mk w0 hi w b vl L V m vt T) (hfd:zn3 m f):
  Xq prog 131 #[Xj (Xa ⟨b,0,Xb⟩),Xi (frv f).toArray] w fun e w'=>(e= Xl (I6 (-1))/\MkE w0 hi b w L V m vt T w')\/∃(j:Nat) (q:Fr),e= Xl (I6 (j:Int))/\m.fs[j]? =Xa q/\q.r=0/\MkE w0 hi b w L V { m with fs:=m.fs.set j f } vt T w':=by
 have HM:Xp (Mk w0 hi w b vl L V m vt T):=h;have HFD:Xp (zn3 m f):=show zn3 _ _ from hfd
 clear hfd;obtain⟨W0,hW0⟩:=kB (w.alloc (Xk #[U8 f.p.b0,U8 f.p.b1,U8 f.p.b2,U8 f.p.b3,U8 f.p.b4,U8 f.p.b5,U8 f.p.b6,U8 f.p.b7,I6 f.r,Xh f.u,Xh f.d,I6 f.f,I6 f.x] 53));have HG0:=gA hW0
 have X0:Xp (zt W0 w.heap.size 53 (frv f)):=dD<|by rw[<-hW0];exact zt.top _ (frv f) _ rfl
 have M0:Xp (Mk w0 hi W0 b vl L V m vt T):=h.grew HG0.out;have HNF:Xp (V.f.n=m.fs.length):=h.rows.fs.n;have hbig:V.f.n<=140737488355328:=by
  have h1:=h.rows.fs.2;have h40:Qj.bytes=40:=rfl;rw[h40]at h1;have:=h.rows.fs.n;omega
 have HB:Xp (b<w.heap.size):=dD<|h.box.box.lt
 have HFG:Xp (∀g,(V.f.x).ownBlock=Xa g->g<w.heap.size):=dD<|fun g hg=>(h.rows.fs.lt g hg).2
 have HW0:Xp (_=W0):=hW0;clear hW0 h
 go_enter func131,ntmps131
 go_upto_region 1 with fail;have hw:w.alloc (Xk (frv f).toArray 53)=W0:=HW0.out;try rw[hw]
 try rw[HW0.out]
 clear hw;have x1:=M0.box.box.c 1 rfl;go_upto_region 2 with fail;clear x1;obtain⟨n,HN⟩:=kA V.f.n;rw[HN.out]at hbig⊢;have hpk:=qA (n:Int) M0.out;go_wp2_with fail;refine hpk.mono ?_;clear hpk;rintro e W1 ⟨vl1,L1,x,rfl,mk1,gr1,sz1,x0,x1,xn,ll⟩;obtain⟨fr,rfl⟩:∃fr:Nat,x=(fr:Int):=⟨x.toNat,by omega⟩
 have hfr:fr<=n:=by rcases x1 with h | h <;> omega
 have M1:Xp (Mk w0 hi W1 b vl1 L1 V m vt T):=mk1;have K1:Xp (zr hi w W1):=(zr.grew HG0).trans (M0.keeps gr1);have X1:Xp (zt W1 w.heap.size 53 (frv f)):=X0.beside gr1 (fun g e=>by cases e;have:=HB.out;omega)
 have LL1:Xp (ZP L L1):=ll;clear mk1 gr1 sz1 x1 xn ll x0;go_wp2
 go_loopg [20] n (fun gg s20 wr=>∃i:Nat,i<=n/\n - i<=gg/\s20=I6 i/\wr=W1)
 case atStart=>exact⟨0,nZ _,by omega,rfl,rfl⟩
 obtain⟨i,hi',hgg,rfl,rfl⟩:=hrel
 by_cases hlt:i<n
 ·have hltz:=kC hlt
  have hn0:¬(n:Int)=0:=by omega
  have hn1:((n:Int) == 0)=Xd:=by simp;omega
  obtain⟨j,hj⟩:∃j:Nat,(fr+i) % n=j:=⟨_,rfl⟩;have hjm:((fr:Int)+(i:Int)) %(n:Int)=(j:Int):=by
   rw[<-hj];have:=(zno (a:=fr+i) (n:=n) (by omega)).1
   rw[<-this];rfl
  have hjn:j<n:=by rw[<-hj];exact Yp _ (by omega)
  have hjz:(j:Int)< (n:Int):=by omega
  clear hj;obtain⟨q,HQ⟩:∃q,Xp (m.fs[j]? =Xa q):=⟨_,gE (by rw[<-HNF.out,HN.out];exact hjn)⟩
  obtain⟨g,c',heq⟩:=M1.rows.fs.formS (by rw[<-HNF.out,HN.out];omega)
  have hfl:m.fs.length=n:=by rw[<-HNF.out,HN.out]
  rw[hfl]at heq;have HEQ:Xp (V.f.x= O (Xa ⟨g,0,Xb⟩) n c'):=heq;have x1:=M1.box.box.c 1 rfl;rw[HEQ.out]at x1;have hrw:=M1.rows.fs;rw[HEQ.out]at hrw;have HRW:Xp (zb Qj w0.heap.size wr (O (Xa ⟨g,0,Xb⟩) n c') m.fs):=hrw;have HGL:Xp (g<w.heap.size):=HFG.out g (by rw[HEQ.out];rfl)
  have hce:=hrw.one HQ.out;have d8:wr.cell? ⟨g,j*13+8,Xb⟩=Xa (I6 q.r):=by
   have:=hce 8 _ rfl;rw[zX,Yh,zA]at this;exact this
  clear hce hrw heq hfl
  by_cases hr:q.r=0
  ·have hre:(q.r == 0)=Xc:=by simp[hr]
   have HR0:Xp (q.r=0):=hr;clear hr;go_upto_region 8 with fail;clear d8;obtain⟨I,hI⟩:∃I:Xo->Prop,I=fun u=>zc wr u:=⟨_,rfl⟩
   have HI:Xp (∀u,I u↔zc wr u):=dD<|fun u=>by rw[hI]
   clear hI;have hI0:I wr.drew:=(HI _).2 (gW _)
   have hx1:∀y:zj I,y.world.cell? ⟨b,1,Xb⟩=Xa (O (Xa ⟨g,0,Xb⟩) n c'):=fun y=>by rw[<-HEQ.out];exact(M1.box.box.grew ((HI _).1 y.holds)).c 1 rfl
   have hf0:∀y:zj I,y.world.cell? ⟨w.heap.size,0,Xb⟩=Xa (U8 f.p.b0):=fun y=>(X1.box.grew ((HI _).1 y.holds)).c 0 rfl
   have hf1:∀y:zj I,y.world.cell? ⟨w.heap.size,1,Xb⟩=Xa (U8 f.p.b1):=fun y=>(X1.box.grew ((HI _).1 y.holds)).c 1 rfl
   have hf2:∀y:zj I,y.world.cell? ⟨w.heap.size,2,Xb⟩=Xa (U8 f.p.b2):=fun y=>(X1.box.grew ((HI _).1 y.holds)).c 2 rfl
   have hf3:∀y:zj I,y.world.cell? ⟨w.heap.size,3,Xb⟩=Xa (U8 f.p.b3):=fun y=>(X1.box.grew ((HI _).1 y.holds)).c 3 rfl
   have hf4:∀y:zj I,y.world.cell? ⟨w.heap.size,4,Xb⟩=Xa (U8 f.p.b4):=fun y=>(X1.box.grew ((HI _).1 y.holds)).c 4 rfl
   have hf5:∀y:zj I,y.world.cell? ⟨w.heap.size,5,Xb⟩=Xa (U8 f.p.b5):=fun y=>(X1.box.grew ((HI _).1 y.holds)).c 5 rfl
   have hf6:∀y:zj I,y.world.cell? ⟨w.heap.size,6,Xb⟩=Xa (U8 f.p.b6):=fun y=>(X1.box.grew ((HI _).1 y.holds)).c 6 rfl
   have hf7:∀y:zj I,y.world.cell? ⟨w.heap.size,7,Xb⟩=Xa (U8 f.p.b7):=fun y=>(X1.box.grew ((HI _).1 y.holds)).c 7 rfl
   have hf8:∀y:zj I,y.world.cell? ⟨w.heap.size,8,Xb⟩=Xa (I6 f.r):=fun y=>(X1.box.grew ((HI _).1 y.holds)).c 8 rfl
   have hf9:∀y:zj I,y.world.cell? ⟨w.heap.size,9,Xb⟩=Xa (Xh f.u):=fun y=>(X1.box.grew ((HI _).1 y.holds)).c 9 rfl
   have hf10:∀y:zj I,y.world.cell? ⟨w.heap.size,10,Xb⟩=Xa (Xh f.d):=fun y=>(X1.box.grew ((HI _).1 y.holds)).c 10 rfl
   have hf11:∀y:zj I,y.world.cell? ⟨w.heap.size,11,Xb⟩=Xa (I6 f.f):=fun y=>(X1.box.grew ((HI _).1 y.holds)).c 11 rfl
   have hf12:∀y:zj I,y.world.cell? ⟨w.heap.size,12,Xb⟩=Xa (I6 f.x):=fun y=>(X1.box.grew ((HI _).1 y.holds)).c 12 rfl
   have hne:Nonempty (zj I):=⟨⟨_,hI0⟩⟩;refine ZV (I:=I) 9 [] hI0 zW (by kernel_rfl) rfl rfl (by decide) (by simp) (by kernel_rfl) ?_
   simp only[Yw,Yx];iterate 1 (refine qG rfl rfl rfl (fun K hK=>?_);go_big_quiet_op;refine hK _ ?_;clear hK)
   refine zcf (.tmp 39) ⟨b,0,Xb⟩ rfl rfl rfl rfl ?_;simp only[Yd,sB,sS,sZ];iterate 7 (refine qG rfl rfl rfl (fun K hK=>?_);go_big_quiet_op;refine hK _ ?_;clear hK)
   refine zbE fun W2 hI2 hF=>?_
   have hg2:=(HI _).1 hI2;have M2:=dD (M1.grew hg2);have R2:=dD (HRW.grew hg2);have K2:=dD (K1.trans (zr.grew hg2));clear hg2 hI2 hF hx1 hf0 hf1 hf2 hf3 hf4 hf5 hf6 hf7 hf8 hf9 hf10 hf11 hf12 hne hI0;refine jm (E:=Qj) rfl (.tmp 47) (.tmp 46) rfl w0.heap.size _ m.fs R2 g j rfl f (by rw[<-HNF.out,HN.out];exact hjn) ⟨g,j*13,Xb⟩ rfl rfl (Xi (frv f).toArray) rfl rfl ?_
   intro W3 ow3 gr3 sz3;have M3:Xp (Mk w0 hi W3 b vl1 L1 V { m with fs:=m.fs.set j f } vt T):=dD<|by
    have hob:(V.f.x).ownBlock=Xa g:=by rw[HEQ.out];rfl
    have h2:=M2.out;refine⟨ze h2.gr gr3 (R2.lt g rfl).1,h2.hb,h2.box.beside gr3 (fun k e=>?_),h2.lr,h2.lc,h2.lb,h2.rows.setF hob gr3 sz3 (by rw[HEQ.out];exact ow3) (h2.rows.ap.2.set HFD j)⟩
    cases e;exact R2.ne h2.box (by decide) g rfl
   have K3:Xp (zr hi w W3):=dD<|by
    obtain⟨cs,hcs⟩:=R2.obj (g:=g) rfl;exact K2.trans (zr.kind gr3 hcs (fun _ hl=>absurd rfl hl.2.1))
   clear ow3 gr3 sz3;go_wp2;go_ret;exact .inr ⟨j,q,rfl,HQ,HR0,vl1,L1,M3,LL1,K3⟩
  have hre:(q.r == 0)=Xd:=by simp[hr]
  clear hr;go_wp2
  go_roundg (n -(i+1))
  case measure=>omega
  exact⟨i+1,by omega,by omega,by go_num,rfl⟩
 have hltz:=kD hlt
 go_wp2;go_ret;exact .inl ⟨rfl,vl1,L1,M1,LL1,K1⟩
theorem zgt {ps:List (List Int)} {i:Nat} {l:List Int} (h:∀p∈ps,p.length=8) (hl:l.length=8):∀p∈ps.set i l,p.length=8:=fun p hp=>by
 rcases Yc hp with h1|h1
 ·exact h p h1
 rw[h1];exact hl
theorem jG {w:Xo} {rest:List Oper} {a:Act} (hgd:o.guard=Xb) (p x:Operand) (ho:o.op= .store 44 p x)
  (base:Nat) (v:Xr) (ps:List (List Int)) (hown:zi base w v ps) (g i:Nat) (hg:v.ownBlock=Xa g) (hi:i<ps.length) (l:List Int) (hl:l.length=8)
  (ad:Addr) (hp:a.eval p= Xj (Xa ad)) (had:ad=⟨g,i*8,Xb⟩) (hx:a.eval x= Xi (pgc l).toArray)
  (h:∀w',zi base w' v (ps.set i l)->w.grownBy w' (Xa g)->w'.heap.size=w.heap.size->wpList prog ops Q rest (a.put o.dst undef) w'):wpList prog ops Q (o :: rest) a w:=by
 refine zbo hgd p x 44 ho 8 (by kernel_rfl) base v ps.length _ hown.1 g i hg hi (pgc l) (by rw[Zs,hl]) (Zr l) ad hp had hx fun w' h1 h2 h3=>?_
 rw[Jv l (by rw[Zs,hl]) ps i (fun b hb=>by rw[Zs,hown.2.1 b hb]) hi]at h1
 refine h w' ⟨by rw[Xw];exact h1,zgt hown.2.1 hl,by rw[Xw];exact hown.2.2⟩ h2 h3
def Qe (keep:Nat->Bool):List (Int × List Int)->Nat->List (List Int)->List (List Int)
 | [],_,ps=>ps
 | q :: r,j,ps=>Qe keep r (j+1) (if keep j then ps.set q.1.toNat q.2 else ps)
def zc0 (keep:Nat->Bool) (ps:List (List Int)) (qs:List (Int × List Int)):List (List Int):=if zJ ps.length qs=0 then Qe keep qs 0 ps else []
def zg2 (g:Nat) (lb:Array Xr) (keep:Nat->Bool) (w:Xo):Prop:=
 ∀W (j:Nat),zc w W->j<=400->Xq prog g (#[I6 (j:Int)]++lb) W fun e W'=>e= Xl (Xh (keep j))/\zc W W'
theorem j9 {n:Nat} {qs:List (Int × List Int)} (h:zJ n qs=0):n<=80/\qs.length<=400/\∀q∈qs,∃i:Nat,q.1=(i:Int)/\i<n:=by
 unfold zJ at h
 by_cases h1:80<n
 ·rw[kE h1]at h;omega
 rw[kF h1]at h
 by_cases h2:400<qs.length
 ·rw[kE h2]at h;omega
 rw[kF h2]at h
 by_cases h3:(qs.any fun q=>!jo q.1 n)=Xc
 ·rw[kE h3]at h;omega
 refine⟨by omega,by omega,fun q hq=>?_⟩
 have h4:jo q.1 n=Xc:=by
  cases hb:jo q.1 n with
  | true=>rfl
  | false=>exact absurd (Xx.2 ⟨q,hq,by simp[hb]⟩) h3
 unfold jo at h4
 simp at h4
 obtain⟨i,hi⟩:=Int.eq_ofNat_of_zero_le h4.1;exact⟨i,hi,by omega⟩
theorem zdU (base:Nat) (w:Xo):qg base w (Xi #[eS,eS]) [] []:=
 ⟨_,_,rfl,⟨⟨Xb,0,rfl,fun _=>rfl,fun x hx=>by cases hx⟩,by simp,by simp⟩,⟨⟨Xb,0,rfl,fun _=>rfl,fun x hx=>by cases hx⟩,by simp,by simp⟩,j3 _,j3 _⟩
theorem zjP (w:Xo):qH w (eS) []:=⟨⟨Xb,0,rfl,fun _=>rfl,fun x hx=>by cases hx⟩,by simp,by simp⟩
theorem zhY (keep:Nat->Bool) (g:Nat) (lb:Array Xr) (eg:∀args w,(callFunc g args).run prog w= .ok (.enter g args) w) (d:Xr) (ps:List (List Int)) (qs:List (Int × List Int)) (w:Xo) (hd:j8 w d ps qs) (hs:zg2 g lb keep w):
  Xq prog 120 #[d,.func (.func g) #[] lb] w fun e w'=>∃d',e= Xl (Xm #[d',I6 (zJ ps.length qs)])/\qg w.heap.size w' d' (zc0 keep ps qs) []/\zc w w':=by
 obtain⟨b,q,rfl,hb,hq⟩:=hd;have HB:Xp (qK w b ps):=hb;have HQ:Xp (qH w q qs):=hq;have HS:Xp (zg2 g lb keep w):=hs;obtain⟨ab,cb,rfl,_⟩:=hb.rows;obtain⟨aq,cq,rfl,hrow⟩:=hq.rows;have HR:Xp (ZO w aq qs):=hrow;clear hb hq hs hrow;have HK:Xp (zc0 keep ps qs=if zJ ps.length qs=0 then Qe keep qs 0 ps else []):=rfl;obtain⟨nb,HNB⟩:=kA ps.length;obtain⟨nq,HNQ⟩:=kA qs.length;have hcon:∀W,zc w W->Xq prog 154 #[Xi #[O ab nb cb,O aq nq cq]] W fun e w'=>e= Xl (I6 (zJ ps.length qs))/\zc W w':=fun W hW=>by
  rw[<-HNB.out,<-HNQ.out];exact zaf ab ps.length cb _ qs W (HQ.grew hW)
 have hclone:∀W,zc w W->Xq prog 97 #[O ab nb cb] W fun e w'=>∃v',e= Xl v'/\zi W.heap.size w' v' ps/\zc W w':=fun W hW=>by
  rw[<-HNB.out];exact JR _ ps W (HB.grew hW)
 rw[HNB.out,HNQ.out];obtain⟨r,HW⟩:=kA (zJ ps.length qs);rw[HW.out]at HK;simp only[HW.out]at hcon;have HW':Xp (zJ nb qs=r):=dD<|by rw[<-HNB.out];exact HW.out
 rw[HW'.out];have HG0:Xp (zc w ((w.alloc (Xk #[O ab nb cb,O aq nq cq] 34)).alloc (Xk #[eS,eS] 34))):=dD<|(za _ _).trans (za _ _)
 by_cases hr:r=0
 ·subst hr;rw[kE rfl]at HK;obtain⟨hn80,hq400,hin⟩:=j9 HW.out;have HIN:Xp (∀q∈qs,∃i:Nat,q.1=(i:Int)/\i<ps.length):=hin;have hnq:nq<=400:=by rw[<-HNQ.out];exact hq400
  clear hin hq400 hn80
  go_enter func120,ntmps120
  go_wp2_with (first
   | (go_at_call 154;refine(hcon _ HG0).mono ?_;rintro e W1 ⟨rfl,hg1⟩;have e0:W1.cell? ⟨w.heap.size,0,Xb⟩=Xa (O ab nb cb):=(Below.cell hg1 (by simp;omega)).trans (by simp);have e1:W1.cell? ⟨w.heap.size,1,Xb⟩=Xa (O aq nq cq):=(Below.cell hg1 (by simp;omega)).trans (by simp);have HG1:Xp (zc w W1):=HG0.trans hg1)
   | (go_at_call 97;refine(hclone _ HG1).mono ?_;rintro e W2 ⟨v,rfl,ow,hg2⟩;have j1:W2.cell? ⟨w.heap.size,1,Xb⟩=Xa (O aq nq cq):=(Below.cell hg2 (World.block_lt_of_cell? _ _ e1)).trans e1;have OW:Xp (zi W1.heap.size W2 v ps):=ow;have HG2:Xp (zc w W2):=HG1.trans hg2))
  have HS1:Xp (w.heap.size+2<=W1.heap.size):=dD<|by have:=bS hg1;simpa using this
  have HS2:Xp (W1.heap.size<=W2.heap.size):=bS hg2;have c2:W2.cell? ⟨w.heap.size+1,0,Xb⟩=Xa (eS):=(Below.cell (hg1.trans hg2) (by simp)).trans (by simp)
  have c3:W2.cell? ⟨w.heap.size+1,1,Xb⟩=Xa (eS):=(Below.cell (hg1.trans hg2) (by simp)).trans (by simp)
  have f2:W2.frozen? ⟨w.heap.size+1,0,Xb⟩=Xd:=(Below.frozen (hg1.trans hg2) (by simp)).trans (by simp)
  have f3:W2.frozen? ⟨w.heap.size+1,1,Xb⟩=Xd:=(Below.frozen (hg1.trans hg2) (by simp)).trans (by simp)
  have C2:Xp (W2.cell? ⟨w.heap.size+1,0,Xb⟩=Xa (eS)):=c2;have C3:Xp (W2.cell? ⟨w.heap.size+1,1,Xb⟩=Xa (eS)):=c3;have F2:Xp (W2.frozen? ⟨w.heap.size+1,0,Xb⟩=Xd):=f2;have F3:Xp (W2.frozen? ⟨w.heap.size+1,1,Xb⟩=Xd):=f3;have HL:Xp (∀(j:Nat) q,qs[j]? =Xa q->qs.drop j=q :: qs.drop (j+1)):=show∀(j:Nat) q,_ from fun j q h=>by
   obtain⟨hlt,rfl⟩:=gS.1 h;exact List.drop_eq_getElem_cons hlt
  clear e0 e1 j1 hg1 hg2 c2 c3 f2 f3 hcon hclone ow
  go_loopg [8,9,22] nq (fun gg _ _ s22 wr=>∃(kk:Nat) (pk:List (List Int)),kk<=nq/\nq - kk<=gg/\s22=I6 kk/\Xp (Below W1.heap.size W2 wr)/\Xp (zi W1.heap.size wr v pk)/\Xp (pk.length=nb)/\Xp (Qe keep (qs.drop kk) kk pk=Qe keep qs 0 ps))
  case atStart=>exact⟨0,ps,nZ _,by omega,rfl,bR _ _,OW,HNB,rfl⟩
  obtain⟨kk,pk,hkk,hgg,rfl,BW,OP,HP,HST⟩:=hrel;have GW:Xp (zc w wr):=dD<|Below.trans HG2 (BW.mono (by have:=HS1.out;omega))
  by_cases hlt:kk<nq
  ·have hltz:=kC hlt
   obtain⟨q,HQK⟩:∃q,Xp (qs[kk]? =Xa q):=⟨_,gE (by rw[HNQ.out];exact hlt)⟩
   obtain⟨x,m,b0,b1,b2,b3,b4,b5,b6,b7,rfl,rfl,hl⟩:=HR.out kk q HQK.out;obtain⟨d0,d1,d2,d3,d4,d5,d6,d7,d8⟩:=hl wr GW.out;obtain⟨i,hmi,hi⟩:=HIN.out _ (mG HQK);simp only at hmi;subst hmi;have hinb:i<nb:=by rw[<-HNB.out];exact hi
   have hib:(i:Int)< (nb:Int):=by omega
   have hi0:(0:Int)<=(i:Int):=by omega
   have hcall:=HS.out (wr.alloc (Xk #[I6 (i:Int),U8 b0,U8 b1,U8 b2,U8 b3,U8 b4,U8 b5,U8 b6,U8 b7] 100)) kk (GW.trans (za _ _)) (by omega)
   have hnext:=HL.out kk _ HQK.out;have HN:Xp (qs.drop kk=((i:Int),[b0,b1,b2,b3,b4,b5,b6,b7]) :: qs.drop (kk+1)):=hnext;clear hl hnext hi;obtain⟨gv,cap,rfl,hgv⟩:∃gv cap,v= O (Xa ⟨gv,0,Xb⟩) nb cap/\W1.heap.size<=gv:=by
    rcases OP.1.2 with⟨_,h0⟩|⟨gv,cap,cur,h0,h1,_⟩
    ·have:=HP.out;omega
    exact⟨gv,cap,by rw[h0,HP.out],h1⟩
   have HGV:Xp (W1.heap.size<=gv):=hgv;clear hgv
   cases hk:keep kk with
   | true=>
    rw[hk]at hcall
    go_wp2_with (first
     | (
      go_at_fn g;refine hcall.mono ?_;rintro e W3 ⟨rfl,hg3⟩
      have a0:W3.cell? ⟨wr.heap.size,0,Xb⟩=Xa (I6 (i:Int)):=(Below.cell hg3 (by simp)).trans (by simp)
      have a1:W3.cell? ⟨wr.heap.size,1,Xb⟩=Xa (U8 b0):=(Below.cell hg3 (by simp)).trans (by simp)
      have a2:W3.cell? ⟨wr.heap.size,2,Xb⟩=Xa (U8 b1):=(Below.cell hg3 (by simp)).trans (by simp)
      have a3:W3.cell? ⟨wr.heap.size,3,Xb⟩=Xa (U8 b2):=(Below.cell hg3 (by simp)).trans (by simp)
      have a4:W3.cell? ⟨wr.heap.size,4,Xb⟩=Xa (U8 b3):=(Below.cell hg3 (by simp)).trans (by simp)
      have a5:W3.cell? ⟨wr.heap.size,5,Xb⟩=Xa (U8 b4):=(Below.cell hg3 (by simp)).trans (by simp)
      have a6:W3.cell? ⟨wr.heap.size,6,Xb⟩=Xa (U8 b5):=(Below.cell hg3 (by simp)).trans (by simp)
      have a7:W3.cell? ⟨wr.heap.size,7,Xb⟩=Xa (U8 b6):=(Below.cell hg3 (by simp)).trans (by simp)
      have a8:W3.cell? ⟨wr.heap.size,8,Xb⟩=Xa (U8 b7):=(Below.cell hg3 (by simp)).trans (by simp)
      have OP3:Xp (zi W1.heap.size W3 (O (Xa ⟨gv,0,Xb⟩) nb cap) pk):=OP.grew ((za _ _).trans hg3))
     | (refine jG rfl (.tmp 35) (.tmp 34) rfl W1.heap.size _ pk OP3 gv i rfl (by rw[HP.out];exact hinb) [b0,b1,b2,b3,b4,b5,b6,b7] rfl _ rfl (by simp) rfl ?_;intro W4 ow4 gr4 sz4))
    go_roundg (nq -(kk+1))
    case measure=>omega
    refine⟨kk+1,pk.set i [b0,b1,b2,b3,b4,b5,b6,b7],by omega,by omega,by go_num,?_,ow4,(show Xp _ from by rw[Xw];exact HP),?_⟩
    ·exact Below.grown (zhJ BW (by have:=BW.size;have:=HS2.out;omega) ((za _ _).trans hg3)) gr4 (by have:=BW.size;have:=HS2.out;have:=bS ((za wr _).trans hg3);omega) (fun k hk=>by cases hk;exact HGV)
    show Qe keep (qs.drop (kk+1)) (kk+1) (pk.set i _)=_
    rw[<-HST.out,HN.out]
    simp[Qe,hk]
   | false=>
    rw[hk]at hcall
    go_wp2_with (go_at_fn g;refine hcall.mono ?_;rintro e W3 ⟨rfl,hg3⟩)
    go_roundg (nq -(kk+1))
    case measure=>omega
    refine⟨kk+1,pk,by omega,by omega,by go_num,?_,OP.grew ((za _ _).trans hg3),HP,?_⟩
    ·exact zhJ BW (by have:=BW.size;have:=HS2.out;omega) ((za _ _).trans hg3)
    show Qe keep (qs.drop (kk+1)) (kk+1) pk=_
    rw[<-HST.out,HN.out]
    simp[Qe,hk]
  have hltz:=kD hlt
  have:kk=nq:=by omega
  subst this;have c2:wr.cell? ⟨w.heap.size+1,0,Xb⟩=Xa (eS):=(Below.cell BW (p:=⟨w.heap.size+1,0,Xb⟩) (by have:=HS1.out;show w.heap.size+1<_;omega)).trans C2.out
  have c3:wr.cell? ⟨w.heap.size+1,1,Xb⟩=Xa (eS):=(Below.cell BW (p:=⟨w.heap.size+1,1,Xb⟩) (by have:=HS1.out;show w.heap.size+1<_;omega)).trans C3.out
  have f2:wr.frozen? ⟨w.heap.size+1,0,Xb⟩=Xd:=(Below.frozen BW (p:=⟨w.heap.size+1,0,Xb⟩) (by have:=HS1.out;show w.heap.size+1<_;omega)).trans F2.out
  have f3:wr.frozen? ⟨w.heap.size+1,1,Xb⟩=Xd:=(Below.frozen BW (p:=⟨w.heap.size+1,1,Xb⟩) (by have:=HS1.out;show w.heap.size+1<_;omega)).trans F3.out
  obtain⟨av,nv,cv,rfl⟩:=OP.slice;go_wp2;refine bodyPost_ret (v:= Xm #[Xi #[O av nv cv,eS],I6 0]) (by simp[results,Tryz.results120,go_sem, *]) rfl ⟨_,rfl,⟨_,_,rfl,?_,zjP _,fun x n c e=>nT (by have:=HS1.out;omega) (OP.fresh x n c e),j3 _⟩,?_⟩
  ·rw[HK.out];have e:Qe keep qs 0 ps=pk:=by
    rw[<-HST.out,List.drop_of_length_le (by rw[HNQ.out];exact nR _)]
    rfl
   rw[e];exact((OP.setCell (by have:=HS1.out;show w.heap.size+1<_;omega) _).setCell (by have:=HS1.out;show w.heap.size+1<_;omega) _).at
  exact Below.setCell (Below.setCell GW (p:=⟨w.heap.size+1,0,Xb⟩) (by simp) _) (p:=⟨w.heap.size+1,1,Xb⟩) (by simp) _
 have hne:(r != 0)=Xc:=by simpa using hr
 rw[kF hr]at HK
 go_enter func120,ntmps120
 go_wp2_with (
  go_at_call 154;refine(hcon _ HG0).mono ?_;rintro e W1 ⟨rfl,hg1⟩
  have c2:W1.cell? ⟨w.heap.size+1,0,Xb⟩=Xa (eS):=(Below.cell hg1 (by simp)).trans (by simp)
  have c3:W1.cell? ⟨w.heap.size+1,1,Xb⟩=Xa (eS):=(Below.cell hg1 (by simp)).trans (by simp)
  have f2:W1.frozen? ⟨w.heap.size+1,0,Xb⟩=Xd:=(Below.frozen hg1 (by simp)).trans (by simp)
  have f3:W1.frozen? ⟨w.heap.size+1,1,Xb⟩=Xd:=(Below.frozen hg1 (by simp)).trans (by simp)
  have HG1:Xp (zc w W1):=HG0.trans hg1)
 refine bodyPost_ret (v:= Xm #[Xi #[eS,eS],I6 r]) (by simp[results,Tryz.results120,go_sem, *]) rfl ⟨_,rfl,?_,?_⟩
 ·rw[HK.out];exact zdU _ _
 exact Below.setCell (Below.setCell HG1 (p:=⟨w.heap.size+1,0,Xb⟩) (by simp) _) (p:=⟨w.heap.size+1,1,Xb⟩) (by simp) _
def QT (n:Int):Int:=if 0<=n/\n<=80 then 0 else 4
def zhm (n:Int):List (List Int):=if 0<=n/\n<=80 then Xs n.toNat zx else []
theorem zdi (n:Nat):(madeCells #[U8 0,U8 0,U8 0,U8 0,U8 0,U8 0,U8 0,U8 0] (n*8)).toList=(Xs n zx).flatMap pgc:=by
 have hl:((Xs n zx).flatMap pgc).length=n*8:=by rw[qI (k:=8) _ (fun a ha=>by rw[Xv ha];rfl)];simp
 apply List.ext_getElem?
 intro j
 rcases Nat.lt_or_ge j (n*8)with h|h
 ·have hj:j=j / 8*8+j % 8:=by omega
  have h8:j % 8<8:=Yp _ (by decide)
  have hq:j / 8<n:=by omega
  have hz:(pgc zx)[j % 8]? =Xa (U8 0):=by
   generalize j % 8=k at h8
   match k,h8 with
   | 0,_=>rfl
   | 1,_=>rfl
   | 2,_=>rfl
   | 3,_=>rfl
   | 4,_=>rfl
   | 5,_=>rfl
   | 6,_=>rfl
   | 7,_=>rfl
  have h1:=qE (enc:=pgc) (k:=8) (Xs n zx) (j / 8) zx (fun a ha=>by rw[Xv ha];rfl) (by simp[hq]) (j % 8) _ hz
  rw[<-hj]at h1;rw[h1];have:(#[U8 0,U8 0,U8 0,U8 0,U8 0,U8 0,U8 0,U8 0]:Array Xr)[j % 8]! =U8 0:=by
   generalize j % 8=k at h8
   match k,h8 with
   | 0,_=>rfl
   | 1,_=>rfl
   | 2,_=>rfl
   | 3,_=>rfl
   | 4,_=>rfl
   | 5,_=>rfl
   | 6,_=>rfl
   | 7,_=>rfl
  simp[madeCells,h]
  simpa using this
 rw[gN (by simp[madeCells];exact h),gN (by rw[hl];exact h)]
theorem zaN {w:Xo} {rest:List Oper} {a:Act} (hgd:o.guard=Xb) (l:Operand) (ho:o.op= .makeSlice 31 l l) (n:Nat) (hl:a.eval l=I6 n) (hn:n<=80)
  (h:∀C,zi w.heap.size (w.alloc (Xk C 44)) (O (Xa ⟨w.heap.size,0,Xb⟩) n n) (Xs n zx)->wpList prog ops Q rest (a.put o.dst (O (Xa ⟨w.heap.size,0,Xb⟩) n n)) (w.alloc (Xk C 44))):wpList prog ops Q (o :: rest) a w:=by
 refine wpList_plain hgd fun K hK=>?_
 obtain⟨i0,hi,hz0,hz1,hz2⟩:=info_parts zop;have hrun:=run_make (P:=prog) w 31 44 i0 _ underlying31 hi hz0 .i64 .i64 n n (by omega) (Int.le_refl _) (by rw[hz2];omega) (by omega)
 rw[hz1,tN]at hrun;unfold Oper.wp;simp only[execOp,ho,hl,Xt,hrun,Result.andThen,Xu,Oper.upon];refine hK _ _ (h _ ⟨⟨?_,.inr ⟨w.heap.size,n,madeCells #[U8 0,U8 0,U8 0,U8 0,U8 0,U8 0,U8 0,U8 0] (n*8),by rw[lR],nR _,?_,?_,?_,?_,?_⟩⟩,fun p hp=>by rw[Xv hp];rfl,by rw[lR];omega⟩)
 ·rw[qI (k:=8) _ (fun a ha=>by rw[Xv ha];rfl)]
 ·show(w.heap.push _)[w.heap.size]? =_
  simp[Value.cells]
 ·rw[lR];exact nR _
 ·exact qC (by omega)
 ·rw[size_madeCells]
 rw[lR]
 show(madeCells #[U8 0,U8 0,U8 0,U8 0,U8 0,U8 0,U8 0,U8 0] (n*8)).toList.take (n*8)=_
 rw[List.take_of_length_le (by simp[madeCells]),zdi]
theorem zm5 (n:Int) (w:Xo):
  Xq prog 124 #[I6 n] w fun e w'=>∃d',e= Xl (Xm #[d',I6 (QT n)])/\qg w.heap.size w' d' (zhm n) []/\zc w w':=by
 by_cases h:0<=n/\n<=80
 ·have HE:Xp (QT n=0):=dD<|by unfold QT;rw[kE h]
  have HD:Xp (zhm n=Xs n.toNat zx):=dD<|by unfold zhm;rw[kE h]
  obtain⟨k,rfl⟩:=Int.eq_ofNat_of_zero_le h.1;have h0:¬(k:Int)<0:=by omega
  have h1:¬(80:Int)< (k:Int):=by omega
  have hk:k<=80:=by omega
  have HG0:Xp (zc w (w.alloc (Xk #[eS,eS] 34))):=za _ _;rw[HE.out]
  go_enter func124,ntmps124
  go_wp2_with (refine zaN rfl (.tmp 11) rfl k rfl hk ?_;intro C ow;have OW:Xp (zi (w.alloc (Xk #[eS,eS] 34)).heap.size ((w.alloc (Xk #[eS,eS] 34)).alloc (Xk C 44)) (O (Xa ⟨(w.alloc (Xk #[eS,eS] 34)).heap.size,0,Xb⟩) k k) (Xs k zx)):=ow;clear ow)
  refine bodyPost_ret (v:= Xm #[Xi #[O (Xa ⟨w.heap.size+1,0,Xb⟩) k k,eS],I6 0]) (by simp[results,Tryz.results124,go_sem, *]) rfl ⟨_,rfl,?_,?_⟩
  ·rw[HD.out];have ho:=OW.out;rw[World.size_alloc]at ho;exact⟨_,_,rfl,zi.at (base:=w.heap.size+1) ⟨ze4 ho.1 (fun k hk=>zg0 w _ _ _ k hk),ho.2⟩,zjP _,fun x n c e=>by cases e;simp,j3 _⟩
  exact(za _ _).trans (za _ _)
 have HE:Xp (QT n=4):=dD<|by unfold QT;rw[kF h]
 have HD:Xp (zhm n=[]):=dD<|by unfold zhm;rw[kF h]
 rw[HE.out,HD.out]
 by_cases h0:n<0
 ·clear h
  go_enter func124,ntmps124
  go_wp2;refine bodyPost_ret (v:= Xm #[Xi #[eS,eS],I6 4]) (by simp[results,Tryz.results124,go_sem]) rfl ⟨_,rfl,zdU _ _,?_⟩
  exact za _ _
 have h1:(80:Int)<n:=by omega
 clear h
 go_enter func124,ntmps124
 go_wp2;refine bodyPost_ret (v:= Xm #[Xi #[eS,eS],I6 4]) (by simp[results,Tryz.results124,go_sem]) rfl ⟨_,rfl,zdU _ _,?_⟩
 exact za _ _
end
section
open Go.RowKit Go.Shelf
section
attribute [local go_sem] Oper.semAt_some
structure P9 where
  (i m b0 b1 b2 b3 b4 b5 b6 b7 : Int)
def P9.q (x : P9) : Int × List Int := (x.m, [x.b0, x.b1, x.b2, x.b3, x.b4, x.b5, x.b6, x.b7])
def P9.encs (x : P9) : Array Value := #[.int .i64 x.i, .agg #[.int .i64 x.m, .int .u8 x.b0, .int .u8 x.b1, .int .u8 x.b2, .int .u8 x.b3, .int .u8 x.b4, .int .u8 x.b5, .int .u8 x.b6, .int .u8 x.b7]]
theorem zhE {α : Type} (l : List α) (k : Nat) (q : α) (h : l[k]? = Xa q) : (l.drop k).reverse = (l.drop (k + 1)).reverse ++ [q] := by
  obtain ⟨hlt, rfl⟩ := List.getElem?_eq_some_iff.1 h
  rw [List.drop_eq_getElem_cons hlt, List.reverse_cons]
theorem zmm {α : Type} (l : List α) (k : Nat) : (l.drop k).reverse <+: l.reverse := by
  refine ⟨(l.take k).reverse, ?_⟩
  rw [<- Yn, List.take_append_drop]
theorem zmx (F : Fence) (n : Nat) (hF : F.fn 202) (hro : F.round = Xb) (hn : 1 <= n) (l Bs n₀ : Nat) (w : Xo) (a : Option Addr) (c : Nat) (qs : List (Int × List Int)) (hr : ZO w a qs) (hbig : qs.length <= 9223372036854775807) (hw : w.heap.size <= n₀) (hBn : Bs < n₀) (J Jx : List P9 -> Xo -> Prop)
    (hY : ∀ pre x W, J pre W -> pre.length < qs.length -> YieldAt F (n - 1) Tryz.prog l (P9.encs x) W fun e W' =>
      (e = Xl (Xh Xc) /\ J (pre ++ [x]) W' /\ Below n₀ W W') \/ (e = Xl (Xh Xd) /\ Jx (pre ++ [x]) W'))
    (W : Xo) (hgW : zc w W) (hBs : W.cell? ⟨Bs, 0, Xb⟩ = Xa (O a qs.length c)) (h0 : J [] W) :
    CallsIn F n Tryz.prog 202 #[.func (.yield l) #[] #[], Xj (Xa ⟨Bs, 0, Xb⟩)] W fun e W' => (∃ v, e = Xl v) /\
      ((∃ ys, ys.map P9.q = qs.reverse /\ J ys W') \/ (∃ pre, pre.map P9.q <+: qs.reverse /\ Jx pre W')) := by
  have HR : Xp (ZO w a qs) := hr
  have HY : Hid _ := hY
  obtain ⟨nq, HN⟩ : ∃ nq, Hid (qs.length = nq) := ⟨_, rfl⟩
  rw [HN.out] at hbig hBs
  have HBS : Hid (W.cell? ⟨Bs, 0, none⟩ = some (.slice a nq c)) := hBs
  have HGW : Xp (zc w W) := hgW
  clear hr hY hgW
  refine callsIn_of_wp Tryz.func202 rfl hF ?_ hro
  simp only [Tryz.ntmps202, List.size_toArray, List.length_cons, List.length_nil, Nat.reduceAdd, Nat.reduceSub, Array.replicate_succ, Array.replicate_zero, List.push_toArray, List.append_toArray, List.nil_append, List.cons_append]
  gi_wp2
  clear hBs
  gi_loopw [3] (fun p wr => ∃ (r : Nat) (pre : List P9), r <= nq /\ p = Xe Xf ((r : Int) - 1) /\ Xp (pre.map P9.q = (qs.drop r).reverse) /\ Xp (J pre wr) /\ Xp (Below n₀ W wr))
    (fun p _ => ((intOf p) + 1).toNat)
  case atStart => exact ⟨nq, [], Nat.le_refl _, by go_num, (show Hid _ from by rw [List.drop_of_length_le (by rw [HN.out]; exact Nat.le_refl _)]; rfl), h0, Below.refl _ _⟩
  case round =>
    obtain ⟨r, pre, hrn, rfl, HP, HJ, HB⟩ := hrel
    cases r with
    | zero =>
      gi_wp2
      go_end0
      exact ⟨⟨_, rfl⟩, .inl ⟨pre, by rw [HP.out]; rfl, HJ.out⟩⟩
    | succ k =>
      obtain ⟨q, HQ⟩ : ∃ q, Hid (qs[k]? = some q) := ⟨_, List.getElem?_eq_getElem (by rw [HN.out]; omega)⟩
      obtain ⟨x, m, b0, b1, b2, b3, b4, b5, b6, b7, rfl, rfl, hl⟩ := HR.out k q HQ.out
      obtain ⟨d0, d1, d2, d3, d4, d5, d6, d7, d8⟩ := hl wr (Below.trans HGW.out (HB.out.mono hw))
      have hbs : wr.cell? ⟨Bs, 0, none⟩ = some (.slice (some x) nq c) := (HB.out.cell (p := ⟨Bs, 0, none⟩) hBn).trans HBS.out
      have hlen : pre.length < qs.length := by
        have := congrArg List.length HP.out
        rw [List.length_map, List.length_reverse, List.length_drop] at this
        have := HN.out
        omega
      obtain ⟨fn, tmps, assign, body, hy, hR⟩ := HY.out pre ⟨k, m, b0, b1, b2, b3, b4, b5, b6, b7⟩ wr HJ.out hlen
      simp only [P9.encs] at hy
      have hk1 : ((k + 1 : Nat) : Int) - 1 = (k : Int) := by omega
      have hkn : (k : Int) < (nq : Int) := by omega
      rw [hk1]
      clear hl
      gi_wp2
      refine hR.mono ?_
      rintro e W3 (⟨rfl, hJ3, hk3⟩ | ⟨rfl, hJx3⟩)
      · gi_wp2
        go_roundw
        case rel => exact ⟨k, _, by omega, by go_num, (show Xp _ from by rw [List.map_append, HP.out, zhE qs k _ HQ.out]; rfl), hJ3, (show Xp _ from HB.out.trans hk3)⟩
        case measure => simp [intOf]
      · gi_wp2
        refine bodyPost_ret (results_none rfl _ _ _) rfl ?_
        refine ⟨⟨_, rfl⟩, .inr ⟨_, ?_, hJx3⟩⟩
        rw [List.map_append, HP.out]
        have := zmm qs k
        rw [zhE qs k _ HQ.out] at this
        exact this
theorem znu (F : Fence) (n : Nat) (hF : F.fn 172) (hro : F.round = Xb) (a : Option Addr) (len cap : Nat) (w : Xo) :
    CallsIn F n Tryz.prog 172 #[O a len cap] w fun e w' => e = Xl (.func (.func 202) #[] #[Xj (Xa ⟨w.heap.size, 0, Xb⟩)]) /\ w' = w.alloc (Xk #[O a len cap] 32) := by
  refine callsIn_of_wp Tryz.func172 rfl hF ?_ hro
  simp only [Tryz.ntmps172, List.size_toArray, List.length_cons, List.length_nil, Nat.reduceAdd, Nat.reduceSub, Array.replicate_succ, Array.replicate_zero, List.push_toArray, List.append_toArray, List.nil_append, List.cons_append]
  gi_wp2
  go_ret
  exact ⟨rfl, rfl⟩
theorem zi4 (F : Fence) (n : Nat) (hF : F.fn 202) (hro : F.round = Xb) (hn : 1 <= n) (Bs n₀ : Nat) (w0 : Xo) (a : Option Addr) (c : Nat) (qs : List (Int × List Int)) (hr : ZO w0 a qs) (hbig : qs.length <= 9223372036854775807) (w : Xo) (hg : zc w0 w) (hBs : Bs < n₀) (hn₀ : n₀ = w.heap.size)
    (hc : w.cell? ⟨Bs, 0, none⟩ = some (.slice a qs.length c)) :
    SeqStopsK F n Tryz.prog 202 #[.pointer (some ⟨Bs, 0, none⟩)] P9.encs (Below n₀) (fun ys => ys.map P9.q = qs.reverse) (fun pre => pre.map P9.q <+: qs.reverse) qs.length w := fun l J Jx W hW _ _ hY h0 => by
  subst hn₀
  exact zmx F n hF hro hn l Bs w.heap.size w0 a c qs hr hbig (Below.size hg) hBs J Jx hY W (hg.trans hW) ((hW.cell (p := ⟨Bs, 0, Xb⟩) hBs).trans hc) h0
end
section
attribute [local go_sem] Oper.semAt_some
theorem zet {β:Type} (B:Nat) (f:β->List Xr):Own (fun s W=>Box W B (f s)):=fun s X Y row hs hg hrow=>by
 have hlt:=hs.lt;obtain⟨t,h⟩:=hs;refine⟨t,?_⟩;rw[hg.block B hlt (fun e=>?_)]
 ·exact h
 obtain⟨o,ho,hc⟩:=hrow B e.symm;rw[h]at ho;cases ho;cases hc
theorem Box.put {D:Nat} {cs:List Xr} {o:Obj} (h:Box W b cs) (o':Obj) (hD:W.heap[D]? =Xa o) (ho:o.isCells=Xd):Box (W.putObj D o') b cs:=
 zet b (fun _:Unit=>cs) () W _ (Xa D) h (grownBy_putObj' W D o') (fun r e=>by cases e;exact⟨o,hD,ho⟩)
theorem jN {A B:Xo} (h:KeepsOthers A B) (a:Addr) (u:Xr):KeepsOthers A (B.setCell a u):=h.trans (KeepsOthers.setCell _ _ _)
theorem zkr {qs:List (Int × List Int)} {ys:List P9} {m:Int} (h:ys.map P9.q=qs.reverse) (hne:∀x∈ys,x.m≠m):qs.reverse.find? (fun q=>q.1 == m)=Xb:=by
 rw[<-h,Yq];intro q hq;obtain⟨x,hx,rfl⟩:=Yr.1 hq
 simpa [P9.q]using hne x hx
theorem zkq {qs:List (Int × List Int)} {ini:List P9} {x:P9} {m:Int} (h:(ini++ [x]).map P9.q<+:qs.reverse) (hne:∀y∈ini,y.m≠m) (hx:x.m=m):qs.reverse.find? (fun q=>q.1 == m)=Xa x.q:=by
 obtain⟨t,ht⟩:=h;rw[<-ht,List.map_append,Ys,Yt];have h1:(ini.map P9.q).find? (fun q=>q.1 == m)=Xb:=by
  rw[Yq];intro q hq;obtain⟨y,hy,rfl⟩:=Yr.1 hq
  simpa [P9.q]using hne y hy
 rw[h1]
 simp[P9.q,hx]
theorem qz {n:Nat} {qs:List (Int × List Int)} {m:Int} (h:zo n qs m=0):zJ n qs=0/\∃i:Nat,m=(i:Int)/\i<n:=by
 unfold zo at h
 by_cases h1:zJ n qs=0
 ·rw[kE h1]at h;refine⟨h1,?_⟩
  cases hb:jo m n with
  | false=>rw[hb]at h;simp at h
  | true=>
   unfold jo at hb
   simp at hb
   obtain⟨i,hi⟩:=Int.eq_ofNat_of_zero_le hb.1;exact⟨i,hi,by omega⟩
 rw[kF h1]at h;exact absurd h h1
theorem zlo (d:Xr) (ps:List (List Int)) (qs:List (Int × List Int)) (m:Int) (w:Xo) (hd:j8 w d ps qs):
  Xq prog 134 #[d,I6 m] w fun e w'=>e= Xl (Xm #[Xi (pgc (jt ps qs m)).toArray,I6 (zo ps.length qs m)])/\zc w w':=by
 obtain⟨b,q,rfl,hb,hq⟩:=hd;have HB:Xp (qK w b ps):=hb;have HQ:Xp (qH w q qs):=hq;obtain⟨ab,cb,rfl,hrb⟩:=hb.rows;obtain⟨aq,cq,rfl,hrq⟩:=hq.rows;have HRB:Xp (zbH w ab ps):=hrb;have HRQ:Xp (ZO w aq qs):=hrq;clear hb hq hrb hrq;have HL:Xp (jt ps qs m=if zo ps.length qs m=0 then(match qs.reverse.find? (fun q=>q.1 == m)with|some q=>q.2|none=>ps.getD m.toNat zx)else zx):=rfl
 obtain⟨W0,hW0⟩:=kB ((((w.alloc (Xk #[O ab ps.length cb,O aq qs.length cq] 34)).alloc (Xk #[I6 m] 3)).alloc (Xk #[U8 0,U8 0,U8 0,U8 0,U8 0,U8 0,U8 0,U8 0] 44)).alloc (Xk #[I6 0] 45));have HG0:Xp (zc w W0):=dD<|by rw[<-hW0];exact(((za _ _).trans (za _ _)).trans (za _ _)).trans (za _ _)
 have X0:Xp (Box W0 w.heap.size [O ab ps.length cb,O aq qs.length cq]):=dD<|by rw[<-hW0];exact(((Box.top w [O ab ps.length cb,O aq qs.length cq] _ rfl).alloc _).alloc _).alloc _
 have X1:Xp (Box W0 (w.heap.size+1) [I6 m]):=dD<|by rw[<-hW0];exact((Box.top _ [I6 m] _ (by simp)).alloc _).alloc _
 have X2:Xp (Box W0 (w.heap.size+1+1) [U8 0,U8 0,U8 0,U8 0,U8 0,U8 0,U8 0,U8 0]):=dD<|by rw[<-hW0];exact(Box.top _ [U8 0,U8 0,U8 0,U8 0,U8 0,U8 0,U8 0,U8 0] _ (by simp)).alloc _
 have X3:Xp (Box W0 (w.heap.size+1+1+1) [I6 0]):=dD<|by rw[<-hW0];exact Box.top _ [I6 0] _ (by simp)
 have hcon:=Qy ab ps.length cb (O aq qs.length cq) qs m W0 (HQ.grew HG0);have hqbig:qs.length<=9223372036854775807:=by have:=HQ.2.2;omega
 obtain⟨r,HW⟩:=kA (zo ps.length qs m);rw[HW.out]at hcon HL⊢;obtain⟨nb,HNB⟩:=kA ps.length;obtain⟨nq,HNQ⟩:=kA qs.length;rw[HNB.out,HNQ.out]at hcon hW0 X0⊢;have HW0:Xp (_=W0):=hW0;clear hW0
 by_cases hr:r=0
 ·subst hr;rw[kE rfl]at HL;refine(callsIn_wide (n:=5)).1 ?_;refine callsIn_of_wp_marks func134 rfl trivial ?_ rfl;simp only[ntmps134,Ye,Xy,Yi,Nat.reduceAdd,Nat.reduceSub,Yl,Ym,Yu,Yo,Ya,Yf]
  gi_wp2_with (first
   | (
    refine⟨trivial,?_⟩;gi_at_call 171;rw[HW0.out];refine(callsIn_wide.2 hcon).mono ?_;rintro e W1 ⟨rfl,hg1⟩;have HG1:Xp (zc W0 W1):=hg1;have e0:=(X0.grew hg1).c 0 rfl;have e1:=(X0.grew hg1).c 1 rfl)
   | (
    refine⟨trivial,?_⟩;gi_at_call 172;refine(znu Fence.wide _ trivial rfl _ _ _ _).mono ?_;rintro e W2 ⟨rfl,hW2⟩;have HW2:Xp (W2=W1.alloc (Xk #[O aq nq cq] 32)):=hW2;clear hW2))
  have HG2:Xp (zc w W2):=dD<|by rw[HW2.out];exact(HG0.trans HG1).trans (za _ _)
  have HGW2:Xp (zc W0 W2):=dD<|by rw[HW2.out];exact HG1.trans (za _ _)
  have HSZ:Xp (w.heap.size+4<=W1.heap.size/\W2.heap.size=W1.heap.size+1):=dD<|⟨by have h1:=bS HG1.out;have h2:=X3.lt;omega,by rw[HW2.out];simp⟩
  have bS:Box W2 W1.heap.size [O aq nq cq]:=by rw[HW2.out];exact Box.top _ [O aq nq cq] _ rfl
  have HC:=bS.c 0 rfl;obtain⟨_,i,hmi,hib⟩:=qz HW.out;have HI:Xp (m=(i:Int)/\i<ps.length):=⟨hmi,hib⟩;clear e0 e1 hcon hg1 hmi hib bS;refine wpIn_rangeFunc_ownH rfl (by decide) (gf:=202) (lb:=#[Xj (Xa ⟨W1.heap.size,0,Xb⟩)]) rfl trivial (enters_of func202 (by kernel_rfl) rfl)
   (zi4 Fence.wide 4 trivial rfl (by decide) W1.heap.size W2.heap.size w aq cq qs HRQ hqbig W2 HG2 (by have:=HSZ.2;omega) rfl (by rw[HNQ.out];exact HC)) belowK_t (belowK_b (nR _)) (bR _ _) (fun _=>rfl)
   (fun pre W=>(∀x∈pre,x.m≠m)/\Below W2.heap.size W2 W)
   (fun c pre W=>(c= .ret/\∃ini last,pre=ini++ [last]/\(∀x∈ini,x.m≠m)/\last.m=m/\Box W (w.heap.size+1+1) [U8 last.b0,U8 last.b1,U8 last.b2,U8 last.b3,U8 last.b4,U8 last.b5,U8 last.b6,U8 last.b7]/\Box W (w.heap.size+1+1+1) [I6 0])/\Below w.heap.size w W)
   (OwnFrom.and (fun s X Y row hs hg hr=>hs) (ownFrom_below (nR _) (nR _)))
   (fun c=>OwnFrom.and (Own.from (fun s X Y row hs hg hr=>by
    obtain⟨hc,ini,last,e1,e2,e3,e4,e5⟩:=hs;exact⟨hc,ini,last,e1,e2,e3,zet _ (fun _:Unit=>_) () X Y row e4 hg hr,zet _ (fun _:Unit=>_) () X Y row e5 hg hr⟩) _) (ownFrom_below (nR _) (bS HG2)))
   ⟨by simp,bR _ _⟩
   (fun x a' W=>∃Bx,W2.heap.size<=Bx/\Box W Bx [I6 x.m,U8 x.b0,U8 x.b1,U8 x.b2,U8 x.b3,U8 x.b4,U8 x.b5,U8 x.b6,U8 x.b7]/\
    a'={ tmps:=#[Xi #[O ab nb cb,O aq nq cq],I6 m,Xj (Xa ⟨w.heap.size,0,Xb⟩),Xj (Xa ⟨w.heap.size+1,0,Xb⟩),Xj (Xa ⟨w.heap.size+1+1,0,Xb⟩),Xj (Xa ⟨w.heap.size+1+1+1,0,Xb⟩),I6 0,undef,Xj (Xa ⟨Bx,0,Xb⟩),
     Xi #[O ab nb cb,O aq nq cq],I6 m,I6 0,I6 0,Xh Xd,undef,undef,Xj (Xa ⟨w.heap.size,1,Xb⟩),O aq nq cq,.func (.func 202) #[] #[Xj (Xa ⟨W1.heap.size,0,Xb⟩)],I6 x.i,
     Xi #[I6 x.m,U8 x.b0,U8 x.b1,U8 x.b2,U8 x.b3,U8 x.b4,U8 x.b5,U8 x.b6,U8 x.b7],undef,undef,undef,undef,undef,undef,undef,undef,undef,undef,undef],defers:=[] })
   (fun x a' _ X Y row hs hg hr=>by obtain⟨Bx,h1,h2,h3⟩:=hs;exact⟨Bx,h1,zet Bx (fun _:Unit=>_) () X Y row h2 hg (fun r e=>(hr r e).2),h3⟩)
   ?assign ?body ?done ?stop
  case assign=>
   rintro l pre x W K ⟨hp,hB⟩ hK;simp only[P9.encs]
   gi_wp2
   exact hK _ _ ((KeepsOthers.alloc _ _).from _) ((bR _ W).alloc hB.size _) ⟨hp,hB.alloc hB.size _⟩ ⟨W.heap.size,hB.size,Box.top W [I6 x.m,U8 x.b0,U8 x.b1,U8 x.b2,U8 x.b3,U8 x.b4,U8 x.b5,U8 x.b6,U8 x.b7] _ rfl,rfl⟩
  case body=>
   rintro l pre x a' W hl ⟨rr,hrr⟩ ⟨hp,hB⟩ ⟨Bx,hBx,bX,rfl⟩ hlt;have Z1:=(X1.grew HGW2).below hB ((X1.grew HGW2).lt);have Z2:=(X2.grew HGW2).below hB ((X2.grew HGW2).lt);have Z3:=(X3.grew HGW2).below hB ((X3.grew HGW2).lt);have HZ2:Xp (Box W _ _):=Z2;have HZ3:Xp (Box W _ _):=Z3;have HBW:Xp (Below W2.heap.size W2 W):=hB;obtain⟨c0,c1,c2,c3,c4,c5,c6,c7⟩:=Z2.c8;have f0:=Z2.f;have c8:=Z3.c 0 rfl;have f1:=Z3.f 0;have cm:=Z1.c 0 rfl;have x0:=bX.c 0 rfl;have x1:=bX.c 1 rfl;have x2:=bX.c 2 rfl;have x3:=bX.c 3 rfl;have x4:=bX.c 4 rfl;have x5:=bX.c 5 rfl;have x6:=bX.c 6 rfl;have x7:=bX.c 7 rfl;have x8:=bX.c 8 rfl;have HP:Xp (∀x∈pre,x.m≠m):=hp;clear hp bX hB hrr
   by_cases hx:x.m=m
   ·have hxb:(x.m == m)=Xc:=by simpa using hx
    gi_wp2
    refine⟨KeepsOthers.from ?_ _,⟨rfl,pre,x,rfl,HP,hx,?_,?_⟩,?_⟩
    ·iterate 9 (refine jN ?_ _ _)
     exact KeepsOthers.refl _
    ·exact((((((((HZ2.set 0 _).set 1 _).set 2 _).set 3 _).set 4 _).set 5 _).set 6 _).set 7 _).other (by simp) _
    ·refine Box.set (cs:=[I6 0]) ?_ 0 _;iterate 8 (refine Box.other ?_ (by simp) _)
     exact HZ3.out
    iterate 9 (refine zz ?_ (by simp;omega) _)
    exact Below.trans HG2 (HBW.mono (bS HG2))
   have hxb:(x.m == m)=Xd:=by simpa using hx
   gi_wp2
   exact⟨KeepsFrom.refl _ _,bR _ _,fun y hy=>(Yj.1 hy).elim (HP y) (fun e=>by simp at e;subst e;exact hx),HBW⟩
  case done=>
   rintro D ys W hD hS ⟨hp,hB⟩ hK;have Z0:=(X0.grew HGW2).below hB ((X0.grew HGW2).lt);have Z1:=(X1.grew HGW2).below hB ((X1.grew HGW2).lt);have Z2:=(X2.grew HGW2).below hB ((X2.grew HGW2).lt);have Z3:=(X3.grew HGW2).below hB ((X3.grew HGW2).lt);have HZ2:Xp (Box W _ _):=Z2;have HZ3:Xp (Box W _ _):=Z3;have HGW:Xp (zc w W):=show zc w W from Below.trans HG2 (hB.mono (bS HG2))
   have HF:=zkr hS hp;obtain⟨rfl,hib⟩:=HI.out;obtain⟨pg,hpg⟩:∃pg,ps[i]? =Xa pg:=⟨_,gE hib⟩;obtain⟨xa,b0,b1,b2,b3,b4,b5,b6,b7,rfl,rfl,hl⟩:=HRB.out i pg hpg;obtain⟨d0,d1,d2,d3,d4,d5,d6,d7⟩:=hl W HGW.out;have hib':(i:Int)< (nb:Int):=by rw[<-HNB.out];omega
   rw[HF,show ps.getD (Int.toNat (i:Int)) zx=[b0,b1,b2,b3,b4,b5,b6,b7]from by simp[hpg]]at HL
   have z0:=Z0.c 0 rfl;have z1:=Z1.c 0 rfl;obtain⟨c0,c1,c2,c3,c4,c5,c6,c7⟩:=Z2.c8;have f0:=Z2.f;have c8:=Z3.c 0 rfl;have f1:=Z3.f 0;have HKD:Xp (W.heap[D]? =Xa (.deferred (Xa []))):=hK;clear hl hpg hib hS hp hK hB
   gi_wp2
   clear c0 c1 c2 c3 c4 c5 c6 c7 c8 f0 f1 z0 z1 d0 d1 d2 d3 d4 d5 d6 d7;have hK':=(show KeepsOthers W _ from jN (jN (jN (jN (jN (jN (jN (jN (jN (KeepsOthers.refl W) ⟨w.heap.size+1+1,0,Xb⟩ (U8 b0)) ⟨w.heap.size+1+1,1,Xb⟩ (U8 b1)) ⟨w.heap.size+1+1,2,Xb⟩ (U8 b2)) ⟨w.heap.size+1+1,3,Xb⟩ (U8 b3)) ⟨w.heap.size+1+1,4,Xb⟩ (U8 b4)) ⟨w.heap.size+1+1,5,Xb⟩ (U8 b5)) ⟨w.heap.size+1+1,6,Xb⟩ (U8 b6)) ⟨w.heap.size+1+1,7,Xb⟩ (U8 b7)) ⟨w.heap.size+1+1+1,0,Xb⟩ (I6 0)).same D _ HKD rfl
   refine⟨by simp,.inl ⟨_,_,rfl,run_takeDeferred hK',?_⟩⟩
   have B2:=(((((((((HZ2.set 0 (U8 b0)).set 1 (U8 b1)).set 2 (U8 b2)).set 3 (U8 b3)).set 4 (U8 b4)).set 5 (U8 b5)).set 6 (U8 b6)).set 7 (U8 b7)).other (a:=⟨w.heap.size+1+1+1,0,Xb⟩) (by simp) (I6 0)).put (.deferred Xb) hK' rfl
   have B3:=((((((((((HZ3.other (a:=⟨w.heap.size+1+1,0,Xb⟩) (by simp) (U8 b0)).other (a:=⟨w.heap.size+1+1,1,Xb⟩) (by simp) (U8 b1)).other (a:=⟨w.heap.size+1+1,2,Xb⟩) (by simp) (U8 b2)).other (a:=⟨w.heap.size+1+1,3,Xb⟩) (by simp) (U8 b3)).other (a:=⟨w.heap.size+1+1,4,Xb⟩) (by simp) (U8 b4)).other (a:=⟨w.heap.size+1+1,5,Xb⟩) (by simp) (U8 b5)).other (a:=⟨w.heap.size+1+1,6,Xb⟩) (by simp) (U8 b6)).other (a:=⟨w.heap.size+1+1,7,Xb⟩) (by simp) (U8 b7)).set 0 (I6 0)).put (.deferred Xb) hK' rfl)
   obtain⟨r0,r1,r2,r3,r4,r5,r6,r7⟩:=B2.c8;have r8:=B3.c 0 rfl;refine⟨Xm #[Xi #[U8 b0,U8 b1,U8 b2,U8 b3,U8 b4,U8 b5,U8 b6,U8 b7],I6 0],by simp[results,Tryz.f134,go_sem,r0,r1,r2,r3,r4,r5,r6,r7,r8],?_,?_⟩
   ·rw[HL.out];rfl
   refine Below.trans ?_ (belowK_b (w:=W2) (n₀:=w.heap.size) (bS HG2) _ D _ _ hD hK' rfl rfl);iterate 9 (refine zz ?_ (by simp;omega) _)
   exact HGW.out
  rintro D c pre W hD hS ⟨⟨rfl,ini,last,e1,e2,e3,b2,b3⟩,hB⟩ hK
  gi_wp2
  have B2:=b2.put (.deferred Xb) hK rfl;have B3:=b3.put (.deferred Xb) hK rfl;obtain⟨r0,r1,r2,r3,r4,r5,r6,r7⟩:=B2.c8;have r8:=B3.c 0 rfl;refine⟨by simp,.inl ⟨_,_,rfl,run_takeDeferred hK,?_⟩⟩
  refine⟨Xm #[Xi #[U8 last.b0,U8 last.b1,U8 last.b2,U8 last.b3,U8 last.b4,U8 last.b5,U8 last.b6,U8 last.b7],I6 0],by simp[results,Tryz.f134,go_sem,r0,r1,r2,r3,r4,r5,r6,r7,r8],?_,?_⟩
  ·subst e1;rw[HL.out,zkq hS e2 e3];rfl
  exact Below.trans hB (belowK_b (w:=W2) (n₀:=w.heap.size) (bS HG2) W D _ _ hD hK rfl rfl)
 have hne:(r != 0)=Xc:=by simpa using hr
 rw[kF hr]at HL;rw[HL.out];refine(callsIn_wide (n:=5)).1 ?_;refine callsIn_of_wp_marks func134 rfl trivial ?_ rfl;simp only[ntmps134,Ye,Xy,Yi,Nat.reduceAdd,Nat.reduceSub,Yl,Ym,Yu,Yo,Ya,Yf]
 gi_wp2_with (
  refine⟨trivial,?_⟩;gi_at_call 171;rw[HW0.out];refine(callsIn_wide.2 hcon).mono ?_;rintro e W1 ⟨rfl,hg1⟩;have Y2:=dD (X2.grew hg1);have Y3:=dD (X3.grew hg1);obtain⟨c0,c1,c2,c3,c4,c5,c6,c7⟩:=Y2.c8;have f0:=Y2.f;have c8:=Y3.c 0 rfl;have f1:=Y3.f 0)
 refine⟨Xm #[Xi #[U8 0,U8 0,U8 0,U8 0,U8 0,U8 0,U8 0,U8 0],I6 r],by simp[results,Tryz.f134,go_sem, *],rfl,?_⟩
 have HG1:zc w W1:=HG0.trans hg1;iterate 9 (refine zz ?_ (by simp;omega) _)
 exact HG1
end
end
section
open Go.RowKit
theorem zp.block {base:Nat} {w:Xo} {g n cap:Nat} {qs:List (Int × List Int)} (h:zp base w (O (Xa ⟨g,0,Xb⟩) n cap) qs):
  n=qs.length/\base<=g/\qs.length<=cap/\cap<=maxLen/\∃cur,w.heap[g]? =Xa (Xk cur 100 (0,0))/\cur.size=cap*9/\cur.toList.take (qs.length*9)=qs.flatMap ptc:=by
 rcases h.1.2 with⟨h0,_⟩|⟨g',cap',cur,h0,h1,h2,h3,h4,h5,h6⟩
 ·cases h0
 cases h0;exact⟨rfl,h1,h3,h4,cur,h2,h5,h6⟩
theorem zp.mk {base:Nat} {w:Xo} {g cap:Nat} {qs:List (Int × List Int)} {cur:Array Xr} (hb:base<=g) (hh:w.heap[g]? =Xa (Xk cur 100 (0,0))) (hn:qs.length<=cap) (hm:cap<=maxLen) (hs:cur.size=cap*9) (ht:cur.toList.take (qs.length*9)=qs.flatMap ptc)
  (h8:∀q∈qs,q.2.length=8) (hbytes:qs.length*16<=140737488355328):zp base w (O (Xa ⟨g,0,Xb⟩) qs.length cap) qs:=
 ⟨⟨qI qs fun q hq=>by rw[zaS,h8 q hq],.inr ⟨g,cap,cur,rfl,hb,hh,hn,hm,hs,ht⟩⟩,h8,hbytes⟩
theorem JV {w:Xo} {rest:List Oper} {a:Act} (hgd:o.guard=Xb) (s x:Operand) (ho:o.op= .call { callee:= .builtin .append,args:=#[s,x],argTypes:=#[32,32] })
  (base g cap n:Nat) (q0:Int × List Int) (r:List (Int × List Int)) (hown:zp base w (O (Xa ⟨g,0,Xb⟩) n cap) (q0 :: r)) (hs:a.eval s= O (Xa ⟨g,0,Xb⟩) 0 cap) (c':Nat) (hx:a.eval x= O (Xa ⟨g,9,Xb⟩) r.length c')
  (h:∀w',zp base w' (O (Xa ⟨g,0,Xb⟩) r.length cap) r->w.grownBy w' (Xa g)->w'.heap.size=w.heap.size->wpList prog ops Q rest (a.put o.dst (O (Xa ⟨g,0,Xb⟩) r.length cap)) w'):wpList prog ops Q (o :: rest) a w:=by
 refine wpList_plain hgd fun K hK=>?_
 obtain⟨hn,hb,hnc,hm,cur,hh,hsz,ht⟩:=hown.block;obtain⟨i0,hi,hz0,hz1,hz2⟩:=info_parts zoq;have h8:=hown.2.1;have hl:(r.flatMap ptc).length=r.length*9:=qI r fun q hq=>by rw[zaS,h8 q (by simp[hq])]
 have hl0:(ptc q0).length=9:=by rw[zaS,h8 q0 (by simp)]
 simp only[Xy]at hnc ht;have hcells:∀j u,(r.flatMap ptc)[j]? =Xa u->w.cell? ((⟨g,9,Xb⟩:Addr).add j)=Xa u:=fun j u hj=>by
  have hjl:j<r.length*9:=by rw[<-hl];exact(gS.1 hj).1
  rw[Yh];have h1:(cur.toList.take ((r.length+1)*9))[9+j]? =Xa u:=by
   rw[ht,List.flatMap_cons,aR (by omega),hl0]
   simpa using hj
  rw[List.getElem?_take_of_lt (by omega)]at h1
  simp only[World.cell?,hh]
  simpa using h1
 have hrun:=run_append_room (P:=prog) w 32 o.type 100 i0 underlying32 hi g 0 cap cur hh ⟨g,9,Xb⟩ r.length c' (r.flatMap ptc) (by rw[hz1];exact hl) hcells (qT zb1 r) (by omega) (by rw[hl];simp;omega)
 simp only[Nat.zero_mul,List.take_zero,Ya,zA]at hrun;unfold Oper.wp execOp;simp only[ho,resolve,invoke,builtin,Xt,Xu,rA,Yg,mP,Yv,hs,hx,hrun];refine hK _ _ (h _ (zp.mk hb (setRow_heap w g cur _ 100 _ hh) (by omega) hm ?_ ?_ (fun q hq=>h8 q (by simp[hq])) (by have:=hown.2.2;simp at this;omega)) (Zj _ _ _) (by simp[World.setRow]))
 ·simp[hl];omega
 rw[<-hl];simp
theorem zdA (n:Nat):∀u∈(Builtin.zeroCells #[I6 0,U8 0,U8 0,U8 0,U8 0,U8 0,U8 0,U8 0,U8 0] n).toList,u.oneCell'=Xc:=fun u hu=>by
 simp only[Builtin.zeroCells,Array.toList_map,Yr,Array.toList_range,List.mem_range]at hu;obtain⟨i,_,rfl⟩:=hu;have h9:i % 9<9:=Yp _ (by decide)
 show(#[I6 0,U8 0,U8 0,U8 0,U8 0,U8 0,U8 0,U8 0,U8 0]:Array Xr)[i % 9]!.oneCell'=Xc
 generalize i % 9=k at h9
 match k,h9 with
 | 0,_=>rfl
 | 1,_=>rfl
 | 2,_=>rfl
 | 3,_=>rfl
 | 4,_=>rfl
 | 5,_=>rfl
 | 6,_=>rfl
 | 7,_=>rfl
 | 8,_=>rfl
theorem zbp {w:Xo} {rest:List Oper} {a:Act} (hgd:o.guard=Xb) (x:Operand) (ho:o.op= .call { callee:= .builtin .clear,args:=#[x],argTypes:=#[32] })
  (base g cap n:Nat) (qs:List (Int × List Int)) (hown:zp base w (O (Xa ⟨g,0,Xb⟩) n cap) qs) (ad:Addr) (k c':Nat) (hx:a.eval x= O (Xa ad) k c') (hk:qs.length+k<=cap) (had:0<k->ad=⟨g,qs.length*9,Xb⟩)
  (h:∀w',zp base w' (O (Xa ⟨g,0,Xb⟩) n cap) qs->w.grownBy w' (Xa g)->w'.heap.size=w.heap.size->wpList prog ops Q rest (a.put o.dst (Xm #[])) w'):wpList prog ops Q (o :: rest) a w:=by
 refine wpList_plain hgd fun K hK=>?_
 cases k with
 | zero=>
  have hrun:(Builtin.clear_ #[32] o.type #[O (Xa ad) 0 c']).run prog w= .ok (Xm #[]) w:=by
   simp[Builtin.clear_,run_underlying underlying32]
  unfold Oper.wp execOp;simp only[ho,resolve,invoke,builtin,Xt,Xu,rA,Yg,mP,Yv,hx,hrun];exact hK _ _ (h w hown (World.grownBy.rfl' _ _) rfl)
 | succ k=>
  have had':=had (by omega)
  subst had';obtain⟨hn,hb,hnc,hm,cur,hh,hsz,ht⟩:=hown.block;obtain⟨Z,hZ⟩:=kB ((Builtin.zeroCells #[I6 0,U8 0,U8 0,U8 0,U8 0,U8 0,U8 0,U8 0,U8 0] (k+1)).toList);have hzl:Z.length=(k+1)*9:=by
   rw[<-hZ,Array.length_toList,size_zeroCells];rfl
  have hone:∀u∈Z,u.oneCell'=Xc:=by rw[<-hZ];exact zdA _
  have hst:=run_storeCells_at prog g (qs.length*9) 100 Z 0 cur w hh (by rw[hzl,hsz];omega) hone
  simp only[Nat.add_zero]at hst;have hrun:(Builtin.clear_ #[32] o.type #[O (Xa ⟨g,qs.length*9,Xb⟩) (k+1) c']).run prog w= .ok (Xm #[]) (w.setRow g (cur.toList.take (qs.length*9)++Z++cur.toList.drop (qs.length*9+Z.length)).toArray):=by
   simp only[Builtin.clear_]
   simp[run_underlying underlying32,Tryz.zeroValue100,Value.cells,hZ,hst]
  unfold Oper.wp execOp;simp only[ho,resolve,invoke,builtin,Xt,Xu,rA,Yg,mP,Yv,hx,hrun];subst hn;have hcl:cur.toList.length=cap*9:=by simpa using hsz
  refine hK _ _ (h _ (zp.mk hb (setRow_heap w g cur _ 100 _ hh) hnc hm ?_ ?_ hown.2.1 hown.2.2) (Zj _ _ _) (by simp[World.setRow]))
  ·simp only[Ye,lA,List.length_take,List.length_drop,hzl,hcl];omega
  rw[Ys,List.take_left' (by rw[List.length_take,hcl];omega)]
  exact ht
theorem zco {a b c:Xo} {g:Nat} (h:zc a b) (k:b.grownBy c (Xa g)):a.grownBy c (Xa g):=
 ⟨k.os.trans h.os,k.tape.trans h.tape,k.output.trans h.output,nT h.size k.size,fun i hi hne=>(k.block i (Yb hi h.size) hne).trans (h.block i hi)⟩
theorem zfD (base g cap:Nat) (q0:Int × List Int) (r:List (Int × List Int)) (w:Xo) (hown:zp base w (O (Xa ⟨g,0,Xb⟩) (r.length+1) cap) (q0 :: r)) (hr:1<=r.length) (h400:r.length<=400):
  Xq prog 221 #[O (Xa ⟨g,0,Xb⟩) (r.length+1) cap,I6 0,I6 1] w fun e w'=>e= Xl (O (Xa ⟨g,0,Xb⟩) r.length cap)/\zp base w' (O (Xa ⟨g,0,Xb⟩) r.length cap) r/\w.grownBy w' (Xa g):=by
 obtain⟨_,_,hcap,hmax,_⟩:=hown.block;have HO:Xp (zp base w (O (Xa ⟨g,0,Xb⟩) (r.length+1) cap) (q0 :: r)):=hown;simp only[Xy]at hcap;obtain⟨k,HK⟩:=kA r.length;have hmax':cap<=9223372036854775807:=by simpa [maxLen]using hmax
 rw[HK.out]at hcap hr h400 HO⊢;clear hown hmax;have h1:¬cap=1:=by omega
 have h2:((k+1:Nat):Int)=(k:Int)+1:=by omega
 have h3:(k:Int)+1<=(cap:Int):=by omega
 have h4:(1:Int)<=(k:Int):=by omega
 go_enter func221,ntmps221
 go_wp2;have hne:Nonempty (zn w):=⟨⟨_,zc.refl _⟩⟩;refine qR 6 [] zW (by kernel_rfl) rfl rfl (by decide) (by simp) (by simp) ?_
 simp only[Yw,Yx];iterate 6 (refine zd rfl rfl rfl (fun K hK=>?_);go_big_quiet_op;refine hK _ ?_;clear hK)
 refine z6 fun w' hg _=>?_
 have HO':=dD (HO.grew hg);have HG:Xp (zc w w'):=hg;clear hg hne
 go_wp2_with (first
  | (refine JV rfl (.tmp 22) (.tmp 25) rfl base g cap (k+1) q0 r HO' rfl (cap - 1) (by rw[HK.out];rfl) ?_;intro w2 ow2 gr2 sz2;have O2:Xp (zp base w2 (O (Xa ⟨g,0,Xb⟩) r.length cap) r):=ow2;have G2:Xp (w'.grownBy w2 (Xa g)):=gr2;clear ow2 gr2 sz2;rw[HK.out])
  | (refine zbp rfl (.tmp 31) rfl base g cap _ r O2 _ 1 _ rfl (by rw[HK.out];exact hcap) (fun _=>by rw[HK.out]) ?_;intro w3 ow3 gr3 sz3;have O3:Xp (zp base w3 (O (Xa ⟨g,0,Xb⟩) r.length cap) r):=ow3;have G3:Xp (w2.grownBy w3 (Xa g)):=gr3;clear ow3 gr3 sz3))
 go_ret;exact⟨rfl,by rw[<-HK.out];exact O3,zco HG (jE G2 G3)⟩
theorem zi.beside {base:Nat} {w:Xo} {bv qv:Xr} {ps:List (List Int)} {qs:List (Int × List Int)} (h:zi base w bv ps) (k:zp base' w qv qs) (hg:w.grownBy w' qv.ownBlock):zi base w' bv ps:=by
 refine⟨⟨h.1.1,?_⟩,h.2⟩
 rcases h.1.2 with h1|⟨g,cap,cur,rfl,h2,h3,h4⟩
 ·exact .inl h1
 refine .inr ⟨g,cap,cur,rfl,h2,?_,h4⟩;rw[hg.block g (aS.1 h3).1 (fun e=>?_)]
 ·exact h3
 rcases k.1.2 with⟨rfl,_⟩|⟨g',cap',cur',rfl,_,k3,_⟩
 ·cases e
 simp only[Value.ownBlock,Option.some.injEq]at e;subst e;rw[h3]at k3;cases k3
theorem zp.beside {base:Nat} {w:Xo} {bv qv:Xr} {ps:List (List Int)} {qs:List (Int × List Int)} (k:zp base' w qv qs) (h:zi base w bv ps) (hg:w.grownBy w' bv.ownBlock):zp base' w' qv qs:=by
 refine⟨⟨k.1.1,?_⟩,k.2⟩
 rcases k.1.2 with h1|⟨g,cap,cur,rfl,h2,h3,h4⟩
 ·exact .inl h1
 refine .inr ⟨g,cap,cur,rfl,h2,?_,h4⟩;rw[hg.block g (aS.1 h3).1 (fun e=>?_)]
 ·exact h3
 rcases h.1.2 with⟨rfl,_⟩|⟨g',cap',cur',rfl,_,k3,_⟩
 ·cases e
 simp only[Value.ownBlock,Option.some.injEq]at e;subst e;rw[h3]at k3;cases k3
theorem zp.lt {base:Nat} {w:Xo} {v:Xr} {qs:List (Int × List Int)} (h:zp base w v qs):∀g,v.ownBlock=Xa g->base<=g/\g<w.heap.size:=h.1.lt
theorem zi.lt {base:Nat} {w:Xo} {v:Xr} {ps:List (List Int)} (h:zi base w v ps):∀g,v.ownBlock=Xa g->base<=g/\g<w.heap.size:=h.1.lt
theorem zp.ne {base:Nat} {w:Xo} {v:Xr} {qs:List (Int × List Int)} (h:zp base w v qs) {cs:List Xr} (hb:zt w b 34 cs):∀g,v.ownBlock=Xa g->b≠g:=fun g hg e=>by
 subst e
 rcases h.1.2 with⟨rfl,_⟩|⟨g',cap,cur,rfl,_,h3,_⟩
 ·cases hg
 simp only[Value.ownBlock,Option.some.injEq]at hg;subst hg;rw[hb]at h3;cases h3
theorem zi.ne {base:Nat} {w:Xo} {v:Xr} {ps:List (List Int)} (h:zi base w v ps) {cs:List Xr} (hb:zt w b 34 cs):∀g,v.ownBlock=Xa g->b≠g:=fun g hg e=>by
 subst e
 rcases h.1.2 with⟨rfl,_⟩|⟨g',cap,cur,rfl,_,h3,_⟩
 ·cases hg
 simp only[Value.ownBlock,Option.some.injEq]at hg;subst hg;rw[hb]at h3;cases h3
theorem zi.setOther {base:Nat} {w:Xo} {v:Xr} {ps:List (List Int)} (h:zi base w v ps) {a:Addr} (ha:∀g,v.ownBlock=Xa g->a.block≠g) (u:Xr):zi base (w.setCell a u) v ps:=⟨jR h.1 ha u,h.2⟩
theorem zp.setOther {base:Nat} {w:Xo} {v:Xr} {qs:List (Int × List Int)} (h:zp base w v qs) {a:Addr} (ha:∀g,v.ownBlock=Xa g->a.block≠g) (u:Xr):zp base (w.setCell a u) v qs:=⟨jR h.1 ha u,h.2⟩
theorem zi.form {base:Nat} {w:Xo} {v:Xr} {ps:List (List Int)} (h:zi base w v ps):∃a c,v= O a ps.length c:=by
 obtain⟨a,c,h1,_⟩:=h.at.rows;exact⟨a,c,h1⟩
theorem zp.form {base:Nat} {w:Xo} {v:Xr} {qs:List (Int × List Int)} (h:zp base w v qs):∃a c,v= O a qs.length c:=by
 obtain⟨a,c,h1,_⟩:=h.at.rows;exact⟨a,c,h1⟩
theorem zp.snoc {base:Nat} {w:Xo} {v:Xr} {qs:List (Int × List Int)} {q:Int × List Int} (h:w.ownsRow base 100 9 v (qs.length+1) (qs.flatMap ptc++ptc q)) (h8:∀x∈qs,x.2.length=8) (hq:q.2.length=8) (hb:(qs.length+1)*16<=140737488355328):zp base w v (qs++ [q]):=by
 refine⟨by simpa using h,fun x hx=>?_,by simpa using hb⟩
 rcases Yj.1 hx with h1|h1
 ·exact h8 x h1
 simp at h1;subst h1;exact hq
theorem zku {base Bo R:Nat} {w:Xo} {bv qv:Xr} {ps:List (List Int)} {qs:List (Int × List Int)} {cs:List Xr} (hp:zi base w bv ps) (hq:zp base w qv qs) (hB:zt w Bo 34 cs) (hR:R<base) (hb:base'<=base):
  qg base' (((w.setCell ⟨Bo,1,Xb⟩ qv).setCell ⟨R,0,Xb⟩ bv).setCell ⟨R,1,Xb⟩ qv) (Xi #[bv,qv]) ps qs:=by
 have hp1:=((hp.setOther (a:=⟨Bo,1,Xb⟩) (hp.ne hB) qv).setCell (a:=⟨R,0,Xb⟩) hR bv).setCell (a:=⟨R,1,Xb⟩) hR qv;have hq1:=((hq.setOther (a:=⟨Bo,1,Xb⟩) (hq.ne hB) qv).setCell (a:=⟨R,0,Xb⟩) hR bv).setCell (a:=⟨R,1,Xb⟩) hR qv;exact qg.base (QP.new ⟨_,_,rfl,hp1,hq1⟩) hb
theorem zp.head {base:Nat} {w:Xo} {g n cap:Nat} {m c0 c1 c2 c3 c4 c5 c6 c7:Int} {r:List (Int × List Int)} (h:zp base w (O (Xa ⟨g,0,Xb⟩) n cap) ((m,[c0,c1,c2,c3,c4,c5,c6,c7]) :: r)):
  w.cell? ⟨g,0,Xb⟩=Xa (I6 m)/\w.cell? ⟨g,1,Xb⟩=Xa (U8 c0)/\w.cell? ⟨g,2,Xb⟩=Xa (U8 c1)/\w.cell? ⟨g,3,Xb⟩=Xa (U8 c2)/\w.cell? ⟨g,4,Xb⟩=Xa (U8 c3)/\w.cell? ⟨g,5,Xb⟩=Xa (U8 c4)/\w.cell? ⟨g,6,Xb⟩=Xa (U8 c5)/\w.cell? ⟨g,7,Xb⟩=Xa (U8 c6)/\w.cell? ⟨g,8,Xb⟩=Xa (U8 c7):=by
 have hc:∀(j:Nat) u,(((m,[c0,c1,c2,c3,c4,c5,c6,c7]) :: r).flatMap ptc)[j]? =Xa u->w.cell? ⟨g,j,Xb⟩=Xa u:=fun j u hj=>by
  have:=h.1.cells rfl j u hj;rwa [Yh,zA]at this
 exact⟨hc 0 _ rfl,hc 1 _ rfl,hc 2 _ rfl,hc 3 _ rfl,hc 4 _ rfl,hc 5 _ rfl,hc 6 _ rfl,hc 7 _ rfl,hc 8 _ rfl⟩
def jl (ps:List (List Int)) (qs:List (Int × List Int)):List (List Int):=if qs.length=400 then ps.set (qs.headD (0,[])).1.toNat (qs.headD (0,[])).2 else ps
def jk (qs:List (Int × List Int)) (m:Int) (p:List Int):List (Int × List Int):=(if qs.length=400 then qs.tail else qs)++ [(m,p)]
def qZ (ps:List (List Int)) (qs:List (Int × List Int)) (m:Int):List (List Int):=if zo ps.length qs m=0 then jl ps qs else []
def jb (ps:List (List Int)) (qs:List (Int × List Int)) (m:Int) (p:List Int):List (Int × List Int):=if zo ps.length qs m=0 then jk qs m p else []
theorem zji (d:Xr) (ps:List (List Int)) (qs:List (Int × List Int)) (m:Int) (p:List Int) (hp:p.length=8) (w:Xo) (hd:j8 w d ps qs) (hr0:¬zo ps.length qs m=0):
  Xq prog 195 #[d,I6 m,Xi (pgc p).toArray] w fun e w'=>∃d',e= Xl (Xm #[d',I6 (zo ps.length qs m)])/\qg w.heap.size w' d' (qZ ps qs m) (jb ps qs m p)/\zc w w':=by
 obtain⟨p0,p1,p2,p3,p4,p5,p6,p7,rfl⟩:=zdZ p hp;have HD:Xp (j8 w d ps qs):=hd;obtain⟨b,q,rfl,hb,hq⟩:=hd;have HQ:Xp (qH w q qs):=hq;obtain⟨ab,cb,rfl,_⟩:=hb.rows;obtain⟨aq,cq,rfl,_⟩:=hq.rows;clear hb hq hp
 show Xq prog 195 #[Xi #[O ab ps.length cb,O aq qs.length cq],I6 m,Xi #[U8 p0,U8 p1,U8 p2,U8 p3,U8 p4,U8 p5,U8 p6,U8 p7]] w _
 have HP:Xp (qZ ps qs m=if zo ps.length qs m=0 then jl ps qs else []):=rfl;have HQ':Xp (jb ps qs m [p0,p1,p2,p3,p4,p5,p6,p7]=if zo ps.length qs m=0 then jk qs m [p0,p1,p2,p3,p4,p5,p6,p7]else []):=rfl;obtain⟨W0,hW0⟩:=kB (((w.alloc (Xk #[O ab ps.length cb,O aq qs.length cq] 34)).alloc (Xk #[U8 p0,U8 p1,U8 p2,U8 p3,U8 p4,U8 p5,U8 p6,U8 p7] 44)).alloc (Xk #[eS,eS] 34));have HG0:Xp (zc w W0):=show zc w W0 by rw[<-hW0];exact((za _ _).trans (za _ _)).trans (za _ _)
 have X0:Xp (Box W0 w.heap.size [O ab ps.length cb,O aq qs.length cq]):=dD<|by rw[<-hW0];exact((Box.top w [O ab ps.length cb,O aq qs.length cq] _ rfl).alloc _).alloc _
 have X1:Xp (Box W0 (w.heap.size+1) [U8 p0,U8 p1,U8 p2,U8 p3,U8 p4,U8 p5,U8 p6,U8 p7]):=dD<|by rw[<-hW0];exact(Box.top _ [U8 p0,U8 p1,U8 p2,U8 p3,U8 p4,U8 p5,U8 p6,U8 p7] _ (by simp)).alloc _
 have X2:Xp (Box W0 (w.heap.size+1+1) [eS,eS]):=dD<|by rw[<-hW0];exact Box.top _ [eS,eS] _ (by simp)
 have hcon:=Qy ab ps.length cb (O aq qs.length cq) qs m W0 (HQ.grew HG0);have hown:∀W,zc W0 W->Xq prog 60 #[Xi #[O ab ps.length cb,O aq qs.length cq]] W fun e w'=>∃d',e= Xl d'/\QP W.heap.size w' d' ps qs/\zc W w':=fun W hW=>zb5 _ ps qs W (HD.grew (HG0.trans hW))
 obtain⟨r,HW⟩:=kA (zo ps.length qs m);rw[HW.out]at hcon HP HQ'⊢;obtain⟨nb,HNB⟩:=kA ps.length;obtain⟨nq,HNQ⟩:=kA qs.length;rw[HNB.out,HNQ.out]at hcon hW0 X0⊢;simp only[HNB.out,HNQ.out]at hown;have HW0:Xp (_=W0):=hW0;clear hW0;have hr:¬r=0:=fun e=>hr0 (HW.trans e)
 have hne:(r != 0)=Xc:=by simpa using hr
 rw[kF hr]at HP HQ';rw[HP.out,HQ'.out]
 go_enter func195,ntmps195
 go_wp2_with (
  go_at_call 171;rw[HW0.out];refine hcon.mono ?_;rintro e W1 ⟨rfl,hg1⟩
  have Y2:=X2.grew hg1;have c0:=Y2.c 0 rfl;have c1:=Y2.c 1 rfl;have f0:=Y2.f)
 refine bodyPost_ret (v:= Xm #[Xi #[eS,eS],I6 r]) (by simp[results,Tryz.results195,go_sem, *]) rfl ⟨_,rfl,zdU _ _,?_⟩
 have HG1:zc w W1:=HG0.trans hg1;iterate 2 (refine zz ?_ (by simp;omega) _)
 exact HG1
theorem zjh (d:Xr) (ps:List (List Int)) (qs:List (Int × List Int)) (m:Int) (p:List Int) (hp:p.length=8) (w:Xo) (hd:j8 w d ps qs) (hr0:zo ps.length qs m=0) (h4:¬qs.length=400):
  Xq prog 195 #[d,I6 m,Xi (pgc p).toArray] w fun e w'=>∃d',e= Xl (Xm #[d',I6 (zo ps.length qs m)])/\qg w.heap.size w' d' (qZ ps qs m) (jb ps qs m p)/\zc w w':=by
 obtain⟨p0,p1,p2,p3,p4,p5,p6,p7,rfl⟩:=zdZ p hp;have HD:Xp (j8 w d ps qs):=hd;obtain⟨b,q,rfl,hb,hq⟩:=hd;have HQ:Xp (qH w q qs):=hq;obtain⟨ab,cb,rfl,_⟩:=hb.rows;obtain⟨aq,cq,rfl,_⟩:=hq.rows;clear hb hq hp
 show Xq prog 195 #[Xi #[O ab ps.length cb,O aq qs.length cq],I6 m,Xi #[U8 p0,U8 p1,U8 p2,U8 p3,U8 p4,U8 p5,U8 p6,U8 p7]] w _
 have HP:Xp (qZ ps qs m=if zo ps.length qs m=0 then jl ps qs else []):=rfl;have HQ':Xp (jb ps qs m [p0,p1,p2,p3,p4,p5,p6,p7]=if zo ps.length qs m=0 then jk qs m [p0,p1,p2,p3,p4,p5,p6,p7]else []):=rfl;obtain⟨W0,hW0⟩:=kB (((w.alloc (Xk #[O ab ps.length cb,O aq qs.length cq] 34)).alloc (Xk #[U8 p0,U8 p1,U8 p2,U8 p3,U8 p4,U8 p5,U8 p6,U8 p7] 44)).alloc (Xk #[eS,eS] 34));have HG0:Xp (zc w W0):=show zc w W0 by rw[<-hW0];exact((za _ _).trans (za _ _)).trans (za _ _)
 have X0:Xp (Box W0 w.heap.size [O ab ps.length cb,O aq qs.length cq]):=dD<|by rw[<-hW0];exact((Box.top w [O ab ps.length cb,O aq qs.length cq] _ rfl).alloc _).alloc _
 have X1:Xp (Box W0 (w.heap.size+1) [U8 p0,U8 p1,U8 p2,U8 p3,U8 p4,U8 p5,U8 p6,U8 p7]):=dD<|by rw[<-hW0];exact(Box.top _ [U8 p0,U8 p1,U8 p2,U8 p3,U8 p4,U8 p5,U8 p6,U8 p7] _ (by simp)).alloc _
 have X2:Xp (Box W0 (w.heap.size+1+1) [eS,eS]):=dD<|by rw[<-hW0];exact Box.top _ [eS,eS] _ (by simp)
 have hcon:=Qy ab ps.length cb (O aq qs.length cq) qs m W0 (HQ.grew HG0);have hown:∀W,zc W0 W->Xq prog 60 #[Xi #[O ab ps.length cb,O aq qs.length cq]] W fun e w'=>∃d',e= Xl d'/\QP W.heap.size w' d' ps qs/\zc W w':=fun W hW=>zb5 _ ps qs W (HD.grew (HG0.trans hW))
 obtain⟨r,HW⟩:=kA (zo ps.length qs m);rw[HW.out]at hcon HP HQ'⊢;obtain⟨nb,HNB⟩:=kA ps.length;obtain⟨nq,HNQ⟩:=kA qs.length;rw[HNB.out,HNQ.out]at hcon hW0 X0⊢;simp only[HNB.out,HNQ.out]at hown;have HW0:Xp (_=W0):=hW0;clear hW0;have hr:=HW.symm.trans hr0;subst hr;rw[kE rfl]at HP HQ';obtain⟨hw0,i,hmi,hib⟩:=qz HW.out;obtain⟨hn80,hq400,hin⟩:=j9 hw0;obtain⟨i0,hi,hz0,hz1,hz2⟩:=info_parts zoq;rw[HP.out,HQ'.out];clear hmi hib;have h400:¬nq=400:=fun e=>h4 (HNQ.trans e)
 have hb4:((nq:Int) == 400)=Xd:=by simp;omega
 have HB':Xp (jl ps qs=ps):=dD<|by unfold jl;rw[kF (by rw[HNQ.out];exact h400)]
 have HQ2:Xp (jk qs m [p0,p1,p2,p3,p4,p5,p6,p7]=qs++ [(m,[p0,p1,p2,p3,p4,p5,p6,p7])]):=dD<|by unfold jk;rw[kF (by rw[HNQ.out];exact h400)]
 have H400:Xp (qs.length<=400):=hq400;clear hq400 hin hn80 hw0
 go_enter func195,ntmps195
 go_wp2_with (first
  | (
   go_at_call 171;rw[HW0.out];refine hcon.mono ?_;rintro e W1 ⟨rfl,hg1⟩
   have G1:Xp (zc W0 W1):=hg1;have e0:=(X0.grew hg1).c 0 rfl;have e1:=(X0.grew hg1).c 1 rfl)
  | (
   go_at_call 60;refine(hown W1 G1).mono ?_;rintro e W2 ⟨d',rfl,hd',hg2⟩
   obtain⟨bv,qv,rfl,ob,oq⟩:=hd';obtain⟨ab',cb',rfl⟩:=ob.form;obtain⟨aq',cq',rfl⟩:=oq.form;have OB:Xp (zi W1.heap.size W2 (O ab' ps.length cb') ps):=ob;have OQ:Xp (zp W1.heap.size W2 (O aq' qs.length cq') qs):=oq;have G2:Xp (zc W1 W2):=hg2;rw[HNB.out]at OB;rw[HNQ.out]at OQ;rw[HNB.out,HNQ.out];clear ob oq hg1 hg2 e0 e1;have P1:=(X1.grew G1).grew G2.out;have lt1:w.heap.size+1<W2.heap.size:=P1.lt;obtain⟨u0,u1,u2,u3,u4,u5,u6,u7⟩:=P1.c8)
  | (
   at_builtin
   have O4:=OQ.grew ((za W2 (Xk #[O ab' nb cb',O aq' nq cq'] 34)).trans (za _ (Xk #[I6 m,U8 p0,U8 p1,U8 p2,U8 p3,U8 p4,U8 p5,U8 p6,U8 p7] 100)));have P4:=OB.grew ((za W2 (Xk #[O ab' nb cb',O aq' nq cq'] 34)).trans (za _ (Xk #[I6 m,U8 p0,U8 p1,U8 p2,U8 p3,U8 p4,U8 p5,U8 p6,U8 p7] 100)));have B4:=(zt.top W2 [O ab' nb cb',O aq' nq cq'] 34 rfl).grew (za _ (Xk #[I6 m,U8 p0,U8 p1,U8 p2,U8 p3,U8 p4,U8 p5,U8 p6,U8 p7] 100));have R4:=((((X2.grew G1).grew G2).grew (za W2 (Xk #[O ab' nb cb',O aq' nq cq'] 34))).grew (za _ (Xk #[I6 m,U8 p0,U8 p1,U8 p2,U8 p3,U8 p4,U8 p5,U8 p6,U8 p7] 100)));refine wpList_append_own _ rfl (.tmp 40) (.tmp 44) 32 rfl W1.heap.size 100 i0 _ 9 16 underlying32 hi hz0 hz1 hz2 rfl (by decide) _ _ _ rfl O4.1 ⟨W2.heap.size+1,0,Xb⟩ 1 1 (ptc (m,[p0,p1,p2,p3,p4,p5,p6,p7])) rfl rfl (jz.top _ (ptc (m,[p0,p1,p2,p3,p4,p5,p6,p7])) _ (by simp)) (zb1 _) (qC (by have:=H400.out;omega)) (by have:=H400.out;omega) (by have:=bS G2.out;simp;omega) ?_
   intro v' W5 hown' hgrow _;have N5:Xp (zp W1.heap.size W5 v' (qs++ [(m,[p0,p1,p2,p3,p4,p5,p6,p7])])):=zp.snoc hown' OQ.2.1 rfl (by have:=H400.out;omega)
   have P5:Xp (zi W1.heap.size W5 (O ab' nb cb') ps):=P4.beside O4 hgrow;have B5:Xp (zt W5 W2.heap.size 34 [O ab' nb cb',O aq' nq cq']):=B4.beside hgrow (O4.ne B4);have R5:Xp (Box W5 (w.heap.size+1+1) [eS,eS]):=R4.beside hgrow (fun g hg=>by have h1:=(O4.lt g hg).1;have h2:=(X2.grew G1).lt;omega)
   have G5:Xp (zc w W5):=zU (((HG0.trans G1).trans G2).trans ((za _ _).trans (za _ _))) hgrow (fun g hg=>by have h1:=(O4.lt g hg).1;have h2:=bS (HG0.trans G1);omega)
   obtain⟨av,cv,hv'⟩:=N5.form;rw[lA,HNQ.out,Yk]at hv';subst hv';have v0:=B5.box.c 0 rfl;have v1:=B5.box.c 1 rfl;have vf:=B5.box.f;have y0:=R5.c 0 rfl;have y1:=R5.c 1 rfl;have yf:=R5.f;have hneb:w.heap.size+1+1≠W2.heap.size:=by have:=((X2.grew G1).grew G2).lt;omega
   clear hown' hgrow u0 u1 u2 u3 u4 u5 u6 u7 lt1))
 refine bodyPost_ret (v:= Xm #[Xi #[O ab' nb cb',O av (nq+1) cv],I6 0]) (by simp[results,Tryz.results195,go_sem, *]) rfl ⟨_,rfl,?_,?_⟩
 ·rw[HB'.out,HQ2.out];exact zku P5 N5 B5 (X2.grew G1).lt (bS (HG0.trans G1))
 have h1:=bS (HG0.trans G1);have h2:=bS G2.out;iterate 3 (refine zz ?_ (by simp;omega) _)
 exact G5.out
theorem zhS (d:Xr) (ps:List (List Int)) (qs:List (Int × List Int)) (m:Int) (p:List Int) (hp:p.length=8) (w:Xo) (hd:j8 w d ps qs) (hr0:zo ps.length qs m=0) (h4:qs.length=400):
  Xq prog 195 #[d,I6 m,Xi (pgc p).toArray] w fun e w'=>∃d',e= Xl (Xm #[d',I6 (zo ps.length qs m)])/\qg w.heap.size w' d' (qZ ps qs m) (jb ps qs m p)/\zc w w':=by
 obtain⟨p0,p1,p2,p3,p4,p5,p6,p7,rfl⟩:=zdZ p hp;have HD:Xp (j8 w d ps qs):=hd;obtain⟨b,q,rfl,hb,hq⟩:=hd;have HQ:Xp (qH w q qs):=hq;obtain⟨ab,cb,rfl,_⟩:=hb.rows;obtain⟨aq,cq,rfl,_⟩:=hq.rows;clear hb hq hp
 show Xq prog 195 #[Xi #[O ab ps.length cb,O aq qs.length cq],I6 m,Xi #[U8 p0,U8 p1,U8 p2,U8 p3,U8 p4,U8 p5,U8 p6,U8 p7]] w _
 have HP:Xp (qZ ps qs m=if zo ps.length qs m=0 then jl ps qs else []):=rfl;have HQ':Xp (jb ps qs m [p0,p1,p2,p3,p4,p5,p6,p7]=if zo ps.length qs m=0 then jk qs m [p0,p1,p2,p3,p4,p5,p6,p7]else []):=rfl;obtain⟨W0,hW0⟩:=kB (((w.alloc (Xk #[O ab ps.length cb,O aq qs.length cq] 34)).alloc (Xk #[U8 p0,U8 p1,U8 p2,U8 p3,U8 p4,U8 p5,U8 p6,U8 p7] 44)).alloc (Xk #[eS,eS] 34));have HG0:Xp (zc w W0):=show zc w W0 by rw[<-hW0];exact((za _ _).trans (za _ _)).trans (za _ _)
 have X0:Xp (Box W0 w.heap.size [O ab ps.length cb,O aq qs.length cq]):=dD<|by rw[<-hW0];exact((Box.top w [O ab ps.length cb,O aq qs.length cq] _ rfl).alloc _).alloc _
 have X1:Xp (Box W0 (w.heap.size+1) [U8 p0,U8 p1,U8 p2,U8 p3,U8 p4,U8 p5,U8 p6,U8 p7]):=dD<|by rw[<-hW0];exact(Box.top _ [U8 p0,U8 p1,U8 p2,U8 p3,U8 p4,U8 p5,U8 p6,U8 p7] _ (by simp)).alloc _
 have X2:Xp (Box W0 (w.heap.size+1+1) [eS,eS]):=dD<|by rw[<-hW0];exact Box.top _ [eS,eS] _ (by simp)
 have hcon:=Qy ab ps.length cb (O aq qs.length cq) qs m W0 (HQ.grew HG0);have hown:∀W,zc W0 W->Xq prog 60 #[Xi #[O ab ps.length cb,O aq qs.length cq]] W fun e w'=>∃d',e= Xl d'/\QP W.heap.size w' d' ps qs/\zc W w':=fun W hW=>zb5 _ ps qs W (HD.grew (HG0.trans hW))
 obtain⟨r,HW⟩:=kA (zo ps.length qs m);rw[HW.out]at hcon HP HQ'⊢;obtain⟨nb,HNB⟩:=kA ps.length;obtain⟨nq,HNQ⟩:=kA qs.length;rw[HNB.out,HNQ.out]at hcon hW0 X0⊢;simp only[HNB.out,HNQ.out]at hown;have HW0:Xp (_=W0):=hW0;clear hW0;have hr:=HW.symm.trans hr0;subst hr;rw[kE rfl]at HP HQ';obtain⟨hw0,i,hmi,hib⟩:=qz HW.out;obtain⟨hn80,hq400,hin⟩:=j9 hw0;obtain⟨i0,hi,hz0,hz1,hz2⟩:=info_parts zoq;rw[HP.out,HQ'.out];clear hmi hib;have h400:=HNQ.symm.trans h4;subst h400;obtain⟨q0,r,rfl⟩:∃q0 r,qs=q0 :: r:=by
  cases qs with
  | nil=>exact absurd (show _ from HNQ.out) (by simp)
  | cons q0 r=>exact⟨q0,r,rfl⟩
 have HR:Xp (r.length=399):=dD<|by have:=HNQ.out;simpa using this
 obtain⟨mi,l⟩:=q0;obtain⟨c0,c1,c2,c3,c4,c5,c6,c7,rfl⟩:=zdZ l (HQ.2.1 (mi,l) (by simp))
 obtain⟨i1,hmi1,hib1⟩:=hin _ (List.mem_cons_self);simp only at hmi1;subst hmi1;have hi1n:i1<nb:=by rw[<-HNB.out];exact hib1
 have hi1z:(i1:Int)< (nb:Int):=by omega
 have HB':Xp (jl ps (((i1:Int),[c0,c1,c2,c3,c4,c5,c6,c7]) :: r)=ps.set i1 [c0,c1,c2,c3,c4,c5,c6,c7]):=dD<|by unfold jl;rw[kE HNQ.out];rfl
 have HQ2:Xp (jk (((i1:Int),[c0,c1,c2,c3,c4,c5,c6,c7]) :: r) m [p0,p1,p2,p3,p4,p5,p6,p7]=r++ [(m,[p0,p1,p2,p3,p4,p5,p6,p7])]):=dD<|by unfold jk;rw[kE HNQ.out];rfl
 clear hq400 hin hn80 hw0 hib1
 go_enter func195,ntmps195
 go_wp2_with (first
  | (
   go_at_call 171;rw[HW0.out];refine hcon.mono ?_;rintro e W1 ⟨rfl,hg1⟩
   have G1:Xp (zc W0 W1):=hg1;have e0:=(X0.grew hg1).c 0 rfl;have e1:=(X0.grew hg1).c 1 rfl)
  | (
   go_at_call 60;refine(hown W1 G1).mono ?_;rintro e W2 ⟨d',rfl,hd',hg2⟩
   obtain⟨bv,qv,rfl,ob,oq⟩:=hd';obtain⟨gb,capb,hbv⟩:∃gb capb,bv= O (Xa ⟨gb,0,Xb⟩) nb capb:=by
    rcases ob.1.2 with⟨_,h0⟩|⟨gv,cap,cur,h0,_⟩
    ·have:=HNB.out;omega
    exact⟨gv,cap,by rw[h0,HNB.out]⟩
   subst hbv;obtain⟨gq,capq,hqv⟩:∃gq capq,qv= O (Xa ⟨gq,0,Xb⟩) 400 capq:=by
    rcases oq.1.2 with⟨_,h0⟩|⟨gv,cap,cur,h0,_⟩
    ·simp at h0
    exact⟨gv,cap,by rw[h0,HNQ.out]⟩
   subst hqv;have OB:Xp (zi W1.heap.size W2 (O (Xa ⟨gb,0,Xb⟩) nb capb) ps):=ob;have OQ:Xp (zp W1.heap.size W2 (O (Xa ⟨gq,0,Xb⟩) 400 capq) (((i1:Int),[c0,c1,c2,c3,c4,c5,c6,c7]) :: r)):=oq;have G2:Xp (zc W1 W2):=hg2;obtain⟨k0,k1,k2,k3,k4,k5,k6,k7,k8⟩:=oq.head;have lq:gq<W2.heap.size:=(oq.lt gq rfl).2;clear ob oq hg1 hg2 e0 e1)
  | (
   refine jG rfl (.tmp 34) (.tmp 33) rfl W1.heap.size _ ps (OB.grew ((za W2 (Xk #[O (Xa ⟨gb,0,Xb⟩) nb capb,O (Xa ⟨gq,0,Xb⟩) 400 capq] 34)).trans (za _ (Xk #[I6 (i1:Int),U8 c0,U8 c1,U8 c2,U8 c3,U8 c4,U8 c5,U8 c6,U8 c7] 100)))) gb i1 rfl (by rw[HNB.out];exact hi1n) [c0,c1,c2,c3,c4,c5,c6,c7] rfl _ rfl (by simp) rfl ?_
   intro W5 ow5 gr5 _;have O4:=OQ.grew ((za W2 (Xk #[O (Xa ⟨gb,0,Xb⟩) nb capb,O (Xa ⟨gq,0,Xb⟩) 400 capq] 34)).trans (za _ (Xk #[I6 (i1:Int),U8 c0,U8 c1,U8 c2,U8 c3,U8 c4,U8 c5,U8 c6,U8 c7] 100)));have P4:=OB.grew ((za W2 (Xk #[O (Xa ⟨gb,0,Xb⟩) nb capb,O (Xa ⟨gq,0,Xb⟩) 400 capq] 34)).trans (za _ (Xk #[I6 (i1:Int),U8 c0,U8 c1,U8 c2,U8 c3,U8 c4,U8 c5,U8 c6,U8 c7] 100)));have B4:=(zt.top W2 [O (Xa ⟨gb,0,Xb⟩) nb capb,O (Xa ⟨gq,0,Xb⟩) 400 capq] 34 rfl).grew (za _ (Xk #[I6 (i1:Int),U8 c0,U8 c1,U8 c2,U8 c3,U8 c4,U8 c5,U8 c6,U8 c7] 100));have hgb:=P4.lt gb rfl;have O5:Xp (zp W1.heap.size W5 (O (Xa ⟨gq,0,Xb⟩) 400 capq) (((i1:Int),[c0,c1,c2,c3,c4,c5,c6,c7]) :: r)):=O4.beside P4 gr5;have P5:Xp (zi W1.heap.size W5 (O (Xa ⟨gb,0,Xb⟩) nb capb) (ps.set i1 [c0,c1,c2,c3,c4,c5,c6,c7])):=ow5;have B5:Xp (zt W5 W2.heap.size 34 [O (Xa ⟨gb,0,Xb⟩) nb capb,O (Xa ⟨gq,0,Xb⟩) 400 capq]):=B4.beside gr5 (P4.ne B4);have R5:Xp (Box W5 (w.heap.size+1+1) [eS,eS]):=((((X2.grew G1).grew G2).grew (za W2 _)).grew (za _ _)).beside gr5 (fun g hg=>by cases hg;have h2:=(X2.grew G1).lt;omega)
   have A5:Xp (Box W5 (w.heap.size+1) [U8 p0,U8 p1,U8 p2,U8 p3,U8 p4,U8 p5,U8 p6,U8 p7]):=((((X1.grew G1).grew G2).grew (za W2 _)).grew (za _ _)).beside gr5 (fun g hg=>by cases hg;have h2:=(X1.grew G1).lt;omega)
   have G5:Xp (zc w W5):=zU (((HG0.trans G1).trans G2).trans ((za _ _).trans (za _ _))) gr5 (fun g hg=>by cases hg;have h2:=bS (HG0.trans G1);omega)
   have v0:=B5.box.c 0 rfl;have v1:=B5.box.c 1 rfl;clear ow5 gr5 k0 k1 k2 k3 k4 k5 k6 k7 k8 lq hgb)
  | (
   go_at_call 221
   have hdel:=zfD W1.heap.size gq capq ((i1:Int),[c0,c1,c2,c3,c4,c5,c6,c7]) r W5 (by rw[HR.out];exact O5) (by rw[HR.out];decide) (by rw[HR.out];decide)
   rw[HR.out]at hdel;refine hdel.mono ?_;rintro e W6 ⟨rfl,ow6,gr6⟩;have hgq:=O5.lt gq rfl;have O6:Xp (zp W1.heap.size W6 (O (Xa ⟨gq,0,Xb⟩) 399 capq) r):=ow6;have P6:Xp (zi W1.heap.size W6 (O (Xa ⟨gb,0,Xb⟩) nb capb) (ps.set i1 [c0,c1,c2,c3,c4,c5,c6,c7])):=P5.beside O5 gr6;have B6:Xp (zt W6 W2.heap.size 34 [O (Xa ⟨gb,0,Xb⟩) nb capb,O (Xa ⟨gq,0,Xb⟩) 400 capq]):=B5.beside gr6 (O5.ne B5);have R6:Xp (Box W6 (w.heap.size+1+1) [eS,eS]):=R5.beside gr6 (fun g hg=>by cases hg;have h2:=(X2.grew G1).lt;omega)
   have A6:Xp (Box W6 (w.heap.size+1) [U8 p0,U8 p1,U8 p2,U8 p3,U8 p4,U8 p5,U8 p6,U8 p7]):=A5.beside gr6 (fun g hg=>by cases hg;have h2:=(X1.grew G1).lt;omega)
   have G6:Xp (zc w W6):=zU G5 gr6 (fun g hg=>by cases hg;have h2:=bS (HG0.trans G1);omega)
   clear hdel ow6 gr6 v0 v1 hgq;have v0:=B6.box.c 0 rfl;have v1:=B6.box.c 1 rfl;have vf:=B6.box.f;have hneb1:w.heap.size+1≠W2.heap.size:=by have:=((X1.grew G1).grew G2).lt;omega
   have lt1:w.heap.size+1<W6.heap.size:=A6.lt;have lt2:W2.heap.size<W6.heap.size:=B6.box.lt;obtain⟨u0,u1,u2,u3,u4,u5,u6⟩:=A6.c7;have u7:=A6.c 7 rfl)
  | (
   at_builtin
   have g7:=za (W6.setCell ⟨W2.heap.size,1,Xb⟩ (O (Xa ⟨gq,0,Xb⟩) 399 capq)) (Xk #[I6 m,U8 p0,U8 p1,U8 p2,U8 p3,U8 p4,U8 p5,U8 p6,U8 p7] 100);have O7:=(O6.setOther (a:=⟨W2.heap.size,1,Xb⟩) (O6.ne B6) (O (Xa ⟨gq,0,Xb⟩) 399 capq)).grew g7;have P7:=(P6.setOther (a:=⟨W2.heap.size,1,Xb⟩) (P6.ne B6) (O (Xa ⟨gq,0,Xb⟩) 399 capq)).grew g7;have B7:=(B6.set 1 (O (Xa ⟨gq,0,Xb⟩) 399 capq)).grew g7;have R7:=(R6.other (a:=⟨W2.heap.size,1,Xb⟩) (by have:=((X2.grew G1).grew G2).lt;show w.heap.size+1+1≠W2.heap.size;omega) (O (Xa ⟨gq,0,Xb⟩) 399 capq)).grew g7
   have G7:=(show zc w (W6.setCell ⟨W2.heap.size,1,Xb⟩ (O (Xa ⟨gq,0,Xb⟩) 399 capq))from zz G6 (by have:=bS ((HG0.trans G1).trans G2);exact this) _).trans g7
   refine wpList_append_own _ rfl (.tmp 40) (.tmp 44) 32 rfl W1.heap.size 100 i0 _ 9 16 underlying32 hi hz0 hz1 hz2 rfl (by decide) _ _ _ rfl O7.1 ⟨W6.heap.size,0,Xb⟩ 1 1 (ptc (m,[p0,p1,p2,p3,p4,p5,p6,p7])) rfl rfl (jz.top _ (ptc (m,[p0,p1,p2,p3,p4,p5,p6,p7])) _ (by simp)) (zb1 _) (qC (by rw[HR.out];decide)) (by rw[HR.out];decide) (by have h1:=bS G2.out;have h2:=bS g7;have h3:=B6.box.lt;simp at h2⊢;omega) ?_
   intro v' W8 hown' hgrow _;have N5:Xp (zp W1.heap.size W8 v' (r++ [(m,[p0,p1,p2,p3,p4,p5,p6,p7])])):=zp.snoc hown' O6.2.1 rfl (by rw[HR.out];decide)
   have P8:Xp (zi W1.heap.size W8 (O (Xa ⟨gb,0,Xb⟩) nb capb) (ps.set i1 [c0,c1,c2,c3,c4,c5,c6,c7])):=P7.beside O7 hgrow;have B8:Xp (zt W8 W2.heap.size 34 [O (Xa ⟨gb,0,Xb⟩) nb capb,O (Xa ⟨gq,0,Xb⟩) 399 capq]):=B7.beside hgrow (O7.ne B7);have R8:Xp (Box W8 (w.heap.size+1+1) [eS,eS]):=R7.beside hgrow (fun g hg=>by have h1:=(O7.lt g hg).1;have h2:=(X2.grew G1).lt;omega)
   have G8:Xp (zc w W8):=zU G7 hgrow (fun g hg=>by have h1:=(O7.lt g hg).1;have h2:=bS (HG0.trans G1);omega)
   obtain⟨av,cv,hv'⟩:=N5.form;rw[lA,HR.out,Yk]at hv';subst hv';clear v0 v1 vf;have v0:=B8.box.c 0 rfl;have v1:=B8.box.c 1 rfl;have vf:=B8.box.f;have y0:=R8.c 0 rfl;have y1:=R8.c 1 rfl;have yf:=R8.f;have hneb:w.heap.size+1+1≠W2.heap.size:=by have:=((X2.grew G1).grew G2).lt;omega
   clear g7 hown' hgrow u0 u1 u2 u3 u4 u5 u6 u7 lt1 lt2 hneb1))
 refine bodyPost_ret (v:= Xm #[Xi #[O (Xa ⟨gb,0,Xb⟩) nb capb,O av 400 cv],I6 0]) (by simp[results,Tryz.results195,go_sem, *]) rfl ⟨_,rfl,?_,?_⟩
 ·rw[HB'.out,HQ2.out];exact zku P8 N5 B8 (X2.grew G1).lt (bS (HG0.trans G1))
 have h1:=bS (HG0.trans G1);have h2:=bS G2.out;iterate 3 (refine zz ?_ (by simp;omega) _)
 exact G8.out
theorem zeC (d:Xr) (ps:List (List Int)) (qs:List (Int × List Int)) (m:Int) (p:List Int) (hp:p.length=8) (w:Xo) (hd:j8 w d ps qs):
  Xq prog 195 #[d,I6 m,Xi (pgc p).toArray] w fun e w'=>∃d',e= Xl (Xm #[d',I6 (zo ps.length qs m)])/\qg w.heap.size w' d' (qZ ps qs m) (jb ps qs m p)/\zc w w':=by
 by_cases hr0:zo ps.length qs m=0
 ·by_cases h4:qs.length=400
  ·exact zhS d ps qs m p hp w hd hr0 h4
  exact zjh d ps qs m p hp w hd hr0 h4
 exact zji d ps qs m p hp w hd hr0
def QV (m:Int) (j:Nat):Bool:=bits BinOp.and IntKind.i64 (m / 2 ^(j % 60)) 1 == 1
theorem ziQ (m:Int) (B:Nat) (j:Nat) (hj:j<=400) (w:Xo) (hc:w.cell? ⟨B,0,Xb⟩=Xa (I6 m)):
  Xq prog 127 #[I6 (j:Int),Xj (Xa ⟨B,0,Xb⟩)] w fun e w'=>e= Xl (Xh (QV m j))/\zc w w':=by
 have H:Xp (QV m j=(bits BinOp.and IntKind.i64 (m / 2 ^(j % 60)) 1 == 1)):=rfl
 go_enter func127,ntmps127
 go_wp2;go_ret;rw[H.out];exact⟨rfl,zc.refl _⟩
theorem zeN (m:Int) (B:Nat) (w:Xo) (hc:w.cell? ⟨B,0,Xb⟩=Xa (I6 m)):zg2 127 #[Xj (Xa ⟨B,0,Xb⟩)] (QV m) w:=fun W j hW hj=>
 ziQ m B j hj W ((Below.cell hW (World.block_lt_of_cell? _ _ hc)).trans hc)
theorem zkJ (d:Xr) (ps:List (List Int)) (qs:List (Int × List Int)) (m:Int) (w:Xo) (hd:j8 w d ps qs):
  Xq prog 78 #[d,I6 m] w fun e w'=>∃d',e= Xl (Xm #[d',I6 (zJ ps.length qs)])/\qg w.heap.size w' d' (zc0 (QV m) ps qs) []/\zc w w':=by
 have HD:Xp (j8 w d ps qs):=hd;obtain⟨b,q,rfl,hb,hq⟩:=hd;obtain⟨ab,cb,rfl,_⟩:=hb.rows;obtain⟨aq,cq,rfl,_⟩:=hq.rows;clear hb hq;obtain⟨W0,hW0⟩:=kB (((w.alloc (Xk #[O ab ps.length cb,O aq qs.length cq] 34)).alloc (Xk #[I6 m] 3)).alloc (Xk #[eS,eS] 34));have HG0:Xp (zc w W0):=show zc w W0 by rw[<-hW0];exact((za _ _).trans (za _ _)).trans (za _ _)
 have B1:Box W0 (w.heap.size+1) [I6 m]:=by rw[<-hW0];exact(Box.top _ [I6 m] _ (by simp)).alloc _
 have B2:Box W0 (w.heap.size+1+1) [eS,eS]:=by rw[<-hW0];exact Box.top _ [eS,eS] _ (by simp)
 have hcon:=zhY (QV m) 127 #[Xj (Xa ⟨w.heap.size+1,0,Xb⟩)] (enters_of func127 (by kernel_rfl) rfl) _ ps qs W0 (HD.grew HG0) (zeN m (w.heap.size+1) W0 (B1.c 0 rfl))
 have HB2:Xp (Box W0 (w.heap.size+1+1) [eS,eS]):=B2;obtain⟨nb,HNB⟩:=kA ps.length;obtain⟨nq,HNQ⟩:=kA qs.length;obtain⟨r,HW⟩:=kA (zJ nb qs);rw[HNB.out,HNQ.out,HW.out]at hcon;rw[HNB.out,HNQ.out]at hW0;have HW0:Xp (_=W0):=hW0;clear hW0;rw[HNB.out,HNQ.out,HW.out]
 go_enter func78,ntmps78
 go_wp2_with (
  go_at_call 120;rw[HW0.out]
  refine hcon.mono ?_;rintro e W1 ⟨d1,rfl,hd1,hg1⟩;have b3:Box W1 (w.heap.size+1+1) [eS,eS]:=HB2.grew hg1;have c2:=b3.c 0 rfl;have c3:=b3.c 1 rfl;have f2:=b3.f 0;have f3:=b3.f 1;have HD1:Xp (qg W0.heap.size W1 d1 (zc0 (QV m) ps qs) []):=hd1;have HG1:=dD (HG0.trans hg1);obtain⟨v1,v2,rfl,hv1,hv2,_⟩:=hd1;obtain⟨x1,y1,rfl,_⟩:=hv1.rows;obtain⟨x2,y2,rfl,_⟩:=hv2.rows;clear hv1 hv2 b3)
 refine bodyPost_ret (v:= Xm #[Xi #[.slice x1 (zc0 (QV m) ps qs).length y1,O x2 0 y2],I6 r]) (by simp[results,Tryz.results78,go_sem, *]) rfl ⟨_,rfl,?_,?_⟩
 ·have:=HB2.lt;exact((HD1.setCell (by simpa using this) _).setCell (by simpa using this) _).base (bS HG0)
 exact Below.setCell (Below.setCell HG1 (p:=⟨w.heap.size+1+1,0,Xb⟩) (by simp;omega) _) (p:=⟨w.heap.size+1+1,1,Xb⟩) (by simp;omega) _
theorem al1:QT 3=0:=by decide
theorem al2:zhm 3=[zx,zx,zx]:=by decide
theorem al3:zo [zx,zx,zx].length [] 1=0:=by decide
theorem al4:qZ [zx,zx,zx] [] 1=[zx,zx,zx]:=by decide
theorem zje {n:Nat} {qs:List (Int × List Int)} (hn:n<=80) (hq:qs.length<=400) (hin:∀q∈qs,∃i:Nat,q.1=(i:Int)/\i<n):zJ n qs=0:=by
 unfold zJ;rw[kF (by omega),kF (by omega),kF]
 intro h;obtain⟨q,hq,hb⟩:=Xx.1 h;obtain⟨i,hi,hlt⟩:=hin q hq
 simp[jo,hi,hlt]at hb
theorem zf5 {n:Nat} {qs:List (Int × List Int)} {m:Int} (h:zJ n qs=0) {i:Nat} (hm:m=(i:Int)) (hi:i<n):zo n qs m=0:=by
 unfold zo;rw[kE h,kE]
 simp[jo,hm,hi]
theorem zbP {n:Nat} {qs:List (Int × List Int)} (h:zJ n qs=0) (m:Int):zo n qs m=if jo m n then 0 else 3:=by
 unfold zo;rw[kE h]
theorem Jt (ps:List (List Int)) (qs:List (Int × List Int)):(jl ps qs).length=ps.length:=by
 unfold jl
 split <;> simp
theorem JU {ps:List (List Int)} {qs:List (Int × List Int)} {m:Int} {p:List Int} (h:zo ps.length qs m=0):zJ (jl ps qs).length (jk qs m p)=0:=by
 obtain⟨h0,i,hmi,hib⟩:=qz h;obtain⟨h1,h2,h3⟩:=j9 h0;rw[Jt];refine zje h1 ?_ fun q hq=>?_
 ·unfold jk
  split
  ·simp;omega
  simp;omega
 unfold jk at hq
 rcases Yj.1 hq with h4|h4
 ·split at h4
  ·exact h3 q (List.mem_of_mem_tail h4)
  exact h3 q h4
 simp at h4
 subst h4;exact⟨i,hmi,hib⟩
def zb2:Option (Int × List Int)->List Int->List Int
 | some q,_=>q.2
 | none,d=>d
theorem zbC {ps:List (List Int)} {qs:List (Int × List Int)} {m:Int} (h:zo ps.length qs m=0):jt ps qs m=zb2 (qs.reverse.find? (fun q=>q.1 == m)) (ps.getD m.toNat zx):=by
 unfold jt;rw[kE h]
 cases qs.reverse.find? (fun q=>q.1 == m) <;> rfl
theorem zhR {ps:List (List Int)} {qs:List (Int × List Int)} {m:Int} {p:List Int} (h:zo ps.length qs m=0):zo (jl ps qs).length (jk qs m p) m=0/\jt (jl ps qs) (jk qs m p) m=p:=by
 have hr:=JU (p:=p) h;obtain⟨_,i,hmi,hib⟩:=qz h;have h1:zo (jl ps qs).length (jk qs m p) m=0:=zf5 hr hmi (by rw[Jt];exact hib)
 refine⟨h1,?_⟩;rw[zbC h1]
 simp[jk,zb2]
theorem zbQ {ps:List (List Int)} {qs:List (Int × List Int)} {m:Int} {p:List Int} (h:zo ps.length qs m=0) (o:Int):zo (jl ps qs).length (jk qs m p) o=zo ps.length qs o:=by
 rw[zbP (JU h),zbP (qz h).1,Jt]
theorem zf7 {ps:List (List Int)} {qs:List (Int × List Int)} {m:Int} {p:List Int} (h:zo ps.length qs m=0) {o:Int} (ho:¬o=m):jt (jl ps qs) (jk qs m p) o=jt ps qs o:=by
 have he:=zbQ (p:=p) h o
 by_cases hz:zo ps.length qs o=0
 ·rw[zbC hz,zbC (he.trans hz)];have hmo:(m == o)=Xd:=by simpa using fun e=>ho (Eq.symm e)
  unfold jk jl
  by_cases h4:qs.length=400
  ·rw[kE h4,kE h4]
   cases qs with
   | nil=>simp at h4
   | cons q0 r=>
    obtain⟨_,i,hoi,hio⟩:=qz hz;obtain⟨i0,hq0,hi0⟩:=(j9 (qz h).1).2.2 q0 (by simp)
    simp only[List.tail_cons,List.headD_cons,Yn,List.reverse_cons,List.reverse_nil,Ya,Yf,List.find?_cons,hmo,Yt]
    cases hf:r.reverse.find? (fun q=>q.1 == o)with
    | some q=>rfl
    | none=>
     simp only[Option.none_or]
     cases hq:(q0.1 == o)with
     | true=>
      have:q0.1=o:=by simpa using hq
      subst this;simp only[hq0,tN,zb2]
      simp[hi0]
     | false=>
      have:q0.1≠o:=by simpa using hq
      simp only[List.find?_nil,zb2];rw[gD,gD,sN];rw[hq0,hoi]at this;rw[hq0,hoi];simp only[tN];omega
  rw[kF h4,kF h4]
  simp[hmo]
 have hz':¬zo (jl ps qs).length (jk qs m p) o=0:=by rw[he];exact hz
 unfold jt;rw[kF hz,kF hz']
theorem zbc (a:Option Addr) (n c:Nat) (qv:Xr) (qs:List (Int × List Int)) (w:Xo) (hq:qH w qv qs):
  Xq prog 92 #[Xi #[O a n c,qv]] w fun e w'=>e= Xl (I6 (zJ n qs))/\zc w w':=by
 have HL:Xp (zJ n qs=if 80<n then 4 else if 400<qs.length then 4 else if qs.any (fun q=>!jo q.1 n)then 3 else 0):=rfl
 have hbig:qs.length<=9223372036854775807:=by have:=hq.2.2;omega
 obtain⟨a2,c2,rfl,hrow⟩:=hq.rows;have HRQ:Xp (ZO w a2 qs):=hrow;clear hq hrow;obtain⟨kq,HN⟩:=kA qs.length;rw[HN.out]at HL hbig⊢
 by_cases h1:80<n
 ·have h1':(80:Int)< (n:Int):=by omega
  rw[kE h1]at HL
  go_enter func92,ntmps92
  go_wp2;go_ret;exact⟨by rw[HL.out];rfl,za _ _⟩
 have h1':¬(80:Int)< (n:Int):=by omega
 rw[kF h1]at HL
 by_cases h2:400<kq
 ·have h2':(400:Int)< (kq:Int):=by omega
  rw[kE h2]at HL
  go_enter func92,ntmps92
  go_wp2;go_ret;exact⟨by rw[HL.out];rfl,za _ _⟩
 have h2':¬(400:Int)< (kq:Int):=by omega
 rw[kF h2]at HL;obtain⟨W0,hW0⟩:=kB (w.alloc (Xk #[O a n c,O a2 kq c2] 34));have HG0:=gA hW0
 have X0:=xA hW0
 have HW0:Xp (_=W0):=hW0;clear hW0
 go_enter func92,ntmps92
 go_wp2;rw[HW0.out]
 go_loopg [4,18] kq (fun gg _ s18 wr=>∃kk:Nat,kk<=kq/\kq - kk<=gg/\s18=I6 kk/\Xp (zc W0 wr)/\Xp (∀(j:Nat) q,j<kk->qs[j]? =Xa q->jo q.1 n=Xc))
 case atStart=>exact⟨0,nZ _,by omega,rfl,zc.refl _,fun j q hj=>absurd hj (nL _)⟩
 obtain⟨kk,hkk,hg,rfl,BW,A⟩:=hrel
 by_cases hlt:kk<kq
 ·have hltz:=kC hlt
  obtain⟨q,HQ⟩:∃q,Xp (qs[kk]? =Xa q):=⟨_,gE (by rw[HN.out];exact hlt)⟩
  obtain⟨x,m,b0,b1,b2,b3,b4,b5,b6,b7,rfl,rfl,hl⟩:=HRQ.out kk q HQ.out;obtain⟨d0,d1,d2,d3,d4,d5,d6,d7,d8⟩:=hl wr (HG0.trans BW);have X:=X0.grew BW.out;have z0:=X.c 0 rfl;have zl:=X.lt;clear hl
  by_cases hb:jo m n=Xc
  ·have hb':=hb;unfold jo at hb'
   simp at hb'
   have hm0:¬m<0:=by omega
   have hmn:¬(n:Int)<=m:=by omega
   have HB:Xp (jo m n=Xc):=hb;clear hb hb';go_wp2
   go_roundg (kq -(kk+1))
   case measure=>omega
   refine⟨kk+1,by omega,by omega,by go_num,BW.trans (za _ _),(show Xp _ from fun j q' hj hq'=>?_)⟩
   by_cases e:j=kk
   ·subst e;rw[HQ.out]at hq';cases hq';exact HB.out
   exact A j q' (by omega) hq'
  have hany:(qs.any fun q=>!jo q.1 n)=Xc:=Xx.2 ⟨_,mG HQ,by simpa using hb⟩
  rw[kE hany]at HL;unfold jo at hb
  simp at hb
  clear hany
  by_cases hm0:m<0
  ·clear hb;go_wp2;go_ret;exact⟨by rw[HL.out];rfl,(HG0.trans BW).trans (za _ _)⟩
  have hmn:(n:Int)<=m:=hb (by omega)
  clear hb;go_wp2;go_ret;exact⟨by rw[HL.out];rfl,(HG0.trans BW).trans (za _ _)⟩
 have hltz:=kD hlt
 have:kk=kq:=by omega
 subst this;have hany:¬(qs.any fun q=>!jo q.1 n)=Xc:=fun h=>by
  obtain⟨q,hq,hb⟩:=Xx.1 h;obtain⟨j,hj⟩:=List.getElem?_of_mem hq;have:=A.out j q (by rw[<-HN.out];exact(gS.1 hj).1) hj
  rw[this]at hb
  simp at hb
 rw[kF hany]at HL;clear hany;go_wp2;go_ret;exact⟨by rw[HL.out];rfl,HG0.trans BW⟩
end
end Go.Proofs.YtacihbmelcegbaaGreat
