import Derived.Test.YtangilolcekceaaGreatPF2
import Derived.BigQuiet
import Derived.Deep.Cut
import Derived.Laws.CopyRow
import Derived.Laws.CopyOwn
import Derived.Laws.MakeOwn
import Derived.RangeFuncNested
import Derived.RangeFuncBound
import Derived.RangeFuncCalls
import Derived.RangeFuncLeaves
import Derived.Shelf.Abstract
import Derived.Shelf.RegionOpen
import Derived.WalkKit
import Derived.OwnWalkIn
import Derived.TacticsInMore
import Derived.LoopNIn
import Derived.LoopIn
namespace Go.Proofs.YtangilolcekceaaGreat
set_option maxRecDepth 100000
set_option maxHeartbeats 4000000
section
open Go.RowKit
structure OwnM (base:Nat) (w:World) (V:MaV) (m:Ma):Prop where
 fs:OwnRow frmE base w (.slice V.f.a V.f.n V.f.c) m.fs
 sl:OwnRow slE base w (.slice V.s.a V.s.n V.s.c) m.sl
 sb:OwnPages base w (.slice V.sb.a V.sb.n V.sb.c) m.sb
 sq:OwnPuts base w (.slice V.sq.a V.sq.n V.sq.c) m.sq
 db:OwnPages base w (.slice V.db.a V.db.n V.db.c) m.db
 dq:OwnPuts base w (.slice V.dq.a V.dq.n V.dq.c) m.dq
 fl:∃lo,OwnFiles lo w (.slice V.fl.a V.fl.n V.fl.c) m.fl/\base<=lo/\∀g,(Value.slice V.s.a V.s.n V.s.c).ownBlock=some g->g<lo
 ca:OwnRow cchE base w (.slice V.ca.a V.ca.n V.ca.c) m.ca
 sp:OwnSps base w (.slice V.sp.a V.sp.n V.sp.c) m.sp
 ap:∀g,(Value.slice V.sb.a V.sb.n V.sb.c).ownBlock=some g->(Value.slice V.db.a V.db.n V.db.c).ownBlock≠some g
theorem FilesS.now0 {B0 B1:Nat} {w:World} {v:Value} {fs:List Fl} (h:FilesS B0 B1 w v fs):FilesAt w v fs:=by
 obtain⟨hc,xs,k1,k2,k3⟩:=h;exact⟨hc,xs,k1.now.s0,k2,fun i x f hx hf=>⟨(k3 i x f hx hf).1,(k3 i x f hx hf).2.now.s0⟩⟩
theorem pages_lt {base:Nat} {w:World} {v:Value} {l:List (List Int)} (h:OwnPages base w v l):∀g,v.ownBlock=some g->base<=g/\g<w.heap.size:=h.1.lt
theorem ownsRow_low {w w':World} {base size n g:Nat} {e:TypeId} {v:Value} {xs:List Value} (h:w.ownsRow base e size v n xs) (hg:w.grownBy w' (some g)) (hlt:g<base):w'.ownsRow base e size v n xs:=by
 refine⟨h.1,?_⟩
 rcases h.2 with h1 | ⟨b,cap,cur,rfl,h2,h3,h4⟩
 ·exact .inl h1
 exact .inr ⟨b,cap,cur,rfl,h2,by rw[hg.block b (aS.1 h3).1 (fun e=>by cases e;omega)];exact h3,h4⟩
theorem OwnRow.low {α:Type} {E:Elt α} {base g:Nat} {w w':World} {v:Value} {l:List α} (h:OwnRow E base w v l) (hg:w.grownBy w' (some g)) (hlt:g<base):OwnRow E base w' v l:=⟨ownsRow_low h.1 hg hlt,h.2⟩
theorem OwnSp.low {lo hi g:Nat} {w w':World} {x:SpV} {s:Sp} (h:OwnSp lo hi w x s) (hg:w.grownBy w' (some g)) (hlt:g<lo):OwnSp lo hi w' x s:=
 ⟨h.live,h.ar.low hg hlt,⟨h.tb.len,h.tb.tlen,fun i v y hv hy=>(h.tb.row i v y hv hy).low hg hlt,h.tb.two⟩,h.arh,h.tbh⟩
theorem OwnM.below {base base' g:Nat} {w w':World} {V:MaV} {m:Ma} (h:OwnM base w V m) (hg:w.grownBy w' (some g)) (hlt:g<base) (hb:base'<=base):OwnM base' w' V m:=by
 obtain⟨lo,⟨ys,f1,f2,f3,f4⟩,l1,l2⟩:=h.fl;obtain⟨xs,B,s1,s2,s3,s4,s5⟩:=h.sp;refine⟨(h.fs.low hg hlt).base hb,(h.sl.low hg hlt).base hb,⟨ownsRow_base (ownsRow_low h.sb.1 hg hlt) hb,h.sb.2⟩,⟨ownsRow_base (ownsRow_low h.sq.1 hg hlt) hb,h.sq.2⟩,⟨ownsRow_base (ownsRow_low h.db.1 hg hlt) hb,h.db.2⟩,⟨ownsRow_base (ownsRow_low h.dq.1 hg hlt) hb,h.dq.2⟩,⟨lo,⟨ys,f1.low hg (by omega),f2,fun i x f hx hf=>⟨(f3 i x f hx hf).1,(f3 i x f hx hf).2.low hg (by omega)⟩,f4⟩,by omega,l2⟩,(h.ca.low hg hlt).base hb,⟨xs,B,(s1.low hg hlt).base hb,s2,by omega,s4,fun i x s hx hs=>(s5 i x s hx hs).low hg ?_⟩,h.ap⟩
 have:=mono_le s4 (nZ i);omega
theorem ownM_any (V:MaV) (m:Ma) (w:World) (hm:MachAt w V m):
  Calls Tryz.prog 12 #[.agg #[.slice V.f.a V.f.n V.f.c,.int .i64 m.hand,.slice V.s.a V.s.n V.s.c,.slice V.sb.a V.sb.n V.sb.c,.slice V.sq.a V.sq.n V.sq.c,.slice V.db.a V.db.n V.db.c,.slice V.dq.a V.dq.n V.dq.c,.slice V.fl.a V.fl.n V.fl.c,.int .i64 m.cnt,.slice V.ca.a V.ca.n V.ca.c,.slice V.sp.a V.sp.n V.sp.c]] w fun e w'=>∃V':MaV,e= .returned (.agg #[.slice V'.f.a V'.f.n V'.f.c,.int .i64 m.hand,.slice V'.s.a V'.s.n V'.s.c,.slice V'.sb.a V'.sb.n V'.sb.c,.slice V'.sq.a V'.sq.n V'.sq.c,.slice V'.db.a V'.db.n V'.db.c,.slice V'.dq.a V'.dq.n V'.dq.c,.slice V'.fl.a V'.fl.n V'.fl.c,.int .i64 m.cnt,.slice V'.ca.a V'.ca.n V'.ca.c,.slice V'.sp.a V'.sp.n V'.sp.c])/\OwnM w.heap.size w' V' m/\Grew w w':=by
 obtain⟨n1,n2,-⟩:=hm.ns;have HM:Hid (MachAt w V m):=hm;have HC1:Hid (∀W,Grew w W->Calls Tryz.prog 51 #[.agg #[.slice V.f.a V.f.n V.f.c,.int .i64 m.hand]] W fun e w'=>∃b,e= .returned (.agg #[b,.int .i64 m.hand])/\OwnRow frmE W.heap.size w' b m.fs/\Grew W w'):=show∀W,_ from fun W hW=>by
  have h:=(hm.grew hW).fs;rw[n1]at h⊢;exact ownMem_any _ _ m.fs m.hand W h
 have HC2:Hid (∀W,Grew w W->Calls Tryz.prog 52 #[.slice V.s.a V.s.n V.s.c] W fun e w'=>∃v',e= .returned v'/\OwnRow slE W.heap.size w' v' m.sl/\Grew W w'):=show∀W,_ from fun W hW=>cloneS_any _ m.sl W (hm.grew hW).sl
 have HC3:Hid (∀W,Grew w W->Calls Tryz.prog 53 #[.agg #[.slice V.sb.a V.sb.n V.sb.c,.slice V.sq.a V.sq.n V.sq.c]] W fun e w'=>∃d',e= .returned d'/\OwnDisk W.heap.size w' d' m.sb m.sq/\Grew W w'):=show∀W,_ from fun W hW=>own_any _ m.sb m.sq W ⟨_,_,rfl,(hm.grew hW).sb,(hm.grew hW).sq⟩
 have HC4:Hid (∀W,Grew w W->Calls Tryz.prog 53 #[.agg #[.slice V.db.a V.db.n V.db.c,.slice V.dq.a V.dq.n V.dq.c]] W fun e w'=>∃d',e= .returned d'/\OwnDisk W.heap.size w' d' m.db m.dq/\Grew W w'):=show∀W,_ from fun W hW=>own_any _ m.db m.dq W ⟨_,_,rfl,(hm.grew hW).db,(hm.grew hW).dq⟩
 have HC5:Hid (∀W,Grew w W->Calls Tryz.prog 54 #[.agg #[.slice V.fl.a V.fl.n V.fl.c,.int .i64 m.cnt]] W fun e w'=>∃b,e= .returned (.agg #[b,.int .i64 m.cnt])/\OwnFiles (W.heap.size+2) w' b m.fl/\Grew W w'/\W.heap.size+2<=w'.heap.size):=show∀W,_ from fun W hW=>ownSt_any _ m.fl m.cnt W (hm.grew hW).fl
 have HC6:Hid (∀W,Grew w W->Calls Tryz.prog 55 #[.slice V.ca.a V.ca.n V.ca.c] W fun e w'=>∃v',e= .returned v'/\OwnRow cchE W.heap.size w' v' m.ca/\Grew W w'):=show∀W,_ from fun W hW=>cloneCa_any _ m.ca W (hm.grew hW).ca
 have HC7:Hid (∀W,Grew w W->Calls Tryz.prog 56 #[.slice V.sp.a V.sp.n V.sp.c] W fun e w'=>∃v',e= .returned v'/\OwnSps W.heap.size w' v' m.sp/\Grew W w'):=show∀W,_ from fun W hW=>ownSpaces_any _ m.sp W (hm.grew hW).sp
 clear hm n1 n2;obtain⟨W0,hW0⟩:∃W0,(w.alloc (.cells #[.slice V.f.a V.f.n V.f.c,.int .i64 m.hand,.slice V.s.a V.s.n V.s.c,.slice V.sb.a V.sb.n V.sb.c,.slice V.sq.a V.sq.n V.sq.c,.slice V.db.a V.db.n V.db.c,.slice V.dq.a V.dq.n V.dq.c,.slice V.fl.a V.fl.n V.fl.c,.int .i64 m.cnt,.slice V.ca.a V.ca.n V.ca.c,.slice V.sp.a V.sp.n V.sp.c] 40)).alloc (.cells #[.slice none 0 0,.int .i64 0,.slice none 0 0,.slice none 0 0,.slice none 0 0,.slice none 0 0,.slice none 0 0,.slice none 0 0,.int .i64 0,.slice none 0 0,.slice none 0 0] 40)=W0:=⟨_,rfl⟩;have HG0:=gD2 hW0
 have X0:=x2a hW0
 have Y0:=x2b hW0
 have HS0:Hid (W0.heap.size=(w.heap.size+1+1)):=show _=_ by rw[<-hW0];simp
 have HW0:Hid (_=W0):=hW0;clear hW0
 go_enter Tryz.func12,Tryz.ntmps12
 go_upto_region 1 with fail;rw[HW0.out];obtain⟨I,hI⟩:∃I:World->Prop,I=fun u=>Grew W0 u:=⟨_,rfl⟩
 have HI:Hid (∀u,I u↔Grew W0 u):=show∀u,_ from fun u=>by rw[hI]
 clear hI;have hI0:I W0.drew:=(HI.out _).2 (gW _)
 have hx0:=X0.out.h HI.out 0 rfl
 have hx1:=X0.out.h HI.out 1 rfl
 have hx2:=X0.out.h HI.out 2 rfl
 have hx3:=X0.out.h HI.out 3 rfl
 have hx4:=X0.out.h HI.out 4 rfl
 have hx5:=X0.out.h HI.out 5 rfl
 have hx6:=X0.out.h HI.out 6 rfl
 have hx7:=X0.out.h HI.out 7 rfl
 have hx8:=X0.out.h HI.out 8 rfl
 have hx9:=X0.out.h HI.out 9 rfl
 have hx10:=X0.out.h HI.out 10 rfl
 have hne:Nonempty (HoldI I):=⟨⟨_,hI0⟩⟩;have HSZ:Hid (∀u,I u->(w.heap.size+1+1)<=u.heap.size):=show∀u,_ from fun u hu=>by rw[<-HS0.out];exact bS ((HI.out _).1 hu)
 refine wp_lax_tailC (I:=I) 22 [(2,fun v=>∃s:Sli,v= .agg #[.slice s.a s.n s.c,.int .i64 m.hand]),(5,fun v=>∃s:Sli,v= .slice s.a s.n s.c),(8,fun v=>∃b q:Sli,v= .agg #[.slice b.a b.n b.c,.slice q.a q.n q.c]),(11,fun v=>∃b q:Sli,v= .agg #[.slice b.a b.n b.c,.slice q.a q.n q.c]),(14,fun v=>∃s:Sli,v= .agg #[.slice s.a s.n s.c,.int .i64 m.cnt]),(17,fun v=>∃s:Sli,v= .slice s.a s.n s.c),(20,fun v=>∃s:Sli,v= .slice s.a s.n s.c)] hI0 mixed (by kernel_rfl) rfl rfl (by decide) ?hS (by kernel_rfl) ?_
 case hS=>
  intro x hx;simp only[mC,nM,or_false]at hx
  rcases hx with rfl | rfl | rfl | rfl | rfl | rfl | rfl
  ·exact⟨_,sli0,rfl⟩
  ·exact⟨_,sli0,rfl⟩
  ·exact⟨_,sli0,sli0,rfl⟩
  ·exact⟨_,sli0,sli0,rfl⟩
  ·exact⟨_,sli0,rfl⟩
  ·exact⟨_,sli0,rfl⟩
  exact⟨_,sli0,rfl⟩
 simp only[List.take,List.drop];iterate 2 (refine laxC_quiet rfl rfl rfl (fun K hK=>?_);go_big_quiet_op;refine hK _ ?_;clear hK K)
 refine laxC_spec rfl rfl (fun v w'=>∃s:Sli,v= .agg #[.slice s.a s.n s.c,.int .i64 m.hand]/\OwnRow frmE (w.heap.size+1+1) w' (.slice s.a s.n s.c) m.fs) (fun v u u' hu h=>by obtain⟨s,h1,h2⟩:=h;exact⟨s,h1,h2.grew hu⟩) (fun w' hI' hF=>?_) (fun v1 hv=>?_)
 ·have hg':Grew w w':=HG0.out.trans ((HI.out _).1 hI');have hsz:=HSZ.out w' hI';refine Does.call [.agg #[.slice V.f.a V.f.n V.f.c,.int .i64 m.hand]] rfl Tryz.func51 rfl rfl rfl ?_;refine(HC1.out w' hg').mono ?_;rintro e w'' ⟨b,rfl,ow,hg2⟩;obtain⟨a2,c2,rfl⟩:=ow.form;exact⟨_,rfl,(HI.out _).2 (((HI.out _).1 hI').trans hg2),hg2,⟨⟨a2,_,c2⟩,rfl⟩,⟨a2,_,c2⟩,rfl,ow.base hsz⟩
 obtain⟨sf,rfl⟩:=hv;simp only[Act.put,sB,sS,sZ];iterate 2 (refine laxC_quiet rfl rfl rfl (fun K hK=>?_);go_big_quiet_op;refine hK _ ?_;clear hK K)
 refine laxC_spec rfl rfl (fun v w'=>OwnRow slE (w.heap.size+1+1) w' v m.sl) (fun v u u' hu h=>OwnRow.grew h hu) (fun w' hI' hF=>?_) (fun v1 hv=>?_)
 ·have hg':Grew w w':=HG0.out.trans ((HI.out _).1 hI');have hsz:=HSZ.out w' hI';refine Does.call [.slice V.s.a V.s.n V.s.c] rfl Tryz.func52 rfl rfl rfl ?_;refine(HC2.out w' hg').mono ?_;rintro e w'' ⟨b,rfl,ow,hg2⟩;obtain⟨a2,c2,rfl⟩:=ow.form;exact⟨_,rfl,(HI.out _).2 (((HI.out _).1 hI').trans hg2),hg2,⟨⟨a2,_,c2⟩,rfl⟩,ow.base hsz⟩
 obtain⟨ss,rfl⟩:=hv;simp only[Act.put,sB,sS,sZ];iterate 2 (refine laxC_quiet rfl rfl rfl (fun K hK=>?_);go_big_quiet_op;refine hK _ ?_;clear hK K)
 refine laxC_spec rfl rfl (fun v w'=>∃b q:Sli,v= .agg #[.slice b.a b.n b.c,.slice q.a q.n q.c]/\OwnPages (w.heap.size+1+1) w' (.slice b.a b.n b.c) m.sb/\OwnPuts (w.heap.size+1+1) w' (.slice q.a q.n q.c) m.sq) (fun v u u' hu h=>by obtain⟨b,q,h1,h2,h3⟩:=h;exact⟨b,q,h1,h2.grew hu,h3.grew hu⟩) (fun w' hI' hF=>?_) (fun v1 hv=>?_)
 ·have hg':Grew w w':=HG0.out.trans ((HI.out _).1 hI');have hsz:=HSZ.out w' hI';refine Does.call [.agg #[.slice V.sb.a V.sb.n V.sb.c,.slice V.sq.a V.sq.n V.sq.c]] rfl Tryz.func53 rfl rfl rfl ?_;refine(HC3.out w' hg').mono ?_;rintro e w'' ⟨d,rfl,⟨b,q,rfl,ob,oq⟩,hg2⟩;obtain⟨a2,n2,c2,rfl⟩:=ob.slice;obtain⟨a3,n3,c3,rfl⟩:=oq.slice;exact⟨_,rfl,(HI.out _).2 (((HI.out _).1 hI').trans hg2),hg2,⟨⟨a2,n2,c2⟩,⟨a3,n3,c3⟩,rfl⟩,⟨a2,n2,c2⟩,⟨a3,n3,c3⟩,rfl,ob.base hsz,oq.base hsz⟩
 obtain⟨sb,sq,rfl⟩:=hv;simp only[Act.put,sB,sS,sZ];iterate 2 (refine laxC_quiet rfl rfl rfl (fun K hK=>?_);go_big_quiet_op;refine hK _ ?_;clear hK K)
 refine laxC_spec rfl rfl (fun v w'=>∃b q:Sli,v= .agg #[.slice b.a b.n b.c,.slice q.a q.n q.c]/\OwnPages (w.heap.size+1+1) w' (.slice b.a b.n b.c) m.db/\OwnPuts (w.heap.size+1+1) w' (.slice q.a q.n q.c) m.dq/\∀g,(Value.slice sb.a sb.n sb.c).ownBlock=some g->(Value.slice b.a b.n b.c).ownBlock≠some g) (fun v u u' hu h=>by obtain⟨b,q,h1,h2,h3,h4⟩:=h;exact⟨b,q,h1,h2.grew hu,h3.grew hu,h4⟩) (fun w' hI' hF=>?_) (fun v1 hv=>?_)
 ·have hg':Grew w w':=HG0.out.trans ((HI.out _).1 hI');have hsz:=HSZ.out w' hI';refine Does.call [.agg #[.slice V.db.a V.db.n V.db.c,.slice V.dq.a V.dq.n V.dq.c]] rfl Tryz.func53 rfl rfl rfl ?_;refine(HC4.out w' hg').mono ?_;rintro e w'' ⟨d,rfl,⟨b,q,rfl,ob,oq⟩,hg2⟩;obtain⟨a2,n2,c2,rfl⟩:=ob.slice;obtain⟨a3,n3,c3,rfl⟩:=oq.slice;obtain⟨b8,q8,e8,o8,_⟩:∃b q:Sli,(Value.agg #[.slice sb.a sb.n sb.c,.slice sq.a sq.n sq.c])= .agg #[.slice b.a b.n b.c,.slice q.a q.n q.c]/\OwnPages (w.heap.size+1+1) w' (.slice b.a b.n b.c) m.sb/\OwnPuts (w.heap.size+1+1) w' (.slice q.a q.n q.c) m.sq:=hF 8 (by kernel_rfl)
  refine⟨_,rfl,(HI.out _).2 (((HI.out _).1 hI').trans hg2),hg2,⟨⟨a2,n2,c2⟩,⟨a3,n3,c3⟩,rfl⟩,⟨a2,n2,c2⟩,⟨a3,n3,c3⟩,rfl,ob.base hsz,oq.base hsz,fun g h1 h2=>?_⟩
  simp only[Value.agg.injEq,Array.mk.injEq,List.cons.injEq]at e8;rw[e8.1]at h1;have q1:=(pages_lt o8 g h1).2;have q2:=(pages_lt ob g h2).1;omega
 obtain⟨db,dq,rfl⟩:=hv;simp only[Act.put,sB,sS,sZ];iterate 2 (refine laxC_quiet rfl rfl rfl (fun K hK=>?_);go_big_quiet_op;refine hK _ ?_;clear hK K)
 refine laxC_spec rfl rfl (fun v w'=>∃s:Sli,v= .agg #[.slice s.a s.n s.c,.int .i64 m.cnt]/\∃lo,OwnFiles lo w' (.slice s.a s.n s.c) m.fl/\(w.heap.size+1+1)<=lo/\∀g,(Value.slice ss.a ss.n ss.c).ownBlock=some g->g<lo) (fun v u u' hu h=>by obtain⟨s,h1,lo,h2,h3,h4⟩:=h;exact⟨s,h1,lo,h2.grew hu,h3,h4⟩) (fun w' hI' hF=>?_) (fun v1 hv=>?_)
 ·have hg':Grew w w':=HG0.out.trans ((HI.out _).1 hI');have hsz:=HSZ.out w' hI';refine Does.call [.agg #[.slice V.fl.a V.fl.n V.fl.c,.int .i64 m.cnt]] rfl Tryz.func54 rfl rfl rfl ?_;refine(HC5.out w' hg').mono ?_;rintro e w'' ⟨b,rfl,of,hg2,_⟩;have hof:=of;obtain⟨ys,oy,_⟩:=of;obtain⟨a2,c2,rfl⟩:=oy.form;have o5:OwnRow slE (w.heap.size+1+1) w' (.slice ss.a ss.n ss.c) m.sl:=hF 5 (by kernel_rfl)
  exact⟨_,rfl,(HI.out _).2 (((HI.out _).1 hI').trans hg2),hg2,⟨⟨a2,_,c2⟩,rfl⟩,⟨a2,_,c2⟩,rfl,w'.heap.size+2,hof,by omega,fun g h1=>by have:=(o5.lt g h1).2;omega⟩
 obtain⟨sl,rfl⟩:=hv;simp only[Act.put,sB,sS,sZ];iterate 2 (refine laxC_quiet rfl rfl rfl (fun K hK=>?_);go_big_quiet_op;refine hK _ ?_;clear hK K)
 refine laxC_spec rfl rfl (fun v w'=>OwnRow cchE (w.heap.size+1+1) w' v m.ca) (fun v u u' hu h=>OwnRow.grew h hu) (fun w' hI' hF=>?_) (fun v1 hv=>?_)
 ·have hg':Grew w w':=HG0.out.trans ((HI.out _).1 hI');have hsz:=HSZ.out w' hI';refine Does.call [.slice V.ca.a V.ca.n V.ca.c] rfl Tryz.func55 rfl rfl rfl ?_;refine(HC6.out w' hg').mono ?_;rintro e w'' ⟨b,rfl,ow,hg2⟩;obtain⟨a2,c2,rfl⟩:=ow.form;exact⟨_,rfl,(HI.out _).2 (((HI.out _).1 hI').trans hg2),hg2,⟨⟨a2,_,c2⟩,rfl⟩,ow.base hsz⟩
 obtain⟨sc,rfl⟩:=hv;simp only[Act.put,sB,sS,sZ];iterate 2 (refine laxC_quiet rfl rfl rfl (fun K hK=>?_);go_big_quiet_op;refine hK _ ?_;clear hK K)
 refine laxC_spec rfl rfl (fun v w'=>OwnSps (w.heap.size+1+1) w' v m.sp) (fun v u u' hu h=>OwnSps.grew h hu) (fun w' hI' hF=>?_) (fun v1 hv=>?_)
 ·have hg':Grew w w':=HG0.out.trans ((HI.out _).1 hI');have hsz:=HSZ.out w' hI';refine Does.call [.slice V.sp.a V.sp.n V.sp.c] rfl Tryz.func56 rfl rfl rfl ?_;refine(HC7.out w' hg').mono ?_;rintro e w'' ⟨b,rfl,os,hg2⟩;have hos:=os;obtain⟨ys,B,oy,_⟩:=os;obtain⟨a2,c2,rfl⟩:=oy.form;exact⟨_,rfl,(HI.out _).2 (((HI.out _).1 hI').trans hg2),hg2,⟨⟨a2,_,c2⟩,rfl⟩,hos.base hsz⟩
 obtain⟨sp,rfl⟩:=hv;simp only[Act.put,sB,sS,sZ];iterate 1 (refine laxC_quiet rfl rfl rfl (fun K hK=>?_);go_big_quiet_op;refine hK _ ?_;clear hK K)
 refine laxC_nil fun W3 hI3 hF=>?_
 have hg3:=(HI.out _).1 hI3;have F2:∃s:Sli,(Value.agg #[.slice sf.a sf.n sf.c,.int .i64 m.hand])= .agg #[.slice s.a s.n s.c,.int .i64 m.hand]/\OwnRow frmE (w.heap.size+1+1) W3 (.slice s.a s.n s.c) m.fs:=hF 2;have F5:OwnRow slE (w.heap.size+1+1) W3 (.slice ss.a ss.n ss.c) m.sl:=hF 5;have F8:∃b q:Sli,(Value.agg #[.slice sb.a sb.n sb.c,.slice sq.a sq.n sq.c])= .agg #[.slice b.a b.n b.c,.slice q.a q.n q.c]/\OwnPages (w.heap.size+1+1) W3 (.slice b.a b.n b.c) m.sb/\OwnPuts (w.heap.size+1+1) W3 (.slice q.a q.n q.c) m.sq:=hF 8;have F11:∃b q:Sli,(Value.agg #[.slice db.a db.n db.c,.slice dq.a dq.n dq.c])= .agg #[.slice b.a b.n b.c,.slice q.a q.n q.c]/\OwnPages (w.heap.size+1+1) W3 (.slice b.a b.n b.c) m.db/\OwnPuts (w.heap.size+1+1) W3 (.slice q.a q.n q.c) m.dq/\∀g,(Value.slice sb.a sb.n sb.c).ownBlock=some g->(Value.slice b.a b.n b.c).ownBlock≠some g:=hF 11;have F14:∃s:Sli,(Value.agg #[.slice sl.a sl.n sl.c,.int .i64 m.cnt])= .agg #[.slice s.a s.n s.c,.int .i64 m.cnt]/\∃lo,OwnFiles lo W3 (.slice s.a s.n s.c) m.fl/\(w.heap.size+1+1)<=lo/\∀g,(Value.slice ss.a ss.n ss.c).ownBlock=some g->g<lo:=hF 14;have F17:OwnRow cchE (w.heap.size+1+1) W3 (.slice sc.a sc.n sc.c) m.ca:=hF 17;have F20:OwnSps (w.heap.size+1+1) W3 (.slice sp.a sp.n sp.c) m.sp:=hF 20;have HOM:Hid (OwnM (w.heap.size+1+1) W3 ⟨sf,ss,sb,sq,db,dq,sl,sc,sp⟩ m):=show OwnM _ _ _ _ by
  obtain⟨s2,e2,o2⟩:=F2;obtain⟨b8,q8,e8,o8,p8⟩:=F8;obtain⟨b11,q11,e11,o11,p11,a11⟩:=F11;obtain⟨s14,e14,lo,o14,l14,a14⟩:=F14;simp only[Value.agg.injEq,Array.mk.injEq,List.cons.injEq]at e2 e8 e11 e14;rw[<-e2.1]at o2;rw[<-e8.1]at o8;rw[<-e8.2.1]at p8;rw[<-e11.1]at o11 a11;rw[<-e11.2.1]at p11;rw[<-e14.1]at o14;exact⟨o2,F5,o8,p8,o11,p11,⟨lo,o14,l14,a14⟩,F17,F20,a11⟩
 have Y3:=dD (Y0.out.grew hg3);have HG3:=dD (HG0.out.trans hg3);clear F2 F5 F8 F11 F14 F17 F20 hF hI3 hg3 hx0 hx1 hx2 hx3 hx4 hx5 hx6 hx7 hx8 hx9 hx10 hne hI0
 go_wp2_with (refine wp_storeAll rfl 40 (.tmp 2) (.tmp 24) rfl (w.heap.size+1) rfl [.slice sf.a sf.n sf.c,.int .i64 m.hand,.slice ss.a ss.n ss.c,.slice sb.a sb.n sb.c,.slice sq.a sq.n sq.c,.slice db.a db.n db.c,.slice dq.a dq.n dq.c,.slice sl.a sl.n sl.c,.int .i64 m.cnt,.slice sc.a sc.n sc.c,.slice sp.a sp.n sp.c] rfl Y3.out rfl (by kernel_rfl) (fun v hv=>by
    simp only[mC,nM,or_false]at hv
    rcases hv with rfl | rfl | rfl | rfl | rfl | rfl | rfl | rfl | rfl | rfl | rfl <;> rfl) ?_)
 intro W4 hb4 hg4 sz4;have HG4:Hid (Grew w W4):=show Grew _ _ from grew_grown HG3.out hg4 (by omega)
 have HO4:Hid (OwnM w.heap.size W4 ⟨sf,ss,sb,sq,db,dq,sl,sc,sp⟩ m):=show OwnM _ _ _ _ from HOM.out.below hg4 (by omega) (by omega)
 go_wp2;refine bodyPost_ret (ret_cell rfl _ rfl hb4 Tryz.underlying40 rfl (by kernel_rfl)) rfl ⟨⟨sf,ss,sb,sq,db,dq,sl,sc,sp⟩,rfl,HO4.out,HG4.out⟩
theorem Tryz.sizeFlat:(Tryz.prog.info? 93).map (·.size)=some 192:=by kernel_rfl
def cellsL (l:List En):List Value:=l.flatMap env
theorem cellsL_len (l:List En):(cellsL l).length=l.length*3:=flatMap_len l (fun _ _=>rfl)
theorem cellsL_one (l:List En):∀v∈cellsL l,v.oneCell'=true:=flatMap_one enE.one l
theorem cellsL_at {l:List En} {j:Nat} {e:En} (h:l[j]? =some e):(cellsL l)[j*3]? =some (.int .i64 e.kind)/\(cellsL l)[j*3+1]? =some (.int .i64 e.n)/\(cellsL l)[j*3+2]? =some (.bool e.wr):=
 ⟨flatMap_elem (enc:=env) (k:=3) l j e (fun _ _=>rfl) h 0 _ rfl,flatMap_elem (enc:=env) (k:=3) l j e (fun _ _=>rfl) h 1 _ rfl,flatMap_elem (enc:=env) (k:=3) l j e (fun _ _=>rfl) h 2 _ rfl⟩
theorem run_flatAt {w:World} {l:List En} (i:Nat) (hi:i<64) {e:En} (he:l[i]? =some e):(Instr.index 93 (.agg (cellsL l).toArray) (.int .i64 (i:Int))).run Tryz.prog w= .ok (.agg #[.int .i64 e.kind,.int .i64 e.n,.bool e.wr]) w:=by
 have ha:(isAgg 67).run Tryz.prog w= .ok true w:=by
  unfold isAgg;rw[Sem.run_bind,run_underlying Tryz.underlying67 w];rfl
 have hs:(Go.sizeOf 67).run Tryz.prog w= .ok 3 w:=by
  obtain⟨i0,h1,h2⟩:∃i0,Tryz.prog.info? 67=some i0/\i0.size=3:=by
   have:(Tryz.prog.info? 67).map (·.size)=some 3:=by kernel_rfl
   cases hq:Tryz.prog.info? 67 with
   | none=>rw[hq]at this;cases this
   | some i0=>rw[hq]at this;exact⟨i0,rfl,by simpa using this⟩
  simp[Go.sizeOf,typeInfo,h1,h2]
 have hlt:(0:Int)<=(i:Int)/\(i:Int)< ((64:Nat):Int):=by omega
 obtain⟨c0,c1,c2⟩:=cellsL_at he;have hx:(cellsL l).toArray.extract (i*3) (i*3+3)=#[.int .i64 e.kind,.int .i64 e.n,.bool e.wr]:=by
  apply Array.ext_getElem?
  intro j;rw[Array.getElem?_extract];have hlen:i*3+3<=(cellsL l).toArray.size:=by
   have:=(gS.1 c2).1;simp;omega
  by_cases hj:j<3
  ·rw[if_pos (by omega)]
   obtain rfl | rfl | rfl:j=0\/j=1\/j=2:=by omega
   ·simpa using c0
   ·simpa using c1
   simpa using c2
  rw[if_neg (by omega)]
  simp;omega
 simp only[Instr.index,asIntOf,Sem.run_bind,Sem.run_pure,rA,run_underlying Tryz.underlying93];rw[if_pos hlt];simp only[Sem.run_bind,hs,rA,part,ha,if_true,tN,Sem.run_pure,hx]
theorem wp_flatAt {ops:Array Oper} {rest:List Oper} {o:Oper} {a:Act} {w:World} {Q:Exit->Act->World->Prop} (hgd:o.guard=none) (x ix:Operand) (ho:o.op= .index 93 x ix) (l:List En) (hx:a.eval x= .agg (cellsL l).toArray) (i:Nat) (hix:a.eval ix= .int .i64 (i:Int)) (hi:i<64) {e:En} (he:l[i]? =some e)
  (h:wpList Tryz.prog ops Q rest (a.put o.dst (.agg #[.int .i64 e.kind,.int .i64 e.n,.bool e.wr])) w):wpList Tryz.prog ops Q (o :: rest) a w:=by
 refine wpList_plain hgd fun K hK=>?_
 unfold Oper.wp execOp;simp only[ho,hx,hix,Sem.run_bind,Sem.run_pure,rA,run_flatAt i hi he];exact hK _ _ h
theorem Tryz.infoByte:(Tryz.prog.info? 5).map (fun i=>(i.zero,i.size,i.bytes))=some (some (.int .u8 0),1,1):=by kernel_rfl
def byE:Elt Int where
 enc:=fun z=>[.int .u8 z]
 k:=1
 ty:=5
 st:=24
 bytes:=1
 zv:= .int .u8 0
 zero:=0
 len:=fun _=>rfl
 one:=fun a u hu=>by
  simp only[mC,nM,or_false]at hu;rw[hu];rfl
 und:=Tryz.underlying24
 info:=Tryz.infoByte
 zok:=rfl
 few:=by decide
 pos:=by decide
theorem Tryz.infoFlat:(Tryz.prog.info? 93).map (fun i=>(i.zero,i.size,i.bytes))=some (some (.agg (cellsL (tab fun _=>en0)).toArray),192,1536):=by kernel_rfl
def flaE:Elt (Nat->En) where
 enc:=fun f=>cellsL (tab f)
 k:=192
 ty:=93
 st:=85
 bytes:=1536
 zv:= .agg (cellsL (tab fun _=>en0)).toArray
 zero:=fun _=>en0
 len:=fun f=>by rw[cellsL_len,tab_len]
 one:=fun f=>cellsL_one _
 und:=Tryz.underlying85
 info:=Tryz.infoFlat
 zok:=rfl
 few:=by decide
 pos:=by decide
structure MkR (base hi:Nat) (w:World) (V:MaV) (m:Ma) (vt:Sli) (T:List (Nat->En)):Prop where
 hw:hi<=w.heap.size
 bh:base<=hi
 fs:OwnRow frmE base w (.slice V.f.a V.f.n V.f.c) m.fs
 sl:OwnRow slE base w (.slice V.s.a V.s.n V.s.c) m.sl
 slh:∀g,(Value.slice V.s.a V.s.n V.s.c).ownBlock=some g->g<hi
 sb:OwnPages base w (.slice V.sb.a V.sb.n V.sb.c) m.sb
 sbh:∀g,(Value.slice V.sb.a V.sb.n V.sb.c).ownBlock=some g->g<hi
 sq:V.sq=sli0/\m.sq=[]
 db:OwnPages base w (.slice V.db.a V.db.n V.db.c) m.db
 dbh:∀g,(Value.slice V.db.a V.db.n V.db.c).ownBlock=some g->g<hi
 dq:OwnPuts base w (.slice V.dq.a V.dq.n V.dq.c) m.dq
 fl:∃xs:List FlV,OwnRow fvE base w (.slice V.fl.a V.fl.n V.fl.c) xs/\xs.length=m.fl.length/\∀(i:Nat) x f,xs[i]? =some x->m.fl[i]? =some f->x.size=f.size/\OwnRow blE hi w x.v f.bl
 ca:OwnRow cchE base w (.slice V.ca.a V.ca.n V.ca.c) m.ca
 sp:∃xs:List SpV,OwnRow spcE base w (.slice V.sp.a V.sp.n V.sp.c) xs/\xs.length=m.sp.length/\∀(i:Nat) x s,xs[i]? =some x->m.sp[i]? =some s->x.live=s.live/\OwnRow arE base w x.ar.v s.ars/\x.tab=nil8/\s.tb=none8
 tt:OwnRow flaE base w (.slice vt.a vt.n vt.c) T
 ap:∀g,(Value.slice V.sb.a V.sb.n V.sb.c).ownBlock=some g->(Value.slice V.db.a V.db.n V.db.c).ownBlock≠some g
section
variable{base hi:Nat} {w w':World} {V:MaV} {m:Ma} {vt:Sli} {T:List (Nat->En)}
theorem MkR.grew (h:MkR base hi w V m vt T) (k:Grew w w'):MkR base hi w' V m vt T:=by
 obtain⟨xs,f1,f2,f3⟩:=h.fl;obtain⟨ys,s1,s2,s3⟩:=h.sp;exact⟨nT h.hw (bS k),h.bh,h.fs.grew k,h.sl.grew k,h.slh,h.sb.grew k,h.sbh,h.sq,h.db.grew k,h.dbh,h.dq.grew k,⟨xs,f1.grew k,f2,fun i x f hx hf=>⟨(f3 i x f hx hf).1,(f3 i x f hx hf).2.grew k⟩⟩,h.ca.grew k,⟨ys,s1.grew k,s2,fun i x s hx hs=>⟨(s3 i x s hx hs).1,(s3 i x s hx hs).2.1.grew k,(s3 i x s hx hs).2.2⟩⟩,h.tt.grew k,h.ap⟩
theorem OwnRow.kind {α:Type} {E:Elt α} {b g:Nat} {v:Value} {l:List α} {t:TypeId} {cs:Array Value} (h:OwnRow E b w v l) (hg:w.grownBy w' (some g)) (ho:w.heap[g]? =some (.cells cs t (0,0))) (ht:t≠E.ty):OwnRow E b w' v l:=h.grown hg fun k hk e=>by
 cases e;obtain⟨ds,h3⟩:=h.obj hk;rw[ho]at h3;cases h3;exact ht rfl
theorem ownsRow_ne {b size n g:Nat} {e:TypeId} {v:Value} {xs:List Value} (h:w.ownsRow b e size v n xs) (hg:w.grownBy w' (some g)) (hne:v.ownBlock≠some g):w'.ownsRow b e size v n xs:=by
 refine⟨h.1,?_⟩
 rcases h.2 with h1 | ⟨k,cap,cur,rfl,h2,h3,h4⟩
 ·exact .inl h1
 exact .inr ⟨k,cap,cur,rfl,h2,by rw[hg.block k (aS.1 h3).1 (fun e=>by cases e;exact hne rfl)];exact h3,h4⟩
theorem ownsRow_kind {b size n g:Nat} {e t:TypeId} {cs:Array Value} {v:Value} {xs:List Value} (h:w.ownsRow b e size v n xs) (hg:w.grownBy w' (some g)) (ho:w.heap[g]? =some (.cells cs t (0,0))) (ht:t≠e):w'.ownsRow b e size v n xs:=by
 refine ownsRow_ne h hg fun hv=>?_
 rcases h.2 with⟨rfl,_⟩ | ⟨k,cap,cur,rfl,h2,h3,h4⟩
 ·cases hv
 simp only[Value.ownBlock,Option.some.injEq]at hv;subst hv;rw[ho]at h3;cases h3;exact ht rfl
theorem MkR.kept (h:MkR base hi w V m vt T) {g:Nat} {t:TypeId} {cs:Array Value} (hg:w.grownBy w' (some g)) (ho:w.heap[g]? =some (.cells cs t (0,0))):
  (t≠59->OwnRow frmE base w' (.slice V.f.a V.f.n V.f.c) m.fs)/\(t≠3\/hi<=g->OwnRow slE base w' (.slice V.s.a V.s.n V.s.c) m.sl)/\
  (t≠50\/hi<=g\/(Value.slice V.sb.a V.sb.n V.sb.c).ownBlock≠some g->OwnPages base w' (.slice V.sb.a V.sb.n V.sb.c) m.sb)/\(t≠50\/hi<=g\/(Value.slice V.db.a V.db.n V.db.c).ownBlock≠some g->OwnPages base w' (.slice V.db.a V.db.n V.db.c) m.db)/\
  (t≠91->OwnPuts base w' (.slice V.dq.a V.dq.n V.dq.c) m.dq)/\
  (t≠71->(t≠3\/g<hi)->∃xs:List FlV,OwnRow fvE base w' (.slice V.fl.a V.fl.n V.fl.c) xs/\xs.length=m.fl.length/\∀(i:Nat) x f,xs[i]? =some x->m.fl[i]? =some f->x.size=f.size/\OwnRow blE hi w' x.v f.bl)/\
  (t≠83->OwnRow cchE base w' (.slice V.ca.a V.ca.n V.ca.c) m.ca)/\
  (t≠65->t≠69->∃xs:List SpV,OwnRow spcE base w' (.slice V.sp.a V.sp.n V.sp.c) xs/\xs.length=m.sp.length/\∀(i:Nat) x s,xs[i]? =some x->m.sp[i]? =some s->x.live=s.live/\OwnRow arE base w' x.ar.v s.ars/\x.tab=nil8/\s.tb=none8)/\
  (t≠93->OwnRow flaE base w' (.slice vt.a vt.n vt.c) T):=by
 obtain⟨xs,f1,f2,f3⟩:=h.fl;obtain⟨ys,s1,s2,s3⟩:=h.sp;refine⟨fun ht=>h.fs.kind hg ho ht,fun ht=>?_,fun ht=>?_,fun ht=>?_,fun ht=>⟨ownsRow_kind h.dq.1 hg ho ht,h.dq.2⟩,fun ht ht2=>⟨xs,f1.kind hg ho ht,f2,fun i x f hx hf=>⟨(f3 i x f hx hf).1,?_⟩⟩,fun ht=>h.ca.kind hg ho ht,fun ht ht2=>⟨ys,s1.kind hg ho ht,s2,fun i x s hx hs=>⟨(s3 i x s hx hs).1,(s3 i x s hx hs).2.1.kind hg ho ht2,(s3 i x s hx hs).2.2⟩⟩,fun ht=>h.tt.kind hg ho ht⟩
 ·rcases ht with ht | ht
  ·exact h.sl.kind hg ho ht
  exact h.sl.grown hg fun k hk e=>by cases e;have:=h.slh _ hk;omega
 ·rcases ht with ht | ht | ht
  ·exact⟨ownsRow_kind h.sb.1 hg ho ht,h.sb.2⟩
  ·exact⟨ownsRow_ne h.sb.1 hg fun e=>by have:=h.sbh _ e;omega,h.sb.2⟩
  exact⟨ownsRow_ne h.sb.1 hg ht,h.sb.2⟩
 ·rcases ht with ht | ht | ht
  ·exact⟨ownsRow_kind h.db.1 hg ho ht,h.db.2⟩
  ·exact⟨ownsRow_ne h.db.1 hg fun e=>by have:=h.dbh _ e;omega,h.db.2⟩
  exact⟨ownsRow_ne h.db.1 hg ht,h.db.2⟩
 rcases ht2 with ht2 | ht2
 ·exact(f3 i x f hx hf).2.kind hg ho ht2
 exact(f3 i x f hx hf).2.grown hg fun k hk e=>by cases e;have:=((f3 i x f hx hf).2.lt _ hk).1;omega
theorem MkR.var (h:MkR base hi w V m vt T) {g:Nat} {t:TypeId} {cs:Array Value} (hg:w.grownBy w' (some g)) (ho:w.heap[g]? =some (.cells cs t (0,0))) (hs:w.heap.size<=w'.heap.size) (h1:t=87\/(t=50/\hi<=g)):MkR base hi w' V m vt T:=by
 obtain⟨k1,k2,k3,k4,k5,k6,k7,k8,k9⟩:=h.kept hg ho
 rcases h1 with rfl | ⟨rfl,h1⟩
 ·exact⟨nT h.hw hs,h.bh,k1 (by decide),k2 (.inl (by decide)),h.slh,k3 (.inl (by decide)),h.sbh,h.sq,k4 (.inl (by decide)),h.dbh,k5 (by decide),k6 (by decide) (.inl (by decide)),k7 (by decide),k8 (by decide) (by decide),k9 (by decide),h.ap⟩
 exact⟨nT h.hw hs,h.bh,k1 (by decide),k2 (.inl (by decide)),h.slh,k3 (.inr (.inl h1)),h.sbh,h.sq,k4 (.inr (.inl h1)),h.dbh,k5 (by decide),k6 (by decide) (.inl (by decide)),k7 (by decide),k8 (by decide) (by decide),k9 (by decide),h.ap⟩
theorem MkR.setF (h:MkR base hi w V m vt T) {g:Nat} (hv:(Value.slice V.f.a V.f.n V.f.c).ownBlock=some g) (hg:w.grownBy w' (some g)) (hs:w'.heap.size=w.heap.size) {fs:List Fr} (ho:OwnRow frmE base w' (.slice V.f.a V.f.n V.f.c) fs):MkR base hi w' V { m with fs:=fs } vt T:=by
 obtain⟨cs,hc⟩:=h.fs.obj hv;obtain⟨k1,k2,k3,k4,k5,k6,k7,k8,k9⟩:=h.kept hg hc;exact⟨by rw[hs];exact h.hw,h.bh,ho,k2 (.inl (by decide)),h.slh,k3 (.inl (by decide)),h.sbh,h.sq,k4 (.inl (by decide)),h.dbh,k5 (by decide),k6 (by decide) (.inl (by decide)),k7 (by decide),k8 (by decide) (by decide),k9 (by decide),h.ap⟩
theorem MkR.setS (h:MkR base hi w V m vt T) {g:Nat} (hv:(Value.slice V.s.a V.s.n V.s.c).ownBlock=some g) (hg:w.grownBy w' (some g)) (hs:w'.heap.size=w.heap.size) {ls:List Int} (ho:OwnRow slE base w' (.slice V.s.a V.s.n V.s.c) ls):MkR base hi w' V { m with sl:=ls } vt T:=by
 obtain⟨cs,hc⟩:=h.sl.obj hv;obtain⟨k1,k2,k3,k4,k5,k6,k7,k8,k9⟩:=h.kept hg hc;exact⟨by rw[hs];exact h.hw,h.bh,k1 (by decide),ho,h.slh,k3 (.inl (by decide)),h.sbh,h.sq,k4 (.inl (by decide)),h.dbh,k5 (by decide),k6 (by decide) (.inr (h.slh g hv)),k7 (by decide),k8 (by decide) (by decide),k9 (by decide),h.ap⟩
theorem MkR.setSb (h:MkR base hi w V m vt T) {g:Nat} {cs:Array Value} (hc:w.heap[g]? =some (.cells cs 50 (0,0))) (hv:(Value.slice V.sb.a V.sb.n V.sb.c).ownBlock=some g) (hg:w.grownBy w' (some g)) (hs:w'.heap.size=w.heap.size) {ls:List (List Int)} (ho:OwnPages base w' (.slice V.sb.a V.sb.n V.sb.c) ls):MkR base hi w' V { m with sb:=ls } vt T:=by
 obtain⟨k1,k2,k3,k4,k5,k6,k7,k8,k9⟩:=h.kept hg hc;exact⟨by rw[hs];exact h.hw,h.bh,k1 (by decide),k2 (.inl (by decide)),h.slh,ho,h.sbh,h.sq,k4 (.inr (.inr (h.ap g hv))),h.dbh,k5 (by decide),k6 (by decide) (.inl (by decide)),k7 (by decide),k8 (by decide) (by decide),k9 (by decide),h.ap⟩
theorem MkR.setDb (h:MkR base hi w V m vt T) {g:Nat} {cs:Array Value} (hc:w.heap[g]? =some (.cells cs 50 (0,0))) (hv:(Value.slice V.db.a V.db.n V.db.c).ownBlock=some g) (hg:w.grownBy w' (some g)) (hs:w'.heap.size=w.heap.size) {ls:List (List Int)} (ho:OwnPages base w' (.slice V.db.a V.db.n V.db.c) ls):MkR base hi w' V { m with db:=ls } vt T:=by
 obtain⟨k1,k2,k3,k4,k5,k6,k7,k8,k9⟩:=h.kept hg hc;exact⟨by rw[hs];exact h.hw,h.bh,k1 (by decide),k2 (.inl (by decide)),h.slh,k3 (.inr (.inr (fun e=>h.ap g e hv))),h.sbh,h.sq,ho,h.dbh,k5 (by decide),k6 (by decide) (.inl (by decide)),k7 (by decide),k8 (by decide) (by decide),k9 (by decide),h.ap⟩
theorem MkR.setT (h:MkR base hi w V m vt T) {g:Nat} (hv:(Value.slice vt.a vt.n vt.c).ownBlock=some g) (hg:w.grownBy w' (some g)) (hs:w'.heap.size=w.heap.size) {T':List (Nat->En)} (ho:OwnRow flaE base w' (.slice vt.a vt.n vt.c) T'):MkR base hi w' V m vt T':=by
 obtain⟨cs,hc⟩:=h.tt.obj hv;obtain⟨k1,k2,k3,k4,k5,k6,k7,k8,k9⟩:=h.kept hg hc;exact⟨by rw[hs];exact h.hw,h.bh,k1 (by decide),k2 (.inl (by decide)),h.slh,k3 (.inl (by decide)),h.sbh,h.sq,k4 (.inl (by decide)),h.dbh,k5 (by decide),k6 (by decide) (.inl (by decide)),k7 (by decide),k8 (by decide) (by decide),ho,h.ap⟩
end
structure Mk (w0:World) (hi:Nat) (w:World) (b:Nat) (vl:Sli) (L:List Int) (V:MaV) (m:Ma) (vt:Sli) (T:List (Nat->En)):Prop where
 gr:Grew w0 w
 hb:w0.heap.size<=b
 box:BoxT w b 87 [.slice vl.a vl.n vl.c,.slice V.f.a V.f.n V.f.c,.int .i64 m.hand,.slice V.s.a V.s.n V.s.c,.slice V.sb.a V.sb.n V.sb.c,.slice V.sq.a V.sq.n V.sq.c,.slice V.db.a V.db.n V.db.c,.slice V.dq.a V.dq.n V.dq.c,.slice V.fl.a V.fl.n V.fl.c,.int .i64 m.cnt,.slice V.ca.a V.ca.n V.ca.c,.slice V.sp.a V.sp.n V.sp.c,.slice vt.a vt.n vt.c]
 lr:RowAt byE w0 (.slice vl.a vl.n vl.c) L
 lc:vl.n<=vl.c
 lb:∀z∈L,0<=z/\z<256
 rows:MkR w0.heap.size hi w V m vt T
theorem Mk.grew {w0 w w':World} {hi b:Nat} {vl:Sli} {L:List Int} {V:MaV} {m:Ma} {vt:Sli} {T:List (Nat->En)} (h:Mk w0 hi w b vl L V m vt T) (k:Grew w w'):Mk w0 hi w' b vl L V m vt T:=⟨h.gr.trans k,h.hb,h.box.grew k,h.lr,h.lc,h.lb,h.rows.grew k⟩
theorem MkR.at {base hi:Nat} {w:World} {V:MaV} {m:Ma} {vt:Sli} {T:List (Nat->En)} (h:MkR base hi w V m vt T):MachAt w V m:=by
 obtain⟨xs,f1,f2,f3⟩:=h.fl;obtain⟨ys,s1,s2,s3⟩:=h.sp;obtain⟨q1,q2⟩:=h.sq;refine⟨h.fs.at,h.sl.at,h.sb.at,?_,h.db.at,h.dq.at,⟨f1.cap,xs,f1.at.s0,f2,fun i x f hx hf=>⟨(f3 i x f hx hf).1,(f3 i x f hx hf).2.at.s0⟩⟩,h.ca.at,⟨ys,s1.at,s2,fun i x s hx hs=>?_⟩⟩
 ·rw[q1,q2];exact⟨⟨none,0,rfl,fun _=>rfl,fun x hx=>by cases hx⟩,by simp,by simp⟩
 obtain⟨a1,a2,a3,a4⟩:=s3 i x s hx hs;exact⟨a1,a2.at,a2.cap,by rw[a3,a4];exact TabS.nil 0 0 w⟩
def frH (q:Fr) (n:Int):Fr:=if q.r+n=0 then frF else{ q with r:=q.r+n }
def holdE (fs:List Fr) (h k n:Int):Int:=if memW fs h=0 then(if inB k fs.length && !((fs.getD k.toNat fr0).r == 0)then(if -(fs.getD k.toNat fr0).r<=n/\n<=1000 -(fs.getD k.toNat fr0).r then 0 else 3)else 5)else memW fs h
def holdF (fs:List Fr) (h k n:Int):List Fr:=if holdE fs h k n=0 then fs.set k.toNat (frH (fs.getD k.toNat fr0) n)else []
def holdH (fs:List Fr) (h k n:Int):Int:=if holdE fs h k n=0 then h else 0
theorem frsW_all:∀{fs:List Fr},frsW fs=0->∀q∈fs,frW q=0
 | [],_,_,hq=>by cases hq
 | a :: l,h,q,hq=>by
  unfold frsW at h
  by_cases h0:frW a=0
  ·rw[if_pos h0]at h
   rcases mC.1 hq with rfl | h1
   ·exact h0
   exact frsW_all h q h1
  rw[if_neg h0]at h;exact absurd h h0
theorem memW_zero {fs:List Fr} {h:Int} (hz:memW fs h=0):fs.length<=40/\(∀q∈fs,frW q=0)/\0<=h/\h<max (fs.length:Int) 1:=by
 unfold memW at hz
 by_cases h1:40<fs.length
 ·rw[if_pos h1]at hz;omega
 rw[if_neg h1]at hz
 by_cases h2:frsW fs=0
 ·rw[if_pos h2]at hz
  cases hb:inB h (max fs.length 1)with
  | false=>rw[hb]at hz;simp at hz
  | true=>
   unfold inB at hb
   simp at hb
   exact⟨by omega,frsW_all h2,by omega,by omega⟩
 rw[if_neg h2]at hz;exact absurd hz h2
theorem frW_zero {q:Fr} (h:frW q=0):0<=q.r/\q.r<=1000:=by
 unfold frW at h
 by_cases h1:(inB q.r 1001 && inB q.x 12)=false
 ·rw[if_pos h1]at h;omega
 have h2:inB q.r 1001=true:=by
  cases hb:inB q.r 1001 with
  | true=>rfl
  | false=>rw[hb]at h1;simp at h1
 unfold inB at h2
 simp at h2
 omega
theorem frOwnRow.frc {base:Nat} {w:World} {g n c:Nat} {fs:List Fr} (h:frOwnRow base w (.slice (some ⟨g,0,none⟩) n c) fs) {i:Nat} {q:Fr} (hq:fs[i]? =some q) (j:Nat) {u:Value} (hu:(frv q)[j]? =some u):w.cell? ⟨g,i*13+j,none⟩=some u:=by
 obtain⟨a',c',he,hr⟩:=h.at.rows;obtain⟨ad,he2,hc⟩:=hr i q hq;cases he;cases he2;have:=hc w (Grew.refl _) j u hu;rw[add_add',Addr.add_lit,zA]at this;exact this
theorem hdA (a:Option Addr) (c:Nat) (fs:List Fr) (h:Int) (k:Int) (nn:Int) (w:World) (hv:frRowAt w (.slice a fs.length c) fs) (z:Int) (hz:memW fs h=z) (hzb:(z != 0)=true):
  Calls Tryz.prog 151 #[.agg #[.slice a fs.length c,.int .i64 h],.int .i64 k,.int .i64 nn] w fun e w'=>∃b,e= .returned (.tuple #[.agg #[b,.int .i64 0],.int .i64 z])/\frNewRow w.heap.size w' b ([]:List Fr)/\Grew w w':=by
 have HV:Hid (frRowAt w (.slice a fs.length c) fs):=hv;have hw:∀W,Grew w W->Calls Tryz.prog 84 #[.agg #[.slice a fs.length c,.int .i64 h]] W fun e w'=>e= .returned (.int .i64 (memW fs h))/\Grew W w':=fun W hW=>wrongMem_any a c fs h W (HV.out.grew hW)
 clear hv;simp only[hz]at hw;clear hz;obtain⟨n,HN⟩:∃n,Hid (fs.length=n):=⟨_,rfl⟩;simp only[HN.out]at hw HV⊢;obtain⟨W0,hW0⟩:∃W0,(w.alloc (.cells #[.slice a n c,.int .i64 h] 27)).alloc (.cells #[.slice none 0 0,.int .i64 0] 27)=W0:=⟨_,rfl⟩;have HG0:=gD2 hW0
 have X0:=x2a hW0
 have X2:=x2b hW0
 have HW0:Hid (_=W0):=hW0;clear hW0
 go_enter Tryz.func151,Tryz.ntmps151
 go_upto_region 1 with fail;rw[HW0.out];have e0:=X0.out.c 0 rfl;have e1:=X0.out.c 1 rfl;go_wp2_with fail;refine(hw _ HG0.out).mono ?_;rintro e W1 ⟨rfl,g1⟩;have G1:Hid (Grew W0 W1):=g1;clear g1 e0 e1 hw;have r0:=(X2.out.grew G1.out).c 0 rfl;have r1:=(X2.out.grew G1.out).c 1 rfl;have rf:=(X2.out.grew G1.out).f;go_wp2;refine bodyPost_ret (v:= .tuple #[.agg #[.slice none 0 0,.int .i64 0],.int .i64 z]) (by simp[results,Tryz.results151,go_sem, *]) rfl ⟨_,rfl,frNewRow.nil _ _,?_⟩
 exact grew_set (grew_set (HG0.out.trans G1.out) (by simp) _) (by simp) _
theorem hdB (a:Option Addr) (c:Nat) (fs:List Fr) (h:Int) (k:Int) (nn:Int) (w:World) (hv:frRowAt w (.slice a fs.length c) fs) (hz:memW fs h=0) (hkb:inB k fs.length=false):
  Calls Tryz.prog 151 #[.agg #[.slice a fs.length c,.int .i64 h],.int .i64 k,.int .i64 nn] w fun e w'=>∃b,e= .returned (.tuple #[.agg #[b,.int .i64 0],.int .i64 5])/\frNewRow w.heap.size w' b ([]:List Fr)/\Grew w w':=by
 have HV:Hid (frRowAt w (.slice a fs.length c) fs):=hv;have hw:∀W,Grew w W->Calls Tryz.prog 84 #[.agg #[.slice a fs.length c,.int .i64 h]] W fun e w'=>e= .returned (.int .i64 (memW fs h))/\Grew W w':=fun W hW=>wrongMem_any a c fs h W (HV.out.grew hW)
 have hbl:∀W,Calls Tryz.prog 130 #[.int .i64 k,.int .i64 (fs.length:Int)] W fun e w'=>e= .returned (.bool (inB k fs.length))/\w'=W:=fun W=>frBelow_any k _ W
 simp only[hkb]at hbl;clear hkb;have hbig:=hv.short;clear hv;simp only[hz]at hw;clear hz;obtain⟨n,HN⟩:∃n,Hid (fs.length=n):=⟨_,rfl⟩;simp only[HN.out]at hw HV hbig hbl⊢;obtain⟨W0,hW0⟩:∃W0,(w.alloc (.cells #[.slice a n c,.int .i64 h] 27)).alloc (.cells #[.slice none 0 0,.int .i64 0] 27)=W0:=⟨_,rfl⟩;have HG0:=gD2 hW0
 have X0:=x2a hW0
 have X2:=x2b hW0
 have HW0:Hid (_=W0):=hW0;clear hW0
 go_enter Tryz.func151,Tryz.ntmps151
 go_upto_region 1 with fail;rw[HW0.out];have e0:=X0.out.c 0 rfl;have e1:=X0.out.c 1 rfl;go_wp2_with fail;refine(hw _ HG0.out).mono ?_;rintro e W1 ⟨rfl,g1⟩;have G1:Hid (Grew W0 W1):=g1;clear g1 e0 e1 hw;have e0:=(X0.out.grew G1.out).c 0 rfl;have r0:=(X2.out.grew G1.out).c 0 rfl;have r1:=(X2.out.grew G1.out).c 1 rfl;have rf:=(X2.out.grew G1.out).f
 go_wp2_with (go_at_call 130;refine(hbl _).mono ?_;rintro e w' ⟨rfl,hw'⟩;rw[hw'];clear hw' w')
 refine bodyPost_ret (v:= .tuple #[.agg #[.slice none 0 0,.int .i64 0],.int .i64 5]) (by simp[results,Tryz.results151,go_sem, *]) rfl ⟨_,rfl,frNewRow.nil _ _,?_⟩
 exact grew_set (grew_set (HG0.out.trans G1.out) (by simp) _) (by simp) _
theorem hdC (a:Option Addr) (c:Nat) (fs:List Fr) (h:Int) (i:Nat) (q:Fr) (nn:Int) (w:World) (hv:frRowAt w (.slice a fs.length c) fs) (hz:memW fs h=0) (hq:fs[i]? =some q) (hr:(q.r == 0)=true):
  Calls Tryz.prog 151 #[.agg #[.slice a fs.length c,.int .i64 h],.int .i64 (i:Int),.int .i64 nn] w fun e w'=>∃b,e= .returned (.tuple #[.agg #[b,.int .i64 0],.int .i64 5])/\frNewRow w.heap.size w' b ([]:List Fr)/\Grew w w':=by
 have HV:Hid (frRowAt w (.slice a fs.length c) fs):=hv;have hw:∀W,Grew w W->Calls Tryz.prog 84 #[.agg #[.slice a fs.length c,.int .i64 h]] W fun e w'=>e= .returned (.int .i64 (memW fs h))/\Grew W w':=fun W hW=>wrongMem_any a c fs h W (HV.out.grew hW)
 have hbl:∀W,Calls Tryz.prog 130 #[.int .i64 (i:Int),.int .i64 (fs.length:Int)] W fun e w'=>e= .returned (.bool (inB (i:Int) fs.length))/\w'=W:=fun W=>frBelow_any (i:Int) _ W
 have hb1000:=frW_zero ((memW_zero hz).2.1 q (mG hq));have hil:i<fs.length:=(gS.1 hq).1;obtain⟨a',c',heq,hrow⟩:=hv.frs;cases heq;obtain⟨ad,rfl,hl⟩:=hrow i q hq;have HL:Hid (∀W,Grew w W->FrCells W (ad.add (i*13)) q):=hl;have HQ:Hid (fs[i]? =some q):=hq;clear hrow hl hq;simp only[show inB (i:Int) fs.length=true from by simp[inB];exact hil]at hbl
 have hbig:=hv.short;clear hv;simp only[hz]at hw;clear hz;obtain⟨n,HN⟩:∃n,Hid (fs.length=n):=⟨_,rfl⟩;simp only[HN.out]at hw HV hbig hbl hil⊢;have hiz:(i:Int)< (n:Int):=by omega
 obtain⟨hb1,hb2⟩:=hb1000;obtain⟨W0,hW0⟩:∃W0,(w.alloc (.cells #[.slice (some ad) n c,.int .i64 h] 27)).alloc (.cells #[.slice none 0 0,.int .i64 0] 27)=W0:=⟨_,rfl⟩;have HG0:=gD2 hW0
 have X0:=x2a hW0
 have X2:=x2b hW0
 have HW0:Hid (_=W0):=hW0;clear hW0
 go_enter Tryz.func151,Tryz.ntmps151
 go_upto_region 1 with fail;rw[HW0.out];have e0:=X0.out.c 0 rfl;have e1:=X0.out.c 1 rfl;go_wp2_with fail;refine(hw _ HG0.out).mono ?_;rintro e W1 ⟨rfl,g1⟩;have G1:Hid (Grew W0 W1):=g1;clear g1 e0 e1 hw;obtain⟨-,-,-,-,-,-,-,-,d8,-,-,-,-⟩:=HL.out W1 (HG0.out.trans G1.out);have e0:=(X0.out.grew G1.out).c 0 rfl;have r0:=(X2.out.grew G1.out).c 0 rfl;have r1:=(X2.out.grew G1.out).c 1 rfl;have rf:=(X2.out.grew G1.out).f
 go_wp2_with (go_at_call 130;refine(hbl _).mono ?_;rintro e w' ⟨rfl,hw'⟩;rw[hw'];clear hw' w')
 refine bodyPost_ret (v:= .tuple #[.agg #[.slice none 0 0,.int .i64 0],.int .i64 5]) (by simp[results,Tryz.results151,go_sem, *]) rfl ⟨_,rfl,frNewRow.nil _ _,?_⟩
 exact grew_set (grew_set (HG0.out.trans G1.out) (by simp) _) (by simp) _
theorem hdD (a:Option Addr) (c:Nat) (fs:List Fr) (h:Int) (i:Nat) (q:Fr) (nn:Int) (w:World) (hv:frRowAt w (.slice a fs.length c) fs) (hz:memW fs h=0) (hq:fs[i]? =some q) (hr:(q.r == 0)=false) (hn:nn< -q.r):
  Calls Tryz.prog 151 #[.agg #[.slice a fs.length c,.int .i64 h],.int .i64 (i:Int),.int .i64 nn] w fun e w'=>∃b,e= .returned (.tuple #[.agg #[b,.int .i64 0],.int .i64 3])/\frNewRow w.heap.size w' b ([]:List Fr)/\Grew w w':=by
 have HV:Hid (frRowAt w (.slice a fs.length c) fs):=hv;have hw:∀W,Grew w W->Calls Tryz.prog 84 #[.agg #[.slice a fs.length c,.int .i64 h]] W fun e w'=>e= .returned (.int .i64 (memW fs h))/\Grew W w':=fun W hW=>wrongMem_any a c fs h W (HV.out.grew hW)
 have hbl:∀W,Calls Tryz.prog 130 #[.int .i64 (i:Int),.int .i64 (fs.length:Int)] W fun e w'=>e= .returned (.bool (inB (i:Int) fs.length))/\w'=W:=fun W=>frBelow_any (i:Int) _ W
 have hb1000:=frW_zero ((memW_zero hz).2.1 q (mG hq));have hil:i<fs.length:=(gS.1 hq).1;obtain⟨a',c',heq,hrow⟩:=hv.frs;cases heq;obtain⟨ad,rfl,hl⟩:=hrow i q hq;have HL:Hid (∀W,Grew w W->FrCells W (ad.add (i*13)) q):=hl;have HQ:Hid (fs[i]? =some q):=hq;clear hrow hl hq;simp only[show inB (i:Int) fs.length=true from by simp[inB];exact hil]at hbl
 have hbig:=hv.short;clear hv;simp only[hz]at hw;clear hz;obtain⟨n,HN⟩:∃n,Hid (fs.length=n):=⟨_,rfl⟩;simp only[HN.out]at hw HV hbig hbl hil⊢;have hiz:(i:Int)< (n:Int):=by omega
 obtain⟨hb1,hb2⟩:=hb1000;obtain⟨W0,hW0⟩:∃W0,(w.alloc (.cells #[.slice (some ad) n c,.int .i64 h] 27)).alloc (.cells #[.slice none 0 0,.int .i64 0] 27)=W0:=⟨_,rfl⟩;have HG0:=gD2 hW0
 have X0:=x2a hW0
 have X2:=x2b hW0
 have HW0:Hid (_=W0):=hW0;clear hW0
 go_enter Tryz.func151,Tryz.ntmps151
 go_upto_region 1 with fail;rw[HW0.out];have e0:=X0.out.c 0 rfl;have e1:=X0.out.c 1 rfl;go_wp2_with fail;refine(hw _ HG0.out).mono ?_;rintro e W1 ⟨rfl,g1⟩;have G1:Hid (Grew W0 W1):=g1;clear g1 e0 e1 hw;obtain⟨-,-,-,-,-,-,-,-,d8,-,-,-,-⟩:=HL.out W1 (HG0.out.trans G1.out);have e0:=(X0.out.grew G1.out).c 0 rfl;have r0:=(X2.out.grew G1.out).c 0 rfl;have r1:=(X2.out.grew G1.out).c 1 rfl;have rf:=(X2.out.grew G1.out).f
 go_wp2_with (go_at_call 130;refine(hbl _).mono ?_;rintro e w' ⟨rfl,hw'⟩;rw[hw'];clear hw' w')
 refine bodyPost_ret (v:= .tuple #[.agg #[.slice none 0 0,.int .i64 0],.int .i64 3]) (by simp[results,Tryz.results151,go_sem, *]) rfl ⟨_,rfl,frNewRow.nil _ _,?_⟩
 exact grew_set (grew_set (HG0.out.trans G1.out) (by simp) _) (by simp) _
theorem hdE (a:Option Addr) (c:Nat) (fs:List Fr) (h:Int) (i:Nat) (q:Fr) (nn:Int) (w:World) (hv:frRowAt w (.slice a fs.length c) fs) (hz:memW fs h=0) (hq:fs[i]? =some q) (hr:(q.r == 0)=false) (hn:¬nn< -q.r) (hn2:1000 - q.r<nn):
  Calls Tryz.prog 151 #[.agg #[.slice a fs.length c,.int .i64 h],.int .i64 (i:Int),.int .i64 nn] w fun e w'=>∃b,e= .returned (.tuple #[.agg #[b,.int .i64 0],.int .i64 3])/\frNewRow w.heap.size w' b ([]:List Fr)/\Grew w w':=by
 have HV:Hid (frRowAt w (.slice a fs.length c) fs):=hv;have hw:∀W,Grew w W->Calls Tryz.prog 84 #[.agg #[.slice a fs.length c,.int .i64 h]] W fun e w'=>e= .returned (.int .i64 (memW fs h))/\Grew W w':=fun W hW=>wrongMem_any a c fs h W (HV.out.grew hW)
 have hbl:∀W,Calls Tryz.prog 130 #[.int .i64 (i:Int),.int .i64 (fs.length:Int)] W fun e w'=>e= .returned (.bool (inB (i:Int) fs.length))/\w'=W:=fun W=>frBelow_any (i:Int) _ W
 have hb1000:=frW_zero ((memW_zero hz).2.1 q (mG hq));have hil:i<fs.length:=(gS.1 hq).1;obtain⟨a',c',heq,hrow⟩:=hv.frs;cases heq;obtain⟨ad,rfl,hl⟩:=hrow i q hq;have HL:Hid (∀W,Grew w W->FrCells W (ad.add (i*13)) q):=hl;have HQ:Hid (fs[i]? =some q):=hq;clear hrow hl hq;simp only[show inB (i:Int) fs.length=true from by simp[inB];exact hil]at hbl
 have hbig:=hv.short;clear hv;simp only[hz]at hw;clear hz;obtain⟨n,HN⟩:∃n,Hid (fs.length=n):=⟨_,rfl⟩;simp only[HN.out]at hw HV hbig hbl hil⊢;have hiz:(i:Int)< (n:Int):=by omega
 obtain⟨hb1,hb2⟩:=hb1000;obtain⟨W0,hW0⟩:∃W0,(w.alloc (.cells #[.slice (some ad) n c,.int .i64 h] 27)).alloc (.cells #[.slice none 0 0,.int .i64 0] 27)=W0:=⟨_,rfl⟩;have HG0:=gD2 hW0
 have X0:=x2a hW0
 have X2:=x2b hW0
 have HW0:Hid (_=W0):=hW0;clear hW0
 go_enter Tryz.func151,Tryz.ntmps151
 go_upto_region 1 with fail;rw[HW0.out];have e0:=X0.out.c 0 rfl;have e1:=X0.out.c 1 rfl;go_wp2_with fail;refine(hw _ HG0.out).mono ?_;rintro e W1 ⟨rfl,g1⟩;have G1:Hid (Grew W0 W1):=g1;clear g1 e0 e1 hw;obtain⟨-,-,-,-,-,-,-,-,d8,-,-,-,-⟩:=HL.out W1 (HG0.out.trans G1.out);have e0:=(X0.out.grew G1.out).c 0 rfl;have r0:=(X2.out.grew G1.out).c 0 rfl;have r1:=(X2.out.grew G1.out).c 1 rfl;have rf:=(X2.out.grew G1.out).f
 go_wp2_with (go_at_call 130;refine(hbl _).mono ?_;rintro e w' ⟨rfl,hw'⟩;rw[hw'];clear hw' w')
 refine bodyPost_ret (v:= .tuple #[.agg #[.slice none 0 0,.int .i64 0],.int .i64 3]) (by simp[results,Tryz.results151,go_sem, *]) rfl ⟨_,rfl,frNewRow.nil _ _,?_⟩
 exact grew_set (grew_set (HG0.out.trans G1.out) (by simp) _) (by simp) _
theorem hdF (a:Option Addr) (c:Nat) (fs:List Fr) (h:Int) (i:Nat) (q:Fr) (nn:Int) (w:World) (hv:frRowAt w (.slice a fs.length c) fs) (hz:memW fs h=0) (hq:fs[i]? =some q) (hr:(q.r == 0)=false) (hn:¬nn< -q.r) (hn2:¬1000 - q.r<nn) (hs:q.r+nn=0):
  Calls Tryz.prog 151 #[.agg #[.slice a fs.length c,.int .i64 h],.int .i64 (i:Int),.int .i64 nn] w fun e w'=>∃b,e= .returned (.tuple #[.agg #[b,.int .i64 h],.int .i64 0])/\frNewRow w.heap.size w' b (fs.set i frF)/\Grew w w':=by
 have HV:Hid (frRowAt w (.slice a fs.length c) fs):=hv;have HS:Hid (q.r+nn=0):=hs;clear hs;have hw:∀W,Grew w W->Calls Tryz.prog 84 #[.agg #[.slice a fs.length c,.int .i64 h]] W fun e w'=>e= .returned (.int .i64 (memW fs h))/\Grew W w':=fun W hW=>wrongMem_any a c fs h W (HV.out.grew hW)
 have hbl:∀W,Calls Tryz.prog 130 #[.int .i64 (i:Int),.int .i64 (fs.length:Int)] W fun e w'=>e= .returned (.bool (inB (i:Int) fs.length))/\w'=W:=fun W=>frBelow_any (i:Int) _ W
 have ho:∀W,Grew w W->Calls Tryz.prog 51 #[.agg #[.slice a fs.length c,.int .i64 h]] W fun e w'=>∃b,e= .returned (.agg #[b,.int .i64 h])/\frOwnRow W.heap.size w' b fs/\Grew W w':=fun W hW=>ownMem_any a c fs h W (HV.out.grew hW)
 have hb1000:=frW_zero ((memW_zero hz).2.1 q (mG hq));have hil:i<fs.length:=(gS.1 hq).1;obtain⟨a',c',heq,hrow⟩:=hv.frs;cases heq;obtain⟨ad,rfl,hl⟩:=hrow i q hq;have HL:Hid (∀W,Grew w W->FrCells W (ad.add (i*13)) q):=hl;have HQ:Hid (fs[i]? =some q):=hq;clear hrow hl hq;simp only[show inB (i:Int) fs.length=true from by simp[inB];exact hil]at hbl
 have hbig:=hv.short;clear hv;simp only[hz]at hw;clear hz;obtain⟨n,HN⟩:∃n,Hid (fs.length=n):=⟨_,rfl⟩;simp only[HN.out]at hw HV hbig hbl ho hil⊢;have hiz:(i:Int)< (n:Int):=by omega
 obtain⟨hb1,hb2⟩:=hb1000;obtain⟨W0,hW0⟩:∃W0,(w.alloc (.cells #[.slice (some ad) n c,.int .i64 h] 27)).alloc (.cells #[.slice none 0 0,.int .i64 0] 27)=W0:=⟨_,rfl⟩;have HG0:=gD2 hW0
 have X0:=x2a hW0
 have X2:=x2b hW0
 have HW0:Hid (_=W0):=hW0;clear hW0
 go_enter Tryz.func151,Tryz.ntmps151
 go_upto_region 1 with fail;rw[HW0.out];have e0:=X0.out.c 0 rfl;have e1:=X0.out.c 1 rfl;go_wp2_with fail;refine(hw _ HG0.out).mono ?_;rintro e W1 ⟨rfl,g1⟩;have G1:Hid (Grew W0 W1):=g1;clear g1 e0 e1 hw;obtain⟨-,-,-,-,-,-,-,-,d8,-,-,-,-⟩:=HL.out W1 (HG0.out.trans G1.out);have e0:=(X0.out.grew G1.out).c 0 rfl;have e1:=(X0.out.grew G1.out).c 1 rfl
 go_wp2_with (go_at_call 130;refine(hbl _).mono ?_;rintro e w' ⟨rfl,hw'⟩;rw[hw'];clear hw' w')
 refine(ho _ (HG0.out.trans G1.out)).mono ?_;rintro e W4 ⟨b,rfl,hown,g4⟩;obtain⟨g,cv,rfl⟩:=hown.formS (by rw[HN.out];omega)
 rw[HN.out]at hown⊢;have OW:Hid (frOwnRow W1.heap.size W4 (.slice (some ⟨g,0,none⟩) n cv) fs):=hown;have G4:=dD (G1.out.trans g4);have g34:Hid (W1.heap.size<=W4.heap.size):=bS g4;clear hown g4 e0 e1 ho d8;have hgl:=OW.out.lt g rfl;have hne:g≠W4.heap.size:=by omega
 have u8:=(OW.out.grew (grew_alloc W4 (.cells #[.slice (some ⟨g,0,none⟩) n cv,.int .i64 h] 27))).frc HQ.out 8 rfl
 go_wp2_with (refine frWpList_store_part rfl (.tmp 61) (.tmp 59) 3 rfl W1.heap.size (.slice (some ⟨g,0,none⟩) n cv) fs (OW.out.grew (grew_alloc _ _)) g i 8 rfl q { q with r:=q.r+nn } HQ.out [.int .i64 (q.r+nn)] (by kernel_rfl) rfl (Nat.le_of_ble_eq_true rfl) (by intro u hu;simp at hu;subst hu;rfl) _ rfl (by simp) _ rfl rfl ?_)
 intro W5 ow5 gr5 sz5;have OW5:Hid (frOwnRow W1.heap.size W5 (.slice (some ⟨g,0,none⟩) n cv) (fs.set i { q with r:=q.r+nn })):=ow5;have h34:=g34.out;have h03:W0.heap.size<=W1.heap.size:=bS G1.out;have hx2:=X2.out.lt;have XO:Hid (Box W5 W4.heap.size [.slice (some ⟨g,0,none⟩) n cv,.int .i64 h]):=(Box.top W4 _ _ rfl).beside gr5 (fun g' hg'=>by cases hg';omega)
 have X25:Hid (Box W5 (w.heap.size+1) [.slice none 0 0,.int .i64 0]):=((X2.out.grew G4.out).alloc _).beside gr5 (fun g' hg'=>by cases hg';omega)
 have G5:Hid (Grew W0 W5):=grew_beside (G4.out.trans (grew_alloc _ _)) gr5 (fun g' hg'=>by cases hg';omega)
 have HQ5:Hid ((fs.set i { q with r:=q.r+nn })[i]? =some { q with r:=q.r+nn }):=show _=_ by rw[sF (by rw[HN.out];exact hil)]
 clear ow5 gr5 sz5 u8;have u8:=OW5.out.frc HQ5.out 8 rfl;have o0:=XO.out.c 0 rfl;have o1:=XO.out.c 1 rfl;have r0:=X25.out.c 0 rfl;have r1:=X25.out.c 1 rfl;have rf:=X25.out.f;simp only at u8;have hsb:(q.r+nn == 0)=true:=by simp[HS.out]
 go_wp2;have hx0:∀x:GrownW W5,x.world.cell? ⟨W4.heap.size,0,none⟩=some (.slice (some ⟨g,0,none⟩) n cv):=fun x=>(XO.out.grew x.grew).c 0 rfl
 have hne5:Nonempty (GrownW W5):=⟨⟨_,Grew.refl _⟩⟩;clear u8 o0 o1 r0 r1 rf;refine wp_lax_tail 5 [(3,⟨fun v=>v= .agg (frv frF).toArray,fun _ _=>True⟩)] mixed (by kernel_rfl) rfl rfl (by decide) ?_ ?_ ?_
 ·intro x hx
  simp at hx
  subst hx;exact⟨_,rfl⟩
 ·intro x hx
  simp at hx
  subst hx;exact fun _ _ _ _ h=>h
 simp only[List.take,List.drop];iterate 3 (refine lax_quiet rfl rfl rfl (fun K hK=>?_);go_big_quiet_op;refine hK _ ?_;clear hK K)
 refine lax_spec rfl rfl (fun w' hg hF=>?_) (fun v1 hv=>?_)
 ·refine Does.call [] rfl Tryz.func118 rfl rfl rfl ?_;refine(freeFrame_any w').mono ?_;rintro e w'' ⟨rfl,hg2⟩;exact⟨_,rfl,hg2,rfl,trivial⟩
 subst hv;simp only[Act.put,sB,sS,sZ,frv,frF,pg0];iterate 1 (refine lax_quiet rfl rfl rfl (fun K hK=>?_);go_big_quiet_op;refine hK _ ?_;clear hK K)
 refine lax_nil fun W6 hg6 hF=>?_
 have OW6:=dD (OW5.out.grew hg6);have XO6:=dD (XO.out.grew hg6);have X26:=dD (X25.out.grew hg6);have G6:=dD (G5.out.trans hg6);clear hF hx0 hg6 hne5
 go_wp2_with (refine frWpList_store_elt rfl (.tmp 73) (.tmp 72) rfl W1.heap.size _ _ OW6.out g i rfl frF (by rw[List.length_set,HN.out];exact hil) _ rfl (by simp) _ rfl rfl ?_)
 intro W7 ow7 gr7 sz7;have OW7:Hid (frOwnRow W1.heap.size W7 (.slice (some ⟨g,0,none⟩) n cv) (fs.set i frF)):=ow7;have XO7:Hid (Box W7 W4.heap.size [.slice (some ⟨g,0,none⟩) n cv,.int .i64 h]):=XO6.out.beside gr7 (fun g' hg'=>by cases hg';omega)
 have X27:Hid (Box W7 (w.heap.size+1) [.slice none 0 0,.int .i64 0]):=X26.out.beside gr7 (fun g' hg'=>by cases hg';omega)
 have G7:Hid (Grew W0 W7):=grew_beside G6.out gr7 (fun g' hg'=>by cases hg';omega)
 clear ow7 gr7 sz7;have o0:=XO7.out.c 0 rfl;have o1:=XO7.out.c 1 rfl;have r0:=X27.out.c 0 rfl;have r1:=X27.out.c 1 rfl;have rf:=X27.out.f;go_wp2;refine bodyPost_ret (v:= .tuple #[.agg #[.slice (some ⟨g,0,none⟩) n cv,.int .i64 h],.int .i64 0]) (by simp[results,Tryz.results151,go_sem, *]) rfl ⟨_,rfl,?_,?_⟩
 ·exact((OW7.out.new.setCell (a:=⟨w.heap.size+1,0,none⟩) (by show w.heap.size+1<_;omega) _).setCell (a:=⟨w.heap.size+1,1,none⟩) (by show w.heap.size+1<_;omega) _).base (by have:=bS HG0.out;omega)
 exact grew_set (grew_set (HG0.out.trans G7.out) (by simp) _) (by simp) _
theorem hdG (a:Option Addr) (c:Nat) (fs:List Fr) (h:Int) (i:Nat) (q:Fr) (nn:Int) (w:World) (hv:frRowAt w (.slice a fs.length c) fs) (hz:memW fs h=0) (hq:fs[i]? =some q) (hr:(q.r == 0)=false) (hn:¬nn< -q.r) (hn2:¬1000 - q.r<nn) (hs:(q.r+nn == 0)=false):
  Calls Tryz.prog 151 #[.agg #[.slice a fs.length c,.int .i64 h],.int .i64 (i:Int),.int .i64 nn] w fun e w'=>∃b,e= .returned (.tuple #[.agg #[b,.int .i64 h],.int .i64 0])/\frNewRow w.heap.size w' b (fs.set i { q with r:=q.r+nn })/\Grew w w':=by
 have HV:Hid (frRowAt w (.slice a fs.length c) fs):=hv;have hw:∀W,Grew w W->Calls Tryz.prog 84 #[.agg #[.slice a fs.length c,.int .i64 h]] W fun e w'=>e= .returned (.int .i64 (memW fs h))/\Grew W w':=fun W hW=>wrongMem_any a c fs h W (HV.out.grew hW)
 have hbl:∀W,Calls Tryz.prog 130 #[.int .i64 (i:Int),.int .i64 (fs.length:Int)] W fun e w'=>e= .returned (.bool (inB (i:Int) fs.length))/\w'=W:=fun W=>frBelow_any (i:Int) _ W
 have ho:∀W,Grew w W->Calls Tryz.prog 51 #[.agg #[.slice a fs.length c,.int .i64 h]] W fun e w'=>∃b,e= .returned (.agg #[b,.int .i64 h])/\frOwnRow W.heap.size w' b fs/\Grew W w':=fun W hW=>ownMem_any a c fs h W (HV.out.grew hW)
 have hb1000:=frW_zero ((memW_zero hz).2.1 q (mG hq));have hil:i<fs.length:=(gS.1 hq).1;obtain⟨a',c',heq,hrow⟩:=hv.frs;cases heq;obtain⟨ad,rfl,hl⟩:=hrow i q hq;have HL:Hid (∀W,Grew w W->FrCells W (ad.add (i*13)) q):=hl;have HQ:Hid (fs[i]? =some q):=hq;clear hrow hl hq;simp only[show inB (i:Int) fs.length=true from by simp[inB];exact hil]at hbl
 have hbig:=hv.short;clear hv;simp only[hz]at hw;clear hz;obtain⟨n,HN⟩:∃n,Hid (fs.length=n):=⟨_,rfl⟩;simp only[HN.out]at hw HV hbig hbl ho hil⊢;have hiz:(i:Int)< (n:Int):=by omega
 obtain⟨hb1,hb2⟩:=hb1000;obtain⟨W0,hW0⟩:∃W0,(w.alloc (.cells #[.slice (some ad) n c,.int .i64 h] 27)).alloc (.cells #[.slice none 0 0,.int .i64 0] 27)=W0:=⟨_,rfl⟩;have HG0:=gD2 hW0
 have X0:=x2a hW0
 have X2:=x2b hW0
 have HW0:Hid (_=W0):=hW0;clear hW0
 go_enter Tryz.func151,Tryz.ntmps151
 go_upto_region 1 with fail;rw[HW0.out];have e0:=X0.out.c 0 rfl;have e1:=X0.out.c 1 rfl;go_wp2_with fail;refine(hw _ HG0.out).mono ?_;rintro e W1 ⟨rfl,g1⟩;have G1:Hid (Grew W0 W1):=g1;clear g1 e0 e1 hw;obtain⟨-,-,-,-,-,-,-,-,d8,-,-,-,-⟩:=HL.out W1 (HG0.out.trans G1.out);have e0:=(X0.out.grew G1.out).c 0 rfl;have e1:=(X0.out.grew G1.out).c 1 rfl
 go_wp2_with (go_at_call 130;refine(hbl _).mono ?_;rintro e w' ⟨rfl,hw'⟩;rw[hw'];clear hw' w')
 refine(ho _ (HG0.out.trans G1.out)).mono ?_;rintro e W4 ⟨b,rfl,hown,g4⟩;obtain⟨g,cv,rfl⟩:=hown.formS (by rw[HN.out];omega)
 rw[HN.out]at hown⊢;have OW:Hid (frOwnRow W1.heap.size W4 (.slice (some ⟨g,0,none⟩) n cv) fs):=hown;have G4:=dD (G1.out.trans g4);have g34:Hid (W1.heap.size<=W4.heap.size):=bS g4;clear hown g4 e0 e1 ho d8;have hgl:=OW.out.lt g rfl;have hne:g≠W4.heap.size:=by omega
 have u8:=(OW.out.grew (grew_alloc W4 (.cells #[.slice (some ⟨g,0,none⟩) n cv,.int .i64 h] 27))).frc HQ.out 8 rfl
 go_wp2_with (refine frWpList_store_part rfl (.tmp 61) (.tmp 59) 3 rfl W1.heap.size (.slice (some ⟨g,0,none⟩) n cv) fs (OW.out.grew (grew_alloc _ _)) g i 8 rfl q { q with r:=q.r+nn } HQ.out [.int .i64 (q.r+nn)] (by kernel_rfl) rfl (Nat.le_of_ble_eq_true rfl) (by intro u hu;simp at hu;subst hu;rfl) _ rfl (by simp) _ rfl rfl ?_)
 intro W5 ow5 gr5 sz5;have OW5:Hid (frOwnRow W1.heap.size W5 (.slice (some ⟨g,0,none⟩) n cv) (fs.set i { q with r:=q.r+nn })):=ow5;have h34:=g34.out;have h03:W0.heap.size<=W1.heap.size:=bS G1.out;have hx2:=X2.out.lt;have XO:Hid (Box W5 W4.heap.size [.slice (some ⟨g,0,none⟩) n cv,.int .i64 h]):=(Box.top W4 _ _ rfl).beside gr5 (fun g' hg'=>by cases hg';omega)
 have X25:Hid (Box W5 (w.heap.size+1) [.slice none 0 0,.int .i64 0]):=((X2.out.grew G4.out).alloc _).beside gr5 (fun g' hg'=>by cases hg';omega)
 have G5:Hid (Grew W0 W5):=grew_beside (G4.out.trans (grew_alloc _ _)) gr5 (fun g' hg'=>by cases hg';omega)
 have HQ5:Hid ((fs.set i { q with r:=q.r+nn })[i]? =some { q with r:=q.r+nn }):=show _=_ by rw[sF (by rw[HN.out];exact hil)]
 clear ow5 gr5 sz5 u8;have u8:=OW5.out.frc HQ5.out 8 rfl;have o0:=XO.out.c 0 rfl;have o1:=XO.out.c 1 rfl;have r0:=X25.out.c 0 rfl;have r1:=X25.out.c 1 rfl;have rf:=X25.out.f;simp only at u8;go_wp2;refine bodyPost_ret (v:= .tuple #[.agg #[.slice (some ⟨g,0,none⟩) n cv,.int .i64 h],.int .i64 0]) (by simp[results,Tryz.results151,go_sem, *]) rfl ⟨_,rfl,?_,?_⟩
 ·exact((OW5.out.new.setCell (a:=⟨w.heap.size+1,0,none⟩) (by show w.heap.size+1<_;omega) _).setCell (a:=⟨w.heap.size+1,1,none⟩) (by show w.heap.size+1<_;omega) _).base (by have:=bS HG0.out;omega)
 exact grew_set (grew_set (HG0.out.trans G5.out) (by simp) _) (by simp) _
theorem hold_any (a:Option Addr) (c:Nat) (fs:List Fr) (h k nn:Int) (w:World) (hv:frRowAt w (.slice a fs.length c) fs):
  Calls Tryz.prog 151 #[.agg #[.slice a fs.length c,.int .i64 h],.int .i64 k,.int .i64 nn] w fun e w'=>∃b,e= .returned (.tuple #[.agg #[b,.int .i64 (holdH fs h k nn)],.int .i64 (holdE fs h k nn)])/\frNewRow w.heap.size w' b (holdF fs h k nn)/\Grew w w':=by
 unfold holdH holdF
 by_cases hz:memW fs h=0
 ·cases hkb:inB k fs.length with
  | false=>
   rw[show holdE fs h k nn=5 from by unfold holdE;rw[if_pos hz,hkb];rfl,if_neg (by decide),if_neg (by decide)]
   exact hdB a c fs h k nn w hv hz hkb
  | true=>
   have hkb':=hkb;unfold inB at hkb'
   simp at hkb'
   obtain⟨i,rfl⟩:=Int.eq_ofNat_of_zero_le hkb'.1;have hil:i<fs.length:=by omega
   obtain⟨q,hq⟩:∃q,fs[i]? =some q:=⟨_,gE hil⟩;have hgd:fs.getD (i:Int).toNat fr0=q:=by rw[tN,gD,hq];rfl
   cases hr:(q.r == 0)with
   | true=>
    rw[show holdE fs h i nn=5 from by unfold holdE;rw[if_pos hz,hkb,hgd,hr];rfl,if_neg (by decide),if_neg (by decide)]
    exact hdC a c fs h i q nn w hv hz hq hr
   | false=>
    by_cases h1:nn< -q.r
    ·rw[show holdE fs h i nn=3 from by unfold holdE;rw[if_pos hz,hkb,hgd,hr,if_pos (by decide),if_neg (by omega)],if_neg (by decide),if_neg (by decide)]
     exact hdD a c fs h i q nn w hv hz hq hr h1
    by_cases h2:1000 - q.r<nn
    ·rw[show holdE fs h i nn=3 from by unfold holdE;rw[if_pos hz,hkb,hgd,hr,if_pos (by decide),if_neg (by omega)],if_neg (by decide),if_neg (by decide)]
     exact hdE a c fs h i q nn w hv hz hq hr h1 h2
    rw[show holdE fs h i nn=0 from by unfold holdE;rw[if_pos hz,hkb,hgd,hr,if_pos (by decide),if_pos (by omega)],if_pos rfl,if_pos rfl,hgd,tN]
    by_cases h3:q.r+nn=0
    ·rw[show frH q nn=frF from if_pos h3]
     exact hdF a c fs h i q nn w hv hz hq hr h1 h2 h3
    rw[show frH q nn={ q with r:=q.r+nn }from if_neg h3]
    exact hdG a c fs h i q nn w hv hz hq hr h1 h2 (by simpa using h3)
 rw[show holdE fs h k nn=memW fs h from by unfold holdE;rw[if_neg hz],if_neg hz,if_neg hz]
 exact hdA a c fs h k nn w hv _ rfl (by simpa using hz)
def atS (s:List Int) (k:Int):Int:=if 0<=k then s.getD k.toNat 0 else 0
def holdSE (s:List Int) (k m:Int):Int:=if slW s=0 then(if atS s k=0 then 5 else if 0<=atS s k+m/\atS s k+m<=1000 then 0 else 3)else slW s
def holdSL (s:List Int) (k m:Int):List Int:=if holdSE s k m=0 then s.set k.toNat (atS s k+m)else []
theorem slW_range {s:List Int} (h:slW s=0) {k:Nat} {q:Int} (hq:s[k]? =some q):0<=q/\q<=1000:=by
 have h2:s.any badS=false:=by
  cases hb:s.any badS with
  | false=>rfl
  | true=>
   unfold slW at h;rw[hb]at h
   split at h
   ·cases h
   cases h
 have h3:=List.any_eq_false.1 h2 q (mG hq)
 simp[badS]at h3
 omega
theorem holdS_cases (s:List Int) (k m:Int):
  (slW s≠0/\holdSE s k m=slW s/\holdSL s k m=[])\/
  (slW s=0/\(k<0\/(s.length:Int)<=k)/\holdSE s k m=5/\holdSL s k m=[])\/
  (slW s=0/\∃i:Nat,k=(i:Int)/\s[i]? =some 0/\holdSE s k m=5/\holdSL s k m=[])\/
  (slW s=0/\∃(i:Nat) (q:Int),k=(i:Int)/\s[i]? =some q/\q≠0/\0<=q/\q<=1000/\¬(0<=q+m/\q+m<=1000)/\holdSE s k m=3/\holdSL s k m=[])\/
  (slW s=0/\∃(i:Nat) (q:Int),k=(i:Int)/\s[i]? =some q/\q≠0/\0<=q/\q<=1000/\(0<=q+m/\q+m<=1000)/\holdSE s k m=0/\holdSL s k m=s.set i (q+m)):=by
 have no:∀z,holdSE s k m=z->z≠0->holdSL s k m=[]:=fun z h hz=>if_neg (by rw[h];exact hz)
 by_cases h1:slW s=0
 ·by_cases h2:k<0\/(s.length:Int)<=k
  ·have hat:atS s k=0:=by
    unfold atS
    split
    ·rw[gD,gN (by omega)]
     rfl
    rfl
   have h:holdSE s k m=5:=by unfold holdSE;rw[if_pos h1,if_pos hat]
   exact .inr (.inl ⟨h1,h2,h,no _ h (by decide)⟩)
  obtain⟨i,rfl⟩:∃i:Nat,k=(i:Int):=⟨k.toNat,by omega⟩
  have hil:i<s.length:=by omega
  obtain⟨q,hq⟩:∃q,s[i]? =some q:=⟨_,gE hil⟩;have hat:atS s (i:Int)=q:=by
   unfold atS;rw[if_pos (by omega),gD,tN,hq]
   rfl
  by_cases h0:q=0
  ·subst h0;have h:holdSE s i m=5:=by unfold holdSE;rw[if_pos h1,if_pos hat]
   exact .inr (.inr (.inl ⟨h1,i,rfl,hq,h,no _ h (by decide)⟩))
  have hr:=slW_range h1 hq
  by_cases h3:0<=q+m/\q+m<=1000
  ·have h:holdSE s i m=0:=by unfold holdSE;rw[if_pos h1,hat,if_neg h0,if_pos h3]
   exact .inr (.inr (.inr (.inr ⟨h1,i,q,rfl,hq,h0,hr.1,hr.2,h3,h,by unfold holdSL;rw[if_pos h,hat,tN]⟩)))
  have h:holdSE s i m=3:=by unfold holdSE;rw[if_pos h1,hat,if_neg h0,if_neg h3]
  exact .inr (.inr (.inr (.inl ⟨h1,i,q,rfl,hq,h0,hr.1,hr.2,h3,h,no _ h (by decide)⟩)))
 have h:holdSE s k m=slW s:=by unfold holdSE;rw[if_neg h1]
 exact .inl ⟨h1,h,no _ h h1⟩
theorem holdS_any (a:Option Addr) (c:Nat) (s:List Int) (k m:Int) (w:World) (hv:RowAt slE w (.slice a s.length c) s):
  Calls Tryz.prog 152 #[.slice a s.length c,.int .i64 k,.int .i64 m] w fun e w'=>∃a' c',e= .returned (.tuple #[.slice a' (holdSL s k m).length c',.int .i64 (holdSE s k m)])/\NewRow slE w.heap.size w' (.slice a' (holdSL s k m).length c') (holdSL s k m)/\Grew w w':=by
 have h1:=wrongS_any a c s w hv;have h3:∀W,Grew w W->Calls Tryz.prog 52 #[.slice a s.length c] W fun e w'=>∃v',e= .returned v'/\OwnRow slE W.heap.size w' v' s/\Grew W w':=fun W hW=>cloneS_any _ s W (hv.grew hW)
 have hbig:=hv.short;obtain⟨a',c',heq,hrow⟩:=hv.sls;cases heq;have HR:Hid (SlRows w a s):=hrow;clear hrow hv;obtain⟨n,HN⟩:∃n,Hid (s.length=n):=⟨_,rfl⟩
 rcases holdS_cases s k m with⟨hw,e1,e2⟩ | ⟨hw,hk,e1,e2⟩ | ⟨hw,i,rfl,hq,e1,e2⟩ | ⟨hw,i,q,rfl,hq,h0,hr0,hr1,hno,e1,e2⟩ | ⟨hw,i,q,rfl,hq,h0,hr0,hr1,hyes,e1,e2⟩
 ·rw[e1,e2];clear e1 e2 h3
  generalize slW s=z at h1 hw⊢
  have hzb:(z != 0)=true:=by simpa using hw
  rw[HN.out]at h1 hbig⊢
  go_enter Tryz.func152,Tryz.ntmps152
  go_wp2_with fail;refine h1.mono ?_;rintro e W1 ⟨rfl,g1⟩;have G1:Hid (Grew w W1):=g1;clear g1 h1 hw;go_wp2;refine bodyPost_ret (v:= .tuple #[.slice none 0 0,.int .i64 z]) (by simp[results,Tryz.results152,go_sem, *]) rfl ⟨none,0,rfl,NewRow.nil _ _ _,G1.out⟩
 ·rw[hw]at h1;rw[e1,e2];clear e1 e2 h3 hw;rw[HN.out]at h1 hbig hk⊢
  by_cases hk0:k<0
  ·go_enter Tryz.func152,Tryz.ntmps152
   go_wp2_with fail;refine h1.mono ?_;rintro e W1 ⟨rfl,g1⟩;have G1:Hid (Grew w W1):=g1;clear g1 h1 hk;go_wp2;refine bodyPost_ret (v:= .tuple #[.slice none 0 0,.int .i64 5]) (by simp[results,Tryz.results152,go_sem, *]) rfl ⟨none,0,rfl,NewRow.nil _ _ _,G1.out⟩
  have hkn:(n:Int)<=k:=by omega
  go_enter Tryz.func152,Tryz.ntmps152
  go_wp2_with fail;refine h1.mono ?_;rintro e W1 ⟨rfl,g1⟩;have G1:Hid (Grew w W1):=g1;clear g1 h1 hk;go_wp2;refine bodyPost_ret (v:= .tuple #[.slice none 0 0,.int .i64 5]) (by simp[results,Tryz.results152,go_sem, *]) rfl ⟨none,0,rfl,NewRow.nil _ _ _,G1.out⟩
 ·rw[hw]at h1;rw[e1,e2];clear e1 e2 h3 hw;have hil:i<n:=by rw[<-HN.out];exact(gS.1 hq).1
  rw[HN.out]at h1 hbig⊢;have hilz:¬(n:Int)<=(i:Int):=by omega
  have hi0:¬(i:Int)<0:=by omega
  have hilz':(i:Int)< (n:Int):=by omega
  obtain⟨ad,rfl,hl⟩:=HR.out i 0 hq;clear hq
  go_enter Tryz.func152,Tryz.ntmps152
  go_wp2_with fail;refine h1.mono ?_;rintro e W1 ⟨rfl,g1⟩;have G1:Hid (Grew w W1):=g1;have d0:=hl W1 g1;clear g1 h1 hl;go_wp2;refine bodyPost_ret (v:= .tuple #[.slice none 0 0,.int .i64 5]) (by simp[results,Tryz.results152,go_sem, *]) rfl ⟨none,0,rfl,NewRow.nil _ _ _,G1.out⟩
 ·rw[hw]at h1;rw[e1,e2];clear e1 e2 h3 hw;have hil:i<n:=by rw[<-HN.out];exact(gS.1 hq).1
  rw[HN.out]at h1 hbig⊢;have hilz:¬(n:Int)<=(i:Int):=by omega
  have hi0:¬(i:Int)<0:=by omega
  have hilz':(i:Int)< (n:Int):=by omega
  obtain⟨ad,rfl,hl⟩:=HR.out i q hq;have hqb:(q == 0)=false:=by simpa using h0
  by_cases hlo:m< -q
  ·clear hq h0 hno
   go_enter Tryz.func152,Tryz.ntmps152
   go_wp2_with fail;refine h1.mono ?_;rintro e W1 ⟨rfl,g1⟩;have G1:Hid (Grew w W1):=g1;have d0:=hl W1 g1;clear g1 h1 hl;go_wp2;refine bodyPost_ret (v:= .tuple #[.slice none 0 0,.int .i64 3]) (by simp[results,Tryz.results152,go_sem, *]) rfl ⟨none,0,rfl,NewRow.nil _ _ _,G1.out⟩
  have hhi:1000 - q<m:=by omega
  clear hq h0 hno
  go_enter Tryz.func152,Tryz.ntmps152
  go_wp2_with fail;refine h1.mono ?_;rintro e W1 ⟨rfl,g1⟩;have G1:Hid (Grew w W1):=g1;have d0:=hl W1 g1;clear g1 h1 hl;go_wp2;refine bodyPost_ret (v:= .tuple #[.slice none 0 0,.int .i64 3]) (by simp[results,Tryz.results152,go_sem, *]) rfl ⟨none,0,rfl,NewRow.nil _ _ _,G1.out⟩
 rw[hw]at h1;rw[e1,e2,List.length_set];clear e1 e2 hw;have hil:i<n:=by rw[<-HN.out];exact(gS.1 hq).1
 rw[HN.out]at h1 h3 hbig⊢;have hilz:¬(n:Int)<=(i:Int):=by omega
 have hi0:¬(i:Int)<0:=by omega
 have hilz':(i:Int)< (n:Int):=by omega
 obtain⟨ad,rfl,hl⟩:=HR.out i q hq;have hqb:(q == 0)=false:=by simpa using h0
 have hlo:¬m< -q:=by omega
 have hhi:¬1000 - q<m:=by omega
 have HQ:Hid (s[i]? =some q):=hq;clear hq h0
 go_enter Tryz.func152,Tryz.ntmps152
 go_wp2_with fail;refine h1.mono ?_;rintro e W1 ⟨rfl,g1⟩;have G1:Hid (Grew w W1):=g1;have d0:=hl W1 g1;clear g1 h1 hl;go_wp2_with fail;refine(h3 _ G1.out).mono ?_;rintro e W3 ⟨v',rfl,ow,g3⟩;obtain⟨g,cv,rfl⟩:=ow.formS (by rw[HN.out];omega)
 rw[HN.out]at ow⊢;have OW:Hid (OwnRow slE W1.heap.size W3 (.slice (some ⟨g,0,none⟩) n cv) s):=ow;have G3:Hid (Grew W1 W3):=g3;have d1:W3.cell? ⟨g,i,none⟩=some (.int .i64 q):=by
  obtain⟨x,y,he,hr⟩:=ow.at.sls;cases he;obtain⟨x',he,hr⟩:=hr i q HQ.out;cases he;have:=hr W3 (Grew.refl _);rw[Addr.add_lit,zA]at this;exact this
 clear g3 h3 ow d0
 go_wp2_with (refine wpList_store_elt (E:=slE) rfl (.tmp 54) (.tmp 53) rfl W1.heap.size _ s OW.out g i rfl (q+m) (by rw[HN.out];exact hil) _ rfl (by simp[slE]) _ rfl rfl ?_)
 intro w4 ow4 gr4 _;have hg2:=(OW.out.lt g rfl).1;have OW4:Hid (OwnRow slE W1.heap.size w4 (.slice (some ⟨g,0,none⟩) n cv) (s.set i (q+m))):=ow4;have G4:Hid (Grew W1 w4):=grew_grown G3.out gr4 hg2;clear ow4 gr4 d1;go_wp2;refine bodyPost_ret (v:= .tuple #[.slice (some ⟨g,0,none⟩) n cv,.int .i64 0]) (by simp[results,Tryz.results152,go_sem, *]) rfl ⟨_,_,rfl,OW4.out.new.base (bS G1.out),G1.out.trans G4.out⟩
theorem withEntry_any (xa:Option Addr) (xc:Nat) (h:List En) (k:Nat) (hk:k<8) (x:En) (base:Nat) (w:World) (hown:OwnRow enE base w (.slice xa h.length xc) h) (hb:base<=w.heap.size) (h8:h.length=0\/h.length=8):
  Calls Tryz.prog 165 #[.slice xa h.length xc,.int .i64 (k:Int),.agg #[.int .i64 x.kind,.int .i64 x.n,.bool x.wr]] w fun e w'=>∃a' c',e= .returned (.slice a' (mk ((full h).set k x)).length c')/\OwnRow enE base w' (.slice a' (mk ((full h).set k x)).length c') (mk ((full h).set k x))/\w.grownBy w' (Value.slice xa h.length xc).ownBlock/\(∀g,(Value.slice a' (mk ((full h).set k x)).length c').ownBlock=some g->(Value.slice xa h.length xc).ownBlock=some g\/w.heap.size<=g):=by
 have HOWN:Hid (OwnRow enE base w (.slice xa h.length xc) h):=hown;have HB:Hid (base<=w.heap.size):=hb;have HMK:Hid (mk ((full h).set k x)=if anyS ((full h).set k x)=true then(full h).set k x else []):=rfl;clear hown hb;obtain⟨W0,hW0⟩:∃W0,w.alloc (.cells #[.int .i64 x.kind,.int .i64 x.n,.bool x.wr] 67)=W0:=⟨_,rfl⟩;have HG0:=gA hW0
 have X0:=xA hW0
 have HS0:=sA hW0
 have HW0:Hid (_=W0):=hW0;clear hW0;have hkz:(k:Int)<8:=by omega
 rcases h8 with h0 | h8
 ·have hnil:h=[]:=List.length_eq_zero_iff.1 h0;subst hnil;obtain⟨L,HL⟩:∃L,Hid ((full []).set k x=L):=⟨_,rfl⟩;have HLL:Hid (L.length=8):=show _=_ by rw[<-HL.out];simp[full]
  rw[HL.out]at HMK⊢
  generalize mk L=M at HMK⊢
  simp only[List.length_nil]at HOWN⊢;clear h0
  go_enter Tryz.func165,Tryz.ntmps165
  go_upto_region 1 with fail;rw[HW0.out]
  go_wp2_with (refine wpList_make_row enE rfl (.const (.int .i64 8)) rfl 8 rfl (by decide) ?_)
  intro C ow
  show wpList _ _ _ _ _ (W0.alloc (.cells C 67))
  have ow':OwnRow enE W0.heap.size (W0.alloc (.cells C 67)) (.slice (some ⟨W0.heap.size,0,none⟩) 8 8) (full []):=ow;obtain⟨W1,hW1⟩:∃W1,W0.alloc (.cells C 67)=W1:=⟨_,rfl⟩;have G1:=gA hW1
  rw[hW1]at ow'⊢;obtain⟨g,HGG⟩:∃g,Hid (W0.heap.size=g):=⟨_,rfl⟩;rw[HGG.out]at ow'⊢;have O1:Hid (OwnRow enE g W1 (.slice (some ⟨g,0,none⟩) 8 8) (full [])):=ow';have X1:=dD (X0.out.grew G1.out);have HBG:Hid (base<=g/\w.heap.size<=g):=show _/\_ by
   have:=HS0.out;have:=HB.out;have:=HGG.out
   constructor <;> omega
  clear hW1 ow ow';obtain⟨x0,x1,x2⟩:=X1.out.c3
  go_wp2_with (refine wpList_store_elt (E:=enE) rfl (.tmp 14) (.tmp 13) rfl g _ (full []) O1.out g k rfl x ?t1 ⟨g,k*3,none⟩ rfl rfl (.agg #[.int .i64 x.kind,.int .i64 x.n,.bool x.wr]) rfl rfl ?_)
  case t1=>exact hk
  intro W2 ow2 gr2 sz2;rw[HL.out]at ow2;have O2:Hid (OwnRow enE base W2 (.slice (some ⟨g,0,none⟩) 8 8) L):=ow2.base HBG.out.1;have G2:Hid (Grew w W2):=show Grew _ _ from grew_grown (HG0.out.trans G1.out) gr2 HBG.out.2
  have hcall:=containsSome_any _ L W2 ow2.at;clear ow2 gr2 sz2 x0 x1 x2
  generalize anyS L=A at hcall HMK
  cases A with
  | true=>
   have HM:Hid (M=L):=show _=_ by rw[HMK.out,if_pos rfl]
   go_wp2_with fail;refine hcall.mono ?_;rintro e W3 ⟨rfl,k1⟩;have G3:Hid (w.grownBy W3 _):=show World.grownBy _ _ (Value.ownBlock (.slice xa 0 xc))from grew_by (G2.out.trans k1) _
   have O3:=dD (O2.out.grew k1);clear k1 hcall;go_wp2;go_ret;rw[HM.out,HLL.out];exact⟨some ⟨g,0,none⟩,8,rfl,O3.out,G3.out,fun g' hg=> .inr (by cases hg;exact HBG.out.2)⟩
  | false=>
   have HM:Hid (M=[]):=show _=_ by rw[HMK.out,if_neg (by decide)]
   go_wp2_with fail;refine hcall.mono ?_;rintro e W3 ⟨rfl,k1⟩;have G3:Hid (w.grownBy W3 _):=show World.grownBy _ _ (Value.ownBlock (.slice xa 0 xc))from grew_by (G2.out.trans k1) _
   clear k1 hcall;go_wp2;go_ret;rw[HM.out];exact⟨none,0,rfl,OwnRow.nil _ _ _,G3.out,fun g' hg=>by cases hg⟩
 obtain⟨L,HL⟩:∃L,Hid ((full h).set k x=L):=⟨_,rfl⟩;have HFU:Hid (full h=h):=show _=_ by unfold full;rw[if_neg (by omega)]
 have HLL:Hid (L.length=8):=show _=_ by rw[<-HL.out,HFU.out];simp[h8]
 rw[HL.out]at HMK⊢
 generalize mk L=M at HMK⊢
 have HH8:Hid (h.length=8):=h8;obtain⟨g,c',heq⟩:=HOWN.out.formS (by omega)
 cases heq;rw[h8]at HOWN⊢;clear h8
 go_enter Tryz.func165,Tryz.ntmps165
 go_upto_region 1 with fail;rw[HW0.out];have O1:=dD (HOWN.out.grew HG0.out);obtain⟨x0,x1,x2⟩:=X0.out.c3
 go_wp2_with (refine wpList_store_elt (E:=enE) rfl (.tmp 14) (.tmp 13) rfl base _ h O1.out g k rfl x ?t1 ⟨g,k*3,none⟩ rfl rfl (.agg #[.int .i64 x.kind,.int .i64 x.n,.bool x.wr]) rfl rfl ?_)
 case t1=>rw[HH8.out];exact hk
 intro W2 ow2 gr2 sz2;rw[HFU.out]at HL;rw[HL.out]at ow2;have O2:Hid (OwnRow enE base W2 (.slice (some ⟨g,0,none⟩) 8 xc) L):=ow2;have G2:Hid (w.grownBy W2 (some g)):=show World.grownBy _ _ _ from grown_trans (grew_by HG0.out _) gr2
 have hcall:=containsSome_any _ L W2 ow2.at;clear ow2 gr2 sz2 x0 x1 x2
 generalize anyS L=A at hcall HMK
 cases A with
 | true=>
  have HM:Hid (M=L):=show _=_ by rw[HMK.out,if_pos rfl]
  go_wp2_with fail;refine hcall.mono ?_;rintro e W3 ⟨rfl,k1⟩;have G3:Hid (w.grownBy W3 _):=show World.grownBy _ _ (Value.ownBlock (.slice (some ⟨g,0,none⟩) 8 xc))from grown_trans G2.out (grew_by k1 _)
  have O3:=dD (O2.out.grew k1);clear k1 hcall;go_wp2;go_ret;rw[HM.out,HLL.out];exact⟨some ⟨g,0,none⟩,xc,rfl,O3.out,G3.out,fun g' hg=> .inl hg⟩
 | false=>
  have HM:Hid (M=[]):=show _=_ by rw[HMK.out,if_neg (by decide)]
  go_wp2_with fail;refine hcall.mono ?_;rintro e W3 ⟨rfl,k1⟩;have G3:Hid (w.grownBy W3 _):=show World.grownBy _ _ (Value.ownBlock (.slice (some ⟨g,0,none⟩) 8 xc))from grown_trans G2.out (grew_by k1 _)
  clear k1 hcall;go_wp2;go_ret;rw[HM.out];exact⟨none,0,rfl,OwnRow.nil _ _ _,G3.out,fun g' hg=>by cases hg⟩
theorem nil8_one:∀v∈nil8,v.oneCell'=true:=fun v hv=>by
 rw[nil8,List.mem_replicate]at hv;rw[hv.2];rfl
theorem set_cases (t:List (List En)) (n:Int) (x:En):
  (tbW t≠0/\setE t n x=tbW t/\setR t n x=none8)\/
  (tbW t=0/\¬(0<=n/\n<64)/\setE t n x=3/\setR t n x=none8)\/
  (tbW t=0/\(0<=n/\n<64)/\enW x≠0/\setE t n x=enW x/\setR t n x=none8)\/
  (tbW t=0/\(0<=n/\n<64)/\enW x=0/\setE t n x=0/\setR t n x=setT t n.toNat x):=by
 by_cases h1:tbW t=0
 ·by_cases h2:0<=n/\n<64
  ·have e:setE t n x=enW x:=by unfold setE;rw[if_pos h1,if_pos h2]
   by_cases h3:enW x=0
   ·exact .inr (.inr (.inr ⟨h1,h2,h3,e.trans h3,by unfold setR;rw[if_pos (e.trans h3)]⟩))
   exact .inr (.inr (.inl ⟨h1,h2,h3,e,by unfold setR;rw[if_neg (by rw[e];exact h3)]⟩))
  have e:setE t n x=3:=by unfold setE;rw[if_pos h1,if_neg h2]
  exact .inr (.inl ⟨h1,h2,e,by unfold setR;rw[if_neg (by rw[e];decide)]⟩)
 have e:setE t n x=tbW t:=by unfold setE;rw[if_neg h1]
 exact .inl ⟨h1,e,by unfold setR;rw[if_neg (by rw[e];exact h1)]⟩
theorem setTb_any (vs:List Value) (t:List (List En)) (n:Int) (x:En) (w:World) (hv:TabAt w vs t):
  Calls Tryz.prog 153 #[.agg vs.toArray,.int .i64 n,.agg #[.int .i64 x.kind,.int .i64 x.n,.bool x.wr]] w fun e w'=>∃us,e= .returned (.tuple #[.agg us.toArray,.int .i64 (setE t n x)])/\TabS 0 w.heap.size w' us (setR t n x)/\Grew w w':=by
 have HL:Hid (vs.length=8):=hv.len;have HT8:Hid (t.length=8):=hv.tlen;have h1:∀W,Grew w W->Calls Tryz.prog 139 #[.agg vs.toArray] W fun e w'=>e= .returned (.int .i64 (tbW t))/\Grew W w':=fun W hW=>wrongTb_any vs t W (hv.grew hW)
 have h2:∀W,Grew w W->Calls Tryz.prog 108 #[.agg vs.toArray] W fun e w'=>∃us,e= .returned (.agg us.toArray)/\OwnTab (W.heap.size+2) w' us t/\Grew W w'/\W.heap.size+2<=w'.heap.size:=fun W hW=>ownTb_any vs t W (hv.grew hW)
 have h3:=fun W=>wrongEntry_any x.kind x.n x.wr W
 clear hv;obtain⟨W0,hW0⟩:∃W0,((w.alloc (.cells vs.toArray 63)).alloc (.cells #[.int .i64 x.kind,.int .i64 x.n,.bool x.wr] 67)).alloc (.cells #[.slice none 0 0,.slice none 0 0,.slice none 0 0,.slice none 0 0,.slice none 0 0,.slice none 0 0,.slice none 0 0,.slice none 0 0] 63)=W0:=⟨_,rfl⟩;have HG0:Hid (Grew w W0):=show Grew w W0 by rw[<-hW0];exact((grew_alloc _ _).trans (grew_alloc _ _)).trans (grew_alloc _ _)
 have X0:Hid (Box W0 w.heap.size vs):=show Box _ _ _ by rw[<-hW0];exact((Box.top w _ _ rfl).alloc _).alloc _
 have E0:Hid (Box W0 (w.heap.size+1) [.int .i64 x.kind,.int .i64 x.n,.bool x.wr]):=show Box _ _ _ by rw[<-hW0];exact(Box.top _ _ _ (by simp)).alloc _
 have Y0:Hid (Box W0 (w.heap.size+2) nil8):=show Box _ _ _ by rw[<-hW0];exact Box.top _ nil8 _ (by simp)
 have HW0:Hid (_=W0):=hW0;clear hW0
 rcases set_cases t n x with⟨hz,e1,e2⟩ | ⟨hz,hn,e1,e2⟩ | ⟨hz,hn,hx,e1,e2⟩ | ⟨hz,hn,hx,e1,e2⟩
 ·rw[e1,e2];have hzb:(tbW t != 0)=true:=by simpa using hz
  clear e1 e2 hz h2 h3
  generalize tbW t=z at h1 hzb⊢
  go_enter Tryz.func153,Tryz.ntmps153
  go_upto_region 1 with fail;rw[HW0.out]
  go_wp2_with (refine wp_loadTab rfl (.tmp 3) rfl w.heap.size rfl X0.out HL.out ?_)
  refine(h1 W0 HG0.out).mono ?_;rintro e W1 ⟨rfl,g1⟩;have G1:=dD (HG0.out.trans g1);have X1:=dD (X0.out.grew g1);have E1:=dD (E0.out.grew g1);have Y1:=dD (Y0.out.grew g1);clear g1 h1
  go_wp2_with (refine wp_storeAll rfl 63 (.tmp 6) (.tmp 15) rfl (w.heap.size+2) rfl nil8 rfl Y1.out rfl Tryz.sizeTable nil8_one ?_)
  intro W9 b9 g9 s9;have B9:Hid (Box W9 (w.heap.size+2) nil8):=b9;have G9:Hid (Grew w W9):=show Grew _ _ from grew_grown G1.out g9 (by simp)
  clear b9 g9 s9;go_wp2;refine bodyPost_ret (ret_cell_tmp rfl _ rfl B9.out Tryz.underlying63 rfl Tryz.sizeTable) rfl ⟨nil8,rfl,TabS.nil _ _ _,G9.out⟩
 ·rw[e1,e2];rw[hz]at h1;have hb:=fun W=>belowT_no (m:=n) (n:=64) hn W
  clear e1 e2 hz hn h2 h3
  go_enter Tryz.func153,Tryz.ntmps153
  go_upto_region 1 with fail;rw[HW0.out]
  go_wp2_with (refine wp_loadTab rfl (.tmp 3) rfl w.heap.size rfl X0.out HL.out ?_)
  refine(h1 W0 HG0.out).mono ?_;rintro e W1 ⟨rfl,g1⟩;have G1:=dD (HG0.out.trans g1);have X1:=dD (X0.out.grew g1);have E1:=dD (E0.out.grew g1);have Y1:=dD (Y0.out.grew g1);clear g1 h1;go_wp2_with fail;refine(hb _).mono ?_;rintro e w' ⟨rfl,hw'⟩;rw[hw'];clear hw' w'
  go_wp2_with (refine wp_storeAll rfl 63 (.tmp 6) (.tmp 20) rfl (w.heap.size+2) rfl nil8 rfl Y1.out rfl Tryz.sizeTable nil8_one ?_)
  intro W9 b9 g9 s9;have B9:Hid (Box W9 (w.heap.size+2) nil8):=b9;have G9:Hid (Grew w W9):=show Grew _ _ from grew_grown G1.out g9 (by simp)
  clear b9 g9 s9;go_wp2;refine bodyPost_ret (ret_cell_tmp rfl _ rfl B9.out Tryz.underlying63 rfl Tryz.sizeTable) rfl ⟨nil8,rfl,TabS.nil _ _ _,G9.out⟩
 ·rw[e1,e2];rw[hz]at h1;have hb:=fun W=>belowT_yes (m:=n) (n:=64) hn.1 hn.2 W
  change ∀W,Calls Tryz.prog 164 _ W fun e w'=>e= .returned (.int .i64 (enW x))/\Grew W w' at h3
  have hzb:(enW x != 0)=true:=by simpa using hx
  clear e1 e2 hz hn hx h2
  generalize enW x=z at h3 hzb⊢
  go_enter Tryz.func153,Tryz.ntmps153
  go_upto_region 1 with fail;rw[HW0.out]
  go_wp2_with (refine wp_loadTab rfl (.tmp 3) rfl w.heap.size rfl X0.out HL.out ?_)
  refine(h1 W0 HG0.out).mono ?_;rintro e W1 ⟨rfl,g1⟩;have G1:=dD (HG0.out.trans g1);have X1:=dD (X0.out.grew g1);have E1:=dD (E0.out.grew g1);have Y1:=dD (Y0.out.grew g1);clear g1 h1;go_wp2_with fail;refine(hb _).mono ?_;rintro e w' ⟨rfl,hw'⟩;rw[hw'];clear hw' w';obtain⟨e0,e1,e2⟩:=E1.out.c3;go_wp2_with fail;refine(h3 W1).mono ?_;rintro e W2 ⟨rfl,g2⟩;have G2:=dD (G1.out.trans g2);have X2:=dD (X1.out.grew g2);have E2:=dD (E1.out.grew g2);have Y2:=dD (Y1.out.grew g2);clear g2 h3 e0 e1 e2
  go_wp2_with (refine wp_storeAll rfl 63 (.tmp 6) (.tmp 25) rfl (w.heap.size+2) rfl nil8 rfl Y2.out rfl Tryz.sizeTable nil8_one ?_)
  intro W9 b9 g9 s9;have B9:Hid (Box W9 (w.heap.size+2) nil8):=b9;have G9:Hid (Grew w W9):=show Grew _ _ from grew_grown G2.out g9 (by simp)
  clear b9 g9 s9;go_wp2;refine bodyPost_ret (ret_cell_tmp rfl _ rfl B9.out Tryz.underlying63 rfl Tryz.sizeTable) rfl ⟨nil8,rfl,TabS.nil _ _ _,G9.out⟩
 rw[e1,e2];rw[hz]at h1;have hb:=fun W=>belowT_yes (m:=n) (n:=64) hn.1 hn.2 W
 change ∀W,Calls Tryz.prog 164 _ W fun e w'=>e= .returned (.int .i64 (enW x))/\Grew W w' at h3
 rw[hx]at h3;obtain⟨i,k,hi,hk,hnk,q1,q2,q3,q4,q5,q6⟩:=page_split hn.1 hn.2;obtain⟨q,HQ⟩:∃q,Hid (t[i]? =some q):=⟨_,gE (by rw[HT8.out];exact hi)⟩
 have H8:Hid (q.length=0\/q.length=8):=show _\/_ by
  rcases tbW_zero.1 hz q (mG HQ.out)with h | ⟨h,_⟩
  ·exact .inl (by rw[h];rfl)
  exact .inr h
 have HM:Hid (setT t n.toNat x=t.set i (mk ((full q).set k x))):=show _=_ by
  unfold setT;rw[q5,q6,HQ.out];rfl
 rw[HM.out];obtain⟨M,HMM⟩:∃M,Hid (mk ((full q).set k x)=M):=⟨_,rfl⟩;rw[HMM.out];have hn0:=hn.1;have hiz:(i:Int)<8:=by omega
 clear e1 e2 hz hn hx hnk q5 q6
 go_enter Tryz.func153,Tryz.ntmps153
 go_upto_region 1 with fail;rw[HW0.out]
 go_wp2_with (refine wp_loadTab rfl (.tmp 3) rfl w.heap.size rfl X0.out HL.out ?_)
 refine(h1 W0 HG0.out).mono ?_;rintro e W1 ⟨rfl,g1⟩;have G1:=dD (HG0.out.trans g1);have X1:=dD (X0.out.grew g1);have E1:=dD (E0.out.grew g1);have Y1:=dD (Y0.out.grew g1);clear g1 h1;go_wp2_with fail;refine(hb _).mono ?_;rintro e w' ⟨rfl,hw'⟩;rw[hw'];clear hw' w';obtain⟨e0,e1,e2⟩:=E1.out.c3;go_wp2_with fail;refine(h3 W1).mono ?_;rintro e W2 ⟨rfl,g2⟩;have G2:=dD (G1.out.trans g2);have X2:=dD (X1.out.grew g2);have E2:=dD (E1.out.grew g2);have Y2:=dD (Y1.out.grew g2);clear g2 h3 e0 e1 e2
 go_wp2_with (refine wp_loadTab rfl (.tmp 3) rfl w.heap.size rfl X2.out HL.out ?_)
 refine(h2 W2 G2.out).mono ?_;rintro e W3 ⟨us,rfl,ot3,g3,s3⟩;have OT3:Hid (OwnTab (W2.heap.size+2) W3 us t):=ot3;have G23:Hid (Grew W2 W3):=g3;have HB3:Hid (W2.heap.size+2<=W3.heap.size):=s3;have HB2:Hid (w.heap.size+3<=W2.heap.size):=Y2.out.lt;clear ot3 g3 s3 h2;obtain⟨po,HPO⟩:∃po,Hid (W3.heap.size=po):=⟨_,rfl⟩
 go_wp2_with (refine wp_storeAll rfl 63 (.tmp 10) (.tmp 28) rfl W3.heap.size rfl us rfl (Box.top W3 nil8 63 rfl) OT3.out.len Tryz.sizeTable OT3.out.new.one ?_)
 intro W4 b4 g4 s4;rw[HPO.out]at b4 g4⊢;have P4:Hid (Box W4 po us):=b4;have G34:Hid (Grew W3 W4):=show Grew _ _ from grew_grown (grew_alloc W3 _) g4 (by rw[HPO.out];exact nR _)
 have HS4:Hid (po<W4.heap.size):=b4.lt;clear b4 g4 s4;have OT4:=dD (OT3.out.grew G34.out);have E4:=dD ((E2.out.grew G23.out).grew G34.out);have Y4:=dD ((Y2.out.grew G23.out).grew G34.out);have G4:=dD ((G2.out.trans G23.out).trans G34.out);have HLT:Hid (∀(j:Nat) u,us[j]? =some u->∀g,u.ownBlock=some g->W2.heap.size+2<=g/\g<po):=show∀(j:Nat) u,_ from fun j u hu g hg=>by
  obtain⟨y,hy⟩:∃y,t[j]? =some y:=⟨_,gE (by rw[HT8.out,<-OT3.out.len];exact(gS.1 hu).1)⟩
  rw[<-HPO.out];exact(OT3.out.row j u y hu hy).lt g hg
 obtain⟨xa,xc,q',hq',hvk,ho4⟩:=OT4.out.half hi;obtain rfl:q=q':=by rw[HQ.out]at hq';cases hq';rfl
 have HVK:Hid (us[i]? =some (.slice xa q.length xc)):=hvk;have O4:Hid (OwnRow enE (W2.heap.size+2) W4 (.slice xa q.length xc) q):=ho4;clear hq' hvk ho4;go_upto_region 10 with fail;obtain⟨g,hg1,hg3,hg4,hg5⟩:∃g,(∀g',(Value.slice xa q.length xc).ownBlock=some g'->g'=g)/\g≠po/\W2.heap.size+2<=g/\((Value.slice xa q.length xc).ownBlock=none->W4.heap.size<=g):=by
  cases ho:(Value.slice xa q.length xc).ownBlock with
  | none=>exact⟨W4.heap.size,fun g' h=>(by cases h),by have:=HS4.out;omega,by have:=HS4.out;have:=HPO.out;have:=HB3.out;omega,fun _=>nR _⟩
  | some g=>
   have:=HLT.out i _ HVK.out g ho;exact⟨g,fun g' h=>by cases h;rfl,by omega,by omega,fun h=>by cases h⟩
 have HWP:Hid (W2.heap.size+2<=W4.heap.size):=show _<=_ by have:=HS4.out;have:=HPO.out;have:=HB3.out;omega
 obtain⟨I,HI⟩:∃I:World->Prop,Hid (∀w,I w↔Out g (g+1) W4 w):=⟨fun w=>Out g (g+1) W4 w,fun _=>Iff.rfl⟩
 obtain⟨nq,HNQ⟩:∃nq,Hid (q.length=nq):=⟨_,rfl⟩;rw[HNQ.out]at hg1 hg5 HVK O4;have hx0:∀y:HoldI I,y.world.cell? ⟨po,i,none⟩=some (.slice xa nq xc):=fun y=>(P4.out.out ((HI.out _).1 y.holds) (by omega)).c i HVK.out
 have hgE:w.heap.size+1<g:=by have:=HB2.out;omega
 have hx1:∀y:HoldI I,y.world.cell? ⟨w.heap.size+1,0,none⟩=some (.int .i64 x.kind):=fun y=>(E4.out.out ((HI.out _).1 y.holds) (by omega)).c 0 rfl
 have hx2:∀y:HoldI I,y.world.cell? ⟨w.heap.size+1,1,none⟩=some (.int .i64 x.n):=fun y=>(E4.out.out ((HI.out _).1 y.holds) (by omega)).c 1 rfl
 have hx3:∀y:HoldI I,y.world.cell? ⟨w.heap.size+1,2,none⟩=some (.bool x.wr):=fun y=>(E4.out.out ((HI.out _).1 y.holds) (by omega)).c 2 rfl
 have hne:Nonempty (HoldI I):=⟨⟨W4,(HI.out _).2 (Out.refl _ _ _)⟩⟩;obtain⟨nm,HNM⟩:∃nm,Hid (M.length=nm):=⟨_,rfl⟩;refine wp_lax_tailI (I:=I) 11 [(9,⟨fun v=>∃a' c',v= .slice a' nm c',fun v w'=>OwnRow enE (W2.heap.size+2) w' v M/\∀g',v.ownBlock=some g'->(Value.slice xa nq xc).ownBlock=some g'\/W4.heap.size<=g',fun w w'=>w.grownBy w' (Value.slice xa nq xc).ownBlock,fun w=>OwnRow enE (W2.heap.size+2) w (.slice xa nq xc) q/\W4.heap.size<=w.heap.size⟩)] ((HI.out _).2 (Out.drew _)) mixed (by kernel_rfl) rfl rfl (by decide) ?hS ?hp ?hpre ?hpr0 ?_
 case hS=>
  intro y hy
  simp at hy
  subst hy;exact⟨_,none,0,rfl⟩
 case hp=>
  intro k' s j t' hk' hj hjk _ v w w' hst hpo;have a1:=(look1 hk').1;have a2:=(look1 hj).1;exact absurd (a2.trans a1.symm) hjk
 case hpre=>
  intro j t' k' s hj hk' hjk w w' hst hpr;have a1:=(look1 hk').1;have a2:=(look1 hj).1;exact absurd (a2.trans a1.symm) hjk
 case hpr0=>
  intro k' t' hk';obtain⟨rfl,rfl⟩:=look1 hk';exact⟨O4.out.grew (gW _),nR _⟩
 simp only[List.take,List.drop];iterate 9 (refine laxI_quiet rfl rfl rfl (fun K hK=>?_);go_big_quiet_op;refine hK _ ?_;clear hK K)
 refine laxI_spec rfl rfl (fun w' hI' hpr hF=>?_) (fun v1 hv=>?_)
 ·refine Does.call [.slice xa nq xc,.int .i64 (k:Int),.agg #[.int .i64 x.kind,.int .i64 x.n,.bool x.wr]] rfl Tryz.func165 rfl rfl rfl ?_;have hpr':OwnRow enE (W2.heap.size+2) w' (.slice xa nq xc) q/\W4.heap.size<=w'.heap.size:=hpr;have hcall:=withEntry_any xa xc q k hk x (W2.heap.size+2) w' (by rw[HNQ.out];exact hpr'.1) (nT HWP.out hpr'.2) H8.out
  rw[HNQ.out,HMM.out,HNM.out]at hcall;refine hcall.mono ?_;rintro e w'' ⟨a',c',rfl,nr,gb,ho⟩;refine⟨_,rfl,(HI.out _).2 (((HI.out _).1 hI').trans (Out.grown gb (fun g' h=>by have:=hg1 g' h;omega))),gb,⟨a',c',rfl⟩,nr,fun g' hg'=>?_⟩
  rcases ho g' hg' with h | h
  ·exact .inl h
  exact .inr (nT hpr'.2 h)
 obtain⟨ra,rc,rfl⟩:=hv;simp only[Act.put,sB,sS,sZ];iterate 1 (refine laxI_quiet rfl rfl rfl (fun K hK=>?_);go_big_quiet_op;refine hK _ ?_;clear hK K)
 refine laxI_nil fun W5 hI5 hF=>?_
 have f9:OwnRow enE (W2.heap.size+2) W5 (.slice ra nm rc) M/\∀g',(Value.slice ra nm rc).ownBlock=some g'->(Value.slice xa nq xc).ownBlock=some g'\/W4.heap.size<=g':=hF 9;have O5:Hid (Out g (g+1) W4 W5):=(HI.out _).1 hI5;have OT5:Hid (OwnTab (W2.heap.size+2) W5 (us.set i (.slice ra nm rc)) (t.set i M)):=OT4.out.one hi HVK.out (by
  cases ho:(Value.slice xa nq xc).ownBlock with
  | none=>exact⟨O5.out.os,O5.out.tape,O5.out.output,O5.out.size,fun j hj _=>O5.out.block j hj (.inl (Nat.lt_of_lt_of_le hj (hg5 ho)))⟩
  | some g0=>
   have:=hg1 g0 ho;subst this;exact⟨O5.out.os,O5.out.tape,O5.out.output,O5.out.size,fun j hj hne=>O5.out.block j hj (by
    have:j≠g0:=fun e=>hne (by rw[e])
    omega)⟩) f9.1 f9.2
 have HNE:Hid (∀(j:Nat) u,(us.set i (.slice ra nm rc))[j]? =some u->∀g',u.ownBlock=some g'->po≠g'):=show∀(j:Nat) u,_ from fun j u hu g' hg'=>by
  by_cases e:j=i
  ·subst e;rw[sF (by rw[OT4.out.len];exact hi)]at hu
   cases hu
   rcases f9.2 g' hg' with h | h
   ·have:=HLT.out j _ HVK.out g' h;omega
   have:=HS4.out;omega
  rw[sN (fun h=>e h.symm)]at hu
  have:=HLT.out j u hu g' hg';omega
 have P5:Hid (Box W5 po us):=P4.out.out O5.out (by omega)
 have Y5:Hid (Box W5 (w.heap.size+2) nil8):=Y4.out.out O5.out (by have:=HB2.out;omega)
 have G5:Hid (Grew w W5):=show Grew _ _ from Out.grew_of G4.out (by have:=HB2.out;omega) O5.out
 clear hF hx0 hx1 hx2 hx3 hI5 hne f9 hg1 hg5;have p0:=P5.out.c i HVK.out;have pf:=P5.out.f;go_upto_region 11 with fail;have hlen:(us.set i (.slice ra nm rc)).length=8:=by rw[List.length_set];exact OT4.out.len
 have HLEN:Hid ((us.set i (.slice ra nm rc)).length=8):=hlen;clear hlen;obtain⟨W6,hW6⟩:∃W6,W5.setCell ⟨po,i,none⟩ (.slice ra nm rc)=W6:=⟨_,rfl⟩;have P6:Hid (Box W6 po (us.set i (.slice ra nm rc))):=show Box _ _ _ by rw[<-hW6];exact P5.out.set i _
 have Y6:Hid (Box W6 (w.heap.size+2) nil8):=show Box _ _ _ by rw[<-hW6];exact Y5.out.other (by have:=HPO.out;have:=HB3.out;have:=HB2.out;simp;omega) _
 have G6:Hid (Grew w W6):=show Grew _ _ by rw[<-hW6];exact Below.setCell G5.out (p:=⟨po,i,none⟩) (by have:=HPO.out;have:=HB3.out;have:=HB2.out;simp;omega) _
 have OT6:Hid (OwnTab (W2.heap.size+2) W6 (us.set i (.slice ra nm rc)) (t.set i M)):=show OwnTab _ _ _ _ by
  rw[<-hW6];exact⟨OT5.out.len,OT5.out.tlen,fun j v h hv hh=>(OT5.out.row j v h hv hh).setOther (fun g' hg'=>HNE.out j v hv g' hg') _,OT5.out.two⟩
 rw[hW6];clear hW6 p0 pf
 go_wp2_with (first | refine wp_loadTab rfl (.tmp 10) rfl po rfl P6.out HLEN.out ?_ | refine wp_storeAll rfl 63 (.tmp 6) (.tmp 40) rfl (w.heap.size+2) rfl _ rfl Y6.out HLEN.out Tryz.sizeTable OT6.out.new.one ?_)
 intro W7 b7 g7 s7;have B7:Hid (Box W7 (w.heap.size+2) (us.set i (.slice ra nm rc))):=b7;have G7:Hid (Grew w W7):=show Grew _ _ from grew_grown G6.out g7 (by simp)
 have T7:Hid (TabS 0 w.heap.size W7 (us.set i (.slice ra nm rc)) (t.set i M)):=show TabS _ _ _ _ _ from
  ⟨OT6.out.len,OT6.out.tlen,fun j v h hv hh=>(((OT6.out.row j v h hv hh).grown g7 (fun g' hg' e=>by
   cases e;have:=((OT6.out.row j v h hv hh).lt _ hg').1;have:=HB2.out
   omega)).new.stays).less (nR _) (by have:=HB2.out;omega)⟩
 clear b7 g7 s7;go_wp2;refine bodyPost_ret (ret_cell_tmp rfl _ rfl B7.out Tryz.underlying63 rfl (by rw[HLEN.out];exact Tryz.sizeTable)) rfl ⟨_,rfl,T7.out,G7.out⟩
def chL (V:MaV) (m:Ma):List Value:=[.slice V.f.a V.f.n V.f.c,.int .i64 m.hand,.slice V.s.a V.s.n V.s.c,.slice V.sb.a V.sb.n V.sb.c,.slice V.sq.a V.sq.n V.sq.c,.slice V.db.a V.db.n V.db.c,.slice V.dq.a V.dq.n V.dq.c,.slice V.fl.a V.fl.n V.fl.c,.int .i64 m.cnt,.slice V.ca.a V.ca.n V.ca.c,.slice V.sp.a V.sp.n V.sp.c]
structure RestAt (w:World) (V:MaV) (m:Ma):Prop where
 fs:RowAt frmE w (.slice V.f.a V.f.n V.f.c) m.fs
 sl:RowAt slE w (.slice V.s.a V.s.n V.s.c) m.sl
 sb:PagesAt w (.slice V.sb.a V.sb.n V.sb.c) m.sb
 sq:PutsAt w (.slice V.sq.a V.sq.n V.sq.c) m.sq
 db:PagesAt w (.slice V.db.a V.db.n V.db.c) m.db
 dq:PutsAt w (.slice V.dq.a V.dq.n V.dq.c) m.dq
 fl:FilesAt w (.slice V.fl.a V.fl.n V.fl.c) m.fl
 ca:RowAt cchE w (.slice V.ca.a V.ca.n V.ca.c) m.ca
def Dp (p:Nat) (s:Sli):Nat->Prop:=fun b=>b=p\/(Value.slice s.a s.n s.c).ownBlock=some b
def Dq (B p:Nat) (s:Sli):Nat->Prop:=fun b=>b<B\/Dp p s b
theorem OutD.big {p:Nat} {s:Sli} {w w':World} (B:Nat) (h:OutD (Dp p s) w w'):OutD (Dq B p s) w w':=h.wide fun _ hk=> .inr hk
theorem OutD.grown {D:Nat->Prop} {w w':World} {b:Nat} (hg:w.grownBy w' (some b)) (h:D b):OutD D w w':=
 ⟨hg.os,hg.tape,hg.output,hg.size,fun k hk hb=>hg.block k hk (fun e=>by cases e;exact hb h)⟩
theorem BoxT.outD {D:Nat->Prop} {w w':World} {b:Nat} {t:TypeId} {cs:List Value} (h:BoxT w b t cs) (k:OutD D w w') (hn:¬D b):BoxT w' b t cs:=(k.block b h.box.lt hn).trans h
theorem TabS.outD {B:Nat} {D:Nat->Prop} {w W:World} {us:List Value} {t:List (List En)} (h:TabS 0 B w us t) (hd:∀k,D k->k<B) (k:OutD D w W):TabAt W us t:=
 (h.out ⟨k.os,k.tape,k.output,k.size,fun i hi hb=>k.block i hi (fun e=>by have:=hd i e;omega)⟩).now
structure ChM (w0:World) (p:Nat) (w:World) (V:MaV) (m:Ma):Prop where
 gr:Grew w0 w
 lo:w0.heap.size<=p
 box:BoxT w p 141 (chL V m)
 rest:∀W,OutD (Dq w0.heap.size p V.sp) w W->RestAt W V m
 sp:∃xs:List SpV,OwnRow spcE w0.heap.size w (.slice V.sp.a V.sp.n V.sp.c) xs/\xs.length=m.sp.length/\∀(i:Nat) x s,xs[i]? =some x->m.sp[i]? =some s->∀W,OutD (Dq w0.heap.size p V.sp) w W->SpaceAt W x s
section
variable{w0 w w1 w2:World} {p:Nat} {V:MaV} {m:Ma}
theorem ChM.dlt (h:ChM w0 p w V m):∀k,Dp p V.sp k->k<w.heap.size:=by
 rintro k (rfl | hk)
 ·exact h.box.box.lt
 obtain⟨xs,s1,_⟩:=h.sp;exact(s1.lt k hk).2
theorem ChM.dlo (h:ChM w0 p w V m):∀k,Dp p V.sp k->w0.heap.size<=k:=by
 rintro k (rfl | hk)
 ·exact h.lo
 obtain⟨xs,s1,_⟩:=h.sp;exact(s1.lt k hk).1
theorem ChM.dqt (h:ChM w0 p w V m):∀k,Dq w0.heap.size p V.sp k->k<w.heap.size:=by
 rintro k (hk | hk)
 ·exact Nat.lt_of_lt_of_le hk (bS h.gr)
 exact h.dlt k hk
theorem ChM.grew (h:ChM w0 p w V m) (k:Grew w w1):ChM w0 p w1 V m:=by
 obtain⟨xs,s1,s2,s3⟩:=h.sp;exact⟨h.gr.trans k,h.lo,h.box.grew k,fun W hW=>h.rest W ((OutD.grew k).trans hW),⟨xs,s1.grew k,s2,fun i x s hx hs W hW=>s3 i x s hx hs W ((OutD.grew k).trans hW)⟩⟩
theorem ChM.at (h:ChM w0 p w V m):MachAt w V m:=by
 have r:=h.rest w (OutD.refl _ _);obtain⟨xs,s1,s2,s3⟩:=h.sp;exact⟨r.fs,r.sl,r.sb,r.sq,r.db,r.dq,r.fl,r.ca,⟨xs,s1.at,s2,fun i x s hx hs=>s3 i x s hx hs w (OutD.refl _ _)⟩⟩
theorem ChM.ne (h:ChM w0 p w V m):∀g,(Value.slice V.sp.a V.sp.n V.sp.c).ownBlock=some g->p≠g:=by
 obtain⟨xs,s1,_⟩:=h.sp;exact s1.ne h.box (by decide)
theorem ChM.setF (h:ChM w0 p w V m) {b:Sli} {fs:List Fr} {hd:Int} (g1:Grew w w1) (nr:NewRow frmE w.heap.size w1 (.slice b.a b.n b.c) fs) (g2:w1.grownBy w2 (some p)) (bx:BoxT w2 p 141 (chL { V with f:=b } { m with fs:=fs,hand:=hd })):ChM w0 p w2 { V with f:=b } { m with fs:=fs,hand:=hd }:=by
 have o1:OutD (Dq w0.heap.size p V.sp) w w1:=OutD.grew g1;have o2:OutD (Dq w0.heap.size p V.sp) w1 w2:=OutD.grown g2 (.inr (.inl rfl));obtain⟨xs,s1,s2,s3⟩:=h.sp;refine⟨grew_grown (h.gr.trans g1) g2 h.lo,h.lo,bx,fun W hW=>?_,⟨xs,(s1.grew g1).grown g2 (fun g hg e=>h.ne g hg (by cases e;rfl)),s2,fun i x s hx hs W hW=>s3 i x s hx hs W ((o1.trans o2).trans hW)⟩⟩
 have r:=h.rest W ((o1.trans o2).trans hW);exact⟨nr.staysD h.dqt W (o2.trans hW),r.sl,r.sb,r.sq,r.db,r.dq,r.fl,r.ca⟩
theorem ChM.setS (h:ChM w0 p w V m) {b:Sli} {sl:List Int} (g1:Grew w w1) (nr:NewRow slE w.heap.size w1 (.slice b.a b.n b.c) sl) (g2:w1.grownBy w2 (some p)) (bx:BoxT w2 p 141 (chL { V with s:=b } { m with sl:=sl })):ChM w0 p w2 { V with s:=b } { m with sl:=sl }:=by
 have o1:OutD (Dq w0.heap.size p V.sp) w w1:=OutD.grew g1;have o2:OutD (Dq w0.heap.size p V.sp) w1 w2:=OutD.grown g2 (.inr (.inl rfl));obtain⟨xs,s1,s2,s3⟩:=h.sp;refine⟨grew_grown (h.gr.trans g1) g2 h.lo,h.lo,bx,fun W hW=>?_,⟨xs,(s1.grew g1).grown g2 (fun g hg e=>h.ne g hg (by cases e;rfl)),s2,fun i x s hx hs W hW=>s3 i x s hx hs W ((o1.trans o2).trans hW)⟩⟩
 have r:=h.rest W ((o1.trans o2).trans hW);exact⟨r.fs,nr.staysD h.dqt W (o2.trans hW),r.sb,r.sq,r.db,r.dq,r.fl,r.ca⟩
theorem ChM.setT (h:ChM w0 p w V m) {xs:List SpV} {q g:Nat} {x y:SpV} {s:Sp} {us:List Value} {t:List (List En)} (s2:xs.length=m.sp.length) (s3:∀(i:Nat) x s,xs[i]? =some x->m.sp[i]? =some s->∀W,OutD (Dq w0.heap.size p V.sp) w W->SpaceAt W x s) (hx:xs[q]? =some x) (hs:m.sp[q]? =some s) (hg:(Value.slice V.sp.a V.sp.n V.sp.c).ownBlock=some g)
  (g1:Grew w w1) (tb:TabS 0 w.heap.size w1 us t) (g2:w1.grownBy w2 (some g)) (ow:OwnRow spcE w0.heap.size w2 (.slice V.sp.a V.sp.n V.sp.c) (xs.set q y)) (hy:y.live=x.live/\y.ar=x.ar/\y.tab=us):ChM w0 p w2 V { m with sp:=m.sp.set q { s with tb:=t } }:=by
 have o1:OutD (Dq w0.heap.size p V.sp) w w1:=OutD.grew g1;have o2:OutD (Dq w0.heap.size p V.sp) w1 w2:=OutD.grown g2 (.inr (.inr hg));refine⟨grew_grown (h.gr.trans g1) g2 (h.dlo g (.inr hg)),h.lo,(h.box.grew g1).beside g2 (fun k e=>by cases e;exact h.ne g hg),fun W hW=>?_,⟨xs.set q y,ow,by simp[s2],fun i x' s' hx' hs' W hW=>?_⟩⟩
 ·have r:=h.rest W ((o1.trans o2).trans hW);exact⟨r.fs,r.sl,r.sb,r.sq,r.db,r.dq,r.fl,r.ca⟩
 by_cases e:i=q
 ·subst e;rw[sF (gS.1 hx).1]at hx';have hs':(m.sp.set i { s with tb:=t })[i]? =some s':=hs';rw[sF (gS.1 hs).1]at hs';cases hx';cases hs';have k:=s3 i x s hx hs W ((o1.trans o2).trans hW);obtain⟨y1,y2,y3⟩:=hy;refine⟨y1.trans k.live,by rw[y2];exact k.ar,by rw[y2];exact k.cap,?_⟩
  rw[y3];exact tb.outD h.dqt (o2.trans hW)
 rw[sN (fun h=>e h.symm)]at hx'
 have hs':(m.sp.set q { s with tb:=t })[i]? =some s':=hs';rw[sN (fun h=>e h.symm)]at hs'
 exact s3 i x' s' hx' hs' W ((o1.trans o2).trans hW)
end
def holdM (m:Ma) (e:En) (n:Int):Ma:=if e.kind=1 then{ m with fs:=holdF m.fs m.hand e.n n,hand:=holdH m.fs m.hand e.n n }else if e.kind=2 then{ m with sl:=holdSL m.sl e.n n }else m
def entM (m:Ma) (q:Nat) (n:Int):En:=getT (m.sp.getD q ⟨false,[],[]⟩).tb n
def enterM (m:Ma) (q:Nat) (n:Int) (e:En):Ma:={ m with sp:=m.sp.set q { m.sp.getD q ⟨false,[],[]⟩with tb:=setR (m.sp.getD q ⟨false,[],[]⟩).tb n e } }
def shareM (m:Ma) (q p:Nat) (n:Int):Ma:=enterM (enterM (holdM m { entM m p n with wr:=false } 1) p n { entM m p n with wr:=false }) q n { entM m p n with wr:=false }
def dropP (m:Ma) (p:Nat) (n:Int):Ma:=enterM (holdM m (entM m p n) (-1)) p n en0
def Chd (w0:World) (p:Nat) (w:World) (V:MaV) (m':Ma) (w':World):Prop:=∃V':MaV,V'.sp=V.sp/\ChM w0 p w' V' m'/\OutD (Dp p V.sp) w w'
theorem Sp.getD_of {l:List Sp} {q:Nat} {s d:Sp} (h:l[q]? =some s):l.getD q d=s:=by
 rw[gD,h];rfl
theorem run_nilc {P:Program} {a:Act} {o:Oper} {w:World} (x:Operand) (p:Addr) (ho:o.op= .nilCheck x) (hx:a.eval x= .pointer (some p)):(execOp a.eval o).run P w= .ok (.value (.pointer (some p))) w:=by
 simp[execOp,ho,hx]
section
variable{I:World->Prop} {P:Program} {ops:Array Oper} {o:Oper} {rest:List Oper} {k:Nat} {F:Nat->World->Prop} {a:Act} {Q:Act->World->Prop}
theorem laxC_nilc {S:Nat->Option (Value->Prop)} (x:Operand) (p:Addr) (ho:o.op= .nilCheck x) (hx:a.eval x= .pointer (some p)) (hw:Region.wanted o (yielded ops a.tmps)=true) (hS:S k=none) (h:WLaxC I P ops S Q rest (k+1) F (a.put o.dst (.pointer (some p)))):WLaxC I P ops S Q (o :: rest) k F a:=by
 constructor;unfold wpLaxC;rw[if_pos hw];simp only[hS];exact⟨_,fun w _ _=>run_nilc x p ho hx,h.out⟩
theorem laxI_nilc {S:Nat->Option SpecI} (x:Operand) (p:Addr) (ho:o.op= .nilCheck x) (hx:a.eval x= .pointer (some p)) (hw:Region.wanted o (yielded ops a.tmps)=true) (hS:S k=none) (h:WLaxI I P ops S Q rest (k+1) F (a.put o.dst (.pointer (some p)))):WLaxI I P ops S Q (o :: rest) k F a:=by
 constructor;unfold wpLaxI;rw[if_pos hw];simp only[hS];exact⟨_,fun w _ _=>run_nilc x p ho hx,h.out⟩
end
section
variable(I:World->Prop) (P:Program) (ops:Array Oper) (S:Nat->Option (Value->Prop))
def ClauseD (i:Nat) (F:World->Prop) (a:Act) (K:(World->Prop)->Act->Prop):Prop:=
 match ops[i]? with
 | none=>False
 | some o=>
  if Region.wanted o (yielded ops a.tmps)then
   match S i with
   | none=>∃v,(∀w,I w->(execOp a.eval o).run P w= .ok (.value v) w)/\K F (a.put o.dst v)
   | some s=>∃p:Value->World->Prop,(∀w,I w->F w->Does P o a w fun v w'=>I w'/\s v/\p v w')/\∀v,s v->K (p v) (a.put o.dst v)
  else K F (a.put o.dst undef)
def LexD (Q:Act->World->Prop):List Nat->(World->Prop)->Act->Prop
 | [],F,a=>∀w,I w->F w->Q a w
 | i :: l,F,a=>ClauseD I P ops S i F a (LexD Q l)
end
section
variable{I:World->Prop} {P:Program} {ops:Array Oper} {S:Nat->Option (Value->Prop)} {T:Nat}
theorem ClauseD.mono {i:Nat} {F:World->Prop} {a:Act} {K K':(World->Prop)->Act->Prop}
  (h:∀F' a',K F' a'->K' F' a') (hc:ClauseD I P ops S i F a K):ClauseD I P ops S i F a K':=by
 unfold ClauseD at*
 split
 ·rename_i ho;simp only[ho]at hc
 rename_i o ho
 simp only[ho]at hc
 split
 ·rename_i hw
  simp only[hw,if_true]at hc
  split
  ·rename_i hs
   simp only[hs]at hc;obtain⟨v,h1,h2⟩:=hc;exact⟨v,h1,h _ _ h2⟩
  rename_i s hs
  simp only[hs]at hc;obtain⟨p,hd,hc⟩:=hc;exact⟨p,hd,fun v hv=>h _ _ (hc v hv)⟩
 rename_i hw
 simp only[hw]at hc;exact h _ _ hc
theorem ClauseD.swap {i j:Nat} {oi oj:Oper} {F:World->Prop} {a:Act} {K:(World->Prop)->Act->Prop} {w:World}
  (hi:ops[i]? =some oi) (hj:ops[j]? =some oj) (hap:oi.apart ops oj=true)
  (hsi:∀cs b,oi.op≠.select cs b) (hsj:∀cs b,oj.op≠.select cs b)
  (hij:anc ops 9 i j=false) (hji:anc ops 9 j i=false) (hS:∀s,S i=some s->∃v,s v) (hch:S i≠none->S j≠none->anc ops 9 i j=true\/anc ops 9 j i=true)
  (hw0:I w)
  (h:ClauseD I P ops S i F a fun F' a'=>ClauseD I P ops S j F' a' K):ClauseD I P ops S j F a fun F' a'=>ClauseD I P ops S i F' a' K:=by
 obtain⟨h1,h2,h3⟩:=Oper.apart_spec hap;have ei:∀v,execOp (a.put oj.dst v).eval oi=execOp a.eval oi:=fun v=>execOp_put oi hsi a oj.dst v h3
 have ej:∀v,execOp (a.put oi.dst v).eval oj=execOp a.eval oj:=fun v=>execOp_put oj hsj a oi.dst v h1
 have wi:∀v,Region.wanted oi (yielded ops (a.put oj.dst v).tmps)=Region.wanted oi (yielded ops a.tmps):=fun v=>wanted_put oi a oj.dst v h3
 have wj:∀v,Region.wanted oj (yielded ops (a.put oi.dst v).tmps)=Region.wanted oj (yielded ops a.tmps):=fun v=>wanted_put oj a oi.dst v h1
 have di:∀v w K,Does P oi (a.put oj.dst v) w K=Does P oi a w K:=fun v w K=>by unfold Does;rw[ei]
 have dj:∀v w K,Does P oj (a.put oi.dst v) w K=Does P oj a w K:=fun v w K=>by unfold Does;rw[ej]
 have pc:∀v u,(a.put oi.dst v).put oj.dst u=(a.put oj.dst u).put oi.dst v:=fun v u=>Act.put_comm a v u h2
 unfold ClauseD at h⊢;simp only[hi,hj,ei,ej,wi,wj,di,dj,pc]at h⊢
 cases hwi:Region.wanted oi (yielded ops a.tmps) <;> cases hwj:Region.wanted oj (yielded ops a.tmps) <;>
  simp only[hwi,hwj,if_true,if_false,Bool.false_eq_true]at h⊢
 ·exact h
 ·cases hsj':S j with
  | none=>simp only[hsj']at h⊢;exact h
  | some s=>simp only[hsj']at h⊢;exact h
 ·cases hsi':S i with
  | none=>simp only[hsi']at h⊢;exact h
  | some s=>simp only[hsi']at h⊢;exact h
 cases hsi':S i with
 | none=>
  simp only[hsi']at h;obtain⟨vi,hri,h⟩:=h
  cases hsj':S j with
  | none=>
   simp only[hsj']at h⊢;obtain⟨vj,hrj,h⟩:=h;exact⟨vj,hrj,vi,hri,h⟩
  | some s=>
   simp only[hsj']at h⊢;obtain⟨p,hd,hk⟩:=h;exact⟨p,hd,fun vj hvj=>⟨vi,hri,hk vj hvj⟩⟩
 | some si=>
  simp only[hsi']at h;obtain⟨p,hdi,h⟩:=h;obtain⟨v1,hv1⟩:=hS si hsi'
  cases hsj':S j with
  | none=>
   simp only[hsj']at h⊢;obtain⟨vj,hrj,_⟩:=h v1 hv1;refine⟨vj,hrj,p,hdi,fun vi hvi=>?_⟩
   obtain⟨vj',hrj',hl⟩:=h vi hvi;have e1:=hrj w hw0;have e2:=hrj' w hw0;rw[e1]at e2;simp only[Result.ok.injEq,Next.value.injEq,and_true]at e2;subst e2;exact hl
  | some sj=>
   exfalso
   rcases hch (by rw[hsi'];simp) (by rw[hsj'];simp)with h1 | h1
   ·rw[hij]at h1;cases h1
   rw[hji]at h1;cases h1
theorem LexD.commute {Q:Act->World->Prop} {j:Nat} {oj:Oper} {w:World} (hj:ops[j]? =some oj) (hw0:I w)
  (hsel:∀(k:Nat) (o:Oper) cs b,ops[k]? =some o->o.op≠.select cs b) (hS:∀k s,S k=some s->∃v,s v) (hch:∀i k,i<k->S i≠none->S k≠none->anc ops 9 i k=true):
  ∀(l:List Nat) (F:World->Prop) (a:Act),l.Nodup->j∈l->
   (∀i∈l,i≠j->∃oi,ops[i]? =some oi/\(i<j->oi.apart ops oj=true)/\anc ops 9 i j=false/\(i<j->anc ops 9 j i=false))->
   (l.Pairwise (·< ·))->LexD I P ops S Q l F a->LexD I P ops S Q (j :: l.filter (· != j)) F a
 | [],_,_,_,hm,_,_,_=>by cases hm
 | i :: l,F,a,hnd,hm,hall,hsorted,h=>by
  by_cases hij:i=j
  ·subst hij;have:(i :: l).filter (· != i)=l:=by
    rw[List.filter_cons];simp only[bne_self_eq_false,Bool.false_eq_true,if_false];refine List.filter_eq_self.2 fun x hx=>?_
    have:x≠i:=fun e=>(List.nodup_cons.1 hnd).1 (e ▸ hx)
    simpa using this
   rw[this];exact h
  have hjl:j∈l:=by
   rcases mC.1 hm with e | e
   ·exact absurd e.symm hij
   exact e
  have hlt:i<j:=(List.pairwise_cons.1 hsorted).1 j hjl;obtain⟨oi,hoi,hap,haij,haji⟩:=hall i (by simp) hij
  have hf:(i :: l).filter (· != j)=i :: l.filter (· != j):=by
   rw[List.filter_cons];have:(i != j)=true:=by simpa using hij
   simp[this]
  rw[hf];refine ClauseD.swap hoi hj (hap hlt) (fun cs b=>hsel i oi cs b hoi) (fun cs b=>hsel j oj cs b hj) haij (haji hlt) (hS i) (fun q1 q2=> .inl (hch i j hlt q1 q2)) hw0 ?_
  refine ClauseD.mono (fun F' a' hl=>?_) h
  exact LexD.commute hj hw0 hsel hS hch l F' a' (List.nodup_cons.1 hnd).2 hjl (fun k hk=>hall k (by simp[hk])) (List.pairwise_cons.1 hsorted).2 hl
theorem wpAny_of_lexD {Q:Act->World->Prop} {Q':Exit->Act->World->Prop} {l:List Oper} {m:Nat} (hB:laxTB ops T=true) (hTl:T+m=ops.size) (hll:l.length=m) (hops:∀j,l[j]? =ops[T+j]?) (hS:∀k s,S k=some s->∃v,s v)
  (hch:∀i k,i<k->S i≠none->S k≠none->anc ops 9 i k=true) (hQ:∀a w,Q a w->wpList P ops Q' l a w):
  ∀(fuel:Nat) (listed:Array Bool) (F:World->Prop) (a:Act) (w:World),listed.size=ops.size->(∀i,T<=i->i<ops.size->listed.getD i true=false)->(unlistedT listed T).length=fuel->closed ops listed->I w->
   F w->LexD I P ops S Q (unlistedT listed T) F a->wpAny P .any ops Q' (fuel+m) listed a w:=by
 have hsel:=Region.noSelect_spec (ops:=ops) (by simp only[laxTB,Bool.and_eq_true]at hB;exact hB.1.1)
 intro fuel
 induction fuel with
 | zero=>
  intro listed F a w hsz hout hl hc hw hF h;have hnil:unlistedT listed T=[]:=eN hl;rw[hnil]at h;rw[zA];refine wpAny_last hB m l T listed a w (nR _) hsz hTl hll hops (fun i hi=>?_) hout (hQ _ _ (h w hw hF))
  cases hg:listed.getD i true with
  | true=>rfl
  | false=>
   have:i∈unlistedT listed T:=List.mem_filter.2 ⟨List.mem_range.2 hi,by simp only[hg,beq_self_eq_true]⟩
   rw[hnil]at this;cases this
 | succ fuel ih=>
  intro listed F a w hsz hout hl hc hw hF h;rw[Nat.add_right_comm];refine⟨fun hr=>?_,fun j hj=>?_⟩
  ·exfalso
   cases hu:unlistedT listed T with
   | nil=>simp[hu]at hl
   | cons x xs=>
    have hx:x∈unlistedT listed T:=by rw[hu];simp
    have hx':=List.mem_filter.1 hx;have hxT:x<T:=List.mem_range.1 hx'.1;have hxs:x<ops.size:=by omega
    have ho:ops[x]? =some ops[x]:=Array.getElem?_eq_getElem hxs;have hsorted:(unlistedT listed T).Pairwise (·< ·):=List.Pairwise.filter _ List.pairwise_lt_range;have:x∈Region.ready .any ops listed:=by
     refine mem_ready.2 ⟨by simpa using hx'.2,ops[x],ho,fun e he hb=>?_⟩
     have hed:edge ops e.on x=true:=(edge_of ho).2 ⟨e,he,hb,rfl⟩;have hlt:=laxTB_edge hB ho _ hed
     cases hg:listed.getD e.on true with
     | true=>exact getD_up (by omega) hg
     | false=>
      have hmem:e.on∈unlistedT listed T:=List.mem_filter.2 ⟨List.mem_range.2 (by omega),by simp only[hg,beq_self_eq_true]⟩
      rw[hu]at hmem hsorted
      rcases mC.1 hmem with e1 | e1
      ·omega
      have:=(List.pairwise_cons.1 hsorted).1 _ e1;omega
    rw[hr]at this;cases this
  obtain⟨h0,oj,hoj,hall⟩:=mem_ready.1 hj;have hjs:j<ops.size:=(aS.1 hoj).1;have hdir:∀k,edge ops k j=true->listed.getD k false=true:=fun k hk=>by
   obtain⟨e,he,hb,rfl⟩:=(edge_of hoj).1 hk;exact hall e he hb
  have hjT:j<T:=by
   rcases Nat.lt_or_ge j T with h1 | h1
   ·exact h1
   exfalso
   cases hu:unlistedT listed T with
   | nil=>simp[hu]at hl
   | cons x xs=>
    have hx:x∈unlistedT listed T:=by rw[hu];simp
    have hx':=List.mem_filter.1 hx;have hxT:x<T:=List.mem_range.1 hx'.1;have:=anc_listed hc j x j hdir (laxTB_last hB hoj h1 x (by omega))
    rw[getD_flip (by simpa using hx'.2)]at this
    cases this
  have hju:j∈unlistedT listed T:=List.mem_filter.2 ⟨List.mem_range.2 hjT,by simp only[h0,beq_self_eq_true]⟩
  have hnd:(unlistedT listed T).Nodup:=List.Pairwise.filter _ List.nodup_range;have hsorted:(unlistedT listed T).Pairwise (·< ·):=List.Pairwise.filter _ List.pairwise_lt_range;have hcm:=LexD.commute hoj hw hsel hS hch (unlistedT listed T) F a hnd hju (fun i hi hij=>by
   have hi':=List.mem_filter.1 hi;have hun:listed.getD i false=false:=getD_flip (by simpa using hi'.2)
   have his:i<ops.size:=by have:=List.mem_range.1 hi'.1;omega
   have hoi:ops[i]? =some ops[i]:=Array.getElem?_eq_getElem his;refine⟨ops[i],hoi,fun hlt=>?_,?_,fun hlt=>?_⟩
   ·rcases laxTB_apart hB hoj hjT i hlt with he | ⟨oi,hoi',hap⟩
    ·have:=hdir i he;rw[hun]at this;cases this
    rw[hoi]at hoi';cases hoi';exact hap
   ·cases ha:anc ops 9 i j with
    | false=>rfl
    | true=>
     have:=anc_listed hc 9 i j hdir ha;rw[hun]at this;cases this
   cases ha:anc ops 9 j i with
   | false=>rfl
   | true=>
    have:=ancT_lt hB 9 j i ha
    omega) hsorted h
  have hsz':(listed.setIfInBounds j true).size=ops.size:=by simp[hsz]
  have hout':∀i,T<=i->i<ops.size->(listed.setIfInBounds j true).getD i true=false:=fun i hi hi'=>by rw[getD_set_ne true (by omega)];exact hout i hi hi'
  have hlen':(unlistedT (listed.setIfInBounds j true) T).length=fuel:=by
   rw[unlistedT_set (by omega)]
   have he:(unlistedT listed T).filter (· != j)=(unlistedT listed T).erase j:=by
    rw[List.Nodup.erase_eq_filter hnd]
   rw[he,List.length_erase_of_mem hju];omega
  have hc':closed ops (listed.setIfInBounds j true):=fun i k hk hik=>by
   by_cases hkj:j=k
   ·subst hkj;exact getD_set_true (hdir i hik)
   rw[getD_set_ne false hkj]at hk;exact getD_set_true (hc i k hk hik)
  unfold wpOp;simp only[hoj];simp only[LexD,ClauseD,hoj]at hcm;rw[<-unlistedT_set (by omega)]at hcm
  split
  ·rename_i hwant
   simp only[hwant,if_true]at hcm;refine .inl ?_
   cases hs:S j with
   | none=>
    simp only[hs]at hcm;obtain⟨v,hrun,hk⟩:=hcm;have hr:=hrun w hw;unfold Oper.wp;rw[hr];exact ih _ F _ w hsz' hout' hlen' hc' hw hF hk
   | some s=>
    simp only[hs]at hcm;obtain⟨p,hd,hk⟩:=hcm;refine(hd w hw hF).wp fun v w' ⟨hi',hpv,hpost⟩=>?_
    exact ih _ (p v) _ w' hsz' hout' hlen' hc' hi' hpost (hk v hpv)
  rename_i hwant
  simp only[hwant]at hcm;exact ih _ F _ w hsz' hout' hlen' hc' hw hF hcm
end
section
variable{I:World->Prop} {P:Program} {ops:Array Oper} {S:Nat->Option (Value->Prop)} {Q:Act->World->Prop}
variable(I P ops S Q)in
def wpLaxD:List Oper->Nat->(World->Prop)->Act->Prop
 | [],_,F,a=>∀w,I w->F w->Q a w
 | o :: rest,k,F,a=>
  if Region.wanted o (yielded ops a.tmps)then
   match S k with
   | none=>∃v,(∀w,I w->(execOp a.eval o).run P w= .ok (.value v) w)/\wpLaxD rest (k+1) F (a.put o.dst v)
   | some s=>∃p:Value->World->Prop,(∀w,I w->F w->Does P o a w fun v w'=>I w'/\s v/\p v w')/\∀v,s v->wpLaxD rest (k+1) (p v) (a.put o.dst v)
  else wpLaxD rest (k+1) F (a.put o.dst undef)
theorem lexD_of_lax:∀(l:List Oper) (k:Nat) (F:World->Prop) (a:Act),(∀j,l[j]? =ops[k+j]?\/l.length<=j)->wpLaxD I P ops S Q l k F a->LexD I P ops S Q (List.range' k l.length) F a
 | [],_,_,_,_,h=>h
 | o :: l,k,F,a,hl,h=>by
  have h0:ops[k]? =some o:=by
   rcases hl 0 with e | e
   ·simpa using e.symm
   simp at e
  have hnext:∀j,l[j]? =ops[k+1+j]?\/l.length<=j:=fun j=>by
   rcases hl (j+1)with e | e
   ·left;rw[List.getElem?_cons_succ]at e;rw[e];congr 1;omega
   right;simpa using e
  simp only[List.length_cons,List.range'_succ,LexD,ClauseD,h0];unfold wpLaxD at h
  split
  ·rename_i hw
   simp only[hw,if_true]at h
   cases hs:S k with
   | none=>
    simp only[hs]at h;obtain⟨v,h1,h2⟩:=h;exact⟨v,h1,lexD_of_lax l (k+1) _ _ hnext h2⟩
   | some s=>
    simp only[hs]at h;obtain⟨p,hd,hk⟩:=h;exact⟨p,hd,fun v hv=>lexD_of_lax l (k+1) _ _ hnext (hk v hv)⟩
  rename_i hw
  simp only[hw]at h;exact lexD_of_lax l (k+1) _ _ hnext h
variable(I P ops S Q)in
structure WLaxD (l:List Oper) (k:Nat) (F:World->Prop) (a:Act):Prop where
 out:wpLaxD I P ops S Q l k F a
theorem wp_lax_tailD {id:Nat} {Q:Exit->Act->World->Prop} {a:Act} {w:World} {L l r:List Oper} (T:Nat) (S:List (Nat ×(Value->Prop))) (F:World->Prop) (hI:I w.drew) (hF:F w.drew) (hm:P.follows .mixedOrders=true) (hB:laxTB L.toArray T=true) (hl:L.take T=l) (hr:L.drop T=r) (hT:T<=L.length)
  (hS:∀x∈S,∃v,x.2 v) (hch:((S.map (·.1)).all fun i=>(S.map (·.1)).all fun k=>!decide (i<k) || anc L.toArray 9 i k)=true)
  (h:WLaxD I P L.toArray (fun k=>S.lookup k) (fun a w=>wpList P L.toArray Q r a w) l 0 F a):(Code.region id L.toArray true).wp P Q a w:=by
 have hlook:∀(S:List (Nat ×(Value->Prop))) k s,S.lookup k=some s->∃x∈S,x.2=s/\x.1=k:=by
  intro S
  induction S with
  | nil=>intro k s h;simp at h
  | cons x S ih=>
   intro k s h;rw[List.lookup_cons]at h
   split at h
   ·rename_i he
    exact⟨x,by simp,by simpa using h,by simpa using(by simpa using he:k=x.1).symm⟩
   obtain⟨y,hy,he⟩:=ih k s h;exact⟨y,by simp[hy],he⟩
 have hlT:l.length=T:=by rw[<-hl,List.length_take];omega
 have hrT:r.length=L.length - T:=by rw[<-hr,List.length_drop]
 refine wp_region_any hm ?_;have hu:unlistedT (Array.replicate L.toArray.size false) T=List.range T:=by
  unfold unlistedT;refine List.filter_eq_self.2 fun i hi=>?_
  have:i<T:=by simpa using hi
  simp[show i<L.length by omega]
 have h':=lexD_of_lax (ops:=L.toArray) l 0 _ a (fun j=>by
  rcases Nat.lt_or_ge j T with hj | hj
  ·left;rw[<-hl,List.getElem?_take_of_lt hj];simp
  right;omega) h.out
 rw[hlT,<-List.range_eq_range']at h';have hfin:=wpAny_of_lexD (I:=I) (P:=P) (S:=fun k=>S.lookup k) (F:=F) (ops:=L.toArray) (T:=T) (l:=r) (m:=L.length - T) (Q:=fun a w=>wpList P L.toArray Q r a w) (Q':=Q) hB (by simp;omega) hrT (fun j=>by rw[<-hr,List.getElem?_drop];simp) (fun k s hs=>by obtain⟨x,hx,rfl,_⟩:=hlook S k s hs;exact hS x hx) (fun i k hik hi hk=>by
   obtain⟨si,hsi⟩:=Option.ne_none_iff_exists'.1 hi;obtain⟨sk,hsk⟩:=Option.ne_none_iff_exists'.1 hk;obtain⟨x,hx,_,rfl⟩:=hlook S i si hsi;obtain⟨y,hy,_,rfl⟩:=hlook S k sk hsk;have h1:=List.all_eq_true.1 (List.all_eq_true.1 hch x.1 (List.mem_map.2 ⟨x,hx,rfl⟩)) y.1 (List.mem_map.2 ⟨y,hy,rfl⟩)
   simpa [hik]using h1) (fun _ _ h=>h)
  T (Array.replicate L.toArray.size false) a w.drew (by simp) (fun i hi hi'=>by simp at hi';simp[hi']) (by rw[hu];simp) (fun i j hj _=>by
   exfalso;rw[Array.getD_eq_getD_getElem?,Array.getElem?_replicate]at hj
   split at hj <;> simp at hj)
  hI hF (by rw[hu];exact h')
 have hsz:T+(L.length - T)=L.toArray.size:=by simp;omega
 rw[hsz]at hfin;exact hfin
variable{o:Oper} {rest:List Oper} {k:Nat} {F:World->Prop} {a:Act}
theorem laxD_quiet (ht:tame o=true) (hw:Region.wanted o (yielded ops a.tmps)=true) (hS:S k=none)
  (h:∀K:Act->Prop,(∀a,WLaxD I P ops S Q rest (k+1) F a->K a)->o.quiet P a (fun w'=>∃x:HoldI I,w'=x.world) K):WLaxD I P ops S Q (o :: rest) k F a:=by
 obtain⟨v,h1,h2⟩:=h _ fun _ h=>h
 constructor;unfold wpLaxD;rw[if_pos hw];simp only[hS];refine⟨v,fun w hg=>?_,h2.out⟩
 have h3:=h1 w ⟨⟨w,hg⟩,rfl⟩;unfold Oper.quietAt at h3;have hne:=fun n w'=>@tame_value P o ht a.eval w w' n
 generalize(execOp a.eval o).run P w=r at*
 cases r with
 | ok n w'=>
  cases n <;> simp only[Oper.quietUpon]at h3
  case value u=>rw[h3.1,h3.2]
  case skip=>obtain⟨_,he⟩:=hne _ _ rfl;cases he
  case enter f args=>obtain⟨_,he⟩:=hne _ _ rfl;cases he
 | halt x w'=>simp only[Oper.quietUpon]at h3
theorem laxD_skip (hw:Region.wanted o (yielded ops a.tmps)=false) (h:WLaxD I P ops S Q rest (k+1) F (a.put o.dst undef)):WLaxD I P ops S Q (o :: rest) k F a:=by
 constructor;unfold wpLaxD;rw[if_neg (by rw[hw];exact Bool.false_ne_true)]
 exact h.out
theorem laxD_spec {s:Value->Prop} (hw:Region.wanted o (yielded ops a.tmps)=true) (hS:S k=some s) (p:Value->World->Prop)
  (h:∀w,I w->F w->Does P o a w fun v w'=>I w'/\s v/\p v w')
  (hn:∀v,s v->WLaxD I P ops S Q rest (k+1) (p v) (a.put o.dst v)):WLaxD I P ops S Q (o :: rest) k F a:=by
 constructor;unfold wpLaxD;rw[if_pos hw];simp only[hS];exact⟨p,h,fun v hv=>(hn v hv).out⟩
theorem laxD_nilc (x:Operand) (p:Addr) (ho:o.op= .nilCheck x) (hx:a.eval x= .pointer (some p)) (hw:Region.wanted o (yielded ops a.tmps)=true) (hS:S k=none) (h:WLaxD I P ops S Q rest (k+1) F (a.put o.dst (.pointer (some p)))):WLaxD I P ops S Q (o :: rest) k F a:=by
 constructor;unfold wpLaxD;rw[if_pos hw];simp only[hS];exact⟨_,fun w _=>run_nilc x p ho hx,h.out⟩
theorem laxD_nil (h:∀w,I w->F w->Q a w):WLaxD I P ops S Q [] k F a:=⟨h⟩
end
theorem chEntry_any {w0 w:World} {p:Nat} {V:MaV} {m:Ma} (h:ChM w0 p w V m) (q:Nat) (hq:q<m.sp.length) (n:Int):
  Calls Tryz.prog 122 #[.pointer (some ⟨p,0,none⟩),.agg #[.int .i64 (q:Int),.int .i64 n]] w fun e w'=>e= .returned (enV (entM m q n))/\Grew w w':=by
 obtain⟨s,hs⟩:∃s,m.sp[q]? =some s:=⟨_,gE hq⟩;obtain⟨xs,s1,s2,s3⟩:=h.sp;obtain⟨x,hx⟩:∃x,xs[q]? =some x:=⟨_,gE (by rw[s2];exact hq)⟩
 have HAT:Hid (SpaceAt w x s):=s3 q x s hx hs w (OutD.refl _ _);obtain⟨xn,HXN⟩:∃xn,Hid (xs.length=xn):=⟨_,rfl⟩;obtain⟨g,c,heq⟩:=s1.formS (by omega)
 rw[HXN.out]at heq;have c10:=h.box.box.c 10 rfl;rw[heq]at c10 s1;have hqz:(q:Int)< (xn:Int):=by have:=HXN.out;omega
 have HC10:Hid (w.cell? ⟨p,10,none⟩=some (.slice (some ⟨g,0,none⟩) xn c)):=c10;have HBX:Hid (BoxT w p 141 (chL V m)):=h.box;have hce:Sp10 w ((Addr.mk g 0 none).add (q*10)) x:=(s1.one hx).sp10;rw[Addr.add_lit,zA]at hce;have HCE:Hid (∀W,Grew w W->Sp10 W ⟨g,q*10,none⟩ x):=show∀W,_ from fun W hW=>by
  have:=((s1.grew hW).one hx).sp10;rw[Addr.add_lit,zA]at this;exact this
 have HVS:Hid (Value.slice V.sp.a V.sp.n V.sp.c= .slice (some ⟨g,0,none⟩) xn c):=heq;obtain⟨E,HE⟩:∃E,Hid (entM m q n=E):=⟨_,rfl⟩;have HG:Hid (∀W,Grew w W->Calls Tryz.prog 65 #[.agg #[.slice x.t0.a x.t0.n x.t0.c,.slice x.t1.a x.t1.n x.t1.c,.slice x.t2.a x.t2.n x.t2.c,.slice x.t3.a x.t3.n x.t3.c,.slice x.t4.a x.t4.n x.t4.c,.slice x.t5.a x.t5.n x.t5.c,.slice x.t6.a x.t6.n x.t6.c,.slice x.t7.a x.t7.n x.t7.c],.int .i64 n] W fun e w'=>e= .returned (enV E)/\Grew W w'):=show∀W,_ from fun W hW=>by
  have k:=getTb_any x.tab s.tb n W (HAT.out.tb.grew hW);rw[show getT s.tb n=E from by rw[<-HE.out];unfold entM;rw[Sp.getD_of hs]]at k
  exact k
 rw[HE.out];clear h hq hs s1 s2 s3 hx heq c10 hce HAT;obtain⟨W1,hW1⟩:∃W1,(w.alloc (.cells #[.int .i64 (q:Int),.int .i64 n] 146)).alloc (.cells #[.int .i64 0,.int .i64 0,.bool false] 67)=W1:=⟨_,rfl⟩;have G1:=gD2 hW1
 have X1:=x2a hW1
 have Y1:=x2b hW1
 have HW1:Hid (_=W1):=hW1;clear hW1
 go_enter Tryz.func122,Tryz.ntmps122
 go_upto_region 1 with fail;rw[HW1.out];obtain⟨b,HB⟩:∃b,Hid (w.heap.size=b):=⟨_,rfl⟩;rw[HB.out]at X1 Y1⊢;obtain⟨I,HI⟩:∃I:World->Prop,Hid (∀u,I u↔Grew W1 u):=⟨fun u=>Grew W1 u,fun _=>Iff.rfl⟩
 have hI0:I W1.drew:=(HI.out _).2 (gW _)
 have ht:∀y:HoldI I,y.world.cell? ⟨p,10,none⟩=some (.slice (some ⟨g,0,none⟩) xn c):=fun y=>by rw[<-HVS.out];exact(HBX.out.box.grew (G1.out.trans ((HI.out _).1 y.holds))).c 10 rfl
 have hx0:=X1.out.h HI.out 0 rfl
 have hx1:=X1.out.h HI.out 1 rfl
 have hce:∀y:HoldI I,Sp10 y.world ⟨g,q*10,none⟩ x:=fun y=>HCE.out _ (G1.out.trans ((HI.out _).1 y.holds))
 have h2:=fun y=>(hce y).2.2.1
 have h3:=fun y=>(hce y).2.2.2.1
 have h4:=fun y=>(hce y).2.2.2.2.1
 have h5:=fun y=>(hce y).2.2.2.2.2.1
 have h6:=fun y=>(hce y).2.2.2.2.2.2.1
 have h7:=fun y=>(hce y).2.2.2.2.2.2.2.1
 have h8:=fun y=>(hce y).2.2.2.2.2.2.2.2.1
 have h9:=fun y=>(hce y).2.2.2.2.2.2.2.2.2
 dsimp only at h2 h3 h4 h5 h6 h7 h8 h9;clear hce;have hne:Nonempty (HoldI I):=⟨⟨_,hI0⟩⟩;refine wp_lax_tailD (I:=I) 13 [(12,fun v=>v=enV E)] (fun u=>True) hI0 trivial mixed (by kernel_rfl) rfl rfl (by decide) ?hS (by kernel_rfl) ?_
 case hS=>
  intro x hx;simp only[mC,nM,or_false]at hx;subst hx;exact⟨_,rfl⟩
 simp only[List.take,List.drop];iterate 1 (refine laxD_quiet rfl rfl rfl (fun K hK=>?_);go_big_quiet_op;refine hK _ ?_;clear hK K)
 refine laxD_nilc (.tmp 5) ⟨p,0,none⟩ rfl rfl rfl rfl ?_;simp only[Act.put,sB,sS,sZ];iterate 10 (refine laxD_quiet rfl rfl rfl (fun K hK=>?_);go_big_quiet_op;refine hK _ ?_;clear hK K)
 refine laxD_spec rfl rfl (fun _ u=>True) (fun w' hI' hF'=>?_) (fun v1 hv=>?_)
 ·refine Does.call [.agg #[.slice x.t0.a x.t0.n x.t0.c,.slice x.t1.a x.t1.n x.t1.c,.slice x.t2.a x.t2.n x.t2.c,.slice x.t3.a x.t3.n x.t3.c,.slice x.t4.a x.t4.n x.t4.c,.slice x.t5.a x.t5.n x.t5.c,.slice x.t6.a x.t6.n x.t6.c,.slice x.t7.a x.t7.n x.t7.c],.int .i64 n] rfl Tryz.func65 rfl rfl rfl ?_;refine(HG.out w' (G1.out.trans ((HI.out _).1 hI'))).mono ?_;rintro e w'' ⟨rfl,g2⟩;exact⟨_,rfl,(HI.out _).2 (((HI.out _).1 hI').trans g2),rfl,trivial⟩
 cases hv;simp only[Act.put,sB,sS,sZ];refine laxD_nil fun W8 hI8 hF8=>?_
 have G8:Hid (Grew W1 W8):=(HI.out _).1 hI8;have Y8:=dD (Y1.out.grew G8.out);clear hI8 hF8 hI0 ht hx0 hx1 h2 h3 h4 h5 h6 h7 h8 h9 hne HI;unfold enV;refine wp_storeAll rfl 67 (.tmp 4) (.tmp 17) rfl (b+1) rfl [.int .i64 E.kind,.int .i64 E.n,.bool E.wr] rfl Y8.out rfl (by kernel_rfl) (by simp[Value.oneCell']) ?_
 intro W9 bx9 gr9 _;have G9:Hid (Grew w W9):=show Grew _ _ from grew_grown (G1.out.trans G8.out) gr9 (by have:=HB.out;omega)
 have B9:Hid (Box W9 (b+1) [.int .i64 E.kind,.int .i64 E.n,.bool E.wr]):=bx9;clear bx9 gr9;go_wp2;refine bodyPost_ret (ret_cell rfl _ rfl B9.out Tryz.underlying67 rfl (by kernel_rfl)) rfl ⟨rfl,G9.out⟩
def Less (L L':List Int):Prop:=L=[]->L'=[]
theorem Less.refl (L:List Int):Less L L:=fun h=>h
theorem Less.trans {A B C:List Int} (h:Less A B) (k:Less B C):Less A C:=fun e=>k (h e)
theorem Tryz.sizeByte:(Tryz.prog.info? 5).map (·.size)=some 1:=by kernel_rfl
theorem run_rest {w:World} {ad:Addr} {n c:Nat}:(Instr.sliceAt 24 (.slice (some ad) (n+1) c) (some (.int .i64 1)) none none).run Tryz.prog w= .ok (.slice (some (if c=1 then ad else ad.add 1)) n (c - 1)) w:=by
 have hs:(Go.sizeOf 5).run Tryz.prog w= .ok 1 w:=by
  obtain⟨i0,h1,h2⟩:∃i0,Tryz.prog.info? 5=some i0/\i0.size=1:=by
   have:=Tryz.sizeByte
   cases hq:Tryz.prog.info? 5 with
   | none=>rw[hq]at this;cases this
   | some i0=>rw[hq]at this;exact⟨i0,rfl,by simpa using this⟩
  simp[Go.sizeOf,typeInfo,h1,h2]
 have h1:(0:Int)<=1/\(1:Int)<=((n+1:Nat):Int):=by omega
 simp only[Instr.sliceAt,Instr.slice,Instr.sliceBounds,Instr.sliceBound,asIntOf,Sem.run_bind,Sem.run_pure,rA,run_underlying Tryz.underlying24];rw[if_pos h1];simp only[Sem.run_pure,rA,hs]
 by_cases hc:c=1
 ·simp[hc]
 simp[hc]
theorem pick_any {w0:World} {hi:Nat} {b:Nat} {vl:Sli} {L:List Int} {V:MaV} {m:Ma} {vt:Sli} {T:List (Nat->En)} {w:World} (n:Int) (h:Mk w0 hi w b vl L V m vt T):
  Calls Tryz.prog 27 #[.pointer (some ⟨b,0,none⟩),.int .i64 n] w fun e w'=>∃vl' L' x,e= .returned (.int .i64 x)/\Mk w0 hi w' b vl' L' V m vt T/\w.grownBy w' (some b)/\w'.heap.size=w.heap.size/\0<=x/\(x=0\/x<n)/\(L=[]->x=0)/\Less L L':=by
 have HM:Hid (Mk w0 hi w b vl L V m vt T):=h;have hbx:=h.box.box;have x0:=hbx.c 0 rfl;have xf:=hbx.f;have hln:=h.lr.n;clear hbx;obtain⟨⟨la,ln,lc⟩,hvl⟩:∃s:Sli,vl=s:=⟨_,rfl⟩;subst hvl;dsimp only at x0 hln HM;clear h
 by_cases h0:ln=0
 ·subst h0;clear hln
  go_enter Tryz.func27,Tryz.ntmps27
  go_wp2;go_ret;exact⟨_,L,0,rfl,HM.out,World.grownBy.rfl' _ _,rfl,Int.le_refl _,.inl rfl,fun _=>rfl,Less.refl L⟩
 have h0e:((ln:Int) == 0)=false:=by simp;omega
 have h0f:(ln == 0)=false:=by simp[h0]
 by_cases h1:n<1
 ·clear h0 hln
  go_enter Tryz.func27,Tryz.ntmps27
  go_wp2;go_ret;exact⟨_,L,0,rfl,HM.out,World.grownBy.rfl' _ _,rfl,Int.le_refl _,.inl rfl,fun _=>rfl,Less.refl L⟩
 obtain⟨z,L',rfl⟩:∃z L',L=z :: L':=by
  cases L with
  | nil=>simp at hln;omega
  | cons z L'=>exact⟨z,L',rfl⟩
 have hz:=HM.out.lb z (by simp)
 obtain⟨hz0,hz1⟩:=hz;obtain⟨ad,rfl,hl⟩:=HM.out.lr.rowsAt 0 z rfl;have d0:w.cell? ad=some (.int .u8 z):=by
  have:=hl w HM.out.gr 0 _ rfl;rw[add_add']at this
  simpa [byE,Addr.add]using this
 obtain⟨k,rfl⟩:∃k,ln=k+1:=⟨ln - 1,by omega⟩
 have hcap:k+1<=lc:=HM.out.lc;have hrun:=run_rest (w:=w) (ad:=ad) (n:=k) (c:=lc);clear h0 hl;have hlt:(0:Int)< ((k+1:Nat):Int):=by omega
 obtain⟨ad',had⟩:∃ad',(if lc=1 then ad else ad.add 1)=ad':=⟨_,rfl⟩;rw[had]at hrun;have HL':Hid (RowAt byE w0 (.slice (some ad') k (lc - 1)) L'):=show RowAt _ _ _ _ by
  obtain⟨⟨xa,xc,q1,q2,q3⟩,q4⟩:=HM.out.lr;dsimp only at q1;cases q1;have q5:=q3 ad rfl;refine⟨⟨some ad',lc - 1,rfl,fun h=>(by cases h),fun y hy=>?_⟩,?_⟩
  ·cases hy
   by_cases hc:lc=1
   ·have:L'=[]:=by
     have:L'.length=0:=by omega
     exact eN this
    subst this;intro j u hj
    simp at hj
   rw[if_neg hc]at had;subst had;intro j u hj;rw[add_add',Nat.add_comm 1 j];exact q5 (j+1) u (by simpa [byE]using hj)
  have:byE.bytes=1:=rfl;rw[this]at q4⊢
  simp at q4⊢
  omega
 have HBX:Hid (BoxT (w.setCell ⟨b,0,none⟩ (.slice (some ad') k (lc - 1))) b 87 [.slice (some ad') k (lc - 1),.slice V.f.a V.f.n V.f.c,.int .i64 m.hand,.slice V.s.a V.s.n V.s.c,.slice V.sb.a V.sb.n V.sb.c,.slice V.sq.a V.sq.n V.sq.c,.slice V.db.a V.db.n V.db.c,.slice V.dq.a V.dq.n V.dq.c,.slice V.fl.a V.fl.n V.fl.c,.int .i64 m.cnt,.slice V.ca.a V.ca.n V.ca.c,.slice V.sp.a V.sp.n V.sp.c,.slice vt.a vt.n vt.c]):=HM.out.box.set 0 _;have HGR:Hid (w.grownBy (w.setCell ⟨b,0,none⟩ (.slice (some ad') k (lc - 1))) (some b)):=⟨rfl,rfl,rfl,by simp[World.setCell],fun j _ hj=>Below.heap_setCell _ _ _ _ (fun e=>hj (by rw[e]))⟩
 have HSZ:Hid ((w.setCell ⟨b,0,none⟩ (.slice (some ad') k (lc - 1))).heap.size=w.heap.size):=show _=_ by simp[World.setCell]
 have HMK:Hid (Mk w0 hi (w.setCell ⟨b,0,none⟩ (.slice (some ad') k (lc - 1))) b ⟨some ad',k,lc - 1⟩ L' V m vt T):=show Mk _ _ _ _ _ _ _ _ _ _ from
  ⟨grew_grown HM.out.gr HGR.out HM.out.hb,HM.out.hb,HBX.out,HL'.out,(show k<=lc - 1 by omega),fun y hy=>HM.out.lb y (by simp[hy]),HM.out.rows.var HGR.out HM.out.box (Nat.le_of_eq HSZ.out.symm) (.inl rfl)⟩
 have HX:Hid (0<=z % n/\z % n<n):=show _/\_ from⟨Int.emod_nonneg _ (by omega),Int.emod_lt_of_pos _ (by omega)⟩
 clear hln hcap had
 go_enter Tryz.func27,Tryz.ntmps27
 go_wp2;go_ret;exact⟨_,L',z % n,rfl,HMK.out,HGR.out,HSZ.out,HX.out.1,.inr HX.out.2,fun h=>(by cases h)⟩
theorem pgc_set (q:List Int) (i:Nat) (z:Int):pgc (q.set i z)=(pgc q).set i (.int .u8 z):=by
 unfold pgc;rw[List.map_set]
theorem pgc_at {q:List Int} {i:Nat} {z:Int} (h:q[i]? =some z):(pgc q)[i]? =some (.int .u8 z):=by
 unfold pgc;rw[List.getElem?_map,h];rfl
theorem Tryz.sizePg:(Tryz.prog.info? 50).map (·.size)=some 8:=by kernel_rfl
theorem page_any {w0:World} {hi:Nat} {b:Nat} {vl:Sli} {L:List Int} {V:MaV} {m:Ma} {vt:Sli} {T:List (Nat->En)} {w:World} (h:Mk w0 hi w b vl L V m vt T):
  Calls Tryz.prog 30 #[.pointer (some ⟨b,0,none⟩)] w fun e w'=>∃vl' L' q,e= .returned (.agg (pgc q).toArray)/\q.length=8/\Mk w0 hi w' b vl' L' V m vt T/\w.grownBy w' (some b)/\Less L L':=by
 have HM:Hid (Mk w0 hi w b vl L V m vt T):=h;obtain⟨W0,hW0⟩:∃W0,(w.alloc (.cells #[.int .u8 0,.int .u8 0,.int .u8 0,.int .u8 0,.int .u8 0,.int .u8 0,.int .u8 0,.int .u8 0] 50)).alloc (.cells #[.int .u8 0,.int .u8 0,.int .u8 0,.int .u8 0,.int .u8 0,.int .u8 0,.int .u8 0,.int .u8 0] 50)=W0:=⟨_,rfl⟩;have HG0:=gD2 hW0
 have X0:Hid (BoxT W0 w.heap.size 50 (pgc zero8)):=show BoxT _ _ _ _ by rw[<-hW0];exact(BoxT.top _ (pgc zero8) _ rfl).grew (grew_alloc _ _)
 have Y0:Hid (BoxT W0 (w.heap.size+1) 50 (pgc zero8)):=show BoxT _ _ _ _ by rw[<-hW0];exact BoxT.top _ (pgc zero8) _ (by simp)
 have HB:Hid (b<w.heap.size):=show _<_ from h.box.box.lt
 have HH:Hid (hi<=w.heap.size):=show _<=_ from h.rows.hw
 have HW0:Hid (_=W0):=hW0;clear hW0 h
 go_enter Tryz.func30,Tryz.ntmps30
 go_upto_region 2 with fail;rw[HW0.out];go_wp2
 go_loopg [5] 8 (fun gg s5 wr=>∃(kk:Nat) (vl':Sli) (L' q:List Int),kk<=8/\8 - kk<=gg/\s5= .int .i64 kk/\Hid (w.grownBy wr (some b))/\Hid (Mk w0 hi wr b vl' L' V m vt T)/\Hid (BoxT wr w.heap.size 50 (pgc zero8))/\Hid (BoxT wr (w.heap.size+1) 50 (pgc q))/\Hid (q.length=8)/\Hid (Less L L'))
 case atStart=>exact⟨0,vl,L,zero8,nZ _,by omega,rfl,grew_by HG0.out _,HM.out.grew HG0.out,X0.out,Y0.out,(show zero8.length=8 from rfl),Less.refl L⟩
 obtain⟨kk,vl',L',q,hkk,hgg,rfl,BW,MW,XW,YW,QL,LL⟩:=hrel;clear X0 Y0
 by_cases hlt:kk<8
 ·have hltz:(kk:Int)<8:=by omega
  have hpk:=pick_any 4 MW.out;go_wp2_with fail;refine hpk.mono ?_;clear hpk;rintro e W1 ⟨vl2,L2,x,rfl,mk1,gr1,sz1,x0,x1,xn,ll⟩;have hx4:x<4:=by rcases x1 with h | h <;> omega
  have M1:Hid (Mk w0 hi W1 b vl2 L2 V m vt T):=mk1;have B1:Hid (w.grownBy W1 (some b)):=grown_trans BW.out gr1;have X1:Hid (BoxT W1 w.heap.size 50 (pgc zero8)):=XW.out.beside gr1 (fun g e=>by cases e;have:=HB.out;omega)
  have Y1:Hid (BoxT W1 (w.heap.size+1) 50 (pgc q)):=YW.out.beside gr1 (fun g e=>by cases e;have:=HB.out;omega)
  have LL1:=dD (LL.out.trans ll);clear mk1 gr1 sz1 x1 xn ll;obtain⟨z,hz⟩:∃z,q[kk]? =some z:=⟨_,gE (by rw[QL.out];exact hlt)⟩
  have y0:=Y1.out.box.c kk (pgc_at hz);have yf:=Y1.out.box.f;have GS:Hid (W1.grownBy (W1.setCell ⟨w.heap.size+1,kk,none⟩ (.int .u8 x)) (some (w.heap.size+1))):=⟨rfl,rfl,rfl,by simp[World.setCell],fun j _ hj=>Below.heap_setCell _ _ _ _ (fun e=>hj (by rw[e]))⟩
  have Y2:Hid (BoxT (W1.setCell ⟨w.heap.size+1,kk,none⟩ (.int .u8 x)) (w.heap.size+1) 50 (pgc (q.set kk x))):=show BoxT _ _ _ _ by rw[pgc_set];exact Y1.out.set kk _
  have X2:Hid (BoxT (W1.setCell ⟨w.heap.size+1,kk,none⟩ (.int .u8 x)) w.heap.size 50 (pgc zero8)):=X1.out.beside GS.out (fun g e=>by cases e;omega)
  have M2:Hid (Mk w0 hi (W1.setCell ⟨w.heap.size+1,kk,none⟩ (.int .u8 x)) b vl2 L2 V m vt T):=show Mk _ _ _ _ _ _ _ _ _ _ from
   ⟨grew_grown M1.out.gr GS.out (by have:=bS HM.out.gr;omega),M1.out.hb,M1.out.box.beside GS.out (fun g e=>by cases e;have:=HB.out;omega),M1.out.lr,M1.out.lc,M1.out.lb,M1.out.rows.var GS.out Y1.out (by simp[World.setCell]) (.inr ⟨rfl,by have:=HH.out;omega⟩)⟩
  have B2:Hid (w.grownBy (W1.setCell ⟨w.heap.size+1,kk,none⟩ (.int .u8 x)) (some b)):=show World.grownBy _ _ _ from⟨B1.out.os,B1.out.tape,B1.out.output,by simp[World.setCell];exact B1.out.size,fun j hj hn=>by
   rw[Below.heap_setCell _ _ _ _ (by simp;omega)]
   exact B1.out.block j hj hn⟩
  clear hz;go_wp2
  go_roundg (8 -(kk+1))
  case measure=>omega
  exact⟨kk+1,vl2,L2,q.set kk x,by omega,by omega,by go_num,B2.out,M2.out,X2.out,Y2.out,(show _=_ by rw[List.length_set];exact QL.out),LL1.out⟩
 have hltz:¬(kk:Int)<8:=by omega
 have:kk=8:=by omega
 subst this;have HP:Hid ((pgc q).length=8):=show _=_ by rw[pgc_len];exact QL.out
 go_wp2_with (first | (refine wp_loadAll rfl 50 (.tmp 3) rfl (w.heap.size+1) rfl YW.out.box Tryz.underlying50 rfl (by rw[HP.out];exact Tryz.sizePg) ?_) | (refine wp_storeAll rfl 50 (.tmp 2) (.tmp 14) rfl w.heap.size rfl (pgc q) rfl XW.out.box (by rw[HP.out];rfl) Tryz.sizePg (pgc_one q) ?_))
 intro W5 hb5 hg5 sz5;have M5:Hid (Mk w0 hi W5 b vl' L' V m vt T):=show Mk _ _ _ _ _ _ _ _ _ _ from
  ⟨grew_grown MW.out.gr hg5 (bS HM.out.gr),MW.out.hb,MW.out.box.beside hg5 (fun g e=>by cases e;have:=HB.out;omega),MW.out.lr,MW.out.lc,MW.out.lb,MW.out.rows.var hg5 XW.out (Nat.le_of_eq sz5.symm) (.inr ⟨rfl,HH.out⟩)⟩
 have B5:Hid (w.grownBy W5 (some b)):=show World.grownBy _ _ _ from⟨hg5.os.trans BW.out.os,hg5.tape.trans BW.out.tape,hg5.output.trans BW.out.output,nT BW.out.size hg5.size,fun j hj hn=>by
  rw[hg5.block j (Nat.lt_of_lt_of_le hj BW.out.size) (fun e=>by cases e;omega)]
  exact BW.out.block j hj hn⟩
 go_wp2;refine bodyPost_ret (ret_cell rfl _ rfl hb5 Tryz.underlying50 rfl (by rw[HP.out];exact Tryz.sizePg)) rfl ⟨vl',L',q,rfl,QL.out,M5.out,B5.out,LL.out⟩
def Loc (hi p:Nat) (t:TypeId):Prop:=t≠87/\t≠59/\t≠3/\t≠91/\t≠71/\t≠83/\t≠65/\t≠93/\(t=50->hi<=p)
def Keeps (hi:Nat) (w w':World):Prop:=(∀p t cs,BoxT w p t cs->Loc hi p t->BoxT w' p t cs)/\w.heap.size<=w'.heap.size
theorem Keeps.trans {hi:Nat} {a b c:World} (h:Keeps hi a b) (k:Keeps hi b c):Keeps hi a c:=⟨fun p t cs h1 h2=>k.1 p t cs (h.1 p t cs h1 h2) h2,nT h.2 k.2⟩
theorem Keeps.grew {hi:Nat} {a b:World} (h:Grew a b):Keeps hi a b:=⟨fun _ _ _ h1 _=>h1.grew h,bS h⟩
theorem Keeps.kind {hi g:Nat} {w w':World} {cs:Array Value} {t:TypeId} (hg:w.grownBy w' (some g)) (ho:w.heap[g]? =some (.cells cs t (0,0))) (hn:∀p,Loc hi p t->p≠g):Keeps hi w w':=⟨fun p u ds h1 h2=>h1.beside hg (fun k e=>by
 cases e;intro he;subst he;have h3:w.heap[p]? =some (.cells ds.toArray u (0,0)):=h1;rw[ho]at h3;simp only[Option.some.injEq,Obj.cells.injEq]at h3;obtain⟨_,rfl,_⟩:=h3;exact hn p h2 rfl),hg.size⟩
theorem Mk.keeps {w0 w w':World} {hi b:Nat} {vl:Sli} {L:List Int} {V:MaV} {m:Ma} {vt:Sli} {T:List (Nat->En)} (h:Mk w0 hi w b vl L V m vt T) (hg:w.grownBy w' (some b)):Keeps hi w w':=Keeps.kind hg h.box (fun _ hl=>absurd rfl hl.1)
def MkE (w0:World) (hi b:Nat) (w:World) (L:List Int) (V:MaV) (m:Ma) (vt:Sli) (T:List (Nat->En)) (w':World):Prop:=∃vl' L',Mk w0 hi w' b vl' L' V m vt T/\Less L L'/\Keeps hi w w'
theorem emod_in {a n:Nat} (h:0<n):((a:Int) %(n:Int))=((a % n:Nat):Int)/\a % n<n:=⟨by omega,Nat.mod_lt _ h⟩
theorem frame_any {w0:World} {hi:Nat} {b:Nat} {vl:Sli} {L:List Int} {V:MaV} {m:Ma} {vt:Sli} {T:List (Nat->En)} {w:World} (f:Fr) (h:Mk w0 hi w b vl L V m vt T):
  Calls Tryz.prog 128 #[.pointer (some ⟨b,0,none⟩),.agg (frv f).toArray] w fun e w'=>(e= .returned (.int .i64 (-1))/\MkE w0 hi b w L V m vt T w')\/∃(j:Nat) (q:Fr),e= .returned (.int .i64 (j:Int))/\m.fs[j]? =some q/\q.r=0/\MkE w0 hi b w L V { m with fs:=m.fs.set j f } vt T w':=by
 have HM:Hid (Mk w0 hi w b vl L V m vt T):=h;obtain⟨W0,hW0⟩:∃W0,w.alloc (.cells #[.int .u8 f.p.b0,.int .u8 f.p.b1,.int .u8 f.p.b2,.int .u8 f.p.b3,.int .u8 f.p.b4,.int .u8 f.p.b5,.int .u8 f.p.b6,.int .u8 f.p.b7,.int .i64 f.r,.bool f.u,.bool f.d,.int .i64 f.f,.int .i64 f.x] 59)=W0:=⟨_,rfl⟩;have HG0:=gA hW0
 have X0:Hid (BoxT W0 w.heap.size 59 (frv f)):=show BoxT _ _ _ _ by rw[<-hW0];exact BoxT.top _ (frv f) _ rfl
 have M0:Hid (Mk w0 hi W0 b vl L V m vt T):=h.grew HG0.out;have HNF:Hid (V.f.n=m.fs.length):=h.rows.fs.n;have hbig:V.f.n<=140737488355328:=by
  have h1:=h.rows.fs.2;have h40:frmE.bytes=40:=rfl;rw[h40]at h1;have:=h.rows.fs.n;omega
 have HB:Hid (b<w.heap.size):=show _<_ from h.box.box.lt
 have HFG:Hid (∀g,(Value.slice V.f.a V.f.n V.f.c).ownBlock=some g->g<w.heap.size):=show∀g,_ from fun g hg=>(h.rows.fs.lt g hg).2
 have HW0:Hid (_=W0):=hW0;clear hW0 h
 go_enter Tryz.func128,Tryz.ntmps128
 go_upto_region 1 with fail;have hw:w.alloc (.cells (frv f).toArray 59)=W0:=HW0.out;try rw[hw]
 try rw[HW0.out]
 clear hw;have x1:=M0.out.box.box.c 1 rfl;go_upto_region 2 with fail;clear x1;obtain⟨n,HN⟩:∃n,Hid (V.f.n=n):=⟨_,rfl⟩;rw[HN.out]at hbig⊢;have hpk:=pick_any (n:Int) M0.out;go_wp2_with fail;refine hpk.mono ?_;clear hpk;rintro e W1 ⟨vl1,L1,x,rfl,mk1,gr1,sz1,x0,x1,xn,ll⟩;obtain⟨fr,rfl⟩:∃fr:Nat,x=(fr:Int):=⟨x.toNat,by omega⟩
 have hfr:fr<=n:=by rcases x1 with h | h <;> omega
 have M1:Hid (Mk w0 hi W1 b vl1 L1 V m vt T):=mk1;have K1:Hid (Keeps hi w W1):=(Keeps.grew HG0.out).trans (M0.out.keeps gr1);have X1:Hid (BoxT W1 w.heap.size 59 (frv f)):=X0.out.beside gr1 (fun g e=>by cases e;have:=HB.out;omega)
 have LL1:Hid (Less L L1):=ll;clear mk1 gr1 sz1 x1 xn ll x0 M0 X0;go_wp2
 go_loopg [20] n (fun gg s20 wr=>∃i:Nat,i<=n/\n - i<=gg/\s20= .int .i64 i/\wr=W1)
 case atStart=>exact⟨0,nZ _,by omega,rfl,rfl⟩
 obtain⟨i,hi',hgg,rfl,rfl⟩:=hrel
 by_cases hlt:i<n
 ·have hltz:(i:Int)< (n:Int):=by omega
  have hn0:¬(n:Int)=0:=by omega
  have hn1:((n:Int) == 0)=false:=by simp;omega
  obtain⟨j,hj⟩:∃j:Nat,(fr+i) % n=j:=⟨_,rfl⟩;have hjm:((fr:Int)+(i:Int)) %(n:Int)=(j:Int):=by
   rw[<-hj];have:=(emod_in (a:=fr+i) (n:=n) (by omega)).1
   rw[<-this];rfl
  have hjn:j<n:=by rw[<-hj];exact Nat.mod_lt _ (by omega)
  have hjz:(j:Int)< (n:Int):=by omega
  clear hj;obtain⟨q,HQ⟩:∃q,Hid (m.fs[j]? =some q):=⟨_,gE (by rw[<-HNF.out,HN.out];exact hjn)⟩
  obtain⟨g,c',heq⟩:=M1.out.rows.fs.formS (by rw[<-HNF.out,HN.out];omega)
  have hfl:m.fs.length=n:=by rw[<-HNF.out,HN.out]
  rw[hfl]at heq;have HEQ:Hid (Value.slice V.f.a V.f.n V.f.c= .slice (some ⟨g,0,none⟩) n c'):=heq;have x1:=M1.out.box.box.c 1 rfl;rw[HEQ.out]at x1;have hrw:=M1.out.rows.fs;rw[HEQ.out]at hrw;have HRW:Hid (OwnRow frmE w0.heap.size wr (.slice (some ⟨g,0,none⟩) n c') m.fs):=hrw;have HGL:Hid (g<w.heap.size):=HFG.out g (by rw[HEQ.out];rfl)
  have hce:=hrw.one HQ.out;have d8:wr.cell? ⟨g,j*13+8,none⟩=some (.int .i64 q.r):=by
   have:=hce 8 _ rfl;rw[add_add',Addr.add_lit,zA]at this;exact this
  clear hce hrw heq hfl
  by_cases hr:q.r=0
  ·have hre:(q.r == 0)=true:=by simp[hr]
   have HR0:Hid (q.r=0):=hr;clear hr;go_upto_region 8 with fail;clear d8;obtain⟨I,hI⟩:∃I:World->Prop,I=fun u=>Grew wr u:=⟨_,rfl⟩
   have HI:Hid (∀u,I u↔Grew wr u):=show∀u,_ from fun u=>by rw[hI]
   clear hI;have hI0:I wr.drew:=(HI.out _).2 (gW _)
   have hx1:∀y:HoldI I,y.world.cell? ⟨b,1,none⟩=some (.slice (some ⟨g,0,none⟩) n c'):=fun y=>by rw[<-HEQ.out];exact(M1.out.box.box.grew ((HI.out _).1 y.holds)).c 1 rfl
   have hf0:∀y:HoldI I,y.world.cell? ⟨w.heap.size,0,none⟩=some (.int .u8 f.p.b0):=fun y=>(X1.out.box.grew ((HI.out _).1 y.holds)).c 0 rfl
   have hf1:∀y:HoldI I,y.world.cell? ⟨w.heap.size,1,none⟩=some (.int .u8 f.p.b1):=fun y=>(X1.out.box.grew ((HI.out _).1 y.holds)).c 1 rfl
   have hf2:∀y:HoldI I,y.world.cell? ⟨w.heap.size,2,none⟩=some (.int .u8 f.p.b2):=fun y=>(X1.out.box.grew ((HI.out _).1 y.holds)).c 2 rfl
   have hf3:∀y:HoldI I,y.world.cell? ⟨w.heap.size,3,none⟩=some (.int .u8 f.p.b3):=fun y=>(X1.out.box.grew ((HI.out _).1 y.holds)).c 3 rfl
   have hf4:∀y:HoldI I,y.world.cell? ⟨w.heap.size,4,none⟩=some (.int .u8 f.p.b4):=fun y=>(X1.out.box.grew ((HI.out _).1 y.holds)).c 4 rfl
   have hf5:∀y:HoldI I,y.world.cell? ⟨w.heap.size,5,none⟩=some (.int .u8 f.p.b5):=fun y=>(X1.out.box.grew ((HI.out _).1 y.holds)).c 5 rfl
   have hf6:∀y:HoldI I,y.world.cell? ⟨w.heap.size,6,none⟩=some (.int .u8 f.p.b6):=fun y=>(X1.out.box.grew ((HI.out _).1 y.holds)).c 6 rfl
   have hf7:∀y:HoldI I,y.world.cell? ⟨w.heap.size,7,none⟩=some (.int .u8 f.p.b7):=fun y=>(X1.out.box.grew ((HI.out _).1 y.holds)).c 7 rfl
   have hf8:∀y:HoldI I,y.world.cell? ⟨w.heap.size,8,none⟩=some (.int .i64 f.r):=fun y=>(X1.out.box.grew ((HI.out _).1 y.holds)).c 8 rfl
   have hf9:∀y:HoldI I,y.world.cell? ⟨w.heap.size,9,none⟩=some (.bool f.u):=fun y=>(X1.out.box.grew ((HI.out _).1 y.holds)).c 9 rfl
   have hf10:∀y:HoldI I,y.world.cell? ⟨w.heap.size,10,none⟩=some (.bool f.d):=fun y=>(X1.out.box.grew ((HI.out _).1 y.holds)).c 10 rfl
   have hf11:∀y:HoldI I,y.world.cell? ⟨w.heap.size,11,none⟩=some (.int .i64 f.f):=fun y=>(X1.out.box.grew ((HI.out _).1 y.holds)).c 11 rfl
   have hf12:∀y:HoldI I,y.world.cell? ⟨w.heap.size,12,none⟩=some (.int .i64 f.x):=fun y=>(X1.out.box.grew ((HI.out _).1 y.holds)).c 12 rfl
   have hne:Nonempty (HoldI I):=⟨⟨_,hI0⟩⟩;refine wp_lax_tailC (I:=I) 9 [] hI0 mixed (by kernel_rfl) rfl rfl (by decide) (by simp) (by kernel_rfl) ?_
   simp only[List.take,List.drop];iterate 1 (refine laxC_quiet rfl rfl rfl (fun K hK=>?_);go_big_quiet_op;refine hK _ ?_;clear hK K)
   refine laxC_nilc (.tmp 39) ⟨b,0,none⟩ rfl rfl rfl rfl ?_;simp only[Act.put,sB,sS,sZ];iterate 7 (refine laxC_quiet rfl rfl rfl (fun K hK=>?_);go_big_quiet_op;refine hK _ ?_;clear hK K)
   refine laxC_nil fun W2 hI2 hF=>?_
   have hg2:=(HI.out _).1 hI2;have M2:=dD (M1.out.grew hg2);have R2:=dD (HRW.out.grew hg2);have K2:=dD (K1.out.trans (Keeps.grew hg2));clear hg2 hI2 hF hx1 hf0 hf1 hf2 hf3 hf4 hf5 hf6 hf7 hf8 hf9 hf10 hf11 hf12 hne hI0;refine wpList_store_elt (E:=frmE) rfl (.tmp 47) (.tmp 46) rfl w0.heap.size _ m.fs R2.out g j rfl f (by rw[<-HNF.out,HN.out];exact hjn) ⟨g,j*13,none⟩ rfl rfl (.agg (frv f).toArray) rfl rfl ?_
   intro W3 ow3 gr3 sz3;have M3:Hid (Mk w0 hi W3 b vl1 L1 V { m with fs:=m.fs.set j f } vt T):=show Mk _ _ _ _ _ _ _ _ _ _ by
    have hob:(Value.slice V.f.a V.f.n V.f.c).ownBlock=some g:=by rw[HEQ.out];rfl
    have h2:=M2.out;refine⟨grew_grown h2.gr gr3 (R2.out.lt g rfl).1,h2.hb,h2.box.beside gr3 (fun k e=>?_),h2.lr,h2.lc,h2.lb,h2.rows.setF hob gr3 sz3 (by rw[HEQ.out];exact ow3)⟩
    cases e;exact R2.out.ne h2.box (by decide) g rfl
   have K3:Hid (Keeps hi w W3):=show Keeps _ _ _ by
    obtain⟨cs,hcs⟩:=R2.out.obj (g:=g) rfl;exact K2.out.trans (Keeps.kind gr3 hcs (fun _ hl=>absurd rfl hl.2.1))
   clear ow3 gr3 sz3;go_wp2;go_ret;exact .inr ⟨j,q,rfl,HQ.out,HR0.out,vl1,L1,M3.out,LL1.out,K3.out⟩
  have hre:(q.r == 0)=false:=by simp[hr]
  clear hr;go_wp2
  go_roundg (n -(i+1))
  case measure=>omega
  exact⟨i+1,by omega,by omega,by go_num,rfl⟩
 have hltz:¬(i:Int)< (n:Int):=by omega
 go_wp2;go_ret;exact .inl ⟨rfl,vl1,L1,M1.out,LL1.out,K1.out⟩
theorem mem_set_len {ps:List (List Int)} {i:Nat} {l:List Int} (h:∀p∈ps,p.length=8) (hl:l.length=8):∀p∈ps.set i l,p.length=8:=fun p hp=>by
 rcases List.mem_or_eq_of_mem_set hp with h1 | h1
 ·exact h p h1
 rw[h1];exact hl
theorem wpList_store_page {w:World} {ops:Array Oper} {rest:List Oper} {o:Oper} {a:Act} {Q:Exit->Act->World->Prop} (hgd:o.guard=none) (p x:Operand) (ho:o.op= .store 50 p x)
  (base:Nat) (v:Value) (ps:List (List Int)) (hown:OwnPages base w v ps) (g i:Nat) (hg:v.ownBlock=some g) (hi:i<ps.length) (l:List Int) (hl:l.length=8)
  (ad:Addr) (hp:a.eval p= .pointer (some ad)) (had:ad=⟨g,i*8,none⟩) (hx:a.eval x= .agg (pgc l).toArray)
  (h:∀w',OwnPages base w' v (ps.set i l)->w.grownBy w' (some g)->w'.heap.size=w.heap.size->wpList Tryz.prog ops Q rest (a.put o.dst undef) w'):wpList Tryz.prog ops Q (o :: rest) a w:=by
 refine wpList_store_row hgd p x 50 ho 8 (by kernel_rfl) base v ps.length _ hown.1 g i hg hi (pgc l) (by rw[pgc_len,hl]) (pgc_one l) ad hp had hx fun w' h1 h2 h3=>?_
 rw[splice_set l (by rw[pgc_len,hl]) ps i (fun b hb=>by rw[pgc_len,hown.2.1 b hb]) hi]at h1
 refine h w' ⟨by rw[List.length_set];exact h1,mem_set_len hown.2.1 hl,by rw[List.length_set];exact hown.2.2⟩ h2 h3
def newErr (n:Int):Int:=if 0<=n/\n<=80 then 0 else 4
def newD (n:Int):List (List Int):=if 0<=n/\n<=80 then List.replicate n.toNat zero8 else []
theorem made_pages (n:Nat):(madeCells #[.int .u8 0,.int .u8 0,.int .u8 0,.int .u8 0,.int .u8 0,.int .u8 0,.int .u8 0,.int .u8 0] (n*8)).toList=(List.replicate n zero8).flatMap pgc:=by
 have hl:((List.replicate n zero8).flatMap pgc).length=n*8:=by rw[flatMap_len (k:=8) _ (fun a ha=>by rw[List.eq_of_mem_replicate ha];rfl)];simp
 apply List.ext_getElem?
 intro j
 rcases Nat.lt_or_ge j (n*8)with h | h
 ·have hj:j=j / 8*8+j % 8:=by omega
  have h8:j % 8<8:=Nat.mod_lt _ (by decide)
  have hq:j / 8<n:=by omega
  have hz:(pgc zero8)[j % 8]? =some (.int .u8 0):=by
   generalize j % 8=k at h8
   match k,h8 with
   | 0,_=>rfl
   | 1,_=>rfl
   | 2,_=>rfl
   | 3,_=>rfl
   | 4,_=>rfl
   | 5,_=>rfl
   | 6,_=>rfl
   | 7,_=>rfl
  have h1:=flatMap_elem (enc:=pgc) (k:=8) (List.replicate n zero8) (j / 8) zero8 (fun a ha=>by rw[List.eq_of_mem_replicate ha];rfl) (by simp[hq]) (j % 8) _ hz
  rw[<-hj]at h1;rw[h1];have:(#[Value.int .u8 0,.int .u8 0,.int .u8 0,.int .u8 0,.int .u8 0,.int .u8 0,.int .u8 0,.int .u8 0]:Array Value)[j % 8]! = .int .u8 0:=by
   generalize j % 8=k at h8
   match k,h8 with
   | 0,_=>rfl
   | 1,_=>rfl
   | 2,_=>rfl
   | 3,_=>rfl
   | 4,_=>rfl
   | 5,_=>rfl
   | 6,_=>rfl
   | 7,_=>rfl
  simp[madeCells,h]
  simpa using this
 rw[gN (by simp[madeCells];exact h),gN (by rw[hl];exact h)]
end
section
open Go.RowKit Go.Shelf
section
attribute [local go_sem] Oper.semAt_some
structure P9 where
 (i m b0 b1 b2 b3 b4 b5 b6 b7:Int)
end
section
attribute [local go_sem] Oper.semAt_some
theorem wrongAtL_zero {n : Nat} {qs : List (Int × List Int)} {m : Int} (h : wrongAtL n qs m = 0) : wrongL n qs = 0 /\ ∃ i : Nat, m = (i : Int) /\ i < n := by
  unfold wrongAtL at h
  by_cases h1 : wrongL n qs = 0
  · rw [if_pos h1] at h
    refine ⟨h1, ?_⟩
    cases hb : dkInB m n with
    | false => rw [hb] at h; simp at h
    | true =>
      unfold dkInB at hb
      simp at hb
      obtain ⟨i, hi⟩ := Int.eq_ofNat_of_zero_le hb.1
      exact ⟨i, hi, by omega⟩
  · rw [if_neg h1] at h; exact absurd h h1
end
end
section
open Go.RowKit
def writeB (ps : List (List Int)) (qs : List (Int × List Int)) : List (List Int) := if qs.length = 400 then ps.set (qs.headD (0, [])).1.toNat (qs.headD (0, [])).2 else ps
def writeDP (ps : List (List Int)) (qs : List (Int × List Int)) (m : Int) : List (List Int) := if wrongAtL ps.length qs m = 0 then writeB ps qs else []
theorem al1:newErr 3=0:=by decide
theorem al2:newD 3=[zero8,zero8,zero8]:=by decide
theorem al3:wrongAtL [zero8,zero8,zero8].length [] 1=0:=by decide
theorem al4:writeDP [zero8,zero8,zero8] [] 1=[zero8,zero8,zero8]:=by decide
def pickQ:Option (Int × List Int)->List Int->List Int
 | some q,_=>q.2
 | none,d=>d
theorem readL_of {ps:List (List Int)} {qs:List (Int × List Int)} {m:Int} (h:wrongAtL ps.length qs m=0):readL ps qs m=pickQ (qs.reverse.find? (fun q=>q.1 == m)) (ps.getD m.toNat zero8):=by
 unfold readL;rw[if_pos h]
 cases qs.reverse.find? (fun q=>q.1 == m) <;> rfl
theorem refWrong_any (a:Option Addr) (n c:Nat) (qv:Value) (qs:List (Int × List Int)) (w:World) (hq:PutsAt w qv qs):
  Calls Tryz.prog 98 #[.agg #[.slice a n c,qv]] w fun e w'=>e= .returned (.int .i64 (wrongL n qs))/\Grew w w':=by
 have HL:Hid (wrongL n qs=if 80<n then 4 else if 400<qs.length then 4 else if qs.any (fun q=>!dkInB q.1 n)then 3 else 0):=rfl
 have hbig:qs.length<=9223372036854775807:=by have:=hq.2.2;omega
 obtain⟨a2,c2,rfl,hrow⟩:=hq.rows;have HRQ:Hid (PutRows w a2 qs):=hrow;clear hq hrow;obtain⟨kq,HN⟩:∃kq,Hid (qs.length=kq):=⟨_,rfl⟩;rw[HN.out]at HL hbig⊢
 by_cases h1:80<n
 ·have h1':(80:Int)< (n:Int):=by omega
  rw[if_pos h1]at HL
  go_enter Tryz.func98,Tryz.ntmps98
  go_wp2;go_ret;exact⟨by rw[HL.out];rfl,grew_alloc _ _⟩
 have h1':¬(80:Int)< (n:Int):=by omega
 rw[if_neg h1]at HL
 by_cases h2:400<kq
 ·have h2':(400:Int)< (kq:Int):=by omega
  rw[if_pos h2]at HL
  go_enter Tryz.func98,Tryz.ntmps98
  go_wp2;go_ret;exact⟨by rw[HL.out];rfl,grew_alloc _ _⟩
 have h2':¬(400:Int)< (kq:Int):=by omega
 rw[if_neg h2]at HL;obtain⟨W0,hW0⟩:∃W0,w.alloc (.cells #[.slice a n c,.slice a2 kq c2] 33)=W0:=⟨_,rfl⟩;have HG0:=gA hW0
 have X0:=xA hW0
 have HW0:Hid (_=W0):=hW0;clear hW0
 go_enter Tryz.func98,Tryz.ntmps98
 go_wp2;rw[HW0.out]
 go_loopg [4,18] kq (fun gg _ s18 wr=>∃kk:Nat,kk<=kq/\kq - kk<=gg/\s18= .int .i64 kk/\Hid (Grew W0 wr)/\Hid (∀(j:Nat) q,j<kk->qs[j]? =some q->dkInB q.1 n=true))
 case atStart=>exact⟨0,nZ _,by omega,rfl,Grew.refl _,fun j q hj=>absurd hj (nL _)⟩
 obtain⟨kk,hkk,hg,rfl,BW,A⟩:=hrel
 by_cases hlt:kk<kq
 ·have hltz:(kk:Int)< (kq:Int):=by omega
  obtain⟨q,HQ⟩:∃q,Hid (qs[kk]? =some q):=⟨_,gE (by rw[HN.out];exact hlt)⟩
  obtain⟨x,m,b0,b1,b2,b3,b4,b5,b6,b7,rfl,rfl,hl⟩:=HRQ.out kk q HQ.out;obtain⟨d0,d1,d2,d3,d4,d5,d6,d7,d8⟩:=hl wr (HG0.out.trans BW.out);have X:=X0.out.grew BW.out;have z0:=X.c 0 rfl;have zl:=X.lt;clear hl X
  by_cases hb:dkInB m n=true
  ·have hb':=hb;unfold dkInB at hb'
   simp at hb'
   have hm0:¬m<0:=by omega
   have hmn:¬(n:Int)<=m:=by omega
   have HB:Hid (dkInB m n=true):=hb;clear hb hb';go_wp2
   go_roundg (kq -(kk+1))
   case measure=>omega
   refine⟨kk+1,by omega,by omega,by go_num,BW.out.trans (grew_alloc _ _),(show Hid _ from fun j q' hj hq'=>?_)⟩
   by_cases e:j=kk
   ·subst e;rw[HQ.out]at hq';cases hq';exact HB.out
   exact A.out j q' (by omega) hq'
  have hany:(qs.any fun q=>!dkInB q.1 n)=true:=List.any_eq_true.2 ⟨_,mG HQ.out,by simpa using hb⟩
  rw[if_pos hany]at HL;unfold dkInB at hb
  simp at hb
  clear hany
  by_cases hm0:m<0
  ·clear hb;go_wp2;go_ret;exact⟨by rw[HL.out];rfl,(HG0.out.trans BW.out).trans (grew_alloc _ _)⟩
  have hmn:(n:Int)<=m:=hb (by omega)
  clear hb;go_wp2;go_ret;exact⟨by rw[HL.out];rfl,(HG0.out.trans BW.out).trans (grew_alloc _ _)⟩
 have hltz:¬(kk:Int)< (kq:Int):=by omega
 have:kk=kq:=by omega
 subst this;have hany:¬(qs.any fun q=>!dkInB q.1 n)=true:=fun h=>by
  obtain⟨q,hq,hb⟩:=List.any_eq_true.1 h;obtain⟨j,hj⟩:=List.getElem?_of_mem hq;have:=A.out j q (by rw[<-HN.out];exact(gS.1 hj).1) hj
  rw[this]at hb
  simp at hb
 rw[if_neg hany]at HL;clear hany;go_wp2;go_ret;exact⟨by rw[HL.out];rfl,HG0.out.trans BW.out⟩
theorem pick_snoc {r : List (Int × List Int)} {q : Int × List Int} {m : Int} {d : List Int} : pickQ ((r ++ [q]).reverse.find? (fun q => q.1 == m)) d = if q.1 == m then q.2 else pickQ (r.reverse.find? (fun q => q.1 == m)) d := by
  rw [List.reverse_append]
  simp only [List.reverse_cons, List.reverse_nil, List.nil_append, List.cons_append, List.find?_cons]
  cases hq : (q.1 == m) <;> simp [pickQ]
theorem refRead_err (d : Value) (ps : List (List Int)) (qs : List (Int × List Int)) (m : Int) (w : World) (hd : DiskAt w d ps qs) (hr0 : ¬ wrongAtL ps.length qs m = 0) :
    Calls Tryz.prog 110 #[d, .int .i64 m] w fun e w' => e = .returned (.tuple #[.agg (pgc zero8).toArray, .int .i64 (wrongAtL ps.length qs m)]) /\ Grew w w' := by
  obtain ⟨b, q, rfl, hb, hq⟩ := hd
  have HQ : Hid (PutsAt w q qs) := hq
  obtain ⟨ab, cb, rfl, _⟩ := hb.rows
  obtain ⟨aq, cq, rfl, _⟩ := hq.rows
  clear hb hq
  have HWA : Hid (wrongAtL ps.length qs m = if wrongL ps.length qs = 0 then (if dkInB m ps.length then 0 else 3) else wrongL ps.length qs) := rfl
  obtain ⟨W0, hW0⟩ : ∃ W0, (w.alloc (.cells #[.slice ab ps.length cb, .slice aq qs.length cq] 33)).alloc (.cells #[.int .u8 0, .int .u8 0, .int .u8 0, .int .u8 0, .int .u8 0, .int .u8 0, .int .u8 0, .int .u8 0] 50) = W0 := ⟨_, rfl⟩
  have HG0 : Hid (Grew w W0) := show Grew w W0 by rw [<- hW0]; exact (grew_alloc _ _).trans (grew_alloc _ _)
  have X0 : Hid (Box W0 w.heap.size [.slice ab ps.length cb, .slice aq qs.length cq]) := show Box _ _ _ by rw [<- hW0]; exact (Box.top w [.slice ab ps.length cb, .slice aq qs.length cq] _ rfl).alloc _
  have X1 : Hid (Box W0 (w.heap.size + 1) [.int .u8 0, .int .u8 0, .int .u8 0, .int .u8 0, .int .u8 0, .int .u8 0, .int .u8 0, .int .u8 0]) := show Box _ _ _ by rw [<- hW0]; exact Box.top _ [.int .u8 0, .int .u8 0, .int .u8 0, .int .u8 0, .int .u8 0, .int .u8 0, .int .u8 0, .int .u8 0] _ (by simp)
  have hcon := refWrong_any ab ps.length cb (.slice aq qs.length cq) qs W0 (HQ.out.grew HG0.out)
  obtain ⟨r, HR⟩ : ∃ r, Hid (wrongL ps.length qs = r) := ⟨_, rfl⟩
  rw [HR.out] at hcon HWA
  obtain ⟨nb, HNB⟩ : ∃ nb, Hid (ps.length = nb) := ⟨_, rfl⟩
  obtain ⟨kq, HNQ⟩ : ∃ kq, Hid (qs.length = kq) := ⟨_, rfl⟩
  rw [HNB.out] at HWA hr0
  rw [HNB.out, HNQ.out] at hcon hW0 X0 ⊢
  have HW0 : Hid (_ = W0) := hW0
  clear hW0
  have hcases : (Hid (wrongAtL nb qs m = r) /\ (r != 0) = true) \/ (Hid (wrongAtL nb qs m = 3) /\ (r != 0) = false /\ Hid (r = 0) /\ m < 0) \/ (Hid (wrongAtL nb qs m = 3) /\ (r != 0) = false /\ Hid (r = 0) /\ ¬ m < 0 /\ (nb : Int) <= m) := by
    by_cases h1 : r = 0
    · subst h1
      rw [if_pos rfl] at HWA
      have hnb : ¬ dkInB m nb = true := fun e => by rw [HWA.out, if_pos e] at hr0; exact hr0 rfl
      rw [if_neg hnb] at HWA
      unfold dkInB at hnb
      simp at hnb
      by_cases h2 : m < 0
      · exact .inr (.inl ⟨HWA, rfl, rfl, h2⟩)
      · exact .inr (.inr ⟨HWA, rfl, rfl, h2, hnb (by omega)⟩)
    · rw [if_neg h1] at HWA
      exact .inl ⟨HWA, by simpa using h1⟩
  clear HWA hr0
  rcases hcases with ⟨HE, h1⟩ | ⟨HE, h1, h0, h2⟩ | ⟨HE, h1, h0, h2, h3⟩
  · rw [HE.out]
    go_enter Tryz.func110, Tryz.ntmps110
    go_wp2_with (go_at_call 98; rw [HW0.out]; refine hcon.mono ?_; clear hcon; rintro e W1 ⟨rfl, g1⟩
                 have e0 := (X0.out.grew g1).c 0 rfl
                 have Y := X1.out.grew g1
                 have c0 := Y.c 0 rfl
                 have c1 := Y.c 1 rfl
                 have c2 := Y.c 2 rfl
                 have c3 := Y.c 3 rfl
                 have c4 := Y.c 4 rfl
                 have c5 := Y.c 5 rfl
                 have c6 := Y.c 6 rfl
                 have c7 := Y.c 7 rfl
                 have f0 := Y.f
                 clear Y)
    refine bodyPost_ret (v := .tuple #[.agg #[.int .u8 0, .int .u8 0, .int .u8 0, .int .u8 0, .int .u8 0, .int .u8 0, .int .u8 0, .int .u8 0], .int .i64 r]) (by simp [results, Tryz.results110, go_sem, *]) rfl ⟨rfl, ?_⟩
    have HG1 : Grew w W1 := HG0.out.trans g1
    iterate 8 (refine grew_set ?_ (by simp) _)
    exact HG1
  all_goals
    rw [HE.out]
    have hr := h0.out
    subst hr
    go_enter Tryz.func110, Tryz.ntmps110
    go_wp2_with (go_at_call 98; rw [HW0.out]; refine hcon.mono ?_; clear hcon; rintro e W1 ⟨rfl, g1⟩
                 have e0 := (X0.out.grew g1).c 0 rfl
                 have Y := X1.out.grew g1
                 have c0 := Y.c 0 rfl
                 have c1 := Y.c 1 rfl
                 have c2 := Y.c 2 rfl
                 have c3 := Y.c 3 rfl
                 have c4 := Y.c 4 rfl
                 have c5 := Y.c 5 rfl
                 have c6 := Y.c 6 rfl
                 have c7 := Y.c 7 rfl
                 have f0 := Y.f
                 clear Y)
    refine bodyPost_ret (v := .tuple #[.agg #[.int .u8 0, .int .u8 0, .int .u8 0, .int .u8 0, .int .u8 0, .int .u8 0, .int .u8 0, .int .u8 0], .int .i64 3]) (by simp [results, Tryz.results110, go_sem, *]) rfl ⟨rfl, ?_⟩
    have HG1 : Grew w W1 := HG0.out.trans g1
    iterate 8 (refine grew_set ?_ (by simp) _)
    exact HG1
theorem refRead_ok (d : Value) (ps : List (List Int)) (qs : List (Int × List Int)) (i : Nat) (w : World) (hd : DiskAt w d ps qs) (hr0 : wrongAtL ps.length qs (i : Int) = 0) :
    Calls Tryz.prog 110 #[d, .int .i64 (i : Int)] w fun e w' => e = .returned (.tuple #[.agg (pgc (readL ps qs (i : Int))).toArray, .int .i64 0]) /\ Grew w w' := by
  obtain ⟨hw0, i', hii, hib⟩ := wrongAtL_zero hr0
  have hi : i < ps.length := by omega
  have HRL := readL_of hr0
  simp only [Int.toNat_natCast] at HRL
  obtain ⟨b, q, rfl, hb, hq⟩ := hd
  have HQ : Hid (PutsAt w q qs) := hq
  have hbig : qs.length <= 9223372036854775807 := by have := hq.2.2; omega
  obtain ⟨ab, cb, rfl, hrb⟩ := hb.rows
  obtain ⟨aq, cq, rfl, hrq⟩ := hq.rows
  have HRQ : Hid (PutRows w aq qs) := hrq
  obtain ⟨pg, hpg⟩ : ∃ pg, ps[i]? = some pg := ⟨_, List.getElem?_eq_getElem hi⟩
  obtain ⟨xa, b0, b1, b2, b3, b4, b5, b6, b7, hxa, rfl, hrow⟩ := hrb i pg hpg
  subst hxa
  have HROW : Hid (∀ W, Grew w W -> PageCells W (xa.add (i * 8)) b0 b1 b2 b3 b4 b5 b6 b7) := hrow
  rw [show ps.getD i zero8 = [b0, b1, b2, b3, b4, b5, b6, b7] from by rw [List.getD_eq_getElem?_getD, hpg]; rfl] at HRL
  have HL : Hid (readL ps qs (i : Int) = pickQ (qs.reverse.find? (fun q => q.1 == (i : Int))) [b0, b1, b2, b3, b4, b5, b6, b7]) := HRL
  clear hb hq hrb hrq hrow hpg HRL
  obtain ⟨W0, hW0⟩ : ∃ W0, (w.alloc (.cells #[.slice (some xa) ps.length cb, .slice aq qs.length cq] 33)).alloc (.cells #[.int .u8 0, .int .u8 0, .int .u8 0, .int .u8 0, .int .u8 0, .int .u8 0, .int .u8 0, .int .u8 0] 50) = W0 := ⟨_, rfl⟩
  have HG0 : Hid (Grew w W0) := show Grew w W0 by rw [<- hW0]; exact (grew_alloc _ _).trans (grew_alloc _ _)
  have X0 : Hid (Box W0 w.heap.size [.slice (some xa) ps.length cb, .slice aq qs.length cq]) := show Box _ _ _ by rw [<- hW0]; exact (Box.top w [.slice (some xa) ps.length cb, .slice aq qs.length cq] _ rfl).alloc _
  have X1 : Hid (Box W0 (w.heap.size + 1) [.int .u8 0, .int .u8 0, .int .u8 0, .int .u8 0, .int .u8 0, .int .u8 0, .int .u8 0, .int .u8 0]) := show Box _ _ _ by rw [<- hW0]; exact Box.top _ [.int .u8 0, .int .u8 0, .int .u8 0, .int .u8 0, .int .u8 0, .int .u8 0, .int .u8 0, .int .u8 0] _ (by simp)
  have hcon := refWrong_any (some xa) ps.length cb (.slice aq qs.length cq) qs W0 (HQ.out.grew HG0.out)
  rw [hw0] at hcon
  obtain ⟨nb, HNB⟩ : ∃ nb, Hid (ps.length = nb) := ⟨_, rfl⟩
  obtain ⟨kq, HNQ⟩ : ∃ kq, Hid (qs.length = kq) := ⟨_, rfl⟩
  rw [HNB.out] at hi
  rw [HNQ.out] at hbig
  rw [HNB.out, HNQ.out] at hcon hW0 X0 ⊢
  have HW0 : Hid (_ = W0) := hW0
  have h2 : ¬ (i : Int) < 0 := by omega
  have h3 : ¬ (nb : Int) <= (i : Int) := by omega
  have h4 : (i : Int) < (nb : Int) := by omega
  clear hW0 hw0 hii hib hr0
  go_enter Tryz.func110, Tryz.ntmps110
  go_wp2_with (go_at_call 98; rw [HW0.out]; refine hcon.mono ?_; clear hcon; rintro e W1 ⟨rfl, g1⟩
               have G1 : Hid (Grew W0 W1) := g1
               have e0 := (X0.out.grew g1).c 0 rfl
               have e1 := (X0.out.grew g1).c 1 rfl
               have el := (X0.out.grew g1).lt
               obtain ⟨d0, d1, d2, d3, d4, d5, d6, d7⟩ := HROW.out W1 (HG0.out.trans g1))
  have HT : Hid (∀ (j : Nat) q, qs[j]? = some q -> qs.take (j + 1) = qs.take j ++ [q]) := show ∀ (j : Nat) q, _ from fun j q h => by
    obtain ⟨hlt, rfl⟩ := List.getElem?_eq_some_iff.1 h
    exact List.take_succ_eq_append_getElem hlt
  clear e0 e1 el d0 d1 d2 d3 d4 d5 d6 d7
  go_loopg [9, 34] kq (fun gg _ s34 wr => ∃ (kk : Nat) (c0 c1 c2 c3 c4 c5 c6 c7 : Int), kk <= kq /\ kq - kk <= gg /\ s34 = .int .i64 kk /\ Hid (Grew w wr) /\ Hid (Box wr W1.heap.size [.int .u8 c0, .int .u8 c1, .int .u8 c2, .int .u8 c3, .int .u8 c4, .int .u8 c5, .int .u8 c6, .int .u8 c7]) /\ Hid (Box wr (w.heap.size + 1) [.int .u8 0, .int .u8 0, .int .u8 0, .int .u8 0, .int .u8 0, .int .u8 0, .int .u8 0, .int .u8 0]) /\ Hid (pickQ ((qs.take kk).reverse.find? (fun q => q.1 == (i : Int))) [b0, b1, b2, b3, b4, b5, b6, b7] = [c0, c1, c2, c3, c4, c5, c6, c7]))
  case atStart => exact ⟨0, b0, b1, b2, b3, b4, b5, b6, b7, Nat.zero_le _, by omega, rfl, (HG0.out.trans G1.out).trans (grew_alloc _ _), Box.top W1 [.int .u8 b0, .int .u8 b1, .int .u8 b2, .int .u8 b3, .int .u8 b4, .int .u8 b5, .int .u8 b6, .int .u8 b7] _ rfl, (X1.out.grew G1.out).alloc _, rfl⟩
  case round =>
    obtain ⟨kk, c0, c1, c2, c3, c4, c5, c6, c7, hkk, hg, rfl, GW, BP, BR, HPK⟩ := hrel
    have hW1w : w.heap.size + 2 <= W1.heap.size := by have h1 := Below.size G1.out; have h2 := X1.out.lt; omega
    by_cases hlt : kk < kq
    · have hltz : (kk : Int) < (kq : Int) := by omega
      obtain ⟨q, HQK⟩ : ∃ q, Hid (qs[kk]? = some q) := ⟨_, List.getElem?_eq_getElem (by rw [HNQ.out]; exact hlt)⟩
      obtain ⟨x, m, a0, a1, a2, a3, a4, a5, a6, a7, rfl, rfl, hl⟩ := HRQ.out kk q HQK.out
      obtain ⟨d0, d1, d2, d3, d4, d5, d6, d7, d8⟩ := hl wr GW.out
      have HST := HT.out kk _ HQK.out
      clear hl
      by_cases hm : m = (i : Int)
      · subst hm
        have k0 := BP.out.c 0 rfl
        have k1 := BP.out.c 1 rfl
        have k2 := BP.out.c 2 rfl
        have k3 := BP.out.c 3 rfl
        have k4 := BP.out.c 4 rfl
        have k5 := BP.out.c 5 rfl
        have k6 := BP.out.c 6 rfl
        have k7 := BP.out.c 7 rfl
        have kf := BP.out.f
        have kl := BP.out.lt
        have HST' : Hid (pickQ ((qs.take (kk + 1)).reverse.find? (fun q => q.1 == (i : Int))) [b0, b1, b2, b3, b4, b5, b6, b7] = [a0, a1, a2, a3, a4, a5, a6, a7]) := show _ = _ by rw [HST, pick_snoc]; simp
        clear HST
        go_wp2
        go_roundg (kq - (kk + 1))
        case measure => omega
        case rel =>
          refine ⟨kk + 1, a0, a1, a2, a3, a4, a5, a6, a7, by omega, by omega, by go_num, ?_, ?_, ?_, HST'.out⟩
          · show Grew _ _
            refine Grew.trans ?_ (grew_alloc _ _)
            iterate 8 (refine grew_set ?_ (by simp; omega) _)
            exact GW.out
          · exact ((((((((BP.out.set 0 _).set 1 _).set 2 _).set 3 _).set 4 _).set 5 _).set 6 _).set 7 _).alloc _
          · show Box _ _ _
            refine Box.alloc ?_ _
            iterate 8 (refine Box.other ?_ (by simp; omega) _)
            exact BR.out
      · have hmb : (m == (i : Int)) = false := by simpa using hm
        have HST' : Hid (pickQ ((qs.take (kk + 1)).reverse.find? (fun q => q.1 == (i : Int))) [b0, b1, b2, b3, b4, b5, b6, b7] = [c0, c1, c2, c3, c4, c5, c6, c7]) := show _ = _ by rw [HST, pick_snoc]; simp only [hmb]; exact HPK.out
        clear HST hm
        go_wp2
        go_roundg (kq - (kk + 1))
        case measure => omega
        case rel => exact ⟨kk + 1, c0, c1, c2, c3, c4, c5, c6, c7, by omega, by omega, by go_num, GW.out.trans (grew_alloc _ _), BP.out.alloc _, BR.out.alloc _, HST'.out⟩
    · have hltz : ¬ (kk : Int) < (kq : Int) := by omega
      have : kk = kq := by omega
      subst this
      have k0 := BP.out.c 0 rfl
      have k1 := BP.out.c 1 rfl
      have k2 := BP.out.c 2 rfl
      have k3 := BP.out.c 3 rfl
      have k4 := BP.out.c 4 rfl
      have k5 := BP.out.c 5 rfl
      have k6 := BP.out.c 6 rfl
      have k7 := BP.out.c 7 rfl
      have r0 := BR.out.c 0 rfl
      have r1 := BR.out.c 1 rfl
      have r2 := BR.out.c 2 rfl
      have r3 := BR.out.c 3 rfl
      have r4 := BR.out.c 4 rfl
      have r5 := BR.out.c 5 rfl
      have r6 := BR.out.c 6 rfl
      have r7 := BR.out.c 7 rfl
      have rf := BR.out.f
      have HF : Hid (readL ps qs (i : Int) = [c0, c1, c2, c3, c4, c5, c6, c7]) := show _ = _ by rw [HL.out, <- HPK.out, List.take_of_length_le (by rw [HNQ.out]; exact Nat.le_refl _)]
      go_wp2
      refine bodyPost_ret (v := .tuple #[.agg #[.int .u8 c0, .int .u8 c1, .int .u8 c2, .int .u8 c3, .int .u8 c4, .int .u8 c5, .int .u8 c6, .int .u8 c7], .int .i64 0]) (by simp [results, Tryz.results110, go_sem, *]) rfl ⟨by rw [HF.out]; rfl, ?_⟩
      iterate 8 (refine grew_set ?_ (by simp) _)
      exact GW.out
theorem refRead_any (d : Value) (ps : List (List Int)) (qs : List (Int × List Int)) (m : Int) (w : World) (hd : DiskAt w d ps qs) :
    Calls Tryz.prog 110 #[d, .int .i64 m] w fun e w' => e = .returned (.tuple #[.agg (pgc (readL ps qs m)).toArray, .int .i64 (wrongAtL ps.length qs m)]) /\ Grew w w' := by
  by_cases hr : wrongAtL ps.length qs m = 0
  · obtain ⟨_, i, rfl, _⟩ := wrongAtL_zero hr
    rw [hr]
    exact refRead_ok d ps qs i w hd hr
  · rw [show readL ps qs m = zero8 from if_neg hr]
    exact refRead_err d ps qs m w hd hr
def cutTo (p:List Int) (idx size:Int) (k:Nat):List Int:=p.mapIdx fun i z=>if i<k/\size<=8*idx+(i:Int)then 0 else z
theorem cutTo_zero (p:List Int) (idx size:Int):cutTo p idx size 0=p:=by
 unfold cutTo
 apply List.ext_getElem?
 intro i;rw[List.getElem?_mapIdx]
 cases p[i]? <;> simp
theorem cutTo_len (p:List Int) (idx size:Int) (k:Nat):(cutTo p idx size k).length=p.length:=by unfold cutTo;simp
theorem cutTo_all {p:List Int} {idx size:Int} {k:Nat} (h:p.length<=k):cutTo p idx size k=cutP p idx size:=by
 unfold cutTo cutP
 apply List.ext_getElem?
 intro i;rw[List.getElem?_mapIdx,List.getElem?_mapIdx]
 cases hp:p[i]? with
 | none=>rfl
 | some z=>
  have:=(gS.1 hp).1;have hk:i<k:=by omega
  simp[hk]
theorem cutTo_cut {p:List Int} {idx size:Int} {k:Nat} (hk:k<p.length) (h:size<=8*idx+(k:Int)):(cutTo p idx size k).set k 0=cutTo p idx size (k+1):=by
 unfold cutTo
 apply List.ext_getElem?
 intro i
 by_cases e:i=k
 ·subst e;rw[sF (by simpa using hk),List.getElem?_mapIdx,gE hk]
  simp[h]
 rw[sN (fun h=>e h.symm),List.getElem?_mapIdx,List.getElem?_mapIdx]
 cases p[i]? with
 | none=>rfl
 | some z=>
  have:i<k↔i<k+1:=by omega
  simp[this]
theorem cutTo_not {p:List Int} {idx size:Int} {k:Nat} (h:¬size<=8*idx+(k:Int)):cutTo p idx size k=cutTo p idx size (k+1):=by
 unfold cutTo
 apply List.ext_getElem?
 intro i;rw[List.getElem?_mapIdx,List.getElem?_mapIdx]
 cases p[i]? with
 | none=>rfl
 | some z=>
  by_cases e:i=k
  ·subst e
   simp[h]
  have:i<k↔i<k+1:=by omega
  simp[this]
theorem readL8 {ps:List (List Int)} {qs:List (Int × List Int)} {b:Int} (h1:∀p∈ps,p.length=8) (h2:∀q∈qs,q.2.length=8):(readL ps qs b).length=8:=by
 unfold readL
 split
 ·cases h:qs.reverse.find? (fun q=>q.1 == b)with
  | some q=>exact h2 q (by have:=List.mem_of_find?_eq_some h;simpa using this)
  | none=>
   simp only;rw[gD]
   cases h3:ps[b.toNat]? with
   | none=>rfl
   | some p=>exact h1 p (mG h3)
 rfl
theorem content_any (V:MaV) (m:Ma) (fi ix:Nat) (f:Fl) (bk:Int) (w:World) (hm:MachAt w V m) (hca:∀c∈m.ca,hitC fi ix c=true->0<=c.fr/\c.fr<m.fs.length) (hf:m.fl[fi]? =some f) (hbk:f.bl[ix]? =some bk) (hix:ix<=1000):
  Calls Tryz.prog 62 #[.agg #[.slice V.f.a V.f.n V.f.c,.int .i64 m.hand,.slice V.s.a V.s.n V.s.c,.slice V.sb.a V.sb.n V.sb.c,.slice V.sq.a V.sq.n V.sq.c,.slice V.db.a V.db.n V.db.c,.slice V.dq.a V.dq.n V.dq.c,.slice V.fl.a V.fl.n V.fl.c,.int .i64 m.cnt,.slice V.ca.a V.ca.n V.ca.c,.slice V.sp.a V.sp.n V.sp.c],.int .i64 (fi:Int),.int .i64 (ix:Int)] w fun e w'=>e= .returned (.agg (pgc (contL m fi ix)).toArray)/\(contL m fi ix).length=8/\Grew w w':=by
 have HRD:Hid (∀W,Grew w W->Calls Tryz.prog 110 #[.agg #[.slice V.db.a V.db.n V.db.c,.slice V.dq.a V.dq.n V.dq.c],.int .i64 bk] W fun e w'=>e= .returned (.tuple #[.agg (pgc (readL m.db m.dq bk)).toArray,.int .i64 (wrongAtL m.db.length m.dq bk)])/\Grew W w'):=show∀W,_ from fun W hW=>refRead_any _ m.db m.dq bk W ⟨_,_,rfl,(hm.grew hW).db,(hm.grew hW).dq⟩
 have HRL:Hid ((readL m.db m.dq bk).length=8):=readL8 hm.db.2.1 hm.dq.2.1;obtain⟨⟨fa,fn,fc⟩,vs,vsb,vsq,vdb,vdq,⟨fla,fln,flc⟩,⟨caa,can,cac⟩,vsp⟩:=V;dsimp only at HRD⊢;obtain⟨n1,-,-,-,-,-,n7,n8,-⟩:=hm.ns;dsimp only at n1 n7 n8;have HFR:Hid (FrRows w fa m.fs):=hm.frs;have HCA:Hid (CaRows w caa m.ca):=hm.cas;have HN1:Hid (m.fs.length=fn):=n1.symm;have HN8:Hid (m.ca.length=can):=n8.symm;have hbc:can<=9223372036854775807:=by have:=hm.ca.short;omega
 obtain⟨_,_,hfe,_,hfr⟩:=FilesAt.rows hm.fl;have HFL:Hid (FlRows w fla m.fl):=show FlRows _ _ _ by
  simp only[vJ]at hfe;rw[hfe.1];exact hfr
 have HIN:Hid (∀c∈m.ca,hitC fi ix c=true->0<=c.fr/\c.fr<m.fs.length):=hca;have hfn:fi<fln:=by rw[n7];exact(gS.1 hf).1
 obtain⟨ad,rfl,ba,bc,hbr,hfl⟩:=HFL.out fi f hf;have HBL:Hid (∀W,Grew w W->FlCells W (ad.add (fi*2)) f.size (.slice ba f.bl.length bc)):=hfl;obtain⟨_,_,hbe,hbn⟩:=hbr.nums;have hbl:ix<f.bl.length:=(gS.1 hbk).1;obtain⟨ad2,had2,hb2⟩:=hbn ix bk hbk;have HB2:Hid (ba=some ad2/\∀W,Grew w W->W.cell? (ad2.add ix)=some (.int .i64 bk)):=show _/\_ from⟨by simp only[vJ]at hbe;rw[hbe.1];exact had2,hb2⟩
 obtain⟨bn,HBN⟩:∃bn,Hid (f.bl.length=bn):=⟨_,rfl⟩;rw[HBN.out]at hbl HBL;have HCO1:Hid (∀c,m.ca.find? (hitC fi ix)=some c->contL m fi ix=pgL (frAt m c.fr).p):=show∀c,_ from fun c hc=>by unfold contL;rw[hc]
 have HCO2:Hid (m.ca.find? (hitC fi ix)=none->contL m fi ix=if bk<0 then zero8 else cutP (readL m.db m.dq bk) ix f.size):=show _->_ from fun hc=>by
  have hg:m.fl.getD ((fi:Int).toNat) ⟨0,[]⟩=f:=by rw[tN,gD,hf];rfl
  have e1:blAt m fi ix=bk:=by unfold blAt;rw[hg,tN,gD,hbk];rfl
  have e2:szAt m fi=f.size:=by unfold szAt;rw[hg]
  unfold contL;rw[hc];simp only[e1,e2]
 obtain⟨C,HC⟩:∃C,Hid (contL m fi ix=C):=⟨_,rfl⟩;rw[HC.out]at HCO1 HCO2⊢;clear hm n1 n7 n8 hfe hfr hca hf hbk hfl hbr hbe hbn had2 hb2 HC HFL;have hfz:(fi:Int)< (fln:Int):=by omega
 have hbz:(ix:Int)< (bn:Int):=by omega
 obtain⟨W0,hW0⟩:∃W0,(w.alloc (.cells #[.slice fa fn fc,.int .i64 m.hand,.slice vs.a vs.n vs.c,.slice vsb.a vsb.n vsb.c,.slice vsq.a vsq.n vsq.c,.slice vdb.a vdb.n vdb.c,.slice vdq.a vdq.n vdq.c,.slice (some ad) fln flc,.int .i64 m.cnt,.slice caa can cac,.slice vsp.a vsp.n vsp.c] 40)).alloc (.cells #[.int .u8 0,.int .u8 0,.int .u8 0,.int .u8 0,.int .u8 0,.int .u8 0,.int .u8 0,.int .u8 0] 50)=W0:=⟨_,rfl⟩;have HG0:=gD2 hW0
 have X0:=x2a hW0
 have Y0:Hid (Box W0 (w.heap.size+1) (pgc zero8)):=show Box _ _ _ by rw[<-hW0];exact Box.top _ (pgc zero8) _ (by simp)
 have HW0:Hid (_=W0):=hW0;clear hW0
 go_enter Tryz.func62,Tryz.ntmps62
 go_upto_region 1 with fail;rw[HW0.out];have x9:=X0.out.c 9 rfl;go_wp2;clear x9
 go_loopg [16] can (fun gg s16 wr=>∃kk:Nat,kk<=can/\can - kk<=gg/\s16= .int .i64 kk/\Hid (Grew W0 wr)/\Hid (∀(j:Nat) c,j<kk->m.ca[j]? =some c->hitC fi ix c=false))
 case atStart=>exact⟨0,nZ _,by omega,rfl,Grew.refl _,fun j c hj=>absurd hj (nL _)⟩
 obtain⟨kk,hkk,hgg,rfl,BW,OW⟩:=hrel
 by_cases hlt:kk<can
 ·have hltz:(kk:Int)< (can:Int):=by omega
  obtain⟨c,HC⟩:∃c,Hid (m.ca[kk]? =some c):=⟨_,gE (by rw[HN8.out];exact hlt)⟩
  obtain⟨adc,rfl,hl⟩:=HCA.out kk c HC.out;obtain⟨d0,d1,d2⟩:=hl wr (HG0.out.trans BW.out);clear hl;go_upto_region 4 with fail;obtain⟨W1,hW1⟩:∃W1,wr.alloc (.cells #[.int .i64 c.file,.int .i64 c.idx,.int .i64 c.fr] 83)=W1:=⟨_,rfl⟩;have HG1:=gT hW1 BW
  have C1:=xA hW1
  rw[hW1];clear hW1 d0 d1 d2;obtain⟨c0,c1,c2⟩:=C1.out.c3;have HNX:Hid (hitC fi ix c=false->∀(j:Nat) c,j<kk+1->m.ca[j]? =some c->hitC fi ix c=false):=show _->_ from fun h0 j c' hj hc'=>by
   by_cases e:j=kk
   ·subst e;rw[HC.out]at hc';cases hc';exact h0
   exact OW.out j c' (by omega) hc'
  by_cases h1:c.file=(fi:Int)
  ·have h1e:(c.file ==(fi:Int))=true:=by simp[h1]
   by_cases h2:c.idx=(ix:Int)
   ·have h2e:(c.idx ==(ix:Int))=true:=by simp[h2]
    have HHT:Hid (hitC fi ix c=true):=show _=_ by simp[hitC,h1,h2]
    have HFD:Hid (m.ca.find? (hitC fi ix)=some c):=show _=_ by
     rw[List.find?_eq_some_iff_getElem];refine⟨HHT.out,kk,(gS.1 HC.out).1,(gS.1 HC.out).2,fun j hj=>?_⟩
     have:=OW.out j _ hj (gE (by have:=(gS.1 HC.out).1;omega))
     simp[this]
    obtain⟨r0,r1⟩:=HIN.out c (mG HC.out) HHT.out;obtain⟨k,hk⟩:∃k:Nat,c.fr=(k:Int):=⟨c.fr.toNat,by omega⟩
    have hkn:k<fn:=by rw[<-HN1.out];omega
    have hkz:(k:Int)< (fn:Int):=by omega
    obtain⟨q,HQ⟩:∃q,Hid (m.fs[k]? =some q):=⟨_,gE (by rw[HN1.out];exact hkn)⟩
    have HCE:Hid (C=pgL q.p):=show _=_ by
     rw[HCO1.out c HFD.out,hk];unfold frAt;rw[tN,gD,HQ.out];rfl
    rw[hk]at c2;clear h1 h2 r0 r1 hk;go_upto_region 5 with fail;obtain⟨adf,hva,hl⟩:=HFR.out k q HQ.out;obtain⟨d0,d1,d2,d3,d4,d5,d6,d7,-⟩:=hl W1 (HG0.out.trans HG1.out);have x0:=(X0.out.grew HG1.out).c 0 rfl;rw[hva]at x0;have Y1:=dD (Y0.out.grew HG1.out);clear hl hva
    go_wp2_with (refine wp_storeAll rfl 50 (.tmp 6) (.tmp 37) rfl (w.heap.size+1) rfl (pgc (pgL q.p)) rfl Y1.out rfl Tryz.sizePg (pgc_one _) ?_)
    intro W2 hb2 hg2 _;have HG2:Hid (Grew w W2):=show Grew _ _ from grew_grown (HG0.out.trans HG1.out) hg2 (by omega)
    go_wp2;refine bodyPost_ret (ret_cell rfl _ rfl hb2 Tryz.underlying50 rfl Tryz.sizePg) rfl ⟨by rw[HCE.out],by rw[HCE.out];rfl,HG2.out⟩
   have h2e:(c.idx ==(ix:Int))=false:=by simp[h2]
   have OW':Hid (∀(j:Nat) c,j<kk+1->m.ca[j]? =some c->hitC fi ix c=false):=HNX.out (by simp[hitC,h2])
   clear h1 h2;go_wp2
   go_roundg (can -(kk+1))
   case measure=>omega
   exact⟨kk+1,by omega,by omega,by go_num,HG1.out,OW'.out⟩
  have h1e:(c.file ==(fi:Int))=false:=by simp[h1]
  have OW':Hid (∀(j:Nat) c,j<kk+1->m.ca[j]? =some c->hitC fi ix c=false):=HNX.out (by simp[hitC,h1])
  clear h1;go_wp2
  go_roundg (can -(kk+1))
  case measure=>omega
  exact⟨kk+1,by omega,by omega,by go_num,HG1.out,OW'.out⟩
 have hltz:¬(kk:Int)< (can:Int):=by omega
 have hke:kk=can:=by omega
 have HNO:Hid (m.ca.find? (hitC fi ix)=none):=show _=_ by
  rw[List.find?_eq_none];intro c hc;obtain⟨j,hj⟩:=List.getElem?_of_mem hc;have:=OW.out j c (by rw[hke,<-HN8.out];exact(gS.1 hj).1) hj
  simp[this]
 have HCE:Hid (C=if bk<0 then zero8 else cutP (readL m.db m.dq bk) ix f.size):=HCO2.out HNO.out;clear hke;go_upto_region 7 with fail;have x7:=(X0.out.grew BW.out).c 7 rfl;obtain⟨d0,d1⟩:=HBL.out wr (HG0.out.trans BW.out);obtain⟨hba,hb2⟩:=HB2.out;rw[hba]at d1;have e0:=hb2 wr (HG0.out.trans BW.out);clear hba hb2 d0;have YW:=dD (Y0.out.grew BW.out)
 by_cases hb:bk<0
 ·rw[if_pos hb]at HCE
  go_wp2_with (refine wp_storeAll rfl 50 (.tmp 6) (.tmp 51) rfl (w.heap.size+1) rfl (pgc zero8) rfl YW.out rfl Tryz.sizePg (pgc_one _) ?_)
  intro W2 hb2 hg2 _;have HG2:Hid (Grew w W2):=show Grew _ _ from grew_grown (HG0.out.trans BW.out) hg2 (by omega)
  go_wp2;refine bodyPost_ret (ret_cell rfl _ rfl hb2 Tryz.underlying50 rfl Tryz.sizePg) rfl ⟨by rw[HCE.out],by rw[HCE.out];rfl,HG2.out⟩
 rw[if_neg hb]at HCE;have x5:=(X0.out.grew BW.out).c 5 rfl;have x6:=(X0.out.grew BW.out).c 6 rfl;have hrd:=HRD.out wr (HG0.out.trans BW.out);go_wp2_with fail;refine hrd.mono ?_;clear hrd x5 x6 x7 d1 e0;rintro e W2 ⟨rfl,g2⟩;obtain⟨p,HP⟩:∃p,Hid (readL m.db m.dq bk=p):=⟨_,rfl⟩;rw[HP.out]at HCE HRL⊢;have HG2:=dD (BW.out.trans g2);clear g2;obtain⟨p0,p1,p2,p3,p4,p5,p6,p7,rfl⟩:=len8 p HRL.out;simp only[pgc,mP,List.map_nil];go_upto_region 11 with fail;obtain⟨W3,hW3⟩:∃W3,W2.alloc (.cells #[.int .u8 p0,.int .u8 p1,.int .u8 p2,.int .u8 p3,.int .u8 p4,.int .u8 p5,.int .u8 p6,.int .u8 p7] 50)=W3:=⟨_,rfl⟩;have HG3:=gT hW3 HG2
 have P3:Hid (Box W3 W2.heap.size (pgc (cutTo [p0,p1,p2,p3,p4,p5,p6,p7] ix f.size 0))):=show Box _ _ _ by rw[<-hW3,cutTo_zero];exact Box.top _ (pgc [p0,p1,p2,p3,p4,p5,p6,p7]) _ rfl
 have HPL:Hid (w.heap.size+1<W2.heap.size):=show _<_ from(Y0.out.grew HG2.out).lt
 rw[hW3];clear hW3;obtain⟨pp,HPP⟩:∃pp,Hid (W2.heap.size=pp):=⟨_,rfl⟩;rw[HPP.out]at P3 HPL⊢;go_wp2;clear HG2
 go_loopg [59] 8 (fun gg s59 wr=>∃i:Nat,i<=8/\8 - i<=gg/\s59= .int .i64 i/\Hid (Grew w wr)/\Hid (Box wr w.heap.size [.slice fa fn fc,.int .i64 m.hand,.slice vs.a vs.n vs.c,.slice vsb.a vsb.n vsb.c,.slice vsq.a vsq.n vsq.c,.slice vdb.a vdb.n vdb.c,.slice vdq.a vdq.n vdq.c,.slice (some ad) fln flc,.int .i64 m.cnt,.slice caa can cac,.slice vsp.a vsp.n vsp.c])/\Hid (Box wr (w.heap.size+1) (pgc zero8))/\Hid (Box wr pp (pgc (cutTo [p0,p1,p2,p3,p4,p5,p6,p7] ix f.size i))))
 case atStart=>exact⟨0,nZ _,by omega,rfl,HG0.out.trans HG3.out,X0.out.grew HG3.out,Y0.out.grew HG3.out,P3.out⟩
 obtain⟨i,hi,hg3,rfl,BW2,XW,YW2,PW⟩:=hrel;clear P3
 by_cases hlt2:i<8
 ·have hltz2:(i:Int)<8:=by omega
  obtain⟨d0,d1⟩:=HBL.out wr BW2.out;have x7:=XW.out.c 7 rfl;clear d1;obtain⟨z,hz⟩:∃z,(cutTo [p0,p1,p2,p3,p4,p5,p6,p7] ix f.size i)[i]? =some z:=⟨_,gE (by rw[cutTo_len];exact hlt2)⟩
  have z0:=PW.out.c i (pgc_at hz);have zf:=PW.out.f
  by_cases hc:f.size<=8*(ix:Int)+(i:Int)
  ·have hcd:decide (f.size<=8*(ix:Int)+(i:Int))=true:=by simpa using hc
   have P4:Hid (Box (wr.setCell ⟨pp,i,none⟩ (.int .u8 0)) pp (pgc (cutTo [p0,p1,p2,p3,p4,p5,p6,p7] ix f.size (i+1)))):=show Box _ _ _ by rw[<-cutTo_cut (by exact hlt2) hc,pgc_set];exact PW.out.set i _
   have X4:Hid (Box (wr.setCell ⟨pp,i,none⟩ (.int .u8 0)) w.heap.size [.slice fa fn fc,.int .i64 m.hand,.slice vs.a vs.n vs.c,.slice vsb.a vsb.n vsb.c,.slice vsq.a vsq.n vsq.c,.slice vdb.a vdb.n vdb.c,.slice vdq.a vdq.n vdq.c,.slice (some ad) fln flc,.int .i64 m.cnt,.slice caa can cac,.slice vsp.a vsp.n vsp.c]):=show Box _ _ _ from XW.out.other (by have:=HPL.out;simp;omega) _
   have Y4:Hid (Box (wr.setCell ⟨pp,i,none⟩ (.int .u8 0)) (w.heap.size+1) (pgc zero8)):=show Box _ _ _ from YW2.out.other (by have:=HPL.out;simp;omega) _
   have G4:Hid (Grew w (wr.setCell ⟨pp,i,none⟩ (.int .u8 0))):=show Grew _ _ from grew_set BW2.out (by have:=HPL.out;simp;omega) _
   clear hz;go_wp2
   go_roundg (8 -(i+1))
   case measure=>omega
   exact⟨i+1,by omega,by omega,by go_num,G4.out,X4.out,Y4.out,P4.out⟩
  have hcd:decide (f.size<=8*(ix:Int)+(i:Int))=false:=by simpa using hc
  have P4:Hid (Box wr pp (pgc (cutTo [p0,p1,p2,p3,p4,p5,p6,p7] ix f.size (i+1)))):=show Box _ _ _ by rw[<-cutTo_not hc];exact PW.out
  clear hz;go_wp2
  go_roundg (8 -(i+1))
  case measure=>omega
  exact⟨i+1,by omega,by omega,by go_num,BW2.out,XW.out,YW2.out,P4.out⟩
 have hltz2:¬(i:Int)<8:=by omega
 have:i=8:=by omega
 subst this;have PE:Hid (Box wr pp (pgc C)):=show Box _ _ _ by
  have:=PW.out;rw[cutTo_all (by exact nR 8),<-HCE.out]at this
  exact this
 have HCL:Hid (C.length=8):=show _=_ by rw[HCE.out];unfold cutP;simp
 have HCP:Hid ((pgc C).length=8):=show _=_ by rw[pgc_len];exact HCL.out
 go_wp2_with (first | (refine wp_loadAll rfl 50 (.tmp 10) rfl pp rfl PE.out Tryz.underlying50 rfl (by rw[HCP.out];exact Tryz.sizePg) ?_) | (refine wp_storeAll rfl 50 (.tmp 6) (.tmp 77) rfl (w.heap.size+1) rfl (pgc C) rfl YW2.out (by rw[HCP.out];rfl) Tryz.sizePg (pgc_one _) ?_))
 intro W5 hb5 hg5 _;have HG5:Hid (Grew w W5):=show Grew _ _ from grew_grown BW2.out hg5 (by omega)
 go_wp2;refine bodyPost_ret (ret_cell rfl _ rfl hb5 Tryz.underlying50 rfl (by rw[HCP.out];exact Tryz.sizePg)) rfl ⟨rfl,HCL.out,HG5.out⟩
end
end Go.Proofs.YtangilolcekceaaGreat
