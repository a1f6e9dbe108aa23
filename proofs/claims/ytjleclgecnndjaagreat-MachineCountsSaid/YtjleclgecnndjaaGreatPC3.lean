import Derived.Test.YtjleclgecnndjaaGreatPC2
import Derived.BigQuiet
import Derived.Laws.CopyRow
import Derived.Laws.CopyOwn
import Derived.Laws.MakeOwn
import Derived.RangeFuncNested
import Derived.RangeFuncBound
import Derived.RangeFuncCalls
import Derived.RangeFuncLeaves
import Derived.Shelf.Abstract
import Derived.Shelf.RegionOpen
import Derived.WalkKit
import Derived.OwnWalkIn
import Derived.TacticsInMore
import Derived.LoopNIn
import Derived.LoopIn
import Derived.Deep.DeepCutAuto
namespace Go.Proofs.YtjleclgecnndjaaGreat
set_option maxRecDepth 100000
set_option maxHeartbeats 4000000
section
open Go.RowKit
structure OwnM (base : Nat) (w : World) (V : MaV) (m : Ma) : Prop where
 fs : OwnRow frmE base w (.slice V.f.a V.f.n V.f.c) m.fs
 sl : OwnRow slE base w (.slice V.s.a V.s.n V.s.c) m.sl
 sb : OwnPages base w (.slice V.sb.a V.sb.n V.sb.c) m.sb
 sq : OwnPuts base w (.slice V.sq.a V.sq.n V.sq.c) m.sq
 db : OwnPages base w (.slice V.db.a V.db.n V.db.c) m.db
 dq : OwnPuts base w (.slice V.dq.a V.dq.n V.dq.c) m.dq
 fl : ∃ lo,OwnFiles lo w (.slice V.fl.a V.fl.n V.fl.c) m.fl∧base≤lo∧∀ g,(Value.slice V.s.a V.s.n V.s.c).ownBlock = some g→g < lo
 ca : OwnRow cchE base w (.slice V.ca.a V.ca.n V.ca.c) m.ca
 sp : OwnSps base w (.slice V.sp.a V.sp.n V.sp.c) m.sp
 ap : ∀ g,(Value.slice V.sb.a V.sb.n V.sb.c).ownBlock = some g→(Value.slice V.db.a V.db.n V.db.c).ownBlock≠some g
theorem FilesS.now0 {B0 B1 : Nat} {w : World} {v : Value} {fs : List Fl} (h : FilesS B0 B1 w v fs) : FilesAt w v fs:=by
 obtain ⟨hc,xs,k1,k2,k3⟩:=h;exact ⟨hc,xs,k1.now.s0,k2,fun i x f hx hf=>⟨(k3 i x f hx hf).1,(k3 i x f hx hf).2.now.s0⟩⟩
theorem OwnM.at {base : Nat} {w : World} {V : MaV} {m : Ma} (h : OwnM base w V m) : MachAt w V m:=by
 obtain ⟨lo,hf,_⟩:=h.fl;exact ⟨h.fs.at,h.sl.at,h.sb.at,h.sq.at,h.db.at,h.dq.at,hf.new.now0,h.ca.at,h.sp.at⟩
theorem OwnM.grew {base : Nat} {w w' : World} {V : MaV} {m : Ma} (h : OwnM base w V m) (k : Grew w w') : OwnM base w' V m:=by
 obtain ⟨lo,hf,h1,h2⟩:=h.fl;exact ⟨h.fs.grew k,h.sl.grew k,h.sb.grew k,h.sq.grew k,h.db.grew k,h.dq.grew k,⟨lo,hf.grew k,h1,h2⟩,h.ca.grew k,h.sp.grew k,h.ap⟩
theorem pages_lt {base : Nat} {w : World} {v : Value} {l : List (List Int)} (h : OwnPages base w v l) : ∀ g,v.ownBlock = some g→base≤g∧g < w.heap.size:=h.1.lt
theorem ownsRow_low {w w' : World} {base size n g : Nat} {e : TypeId} {v : Value} {xs : List Value} (h : w.ownsRow base e size v n xs) (hg : w.grownBy w' (some g)) (hlt : g < base) : w'.ownsRow base e size v n xs:=by
 refine ⟨h.1,?_⟩
 rcases h.2 with h1 | ⟨b,cap,cur,rfl,h2,h3,h4⟩
 ·exact .inl h1
 ·exact .inr ⟨b,cap,cur,rfl,h2,by rw [hg.block b (Array.getElem?_eq_some_iff.1 h3).1 (fun e=>by cases e; omega)]; exact h3,h4⟩
theorem OwnRow.low {α : Type} {E : Elt α} {base g : Nat} {w w' : World} {v : Value} {l : List α} (h : OwnRow E base w v l) (hg : w.grownBy w' (some g)) (hlt : g < base) : OwnRow E base w' v l:=⟨ownsRow_low h.1 hg hlt,h.2⟩
theorem OwnSp.low {lo hi g : Nat} {w w' : World} {x : SpV} {s : Sp} (h : OwnSp lo hi w x s) (hg : w.grownBy w' (some g)) (hlt : g < lo) : OwnSp lo hi w' x s :=
 ⟨h.live,h.ar.low hg hlt,⟨h.tb.len,h.tb.tlen,fun i v y hv hy=>(h.tb.row i v y hv hy).low hg hlt,h.tb.two⟩,h.arh,h.tbh⟩
theorem OwnM.below {base base' g : Nat} {w w' : World} {V : MaV} {m : Ma} (h : OwnM base w V m) (hg : w.grownBy w' (some g)) (hlt : g < base) (hb : base'≤base) : OwnM base' w' V m:=by
 obtain ⟨lo,⟨ys,f1,f2,f3,f4⟩,l1,l2⟩:=h.fl;obtain ⟨xs,B,s1,s2,s3,s4,s5⟩:=h.sp;refine ⟨(h.fs.low hg hlt).base hb,(h.sl.low hg hlt).base hb,⟨ownsRow_base (ownsRow_low h.sb.1 hg hlt) hb,h.sb.2⟩,⟨ownsRow_base (ownsRow_low h.sq.1 hg hlt) hb,h.sq.2⟩,⟨ownsRow_base (ownsRow_low h.db.1 hg hlt) hb,h.db.2⟩,⟨ownsRow_base (ownsRow_low h.dq.1 hg hlt) hb,h.dq.2⟩,⟨lo,⟨ys,f1.low hg (by omega),f2,fun i x f hx hf=>⟨(f3 i x f hx hf).1,(f3 i x f hx hf).2.low hg (by omega)⟩,f4⟩,by omega,l2⟩,(h.ca.low hg hlt).base hb,⟨xs,B,(s1.low hg hlt).base hb,s2,by omega,s4,fun i x s hx hs=>(s5 i x s hx hs).low hg ?_⟩,h.ap⟩
 have:=mono_le s4 (Nat.zero_le i);omega
theorem ownM_any (V : MaV) (m : Ma) (w : World) (hm : MachAt w V m) :
  Calls Tryz.prog 14 #[.agg #[.slice V.f.a V.f.n V.f.c,.int .i64 m.hand,.slice V.s.a V.s.n V.s.c,.slice V.sb.a V.sb.n V.sb.c,.slice V.sq.a V.sq.n V.sq.c,.slice V.db.a V.db.n V.db.c,.slice V.dq.a V.dq.n V.dq.c,.slice V.fl.a V.fl.n V.fl.c,.int .i64 m.cnt,.slice V.ca.a V.ca.n V.ca.c,.slice V.sp.a V.sp.n V.sp.c]] w fun e w'=>∃ V' : MaV,e = .returned (.agg #[.slice V'.f.a V'.f.n V'.f.c,.int .i64 m.hand,.slice V'.s.a V'.s.n V'.s.c,.slice V'.sb.a V'.sb.n V'.sb.c,.slice V'.sq.a V'.sq.n V'.sq.c,.slice V'.db.a V'.db.n V'.db.c,.slice V'.dq.a V'.dq.n V'.dq.c,.slice V'.fl.a V'.fl.n V'.fl.c,.int .i64 m.cnt,.slice V'.ca.a V'.ca.n V'.ca.c,.slice V'.sp.a V'.sp.n V'.sp.c])∧OwnM w.heap.size w' V' m∧Grew w w':=by
 obtain ⟨n1,n2,-⟩:=hm.ns;have HM : Hid (MachAt w V m):=hm;have HC1 : Hid (∀ W,Grew w W→Calls Tryz.prog 50 #[.agg #[.slice V.f.a V.f.n V.f.c,.int .i64 m.hand]] W fun e w'=>∃ b,e = .returned (.agg #[b,.int .i64 m.hand])∧OwnRow frmE W.heap.size w' b m.fs∧Grew W w'):=show ∀ W,_ from fun W hW=>by
  have h:=(hm.grew hW).fs;rw [n1] at h ⊢;exact ownMem_any _ _ m.fs m.hand W h
 have HC2 : Hid (∀ W,Grew w W→Calls Tryz.prog 51 #[.slice V.s.a V.s.n V.s.c] W fun e w'=>∃ v',e = .returned v'∧OwnRow slE W.heap.size w' v' m.sl∧Grew W w'):=show ∀ W,_ from fun W hW=>cloneS_any _ m.sl W (hm.grew hW).sl
 have HC3 : Hid (∀ W,Grew w W→Calls Tryz.prog 52 #[.agg #[.slice V.sb.a V.sb.n V.sb.c,.slice V.sq.a V.sq.n V.sq.c]] W fun e w'=>∃ d',e = .returned d'∧OwnDisk W.heap.size w' d' m.sb m.sq∧Grew W w'):=show ∀ W,_ from fun W hW=>own_any _ m.sb m.sq W ⟨_,_,rfl,(hm.grew hW).sb,(hm.grew hW).sq⟩
 have HC4 : Hid (∀ W,Grew w W→Calls Tryz.prog 52 #[.agg #[.slice V.db.a V.db.n V.db.c,.slice V.dq.a V.dq.n V.dq.c]] W fun e w'=>∃ d',e = .returned d'∧OwnDisk W.heap.size w' d' m.db m.dq∧Grew W w'):=show ∀ W,_ from fun W hW=>own_any _ m.db m.dq W ⟨_,_,rfl,(hm.grew hW).db,(hm.grew hW).dq⟩
 have HC5 : Hid (∀ W,Grew w W→Calls Tryz.prog 53 #[.agg #[.slice V.fl.a V.fl.n V.fl.c,.int .i64 m.cnt]] W fun e w'=>∃ b,e = .returned (.agg #[b,.int .i64 m.cnt])∧OwnFiles (W.heap.size + 2) w' b m.fl∧Grew W w'∧W.heap.size + 2≤w'.heap.size):=show ∀ W,_ from fun W hW=>ownSt_any _ m.fl m.cnt W (hm.grew hW).fl
 have HC6 : Hid (∀ W,Grew w W→Calls Tryz.prog 54 #[.slice V.ca.a V.ca.n V.ca.c] W fun e w'=>∃ v',e = .returned v'∧OwnRow cchE W.heap.size w' v' m.ca∧Grew W w'):=show ∀ W,_ from fun W hW=>cloneCa_any _ m.ca W (hm.grew hW).ca
 have HC7 : Hid (∀ W,Grew w W→Calls Tryz.prog 55 #[.slice V.sp.a V.sp.n V.sp.c] W fun e w'=>∃ v',e = .returned v'∧OwnSps W.heap.size w' v' m.sp∧Grew W w'):=show ∀ W,_ from fun W hW=>ownSpaces_any _ m.sp W (hm.grew hW).sp
 clear hm n1 n2;obtain ⟨W0,hW0⟩ : ∃ W0,(w.alloc (.cells #[.slice V.f.a V.f.n V.f.c,.int .i64 m.hand,.slice V.s.a V.s.n V.s.c,.slice V.sb.a V.sb.n V.sb.c,.slice V.sq.a V.sq.n V.sq.c,.slice V.db.a V.db.n V.db.c,.slice V.dq.a V.dq.n V.dq.c,.slice V.fl.a V.fl.n V.fl.c,.int .i64 m.cnt,.slice V.ca.a V.ca.n V.ca.c,.slice V.sp.a V.sp.n V.sp.c] 40)).alloc (.cells #[.slice none 0 0,.int .i64 0,.slice none 0 0,.slice none 0 0,.slice none 0 0,.slice none 0 0,.slice none 0 0,.slice none 0 0,.int .i64 0,.slice none 0 0,.slice none 0 0] 40) = W0:=⟨_,rfl⟩;have HG0 : Hid (Grew w W0):=show Grew _ _ by rw [←hW0]; exact (grew_alloc _ _).trans (grew_alloc _ _)
 have X0 : Hid (Box W0 w.heap.size [.slice V.f.a V.f.n V.f.c,.int .i64 m.hand,.slice V.s.a V.s.n V.s.c,.slice V.sb.a V.sb.n V.sb.c,.slice V.sq.a V.sq.n V.sq.c,.slice V.db.a V.db.n V.db.c,.slice V.dq.a V.dq.n V.dq.c,.slice V.fl.a V.fl.n V.fl.c,.int .i64 m.cnt,.slice V.ca.a V.ca.n V.ca.c,.slice V.sp.a V.sp.n V.sp.c]):=show Box _ _ _ by rw [←hW0]; exact (Box.top _ _ _ rfl).alloc _
 have Y0 : Hid (Box W0 (w.heap.size + 1) [.slice none 0 0,.int .i64 0,.slice none 0 0,.slice none 0 0,.slice none 0 0,.slice none 0 0,.slice none 0 0,.slice none 0 0,.int .i64 0,.slice none 0 0,.slice none 0 0]):=show Box _ _ _ by rw [←hW0]; exact Box.top _ _ _ (by simp)
 have HS0 : Hid (W0.heap.size = (w.heap.size + 1 + 1)):=show _ = _ by rw [←hW0]; simp
 have HW0 : Hid (_ = W0):=hW0;clear hW0
 go_enter Tryz.func14,Tryz.ntmps14
 go_upto_region 1 with fail;rw [HW0.out];obtain ⟨I,hI⟩ : ∃ I : World→Prop,I = fun u=>Grew W0 u:=⟨_,rfl⟩
 have HI : Hid (∀ u,I u↔Grew W0 u):=show ∀ u,_ from fun u=>by rw [hI]
 clear hI;have hI0 : I W0.drew:=(HI.out _).2 (show Below _ _ _ from (Below.refl _ _).drew)
 have hx0 : ∀ y : HoldI I,y.world.cell? ⟨w.heap.size,0,none⟩ = some (.slice V.f.a V.f.n V.f.c):=fun y=>(X0.out.grew ((HI.out _).1 y.holds)).c 0 rfl
 have hx1 : ∀ y : HoldI I,y.world.cell? ⟨w.heap.size,1,none⟩ = some (.int .i64 m.hand):=fun y=>(X0.out.grew ((HI.out _).1 y.holds)).c 1 rfl
 have hx2 : ∀ y : HoldI I,y.world.cell? ⟨w.heap.size,2,none⟩ = some (.slice V.s.a V.s.n V.s.c):=fun y=>(X0.out.grew ((HI.out _).1 y.holds)).c 2 rfl
 have hx3 : ∀ y : HoldI I,y.world.cell? ⟨w.heap.size,3,none⟩ = some (.slice V.sb.a V.sb.n V.sb.c):=fun y=>(X0.out.grew ((HI.out _).1 y.holds)).c 3 rfl
 have hx4 : ∀ y : HoldI I,y.world.cell? ⟨w.heap.size,4,none⟩ = some (.slice V.sq.a V.sq.n V.sq.c):=fun y=>(X0.out.grew ((HI.out _).1 y.holds)).c 4 rfl
 have hx5 : ∀ y : HoldI I,y.world.cell? ⟨w.heap.size,5,none⟩ = some (.slice V.db.a V.db.n V.db.c):=fun y=>(X0.out.grew ((HI.out _).1 y.holds)).c 5 rfl
 have hx6 : ∀ y : HoldI I,y.world.cell? ⟨w.heap.size,6,none⟩ = some (.slice V.dq.a V.dq.n V.dq.c):=fun y=>(X0.out.grew ((HI.out _).1 y.holds)).c 6 rfl
 have hx7 : ∀ y : HoldI I,y.world.cell? ⟨w.heap.size,7,none⟩ = some (.slice V.fl.a V.fl.n V.fl.c):=fun y=>(X0.out.grew ((HI.out _).1 y.holds)).c 7 rfl
 have hx8 : ∀ y : HoldI I,y.world.cell? ⟨w.heap.size,8,none⟩ = some (.int .i64 m.cnt):=fun y=>(X0.out.grew ((HI.out _).1 y.holds)).c 8 rfl
 have hx9 : ∀ y : HoldI I,y.world.cell? ⟨w.heap.size,9,none⟩ = some (.slice V.ca.a V.ca.n V.ca.c):=fun y=>(X0.out.grew ((HI.out _).1 y.holds)).c 9 rfl
 have hx10 : ∀ y : HoldI I,y.world.cell? ⟨w.heap.size,10,none⟩ = some (.slice V.sp.a V.sp.n V.sp.c):=fun y=>(X0.out.grew ((HI.out _).1 y.holds)).c 10 rfl
 have hne : Nonempty (HoldI I):=⟨⟨_,hI0⟩⟩;have HSZ : Hid (∀ u,I u→(w.heap.size + 1 + 1)≤u.heap.size):=show ∀ u,_ from fun u hu=>by rw [←HS0.out]; exact Below.size ((HI.out _).1 hu)
 refine wp_lax_tailC (I:=I) 22 [(2,fun v=>∃ s : Sli,v = .agg #[.slice s.a s.n s.c,.int .i64 m.hand]),(5,fun v=>∃ s : Sli,v = .slice s.a s.n s.c),(8,fun v=>∃ b q : Sli,v = .agg #[.slice b.a b.n b.c,.slice q.a q.n q.c]),(11,fun v=>∃ b q : Sli,v = .agg #[.slice b.a b.n b.c,.slice q.a q.n q.c]),(14,fun v=>∃ s : Sli,v = .agg #[.slice s.a s.n s.c,.int .i64 m.cnt]),(17,fun v=>∃ s : Sli,v = .slice s.a s.n s.c),(20,fun v=>∃ s : Sli,v = .slice s.a s.n s.c)] hI0 mixed (by kernel_rfl) rfl rfl (by decide) ?hS (by kernel_rfl) ?_
 case hS =>
  intro x hx;simp only [List.mem_cons,List.not_mem_nil,or_false] at hx
  rcases hx with rfl | rfl | rfl | rfl | rfl | rfl | rfl
  ·exact ⟨_,sli0,rfl⟩
  ·exact ⟨_,sli0,rfl⟩
  ·exact ⟨_,sli0,sli0,rfl⟩
  ·exact ⟨_,sli0,sli0,rfl⟩
  ·exact ⟨_,sli0,rfl⟩
  ·exact ⟨_,sli0,rfl⟩
  ·exact ⟨_,sli0,rfl⟩
 simp only [List.take,List.drop];iterate 2 (refine laxC_quiet rfl rfl rfl (fun K hK=>?_); go_big_quiet_op; refine hK _ ?_; clear hK K)
 refine laxC_spec rfl rfl (fun v w'=>∃ s : Sli,v = .agg #[.slice s.a s.n s.c,.int .i64 m.hand]∧OwnRow frmE (w.heap.size + 1 + 1) w' (.slice s.a s.n s.c) m.fs) (fun v u u' hu h=>by obtain ⟨s,h1,h2⟩:=h; exact ⟨s,h1,h2.grew hu⟩) (fun w' hI' hF=>?_) (fun v1 hv=>?_)
 ·have hg' : Grew w w':=HG0.out.trans ((HI.out _).1 hI');have hsz:=HSZ.out w' hI';refine Does.call [.agg #[.slice V.f.a V.f.n V.f.c,.int .i64 m.hand]] rfl Tryz.func50 rfl rfl rfl ?_;refine (HC1.out w' hg').mono ?_;rintro e w'' ⟨b,rfl,ow,hg2⟩;obtain ⟨a2,c2,rfl⟩:=ow.form;exact ⟨_,rfl,(HI.out _).2 (((HI.out _).1 hI').trans hg2),hg2,⟨⟨a2,_,c2⟩,rfl⟩,⟨a2,_,c2⟩,rfl,ow.base hsz⟩
 obtain ⟨sf,rfl⟩:=hv;simp only [Act.put,List.setIfInBounds_toArray,List.set_cons_succ,List.set_cons_zero];iterate 2 (refine laxC_quiet rfl rfl rfl (fun K hK=>?_); go_big_quiet_op; refine hK _ ?_; clear hK K)
 refine laxC_spec rfl rfl (fun v w'=>OwnRow slE (w.heap.size + 1 + 1) w' v m.sl) (fun v u u' hu h=>OwnRow.grew h hu) (fun w' hI' hF=>?_) (fun v1 hv=>?_)
 ·have hg' : Grew w w':=HG0.out.trans ((HI.out _).1 hI');have hsz:=HSZ.out w' hI';refine Does.call [.slice V.s.a V.s.n V.s.c] rfl Tryz.func51 rfl rfl rfl ?_;refine (HC2.out w' hg').mono ?_;rintro e w'' ⟨b,rfl,ow,hg2⟩;obtain ⟨a2,c2,rfl⟩:=ow.form;exact ⟨_,rfl,(HI.out _).2 (((HI.out _).1 hI').trans hg2),hg2,⟨⟨a2,_,c2⟩,rfl⟩,ow.base hsz⟩
 obtain ⟨ss,rfl⟩:=hv;simp only [Act.put,List.setIfInBounds_toArray,List.set_cons_succ,List.set_cons_zero];iterate 2 (refine laxC_quiet rfl rfl rfl (fun K hK=>?_); go_big_quiet_op; refine hK _ ?_; clear hK K)
 refine laxC_spec rfl rfl (fun v w'=>∃ b q : Sli,v = .agg #[.slice b.a b.n b.c,.slice q.a q.n q.c]∧OwnPages (w.heap.size + 1 + 1) w' (.slice b.a b.n b.c) m.sb∧OwnPuts (w.heap.size + 1 + 1) w' (.slice q.a q.n q.c) m.sq) (fun v u u' hu h=>by obtain ⟨b,q,h1,h2,h3⟩:=h; exact ⟨b,q,h1,h2.grew hu,h3.grew hu⟩) (fun w' hI' hF=>?_) (fun v1 hv=>?_)
 ·have hg' : Grew w w':=HG0.out.trans ((HI.out _).1 hI');have hsz:=HSZ.out w' hI';refine Does.call [.agg #[.slice V.sb.a V.sb.n V.sb.c,.slice V.sq.a V.sq.n V.sq.c]] rfl Tryz.func52 rfl rfl rfl ?_;refine (HC3.out w' hg').mono ?_;rintro e w'' ⟨d,rfl,⟨b,q,rfl,ob,oq⟩,hg2⟩;obtain ⟨a2,n2,c2,rfl⟩:=ob.slice;obtain ⟨a3,n3,c3,rfl⟩:=oq.slice;exact ⟨_,rfl,(HI.out _).2 (((HI.out _).1 hI').trans hg2),hg2,⟨⟨a2,n2,c2⟩,⟨a3,n3,c3⟩,rfl⟩,⟨a2,n2,c2⟩,⟨a3,n3,c3⟩,rfl,ob.base hsz,oq.base hsz⟩
 obtain ⟨sb,sq,rfl⟩:=hv;simp only [Act.put,List.setIfInBounds_toArray,List.set_cons_succ,List.set_cons_zero];iterate 2 (refine laxC_quiet rfl rfl rfl (fun K hK=>?_); go_big_quiet_op; refine hK _ ?_; clear hK K)
 refine laxC_spec rfl rfl (fun v w'=>∃ b q : Sli,v = .agg #[.slice b.a b.n b.c,.slice q.a q.n q.c]∧OwnPages (w.heap.size + 1 + 1) w' (.slice b.a b.n b.c) m.db∧OwnPuts (w.heap.size + 1 + 1) w' (.slice q.a q.n q.c) m.dq∧∀ g,(Value.slice sb.a sb.n sb.c).ownBlock = some g→(Value.slice b.a b.n b.c).ownBlock≠some g) (fun v u u' hu h=>by obtain ⟨b,q,h1,h2,h3,h4⟩:=h; exact ⟨b,q,h1,h2.grew hu,h3.grew hu,h4⟩) (fun w' hI' hF=>?_) (fun v1 hv=>?_)
 ·have hg' : Grew w w':=HG0.out.trans ((HI.out _).1 hI');have hsz:=HSZ.out w' hI';refine Does.call [.agg #[.slice V.db.a V.db.n V.db.c,.slice V.dq.a V.dq.n V.dq.c]] rfl Tryz.func52 rfl rfl rfl ?_;refine (HC4.out w' hg').mono ?_;rintro e w'' ⟨d,rfl,⟨b,q,rfl,ob,oq⟩,hg2⟩;obtain ⟨a2,n2,c2,rfl⟩:=ob.slice;obtain ⟨a3,n3,c3,rfl⟩:=oq.slice;obtain ⟨b8,q8,e8,o8,_⟩ : ∃ b q : Sli,(Value.agg #[.slice sb.a sb.n sb.c,.slice sq.a sq.n sq.c]) = .agg #[.slice b.a b.n b.c,.slice q.a q.n q.c]∧OwnPages (w.heap.size + 1 + 1) w' (.slice b.a b.n b.c) m.sb∧OwnPuts (w.heap.size + 1 + 1) w' (.slice q.a q.n q.c) m.sq:=hF 8 (by kernel_rfl)
  refine ⟨_,rfl,(HI.out _).2 (((HI.out _).1 hI').trans hg2),hg2,⟨⟨a2,n2,c2⟩,⟨a3,n3,c3⟩,rfl⟩,⟨a2,n2,c2⟩,⟨a3,n3,c3⟩,rfl,ob.base hsz,oq.base hsz,fun g h1 h2=>?_⟩
  simp only [Value.agg.injEq,Array.mk.injEq,List.cons.injEq] at e8;rw [e8.1] at h1;have q1:=(pages_lt o8 g h1).2;have q2:=(pages_lt ob g h2).1;omega
 obtain ⟨db,dq,rfl⟩:=hv;simp only [Act.put,List.setIfInBounds_toArray,List.set_cons_succ,List.set_cons_zero];iterate 2 (refine laxC_quiet rfl rfl rfl (fun K hK=>?_); go_big_quiet_op; refine hK _ ?_; clear hK K)
 refine laxC_spec rfl rfl (fun v w'=>∃ s : Sli,v = .agg #[.slice s.a s.n s.c,.int .i64 m.cnt]∧∃ lo,OwnFiles lo w' (.slice s.a s.n s.c) m.fl∧(w.heap.size + 1 + 1)≤lo∧∀ g,(Value.slice ss.a ss.n ss.c).ownBlock = some g→g < lo) (fun v u u' hu h=>by obtain ⟨s,h1,lo,h2,h3,h4⟩:=h; exact ⟨s,h1,lo,h2.grew hu,h3,h4⟩) (fun w' hI' hF=>?_) (fun v1 hv=>?_)
 ·have hg' : Grew w w':=HG0.out.trans ((HI.out _).1 hI');have hsz:=HSZ.out w' hI';refine Does.call [.agg #[.slice V.fl.a V.fl.n V.fl.c,.int .i64 m.cnt]] rfl Tryz.func53 rfl rfl rfl ?_;refine (HC5.out w' hg').mono ?_;rintro e w'' ⟨b,rfl,of,hg2,_⟩;have hof:=of;obtain ⟨ys,oy,_⟩:=of;obtain ⟨a2,c2,rfl⟩:=oy.form;have o5 : OwnRow slE (w.heap.size + 1 + 1) w' (.slice ss.a ss.n ss.c) m.sl:=hF 5 (by kernel_rfl)
  exact ⟨_,rfl,(HI.out _).2 (((HI.out _).1 hI').trans hg2),hg2,⟨⟨a2,_,c2⟩,rfl⟩,⟨a2,_,c2⟩,rfl,w'.heap.size + 2,hof,by omega,fun g h1=>by have:=(o5.lt g h1).2; omega⟩
 obtain ⟨sl,rfl⟩:=hv;simp only [Act.put,List.setIfInBounds_toArray,List.set_cons_succ,List.set_cons_zero];iterate 2 (refine laxC_quiet rfl rfl rfl (fun K hK=>?_); go_big_quiet_op; refine hK _ ?_; clear hK K)
 refine laxC_spec rfl rfl (fun v w'=>OwnRow cchE (w.heap.size + 1 + 1) w' v m.ca) (fun v u u' hu h=>OwnRow.grew h hu) (fun w' hI' hF=>?_) (fun v1 hv=>?_)
 ·have hg' : Grew w w':=HG0.out.trans ((HI.out _).1 hI');have hsz:=HSZ.out w' hI';refine Does.call [.slice V.ca.a V.ca.n V.ca.c] rfl Tryz.func54 rfl rfl rfl ?_;refine (HC6.out w' hg').mono ?_;rintro e w'' ⟨b,rfl,ow,hg2⟩;obtain ⟨a2,c2,rfl⟩:=ow.form;exact ⟨_,rfl,(HI.out _).2 (((HI.out _).1 hI').trans hg2),hg2,⟨⟨a2,_,c2⟩,rfl⟩,ow.base hsz⟩
 obtain ⟨sc,rfl⟩:=hv;simp only [Act.put,List.setIfInBounds_toArray,List.set_cons_succ,List.set_cons_zero];iterate 2 (refine laxC_quiet rfl rfl rfl (fun K hK=>?_); go_big_quiet_op; refine hK _ ?_; clear hK K)
 refine laxC_spec rfl rfl (fun v w'=>OwnSps (w.heap.size + 1 + 1) w' v m.sp) (fun v u u' hu h=>OwnSps.grew h hu) (fun w' hI' hF=>?_) (fun v1 hv=>?_)
 ·have hg' : Grew w w':=HG0.out.trans ((HI.out _).1 hI');have hsz:=HSZ.out w' hI';refine Does.call [.slice V.sp.a V.sp.n V.sp.c] rfl Tryz.func55 rfl rfl rfl ?_;refine (HC7.out w' hg').mono ?_;rintro e w'' ⟨b,rfl,os,hg2⟩;have hos:=os;obtain ⟨ys,B,oy,_⟩:=os;obtain ⟨a2,c2,rfl⟩:=oy.form;exact ⟨_,rfl,(HI.out _).2 (((HI.out _).1 hI').trans hg2),hg2,⟨⟨a2,_,c2⟩,rfl⟩,hos.base hsz⟩
 obtain ⟨sp,rfl⟩:=hv;simp only [Act.put,List.setIfInBounds_toArray,List.set_cons_succ,List.set_cons_zero];iterate 1 (refine laxC_quiet rfl rfl rfl (fun K hK=>?_); go_big_quiet_op; refine hK _ ?_; clear hK K)
 refine laxC_nil fun W3 hI3 hF=>?_
 have hg3:=(HI.out _).1 hI3;have F2 : ∃ s : Sli,(Value.agg #[.slice sf.a sf.n sf.c,.int .i64 m.hand]) = .agg #[.slice s.a s.n s.c,.int .i64 m.hand]∧OwnRow frmE (w.heap.size + 1 + 1) W3 (.slice s.a s.n s.c) m.fs:=hF 2;have F5 : OwnRow slE (w.heap.size + 1 + 1) W3 (.slice ss.a ss.n ss.c) m.sl:=hF 5;have F8 : ∃ b q : Sli,(Value.agg #[.slice sb.a sb.n sb.c,.slice sq.a sq.n sq.c]) = .agg #[.slice b.a b.n b.c,.slice q.a q.n q.c]∧OwnPages (w.heap.size + 1 + 1) W3 (.slice b.a b.n b.c) m.sb∧OwnPuts (w.heap.size + 1 + 1) W3 (.slice q.a q.n q.c) m.sq:=hF 8;have F11 : ∃ b q : Sli,(Value.agg #[.slice db.a db.n db.c,.slice dq.a dq.n dq.c]) = .agg #[.slice b.a b.n b.c,.slice q.a q.n q.c]∧OwnPages (w.heap.size + 1 + 1) W3 (.slice b.a b.n b.c) m.db∧OwnPuts (w.heap.size + 1 + 1) W3 (.slice q.a q.n q.c) m.dq∧∀ g,(Value.slice sb.a sb.n sb.c).ownBlock = some g→(Value.slice b.a b.n b.c).ownBlock≠some g:=hF 11;have F14 : ∃ s : Sli,(Value.agg #[.slice sl.a sl.n sl.c,.int .i64 m.cnt]) = .agg #[.slice s.a s.n s.c,.int .i64 m.cnt]∧∃ lo,OwnFiles lo W3 (.slice s.a s.n s.c) m.fl∧(w.heap.size + 1 + 1)≤lo∧∀ g,(Value.slice ss.a ss.n ss.c).ownBlock = some g→g < lo:=hF 14;have F17 : OwnRow cchE (w.heap.size + 1 + 1) W3 (.slice sc.a sc.n sc.c) m.ca:=hF 17;have F20 : OwnSps (w.heap.size + 1 + 1) W3 (.slice sp.a sp.n sp.c) m.sp:=hF 20;have HOM : Hid (OwnM (w.heap.size + 1 + 1) W3 ⟨sf,ss,sb,sq,db,dq,sl,sc,sp⟩ m):=show OwnM _ _ _ _ by
  obtain ⟨s2,e2,o2⟩:=F2;obtain ⟨b8,q8,e8,o8,p8⟩:=F8;obtain ⟨b11,q11,e11,o11,p11,a11⟩:=F11;obtain ⟨s14,e14,lo,o14,l14,a14⟩:=F14;simp only [Value.agg.injEq,Array.mk.injEq,List.cons.injEq] at e2 e8 e11 e14;rw [←e2.1] at o2;rw [←e8.1] at o8;rw [←e8.2.1] at p8;rw [←e11.1] at o11 a11;rw [←e11.2.1] at p11;rw [←e14.1] at o14;exact ⟨o2,F5,o8,p8,o11,p11,⟨lo,o14,l14,a14⟩,F17,F20,a11⟩
 have Y3 : Hid (Box W3 (w.heap.size + 1) [.slice none 0 0,.int .i64 0,.slice none 0 0,.slice none 0 0,.slice none 0 0,.slice none 0 0,.slice none 0 0,.slice none 0 0,.int .i64 0,.slice none 0 0,.slice none 0 0]):=Y0.out.grew hg3;have HG3 : Hid (Grew w W3):=HG0.out.trans hg3;clear F2 F5 F8 F11 F14 F17 F20 hF hI3 hg3 hx0 hx1 hx2 hx3 hx4 hx5 hx6 hx7 hx8 hx9 hx10 hne hI0
 go_wp2_with (refine wp_storeAll rfl 40 (.tmp 2) (.tmp 24) rfl (w.heap.size + 1) rfl [.slice sf.a sf.n sf.c,.int .i64 m.hand,.slice ss.a ss.n ss.c,.slice sb.a sb.n sb.c,.slice sq.a sq.n sq.c,.slice db.a db.n db.c,.slice dq.a dq.n dq.c,.slice sl.a sl.n sl.c,.int .i64 m.cnt,.slice sc.a sc.n sc.c,.slice sp.a sp.n sp.c] rfl Y3.out rfl (by kernel_rfl) (fun v hv=>by
    simp only [List.mem_cons,List.not_mem_nil,or_false] at hv
    rcases hv with rfl | rfl | rfl | rfl | rfl | rfl | rfl | rfl | rfl | rfl | rfl <;> rfl) ?_)
 intro W4 hb4 hg4 sz4;have HG4 : Hid (Grew w W4):=show Grew _ _ from grew_grown HG3.out hg4 (by omega)
 have HO4 : Hid (OwnM w.heap.size W4 ⟨sf,ss,sb,sq,db,dq,sl,sc,sp⟩ m):=show OwnM _ _ _ _ from HOM.out.below hg4 (by omega) (by omega)
 go_wp2;refine bodyPost_ret (ret_cell rfl _ rfl hb4 Tryz.underlying40 rfl (by kernel_rfl)) rfl ⟨⟨sf,ss,sb,sq,db,dq,sl,sc,sp⟩,rfl,HO4.out,HG4.out⟩
theorem Tryz.sizeFlat : (Tryz.prog.info? 77).map (·.size) = some 192:=by kernel_rfl
def cellsL (l : List En) : List Value:=l.flatMap env
theorem cellsL_len (l : List En) : (cellsL l).length = l.length * 3:=flatMap_len l (fun _ _=>rfl)
theorem cellsL_one (l : List En) : ∀ v∈cellsL l,v.oneCell' = true:=flatMap_one enE.one l
theorem cellsL_at {l : List En} {j : Nat} {e : En} (h : l[j]? = some e) : (cellsL l)[j * 3]? = some (.int .i64 e.kind)∧(cellsL l)[j * 3 + 1]? = some (.int .i64 e.n)∧(cellsL l)[j * 3 + 2]? = some (.bool e.wr) :=
 ⟨flatMap_elem (enc:=env) (k:=3) l j e (fun _ _=>rfl) h 0 _ rfl,flatMap_elem (enc:=env) (k:=3) l j e (fun _ _=>rfl) h 1 _ rfl,flatMap_elem (enc:=env) (k:=3) l j e (fun _ _=>rfl) h 2 _ rfl⟩
theorem run_flatAt {w : World} {l : List En} (i : Nat) (hi : i < 64) {e : En} (he : l[i]? = some e) : (Instr.index 77 (.agg (cellsL l).toArray) (.int .i64 (i : Int))).run Tryz.prog w = .ok (.agg #[.int .i64 e.kind,.int .i64 e.n,.bool e.wr]) w:=by
 have ha : (isAgg 67).run Tryz.prog w = .ok true w:=by
  unfold isAgg;rw [Sem.run_bind,run_underlying Tryz.underlying67 w];rfl
 have hs : (Go.sizeOf 67).run Tryz.prog w = .ok 3 w:=by
  obtain ⟨i0,h1,h2⟩ : ∃ i0,Tryz.prog.info? 67 = some i0∧i0.size = 3:=by
   have : (Tryz.prog.info? 67).map (·.size) = some 3:=by kernel_rfl
   cases hq : Tryz.prog.info? 67 with
   | none=>rw [hq] at this; cases this
   | some i0=>rw [hq] at this; exact ⟨i0,rfl,by simpa using this⟩
  simp [Go.sizeOf,typeInfo,h1,h2]
 have hlt : (0 : Int)≤(i : Int)∧(i : Int) < ((64 : Nat) : Int):=by omega
 obtain ⟨c0,c1,c2⟩:=cellsL_at he;have hx : (cellsL l).toArray.extract (i * 3) (i * 3 + 3) = #[.int .i64 e.kind,.int .i64 e.n,.bool e.wr]:=by
  apply Array.ext_getElem?
  intro j;rw [Array.getElem?_extract];have hlen : i * 3 + 3≤(cellsL l).toArray.size:=by
   have:=(List.getElem?_eq_some_iff.1 c2).1;simp;omega
  by_cases hj : j < 3
  ·rw [if_pos (by omega)]
   obtain rfl | rfl | rfl : j = 0∨j = 1∨j = 2:=by omega
   ·simpa using c0
   ·simpa using c1
   ·simpa using c2
  ·rw [if_neg (by omega)]
   simp;omega
 simp only [Instr.index,asIntOf,Sem.run_bind,Sem.run_pure,Result.andThen_ok,run_underlying Tryz.underlying77];rw [if_pos hlt];simp only [Sem.run_bind,hs,Result.andThen_ok,part,ha,if_true,Int.toNat_natCast,Sem.run_pure,hx]
theorem wp_flatAt {ops : Array Oper} {rest : List Oper} {o : Oper} {a : Act} {w : World} {Q : Exit→Act→World→Prop} (hgd : o.guard = none) (x ix : Operand) (ho : o.op = .index 77 x ix) (l : List En) (hx : a.eval x = .agg (cellsL l).toArray) (i : Nat) (hix : a.eval ix = .int .i64 (i : Int)) (hi : i < 64) {e : En} (he : l[i]? = some e)
  (h : wpList Tryz.prog ops Q rest (a.put o.dst (.agg #[.int .i64 e.kind,.int .i64 e.n,.bool e.wr])) w) : wpList Tryz.prog ops Q (o :: rest) a w:=by
 refine wpList_plain hgd fun K hK=>?_
 unfold Oper.wp execOp;simp only [ho,hx,hix,Sem.run_bind,Sem.run_pure,Result.andThen_ok,run_flatAt i hi he];exact hK _ _ h
theorem Tryz.infoByte : (Tryz.prog.info? 5).map (fun i=>(i.zero,i.size,i.bytes)) = some (some (.int .u8 0),1,1):=by kernel_rfl
def byE : Elt Int where
 enc:=fun z=>[.int .u8 z]
 k:=1
 ty:=5
 st:=24
 bytes:=1
 zv:= .int .u8 0
 zero:=0
 len:=fun _=>rfl
 one:=fun a u hu=>by
  simp only [List.mem_cons,List.not_mem_nil,or_false] at hu;rw [hu];rfl
 und:=Tryz.underlying24
 info:=Tryz.infoByte
 zok:=rfl
 few:=by decide
 pos:=by decide
theorem Tryz.infoFlat : (Tryz.prog.info? 77).map (fun i=>(i.zero,i.size,i.bytes)) = some (some (.agg (cellsL (tab fun _=>en0)).toArray),192,1536):=by kernel_rfl
def flaE : Elt (Nat→En) where
 enc:=fun f=>cellsL (tab f)
 k:=192
 ty:=77
 st:=89
 bytes:=1536
 zv:= .agg (cellsL (tab fun _=>en0)).toArray
 zero:=fun _=>en0
 len:=fun f=>by rw [cellsL_len,tab_len]
 one:=fun f=>cellsL_one _
 und:=Tryz.underlying89
 info:=Tryz.infoFlat
 zok:=rfl
 few:=by decide
 pos:=by decide
structure MkR (base hi : Nat) (w : World) (V : MaV) (m : Ma) (vt : Sli) (T : List (Nat→En)) : Prop where
 hw : hi≤w.heap.size
 bh : base≤hi
 fs : OwnRow frmE base w (.slice V.f.a V.f.n V.f.c) m.fs
 sl : OwnRow slE base w (.slice V.s.a V.s.n V.s.c) m.sl
 slh : ∀ g,(Value.slice V.s.a V.s.n V.s.c).ownBlock = some g→g < hi
 sb : OwnPages base w (.slice V.sb.a V.sb.n V.sb.c) m.sb
 sbh : ∀ g,(Value.slice V.sb.a V.sb.n V.sb.c).ownBlock = some g→g < hi
 sq : V.sq = sli0∧m.sq = []
 db : OwnPages base w (.slice V.db.a V.db.n V.db.c) m.db
 dbh : ∀ g,(Value.slice V.db.a V.db.n V.db.c).ownBlock = some g→g < hi
 dq : OwnPuts base w (.slice V.dq.a V.dq.n V.dq.c) m.dq
 fl : ∃ xs : List FlV,OwnRow fvE base w (.slice V.fl.a V.fl.n V.fl.c) xs∧xs.length = m.fl.length∧∀ (i : Nat) x f,xs[i]? = some x→m.fl[i]? = some f→x.size = f.size∧OwnRow blE hi w x.v f.bl
 ca : OwnRow cchE base w (.slice V.ca.a V.ca.n V.ca.c) m.ca
 sp : ∃ xs : List SpV,OwnRow spcE base w (.slice V.sp.a V.sp.n V.sp.c) xs∧xs.length = m.sp.length∧∀ (i : Nat) x s,xs[i]? = some x→m.sp[i]? = some s→x.live = s.live∧OwnRow arE base w x.ar.v s.ars∧x.tab = nil8∧s.tb = none8
 tt : OwnRow flaE base w (.slice vt.a vt.n vt.c) T
 ap : ∀ g,(Value.slice V.sb.a V.sb.n V.sb.c).ownBlock = some g→(Value.slice V.db.a V.db.n V.db.c).ownBlock≠some g
section
variable {base hi : Nat} {w w' : World} {V : MaV} {m : Ma} {vt : Sli} {T : List (Nat→En)}
theorem MkR.grew (h : MkR base hi w V m vt T) (k : Grew w w') : MkR base hi w' V m vt T:=by
 obtain ⟨xs,f1,f2,f3⟩:=h.fl;obtain ⟨ys,s1,s2,s3⟩:=h.sp;exact ⟨Nat.le_trans h.hw (Below.size k),h.bh,h.fs.grew k,h.sl.grew k,h.slh,h.sb.grew k,h.sbh,h.sq,h.db.grew k,h.dbh,h.dq.grew k,⟨xs,f1.grew k,f2,fun i x f hx hf=>⟨(f3 i x f hx hf).1,(f3 i x f hx hf).2.grew k⟩⟩,h.ca.grew k,⟨ys,s1.grew k,s2,fun i x s hx hs=>⟨(s3 i x s hx hs).1,(s3 i x s hx hs).2.1.grew k,(s3 i x s hx hs).2.2⟩⟩,h.tt.grew k,h.ap⟩
theorem OwnRow.kind {α : Type} {E : Elt α} {b g : Nat} {v : Value} {l : List α} {t : TypeId} {cs : Array Value} (h : OwnRow E b w v l) (hg : w.grownBy w' (some g)) (ho : w.heap[g]? = some (.cells cs t (0,0))) (ht : t≠E.ty) : OwnRow E b w' v l:=h.grown hg fun k hk e=>by
 cases e;obtain ⟨ds,h3⟩:=h.obj hk;rw [ho] at h3;cases h3;exact ht rfl
theorem ownsRow_ne {b size n g : Nat} {e : TypeId} {v : Value} {xs : List Value} (h : w.ownsRow b e size v n xs) (hg : w.grownBy w' (some g)) (hne : v.ownBlock≠some g) : w'.ownsRow b e size v n xs:=by
 refine ⟨h.1,?_⟩
 rcases h.2 with h1 | ⟨k,cap,cur,rfl,h2,h3,h4⟩
 ·exact .inl h1
 ·exact .inr ⟨k,cap,cur,rfl,h2,by rw [hg.block k (Array.getElem?_eq_some_iff.1 h3).1 (fun e=>by cases e; exact hne rfl)]; exact h3,h4⟩
theorem ownsRow_kind {b size n g : Nat} {e t : TypeId} {cs : Array Value} {v : Value} {xs : List Value} (h : w.ownsRow b e size v n xs) (hg : w.grownBy w' (some g)) (ho : w.heap[g]? = some (.cells cs t (0,0))) (ht : t≠e) : w'.ownsRow b e size v n xs:=by
 refine ownsRow_ne h hg fun hv=>?_
 rcases h.2 with ⟨rfl,_⟩ | ⟨k,cap,cur,rfl,h2,h3,h4⟩
 ·cases hv
 ·simp only [Value.ownBlock,Option.some.injEq] at hv;subst hv;rw [ho] at h3;cases h3;exact ht rfl
theorem MkR.kept (h : MkR base hi w V m vt T) {g : Nat} {t : TypeId} {cs : Array Value} (hg : w.grownBy w' (some g)) (ho : w.heap[g]? = some (.cells cs t (0,0))) :
  (t≠59→OwnRow frmE base w' (.slice V.f.a V.f.n V.f.c) m.fs)∧(t≠3∨hi≤g→OwnRow slE base w' (.slice V.s.a V.s.n V.s.c) m.sl) ∧
  (t≠50∨hi≤g∨(Value.slice V.sb.a V.sb.n V.sb.c).ownBlock≠some g→OwnPages base w' (.slice V.sb.a V.sb.n V.sb.c) m.sb)∧(t≠50∨hi≤g∨(Value.slice V.db.a V.db.n V.db.c).ownBlock≠some g→OwnPages base w' (.slice V.db.a V.db.n V.db.c) m.db) ∧
  (t≠95→OwnPuts base w' (.slice V.dq.a V.dq.n V.dq.c) m.dq) ∧
  (t≠71→(t≠3∨g < hi)→∃ xs : List FlV,OwnRow fvE base w' (.slice V.fl.a V.fl.n V.fl.c) xs∧xs.length = m.fl.length∧∀ (i : Nat) x f,xs[i]? = some x→m.fl[i]? = some f→x.size = f.size∧OwnRow blE hi w' x.v f.bl) ∧
  (t≠87→OwnRow cchE base w' (.slice V.ca.a V.ca.n V.ca.c) m.ca) ∧
  (t≠65→t≠69→∃ xs : List SpV,OwnRow spcE base w' (.slice V.sp.a V.sp.n V.sp.c) xs∧xs.length = m.sp.length∧∀ (i : Nat) x s,xs[i]? = some x→m.sp[i]? = some s→x.live = s.live∧OwnRow arE base w' x.ar.v s.ars∧x.tab = nil8∧s.tb = none8) ∧
  (t≠77→OwnRow flaE base w' (.slice vt.a vt.n vt.c) T):=by
 obtain ⟨xs,f1,f2,f3⟩:=h.fl;obtain ⟨ys,s1,s2,s3⟩:=h.sp;refine ⟨fun ht=>h.fs.kind hg ho ht,fun ht=>?_,fun ht=>?_,fun ht=>?_,fun ht=>⟨ownsRow_kind h.dq.1 hg ho ht,h.dq.2⟩,fun ht ht2=>⟨xs,f1.kind hg ho ht,f2,fun i x f hx hf=>⟨(f3 i x f hx hf).1,?_⟩⟩,fun ht=>h.ca.kind hg ho ht,fun ht ht2=>⟨ys,s1.kind hg ho ht,s2,fun i x s hx hs=>⟨(s3 i x s hx hs).1,(s3 i x s hx hs).2.1.kind hg ho ht2,(s3 i x s hx hs).2.2⟩⟩,fun ht=>h.tt.kind hg ho ht⟩
 ·rcases ht with ht | ht
  ·exact h.sl.kind hg ho ht
  ·exact h.sl.grown hg fun k hk e=>by cases e; have:=h.slh _ hk; omega
 ·rcases ht with ht | ht | ht
  ·exact ⟨ownsRow_kind h.sb.1 hg ho ht,h.sb.2⟩
  ·exact ⟨ownsRow_ne h.sb.1 hg fun e=>by have:=h.sbh _ e; omega,h.sb.2⟩
  ·exact ⟨ownsRow_ne h.sb.1 hg ht,h.sb.2⟩
 ·rcases ht with ht | ht | ht
  ·exact ⟨ownsRow_kind h.db.1 hg ho ht,h.db.2⟩
  ·exact ⟨ownsRow_ne h.db.1 hg fun e=>by have:=h.dbh _ e; omega,h.db.2⟩
  ·exact ⟨ownsRow_ne h.db.1 hg ht,h.db.2⟩
 ·rcases ht2 with ht2 | ht2
  ·exact (f3 i x f hx hf).2.kind hg ho ht2
  ·exact (f3 i x f hx hf).2.grown hg fun k hk e=>by cases e; have:=((f3 i x f hx hf).2.lt _ hk).1; omega
theorem MkR.var (h : MkR base hi w V m vt T) {g : Nat} {t : TypeId} {cs : Array Value} (hg : w.grownBy w' (some g)) (ho : w.heap[g]? = some (.cells cs t (0,0))) (hs : w.heap.size≤w'.heap.size) (h1 : t = 91∨(t = 50∧hi≤g)) : MkR base hi w' V m vt T:=by
 obtain ⟨k1,k2,k3,k4,k5,k6,k7,k8,k9⟩:=h.kept hg ho
 rcases h1 with rfl | ⟨rfl,h1⟩
 ·exact ⟨Nat.le_trans h.hw hs,h.bh,k1 (by decide),k2 (.inl (by decide)),h.slh,k3 (.inl (by decide)),h.sbh,h.sq,k4 (.inl (by decide)),h.dbh,k5 (by decide),k6 (by decide) (.inl (by decide)),k7 (by decide),k8 (by decide) (by decide),k9 (by decide),h.ap⟩
 ·exact ⟨Nat.le_trans h.hw hs,h.bh,k1 (by decide),k2 (.inl (by decide)),h.slh,k3 (.inr (.inl h1)),h.sbh,h.sq,k4 (.inr (.inl h1)),h.dbh,k5 (by decide),k6 (by decide) (.inl (by decide)),k7 (by decide),k8 (by decide) (by decide),k9 (by decide),h.ap⟩
theorem MkR.setF (h : MkR base hi w V m vt T) {g : Nat} (hv : (Value.slice V.f.a V.f.n V.f.c).ownBlock = some g) (hg : w.grownBy w' (some g)) (hs : w'.heap.size = w.heap.size) {fs : List Fr} (ho : OwnRow frmE base w' (.slice V.f.a V.f.n V.f.c) fs) : MkR base hi w' V { m with fs:=fs } vt T:=by
 obtain ⟨cs,hc⟩:=h.fs.obj hv;obtain ⟨k1,k2,k3,k4,k5,k6,k7,k8,k9⟩:=h.kept hg hc;exact ⟨by rw [hs]; exact h.hw,h.bh,ho,k2 (.inl (by decide)),h.slh,k3 (.inl (by decide)),h.sbh,h.sq,k4 (.inl (by decide)),h.dbh,k5 (by decide),k6 (by decide) (.inl (by decide)),k7 (by decide),k8 (by decide) (by decide),k9 (by decide),h.ap⟩
theorem MkR.setS (h : MkR base hi w V m vt T) {g : Nat} (hv : (Value.slice V.s.a V.s.n V.s.c).ownBlock = some g) (hg : w.grownBy w' (some g)) (hs : w'.heap.size = w.heap.size) {ls : List Int} (ho : OwnRow slE base w' (.slice V.s.a V.s.n V.s.c) ls) : MkR base hi w' V { m with sl:=ls } vt T:=by
 obtain ⟨cs,hc⟩:=h.sl.obj hv;obtain ⟨k1,k2,k3,k4,k5,k6,k7,k8,k9⟩:=h.kept hg hc;exact ⟨by rw [hs]; exact h.hw,h.bh,k1 (by decide),ho,h.slh,k3 (.inl (by decide)),h.sbh,h.sq,k4 (.inl (by decide)),h.dbh,k5 (by decide),k6 (by decide) (.inr (h.slh g hv)),k7 (by decide),k8 (by decide) (by decide),k9 (by decide),h.ap⟩
theorem MkR.setSb (h : MkR base hi w V m vt T) {g : Nat} {cs : Array Value} (hc : w.heap[g]? = some (.cells cs 50 (0,0))) (hv : (Value.slice V.sb.a V.sb.n V.sb.c).ownBlock = some g) (hg : w.grownBy w' (some g)) (hs : w'.heap.size = w.heap.size) {ls : List (List Int)} (ho : OwnPages base w' (.slice V.sb.a V.sb.n V.sb.c) ls) : MkR base hi w' V { m with sb:=ls } vt T:=by
 obtain ⟨k1,k2,k3,k4,k5,k6,k7,k8,k9⟩:=h.kept hg hc;exact ⟨by rw [hs]; exact h.hw,h.bh,k1 (by decide),k2 (.inl (by decide)),h.slh,ho,h.sbh,h.sq,k4 (.inr (.inr (h.ap g hv))),h.dbh,k5 (by decide),k6 (by decide) (.inl (by decide)),k7 (by decide),k8 (by decide) (by decide),k9 (by decide),h.ap⟩
theorem MkR.setDb (h : MkR base hi w V m vt T) {g : Nat} {cs : Array Value} (hc : w.heap[g]? = some (.cells cs 50 (0,0))) (hv : (Value.slice V.db.a V.db.n V.db.c).ownBlock = some g) (hg : w.grownBy w' (some g)) (hs : w'.heap.size = w.heap.size) {ls : List (List Int)} (ho : OwnPages base w' (.slice V.db.a V.db.n V.db.c) ls) : MkR base hi w' V { m with db:=ls } vt T:=by
 obtain ⟨k1,k2,k3,k4,k5,k6,k7,k8,k9⟩:=h.kept hg hc;exact ⟨by rw [hs]; exact h.hw,h.bh,k1 (by decide),k2 (.inl (by decide)),h.slh,k3 (.inr (.inr (fun e=>h.ap g e hv))),h.sbh,h.sq,ho,h.dbh,k5 (by decide),k6 (by decide) (.inl (by decide)),k7 (by decide),k8 (by decide) (by decide),k9 (by decide),h.ap⟩
theorem MkR.setT (h : MkR base hi w V m vt T) {g : Nat} (hv : (Value.slice vt.a vt.n vt.c).ownBlock = some g) (hg : w.grownBy w' (some g)) (hs : w'.heap.size = w.heap.size) {T' : List (Nat→En)} (ho : OwnRow flaE base w' (.slice vt.a vt.n vt.c) T') : MkR base hi w' V m vt T':=by
 obtain ⟨cs,hc⟩:=h.tt.obj hv;obtain ⟨k1,k2,k3,k4,k5,k6,k7,k8,k9⟩:=h.kept hg hc;exact ⟨by rw [hs]; exact h.hw,h.bh,k1 (by decide),k2 (.inl (by decide)),h.slh,k3 (.inl (by decide)),h.sbh,h.sq,k4 (.inl (by decide)),h.dbh,k5 (by decide),k6 (by decide) (.inl (by decide)),k7 (by decide),k8 (by decide) (by decide),ho,h.ap⟩
end
structure Mk (w0 : World) (hi : Nat) (w : World) (b : Nat) (vl : Sli) (L : List Int) (V : MaV) (m : Ma) (vt : Sli) (T : List (Nat→En)) : Prop where
 gr : Grew w0 w
 hb : w0.heap.size≤b
 box : BoxT w b 91 [.slice vl.a vl.n vl.c,.slice V.f.a V.f.n V.f.c,.int .i64 m.hand,.slice V.s.a V.s.n V.s.c,.slice V.sb.a V.sb.n V.sb.c,.slice V.sq.a V.sq.n V.sq.c,.slice V.db.a V.db.n V.db.c,.slice V.dq.a V.dq.n V.dq.c,.slice V.fl.a V.fl.n V.fl.c,.int .i64 m.cnt,.slice V.ca.a V.ca.n V.ca.c,.slice V.sp.a V.sp.n V.sp.c,.slice vt.a vt.n vt.c]
 lr : RowAt byE w0 (.slice vl.a vl.n vl.c) L
 lc : vl.n≤vl.c
 lb : ∀ z∈L,0≤z∧z < 256
 rows : MkR w0.heap.size hi w V m vt T
theorem Mk.grew {w0 w w' : World} {hi b : Nat} {vl : Sli} {L : List Int} {V : MaV} {m : Ma} {vt : Sli} {T : List (Nat→En)} (h : Mk w0 hi w b vl L V m vt T) (k : Grew w w') : Mk w0 hi w' b vl L V m vt T:=⟨h.gr.trans k,h.hb,h.box.grew k,h.lr,h.lc,h.lb,h.rows.grew k⟩
theorem MkR.at {base hi : Nat} {w : World} {V : MaV} {m : Ma} {vt : Sli} {T : List (Nat→En)} (h : MkR base hi w V m vt T) : MachAt w V m:=by
 obtain ⟨xs,f1,f2,f3⟩:=h.fl;obtain ⟨ys,s1,s2,s3⟩:=h.sp;obtain ⟨q1,q2⟩:=h.sq;refine ⟨h.fs.at,h.sl.at,h.sb.at,?_,h.db.at,h.dq.at,⟨f1.cap,xs,f1.at.s0,f2,fun i x f hx hf=>⟨(f3 i x f hx hf).1,(f3 i x f hx hf).2.at.s0⟩⟩,h.ca.at,⟨ys,s1.at,s2,fun i x s hx hs=>?_⟩⟩
 ·rw [q1,q2];exact ⟨⟨none,0,rfl,fun _=>rfl,fun x hx=>by cases hx⟩,by simp,by simp⟩
 ·obtain ⟨a1,a2,a3,a4⟩:=s3 i x s hx hs;exact ⟨a1,a2.at,a2.cap,by rw [a3,a4]; exact TabS.nil 0 0 w⟩
def Less (L L' : List Int) : Prop:=L = []→L' = []
theorem Less.refl (L : List Int) : Less L L:=fun h=>h
theorem Less.trans {A B C : List Int} (h : Less A B) (k : Less B C) : Less A C:=fun e=>k (h e)
theorem Tryz.sizeByte : (Tryz.prog.info? 5).map (·.size) = some 1:=by kernel_rfl
theorem run_rest {w : World} {ad : Addr} {n c : Nat} : (Instr.sliceAt 24 (.slice (some ad) (n + 1) c) (some (.int .i64 1)) none none).run Tryz.prog w = .ok (.slice (some (if c = 1 then ad else ad.add 1)) n (c - 1)) w:=by
 have hs : (Go.sizeOf 5).run Tryz.prog w = .ok 1 w:=by
  obtain ⟨i0,h1,h2⟩ : ∃ i0,Tryz.prog.info? 5 = some i0∧i0.size = 1:=by
   have:=Tryz.sizeByte
   cases hq : Tryz.prog.info? 5 with
   | none=>rw [hq] at this; cases this
   | some i0=>rw [hq] at this; exact ⟨i0,rfl,by simpa using this⟩
  simp [Go.sizeOf,typeInfo,h1,h2]
 have h1 : (0 : Int)≤1∧(1 : Int)≤((n + 1 : Nat) : Int):=by omega
 simp only [Instr.sliceAt,Instr.slice,Instr.sliceBounds,Instr.sliceBound,asIntOf,Sem.run_bind,Sem.run_pure,Result.andThen_ok,run_underlying Tryz.underlying24];rw [if_pos h1];simp only [Sem.run_pure,Result.andThen_ok,hs]
 by_cases hc : c = 1
 ·simp [hc]
 ·simp [hc]
theorem pick_any {w0 : World} {hi : Nat} {b : Nat} {vl : Sli} {L : List Int} {V : MaV} {m : Ma} {vt : Sli} {T : List (Nat→En)} {w : World} (n : Int) (h : Mk w0 hi w b vl L V m vt T) :
  Calls Tryz.prog 28 #[.pointer (some ⟨b,0,none⟩),.int .i64 n] w fun e w'=>∃ vl' L' x,e = .returned (.int .i64 x)∧Mk w0 hi w' b vl' L' V m vt T∧w.grownBy w' (some b)∧w'.heap.size = w.heap.size∧0≤x∧(x = 0∨x < n)∧(L = []→x = 0)∧Less L L':=by
 have HM : Hid (Mk w0 hi w b vl L V m vt T):=h;have hbx:=h.box.box;have x0:=hbx.c 0 rfl;have xf:=hbx.f;have hln:=h.lr.n;clear hbx;obtain ⟨⟨la,ln,lc⟩,hvl⟩ : ∃ s : Sli,vl = s:=⟨_,rfl⟩;subst hvl;dsimp only at x0 hln HM;clear h
 by_cases h0 : ln = 0
 ·subst h0;clear hln
  go_enter Tryz.func28,Tryz.ntmps28
  go_wp2;go_ret;exact ⟨_,L,0,rfl,HM.out,World.grownBy.rfl' _ _,rfl,Int.le_refl _,.inl rfl,fun _=>rfl,Less.refl L⟩
 ·have h0e : ((ln : Int) == 0) = false:=by simp; omega
  have h0f : (ln == 0) = false:=by simp [h0]
  by_cases h1 : n < 1
  ·clear h0 hln
   go_enter Tryz.func28,Tryz.ntmps28
   go_wp2;go_ret;exact ⟨_,L,0,rfl,HM.out,World.grownBy.rfl' _ _,rfl,Int.le_refl _,.inl rfl,fun _=>rfl,Less.refl L⟩
  ·obtain ⟨z,L',rfl⟩ : ∃ z L',L = z :: L':=by
    cases L with
    | nil=>simp at hln; omega
    | cons z L'=>exact ⟨z,L',rfl⟩
   have hz:=HM.out.lb z (by simp)
   obtain ⟨hz0,hz1⟩:=hz;obtain ⟨ad,rfl,hl⟩:=HM.out.lr.rowsAt 0 z rfl;have d0 : w.cell? ad = some (.int .u8 z):=by
    have:=hl w HM.out.gr 0 _ rfl;rw [add_add'] at this
    simpa [byE,Addr.add] using this
   obtain ⟨k,rfl⟩ : ∃ k,ln = k + 1:=⟨ln - 1,by omega⟩
   have hcap : k + 1≤lc:=HM.out.lc;have hrun:=run_rest (w:=w) (ad:=ad) (n:=k) (c:=lc);clear h0 hl;have hlt : (0 : Int) < ((k + 1 : Nat) : Int):=by omega
   obtain ⟨ad',had⟩ : ∃ ad',(if lc = 1 then ad else ad.add 1) = ad':=⟨_,rfl⟩;rw [had] at hrun;have HL' : Hid (RowAt byE w0 (.slice (some ad') k (lc - 1)) L'):=show RowAt _ _ _ _ by
    obtain ⟨⟨xa,xc,q1,q2,q3⟩,q4⟩:=HM.out.lr;dsimp only at q1;cases q1;have q5:=q3 ad rfl;refine ⟨⟨some ad',lc - 1,rfl,fun h=>(by cases h),fun y hy=>?_⟩,?_⟩
    ·cases hy
     by_cases hc : lc = 1
     ·have : L' = []:=by
       have : L'.length = 0:=by omega
       exact List.eq_nil_of_length_eq_zero this
      subst this;intro j u hj
      simp at hj
     ·rw [if_neg hc] at had;subst had;intro j u hj;rw [add_add',Nat.add_comm 1 j];exact q5 (j + 1) u (by simpa [byE] using hj)
    ·have : byE.bytes = 1:=rfl;rw [this] at q4 ⊢
     simp at q4 ⊢
     omega
   have HBX : Hid (BoxT (w.setCell ⟨b,0,none⟩ (.slice (some ad') k (lc - 1))) b 91 [.slice (some ad') k (lc - 1),.slice V.f.a V.f.n V.f.c,.int .i64 m.hand,.slice V.s.a V.s.n V.s.c,.slice V.sb.a V.sb.n V.sb.c,.slice V.sq.a V.sq.n V.sq.c,.slice V.db.a V.db.n V.db.c,.slice V.dq.a V.dq.n V.dq.c,.slice V.fl.a V.fl.n V.fl.c,.int .i64 m.cnt,.slice V.ca.a V.ca.n V.ca.c,.slice V.sp.a V.sp.n V.sp.c,.slice vt.a vt.n vt.c]):=HM.out.box.set 0 _;have HGR : Hid (w.grownBy (w.setCell ⟨b,0,none⟩ (.slice (some ad') k (lc - 1))) (some b)):=⟨rfl,rfl,rfl,by simp [World.setCell],fun j _ hj=>Below.heap_setCell _ _ _ _ (fun e=>hj (by rw [e]))⟩
   have HSZ : Hid ((w.setCell ⟨b,0,none⟩ (.slice (some ad') k (lc - 1))).heap.size = w.heap.size):=show _ = _ by simp [World.setCell]
   have HMK : Hid (Mk w0 hi (w.setCell ⟨b,0,none⟩ (.slice (some ad') k (lc - 1))) b ⟨some ad',k,lc - 1⟩ L' V m vt T):=show Mk _ _ _ _ _ _ _ _ _ _ from
    ⟨grew_grown HM.out.gr HGR.out HM.out.hb,HM.out.hb,HBX.out,HL'.out,(show k≤lc - 1 by omega),fun y hy=>HM.out.lb y (by simp [hy]),HM.out.rows.var HGR.out HM.out.box (Nat.le_of_eq HSZ.out.symm) (.inl rfl)⟩
   have HX : Hid (0≤z % n∧z % n < n):=show _∧_ from ⟨Int.emod_nonneg _ (by omega),Int.emod_lt_of_pos _ (by omega)⟩
   clear hln hcap had
   go_enter Tryz.func28,Tryz.ntmps28
   go_wp2;go_ret;exact ⟨_,L',z % n,rfl,HMK.out,HGR.out,HSZ.out,HX.out.1,.inr HX.out.2,fun h=>(by cases h)⟩
theorem pgc_set (q : List Int) (i : Nat) (z : Int) : pgc (q.set i z) = (pgc q).set i (.int .u8 z):=by
 unfold pgc;rw [List.map_set]
theorem pgc_at {q : List Int} {i : Nat} {z : Int} (h : q[i]? = some z) : (pgc q)[i]? = some (.int .u8 z):=by
 unfold pgc;rw [List.getElem?_map,h];rfl
theorem Tryz.sizePg : (Tryz.prog.info? 50).map (·.size) = some 8:=by kernel_rfl
theorem page_any {w0 : World} {hi : Nat} {b : Nat} {vl : Sli} {L : List Int} {V : MaV} {m : Ma} {vt : Sli} {T : List (Nat→En)} {w : World} (h : Mk w0 hi w b vl L V m vt T) :
  Calls Tryz.prog 31 #[.pointer (some ⟨b,0,none⟩)] w fun e w'=>∃ vl' L' q,e = .returned (.agg (pgc q).toArray)∧q.length = 8∧Mk w0 hi w' b vl' L' V m vt T∧w.grownBy w' (some b)∧Less L L':=by
 have HM : Hid (Mk w0 hi w b vl L V m vt T):=h;obtain ⟨W0,hW0⟩ : ∃ W0,(w.alloc (.cells #[.int .u8 0,.int .u8 0,.int .u8 0,.int .u8 0,.int .u8 0,.int .u8 0,.int .u8 0,.int .u8 0] 50)).alloc (.cells #[.int .u8 0,.int .u8 0,.int .u8 0,.int .u8 0,.int .u8 0,.int .u8 0,.int .u8 0,.int .u8 0] 50) = W0:=⟨_,rfl⟩;have HG0 : Hid (Grew w W0):=show Grew _ _ by rw [←hW0]; exact (grew_alloc _ _).trans (grew_alloc _ _)
 have X0 : Hid (BoxT W0 w.heap.size 50 (pgc zero8)):=show BoxT _ _ _ _ by rw [←hW0]; exact (BoxT.top _ (pgc zero8) _ rfl).grew (grew_alloc _ _)
 have Y0 : Hid (BoxT W0 (w.heap.size + 1) 50 (pgc zero8)):=show BoxT _ _ _ _ by rw [←hW0]; exact BoxT.top _ (pgc zero8) _ (by simp)
 have HB : Hid (b < w.heap.size):=show _ < _ from h.box.box.lt
 have HH : Hid (hi≤w.heap.size):=show _≤_ from h.rows.hw
 have HW0 : Hid (_ = W0):=hW0;clear hW0 h
 go_enter Tryz.func31,Tryz.ntmps31
 go_upto_region 2 with fail;rw [HW0.out];go_wp2
 go_loopg [5] 8 (fun gg s5 wr=>∃ (kk : Nat) (vl' : Sli) (L' q : List Int),kk≤8∧8 - kk≤gg∧s5 = .int .i64 kk∧Hid (w.grownBy wr (some b))∧Hid (Mk w0 hi wr b vl' L' V m vt T)∧Hid (BoxT wr w.heap.size 50 (pgc zero8))∧Hid (BoxT wr (w.heap.size + 1) 50 (pgc q))∧Hid (q.length = 8)∧Hid (Less L L'))
 case atStart=>exact ⟨0,vl,L,zero8,Nat.zero_le _,by omega,rfl,grew_by HG0.out _,HM.out.grew HG0.out,X0.out,Y0.out,(show zero8.length = 8 from rfl),Less.refl L⟩
 case round =>
  obtain ⟨kk,vl',L',q,hkk,hgg,rfl,BW,MW,XW,YW,QL,LL⟩:=hrel;clear X0 Y0
  by_cases hlt : kk < 8
  ·have hltz : (kk : Int) < 8:=by omega
   have hpk:=pick_any 4 MW.out;go_wp2_with fail;refine hpk.mono ?_;clear hpk;rintro e W1 ⟨vl2,L2,x,rfl,mk1,gr1,sz1,x0,x1,xn,ll⟩;have hx4 : x < 4:=by rcases x1 with h | h <;> omega
   have M1 : Hid (Mk w0 hi W1 b vl2 L2 V m vt T):=mk1;have B1 : Hid (w.grownBy W1 (some b)):=grown_trans BW.out gr1;have X1 : Hid (BoxT W1 w.heap.size 50 (pgc zero8)):=XW.out.beside gr1 (fun g e=>by cases e; have:=HB.out; omega)
   have Y1 : Hid (BoxT W1 (w.heap.size + 1) 50 (pgc q)):=YW.out.beside gr1 (fun g e=>by cases e; have:=HB.out; omega)
   have LL1 : Hid (Less L L2):=LL.out.trans ll;clear mk1 gr1 sz1 x1 xn ll;obtain ⟨z,hz⟩ : ∃ z,q[kk]? = some z:=⟨_,List.getElem?_eq_getElem (by rw [QL.out]; exact hlt)⟩
   have y0:=Y1.out.box.c kk (pgc_at hz);have yf:=Y1.out.box.f;have GS : Hid (W1.grownBy (W1.setCell ⟨w.heap.size + 1,kk,none⟩ (.int .u8 x)) (some (w.heap.size + 1))):=⟨rfl,rfl,rfl,by simp [World.setCell],fun j _ hj=>Below.heap_setCell _ _ _ _ (fun e=>hj (by rw [e]))⟩
   have Y2 : Hid (BoxT (W1.setCell ⟨w.heap.size + 1,kk,none⟩ (.int .u8 x)) (w.heap.size + 1) 50 (pgc (q.set kk x))):=show BoxT _ _ _ _ by rw [pgc_set]; exact Y1.out.set kk _
   have X2 : Hid (BoxT (W1.setCell ⟨w.heap.size + 1,kk,none⟩ (.int .u8 x)) w.heap.size 50 (pgc zero8)):=X1.out.beside GS.out (fun g e=>by cases e; omega)
   have M2 : Hid (Mk w0 hi (W1.setCell ⟨w.heap.size + 1,kk,none⟩ (.int .u8 x)) b vl2 L2 V m vt T):=show Mk _ _ _ _ _ _ _ _ _ _ from
    ⟨grew_grown M1.out.gr GS.out (by have:=Below.size HM.out.gr; omega),M1.out.hb,M1.out.box.beside GS.out (fun g e=>by cases e; have:=HB.out; omega),M1.out.lr,M1.out.lc,M1.out.lb,M1.out.rows.var GS.out Y1.out (by simp [World.setCell]) (.inr ⟨rfl,by have:=HH.out; omega⟩)⟩
   have B2 : Hid (w.grownBy (W1.setCell ⟨w.heap.size + 1,kk,none⟩ (.int .u8 x)) (some b)):=show World.grownBy _ _ _ from ⟨B1.out.os,B1.out.tape,B1.out.output,by simp [World.setCell]; exact B1.out.size,fun j hj hn=>by
    rw [Below.heap_setCell _ _ _ _ (by simp; omega)]
    exact B1.out.block j hj hn⟩
   clear hz;go_wp2
   go_roundg (8 - (kk + 1))
   case measure=>omega
   case rel=>exact ⟨kk + 1,vl2,L2,q.set kk x,by omega,by omega,by go_num,B2.out,M2.out,X2.out,Y2.out,(show _ = _ by rw [List.length_set]; exact QL.out),LL1.out⟩
  ·have hltz : ¬ (kk : Int) < 8:=by omega
   have : kk = 8:=by omega
   subst this;have HP : Hid ((pgc q).length = 8):=show _ = _ by rw [pgc_len]; exact QL.out
   go_wp2_with (first | (refine wp_loadAll rfl 50 (.tmp 3) rfl (w.heap.size + 1) rfl YW.out.box Tryz.underlying50 rfl (by rw [HP.out]; exact Tryz.sizePg) ?_) | (refine wp_storeAll rfl 50 (.tmp 2) (.tmp 14) rfl w.heap.size rfl (pgc q) rfl XW.out.box (by rw [HP.out]; rfl) Tryz.sizePg (pgc_one q) ?_))
   intro W5 hb5 hg5 sz5;have M5 : Hid (Mk w0 hi W5 b vl' L' V m vt T):=show Mk _ _ _ _ _ _ _ _ _ _ from
    ⟨grew_grown MW.out.gr hg5 (Below.size HM.out.gr),MW.out.hb,MW.out.box.beside hg5 (fun g e=>by cases e; have:=HB.out; omega),MW.out.lr,MW.out.lc,MW.out.lb,MW.out.rows.var hg5 XW.out (Nat.le_of_eq sz5.symm) (.inr ⟨rfl,HH.out⟩)⟩
   have B5 : Hid (w.grownBy W5 (some b)):=show World.grownBy _ _ _ from ⟨hg5.os.trans BW.out.os,hg5.tape.trans BW.out.tape,hg5.output.trans BW.out.output,Nat.le_trans BW.out.size hg5.size,fun j hj hn=>by
    rw [hg5.block j (Nat.lt_of_lt_of_le hj BW.out.size) (fun e=>by cases e; omega)]
    exact BW.out.block j hj hn⟩
   go_wp2;refine bodyPost_ret (ret_cell rfl _ rfl hb5 Tryz.underlying50 rfl (by rw [HP.out]; exact Tryz.sizePg)) rfl ⟨vl',L',q,rfl,QL.out,M5.out,B5.out,LL.out⟩
theorem run_nilc {P : Program} {a : Act} {o : Oper} {w : World} (x : Operand) (p : Addr) (ho : o.op = .nilCheck x) (hx : a.eval x = .pointer (some p)) : (execOp a.eval o).run P w = .ok (.value (.pointer (some p))) w:=by
 simp [execOp,ho,hx]
section
variable {I : World→Prop} {P : Program} {ops : Array Oper} {o : Oper} {rest : List Oper} {k : Nat} {F : Nat→World→Prop} {a : Act} {Q : Act→World→Prop}
theorem laxC_nilc {S : Nat→Option (Value→Prop)} (x : Operand) (p : Addr) (ho : o.op = .nilCheck x) (hx : a.eval x = .pointer (some p)) (hw : Region.wanted o (yielded ops a.tmps) = true) (hS : S k = none) (h : WLaxC I P ops S Q rest (k + 1) F (a.put o.dst (.pointer (some p)))) : WLaxC I P ops S Q (o :: rest) k F a:=by
 constructor;unfold wpLaxC;rw [if_pos hw];simp only [hS];exact ⟨_,fun w _ _=>run_nilc x p ho hx,h.out⟩
theorem laxI_nilc {S : Nat→Option SpecI} (x : Operand) (p : Addr) (ho : o.op = .nilCheck x) (hx : a.eval x = .pointer (some p)) (hw : Region.wanted o (yielded ops a.tmps) = true) (hS : S k = none) (h : WLaxI I P ops S Q rest (k + 1) F (a.put o.dst (.pointer (some p)))) : WLaxI I P ops S Q (o :: rest) k F a:=by
 constructor;unfold wpLaxI;rw [if_pos hw];simp only [hS];exact ⟨_,fun w _ _=>run_nilc x p ho hx,h.out⟩
end
def Loc (hi p : Nat) (t : TypeId) : Prop:=t≠91∧t≠59∧t≠3∧t≠95∧t≠71∧t≠87∧t≠65∧t≠77∧(t = 50→hi≤p)
def Keeps (hi : Nat) (w w' : World) : Prop:=(∀ p t cs,BoxT w p t cs→Loc hi p t→BoxT w' p t cs)∧w.heap.size≤w'.heap.size
theorem Keeps.trans {hi : Nat} {a b c : World} (h : Keeps hi a b) (k : Keeps hi b c) : Keeps hi a c:=⟨fun p t cs h1 h2=>k.1 p t cs (h.1 p t cs h1 h2) h2,Nat.le_trans h.2 k.2⟩
theorem Keeps.grew {hi : Nat} {a b : World} (h : Grew a b) : Keeps hi a b:=⟨fun _ _ _ h1 _=>h1.grew h,Below.size h⟩
theorem Keeps.kind {hi g : Nat} {w w' : World} {cs : Array Value} {t : TypeId} (hg : w.grownBy w' (some g)) (ho : w.heap[g]? = some (.cells cs t (0,0))) (hn : ∀ p,Loc hi p t→p≠g) : Keeps hi w w':=⟨fun p u ds h1 h2=>h1.beside hg (fun k e=>by
 cases e;intro he;subst he;have h3 : w.heap[p]? = some (.cells ds.toArray u (0,0)):=h1;rw [ho] at h3;simp only [Option.some.injEq,Obj.cells.injEq] at h3;obtain ⟨_,rfl,_⟩:=h3;exact hn p h2 rfl),hg.size⟩
theorem Mk.keeps {w0 w w' : World} {hi b : Nat} {vl : Sli} {L : List Int} {V : MaV} {m : Ma} {vt : Sli} {T : List (Nat→En)} (h : Mk w0 hi w b vl L V m vt T) (hg : w.grownBy w' (some b)) : Keeps hi w w':=Keeps.kind hg h.box (fun _ hl=>absurd rfl hl.1)
def MkE (w0 : World) (hi b : Nat) (w : World) (L : List Int) (V : MaV) (m : Ma) (vt : Sli) (T : List (Nat→En)) (w' : World) : Prop:=∃ vl' L',Mk w0 hi w' b vl' L' V m vt T∧Less L L'∧Keeps hi w w'
theorem emod_in {a n : Nat} (h : 0 < n) : ((a : Int) % (n : Int)) = ((a % n : Nat) : Int)∧a % n < n:=⟨by omega,Nat.mod_lt _ h⟩
theorem frame_any {w0 : World} {hi : Nat} {b : Nat} {vl : Sli} {L : List Int} {V : MaV} {m : Ma} {vt : Sli} {T : List (Nat→En)} {w : World} (f : Fr) (h : Mk w0 hi w b vl L V m vt T) :
  Calls Tryz.prog 120 #[.pointer (some ⟨b,0,none⟩),.agg (frv f).toArray] w fun e w'=>(e = .returned (.int .i64 (-1))∧MkE w0 hi b w L V m vt T w')∨∃ (j : Nat) (q : Fr),e = .returned (.int .i64 (j : Int))∧m.fs[j]? = some q∧q.r = 0∧MkE w0 hi b w L V { m with fs:=m.fs.set j f } vt T w':=by
 have HM : Hid (Mk w0 hi w b vl L V m vt T):=h;obtain ⟨W0,hW0⟩ : ∃ W0,w.alloc (.cells #[.int .u8 f.p.b0,.int .u8 f.p.b1,.int .u8 f.p.b2,.int .u8 f.p.b3,.int .u8 f.p.b4,.int .u8 f.p.b5,.int .u8 f.p.b6,.int .u8 f.p.b7,.int .i64 f.r,.bool f.u,.bool f.d,.int .i64 f.f,.int .i64 f.x] 59) = W0:=⟨_,rfl⟩;have HG0 : Hid (Grew w W0):=show Grew _ _ by rw [←hW0]; exact grew_alloc _ _
 have X0 : Hid (BoxT W0 w.heap.size 59 (frv f)):=show BoxT _ _ _ _ by rw [←hW0]; exact BoxT.top _ (frv f) _ rfl
 have M0 : Hid (Mk w0 hi W0 b vl L V m vt T):=h.grew HG0.out;have HNF : Hid (V.f.n = m.fs.length):=h.rows.fs.n;have hbig : V.f.n≤140737488355328:=by
  have h1:=h.rows.fs.2;have h40 : frmE.bytes = 40:=rfl;rw [h40] at h1;have:=h.rows.fs.n;omega
 have HB : Hid (b < w.heap.size):=show _ < _ from h.box.box.lt
 have HFG : Hid (∀ g,(Value.slice V.f.a V.f.n V.f.c).ownBlock = some g→g < w.heap.size):=show ∀ g,_ from fun g hg=>(h.rows.fs.lt g hg).2
 have HW0 : Hid (_ = W0):=hW0;clear hW0 h
 go_enter Tryz.func120,Tryz.ntmps120
 go_upto_region 1 with fail;have hw : w.alloc (.cells (frv f).toArray 59) = W0:=HW0.out;try rw [hw]
 try rw [HW0.out]
 clear hw;have x1:=M0.out.box.box.c 1 rfl;go_upto_region 2 with fail;clear x1;obtain ⟨n,HN⟩ : ∃ n,Hid (V.f.n = n):=⟨_,rfl⟩;rw [HN.out] at hbig ⊢;have hpk:=pick_any (n : Int) M0.out;go_wp2_with fail;refine hpk.mono ?_;clear hpk;rintro e W1 ⟨vl1,L1,x,rfl,mk1,gr1,sz1,x0,x1,xn,ll⟩;obtain ⟨fr,rfl⟩ : ∃ fr : Nat,x = (fr : Int):=⟨x.toNat,by omega⟩
 have hfr : fr≤n:=by rcases x1 with h | h <;> omega
 have M1 : Hid (Mk w0 hi W1 b vl1 L1 V m vt T):=mk1;have K1 : Hid (Keeps hi w W1):=(Keeps.grew HG0.out).trans (M0.out.keeps gr1);have X1 : Hid (BoxT W1 w.heap.size 59 (frv f)):=X0.out.beside gr1 (fun g e=>by cases e; have:=HB.out; omega)
 have LL1 : Hid (Less L L1):=ll;clear mk1 gr1 sz1 x1 xn ll x0 M0 X0;go_wp2
 go_loopg [20] n (fun gg s20 wr=>∃ i : Nat,i≤n∧n - i≤gg∧s20 = .int .i64 i∧wr = W1)
 case atStart=>exact ⟨0,Nat.zero_le _,by omega,rfl,rfl⟩
 case round =>
  obtain ⟨i,hi',hgg,rfl,rfl⟩:=hrel
  by_cases hlt : i < n
  ·have hltz : (i : Int) < (n : Int):=by omega
   have hn0 : ¬ (n : Int) = 0:=by omega
   have hn1 : ((n : Int) == 0) = false:=by simp; omega
   obtain ⟨j,hj⟩ : ∃ j : Nat,(fr + i) % n = j:=⟨_,rfl⟩;have hjm : ((fr : Int) + (i : Int)) % (n : Int) = (j : Int):=by
    rw [←hj];have:=(emod_in (a:=fr + i) (n:=n) (by omega)).1
    rw [←this];rfl
   have hjn : j < n:=by rw [←hj]; exact Nat.mod_lt _ (by omega)
   have hjz : (j : Int) < (n : Int):=by omega
   clear hj;obtain ⟨q,HQ⟩ : ∃ q,Hid (m.fs[j]? = some q):=⟨_,List.getElem?_eq_getElem (by rw [←HNF.out,HN.out]; exact hjn)⟩
   obtain ⟨g,c',heq⟩:=M1.out.rows.fs.formS (by rw [←HNF.out,HN.out]; omega)
   have hfl : m.fs.length = n:=by rw [←HNF.out,HN.out]
   rw [hfl] at heq;have HEQ : Hid (Value.slice V.f.a V.f.n V.f.c = .slice (some ⟨g,0,none⟩) n c'):=heq;have x1:=M1.out.box.box.c 1 rfl;rw [HEQ.out] at x1;have hrw:=M1.out.rows.fs;rw [HEQ.out] at hrw;have HRW : Hid (OwnRow frmE w0.heap.size wr (.slice (some ⟨g,0,none⟩) n c') m.fs):=hrw;have HGL : Hid (g < w.heap.size):=HFG.out g (by rw [HEQ.out]; rfl)
   have hce:=hrw.one HQ.out;have d8 : wr.cell? ⟨g,j * 13 + 8,none⟩ = some (.int .i64 q.r):=by
    have:=hce 8 _ rfl;rw [add_add',Addr.add_lit,Nat.zero_add] at this;exact this
   clear hce hrw heq hfl
   by_cases hr : q.r = 0
   ·have hre : (q.r == 0) = true:=by simp [hr]
    have HR0 : Hid (q.r = 0):=hr;clear hr;go_upto_region 8 with fail;clear d8;obtain ⟨I,hI⟩ : ∃ I : World→Prop,I = fun u=>Grew wr u:=⟨_,rfl⟩
    have HI : Hid (∀ u,I u↔Grew wr u):=show ∀ u,_ from fun u=>by rw [hI]
    clear hI;have hI0 : I wr.drew:=(HI.out _).2 (show Below _ _ _ from (Below.refl _ _).drew)
    have hx1 : ∀ y : HoldI I,y.world.cell? ⟨b,1,none⟩ = some (.slice (some ⟨g,0,none⟩) n c'):=fun y=>by rw [←HEQ.out]; exact (M1.out.box.box.grew ((HI.out _).1 y.holds)).c 1 rfl
    have hf0 : ∀ y : HoldI I,y.world.cell? ⟨w.heap.size,0,none⟩ = some (.int .u8 f.p.b0):=fun y=>(X1.out.box.grew ((HI.out _).1 y.holds)).c 0 rfl
    have hf1 : ∀ y : HoldI I,y.world.cell? ⟨w.heap.size,1,none⟩ = some (.int .u8 f.p.b1):=fun y=>(X1.out.box.grew ((HI.out _).1 y.holds)).c 1 rfl
    have hf2 : ∀ y : HoldI I,y.world.cell? ⟨w.heap.size,2,none⟩ = some (.int .u8 f.p.b2):=fun y=>(X1.out.box.grew ((HI.out _).1 y.holds)).c 2 rfl
    have hf3 : ∀ y : HoldI I,y.world.cell? ⟨w.heap.size,3,none⟩ = some (.int .u8 f.p.b3):=fun y=>(X1.out.box.grew ((HI.out _).1 y.holds)).c 3 rfl
    have hf4 : ∀ y : HoldI I,y.world.cell? ⟨w.heap.size,4,none⟩ = some (.int .u8 f.p.b4):=fun y=>(X1.out.box.grew ((HI.out _).1 y.holds)).c 4 rfl
    have hf5 : ∀ y : HoldI I,y.world.cell? ⟨w.heap.size,5,none⟩ = some (.int .u8 f.p.b5):=fun y=>(X1.out.box.grew ((HI.out _).1 y.holds)).c 5 rfl
    have hf6 : ∀ y : HoldI I,y.world.cell? ⟨w.heap.size,6,none⟩ = some (.int .u8 f.p.b6):=fun y=>(X1.out.box.grew ((HI.out _).1 y.holds)).c 6 rfl
    have hf7 : ∀ y : HoldI I,y.world.cell? ⟨w.heap.size,7,none⟩ = some (.int .u8 f.p.b7):=fun y=>(X1.out.box.grew ((HI.out _).1 y.holds)).c 7 rfl
    have hf8 : ∀ y : HoldI I,y.world.cell? ⟨w.heap.size,8,none⟩ = some (.int .i64 f.r):=fun y=>(X1.out.box.grew ((HI.out _).1 y.holds)).c 8 rfl
    have hf9 : ∀ y : HoldI I,y.world.cell? ⟨w.heap.size,9,none⟩ = some (.bool f.u):=fun y=>(X1.out.box.grew ((HI.out _).1 y.holds)).c 9 rfl
    have hf10 : ∀ y : HoldI I,y.world.cell? ⟨w.heap.size,10,none⟩ = some (.bool f.d):=fun y=>(X1.out.box.grew ((HI.out _).1 y.holds)).c 10 rfl
    have hf11 : ∀ y : HoldI I,y.world.cell? ⟨w.heap.size,11,none⟩ = some (.int .i64 f.f):=fun y=>(X1.out.box.grew ((HI.out _).1 y.holds)).c 11 rfl
    have hf12 : ∀ y : HoldI I,y.world.cell? ⟨w.heap.size,12,none⟩ = some (.int .i64 f.x):=fun y=>(X1.out.box.grew ((HI.out _).1 y.holds)).c 12 rfl
    have hne : Nonempty (HoldI I):=⟨⟨_,hI0⟩⟩;refine wp_lax_tailC (I:=I) 9 [] hI0 mixed (by kernel_rfl) rfl rfl (by decide) (by simp) (by kernel_rfl) ?_
    simp only [List.take,List.drop];iterate 1 (refine laxC_quiet rfl rfl rfl (fun K hK=>?_); go_big_quiet_op; refine hK _ ?_; clear hK K)
    refine laxC_nilc (.tmp 39) ⟨b,0,none⟩ rfl rfl rfl rfl ?_;simp only [Act.put,List.setIfInBounds_toArray,List.set_cons_succ,List.set_cons_zero];iterate 7 (refine laxC_quiet rfl rfl rfl (fun K hK=>?_); go_big_quiet_op; refine hK _ ?_; clear hK K)
    refine laxC_nil fun W2 hI2 hF=>?_
    have hg2:=(HI.out _).1 hI2;have M2 : Hid (Mk w0 hi W2 b vl1 L1 V m vt T):=M1.out.grew hg2;have R2 : Hid (OwnRow frmE w0.heap.size W2 (.slice (some ⟨g,0,none⟩) n c') m.fs):=HRW.out.grew hg2;have K2 : Hid (Keeps hi w W2):=K1.out.trans (Keeps.grew hg2);clear hg2 hI2 hF hx1 hf0 hf1 hf2 hf3 hf4 hf5 hf6 hf7 hf8 hf9 hf10 hf11 hf12 hne hI0;refine wpList_store_elt (E:=frmE) rfl (.tmp 47) (.tmp 46) rfl w0.heap.size _ m.fs R2.out g j rfl f (by rw [←HNF.out,HN.out]; exact hjn) ⟨g,j * 13,none⟩ rfl rfl (.agg (frv f).toArray) rfl rfl ?_
    intro W3 ow3 gr3 sz3;have M3 : Hid (Mk w0 hi W3 b vl1 L1 V { m with fs:=m.fs.set j f } vt T):=show Mk _ _ _ _ _ _ _ _ _ _ by
     have hob : (Value.slice V.f.a V.f.n V.f.c).ownBlock = some g:=by rw [HEQ.out]; rfl
     have h2:=M2.out;refine ⟨grew_grown h2.gr gr3 (R2.out.lt g rfl).1,h2.hb,h2.box.beside gr3 (fun k e=>?_),h2.lr,h2.lc,h2.lb,h2.rows.setF hob gr3 sz3 (by rw [HEQ.out]; exact ow3)⟩
     cases e;exact R2.out.ne h2.box (by decide) g rfl
    have K3 : Hid (Keeps hi w W3):=show Keeps _ _ _ by
     obtain ⟨cs,hcs⟩:=R2.out.obj (g:=g) rfl;exact K2.out.trans (Keeps.kind gr3 hcs (fun _ hl=>absurd rfl hl.2.1))
    clear ow3 gr3 sz3;go_wp2;go_ret;exact .inr ⟨j,q,rfl,HQ.out,HR0.out,vl1,L1,M3.out,LL1.out,K3.out⟩
   ·have hre : (q.r == 0) = false:=by simp [hr]
    clear hr;go_wp2
    go_roundg (n - (i + 1))
    case measure=>omega
    case rel=>exact ⟨i + 1,by omega,by omega,by go_num,rfl⟩
  ·have hltz : ¬ (i : Int) < (n : Int):=by omega
   go_wp2;go_ret;exact .inl ⟨rfl,vl1,L1,M1.out,LL1.out,K1.out⟩
theorem mem_set_len {ps : List (List Int)} {i : Nat} {l : List Int} (h : ∀ p∈ps,p.length = 8) (hl : l.length = 8) : ∀ p∈ps.set i l,p.length = 8:=fun p hp=>by
 rcases List.mem_or_eq_of_mem_set hp with h1 | h1
 ·exact h p h1
 ·rw [h1]; exact hl
theorem wpList_store_page {w : World} {ops : Array Oper} {rest : List Oper} {o : Oper} {a : Act} {Q : Exit→Act→World→Prop} (hgd : o.guard = none) (p x : Operand) (ho : o.op = .store 50 p x)
  (base : Nat) (v : Value) (ps : List (List Int)) (hown : OwnPages base w v ps) (g i : Nat) (hg : v.ownBlock = some g) (hi : i < ps.length) (l : List Int) (hl : l.length = 8)
  (ad : Addr) (hp : a.eval p = .pointer (some ad)) (had : ad = ⟨g,i * 8,none⟩) (hx : a.eval x = .agg (pgc l).toArray)
  (h : ∀ w',OwnPages base w' v (ps.set i l)→w.grownBy w' (some g)→w'.heap.size = w.heap.size→wpList Tryz.prog ops Q rest (a.put o.dst undef) w') : wpList Tryz.prog ops Q (o :: rest) a w:=by
 refine wpList_store_row hgd p x 50 ho 8 (by kernel_rfl) base v ps.length _ hown.1 g i hg hi (pgc l) (by rw [pgc_len,hl]) (pgc_one l) ad hp had hx fun w' h1 h2 h3=>?_
 rw [splice_set l (by rw [pgc_len,hl]) ps i (fun b hb=>by rw [pgc_len,hown.2.1 b hb]) hi] at h1
 refine h w' ⟨by rw [List.length_set]; exact h1,mem_set_len hown.2.1 hl,by rw [List.length_set]; exact hown.2.2⟩ h2 h3
theorem nilDisk (base : Nat) (w : World) : NewDisk base w (.agg #[.slice none 0 0,.slice none 0 0]) [] [] :=
 ⟨_,_,rfl,⟨⟨none,0,rfl,fun _=>rfl,fun x hx=>by cases hx⟩,by simp,by simp⟩,⟨⟨none,0,rfl,fun _=>rfl,fun x hx=>by cases hx⟩,by simp,by simp⟩,fresh_nil _,fresh_nil _⟩
theorem nilPuts (w : World) : PutsAt w (.slice none 0 0) []:=⟨⟨none,0,rfl,fun _=>rfl,fun x hx=>by cases hx⟩,by simp,by simp⟩
def newErr (n : Int) : Int:=if 0≤n∧n≤80 then 0 else 4
def newD (n : Int) : List (List Int):=if 0≤n∧n≤80 then List.replicate n.toNat zero8 else []
theorem made_pages (n : Nat) : (madeCells #[.int .u8 0,.int .u8 0,.int .u8 0,.int .u8 0,.int .u8 0,.int .u8 0,.int .u8 0,.int .u8 0] (n * 8)).toList = (List.replicate n zero8).flatMap pgc:=by
 have hl : ((List.replicate n zero8).flatMap pgc).length = n * 8:=by rw [flatMap_len (k:=8) _ (fun a ha=>by rw [List.eq_of_mem_replicate ha]; rfl)]; simp
 apply List.ext_getElem?
 intro j
 rcases Nat.lt_or_ge j (n * 8) with h | h
 ·have hj : j = j / 8 * 8 + j % 8:=by omega
  have h8 : j % 8 < 8:=Nat.mod_lt _ (by decide)
  have hq : j / 8 < n:=by omega
  have hz : (pgc zero8)[j % 8]? = some (.int .u8 0):=by
   generalize j % 8 = k at h8
   match k,h8 with
   | 0,_=>rfl
   | 1,_=>rfl
   | 2,_=>rfl
   | 3,_=>rfl
   | 4,_=>rfl
   | 5,_=>rfl
   | 6,_=>rfl
   | 7,_=>rfl
  have h1:=flatMap_elem (enc:=pgc) (k:=8) (List.replicate n zero8) (j / 8) zero8 (fun a ha=>by rw [List.eq_of_mem_replicate ha]; rfl) (by simp [hq]) (j % 8) _ hz
  rw [←hj] at h1;rw [h1];have : (#[Value.int .u8 0,.int .u8 0,.int .u8 0,.int .u8 0,.int .u8 0,.int .u8 0,.int .u8 0,.int .u8 0] : Array Value)[j % 8]! = .int .u8 0:=by
   generalize j % 8 = k at h8
   match k,h8 with
   | 0,_=>rfl
   | 1,_=>rfl
   | 2,_=>rfl
   | 3,_=>rfl
   | 4,_=>rfl
   | 5,_=>rfl
   | 6,_=>rfl
   | 7,_=>rfl
  simp [madeCells,h]
  simpa using this
 ·rw [List.getElem?_eq_none (by simp [madeCells]; exact h),List.getElem?_eq_none (by rw [hl]; exact h)]
theorem wpList_make_pages {w : World} {ops : Array Oper} {rest : List Oper} {o : Oper} {a : Act} {Q : Exit→Act→World→Prop} (hgd : o.guard = none) (l : Operand) (ho : o.op = .makeSlice 30 l l) (n : Nat) (hl : a.eval l = .int .i64 n) (hn : n≤80)
  (h : ∀ C,OwnPages w.heap.size (w.alloc (.cells C 50)) (.slice (some ⟨w.heap.size,0,none⟩) n n) (List.replicate n zero8)→wpList Tryz.prog ops Q rest (a.put o.dst (.slice (some ⟨w.heap.size,0,none⟩) n n)) (w.alloc (.cells C 50))) : wpList Tryz.prog ops Q (o :: rest) a w:=by
 refine wpList_plain hgd fun K hK=>?_
 obtain ⟨i0,hi,hz0,hz1,hz2⟩:=info_parts Tryz.infoPage;have hrun:=run_make (P:=Tryz.prog) w 30 50 i0 _ Tryz.underlying30 hi hz0 .i64 .i64 n n (by omega) (Int.le_refl _) (by rw [hz2]; omega) (by omega)
 rw [hz1,Int.toNat_natCast] at hrun;unfold Oper.wp;simp only [execOp,ho,hl,Sem.run_bind,hrun,Result.andThen,Sem.run_pure,Oper.upon];refine hK _ _ (h _ ⟨⟨?_,.inr ⟨w.heap.size,n,madeCells #[.int .u8 0,.int .u8 0,.int .u8 0,.int .u8 0,.int .u8 0,.int .u8 0,.int .u8 0,.int .u8 0] (n * 8),by rw [List.length_replicate],Nat.le_refl _,?_,?_,?_,?_,?_⟩⟩,fun p hp=>by rw [List.eq_of_mem_replicate hp]; rfl,by rw [List.length_replicate]; omega⟩)
 ·rw [flatMap_len (k:=8) _ (fun a ha=>by rw [List.eq_of_mem_replicate ha]; rfl)]
 ·show (w.heap.push _)[w.heap.size]? = _
  simp [Value.cells]
 ·rw [List.length_replicate]; exact Nat.le_refl _
 ·exact maxLen_of (by omega)
 ·rw [size_madeCells]
 ·rw [List.length_replicate]
  show (madeCells #[.int .u8 0,.int .u8 0,.int .u8 0,.int .u8 0,.int .u8 0,.int .u8 0,.int .u8 0,.int .u8 0] (n * 8)).toList.take (n * 8) = _
  rw [List.take_of_length_le (by simp [madeCells]),made_pages]
theorem new_any (n : Int) (w : World) :
  Calls Tryz.prog 68 #[.int .i64 n] w fun e w'=>∃ d',e = .returned (.tuple #[d',.int .i64 (newErr n)])∧NewDisk w.heap.size w' d' (newD n) []∧Grew w w':=by
 by_cases h : 0≤n∧n≤80
 ·have HE : Hid (newErr n = 0):=show newErr n = 0 by unfold newErr; rw [if_pos h]
  have HD : Hid (newD n = List.replicate n.toNat zero8):=show newD n = _ by unfold newD; rw [if_pos h]
  obtain ⟨k,rfl⟩:=Int.eq_ofNat_of_zero_le h.1;have h0 : ¬ (k : Int) < 0:=by omega
  have h1 : ¬ (80 : Int) < (k : Int):=by omega
  have hk : k≤80:=by omega
  have HG0 : Hid (Grew w (w.alloc (.cells #[.slice none 0 0,.slice none 0 0] 33))):=grew_alloc _ _;rw [HE.out]
  go_enter Tryz.func68,Tryz.ntmps68
  go_wp2_with (refine wpList_make_pages rfl (.tmp 11) rfl k rfl hk ?_; intro C ow; have OW : Hid (OwnPages (w.alloc (.cells #[.slice none 0 0,.slice none 0 0] 33)).heap.size ((w.alloc (.cells #[.slice none 0 0,.slice none 0 0] 33)).alloc (.cells C 50)) (.slice (some ⟨(w.alloc (.cells #[.slice none 0 0,.slice none 0 0] 33)).heap.size,0,none⟩) k k) (List.replicate k zero8)):=ow; clear ow)
  refine bodyPost_ret (v:= .tuple #[.agg #[.slice (some ⟨w.heap.size + 1,0,none⟩) k k,.slice none 0 0],.int .i64 0]) (by simp [results,Tryz.results68,go_sem, *]) rfl ⟨_,rfl,?_,?_⟩
  ·rw [HD.out];have ho:=OW.out;rw [World.size_alloc] at ho;exact ⟨_,_,rfl,OwnPages.at (base:=w.heap.size + 1) ⟨ownsRow_same ho.1 (fun k hk=>alloc2_same w _ _ _ k hk),ho.2⟩,nilPuts _,fun x n c e=>by cases e; simp,fresh_nil _⟩
  ·exact (grew_alloc _ _).trans (grew_alloc _ _)
 ·have HE : Hid (newErr n = 4):=show newErr n = 4 by unfold newErr; rw [if_neg h]
  have HD : Hid (newD n = []):=show newD n = _ by unfold newD; rw [if_neg h]
  rw [HE.out,HD.out]
  by_cases h0 : n < 0
  ·clear h
   go_enter Tryz.func68,Tryz.ntmps68
   go_wp2;refine bodyPost_ret (v:= .tuple #[.agg #[.slice none 0 0,.slice none 0 0],.int .i64 4]) (by simp [results,Tryz.results68,go_sem]) rfl ⟨_,rfl,nilDisk _ _,?_⟩
   exact grew_alloc _ _
  ·have h1 : (80 : Int) < n:=by omega
   clear h
   go_enter Tryz.func68,Tryz.ntmps68
   go_wp2;refine bodyPost_ret (v:= .tuple #[.agg #[.slice none 0 0,.slice none 0 0],.int .i64 4]) (by simp [results,Tryz.results68,go_sem]) rfl ⟨_,rfl,nilDisk _ _,?_⟩
   exact grew_alloc _ _
end
section
open Go.RowKit Go.Shelf
structure P9 where
 (i m b0 b1 b2 b3 b4 b5 b6 b7 : Int)
theorem wrongAtL_zero {n : Nat} {qs : List (Int × List Int)} {m : Int} (h : wrongAtL n qs m = 0) : wrongL n qs = 0 ∧ ∃ i : Nat, m = (i : Int) ∧ i < n := by
  unfold wrongAtL at h
  by_cases h1 : wrongL n qs = 0
  · rw [if_pos h1] at h
    refine ⟨h1, ?_⟩
    cases hb : dkInB m n with
    | false => rw [hb] at h; simp at h
    | true =>
      unfold dkInB at hb
      simp at hb
      obtain ⟨i, hi⟩ := Int.eq_ofNat_of_zero_le hb.1
      exact ⟨i, hi, by omega⟩
  · rw [if_neg h1] at h; exact absurd h h1
end
section
open Go.RowKit
def writeB (ps : List (List Int)) (qs : List (Int × List Int)) : List (List Int) := if qs.length = 400 then ps.set (qs.headD (0, [])).1.toNat (qs.headD (0, [])).2 else ps
def writeDP (ps : List (List Int)) (qs : List (Int × List Int)) (m : Int) : List (List Int) := if wrongAtL ps.length qs m = 0 then writeB ps qs else []
theorem al1 : newErr 3 = 0:=by decide
theorem al2 : newD 3 = [zero8,zero8,zero8]:=by decide
theorem al3 : wrongAtL [zero8,zero8,zero8].length [] 1 = 0:=by decide
theorem al4 : writeDP [zero8,zero8,zero8] [] 1 = [zero8,zero8,zero8]:=by decide
def pickQ : Option (Int × List Int)→List Int→List Int
 | some q,_=>q.2
 | none,d=>d
theorem readL_of {ps : List (List Int)} {qs : List (Int × List Int)} {m : Int} (h : wrongAtL ps.length qs m = 0) : readL ps qs m = pickQ (qs.reverse.find? (fun q=>q.1 == m)) (ps.getD m.toNat zero8):=by
 unfold readL;rw [if_pos h]
 cases qs.reverse.find? (fun q=>q.1 == m) <;> rfl
theorem refWrong_any (a : Option Addr) (n c : Nat) (qv : Value) (qs : List (Int × List Int)) (w : World) (hq : PutsAt w qv qs) :
  Calls Tryz.prog 91 #[.agg #[.slice a n c,qv]] w fun e w'=>e = .returned (.int .i64 (wrongL n qs))∧Grew w w':=by
 have HL : Hid (wrongL n qs = if 80 < n then 4 else if 400 < qs.length then 4 else if qs.any (fun q=>!dkInB q.1 n) then 3 else 0):=rfl
 have hbig : qs.length≤9223372036854775807:=by have:=hq.2.2; omega
 obtain ⟨a2,c2,rfl,hrow⟩:=hq.rows;have HRQ : Hid (PutRows w a2 qs):=hrow;clear hq hrow;obtain ⟨kq,HN⟩ : ∃ kq,Hid (qs.length = kq):=⟨_,rfl⟩;rw [HN.out] at HL hbig ⊢
 by_cases h1 : 80 < n
 ·have h1' : (80 : Int) < (n : Int):=by omega
  rw [if_pos h1] at HL
  go_enter Tryz.func91,Tryz.ntmps91
  go_wp2;go_ret;exact ⟨by rw [HL.out]; rfl,grew_alloc _ _⟩
 ·have h1' : ¬ (80 : Int) < (n : Int):=by omega
  rw [if_neg h1] at HL
  by_cases h2 : 400 < kq
  ·have h2' : (400 : Int) < (kq : Int):=by omega
   rw [if_pos h2] at HL
   go_enter Tryz.func91,Tryz.ntmps91
   go_wp2;go_ret;exact ⟨by rw [HL.out]; rfl,grew_alloc _ _⟩
  ·have h2' : ¬ (400 : Int) < (kq : Int):=by omega
   rw [if_neg h2] at HL;obtain ⟨W0,hW0⟩ : ∃ W0,w.alloc (.cells #[.slice a n c,.slice a2 kq c2] 33) = W0:=⟨_,rfl⟩;have HG0 : Hid (Grew w W0):=show Grew w W0 by rw [←hW0]; exact grew_alloc _ _
   have X0 : Hid (Box W0 w.heap.size [.slice a n c,.slice a2 kq c2]):=show Box _ _ _ by rw [←hW0]; exact Box.top w [.slice a n c,.slice a2 kq c2] _ rfl
   have HW0 : Hid (_ = W0):=hW0;clear hW0
   go_enter Tryz.func91,Tryz.ntmps91
   go_wp2;rw [HW0.out]
   go_loopg [4,18] kq (fun gg _ s18 wr=>∃ kk : Nat,kk≤kq∧kq - kk≤gg∧s18 = .int .i64 kk∧Hid (Grew W0 wr)∧Hid (∀ (j : Nat) q,j < kk→qs[j]? = some q→dkInB q.1 n = true))
   case atStart=>exact ⟨0,Nat.zero_le _,by omega,rfl,Grew.refl _,fun j q hj=>absurd hj (Nat.not_lt_zero _)⟩
   case round =>
    obtain ⟨kk,hkk,hg,rfl,BW,A⟩:=hrel
    by_cases hlt : kk < kq
    ·have hltz : (kk : Int) < (kq : Int):=by omega
     obtain ⟨q,HQ⟩ : ∃ q,Hid (qs[kk]? = some q):=⟨_,List.getElem?_eq_getElem (by rw [HN.out]; exact hlt)⟩
     obtain ⟨x,m,b0,b1,b2,b3,b4,b5,b6,b7,rfl,rfl,hl⟩:=HRQ.out kk q HQ.out;obtain ⟨d0,d1,d2,d3,d4,d5,d6,d7,d8⟩:=hl wr (HG0.out.trans BW.out);have X:=X0.out.grew BW.out;have z0:=X.c 0 rfl;have zl:=X.lt;clear hl X
     by_cases hb : dkInB m n = true
     ·have hb':=hb;unfold dkInB at hb'
      simp at hb'
      have hm0 : ¬ m < 0:=by omega
      have hmn : ¬ (n : Int)≤m:=by omega
      have HB : Hid (dkInB m n = true):=hb;clear hb hb';go_wp2
      go_roundg (kq - (kk + 1))
      case measure=>omega
      case rel =>
       refine ⟨kk + 1,by omega,by omega,by go_num,BW.out.trans (grew_alloc _ _),(show Hid _ from fun j q' hj hq'=>?_)⟩
       by_cases e : j = kk
       ·subst e;rw [HQ.out] at hq';cases hq';exact HB.out
       ·exact A.out j q' (by omega) hq'
     ·have hany : (qs.any fun q=>!dkInB q.1 n) = true:=List.any_eq_true.2 ⟨_,List.mem_of_getElem? HQ.out,by simpa using hb⟩
      rw [if_pos hany] at HL;unfold dkInB at hb
      simp at hb
      clear hany
      by_cases hm0 : m < 0
      ·clear hb;go_wp2;go_ret;exact ⟨by rw [HL.out]; rfl,(HG0.out.trans BW.out).trans (grew_alloc _ _)⟩
      ·have hmn : (n : Int)≤m:=hb (by omega)
       clear hb;go_wp2;go_ret;exact ⟨by rw [HL.out]; rfl,(HG0.out.trans BW.out).trans (grew_alloc _ _)⟩
    ·have hltz : ¬ (kk : Int) < (kq : Int):=by omega
     have : kk = kq:=by omega
     subst this;have hany : ¬ (qs.any fun q=>!dkInB q.1 n) = true:=fun h=>by
      obtain ⟨q,hq,hb⟩:=List.any_eq_true.1 h;obtain ⟨j,hj⟩:=List.getElem?_of_mem hq;have:=A.out j q (by rw [←HN.out]; exact (List.getElem?_eq_some_iff.1 hj).1) hj
      rw [this] at hb
      simp at hb
     rw [if_neg hany] at HL;clear hany;go_wp2;go_ret;exact ⟨by rw [HL.out]; rfl,HG0.out.trans BW.out⟩
theorem pick_snoc {r : List (Int × List Int)} {q : Int × List Int} {m : Int} {d : List Int} : pickQ ((r ++ [q]).reverse.find? (fun q => q.1 == m)) d = if q.1 == m then q.2 else pickQ (r.reverse.find? (fun q => q.1 == m)) d := by
  rw [List.reverse_append]
  simp only [List.reverse_cons, List.reverse_nil, List.nil_append, List.cons_append, List.find?_cons]
  cases hq : (q.1 == m) <;> simp [pickQ]
theorem refRead_err (d : Value) (ps : List (List Int)) (qs : List (Int × List Int)) (m : Int) (w : World) (hd : DiskAt w d ps qs) (hr0 : ¬ wrongAtL ps.length qs m = 0) :
    Calls Tryz.prog 104 #[d, .int .i64 m] w fun e w' => e = .returned (.tuple #[.agg (pgc zero8).toArray, .int .i64 (wrongAtL ps.length qs m)]) ∧ Grew w w' := by
  obtain ⟨b, q, rfl, hb, hq⟩ := hd
  have HQ : Hid (PutsAt w q qs) := hq
  obtain ⟨ab, cb, rfl, _⟩ := hb.rows
  obtain ⟨aq, cq, rfl, _⟩ := hq.rows
  clear hb hq
  have HWA : Hid (wrongAtL ps.length qs m = if wrongL ps.length qs = 0 then (if dkInB m ps.length then 0 else 3) else wrongL ps.length qs) := rfl
  obtain ⟨W0, hW0⟩ : ∃ W0, (w.alloc (.cells #[.slice ab ps.length cb, .slice aq qs.length cq] 33)).alloc (.cells #[.int .u8 0, .int .u8 0, .int .u8 0, .int .u8 0, .int .u8 0, .int .u8 0, .int .u8 0, .int .u8 0] 50) = W0 := ⟨_, rfl⟩
  have HG0 : Hid (Grew w W0) := show Grew w W0 by rw [← hW0]; exact (grew_alloc _ _).trans (grew_alloc _ _)
  have X0 : Hid (Box W0 w.heap.size [.slice ab ps.length cb, .slice aq qs.length cq]) := show Box _ _ _ by rw [← hW0]; exact (Box.top w [.slice ab ps.length cb, .slice aq qs.length cq] _ rfl).alloc _
  have X1 : Hid (Box W0 (w.heap.size + 1) [.int .u8 0, .int .u8 0, .int .u8 0, .int .u8 0, .int .u8 0, .int .u8 0, .int .u8 0, .int .u8 0]) := show Box _ _ _ by rw [← hW0]; exact Box.top _ [.int .u8 0, .int .u8 0, .int .u8 0, .int .u8 0, .int .u8 0, .int .u8 0, .int .u8 0, .int .u8 0] _ (by simp)
  have hcon := refWrong_any ab ps.length cb (.slice aq qs.length cq) qs W0 (HQ.out.grew HG0.out)
  obtain ⟨r, HR⟩ : ∃ r, Hid (wrongL ps.length qs = r) := ⟨_, rfl⟩
  rw [HR.out] at hcon HWA
  obtain ⟨nb, HNB⟩ : ∃ nb, Hid (ps.length = nb) := ⟨_, rfl⟩
  obtain ⟨kq, HNQ⟩ : ∃ kq, Hid (qs.length = kq) := ⟨_, rfl⟩
  rw [HNB.out] at HWA hr0
  rw [HNB.out, HNQ.out] at hcon hW0 X0 ⊢
  have HW0 : Hid (_ = W0) := hW0
  clear hW0
  have hcases : (Hid (wrongAtL nb qs m = r) ∧ (r != 0) = true) ∨ (Hid (wrongAtL nb qs m = 3) ∧ (r != 0) = false ∧ Hid (r = 0) ∧ m < 0) ∨ (Hid (wrongAtL nb qs m = 3) ∧ (r != 0) = false ∧ Hid (r = 0) ∧ ¬ m < 0 ∧ (nb : Int) ≤ m) := by
    by_cases h1 : r = 0
    · subst h1
      rw [if_pos rfl] at HWA
      have hnb : ¬ dkInB m nb = true := fun e => by rw [HWA.out, if_pos e] at hr0; exact hr0 rfl
      rw [if_neg hnb] at HWA
      unfold dkInB at hnb
      simp at hnb
      by_cases h2 : m < 0
      · exact .inr (.inl ⟨HWA, rfl, rfl, h2⟩)
      · exact .inr (.inr ⟨HWA, rfl, rfl, h2, hnb (by omega)⟩)
    · rw [if_neg h1] at HWA
      exact .inl ⟨HWA, by simpa using h1⟩
  clear HWA hr0
  rcases hcases with ⟨HE, h1⟩ | ⟨HE, h1, h0, h2⟩ | ⟨HE, h1, h0, h2, h3⟩
  · rw [HE.out]
    go_enter Tryz.func104, Tryz.ntmps104
    go_wp2_with (go_at_call 91; rw [HW0.out]; refine hcon.mono ?_; clear hcon; rintro e W1 ⟨rfl, g1⟩
                 have e0 := (X0.out.grew g1).c 0 rfl
                 have Y := X1.out.grew g1
                 have c0 := Y.c 0 rfl
                 have c1 := Y.c 1 rfl
                 have c2 := Y.c 2 rfl
                 have c3 := Y.c 3 rfl
                 have c4 := Y.c 4 rfl
                 have c5 := Y.c 5 rfl
                 have c6 := Y.c 6 rfl
                 have c7 := Y.c 7 rfl
                 have f0 := Y.f
                 clear Y)
    refine bodyPost_ret (v := .tuple #[.agg #[.int .u8 0, .int .u8 0, .int .u8 0, .int .u8 0, .int .u8 0, .int .u8 0, .int .u8 0, .int .u8 0], .int .i64 r]) (by simp [results, Tryz.results104, go_sem, *]) rfl ⟨rfl, ?_⟩
    have HG1 : Grew w W1 := HG0.out.trans g1
    iterate 8 (refine grew_set ?_ (by simp) _)
    exact HG1
  all_goals
    rw [HE.out]
    have hr := h0.out
    subst hr
    go_enter Tryz.func104, Tryz.ntmps104
    go_wp2_with (go_at_call 91; rw [HW0.out]; refine hcon.mono ?_; clear hcon; rintro e W1 ⟨rfl, g1⟩
                 have e0 := (X0.out.grew g1).c 0 rfl
                 have Y := X1.out.grew g1
                 have c0 := Y.c 0 rfl
                 have c1 := Y.c 1 rfl
                 have c2 := Y.c 2 rfl
                 have c3 := Y.c 3 rfl
                 have c4 := Y.c 4 rfl
                 have c5 := Y.c 5 rfl
                 have c6 := Y.c 6 rfl
                 have c7 := Y.c 7 rfl
                 have f0 := Y.f
                 clear Y)
    refine bodyPost_ret (v := .tuple #[.agg #[.int .u8 0, .int .u8 0, .int .u8 0, .int .u8 0, .int .u8 0, .int .u8 0, .int .u8 0, .int .u8 0], .int .i64 3]) (by simp [results, Tryz.results104, go_sem, *]) rfl ⟨rfl, ?_⟩
    have HG1 : Grew w W1 := HG0.out.trans g1
    iterate 8 (refine grew_set ?_ (by simp) _)
    exact HG1
theorem refRead_ok (d : Value) (ps : List (List Int)) (qs : List (Int × List Int)) (i : Nat) (w : World) (hd : DiskAt w d ps qs) (hr0 : wrongAtL ps.length qs (i : Int) = 0) :
    Calls Tryz.prog 104 #[d, .int .i64 (i : Int)] w fun e w' => e = .returned (.tuple #[.agg (pgc (readL ps qs (i : Int))).toArray, .int .i64 0]) ∧ Grew w w' := by
  obtain ⟨hw0, i', hii, hib⟩ := wrongAtL_zero hr0
  have hi : i < ps.length := by omega
  have HRL := readL_of hr0
  simp only [Int.toNat_natCast] at HRL
  obtain ⟨b, q, rfl, hb, hq⟩ := hd
  have HQ : Hid (PutsAt w q qs) := hq
  have hbig : qs.length ≤ 9223372036854775807 := by have := hq.2.2; omega
  obtain ⟨ab, cb, rfl, hrb⟩ := hb.rows
  obtain ⟨aq, cq, rfl, hrq⟩ := hq.rows
  have HRQ : Hid (PutRows w aq qs) := hrq
  obtain ⟨pg, hpg⟩ : ∃ pg, ps[i]? = some pg := ⟨_, List.getElem?_eq_getElem hi⟩
  obtain ⟨xa, b0, b1, b2, b3, b4, b5, b6, b7, hxa, rfl, hrow⟩ := hrb i pg hpg
  subst hxa
  have HROW : Hid (∀ W, Grew w W → PageCells W (xa.add (i * 8)) b0 b1 b2 b3 b4 b5 b6 b7) := hrow
  rw [show ps.getD i zero8 = [b0, b1, b2, b3, b4, b5, b6, b7] from by rw [List.getD_eq_getElem?_getD, hpg]; rfl] at HRL
  have HL : Hid (readL ps qs (i : Int) = pickQ (qs.reverse.find? (fun q => q.1 == (i : Int))) [b0, b1, b2, b3, b4, b5, b6, b7]) := HRL
  clear hb hq hrb hrq hrow hpg HRL
  obtain ⟨W0, hW0⟩ : ∃ W0, (w.alloc (.cells #[.slice (some xa) ps.length cb, .slice aq qs.length cq] 33)).alloc (.cells #[.int .u8 0, .int .u8 0, .int .u8 0, .int .u8 0, .int .u8 0, .int .u8 0, .int .u8 0, .int .u8 0] 50) = W0 := ⟨_, rfl⟩
  have HG0 : Hid (Grew w W0) := show Grew w W0 by rw [← hW0]; exact (grew_alloc _ _).trans (grew_alloc _ _)
  have X0 : Hid (Box W0 w.heap.size [.slice (some xa) ps.length cb, .slice aq qs.length cq]) := show Box _ _ _ by rw [← hW0]; exact (Box.top w [.slice (some xa) ps.length cb, .slice aq qs.length cq] _ rfl).alloc _
  have X1 : Hid (Box W0 (w.heap.size + 1) [.int .u8 0, .int .u8 0, .int .u8 0, .int .u8 0, .int .u8 0, .int .u8 0, .int .u8 0, .int .u8 0]) := show Box _ _ _ by rw [← hW0]; exact Box.top _ [.int .u8 0, .int .u8 0, .int .u8 0, .int .u8 0, .int .u8 0, .int .u8 0, .int .u8 0, .int .u8 0] _ (by simp)
  have hcon := refWrong_any (some xa) ps.length cb (.slice aq qs.length cq) qs W0 (HQ.out.grew HG0.out)
  rw [hw0] at hcon
  obtain ⟨nb, HNB⟩ : ∃ nb, Hid (ps.length = nb) := ⟨_, rfl⟩
  obtain ⟨kq, HNQ⟩ : ∃ kq, Hid (qs.length = kq) := ⟨_, rfl⟩
  rw [HNB.out] at hi
  rw [HNQ.out] at hbig
  rw [HNB.out, HNQ.out] at hcon hW0 X0 ⊢
  have HW0 : Hid (_ = W0) := hW0
  have h2 : ¬ (i : Int) < 0 := by omega
  have h3 : ¬ (nb : Int) ≤ (i : Int) := by omega
  have h4 : (i : Int) < (nb : Int) := by omega
  clear hW0 hw0 hii hib hr0
  go_enter Tryz.func104, Tryz.ntmps104
  go_wp2_with (go_at_call 91; rw [HW0.out]; refine hcon.mono ?_; clear hcon; rintro e W1 ⟨rfl, g1⟩
               have G1 : Hid (Grew W0 W1) := g1
               have e0 := (X0.out.grew g1).c 0 rfl
               have e1 := (X0.out.grew g1).c 1 rfl
               have el := (X0.out.grew g1).lt
               obtain ⟨d0, d1, d2, d3, d4, d5, d6, d7⟩ := HROW.out W1 (HG0.out.trans g1))
  have HT : Hid (∀ (j : Nat) q, qs[j]? = some q → qs.take (j + 1) = qs.take j ++ [q]) := show ∀ (j : Nat) q, _ from fun j q h => by
    obtain ⟨hlt, rfl⟩ := List.getElem?_eq_some_iff.1 h
    exact List.take_succ_eq_append_getElem hlt
  clear e0 e1 el d0 d1 d2 d3 d4 d5 d6 d7
  go_loopg [9, 34] kq (fun gg _ s34 wr => ∃ (kk : Nat) (c0 c1 c2 c3 c4 c5 c6 c7 : Int), kk ≤ kq ∧ kq - kk ≤ gg ∧ s34 = .int .i64 kk ∧ Hid (Grew w wr) ∧ Hid (Box wr W1.heap.size [.int .u8 c0, .int .u8 c1, .int .u8 c2, .int .u8 c3, .int .u8 c4, .int .u8 c5, .int .u8 c6, .int .u8 c7]) ∧ Hid (Box wr (w.heap.size + 1) [.int .u8 0, .int .u8 0, .int .u8 0, .int .u8 0, .int .u8 0, .int .u8 0, .int .u8 0, .int .u8 0]) ∧ Hid (pickQ ((qs.take kk).reverse.find? (fun q => q.1 == (i : Int))) [b0, b1, b2, b3, b4, b5, b6, b7] = [c0, c1, c2, c3, c4, c5, c6, c7]))
  case atStart => exact ⟨0, b0, b1, b2, b3, b4, b5, b6, b7, Nat.zero_le _, by omega, rfl, (HG0.out.trans G1.out).trans (grew_alloc _ _), Box.top W1 [.int .u8 b0, .int .u8 b1, .int .u8 b2, .int .u8 b3, .int .u8 b4, .int .u8 b5, .int .u8 b6, .int .u8 b7] _ rfl, (X1.out.grew G1.out).alloc _, rfl⟩
  case round =>
    obtain ⟨kk, c0, c1, c2, c3, c4, c5, c6, c7, hkk, hg, rfl, GW, BP, BR, HPK⟩ := hrel
    have hW1w : w.heap.size + 2 ≤ W1.heap.size := by have h1 := Below.size G1.out; have h2 := X1.out.lt; omega
    by_cases hlt : kk < kq
    · have hltz : (kk : Int) < (kq : Int) := by omega
      obtain ⟨q, HQK⟩ : ∃ q, Hid (qs[kk]? = some q) := ⟨_, List.getElem?_eq_getElem (by rw [HNQ.out]; exact hlt)⟩
      obtain ⟨x, m, a0, a1, a2, a3, a4, a5, a6, a7, rfl, rfl, hl⟩ := HRQ.out kk q HQK.out
      obtain ⟨d0, d1, d2, d3, d4, d5, d6, d7, d8⟩ := hl wr GW.out
      have HST := HT.out kk _ HQK.out
      clear hl
      by_cases hm : m = (i : Int)
      · subst hm
        have k0 := BP.out.c 0 rfl
        have k1 := BP.out.c 1 rfl
        have k2 := BP.out.c 2 rfl
        have k3 := BP.out.c 3 rfl
        have k4 := BP.out.c 4 rfl
        have k5 := BP.out.c 5 rfl
        have k6 := BP.out.c 6 rfl
        have k7 := BP.out.c 7 rfl
        have kf := BP.out.f
        have kl := BP.out.lt
        have HST' : Hid (pickQ ((qs.take (kk + 1)).reverse.find? (fun q => q.1 == (i : Int))) [b0, b1, b2, b3, b4, b5, b6, b7] = [a0, a1, a2, a3, a4, a5, a6, a7]) := show _ = _ by rw [HST, pick_snoc]; simp
        clear HST
        go_wp2
        go_roundg (kq - (kk + 1))
        case measure => omega
        case rel =>
          refine ⟨kk + 1, a0, a1, a2, a3, a4, a5, a6, a7, by omega, by omega, by go_num, ?_, ?_, ?_, HST'.out⟩
          · show Grew _ _
            refine Grew.trans ?_ (grew_alloc _ _)
            iterate 8 (refine grew_set ?_ (by simp; omega) _)
            exact GW.out
          · exact ((((((((BP.out.set 0 _).set 1 _).set 2 _).set 3 _).set 4 _).set 5 _).set 6 _).set 7 _).alloc _
          · show Box _ _ _
            refine Box.alloc ?_ _
            iterate 8 (refine Box.other ?_ (by simp; omega) _)
            exact BR.out
      · have hmb : (m == (i : Int)) = false := by simpa using hm
        have HST' : Hid (pickQ ((qs.take (kk + 1)).reverse.find? (fun q => q.1 == (i : Int))) [b0, b1, b2, b3, b4, b5, b6, b7] = [c0, c1, c2, c3, c4, c5, c6, c7]) := show _ = _ by rw [HST, pick_snoc]; simp only [hmb]; exact HPK.out
        clear HST hm
        go_wp2
        go_roundg (kq - (kk + 1))
        case measure => omega
        case rel => exact ⟨kk + 1, c0, c1, c2, c3, c4, c5, c6, c7, by omega, by omega, by go_num, GW.out.trans (grew_alloc _ _), BP.out.alloc _, BR.out.alloc _, HST'.out⟩
    · have hltz : ¬ (kk : Int) < (kq : Int) := by omega
      have : kk = kq := by omega
      subst this
      have k0 := BP.out.c 0 rfl
      have k1 := BP.out.c 1 rfl
      have k2 := BP.out.c 2 rfl
      have k3 := BP.out.c 3 rfl
      have k4 := BP.out.c 4 rfl
      have k5 := BP.out.c 5 rfl
      have k6 := BP.out.c 6 rfl
      have k7 := BP.out.c 7 rfl
      have r0 := BR.out.c 0 rfl
      have r1 := BR.out.c 1 rfl
      have r2 := BR.out.c 2 rfl
      have r3 := BR.out.c 3 rfl
      have r4 := BR.out.c 4 rfl
      have r5 := BR.out.c 5 rfl
      have r6 := BR.out.c 6 rfl
      have r7 := BR.out.c 7 rfl
      have rf := BR.out.f
      have HF : Hid (readL ps qs (i : Int) = [c0, c1, c2, c3, c4, c5, c6, c7]) := show _ = _ by rw [HL.out, ← HPK.out, List.take_of_length_le (by rw [HNQ.out]; exact Nat.le_refl _)]
      go_wp2
      refine bodyPost_ret (v := .tuple #[.agg #[.int .u8 c0, .int .u8 c1, .int .u8 c2, .int .u8 c3, .int .u8 c4, .int .u8 c5, .int .u8 c6, .int .u8 c7], .int .i64 0]) (by simp [results, Tryz.results104, go_sem, *]) rfl ⟨by rw [HF.out]; rfl, ?_⟩
      iterate 8 (refine grew_set ?_ (by simp) _)
      exact GW.out
theorem refRead_any (d : Value) (ps : List (List Int)) (qs : List (Int × List Int)) (m : Int) (w : World) (hd : DiskAt w d ps qs) :
    Calls Tryz.prog 104 #[d, .int .i64 m] w fun e w' => e = .returned (.tuple #[.agg (pgc (readL ps qs m)).toArray, .int .i64 (wrongAtL ps.length qs m)]) ∧ Grew w w' := by
  by_cases hr : wrongAtL ps.length qs m = 0
  · obtain ⟨_, i, rfl, _⟩ := wrongAtL_zero hr
    rw [hr]
    exact refRead_ok d ps qs i w hd hr
  · rw [show readL ps qs m = zero8 from if_neg hr]
    exact refRead_err d ps qs m w hd hr
def cutTo (p : List Int) (idx size : Int) (k : Nat) : List Int:=p.mapIdx fun i z=>if i < k∧size≤8 * idx + (i : Int) then 0 else z
theorem cutTo_zero (p : List Int) (idx size : Int) : cutTo p idx size 0 = p:=by
 unfold cutTo
 apply List.ext_getElem?
 intro i;rw [List.getElem?_mapIdx]
 cases p[i]? <;> simp
theorem cutTo_len (p : List Int) (idx size : Int) (k : Nat) : (cutTo p idx size k).length = p.length:=by unfold cutTo; simp
theorem cutTo_all {p : List Int} {idx size : Int} {k : Nat} (h : p.length≤k) : cutTo p idx size k = cutP p idx size:=by
 unfold cutTo cutP
 apply List.ext_getElem?
 intro i;rw [List.getElem?_mapIdx,List.getElem?_mapIdx]
 cases hp : p[i]? with
 | none=>rfl
 | some z =>
  have:=(List.getElem?_eq_some_iff.1 hp).1;have hk : i < k:=by omega
  simp [hk]
theorem cutTo_cut {p : List Int} {idx size : Int} {k : Nat} (hk : k < p.length) (h : size≤8 * idx + (k : Int)) : (cutTo p idx size k).set k 0 = cutTo p idx size (k + 1):=by
 unfold cutTo
 apply List.ext_getElem?
 intro i
 by_cases e : i = k
 ·subst e;rw [List.getElem?_set_self (by simpa using hk),List.getElem?_mapIdx,List.getElem?_eq_getElem hk]
  simp [h]
 ·rw [List.getElem?_set_ne (fun h=>e h.symm),List.getElem?_mapIdx,List.getElem?_mapIdx]
  cases p[i]? with
  | none=>rfl
  | some z =>
   have : i < k↔i < k + 1:=by omega
   simp [this]
theorem cutTo_not {p : List Int} {idx size : Int} {k : Nat} (h : ¬ size≤8 * idx + (k : Int)) : cutTo p idx size k = cutTo p idx size (k + 1):=by
 unfold cutTo
 apply List.ext_getElem?
 intro i;rw [List.getElem?_mapIdx,List.getElem?_mapIdx]
 cases p[i]? with
 | none=>rfl
 | some z =>
  by_cases e : i = k
  ·subst e
   simp [h]
  ·have : i < k↔i < k + 1:=by omega
   simp [this]
theorem readL8 {ps : List (List Int)} {qs : List (Int × List Int)} {b : Int} (h1 : ∀ p∈ps,p.length = 8) (h2 : ∀ q∈qs,q.2.length = 8) : (readL ps qs b).length = 8:=by
 unfold readL
 split
 ·cases h : qs.reverse.find? (fun q=>q.1 == b) with
  | some q=>exact h2 q (by have:=List.mem_of_find?_eq_some h; simpa using this)
  | none =>
   simp only;rw [List.getD_eq_getElem?_getD]
   cases h3 : ps[b.toNat]? with
   | none=>rfl
   | some p=>exact h1 p (List.mem_of_getElem? h3)
 ·rfl
theorem content_any (V : MaV) (m : Ma) (fi ix : Nat) (f : Fl) (bk : Int) (w : World) (hm : MachAt w V m) (hca : ∀ c∈m.ca,hitC fi ix c = true→0≤c.fr∧c.fr < m.fs.length) (hf : m.fl[fi]? = some f) (hbk : f.bl[ix]? = some bk) (hix : ix≤1000) :
  Calls Tryz.prog 61 #[.agg #[.slice V.f.a V.f.n V.f.c,.int .i64 m.hand,.slice V.s.a V.s.n V.s.c,.slice V.sb.a V.sb.n V.sb.c,.slice V.sq.a V.sq.n V.sq.c,.slice V.db.a V.db.n V.db.c,.slice V.dq.a V.dq.n V.dq.c,.slice V.fl.a V.fl.n V.fl.c,.int .i64 m.cnt,.slice V.ca.a V.ca.n V.ca.c,.slice V.sp.a V.sp.n V.sp.c],.int .i64 (fi : Int),.int .i64 (ix : Int)] w fun e w'=>e = .returned (.agg (pgc (contL m fi ix)).toArray)∧(contL m fi ix).length = 8∧Grew w w':=by
 have HRD : Hid (∀ W,Grew w W→Calls Tryz.prog 104 #[.agg #[.slice V.db.a V.db.n V.db.c,.slice V.dq.a V.dq.n V.dq.c],.int .i64 bk] W fun e w'=>e = .returned (.tuple #[.agg (pgc (readL m.db m.dq bk)).toArray,.int .i64 (wrongAtL m.db.length m.dq bk)])∧Grew W w'):=show ∀ W,_ from fun W hW=>refRead_any _ m.db m.dq bk W ⟨_,_,rfl,(hm.grew hW).db,(hm.grew hW).dq⟩
 have HRL : Hid ((readL m.db m.dq bk).length = 8):=readL8 hm.db.2.1 hm.dq.2.1;obtain ⟨⟨fa,fn,fc⟩,vs,vsb,vsq,vdb,vdq,⟨fla,fln,flc⟩,⟨caa,can,cac⟩,vsp⟩:=V;dsimp only at HRD ⊢;obtain ⟨n1,-,-,-,-,-,n7,n8,-⟩:=hm.ns;dsimp only at n1 n7 n8;have HFR : Hid (FrRows w fa m.fs):=hm.frs;have HCA : Hid (CaRows w caa m.ca):=hm.cas;have HN1 : Hid (m.fs.length = fn):=n1.symm;have HN8 : Hid (m.ca.length = can):=n8.symm;have hbc : can≤9223372036854775807:=by have:=hm.ca.short; omega
 obtain ⟨_,_,hfe,_,hfr⟩:=FilesAt.rows hm.fl;have HFL : Hid (FlRows w fla m.fl):=show FlRows _ _ _ by
  simp only [Value.slice.injEq] at hfe;rw [hfe.1];exact hfr
 have HIN : Hid (∀ c∈m.ca,hitC fi ix c = true→0≤c.fr∧c.fr < m.fs.length):=hca;have hfn : fi < fln:=by rw [n7]; exact (List.getElem?_eq_some_iff.1 hf).1
 obtain ⟨ad,rfl,ba,bc,hbr,hfl⟩:=HFL.out fi f hf;have HBL : Hid (∀ W,Grew w W→FlCells W (ad.add (fi * 2)) f.size (.slice ba f.bl.length bc)):=hfl;obtain ⟨_,_,hbe,hbn⟩:=hbr.nums;have hbl : ix < f.bl.length:=(List.getElem?_eq_some_iff.1 hbk).1;obtain ⟨ad2,had2,hb2⟩:=hbn ix bk hbk;have HB2 : Hid (ba = some ad2∧∀ W,Grew w W→W.cell? (ad2.add ix) = some (.int .i64 bk)):=show _∧_ from ⟨by simp only [Value.slice.injEq] at hbe; rw [hbe.1]; exact had2,hb2⟩
 obtain ⟨bn,HBN⟩ : ∃ bn,Hid (f.bl.length = bn):=⟨_,rfl⟩;rw [HBN.out] at hbl HBL;have HCO1 : Hid (∀ c,m.ca.find? (hitC fi ix) = some c→contL m fi ix = pgL (frAt m c.fr).p):=show ∀ c,_ from fun c hc=>by unfold contL; rw [hc]
 have HCO2 : Hid (m.ca.find? (hitC fi ix) = none→contL m fi ix = if bk < 0 then zero8 else cutP (readL m.db m.dq bk) ix f.size):=show _→_ from fun hc=>by
  have hg : m.fl.getD ((fi : Int).toNat) ⟨0,[]⟩ = f:=by rw [Int.toNat_natCast,List.getD_eq_getElem?_getD,hf]; rfl
  have e1 : blAt m fi ix = bk:=by unfold blAt; rw [hg,Int.toNat_natCast,List.getD_eq_getElem?_getD,hbk]; rfl
  have e2 : szAt m fi = f.size:=by unfold szAt; rw [hg]
  unfold contL;rw [hc];simp only [e1,e2]
 obtain ⟨C,HC⟩ : ∃ C,Hid (contL m fi ix = C):=⟨_,rfl⟩;rw [HC.out] at HCO1 HCO2 ⊢;clear hm n1 n7 n8 hfe hfr hca hf hbk hfl hbr hbe hbn had2 hb2 HC HFL;have hfz : (fi : Int) < (fln : Int):=by omega
 have hbz : (ix : Int) < (bn : Int):=by omega
 obtain ⟨W0,hW0⟩ : ∃ W0,(w.alloc (.cells #[.slice fa fn fc,.int .i64 m.hand,.slice vs.a vs.n vs.c,.slice vsb.a vsb.n vsb.c,.slice vsq.a vsq.n vsq.c,.slice vdb.a vdb.n vdb.c,.slice vdq.a vdq.n vdq.c,.slice (some ad) fln flc,.int .i64 m.cnt,.slice caa can cac,.slice vsp.a vsp.n vsp.c] 40)).alloc (.cells #[.int .u8 0,.int .u8 0,.int .u8 0,.int .u8 0,.int .u8 0,.int .u8 0,.int .u8 0,.int .u8 0] 50) = W0:=⟨_,rfl⟩;have HG0 : Hid (Grew w W0):=show Grew _ _ by rw [←hW0]; exact (grew_alloc _ _).trans (grew_alloc _ _)
 have X0 : Hid (Box W0 w.heap.size [.slice fa fn fc,.int .i64 m.hand,.slice vs.a vs.n vs.c,.slice vsb.a vsb.n vsb.c,.slice vsq.a vsq.n vsq.c,.slice vdb.a vdb.n vdb.c,.slice vdq.a vdq.n vdq.c,.slice (some ad) fln flc,.int .i64 m.cnt,.slice caa can cac,.slice vsp.a vsp.n vsp.c]):=show Box _ _ _ by rw [←hW0]; exact (Box.top _ _ _ rfl).alloc _
 have Y0 : Hid (Box W0 (w.heap.size + 1) (pgc zero8)):=show Box _ _ _ by rw [←hW0]; exact Box.top _ (pgc zero8) _ (by simp)
 have HW0 : Hid (_ = W0):=hW0;clear hW0
 go_enter Tryz.func61,Tryz.ntmps61
 go_upto_region 1 with fail;rw [HW0.out];have x9:=X0.out.c 9 rfl;go_wp2;clear x9
 go_loopg [16] can (fun gg s16 wr=>∃ kk : Nat,kk≤can∧can - kk≤gg∧s16 = .int .i64 kk∧Hid (Grew W0 wr)∧Hid (∀ (j : Nat) c,j < kk→m.ca[j]? = some c→hitC fi ix c = false))
 case atStart=>exact ⟨0,Nat.zero_le _,by omega,rfl,Grew.refl _,fun j c hj=>absurd hj (Nat.not_lt_zero _)⟩
 case round =>
  obtain ⟨kk,hkk,hgg,rfl,BW,OW⟩:=hrel
  by_cases hlt : kk < can
  ·have hltz : (kk : Int) < (can : Int):=by omega
   obtain ⟨c,HC⟩ : ∃ c,Hid (m.ca[kk]? = some c):=⟨_,List.getElem?_eq_getElem (by rw [HN8.out]; exact hlt)⟩
   obtain ⟨adc,rfl,hl⟩:=HCA.out kk c HC.out;obtain ⟨d0,d1,d2⟩:=hl wr (HG0.out.trans BW.out);clear hl;go_upto_region 4 with fail;obtain ⟨W1,hW1⟩ : ∃ W1,wr.alloc (.cells #[.int .i64 c.file,.int .i64 c.idx,.int .i64 c.fr] 87) = W1:=⟨_,rfl⟩;have HG1 : Hid (Grew W0 W1):=show Grew _ _ by rw [←hW1]; exact BW.out.trans (grew_alloc _ _)
   have C1 : Hid (Box W1 wr.heap.size [.int .i64 c.file,.int .i64 c.idx,.int .i64 c.fr]):=show Box _ _ _ by rw [←hW1]; exact Box.top _ _ _ rfl
   rw [hW1];clear hW1 d0 d1 d2;have c0:=C1.out.c 0 rfl;have c1:=C1.out.c 1 rfl;have c2:=C1.out.c 2 rfl;have HNX : Hid (hitC fi ix c = false→∀ (j : Nat) c,j < kk + 1→m.ca[j]? = some c→hitC fi ix c = false):=show _→_ from fun h0 j c' hj hc'=>by
    by_cases e : j = kk
    ·subst e;rw [HC.out] at hc';cases hc';exact h0
    ·exact OW.out j c' (by omega) hc'
   by_cases h1 : c.file = (fi : Int)
   ·have h1e : (c.file == (fi : Int)) = true:=by simp [h1]
    by_cases h2 : c.idx = (ix : Int)
    ·have h2e : (c.idx == (ix : Int)) = true:=by simp [h2]
     have HHT : Hid (hitC fi ix c = true):=show _ = _ by simp [hitC,h1,h2]
     have HFD : Hid (m.ca.find? (hitC fi ix) = some c):=show _ = _ by
      rw [List.find?_eq_some_iff_getElem];refine ⟨HHT.out,kk,(List.getElem?_eq_some_iff.1 HC.out).1,(List.getElem?_eq_some_iff.1 HC.out).2,fun j hj=>?_⟩
      have:=OW.out j _ hj (List.getElem?_eq_getElem (by have:=(List.getElem?_eq_some_iff.1 HC.out).1; omega))
      simp [this]
     obtain ⟨r0,r1⟩:=HIN.out c (List.mem_of_getElem? HC.out) HHT.out;obtain ⟨k,hk⟩ : ∃ k : Nat,c.fr = (k : Int):=⟨c.fr.toNat,by omega⟩
     have hkn : k < fn:=by rw [←HN1.out]; omega
     have hkz : (k : Int) < (fn : Int):=by omega
     obtain ⟨q,HQ⟩ : ∃ q,Hid (m.fs[k]? = some q):=⟨_,List.getElem?_eq_getElem (by rw [HN1.out]; exact hkn)⟩
     have HCE : Hid (C = pgL q.p):=show _ = _ by
      rw [HCO1.out c HFD.out,hk];unfold frAt;rw [Int.toNat_natCast,List.getD_eq_getElem?_getD,HQ.out];rfl
     rw [hk] at c2;clear h1 h2 r0 r1 hk;go_upto_region 5 with fail;obtain ⟨adf,hva,hl⟩:=HFR.out k q HQ.out;obtain ⟨d0,d1,d2,d3,d4,d5,d6,d7,-⟩:=hl W1 (HG0.out.trans HG1.out);have x0:=(X0.out.grew HG1.out).c 0 rfl;rw [hva] at x0;have Y1 : Hid (Box W1 (w.heap.size + 1) (pgc zero8)):=Y0.out.grew HG1.out;clear hl hva
     go_wp2_with (refine wp_storeAll rfl 50 (.tmp 6) (.tmp 37) rfl (w.heap.size + 1) rfl (pgc (pgL q.p)) rfl Y1.out rfl Tryz.sizePg (pgc_one _) ?_)
     intro W2 hb2 hg2 _;have HG2 : Hid (Grew w W2):=show Grew _ _ from grew_grown (HG0.out.trans HG1.out) hg2 (by omega)
     go_wp2;refine bodyPost_ret (ret_cell rfl _ rfl hb2 Tryz.underlying50 rfl Tryz.sizePg) rfl ⟨by rw [HCE.out],by rw [HCE.out]; rfl,HG2.out⟩
    ·have h2e : (c.idx == (ix : Int)) = false:=by simp [h2]
     have OW' : Hid (∀ (j : Nat) c,j < kk + 1→m.ca[j]? = some c→hitC fi ix c = false):=HNX.out (by simp [hitC,h2])
     clear h1 h2;go_wp2
     go_roundg (can - (kk + 1))
     case measure=>omega
     case rel=>exact ⟨kk + 1,by omega,by omega,by go_num,HG1.out,OW'.out⟩
   ·have h1e : (c.file == (fi : Int)) = false:=by simp [h1]
    have OW' : Hid (∀ (j : Nat) c,j < kk + 1→m.ca[j]? = some c→hitC fi ix c = false):=HNX.out (by simp [hitC,h1])
    clear h1;go_wp2
    go_roundg (can - (kk + 1))
    case measure=>omega
    case rel=>exact ⟨kk + 1,by omega,by omega,by go_num,HG1.out,OW'.out⟩
  ·have hltz : ¬ (kk : Int) < (can : Int):=by omega
   have hke : kk = can:=by omega
   have HNO : Hid (m.ca.find? (hitC fi ix) = none):=show _ = _ by
    rw [List.find?_eq_none];intro c hc;obtain ⟨j,hj⟩:=List.getElem?_of_mem hc;have:=OW.out j c (by rw [hke,←HN8.out]; exact (List.getElem?_eq_some_iff.1 hj).1) hj
    simp [this]
   have HCE : Hid (C = if bk < 0 then zero8 else cutP (readL m.db m.dq bk) ix f.size):=HCO2.out HNO.out;clear hke;go_upto_region 7 with fail;have x7:=(X0.out.grew BW.out).c 7 rfl;obtain ⟨d0,d1⟩:=HBL.out wr (HG0.out.trans BW.out);obtain ⟨hba,hb2⟩:=HB2.out;rw [hba] at d1;have e0:=hb2 wr (HG0.out.trans BW.out);clear hba hb2 d0;have YW : Hid (Box wr (w.heap.size + 1) (pgc zero8)):=Y0.out.grew BW.out
   by_cases hb : bk < 0
   ·rw [if_pos hb] at HCE
    go_wp2_with (refine wp_storeAll rfl 50 (.tmp 6) (.tmp 51) rfl (w.heap.size + 1) rfl (pgc zero8) rfl YW.out rfl Tryz.sizePg (pgc_one _) ?_)
    intro W2 hb2 hg2 _;have HG2 : Hid (Grew w W2):=show Grew _ _ from grew_grown (HG0.out.trans BW.out) hg2 (by omega)
    go_wp2;refine bodyPost_ret (ret_cell rfl _ rfl hb2 Tryz.underlying50 rfl Tryz.sizePg) rfl ⟨by rw [HCE.out],by rw [HCE.out]; rfl,HG2.out⟩
   ·rw [if_neg hb] at HCE;have x5:=(X0.out.grew BW.out).c 5 rfl;have x6:=(X0.out.grew BW.out).c 6 rfl;have hrd:=HRD.out wr (HG0.out.trans BW.out);go_wp2_with fail;refine hrd.mono ?_;clear hrd x5 x6 x7 d1 e0;rintro e W2 ⟨rfl,g2⟩;obtain ⟨p,HP⟩ : ∃ p,Hid (readL m.db m.dq bk = p):=⟨_,rfl⟩;rw [HP.out] at HCE HRL ⊢;have HG2 : Hid (Grew W0 W2):=BW.out.trans g2;clear g2;obtain ⟨p0,p1,p2,p3,p4,p5,p6,p7,rfl⟩:=len8 p HRL.out;simp only [pgc,List.map_cons,List.map_nil];go_upto_region 11 with fail;obtain ⟨W3,hW3⟩ : ∃ W3,W2.alloc (.cells #[.int .u8 p0,.int .u8 p1,.int .u8 p2,.int .u8 p3,.int .u8 p4,.int .u8 p5,.int .u8 p6,.int .u8 p7] 50) = W3:=⟨_,rfl⟩;have HG3 : Hid (Grew W0 W3):=show Grew _ _ by rw [←hW3]; exact HG2.out.trans (grew_alloc _ _)
    have P3 : Hid (Box W3 W2.heap.size (pgc (cutTo [p0,p1,p2,p3,p4,p5,p6,p7] ix f.size 0))):=show Box _ _ _ by rw [←hW3,cutTo_zero]; exact Box.top _ (pgc [p0,p1,p2,p3,p4,p5,p6,p7]) _ rfl
    have HPL : Hid (w.heap.size + 1 < W2.heap.size):=show _ < _ from (Y0.out.grew HG2.out).lt
    rw [hW3];clear hW3;obtain ⟨pp,HPP⟩ : ∃ pp,Hid (W2.heap.size = pp):=⟨_,rfl⟩;rw [HPP.out] at P3 HPL ⊢;go_wp2;clear HG2
    go_loopg [59] 8 (fun gg s59 wr=>∃ i : Nat,i≤8∧8 - i≤gg∧s59 = .int .i64 i∧Hid (Grew w wr)∧Hid (Box wr w.heap.size [.slice fa fn fc,.int .i64 m.hand,.slice vs.a vs.n vs.c,.slice vsb.a vsb.n vsb.c,.slice vsq.a vsq.n vsq.c,.slice vdb.a vdb.n vdb.c,.slice vdq.a vdq.n vdq.c,.slice (some ad) fln flc,.int .i64 m.cnt,.slice caa can cac,.slice vsp.a vsp.n vsp.c])∧Hid (Box wr (w.heap.size + 1) (pgc zero8))∧Hid (Box wr pp (pgc (cutTo [p0,p1,p2,p3,p4,p5,p6,p7] ix f.size i))))
    case atStart=>exact ⟨0,Nat.zero_le _,by omega,rfl,HG0.out.trans HG3.out,X0.out.grew HG3.out,Y0.out.grew HG3.out,P3.out⟩
    case round =>
     obtain ⟨i,hi,hg3,rfl,BW2,XW,YW2,PW⟩:=hrel;clear P3
     by_cases hlt2 : i < 8
     ·have hltz2 : (i : Int) < 8:=by omega
      obtain ⟨d0,d1⟩:=HBL.out wr BW2.out;have x7:=XW.out.c 7 rfl;clear d1;obtain ⟨z,hz⟩ : ∃ z,(cutTo [p0,p1,p2,p3,p4,p5,p6,p7] ix f.size i)[i]? = some z:=⟨_,List.getElem?_eq_getElem (by rw [cutTo_len]; exact hlt2)⟩
      have z0:=PW.out.c i (pgc_at hz);have zf:=PW.out.f
      by_cases hc : f.size≤8 * (ix : Int) + (i : Int)
      ·have hcd : decide (f.size≤8 * (ix : Int) + (i : Int)) = true:=by simpa using hc
       have P4 : Hid (Box (wr.setCell ⟨pp,i,none⟩ (.int .u8 0)) pp (pgc (cutTo [p0,p1,p2,p3,p4,p5,p6,p7] ix f.size (i + 1)))):=show Box _ _ _ by rw [←cutTo_cut (by exact hlt2) hc,pgc_set]; exact PW.out.set i _
       have X4 : Hid (Box (wr.setCell ⟨pp,i,none⟩ (.int .u8 0)) w.heap.size [.slice fa fn fc,.int .i64 m.hand,.slice vs.a vs.n vs.c,.slice vsb.a vsb.n vsb.c,.slice vsq.a vsq.n vsq.c,.slice vdb.a vdb.n vdb.c,.slice vdq.a vdq.n vdq.c,.slice (some ad) fln flc,.int .i64 m.cnt,.slice caa can cac,.slice vsp.a vsp.n vsp.c]):=show Box _ _ _ from XW.out.other (by have:=HPL.out; simp; omega) _
       have Y4 : Hid (Box (wr.setCell ⟨pp,i,none⟩ (.int .u8 0)) (w.heap.size + 1) (pgc zero8)):=show Box _ _ _ from YW2.out.other (by have:=HPL.out; simp; omega) _
       have G4 : Hid (Grew w (wr.setCell ⟨pp,i,none⟩ (.int .u8 0))):=show Grew _ _ from grew_set BW2.out (by have:=HPL.out; simp; omega) _
       clear hz;go_wp2
       go_roundg (8 - (i + 1))
       case measure=>omega
       case rel=>exact ⟨i + 1,by omega,by omega,by go_num,G4.out,X4.out,Y4.out,P4.out⟩
      ·have hcd : decide (f.size≤8 * (ix : Int) + (i : Int)) = false:=by simpa using hc
       have P4 : Hid (Box wr pp (pgc (cutTo [p0,p1,p2,p3,p4,p5,p6,p7] ix f.size (i + 1)))):=show Box _ _ _ by rw [←cutTo_not hc]; exact PW.out
       clear hz;go_wp2
       go_roundg (8 - (i + 1))
       case measure=>omega
       case rel=>exact ⟨i + 1,by omega,by omega,by go_num,BW2.out,XW.out,YW2.out,P4.out⟩
     ·have hltz2 : ¬ (i : Int) < 8:=by omega
      have : i = 8:=by omega
      subst this;have PE : Hid (Box wr pp (pgc C)):=show Box _ _ _ by
       have:=PW.out;rw [cutTo_all (by exact Nat.le_refl 8),←HCE.out] at this
       exact this
      have HCL : Hid (C.length = 8):=show _ = _ by rw [HCE.out]; unfold cutP; simp
      have HCP : Hid ((pgc C).length = 8):=show _ = _ by rw [pgc_len]; exact HCL.out
      go_wp2_with (first | (refine wp_loadAll rfl 50 (.tmp 10) rfl pp rfl PE.out Tryz.underlying50 rfl (by rw [HCP.out]; exact Tryz.sizePg) ?_) | (refine wp_storeAll rfl 50 (.tmp 6) (.tmp 77) rfl (w.heap.size + 1) rfl (pgc C) rfl YW2.out (by rw [HCP.out]; rfl) Tryz.sizePg (pgc_one _) ?_))
      intro W5 hb5 hg5 _;have HG5 : Hid (Grew w W5):=show Grew _ _ from grew_grown BW2.out hg5 (by omega)
      go_wp2;refine bodyPost_ret (ret_cell rfl _ rfl hb5 Tryz.underlying50 rfl (by rw [HCP.out]; exact Tryz.sizePg)) rfl ⟨rfl,HCL.out,HG5.out⟩
section
variable (I : World→Prop) (P : Program) (ops : Array Oper) (S : Nat→Option (Value→Prop))
def ClauseD (i : Nat) (F : World→Prop) (a : Act) (K : (World→Prop)→Act→Prop) : Prop :=
 match ops[i]? with
 | none=>False
 | some o =>
  if Region.wanted o (yielded ops a.tmps) then
   match S i with
   | none=>∃ v,(∀ w,I w→(execOp a.eval o).run P w = .ok (.value v) w)∧K F (a.put o.dst v)
   | some s=>∃ p : Value→World→Prop,(∀ w,I w→F w→Does P o a w fun v w'=>I w'∧s v∧p v w')∧∀ v,s v→K (p v) (a.put o.dst v)
  else K F (a.put o.dst undef)
def LexD (Q : Act→World→Prop) : List Nat→(World→Prop)→Act→Prop
 | [],F,a=>∀ w,I w→F w→Q a w
 | i :: l,F,a=>ClauseD I P ops S i F a (LexD Q l)
end
section
variable {I : World→Prop} {P : Program} {ops : Array Oper} {S : Nat→Option (Value→Prop)} {T : Nat}
theorem ClauseD.mono {i : Nat} {F : World→Prop} {a : Act} {K K' : (World→Prop)→Act→Prop}
  (h : ∀ F' a',K F' a'→K' F' a') (hc : ClauseD I P ops S i F a K) : ClauseD I P ops S i F a K':=by
 unfold ClauseD at *
 split
 ·rename_i ho; simp only [ho] at hc
 ·rename_i o ho
  simp only [ho] at hc
  split
  ·rename_i hw
   simp only [hw,if_true] at hc
   split
   ·rename_i hs
    simp only [hs] at hc;obtain ⟨v,h1,h2⟩:=hc;exact ⟨v,h1,h _ _ h2⟩
   ·rename_i s hs
    simp only [hs] at hc;obtain ⟨p,hd,hc⟩:=hc;exact ⟨p,hd,fun v hv=>h _ _ (hc v hv)⟩
  ·rename_i hw
   simp only [hw] at hc;exact h _ _ hc
theorem ClauseD.swap {i j : Nat} {oi oj : Oper} {F : World→Prop} {a : Act} {K : (World→Prop)→Act→Prop} {w : World}
  (hi : ops[i]? = some oi) (hj : ops[j]? = some oj) (hap : oi.apart ops oj = true)
  (hsi : ∀ cs b,oi.op≠.select cs b) (hsj : ∀ cs b,oj.op≠.select cs b)
  (hij : anc ops 9 i j = false) (hji : anc ops 9 j i = false) (hS : ∀ s,S i = some s→∃ v,s v) (hch : S i≠none→S j≠none→anc ops 9 i j = true∨anc ops 9 j i = true)
  (hw0 : I w)
  (h : ClauseD I P ops S i F a fun F' a'=>ClauseD I P ops S j F' a' K) : ClauseD I P ops S j F a fun F' a'=>ClauseD I P ops S i F' a' K:=by
 obtain ⟨h1,h2,h3⟩:=Oper.apart_spec hap;have ei : ∀ v,execOp (a.put oj.dst v).eval oi = execOp a.eval oi:=fun v=>execOp_put oi hsi a oj.dst v h3
 have ej : ∀ v,execOp (a.put oi.dst v).eval oj = execOp a.eval oj:=fun v=>execOp_put oj hsj a oi.dst v h1
 have wi : ∀ v,Region.wanted oi (yielded ops (a.put oj.dst v).tmps) = Region.wanted oi (yielded ops a.tmps):=fun v=>wanted_put oi a oj.dst v h3
 have wj : ∀ v,Region.wanted oj (yielded ops (a.put oi.dst v).tmps) = Region.wanted oj (yielded ops a.tmps):=fun v=>wanted_put oj a oi.dst v h1
 have di : ∀ v w K,Does P oi (a.put oj.dst v) w K = Does P oi a w K:=fun v w K=>by unfold Does; rw [ei]
 have dj : ∀ v w K,Does P oj (a.put oi.dst v) w K = Does P oj a w K:=fun v w K=>by unfold Does; rw [ej]
 have pc : ∀ v u,(a.put oi.dst v).put oj.dst u = (a.put oj.dst u).put oi.dst v:=fun v u=>Act.put_comm a v u h2
 unfold ClauseD at h ⊢;simp only [hi,hj,ei,ej,wi,wj,di,dj,pc] at h ⊢
 cases hwi : Region.wanted oi (yielded ops a.tmps) <;> cases hwj : Region.wanted oj (yielded ops a.tmps) <;>
  simp only [hwi,hwj,if_true,if_false,Bool.false_eq_true] at h ⊢
 ·exact h
 ·cases hsj' : S j with
  | none=>simp only [hsj'] at h ⊢; exact h
  | some s=>simp only [hsj'] at h ⊢; exact h
 ·cases hsi' : S i with
  | none=>simp only [hsi'] at h ⊢; exact h
  | some s=>simp only [hsi'] at h ⊢; exact h
 ·cases hsi' : S i with
  | none =>
   simp only [hsi'] at h;obtain ⟨vi,hri,h⟩:=h
   cases hsj' : S j with
   | none =>
    simp only [hsj'] at h ⊢;obtain ⟨vj,hrj,h⟩:=h;exact ⟨vj,hrj,vi,hri,h⟩
   | some s =>
    simp only [hsj'] at h ⊢;obtain ⟨p,hd,hk⟩:=h;exact ⟨p,hd,fun vj hvj=>⟨vi,hri,hk vj hvj⟩⟩
  | some si =>
   simp only [hsi'] at h;obtain ⟨p,hdi,h⟩:=h;obtain ⟨v1,hv1⟩:=hS si hsi'
   cases hsj' : S j with
   | none =>
    simp only [hsj'] at h ⊢;obtain ⟨vj,hrj,_⟩:=h v1 hv1;refine ⟨vj,hrj,p,hdi,fun vi hvi=>?_⟩
    obtain ⟨vj',hrj',hl⟩:=h vi hvi;have e1:=hrj w hw0;have e2:=hrj' w hw0;rw [e1] at e2;simp only [Result.ok.injEq,Next.value.injEq,and_true] at e2;subst e2;exact hl
   | some sj =>
    exfalso
    rcases hch (by rw [hsi']; simp) (by rw [hsj']; simp) with h1 | h1
    ·rw [hij] at h1; cases h1
    ·rw [hji] at h1; cases h1
theorem LexD.commute {Q : Act→World→Prop} {j : Nat} {oj : Oper} {w : World} (hj : ops[j]? = some oj) (hw0 : I w)
  (hsel : ∀ (k : Nat) (o : Oper) cs b,ops[k]? = some o→o.op≠.select cs b) (hS : ∀ k s,S k = some s→∃ v,s v) (hch : ∀ i k,i < k→S i≠none→S k≠none→anc ops 9 i k = true) :
  ∀ (l : List Nat) (F : World→Prop) (a : Act),l.Nodup→j∈l →
   (∀ i∈l,i≠j→∃ oi,ops[i]? = some oi∧(i < j→oi.apart ops oj = true)∧anc ops 9 i j = false∧(i < j→anc ops 9 j i = false)) →
   (l.Pairwise (· < ·))→LexD I P ops S Q l F a→LexD I P ops S Q (j :: l.filter (· != j)) F a
 | [],_,_,_,hm,_,_,_=>by cases hm
 | i :: l,F,a,hnd,hm,hall,hsorted,h=>by
  by_cases hij : i = j
  ·subst hij;have : (i :: l).filter (· != i) = l:=by
    rw [List.filter_cons];simp only [bne_self_eq_false,Bool.false_eq_true,if_false];refine List.filter_eq_self.2 fun x hx=>?_
    have : x≠i:=fun e=>(List.nodup_cons.1 hnd).1 (e ▸ hx)
    simpa using this
   rw [this];exact h
  ·have hjl : j∈l:=by
    rcases List.mem_cons.1 hm with e | e
    ·exact absurd e.symm hij
    ·exact e
   have hlt : i < j:=(List.pairwise_cons.1 hsorted).1 j hjl;obtain ⟨oi,hoi,hap,haij,haji⟩:=hall i (by simp) hij
   have hf : (i :: l).filter (· != j) = i :: l.filter (· != j):=by
    rw [List.filter_cons];have : (i != j) = true:=by simpa using hij
    simp [this]
   rw [hf];refine ClauseD.swap hoi hj (hap hlt) (fun cs b=>hsel i oi cs b hoi) (fun cs b=>hsel j oj cs b hj) haij (haji hlt) (hS i) (fun q1 q2 => .inl (hch i j hlt q1 q2)) hw0 ?_
   refine ClauseD.mono (fun F' a' hl=>?_) h
   exact LexD.commute hj hw0 hsel hS hch l F' a' (List.nodup_cons.1 hnd).2 hjl (fun k hk=>hall k (by simp [hk])) (List.pairwise_cons.1 hsorted).2 hl
theorem wpAny_of_lexD {Q : Act→World→Prop} {Q' : Exit→Act→World→Prop} {l : List Oper} {m : Nat} (hB : laxTB ops T = true) (hTl : T + m = ops.size) (hll : l.length = m) (hops : ∀ j,l[j]? = ops[T + j]?) (hS : ∀ k s,S k = some s→∃ v,s v)
  (hch : ∀ i k,i < k→S i≠none→S k≠none→anc ops 9 i k = true) (hQ : ∀ a w,Q a w→wpList P ops Q' l a w) :
  ∀ (fuel : Nat) (listed : Array Bool) (F : World→Prop) (a : Act) (w : World),listed.size = ops.size→(∀ i,T≤i→i < ops.size→listed.getD i true = false)→(unlistedT listed T).length = fuel→closed ops listed→I w →
   F w→LexD I P ops S Q (unlistedT listed T) F a→wpAny P .any ops Q' (fuel + m) listed a w:=by
 have hsel:=Region.noSelect_spec (ops:=ops) (by simp only [laxTB,Bool.and_eq_true] at hB; exact hB.1.1)
 intro fuel
 induction fuel with
 | zero =>
  intro listed F a w hsz hout hl hc hw hF h;have hnil : unlistedT listed T = []:=List.eq_nil_of_length_eq_zero hl;rw [hnil] at h;rw [Nat.zero_add];refine wpAny_last hB m l T listed a w (Nat.le_refl _) hsz hTl hll hops (fun i hi=>?_) hout (hQ _ _ (h w hw hF))
  cases hg : listed.getD i true with
  | true=>rfl
  | false =>
   have : i∈unlistedT listed T:=List.mem_filter.2 ⟨List.mem_range.2 hi,by simp only [hg,beq_self_eq_true]⟩
   rw [hnil] at this;cases this
 | succ fuel ih =>
  intro listed F a w hsz hout hl hc hw hF h;rw [Nat.add_right_comm];refine ⟨fun hr=>?_,fun j hj=>?_⟩
  ·exfalso
   cases hu : unlistedT listed T with
   | nil=>simp [hu] at hl
   | cons x xs =>
    have hx : x∈unlistedT listed T:=by rw [hu]; simp
    have hx':=List.mem_filter.1 hx;have hxT : x < T:=List.mem_range.1 hx'.1;have hxs : x < ops.size:=by omega
    have ho : ops[x]? = some ops[x]:=Array.getElem?_eq_getElem hxs;have hsorted : (unlistedT listed T).Pairwise (· < ·):=List.Pairwise.filter _ List.pairwise_lt_range;have : x∈Region.ready .any ops listed:=by
     refine mem_ready.2 ⟨by simpa using hx'.2,ops[x],ho,fun e he hb=>?_⟩
     have hed : edge ops e.on x = true:=(edge_of ho).2 ⟨e,he,hb,rfl⟩;have hlt:=laxTB_edge hB ho _ hed
     cases hg : listed.getD e.on true with
     | true=>exact getD_up (by omega) hg
     | false =>
      have hmem : e.on∈unlistedT listed T:=List.mem_filter.2 ⟨List.mem_range.2 (by omega),by simp only [hg,beq_self_eq_true]⟩
      rw [hu] at hmem hsorted
      rcases List.mem_cons.1 hmem with e1 | e1
      ·omega
      ·have:=(List.pairwise_cons.1 hsorted).1 _ e1;omega
    rw [hr] at this;cases this
  ·obtain ⟨h0,oj,hoj,hall⟩:=mem_ready.1 hj;have hjs : j < ops.size:=(Array.getElem?_eq_some_iff.1 hoj).1;have hdir : ∀ k,edge ops k j = true→listed.getD k false = true:=fun k hk=>by
    obtain ⟨e,he,hb,rfl⟩:=(edge_of hoj).1 hk;exact hall e he hb
   have hjT : j < T:=by
    rcases Nat.lt_or_ge j T with h1 | h1
    ·exact h1
    ·exfalso
     cases hu : unlistedT listed T with
     | nil=>simp [hu] at hl
     | cons x xs =>
      have hx : x∈unlistedT listed T:=by rw [hu]; simp
      have hx':=List.mem_filter.1 hx;have hxT : x < T:=List.mem_range.1 hx'.1;have:=anc_listed hc j x j hdir (laxTB_last hB hoj h1 x (by omega))
      rw [getD_flip (by simpa using hx'.2)] at this
      cases this
   have hju : j∈unlistedT listed T:=List.mem_filter.2 ⟨List.mem_range.2 hjT,by simp only [h0,beq_self_eq_true]⟩
   have hnd : (unlistedT listed T).Nodup:=List.Pairwise.filter _ List.nodup_range;have hsorted : (unlistedT listed T).Pairwise (· < ·):=List.Pairwise.filter _ List.pairwise_lt_range;have hcm:=LexD.commute hoj hw hsel hS hch (unlistedT listed T) F a hnd hju (fun i hi hij=>by
    have hi':=List.mem_filter.1 hi;have hun : listed.getD i false = false:=getD_flip (by simpa using hi'.2)
    have his : i < ops.size:=by have:=List.mem_range.1 hi'.1; omega
    have hoi : ops[i]? = some ops[i]:=Array.getElem?_eq_getElem his;refine ⟨ops[i],hoi,fun hlt=>?_,?_,fun hlt=>?_⟩
    ·rcases laxTB_apart hB hoj hjT i hlt with he | ⟨oi,hoi',hap⟩
     ·have:=hdir i he;rw [hun] at this;cases this
     ·rw [hoi] at hoi';cases hoi';exact hap
    ·cases ha : anc ops 9 i j with
     | false=>rfl
     | true =>
      have:=anc_listed hc 9 i j hdir ha;rw [hun] at this;cases this
    ·cases ha : anc ops 9 j i with
     | false=>rfl
     | true =>
      have:=ancT_lt hB 9 j i ha
      omega) hsorted h
   have hsz' : (listed.setIfInBounds j true).size = ops.size:=by simp [hsz]
   have hout' : ∀ i,T≤i→i < ops.size→(listed.setIfInBounds j true).getD i true = false:=fun i hi hi'=>by rw [getD_set_ne true (by omega)]; exact hout i hi hi'
   have hlen' : (unlistedT (listed.setIfInBounds j true) T).length = fuel:=by
    rw [unlistedT_set (by omega)]
    have he : (unlistedT listed T).filter (· != j) = (unlistedT listed T).erase j:=by
     rw [List.Nodup.erase_eq_filter hnd]
    rw [he,List.length_erase_of_mem hju];omega
   have hc' : closed ops (listed.setIfInBounds j true):=fun i k hk hik=>by
    by_cases hkj : j = k
    ·subst hkj;exact getD_set_true (hdir i hik)
    ·rw [getD_set_ne false hkj] at hk;exact getD_set_true (hc i k hk hik)
   unfold wpOp;simp only [hoj];simp only [LexD,ClauseD,hoj] at hcm;rw [←unlistedT_set (by omega)] at hcm
   split
   ·rename_i hwant
    simp only [hwant,if_true] at hcm;refine .inl ?_
    cases hs : S j with
    | none =>
     simp only [hs] at hcm;obtain ⟨v,hrun,hk⟩:=hcm;have hr:=hrun w hw;unfold Oper.wp;rw [hr];exact ih _ F _ w hsz' hout' hlen' hc' hw hF hk
    | some s =>
     simp only [hs] at hcm;obtain ⟨p,hd,hk⟩:=hcm;refine (hd w hw hF).wp fun v w' ⟨hi',hpv,hpost⟩=>?_
     exact ih _ (p v) _ w' hsz' hout' hlen' hc' hi' hpost (hk v hpv)
   ·rename_i hwant
    simp only [hwant] at hcm;exact ih _ F _ w hsz' hout' hlen' hc' hw hF hcm
end
section
variable {I : World→Prop} {P : Program} {ops : Array Oper} {S : Nat→Option (Value→Prop)} {Q : Act→World→Prop}
variable (I P ops S Q) in
def wpLaxD : List Oper→Nat→(World→Prop)→Act→Prop
 | [],_,F,a=>∀ w,I w→F w→Q a w
 | o :: rest,k,F,a =>
  if Region.wanted o (yielded ops a.tmps) then
   match S k with
   | none=>∃ v,(∀ w,I w→(execOp a.eval o).run P w = .ok (.value v) w)∧wpLaxD rest (k + 1) F (a.put o.dst v)
   | some s=>∃ p : Value→World→Prop,(∀ w,I w→F w→Does P o a w fun v w'=>I w'∧s v∧p v w')∧∀ v,s v→wpLaxD rest (k + 1) (p v) (a.put o.dst v)
  else wpLaxD rest (k + 1) F (a.put o.dst undef)
theorem lexD_of_lax : ∀ (l : List Oper) (k : Nat) (F : World→Prop) (a : Act),(∀ j,l[j]? = ops[k + j]?∨l.length≤j)→wpLaxD I P ops S Q l k F a→LexD I P ops S Q (List.range' k l.length) F a
 | [],_,_,_,_,h=>h
 | o :: l,k,F,a,hl,h=>by
  have h0 : ops[k]? = some o:=by
   rcases hl 0 with e | e
   ·simpa using e.symm
   ·simp at e
  have hnext : ∀ j,l[j]? = ops[k + 1 + j]?∨l.length≤j:=fun j=>by
   rcases hl (j + 1) with e | e
   ·left; rw [List.getElem?_cons_succ] at e; rw [e]; congr 1; omega
   ·right; simpa using e
  simp only [List.length_cons,List.range'_succ,LexD,ClauseD,h0];unfold wpLaxD at h
  split
  ·rename_i hw
   simp only [hw,if_true] at h
   cases hs : S k with
   | none =>
    simp only [hs] at h;obtain ⟨v,h1,h2⟩:=h;exact ⟨v,h1,lexD_of_lax l (k + 1) _ _ hnext h2⟩
   | some s =>
    simp only [hs] at h;obtain ⟨p,hd,hk⟩:=h;exact ⟨p,hd,fun v hv=>lexD_of_lax l (k + 1) _ _ hnext (hk v hv)⟩
  ·rename_i hw
   simp only [hw] at h;exact lexD_of_lax l (k + 1) _ _ hnext h
variable (I P ops S Q) in
structure WLaxD (l : List Oper) (k : Nat) (F : World→Prop) (a : Act) : Prop where
 out : wpLaxD I P ops S Q l k F a
theorem wp_lax_tailD {id : Nat} {Q : Exit→Act→World→Prop} {a : Act} {w : World} {L l r : List Oper} (T : Nat) (S : List (Nat × (Value→Prop))) (F : World→Prop) (hI : I w.drew) (hF : F w.drew) (hm : P.follows .mixedOrders = true) (hB : laxTB L.toArray T = true) (hl : L.take T = l) (hr : L.drop T = r) (hT : T≤L.length)
  (hS : ∀ x∈S,∃ v,x.2 v) (hch : ((S.map (·.1)).all fun i=>(S.map (·.1)).all fun k=>!decide (i < k) || anc L.toArray 9 i k) = true)
  (h : WLaxD I P L.toArray (fun k=>S.lookup k) (fun a w=>wpList P L.toArray Q r a w) l 0 F a) : (Code.region id L.toArray true).wp P Q a w:=by
 have hlook : ∀ (S : List (Nat × (Value→Prop))) k s,S.lookup k = some s→∃ x∈S,x.2 = s∧x.1 = k:=by
  intro S
  induction S with
  | nil=>intro k s h; simp at h
  | cons x S ih =>
   intro k s h;rw [List.lookup_cons] at h
   split at h
   ·rename_i he
    exact ⟨x,by simp,by simpa using h,by simpa using (by simpa using he : k = x.1).symm⟩
   ·obtain ⟨y,hy,he⟩:=ih k s h; exact ⟨y,by simp [hy],he⟩
 have hlT : l.length = T:=by rw [←hl,List.length_take]; omega
 have hrT : r.length = L.length - T:=by rw [←hr,List.length_drop]
 refine wp_region_any hm ?_;have hu : unlistedT (Array.replicate L.toArray.size false) T = List.range T:=by
  unfold unlistedT;refine List.filter_eq_self.2 fun i hi=>?_
  have : i < T:=by simpa using hi
  simp [show i < L.length by omega]
 have h':=lexD_of_lax (ops:=L.toArray) l 0 _ a (fun j=>by
  rcases Nat.lt_or_ge j T with hj | hj
  ·left; rw [←hl,List.getElem?_take_of_lt hj]; simp
  ·right; omega) h.out
 rw [hlT,←List.range_eq_range'] at h';have hfin:=wpAny_of_lexD (I:=I) (P:=P) (S:=fun k=>S.lookup k) (F:=F) (ops:=L.toArray) (T:=T) (l:=r) (m:=L.length - T) (Q:=fun a w=>wpList P L.toArray Q r a w) (Q':=Q) hB (by simp; omega) hrT (fun j=>by rw [←hr,List.getElem?_drop]; simp) (fun k s hs=>by obtain ⟨x,hx,rfl,_⟩:=hlook S k s hs; exact hS x hx) (fun i k hik hi hk=>by
   obtain ⟨si,hsi⟩:=Option.ne_none_iff_exists'.1 hi;obtain ⟨sk,hsk⟩:=Option.ne_none_iff_exists'.1 hk;obtain ⟨x,hx,_,rfl⟩:=hlook S i si hsi;obtain ⟨y,hy,_,rfl⟩:=hlook S k sk hsk;have h1:=List.all_eq_true.1 (List.all_eq_true.1 hch x.1 (List.mem_map.2 ⟨x,hx,rfl⟩)) y.1 (List.mem_map.2 ⟨y,hy,rfl⟩)
   simpa [hik] using h1) (fun _ _ h=>h)
  T (Array.replicate L.toArray.size false) a w.drew (by simp) (fun i hi hi'=>by simp at hi'; simp [hi']) (by rw [hu]; simp) (fun i j hj _=>by
   exfalso;rw [Array.getD_eq_getD_getElem?,Array.getElem?_replicate] at hj
   split at hj <;> simp at hj)
  hI hF (by rw [hu]; exact h')
 have hsz : T + (L.length - T) = L.toArray.size:=by simp; omega
 rw [hsz] at hfin;exact hfin
variable {o : Oper} {rest : List Oper} {k : Nat} {F : World→Prop} {a : Act}
theorem laxD_quiet (ht : tame o = true) (hw : Region.wanted o (yielded ops a.tmps) = true) (hS : S k = none)
  (h : ∀ K : Act→Prop,(∀ a,WLaxD I P ops S Q rest (k + 1) F a→K a)→o.quiet P a (fun w'=>∃ x : HoldI I,w' = x.world) K) : WLaxD I P ops S Q (o :: rest) k F a:=by
 obtain ⟨v,h1,h2⟩:=h _ fun _ h=>h
 constructor;unfold wpLaxD;rw [if_pos hw];simp only [hS];refine ⟨v,fun w hg=>?_,h2.out⟩
 have h3:=h1 w ⟨⟨w,hg⟩,rfl⟩;unfold Oper.quietAt at h3;have hne:=fun n w'=>@tame_value P o ht a.eval w w' n
 generalize (execOp a.eval o).run P w = r at *
 cases r with
 | ok n w' =>
  cases n <;> simp only [Oper.quietUpon] at h3
  case value u=>rw [h3.1,h3.2]
  case skip=>obtain ⟨_,he⟩:=hne _ _ rfl; cases he
  case enter f args=>obtain ⟨_,he⟩:=hne _ _ rfl; cases he
 | halt x w'=>simp only [Oper.quietUpon] at h3
theorem laxD_skip (hw : Region.wanted o (yielded ops a.tmps) = false) (h : WLaxD I P ops S Q rest (k + 1) F (a.put o.dst undef)) : WLaxD I P ops S Q (o :: rest) k F a:=by
 constructor;unfold wpLaxD;rw [if_neg (by rw [hw]; exact Bool.false_ne_true)]
 exact h.out
theorem laxD_spec {s : Value→Prop} (hw : Region.wanted o (yielded ops a.tmps) = true) (hS : S k = some s) (p : Value→World→Prop)
  (h : ∀ w,I w→F w→Does P o a w fun v w'=>I w'∧s v∧p v w')
  (hn : ∀ v,s v→WLaxD I P ops S Q rest (k + 1) (p v) (a.put o.dst v)) : WLaxD I P ops S Q (o :: rest) k F a:=by
 constructor;unfold wpLaxD;rw [if_pos hw];simp only [hS];exact ⟨p,h,fun v hv=>(hn v hv).out⟩
theorem laxD_nilc (x : Operand) (p : Addr) (ho : o.op = .nilCheck x) (hx : a.eval x = .pointer (some p)) (hw : Region.wanted o (yielded ops a.tmps) = true) (hS : S k = none) (h : WLaxD I P ops S Q rest (k + 1) F (a.put o.dst (.pointer (some p)))) : WLaxD I P ops S Q (o :: rest) k F a:=by
 constructor;unfold wpLaxD;rw [if_pos hw];simp only [hS];exact ⟨_,fun w _=>run_nilc x p ho hx,h.out⟩
theorem laxD_nil (h : ∀ w,I w→F w→Q a w) : WLaxD I P ops S Q [] k F a:=⟨h⟩
end
theorem Keeps.own {hi g : Nat} {a b c : World} (h : Keeps hi a b) (hg : b.grownBy c (some g)) (ha : a.heap.size≤g) : Keeps hi a c:=⟨fun p t cs h1 h2=>(h.1 p t cs h1 h2).beside hg (fun k e=>by cases e; have:=h1.box.lt; omega),Nat.le_trans h.2 hg.size⟩
theorem lookup_in {α : Type} {k : Nat} {s : α} : ∀ {S : List (Nat × α)},S.lookup k = some s→(k,s)∈S
 | [],h=>by simp at h
 | (p,a) :: S,h=>by
  by_cases h1 : k = p
  ·subst h1
   simp at h
   subst h;simp
  ·have e1 : (k == p) = false:=by simpa using h1
   rw [List.lookup_cons,e1] at h;exact List.mem_cons_of_mem _ (lookup_in h)
theorem tw_split {α : Type} {p : α→Bool} : ∀ {l : List α} {k : Nat},(∀ (j : Nat) x,j < k→l[j]? = some x→p x = true)→(∀ x,l[k]? = some x→p x = false)→k≤l.length→l.takeWhile p = l.take k∧l.dropWhile p = l.drop k
 | [],0,_,_,_=>⟨rfl,rfl⟩
 | [],k + 1,_,_,h=>by simp at h
 | x :: l,0,_,h,_=>by
  have:=h x rfl
  simp [this]
 | x :: l,k + 1,h1,h2,h3=>by
  have hx:=h1 0 x (Nat.zero_lt_succ _) rfl;obtain ⟨e1,e2⟩:=tw_split (l:=l) (k:=k) (fun j y hj hy=>h1 (j + 1) y (by omega) (by simpa using hy)) (fun y hy=>h2 y (by simpa using hy)) (by simpa using h3)
  simp [hx,e1,e2]
theorem Tryz.sizeCached : (Tryz.prog.info? 87).map (·.size) = some 3:=by kernel_rfl
theorem size_cached (w : World) : (Go.sizeOf 87).run Tryz.prog w = .ok 3 w:=by
 obtain ⟨i0,h1,h2⟩ : ∃ i0,Tryz.prog.info? 87 = some i0∧i0.size = 3:=by
  have:=Tryz.sizeCached
  cases hq : Tryz.prog.info? 87 with
  | none=>rw [hq] at this; cases this
  | some i0=>rw [hq] at this; exact ⟨i0,rfl,by simpa using this⟩
 simp [Go.sizeOf,typeInfo,h1,h2]
theorem run_upto {w : World} {a : Option Addr} {n c k : Nat} (hk : k≤c) : (Instr.sliceAt 37 (.slice a n c) none (some (.int .i64 (k : Int))) none).run Tryz.prog w = .ok (.slice a k c) w:=by
 have h1 : (0 : Int)≤(k : Int)∧(k : Int)≤(c : Int):=by omega
 simp only [Instr.sliceAt,Instr.slice,Instr.sliceBounds,Instr.sliceBound,asIntOf,Sem.run_bind,Sem.run_pure,Result.andThen_ok,run_underlying Tryz.underlying37];rw [if_pos h1];simp only [Sem.run_pure,Result.andThen_ok,size_cached,Int.toNat_natCast]
 cases a with
 | none=>simp
 | some ad=>by_cases hc : c = 0 <;> simp [hc,Addr.add]
theorem run_from {w : World} {a : Option Addr} {n c k : Nat} (hk : k≤n) : (Instr.sliceAt 37 (.slice a n c) (some (.int .i64 (k : Int))) none none).run Tryz.prog w = .ok (.slice (a.map fun ad=>if c = k then ad else ad.add (k * 3)) (n - k) (c - k)) w:=by
 have h1 : (0 : Int)≤(k : Int)∧(k : Int)≤(n : Int):=by omega
 simp only [Instr.sliceAt,Instr.slice,Instr.sliceBounds,Instr.sliceBound,asIntOf,Sem.run_bind,Sem.run_pure,Result.andThen_ok,run_underlying Tryz.underlying37];rw [if_pos h1];simp only [Sem.run_pure,Result.andThen_ok,size_cached,Int.toNat_natCast]
 cases a with
 | none=>simp
 | some ad=>by_cases hc : c = k <;> simp [hc]
theorem RowAt.upto {w : World} {a : Option Addr} {n c k : Nat} {l : List Ca} (h : RowAt cchE w (.slice a n c) l) (hk : k≤n) : RowAt cchE w (.slice a k c) (l.take k):=by
 have hn:=h.n;obtain ⟨⟨xa,xc,q1,q2,q3⟩,q4⟩:=h;cases q1;refine ⟨⟨a,c,by rw [List.length_take,Nat.min_eq_left (by omega)],fun e=>by rw [q2 e]; simp,fun ad e=>?_⟩,?_⟩
 ·intro j u hj;refine q3 ad e j u ?_;have hs : l.flatMap cchE.enc = (l.take k).flatMap cchE.enc ++ (l.drop k).flatMap cchE.enc:=by rw [←List.flatMap_append,List.take_append_drop]
  rw [hs,List.getElem?_append_left (List.getElem?_eq_some_iff.1 hj).1];exact hj
 ·refine Nat.le_trans (Nat.mul_le_mul_right _ ?_) q4;rw [List.length_take];omega
theorem RowAt.from {w : World} {a : Option Addr} {n c k : Nat} {l : List Ca} (h : RowAt cchE w (.slice a n c) l) (hk : k≤n) (hc : n≤c) : RowAt cchE w (.slice (a.map fun ad=>if c = k then ad else ad.add (k * 3)) (n - k) (c - k)) (l.drop k):=by
 have hn:=h.n;obtain ⟨⟨xa,xc,q1,q2,q3⟩,q4⟩:=h;cases q1;refine ⟨⟨_,_,by rw [List.length_drop],fun e=>?_,fun ad e=>?_⟩,?_⟩
 ·cases a with
  | none=>rw [q2 rfl]; simp
  | some ad=>cases e
 ·cases a with
  | none=>cases e
  | some ad0 =>
   simp only [Option.map_some,Option.some.injEq] at e;intro j u hj
   by_cases hck : c = k
   ·have : l.drop k = []:=List.drop_eq_nil_of_le (by omega)
    rw [this] at hj
    simp at hj
   ·rw [if_neg hck] at e;subst e;rw [add_add'];refine q3 ad0 rfl _ u ?_;have hs : l.flatMap cchE.enc = (l.take k).flatMap cchE.enc ++ (l.drop k).flatMap cchE.enc:=by rw [←List.flatMap_append,List.take_append_drop]
    have hl : ((l.take k).flatMap cchE.enc).length = k * 3:=by rw [row_len,List.length_take,Nat.min_eq_left (by omega)]; rfl
    rw [hs,List.getElem?_append_right (by rw [hl]; omega),hl,show k * 3 + j - k * 3 = j by omega]
    exact hj
 ·refine Nat.le_trans (Nat.mul_le_mul_right _ ?_) q4;rw [List.length_drop];omega
theorem own_cached (w : World) (c : Ca) : OwnRow cchE w.heap.size (w.alloc (.cells #[.int .i64 c.file,.int .i64 c.idx,.int .i64 c.fr] 87)) (.slice (some ⟨w.heap.size,0,none⟩) 1 1) [c]:=by
 refine ⟨⟨rfl,.inr ⟨w.heap.size,1,#[.int .i64 c.file,.int .i64 c.idx,.int .i64 c.fr],rfl,Nat.le_refl _,?_,Nat.le_refl _,maxLen_of (by omega),rfl,rfl⟩⟩,by show 1 * 24≤_; omega⟩
 show (w.heap.push _)[w.heap.size]? = _
 simp [cchE]
theorem BoxT.part {w : World} {b : Nat} {t : TypeId} : ∀ {ds cs : List Value} {o : Nat},BoxT w b t cs→o + ds.length≤cs.length→BoxT (w.setCells b o ds) b t (splice cs o ds):=by
 have key : ∀ (ds cs : List Value) (o : Nat) (w : World),BoxT w b t cs→o + ds.length≤cs.length→BoxT (w.setCells b o ds) b t (splice cs o ds):=fun ds=>by
  induction ds with
  | nil =>
   intro cs o w h hl;have : splice cs o [] = cs:=by simp [splice]
   rw [this];exact h
  | cons d ds ih =>
   intro cs o w h hl;simp only [List.length_cons] at hl;have h1:=h.set o d;have h2:=ih (cs.set o d) (o + 1) (w.setCell ⟨b,o,none⟩ d) h1 (by simp; omega)
   have h3 : splice (cs.set o d) (o + 1) ds = splice cs o (d :: ds):=by
    unfold splice;rw [List.take_set,List.drop_set,if_pos (by omega),List.take_add_one,List.getElem?_eq_getElem (by omega)]
    simp only [List.length_cons,Option.toList_some];rw [List.set_append_right _ _ (by simp; omega),show o + 1 + ds.length = o + (ds.length + 1) by omega]
    simp [List.length_take,Nat.min_eq_left (show o≤cs.length by omega)]
   rw [h3] at h2;exact h2
 exact fun {ds cs o} h hl=>key ds cs o w h hl
theorem wp_storeAllT {ops : Array Oper} {rest : List Oper} {o : Oper} {a : Act} {w : World} {Q : Exit→Act→World→Prop} (hgd : o.guard = none) (ty : TypeId) (p x : Operand) (ho : o.op = .store ty p x) (b : Nat) (hp : a.eval p = .pointer (some ⟨b,0,none⟩)) (vs : List Value) (hx : a.eval x = .agg vs.toArray)
  {cs : List Value} {t : TypeId} (hb : BoxT w b t cs) (hl : vs.length = cs.length) (hi : (Tryz.prog.info? ty).map (·.size) = some cs.length) (h1 : ∀ v∈vs,v.oneCell' = true)
  (h : ∀ w',BoxT w' b t vs→w.grownBy w' (some b)→w'.heap.size = w.heap.size→wpList Tryz.prog ops Q rest (a.put o.dst undef) w') : wpList Tryz.prog ops Q (o :: rest) a w:=by
 refine wpList_store_mid hgd ty p x ho b 0 vs.toArray hp hx ?_ ?_ (all_oneCell_toArray h1) ?_
 ·simpa [hl] using hb.box.there
 ·simpa [hl] using hi
 ·have:=hb.part (ds:=vs) (o:=0) (by omega)
  rw [splice_all hl] at this;exact h _ this (setCells_grown b vs 0 w).1 (setCells_grown b vs 0 w).2
theorem MkE.trans {w0 w w1 w' : World} {hi b : Nat} {L L1 : List Int} {V' : MaV} {m' : Ma} {vt' : Sli} {T' : List (Nat→En)} (h1 : Less L L1) (h2 : Keeps hi w w1) (h : MkE w0 hi b w1 L1 V' m' vt' T' w') : MkE w0 hi b w L V' m' vt' T' w':=by
 obtain ⟨vl',L',k1,k2,k3⟩:=h;exact ⟨vl',L',k1,h1.trans k2,h2.trans k3⟩
theorem Mk.page {w0 w w' : World} {hi b pp : Nat} {vl : Sli} {L : List Int} {V : MaV} {m : Ma} {vt : Sli} {T : List (Nat→En)} {cs : List Value} (h : Mk w0 hi w b vl L V m vt T) (hp : BoxT w pp 50 cs) (hh : hi≤pp) (hg : w.grownBy w' (some pp)) : Mk w0 hi w' b vl L V m vt T:=by
 have hne : b≠pp:=fun e=>by
  subst e;have h1 : w.heap[b]? = _:=h.box;rw [show w.heap[b]? = _ from hp] at h1
  cases h1
 exact ⟨grew_grown h.gr hg (Nat.le_trans h.rows.bh hh),h.hb,h.box.beside hg (fun k e=>by cases e; exact hne),h.lr,h.lc,h.lb,h.rows.var hg hp hg.size (.inr ⟨rfl,hh⟩)⟩
theorem loc_page {hi pp : Nat} (h : hi≤pp) : Loc hi pp 50:=⟨by decide,by decide,by decide,by decide,by decide,by decide,by decide,by decide,fun _=>h⟩
theorem MkR.setCa {base hi : Nat} {w : World} {V : MaV} {m : Ma} {vt : Sli} {T : List (Nat→En)} (h : MkR base hi w V m vt T) {s : Sli} {ca : List Ca} (ho : OwnRow cchE base w (.slice s.a s.n s.c) ca) : MkR base hi w { V with ca:=s } { m with ca:=ca } vt T:=⟨h.hw,h.bh,h.fs,h.sl,h.slh,h.sb,h.sbh,h.sq,h.db,h.dbh,h.dq,h.fl,ho,h.sp,h.tt,h.ap⟩
def Came (w0 : World) (hi b : Nat) (w : World) (L : List Int) (V : MaV) (m : Ma) (vt : Sli) (T : List (Nat→En)) (fi ix j : Nat) (w' : World) : Prop:=∃ (q : Fr) (p : Pg) (u d : Bool) (s : Sli),m.fs[j]? = some q∧q.r = 0∧(∀ c∈m.ca,¬ (c.file = (fi : Int)∧c.idx = (ix : Int)))∧MkE w0 hi b w L { V with ca:=s } { m with fs:=m.fs.set j ⟨p,1,u,d,fi,ix⟩,ca:=insCa m.ca ⟨fi,ix,j⟩ } vt T w'
theorem cached_any {w0 : World} {hi : Nat} {b : Nat} {vl : Sli} {L : List Int} {V : MaV} {m : Ma} {vt : Sli} {T : List (Nat→En)} {w : World} (fi ix : Nat) (f : Fl) (bk : Int) (h : Mk w0 hi w b vl L V m vt T) (hca : ∀ c∈m.ca,0≤c.file∧c.file≤1000∧0≤c.idx∧c.idx≤1000∧0≤c.fr∧c.fr < m.fs.length) (hf : m.fl[fi]? = some f) (hbk : f.bl[ix]? = some bk) (hix : ix≤1000) (hfi : fi≤1000) (hcn : m.ca.length≤1000) :
  Calls Tryz.prog 119 #[.pointer (some ⟨b,0,none⟩),.int .i64 (fi : Int),.int .i64 (ix : Int)] w fun e w'=>(e = .returned (.int .i64 (-1))∧MkE w0 hi b w L V m vt T w')∨(∃ c,c∈m.ca∧c.file = (fi : Int)∧c.idx = (ix : Int)∧e = .returned (.int .i64 c.fr)∧MkE w0 hi b w L V m vt T w')∨∃ j : Nat,e = .returned (.int .i64 (j : Int))∧Came w0 hi b w L V m vt T fi ix j w':=by
 have HM : Hid (Mk w0 hi w b vl L V m vt T):=h;have HCA : Hid (∀ c∈m.ca,0≤c.file∧c.file≤1000∧0≤c.idx∧c.idx≤1000∧0≤c.fr∧c.fr < m.fs.length):=hca;have HF : Hid (m.fl[fi]? = some f):=hf;have HBK : Hid (f.bl[ix]? = some bk):=hbk;obtain ⟨n,HN⟩ : ∃ n,Hid (V.ca.n = n):=⟨_,rfl⟩;have HLN : Hid (m.ca.length = n):=show _ = _ by rw [←HN.out,h.rows.ca.n]
 have hn : n≤1000:=by rw [←HLN.out]; exact hcn
 have HCC : Hid (n≤V.ca.c):=show _≤_ by
  have:=h.rows.ca.cap;rw [HN.out] at this;exact this
 obtain ⟨caa,HAA⟩ : ∃ a,Hid (V.ca.a = a):=⟨_,rfl⟩;have HCR : Hid (∀ W,(∃ vl' L' m',m'.ca = m.ca∧Mk w0 hi W b vl' L' V m' vt T)→CaRows W caa m.ca):=show ∀ W,_ from fun W ⟨_,_,m',e,k⟩=>by
  have:=k.rows.at.cas;rw [e,HAA.out] at this;exact this
 clear h hca hf hbk hcn
 go_enter Tryz.func119,Tryz.ntmps119
 have x10:=HM.out.box.box.c 10 rfl;rw [HN.out,HAA.out] at x10;go_wp2;clear x10
 go_loopg [20] n (fun gg s20 wr=>∃ kk : Nat,kk≤n∧n - kk≤gg∧s20 = .int .i64 kk∧Hid (Grew w wr)∧Hid (∀ (j : Nat) c,j < kk→m.ca[j]? = some c→¬ (c.file = (fi : Int)∧c.idx = (ix : Int))))
 case atStart=>exact ⟨0,Nat.zero_le _,by omega,rfl,Grew.refl _,fun j c hj=>absurd hj (Nat.not_lt_zero _)⟩
 case round =>
  obtain ⟨kk,hkk,hgg,rfl,BW,OW⟩:=hrel
  by_cases hlt : kk < n
  ·have hltz : (kk : Int) < (n : Int):=by omega
   obtain ⟨c,HC⟩ : ∃ c,Hid (m.ca[kk]? = some c):=⟨_,List.getElem?_eq_getElem (by rw [HLN.out]; exact hlt)⟩
   obtain ⟨adc,rfl,hl⟩:=HCR.out wr ⟨vl,L,m,rfl,HM.out.grew BW.out⟩ kk c HC.out;obtain ⟨d0,d1,d2⟩:=hl wr (Grew.refl _);clear hl;go_upto_region 4 with fail;obtain ⟨W1,hW1⟩ : ∃ W1,wr.alloc (.cells #[.int .i64 c.file,.int .i64 c.idx,.int .i64 c.fr] 87) = W1:=⟨_,rfl⟩;have HG1 : Hid (Grew w W1):=show Grew _ _ by rw [←hW1]; exact BW.out.trans (grew_alloc _ _)
   have C1 : Hid (Box W1 wr.heap.size [.int .i64 c.file,.int .i64 c.idx,.int .i64 c.fr]):=show Box _ _ _ by rw [←hW1]; exact Box.top _ _ _ rfl
   rw [hW1];clear hW1 d0 d1 d2;have c0:=C1.out.c 0 rfl;have c1:=C1.out.c 1 rfl;have c2:=C1.out.c 2 rfl;have HNX : Hid (¬ (c.file = (fi : Int)∧c.idx = (ix : Int))→∀ (j : Nat) c,j < kk + 1→m.ca[j]? = some c→¬ (c.file = (fi : Int)∧c.idx = (ix : Int))):=show _→_ from fun h0 j c' hj hc'=>by
    by_cases e : j = kk
    ·subst e;rw [HC.out] at hc';cases hc';exact h0
    ·exact OW.out j c' (by omega) hc'
   by_cases h1 : c.file = (fi : Int)
   ·have h1e : (c.file == (fi : Int)) = true:=by simp [h1]
    by_cases h2 : c.idx = (ix : Int)
    ·have h2e : (c.idx == (ix : Int)) = true:=by simp [h2]
     have HE : Hid (c.file = (fi : Int)∧c.idx = (ix : Int)):=show _∧_ from ⟨h1,h2⟩
     clear h1 h2;go_wp2;go_ret;exact .inr (.inl ⟨c,List.mem_of_getElem? HC.out,HE.out.1,HE.out.2,rfl,vl,L,HM.out.grew HG1.out,Less.refl L,Keeps.grew HG1.out⟩)
    ·have h2e : (c.idx == (ix : Int)) = false:=by simp [h2]
     have OW' : Hid (∀ (j : Nat) c,j < kk + 1→m.ca[j]? = some c→¬ (c.file = (fi : Int)∧c.idx = (ix : Int))):=HNX.out (fun h=>h2 h.2)
     clear h1 h2;go_wp2
     go_roundg (n - (kk + 1))
     case measure=>omega
     case rel=>exact ⟨kk + 1,by omega,by omega,by go_num,HG1.out,OW'.out⟩
   ·have h1e : (c.file == (fi : Int)) = false:=by simp [h1]
    have OW' : Hid (∀ (j : Nat) c,j < kk + 1→m.ca[j]? = some c→¬ (c.file = (fi : Int)∧c.idx = (ix : Int))):=HNX.out (fun h=>h1 h.1)
    clear h1;go_wp2
    go_roundg (n - (kk + 1))
    case measure=>omega
    case rel=>exact ⟨kk + 1,by omega,by omega,by go_num,HG1.out,OW'.out⟩
  ·have hltz : ¬ (kk : Int) < (n : Int):=by omega
   have hke : kk = n:=by omega
   have HNO : Hid (∀ c∈m.ca,¬ (c.file = (fi : Int)∧c.idx = (ix : Int))):=show ∀ c,_ from fun c hc=>by
    obtain ⟨j,hj⟩:=List.getElem?_of_mem hc;exact OW.out j c (by rw [hke,←HLN.out]; exact (List.getElem?_eq_some_iff.1 hj).1) hj
   clear hke;have MW : Hid (Mk w0 hi wr b vl L V m vt T):=HM.out.grew BW.out;have hbx:=MW.out.box.box;have x1:=hbx.c 1 rfl;have x2:=hbx.c 2 rfl;have x3:=hbx.c 3 rfl;have x4:=hbx.c 4 rfl;have x5:=hbx.c 5 rfl;have x6:=hbx.c 6 rfl;have x7:=hbx.c 7 rfl;have x8:=hbx.c 8 rfl;have x9:=hbx.c 9 rfl;have x10:=hbx.c 10 rfl;have x11:=hbx.c 11 rfl;clear hbx;have hct:=content_any V m fi ix f bk wr MW.out.rows.at (fun c hc _=>(HCA.out c hc).2.2.2.2) HF.out HBK.out hix
   go_wp2_with fail;refine hct.mono ?_;clear hct x1 x2 x3 x4 x5 x6 x7 x8 x9 x10 x11;rintro e W1 ⟨rfl,hl8,g1⟩;have G1 : Hid (Grew w W1):=BW.out.trans g1;clear g1
   generalize contL m fi ix = q at hl8
   obtain ⟨p0,p1,p2,p3,p4,p5,p6,p7,rfl⟩:=len8 q hl8;clear hl8;simp only [pgc,List.map_cons,List.map_nil];go_upto_region 8 with fail;obtain ⟨pp,HPP⟩ : ∃ pp,Hid (W1.heap.size = pp):=⟨_,rfl⟩;obtain ⟨W2,hW2⟩ : ∃ W2,W1.alloc (.cells #[.int .u8 p0,.int .u8 p1,.int .u8 p2,.int .u8 p3,.int .u8 p4,.int .u8 p5,.int .u8 p6,.int .u8 p7] 50) = W2:=⟨_,rfl⟩;have G2 : Hid (Grew w W2):=show Grew _ _ by rw [←hW2]; exact G1.out.trans (grew_alloc _ _)
   have P2 : Hid (BoxT W2 pp 50 (pgc [p0,p1,p2,p3,p4,p5,p6,p7])):=show BoxT _ _ _ _ by rw [←hW2]; exact BoxT.top _ (pgc [p0,p1,p2,p3,p4,p5,p6,p7]) _ HPP.out.symm
   have HHP : Hid (hi≤pp):=show _≤_ by rw [←HPP.out]; exact (HM.out.grew G1.out).rows.hw
   have HWP : Hid (w.heap.size≤pp):=show _≤_ by rw [←HPP.out]; exact Below.size G1.out
   have HBP : Hid (b≠pp):=show _≠_ by have:=HM.out.box.box.lt; have:=HWP.out; omega
   have M2 : Hid (Mk w0 hi W2 b vl L V m vt T):=HM.out.grew G2.out;have K2 : Hid (Keeps hi w W2):=Keeps.grew G2.out;rw [hW2,HPP.out];clear hW2 MW;have hpk:=pick_any 2 M2.out;go_wp2_with fail;refine hpk.mono ?_;clear hpk;rintro e W3 ⟨vl3,L3,y,rfl,mk3,gr3,sz3,y0,y1,yn,ll⟩;have M3 : Hid (Mk w0 hi W3 b vl3 L3 V m vt T):=mk3;have K3 : Hid (Keeps hi w W3):=K2.out.trans (M2.out.keeps gr3);have P3 : Hid (BoxT W3 pp 50 (pgc [p0,p1,p2,p3,p4,p5,p6,p7])):=P2.out.beside gr3 (fun g e=>by cases e; exact fun h=>HBP.out h.symm)
   have L3' : Hid (Less L L3):=ll;clear mk3 gr3 sz3 y0 y1 yn ll P2 K2 M2
   go_upto_if 46 with fail
   go_cut [10,11] (fun s10 s11 wx=>∃ (dd : Bool) (q : List Int) (vl' : Sli) (L' : List Int),s10 = .bool dd∧Hid (Mk w0 hi wx b vl' L' V m vt T)∧Hid (BoxT wx pp 50 (pgc q))∧Hid (q.length = 8)∧Hid (Keeps hi w wx)∧Hid (Less L L'))
   case first =>
    by_cases hy : y = 1
    ·have hye : (y == 1) = true:=by simp [hy]
     clear hy;have hpg:=page_any M3.out;go_wp2_with fail;refine hpg.mono ?_;clear hpg;rintro e W4 ⟨vl4,L4,q4,rfl,ql4,mk4,gr4,ll4⟩;have M4 : Hid (Mk w0 hi W4 b vl4 L4 V m vt T):=mk4;have K4 : Hid (Keeps hi w W4):=K3.out.trans (M3.out.keeps gr4);have P4 : Hid (BoxT W4 pp 50 (pgc [p0,p1,p2,p3,p4,p5,p6,p7])):=P3.out.beside gr4 (fun g e=>by cases e; exact fun h=>HBP.out h.symm)
     have L4' : Hid (Less L L4):=L3'.out.trans ll4;have QL : Hid (q4.length = 8):=ql4;clear mk4 gr4 ll4 ql4 P3 K3 M3
     go_wp2_with (refine wp_storeAllT rfl 50 (.tmp 9) (.tmp 48) rfl pp rfl (pgc q4) rfl P4.out (by simp [pgc,QL.out]) Tryz.sizePg (pgc_one _) ?_)
     intro W5 hb5 hg5 _;have M5 : Hid (Mk w0 hi W5 b vl4 L4 V m vt T):=M4.out.page P4.out HHP.out hg5;have K5 : Hid (Keeps hi w W5):=K4.out.own hg5 HWP.out;have P5 : Hid (BoxT W5 pp 50 (pgc q4)):=hb5;clear hb5 hg5 M4 K4 P4;go_wp2
     go_loopg [49] 8 (fun gg s49 wr=>∃ (i : Nat) (q : List Int),i≤8∧8 - i≤gg∧s49 = .int .i64 i∧Hid (Mk w0 hi wr b vl4 L4 V m vt T)∧Hid (BoxT wr pp 50 (pgc q))∧Hid (q.length = 8)∧Hid (Keeps hi w wr))
     case atStart=>exact ⟨0,q4,Nat.zero_le _,by omega,rfl,M5.out,P5.out,QL.out,K5.out⟩
     case round =>
      obtain ⟨i,q,hi8,hg3,rfl,MW5,PW5,QW5,KW5⟩:=hrel;clear M5 P5 K5 QL
      by_cases hlt3 : i < 8
      ·have hltz3 : (i : Int) < 8:=by omega
       obtain ⟨z,hz⟩ : ∃ z,q[i]? = some z:=⟨_,List.getElem?_eq_getElem (by rw [QW5.out]; exact hlt3)⟩
       have z0:=PW5.out.box.c i (pgc_at hz);have zf:=PW5.out.box.f;have hfl:=MW5.out.rows.at.fl;have x8:=MW5.out.box.box.c 8 rfl;obtain ⟨_,_,hfe,_,hfr⟩:=FilesAt.rows hfl;have hrw : FlRows wr V.fl.a m.fl:=by
        simp only [Value.slice.injEq] at hfe;rw [hfe.1];exact hfr
       have hfn : V.fl.n = m.fl.length:=by
        simp only [Value.slice.injEq] at hfe;exact hfe.2.1
       obtain ⟨ad,hva,ba,bc,_,hlf⟩:=hrw fi f HF.out;obtain ⟨d0,-⟩:=hlf wr (Grew.refl _);obtain ⟨fln,hfln⟩ : ∃ fln,V.fl.n = fln:=⟨_,rfl⟩;have hfz : (fi : Int) < (fln : Int):=by
        have:=(List.getElem?_eq_some_iff.1 HF.out).1;omega
       rw [hva,hfln] at x8;clear hfl hfe hfr hrw hfn hva hlf hfln hz
       by_cases hc : f.size≤8 * (ix : Int) + (i : Int)
       ·have hcd : decide (f.size≤8 * (ix : Int) + (i : Int)) = true:=by simpa using hc
        have HG6 : Hid (wr.grownBy (wr.setCell ⟨pp,i,none⟩ (.int .u8 0)) (some pp)):=⟨rfl,rfl,rfl,by simp [World.setCell],fun k _ hk=>Below.heap_setCell _ _ _ _ (fun e=>hk (by rw [e]))⟩
        have P6 : Hid (BoxT (wr.setCell ⟨pp,i,none⟩ (.int .u8 0)) pp 50 (pgc (q.set i 0))):=show BoxT _ _ _ _ by rw [pgc_set]; exact PW5.out.set i _
        have M6 : Hid (Mk w0 hi (wr.setCell ⟨pp,i,none⟩ (.int .u8 0)) b vl4 L4 V m vt T):=MW5.out.page PW5.out HHP.out HG6.out;have K6 : Hid (Keeps hi w (wr.setCell ⟨pp,i,none⟩ (.int .u8 0))):=KW5.out.own HG6.out HWP.out;go_wp2
        go_roundg (8 - (i + 1))
        case measure=>omega
        case rel=>exact ⟨i + 1,q.set i 0,by omega,by omega,by go_num,M6.out,P6.out,(show (q.set i 0).length = 8 by rw [List.length_set]; exact QW5.out),K6.out⟩
       ·have hcd : decide (f.size≤8 * (ix : Int) + (i : Int)) = false:=by simpa using hc
        go_wp2
        go_roundg (8 - (i + 1))
        case measure=>omega
        case rel=>exact ⟨i + 1,q,by omega,by omega,by go_num,MW5.out,PW5.out,QW5.out,KW5.out⟩
      ·have hltz3 : ¬ (i : Int) < 8:=by omega
       go_wp2
       go_meet
       case rel=>exact ⟨true,q,vl4,L4,rfl,MW5.out,PW5.out,QW5.out,KW5.out,L4'.out⟩
    ·have hye : (y == 1) = false:=by simp [hy]
     clear hy;go_wp2
     go_meet
     case rel=>exact ⟨false,[p0,p1,p2,p3,p4,p5,p6,p7],vl3,L3,rfl,M3.out,P3.out,rfl,K3.out,L3'.out⟩
   case rest =>
    obtain ⟨dd,q,vl3',L3x,rfl,M3',P3',Q3',K3',L3''⟩:=hcut;clear M3 P3 K3 L3';obtain ⟨p0,p1,p2,p3,p4,p5,p6,p7,rfl⟩:=len8 q Q3'.out;go_upto_region 16 with fail;obtain ⟨I,hI⟩ : ∃ I : World→Prop,I = fun u=>BoxT u pp 50 (pgc [p0,p1,p2,p3,p4,p5,p6,p7]):=⟨_,rfl⟩
    have HI : Hid (∀ u,I u↔BoxT u pp 50 (pgc [p0,p1,p2,p3,p4,p5,p6,p7])):=show ∀ u,_ from fun u=>by rw [hI]
    clear hI;have hI0 : I wc.drew:=(HI.out _).2 (P3'.out.grew (show Below _ _ _ from (Below.refl _ _).drew))
    have hF0 : MkE w0 hi b w L V m vt T wc.drew:=⟨vl3',L3x,M3'.out.grew (show Below _ _ _ from (Below.refl _ _).drew),L3''.out,K3'.out.trans (Keeps.grew (show Below _ _ _ from (Below.refl _ _).drew))⟩
    have hf0 : ∀ y : HoldI I,y.world.cell? ⟨pp,0,none⟩ = some (.int .u8 p0):=fun y=>((HI.out _).1 y.holds).box.c 0 rfl
    have hf1 : ∀ y : HoldI I,y.world.cell? ⟨pp,1,none⟩ = some (.int .u8 p1):=fun y=>((HI.out _).1 y.holds).box.c 1 rfl
    have hf2 : ∀ y : HoldI I,y.world.cell? ⟨pp,2,none⟩ = some (.int .u8 p2):=fun y=>((HI.out _).1 y.holds).box.c 2 rfl
    have hf3 : ∀ y : HoldI I,y.world.cell? ⟨pp,3,none⟩ = some (.int .u8 p3):=fun y=>((HI.out _).1 y.holds).box.c 3 rfl
    have hf4 : ∀ y : HoldI I,y.world.cell? ⟨pp,4,none⟩ = some (.int .u8 p4):=fun y=>((HI.out _).1 y.holds).box.c 4 rfl
    have hf5 : ∀ y : HoldI I,y.world.cell? ⟨pp,5,none⟩ = some (.int .u8 p5):=fun y=>((HI.out _).1 y.holds).box.c 5 rfl
    have hf6 : ∀ y : HoldI I,y.world.cell? ⟨pp,6,none⟩ = some (.int .u8 p6):=fun y=>((HI.out _).1 y.holds).box.c 6 rfl
    have hf7 : ∀ y : HoldI I,y.world.cell? ⟨pp,7,none⟩ = some (.int .u8 p7):=fun y=>((HI.out _).1 y.holds).box.c 7 rfl
    have hne : Nonempty (HoldI I):=⟨⟨_,hI0⟩⟩;refine wp_lax_tailD (I:=I) 10 [(3,fun v=>∃ x : Int,v = .int .i64 x),(9,fun v=>v = .int .i64 (-1)∨∃ j : Nat,v = .int .i64 (j : Int))] (fun u=>MkE w0 hi b w L V m vt T u) hI0 hF0 mixed (by kernel_rfl) rfl rfl (by decide) ?hS (by kernel_rfl) ?_
    case hS =>
     intro x hx;simp only [List.mem_cons,List.not_mem_nil,or_false] at hx
     rcases hx with rfl | rfl
     ·exact ⟨_,0,rfl⟩
     ·exact ⟨_,.inl rfl⟩
    simp only [List.take,List.drop];iterate 3 (refine laxD_quiet rfl rfl rfl (fun K hK=>?_); go_big_quiet_op; refine hK _ ?_; clear hK K)
    refine laxD_spec rfl rfl (fun _ u=>MkE w0 hi b w L V m vt T u) (fun w' hI' hF'=>?_) (fun v1 hv=>?_)
    ·obtain ⟨vl',L',mk',ll',kp'⟩:=hF';refine Does.call [.pointer (some ⟨b,0,none⟩),.int .i64 2] rfl Tryz.func28 rfl rfl rfl ?_;refine (pick_any 2 mk').mono ?_;rintro e w'' ⟨vl2,L2,x,rfl,mk2,gr2,_,_,_,_,ll2⟩;exact ⟨_,rfl,(HI.out _).2 (((HI.out _).1 hI').beside gr2 (fun g e=>by cases e; exact fun h=>HBP.out h.symm)),⟨x,rfl⟩,vl2,L2,mk2,ll'.trans ll2,kp'.trans (mk'.keeps gr2)⟩
    obtain ⟨x,rfl⟩:=hv;simp only [Act.put,List.setIfInBounds_toArray,List.set_cons_succ,List.set_cons_zero];iterate 5 (refine laxD_quiet rfl rfl rfl (fun K hK=>?_); go_big_quiet_op; refine hK _ ?_; clear hK K)
    refine laxD_spec rfl rfl (fun v u=>(v = .int .i64 (-1)∧MkE w0 hi b w L V m vt T u)∨∃ (j : Nat) (q : Fr),v = .int .i64 (j : Int)∧m.fs[j]? = some q∧q.r = 0∧MkE w0 hi b w L V { m with fs:=m.fs.set j ⟨⟨p0,p1,p2,p3,p4,p5,p6,p7⟩,1,x == 1,dd,(fi : Int),(ix : Int)⟩ } vt T u) (fun w' hI' hF'=>?_) (fun v1 hv=>?_)
    ·obtain ⟨vl',L',mk',ll',kp'⟩:=hF';refine Does.call [.pointer (some ⟨b,0,none⟩),.agg (frv ⟨⟨p0,p1,p2,p3,p4,p5,p6,p7⟩,1,x == 1,dd,(fi : Int),(ix : Int)⟩).toArray] rfl Tryz.func120 rfl rfl rfl ?_;refine (frame_any ⟨⟨p0,p1,p2,p3,p4,p5,p6,p7⟩,1,x == 1,dd,(fi : Int),(ix : Int)⟩ mk').mono ?_;rintro e w'' (⟨rfl,hE⟩ | ⟨j,q,rfl,hq,hr,hE⟩)
     ·have hkp:=hE;obtain ⟨_,_,_,_,kq⟩:=hkp;exact ⟨_,rfl,(HI.out _).2 (kq.1 pp _ _ ((HI.out _).1 hI') (loc_page HHP.out)),.inl rfl,.inl ⟨rfl,hE.trans ll' kp'⟩⟩
     ·have hkp:=hE;obtain ⟨_,_,_,_,kq⟩:=hkp;exact ⟨_,rfl,(HI.out _).2 (kq.1 pp _ _ ((HI.out _).1 hI') (loc_page HHP.out)),.inr ⟨j,rfl⟩,.inr ⟨j,q,rfl,hq,hr,hE.trans ll' kp'⟩⟩
    rcases hv with rfl | ⟨j,rfl⟩
    ·simp only [Act.put,List.setIfInBounds_toArray,List.set_cons_succ,List.set_cons_zero];refine laxD_nil fun W6 hI6 hF6=>?_
     have H6 : Hid (MkE w0 hi b w L V m vt T W6):=show MkE _ _ _ _ _ _ _ _ _ _ by
      rcases hF6 with ⟨_,h⟩ | ⟨j,q,e,_⟩
      ·exact h
      ·simp only [Value.int.injEq,true_and] at e;omega
     clear hF6 hI6 hI0 hF0 hne hf0 hf1 hf2 hf3 hf4 hf5 hf6 hf7;go_wp2;go_ret;exact .inl ⟨rfl,H6.out⟩
    ·simp only [Act.put,List.setIfInBounds_toArray,List.set_cons_succ,List.set_cons_zero];refine laxD_nil fun W6 hI6 hF6=>?_
     obtain ⟨q,hq,hr,vl6,L6,mk6,ll6,kp6⟩ : ∃ q : Fr,m.fs[j]? = some q∧q.r = 0∧MkE w0 hi b w L V { m with fs:=m.fs.set j ⟨⟨p0,p1,p2,p3,p4,p5,p6,p7⟩,1,x == 1,dd,(fi : Int),(ix : Int)⟩ } vt T W6:=by
      rcases hF6 with ⟨e,_⟩ | ⟨j',q,e,hq,hr,hE⟩
      ·simp only [Value.int.injEq,true_and] at e;omega
      ·simp only [Value.int.injEq,true_and] at e;obtain rfl : j = j':=by omega
       exact ⟨q,hq,hr,hE⟩
     have HQ : Hid (m.fs[j]? = some q):=hq;have HR0 : Hid (q.r = 0):=hr;have M6 : Hid (Mk w0 hi W6 b vl6 L6 V { m with fs:=m.fs.set j ⟨⟨p0,p1,p2,p3,p4,p5,p6,p7⟩,1,x == 1,dd,(fi : Int),(ix : Int)⟩ } vt T):=mk6;have K6 : Hid (Keeps hi w W6):=kp6;have LL6 : Hid (Less L L6):=ll6;clear hF6 hI6 hI0 hF0 hne HI hq hr mk6 ll6 kp6 hf0 hf1 hf2 hf3 hf4 hf5 hf6 hf7;have hj0 : ¬ (j : Int) < 0:=by omega
     go_wp2
     go_loopg [13] n (fun gg s13 wr=>∃ at_ : Nat,at_≤n∧n - at_≤gg∧s13 = .int .i64 at_∧Hid (Mk w0 hi wr b vl6 L6 V { m with fs:=m.fs.set j ⟨⟨p0,p1,p2,p3,p4,p5,p6,p7⟩,1,x == 1,dd,(fi : Int),(ix : Int)⟩ } vt T)∧Hid (Keeps hi w wr)∧Hid (∀ (i : Nat) c,i < at_→m.ca[i]? = some c→decide (keyC c < keyC ⟨(fi : Int),(ix : Int),(j : Int)⟩) = true))
     case atStart=>exact ⟨0,Nat.zero_le _,by omega,rfl,M6.out,K6.out,fun i c hi=>absurd hi (Nat.not_lt_zero _)⟩
     case round =>
      obtain ⟨at_,hat,hg2,rfl,MR,KR,OW2⟩:=hrel;clear M6 K6;have x10:=MR.out.box.box.c 10 rfl;rw [HN.out,HAA.out] at x10
      by_cases hlt2 : at_ < n
      ·have hltz2 : (at_ : Int) < (n : Int):=by omega
       obtain ⟨c,HC⟩ : ∃ c,Hid (m.ca[at_]? = some c):=⟨_,List.getElem?_eq_getElem (by rw [HLN.out]; exact hlt2)⟩
       obtain ⟨adc,rfl,hl⟩:=HCR.out wr ⟨vl6,L6,{ m with fs:=m.fs.set j ⟨⟨p0,p1,p2,p3,p4,p5,p6,p7⟩,1,x == 1,dd,(fi : Int),(ix : Int)⟩ },rfl,MR.out⟩ at_ c HC.out;obtain ⟨d0,d1,d2⟩:=hl wr (Grew.refl _);obtain ⟨b1,b2,b3,b4,-⟩:=HCA.out c (List.mem_of_getElem? HC.out);clear hl d2
       by_cases hk : 100 * c.file + c.idx < 100 * (fi : Int) + (ix : Int)
       ·have hkd : decide (100 * c.file + c.idx < 100 * (fi : Int) + (ix : Int)) = true:=by simpa using hk
        have hgd : decide ((at_ : Int) < (n : Int)) = true:=by simpa using hltz2
        have OW3 : Hid (∀ (i : Nat) c,i < at_ + 1→m.ca[i]? = some c→decide (keyC c < keyC ⟨(fi : Int),(ix : Int),(j : Int)⟩) = true):=show ∀ i,_ from fun i c' hi' hc'=>by
         by_cases e : i = at_
         ·subst e;rw [HC.out] at hc';cases hc';exact hkd
         ·exact OW2.out i c' (by omega) hc'
        clear hk;go_upto_region 20 with fail;go_quiet (fail);go_wp2
        go_roundg (n - (at_ + 1))
        case measure=>omega
        case rel=>exact ⟨at_ + 1,by omega,by omega,by go_num,MR.out.grew (show Below _ _ _ from Go.below_drewN (Below.refl _ _) _),KR.out.trans (Keeps.grew (show Below _ _ _ from Go.below_drewN (Below.refl _ _) _)),OW3.out⟩
       ·have hkd : decide (100 * c.file + c.idx < 100 * (fi : Int) + (ix : Int)) = false:=by simpa using hk
        have hgd : decide ((at_ : Int) < (n : Int)) = true:=by simpa using hltz2
        have HST : Hid (∀ x,m.ca[at_]? = some x→decide (keyC x < keyC ⟨(fi : Int),(ix : Int),(j : Int)⟩) = false):=show ∀ x,_ from fun x hx=>by
         rw [HC.out] at hx;cases hx;exact hkd
        clear hk;go_upto_region 20 with fail;go_quiet (fail);clear x10 d0 d1;have HSP : Hid (insCa m.ca ⟨(fi : Int),(ix : Int),(j : Int)⟩ = m.ca.take at_ ++ [⟨(fi : Int),(ix : Int),(j : Int)⟩] ++ m.ca.drop at_):=show _ = _ by
         obtain ⟨e1,e2⟩:=tw_split (p:=fun d=>decide (keyC d < keyC ⟨(fi : Int),(ix : Int),(j : Int)⟩)) (l:=m.ca) (k:=at_) OW2.out HST.out (by rw [HLN.out]; exact hat)
         unfold insCa;rw [e1,e2];simp
        obtain ⟨Wq,hWq⟩ : ∃ Wq,wr.drewN nq = Wq:=⟨_,rfl⟩;have Gq : Hid (Grew wr Wq):=show Grew _ _ by rw [←hWq]; exact (show Below _ _ _ from Go.below_drewN (Below.refl _ _) _)
        rw [hWq];clear hWq;have MQ : Hid (Mk w0 hi Wq b vl6 L6 V { m with fs:=m.fs.set j ⟨⟨p0,p1,p2,p3,p4,p5,p6,p7⟩,1,x == 1,dd,(fi : Int),(ix : Int)⟩ } vt T):=MR.out.grew Gq.out;have KQ : Hid (Keeps hi w Wq):=KR.out.trans (Keeps.grew Gq.out);clear MR KR Gq
        try clear wr
        obtain ⟨wr,rfl⟩ : ∃ wr,wr = Wq:=⟨_,rfl⟩;go_upto_region 22 with fail;obtain ⟨A,HA⟩ : ∃ A,Hid (m.ca.take at_ = A):=⟨_,rfl⟩;obtain ⟨D2,HD⟩ : ∃ D2,Hid (m.ca.drop at_ = D2):=⟨_,rfl⟩;rw [HA.out,HD.out] at HSP;have HLA : Hid (A.length = at_):=show _ = _ by rw [←HA.out,List.length_take,HLN.out]; omega
        have HLD : Hid (D2.length = n - at_):=show _ = _ by rw [←HD.out,List.length_drop,HLN.out]
        obtain ⟨cn,HCN⟩ : ∃ cn : Ca,Hid (cn = ⟨(fi : Int),(ix : Int),(j : Int)⟩):=⟨_,rfl⟩;rw [←HCN.out] at HSP;obtain ⟨N,HNN⟩ : ∃ N,Hid ((A ++ [cn] ++ D2).length = N):=⟨_,rfl⟩;obtain ⟨I,HI⟩ : ∃ I : World→Prop,Hid (∀ u,I u↔Grew wr u):=⟨fun u=>Grew wr u,fun _=>Iff.rfl⟩
        have hI0 : I wr.drew:=(HI.out _).2 (show Below _ _ _ from (Below.refl _ _).drew)
        have hne : Nonempty (HoldI I):=⟨⟨_,hI0⟩⟩;have hx10 : ∀ y : HoldI I,y.world.cell? ⟨b,10,none⟩ = some (.slice (some adc) n V.ca.c):=fun y=>by
         have:=(MQ.out.box.box.grew ((HI.out _).1 y.holds)).c 10 rfl;rw [HN.out,HAA.out] at this;exact this
        have HRO : Hid (RowAt cchE wr (.slice (some adc) n V.ca.c) m.ca):=show RowAt _ _ _ _ by
         have:=MQ.out.rows.ca.at;rw [HN.out,HAA.out] at this;exact this
        have hup:=fun W=>run_upto (w:=W) (a:=(some adc)) (n:=n) (c:=V.ca.c) (k:=at_) (Nat.le_trans hat HCC.out)
        have hfr:=fun W=>run_from (w:=W) (a:=(some adc)) (n:=n) (c:=V.ca.c) (k:=at_) hat
        obtain ⟨fa,hfa⟩ : ∃ fa,(((some adc) : Option Addr).map fun ad=>if V.ca.c = at_ then ad else ad.add (at_ * 3)) = fa:=⟨_,rfl⟩
        have HRA : Hid (RowAt cchE wr (.slice (some adc) at_ V.ca.c) A):=show RowAt _ _ _ _ by rw [←HA.out]; exact HRO.out.upto hat
        have HRD : Hid (RowAt cchE wr (.slice fa (n - at_) (V.ca.c - at_)) D2):=show RowAt _ _ _ _ by rw [←HD.out,←hfa]; exact HRO.out.from hat HCC.out
        rw [hfa] at hfr;clear hfa;obtain ⟨nd,HND⟩ : ∃ nd,Hid (n - at_ = nd):=⟨_,rfl⟩;obtain ⟨cd,HCD⟩ : ∃ cd,Hid (V.ca.c - at_ = cd):=⟨_,rfl⟩;rw [HND.out,HCD.out] at hfr HRD;refine wp_lax_tailI (I:=I) 27 [(1,⟨fun v=>∃ g,v = .slice (some ⟨g,0,none⟩) 0 0,fun v w'=>OwnRow cchE wr.heap.size w' v [],fun p q=>Grew p q,fun _=>True⟩),(9,⟨fun v=>(∃ a c,v = .slice a at_ c)∧(at_ = 0→∃ g,v = .slice (some ⟨g,0,none⟩) 0 0),fun v w'=>OwnRow cchE wr.heap.size w' v A,fun p q=>Grew p q,fun _=>True⟩),(14,⟨fun v=>∃ g,v = .slice (some ⟨g,0,none⟩) 1 1,fun v w'=>OwnRow cchE wr.heap.size w' v [cn],fun p q=>Grew p q,fun _=>True⟩),(15,⟨fun v=>∃ a c,v = .slice a (at_ + 1) c,fun v w'=>OwnRow cchE wr.heap.size w' v (A ++ [cn]),fun p q=>(∀ u m,m.length≤at_∨m.length≤1→OwnRow cchE wr.heap.size p u m→OwnRow cchE wr.heap.size q u m),fun _=>True⟩),(23,⟨fun v=>∃ a c,v = .slice a N c,fun v w'=>OwnRow cchE wr.heap.size w' v (A ++ [cn] ++ D2),fun p q=>(∀ u m,m.length≤at_ + 1→OwnRow cchE wr.heap.size p u m→OwnRow cchE wr.heap.size q u m),fun _=>True⟩)] hI0 mixed (by kernel_rfl) rfl rfl (by decide) ?hS ?hp ?hpre ?hpr0 ?_
        case hS =>
         intro x hx;simp only [List.mem_cons,List.not_mem_nil,or_false] at hx
         rcases hx with rfl | rfl | rfl | rfl | rfl
         ·exact ⟨_,0,rfl⟩
         ·by_cases h0 : at_ = 0
          ·exact ⟨.slice (some ⟨0,0,none⟩) 0 0,⟨some ⟨0,0,none⟩,0,by rw [h0]⟩,fun _=>⟨0,rfl⟩⟩
          ·exact ⟨.slice none at_ 0,⟨_,_,rfl⟩,fun h=>absurd h h0⟩
         ·exact ⟨_,0,rfl⟩
         ·exact ⟨_,none,0,rfl⟩
         ·exact ⟨_,none,0,rfl⟩
        case hp =>
         intro k s j t hk hj hjk hanc v p q hst hpo;have hk':=lookup_in hk;have hj':=lookup_in hj;clear hk hj;simp only [List.mem_cons,Prod.mk.injEq,List.not_mem_nil,or_false] at hk' hj'
         rcases hk' with ⟨rfl,rfl⟩ | ⟨rfl,rfl⟩ | ⟨rfl,rfl⟩ | ⟨rfl,rfl⟩ | ⟨rfl,rfl⟩
         ·rcases hj' with ⟨rfl,rfl⟩ | ⟨rfl,rfl⟩ | ⟨rfl,rfl⟩ | ⟨rfl,rfl⟩ | ⟨rfl,rfl⟩
          ·exact absurd rfl hjk
          ·exact OwnRow.grew hpo hst
          ·exact OwnRow.grew hpo hst
          ·exact hst v [] (.inl (Nat.zero_le _)) hpo
          ·exact hst v [] (Nat.zero_le _) hpo
         ·rcases hj' with ⟨rfl,rfl⟩ | ⟨rfl,rfl⟩ | ⟨rfl,rfl⟩ | ⟨rfl,rfl⟩ | ⟨rfl,rfl⟩
          ·exact OwnRow.grew hpo hst
          ·exact absurd rfl hjk
          ·exact OwnRow.grew hpo hst
          ·exact hst v A (.inl (by rw [HLA.out]; exact Nat.le_refl _)) hpo
          ·exact hst v A (by rw [HLA.out]; omega) hpo
         ·rcases hj' with ⟨rfl,rfl⟩ | ⟨rfl,rfl⟩ | ⟨rfl,rfl⟩ | ⟨rfl,rfl⟩ | ⟨rfl,rfl⟩
          ·exact OwnRow.grew hpo hst
          ·exact OwnRow.grew hpo hst
          ·exact absurd rfl hjk
          ·exact hst v [cn] (.inr (Nat.le_refl _)) hpo
          ·exact hst v [cn] (by simp) hpo
         ·rcases hj' with ⟨rfl,rfl⟩ | ⟨rfl,rfl⟩ | ⟨rfl,rfl⟩ | ⟨rfl,rfl⟩ | ⟨rfl,rfl⟩
          ·exact OwnRow.grew hpo hst
          ·exact OwnRow.grew hpo hst
          ·exact OwnRow.grew hpo hst
          ·exact absurd rfl hjk
          ·exact hst v (A ++ [cn]) (by rw [List.length_append,HLA.out]; simp) hpo
         ·rcases hj' with ⟨rfl,rfl⟩ | ⟨rfl,rfl⟩ | ⟨rfl,rfl⟩ | ⟨rfl,rfl⟩ | ⟨rfl,rfl⟩
          ·exact OwnRow.grew hpo hst
          ·exact OwnRow.grew hpo hst
          ·exact OwnRow.grew hpo hst
          ·exact Bool.noConfusion (hanc.symm.trans (show _ = true by kernel_rfl))
          ·exact absurd rfl hjk
        case hpre =>
         intro j t k s hj hk hjk p q hst hpr;have hj':=lookup_in hj;clear hk hj;simp only [List.mem_cons,Prod.mk.injEq,List.not_mem_nil,or_false] at hj'
         rcases hj' with ⟨rfl,rfl⟩ | ⟨rfl,rfl⟩ | ⟨rfl,rfl⟩ | ⟨rfl,rfl⟩ | ⟨rfl,rfl⟩ <;> trivial
        case hpr0 =>
         intro k t hk;have hk':=lookup_in hk;clear hk;simp only [List.mem_cons,Prod.mk.injEq,List.not_mem_nil,or_false] at hk'
         rcases hk' with ⟨rfl,rfl⟩ | ⟨rfl,rfl⟩ | ⟨rfl,rfl⟩ | ⟨rfl,rfl⟩ | ⟨rfl,rfl⟩ <;> trivial
        simp only [List.take,List.drop];iterate 1 (refine laxI_quiet rfl rfl rfl (fun K hK=>?_); go_big_quiet_op; refine hK _ ?_; clear hK K)
        refine laxI_spec rfl rfl (fun w' hI' hpr hF=>?_) (fun v1 hv=>?_)
        ·have hg:=(HI.out _).1 hI';refine Does.step (v:= .slice (some ⟨w'.heap.size,0,none⟩) 0 0) (w':=w'.alloc (.cells #[] 87)) (by simp only [execOp]; go_simp) ⟨(HI.out _).2 (hg.trans (grew_alloc _ _)),grew_alloc _ _,⟨_,rfl⟩,(OwnRow.made cchE w').base (Below.size hg)⟩
        obtain ⟨g0,rfl⟩:=hv;simp only [Act.put,List.setIfInBounds_toArray,List.set_cons_succ,List.set_cons_zero];iterate 1 (refine laxI_quiet rfl rfl rfl (fun K hK=>?_); go_big_quiet_op; refine hK _ ?_; clear hK K)
        refine laxI_nilc (.tmp 121) ⟨b,0,none⟩ rfl rfl rfl rfl ?_;simp only [Act.put,List.setIfInBounds_toArray,List.set_cons_succ,List.set_cons_zero];iterate 5 (refine laxI_quiet rfl rfl rfl (fun K hK=>?_); go_big_quiet_op; refine hK _ ?_; clear hK K)
        refine laxI_spec rfl rfl (fun w' hI' hpr hF=>?_) (fun v1 hv=>?_)
        ·have hg:=(HI.out _).1 hI';have h0 : OwnRow cchE wr.heap.size w' (.slice (some ⟨g0,0,none⟩) 0 0) []:=hF 1 (by kernel_rfl)
         obtain ⟨v',w2,hrun,ho,hg2,hz⟩:=run_append_new (E:=cchE) (w:=w') 37 h0 (.slice (some adc) at_ V.ca.c) A (HRA.out.grew hg) (Below.size hg);obtain ⟨a',c',rfl⟩:=ho.form;refine Does.step (v:= .slice a' A.length c') (w':=w2) ?_ ⟨(HI.out _).2 (hg.trans hg2),hg2,⟨⟨a',c',by rw [HLA.out]⟩,fun h=>⟨g0,hz (List.eq_nil_of_length_eq_zero (by rw [HLA.out]; exact h))⟩⟩,ho⟩
         clear hx10 hup hfr;simp only [execOp,resolve,invoke,builtin,pure_bind,Sem.run_bind,Sem.run_pure,List.map_toArray,List.map_cons,List.map_nil];exact Eq.trans (congrArg (fun r=>Result.andThen r (fun a w'=>Result.ok (Next.value a) w')) hrun) rfl
        obtain ⟨⟨a3,c3,rfl⟩,hz3⟩:=hv;simp only [Act.put,List.setIfInBounds_toArray,List.set_cons_succ,List.set_cons_zero];iterate 4 (refine laxI_quiet rfl rfl rfl (fun K hK=>?_); go_big_quiet_op; refine hK _ ?_; clear hK K)
        refine laxI_spec rfl rfl (fun w' hI' hpr hF=>?_) (fun v1 hv=>?_)
        ·have hg:=(HI.out _).1 hI';have hoc:=(own_cached w' cn).base (Below.size hg);rw [HCN.out] at hoc;refine Does.step (v:= .slice (some ⟨w'.heap.size,0,none⟩) 1 1) (w':=w'.alloc (.cells #[.int .i64 (fi : Int),.int .i64 (ix : Int),.int .i64 (j : Int)] 87)) (by clear hx10 hup hfr; simp only [execOp]; go_simp) ⟨(HI.out _).2 (hg.trans (grew_alloc _ _)),grew_alloc _ _,⟨_,rfl⟩,by rw [HCN.out]; exact hoc⟩
        obtain ⟨g5,rfl⟩:=hv;simp only [Act.put,List.setIfInBounds_toArray,List.set_cons_succ,List.set_cons_zero];refine laxI_spec rfl rfl (fun w' hI' hpr hF=>?_) (fun v1 hv=>?_)
        ·have hg:=(HI.out _).1 hI';have o3 : OwnRow cchE wr.heap.size w' (.slice a3 at_ c3) A:=hF 9 (by kernel_rfl)
         have o5 : OwnRow cchE wr.heap.size w' (.slice (some ⟨g5,0,none⟩) 1 1) [cn]:=hF 14 (by kernel_rfl)
         have key : ∃ v' w2,(Builtin.append_ #[37,37] 37 #[.slice a3 at_ c3,.slice (some ⟨g5,0,none⟩) 1 1]).run Tryz.prog w' = .ok v' w2∧OwnRow cchE wr.heap.size w2 v' (A ++ [cn])∧Grew wr w2∧∀ u m,m.length≤at_∨m.length≤1→OwnRow cchE wr.heap.size w' u m→OwnRow cchE wr.heap.size w2 u m:=by
          by_cases h0 : at_ = 0
          ·have hxs : A = []:=List.eq_nil_of_length_eq_zero (by rw [HLA.out]; exact h0)
           obtain ⟨g,hgv⟩:=hz3 h0;rw [hgv,hxs] at o3;rw [hgv,hxs];obtain ⟨v',w2,hrun,ho,hg2,_⟩:=run_append_new (E:=cchE) (w:=w') 37 o3 (.slice (some ⟨g5,0,none⟩) 1 1) [cn] o5.at (Below.size hg);exact ⟨v',w2,hrun,ho,hg.trans hg2,fun u m _ h=>h.grew hg2⟩
          ·obtain ⟨v',w2,hrun,ho,hgr,hk⟩:=run_append_keeps (E:=cchE) (w:=w') 37 o3 (.slice (some ⟨g5,0,none⟩) 1 1) [cn] o5.at (by rw [HLA.out]; show (at_ + 1) * 24≤_; omega) (Below.size hg)
           refine ⟨v',w2,hrun,ho,grew_beside hg hgr (fun g hg'=>(o3.lt g hg').1),fun u m hm h=>hk u m ?_ h⟩
           rw [HLA.out];omega
         obtain ⟨v',w2,hrun,ho,hg2,hk⟩:=key;obtain ⟨a',c',rfl⟩:=ho.form;refine Does.step (v:= .slice a' (A ++ [cn]).length c') (w':=w2) ?_ ⟨(HI.out _).2 hg2,hk,⟨a',c',by rw [List.length_append,HLA.out]; rfl⟩,ho⟩
         clear hx10 hup hfr;simp only [execOp,resolve,invoke,builtin,pure_bind,Sem.run_bind,Sem.run_pure,List.map_toArray,List.map_cons,List.map_nil];exact Eq.trans (congrArg (fun r=>Result.andThen r (fun a w'=>Result.ok (Next.value a) w')) hrun) rfl
        obtain ⟨a6,c6,rfl⟩:=hv;simp only [Act.put,List.setIfInBounds_toArray,List.set_cons_succ,List.set_cons_zero];iterate 1 (refine laxI_quiet rfl rfl rfl (fun K hK=>?_); go_big_quiet_op; refine hK _ ?_; clear hK K)
        refine laxI_nilc (.tmp 135) ⟨b,0,none⟩ rfl rfl rfl rfl ?_;simp only [Act.put,List.setIfInBounds_toArray,List.set_cons_succ,List.set_cons_zero];iterate 5 (refine laxI_quiet rfl rfl rfl (fun K hK=>?_); go_big_quiet_op; refine hK _ ?_; clear hK K)
        refine laxI_spec rfl rfl (fun w' hI' hpr hF=>?_) (fun v1 hv=>?_)
        ·have hg:=(HI.out _).1 hI';have o6 : OwnRow cchE wr.heap.size w' (.slice a6 (at_ + 1) c6) (A ++ [cn]):=hF 15 (by kernel_rfl)
         have hl6 : (A ++ [cn]).length = at_ + 1:=by rw [List.length_append,HLA.out]; rfl
         obtain ⟨v',w2,hrun,ho,hgr,hk⟩:=run_append_keeps (E:=cchE) (w:=w') 37 o6 (.slice fa nd cd) D2 (HRD.out.grew hg) (by rw [hl6,HLD.out]; show (at_ + 1 + (n - at_)) * 24≤_; omega) (Below.size hg)
         obtain ⟨a',c',rfl⟩:=ho.form;refine Does.step (v:= .slice a' (A ++ [cn] ++ D2).length c') (w':=w2) ?_ ⟨(HI.out _).2 (grew_beside hg hgr (fun g hg'=>(o6.lt g hg').1)),(fun u m hm h=>hk u m (by rw [hl6]; exact hm) h),⟨a',c',by rw [HNN.out]⟩,ho⟩
         clear hx10 hup hfr;simp only [execOp,resolve,invoke,builtin,pure_bind,Sem.run_bind,Sem.run_pure,List.map_toArray,List.map_cons,List.map_nil];exact Eq.trans (congrArg (fun r=>Result.andThen r (fun a w'=>Result.ok (Next.value a) w')) hrun) rfl
        obtain ⟨a7,c7,rfl⟩:=hv;simp only [Act.put,List.setIfInBounds_toArray,List.set_cons_succ,List.set_cons_zero];refine laxI_nilc (.tmp 119) ⟨b,0,none⟩ rfl rfl rfl rfl ?_;simp only [Act.put,List.setIfInBounds_toArray,List.set_cons_succ,List.set_cons_zero];iterate 2 (refine laxI_quiet rfl rfl rfl (fun K hK=>?_); go_big_quiet_op; refine hK _ ?_; clear hK K)
        refine laxI_nil fun W7 hI7 hF=>?_
        have o7 : OwnRow cchE wr.heap.size W7 (.slice a7 N c7) (A ++ [cn] ++ D2):=hF 23;have g7:=(HI.out _).1 hI7;have M7 : Hid (Mk w0 hi W7 b vl6 L6 V { m with fs:=m.fs.set j ⟨⟨p0,p1,p2,p3,p4,p5,p6,p7⟩,1,x == 1,dd,(fi : Int),(ix : Int)⟩ } vt T):=MQ.out.grew g7;have K7 : Hid (Keeps hi w W7):=KQ.out.trans (Keeps.grew g7);have O7 : Hid (OwnRow cchE wr.heap.size W7 (.slice a7 N c7) (A ++ [cn] ++ D2)):=o7;have HB7 : Hid (w0.heap.size≤wr.heap.size):=show _≤_ from Below.size MQ.out.gr
        have HB8 : Hid (b < wr.heap.size):=show _ < _ from MQ.out.box.box.lt
        clear o7 g7 hF hI7 hx10 hup hfr hne hI0 HI;have xc:=M7.out.box.box.c 10 rfl;rw [HN.out,HAA.out] at xc;have xf:=M7.out.box.box.f;have HG8 : Hid (W7.grownBy (W7.setCell ⟨b,10,none⟩ (.slice a7 N c7)) (some b)):=⟨rfl,rfl,rfl,by simp [World.setCell],fun k _ hk=>Below.heap_setCell _ _ _ _ (fun e=>hk (by rw [e]))⟩
        have M8 : Hid (Mk w0 hi (W7.setCell ⟨b,10,none⟩ (.slice a7 N c7)) b vl6 L6 { V with ca:=⟨a7,N,c7⟩ } { m with fs:=m.fs.set j ⟨⟨p0,p1,p2,p3,p4,p5,p6,p7⟩,1,x == 1,dd,(fi : Int),(ix : Int)⟩,ca:=insCa m.ca ⟨(fi : Int),(ix : Int),(j : Int)⟩ } vt T):=show Mk _ _ _ _ _ _ _ _ _ _ by
         have h7:=M7.out;refine ⟨grew_grown h7.gr HG8.out h7.hb,h7.hb,h7.box.set 10 _,h7.lr,h7.lc,h7.lb,?_⟩;have hr:=h7.rows.var HG8.out h7.box HG8.out.size (.inl rfl);have:=hr.setCa (s:=⟨a7,N,c7⟩) (ca:=A ++ [cn] ++ D2) ((O7.out.setCell (by have:=HB8.out; simp; omega) _).base HB7.out)
         rw [HCN.out] at this HSP;rw [HSP.out];exact this
        have K8 : Hid (Keeps hi w (W7.setCell ⟨b,10,none⟩ (.slice a7 N c7))):=K7.out.trans (M7.out.keeps HG8.out);clear O7 M7;go_wp2;go_ret;exact .inr (.inr ⟨j,rfl,q,_,_,_,⟨a7,N,c7⟩,HQ.out,HR0.out,HNO.out,vl6,L6,M8.out,LL6.out,K8.out⟩)
      ·have hltz2 : ¬ (at_ : Int) < (n : Int):=by omega
       have hgd : decide ((at_ : Int) < (n : Int)) = false:=by simpa using hltz2
       have HST : Hid (∀ x,m.ca[at_]? = some x→decide (keyC x < keyC ⟨(fi : Int),(ix : Int),(j : Int)⟩) = false):=show ∀ x,_ from fun x hx=>by
        have:=(List.getElem?_eq_some_iff.1 hx).1;have:=HLN.out;omega
       go_upto_region 20 with fail;go_quiet (fail);clear x10;have HSP : Hid (insCa m.ca ⟨(fi : Int),(ix : Int),(j : Int)⟩ = m.ca.take at_ ++ [⟨(fi : Int),(ix : Int),(j : Int)⟩] ++ m.ca.drop at_):=show _ = _ by
        obtain ⟨e1,e2⟩:=tw_split (p:=fun d=>decide (keyC d < keyC ⟨(fi : Int),(ix : Int),(j : Int)⟩)) (l:=m.ca) (k:=at_) OW2.out HST.out (by rw [HLN.out]; exact hat)
        unfold insCa;rw [e1,e2];simp
       obtain ⟨Wq,hWq⟩ : ∃ Wq,wr.drewN nq = Wq:=⟨_,rfl⟩;have Gq : Hid (Grew wr Wq):=show Grew _ _ by rw [←hWq]; exact (show Below _ _ _ from Go.below_drewN (Below.refl _ _) _)
       rw [hWq];clear hWq;have MQ : Hid (Mk w0 hi Wq b vl6 L6 V { m with fs:=m.fs.set j ⟨⟨p0,p1,p2,p3,p4,p5,p6,p7⟩,1,x == 1,dd,(fi : Int),(ix : Int)⟩ } vt T):=MR.out.grew Gq.out;have KQ : Hid (Keeps hi w Wq):=KR.out.trans (Keeps.grew Gq.out);clear MR KR Gq
       try clear wr
       obtain ⟨wr,rfl⟩ : ∃ wr,wr = Wq:=⟨_,rfl⟩;go_upto_region 22 with fail;obtain ⟨A,HA⟩ : ∃ A,Hid (m.ca.take at_ = A):=⟨_,rfl⟩;obtain ⟨D2,HD⟩ : ∃ D2,Hid (m.ca.drop at_ = D2):=⟨_,rfl⟩;rw [HA.out,HD.out] at HSP;have HLA : Hid (A.length = at_):=show _ = _ by rw [←HA.out,List.length_take,HLN.out]; omega
       have HLD : Hid (D2.length = n - at_):=show _ = _ by rw [←HD.out,List.length_drop,HLN.out]
       obtain ⟨cn,HCN⟩ : ∃ cn : Ca,Hid (cn = ⟨(fi : Int),(ix : Int),(j : Int)⟩):=⟨_,rfl⟩;rw [←HCN.out] at HSP;obtain ⟨N,HNN⟩ : ∃ N,Hid ((A ++ [cn] ++ D2).length = N):=⟨_,rfl⟩;obtain ⟨I,HI⟩ : ∃ I : World→Prop,Hid (∀ u,I u↔Grew wr u):=⟨fun u=>Grew wr u,fun _=>Iff.rfl⟩
       have hI0 : I wr.drew:=(HI.out _).2 (show Below _ _ _ from (Below.refl _ _).drew)
       have hne : Nonempty (HoldI I):=⟨⟨_,hI0⟩⟩;have hx10 : ∀ y : HoldI I,y.world.cell? ⟨b,10,none⟩ = some (.slice caa n V.ca.c):=fun y=>by
        have:=(MQ.out.box.box.grew ((HI.out _).1 y.holds)).c 10 rfl;rw [HN.out,HAA.out] at this;exact this
       have HRO : Hid (RowAt cchE wr (.slice caa n V.ca.c) m.ca):=show RowAt _ _ _ _ by
        have:=MQ.out.rows.ca.at;rw [HN.out,HAA.out] at this;exact this
       have hup:=fun W=>run_upto (w:=W) (a:=caa) (n:=n) (c:=V.ca.c) (k:=at_) (Nat.le_trans hat HCC.out)
       have hfr:=fun W=>run_from (w:=W) (a:=caa) (n:=n) (c:=V.ca.c) (k:=at_) hat
       obtain ⟨fa,hfa⟩ : ∃ fa,((caa : Option Addr).map fun ad=>if V.ca.c = at_ then ad else ad.add (at_ * 3)) = fa:=⟨_,rfl⟩
       have HRA : Hid (RowAt cchE wr (.slice caa at_ V.ca.c) A):=show RowAt _ _ _ _ by rw [←HA.out]; exact HRO.out.upto hat
       have HRD : Hid (RowAt cchE wr (.slice fa (n - at_) (V.ca.c - at_)) D2):=show RowAt _ _ _ _ by rw [←HD.out,←hfa]; exact HRO.out.from hat HCC.out
       rw [hfa] at hfr;clear hfa;obtain ⟨nd,HND⟩ : ∃ nd,Hid (n - at_ = nd):=⟨_,rfl⟩;obtain ⟨cd,HCD⟩ : ∃ cd,Hid (V.ca.c - at_ = cd):=⟨_,rfl⟩;rw [HND.out,HCD.out] at hfr HRD;refine wp_lax_tailI (I:=I) 27 [(1,⟨fun v=>∃ g,v = .slice (some ⟨g,0,none⟩) 0 0,fun v w'=>OwnRow cchE wr.heap.size w' v [],fun p q=>Grew p q,fun _=>True⟩),(9,⟨fun v=>(∃ a c,v = .slice a at_ c)∧(at_ = 0→∃ g,v = .slice (some ⟨g,0,none⟩) 0 0),fun v w'=>OwnRow cchE wr.heap.size w' v A,fun p q=>Grew p q,fun _=>True⟩),(14,⟨fun v=>∃ g,v = .slice (some ⟨g,0,none⟩) 1 1,fun v w'=>OwnRow cchE wr.heap.size w' v [cn],fun p q=>Grew p q,fun _=>True⟩),(15,⟨fun v=>∃ a c,v = .slice a (at_ + 1) c,fun v w'=>OwnRow cchE wr.heap.size w' v (A ++ [cn]),fun p q=>(∀ u m,m.length≤at_∨m.length≤1→OwnRow cchE wr.heap.size p u m→OwnRow cchE wr.heap.size q u m),fun _=>True⟩),(23,⟨fun v=>∃ a c,v = .slice a N c,fun v w'=>OwnRow cchE wr.heap.size w' v (A ++ [cn] ++ D2),fun p q=>(∀ u m,m.length≤at_ + 1→OwnRow cchE wr.heap.size p u m→OwnRow cchE wr.heap.size q u m),fun _=>True⟩)] hI0 mixed (by kernel_rfl) rfl rfl (by decide) ?hS ?hp ?hpre ?hpr0 ?_
       case hS =>
        intro x hx;simp only [List.mem_cons,List.not_mem_nil,or_false] at hx
        rcases hx with rfl | rfl | rfl | rfl | rfl
        ·exact ⟨_,0,rfl⟩
        ·by_cases h0 : at_ = 0
         ·exact ⟨.slice (some ⟨0,0,none⟩) 0 0,⟨some ⟨0,0,none⟩,0,by rw [h0]⟩,fun _=>⟨0,rfl⟩⟩
         ·exact ⟨.slice none at_ 0,⟨_,_,rfl⟩,fun h=>absurd h h0⟩
        ·exact ⟨_,0,rfl⟩
        ·exact ⟨_,none,0,rfl⟩
        ·exact ⟨_,none,0,rfl⟩
       case hp =>
        intro k s j t hk hj hjk hanc v p q hst hpo;have hk':=lookup_in hk;have hj':=lookup_in hj;clear hk hj;simp only [List.mem_cons,Prod.mk.injEq,List.not_mem_nil,or_false] at hk' hj'
        rcases hk' with ⟨rfl,rfl⟩ | ⟨rfl,rfl⟩ | ⟨rfl,rfl⟩ | ⟨rfl,rfl⟩ | ⟨rfl,rfl⟩
        ·rcases hj' with ⟨rfl,rfl⟩ | ⟨rfl,rfl⟩ | ⟨rfl,rfl⟩ | ⟨rfl,rfl⟩ | ⟨rfl,rfl⟩
         ·exact absurd rfl hjk
         ·exact OwnRow.grew hpo hst
         ·exact OwnRow.grew hpo hst
         ·exact hst v [] (.inl (Nat.zero_le _)) hpo
         ·exact hst v [] (Nat.zero_le _) hpo
        ·rcases hj' with ⟨rfl,rfl⟩ | ⟨rfl,rfl⟩ | ⟨rfl,rfl⟩ | ⟨rfl,rfl⟩ | ⟨rfl,rfl⟩
         ·exact OwnRow.grew hpo hst
         ·exact absurd rfl hjk
         ·exact OwnRow.grew hpo hst
         ·exact hst v A (.inl (by rw [HLA.out]; exact Nat.le_refl _)) hpo
         ·exact hst v A (by rw [HLA.out]; omega) hpo
        ·rcases hj' with ⟨rfl,rfl⟩ | ⟨rfl,rfl⟩ | ⟨rfl,rfl⟩ | ⟨rfl,rfl⟩ | ⟨rfl,rfl⟩
         ·exact OwnRow.grew hpo hst
         ·exact OwnRow.grew hpo hst
         ·exact absurd rfl hjk
         ·exact hst v [cn] (.inr (Nat.le_refl _)) hpo
         ·exact hst v [cn] (by simp) hpo
        ·rcases hj' with ⟨rfl,rfl⟩ | ⟨rfl,rfl⟩ | ⟨rfl,rfl⟩ | ⟨rfl,rfl⟩ | ⟨rfl,rfl⟩
         ·exact OwnRow.grew hpo hst
         ·exact OwnRow.grew hpo hst
         ·exact OwnRow.grew hpo hst
         ·exact absurd rfl hjk
         ·exact hst v (A ++ [cn]) (by rw [List.length_append,HLA.out]; simp) hpo
        ·rcases hj' with ⟨rfl,rfl⟩ | ⟨rfl,rfl⟩ | ⟨rfl,rfl⟩ | ⟨rfl,rfl⟩ | ⟨rfl,rfl⟩
         ·exact OwnRow.grew hpo hst
         ·exact OwnRow.grew hpo hst
         ·exact OwnRow.grew hpo hst
         ·exact Bool.noConfusion (hanc.symm.trans (show _ = true by kernel_rfl))
         ·exact absurd rfl hjk
       case hpre =>
        intro j t k s hj hk hjk p q hst hpr;have hj':=lookup_in hj;clear hk hj;simp only [List.mem_cons,Prod.mk.injEq,List.not_mem_nil,or_false] at hj'
        rcases hj' with ⟨rfl,rfl⟩ | ⟨rfl,rfl⟩ | ⟨rfl,rfl⟩ | ⟨rfl,rfl⟩ | ⟨rfl,rfl⟩ <;> trivial
       case hpr0 =>
        intro k t hk;have hk':=lookup_in hk;clear hk;simp only [List.mem_cons,Prod.mk.injEq,List.not_mem_nil,or_false] at hk'
        rcases hk' with ⟨rfl,rfl⟩ | ⟨rfl,rfl⟩ | ⟨rfl,rfl⟩ | ⟨rfl,rfl⟩ | ⟨rfl,rfl⟩ <;> trivial
       simp only [List.take,List.drop];iterate 1 (refine laxI_quiet rfl rfl rfl (fun K hK=>?_); go_big_quiet_op; refine hK _ ?_; clear hK K)
       refine laxI_spec rfl rfl (fun w' hI' hpr hF=>?_) (fun v1 hv=>?_)
       ·have hg:=(HI.out _).1 hI';refine Does.step (v:= .slice (some ⟨w'.heap.size,0,none⟩) 0 0) (w':=w'.alloc (.cells #[] 87)) (by simp only [execOp]; go_simp) ⟨(HI.out _).2 (hg.trans (grew_alloc _ _)),grew_alloc _ _,⟨_,rfl⟩,(OwnRow.made cchE w').base (Below.size hg)⟩
       obtain ⟨g0,rfl⟩:=hv;simp only [Act.put,List.setIfInBounds_toArray,List.set_cons_succ,List.set_cons_zero];iterate 1 (refine laxI_quiet rfl rfl rfl (fun K hK=>?_); go_big_quiet_op; refine hK _ ?_; clear hK K)
       refine laxI_nilc (.tmp 121) ⟨b,0,none⟩ rfl rfl rfl rfl ?_;simp only [Act.put,List.setIfInBounds_toArray,List.set_cons_succ,List.set_cons_zero];iterate 5 (refine laxI_quiet rfl rfl rfl (fun K hK=>?_); go_big_quiet_op; refine hK _ ?_; clear hK K)
       refine laxI_spec rfl rfl (fun w' hI' hpr hF=>?_) (fun v1 hv=>?_)
       ·have hg:=(HI.out _).1 hI';have h0 : OwnRow cchE wr.heap.size w' (.slice (some ⟨g0,0,none⟩) 0 0) []:=hF 1 (by kernel_rfl)
        obtain ⟨v',w2,hrun,ho,hg2,hz⟩:=run_append_new (E:=cchE) (w:=w') 37 h0 (.slice caa at_ V.ca.c) A (HRA.out.grew hg) (Below.size hg);obtain ⟨a',c',rfl⟩:=ho.form;refine Does.step (v:= .slice a' A.length c') (w':=w2) ?_ ⟨(HI.out _).2 (hg.trans hg2),hg2,⟨⟨a',c',by rw [HLA.out]⟩,fun h=>⟨g0,hz (List.eq_nil_of_length_eq_zero (by rw [HLA.out]; exact h))⟩⟩,ho⟩
        clear hx10 hup hfr;simp only [execOp,resolve,invoke,builtin,pure_bind,Sem.run_bind,Sem.run_pure,List.map_toArray,List.map_cons,List.map_nil];exact Eq.trans (congrArg (fun r=>Result.andThen r (fun a w'=>Result.ok (Next.value a) w')) hrun) rfl
       obtain ⟨⟨a3,c3,rfl⟩,hz3⟩:=hv;simp only [Act.put,List.setIfInBounds_toArray,List.set_cons_succ,List.set_cons_zero];iterate 4 (refine laxI_quiet rfl rfl rfl (fun K hK=>?_); go_big_quiet_op; refine hK _ ?_; clear hK K)
       refine laxI_spec rfl rfl (fun w' hI' hpr hF=>?_) (fun v1 hv=>?_)
       ·have hg:=(HI.out _).1 hI';have hoc:=(own_cached w' cn).base (Below.size hg);rw [HCN.out] at hoc;refine Does.step (v:= .slice (some ⟨w'.heap.size,0,none⟩) 1 1) (w':=w'.alloc (.cells #[.int .i64 (fi : Int),.int .i64 (ix : Int),.int .i64 (j : Int)] 87)) (by clear hx10 hup hfr; simp only [execOp]; go_simp) ⟨(HI.out _).2 (hg.trans (grew_alloc _ _)),grew_alloc _ _,⟨_,rfl⟩,by rw [HCN.out]; exact hoc⟩
       obtain ⟨g5,rfl⟩:=hv;simp only [Act.put,List.setIfInBounds_toArray,List.set_cons_succ,List.set_cons_zero];refine laxI_spec rfl rfl (fun w' hI' hpr hF=>?_) (fun v1 hv=>?_)
       ·have hg:=(HI.out _).1 hI';have o3 : OwnRow cchE wr.heap.size w' (.slice a3 at_ c3) A:=hF 9 (by kernel_rfl)
        have o5 : OwnRow cchE wr.heap.size w' (.slice (some ⟨g5,0,none⟩) 1 1) [cn]:=hF 14 (by kernel_rfl)
        have key : ∃ v' w2,(Builtin.append_ #[37,37] 37 #[.slice a3 at_ c3,.slice (some ⟨g5,0,none⟩) 1 1]).run Tryz.prog w' = .ok v' w2∧OwnRow cchE wr.heap.size w2 v' (A ++ [cn])∧Grew wr w2∧∀ u m,m.length≤at_∨m.length≤1→OwnRow cchE wr.heap.size w' u m→OwnRow cchE wr.heap.size w2 u m:=by
         by_cases h0 : at_ = 0
         ·have hxs : A = []:=List.eq_nil_of_length_eq_zero (by rw [HLA.out]; exact h0)
          obtain ⟨g,hgv⟩:=hz3 h0;rw [hgv,hxs] at o3;rw [hgv,hxs];obtain ⟨v',w2,hrun,ho,hg2,_⟩:=run_append_new (E:=cchE) (w:=w') 37 o3 (.slice (some ⟨g5,0,none⟩) 1 1) [cn] o5.at (Below.size hg);exact ⟨v',w2,hrun,ho,hg.trans hg2,fun u m _ h=>h.grew hg2⟩
         ·obtain ⟨v',w2,hrun,ho,hgr,hk⟩:=run_append_keeps (E:=cchE) (w:=w') 37 o3 (.slice (some ⟨g5,0,none⟩) 1 1) [cn] o5.at (by rw [HLA.out]; show (at_ + 1) * 24≤_; omega) (Below.size hg)
          refine ⟨v',w2,hrun,ho,grew_beside hg hgr (fun g hg'=>(o3.lt g hg').1),fun u m hm h=>hk u m ?_ h⟩
          rw [HLA.out];omega
        obtain ⟨v',w2,hrun,ho,hg2,hk⟩:=key;obtain ⟨a',c',rfl⟩:=ho.form;refine Does.step (v:= .slice a' (A ++ [cn]).length c') (w':=w2) ?_ ⟨(HI.out _).2 hg2,hk,⟨a',c',by rw [List.length_append,HLA.out]; rfl⟩,ho⟩
        clear hx10 hup hfr;simp only [execOp,resolve,invoke,builtin,pure_bind,Sem.run_bind,Sem.run_pure,List.map_toArray,List.map_cons,List.map_nil];exact Eq.trans (congrArg (fun r=>Result.andThen r (fun a w'=>Result.ok (Next.value a) w')) hrun) rfl
       obtain ⟨a6,c6,rfl⟩:=hv;simp only [Act.put,List.setIfInBounds_toArray,List.set_cons_succ,List.set_cons_zero];iterate 1 (refine laxI_quiet rfl rfl rfl (fun K hK=>?_); go_big_quiet_op; refine hK _ ?_; clear hK K)
       refine laxI_nilc (.tmp 135) ⟨b,0,none⟩ rfl rfl rfl rfl ?_;simp only [Act.put,List.setIfInBounds_toArray,List.set_cons_succ,List.set_cons_zero];iterate 5 (refine laxI_quiet rfl rfl rfl (fun K hK=>?_); go_big_quiet_op; refine hK _ ?_; clear hK K)
       refine laxI_spec rfl rfl (fun w' hI' hpr hF=>?_) (fun v1 hv=>?_)
       ·have hg:=(HI.out _).1 hI';have o6 : OwnRow cchE wr.heap.size w' (.slice a6 (at_ + 1) c6) (A ++ [cn]):=hF 15 (by kernel_rfl)
        have hl6 : (A ++ [cn]).length = at_ + 1:=by rw [List.length_append,HLA.out]; rfl
        obtain ⟨v',w2,hrun,ho,hgr,hk⟩:=run_append_keeps (E:=cchE) (w:=w') 37 o6 (.slice fa nd cd) D2 (HRD.out.grew hg) (by rw [hl6,HLD.out]; show (at_ + 1 + (n - at_)) * 24≤_; omega) (Below.size hg)
        obtain ⟨a',c',rfl⟩:=ho.form;refine Does.step (v:= .slice a' (A ++ [cn] ++ D2).length c') (w':=w2) ?_ ⟨(HI.out _).2 (grew_beside hg hgr (fun g hg'=>(o6.lt g hg').1)),(fun u m hm h=>hk u m (by rw [hl6]; exact hm) h),⟨a',c',by rw [HNN.out]⟩,ho⟩
        clear hx10 hup hfr;simp only [execOp,resolve,invoke,builtin,pure_bind,Sem.run_bind,Sem.run_pure,List.map_toArray,List.map_cons,List.map_nil];exact Eq.trans (congrArg (fun r=>Result.andThen r (fun a w'=>Result.ok (Next.value a) w')) hrun) rfl
       obtain ⟨a7,c7,rfl⟩:=hv;simp only [Act.put,List.setIfInBounds_toArray,List.set_cons_succ,List.set_cons_zero];refine laxI_nilc (.tmp 119) ⟨b,0,none⟩ rfl rfl rfl rfl ?_;simp only [Act.put,List.setIfInBounds_toArray,List.set_cons_succ,List.set_cons_zero];iterate 2 (refine laxI_quiet rfl rfl rfl (fun K hK=>?_); go_big_quiet_op; refine hK _ ?_; clear hK K)
       refine laxI_nil fun W7 hI7 hF=>?_
       have o7 : OwnRow cchE wr.heap.size W7 (.slice a7 N c7) (A ++ [cn] ++ D2):=hF 23;have g7:=(HI.out _).1 hI7;have M7 : Hid (Mk w0 hi W7 b vl6 L6 V { m with fs:=m.fs.set j ⟨⟨p0,p1,p2,p3,p4,p5,p6,p7⟩,1,x == 1,dd,(fi : Int),(ix : Int)⟩ } vt T):=MQ.out.grew g7;have K7 : Hid (Keeps hi w W7):=KQ.out.trans (Keeps.grew g7);have O7 : Hid (OwnRow cchE wr.heap.size W7 (.slice a7 N c7) (A ++ [cn] ++ D2)):=o7;have HB7 : Hid (w0.heap.size≤wr.heap.size):=show _≤_ from Below.size MQ.out.gr
       have HB8 : Hid (b < wr.heap.size):=show _ < _ from MQ.out.box.box.lt
       clear o7 g7 hF hI7 hx10 hup hfr hne hI0 HI;have xc:=M7.out.box.box.c 10 rfl;rw [HN.out,HAA.out] at xc;have xf:=M7.out.box.box.f;have HG8 : Hid (W7.grownBy (W7.setCell ⟨b,10,none⟩ (.slice a7 N c7)) (some b)):=⟨rfl,rfl,rfl,by simp [World.setCell],fun k _ hk=>Below.heap_setCell _ _ _ _ (fun e=>hk (by rw [e]))⟩
       have M8 : Hid (Mk w0 hi (W7.setCell ⟨b,10,none⟩ (.slice a7 N c7)) b vl6 L6 { V with ca:=⟨a7,N,c7⟩ } { m with fs:=m.fs.set j ⟨⟨p0,p1,p2,p3,p4,p5,p6,p7⟩,1,x == 1,dd,(fi : Int),(ix : Int)⟩,ca:=insCa m.ca ⟨(fi : Int),(ix : Int),(j : Int)⟩ } vt T):=show Mk _ _ _ _ _ _ _ _ _ _ by
        have h7:=M7.out;refine ⟨grew_grown h7.gr HG8.out h7.hb,h7.hb,h7.box.set 10 _,h7.lr,h7.lc,h7.lb,?_⟩;have hr:=h7.rows.var HG8.out h7.box HG8.out.size (.inl rfl);have:=hr.setCa (s:=⟨a7,N,c7⟩) (ca:=A ++ [cn] ++ D2) ((O7.out.setCell (by have:=HB8.out; simp; omega) _).base HB7.out)
        rw [HCN.out] at this HSP;rw [HSP.out];exact this
       have K8 : Hid (Keeps hi w (W7.setCell ⟨b,10,none⟩ (.slice a7 N c7))):=K7.out.trans (M7.out.keeps HG8.out);clear O7 M7;go_wp2;go_ret;exact .inr (.inr ⟨j,rfl,q,_,_,_,⟨a7,N,c7⟩,HQ.out,HR0.out,HNO.out,vl6,L6,M8.out,LL6.out,K8.out⟩)
theorem tab_updF (f : Nat→En) (n : Nat) (e : En) : tab (updF f n e) = (tab f).set n e:=(tab_set f n e).symm
theorem flaE_upd (f : Nat→En) {n : Nat} (hn : n < 64) (e : En) : flaE.enc (updF f n e) = splice (flaE.enc f) (n * 3) (env e):=by
 show cellsL (tab (updF f n e)) = splice (cellsL (tab f)) (n * 3) (env e)
 rw [tab_updF];exact (splice_set (enc:=env) (k:=3) e rfl (tab f) n (fun _ _=>rfl) (by rw [tab_len]; exact hn)).symm
theorem pair_len {key : Ca→Int} : ∀ {l : List Ca} {lo N : Nat},l.Pairwise (fun a b=>key a < key b)→(∀ c∈l,(lo : Int)≤key c∧key c < (N : Int))→l.length≤N - lo
 | [],_,_,_,_=>Nat.zero_le _
 | c :: l,lo,N,h,hb=>by
  obtain ⟨h1,h2⟩:=List.pairwise_cons.1 h;have h3:=hb c (by simp)
  have ih:=pair_len (lo:=(key c).toNat + 1) (N:=N) h2 (fun d hd=>by
   have:=h1 d hd;have:=hb d (by simp [hd])
   omega)
  simp only [List.length_cons];omega
section
variable {m : Ma} {T : List (Nat→En)}
theorem BInv.cached (h : BInv m T) : (∀ c∈m.ca,0≤c.file∧c.file≤1000∧0≤c.idx∧c.idx≤1000∧0≤c.fr∧c.fr < m.fs.length)∧m.ca.length≤1000∧∀ c∈m.ca,∃ (k : Nat) (fr : Fr),c.fr = (k : Int)∧m.fs[k]? = some fr∧fr.f = c.file∧fr.x = c.idx:=by
 obtain ⟨a1,a2,a3⟩:=caGo_zero.1 h.ca;have key : ∀ c∈m.ca,(0≤c.file∧c.file < 5∧0≤c.idx∧c.idx < 12∧0≤c.fr∧c.fr < m.fs.length)∧(frAt m c.fr).f = c.file∧(frAt m c.fr).x = c.idx:=fun c hc=>by
  have h1:=a1 c hc;unfold caE at h1
  split at h1
  ·cases h1
  ·rename_i hn
   split at h1
   ·cases h1
   ·rename_i hn2
    have h2:=h.pages (file:=c.file) (by omega) (by omega)
    refine ⟨by omega,?_,?_⟩
    ·exact Classical.byContradiction fun e=>hn2 (.inr (.inl e))
    ·exact Classical.byContradiction fun e=>hn2 (.inr (.inr e))
 refine ⟨fun c hc=>?_,?_,fun c hc=>?_⟩
 ·have:=(key c hc).1;omega
 ·refine Nat.le_trans (pair_len (key:=keyC) (lo:=0) (N:=1000) a3 fun c hc=>?_) (Nat.le_refl _)
  have:=(key c hc).1;unfold keyC;omega
 ·obtain ⟨k1,k2,k3⟩:=key c hc;have hlt : c.fr.toNat < m.fs.length:=by omega
  have he : frAt m c.fr = m.fs[c.fr.toNat]:=by
   unfold frAt;rw [List.getD_eq_getElem?_getD,List.getElem?_eq_getElem hlt];rfl
  rw [he] at k2 k3;exact ⟨c.fr.toNat,m.fs[c.fr.toNat],by omega,List.getElem?_eq_getElem hlt,k2,k3⟩
theorem BInv.alone (h : BInv m T) {p n : Nat} {s : Sp} (hs : m.sp[p]? = some s) (hx : (onAt s.ars n).is = true) : -1≤(onAt s.ars n).file∧0≤(onAt s.ars n).page∧(onAt s.ars n).page≤1000∧((onAt s.ars n).file < 0→(onAt s.ars n).sh = false):=by
 have hw:=(h.spok s (List.mem_of_getElem? hs)).1;have hc:=wrL_zero.1 hw;obtain ⟨i,a,h1,h2,h3⟩:=onAt_some hx;have hok:=hc.2.all a (List.mem_of_getElem? h1);rw [h3];unfold ArOk at hok;unfold oneOf;have h2:=arIn_iff.1 h2;obtain ⟨o1,o2,o3,o4,o5,o6,o7,o8⟩:=hok;simp only
 split <;> refine ⟨by omega,by omega,by omega,fun e=>(o7 e).2⟩
end
end
end Go.Proofs.YtjleclgecnndjaaGreat
