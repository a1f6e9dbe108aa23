/- The walk of the law DiskTells where New refuses, the number too great. -/
import Derived.Test.YtbcaagmnmaonbaaSame
import Derived.Test.YtbcaagmnmaonbaaRefKeep
import Derived.Test.YtbcaagmnmaonbaaRefRead
import Derived.Test.YtbcaagmnmaonbaaRefWriteFull
import Derived.Test.YtbcaagmnmaonbaaNew
import Derived.Test.YtbcaagmnmaonbaaTrimLaw
import Derived.Test.YtbcaagmnmaonbaaFlush
import Derived.Test.YtbcaagmnmaonbaaCrash
namespace Go.Proofs.Ytbcaagmnmaonbaa
open Go.RowKit

theorem new_bad2 (k : Int) (hk : ¬ (0 ≤ k ∧ k ≤ 80)) (W : World) : Calls Try.prog 22 #[.int .i64 k] W fun e w' => ∃ d', e = .returned (.tuple #[d', .int .i64 4]) ∧ NewDisk W.heap.size w' d' [] [] ∧ Grew W w' := by
  have h := new_any k W
  rw [show newErr k = 4 from if_neg hk, show newD k = [] from if_neg hk] at h
  exact h

set_option maxRecDepth 100000 in
set_option maxHeartbeats 4000000 in
theorem tells_hi (d : Value) (ps : List (List Int)) (qs : List (Int × List Int)) (m : Int) (p : List Int) (hp : p.length = 8) (bs : Int) (k : Int) (hk : 80 < k) (w : World) (hd : DiskAt w d ps qs) :
    Calls Try.prog 5 #[d, .int .i64 m, .agg (pgc p).toArray, .int .i64 bs, .int .i64 k] w fun e w' => e = .returned (.bool true) ∧ Grew w w' := by
  have HD : Hid (DiskAt w d ps qs) := hd
  obtain ⟨p0, p1, p2, p3, p4, p5, p6, p7, rfl⟩ := len8 p hp
  obtain ⟨b, q, rfl, hb, hq⟩ := hd
  obtain ⟨ab, cb, rfl, _⟩ := hb.rows
  obtain ⟨aq, cq, rfl, _⟩ := hq.rows
  have HQ : Hid (PutsAt w (.slice aq qs.length cq) qs) := hq
  clear hb hq hp
  show Calls Try.prog 5 #[.agg #[.slice ab ps.length cb, .slice aq qs.length cq], .int .i64 m, .agg #[.int .u8 p0, .int .u8 p1, .int .u8 p2, .int .u8 p3, .int .u8 p4, .int .u8 p5, .int .u8 p6, .int .u8 p7], .int .i64 bs, .int .i64 k] w _
  have c1 : ∀ W, Grew w W → Calls Try.prog 18 #[.agg #[.slice ab ps.length cb, .slice aq qs.length cq]] W fun e w' => e = .returned (.int .i64 (wrongL ps.length qs)) ∧ Grew W w' := fun W hW => wrong_any ab ps.length cb _ qs W (HQ.out.grew hW)
  have c2 : ∀ W, Grew w W → Calls Try.prog 19 #[.agg #[.slice ab ps.length cb, .slice aq qs.length cq]] W fun e w' => e = .returned (.int .i64 (wrongL ps.length qs)) ∧ Grew W w' := fun W hW => refWrong_any ab ps.length cb _ qs W (HQ.out.grew hW)
  have c3 : ∀ W, Grew w W → Calls Try.prog 21 #[.agg #[.slice ab ps.length cb, .slice aq qs.length cq]] W fun e w' => ∃ d', e = .returned d' ∧ NewDisk W.heap.size w' d' ps qs ∧ Grew W w' := fun W hW => (own_any _ ps qs W (HD.out.grew hW)).mono (by rintro e w' ⟨d', rfl, h1, h2⟩; exact ⟨d', rfl, h1.new, h2⟩)
  have c4 : ∀ W, Calls Try.prog 22 #[.int .i64 k] W fun e w' => ∃ d', e = .returned (.tuple #[d', .int .i64 4]) ∧ NewDisk W.heap.size w' d' [] [] ∧ Grew W w' := fun W => new_bad2 k (by omega) W
  obtain ⟨b0, b1, b2, b3, b4, b5, b6, b7, hbb⟩ := len8 (readL ps qs m) (readL_len HD.out.ok8 m)
  have c5 : ∀ W, Grew w W → Calls Try.prog 23 #[.agg #[.slice ab ps.length cb, .slice aq qs.length cq], .int .i64 m] W fun e w' => e = .returned (.tuple #[.agg #[.int .u8 b0, .int .u8 b1, .int .u8 b2, .int .u8 b3, .int .u8 b4, .int .u8 b5, .int .u8 b6, .int .u8 b7], .int .i64 (wrongAtL ps.length qs m)]) ∧ Grew W w' := fun W hW => by
    have h := read_any _ ps qs m W (HD.out.grew hW)
    rw [hbb] at h
    exact h
  have c6 : ∀ W, Grew w W → Calls Try.prog 24 #[.agg #[.slice ab ps.length cb, .slice aq qs.length cq], .int .i64 m] W fun e w' => e = .returned (.tuple #[.agg #[.int .u8 b0, .int .u8 b1, .int .u8 b2, .int .u8 b3, .int .u8 b4, .int .u8 b5, .int .u8 b6, .int .u8 b7], .int .i64 (wrongAtL ps.length qs m)]) ∧ Grew W w' := fun W hW => by
    have h := refRead_any _ ps qs m W (HD.out.grew hW)
    rw [hbb] at h
    exact h
  clear hbb
  have c7 : ∀ W, Grew w W → Calls Try.prog 25 #[.agg #[.slice ab ps.length cb, .slice aq qs.length cq], .int .i64 m, .agg #[.int .u8 p0, .int .u8 p1, .int .u8 p2, .int .u8 p3, .int .u8 p4, .int .u8 p5, .int .u8 p6, .int .u8 p7]] W fun e w' => ∃ d', e = .returned (.tuple #[d', .int .i64 (wrongAtL ps.length qs m)]) ∧ NewDisk W.heap.size w' d' (writeDP ps qs m) (writeDQ ps qs m [p0, p1, p2, p3, p4, p5, p6, p7]) ∧ Grew W w' := fun W hW => write_any _ ps qs m [p0, p1, p2, p3, p4, p5, p6, p7] rfl W (HD.out.grew hW)
  have c8 : ∀ W, Grew w W → Calls Try.prog 26 #[.agg #[.slice ab ps.length cb, .slice aq qs.length cq], .int .i64 m, .agg #[.int .u8 p0, .int .u8 p1, .int .u8 p2, .int .u8 p3, .int .u8 p4, .int .u8 p5, .int .u8 p6, .int .u8 p7]] W fun e w' => ∃ d', e = .returned (.tuple #[d', .int .i64 (wrongAtL ps.length qs m)]) ∧ NewDisk W.heap.size w' d' (writeDP ps qs m) (writeDQ ps qs m [p0, p1, p2, p3, p4, p5, p6, p7]) ∧ Grew W w' := fun W hW => refWrite_any _ ps qs m [p0, p1, p2, p3, p4, p5, p6, p7] rfl W (HD.out.grew hW)
  have c9 : ∀ W, Grew w W → Calls Try.prog 27 #[.agg #[.slice ab ps.length cb, .slice aq qs.length cq], .int .i64 m] W fun e w' => ∃ d', e = .returned (.tuple #[d', .int .i64 (wrongAtL ps.length qs m)]) ∧ NewDisk W.heap.size w' d' (trimDP ps qs m) (trimDQ ps qs m) ∧ Grew W w' := fun W hW => trim_any _ ps qs m W (HD.out.grew hW)
  have c10 : ∀ W, Grew w W → Calls Try.prog 28 #[.agg #[.slice ab ps.length cb, .slice aq qs.length cq], .int .i64 m] W fun e w' => ∃ d', e = .returned (.tuple #[d', .int .i64 (wrongAtL ps.length qs m)]) ∧ NewDisk W.heap.size w' d' (trimDP ps qs m) (trimDQ ps qs m) ∧ Grew W w' := fun W hW => refTrim_any _ ps qs m W (HD.out.grew hW)
  have c11 : ∀ W, Grew w W → Calls Try.prog 29 #[.agg #[.slice ab ps.length cb, .slice aq qs.length cq]] W fun e w' => ∃ d', e = .returned (.tuple #[d', .int .i64 (wrongL ps.length qs)]) ∧ NewDisk W.heap.size w' d' (keepD (fun _ => true) ps qs) [] ∧ Grew W w' := fun W hW => flush_any _ ps qs W (HD.out.grew hW)
  have c12 : ∀ W, Grew w W → Calls Try.prog 30 #[.agg #[.slice ab ps.length cb, .slice aq qs.length cq], .int .i64 0, .bool true] W fun e w' => ∃ d', e = .returned (.tuple #[d', .int .i64 (wrongL ps.length qs)]) ∧ NewDisk W.heap.size w' d' (keepD (fun _ => true) ps qs) [] ∧ Grew W w' := fun W hW => by
    have h := refKeep_any _ ps qs 0 true W (HD.out.grew hW)
    rw [show allK true 0 = fun _ => true from rfl] at h
    exact h
  have c13 : ∀ W, Grew w W → Calls Try.prog 31 #[.agg #[.slice ab ps.length cb, .slice aq qs.length cq], .int .i64 bs] W fun e w' => ∃ d', e = .returned (.tuple #[d', .int .i64 (wrongL ps.length qs)]) ∧ NewDisk W.heap.size w' d' (keepD (crashK bs) ps qs) [] ∧ Grew W w' := fun W hW => crash_any _ ps qs bs W (HD.out.grew hW)
  have c14 : ∀ W, Grew w W → Calls Try.prog 30 #[.agg #[.slice ab ps.length cb, .slice aq qs.length cq], .int .i64 bs, .bool false] W fun e w' => ∃ d', e = .returned (.tuple #[d', .int .i64 (wrongL ps.length qs)]) ∧ NewDisk W.heap.size w' d' (keepD (crashK bs) ps qs) [] ∧ Grew W w' := fun W hW => by
    have h := refKeep_any _ ps qs bs false W (HD.out.grew hW)
    rw [show allK false bs = crashK bs from funext fun j => Bool.false_or _] at h
    exact h
  generalize writeDP ps qs m = P1 at c7 c8
  generalize writeDQ ps qs m [p0, p1, p2, p3, p4, p5, p6, p7] = Q1 at c7 c8
  generalize trimDP ps qs m = P2 at c9 c10
  generalize trimDQ ps qs m = Q2 at c9 c10
  generalize keepD (fun _ => true) ps qs = P3 at c11 c12
  generalize keepD (crashK bs) ps qs = P4 at c13 c14
  obtain ⟨lP1, LP1⟩ : ∃ l, Hid (P1.length = l) := ⟨_, rfl⟩
  obtain ⟨lQ1, LQ1⟩ : ∃ l, Hid (Q1.length = l) := ⟨_, rfl⟩
  obtain ⟨lP2, LP2⟩ : ∃ l, Hid (P2.length = l) := ⟨_, rfl⟩
  obtain ⟨lQ2, LQ2⟩ : ∃ l, Hid (Q2.length = l) := ⟨_, rfl⟩
  obtain ⟨lP3, LP3⟩ : ∃ l, Hid (P3.length = l) := ⟨_, rfl⟩
  obtain ⟨lP4, LP4⟩ : ∃ l, Hid (P4.length = l) := ⟨_, rfl⟩
  obtain ⟨nb, HNB⟩ : ∃ nb, Hid (ps.length = nb) := ⟨_, rfl⟩
  obtain ⟨nq, HNQ⟩ : ∃ nq, Hid (qs.length = nq) := ⟨_, rfl⟩
  obtain ⟨r1, H1⟩ : ∃ r, Hid (wrongL ps.length qs = r) := ⟨_, rfl⟩
  obtain ⟨r2, H2⟩ : ∃ r, Hid (wrongAtL ps.length qs m = r) := ⟨_, rfl⟩
  simp only [H1.out, H2.out] at c1 c2 c5 c6 c7 c8 c9 c10 c11 c12 c13 c14
  simp only [HNB.out, HNQ.out] at c1 c2 c3 c5 c6 c7 c8 c9 c10 c11 c12 c13 c14 HD ⊢
  obtain ⟨W0, hW0⟩ : ∃ W0, (w.alloc (.cells #[.slice ab nb cb, .slice aq nq cq] 36)).alloc (.cells #[.int .u8 p0, .int .u8 p1, .int .u8 p2, .int .u8 p3, .int .u8 p4, .int .u8 p5, .int .u8 p6, .int .u8 p7] 23) = W0 := ⟨_, rfl⟩
  have HG0 : Hid (Grew w W0) := show Grew w W0 by rw [← hW0]; exact (grew_alloc _ _).trans (grew_alloc _ _)
  have X0 : Hid (Box W0 w.heap.size [.slice ab nb cb, .slice aq nq cq]) := show Box _ _ _ by rw [← hW0]; exact (Box.top w [.slice ab nb cb, .slice aq nq cq] _ rfl).alloc _
  have X1 : Hid (Box W0 (w.heap.size + 1) [.int .u8 p0, .int .u8 p1, .int .u8 p2, .int .u8 p3, .int .u8 p4, .int .u8 p5, .int .u8 p6, .int .u8 p7]) := show Box _ _ _ by rw [← hW0]; exact Box.top _ [.int .u8 p0, .int .u8 p1, .int .u8 p2, .int .u8 p3, .int .u8 p4, .int .u8 p5, .int .u8 p6, .int .u8 p7] _ (by simp)
  have HW0 : Hid (_ = W0) := hW0
  clear hW0
  go_enter Try.func5, Try.ntmps5
  go_wp2
  rw [HW0.out]
  have hx0 : ∀ x : GrownW W0, x.world.cell? ⟨w.heap.size, 0, none⟩ = some (.slice ab nb cb) := fun x => (X0.out.grew x.grew).c 0 rfl
  have hx1 : ∀ x : GrownW W0, x.world.cell? ⟨w.heap.size, 1, none⟩ = some (.slice aq nq cq) := fun x => (X0.out.grew x.grew).c 1 rfl
  have hne : Nonempty (GrownW W0) := ⟨⟨_, Grew.refl _⟩⟩
  refine wp_lax [(1, ⟨fun v => v = .int .i64 r1, fun _ _ => True⟩), (3, ⟨fun v => v = .int .i64 r1, fun _ _ => True⟩), (7, ⟨fun v => ∃ a c a' c', v = .agg #[.slice a nb c, .slice a' nq c'], fun v w' => DiskAt w' v ps qs⟩), (9, ⟨fun v => v = .bool true, fun _ _ => True⟩)] mixed (by kernel_rfl) ?_ ?_ ?_
  · intro x hx
    simp at hx
    rcases hx with rfl | rfl | rfl | rfl
    · exact ⟨_, rfl⟩
    · exact ⟨_, rfl⟩
    · exact ⟨_, none, 0, none, 0, rfl⟩
    · exact ⟨_, rfl⟩
  · intro x hx
    simp at hx
    rcases hx with rfl | rfl | rfl | rfl
    · exact fun _ _ _ _ h => h
    · exact fun _ _ _ _ h => h
    · exact fun _ _ _ hg h => h.grew hg
    · exact fun _ _ _ _ h => h
  refine lax_quiet rfl rfl rfl (fun K hK => ?_); go_big_quiet_op; refine hK _ ?_; clear hK K
  refine lax_spec rfl rfl (fun w' hg hF => ?_) (fun v1 hv => ?_)
  · refine Does.call [.agg #[.slice ab nb cb, .slice aq nq cq]] rfl Try.func18 rfl rfl rfl ?_
    refine (c1 w' (HG0.out.trans hg)).mono ?_
    rintro e w'' ⟨rfl, hg2⟩
    exact ⟨_, rfl, hg2, rfl, trivial⟩
  subst hv
  simp only [Act.put, List.setIfInBounds_toArray, List.set_cons_succ, List.set_cons_zero]
  refine lax_quiet rfl rfl rfl (fun K hK => ?_); go_big_quiet_op; refine hK _ ?_; clear hK K
  refine lax_spec rfl rfl (fun w' hg hF => ?_) (fun v1 hv => ?_)
  · refine Does.call [.agg #[.slice ab nb cb, .slice aq nq cq]] rfl Try.func19 rfl rfl rfl ?_
    refine (c2 w' (HG0.out.trans hg)).mono ?_
    rintro e w'' ⟨rfl, hg2⟩
    exact ⟨_, rfl, hg2, rfl, trivial⟩
  subst hv
  have hr11 : (r1 != r1) = false := by simp
  simp only [Act.put, List.setIfInBounds_toArray, List.set_cons_succ, List.set_cons_zero]
  iterate 3 (refine lax_quiet rfl rfl rfl (fun K hK => ?_); go_big_quiet_op; refine hK _ ?_; clear hK K)
  refine lax_spec rfl rfl (fun w' hg hF => ?_) (fun v1 hv => ?_)
  · refine Does.call [.agg #[.slice ab nb cb, .slice aq nq cq]] rfl Try.func21 rfl rfl rfl ?_
    refine (c3 w' (HG0.out.trans hg)).mono ?_
    rintro e w'' ⟨d', rfl, nd, hg2⟩
    obtain ⟨yb, db, yq, dq, rfl, nd⟩ := nd.open
    exact ⟨_, rfl, hg2, ⟨yb, db, yq, dq, by rw [HNB.out, HNQ.out]⟩, nd.at⟩
  obtain ⟨yb, db, yq, dq, rfl⟩ := hv
  simp only [Act.put, List.setIfInBounds_toArray, List.set_cons_succ, List.set_cons_zero]
  refine lax_quiet rfl rfl rfl (fun K hK => ?_); go_big_quiet_op; refine hK _ ?_; clear hK K
  refine lax_spec rfl rfl (fun w' hg hF => ?_) (fun v1 hv => ?_)
  · have h7 : DiskAt w' (.agg #[.slice yb nb db, .slice yq nq dq]) ps qs := hF 7 (by kernel_rfl)
    refine Does.call [.agg #[.slice yb nb db, .slice yq nq dq], .agg #[.slice ab nb cb, .slice aq nq cq]] rfl Try.func20 rfl rfl rfl ?_
    refine (same_any _ _ ps qs w' h7 (HD.out.grew (HG0.out.trans hg))).mono ?_
    rintro e w'' ⟨rfl, hg2⟩
    exact ⟨_, rfl, hg2, rfl, trivial⟩
  subst hv
  simp only [Act.put, List.setIfInBounds_toArray, List.set_cons_succ, List.set_cons_zero]
  iterate 2 (refine lax_quiet rfl rfl rfl (fun K hK => ?_); go_big_quiet_op; refine hK _ ?_; clear hK K)
  refine lax_nil fun w1 hg1 hF => ?_
  have G1 : Hid (Grew W0 w1) := hg1
  clear hF hg1 hx0 hx1 hne
  have GW1 : Hid (Grew w w1) := HG0.out.trans G1.out
  have h00 : (0 : Int) ≤ k := by omega
  have h80 : decide (k ≤ 80) = false := by simp; omega
  have h81 : ¬ k ≤ 80 := by omega
  have hr1e : (r1 == r1) = true := by simp
  have hr22 : (r2 != r2) = false := by simp
  have pe := page_same b0 b1 b2 b3 b4 b5 b6 b7
  have e0 := (X0.out.grew G1.out).c 0 rfl
  have e1 := (X0.out.grew G1.out).c 1 rfl
  go_wp2_with fail
  go_at_call 22
  refine (c4 w1).mono ?_
  rintro e W2 ⟨d2, rfl, nd2, g2⟩
  obtain ⟨xb, xc, xq, xd, rfl, nd2⟩ := nd2.open
  simp only [List.length_nil]
  have GW2 : Hid (Grew w W2) := GW1.out.trans g2
  clear e0 e1 nd2
  have e0 := ((X0.out.grew G1.out).grew g2).c 0 rfl
  have e1 := ((X0.out.grew G1.out).grew g2).c 1 rfl
  have el := ((X0.out.grew G1.out).grew g2).lt
  have hxl : w.heap.size + 1 < W2.heap.size := ((X1.out.grew G1.out).grew g2).lt
  have X02 : Hid (Box W2 w.heap.size [.slice ab nb cb, .slice aq nq cq]) := (X0.out.grew G1.out).grew g2
  have X12 : Hid (Box W2 (w.heap.size + 1) [.int .u8 p0, .int .u8 p1, .int .u8 p2, .int .u8 p3, .int .u8 p4, .int .u8 p5, .int .u8 p6, .int .u8 p7]) := (X1.out.grew G1.out).grew g2
  go_wp2_with fail
  go_at_call 23
  refine (c5 _ (by repeat first | exact Hid.out GW2 | refine Grew.trans ?_ (grew_alloc _ _) | refine grew_set ?_ (by first | (simp; done) | (simp; omega)) _)).mono ?_
  rintro e W3 ⟨rfl, g3⟩
  have XD3 : Hid (Box W3 w.heap.size [.slice ab nb cb, .slice aq nq cq]) := (X02.out.alloc _).grew g3
  have XP3 : Hid (Box W3 (w.heap.size + 1) [.int .u8 p0, .int .u8 p1, .int .u8 p2, .int .u8 p3, .int .u8 p4, .int .u8 p5, .int .u8 p6, .int .u8 p7]) := (X12.out.alloc _).grew g3
  have XX3 : Hid (Box W3 W2.heap.size [.slice xb 0 xc, .slice xq 0 xd]) := (Box.top W2 [.slice xb 0 xc, .slice xq 0 xd] _ rfl).grew g3
  have GW3 : Hid (Grew w W3) := (GW2.out.trans (grew_alloc _ _)).trans g3
  clear e0 e1 el
  have e0 := XD3.out.c 0 rfl
  have e1 := XD3.out.c 1 rfl
  have el := XD3.out.lt
  go_wp2_with fail
  go_at_call 24
  refine (c6 _ (by repeat first | exact Hid.out GW3 | refine Grew.trans ?_ (grew_alloc _ _) | refine grew_set ?_ (by first | (simp; done) | (simp; omega)) _)).mono ?_
  rintro e W4 ⟨rfl, g4⟩
  have XD4 : Hid (Box W4 w.heap.size [.slice ab nb cb, .slice aq nq cq]) := (XD3.out.alloc _).grew g4
  have XP4 : Hid (Box W4 (w.heap.size + 1) [.int .u8 p0, .int .u8 p1, .int .u8 p2, .int .u8 p3, .int .u8 p4, .int .u8 p5, .int .u8 p6, .int .u8 p7]) := (XP3.out.alloc _).grew g4
  have XX4 : Hid (Box W4 W2.heap.size [.slice xb 0 xc, .slice xq 0 xd]) := (XX3.out.alloc _).grew g4
  have XA4 := (Box.top W3 [.int .u8 b0, .int .u8 b1, .int .u8 b2, .int .u8 b3, .int .u8 b4, .int .u8 b5, .int .u8 b6, .int .u8 b7] _ rfl).grew g4
  have GW4 : Hid (Grew w W4) := (GW3.out.trans (grew_alloc _ _)).trans g4
  clear e0 e1 el
  have e0 := XD4.out.c 0 rfl
  have e1 := XD4.out.c 1 rfl
  have el := XD4.out.lt
  have ep := XP4.out.lt
  have ea := XA4.lt
  have u0 := XA4.c 0 rfl
  have u1 := XA4.c 1 rfl
  have u2 := XA4.c 2 rfl
  have u3 := XA4.c 3 rfl
  have u4 := XA4.c 4 rfl
  have u5 := XA4.c 5 rfl
  have u6 := XA4.c 6 rfl
  have u7 := XA4.c 7 rfl
  have v0 := XP4.out.c 0 rfl
  have v1 := XP4.out.c 1 rfl
  have v2 := XP4.out.c 2 rfl
  have v3 := XP4.out.c 3 rfl
  have v4 := XP4.out.c 4 rfl
  have v5 := XP4.out.c 5 rfl
  have v6 := XP4.out.c 6 rfl
  have v7 := XP4.out.c 7 rfl
  clear XA4 g4
  go_wp2_with fail
  go_at_call 25
  refine (c7 _ (by repeat first | exact Hid.out GW4 | refine Grew.trans ?_ (grew_alloc _ _) | refine grew_set ?_ (by first | (simp; done) | (simp; omega)) _)).mono ?_
  rintro e W5 ⟨d5, rfl, nd5, g5⟩
  obtain ⟨x5a, x5b, x5c, x5d, rfl, nd5⟩ := nd5.open
  rw [LP1.out, LQ1.out] at nd5 ⊢
  have GG5 : Hid (Grew W4 W5) := (grew_alloc W4 _).trans g5
  have XD5 : Hid (Box W5 w.heap.size [.slice ab nb cb, .slice aq nq cq]) := XD4.out.grew GG5.out
  have XX5 : Hid (Box W5 W2.heap.size [.slice xb 0 xc, .slice xq 0 xd]) := XX4.out.grew GG5.out
  have GW5 : Hid (Grew w W5) := GW4.out.trans GG5.out
  have ND5 : Hid (NewDisk W4.heap.size W5 (.agg #[.slice x5a lP1 x5b, .slice x5c lQ1 x5d]) P1 Q1) := nd5.base (by simp)
  clear nd5 g5 u0 u1 u2 u3 u4 u5 u6 u7 v0 v1 v2 v3 v4 v5 v6 v7 e0 e1 el ep ea
  have e0 := XD5.out.c 0 rfl
  have e1 := XD5.out.c 1 rfl
  have el := XD5.out.lt
  have ex := XX5.out.lt
  have x0 := XX5.out.c 0 rfl
  have x1 := XX5.out.c 1 rfl
  have xf := XX5.out.f
  have hxd : w.heap.size ≠ W2.heap.size := by omega
  have XP5 : Hid (Box W5 (w.heap.size + 1) [.int .u8 p0, .int .u8 p1, .int .u8 p2, .int .u8 p3, .int .u8 p4, .int .u8 p5, .int .u8 p6, .int .u8 p7]) := XP4.out.grew GG5.out
  have ep := XP5.out.lt
  have hxp : w.heap.size + 1 ≠ W2.heap.size := by omega
  have v0 := XP5.out.c 0 rfl
  have v1 := XP5.out.c 1 rfl
  have v2 := XP5.out.c 2 rfl
  have v3 := XP5.out.c 3 rfl
  have v4 := XP5.out.c 4 rfl
  have v5 := XP5.out.c 5 rfl
  have v6 := XP5.out.c 6 rfl
  have v7 := XP5.out.c 7 rfl
  go_wp2_with fail
  go_at_call 26
  refine (c8 _ (by repeat first | exact Hid.out GW5 | refine Grew.trans ?_ (grew_alloc _ _) | refine grew_set ?_ (by first | (simp; done) | (simp; omega)) _)).mono ?_
  rintro e W6 ⟨d6, rfl, nd6, g6⟩
  obtain ⟨y6a, y6b, y6c, y6d, rfl, nd6⟩ := nd6.open
  rw [LP1.out, LQ1.out] at nd6 ⊢
  have XD6 : Hid (Box W6 w.heap.size [.slice ab nb cb, .slice aq nq cq]) := ((XD5.out.other (a := ⟨W2.heap.size, 0, none⟩) hxd _).other (a := ⟨W2.heap.size, 1, none⟩) hxd _).grew g6
  have XX6 : Hid (Box W6 W2.heap.size [.slice x5a lP1 x5b, .slice x5c lQ1 x5d]) := ((XX5.out.set 0 (.slice x5a lP1 x5b)).set 1 (.slice x5c lQ1 x5d)).grew g6
  have GC6 : Hid (Grew w ((W5.setCell ⟨W2.heap.size, 0, none⟩ (.slice x5a lP1 x5b)).setCell ⟨W2.heap.size, 1, none⟩ (.slice x5c lQ1 x5d))) := show Grew _ _ by repeat first | exact Hid.out GW5 | refine Grew.trans ?_ (grew_alloc _ _) | refine grew_set ?_ (by first | (simp; done) | (simp; omega)) _
  have GW6 : Hid (Grew w W6) := GC6.out.trans g6
  have NX6 : Hid (NewDisk W4.heap.size W6 (.agg #[.slice x5a lP1 x5b, .slice x5c lQ1 x5d]) P1 Q1) := ((ND5.out.setCell (a := ⟨W2.heap.size, 0, none⟩) XX4.out.lt _).setCell (a := ⟨W2.heap.size, 1, none⟩) XX4.out.lt _).grew g6
  have NY6 : Hid (NewDisk W5.heap.size W6 (.agg #[.slice y6a lP1 y6b, .slice y6c lQ1 y6d]) P1 Q1) := nd6.base (by simp)
  clear v0 v1 v2 v3 v4 v5 v6 v7 ep hxp e0 e1 el ex x0 x1 xf hxd
  have e0 := XD6.out.c 0 rfl
  have e1 := XD6.out.c 1 rfl
  have el := XD6.out.lt
  have ex := XX6.out.lt
  have x0 := XX6.out.c 0 rfl
  have x1 := XX6.out.c 1 rfl
  clear nd6 g6
  go_wp2_with fail
  go_at_call 20
  refine (same_any (.agg #[.slice x5a lP1 x5b, .slice x5c lQ1 x5d]) (.agg #[.slice y6a lP1 y6b, .slice y6c lQ1 y6d]) P1 Q1 _ (NX6.out.at.grew (grew_alloc W6 _)) (NY6.out.at.grew (grew_alloc W6 _))).mono ?_
  rintro e W7 ⟨rfl, g7⟩
  have XD7 : Hid (Box W7 w.heap.size [.slice ab nb cb, .slice aq nq cq]) := (XD6.out.alloc _).grew g7
  have XX7 : Hid (Box W7 W2.heap.size [.slice x5a lP1 x5b, .slice x5c lQ1 x5d]) := (XX6.out.alloc _).grew g7
  have XY7 : Hid (Box W7 W6.heap.size [.slice y6a lP1 y6b, .slice y6c lQ1 y6d]) := (Box.top W6 [.slice y6a lP1 y6b, .slice y6c lQ1 y6d] _ rfl).grew g7
  have GW7 : Hid (Grew w W7) := (GW6.out.trans (grew_alloc _ _)).trans g7
  clear g7 e0 e1 el ex x0 x1
  have e0 := XD7.out.c 0 rfl
  have e1 := XD7.out.c 1 rfl
  have el := XD7.out.lt
  go_wp2_with fail
  go_at_call 27
  refine (c9 _ (by repeat first | exact Hid.out GW7 | refine Grew.trans ?_ (grew_alloc _ _) | refine grew_set ?_ (by first | (simp; done) | (simp; omega)) _)).mono ?_
  rintro e W8 ⟨d8, rfl, nd8, g8⟩
  obtain ⟨x8a, x8b, x8c, x8d, rfl, nd8⟩ := nd8.open
  rw [LP2.out, LQ2.out] at nd8 ⊢
  have GG8 : Hid (Grew W7 W8) := g8
  have XD8 : Hid (Box W8 w.heap.size [.slice ab nb cb, .slice aq nq cq]) := XD7.out.grew GG8.out
  have XX8 : Hid (Box W8 W2.heap.size [.slice x5a lP1 x5b, .slice x5c lQ1 x5d]) := XX7.out.grew GG8.out
  have GW8 : Hid (Grew w W8) := GW7.out.trans GG8.out
  have ND8 : Hid (NewDisk W7.heap.size W8 (.agg #[.slice x8a lP2 x8b, .slice x8c lQ2 x8d]) P2 Q2) := nd8.base (Nat.le_refl _)
  clear nd8 g8 e0 e1 el
  have e0 := XD8.out.c 0 rfl
  have e1 := XD8.out.c 1 rfl
  have el := XD8.out.lt
  have ex := XX8.out.lt
  have x0 := XX8.out.c 0 rfl
  have x1 := XX8.out.c 1 rfl
  have xf := XX8.out.f
  have hxd : w.heap.size ≠ W2.heap.size := by omega
  have XY8 : Hid (Box W8 W6.heap.size [.slice y6a lP1 y6b, .slice y6c lQ1 y6d]) := XY7.out.grew GG8.out
  go_wp2_with fail
  go_at_call 28
  refine (c10 _ (by repeat first | exact Hid.out GW8 | refine Grew.trans ?_ (grew_alloc _ _) | refine grew_set ?_ (by first | (simp; done) | (simp; omega)) _)).mono ?_
  rintro e W9 ⟨d9, rfl, nd9, g9⟩
  obtain ⟨y9a, y9b, y9c, y9d, rfl, nd9⟩ := nd9.open
  rw [LP2.out, LQ2.out] at nd9 ⊢
  have XD9 : Hid (Box W9 w.heap.size [.slice ab nb cb, .slice aq nq cq]) := ((XD8.out.other (a := ⟨W2.heap.size, 0, none⟩) hxd _).other (a := ⟨W2.heap.size, 1, none⟩) hxd _).grew g9
  have XX9 : Hid (Box W9 W2.heap.size [.slice x8a lP2 x8b, .slice x8c lQ2 x8d]) := ((XX8.out.set 0 (.slice x8a lP2 x8b)).set 1 (.slice x8c lQ2 x8d)).grew g9
  have GC9 : Hid (Grew w ((W8.setCell ⟨W2.heap.size, 0, none⟩ (.slice x8a lP2 x8b)).setCell ⟨W2.heap.size, 1, none⟩ (.slice x8c lQ2 x8d))) := show Grew _ _ by repeat first | exact Hid.out GW8 | refine Grew.trans ?_ (grew_alloc _ _) | refine grew_set ?_ (by first | (simp; done) | (simp; omega)) _
  have GW9 : Hid (Grew w W9) := GC9.out.trans g9
  have NX9 : Hid (NewDisk W7.heap.size W9 (.agg #[.slice x8a lP2 x8b, .slice x8c lQ2 x8d]) P2 Q2) := ((ND8.out.setCell (a := ⟨W2.heap.size, 0, none⟩) XX7.out.lt _).setCell (a := ⟨W2.heap.size, 1, none⟩) XX7.out.lt _).grew g9
  have NY9 : Hid (NewDisk W8.heap.size W9 (.agg #[.slice y9a lP2 y9b, .slice y9c lQ2 y9d]) P2 Q2) := nd9.base (by simp)
  clear e0 e1 el ex x0 x1 xf hxd
  have e0 := XD9.out.c 0 rfl
  have e1 := XD9.out.c 1 rfl
  have el := XD9.out.lt
  have ex := XX9.out.lt
  have x0 := XX9.out.c 0 rfl
  have x1 := XX9.out.c 1 rfl
  have hxy : W6.heap.size ≠ W2.heap.size := by have := XX6.out.lt; omega
  have hdy : w.heap.size ≠ W6.heap.size := by have := XD6.out.lt; omega
  have hxy' : W2.heap.size ≠ W6.heap.size := Ne.symm hxy
  have hdy' : W6.heap.size ≠ w.heap.size := Ne.symm hdy
  have XY9 : Hid (Box W9 W6.heap.size [.slice y6a lP1 y6b, .slice y6c lQ1 y6d]) := ((XY8.out.other (a := ⟨W2.heap.size, 0, none⟩) hxy _).other (a := ⟨W2.heap.size, 1, none⟩) hxy _).grew g9
  have hyl : w.heap.size < W6.heap.size := XD6.out.lt
  have ey := XY9.out.lt
  have y0 := XY9.out.c 0 rfl
  have y1 := XY9.out.c 1 rfl
  have yf := XY9.out.f
  clear nd9 g9
  go_wp2_with fail
  go_at_call 20
  refine (same_any (.agg #[.slice x8a lP2 x8b, .slice x8c lQ2 x8d]) (.agg #[.slice y9a lP2 y9b, .slice y9c lQ2 y9d]) P2 Q2 _ ((NX9.out.setCell (a := ⟨W6.heap.size, 0, none⟩) XY7.out.lt (.slice y9a lP2 y9b)).setCell (a := ⟨W6.heap.size, 1, none⟩) XY7.out.lt (.slice y9c lQ2 y9d)).at ((NY9.out.setCell (a := ⟨W6.heap.size, 0, none⟩) XY8.out.lt (.slice y9a lP2 y9b)).setCell (a := ⟨W6.heap.size, 1, none⟩) XY8.out.lt (.slice y9c lQ2 y9d)).at).mono ?_
  rintro e W10 ⟨rfl, g10⟩
  have XD10 : Hid (Box W10 w.heap.size [.slice ab nb cb, .slice aq nq cq]) := ((XD9.out.other (a := ⟨W6.heap.size, 0, none⟩) hdy _).other (a := ⟨W6.heap.size, 1, none⟩) hdy _).grew g10
  have XX10 : Hid (Box W10 W2.heap.size [.slice x8a lP2 x8b, .slice x8c lQ2 x8d]) := ((XX9.out.other (a := ⟨W6.heap.size, 0, none⟩) hxy.symm _).other (a := ⟨W6.heap.size, 1, none⟩) hxy.symm _).grew g10
  have XY10 : Hid (Box W10 W6.heap.size [.slice y9a lP2 y9b, .slice y9c lQ2 y9d]) := ((XY9.out.set 0 (.slice y9a lP2 y9b)).set 1 (.slice y9c lQ2 y9d)).grew g10
  have GW10 : Hid (Grew w W10) := (show Grew w ((W9.setCell ⟨W6.heap.size, 0, none⟩ (.slice y9a lP2 y9b)).setCell ⟨W6.heap.size, 1, none⟩ (.slice y9c lQ2 y9d)) by repeat first | exact Hid.out GW9 | refine Grew.trans ?_ (grew_alloc _ _) | refine grew_set ?_ (by first | (simp; done) | (simp; omega)) _).trans g10
  clear g10 e0 e1 el ex x0 x1 ey y0 y1 yf hyl hxy hdy hxy' hdy'
  have e0 := XD10.out.c 0 rfl
  have e1 := XD10.out.c 1 rfl
  have el := XD10.out.lt
  go_wp2_with fail
  go_at_call 29
  refine (c11 _ (by repeat first | exact Hid.out GW10 | refine Grew.trans ?_ (grew_alloc _ _) | refine grew_set ?_ (by first | (simp; done) | (simp; omega)) _)).mono ?_
  rintro e W11 ⟨d11, rfl, nd11, g11⟩
  obtain ⟨x11a, x11b, x11c, x11d, rfl, nd11⟩ := nd11.open
  rw [LP3.out, List.length_nil] at nd11 ⊢
  have GG11 : Hid (Grew W10 W11) := g11
  have XD11 : Hid (Box W11 w.heap.size [.slice ab nb cb, .slice aq nq cq]) := XD10.out.grew GG11.out
  have XX11 : Hid (Box W11 W2.heap.size [.slice x8a lP2 x8b, .slice x8c lQ2 x8d]) := XX10.out.grew GG11.out
  have GW11 : Hid (Grew w W11) := GW10.out.trans GG11.out
  have ND11 : Hid (NewDisk W10.heap.size W11 (.agg #[.slice x11a lP3 x11b, .slice x11c 0 x11d]) P3 []) := nd11.base (Nat.le_refl _)
  clear nd11 g11 e0 e1 el
  have e0 := XD11.out.c 0 rfl
  have e1 := XD11.out.c 1 rfl
  have el := XD11.out.lt
  have ex := XX11.out.lt
  have x0 := XX11.out.c 0 rfl
  have x1 := XX11.out.c 1 rfl
  have xf := XX11.out.f
  have hxd : w.heap.size ≠ W2.heap.size := by omega
  have XY11 : Hid (Box W11 W6.heap.size [.slice y9a lP2 y9b, .slice y9c lQ2 y9d]) := XY10.out.grew GG11.out
  go_wp2_with fail
  go_at_call 30
  refine (c12 _ (by repeat first | exact Hid.out GW11 | refine Grew.trans ?_ (grew_alloc _ _) | refine grew_set ?_ (by first | (simp; done) | (simp; omega)) _)).mono ?_
  rintro e W12 ⟨d12, rfl, nd12, g12⟩
  obtain ⟨y12a, y12b, y12c, y12d, rfl, nd12⟩ := nd12.open
  rw [LP3.out, List.length_nil] at nd12 ⊢
  have XD12 : Hid (Box W12 w.heap.size [.slice ab nb cb, .slice aq nq cq]) := ((XD11.out.other (a := ⟨W2.heap.size, 0, none⟩) hxd _).other (a := ⟨W2.heap.size, 1, none⟩) hxd _).grew g12
  have XX12 : Hid (Box W12 W2.heap.size [.slice x11a lP3 x11b, .slice x11c 0 x11d]) := ((XX11.out.set 0 (.slice x11a lP3 x11b)).set 1 (.slice x11c 0 x11d)).grew g12
  have GC12 : Hid (Grew w ((W11.setCell ⟨W2.heap.size, 0, none⟩ (.slice x11a lP3 x11b)).setCell ⟨W2.heap.size, 1, none⟩ (.slice x11c 0 x11d))) := show Grew _ _ by repeat first | exact Hid.out GW11 | refine Grew.trans ?_ (grew_alloc _ _) | refine grew_set ?_ (by first | (simp; done) | (simp; omega)) _
  have GW12 : Hid (Grew w W12) := GC12.out.trans g12
  have NX12 : Hid (NewDisk W10.heap.size W12 (.agg #[.slice x11a lP3 x11b, .slice x11c 0 x11d]) P3 []) := ((ND11.out.setCell (a := ⟨W2.heap.size, 0, none⟩) XX10.out.lt _).setCell (a := ⟨W2.heap.size, 1, none⟩) XX10.out.lt _).grew g12
  have NY12 : Hid (NewDisk W11.heap.size W12 (.agg #[.slice y12a lP3 y12b, .slice y12c 0 y12d]) P3 []) := nd12.base (by simp)
  clear e0 e1 el ex x0 x1 xf hxd
  have e0 := XD12.out.c 0 rfl
  have e1 := XD12.out.c 1 rfl
  have el := XD12.out.lt
  have ex := XX12.out.lt
  have x0 := XX12.out.c 0 rfl
  have x1 := XX12.out.c 1 rfl
  have hxy : W6.heap.size ≠ W2.heap.size := by have := XX6.out.lt; omega
  have hdy : w.heap.size ≠ W6.heap.size := by have := XD6.out.lt; omega
  have hxy' : W2.heap.size ≠ W6.heap.size := Ne.symm hxy
  have hdy' : W6.heap.size ≠ w.heap.size := Ne.symm hdy
  have XY12 : Hid (Box W12 W6.heap.size [.slice y9a lP2 y9b, .slice y9c lQ2 y9d]) := ((XY11.out.other (a := ⟨W2.heap.size, 0, none⟩) hxy _).other (a := ⟨W2.heap.size, 1, none⟩) hxy _).grew g12
  have hyl : w.heap.size < W6.heap.size := XD6.out.lt
  have ey := XY12.out.lt
  have y0 := XY12.out.c 0 rfl
  have y1 := XY12.out.c 1 rfl
  have yf := XY12.out.f
  clear nd12 g12
  go_wp2_with fail
  go_at_call 20
  refine (same_any (.agg #[.slice x11a lP3 x11b, .slice x11c 0 x11d]) (.agg #[.slice y12a lP3 y12b, .slice y12c 0 y12d]) P3 [] _ ((NX12.out.setCell (a := ⟨W6.heap.size, 0, none⟩) XY10.out.lt (.slice y12a lP3 y12b)).setCell (a := ⟨W6.heap.size, 1, none⟩) XY10.out.lt (.slice y12c 0 y12d)).at ((NY12.out.setCell (a := ⟨W6.heap.size, 0, none⟩) XY11.out.lt (.slice y12a lP3 y12b)).setCell (a := ⟨W6.heap.size, 1, none⟩) XY11.out.lt (.slice y12c 0 y12d)).at).mono ?_
  rintro e W13 ⟨rfl, g13⟩
  have XD13 : Hid (Box W13 w.heap.size [.slice ab nb cb, .slice aq nq cq]) := ((XD12.out.other (a := ⟨W6.heap.size, 0, none⟩) hdy _).other (a := ⟨W6.heap.size, 1, none⟩) hdy _).grew g13
  have XX13 : Hid (Box W13 W2.heap.size [.slice x11a lP3 x11b, .slice x11c 0 x11d]) := ((XX12.out.other (a := ⟨W6.heap.size, 0, none⟩) hxy.symm _).other (a := ⟨W6.heap.size, 1, none⟩) hxy.symm _).grew g13
  have XY13 : Hid (Box W13 W6.heap.size [.slice y12a lP3 y12b, .slice y12c 0 y12d]) := ((XY12.out.set 0 (.slice y12a lP3 y12b)).set 1 (.slice y12c 0 y12d)).grew g13
  have GW13 : Hid (Grew w W13) := (show Grew w ((W12.setCell ⟨W6.heap.size, 0, none⟩ (.slice y12a lP3 y12b)).setCell ⟨W6.heap.size, 1, none⟩ (.slice y12c 0 y12d)) by repeat first | exact Hid.out GW12 | refine Grew.trans ?_ (grew_alloc _ _) | refine grew_set ?_ (by first | (simp; done) | (simp; omega)) _).trans g13
  clear g13 e0 e1 el ex x0 x1 ey y0 y1 yf hyl hxy hdy hxy' hdy'
  have e0 := XD13.out.c 0 rfl
  have e1 := XD13.out.c 1 rfl
  have el := XD13.out.lt
  go_wp2_with fail
  go_at_call 31
  refine (c13 _ (by repeat first | exact Hid.out GW13 | refine Grew.trans ?_ (grew_alloc _ _) | refine grew_set ?_ (by first | (simp; done) | (simp; omega)) _)).mono ?_
  rintro e W14 ⟨d14, rfl, nd14, g14⟩
  obtain ⟨x14a, x14b, x14c, x14d, rfl, nd14⟩ := nd14.open
  rw [LP4.out, List.length_nil] at nd14 ⊢
  have GG14 : Hid (Grew W13 W14) := g14
  have XD14 : Hid (Box W14 w.heap.size [.slice ab nb cb, .slice aq nq cq]) := XD13.out.grew GG14.out
  have XX14 : Hid (Box W14 W2.heap.size [.slice x11a lP3 x11b, .slice x11c 0 x11d]) := XX13.out.grew GG14.out
  have GW14 : Hid (Grew w W14) := GW13.out.trans GG14.out
  have ND14 : Hid (NewDisk W13.heap.size W14 (.agg #[.slice x14a lP4 x14b, .slice x14c 0 x14d]) P4 []) := nd14.base (Nat.le_refl _)
  clear nd14 g14 e0 e1 el
  have e0 := XD14.out.c 0 rfl
  have e1 := XD14.out.c 1 rfl
  have el := XD14.out.lt
  have ex := XX14.out.lt
  have x0 := XX14.out.c 0 rfl
  have x1 := XX14.out.c 1 rfl
  have xf := XX14.out.f
  have hxd : w.heap.size ≠ W2.heap.size := by omega
  have XY14 : Hid (Box W14 W6.heap.size [.slice y12a lP3 y12b, .slice y12c 0 y12d]) := XY13.out.grew GG14.out
  go_wp2_with fail
  go_at_call 30
  refine (c14 _ (by repeat first | exact Hid.out GW14 | refine Grew.trans ?_ (grew_alloc _ _) | refine grew_set ?_ (by first | (simp; done) | (simp; omega)) _)).mono ?_
  rintro e W15 ⟨d15, rfl, nd15, g15⟩
  obtain ⟨y15a, y15b, y15c, y15d, rfl, nd15⟩ := nd15.open
  rw [LP4.out, List.length_nil] at nd15 ⊢
  have XD15 : Hid (Box W15 w.heap.size [.slice ab nb cb, .slice aq nq cq]) := ((XD14.out.other (a := ⟨W2.heap.size, 0, none⟩) hxd _).other (a := ⟨W2.heap.size, 1, none⟩) hxd _).grew g15
  have XX15 : Hid (Box W15 W2.heap.size [.slice x14a lP4 x14b, .slice x14c 0 x14d]) := ((XX14.out.set 0 (.slice x14a lP4 x14b)).set 1 (.slice x14c 0 x14d)).grew g15
  have GC15 : Hid (Grew w ((W14.setCell ⟨W2.heap.size, 0, none⟩ (.slice x14a lP4 x14b)).setCell ⟨W2.heap.size, 1, none⟩ (.slice x14c 0 x14d))) := show Grew _ _ by repeat first | exact Hid.out GW14 | refine Grew.trans ?_ (grew_alloc _ _) | refine grew_set ?_ (by first | (simp; done) | (simp; omega)) _
  have GW15 : Hid (Grew w W15) := GC15.out.trans g15
  have NX15 : Hid (NewDisk W13.heap.size W15 (.agg #[.slice x14a lP4 x14b, .slice x14c 0 x14d]) P4 []) := ((ND14.out.setCell (a := ⟨W2.heap.size, 0, none⟩) XX13.out.lt _).setCell (a := ⟨W2.heap.size, 1, none⟩) XX13.out.lt _).grew g15
  have NY15 : Hid (NewDisk W14.heap.size W15 (.agg #[.slice y15a lP4 y15b, .slice y15c 0 y15d]) P4 []) := nd15.base (by simp)
  clear e0 e1 el ex x0 x1 xf hxd
  have e0 := XD15.out.c 0 rfl
  have e1 := XD15.out.c 1 rfl
  have el := XD15.out.lt
  have ex := XX15.out.lt
  have x0 := XX15.out.c 0 rfl
  have x1 := XX15.out.c 1 rfl
  have hxy : W6.heap.size ≠ W2.heap.size := by have := XX6.out.lt; omega
  have hdy : w.heap.size ≠ W6.heap.size := by have := XD6.out.lt; omega
  have hxy' : W2.heap.size ≠ W6.heap.size := Ne.symm hxy
  have hdy' : W6.heap.size ≠ w.heap.size := Ne.symm hdy
  have XY15 : Hid (Box W15 W6.heap.size [.slice y12a lP3 y12b, .slice y12c 0 y12d]) := ((XY14.out.other (a := ⟨W2.heap.size, 0, none⟩) hxy _).other (a := ⟨W2.heap.size, 1, none⟩) hxy _).grew g15
  have hyl : w.heap.size < W6.heap.size := XD6.out.lt
  have ey := XY15.out.lt
  have y0 := XY15.out.c 0 rfl
  have y1 := XY15.out.c 1 rfl
  have yf := XY15.out.f
  clear nd15 g15
  go_wp2_with fail
  go_at_call 20
  refine (same_any (.agg #[.slice x14a lP4 x14b, .slice x14c 0 x14d]) (.agg #[.slice y15a lP4 y15b, .slice y15c 0 y15d]) P4 [] _ ((NX15.out.setCell (a := ⟨W6.heap.size, 0, none⟩) XY13.out.lt (.slice y15a lP4 y15b)).setCell (a := ⟨W6.heap.size, 1, none⟩) XY13.out.lt (.slice y15c 0 y15d)).at ((NY15.out.setCell (a := ⟨W6.heap.size, 0, none⟩) XY14.out.lt (.slice y15a lP4 y15b)).setCell (a := ⟨W6.heap.size, 1, none⟩) XY14.out.lt (.slice y15c 0 y15d)).at).mono ?_
  rintro e W16 ⟨rfl, g16⟩
  have XD16 : Hid (Box W16 w.heap.size [.slice ab nb cb, .slice aq nq cq]) := ((XD15.out.other (a := ⟨W6.heap.size, 0, none⟩) hdy _).other (a := ⟨W6.heap.size, 1, none⟩) hdy _).grew g16
  have XX16 : Hid (Box W16 W2.heap.size [.slice x14a lP4 x14b, .slice x14c 0 x14d]) := ((XX15.out.other (a := ⟨W6.heap.size, 0, none⟩) hxy.symm _).other (a := ⟨W6.heap.size, 1, none⟩) hxy.symm _).grew g16
  have XY16 : Hid (Box W16 W6.heap.size [.slice y15a lP4 y15b, .slice y15c 0 y15d]) := ((XY15.out.set 0 (.slice y15a lP4 y15b)).set 1 (.slice y15c 0 y15d)).grew g16
  have GW16 : Hid (Grew w W16) := (show Grew w ((W15.setCell ⟨W6.heap.size, 0, none⟩ (.slice y15a lP4 y15b)).setCell ⟨W6.heap.size, 1, none⟩ (.slice y15c 0 y15d)) by repeat first | exact Hid.out GW15 | refine Grew.trans ?_ (grew_alloc _ _) | refine grew_set ?_ (by first | (simp; done) | (simp; omega)) _).trans g16
  clear g16 e0 e1 el ex x0 x1 ey y0 y1 yf hyl hxy hdy hxy' hdy'
  have e0 := XD16.out.c 0 rfl
  have e1 := XD16.out.c 1 rfl
  have el := XD16.out.lt
  go_wp2_with fail
  go_ret
  exact ⟨rfl, GW16.out⟩

end Go.Proofs.Ytbcaagmnmaonbaa
