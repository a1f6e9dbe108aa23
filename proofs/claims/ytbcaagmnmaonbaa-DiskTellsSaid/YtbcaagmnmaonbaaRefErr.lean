/- Contracts of TrimDisk and WriteDisk (the document's answer), of what is refused. -/
import Derived.Test.YtbcaagmnmaonbaaApp
import Derived.Test.YtbcaagmnmaonbaaRefWrong
namespace Go.Proofs.Ytbcaagmnmaonbaa
open Go.RowKit

set_option maxRecDepth 100000 in
set_option maxHeartbeats 1000000 in
theorem refTrim_err (d : Value) (ps : List (List Int)) (qs : List (Int × List Int)) (m : Int) (w : World) (hd : DiskAt w d ps qs) (hr0 : ¬ wrongAtL ps.length qs m = 0) :
    Calls Try.prog 28 #[d, .int .i64 m] w fun e w' => ∃ d', e = .returned (.tuple #[d', .int .i64 (wrongAtL ps.length qs m)]) ∧ NewDisk w.heap.size w' d' [] [] ∧ Grew w w' := by
  obtain ⟨b, q, rfl, hb, hq⟩ := hd
  have HQ : Hid (PutsAt w q qs) := hq
  obtain ⟨ab, cb, rfl, _⟩ := hb.rows
  obtain ⟨aq, cq, rfl, _⟩ := hq.rows
  clear hb hq
  have HWA : Hid (wrongAtL ps.length qs m = if wrongL ps.length qs = 0 then (if inB m ps.length then 0 else 3) else wrongL ps.length qs) := rfl
  obtain ⟨W0, hW0⟩ : ∃ W0, (w.alloc (.cells #[.slice ab ps.length cb, .slice aq qs.length cq] 36)).alloc (.cells #[.slice none 0 0, .slice none 0 0] 36) = W0 := ⟨_, rfl⟩
  have HG0 : Hid (Grew w W0) := show Grew w W0 by rw [← hW0]; exact (grew_alloc _ _).trans (grew_alloc _ _)
  have X0 : Hid (Box W0 w.heap.size [.slice ab ps.length cb, .slice aq qs.length cq]) := show Box _ _ _ by rw [← hW0]; exact (Box.top w [.slice ab ps.length cb, .slice aq qs.length cq] _ rfl).alloc _
  have X1 : Hid (Box W0 (w.heap.size + 1) [.slice none 0 0, .slice none 0 0]) := show Box _ _ _ by rw [← hW0]; exact Box.top _ [.slice none 0 0, .slice none 0 0] _ (by simp)
  have hcon := refWrong_any ab ps.length cb (.slice aq qs.length cq) qs W0 (HQ.out.grew HG0.out)
  obtain ⟨r, HR⟩ : ∃ r, Hid (wrongL ps.length qs = r) := ⟨_, rfl⟩
  rw [HR.out] at hcon HWA
  obtain ⟨nb, HNB⟩ : ∃ nb, Hid (ps.length = nb) := ⟨_, rfl⟩
  obtain ⟨kq, HNQ⟩ : ∃ kq, Hid (qs.length = kq) := ⟨_, rfl⟩
  rw [HNB.out] at HWA hr0
  rw [HNB.out, HNQ.out] at hcon hW0 X0 ⊢
  have HW0 : Hid (_ = W0) := hW0
  clear hW0
  have hcases : (Hid (wrongAtL nb qs m = r) ∧ (r != 0) = true) ∨ (Hid (wrongAtL nb qs m = 3) ∧ (r != 0) = false ∧ Hid (r = 0) ∧ m < 0) ∨ (Hid (wrongAtL nb qs m = 3) ∧ (r != 0) = false ∧ Hid (r = 0) ∧ ¬ m < 0 ∧ (nb : Int) ≤ m) := by
    by_cases h1 : r = 0
    · subst h1
      rw [if_pos rfl] at HWA
      have hnb : ¬ inB m nb = true := fun e => by rw [HWA.out, if_pos e] at hr0; exact hr0 rfl
      rw [if_neg hnb] at HWA
      unfold inB at hnb
      simp at hnb
      by_cases h2 : m < 0
      · exact .inr (.inl ⟨HWA, rfl, rfl, h2⟩)
      · exact .inr (.inr ⟨HWA, rfl, rfl, h2, hnb (by omega)⟩)
    · rw [if_neg h1] at HWA
      exact .inl ⟨HWA, by simpa using h1⟩
  clear HWA hr0
  rcases hcases with ⟨HE, h1⟩ | ⟨HE, h1, h0, h2⟩ | ⟨HE, h1, h0, h2, h3⟩
  · rw [HE.out]
    go_enter Try.func28, Try.ntmps28
    go_wp2_with (go_at_call 19; rw [HW0.out]; refine hcon.mono ?_; clear hcon; rintro e W1 ⟨rfl, g1⟩
                 have e0 := (X0.out.grew g1).c 0 rfl
                 have Y := X1.out.grew g1
                 have c0 := Y.c 0 rfl
                 have c1 := Y.c 1 rfl
                 have f0 := Y.f
                 clear Y)
    refine bodyPost_ret (v := .tuple #[.agg #[.slice none 0 0, .slice none 0 0], .int .i64 r]) (by simp [results, Try.results28, go_sem, *]) rfl ⟨_, rfl, nilDisk _ _, ?_⟩
    have HG1 : Grew w W1 := HG0.out.trans g1
    iterate 2 (refine grew_set ?_ (by simp) _)
    exact HG1
  all_goals
    rw [HE.out]
    have hr := h0.out
    subst hr
    go_enter Try.func28, Try.ntmps28
    go_wp2_with (go_at_call 19; rw [HW0.out]; refine hcon.mono ?_; clear hcon; rintro e W1 ⟨rfl, g1⟩
                 have e0 := (X0.out.grew g1).c 0 rfl
                 have Y := X1.out.grew g1
                 have c0 := Y.c 0 rfl
                 have c1 := Y.c 1 rfl
                 have f0 := Y.f
                 clear Y)
    refine bodyPost_ret (v := .tuple #[.agg #[.slice none 0 0, .slice none 0 0], .int .i64 3]) (by simp [results, Try.results28, go_sem, *]) rfl ⟨_, rfl, nilDisk _ _, ?_⟩
    have HG1 : Grew w W1 := HG0.out.trans g1
    iterate 2 (refine grew_set ?_ (by simp) _)
    exact HG1

set_option maxRecDepth 100000 in
set_option maxHeartbeats 1000000 in
theorem refWrite_err (d : Value) (ps : List (List Int)) (qs : List (Int × List Int)) (m : Int) (p0 p1 p2 p3 p4 p5 p6 p7 : Int) (w : World) (hd : DiskAt w d ps qs) (hr0 : ¬ wrongAtL ps.length qs m = 0) :
    Calls Try.prog 26 #[d, .int .i64 m, .agg #[.int .u8 p0, .int .u8 p1, .int .u8 p2, .int .u8 p3, .int .u8 p4, .int .u8 p5, .int .u8 p6, .int .u8 p7]] w fun e w' => ∃ d', e = .returned (.tuple #[d', .int .i64 (wrongAtL ps.length qs m)]) ∧ NewDisk w.heap.size w' d' [] [] ∧ Grew w w' := by
  obtain ⟨b, q, rfl, hb, hq⟩ := hd
  have HQ : Hid (PutsAt w q qs) := hq
  obtain ⟨ab, cb, rfl, _⟩ := hb.rows
  obtain ⟨aq, cq, rfl, _⟩ := hq.rows
  clear hb hq
  have HWA : Hid (wrongAtL ps.length qs m = if wrongL ps.length qs = 0 then (if inB m ps.length then 0 else 3) else wrongL ps.length qs) := rfl
  obtain ⟨W0, hW0⟩ : ∃ W0, ((w.alloc (.cells #[.slice ab ps.length cb, .slice aq qs.length cq] 36)).alloc (.cells #[.int .u8 p0, .int .u8 p1, .int .u8 p2, .int .u8 p3, .int .u8 p4, .int .u8 p5, .int .u8 p6, .int .u8 p7] 23)).alloc (.cells #[.slice none 0 0, .slice none 0 0] 36) = W0 := ⟨_, rfl⟩
  have HG0 : Hid (Grew w W0) := show Grew w W0 by rw [← hW0]; exact ((grew_alloc _ _).trans (grew_alloc _ _)).trans (grew_alloc _ _)
  have X0 : Hid (Box W0 w.heap.size [.slice ab ps.length cb, .slice aq qs.length cq]) := show Box _ _ _ by rw [← hW0]; exact ((Box.top w [.slice ab ps.length cb, .slice aq qs.length cq] _ rfl).alloc _).alloc _
  have X1 : Hid (Box W0 (w.heap.size + 1 + 1) [.slice none 0 0, .slice none 0 0]) := show Box _ _ _ by rw [← hW0]; exact Box.top _ [.slice none 0 0, .slice none 0 0] _ (by simp)
  have hcon := refWrong_any ab ps.length cb (.slice aq qs.length cq) qs W0 (HQ.out.grew HG0.out)
  obtain ⟨r, HR⟩ : ∃ r, Hid (wrongL ps.length qs = r) := ⟨_, rfl⟩
  rw [HR.out] at hcon HWA
  obtain ⟨nb, HNB⟩ : ∃ nb, Hid (ps.length = nb) := ⟨_, rfl⟩
  obtain ⟨kq, HNQ⟩ : ∃ kq, Hid (qs.length = kq) := ⟨_, rfl⟩
  rw [HNB.out] at HWA hr0
  rw [HNB.out, HNQ.out] at hcon hW0 X0 ⊢
  have HW0 : Hid (_ = W0) := hW0
  clear hW0
  have hcases : (Hid (wrongAtL nb qs m = r) ∧ (r != 0) = true) ∨ (Hid (wrongAtL nb qs m = 3) ∧ (r != 0) = false ∧ Hid (r = 0) ∧ m < 0) ∨ (Hid (wrongAtL nb qs m = 3) ∧ (r != 0) = false ∧ Hid (r = 0) ∧ ¬ m < 0 ∧ (nb : Int) ≤ m) := by
    by_cases h1 : r = 0
    · subst h1
      rw [if_pos rfl] at HWA
      have hnb : ¬ inB m nb = true := fun e => by rw [HWA.out, if_pos e] at hr0; exact hr0 rfl
      rw [if_neg hnb] at HWA
      unfold inB at hnb
      simp at hnb
      by_cases h2 : m < 0
      · exact .inr (.inl ⟨HWA, rfl, rfl, h2⟩)
      · exact .inr (.inr ⟨HWA, rfl, rfl, h2, hnb (by omega)⟩)
    · rw [if_neg h1] at HWA
      exact .inl ⟨HWA, by simpa using h1⟩
  clear HWA hr0
  rcases hcases with ⟨HE, h1⟩ | ⟨HE, h1, h0, h2⟩ | ⟨HE, h1, h0, h2, h3⟩
  · rw [HE.out]
    go_enter Try.func26, Try.ntmps26
    go_wp2_with (go_at_call 19; rw [HW0.out]; refine hcon.mono ?_; clear hcon; rintro e W1 ⟨rfl, g1⟩
                 have e0 := (X0.out.grew g1).c 0 rfl
                 have Y := X1.out.grew g1
                 have c0 := Y.c 0 rfl
                 have c1 := Y.c 1 rfl
                 have f0 := Y.f
                 clear Y)
    refine bodyPost_ret (v := .tuple #[.agg #[.slice none 0 0, .slice none 0 0], .int .i64 r]) (by simp [results, Try.results26, go_sem, *]) rfl ⟨_, rfl, nilDisk _ _, ?_⟩
    have HG1 : Grew w W1 := HG0.out.trans g1
    iterate 2 (refine grew_set ?_ (by simp; omega) _)
    exact HG1
  all_goals
    rw [HE.out]
    have hr := h0.out
    subst hr
    go_enter Try.func26, Try.ntmps26
    go_wp2_with (go_at_call 19; rw [HW0.out]; refine hcon.mono ?_; clear hcon; rintro e W1 ⟨rfl, g1⟩
                 have e0 := (X0.out.grew g1).c 0 rfl
                 have Y := X1.out.grew g1
                 have c0 := Y.c 0 rfl
                 have c1 := Y.c 1 rfl
                 have f0 := Y.f
                 clear Y)
    refine bodyPost_ret (v := .tuple #[.agg #[.slice none 0 0, .slice none 0 0], .int .i64 3]) (by simp [results, Try.results26, go_sem, *]) rfl ⟨_, rfl, nilDisk _ _, ?_⟩
    have HG1 : Grew w W1 := HG0.out.trans g1
    iterate 2 (refine grew_set ?_ (by simp; omega) _)
    exact HG1

end Go.Proofs.Ytbcaagmnmaonbaa
