/- The closed fact that the laws of chapter 3 ask first. -/
import Derived.Test.YtbcaagmnmaonbabMemNew
import Derived.Test.YtbcaagmnmaonbabMemTake
import Derived.Test.YtbcaagmnmaonbabMemNext
import Derived.Test.YtbcaagmnmaonbabMemFree
namespace Go.Proofs.Ytbcaagmnmaonbab
open Go.RowKit

def pg9 : Pg := ⟨9, 0, 0, 0, 0, 0, 0, 0⟩
def fr9 : Fr := ⟨pg9, 1, true, false, -1, 0⟩

theorem al_take (a : Option Addr) (c : Nat) (W : World) (hv : RowAt W (.slice a 2 c) [frF, frF]) : Calls Try.prog 17 #[.agg #[.slice a 2 c, .int .i64 0], .agg #[.int .u8 9, .int .u8 0, .int .u8 0, .int .u8 0, .int .u8 0, .int .u8 0, .int .u8 0, .int .u8 0], .int .i64 (-1), .int .i64 0] W fun e w' => ∃ a' c', e = .returned (.tuple #[.agg #[.slice a' 2 c', .int .i64 0], .int .i64 0, .int .i64 0]) ∧ NewRow W.heap.size w' (.slice a' 2 c') [fr9, frF] ∧ Grew W w' := by
  have h := take_any a c [frF, frF] 0 pg9 (-1) 0 W hv
  rw [show takeF [frF, frF] 0 (frT pg9 (-1) 0) = [fr9, frF] from by kernel_rfl, show takeH [frF, frF] 0 (frT pg9 (-1) 0) = 0 from by decide +kernel, show takeI [frF, frF] 0 (frT pg9 (-1) 0) = 0 from by decide +kernel, show takeE [frF, frF] 0 (frT pg9 (-1) 0) = 0 from by decide +kernel] at h
  refine Calls.mono h ?_
  rintro e w' ⟨b, rfl, hb, hg⟩
  obtain ⟨a', c', rfl, _⟩ := hb.1.rows
  exact ⟨a', c', rfl, hb, hg⟩

theorem al_hold (a : Option Addr) (c : Nat) (W : World) (hv : RowAt W (.slice a 2 c) [fr9, frF]) : Calls Try.prog 19 #[.agg #[.slice a 2 c, .int .i64 0], .int .i64 0, .int .i64 (-1)] W fun e w' => ∃ a' c', e = .returned (.tuple #[.agg #[.slice a' 2 c', .int .i64 0], .int .i64 0]) ∧ NewRow W.heap.size w' (.slice a' 2 c') [frF, frF] ∧ Grew W w' := by
  have h := hold_any a c [fr9, frF] 0 0 (-1) W hv
  rw [show holdF [fr9, frF] 0 0 (-1) = [frF, frF] from by kernel_rfl, show holdH [fr9, frF] 0 0 (-1) = 0 from by decide +kernel, show holdE [fr9, frF] 0 0 (-1) = 0 from by decide +kernel] at h
  refine Calls.mono h ?_
  rintro e w' ⟨b, rfl, hb, hg⟩
  obtain ⟨a', c', rfl, _⟩ := hb.1.rows
  exact ⟨a', c', rfl, hb, hg⟩

theorem al_next (a : Option Addr) (c : Nat) (W : World) (hv : RowAt W (.slice a 2 c) [fr9, frF]) : Calls Try.prog 21 #[.agg #[.slice a 2 c, .int .i64 0]] W fun e w' => ∃ a' c', e = .returned (.tuple #[.agg #[.slice a' 2 c', .int .i64 1], .int .i64 0, .int .i64 0]) ∧ Grew W w' := by
  have h := next_any a c [fr9, frF] 0 W hv
  rw [show nextF [fr9, frF] 0 = [{ fr9 with u := false }, frF] from by kernel_rfl, show nextH [fr9, frF] 0 = 1 from by decide +kernel, show nextI [fr9, frF] 0 = 0 from by decide +kernel, show memW [fr9, frF] 0 = 0 from by decide +kernel] at h
  refine Calls.mono h ?_
  rintro e w' ⟨b, rfl, hb, hg⟩
  obtain ⟨a', c', rfl, _⟩ := hb.1.rows
  exact ⟨a', c', rfl, hg⟩

theorem al_new (w : World) : Calls Try.prog 15 #[.int .i64 2] w fun e w' => ∃ a' c', e = .returned (.tuple #[.agg #[.slice a' 2 c', .int .i64 0], .int .i64 0]) ∧ NewRow w.heap.size w' (.slice a' 2 c') [frF, frF] ∧ Grew w w' := by
  have h := newMem_nat 2 (by omega) w
  refine Calls.mono h ?_
  rintro e w' ⟨b, rfl, hb, hg⟩
  obtain ⟨a', c', rfl, _⟩ := hb.1.rows
  exact ⟨a', c', rfl, hb, hg⟩

set_option maxRecDepth 100000 in
set_option maxHeartbeats 2000000 in
theorem alive_any (w : World) : Calls Try.prog 23 #[] w fun e w' => e = .returned (.bool true) ∧ Grew w w' := by
  have f1 : ∀ a c W, RowAt W (.slice a 2 c) [fr9, frF] → Calls Try.prog 16 #[.agg #[.slice a 2 c, .int .i64 0]] W fun e w' => e = .returned (.int .i64 1) ∧ Grew W w' := fun a c W h => free_any a c [fr9, frF] 0 W h
  have f2 : ∀ a c W, RowAt W (.slice a 2 c) [frF, frF] → Calls Try.prog 16 #[.agg #[.slice a 2 c, .int .i64 0]] W fun e w' => e = .returned (.int .i64 2) ∧ Grew W w' := fun a c W h => free_any a c [frF, frF] 0 W h
  go_enter Try.func23, Try.ntmps23
  go_wp2_with fail
  refine (al_new w).mono ?_
  rintro e W1 ⟨a1, k1, rfl, hb, g1⟩
  have NB1 : Hid (RowAt W1 (.slice a1 2 k1) [frF, frF]) := hb.1
  have G1 : Hid (Grew w W1) := g1
  clear hb g1
  go_wp2_with fail
  refine (al_take _ _ _ (NB1.out.grew (grew_alloc _ _))).mono ?_
  rintro e W2 ⟨a2, k2, rfl, hb, g2⟩
  have NB2 : Hid (NewRow (W1.heap.size + 1) W2 (.slice a2 2 k2) [fr9, frF]) := hb.base (by simp)
  have X2 : Hid (Box W2 W1.heap.size [.slice a1 2 k1, .int .i64 0]) := (Box.top W1 [.slice a1 2 k1, .int .i64 0] _ rfl).grew g2
  have G2 : Hid (Grew w W2) := (G1.out.trans (grew_alloc _ _)).trans g2
  have HS1 : Hid (w.heap.size ≤ W1.heap.size) := Below.size G1.out
  clear hb g2
  obtain ⟨W3, hW3⟩ : ∃ W3, (W2.setCell ⟨W1.heap.size, 0, none⟩ (.slice a2 2 k2)).setCell ⟨W1.heap.size, 1, none⟩ (.int .i64 0) = W3 := ⟨_, rfl⟩
  have NB3 : Hid (NewRow (W1.heap.size + 1) W3 (.slice a2 2 k2) [fr9, frF]) := show NewRow _ _ _ _ by rw [← hW3]; exact (NB2.out.setCell (a := ⟨W1.heap.size, 0, none⟩) (Nat.lt_succ_self _) _).setCell (a := ⟨W1.heap.size, 1, none⟩) (Nat.lt_succ_self _) _
  have X3 : Hid (Box W3 W1.heap.size [.slice a2 2 k2, .int .i64 0]) := show Box _ _ _ by rw [← hW3]; exact (X2.out.set 0 _).set 1 _
  have G3 : Hid (Grew w W3) := show Grew _ _ by rw [← hW3]; exact grew_set (grew_set G2.out HS1.out _) HS1.out _
  have HW3 : Hid (_ = W3) := hW3
  clear hW3
  have e0 := X2.out.c 0 rfl
  have e1 := X2.out.c 1 rfl
  have ef := X2.out.f
  have el := X2.out.lt
  go_upto_region 3 with fail
  rw [HW3.out]
  clear e0 e1 ef el
  have e0 := X3.out.c 0 rfl
  have e1 := X3.out.c 1 rfl
  go_wp2_with fail
  refine (al_hold _ _ _ NB3.out.1).mono ?_
  rintro e W4 ⟨a4, k4, rfl, hb, g4⟩
  have NB4 : Hid (RowAt W4 (.slice a4 2 k4) [frF, frF]) := hb.1
  have X4 : Hid (Box W4 W1.heap.size [.slice a2 2 k2, .int .i64 0]) := X3.out.grew g4
  have R4 : Hid (RowAt W4 (.slice a2 2 k2) [fr9, frF]) := NB3.out.1.grew g4
  have G4 : Hid (Grew w W4) := G3.out.trans g4
  clear hb g4 e0 e1
  have e0 := X4.out.c 0 rfl
  have e1 := X4.out.c 1 rfl
  have el := X4.out.lt
  go_wp2_with fail
  refine (al_next _ _ _ (R4.out.grew (grew_alloc _ _))).mono ?_
  rintro e W5 ⟨a5, k5, rfl, g5⟩
  have X5 : Hid (Box W5 W1.heap.size [.slice a2 2 k2, .int .i64 0]) := (X4.out.alloc _).grew g5
  have Y5 : Hid (Box W5 W4.heap.size [.slice a4 2 k4, .int .i64 0]) := (Box.top W4 [.slice a4 2 k4, .int .i64 0] _ rfl).grew g5
  have R5 : Hid (RowAt W5 (.slice a2 2 k2) [fr9, frF]) := (R4.out.grew (grew_alloc _ _)).grew g5
  have N5 : Hid (RowAt W5 (.slice a4 2 k4) [frF, frF]) := (NB4.out.grew (grew_alloc _ _)).grew g5
  have G5 : Hid (Grew w W5) := (G4.out.trans (grew_alloc _ _)).trans g5
  clear g5 e0 e1 el
  have e0 := X5.out.c 0 rfl
  have e1 := X5.out.c 1 rfl
  have el := X5.out.lt
  go_wp2_with fail
  refine (f1 _ _ _ (R5.out.grew (grew_alloc _ _))).mono ?_
  rintro e W6 ⟨rfl, g6⟩
  have GG6 : Hid (Grew W5 W6) := (grew_alloc _ _).trans g6
  clear g6 e0 e1 el
  have y0 := (Y5.out.grew GG6.out).c 0 rfl
  have y1 := (Y5.out.grew GG6.out).c 1 rfl
  go_wp2_with fail
  refine (f2 _ _ _ (N5.out.grew GG6.out)).mono ?_
  rintro e W7 ⟨rfl, g7⟩
  have GG7 : Hid (Grew W5 W7) := GG6.out.trans g7
  clear g7 y0 y1
  have e0 := (X5.out.grew GG7.out).c 0 rfl
  obtain ⟨a', c', heq, hrow⟩ := (R5.out.grew GG7.out).frs
  cases heq
  obtain ⟨ad, rfl, hl⟩ := hrow 0 fr9 rfl
  obtain ⟨d0, -⟩ := hl W7 (Grew.refl _)
  rw [Nat.zero_mul, show ad.add 0 = ad from by simp [Addr.add]] at d0
  clear hl hrow
  go_wp2
  go_ret
  exact ⟨rfl, G5.out.trans GG7.out⟩

end Go.Proofs.Ytbcaagmnmaonbab
