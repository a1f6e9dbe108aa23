/- The closed fact that the law SlotsTake asks first. -/
import Derived.Test.YtkkcanihnlpioacSlHold
import Derived.Test.YtkkcanihnlpioacSlNew
namespace Go.Proofs.Ytkkcanihnlpioac
open Go.RowKit

theorem als_take (a : Option Addr) (c : Nat) (w : World) (hv : RowAt slE w (.slice a 2 c) [0, 0]) : Calls Try.prog 5 #[.slice a 2 c, .int .i64 3] w fun e w' => ∃ a' c', e = .returned (.tuple #[.slice a' 2 c', .int .i64 0, .int .i64 0]) ∧ NewRow slE w.heap.size w' (.slice a' 2 c') [3, 0] ∧ Grew w w' := by
  have h := takeS_any a c [0, 0] 3 w hv
  rw [show takeSL [0, 0] 3 = [3, 0] from by decide +kernel, show takeSE [0, 0] 3 = 0 from by decide +kernel, show takeSI [0, 0] 3 = 0 from by decide +kernel] at h
  exact h

theorem als_hold (a : Option Addr) (c : Nat) (w : World) (hv : RowAt slE w (.slice a 2 c) [3, 0]) : Calls Try.prog 8 #[.slice a 2 c, .int .i64 0, .int .i64 (-3)] w fun e w' => ∃ a' c', e = .returned (.tuple #[.slice a' 2 c', .int .i64 0]) ∧ NewRow slE w.heap.size w' (.slice a' 2 c') [0, 0] ∧ Grew w w' := by
  have h := holdS_any a c [3, 0] 0 (-3) w hv
  rw [show holdSL [3, 0] 0 (-3) = [0, 0] from by decide +kernel, show holdSE [3, 0] 0 (-3) = 0 from by decide +kernel] at h
  exact h

set_option maxRecDepth 100000 in
set_option maxHeartbeats 2000000 in
theorem aliveS_any (w : World) : Calls Try.prog 4 #[] w fun e w' => e = .returned (.bool true) ∧ Grew w w' := by
  have f1 : ∀ a c W, RowAt slE W (.slice a 2 c) [3, 0] → Calls Try.prog 6 #[.slice a 2 c] W fun e w' => e = .returned (.int .i64 1) ∧ Grew W w' := fun a c W h => freeS_any a c [3, 0] W h
  have f2 : ∀ a c W, RowAt slE W (.slice a 2 c) [0, 0] → Calls Try.prog 6 #[.slice a 2 c] W fun e w' => e = .returned (.int .i64 2) ∧ Grew W w' := fun a c W h => freeS_any a c [0, 0] W h
  have f3 : ∀ a c W, RowAt slE W (.slice a 2 c) [3, 0] → Calls Try.prog 7 #[.slice a 2 c] W fun e w' => e = .returned (.int .i64 0) ∧ Grew W w' := fun a c W h => wrongS_any a c [3, 0] W h
  go_enter Try.func4, Try.ntmps4
  go_wp2_with fail
  refine (newS_nat 2 (by decide) w).mono ?_
  rintro e W1 ⟨a1, k1, rfl, hb, g1⟩
  have NB1 : Hid (RowAt slE W1 (.slice a1 2 k1) [0, 0]) := hb.1
  have G1 : Hid (Grew w W1) := g1
  clear hb g1
  go_wp2_with fail
  refine (als_take _ _ _ NB1.out).mono ?_
  rintro e W2 ⟨a2, k2, rfl, hb, g2⟩
  have NB2 : Hid (RowAt slE W2 (.slice a2 2 k2) [3, 0]) := hb.1
  have G2 : Hid (Grew w W2) := G1.out.trans g2
  clear hb g2
  go_wp2_with fail
  refine (als_hold _ _ _ NB2.out).mono ?_
  rintro e W3 ⟨a3, k3, rfl, hb, g3⟩
  have NB3 : Hid (RowAt slE W3 (.slice a3 2 k3) [0, 0]) := hb.1
  have R3 : Hid (RowAt slE W3 (.slice a2 2 k2) [3, 0]) := NB2.out.grew g3
  have G3 : Hid (Grew w W3) := G2.out.trans g3
  clear hb g3
  go_wp2_with fail
  refine (f1 _ _ _ R3.out).mono ?_
  rintro e W4 ⟨rfl, g4⟩
  have GG4 : Hid (Grew W3 W4) := g4
  clear g4
  go_wp2_with fail
  refine (f2 _ _ _ (NB3.out.grew GG4.out)).mono ?_
  rintro e W5 ⟨rfl, g5⟩
  have GG5 : Hid (Grew W3 W5) := GG4.out.trans g5
  clear g5
  go_wp2_with fail
  refine (f3 _ _ _ (R3.out.grew GG5.out)).mono ?_
  rintro e W6 ⟨rfl, g6⟩
  have GG6 : Hid (Grew W3 W6) := GG5.out.trans g6
  clear g6
  go_wp2
  go_ret
  exact ⟨rfl, G3.out.trans GG6.out⟩

end Go.Proofs.Ytkkcanihnlpioac
