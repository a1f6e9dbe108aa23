/- Contracts: bits.Mul64, bits.Mul at 1 and a small number. -/
import Derived.Test.YtagpmjgmohfmjacStLeaf
import Derived.Shelf.Bits.Mul64
namespace Go.Proofs.Ytagpmjgmohfmjac
open Go.RowKit

set_option maxHeartbeats 1000000 in
theorem mul64_one (n : Nat) (hn : n ≤ 40) (w : World) :
    Calls Try.prog 53 #[.int .u64 1, .int .u64 (n : Int)] w fun e w' => e = .returned (.tuple #[.int .u64 0, .int .u64 (n : Int)]) ∧ w' = w := by
  have m1 : bits .and .u64 1 4294967295 = 1 := Mul64.maskN 1 (by omega)
  have m2 : bits .and .u64 (n : Int) 4294967295 = (n : Int) := by rw [Mul64.maskN n (by omega)]; omega
  have m0 : bits .and .u64 0 4294967295 = 0 := Mul64.maskN 0 (by omega)
  have d1 : (n : Int) / 4294967296 = 0 := by omega
  have HM1 : Hid (bits .and .u64 1 4294967295 = 1) := m1
  have HM2 : Hid (bits .and .u64 (n : Int) 4294967295 = (n : Int)) := m2
  have HM0 : Hid (bits .and .u64 0 4294967295 = 0) := m0
  have HD1 : Hid ((n : Int) / 4294967296 = 0) := d1
  clear m1 m2 m0 d1
  go_enter Try.func53, Try.ntmps53
  go_wp2
  have w0 : IntKind.u64.wrap 0 = 0 := Mul64.wrapN 0 (by omega)
  have wn : IntKind.u64.wrap (n : Int) = (n : Int) := Mul64.wrapN n (by omega)
  simp only [HM1.out, HM2.out, Int.one_mul, wn, HD1.out, w0, HM0.out, Int.mul_zero, Int.add_zero, Int.zero_ediv]
  go_ret2
  exact ⟨rfl, rfl⟩

set_option maxHeartbeats 1000000 in
theorem mul_one (n : Nat) (hn : n ≤ 40) (w : World) :
    Calls Try.prog 49 #[.int .u64 1, .int .u64 (n : Int)] w fun e w' => e = .returned (.tuple #[.int .u64 0, .int .u64 (n : Int)]) ∧ w' = w := by
  have c64 := mul64_one n hn w
  go_enter Try.func49, Try.ntmps49
  go_wp2_with (go_at_call 53; refine c64.mono ?_; rintro e w' ⟨rfl, hw⟩; rw [hw])
  go_ret2
  exact ⟨rfl, rfl⟩

end Go.Proofs.Ytagpmjgmohfmjac
