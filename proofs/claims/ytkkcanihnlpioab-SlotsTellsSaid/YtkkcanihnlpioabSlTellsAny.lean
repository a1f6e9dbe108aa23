/- The law SlotsTells, whatever number New is asked for. -/
import Derived.Test.YtkkcanihnlpioabSlTellsOk
import Derived.Test.YtkkcanihnlpioabSlTellsLo
import Derived.Test.YtkkcanihnlpioabSlTellsHi
namespace Go.Proofs.Ytkkcanihnlpioab
open Go.RowKit

theorem stells_any (a : Option Addr) (c : Nat) (s : List Int) (k m : Int) (w : World) (hv : RowAt slE w (.slice a s.length c) s) :
    Calls Try.prog 8 #[.slice a s.length c, .int .i64 k, .int .i64 m] w fun e w' => e = .returned (.bool true) ∧ Grew w w' := by
  by_cases h1 : m < 0
  · exact stells_lo a c s k m h1 w hv
  by_cases h2 : 60 < m
  · exact stells_hi a c s k m h2 w hv
  obtain ⟨n, rfl⟩ := Int.eq_ofNat_of_zero_le (Int.not_lt.1 h1)
  exact stells_ok a c s k n (by omega) w hv

end Go.Proofs.Ytkkcanihnlpioab
