/- The law FramesTells, whatever number New is asked for. -/
import Derived.Test.YtbcaagmnmaonbabFTellsOk
import Derived.Test.YtbcaagmnmaonbabFTellsLo
import Derived.Test.YtbcaagmnmaonbabFTellsHi
namespace Go.Proofs.Ytbcaagmnmaonbab
open Go.RowKit

theorem ftells_any (a : Option Addr) (c : Nat) (fs : List Fr) (h : Int) (p : Pg) (fi ix kx k : Int) (w : World) (hv : RowAt w (.slice a fs.length c) fs) :
    Calls Try.prog 4 #[.agg #[.slice a fs.length c, .int .i64 h], .agg (pgv p).toArray, .int .i64 fi, .int .i64 ix, .int .i64 kx, .int .i64 k] w fun e w' => e = .returned (.bool true) ∧ Grew w w' := by
  by_cases h1 : k < 0
  · exact ftells_lo a c fs h p fi ix kx k h1 w hv
  by_cases h2 : 40 < k
  · exact ftells_hi a c fs h p fi ix kx k h2 w hv
  obtain ⟨n, rfl⟩ := Int.eq_ofNat_of_zero_le (Int.not_lt.1 h1)
  exact ftells_ok a c fs h p fi ix kx n (by omega) w hv

end Go.Proofs.Ytbcaagmnmaonbab
