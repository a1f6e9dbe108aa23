/- The law DiskTells, whatever number New is asked for. -/
import Derived.Test.YtbcaagmnmaonbaaTellsLaw
import Derived.Test.YtbcaagmnmaonbaaTellsLawLo
import Derived.Test.YtbcaagmnmaonbaaTellsLawHi
namespace Go.Proofs.Ytbcaagmnmaonbaa
open Go.RowKit

theorem tells_any (d : Value) (ps : List (List Int)) (qs : List (Int × List Int)) (m : Int) (p : List Int) (hp : p.length = 8) (bs : Int) (k : Int) (w : World) (hd : DiskAt w d ps qs) :
    Calls Try.prog 5 #[d, .int .i64 m, .agg (pgc p).toArray, .int .i64 bs, .int .i64 k] w fun e w' => e = .returned (.bool true) ∧ Grew w w' := by
  by_cases h1 : k < 0
  · exact tells_lo d ps qs m p hp bs k h1 w hd
  by_cases h2 : 80 < k
  · exact tells_hi d ps qs m p hp bs k h2 w hd
  obtain ⟨n, rfl⟩ := Int.eq_ofNat_of_zero_le (Int.not_lt.1 h1)
  exact tells_ok d ps qs m p hp bs n (by omega) w hd

end Go.Proofs.Ytbcaagmnmaonbaa
