/- The law FramesNext, whatever the first call answers. -/
import Derived.Test.YtbcaagmnmaonbabNextWalk1
import Derived.Test.YtbcaagmnmaonbabNextWalk3
namespace Go.Proofs.Ytbcaagmnmaonbab
open Go.RowKit

theorem nextLaw_any (a : Option Addr) (c : Nat) (fs : List Fr) (h : Int) (w : World) (hv : RowAt w (.slice a fs.length c) fs) :
    Calls Try.prog 7 #[.agg #[.slice a fs.length c, .int .i64 h]] w fun e w' => e = .returned (.bool true) ∧ Grew w w' := by
  by_cases hz : memW fs h = 0
  · rcases next_first hz with ⟨h1, h2⟩ | ⟨k, q, h1, h2, h3, h4, h5, h6⟩
    · exact nl2 a c fs h w hv hz h1 h2
    · exact nl3 a c fs h w hv hz k q h1 h2 h3 h4 h5 h6
  · exact nl1 a c fs h w hv _ rfl hz

end Go.Proofs.Ytbcaagmnmaonbab
