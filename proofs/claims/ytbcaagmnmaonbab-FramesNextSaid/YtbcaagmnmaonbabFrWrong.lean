/- Contracts: below, freeFrame, wrongFrame (package frames), WrongFrame (the document's answer). -/
import Derived.Test.YtbcaagmnmaonbabFr
import Derived.Deep.QuietTactic
namespace Go.Proofs.Ytbcaagmnmaonbab
open Go.RowKit

def inB (m n : Int) : Bool := decide (0 ≤ m) && decide (m < n)

theorem below_any (m n : Int) (w : World) :
    Calls Try.prog 32 #[.int .i64 m, .int .i64 n] w fun e w' => e = .returned (.bool (inB m n)) ∧ w' = w := by
  have H : Hid (inB m n = (decide (0 ≤ m) && decide (m < n))) := rfl
  by_cases h0 : 0 ≤ m
  · by_cases h1 : m < n
    · go_enter Try.func32, Try.ntmps32
      go_wp2
      go_ret
      exact ⟨by rw [H.out]; simp [*], rfl⟩
    · go_enter Try.func32, Try.ntmps32
      go_wp2
      go_ret
      exact ⟨by rw [H.out]; simp [*], rfl⟩
  · go_enter Try.func32, Try.ntmps32
    go_wp2
    go_ret
    exact ⟨by rw [H.out]; simp; omega, rfl⟩

theorem freeFrame_any (w : World) :
    Calls Try.prog 36 #[] w fun e w' => e = .returned (.agg (frv frF).toArray) ∧ Grew w w' := by
  go_enter Try.func36, Try.ntmps36
  go_wp2
  refine bodyPost_ret (v := .agg (frv frF).toArray) (by simp [results, Try.results36, go_sem, frv, frF, pg0]) rfl ⟨rfl, ?_⟩
  exact (Below.refl _ _).alloc (Nat.le_refl _) _

/-- What is wrong with a frame. -/
def frW (a : Fr) : Int := if (inB a.r 1001 && inB a.x 12) = false then 3 else if (!(a.f == -1) && !inB a.f 5) = true then 3 else if (a.r == 0 && !frEqB a frF || a.f == -1 && !(a.x == 0)) = true then 7 else 0

end Go.Proofs.Ytbcaagmnmaonbab
