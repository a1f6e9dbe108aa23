/- Contract of page.Cut. -/
import Derived.Test.YtbapaldfgmidpaaProg
import Derived.WalkKit
import Derived.Deep.QuietTactic
import Derived.BigQuiet
namespace Go.Proofs.Ytbapaldfgmidpaa
open Go.RowKit

def u8 (n : Int) : Value := .int .u8 n
def ct (at' : Int) (k : Nat) (j : Nat) (b : Int) : Int := if at' ≤ j ∧ j < k then 0 else b
/-- The world in which the page lies in a block, cut up to k. -/
def cutW (w : World) (n : Int) (b0 b1 b2 b3 b4 b5 b6 b7 : Int) (k : Nat) : World :=
  (w.alloc (Obj.cells #[.int .u8 (ct n k 0 b0), .int .u8 (ct n k 1 b1), .int .u8 (ct n k 2 b2), .int .u8 (ct n k 3 b3), .int .u8 (ct n k 4 b4), .int .u8 (ct n k 5 b5), .int .u8 (ct n k 6 b6), .int .u8 (ct n k 7 b7)] 23)).alloc
    (Obj.cells #[.int .u8 0, .int .u8 0, .int .u8 0, .int .u8 0, .int .u8 0, .int .u8 0, .int .u8 0, .int .u8 0] 23)
theorem ct_same (n : Int) (k j : Nat) (b : Int) (h : j ≠ k) : ct n (k + 1) j b = ct n k j b := by
  unfold ct; by_cases h1 : n ≤ j ∧ j < k
  · rw [if_pos h1, if_pos (by omega)]
  · rw [if_neg h1, if_neg (by omega)]
theorem ct_at (n : Int) (k : Nat) (b : Int) (h : n ≤ k) : ct n (k + 1) k b = 0 := by unfold ct; rw [if_pos (by omega)]
theorem ct_none (n : Int) (k j : Nat) (b : Int) (h : (k : Int) ≤ n ∨ k = 0) : ct n k j b = b := by unfold ct; rw [if_neg (by omega)]
theorem ct_end (n : Int) (k j : Nat) (b : Int) (h : 8 ≤ k) (hj : j < 8) : ct n k j b = ct n 8 j b := by
  unfold ct; by_cases h1 : n ≤ j
  · rw [if_pos (by omega), if_pos (by omega)]
  · rw [if_neg (by omega), if_neg (by omega)]

set_option maxHeartbeats 400000 in
theorem cut_any (b0 b1 b2 b3 b4 b5 b6 b7 : Int) (n : Int) (w : World) (h1 : -9223372036854775808 ≤ n) (h2 : n ≤ 9223372036854775807) :
    Calls Try.prog 5 #[.agg #[.int .u8 b0, .int .u8 b1, .int .u8 b2, .int .u8 b3, .int .u8 b4, .int .u8 b5, .int .u8 b6, .int .u8 b7], .int .i64 n] w fun e w' =>
      e = .returned (.agg #[.int .u8 (ct n 8 0 b0), .int .u8 (ct n 8 1 b1), .int .u8 (ct n 8 2 b2), .int .u8 (ct n 8 3 b3), .int .u8 (ct n 8 4 b4), .int .u8 (ct n 8 5 b5), .int .u8 (ct n 8 6 b6), .int .u8 (ct n 8 7 b7)]) ∧ Below w.heap.size w w' := by
  go_enter Try.func5, Try.ntmps5
  go_wp2
  all_goals
    go_loopw [5] (fun i wr => ∃ k : Nat, i = .int .i64 k ∧ n ≤ k ∧ (k : Int) ≤ 9223372036854775807 ∧ wr = cutW w n b0 b1 b2 b3 b4 b5 b6 b7 k) (fun i _ => 8 - (intOf i).toNat)
    case atStart =>
      first
      | exact ⟨0, rfl, by omega, by omega, by simp [cutW, ct_none]⟩
      | exact ⟨n.toNat, by rw [Int.toNat_of_nonneg (by assumption)], by omega, by omega, by
          have := fun j b => ct_none n n.toNat j b (by omega)
          simp only [cutW, this]⟩
    case round =>
      obtain ⟨k, rfl, hk, hk', rfl⟩ := hrel
      by_cases hlt : k < 8
      · have hall : k = 0 ∨ k = 1 ∨ k = 2 ∨ k = 3 ∨ k = 4 ∨ k = 5 ∨ k = 6 ∨ k = 7 := by omega
        obtain ⟨m, hm⟩ : ∃ m : Nat, Hid (m = k + 1) := ⟨_, rfl⟩
        have hat := fun b => ct_at n k b hk
        have hsame := fun j b (h : j ≠ k) => ct_same n k j b h
        have HA : Hid (∀ b, ct n (k + 1) k b = 0) := hat
        have HS : Hid (∀ j b, j ≠ k → ct n (k + 1) j b = ct n k j b) := hsame
        clear hat hsame
        unfold cutW
        rcases hall with rfl | rfl | rfl | rfl | rfl | rfl | rfl | rfl
        all_goals
          go_wp2
          refine ⟨⟨m, by rw [hm.out]; rfl, by rw [hm.out]; omega, by rw [hm.out]; omega, ?_⟩, by simp [intOf]⟩
          have ha := HA.out
          have hs := HS.out
          rw [hm.out]
          simp [ha, hs]
      · have he := fun j b (h : j < 8) => ct_end n k j b (by omega) h
        have HE : Hid (∀ j b, j < 8 → ct n k j b = ct n 8 j b) := he
        clear he
        unfold cutW
        go_wp2
        have he := HE.out
        refine bodyPost_ret (v := .agg #[.int .u8 (ct n k 0 b0), .int .u8 (ct n k 1 b1), .int .u8 (ct n k 2 b2), .int .u8 (ct n k 3 b3), .int .u8 (ct n k 4 b4), .int .u8 (ct n k 5 b5), .int .u8 (ct n k 6 b6), .int .u8 (ct n k 7 b7)]) (by simp [results, Try.results5, go_sem]) rfl ⟨by simp [he], ?_⟩
        exact ((Below.refl _ _).alloc (Nat.le_refl _) _).alloc (by simp) _
end Go.Proofs.Ytbapaldfgmidpaa
