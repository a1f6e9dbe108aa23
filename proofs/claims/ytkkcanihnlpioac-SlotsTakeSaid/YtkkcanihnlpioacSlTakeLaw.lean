/- What is taken, and given back step by step: the arithmetic of SlotsTake. -/
import Derived.Test.YtkkcanihnlpioacSlHold
namespace Go.Proofs.Ytkkcanihnlpioac
open Go.RowKit

theorem slW_set {s : List Int} (h : slW s = 0) (i : Nat) {q : Int} (h0 : 0 ≤ q) (h1 : q ≤ 1000) : slW (s.set i q) = 0 := by
  have hl := slW_len h
  unfold slW
  rw [List.length_set, if_neg (by omega), any_no (p := badS)]
  · rfl
  · intro j x hj
    rw [List.getElem?_set] at hj
    split at hj
    · split at hj
      · cases hj
        simp [badS]
        omega
      · cases hj
    · have := slW_range h hj
      simp [badS]
      omega

theorem first_is {s : List Int} (h : s.findIdx isZ < s.length) : s[s.findIdx isZ]? = some 0 := by
  have h1 := List.findIdx_getElem (w := h)
  rw [List.getElem?_eq_getElem h]
  simpa [isZ] using h1

theorem freeS_set {q : Int} (hq : q ≠ 0) : ∀ {s : List Int} {i : Nat}, s[i]? = some 0 → freeS (s.set i q) + 1 = freeS s
  | [], i, h => by simp at h
  | x :: s, 0, h => by
    simp at h
    subst h
    simp [freeS, isZ, hq]
  | x :: s, i + 1, h => by
    have ih := freeS_set hq (s := s) (i := i) (by simpa using h)
    simp only [freeS, List.set_cons_succ, List.countP_cons] at ih ⊢
    omega

theorem freeS_none {s : List Int} (h : ¬ s.findIdx isZ < s.length) : freeS s = 0 := by
  unfold freeS
  rw [List.countP_eq_zero]
  intro x hx hz
  exact h (List.findIdx_lt_length_of_exists ⟨x, hx, hz⟩)

theorem atS_set {s : List Int} {i : Nat} (hi : i < s.length) (q : Int) : atS (s.set i q) (i : Int) = q := by
  unfold atS
  rw [if_pos (by omega), Int.toNat_natCast, List.getD_eq_getElem?_getD, List.getElem?_set_self hi]
  rfl

theorem less_set {s : List Int} (h : slW s = 0) {i : Nat} (hi : i < s.length) {q : Int} (h0 : 1 ≤ q) (h1 : q ≤ 1000) : holdSE (s.set i q) (i : Int) (-1) = 0 ∧ holdSL (s.set i q) (i : Int) (-1) = s.set i (q - 1) := by
  have hE : holdSE (s.set i q) (i : Int) (-1) = 0 := by
    unfold holdSE
    rw [if_pos (slW_set h i (by omega) h1), atS_set hi, if_neg (by omega), if_pos (by omega)]
  refine ⟨hE, ?_⟩
  unfold holdSL
  rw [if_pos hE, atS_set hi, Int.toNat_natCast, List.set_set]
  rfl

theorem less_none {s : List Int} (h : slW s = 0) {i : Nat} (hi : i < s.length) : holdSE (s.set i 0) (i : Int) (-1) = 5 := by
  unfold holdSE
  rw [if_pos (slW_set h i (by omega) (by omega)), atS_set hi, if_pos rfl]

theorem set_same {s : List Int} {i : Nat} (h : s[i]? = some 0) : s.set i 0 = s := by
  obtain ⟨hl, he⟩ := List.getElem?_eq_some_iff.1 h
  rw [← he, List.set_getElem_self]

end Go.Proofs.Ytkkcanihnlpioac
