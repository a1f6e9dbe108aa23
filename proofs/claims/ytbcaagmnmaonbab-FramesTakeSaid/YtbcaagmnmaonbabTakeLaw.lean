/- What the law FramesTake asks, as lists. -/
import Derived.Test.YtbcaagmnmaonbabHoldLaw
namespace Go.Proofs.Ytbcaagmnmaonbab
open Go.RowKit

theorem takeE_ne10 {fs : List Fr} {h : Int} {x : Fr} (he : takeE fs h x = 10) : freeN fs = 0 := by
  unfold takeE at he
  by_cases hz : memW fs h = 0
  · rw [if_pos hz] at he
    by_cases hy : frW x = 0
    · rw [if_pos hy] at he
      by_cases hk : fs.findIdx isF < fs.length
      · rw [if_pos hk] at he; omega
      · have h1 : fs.findIdx isF = fs.length := by have := List.findIdx_le_length (p := isF) (xs := fs); omega
        have h2 := List.findIdx_eq_length.1 h1
        unfold freeN
        rw [List.countP_eq_zero]
        intro a ha
        have := h2 a ha
        unfold isF at this
        simp [this]
    · rw [if_neg hy] at he
      exfalso
      unfold frW at he
      split at he <;> (try split at he) <;> (try split at he) <;> omega
  · rw [if_neg hz] at he
    exfalso
    have hf : ∀ l : List Fr, frsW l ≠ 10 := fun l => by
      induction l with
      | nil => decide
      | cons a l ih =>
        unfold frsW
        split
        · exact ih
        · intro hc
          unfold frW at hc
          split at hc <;> (try split at hc) <;> (try split at hc) <;> omega
    unfold memW at he
    split at he
    · omega
    · split at he
      · split at he <;> omega
      · exact hf _ he

/-- WHAT IS TAKEN IS TAKEN ONCE, as lists. -/
theorem take_back {fs : List Fr} {h : Int} {p : Pg} {fi ix : Int} (he : takeE fs h (frT p fi ix) = 0) :
    ∃ (k : Nat) (q : Fr), takeI fs h (frT p fi ix) = (k : Int) ∧ k < fs.length ∧ fs[k]? = some q ∧ q.r = 0 ∧ takeF fs h (frT p fi ix) = fs.set k (frT p fi ix) ∧ takeH fs h (frT p fi ix) = h ∧ memW (fs.set k (frT p fi ix)) h = 0 ∧ freeN fs = freeN (fs.set k (frT p fi ix)) + 1 ∧ holdE (fs.set k (frT p fi ix)) h k (-1) = 0 ∧ holdF (fs.set k (frT p fi ix)) h k (-1) = fs ∧ holdH (fs.set k (frT p fi ix)) h k (-1) = h := by
  have he' := he
  unfold takeE at he'
  by_cases hz : memW fs h = 0
  · rw [if_pos hz] at he'
    by_cases hy : frW (frT p fi ix) = 0
    · rw [if_pos hy] at he'
      by_cases hk : fs.findIdx isF < fs.length
      · have hI : takeI fs h (frT p fi ix) = (fs.findIdx isF : Int) := if_pos he
        have hF : takeF fs h (frT p fi ix) = fs.set (fs.findIdx isF) (frT p fi ix) := if_pos he
        have hH : takeH fs h (frT p fi ix) = h := if_pos he
        have hp := List.findIdx_getElem (w := hk)
        generalize fs.findIdx isF = k at *
        obtain ⟨q, hq⟩ : ∃ q, fs[k]? = some q := ⟨_, List.getElem?_eq_getElem hk⟩
        have hq' : fs[k] = q := by rw [List.getElem?_eq_getElem hk] at hq; simpa using hq
        rw [hq'] at hp
        have hr : q.r = 0 := by unfold isF at hp; simpa using hp
        have hqf : q = frF := by
          have h1 := (memW_zero hz).2.1 q (List.mem_of_getElem? hq)
          unfold frW at h1
          by_cases h2 : (inB q.r 1001 && inB q.x 12) = false
          · rw [if_pos h2] at h1; omega
          · rw [if_neg h2] at h1
            by_cases h3 : (!(q.f == -1) && !inB q.f 5) = true
            · rw [if_pos h3] at h1; omega
            · rw [if_neg h3] at h1
              by_cases h4 : (q.r == 0 && !frEqB q frF || q.f == -1 && !(q.x == 0)) = true
              · rw [if_pos h4] at h1; omega
              · simp [hr] at h4
                exact frEqB_eq h4.1
        have hm : memW (fs.set k (frT p fi ix)) h = 0 := memW_set hz hy
        have hgd : (fs.set k (frT p fi ix)).getD (k : Int).toNat fr0 = frT p fi ix := by
          rw [Int.toNat_natCast, List.getD_eq_getElem?_getD, List.getElem?_set_self hk]
          rfl
        have hE2 : holdE (fs.set k (frT p fi ix)) h k (-1) = 0 := by
          unfold holdE
          rw [if_pos hm, hgd, List.length_set, if_pos, if_pos]
          · show -(1 : Int) ≤ -1 ∧ (-1 : Int) ≤ 1000 - 1
            omega
          · have : inB (k : Int) fs.length = true := by unfold inB; simp; exact hk
            rw [this]
            rfl
        refine ⟨k, q, hI, hk, hq, hr, hF, hH, hm, ?_, hE2, ?_, if_pos hE2⟩
        · have e1 : fs = fs.take k ++ q :: fs.drop (k + 1) := by rw [← hq', List.getElem_cons_drop, List.take_append_drop]
          have e2 : fs.set k (frT p fi ix) = fs.take k ++ frT p fi ix :: fs.drop (k + 1) := List.set_eq_take_append_cons_drop.trans (if_pos hk)
          rw [e2]
          conv => lhs; rw [e1]
          unfold freeN
          rw [List.countP_append, List.countP_append, List.countP_cons, List.countP_cons]
          simp [hr, frT]
          omega
        · rw [show holdF (fs.set k (frT p fi ix)) h k (-1) = _ from if_pos hE2, hgd, Int.toNat_natCast, List.set_set]
          rw [show frH (frT p fi ix) (-1) = frF from if_pos rfl, ← hqf]
          apply List.ext_getElem?
          intro j
          by_cases hj : j = k
          · subst hj
            rw [List.getElem?_set_self hk, hq]
          · rw [List.getElem?_set_ne (Ne.symm hj)]
      · rw [if_neg hk] at he'; omega
    · rw [if_neg hy] at he'
      exact absurd he' hy
  · rw [if_neg hz] at he'
    exact absurd he' hz

end Go.Proofs.Ytbcaagmnmaonbab
