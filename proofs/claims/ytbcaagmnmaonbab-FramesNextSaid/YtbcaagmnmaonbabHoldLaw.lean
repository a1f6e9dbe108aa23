/- The walk of the law FramesHold. -/
import Derived.Test.YtbcaagmnmaonbabMemAlive
import Derived.Test.YtbcaagmnmaonbabMemSame
namespace Go.Proofs.Ytbcaagmnmaonbab
open Go.RowKit

theorem frsW_mk : ∀ {fs : List Fr}, (∀ q ∈ fs, frW q = 0) → frsW fs = 0
  | [], _ => rfl
  | a :: l, h => by
    unfold frsW
    rw [if_pos (h a (by simp))]
    exact frsW_mk fun q hq => h q (by simp [hq])

theorem memW_mk {fs : List Fr} {h : Int} (h1 : fs.length ≤ 40) (h2 : ∀ q ∈ fs, frW q = 0) (h3 : 0 ≤ h) (h4 : h < max (fs.length : Int) 1) : memW fs h = 0 := by
  unfold memW
  rw [if_neg (by omega), if_pos (frsW_mk h2), if_pos (by unfold inB; simp; omega)]

theorem memW_set {fs : List Fr} {h : Int} {i : Nat} {q : Fr} (hz : memW fs h = 0) (hq : frW q = 0) : memW (fs.set i q) h = 0 := by
  obtain ⟨h1, h2, h3, h4⟩ := memW_zero hz
  refine memW_mk (by rw [List.length_set]; exact h1) (fun x hx => ?_) h3 (by rw [List.length_set]; exact h4)
  rcases List.mem_or_eq_of_mem_set hx with h5 | h5
  · exact h2 x h5
  · rw [h5]; exact hq

theorem frW_more {q : Fr} {r : Int} (h : frW q = 0) (h0 : q.r ≠ 0) (h1 : 0 < r) (h2 : r ≤ 1000) : frW { q with r := r } = 0 := by
  obtain ⟨p, r0, u, d, f, x⟩ := q
  simp only at h0
  have e1 : (r0 == 0) = false := by simpa using h0
  have e2 : (r == 0) = false := by simp; omega
  have e3 : inB r 1001 = true := by unfold inB; simp; omega
  unfold frW at h ⊢
  simp only [e1, e2, e3, Bool.false_and, Bool.true_and] at h ⊢
  by_cases hx : inB x 12 = false
  · rw [if_pos (by simp [hx])] at h
    omega
  · have hx' : inB x 12 = true := by simpa using hx
    cases hr : inB r0 1001 with
    | false => rw [if_pos (by simp [hr])] at h; omega
    | true =>
      simp only [hr, hx'] at h ⊢
      exact h

/-- HELD MORE, AND LESS, as lists. -/
theorem hold_back {fs : List Fr} {h k n : Int} (he : holdE fs h k n = 0) (hn : 0 ≤ n) : n ≤ 1000 ∧ memW (holdF fs h k n) (holdH fs h k n) = 0 ∧ holdE (holdF fs h k n) (holdH fs h k n) k (-n) = 0 ∧ holdF (holdF fs h k n) (holdH fs h k n) k (-n) = fs ∧ holdH (holdF fs h k n) (holdH fs h k n) k (-n) = h ∧ (holdF fs h k n).length = fs.length := by
  have hF : holdF fs h k n = fs.set k.toNat (frH (fs.getD k.toNat fr0) n) := if_pos he
  have hH : holdH fs h k n = h := if_pos he
  rw [hF, hH]
  have he' := he
  unfold holdE at he'
  by_cases hz : memW fs h = 0
  · rw [if_pos hz] at he'
    by_cases hk : (inB k fs.length && !((fs.getD k.toNat fr0).r == 0)) = true
    · rw [if_pos hk] at he'
      by_cases hb : -(fs.getD k.toNat fr0).r ≤ n ∧ n ≤ 1000 - (fs.getD k.toNat fr0).r
      · have hk1 : inB k fs.length = true := by simp at hk; simpa using hk.1
        have hk2 : (fs.getD k.toNat fr0).r ≠ 0 := by simp at hk; simpa using hk.2
        have hk1' := hk1
        unfold inB at hk1'
        simp at hk1'
        have hil : k.toNat < fs.length := by omega
        generalize hq : fs.getD k.toNat fr0 = q at *
        have hqi : fs[k.toNat]? = some q := by
          rw [List.getD_eq_getElem?_getD] at hq
          rw [List.getElem?_eq_getElem hil] at hq ⊢
          simpa using hq
        have hfw := (memW_zero hz).2.1 q (List.mem_of_getElem? hqi)
        obtain ⟨hr0, hr1⟩ := frW_zero hfw
        have hfr : frH q n = { q with r := q.r + n } := if_neg (by omega)
        rw [hfr]
        have hw2 : memW (fs.set k.toNat { q with r := q.r + n }) h = 0 := memW_set hz (frW_more hfw hk2 (by omega) (by omega))
        have hgd : (fs.set k.toNat { q with r := q.r + n }).getD k.toNat fr0 = { q with r := q.r + n } := by
          rw [List.getD_eq_getElem?_getD, List.getElem?_set_self hil]
          rfl
        have hE2 : holdE (fs.set k.toNat { q with r := q.r + n }) h k (-n) = 0 := by
          unfold holdE
          rw [if_pos hw2, hgd, List.length_set, hk1, if_pos (by simp; omega), if_pos (by simp only; omega)]
        refine ⟨by omega, hw2, hE2, ?_, if_pos hE2, by simp⟩
        rw [show holdF (fs.set k.toNat { q with r := q.r + n }) h k (-n) = _ from if_pos hE2, hgd, List.set_set]
        rw [show frH { q with r := q.r + n } (-n) = q from by
          unfold frH
          rw [if_neg (by simp only; omega)]
          simp only
          rw [show q.r + n + -n = q.r by omega]]
        apply List.ext_getElem?
        intro j
        by_cases hj : j = k.toNat
        · subst hj
          rw [List.getElem?_set_self hil, hqi]
        · rw [List.getElem?_set_ne (Ne.symm hj)]
      · rw [if_neg hb] at he'
        omega
    · rw [if_neg hk] at he'
      omega
  · rw [if_neg hz] at he'
    exact absurd he' hz

end Go.Proofs.Ytbcaagmnmaonbab
