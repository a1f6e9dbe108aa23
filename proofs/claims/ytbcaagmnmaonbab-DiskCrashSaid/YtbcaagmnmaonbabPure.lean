/- What Read, Write, Trim, Flush and Crash come to, as lists. -/
import Derived.Test.YtbcaagmnmaonbabAliveDisk
namespace Go.Proofs.Ytbcaagmnmaonbab
open Go.RowKit

def Ok8 (ps : List (List Int)) (qs : List (Int × List Int)) : Prop := (∀ p ∈ ps, p.length = 8) ∧ ∀ q ∈ qs, q.2.length = 8

theorem DiskAt.ok8 {w : World} {d : Value} {ps : List (List Int)} {qs : List (Int × List Int)} (h : DiskAt w d ps qs) : Ok8 ps qs := by
  obtain ⟨b, q, _, hb, hq⟩ := h
  exact ⟨hb.2.1, hq.2.1⟩

theorem getD_len {ps : List (List Int)} (h : ∀ p ∈ ps, p.length = 8) (i : Nat) : (ps.getD i zero8).length = 8 := by
  rw [List.getD_eq_getElem?_getD]
  cases hi : ps[i]? with
  | none => rfl
  | some p => exact h p (List.mem_of_getElem? hi)

theorem readL_len {ps : List (List Int)} {qs : List (Int × List Int)} (h : Ok8 ps qs) (m : Int) : (readL ps qs m).length = 8 := by
  unfold readL
  split
  · cases hf : qs.reverse.find? (fun q => q.1 == m) with
    | none => exact getD_len h.1 _
    | some q => exact h.2 q (List.mem_reverse.1 (List.mem_of_find?_eq_some hf))
  · rfl

/-- What is wrong, asked of the numbers alone. -/
theorem wrongL_ok {n : Nat} {qs : List (Int × List Int)} (hn : n ≤ 80) (hq : qs.length ≤ 400) (hin : ∀ q ∈ qs, ∃ i : Nat, q.1 = (i : Int) ∧ i < n) : wrongL n qs = 0 := by
  unfold wrongL
  rw [if_neg (by omega), if_neg (by omega), if_neg]
  intro h
  obtain ⟨q, hq, hb⟩ := List.any_eq_true.1 h
  obtain ⟨i, hi, hlt⟩ := hin q hq
  simp [inB, hi, hlt] at hb

theorem wrongAtL_ok {n : Nat} {qs : List (Int × List Int)} {m : Int} (h : wrongL n qs = 0) {i : Nat} (hm : m = (i : Int)) (hi : i < n) : wrongAtL n qs m = 0 := by
  unfold wrongAtL
  rw [if_pos h, if_pos]
  simp [inB, hm, hi]

/-- Of a disk that is right a number is asked alone. -/
theorem wrongAtL_of {n : Nat} {qs : List (Int × List Int)} (h : wrongL n qs = 0) (m : Int) : wrongAtL n qs m = if inB m n then 0 else 3 := by
  unfold wrongAtL
  rw [if_pos h]

theorem writeB_len (ps : List (List Int)) (qs : List (Int × List Int)) : (writeB ps qs).length = ps.length := by
  unfold writeB
  split <;> simp

theorem write_right {ps : List (List Int)} {qs : List (Int × List Int)} {m : Int} {p : List Int} (h : wrongAtL ps.length qs m = 0) : wrongL (writeB ps qs).length (writeQ qs m p) = 0 := by
  obtain ⟨h0, i, hmi, hib⟩ := wrongAtL_zero h
  obtain ⟨h1, h2, h3⟩ := wrongL_zero h0
  rw [writeB_len]
  refine wrongL_ok h1 ?_ fun q hq => ?_
  · unfold writeQ
    split
    · simp; omega
    · simp; omega
  · unfold writeQ at hq
    rcases List.mem_append.1 hq with h4 | h4
    · split at h4
      · exact h3 q (List.mem_of_mem_tail h4)
      · exact h3 q h4
    · simp at h4
      subst h4
      exact ⟨i, hmi, hib⟩

def pickQ : Option (Int × List Int) → List Int → List Int
  | some q, _ => q.2
  | none, d => d

theorem readL_of {ps : List (List Int)} {qs : List (Int × List Int)} {m : Int} (h : wrongAtL ps.length qs m = 0) : readL ps qs m = pickQ (qs.reverse.find? (fun q => q.1 == m)) (ps.getD m.toNat zero8) := by
  unfold readL
  rw [if_pos h]
  cases qs.reverse.find? (fun q => q.1 == m) <;> rfl

theorem write_same {ps : List (List Int)} {qs : List (Int × List Int)} {m : Int} {p : List Int} (h : wrongAtL ps.length qs m = 0) : wrongAtL (writeB ps qs).length (writeQ qs m p) m = 0 ∧ readL (writeB ps qs) (writeQ qs m p) m = p := by
  have hr := write_right (p := p) h
  obtain ⟨_, i, hmi, hib⟩ := wrongAtL_zero h
  have h1 : wrongAtL (writeB ps qs).length (writeQ qs m p) m = 0 := wrongAtL_ok hr hmi (by rw [writeB_len]; exact hib)
  refine ⟨h1, ?_⟩
  rw [readL_of h1]
  simp [writeQ, pickQ]

theorem write_other_err {ps : List (List Int)} {qs : List (Int × List Int)} {m : Int} {p : List Int} (h : wrongAtL ps.length qs m = 0) (o : Int) : wrongAtL (writeB ps qs).length (writeQ qs m p) o = wrongAtL ps.length qs o := by
  rw [wrongAtL_of (write_right h), wrongAtL_of (wrongAtL_zero h).1, writeB_len]

theorem write_other {ps : List (List Int)} {qs : List (Int × List Int)} {m : Int} {p : List Int} (h : wrongAtL ps.length qs m = 0) {o : Int} (ho : ¬ o = m) : readL (writeB ps qs) (writeQ qs m p) o = readL ps qs o := by
  have he := write_other_err (p := p) h o
  by_cases hz : wrongAtL ps.length qs o = 0
  · rw [readL_of hz, readL_of (he.trans hz)]
    have hmo : (m == o) = false := by simpa using fun e => ho (Eq.symm e)
    unfold writeQ writeB
    by_cases h4 : qs.length = 400
    · rw [if_pos h4, if_pos h4]
      cases qs with
      | nil => simp at h4
      | cons q0 r =>
        obtain ⟨_, i, hoi, hio⟩ := wrongAtL_zero hz
        obtain ⟨i0, hq0, hi0⟩ := (wrongL_zero (wrongAtL_zero h).1).2.2 q0 (by simp)
        simp only [List.tail_cons, List.headD_cons, List.reverse_append, List.reverse_cons, List.reverse_nil, List.nil_append, List.cons_append, List.find?_cons, hmo, List.find?_append]
        cases hf : r.reverse.find? (fun q => q.1 == o) with
        | some q => rfl
        | none =>
          simp only [Option.none_or]
          cases hq : (q0.1 == o) with
          | true =>
            have : q0.1 = o := by simpa using hq
            subst this
            simp only [hq0, Int.toNat_natCast, pickQ]
            simp [List.getD_eq_getElem?_getD, hi0]
          | false =>
            have : q0.1 ≠ o := by simpa using hq
            simp only [List.find?_nil, pickQ]
            rw [List.getD_eq_getElem?_getD, List.getD_eq_getElem?_getD, List.getElem?_set_ne]
            rw [hq0, hoi] at this
            rw [hq0, hoi]
            simp only [Int.toNat_natCast]
            omega
    · rw [if_neg h4, if_neg h4]
      simp [hmo]
  · have hz' : ¬ wrongAtL (writeB ps qs).length (writeQ qs m p) o = 0 := by rw [he]; exact hz
    unfold readL
    rw [if_neg hz, if_neg hz']

end Go.Proofs.Ytbcaagmnmaonbab
