/- Contracts: what is wrong with a disk, and with a number beside it (package disk). -/
import Derived.Test.YtbcaagmnmaonbabWrong
namespace Go.Proofs.Ytbcaagmnmaonbab
open Go.RowKit

/-- What is wrong with a disk of n blocks for which qs wait. -/
def wrongL (n : Nat) (qs : List (Int × List Int)) : Int := if 80 < n then 4 else if 400 < qs.length then 4 else if qs.any (fun q => !inB q.1 n) then 3 else 0
def wrongAtL (n : Nat) (qs : List (Int × List Int)) (m : Int) : Int := if wrongL n qs = 0 then (if inB m n then 0 else 3) else wrongL n qs

theorem grew_alloc (w : World) (o : Obj) : Grew w (w.alloc o) := (Below.refl _ _).alloc (Nat.le_refl _) _

theorem pred_wrong1 (a : Option Addr) (n c : Nat) (qv : Value) (B : Nat) (w : World) (hc0 : w.cell? ⟨B, 0, none⟩ = some (.slice a n c)) (hc1 : w.cell? ⟨B, 1, none⟩ = some qv) :
    PredOk 44 #[.pointer (some ⟨B, 0, none⟩)] (fun q => !inB q.1 n) w := fun W q hW h8 => by
  have hB : B < w.heap.size := World.block_lt_of_cell? _ _ hc0
  exact wrong1_any a n c qv B q h8 W ((Below.cell hW (p := ⟨B, 0, none⟩) hB).trans hc0) ((Below.cell hW (p := ⟨B, 1, none⟩) hB).trans hc1)

set_option maxHeartbeats 1000000 in
theorem wrong_any (a : Option Addr) (n c : Nat) (qv : Value) (qs : List (Int × List Int)) (w : World) (hq : PutsAt w qv qs) :
    Calls Try.prog 26 #[.agg #[.slice a n c, qv]] w fun e w' => e = .returned (.int .i64 (wrongL n qs)) ∧ Grew w w' := by
  have HL : Hid (wrongL n qs = if 80 < n then 4 else if 400 < qs.length then 4 else if qs.any (fun q => !inB q.1 n) then 3 else 0) := rfl
  obtain ⟨a2, c2, rfl, _⟩ := hq.rows
  have hcon := containsFunc_any (fun q => !inB q.1 n) 44 #[.pointer (some ⟨w.heap.size, 0, none⟩)] (enters_of Try.func44 (by kernel_rfl) rfl) (.slice a2 qs.length c2) qs (w.alloc (.cells #[.slice a n c, .slice a2 qs.length c2] 25)) (hq.grew (grew_alloc _ _)) (pred_wrong1 a n c (.slice a2 qs.length c2) _ _ (by simp) (by simp))
  clear hq
  obtain ⟨nq, HN⟩ : ∃ nq, Hid (qs.length = nq) := ⟨_, rfl⟩
  rw [HN.out] at hcon HL ⊢
  obtain ⟨b, HB⟩ : ∃ b, Hid ((qs.any fun q => !inB q.1 n) = b) := ⟨_, rfl⟩
  rw [HB.out] at hcon HL
  by_cases h1 : 80 < n
  · have h1' : (80 : Int) < (n : Int) := by omega
    rw [if_pos h1] at HL
    clear hcon
    go_enter Try.func26, Try.ntmps26
    go_wp2
    go_ret
    exact ⟨by rw [HL.out]; rfl, grew_alloc _ _⟩
  · have h1' : ¬ (80 : Int) < (n : Int) := by omega
    rw [if_neg h1] at HL
    by_cases h2 : 400 < nq
    · have h2' : (400 : Int) < (nq : Int) := by omega
      rw [if_pos h2] at HL
      clear hcon
      go_enter Try.func26, Try.ntmps26
      go_wp2
      go_ret
      exact ⟨by rw [HL.out]; rfl, grew_alloc _ _⟩
    · have h2' : ¬ (400 : Int) < (nq : Int) := by omega
      rw [if_neg h2] at HL
      cases b with
      | true =>
        go_enter Try.func26, Try.ntmps26
        go_wp2_with (go_at_call 43; refine hcon.mono ?_; rintro e w' ⟨rfl, hg⟩)
        go_ret
        exact ⟨by rw [HL.out]; rfl, (grew_alloc _ _).trans hg⟩
      | false =>
        go_enter Try.func26, Try.ntmps26
        go_wp2_with (go_at_call 43; refine hcon.mono ?_; rintro e w' ⟨rfl, hg⟩)
        go_ret
        exact ⟨by rw [HL.out]; rfl, (grew_alloc _ _).trans hg⟩

set_option maxHeartbeats 1000000 in
theorem wrongAt_any (a : Option Addr) (n c : Nat) (qv : Value) (qs : List (Int × List Int)) (m : Int) (w : World) (hq : PutsAt w qv qs) :
    Calls Try.prog 29 #[.agg #[.slice a n c, qv], .int .i64 m] w fun e w' => e = .returned (.int .i64 (wrongAtL n qs m)) ∧ Grew w w' := by
  have HL : Hid (wrongAtL n qs m = if wrongL n qs = 0 then (if inB m n then 0 else 3) else wrongL n qs) := rfl
  have hcon := wrong_any a n c qv qs (w.alloc (.cells #[.slice a n c, qv] 25)) (hq.grew (grew_alloc _ _))
  clear hq
  obtain ⟨r, HR⟩ : ∃ r, Hid (wrongL n qs = r) := ⟨_, rfl⟩
  rw [HR.out] at hcon HL
  by_cases hr : r = 0
  · subst hr
    rw [if_pos rfl] at HL
    cases hb : inB m n with
    | true =>
      rw [hb] at HL
      go_enter Try.func29, Try.ntmps29
      go_wp2_with (first
        | (go_at_call 26; refine hcon.mono ?_; rintro e w' ⟨rfl, hg⟩; have e0 : w'.cell? ⟨w.heap.size, 0, none⟩ = some (.slice a n c) := (Below.cell hg (by simp)).trans (by simp); have e1 : w'.cell? ⟨w.heap.size, 1, none⟩ = some qv := (Below.cell hg (by simp)).trans (by simp))
        | (go_at_call 45; refine (hasBlock_any _ _ _ _ _ _).mono ?_; rintro e w'' ⟨rfl, hg2⟩; rw [hb]))
      go_ret
      exact ⟨by rw [HL.out]; rfl, ((grew_alloc _ _).trans hg).trans hg2⟩
    | false =>
      rw [hb] at HL
      go_enter Try.func29, Try.ntmps29
      go_wp2_with (first
        | (go_at_call 26; refine hcon.mono ?_; rintro e w' ⟨rfl, hg⟩; have e0 : w'.cell? ⟨w.heap.size, 0, none⟩ = some (.slice a n c) := (Below.cell hg (by simp)).trans (by simp); have e1 : w'.cell? ⟨w.heap.size, 1, none⟩ = some qv := (Below.cell hg (by simp)).trans (by simp))
        | (go_at_call 45; refine (hasBlock_any _ _ _ _ _ _).mono ?_; rintro e w'' ⟨rfl, hg2⟩; rw [hb]))
      go_ret
      exact ⟨by rw [HL.out]; rfl, ((grew_alloc _ _).trans hg).trans hg2⟩
  · have hne : (r != 0) = true := by simpa using hr
    rw [if_neg hr] at HL
    go_enter Try.func29, Try.ntmps29
    go_wp2_with (go_at_call 26; refine hcon.mono ?_; rintro e w' ⟨rfl, hg⟩)
    go_ret
    exact ⟨by rw [HL.out]; rfl, (grew_alloc _ _).trans hg⟩

end Go.Proofs.Ytbcaagmnmaonbab
