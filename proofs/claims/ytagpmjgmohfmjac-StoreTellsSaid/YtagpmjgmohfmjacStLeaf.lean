/- Contracts of the small functions: below, Count (package page, and the document's), slices.Clone of numbers and of files. -/
import Derived.Test.YtagpmjgmohfmjacStData
namespace Go.Proofs.Ytagpmjgmohfmjac
open Go.RowKit

def bel (m n : Int) : Bool := decide (0 ≤ m) && decide (m < n)
theorem bel_iff {m n : Int} : bel m n = true ↔ 0 ≤ m ∧ m < n := by simp [bel]
theorem bel_no {m n : Int} (h : ¬ (0 ≤ m ∧ m < n)) : bel m n = false := by
  cases hb : bel m n with
  | false => rfl
  | true => exact absurd (bel_iff.1 hb) h

theorem below_any (m n : Int) (w : World) :
    Calls Try.prog 33 #[.int .i64 m, .int .i64 n] w fun e w' => e = .returned (.bool (bel m n)) ∧ w' = w := by
  have H : Hid (bel m n = (decide (0 ≤ m) && decide (m < n))) := rfl
  by_cases h0 : 0 ≤ m
  · by_cases h1 : m < n
    · go_enter Try.func33, Try.ntmps33
      go_wp2
      go_ret
      exact ⟨by rw [H.out]; simp [*], rfl⟩
    · go_enter Try.func33, Try.ntmps33
      go_wp2
      go_ret
      exact ⟨by rw [H.out]; simp [*], rfl⟩
  · go_enter Try.func33, Try.ntmps33
    go_wp2
    go_ret
    exact ⟨by rw [H.out]; simp; omega, rfl⟩

theorem below_yes {m n : Int} (h0 : 0 ≤ m) (h1 : m < n) (w : World) : Calls Try.prog 33 #[.int .i64 m, .int .i64 n] w fun e w' => e = .returned (.bool true) ∧ w' = w := by
  have := below_any m n w
  rw [bel_iff.2 ⟨h0, h1⟩] at this
  exact this
theorem below_no {m n : Int} (h : ¬ (0 ≤ m ∧ m < n)) (w : World) : Calls Try.prog 33 #[.int .i64 m, .int .i64 n] w fun e w' => e = .returned (.bool false) ∧ w' = w := by
  have := below_any m n w
  rw [bel_no h] at this
  exact this

theorem ret_int {a b : Int} (h : a = b) : Ending.returned (.int .i64 a) = .returned (.int .i64 b) := by rw [h]

theorem count_any (n : Int) (w : World) (h1 : 0 ≤ n) (h2 : n ≤ 96) :
    Calls Try.prog 27 #[.int .i64 n] w fun e w' => e = .returned (.int .i64 (cntP n)) ∧ w' = w := by
  by_cases h : n < 1
  · have H : Hid (cntP n = 0) := show _ = _ by unfold cntP; rw [if_pos h]
    go_enter Try.func27, Try.ntmps27
    go_wp2
    go_ret
    exact ⟨ret_int H.out.symm, rfl⟩
  · have H : Hid (cntP n = (n - 1) / 8 + 1) := show _ = _ by unfold cntP; rw [if_neg h]
    go_enter Try.func27, Try.ntmps27
    go_wp2
    go_ret
    exact ⟨ret_int H.out.symm, rfl⟩

theorem refCount_any (n : Int) (w : World) (h1 : 0 ≤ n) (h2 : n ≤ 96) :
    Calls Try.prog 36 #[.int .i64 n] w fun e w' => e = .returned (.int .i64 (cntP n)) ∧ w' = w := by
  by_cases h : n < 1
  · have H : Hid (cntP n = 0) := show _ = _ by unfold cntP; rw [if_pos h]
    have h' : n ≤ 0 := by omega
    go_enter Try.func36, Try.ntmps36
    go_wp2
    go_ret
    exact ⟨ret_int H.out.symm, rfl⟩
  · have H : Hid (cntP n = (n - 1) / 8 + 1) := show _ = _ by unfold cntP; rw [if_neg h]
    have h' : ¬ n ≤ 0 := by omega
    by_cases hr : 0 < n % 8
    · have H' : Hid (cntP n = n / 8 + 1) := show _ = _ by rw [H.out]; omega
      go_enter Try.func36, Try.ntmps36
      go_wp2
      go_ret
      exact ⟨ret_int H'.out.symm, rfl⟩
    · have H' : Hid (cntP n = n / 8) := show _ = _ by rw [H.out]; omega
      go_enter Try.func36, Try.ntmps36
      go_wp2
      go_ret
      exact ⟨ret_int H'.out.symm, rfl⟩

set_option maxHeartbeats 1000000 in
theorem cloneInt_any (v : Value) (fs : List Int) (w : World) (hv : RowAt blE w v fs) :
    Calls Try.prog 38 #[v] w fun e w' => ∃ v', e = .returned v' ∧ OwnRow blE w.heap.size w' v' fs ∧ Grew w w' := by
  have HV : Hid (RowAt blE w v fs) := hv
  obtain ⟨⟨a, c, rfl, hnone, hcells⟩, hbytes⟩ := hv
  have q22 : ∀ (w : World) (a : Option Addr) (n c n' c' : Nat), (binOp .eql 22 (.slice a n c) (.slice none n' c')).run Try.prog w = .ok (.bool a.isNone) w := fun w a n c n' c' => Lib.run_eql_slice_nil w _ _ a n c n' c' Try.underlying22
  cases a with
  | none =>
    have hps := hnone rfl
    subst hps
    clear hcells hnone hbytes HV
    go_enter Try.func38, Try.ntmps38
    go_wp2
    go_ret
    exact ⟨_, rfl, OwnRow.nil _ _ _, Grew.refl w⟩
  | some x =>
    have HB : Hid (fs.length * 8 ≤ 140737488355328) := hbytes
    clear hcells hnone hbytes
    go_enter Try.func38, Try.ntmps38
    go_wp2_with (at_builtin; refine wpList_append_row (E := blE) rfl (.tmp 5) (.tmp 6) rfl w.heap.size _ [] rfl (OwnRow.made blE w) _ fs rfl (HV.out.grew (grew_alloc _ _)) ?qb (by simp) ?_)
    case qb => rw [List.length_nil, Nat.zero_add]; exact HB.out
    intro v' w1 hown hgrow
    go_wp2
    go_ret
    exact ⟨v', rfl, by simpa using hown, ((Below.refl _ w).alloc (Nat.le_refl _) _).grown hgrow (by simp) (by intro k hk; simp [Value.ownBlock] at hk; omega)⟩

set_option maxHeartbeats 1000000 in
theorem cloneFile_any (v : Value) (fs : List FlV) (w : World) (hv : RowAt fvE w v fs) :
    Calls Try.prog 37 #[v] w fun e w' => ∃ v', e = .returned v' ∧ OwnRow fvE w.heap.size w' v' fs ∧ Grew w w' := by
  have HV : Hid (RowAt fvE w v fs) := hv
  obtain ⟨⟨a, c, rfl, hnone, hcells⟩, hbytes⟩ := hv
  have q22 : ∀ (w : World) (a : Option Addr) (n c n' c' : Nat), (binOp .eql 34 (.slice a n c) (.slice none n' c')).run Try.prog w = .ok (.bool a.isNone) w := fun w a n c n' c' => Lib.run_eql_slice_nil w _ _ a n c n' c' Try.underlying34
  cases a with
  | none =>
    have hps := hnone rfl
    subst hps
    clear hcells hnone hbytes HV
    go_enter Try.func37, Try.ntmps37
    go_wp2
    go_ret
    exact ⟨_, rfl, OwnRow.nil _ _ _, Grew.refl w⟩
  | some x =>
    have HB : Hid (fs.length * 32 ≤ 140737488355328) := hbytes
    clear hcells hnone hbytes
    go_enter Try.func37, Try.ntmps37
    go_wp2_with (at_builtin; refine wpList_append_row (E := fvE) rfl (.tmp 5) (.tmp 6) rfl w.heap.size _ [] rfl (OwnRow.made fvE w) _ fs rfl (HV.out.grew (grew_alloc _ _)) ?qb (by simp) ?_)
    case qb => rw [List.length_nil, Nat.zero_add]; exact HB.out
    intro v' w1 hown hgrow
    go_wp2
    go_ret
    exact ⟨v', rfl, by simpa using hown, ((Below.refl _ w).alloc (Nat.le_refl _) _).grown hgrow (by simp) (by intro k hk; simp [Value.ownBlock] at hk; omega)⟩

end Go.Proofs.Ytagpmjgmohfmjac
