/- Contracts of the small functions on numbers of package page and of the document's answer: for every number they answer what is written here, and touch no memory. -/
import Derived.Test.YtbapaldfgmidpaaProg
import Derived.WalkKit
namespace Go.Proofs.Ytbapaldfgmidpaa
open Go.RowKit

theorem ret_int {k : IntKind} {a b : Int} (h : a = b) : Ending.returned (.int k a) = .returned (.int k b) := by rw [h]
theorem ret_bool {a b : Bool} (h : a = b) : Ending.returned (.bool a) = .returned (.bool b) := by rw [h]

def count (n : Int) : Int := if n < 1 then 0 else (n - 1) / 8 + 1
theorem count_one {n : Int} (h : n < 1) : count n = 0 := by unfold count; rw [if_pos h]
theorem count_more {n : Int} (h : ¬ n < 1) : count n = (n - 1) / 8 + 1 := by unfold count; rw [if_neg h]

theorem count_any (n : Int) (w : World) (h1 : -9223372036854775808 ≤ n) (h2 : n ≤ 9223372036854775807) :
    Calls Try.prog 11 #[.int .i64 n] w fun e w' => e = .returned (.int .i64 (count n)) ∧ w' = w := by
  by_cases h : n < 1
  · have H : Hid (count n = 0) := count_one h
    go_enter Try.func11, Try.ntmps11
    go_wp2
    go_ret
    exact ⟨ret_int H.out.symm, rfl⟩
  · have H : Hid (count n = (n - 1) / 8 + 1) := count_more h
    go_enter Try.func11, Try.ntmps11
    go_wp2
    go_ret
    exact ⟨ret_int H.out.symm, rfl⟩

theorem refCount_any (n : Int) (w : World) (h1 : -9223372036854775808 ≤ n) (h2 : n ≤ 9223372036854775807) :
    Calls Try.prog 12 #[.int .i64 n] w fun e w' => e = .returned (.int .i64 (count n)) ∧ w' = w := by
  by_cases h : n < 1
  · have H : Hid (count n = 0) := count_one h
    have h' : n ≤ 0 := by omega
    go_enter Try.func12, Try.ntmps12
    go_wp2
    go_ret
    exact ⟨ret_int H.out.symm, rfl⟩
  · have H : Hid (count n = (n - 1) / 8 + 1) := count_more h
    have h' : ¬ n ≤ 0 := by omega
    by_cases hr : 0 < n % 8
    · go_enter Try.func12, Try.ntmps12
      go_wp2
      go_ret
      exact ⟨ret_int (by rw [H.out]; show n / 8 + 1 = _; omega), rfl⟩
    · go_enter Try.func12, Try.ntmps12
      go_wp2
      go_ret
      exact ⟨ret_int (by rw [H.out]; show n / 8 = _; omega), rfl⟩

def within (m n : Int) : Bool := decide (0 ≤ m ∧ 0 ≤ n ∧ n ≤ 8 - m % 8)

theorem within_any (m n : Int) (w : World) (h1 : -9223372036854775808 ≤ m) (h2 : m ≤ 9223372036854775807) (h3 : -9223372036854775808 ≤ n) (h4 : n ≤ 9223372036854775807) :
    Calls Try.prog 6 #[.int .i64 m, .int .i64 n] w fun e w' => e = .returned (.bool (within m n)) ∧ w' = w := by
  by_cases hm : 0 ≤ m
  · by_cases hn : 0 ≤ n
    · have H : Hid (within m n = decide (n ≤ 8 - m % 8)) := show within m n = _ by unfold within; simp [hm, hn]
      go_enter Try.func6, Try.ntmps6
      go_wp2
      go_ret
      exact ⟨ret_bool H.out.symm, rfl⟩
    · have H : Hid (within m n = false) := show within m n = _ by unfold within; simp; omega
      go_enter Try.func6, Try.ntmps6
      go_wp2
      go_ret
      exact ⟨ret_bool H.out.symm, rfl⟩
  · have H : Hid (within m n = false) := show within m n = _ by unfold within; simp; omega
    go_enter Try.func6, Try.ntmps6
    go_wp2
    go_ret
    exact ⟨ret_bool H.out.symm, rfl⟩

def hasByte (m : Int) : Bool := decide (0 ≤ m ∧ m < 8)

theorem hasByte_any (m : Int) (w : World) :
    Calls Try.prog 14 #[.int .i64 m] w fun e w' => e = .returned (.bool (hasByte m)) ∧ w' = w := by
  by_cases hm : 0 ≤ m
  · have H : Hid (hasByte m = decide (m < 8)) := show hasByte m = _ by unfold hasByte; simp [hm]
    go_enter Try.func14, Try.ntmps14
    go_wp2
    go_ret
    exact ⟨ret_bool H.out.symm, rfl⟩
  · have H : Hid (hasByte m = false) := show hasByte m = _ by unfold hasByte; simp; omega
    go_enter Try.func14, Try.ntmps14
    go_wp2
    go_ret
    exact ⟨ret_bool H.out.symm, rfl⟩
end Go.Proofs.Ytbapaldfgmidpaa
