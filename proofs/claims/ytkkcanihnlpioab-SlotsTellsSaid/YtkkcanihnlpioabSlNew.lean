/- Contract of New (package slots). -/
import Derived.Test.YtkkcanihnlpioabSlFree
namespace Go.Proofs.Ytkkcanihnlpioab
open Go.RowKit

set_option maxHeartbeats 1000000 in
theorem newS_nat (n : Nat) (hn : n ≤ 60) (w : World) :
    Calls Try.prog 25 #[.int .i64 (n : Int)] w fun e w' => ∃ a' c', e = .returned (.tuple #[.slice a' n c', .int .i64 0]) ∧ NewRow slE w.heap.size w' (.slice a' n c') (List.replicate n 0) ∧ Grew w w' := by
  have hnz : ¬ (n : Int) < 0 := by omega
  have hn4 : ¬ (60 : Int) < (n : Int) := by omega
  go_enter Try.func25, Try.ntmps25
  go_wp2_with (refine wpList_make_row slE rfl (.tmp 10) rfl n rfl (by show n * 8 ≤ _; omega) ?_)
  intro C ow
  have OW : Hid (OwnRow slE w.heap.size (w.alloc (.cells C 3)) (.slice (some ⟨w.heap.size, 0, none⟩) n n) (List.replicate n 0)) := ow
  clear ow
  show wpList _ _ _ _ _ (w.alloc (.cells C 3))
  obtain ⟨W1, hW1⟩ : ∃ W1, w.alloc (.cells C 3) = W1 := ⟨_, rfl⟩
  have G1 : Hid (Grew w W1) := show Grew _ _ by rw [← hW1]; exact grew_alloc _ _
  rw [hW1] at OW ⊢
  clear hW1
  go_wp2
  refine bodyPost_ret (v := .tuple #[.slice (some ⟨w.heap.size, 0, none⟩) n n, .int .i64 0]) (by simp [results, Try.results25, go_sem, *]) rfl ⟨_, _, rfl, OW.out.new, G1.out⟩

set_option maxHeartbeats 1000000 in
theorem newS_bad (n : Int) (hn : ¬ (0 ≤ n ∧ n ≤ 60)) (w : World) :
    Calls Try.prog 25 #[.int .i64 n] w fun e w' => e = .returned (.tuple #[.slice none 0 0, .int .i64 4]) ∧ Grew w w' := by
  by_cases h0 : n < 0
  · clear hn
    go_enter Try.func25, Try.ntmps25
    go_wp2
    refine bodyPost_ret (v := .tuple #[.slice none 0 0, .int .i64 4]) (by simp [results, Try.results25, go_sem, *]) rfl ⟨rfl, Grew.refl _⟩
  · have h1 : 60 < n := by omega
    clear hn
    go_enter Try.func25, Try.ntmps25
    go_wp2
    refine bodyPost_ret (v := .tuple #[.slice none 0 0, .int .i64 4]) (by simp [results, Try.results25, go_sem, *]) rfl ⟨rfl, Grew.refl _⟩

end Go.Proofs.Ytkkcanihnlpioab
