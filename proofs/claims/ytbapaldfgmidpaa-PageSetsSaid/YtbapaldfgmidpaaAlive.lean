/- The closed fact that the law PageSets asks first is true. -/
import Derived.Test.YtbapaldfgmidpaaCut
import Derived.Test.YtbapaldfgmidpaaLeaves
import Derived.Test.YtbapaldfgmidpaaSet
import Derived.ChangeKeysEq
namespace Go.Proofs.Ytbapaldfgmidpaa
open Go.RowKit

theorem alive_bytes (w : World) : BytesAt (w.alloc (Obj.cells #[.int .u8 7, .int .u8 8] 5)) (.slice (some ⟨w.heap.size, 0, none⟩) 2 2) [7, 8] := by
  refine ⟨some ⟨w.heap.size, 0, none⟩, 2, rfl, fun h => (by cases h), fun x hx j u hj => ?_⟩
  cases hx
  rw [Addr_add_none, World.cell?_alloc_new, Nat.zero_add]
  simpa using hj
theorem index_page (w : World) (cs : Array Value) (i : Nat) (v : Value) (hi : i < 8) (hv : cs[i]? = some v) : (Instr.index 23 (.agg cs) (.int .i64 i)).run Try.prog w = .ok v w := by
  obtain ⟨i5, hi5, _, hz1, _⟩ := info_parts Try.info5
  have hp := run_part_plain (P := Try.prog) w (e := 5) (by simp [Program.plainKey, Try.underlying5]) hv
  simp [Instr.index, asIntOf, run_underlying Try.underlying23, sizeOf, typeInfo, hi5, hz1, hp]
  omega

theorem alive_set : setL [0, 0, 0, 0, 0, 0, 0, 0] 2 [7, 8] = [0, 0, 7, 8, 0, 0, 0, 0] := by decide
theorem alive_get : getL [0, 0, 7, 8, 0, 0, 0, 0] 2 2 = [7, 8] := by decide

set_option maxHeartbeats 1000000 in
theorem alive_any (w : World) : Calls Try.prog 13 #[] w fun e w' => e = .returned (.bool true) ∧ Grew w w' := by
  have HB : Hid (BytesAt (w.alloc (Obj.cells #[.int .u8 7, .int .u8 8] 5)) (.slice (some ⟨w.heap.size, 0, none⟩) 2 2) [7, 8]) := alive_bytes w
  have H1 : within 9 7 = true := by decide
  have H2 : within 9 8 = false := by decide
  have H3 : count 9 = 2 := by decide
  have H4 : ∀ w cs v, cs[3]? = some v → (Instr.index 23 (.agg cs) (.int .i64 3)).run Try.prog w = .ok v w := fun w cs v h => index_page w cs 3 v (by omega) h
  have H5 : ct 3 8 3 8 = 0 := by decide
  go_enter Try.func13, Try.ntmps13
  go_wp2_with (first
    | (go_at_call 9; refine (set_any 0 0 0 0 0 0 0 0 0 0 7 8 0 0 0 0 2 [7, 8] _ _ (by omega) (by omega) HB.out alive_set).mono ?_; rintro e w1 ⟨rfl, hg1⟩)
    | (go_at_call 7; refine (get_any 0 0 7 8 0 0 0 0 2 2 _ (by omega) (by omega) (by omega) (by omega)).mono ?_; rintro e w2 ⟨v2, rfl, ⟨a2, cap2, rfl, _, _⟩, hg2⟩; rw [alive_get]; have hc2 := fun o => Below.cell hg2 (p := ⟨w1.heap.size, o, none⟩) (by simp))
    | (go_at_call 6; refine (within_any _ _ _ (by omega) (by omega) (by omega) (by omega)).mono ?_; rintro e w3 ⟨rfl, rfl⟩)
    | (go_at_call 11; refine (count_any _ _ (by omega) (by omega)).mono ?_; rintro e w3 ⟨rfl, rfl⟩)
    | (go_at_call 5; refine (cut_any 0 0 7 8 0 0 0 0 3 _ (by omega) (by omega)).mono ?_; rintro e w4 ⟨rfl, hg4⟩))
  go_ret
  refine ⟨rfl, ?_⟩
  have g0 : Grew w (w.alloc (Obj.cells #[.int .u8 7, .int .u8 8] 5)) := (Below.refl _ _).alloc (Nat.le_refl _) _
  have g1 : ∀ o, Grew w1 (w1.alloc o) := fun o => (Below.refl _ _).alloc (Nat.le_refl _) _
  exact ((g0.trans hg1).trans (g1 _)).trans (hg2.trans hg4)
end Go.Proofs.Ytbapaldfgmidpaa
