/- Contract of New (package frames). -/
import Derived.Test.YtbcaagmnmaonbabMemRepeat
namespace Go.Proofs.Ytbcaagmnmaonbab
open Go.RowKit

def newME (n : Int) : Int := if 0 ≤ n ∧ n ≤ 40 then 0 else 4
def newMF (n : Int) : List Fr := if 0 ≤ n ∧ n ≤ 40 then List.replicate n.toNat frF else []

set_option maxRecDepth 100000 in
set_option maxHeartbeats 1000000 in
theorem repeat_zero (q : Fr) (x : Nat) (c : Nat) (w : World) :
    Calls Try.prog 35 #[.slice (some ⟨x, 0, none⟩) 1 c, .int .i64 0] w fun e w' => ∃ b, e = .returned b ∧ NewRow w.heap.size w' b (List.replicate 0 q) ∧ Grew w w' := by
  have hm := mul_one 0 (by omega) w
  go_enter Try.func35, Try.ntmps35
  go_wp2_with (first
    | (go_at_call 48; refine hm.mono ?_; rintro e w' ⟨rfl, hw⟩; rw [hw])
    | (refine wpList_make_row rfl (.tmp 29) rfl 0 rfl (by show 0 * 40 ≤ _; omega) ?_; intro C ow; have OW : Hid (OwnRow w.heap.size (w.alloc (.cells C 47)) (.slice (some ⟨w.heap.size, 0, none⟩) 0 0) (List.replicate 0 fr0)) := ow; clear ow)
    | (refine wpList_copy_elts rfl (.tmp 31) (.tmp 32) rfl w.heap.size (.slice (some ⟨w.heap.size, 0, none⟩) 0 0) (List.replicate 0 fr0) OW.out w.heap.size rfl 0 0 0 _ rfl ?a1 _ 1 c rfl [] ?a2 ?a3 ?a4 ?_))
  case a1 => simp
  case a2 => rfl
  case a3 => intro j u hj; simp at hj
  case a4 => simp
  intro W1 ow1 gr1 _
  have OW1 : Hid (OwnRow w.heap.size W1 (.slice (some ⟨w.heap.size, 0, none⟩) 0 0) (List.replicate 0 q)) := show OwnRow _ _ _ ([] : List Fr) by simpa using ow1
  have G1 : Hid (Grew w W1) := grew_grown (grew_alloc _ _) gr1 (Nat.le_refl _)
  clear ow1 gr1
  go_wp2
  go_loopg [8] 0 (fun _ s8 wr => s8 = .int .i64 0 ∧ wr = W1)
  case atStart => exact ⟨rfl, rfl⟩
  case round =>
    obtain ⟨rfl, rfl⟩ := hrel
    go_wp2
    go_ret
    exact ⟨_, rfl, OW1.out.new, G1.out⟩

set_option maxRecDepth 100000 in
set_option maxHeartbeats 1000000 in
theorem newMem_nat (n : Nat) (hn : n ≤ 40) (w : World) :
    Calls Try.prog 15 #[.int .i64 (n : Int)] w fun e w' => ∃ b, e = .returned (.tuple #[.agg #[b, .int .i64 0], .int .i64 0]) ∧ NewRow w.heap.size w' b (List.replicate n frF) ∧ Grew w w' := by
  have hnz : ¬ (n : Int) < 0 := by omega
  have hn4 : ¬ (40 : Int) < (n : Int) := by omega
  have hrep : ∀ W x, Box W x (frv frF) → Calls Try.prog 35 #[.slice (some ⟨x, 0, none⟩) 1 1, .int .i64 (n : Int)] W fun e w' => ∃ b, e = .returned b ∧ NewRow W.heap.size w' b (List.replicate n frF) ∧ Grew W w' := fun W x hx => by
    by_cases h1 : 1 ≤ n
    · refine repeat_any frF x 1 n hn h1 W ⟨⟨_, 1, rfl, fun h => (by cases h), fun y hy => ?_⟩, by show 1 * 40 ≤ _; omega⟩
      cases hy
      intro j u hj
      rw [Addr.add_lit, Nat.zero_add]
      exact hx.c j (by have h := hj; simp only [List.flatMap_cons, List.flatMap_nil, List.append_nil] at h; exact h)
    · have : n = 0 := by omega
      subst this
      exact repeat_zero frF x 1 W
  go_enter Try.func15, Try.ntmps15
  go_wp2_with fail
  refine (freeFrame_any _).mono ?_
  rintro e W1 ⟨rfl, g1⟩
  have X2 : Hid (Box W1 w.heap.size [.slice none 0 0, .int .i64 0]) := (Box.top w [.slice none 0 0, .int .i64 0] _ rfl).grew g1
  have G1 : Hid (Grew w W1) := (grew_alloc _ _).trans g1
  clear g1
  simp only [frv, frF, pg0]
  go_wp2_with fail
  refine (hrep _ _ (Box.top W1 _ _ rfl)).mono ?_
  rintro e W2 ⟨b, rfl, hb, g2⟩
  obtain ⟨a2, c2, rfl, _⟩ := hb.1.rows
  rw [List.length_replicate] at hb ⊢
  have NB : Hid (NewRow W1.heap.size W2 (.slice a2 n c2) (List.replicate n frF)) := hb.base (by simp)
  have X22 := (X2.out.alloc (.cells #[.int .u8 0, .int .u8 0, .int .u8 0, .int .u8 0, .int .u8 0, .int .u8 0, .int .u8 0, .int .u8 0, .int .i64 0, .bool false, .bool false, .int .i64 (-1), .int .i64 0] 47)).grew g2
  have G2 : Hid (Grew w W2) := (G1.out.trans (grew_alloc _ _)).trans g2
  have r0 := X22.c 0 rfl
  have r1 := X22.c 1 rfl
  have rf := X22.f
  have HX : Hid (w.heap.size < W1.heap.size) := X2.out.lt
  clear hb g2 X22
  go_wp2
  refine bodyPost_ret (v := .tuple #[.agg #[.slice a2 n c2, .int .i64 0], .int .i64 0]) (by simp [results, Try.results15, go_sem, *]) rfl ⟨_, rfl, ?_, ?_⟩
  · exact ((NB.out.setCell (a := ⟨w.heap.size, 0, none⟩) HX.out _).setCell (a := ⟨w.heap.size, 1, none⟩) HX.out _).base (Below.size G1.out)
  · exact grew_set (grew_set G2.out (by simp) _) (by simp) _

set_option maxHeartbeats 1000000 in
theorem newMem_bad (n : Int) (hn : ¬ (0 ≤ n ∧ n ≤ 40)) (w : World) :
    Calls Try.prog 15 #[.int .i64 n] w fun e w' => ∃ b, e = .returned (.tuple #[.agg #[b, .int .i64 0], .int .i64 4]) ∧ NewRow w.heap.size w' b ([] : List Fr) ∧ Grew w w' := by
  by_cases h0 : n < 0
  · go_enter Try.func15, Try.ntmps15
    go_wp2
    refine bodyPost_ret (v := .tuple #[.agg #[.slice none 0 0, .int .i64 0], .int .i64 4]) (by simp [results, Try.results15, go_sem, *]) rfl ⟨_, rfl, NewRow.nil _ _, ?_⟩
    exact grew_alloc _ _
  · have h1 : 40 < n := by omega
    go_enter Try.func15, Try.ntmps15
    go_wp2
    refine bodyPost_ret (v := .tuple #[.agg #[.slice none 0 0, .int .i64 0], .int .i64 4]) (by simp [results, Try.results15, go_sem, *]) rfl ⟨_, rfl, NewRow.nil _ _, ?_⟩
    exact grew_alloc _ _

end Go.Proofs.Ytbcaagmnmaonbab
