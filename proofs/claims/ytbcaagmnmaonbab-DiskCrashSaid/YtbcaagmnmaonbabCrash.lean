/- Contract of Crash (package disk). -/
import Derived.Test.YtbcaagmnmaonbabBox
namespace Go.Proofs.Ytbcaagmnmaonbab
open Go.RowKit

/-- Whether number j stays in a crash of m. -/
def crashK (m : Int) (j : Nat) : Bool := bits BinOp.and IntKind.i64 (m / 2 ^ (j % 60)) 1 == 1

theorem crash1_any (m : Int) (B : Nat) (j : Nat) (hj : j ≤ 400) (w : World) (hc : w.cell? ⟨B, 0, none⟩ = some (.int .i64 m)) :
    Calls Try.prog 28 #[.int .i64 (j : Int), .pointer (some ⟨B, 0, none⟩)] w fun e w' => e = .returned (.bool (crashK m j)) ∧ Grew w w' := by
  have H : Hid (crashK m j = (bits BinOp.and IntKind.i64 (m / 2 ^ (j % 60)) 1 == 1)) := rfl
  go_enter Try.func28, Try.ntmps28
  go_wp2
  go_ret
  rw [H.out]
  exact ⟨rfl, Grew.refl _⟩

theorem stays_crash1 (m : Int) (B : Nat) (w : World) (hc : w.cell? ⟨B, 0, none⟩ = some (.int .i64 m)) : StaysOk 28 #[.pointer (some ⟨B, 0, none⟩)] (crashK m) w := fun W j hW hj =>
  crash1_any m B j hj W ((Below.cell hW (World.block_lt_of_cell? _ _ hc)).trans hc)

set_option maxHeartbeats 1000000 in
theorem crash_any (d : Value) (ps : List (List Int)) (qs : List (Int × List Int)) (m : Int) (w : World) (hd : DiskAt w d ps qs) :
    Calls Try.prog 9 #[d, .int .i64 m] w fun e w' => ∃ d', e = .returned (.tuple #[d', .int .i64 (wrongL ps.length qs)]) ∧ NewDisk w.heap.size w' d' (keepD (crashK m) ps qs) [] ∧ Grew w w' := by
  have HD : Hid (DiskAt w d ps qs) := hd
  obtain ⟨b, q, rfl, hb, hq⟩ := hd
  obtain ⟨ab, cb, rfl, _⟩ := hb.rows
  obtain ⟨aq, cq, rfl, _⟩ := hq.rows
  clear hb hq
  obtain ⟨W0, hW0⟩ : ∃ W0, ((w.alloc (.cells #[.slice ab ps.length cb, .slice aq qs.length cq] 25)).alloc (.cells #[.int .i64 m] 3)).alloc (.cells #[.slice none 0 0, .slice none 0 0] 25) = W0 := ⟨_, rfl⟩
  have HG0 : Hid (Grew w W0) := show Grew w W0 by rw [← hW0]; exact ((grew_alloc _ _).trans (grew_alloc _ _)).trans (grew_alloc _ _)
  have B1 : Box W0 (w.heap.size + 1) [.int .i64 m] := by rw [← hW0]; exact (Box.top _ [.int .i64 m] _ (by simp)).alloc _
  have B2 : Box W0 (w.heap.size + 1 + 1) [.slice none 0 0, .slice none 0 0] := by rw [← hW0]; exact Box.top _ [.slice none 0 0, .slice none 0 0] _ (by simp)
  have hcon := settle_any (crashK m) 28 #[.pointer (some ⟨w.heap.size + 1, 0, none⟩)] (enters_of Try.func28 (by kernel_rfl) rfl) _ ps qs W0 (HD.out.grew HG0.out) (stays_crash1 m (w.heap.size + 1) W0 (B1.c 0 rfl))
  have HB2 : Hid (Box W0 (w.heap.size + 1 + 1) [.slice none 0 0, .slice none 0 0]) := B2
  obtain ⟨nb, HNB⟩ : ∃ nb, Hid (ps.length = nb) := ⟨_, rfl⟩
  obtain ⟨nq, HNQ⟩ : ∃ nq, Hid (qs.length = nq) := ⟨_, rfl⟩
  obtain ⟨r, HW⟩ : ∃ r, Hid (wrongL nb qs = r) := ⟨_, rfl⟩
  rw [HNB.out, HNQ.out, HW.out] at hcon
  rw [HNB.out, HNQ.out] at hW0
  have HW0 : Hid (_ = W0) := hW0
  clear hW0
  rw [HNB.out, HNQ.out, HW.out]
  clear B1 B2
  go_enter Try.func9, Try.ntmps9
  go_wp2_with (go_at_call 27; rw [HW0.out]
               refine hcon.mono ?_
               rintro e W1 ⟨d1, rfl, hd1, hg1⟩
               have b3 : Box W1 (w.heap.size + 1 + 1) [.slice none 0 0, .slice none 0 0] := HB2.out.grew hg1
               have c2 := b3.c 0 rfl
               have c3 := b3.c 1 rfl
               have f2 := b3.f 0
               have f3 := b3.f 1
               have HD1 : Hid (NewDisk W0.heap.size W1 d1 (keepD (crashK m) ps qs) []) := hd1
               have HG1 : Hid (Grew w W1) := HG0.out.trans hg1
               obtain ⟨v1, v2, rfl, hv1, hv2, _⟩ := hd1
               obtain ⟨x1, y1, rfl, _⟩ := hv1.rows
               obtain ⟨x2, y2, rfl, _⟩ := hv2.rows
               clear hv1 hv2 b3)
  refine bodyPost_ret (v := .tuple #[.agg #[.slice x1 (keepD (crashK m) ps qs).length y1, .slice x2 0 y2], .int .i64 r]) (by simp [results, Try.results9, go_sem, *]) rfl ⟨_, rfl, ?_, ?_⟩
  · have := HB2.out.lt
    exact ((HD1.out.setCell (by simpa using this) _).setCell (by simpa using this) _).base (Below.size HG0.out)
  · exact Below.setCell (Below.setCell HG1.out (p := ⟨w.heap.size + 1 + 1, 0, none⟩) (by simp; omega) _) (p := ⟨w.heap.size + 1 + 1, 1, none⟩) (by simp; omega) _

end Go.Proofs.Ytbcaagmnmaonbab
