/- Contract of With (the document's answer): a memory with a frame that is another one. -/
import Derived.Test.YtbcaagmnmaonbabMemOwn
import Derived.Deep.Cut
namespace Go.Proofs.Ytbcaagmnmaonbab
open Go.RowKit

set_option maxRecDepth 100000 in
set_option maxHeartbeats 1000000 in
theorem with_any (a : Option Addr) (c : Nat) (fs : List Fr) (h : Int) (i : Nat) (hi : i < fs.length) (q : Fr) (w : World) (hv : RowAt w (.slice a fs.length c) fs) :
    Calls Try.prog 39 #[.agg #[.slice a fs.length c, .int .i64 h], .int .i64 (i : Int), .agg (frv q).toArray] w fun e w' => ∃ b, e = .returned (.agg #[b, .int .i64 h]) ∧ NewRow w.heap.size w' b (fs.set i q) ∧ Grew w w' := by
  have HV : Hid (RowAt w (.slice a fs.length c) fs) := hv
  have hbig := hv.short
  have HB : Hid (fs.length * 40 ≤ 140737488355328) := hv.2
  clear hv
  obtain ⟨n, HN⟩ : ∃ n, Hid (fs.length = n) := ⟨_, rfl⟩
  rw [HN.out] at HV hi hbig HB ⊢
  have hiz : (i : Int) < (n : Int) := by omega
  show Calls Try.prog 39 #[.agg #[.slice a n c, .int .i64 h], .int .i64 (i : Int), .agg #[.int .u8 q.p.b0, .int .u8 q.p.b1, .int .u8 q.p.b2, .int .u8 q.p.b3, .int .u8 q.p.b4, .int .u8 q.p.b5, .int .u8 q.p.b6, .int .u8 q.p.b7, .int .i64 q.r, .bool q.u, .bool q.d, .int .i64 q.f, .int .i64 q.x]] w _
  obtain ⟨W0, hW0⟩ : ∃ W0, (((w.alloc (.cells #[.slice a n c, .int .i64 h] 39)).alloc (.cells #[.int .u8 q.p.b0, .int .u8 q.p.b1, .int .u8 q.p.b2, .int .u8 q.p.b3, .int .u8 q.p.b4, .int .u8 q.p.b5, .int .u8 q.p.b6, .int .u8 q.p.b7, .int .i64 q.r, .bool q.u, .bool q.d, .int .i64 q.f, .int .i64 q.x] 47)).alloc (.cells #[.slice none 0 0, .int .i64 0] 39)) = W0 := ⟨_, rfl⟩
  have HG0 : Hid (Grew w W0) := show Grew w W0 by rw [← hW0]; exact ((grew_alloc _ _).trans (grew_alloc _ _)).trans (grew_alloc _ _)
  have X0 : Hid (Box W0 w.heap.size [.slice a n c, .int .i64 h]) := show Box _ _ _ by rw [← hW0]; exact ((Box.top w _ _ rfl).alloc _).alloc _
  have X1 : Hid (Box W0 (w.heap.size + 1) [.int .u8 q.p.b0, .int .u8 q.p.b1, .int .u8 q.p.b2, .int .u8 q.p.b3, .int .u8 q.p.b4, .int .u8 q.p.b5, .int .u8 q.p.b6, .int .u8 q.p.b7, .int .i64 q.r, .bool q.u, .bool q.d, .int .i64 q.f, .int .i64 q.x]) := show Box _ _ _ by rw [← hW0]; exact (Box.top _ _ _ (by simp)).alloc _
  have X2 : Hid (Box W0 (w.heap.size + 2) [.slice none 0 0, .int .i64 0]) := show Box _ _ _ by rw [← hW0]; exact Box.top _ _ _ (by simp)
  have HW0 : Hid (_ = W0) := hW0
  clear hW0
  go_enter Try.func39, Try.ntmps39
  go_upto_region 1 with fail
  rw [HW0.out]
  have e0 := X0.out.c 0 rfl
  have el := X0.out.lt
  go_wp2_with (at_builtin; refine wpList_append_row rfl (.tmp 8) (.tmp 10) rfl W0.heap.size _ [] rfl (OwnRow.made W0) _ fs rfl ((HV.out.grew HG0.out).grew (grew_alloc _ _)) ?qb (by simp) ?_)
  case qb => rw [List.length_nil, Nat.zero_add, HN.out]; exact HB.out
  intro v' w1 hown hgrow
  obtain ⟨g, cv, rfl⟩ := hown.formS (by rw [HN.out]; omega)
  rw [HN.out]
  have OW : Hid (OwnRow W0.heap.size w1 (.slice (some ⟨g, 0, none⟩) n cv) fs) := show OwnRow _ _ _ _ by rw [← HN.out]; exact hown
  have HG1 : Hid (Grew W0 w1) := show Grew _ _ from ((Below.refl _ W0).alloc (Nat.le_refl _) _).grown hgrow (by simp) (by intro k hk; simp [Value.ownBlock] at hk; omega)
  clear hown hgrow e0 el
  have e1 := (X0.out.grew HG1.out).c 1 rfl
  have f0 := (X1.out.grew HG1.out).c 0 rfl
  have f1 := (X1.out.grew HG1.out).c 1 rfl
  have f2 := (X1.out.grew HG1.out).c 2 rfl
  have f3 := (X1.out.grew HG1.out).c 3 rfl
  have f4 := (X1.out.grew HG1.out).c 4 rfl
  have f5 := (X1.out.grew HG1.out).c 5 rfl
  have f6 := (X1.out.grew HG1.out).c 6 rfl
  have f7 := (X1.out.grew HG1.out).c 7 rfl
  have f8 := (X1.out.grew HG1.out).c 8 rfl
  have f9 := (X1.out.grew HG1.out).c 9 rfl
  have f10 := (X1.out.grew HG1.out).c 10 rfl
  have f11 := (X1.out.grew HG1.out).c 11 rfl
  have f12 := (X1.out.grew HG1.out).c 12 rfl
  go_wp2_with (refine wpList_store_elt rfl (.tmp 15) (.tmp 14) rfl W0.heap.size _ fs OW.out g i rfl q (by rw [HN.out]; exact hi) _ rfl (by simp) _ rfl rfl ?_)
  intro w2 ow2 gr2 _
  have hg2 := (OW.out.lt g rfl).1
  have OW2 : Hid (OwnRow W0.heap.size w2 (.slice (some ⟨g, 0, none⟩) n cv) (fs.set i q)) := ow2
  have HG2 : Hid (Grew W0 w2) := grew_grown HG1.out gr2 hg2
  clear e1 f0 f1 f2 f3 f4 f5 f6 f7 f8 f9 f10 f11 f12 ow2 gr2
  have e1 := (X0.out.grew HG2.out).c 1 rfl
  have r0 := (X2.out.grew HG2.out).c 0 rfl
  have r1 := (X2.out.grew HG2.out).c 1 rfl
  have rf := (X2.out.grew HG2.out).f
  go_wp2
  refine bodyPost_ret (v := .agg #[.slice (some ⟨g, 0, none⟩) n cv, .int .i64 h]) (by simp [results, Try.results39, go_sem, *]) rfl ⟨_, rfl, ?_, ?_⟩
  · exact ((OW2.out.new.setCell (a := ⟨w.heap.size + 2, 0, none⟩) X2.out.lt _).setCell (a := ⟨w.heap.size + 2, 1, none⟩) X2.out.lt _).base (Below.size HG0.out)
  · exact grew_set (grew_set (HG0.out.trans HG2.out) (by simp; omega) _) (by simp; omega) _

end Go.Proofs.Ytbcaagmnmaonbab
