/- Contract of wrongFrame (package frames). -/
import Derived.Test.YtbcaagmnmaonbabFrWrong
namespace Go.Proofs.Ytbcaagmnmaonbab
open Go.RowKit

set_option maxRecDepth 100000 in
set_option maxHeartbeats 1000000 in
theorem wf1 (b0 b1 b2 b3 b4 b5 b6 b7 r : Int) (u d : Bool) (f x : Int) (w : World) (hb1 : inB r 1001 = false) :
    Calls Try.prog 31 #[.agg #[.int .u8 b0, .int .u8 b1, .int .u8 b2, .int .u8 b3, .int .u8 b4, .int .u8 b5, .int .u8 b6, .int .u8 b7, .int .i64 r, .bool u, .bool d, .int .i64 f, .int .i64 x]] w fun e w' => e = .returned (.int .i64 3) ∧ Grew w w' := by
  go_enter Try.func31, Try.ntmps31
  go_wp2_with (go_at_call 32; refine (below_any _ _ _).mono ?_; rintro e w' ⟨rfl, rfl⟩)
  go_ret
  exact ⟨rfl, (Below.refl _ _).alloc (Nat.le_refl _) _⟩

set_option maxRecDepth 100000 in
set_option maxHeartbeats 1000000 in
theorem wf2 (b0 b1 b2 b3 b4 b5 b6 b7 r : Int) (u d : Bool) (f x : Int) (w : World) (hb1 : inB r 1001 = true) (hb2 : inB x 12 = false) :
    Calls Try.prog 31 #[.agg #[.int .u8 b0, .int .u8 b1, .int .u8 b2, .int .u8 b3, .int .u8 b4, .int .u8 b5, .int .u8 b6, .int .u8 b7, .int .i64 r, .bool u, .bool d, .int .i64 f, .int .i64 x]] w fun e w' => e = .returned (.int .i64 3) ∧ Grew w w' := by
  go_enter Try.func31, Try.ntmps31
  go_wp2_with (go_at_call 32; refine (below_any _ _ _).mono ?_; rintro e w' ⟨rfl, rfl⟩)
  go_ret
  exact ⟨rfl, (Below.refl _ _).alloc (Nat.le_refl _) _⟩

set_option maxRecDepth 100000 in
set_option maxHeartbeats 1000000 in
theorem wf3 (b0 b1 b2 b3 b4 b5 b6 b7 r : Int) (u d : Bool) (f x : Int) (w : World) (hb1 : inB r 1001 = true) (hb2 : inB x 12 = true) (hf : (f != -1) = true) (hb3 : inB f 5 = false) :
    Calls Try.prog 31 #[.agg #[.int .u8 b0, .int .u8 b1, .int .u8 b2, .int .u8 b3, .int .u8 b4, .int .u8 b5, .int .u8 b6, .int .u8 b7, .int .i64 r, .bool u, .bool d, .int .i64 f, .int .i64 x]] w fun e w' => e = .returned (.int .i64 3) ∧ Grew w w' := by
  go_enter Try.func31, Try.ntmps31
  go_wp2_with (go_at_call 32; refine (below_any _ _ _).mono ?_; rintro e w' ⟨rfl, rfl⟩)
  go_ret
  exact ⟨rfl, (Below.refl _ _).alloc (Nat.le_refl _) _⟩

set_option maxRecDepth 100000 in
set_option maxHeartbeats 1000000 in
theorem wf4 (b0 b1 b2 b3 b4 b5 b6 b7 r : Int) (u d : Bool) (f x : Int) (w : World) (hb1 : inB r 1001 = true) (hb2 : inB x 12 = true) (hf : (f != -1) = true) (_hfe : (f == -1) = false) (hb3 : inB f 5 = true) (hr : (r == 0) = true) (hfr : frEqB (⟨⟨b0, b1, b2, b3, b4, b5, b6, b7⟩, r, u, d, f, x⟩ : Fr) frF = false) :
    Calls Try.prog 31 #[.agg #[.int .u8 b0, .int .u8 b1, .int .u8 b2, .int .u8 b3, .int .u8 b4, .int .u8 b5, .int .u8 b6, .int .u8 b7, .int .i64 r, .bool u, .bool d, .int .i64 f, .int .i64 x]] w fun e w' => e = .returned (.int .i64 7) ∧ Grew w w' := by
  have HFR : Hid _ := hfr
  clear hfr
  go_enter Try.func31, Try.ntmps31
  go_wp2_with (go_at_call 32; refine (below_any _ _ _).mono ?_; rintro e w' ⟨rfl, rfl⟩)
  obtain ⟨W0, hW0⟩ : ∃ W0, w.alloc (.cells #[.int .u8 b0, .int .u8 b1, .int .u8 b2, .int .u8 b3, .int .u8 b4, .int .u8 b5, .int .u8 b6, .int .u8 b7, .int .i64 r, .bool u, .bool d, .int .i64 f, .int .i64 x] 47) = W0 := ⟨_, rfl⟩
  have HG0 : Hid (Grew w W0) := show Grew w W0 by rw [← hW0]; exact grew_alloc _ _
  have X0 : Hid (Box W0 w.heap.size [.int .u8 b0, .int .u8 b1, .int .u8 b2, .int .u8 b3, .int .u8 b4, .int .u8 b5, .int .u8 b6, .int .u8 b7, .int .i64 r, .bool u, .bool d, .int .i64 f, .int .i64 x]) := show Box _ _ _ by rw [← hW0]; exact Box.top w _ _ rfl
  rw [hW0]
  clear hW0
  have hx0 : ∀ y : GrownW W0, y.world.cell? ⟨w.heap.size, 0, none⟩ = some (.int .u8 b0) := fun y => (X0.out.grew y.grew).c 0 rfl
  have hx1 : ∀ y : GrownW W0, y.world.cell? ⟨w.heap.size, 1, none⟩ = some (.int .u8 b1) := fun y => (X0.out.grew y.grew).c 1 rfl
  have hx2 : ∀ y : GrownW W0, y.world.cell? ⟨w.heap.size, 2, none⟩ = some (.int .u8 b2) := fun y => (X0.out.grew y.grew).c 2 rfl
  have hx3 : ∀ y : GrownW W0, y.world.cell? ⟨w.heap.size, 3, none⟩ = some (.int .u8 b3) := fun y => (X0.out.grew y.grew).c 3 rfl
  have hx4 : ∀ y : GrownW W0, y.world.cell? ⟨w.heap.size, 4, none⟩ = some (.int .u8 b4) := fun y => (X0.out.grew y.grew).c 4 rfl
  have hx5 : ∀ y : GrownW W0, y.world.cell? ⟨w.heap.size, 5, none⟩ = some (.int .u8 b5) := fun y => (X0.out.grew y.grew).c 5 rfl
  have hx6 : ∀ y : GrownW W0, y.world.cell? ⟨w.heap.size, 6, none⟩ = some (.int .u8 b6) := fun y => (X0.out.grew y.grew).c 6 rfl
  have hx7 : ∀ y : GrownW W0, y.world.cell? ⟨w.heap.size, 7, none⟩ = some (.int .u8 b7) := fun y => (X0.out.grew y.grew).c 7 rfl
  have hx8 : ∀ y : GrownW W0, y.world.cell? ⟨w.heap.size, 8, none⟩ = some (.int .i64 r) := fun y => (X0.out.grew y.grew).c 8 rfl
  have hx9 : ∀ y : GrownW W0, y.world.cell? ⟨w.heap.size, 9, none⟩ = some (.bool u) := fun y => (X0.out.grew y.grew).c 9 rfl
  have hx10 : ∀ y : GrownW W0, y.world.cell? ⟨w.heap.size, 10, none⟩ = some (.bool d) := fun y => (X0.out.grew y.grew).c 10 rfl
  have hx11 : ∀ y : GrownW W0, y.world.cell? ⟨w.heap.size, 11, none⟩ = some (.int .i64 f) := fun y => (X0.out.grew y.grew).c 11 rfl
  have hx12 : ∀ y : GrownW W0, y.world.cell? ⟨w.heap.size, 12, none⟩ = some (.int .i64 x) := fun y => (X0.out.grew y.grew).c 12 rfl
  have hne : Nonempty (GrownW W0) := ⟨⟨_, Grew.refl _⟩⟩
  refine wp_lax [(5, ⟨fun v => v = .agg (frv frF).toArray, fun _ _ => True⟩)] mixed (by kernel_rfl) ?_ ?_ ?_
  · intro x hx
    simp at hx
    subst hx
    exact ⟨_, rfl⟩
  · intro x hx
    simp at hx
    subst hx
    exact fun _ _ _ _ h => h
  iterate 5 (refine lax_quiet rfl rfl rfl (fun K hK => ?_); go_big_quiet_op; refine hK _ ?_; clear hK K)
  refine lax_spec rfl rfl (fun w' hg hF => ?_) (fun v1 hv => ?_)
  · refine Does.call [] rfl Try.func36 rfl rfl rfl ?_
    refine (freeFrame_any w').mono ?_
    rintro e w'' ⟨rfl, hg2⟩
    exact ⟨_, rfl, hg2, rfl, trivial⟩
  subst hv
  have hq := fun W => fr_eq b0 b1 b2 b3 b4 b5 b6 b7 r u d f x 0 0 0 0 0 0 0 0 0 false false (-1) 0 W
  simp only [show (⟨⟨0, 0, 0, 0, 0, 0, 0, 0⟩, 0, false, false, -1, 0⟩ : Fr) = frF from rfl, HFR.out] at hq
  simp only [Act.put, List.setIfInBounds_toArray, List.set_cons_succ, List.set_cons_zero, frv, frF, pg0]
  iterate 3 (refine lax_quiet rfl rfl rfl (fun K hK => ?_); go_big_quiet_op; refine hK _ ?_; clear hK K)
  iterate 8 (refine lax_skip ?_ ?_; kernel_rfl; simp only [Act.put, List.setIfInBounds_toArray, List.set_cons_succ, List.set_cons_zero])
  iterate 1 (refine lax_quiet rfl rfl rfl (fun K hK => ?_); go_big_quiet_op; refine hK _ ?_; clear hK K)
  refine lax_nil fun w1 hg1 hF => ?_
  have HG1 : Hid (Grew w w1) := HG0.out.trans hg1
  go_wp2
  go_ret
  exact ⟨rfl, HG1.out⟩

set_option maxRecDepth 100000 in
set_option maxHeartbeats 1000000 in
theorem wf5 (b0 b1 b2 b3 b4 b5 b6 b7 r : Int) (u d : Bool) (f x : Int) (w : World) (hb1 : inB r 1001 = true) (hb2 : inB x 12 = true) (hf : (f != -1) = true) (_hfe : (f == -1) = false) (hb3 : inB f 5 = true) (hr : (r == 0) = false) :
    Calls Try.prog 31 #[.agg #[.int .u8 b0, .int .u8 b1, .int .u8 b2, .int .u8 b3, .int .u8 b4, .int .u8 b5, .int .u8 b6, .int .u8 b7, .int .i64 r, .bool u, .bool d, .int .i64 f, .int .i64 x]] w fun e w' => e = .returned (.int .i64 0) ∧ Grew w w' := by
  go_enter Try.func31, Try.ntmps31
  go_wp2_with (go_at_call 32; refine (below_any _ _ _).mono ?_; rintro e w' ⟨rfl, rfl⟩)
  obtain ⟨W0, hW0⟩ : ∃ W0, w.alloc (.cells #[.int .u8 b0, .int .u8 b1, .int .u8 b2, .int .u8 b3, .int .u8 b4, .int .u8 b5, .int .u8 b6, .int .u8 b7, .int .i64 r, .bool u, .bool d, .int .i64 f, .int .i64 x] 47) = W0 := ⟨_, rfl⟩
  have HG0 : Hid (Grew w W0) := show Grew w W0 by rw [← hW0]; exact grew_alloc _ _
  have X0 : Hid (Box W0 w.heap.size [.int .u8 b0, .int .u8 b1, .int .u8 b2, .int .u8 b3, .int .u8 b4, .int .u8 b5, .int .u8 b6, .int .u8 b7, .int .i64 r, .bool u, .bool d, .int .i64 f, .int .i64 x]) := show Box _ _ _ by rw [← hW0]; exact Box.top w _ _ rfl
  rw [hW0]
  clear hW0
  have hx0 : ∀ y : GrownW W0, y.world.cell? ⟨w.heap.size, 0, none⟩ = some (.int .u8 b0) := fun y => (X0.out.grew y.grew).c 0 rfl
  have hx1 : ∀ y : GrownW W0, y.world.cell? ⟨w.heap.size, 1, none⟩ = some (.int .u8 b1) := fun y => (X0.out.grew y.grew).c 1 rfl
  have hx2 : ∀ y : GrownW W0, y.world.cell? ⟨w.heap.size, 2, none⟩ = some (.int .u8 b2) := fun y => (X0.out.grew y.grew).c 2 rfl
  have hx3 : ∀ y : GrownW W0, y.world.cell? ⟨w.heap.size, 3, none⟩ = some (.int .u8 b3) := fun y => (X0.out.grew y.grew).c 3 rfl
  have hx4 : ∀ y : GrownW W0, y.world.cell? ⟨w.heap.size, 4, none⟩ = some (.int .u8 b4) := fun y => (X0.out.grew y.grew).c 4 rfl
  have hx5 : ∀ y : GrownW W0, y.world.cell? ⟨w.heap.size, 5, none⟩ = some (.int .u8 b5) := fun y => (X0.out.grew y.grew).c 5 rfl
  have hx6 : ∀ y : GrownW W0, y.world.cell? ⟨w.heap.size, 6, none⟩ = some (.int .u8 b6) := fun y => (X0.out.grew y.grew).c 6 rfl
  have hx7 : ∀ y : GrownW W0, y.world.cell? ⟨w.heap.size, 7, none⟩ = some (.int .u8 b7) := fun y => (X0.out.grew y.grew).c 7 rfl
  have hx8 : ∀ y : GrownW W0, y.world.cell? ⟨w.heap.size, 8, none⟩ = some (.int .i64 r) := fun y => (X0.out.grew y.grew).c 8 rfl
  have hx9 : ∀ y : GrownW W0, y.world.cell? ⟨w.heap.size, 9, none⟩ = some (.bool u) := fun y => (X0.out.grew y.grew).c 9 rfl
  have hx10 : ∀ y : GrownW W0, y.world.cell? ⟨w.heap.size, 10, none⟩ = some (.bool d) := fun y => (X0.out.grew y.grew).c 10 rfl
  have hx11 : ∀ y : GrownW W0, y.world.cell? ⟨w.heap.size, 11, none⟩ = some (.int .i64 f) := fun y => (X0.out.grew y.grew).c 11 rfl
  have hx12 : ∀ y : GrownW W0, y.world.cell? ⟨w.heap.size, 12, none⟩ = some (.int .i64 x) := fun y => (X0.out.grew y.grew).c 12 rfl
  have hne : Nonempty (GrownW W0) := ⟨⟨_, Grew.refl _⟩⟩
  refine wp_lax [(5, ⟨fun v => v = .agg (frv frF).toArray, fun _ _ => True⟩)] mixed (by kernel_rfl) ?_ ?_ ?_
  · intro x hx
    simp at hx
    subst hx
    exact ⟨_, rfl⟩
  · intro x hx
    simp at hx
    subst hx
    exact fun _ _ _ _ h => h
  iterate 4 (refine lax_quiet rfl rfl rfl (fun K hK => ?_); go_big_quiet_op; refine hK _ ?_; clear hK K)
  iterate 3 (refine lax_skip ?_ ?_; kernel_rfl; simp only [Act.put, List.setIfInBounds_toArray, List.set_cons_succ, List.set_cons_zero])
  iterate 6 (refine lax_quiet rfl rfl rfl (fun K hK => ?_); go_big_quiet_op; refine hK _ ?_; clear hK K)
  iterate 3 (refine lax_skip ?_ ?_; kernel_rfl; simp only [Act.put, List.setIfInBounds_toArray, List.set_cons_succ, List.set_cons_zero])
  iterate 2 (refine lax_quiet rfl rfl rfl (fun K hK => ?_); go_big_quiet_op; refine hK _ ?_; clear hK K)
  refine lax_nil fun w1 hg1 hF => ?_
  have HG1 : Hid (Grew w w1) := HG0.out.trans hg1
  go_wp2
  go_ret
  exact ⟨rfl, HG1.out⟩

set_option maxRecDepth 100000 in
set_option maxHeartbeats 1000000 in
theorem wf6 (b0 b1 b2 b3 b4 b5 b6 b7 r : Int) (u d : Bool) (f x : Int) (w : World) (hb1 : inB r 1001 = true) (hb2 : inB x 12 = true) (hf : (f != -1) = false) (_hfe : (f == -1) = true) (hr : (r == 0) = true) (hfr : frEqB (⟨⟨b0, b1, b2, b3, b4, b5, b6, b7⟩, r, u, d, f, x⟩ : Fr) frF = false) :
    Calls Try.prog 31 #[.agg #[.int .u8 b0, .int .u8 b1, .int .u8 b2, .int .u8 b3, .int .u8 b4, .int .u8 b5, .int .u8 b6, .int .u8 b7, .int .i64 r, .bool u, .bool d, .int .i64 f, .int .i64 x]] w fun e w' => e = .returned (.int .i64 7) ∧ Grew w w' := by
  have HFR : Hid _ := hfr
  clear hfr
  go_enter Try.func31, Try.ntmps31
  go_wp2_with (go_at_call 32; refine (below_any _ _ _).mono ?_; rintro e w' ⟨rfl, rfl⟩)
  obtain ⟨W0, hW0⟩ : ∃ W0, w.alloc (.cells #[.int .u8 b0, .int .u8 b1, .int .u8 b2, .int .u8 b3, .int .u8 b4, .int .u8 b5, .int .u8 b6, .int .u8 b7, .int .i64 r, .bool u, .bool d, .int .i64 f, .int .i64 x] 47) = W0 := ⟨_, rfl⟩
  have HG0 : Hid (Grew w W0) := show Grew w W0 by rw [← hW0]; exact grew_alloc _ _
  have X0 : Hid (Box W0 w.heap.size [.int .u8 b0, .int .u8 b1, .int .u8 b2, .int .u8 b3, .int .u8 b4, .int .u8 b5, .int .u8 b6, .int .u8 b7, .int .i64 r, .bool u, .bool d, .int .i64 f, .int .i64 x]) := show Box _ _ _ by rw [← hW0]; exact Box.top w _ _ rfl
  rw [hW0]
  clear hW0
  have hx0 : ∀ y : GrownW W0, y.world.cell? ⟨w.heap.size, 0, none⟩ = some (.int .u8 b0) := fun y => (X0.out.grew y.grew).c 0 rfl
  have hx1 : ∀ y : GrownW W0, y.world.cell? ⟨w.heap.size, 1, none⟩ = some (.int .u8 b1) := fun y => (X0.out.grew y.grew).c 1 rfl
  have hx2 : ∀ y : GrownW W0, y.world.cell? ⟨w.heap.size, 2, none⟩ = some (.int .u8 b2) := fun y => (X0.out.grew y.grew).c 2 rfl
  have hx3 : ∀ y : GrownW W0, y.world.cell? ⟨w.heap.size, 3, none⟩ = some (.int .u8 b3) := fun y => (X0.out.grew y.grew).c 3 rfl
  have hx4 : ∀ y : GrownW W0, y.world.cell? ⟨w.heap.size, 4, none⟩ = some (.int .u8 b4) := fun y => (X0.out.grew y.grew).c 4 rfl
  have hx5 : ∀ y : GrownW W0, y.world.cell? ⟨w.heap.size, 5, none⟩ = some (.int .u8 b5) := fun y => (X0.out.grew y.grew).c 5 rfl
  have hx6 : ∀ y : GrownW W0, y.world.cell? ⟨w.heap.size, 6, none⟩ = some (.int .u8 b6) := fun y => (X0.out.grew y.grew).c 6 rfl
  have hx7 : ∀ y : GrownW W0, y.world.cell? ⟨w.heap.size, 7, none⟩ = some (.int .u8 b7) := fun y => (X0.out.grew y.grew).c 7 rfl
  have hx8 : ∀ y : GrownW W0, y.world.cell? ⟨w.heap.size, 8, none⟩ = some (.int .i64 r) := fun y => (X0.out.grew y.grew).c 8 rfl
  have hx9 : ∀ y : GrownW W0, y.world.cell? ⟨w.heap.size, 9, none⟩ = some (.bool u) := fun y => (X0.out.grew y.grew).c 9 rfl
  have hx10 : ∀ y : GrownW W0, y.world.cell? ⟨w.heap.size, 10, none⟩ = some (.bool d) := fun y => (X0.out.grew y.grew).c 10 rfl
  have hx11 : ∀ y : GrownW W0, y.world.cell? ⟨w.heap.size, 11, none⟩ = some (.int .i64 f) := fun y => (X0.out.grew y.grew).c 11 rfl
  have hx12 : ∀ y : GrownW W0, y.world.cell? ⟨w.heap.size, 12, none⟩ = some (.int .i64 x) := fun y => (X0.out.grew y.grew).c 12 rfl
  have hne : Nonempty (GrownW W0) := ⟨⟨_, Grew.refl _⟩⟩
  refine wp_lax [(5, ⟨fun v => v = .agg (frv frF).toArray, fun _ _ => True⟩)] mixed (by kernel_rfl) ?_ ?_ ?_
  · intro x hx
    simp at hx
    subst hx
    exact ⟨_, rfl⟩
  · intro x hx
    simp at hx
    subst hx
    exact fun _ _ _ _ h => h
  iterate 5 (refine lax_quiet rfl rfl rfl (fun K hK => ?_); go_big_quiet_op; refine hK _ ?_; clear hK K)
  refine lax_spec rfl rfl (fun w' hg hF => ?_) (fun v1 hv => ?_)
  · refine Does.call [] rfl Try.func36 rfl rfl rfl ?_
    refine (freeFrame_any w').mono ?_
    rintro e w'' ⟨rfl, hg2⟩
    exact ⟨_, rfl, hg2, rfl, trivial⟩
  subst hv
  have hq := fun W => fr_eq b0 b1 b2 b3 b4 b5 b6 b7 r u d f x 0 0 0 0 0 0 0 0 0 false false (-1) 0 W
  simp only [show (⟨⟨0, 0, 0, 0, 0, 0, 0, 0⟩, 0, false, false, -1, 0⟩ : Fr) = frF from rfl, HFR.out] at hq
  simp only [Act.put, List.setIfInBounds_toArray, List.set_cons_succ, List.set_cons_zero, frv, frF, pg0]
  iterate 3 (refine lax_quiet rfl rfl rfl (fun K hK => ?_); go_big_quiet_op; refine hK _ ?_; clear hK K)
  iterate 8 (refine lax_skip ?_ ?_; kernel_rfl; simp only [Act.put, List.setIfInBounds_toArray, List.set_cons_succ, List.set_cons_zero])
  iterate 1 (refine lax_quiet rfl rfl rfl (fun K hK => ?_); go_big_quiet_op; refine hK _ ?_; clear hK K)
  refine lax_nil fun w1 hg1 hF => ?_
  have HG1 : Hid (Grew w w1) := HG0.out.trans hg1
  go_wp2
  go_ret
  exact ⟨rfl, HG1.out⟩

set_option maxRecDepth 100000 in
set_option maxHeartbeats 1000000 in
theorem wf7 (b0 b1 b2 b3 b4 b5 b6 b7 r : Int) (u d : Bool) (f x : Int) (w : World) (hb1 : inB r 1001 = true) (hb2 : inB x 12 = true) (hf : (f != -1) = false) (_hfe : (f == -1) = true) (hr : (r == 0) = true) (hfr : frEqB (⟨⟨b0, b1, b2, b3, b4, b5, b6, b7⟩, r, u, d, f, x⟩ : Fr) frF = true) (hx : (x != 0) = false) :
    Calls Try.prog 31 #[.agg #[.int .u8 b0, .int .u8 b1, .int .u8 b2, .int .u8 b3, .int .u8 b4, .int .u8 b5, .int .u8 b6, .int .u8 b7, .int .i64 r, .bool u, .bool d, .int .i64 f, .int .i64 x]] w fun e w' => e = .returned (.int .i64 0) ∧ Grew w w' := by
  have HFR : Hid _ := hfr
  clear hfr
  go_enter Try.func31, Try.ntmps31
  go_wp2_with (go_at_call 32; refine (below_any _ _ _).mono ?_; rintro e w' ⟨rfl, rfl⟩)
  obtain ⟨W0, hW0⟩ : ∃ W0, w.alloc (.cells #[.int .u8 b0, .int .u8 b1, .int .u8 b2, .int .u8 b3, .int .u8 b4, .int .u8 b5, .int .u8 b6, .int .u8 b7, .int .i64 r, .bool u, .bool d, .int .i64 f, .int .i64 x] 47) = W0 := ⟨_, rfl⟩
  have HG0 : Hid (Grew w W0) := show Grew w W0 by rw [← hW0]; exact grew_alloc _ _
  have X0 : Hid (Box W0 w.heap.size [.int .u8 b0, .int .u8 b1, .int .u8 b2, .int .u8 b3, .int .u8 b4, .int .u8 b5, .int .u8 b6, .int .u8 b7, .int .i64 r, .bool u, .bool d, .int .i64 f, .int .i64 x]) := show Box _ _ _ by rw [← hW0]; exact Box.top w _ _ rfl
  rw [hW0]
  clear hW0
  have hx0 : ∀ y : GrownW W0, y.world.cell? ⟨w.heap.size, 0, none⟩ = some (.int .u8 b0) := fun y => (X0.out.grew y.grew).c 0 rfl
  have hx1 : ∀ y : GrownW W0, y.world.cell? ⟨w.heap.size, 1, none⟩ = some (.int .u8 b1) := fun y => (X0.out.grew y.grew).c 1 rfl
  have hx2 : ∀ y : GrownW W0, y.world.cell? ⟨w.heap.size, 2, none⟩ = some (.int .u8 b2) := fun y => (X0.out.grew y.grew).c 2 rfl
  have hx3 : ∀ y : GrownW W0, y.world.cell? ⟨w.heap.size, 3, none⟩ = some (.int .u8 b3) := fun y => (X0.out.grew y.grew).c 3 rfl
  have hx4 : ∀ y : GrownW W0, y.world.cell? ⟨w.heap.size, 4, none⟩ = some (.int .u8 b4) := fun y => (X0.out.grew y.grew).c 4 rfl
  have hx5 : ∀ y : GrownW W0, y.world.cell? ⟨w.heap.size, 5, none⟩ = some (.int .u8 b5) := fun y => (X0.out.grew y.grew).c 5 rfl
  have hx6 : ∀ y : GrownW W0, y.world.cell? ⟨w.heap.size, 6, none⟩ = some (.int .u8 b6) := fun y => (X0.out.grew y.grew).c 6 rfl
  have hx7 : ∀ y : GrownW W0, y.world.cell? ⟨w.heap.size, 7, none⟩ = some (.int .u8 b7) := fun y => (X0.out.grew y.grew).c 7 rfl
  have hx8 : ∀ y : GrownW W0, y.world.cell? ⟨w.heap.size, 8, none⟩ = some (.int .i64 r) := fun y => (X0.out.grew y.grew).c 8 rfl
  have hx9 : ∀ y : GrownW W0, y.world.cell? ⟨w.heap.size, 9, none⟩ = some (.bool u) := fun y => (X0.out.grew y.grew).c 9 rfl
  have hx10 : ∀ y : GrownW W0, y.world.cell? ⟨w.heap.size, 10, none⟩ = some (.bool d) := fun y => (X0.out.grew y.grew).c 10 rfl
  have hx11 : ∀ y : GrownW W0, y.world.cell? ⟨w.heap.size, 11, none⟩ = some (.int .i64 f) := fun y => (X0.out.grew y.grew).c 11 rfl
  have hx12 : ∀ y : GrownW W0, y.world.cell? ⟨w.heap.size, 12, none⟩ = some (.int .i64 x) := fun y => (X0.out.grew y.grew).c 12 rfl
  have hne : Nonempty (GrownW W0) := ⟨⟨_, Grew.refl _⟩⟩
  refine wp_lax [(5, ⟨fun v => v = .agg (frv frF).toArray, fun _ _ => True⟩)] mixed (by kernel_rfl) ?_ ?_ ?_
  · intro x hx
    simp at hx
    subst hx
    exact ⟨_, rfl⟩
  · intro x hx
    simp at hx
    subst hx
    exact fun _ _ _ _ h => h
  iterate 5 (refine lax_quiet rfl rfl rfl (fun K hK => ?_); go_big_quiet_op; refine hK _ ?_; clear hK K)
  refine lax_spec rfl rfl (fun w' hg hF => ?_) (fun v1 hv => ?_)
  · refine Does.call [] rfl Try.func36 rfl rfl rfl ?_
    refine (freeFrame_any w').mono ?_
    rintro e w'' ⟨rfl, hg2⟩
    exact ⟨_, rfl, hg2, rfl, trivial⟩
  subst hv
  have hq := fun W => fr_eq b0 b1 b2 b3 b4 b5 b6 b7 r u d f x 0 0 0 0 0 0 0 0 0 false false (-1) 0 W
  simp only [show (⟨⟨0, 0, 0, 0, 0, 0, 0, 0⟩, 0, false, false, -1, 0⟩ : Fr) = frF from rfl, HFR.out] at hq
  simp only [Act.put, List.setIfInBounds_toArray, List.set_cons_succ, List.set_cons_zero, frv, frF, pg0]
  iterate 12 (refine lax_quiet rfl rfl rfl (fun K hK => ?_); go_big_quiet_op; refine hK _ ?_; clear hK K)
  refine lax_nil fun w1 hg1 hF => ?_
  have HG1 : Hid (Grew w w1) := HG0.out.trans hg1
  go_wp2
  go_ret
  exact ⟨rfl, HG1.out⟩

set_option maxRecDepth 100000 in
set_option maxHeartbeats 1000000 in
theorem wf8 (b0 b1 b2 b3 b4 b5 b6 b7 r : Int) (u d : Bool) (f x : Int) (w : World) (hb1 : inB r 1001 = true) (hb2 : inB x 12 = true) (hf : (f != -1) = false) (_hfe : (f == -1) = true) (hr : (r == 0) = false) (hx : (x != 0) = true) :
    Calls Try.prog 31 #[.agg #[.int .u8 b0, .int .u8 b1, .int .u8 b2, .int .u8 b3, .int .u8 b4, .int .u8 b5, .int .u8 b6, .int .u8 b7, .int .i64 r, .bool u, .bool d, .int .i64 f, .int .i64 x]] w fun e w' => e = .returned (.int .i64 7) ∧ Grew w w' := by
  go_enter Try.func31, Try.ntmps31
  go_wp2_with (go_at_call 32; refine (below_any _ _ _).mono ?_; rintro e w' ⟨rfl, rfl⟩)
  obtain ⟨W0, hW0⟩ : ∃ W0, w.alloc (.cells #[.int .u8 b0, .int .u8 b1, .int .u8 b2, .int .u8 b3, .int .u8 b4, .int .u8 b5, .int .u8 b6, .int .u8 b7, .int .i64 r, .bool u, .bool d, .int .i64 f, .int .i64 x] 47) = W0 := ⟨_, rfl⟩
  have HG0 : Hid (Grew w W0) := show Grew w W0 by rw [← hW0]; exact grew_alloc _ _
  have X0 : Hid (Box W0 w.heap.size [.int .u8 b0, .int .u8 b1, .int .u8 b2, .int .u8 b3, .int .u8 b4, .int .u8 b5, .int .u8 b6, .int .u8 b7, .int .i64 r, .bool u, .bool d, .int .i64 f, .int .i64 x]) := show Box _ _ _ by rw [← hW0]; exact Box.top w _ _ rfl
  rw [hW0]
  clear hW0
  have hx0 : ∀ y : GrownW W0, y.world.cell? ⟨w.heap.size, 0, none⟩ = some (.int .u8 b0) := fun y => (X0.out.grew y.grew).c 0 rfl
  have hx1 : ∀ y : GrownW W0, y.world.cell? ⟨w.heap.size, 1, none⟩ = some (.int .u8 b1) := fun y => (X0.out.grew y.grew).c 1 rfl
  have hx2 : ∀ y : GrownW W0, y.world.cell? ⟨w.heap.size, 2, none⟩ = some (.int .u8 b2) := fun y => (X0.out.grew y.grew).c 2 rfl
  have hx3 : ∀ y : GrownW W0, y.world.cell? ⟨w.heap.size, 3, none⟩ = some (.int .u8 b3) := fun y => (X0.out.grew y.grew).c 3 rfl
  have hx4 : ∀ y : GrownW W0, y.world.cell? ⟨w.heap.size, 4, none⟩ = some (.int .u8 b4) := fun y => (X0.out.grew y.grew).c 4 rfl
  have hx5 : ∀ y : GrownW W0, y.world.cell? ⟨w.heap.size, 5, none⟩ = some (.int .u8 b5) := fun y => (X0.out.grew y.grew).c 5 rfl
  have hx6 : ∀ y : GrownW W0, y.world.cell? ⟨w.heap.size, 6, none⟩ = some (.int .u8 b6) := fun y => (X0.out.grew y.grew).c 6 rfl
  have hx7 : ∀ y : GrownW W0, y.world.cell? ⟨w.heap.size, 7, none⟩ = some (.int .u8 b7) := fun y => (X0.out.grew y.grew).c 7 rfl
  have hx8 : ∀ y : GrownW W0, y.world.cell? ⟨w.heap.size, 8, none⟩ = some (.int .i64 r) := fun y => (X0.out.grew y.grew).c 8 rfl
  have hx9 : ∀ y : GrownW W0, y.world.cell? ⟨w.heap.size, 9, none⟩ = some (.bool u) := fun y => (X0.out.grew y.grew).c 9 rfl
  have hx10 : ∀ y : GrownW W0, y.world.cell? ⟨w.heap.size, 10, none⟩ = some (.bool d) := fun y => (X0.out.grew y.grew).c 10 rfl
  have hx11 : ∀ y : GrownW W0, y.world.cell? ⟨w.heap.size, 11, none⟩ = some (.int .i64 f) := fun y => (X0.out.grew y.grew).c 11 rfl
  have hx12 : ∀ y : GrownW W0, y.world.cell? ⟨w.heap.size, 12, none⟩ = some (.int .i64 x) := fun y => (X0.out.grew y.grew).c 12 rfl
  have hne : Nonempty (GrownW W0) := ⟨⟨_, Grew.refl _⟩⟩
  refine wp_lax [(5, ⟨fun v => v = .agg (frv frF).toArray, fun _ _ => True⟩)] mixed (by kernel_rfl) ?_ ?_ ?_
  · intro x hx
    simp at hx
    subst hx
    exact ⟨_, rfl⟩
  · intro x hx
    simp at hx
    subst hx
    exact fun _ _ _ _ h => h
  iterate 4 (refine lax_quiet rfl rfl rfl (fun K hK => ?_); go_big_quiet_op; refine hK _ ?_; clear hK K)
  iterate 3 (refine lax_skip ?_ ?_; kernel_rfl; simp only [Act.put, List.setIfInBounds_toArray, List.set_cons_succ, List.set_cons_zero])
  iterate 11 (refine lax_quiet rfl rfl rfl (fun K hK => ?_); go_big_quiet_op; refine hK _ ?_; clear hK K)
  refine lax_nil fun w1 hg1 hF => ?_
  have HG1 : Hid (Grew w w1) := HG0.out.trans hg1
  go_wp2
  go_ret
  exact ⟨rfl, HG1.out⟩

set_option maxRecDepth 100000 in
set_option maxHeartbeats 1000000 in
theorem wf9 (b0 b1 b2 b3 b4 b5 b6 b7 r : Int) (u d : Bool) (f x : Int) (w : World) (hb1 : inB r 1001 = true) (hb2 : inB x 12 = true) (hf : (f != -1) = false) (_hfe : (f == -1) = true) (hr : (r == 0) = false) (hx : (x != 0) = false) :
    Calls Try.prog 31 #[.agg #[.int .u8 b0, .int .u8 b1, .int .u8 b2, .int .u8 b3, .int .u8 b4, .int .u8 b5, .int .u8 b6, .int .u8 b7, .int .i64 r, .bool u, .bool d, .int .i64 f, .int .i64 x]] w fun e w' => e = .returned (.int .i64 0) ∧ Grew w w' := by
  go_enter Try.func31, Try.ntmps31
  go_wp2_with (go_at_call 32; refine (below_any _ _ _).mono ?_; rintro e w' ⟨rfl, rfl⟩)
  obtain ⟨W0, hW0⟩ : ∃ W0, w.alloc (.cells #[.int .u8 b0, .int .u8 b1, .int .u8 b2, .int .u8 b3, .int .u8 b4, .int .u8 b5, .int .u8 b6, .int .u8 b7, .int .i64 r, .bool u, .bool d, .int .i64 f, .int .i64 x] 47) = W0 := ⟨_, rfl⟩
  have HG0 : Hid (Grew w W0) := show Grew w W0 by rw [← hW0]; exact grew_alloc _ _
  have X0 : Hid (Box W0 w.heap.size [.int .u8 b0, .int .u8 b1, .int .u8 b2, .int .u8 b3, .int .u8 b4, .int .u8 b5, .int .u8 b6, .int .u8 b7, .int .i64 r, .bool u, .bool d, .int .i64 f, .int .i64 x]) := show Box _ _ _ by rw [← hW0]; exact Box.top w _ _ rfl
  rw [hW0]
  clear hW0
  have hx0 : ∀ y : GrownW W0, y.world.cell? ⟨w.heap.size, 0, none⟩ = some (.int .u8 b0) := fun y => (X0.out.grew y.grew).c 0 rfl
  have hx1 : ∀ y : GrownW W0, y.world.cell? ⟨w.heap.size, 1, none⟩ = some (.int .u8 b1) := fun y => (X0.out.grew y.grew).c 1 rfl
  have hx2 : ∀ y : GrownW W0, y.world.cell? ⟨w.heap.size, 2, none⟩ = some (.int .u8 b2) := fun y => (X0.out.grew y.grew).c 2 rfl
  have hx3 : ∀ y : GrownW W0, y.world.cell? ⟨w.heap.size, 3, none⟩ = some (.int .u8 b3) := fun y => (X0.out.grew y.grew).c 3 rfl
  have hx4 : ∀ y : GrownW W0, y.world.cell? ⟨w.heap.size, 4, none⟩ = some (.int .u8 b4) := fun y => (X0.out.grew y.grew).c 4 rfl
  have hx5 : ∀ y : GrownW W0, y.world.cell? ⟨w.heap.size, 5, none⟩ = some (.int .u8 b5) := fun y => (X0.out.grew y.grew).c 5 rfl
  have hx6 : ∀ y : GrownW W0, y.world.cell? ⟨w.heap.size, 6, none⟩ = some (.int .u8 b6) := fun y => (X0.out.grew y.grew).c 6 rfl
  have hx7 : ∀ y : GrownW W0, y.world.cell? ⟨w.heap.size, 7, none⟩ = some (.int .u8 b7) := fun y => (X0.out.grew y.grew).c 7 rfl
  have hx8 : ∀ y : GrownW W0, y.world.cell? ⟨w.heap.size, 8, none⟩ = some (.int .i64 r) := fun y => (X0.out.grew y.grew).c 8 rfl
  have hx9 : ∀ y : GrownW W0, y.world.cell? ⟨w.heap.size, 9, none⟩ = some (.bool u) := fun y => (X0.out.grew y.grew).c 9 rfl
  have hx10 : ∀ y : GrownW W0, y.world.cell? ⟨w.heap.size, 10, none⟩ = some (.bool d) := fun y => (X0.out.grew y.grew).c 10 rfl
  have hx11 : ∀ y : GrownW W0, y.world.cell? ⟨w.heap.size, 11, none⟩ = some (.int .i64 f) := fun y => (X0.out.grew y.grew).c 11 rfl
  have hx12 : ∀ y : GrownW W0, y.world.cell? ⟨w.heap.size, 12, none⟩ = some (.int .i64 x) := fun y => (X0.out.grew y.grew).c 12 rfl
  have hne : Nonempty (GrownW W0) := ⟨⟨_, Grew.refl _⟩⟩
  refine wp_lax [(5, ⟨fun v => v = .agg (frv frF).toArray, fun _ _ => True⟩)] mixed (by kernel_rfl) ?_ ?_ ?_
  · intro x hx
    simp at hx
    subst hx
    exact ⟨_, rfl⟩
  · intro x hx
    simp at hx
    subst hx
    exact fun _ _ _ _ h => h
  iterate 4 (refine lax_quiet rfl rfl rfl (fun K hK => ?_); go_big_quiet_op; refine hK _ ?_; clear hK K)
  iterate 3 (refine lax_skip ?_ ?_; kernel_rfl; simp only [Act.put, List.setIfInBounds_toArray, List.set_cons_succ, List.set_cons_zero])
  iterate 11 (refine lax_quiet rfl rfl rfl (fun K hK => ?_); go_big_quiet_op; refine hK _ ?_; clear hK K)
  refine lax_nil fun w1 hg1 hF => ?_
  have HG1 : Hid (Grew w w1) := HG0.out.trans hg1
  go_wp2
  go_ret
  exact ⟨rfl, HG1.out⟩

theorem wrongFrame_any (a : Fr) (w : World) : Calls Try.prog 31 #[.agg (frv a).toArray] w fun e w' => e = .returned (.int .i64 (frW a)) ∧ Grew w w' := by
  obtain ⟨⟨b0, b1, b2, b3, b4, b5, b6, b7⟩, r, u, d, f, x⟩ := a
  show Calls Try.prog 31 #[.agg #[.int .u8 b0, .int .u8 b1, .int .u8 b2, .int .u8 b3, .int .u8 b4, .int .u8 b5, .int .u8 b6, .int .u8 b7, .int .i64 r, .bool u, .bool d, .int .i64 f, .int .i64 x]] w _
  cases hb1 : inB r 1001 with
  | false => rw [show frW (⟨⟨b0, b1, b2, b3, b4, b5, b6, b7⟩, r, u, d, f, x⟩ : Fr) = 3 from by simp [frW, hb1]]; exact wf1 _ _ _ _ _ _ _ _ _ _ _ _ _ w hb1
  | true =>
  cases hb2 : inB x 12 with
  | false => rw [show frW (⟨⟨b0, b1, b2, b3, b4, b5, b6, b7⟩, r, u, d, f, x⟩ : Fr) = 3 from by simp [frW, hb1, hb2]]; exact wf2 _ _ _ _ _ _ _ _ _ _ _ _ _ w hb1 hb2
  | true =>
  by_cases hf : f = -1
  · have hfe : (f == -1) = true := by simp [hf]
    have hfn : (f != -1) = false := by simp [hf]
    by_cases hr : r = 0
    · have hre : (r == 0) = true := by simp [hr]
      cases hfr : frEqB (⟨⟨b0, b1, b2, b3, b4, b5, b6, b7⟩, r, u, d, f, x⟩ : Fr) frF with
      | false => rw [show frW (⟨⟨b0, b1, b2, b3, b4, b5, b6, b7⟩, r, u, d, f, x⟩ : Fr) = 7 from by simp only [frW, hb1, hb2, hfe, hre, hfr]; rfl]; exact wf6 _ _ _ _ _ _ _ _ _ _ _ _ _ w hb1 hb2 hfn hfe hre hfr
      | true =>
        have hx : x = 0 := by have := frEqB_eq hfr; simp only [frF, Fr.mk.injEq] at this; exact this.2.2.2.2.2
        rw [show frW (⟨⟨b0, b1, b2, b3, b4, b5, b6, b7⟩, r, u, d, f, x⟩ : Fr) = 0 from by subst hx; simp only [frW, hb1, hb2, hfe, hre, hfr]; rfl]
        exact wf7 _ _ _ _ _ _ _ _ _ _ _ _ _ w hb1 hb2 hfn hfe hre hfr (by simp [hx])
    · have hre : (r == 0) = false := by simp [hr]
      by_cases hx : x = 0
      · rw [show frW (⟨⟨b0, b1, b2, b3, b4, b5, b6, b7⟩, r, u, d, f, x⟩ : Fr) = 0 from by subst hx; simp only [frW, hb1, hb2, hfe, hre]; rfl]
        exact wf9 _ _ _ _ _ _ _ _ _ _ _ _ _ w hb1 hb2 hfn hfe hre (by simp [hx])
      · have hxe : (x == 0) = false := by simp [hx]
        rw [show frW (⟨⟨b0, b1, b2, b3, b4, b5, b6, b7⟩, r, u, d, f, x⟩ : Fr) = 7 from by simp only [frW, hb1, hb2, hfe, hre, hxe]; rfl]
        exact wf8 _ _ _ _ _ _ _ _ _ _ _ _ _ w hb1 hb2 hfn hfe hre (by simp [hx])
  · have hfe : (f == -1) = false := by simp [hf]
    have hfn : (f != -1) = true := by simp [hf]
    cases hb3 : inB f 5 with
    | false => rw [show frW (⟨⟨b0, b1, b2, b3, b4, b5, b6, b7⟩, r, u, d, f, x⟩ : Fr) = 3 from by simp only [frW, hb1, hb2, hfe, hb3]; rfl]; exact wf3 _ _ _ _ _ _ _ _ _ _ _ _ _ w hb1 hb2 hfn hb3
    | true =>
      by_cases hr : r = 0
      · have hre : (r == 0) = true := by simp [hr]
        have hfr : frEqB (⟨⟨b0, b1, b2, b3, b4, b5, b6, b7⟩, r, u, d, f, x⟩ : Fr) frF = false := by
          refine frEqB_ne fun h => ?_
          simp only [frF, Fr.mk.injEq] at h
          exact hf h.2.2.2.2.1
        rw [show frW (⟨⟨b0, b1, b2, b3, b4, b5, b6, b7⟩, r, u, d, f, x⟩ : Fr) = 7 from by simp only [frW, hb1, hb2, hfe, hb3, hre, hfr]; rfl]
        exact wf4 _ _ _ _ _ _ _ _ _ _ _ _ _ w hb1 hb2 hfn hfe hb3 hre hfr
      · have hre : (r == 0) = false := by simp [hr]
        rw [show frW (⟨⟨b0, b1, b2, b3, b4, b5, b6, b7⟩, r, u, d, f, x⟩ : Fr) = 0 from by simp only [frW, hb1, hb2, hfe, hb3, hre]; rfl]
        exact wf5 _ _ _ _ _ _ _ _ _ _ _ _ _ w hb1 hb2 hfn hfe hb3 hre

end Go.Proofs.Ytbcaagmnmaonbab
