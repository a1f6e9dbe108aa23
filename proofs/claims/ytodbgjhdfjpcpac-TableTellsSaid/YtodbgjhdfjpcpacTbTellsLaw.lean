/- The walk of the law TableTells. -/
import Derived.Test.YtodbgjhdfjpcpacTbRefSet
import Derived.Test.YtodbgjhdfjpcpacTbSame
import Derived.Test.YtodbgjhdfjpcpacTbSameL
import Derived.Test.YtodbgjhdfjpcpacTbPages
import Derived.Test.YtodbgjhdfjpcpacTbFlatAt
import Derived.Test.YtodbgjhdfjpcpacApart
namespace Go.Proofs.Ytodbgjhdfjpcpac
open Go.RowKit

set_option maxRecDepth 100000 in
set_option maxHeartbeats 8000000 in
theorem tableTells_any (vs : List Value) (t : List (List En)) (n : Int) (x : En) (w : World) (hv : TabAt w vs t) :
    Calls Try.prog 7 #[.agg vs.toArray, .int .i64 n, .agg #[.int .i64 x.kind, .int .i64 x.n, .bool x.wr]] w fun e w' => e = .returned (.bool true) ∧ Grew w w' := by
  have HV : Hid (TabAt w vs t) := hv
  have HT8 : Hid (t.length = 8) := hv.tlen
  obtain ⟨v0, v1, v2, v3, v4, v5, v6, v7, rfl⟩ := eight hv.len
  clear hv
  have k1 := fun W (hW : Grew w W) => wrongTb_any [v0, v1, v2, v3, v4, v5, v6, v7] t W (HV.out.grew hW)
  have k2 := fun W (hW : Grew w W) => refWrongTb_any [v0, v1, v2, v3, v4, v5, v6, v7] t W (HV.out.grew hW)
  have k3 : ∀ W, Grew w W → Calls Try.prog 33 #[.agg #[v0, v1, v2, v3, v4, v5, v6, v7]] W fun e w' => ∃ us, e = .returned (.agg us.toArray) ∧ TabAt w' us t ∧ Grew W w' := fun W hW => (ownTb_any [v0, v1, v2, v3, v4, v5, v6, v7] t W (HV.out.grew hW)).mono (by
    rintro e w' ⟨us, he, h1, h2, _⟩
    exact ⟨us, he, h1.new.now, h2⟩)
  have k4 := fun W (hW : Grew w W) => setTb_any [v0, v1, v2, v3, v4, v5, v6, v7] t n x W (HV.out.grew hW)
  have k5 := fun W (hW : Grew w W) => refSetTb_any [v0, v1, v2, v3, v4, v5, v6, v7] t n x W (HV.out.grew hW)
  have k6 := fun W (hW : Grew w W) => getTb_any [v0, v1, v2, v3, v4, v5, v6, v7] t n W (HV.out.grew hW)
  have k7 := fun W (hW : Grew w W) => pagesTb_any [v0, v1, v2, v3, v4, v5, v6, v7] t W (HV.out.grew hW)
  have k8 := fun W (hW : Grew w W) => findTb_any [v0, v1, v2, v3, v4, v5, v6, v7] t x.kind x.n W (HV.out.grew hW)
  have k9 := fun W (hW : Grew w W) => guardTb_any [v0, v1, v2, v3, v4, v5, v6, v7] t W (HV.out.grew hW)
  obtain ⟨S, HS⟩ : ∃ S, Hid (tbW t = S) := ⟨_, rfl⟩
  obtain ⟨E, HE⟩ : ∃ E, Hid (setE t n x = E) := ⟨_, rfl⟩
  obtain ⟨R, HR⟩ : ∃ R, Hid (setR t n x = R) := ⟨_, rfl⟩
  obtain ⟨Z, HZ⟩ : ∃ Z, Hid (getT t n = Z) := ⟨_, rfl⟩
  simp only [HS.out] at k1 k2
  simp only [HE.out, HR.out] at k4 k5
  simp only [HZ.out, enV] at k6
  have hss : (S != S) = false := by simp
  have hee : (E != E) = false := by simp
  have hzz := fun W => en_eq Z.kind Z.n Z.kind Z.n Z.wr Z.wr W
  simp only [enEqB_self] at hzz
  obtain ⟨W0, hW0⟩ : ∃ W0, (w.alloc (.cells #[v0, v1, v2, v3, v4, v5, v6, v7] 55)).alloc (.cells #[.int .i64 x.kind, .int .i64 x.n, .bool x.wr] 57) = W0 := ⟨_, rfl⟩
  have HG0 : Hid (Grew w W0) := show Grew w W0 by rw [← hW0]; exact (grew_alloc _ _).trans (grew_alloc _ _)
  have X0 : Hid (Box W0 w.heap.size [v0, v1, v2, v3, v4, v5, v6, v7]) := show Box _ _ _ by rw [← hW0]; exact (Box.top w _ _ rfl).alloc _
  have E0 : Hid (Box W0 (w.heap.size + 1) [.int .i64 x.kind, .int .i64 x.n, .bool x.wr]) := show Box _ _ _ by rw [← hW0]; exact Box.top _ _ _ (by simp)
  have HW0 : Hid (_ = W0) := hW0
  clear hW0
  go_enter Try.func7, Try.ntmps7
  go_upto_region 1 with fail
  rw [HW0.out]
  have hv0 : ∀ y : GrownW W0, y.world.cell? ⟨w.heap.size, 0, none⟩ = some (v0) := fun y => (X0.out.grew y.grew).c 0 rfl
  have hv1 : ∀ y : GrownW W0, y.world.cell? ⟨w.heap.size, 1, none⟩ = some (v1) := fun y => (X0.out.grew y.grew).c 1 rfl
  have hv2 : ∀ y : GrownW W0, y.world.cell? ⟨w.heap.size, 2, none⟩ = some (v2) := fun y => (X0.out.grew y.grew).c 2 rfl
  have hv3 : ∀ y : GrownW W0, y.world.cell? ⟨w.heap.size, 3, none⟩ = some (v3) := fun y => (X0.out.grew y.grew).c 3 rfl
  have hv4 : ∀ y : GrownW W0, y.world.cell? ⟨w.heap.size, 4, none⟩ = some (v4) := fun y => (X0.out.grew y.grew).c 4 rfl
  have hv5 : ∀ y : GrownW W0, y.world.cell? ⟨w.heap.size, 5, none⟩ = some (v5) := fun y => (X0.out.grew y.grew).c 5 rfl
  have hv6 : ∀ y : GrownW W0, y.world.cell? ⟨w.heap.size, 6, none⟩ = some (v6) := fun y => (X0.out.grew y.grew).c 6 rfl
  have hv7 : ∀ y : GrownW W0, y.world.cell? ⟨w.heap.size, 7, none⟩ = some (v7) := fun y => (X0.out.grew y.grew).c 7 rfl
  have hne : Nonempty (GrownW W0) := ⟨⟨_, Grew.refl _⟩⟩
  refine wp_lax [(1, ⟨fun v => v = .int .i64 S, fun _ _ => True⟩), (3, ⟨fun v => v = .int .i64 S, fun _ _ => True⟩), (7, ⟨fun v => ∃ us : List Value, us.length = 8 ∧ v = .agg us.toArray, fun v w' => ∃ us : List Value, v = .agg us.toArray ∧ TabAt w' us t⟩), (9, ⟨fun v => v = .bool true, fun _ _ => True⟩)] mixed (by kernel_rfl) ?_ ?_ ?_
  · intro y hy
    simp at hy
    rcases hy with rfl | rfl | rfl | rfl
    · exact ⟨_, rfl⟩
    · exact ⟨_, rfl⟩
    · exact ⟨_, nil8, rfl, rfl⟩
    · exact ⟨_, rfl⟩
  · intro y hy
    simp at hy
    rcases hy with rfl | rfl | rfl | rfl
    · exact fun _ _ _ _ h => h
    · exact fun _ _ _ _ h => h
    · exact fun _ _ _ hg ⟨us, h1, h2⟩ => ⟨us, h1, h2.grew hg⟩
    · exact fun _ _ _ _ h => h
  iterate 1 (refine lax_quiet rfl rfl rfl (fun K hK => ?_); go_big_quiet_op; refine hK _ ?_; clear hK K)
  refine lax_spec rfl rfl (fun w' hg hF => ?_) (fun v1 hv => ?_)
  · refine Does.call [.agg #[v0, v1, v2, v3, v4, v5, v6, v7]] rfl Try.func30 rfl rfl rfl ?_
    refine (k1 w' (HG0.out.trans hg)).mono ?_
    rintro e w'' ⟨rfl, hg2⟩
    exact ⟨_, rfl, hg2, rfl, trivial⟩
  subst hv
  simp only [Act.put, List.setIfInBounds_toArray, List.set_cons_succ, List.set_cons_zero]
  iterate 1 (refine lax_quiet rfl rfl rfl (fun K hK => ?_); go_big_quiet_op; refine hK _ ?_; clear hK K)
  refine lax_spec rfl rfl (fun w' hg hF => ?_) (fun v1 hv => ?_)
  · refine Does.call [.agg #[v0, v1, v2, v3, v4, v5, v6, v7]] rfl Try.func31 rfl rfl rfl ?_
    refine (k2 w' (HG0.out.trans hg)).mono ?_
    rintro e w'' ⟨rfl, hg2⟩
    exact ⟨_, rfl, hg2, rfl, trivial⟩
  subst hv
  simp only [Act.put, List.setIfInBounds_toArray, List.set_cons_succ, List.set_cons_zero]
  iterate 3 (refine lax_quiet rfl rfl rfl (fun K hK => ?_); go_big_quiet_op; refine hK _ ?_; clear hK K)
  refine lax_spec rfl rfl (fun w' hg hF => ?_) (fun v1 hv => ?_)
  · refine Does.call [.agg #[v0, v1, v2, v3, v4, v5, v6, v7]] rfl Try.func33 rfl rfl rfl ?_
    refine (k3 w' (HG0.out.trans hg)).mono ?_
    rintro e w'' ⟨us, rfl, tu, hg2⟩
    exact ⟨_, rfl, hg2, ⟨us, tu.len, rfl⟩, us, rfl, tu⟩
  obtain ⟨os, os8, rfl⟩ := hv
  simp only [Act.put, List.setIfInBounds_toArray, List.set_cons_succ, List.set_cons_zero]
  iterate 1 (refine lax_quiet rfl rfl rfl (fun K hK => ?_); go_big_quiet_op; refine hK _ ?_; clear hK K)
  refine lax_spec rfl rfl (fun w' hg hF => ?_) (fun v1 hv => ?_)
  · have tos : TabAt w' os t := (by obtain ⟨us, h1, h2⟩ : ∃ us : List Value, (Value.agg os.toArray) = .agg us.toArray ∧ TabAt w' us t := hF 7 (by kernel_rfl); have h3 : os = us := (by simpa using h1); rw [h3]; exact h2)
    refine Does.call [.agg os.toArray, .agg #[v0, v1, v2, v3, v4, v5, v6, v7]] rfl Try.func32 rfl rfl rfl ?_
    refine (sameTb_any os [v0, v1, v2, v3, v4, v5, v6, v7] t w' tos (HV.out.grew (HG0.out.trans hg))).mono ?_
    rintro e w'' ⟨rfl, hg2⟩
    exact ⟨_, rfl, hg2, rfl, trivial⟩
  subst hv
  simp only [Act.put, List.setIfInBounds_toArray, List.set_cons_succ, List.set_cons_zero]
  iterate 2 (refine lax_quiet rfl rfl rfl (fun K hK => ?_); go_big_quiet_op; refine hK _ ?_; clear hK K)
  refine lax_nil fun W1 hg1 hF => ?_
  have G1 : Hid (Grew w W1) := HG0.out.trans hg1
  have X1 : Hid (Box W1 w.heap.size [v0, v1, v2, v3, v4, v5, v6, v7]) := X0.out.grew hg1
  have E1 : Hid (Box W1 (w.heap.size + 1) [.int .i64 x.kind, .int .i64 x.n, .bool x.wr]) := E0.out.grew hg1
  clear hF hg1 hne os8 k1 k3 hv0 hv1 hv2 hv3 hv4 hv5 hv6 hv7
  have x0 := X1.out.c 0 rfl
  have x1 := X1.out.c 1 rfl
  have x2 := X1.out.c 2 rfl
  have x3 := X1.out.c 3 rfl
  have x4 := X1.out.c 4 rfl
  have x5 := X1.out.c 5 rfl
  have x6 := X1.out.c 6 rfl
  have x7 := X1.out.c 7 rfl
  have e0 := E1.out.c 0 rfl
  have e1 := E1.out.c 1 rfl
  have e2 := E1.out.c 2 rfl
  go_wp2_with fail
  refine (k4 W1 G1.out).mono ?_
  rintro e W2 ⟨aas, rfl, ts, g2⟩
  have TA : Hid (TabAt W2 aas R) := ts.now
  have G2 : Hid (Grew w W2) := G1.out.trans g2
  have X2 : Hid (Box W2 w.heap.size [v0, v1, v2, v3, v4, v5, v6, v7]) := X1.out.grew g2
  have E2 : Hid (Box W2 (w.heap.size + 1) [.int .i64 x.kind, .int .i64 x.n, .bool x.wr]) := E1.out.grew g2
  clear ts g2 k4 x0 x1 x2 x3 x4 x5 x6 x7 e0 e1 e2
  obtain ⟨pa, HPA⟩ : ∃ pa, Hid (W2.heap.size = pa) := ⟨_, rfl⟩
  go_wp2_with (refine wp_storeAll rfl 55 (.tmp 7) (.tmp 34) rfl W2.heap.size rfl aas rfl (Box.top W2 nil8 55 rfl) TA.out.len Try.sizeTable TA.out.one ?_)
  intro W3 b3 g3 s3
  rw [HPA.out] at b3 g3 ⊢
  have G23 : Hid (Grew W2 W3) := show Grew _ _ from grew_grown (grew_alloc W2 _) g3 (by rw [HPA.out]; exact Nat.le_refl _)
  obtain ⟨a0, a1, a2, a3, a4, a5, a6, a7, rfl⟩ := eight TA.out.len
  have A3 : Hid (Box W3 pa [a0, a1, a2, a3, a4, a5, a6, a7]) := b3
  have TA3 : Hid (TabAt W3 [a0, a1, a2, a3, a4, a5, a6, a7] R) := TA.out.grew G23.out
  have G3 : Hid (Grew w W3) := G2.out.trans G23.out
  have X3 : Hid (Box W3 w.heap.size [v0, v1, v2, v3, v4, v5, v6, v7]) := X2.out.grew G23.out
  have E3 : Hid (Box W3 (w.heap.size + 1) [.int .i64 x.kind, .int .i64 x.n, .bool x.wr]) := E2.out.grew G23.out
  clear b3 g3 s3
  have x0 := X3.out.c 0 rfl
  have x1 := X3.out.c 1 rfl
  have x2 := X3.out.c 2 rfl
  have x3 := X3.out.c 3 rfl
  have x4 := X3.out.c 4 rfl
  have x5 := X3.out.c 5 rfl
  have x6 := X3.out.c 6 rfl
  have x7 := X3.out.c 7 rfl
  have e0 := E3.out.c 0 rfl
  have e1 := E3.out.c 1 rfl
  have e2 := E3.out.c 2 rfl
  go_wp2_with fail
  refine (k5 W3 G3.out).mono ?_
  rintro e W4 ⟨bbs, rfl, ts, g4⟩
  have TB : Hid (TabAt W4 bbs R) := ts
  have G4 : Hid (Grew w W4) := G3.out.trans g4
  have X4 : Hid (Box W4 w.heap.size [v0, v1, v2, v3, v4, v5, v6, v7]) := X3.out.grew g4
  have E4 : Hid (Box W4 (w.heap.size + 1) [.int .i64 x.kind, .int .i64 x.n, .bool x.wr]) := E3.out.grew g4
  have A4 : Hid (Box W4 pa [a0, a1, a2, a3, a4, a5, a6, a7]) := A3.out.grew g4
  have TA4 : Hid (TabAt W4 [a0, a1, a2, a3, a4, a5, a6, a7] R) := TA3.out.grew g4
  clear ts g4 k5 x0 x1 x2 x3 x4 x5 x6 x7 e0 e1 e2
  obtain ⟨pb, HPB⟩ : ∃ pb, Hid (W4.heap.size = pb) := ⟨_, rfl⟩
  go_wp2_with (refine wp_storeAll rfl 55 (.tmp 9) (.tmp 41) rfl W4.heap.size rfl bbs rfl (Box.top W4 nil8 55 rfl) TB.out.len Try.sizeTable TB.out.one ?_)
  intro W5 b5 g5 s5
  rw [HPB.out] at b5 g5 ⊢
  have G45 : Hid (Grew W4 W5) := show Grew _ _ from grew_grown (grew_alloc W4 _) g5 (by rw [HPB.out]; exact Nat.le_refl _)
  obtain ⟨bb0, bb1, bb2, bb3, bb4, bb5, bb6, bb7, rfl⟩ := eight TB.out.len
  have B5 : Hid (Box W5 pb [bb0, bb1, bb2, bb3, bb4, bb5, bb6, bb7]) := b5
  have A5 : Hid (Box W5 pa [a0, a1, a2, a3, a4, a5, a6, a7]) := A4.out.grew G45.out
  have G5 : Hid (Grew w W5) := G4.out.trans G45.out
  have X5 : Hid (Box W5 w.heap.size [v0, v1, v2, v3, v4, v5, v6, v7]) := X4.out.grew G45.out
  have E5 : Hid (Box W5 (w.heap.size + 1) [.int .i64 x.kind, .int .i64 x.n, .bool x.wr]) := E4.out.grew G45.out
  have hsm := sameTb_any [a0, a1, a2, a3, a4, a5, a6, a7] [bb0, bb1, bb2, bb3, bb4, bb5, bb6, bb7] R W5 (TA4.out.grew G45.out) (TB.out.grew G45.out)
  clear b5 g5 s5
  have qa0 := A5.out.c 0 rfl
  have qa1 := A5.out.c 1 rfl
  have qa2 := A5.out.c 2 rfl
  have qa3 := A5.out.c 3 rfl
  have qa4 := A5.out.c 4 rfl
  have qa5 := A5.out.c 5 rfl
  have qa6 := A5.out.c 6 rfl
  have qa7 := A5.out.c 7 rfl
  have qb0 := B5.out.c 0 rfl
  have qb1 := B5.out.c 1 rfl
  have qb2 := B5.out.c 2 rfl
  have qb3 := B5.out.c 3 rfl
  have qb4 := B5.out.c 4 rfl
  have qb5 := B5.out.c 5 rfl
  have qb6 := B5.out.c 6 rfl
  have qb7 := B5.out.c 7 rfl
  go_wp2_with fail
  refine hsm.mono ?_
  rintro e W6 ⟨rfl, g6⟩
  have G6 : Hid (Grew w W6) := G5.out.trans g6
  have X6 : Hid (Box W6 w.heap.size [v0, v1, v2, v3, v4, v5, v6, v7]) := X5.out.grew g6
  have E6 : Hid (Box W6 (w.heap.size + 1) [.int .i64 x.kind, .int .i64 x.n, .bool x.wr]) := E5.out.grew g6
  clear g6 hsm qa0 qa1 qa2 qa3 qa4 qa5 qa6 qa7 qb0 qb1 qb2 qb3 qb4 qb5 qb6 qb7 A3 A4 A5 B5 TA TB TA3 TA4
  have x0 := X6.out.c 0 rfl
  have x1 := X6.out.c 1 rfl
  have x2 := X6.out.c 2 rfl
  have x3 := X6.out.c 3 rfl
  have x4 := X6.out.c 4 rfl
  have x5 := X6.out.c 5 rfl
  have x6 := X6.out.c 6 rfl
  have x7 := X6.out.c 7 rfl
  go_wp2_with fail
  refine (k2 W6 G6.out).mono ?_
  rintro e W7 ⟨rfl, g7⟩
  have G7 : Hid (Grew w W7) := G6.out.trans g7
  have X7 : Hid (Box W7 w.heap.size [v0, v1, v2, v3, v4, v5, v6, v7]) := X6.out.grew g7
  have E7 : Hid (Box W7 (w.heap.size + 1) [.int .i64 x.kind, .int .i64 x.n, .bool x.wr]) := E6.out.grew g7
  clear g7 k2 x0 x1 x2 x3 x4 x5 x6 x7
  by_cases hS : S = 0
  · have HTB : Hid (TbOk t) := show TbOk t from ⟨HT8.out, tbW_zero.1 (HS.out.trans hS)⟩
    subst hS
    obtain ⟨F, HF⟩ : ∃ F, Hid (flatT t = F) := ⟨_, rfl⟩
    have HFL : Hid (F.length = 64) := show _ = _ by rw [← HF.out, flatT_len]
    have HCL : Hid ((cellsL F).length = 192) := show _ = _ by rw [cellsL_len, HFL.out]
    have hfl := flatTb_any [v0, v1, v2, v3, v4, v5, v6, v7] t W7 (HV.out.grew G7.out) (fun h hh => by
      rcases HTB.out.ok h hh with h1 | h1
      · rw [h1]; exact Nat.zero_le _
      · rw [h1.1]; exact Nat.le_refl _)
    rw [HF.out] at hfl
    have x0 := X7.out.c 0 rfl
    have x1 := X7.out.c 1 rfl
    have x2 := X7.out.c 2 rfl
    have x3 := X7.out.c 3 rfl
    have x4 := X7.out.c 4 rfl
    have x5 := X7.out.c 5 rfl
    have x6 := X7.out.c 6 rfl
    have x7 := X7.out.c 7 rfl
    go_wp2_with fail
    refine hfl.mono ?_
    rintro e W8 ⟨rfl, g8⟩
    have G8 : Hid (Grew w W8) := G7.out.trans g8
    have X8 : Hid (Box W8 w.heap.size [v0, v1, v2, v3, v4, v5, v6, v7]) := X7.out.grew g8
    have E8 : Hid (Box W8 (w.heap.size + 1) [.int .i64 x.kind, .int .i64 x.n, .bool x.wr]) := E7.out.grew g8
    clear g8 hfl x0 x1 x2 x3 x4 x5 x6 x7
    have hz := run_zeroFlat
    obtain ⟨Z0, HZ0⟩ : ∃ Z0, Hid (cellsL flat0 = Z0) := ⟨_, rfl⟩
    rw [HZ0.out] at hz
    have HZL : Hid (Z0.length = 192) := show _ = _ by rw [← HZ0.out, cellsL_len]; rfl
    obtain ⟨pF, HPF⟩ : ∃ pF, Hid (W8.heap.size = pF) := ⟨_, rfl⟩
    go_wp2_with (refine wp_storeAll rfl 63 (.tmp 11) (.tmp 56) rfl W8.heap.size rfl (cellsL F) rfl (Box.top W8 Z0 63 rfl) (by rw [HCL.out, HZL.out]) (by rw [HZL.out]; exact Try.sizeFlat) (cellsL_one F) ?_)
    intro W9 b9 g9 s9
    rw [HPF.out] at b9 g9 ⊢
    have G89 : Hid (Grew W8 W9) := show Grew _ _ from grew_grown (grew_alloc W8 _) g9 (by rw [HPF.out]; exact Nat.le_refl _)
    have F9 : Hid (Box W9 pF (cellsL F)) := b9
    have G9 : Hid (Grew w W9) := G8.out.trans G89.out
    have X9 : Hid (Box W9 w.heap.size [v0, v1, v2, v3, v4, v5, v6, v7]) := X8.out.grew G89.out
    have E9 : Hid (Box W9 (w.heap.size + 1) [.int .i64 x.kind, .int .i64 x.n, .bool x.wr]) := E8.out.grew G89.out
    have HPW : Hid (w.heap.size + 2 ≤ pF) := show _ ≤ _ by rw [← HPF.out]; exact E8.out.lt
    clear b9 g9 s9 hz
    go_upto_region 11 with fail
    obtain ⟨pw, hpw⟩ : ∃ pw, W9.heap.size = pw := ⟨_, rfl⟩
    obtain ⟨WA, hWA⟩ : ∃ WA, W9.alloc (.cells #[.int .i64 0, .int .i64 0, .bool false] 57) = WA := ⟨_, rfl⟩
    have G9A : Hid (Grew W9 WA) := show Grew _ _ by rw [← hWA]; exact grew_alloc _ _
    have PA : Hid (Box WA pw [.int .i64 0, .int .i64 0, .bool false]) := show Box _ _ _ by rw [← hWA]; exact Box.top _ _ _ hpw.symm
    have HPP : Hid (pF < pw) := show _ < _ by rw [← hpw]; exact F9.out.lt
    rw [hWA]
    rw [hpw]
    clear hWA hpw
    have FA : Hid (Box WA pF (cellsL F)) := F9.out.grew G9A.out
    have XA : Hid (Box WA w.heap.size [v0, v1, v2, v3, v4, v5, v6, v7]) := X9.out.grew G9A.out
    have EA : Hid (Box WA (w.heap.size + 1) [.int .i64 x.kind, .int .i64 x.n, .bool x.wr]) := E9.out.grew G9A.out
    have GA : Hid (Grew w WA) := G9.out.trans G9A.out
    by_cases hn0 : 0 ≤ n
    · by_cases hn1 : n < 64
      · obtain ⟨nn, rfl⟩ : ∃ nn : Nat, n = (nn : Int) := ⟨n.toNat, by omega⟩
        have hnn : nn < 64 := by omega
        have HFZ : Hid (F[nn]? = some Z) := show _ = _ by rw [← HF.out, flatT_at t hnn, ← HZ.out]; unfold getT; rw [if_pos ⟨hn0, hn1⟩, Int.toNat_natCast]
        obtain ⟨c0, c1, c2⟩ := cellsL_at HFZ.out
        have l0 := FA.out.c _ c0
        have l1 := FA.out.c _ c1
        have l2 := FA.out.c _ c2
        have q0 := PA.out.c 0 rfl
        have q1 := PA.out.c 1 rfl
        have q2 := PA.out.c 2 rfl
        have qf := PA.out.f
        clear c0 c1 c2
        go_upto_region 13 with fail
        obtain ⟨WB, hWB⟩ : ∃ WB, ((WA.setCell ⟨pw, 0, none⟩ (.int .i64 Z.kind)).setCell ⟨pw, 1, none⟩ (.int .i64 Z.n)).setCell ⟨pw, 2, none⟩ (.bool Z.wr) = WB := ⟨_, rfl⟩
        have hpn : w.heap.size + 2 ≤ pF ∧ pF < pw := ⟨HPW.out, HPP.out⟩
        have PB : Hid (Box WB pw [.int .i64 Z.kind, .int .i64 Z.n, .bool Z.wr]) := show Box _ _ _ by rw [← hWB]; simpa using ((PA.out.set 0 (.int .i64 Z.kind)).set 1 (.int .i64 Z.n)).set 2 (.bool Z.wr)
        have FB : Hid (Box WB pF (cellsL F)) := show Box _ _ _ by rw [← hWB]; exact ((FA.out.other (by simp; omega) _).other (by simp; omega) _).other (by simp; omega) _
        have XB : Hid (Box WB w.heap.size [v0, v1, v2, v3, v4, v5, v6, v7]) := show Box _ _ _ by rw [← hWB]; exact ((XA.out.other (by simp; omega) _).other (by simp; omega) _).other (by simp; omega) _
        have EB : Hid (Box WB (w.heap.size + 1) [.int .i64 x.kind, .int .i64 x.n, .bool x.wr]) := show Box _ _ _ by rw [← hWB]; exact ((EA.out.other (by simp; omega) _).other (by simp; omega) _).other (by simp; omega) _
        have GB : Hid (Grew w WB) := show Grew _ _ by rw [← hWB]; exact Below.setCell (Below.setCell (Below.setCell GA.out (p := ⟨pw, 0, none⟩) (by simp; omega) _) (p := ⟨pw, 1, none⟩) (by simp; omega) _) (p := ⟨pw, 2, none⟩) (by simp; omega) _
        rw [hWB]
        clear hWB l0 l1 l2 q0 q1 q2 qf hpn
        have hv0 : ∀ y : GrownW WB, y.world.cell? ⟨w.heap.size, 0, none⟩ = some (v0) := fun y => (XB.out.grew y.grew).c 0 rfl
        have hv1 : ∀ y : GrownW WB, y.world.cell? ⟨w.heap.size, 1, none⟩ = some (v1) := fun y => (XB.out.grew y.grew).c 1 rfl
        have hv2 : ∀ y : GrownW WB, y.world.cell? ⟨w.heap.size, 2, none⟩ = some (v2) := fun y => (XB.out.grew y.grew).c 2 rfl
        have hv3 : ∀ y : GrownW WB, y.world.cell? ⟨w.heap.size, 3, none⟩ = some (v3) := fun y => (XB.out.grew y.grew).c 3 rfl
        have hv4 : ∀ y : GrownW WB, y.world.cell? ⟨w.heap.size, 4, none⟩ = some (v4) := fun y => (XB.out.grew y.grew).c 4 rfl
        have hv5 : ∀ y : GrownW WB, y.world.cell? ⟨w.heap.size, 5, none⟩ = some (v5) := fun y => (XB.out.grew y.grew).c 5 rfl
        have hv6 : ∀ y : GrownW WB, y.world.cell? ⟨w.heap.size, 6, none⟩ = some (v6) := fun y => (XB.out.grew y.grew).c 6 rfl
        have hv7 : ∀ y : GrownW WB, y.world.cell? ⟨w.heap.size, 7, none⟩ = some (v7) := fun y => (XB.out.grew y.grew).c 7 rfl
        have hq0 : ∀ y : GrownW WB, y.world.cell? ⟨pw, 0, none⟩ = some (.int .i64 Z.kind) := fun y => (PB.out.grew y.grew).c 0 rfl
        have hq1 : ∀ y : GrownW WB, y.world.cell? ⟨pw, 1, none⟩ = some (.int .i64 Z.n) := fun y => (PB.out.grew y.grew).c 1 rfl
        have hq2 : ∀ y : GrownW WB, y.world.cell? ⟨pw, 2, none⟩ = some (.bool Z.wr) := fun y => (PB.out.grew y.grew).c 2 rfl
        have hne : Nonempty (GrownW WB) := ⟨⟨_, Grew.refl _⟩⟩
        refine wp_lax [(2, ⟨fun v => v = .agg #[.int .i64 Z.kind, .int .i64 Z.n, .bool Z.wr], fun _ _ => True⟩)] mixed (by kernel_rfl) ?_ ?_ ?_
        · intro y hy
          simp at hy
          subst hy
          exact ⟨_, rfl⟩
        · intro y hy
          simp at hy
          subst hy
          exact fun _ _ _ _ h => h
        iterate 2 (refine lax_quiet rfl rfl rfl (fun K hK => ?_); go_big_quiet_op; refine hK _ ?_; clear hK K)
        refine lax_spec rfl rfl (fun w' hg hF => ?_) (fun v1 hv => ?_)
        · refine Does.call [.agg #[v0, v1, v2, v3, v4, v5, v6, v7], .int .i64 (nn : Int)] rfl Try.func37 rfl rfl rfl ?_
          refine (k6 w' (GB.out.trans hg)).mono ?_
          rintro e w'' ⟨rfl, hg2⟩
          exact ⟨_, rfl, hg2, rfl, trivial⟩
        subst hv
        simp only [Act.put, List.setIfInBounds_toArray, List.set_cons_succ, List.set_cons_zero]
        iterate 2 (refine lax_quiet rfl rfl rfl (fun K hK => ?_); go_big_quiet_op; refine hK _ ?_; clear hK K)
        refine lax_nil fun WC hgC hF => ?_
        have GC : Hid (Grew w WC) := GB.out.trans hgC
        have XC : Hid (Box WC w.heap.size [v0, v1, v2, v3, v4, v5, v6, v7]) := XB.out.grew hgC
        have EC : Hid (Box WC (w.heap.size + 1) [.int .i64 x.kind, .int .i64 x.n, .bool x.wr]) := EB.out.grew hgC
        have FC : Hid (Box WC pF (cellsL F)) := FB.out.grew hgC
        have HPS : Hid (pw < WC.heap.size) := show _ < _ from (PB.out.grew hgC).lt
        clear hF hgC hne hzz hv0 hv1 hv2 hv3 hv4 hv5 hv6 hv7 hq0 hq1 hq2
        obtain ⟨P1, HP1⟩ : ∃ P1, Hid (pagesTo t allB = P1) := ⟨_, rfl⟩
        obtain ⟨P2, HP2⟩ : ∃ P2, Hid (pagesTo t (fitB x.kind x.n) = P2) := ⟨_, rfl⟩
        simp only [HP1.out] at k7
        simp only [HP2.out] at k8
        have HL1 : Hid (∀ m, (P1 m).length ≤ m) := show ∀ m, _ from fun m => by rw [← HP1.out]; exact pagesTo_len _ _ _
        have HL2 : Hid (∀ m, (P2 m).length ≤ m) := show ∀ m, _ from fun m => by rw [← HP2.out]; exact pagesTo_len _ _ _
        have HST : Hid (∀ (m : Nat) (z : En), F[m]? = some z → 0 ≤ z.kind ∧ P1 (m + 1) = (if decide (0 < z.kind) then P1 m ++ [(m : Int)] else P1 m) ∧ P2 (m + 1) = (if decide (0 < z.kind) && fitB x.kind x.n z then P2 m ++ [(m : Int)] else P2 m)) := show ∀ (m : Nat) (z : En), _ from fun m z hz => by
          have hm : m < 64 := by rw [← HFL.out]; exact (List.getElem?_eq_some_iff.1 hz).1
          rw [← HF.out, flatT_at t hm] at hz
          cases hz
          have h0 : 0 ≤ (getN t (m / 8) (m % 8)).kind := (enW_zero (HTB.out.get _ _)).1.1
          have hs : enS (getN t (m / 8) (m % 8)) = decide (0 < (getN t (m / 8) (m % 8)).kind) := by
            unfold enS
            by_cases h : (getN t (m / 8) (m % 8)).kind = 0
            · rw [h]; rfl
            · rw [decide_eq_true (by omega)]
              simpa using h
          refine ⟨h0, ?_, ?_⟩
          · rw [← HP1.out, pagesTo_succ, hs]
            simp [allB]
          · rw [← HP2.out, pagesTo_succ, hs]
        go_wp2_with (refine wp_loadAll rfl 63 (.tmp 11) rfl pF rfl FC.out Try.underlying63 rfl (by rw [HCL.out]; exact Try.sizeFlat) ?_)
        go_loopg [13, 14, 73] 64 (fun gg s13 s14 s73 wr => ∃ (kk n1 c1 n2 c2 : Nat) (d1 d2 : Option Addr) (l' : List En), kk ≤ 64 ∧ 64 - kk ≤ gg ∧ s73 = .int .i64 kk ∧ s13 = .slice d1 n1 c1 ∧ s14 = .slice d2 n2 c2 ∧ Hid (Grew w wr) ∧ Hid (WC.heap.size ≤ wr.heap.size) ∧ Hid (OwnRow blE WC.heap.size wr (.slice d1 n1 c1) (P1 kk)) ∧ Hid (OwnRow blE WC.heap.size wr (.slice d2 n2 c2) (P2 kk)) ∧ Hid (∀ g, (Value.slice d1 n1 c1).ownBlock = some g → (Value.slice d2 n2 c2).ownBlock ≠ some g) ∧ Hid (Box wr pF (cellsL l')) ∧ Hid (Upto enG kk F l') ∧ Hid (Box wr w.heap.size [v0, v1, v2, v3, v4, v5, v6, v7]) ∧ Hid (Box wr (w.heap.size + 1) [.int .i64 x.kind, .int .i64 x.n, .bool x.wr]))
        case atStart => exact ⟨0, 0, 0, 0, 0, none, none, F, Nat.zero_le _, by omega, rfl, rfl, rfl, GC.out, Nat.le_refl _, by rw [← HP1.out]; exact OwnRow.nil _ _ _, by rw [← HP2.out]; exact OwnRow.nil _ _ _, fun g h => (by cases h), FC.out, Upto.zero _ _, XC.out, EC.out⟩
        case round =>
          obtain ⟨kk, n1, c1, n2, c2, d1, d2, l', hkk, hgg, rfl, rfl, rfl, BW, SW, OW1, OW2, AP, FW, UW, XW, EW⟩ := hrel
          by_cases hlt : kk < 64
          · have hltz : (kk : Int) < 64 := by omega
            obtain ⟨z, hz⟩ : ∃ z, F[kk]? = some z := ⟨_, List.getElem?_eq_getElem (by rw [HFL.out]; exact hlt)⟩
            have HZF : Hid (F[kk]? = some z) := hz
            obtain ⟨hk0, s1, s2⟩ := HST.out kk z hz
            have HZL' : Hid (l'[kk]? = some z) := show _ = _ by rw [UW.out kk, if_neg (Nat.lt_irrefl _)]; exact hz
            obtain ⟨r0, r1, r2⟩ := cellsL_at HZL'.out
            have HR2 : Hid ((cellsL l')[kk * 3 + 2]? = some (.bool z.wr)) := r2
            have HCS : Hid ((cellsL l').set (kk * 3 + 2) (.bool false) = cellsL (l'.set kk (enG z))) := show _ = _ by
              have h1 := cellsL_set (enG z) (show kk < l'.length from (List.getElem?_eq_some_iff.1 HZL'.out).1)
              rw [← h1]
              have e0 : (cellsL l').set (kk * 3) (.int .i64 (enG z).kind) = cellsL l' := set_same r0
              rw [e0, set_same (show (cellsL l')[kk * 3 + 1]? = some (.int .i64 (enG z).n) from r1)]
              rfl
            have U2 : Hid (Upto enG (kk + 1) F (l'.set kk (enG z))) := UW.out.step hz
            clear r0 r1 r2 hz
            go_upto_region 19 with (refine wp_flatAt rfl (.tmp 72) (.tmp 73) rfl F rfl kk rfl hlt HZF.out ?_)
            obtain ⟨pz, hpz⟩ : ∃ pz, wr.heap.size = pz := ⟨_, rfl⟩
            obtain ⟨WD, hWD⟩ : ∃ WD, wr.alloc (.cells #[.int .i64 z.kind, .int .i64 z.n, .bool z.wr] 57) = WD := ⟨_, rfl⟩
            have GD : Hid (Grew wr WD) := show Grew _ _ by rw [← hWD]; exact grew_alloc _ _
            have PD : Hid (Box WD pz [.int .i64 z.kind, .int .i64 z.n, .bool z.wr]) := show Box _ _ _ by rw [← hWD]; exact Box.top _ _ _ hpz.symm
            have HPZ : Hid (WC.heap.size ≤ pz) := show _ ≤ _ by rw [← hpz]; exact SW.out
            have HPZ' : Hid (wr.heap.size ≤ pz) := show _ ≤ _ by rw [← hpz]; exact Nat.le_refl _
            rw [hWD]
            rw [hpz]
            clear hWD hpz
            have FD : Hid (Box WD pF (cellsL l')) := FW.out.grew GD.out
            have XD : Hid (Box WD w.heap.size [v0, v1, v2, v3, v4, v5, v6, v7]) := XW.out.grew GD.out
            have ED : Hid (Box WD (w.heap.size + 1) [.int .i64 x.kind, .int .i64 x.n, .bool x.wr]) := EW.out.grew GD.out
            have OD1 : Hid (OwnRow blE WC.heap.size WD (.slice d1 n1 c1) (P1 kk)) := OW1.out.grew GD.out
            have OD2 : Hid (OwnRow blE WC.heap.size WD (.slice d2 n2 c2) (P2 kk)) := OW2.out.grew GD.out
            have GWD : Hid (Grew w WD) := BW.out.trans GD.out
            have SD : Hid (WC.heap.size ≤ WD.heap.size) := Nat.le_trans SW.out (Below.size GD.out)
            have z0 := PD.out.c 0 rfl
            by_cases hp : 0 < z.kind
            · rw [decide_eq_true hp] at s1 s2
              simp only [Bool.true_and, if_true] at s1 s2
              have HS1 : Hid (P1 (kk + 1) = P1 kk ++ [(kk : Int)]) := s1
              have HS2 : Hid (P2 (kk + 1) = if fitB x.kind x.n z = true then P2 kk ++ [(kk : Int)] else P2 kk) := s2
              clear s1 s2
              have HR1 : Hid (RowAt blE (WD.alloc (.cells #[.int .i64 (kk : Int)] 3)) (.slice (some ⟨WD.heap.size, 0, none⟩) 1 1) [(kk : Int)]) := one_row blE WD (kk : Int) _ _ rfl (by decide)
              go_wp2_with (at_builtin; refine wpList_append_apart (E := blE) rfl (.tmp 80) (.tmp 82) rfl WC.heap.size _ (P1 kk) rfl (OD1.out.grew (grew_alloc _ _)) _ [(kk : Int)] rfl HR1.out ?qb ?qc ?_)
              case qb =>
                have := HL1.out kk
                show (_ + 1) * 8 ≤ _
                omega
              case qc => exact Nat.le_trans SD.out (Below.size (grew_alloc _ _))
              intro vF WF owF grF apF
              obtain ⟨f1, cf1, rfl⟩ := owF.form
              have hlp : (P1 kk ++ [(kk : Int)]).length = (P1 (kk + 1)).length := by rw [HS1.out]
              rw [← HS1.out] at owF
              rw [hlp] at apF ⊢
              have GDF : Hid (WD.grownBy WF (Value.slice d1 n1 c1).ownBlock) := show World.grownBy _ _ _ from grown_trans (grew_by (grew_alloc _ _) _) grF
              have OF1 : Hid (OwnRow blE WC.heap.size WF (.slice f1 (P1 (kk + 1)).length cf1) (P1 (kk + 1))) := owF
              have OF2 : Hid (OwnRow blE WC.heap.size WF (.slice d2 n2 c2) (P2 kk)) := OD2.out.grown GDF.out (fun g h2 h1 => AP.out g h1 h2)
              have APF : Hid (∀ g, (Value.slice f1 (P1 (kk + 1)).length cf1).ownBlock = some g → (Value.slice d2 n2 c2).ownBlock ≠ some g) := show ∀ g, _ from fun g h1 h2 => by
                rcases apF g h1 with h3 | h3
                · exact AP.out g h3 h2
                · have := (OD2.out.lt g h2).2
                  have := Below.size (grew_alloc WD (.cells #[.int .i64 (kk : Int)] 3))
                  omega
              have hb1 : ∀ b, b < WC.heap.size → ∀ g, (Value.slice d1 n1 c1).ownBlock = some g → b ≠ g := fun b hb g h => by have := (OD1.out.lt g h).1; omega
              have HPN : Hid (w.heap.size + 2 ≤ pF ∧ pF < pw ∧ pw < WC.heap.size) := show _ ∧ _ ∧ _ from ⟨HPW.out, HPP.out, HPS.out⟩
              have FF : Hid (Box WF pF (cellsL l')) := FD.out.beside GDF.out (hb1 _ (by have := HPN.out; omega))
              have XF : Hid (Box WF w.heap.size [v0, v1, v2, v3, v4, v5, v6, v7]) := XD.out.beside GDF.out (hb1 _ (by have := HPN.out; omega))
              have EF : Hid (Box WF (w.heap.size + 1) [.int .i64 x.kind, .int .i64 x.n, .bool x.wr]) := ED.out.beside GDF.out (hb1 _ (by have := HPN.out; omega))
              have PF : Hid (Box WF pz [.int .i64 z.kind, .int .i64 z.n, .bool z.wr]) := PD.out.beside GDF.out (fun g h => by have := (OW1.out.lt g h).2; have := HPZ'.out; omega)
              have GWF : Hid (Grew w WF) := show Grew _ _ from grew_beside GWD.out GDF.out (fun g h => by have := (OD1.out.lt g h).1; have := HPN.out; omega)
              have SF : Hid (WC.heap.size ≤ WF.heap.size) := Nat.le_trans SD.out GDF.out.size
              clear owF grF apF HR1 z0 hlp hb1
              have z0 := PF.out.c 0 rfl
              have z1 := PF.out.c 1 rfl
              have y0 := EF.out.c 0 rfl
              have y1 := EF.out.c 1 rfl
              have HFB : Hid (fitB x.kind x.n z = ((z.kind == x.kind) && (z.n == x.n))) := rfl
              generalize (P1 (kk + 1)).length = m1 at OF1 APF ⊢
              by_cases ek : z.kind = x.kind
              · have ekb : (z.kind == x.kind) = true := by simpa using ek
                by_cases en : z.n = x.n
                · have enb : (z.n == x.n) = true := by simpa using en
                  have HS3 : Hid (P2 (kk + 1) = P2 kk ++ [(kk : Int)]) := show _ = _ by rw [HS2.out, HFB.out, ekb, enb]; rfl
                  clear ek en
                  have HR1 : Hid (RowAt blE (WF.alloc (.cells #[.int .i64 (kk : Int)] 3)) (.slice (some ⟨WF.heap.size, 0, none⟩) 1 1) [(kk : Int)]) := one_row blE WF (kk : Int) _ _ rfl (by decide)
                  go_wp2_with (at_builtin; refine wpList_append_apart (E := blE) rfl (.tmp 96) (.tmp 98) rfl WC.heap.size _ (P2 kk) rfl (OF2.out.grew (grew_alloc _ _)) _ [(kk : Int)] rfl HR1.out ?qb ?qc ?_)
                  case qb =>
                    have := HL2.out kk
                    show (_ + 1) * 8 ≤ _
                    omega
                  case qc => exact Nat.le_trans SF.out (Below.size (grew_alloc _ _))
                  intro vG WG owG grG apG
                  obtain ⟨f2, cf2, rfl⟩ := owG.form
                  have hlp : (P2 kk ++ [(kk : Int)]).length = (P2 (kk + 1)).length := by rw [HS3.out]
                  rw [← HS3.out] at owG
                  rw [hlp] at apG ⊢
                  have GFG : Hid (WF.grownBy WG (Value.slice d2 n2 c2).ownBlock) := show World.grownBy _ _ _ from grown_trans (grew_by (grew_alloc _ _) _) grG
                  have OG2 : Hid (OwnRow blE WC.heap.size WG (.slice f2 (P2 (kk + 1)).length cf2) (P2 (kk + 1))) := owG
                  have OG1 : Hid (OwnRow blE WC.heap.size WG (.slice f1 m1 cf1) (P1 (kk + 1))) := OF1.out.grown GFG.out (fun g h1 h2 => APF.out g h1 h2)
                  have APG : Hid (∀ g, (Value.slice f1 m1 cf1).ownBlock = some g → (Value.slice f2 (P2 (kk + 1)).length cf2).ownBlock ≠ some g) := show ∀ g, _ from fun g h1 h2 => by
                    rcases apG g h2 with h3 | h3
                    · exact APF.out g h1 h3
                    · have := (OF1.out.lt g h1).2
                      have := Below.size (grew_alloc WF (.cells #[.int .i64 (kk : Int)] 3))
                      omega
                  have hb1 : ∀ b, b < WC.heap.size → ∀ g, (Value.slice d2 n2 c2).ownBlock = some g → b ≠ g := fun b hb g h => by have := (OF2.out.lt g h).1; omega
                  have FG : Hid (Box WG pF (cellsL l')) := FF.out.beside GFG.out (hb1 _ (by have := HPN.out; omega))
                  have XG : Hid (Box WG w.heap.size [v0, v1, v2, v3, v4, v5, v6, v7]) := XF.out.beside GFG.out (hb1 _ (by have := HPN.out; omega))
                  have EG : Hid (Box WG (w.heap.size + 1) [.int .i64 x.kind, .int .i64 x.n, .bool x.wr]) := EF.out.beside GFG.out (hb1 _ (by have := HPN.out; omega))
                  have GWG : Hid (Grew w WG) := show Grew _ _ from grew_beside GWF.out GFG.out (fun g h => by have := (OF2.out.lt g h).1; have := HPN.out; omega)
                  have SG : Hid (WC.heap.size ≤ WG.heap.size) := Nat.le_trans SF.out GFG.out.size
                  clear owG grG apG HR1 z0 z1 y0 y1 hlp hb1
                  generalize (P2 (kk + 1)).length = m2 at OG2 APG ⊢
                  have wl0 := FG.out.c _ HR2.out
                  have wlf := FG.out.f
                  go_upto_region 24 with fail
                  obtain ⟨WT, hWT⟩ : ∃ WT, (WG).setCell ⟨pF, kk * 3 + 2, none⟩ (.bool false) = WT := ⟨_, rfl⟩
                  have FT : Hid (Box WT pF (cellsL (l'.set kk (enG z)))) := show Box _ _ _ by rw [← hWT, ← HCS.out]; exact FG.out.set _ _
                  have hpn := HPN.out
                  have XT : Hid (Box WT w.heap.size [v0, v1, v2, v3, v4, v5, v6, v7]) := show Box _ _ _ by rw [← hWT]; exact XG.out.other (by simp; omega) _
                  have ET : Hid (Box WT (w.heap.size + 1) [.int .i64 x.kind, .int .i64 x.n, .bool x.wr]) := show Box _ _ _ by rw [← hWT]; exact EG.out.other (by simp; omega) _
                  have GT' : Hid (Grew w WT) := show Grew _ _ by rw [← hWT]; exact Below.setCell GWG.out (p := ⟨pF, kk * 3 + 2, none⟩) (by simp; omega) _
                  have ST : Hid (WC.heap.size ≤ WT.heap.size) := show _ ≤ _ by rw [← hWT]; have := SG.out; simp [World.setCell]; omega
                  have OT1 : Hid (OwnRow blE WC.heap.size WT (.slice f1 m1 cf1) (P1 (kk + 1))) := show OwnRow _ _ _ _ _ by rw [← hWT]; exact OG1.out.setCell (by simp; omega) _
                  have OT2 : Hid (OwnRow blE WC.heap.size WT (.slice f2 m2 cf2) (P2 (kk + 1))) := show OwnRow _ _ _ _ _ by rw [← hWT]; exact OG2.out.setCell (by simp; omega) _
                  rw [hWT]
                  clear hWT wl0 wlf hpn
                  go_wp2
                  go_roundg (64 - (kk + 1))
                  case measure => omega
                  case rel => exact ⟨kk + 1, _, _, _, _, _, _, _, by omega, by omega, by go_num, rfl, rfl, GT'.out, ST.out, OT1.out, OT2.out, APG.out, FT.out, U2.out, XT.out, ET.out⟩
                · have enb : (z.n == x.n) = false := by simpa using en
                  have HS3 : Hid (P2 (kk + 1) = P2 kk) := show _ = _ by rw [HS2.out, HFB.out, ekb, enb]; rfl
                  clear ek en
                  have wl0 := FF.out.c _ HR2.out
                  have wlf := FF.out.f
                  go_upto_region 24 with fail
                  obtain ⟨WT, hWT⟩ : ∃ WT, (WF).setCell ⟨pF, kk * 3 + 2, none⟩ (.bool false) = WT := ⟨_, rfl⟩
                  have FT : Hid (Box WT pF (cellsL (l'.set kk (enG z)))) := show Box _ _ _ by rw [← hWT, ← HCS.out]; exact FF.out.set _ _
                  have hpn := HPN.out
                  have XT : Hid (Box WT w.heap.size [v0, v1, v2, v3, v4, v5, v6, v7]) := show Box _ _ _ by rw [← hWT]; exact XF.out.other (by simp; omega) _
                  have ET : Hid (Box WT (w.heap.size + 1) [.int .i64 x.kind, .int .i64 x.n, .bool x.wr]) := show Box _ _ _ by rw [← hWT]; exact EF.out.other (by simp; omega) _
                  have GT' : Hid (Grew w WT) := show Grew _ _ by rw [← hWT]; exact Below.setCell GWF.out (p := ⟨pF, kk * 3 + 2, none⟩) (by simp; omega) _
                  have ST : Hid (WC.heap.size ≤ WT.heap.size) := show _ ≤ _ by rw [← hWT]; have := SF.out; simp [World.setCell]; omega
                  have OT1 : Hid (OwnRow blE WC.heap.size WT (.slice f1 m1 cf1) (P1 (kk + 1))) := show OwnRow _ _ _ _ _ by rw [← hWT]; exact OF1.out.setCell (by simp; omega) _
                  have OT2 : Hid (OwnRow blE WC.heap.size WT (.slice d2 n2 c2) (P2 (kk + 1))) := show OwnRow _ _ _ _ _ by rw [← hWT, HS3.out]; exact OF2.out.setCell (by simp; omega) _
                  rw [hWT]
                  clear hWT wl0 wlf hpn
                  go_wp2
                  go_roundg (64 - (kk + 1))
                  case measure => omega
                  case rel => exact ⟨kk + 1, _, _, _, _, _, _, _, by omega, by omega, by go_num, rfl, rfl, GT'.out, ST.out, OT1.out, OT2.out, APF.out, FT.out, U2.out, XT.out, ET.out⟩
              · have ekb : (z.kind == x.kind) = false := by simpa using ek
                have HS3 : Hid (P2 (kk + 1) = P2 kk) := show _ = _ by rw [HS2.out, HFB.out, ekb]; rfl
                clear ek
                have wl0 := FF.out.c _ HR2.out
                have wlf := FF.out.f
                go_upto_region 24 with fail
                obtain ⟨WT, hWT⟩ : ∃ WT, (WF).setCell ⟨pF, kk * 3 + 2, none⟩ (.bool false) = WT := ⟨_, rfl⟩
                have FT : Hid (Box WT pF (cellsL (l'.set kk (enG z)))) := show Box _ _ _ by rw [← hWT, ← HCS.out]; exact FF.out.set _ _
                have hpn := HPN.out
                have XT : Hid (Box WT w.heap.size [v0, v1, v2, v3, v4, v5, v6, v7]) := show Box _ _ _ by rw [← hWT]; exact XF.out.other (by simp; omega) _
                have ET : Hid (Box WT (w.heap.size + 1) [.int .i64 x.kind, .int .i64 x.n, .bool x.wr]) := show Box _ _ _ by rw [← hWT]; exact EF.out.other (by simp; omega) _
                have GT' : Hid (Grew w WT) := show Grew _ _ by rw [← hWT]; exact Below.setCell GWF.out (p := ⟨pF, kk * 3 + 2, none⟩) (by simp; omega) _
                have ST : Hid (WC.heap.size ≤ WT.heap.size) := show _ ≤ _ by rw [← hWT]; have := SF.out; simp [World.setCell]; omega
                have OT1 : Hid (OwnRow blE WC.heap.size WT (.slice f1 m1 cf1) (P1 (kk + 1))) := show OwnRow _ _ _ _ _ by rw [← hWT]; exact OF1.out.setCell (by simp; omega) _
                have OT2 : Hid (OwnRow blE WC.heap.size WT (.slice d2 n2 c2) (P2 (kk + 1))) := show OwnRow _ _ _ _ _ by rw [← hWT, HS3.out]; exact OF2.out.setCell (by simp; omega) _
                rw [hWT]
                clear hWT wl0 wlf hpn
                go_wp2
                go_roundg (64 - (kk + 1))
                case measure => omega
                case rel => exact ⟨kk + 1, _, _, _, _, _, _, _, by omega, by omega, by go_num, rfl, rfl, GT'.out, ST.out, OT1.out, OT2.out, APF.out, FT.out, U2.out, XT.out, ET.out⟩
            · rw [decide_eq_false hp] at s1 s2
              have HS1 : Hid (P1 (kk + 1) = P1 kk) := show _ = _ by rw [s1]; rfl
              have HS2 : Hid (P2 (kk + 1) = P2 kk) := show _ = _ by rw [s2]; rfl
              clear s1 s2
              have HPN : Hid (w.heap.size + 2 ≤ pF ∧ pF < pw ∧ pw < WC.heap.size) := show _ ∧ _ ∧ _ from ⟨HPW.out, HPP.out, HPS.out⟩
              have wl0 := FD.out.c _ HR2.out
              have wlf := FD.out.f
              go_upto_region 24 with fail
              obtain ⟨WT, hWT⟩ : ∃ WT, (WD).setCell ⟨pF, kk * 3 + 2, none⟩ (.bool false) = WT := ⟨_, rfl⟩
              have FT : Hid (Box WT pF (cellsL (l'.set kk (enG z)))) := show Box _ _ _ by rw [← hWT, ← HCS.out]; exact FD.out.set _ _
              have hpn := HPN.out
              have XT : Hid (Box WT w.heap.size [v0, v1, v2, v3, v4, v5, v6, v7]) := show Box _ _ _ by rw [← hWT]; exact XD.out.other (by simp; omega) _
              have ET : Hid (Box WT (w.heap.size + 1) [.int .i64 x.kind, .int .i64 x.n, .bool x.wr]) := show Box _ _ _ by rw [← hWT]; exact ED.out.other (by simp; omega) _
              have GT' : Hid (Grew w WT) := show Grew _ _ by rw [← hWT]; exact Below.setCell GWD.out (p := ⟨pF, kk * 3 + 2, none⟩) (by simp; omega) _
              have ST : Hid (WC.heap.size ≤ WT.heap.size) := show _ ≤ _ by rw [← hWT]; have := SD.out; simp [World.setCell]; omega
              have OT1 : Hid (OwnRow blE WC.heap.size WT (.slice d1 n1 c1) (P1 (kk + 1))) := show OwnRow _ _ _ _ _ by rw [← hWT, HS1.out]; exact OD1.out.setCell (by simp; omega) _
              have OT2 : Hid (OwnRow blE WC.heap.size WT (.slice d2 n2 c2) (P2 (kk + 1))) := show OwnRow _ _ _ _ _ by rw [← hWT, HS2.out]; exact OD2.out.setCell (by simp; omega) _
              rw [hWT]
              clear hWT wl0 wlf hpn
              go_wp2
              go_roundg (64 - (kk + 1))
              case measure => omega
              case rel => exact ⟨kk + 1, _, _, _, _, _, _, _, by omega, by omega, by go_num, rfl, rfl, GT'.out, ST.out, OT1.out, OT2.out, AP.out, FT.out, U2.out, XT.out, ET.out⟩
          · have hltz : ¬ (kk : Int) < 64 := by omega
            have : kk = 64 := by omega
            subst this
            have HLE : Hid (l' = F.map enG) := UW.out.all (by rw [HFL.out]; exact Nat.le_refl _)
            obtain ⟨LG, HLG⟩ : ∃ LG, Hid (F.map enG = LG) := ⟨_, rfl⟩
            have HTG : Hid (tableOf LG = guardT t) := show _ = _ by rw [← HLG.out, ← HF.out]; exact tableOf_guard HTB.out
            have hto := fun W => tableOf_any LG W (by rw [← HLG.out, List.length_map]; exact HFL.out) (by
              rw [← HLG.out]
              intro e he
              obtain ⟨y, hy, rfl⟩ := List.mem_map.1 he
              rw [← HF.out] at hy
              unfold flatT at hy
              obtain ⟨j, _, rfl⟩ := List.mem_map.1 hy
              exact (enW_zero (HTB.out.get _ _)).1.1)
            rw [HTG.out] at hto
            have FE : Hid (Box wr pF (cellsL LG)) := show Box _ _ _ by rw [← HLG.out, ← HLE.out]; exact FW.out
            have HCG : Hid ((cellsL LG).length = 192) := show _ = _ by rw [cellsL_len, ← HLG.out, List.length_map, HFL.out]
            obtain ⟨CG, HCGE⟩ : ∃ CG, Hid (cellsL LG = CG) := ⟨_, rfl⟩
            rw [HCGE.out] at FE HCG hto
            obtain ⟨GT, HGT⟩ : ∃ GT, Hid (guardT t = GT) := ⟨_, rfl⟩
            simp only [HGT.out] at k9 hto
            have R1 : Hid (RowAt blE wr (.slice d1 n1 c1) (P1 64)) := OW1.out.at
            have R2 : Hid (RowAt blE wr (.slice d2 n2 c2) (P2 64)) := OW2.out.at
            obtain ⟨m1, HM1⟩ : ∃ m1, Hid ((P1 64).length = m1) := ⟨_, rfl⟩
            obtain ⟨m2, HM2⟩ : ∃ m2, Hid ((P2 64).length = m2) := ⟨_, rfl⟩
            go_upto_region 25 with fail
            have hv0 : ∀ y : GrownW wr, y.world.cell? ⟨w.heap.size, 0, none⟩ = some (v0) := fun y => (XW.out.grew y.grew).c 0 rfl
            have hv1 : ∀ y : GrownW wr, y.world.cell? ⟨w.heap.size, 1, none⟩ = some (v1) := fun y => (XW.out.grew y.grew).c 1 rfl
            have hv2 : ∀ y : GrownW wr, y.world.cell? ⟨w.heap.size, 2, none⟩ = some (v2) := fun y => (XW.out.grew y.grew).c 2 rfl
            have hv3 : ∀ y : GrownW wr, y.world.cell? ⟨w.heap.size, 3, none⟩ = some (v3) := fun y => (XW.out.grew y.grew).c 3 rfl
            have hv4 : ∀ y : GrownW wr, y.world.cell? ⟨w.heap.size, 4, none⟩ = some (v4) := fun y => (XW.out.grew y.grew).c 4 rfl
            have hv5 : ∀ y : GrownW wr, y.world.cell? ⟨w.heap.size, 5, none⟩ = some (v5) := fun y => (XW.out.grew y.grew).c 5 rfl
            have hv6 : ∀ y : GrownW wr, y.world.cell? ⟨w.heap.size, 6, none⟩ = some (v6) := fun y => (XW.out.grew y.grew).c 6 rfl
            have hv7 : ∀ y : GrownW wr, y.world.cell? ⟨w.heap.size, 7, none⟩ = some (v7) := fun y => (XW.out.grew y.grew).c 7 rfl
            have hx0 : ∀ y : GrownW wr, y.world.cell? ⟨w.heap.size + 1, 0, none⟩ = some (.int .i64 x.kind) := fun y => (EW.out.grew y.grew).c 0 rfl
            have hx1 : ∀ y : GrownW wr, y.world.cell? ⟨w.heap.size + 1, 1, none⟩ = some (.int .i64 x.n) := fun y => (EW.out.grew y.grew).c 1 rfl
            have hx2 : ∀ y : GrownW wr, y.world.cell? ⟨w.heap.size + 1, 2, none⟩ = some (.bool x.wr) := fun y => (EW.out.grew y.grew).c 2 rfl
            have hne : Nonempty (GrownW wr) := ⟨⟨_, Grew.refl _⟩⟩
            refine wp_lax [(1, ⟨fun v => ∃ a c, v = .slice a m1 c, fun v w' => RowAt blE w' v (P1 64)⟩), (3, ⟨fun v => v = .bool true, fun _ _ => True⟩), (10, ⟨fun v => ∃ a c, v = .slice a m2 c, fun v w' => RowAt blE w' v (P2 64)⟩), (12, ⟨fun v => v = .bool true, fun _ _ => True⟩), (16, ⟨fun v => ∃ us : List Value, us.length = 8 ∧ v = .agg us.toArray, fun v w' => ∃ us : List Value, v = .agg us.toArray ∧ TabAt w' us GT⟩), (18, ⟨fun v => ∃ us : List Value, us.length = 8 ∧ v = .agg us.toArray, fun v w' => ∃ us : List Value, v = .agg us.toArray ∧ TabAt w' us GT⟩), (19, ⟨fun v => v = .bool true, fun _ _ => True⟩)] mixed (by kernel_rfl) ?_ ?_ ?_
            · intro y hy
              simp at hy
              rcases hy with rfl | rfl | rfl | rfl | rfl | rfl | rfl
              · exact ⟨_, none, 0, rfl⟩
              · exact ⟨_, rfl⟩
              · exact ⟨_, none, 0, rfl⟩
              · exact ⟨_, rfl⟩
              · exact ⟨_, nil8, rfl, rfl⟩
              · exact ⟨_, nil8, rfl, rfl⟩
              · exact ⟨_, rfl⟩
            · intro y hy
              simp at hy
              rcases hy with rfl | rfl | rfl | rfl | rfl | rfl | rfl
              · exact fun _ _ _ hg h => RowAt.grew h hg
              · exact fun _ _ _ _ h => h
              · exact fun _ _ _ hg h => RowAt.grew h hg
              · exact fun _ _ _ _ h => h
              · exact fun _ _ _ hg ⟨us, h1, h2⟩ => ⟨us, h1, h2.grew hg⟩
              · exact fun _ _ _ hg ⟨us, h1, h2⟩ => ⟨us, h1, h2.grew hg⟩
              · exact fun _ _ _ _ h => h
            iterate 1 (refine lax_quiet rfl rfl rfl (fun K hK => ?_); go_big_quiet_op; refine hK _ ?_; clear hK K)
            refine lax_spec rfl rfl (fun w' hg hF => ?_) (fun v1 hv => ?_)
            · refine Does.call [.agg #[v0, v1, v2, v3, v4, v5, v6, v7]] rfl Try.func39 rfl rfl rfl ?_
              refine (k7 w' (BW.out.trans hg)).mono ?_
              rintro e w'' ⟨v, rfl, ow, hg2⟩
              obtain ⟨a, c, rfl⟩ := ow.form
              rw [HM1.out] at ow ⊢
              exact ⟨_, rfl, hg2, ⟨a, c, rfl⟩, ow.at⟩
            obtain ⟨ja, jc, rfl⟩ := hv
            simp only [Act.put, List.setIfInBounds_toArray, List.set_cons_succ, List.set_cons_zero]
            iterate 1 (refine lax_quiet rfl rfl rfl (fun K hK => ?_); go_big_quiet_op; refine hK _ ?_; clear hK K)
            refine lax_spec rfl rfl (fun w' hg hF => ?_) (fun v1 hv => ?_)
            · have r1 : RowAt blE w' (.slice ja m1 jc) (P1 64) := hF 1 (by kernel_rfl)
              refine Does.call [.slice ja m1 jc, .slice d1 n1 c1] rfl Try.func38 rfl rfl rfl ?_
              refine (sameL_any _ _ (P1 64) w' r1 (R1.out.grew hg)).mono ?_
              rintro e w'' ⟨rfl, hg2⟩
              exact ⟨_, rfl, hg2, rfl, trivial⟩
            subst hv
            simp only [Act.put, List.setIfInBounds_toArray, List.set_cons_succ, List.set_cons_zero]
            iterate 6 (refine lax_quiet rfl rfl rfl (fun K hK => ?_); go_big_quiet_op; refine hK _ ?_; clear hK K)
            refine lax_spec rfl rfl (fun w' hg hF => ?_) (fun v1 hv => ?_)
            · refine Does.call [.agg #[v0, v1, v2, v3, v4, v5, v6, v7], .int .i64 x.kind, .int .i64 x.n] rfl Try.func40 rfl rfl rfl ?_
              refine (k8 w' (BW.out.trans hg)).mono ?_
              rintro e w'' ⟨v, rfl, ow, hg2⟩
              obtain ⟨a, c, rfl⟩ := ow.form
              rw [HM2.out] at ow ⊢
              exact ⟨_, rfl, hg2, ⟨a, c, rfl⟩, ow.at⟩
            obtain ⟨ka, kc, rfl⟩ := hv
            simp only [Act.put, List.setIfInBounds_toArray, List.set_cons_succ, List.set_cons_zero]
            iterate 1 (refine lax_quiet rfl rfl rfl (fun K hK => ?_); go_big_quiet_op; refine hK _ ?_; clear hK K)
            refine lax_spec rfl rfl (fun w' hg hF => ?_) (fun v1 hv => ?_)
            · have r1 : RowAt blE w' (.slice ka m2 kc) (P2 64) := hF 10 (by kernel_rfl)
              refine Does.call [.slice ka m2 kc, .slice d2 n2 c2] rfl Try.func38 rfl rfl rfl ?_
              refine (sameL_any _ _ (P2 64) w' r1 (R2.out.grew hg)).mono ?_
              rintro e w'' ⟨rfl, hg2⟩
              exact ⟨_, rfl, hg2, rfl, trivial⟩
            subst hv
            simp only [Act.put, List.setIfInBounds_toArray, List.set_cons_succ, List.set_cons_zero]
            iterate 3 (refine lax_quiet rfl rfl rfl (fun K hK => ?_); go_big_quiet_op; refine hK _ ?_; clear hK K)
            refine lax_spec rfl rfl (fun w' hg hF => ?_) (fun v1 hv => ?_)
            · refine Does.call [.agg #[v0, v1, v2, v3, v4, v5, v6, v7]] rfl Try.func41 rfl rfl rfl ?_
              refine (k9 w' (BW.out.trans hg)).mono ?_
              rintro e w'' ⟨us, rfl, ts, hg2⟩
              exact ⟨_, rfl, hg2, ⟨us, ts.len, rfl⟩, us, rfl, ts.now⟩
            obtain ⟨gs, gs8, rfl⟩ := hv
            simp only [Act.put, List.setIfInBounds_toArray, List.set_cons_succ, List.set_cons_zero]
            refine lax_quiet rfl rfl rfl (fun K hK => ?_)
            refine ⟨.agg CG.toArray, fun w' hw' => ?_, hK _ ?_⟩
            · obtain ⟨y, rfl⟩ := hw'
              unfold Oper.quietAt
              rw [run_loadFlat (.tmp 11) rfl pF rfl (FE.out.grew y.grew) HCG.out]
              simp [Oper.quietUpon]
            simp only [Act.put, List.setIfInBounds_toArray, List.set_cons_succ, List.set_cons_zero]
            refine lax_spec rfl rfl (fun w' hg hF => ?_) (fun v1 hv => ?_)
            · refine Does.call [.agg CG.toArray] rfl Try.func42 rfl rfl rfl ?_
              refine (hto w').mono ?_
              rintro e w'' ⟨us, rfl, ts, hg2⟩
              exact ⟨_, rfl, hg2, ⟨us, ts.len, rfl⟩, us, rfl, ts.now⟩
            obtain ⟨ds, ds8, rfl⟩ := hv
            simp only [Act.put, List.setIfInBounds_toArray, List.set_cons_succ, List.set_cons_zero]
            refine lax_spec rfl rfl (fun w' hg hF => ?_) (fun v1 hv => ?_)
            · have tgs : TabAt w' gs GT := (by obtain ⟨us, h1, h2⟩ : ∃ us : List Value, (Value.agg gs.toArray) = .agg us.toArray ∧ TabAt w' us GT := hF 16 (by kernel_rfl); have h3 : gs = us := (by simpa using h1); rw [h3]; exact h2)
              have tds : TabAt w' ds GT := (by obtain ⟨us, h1, h2⟩ : ∃ us : List Value, (Value.agg ds.toArray) = .agg us.toArray ∧ TabAt w' us GT := hF 18 (by kernel_rfl); have h3 : ds = us := (by simpa using h1); rw [h3]; exact h2)
              refine Does.call [.agg gs.toArray, .agg ds.toArray] rfl Try.func32 rfl rfl rfl ?_
              refine (sameTb_any gs ds GT w' tgs tds).mono ?_
              rintro e w'' ⟨rfl, hg2⟩
              exact ⟨_, rfl, hg2, rfl, trivial⟩
            subst hv
            simp only [Act.put, List.setIfInBounds_toArray, List.set_cons_succ, List.set_cons_zero]
            iterate 2 (refine lax_quiet rfl rfl rfl (fun K hK => ?_); go_big_quiet_op; refine hK _ ?_; clear hK K)
            refine lax_nil fun WZ hgZ hF => ?_
            have GZ : Hid (Grew w WZ) := BW.out.trans hgZ
            clear hF hgZ
            go_wp2
            go_ret
            exact ⟨rfl, GZ.out⟩
      · have hn1d : decide (n < 64) = false := decide_eq_false hn1
        have HZE : Hid (Z = en0) := show _ = _ by rw [← HZ.out]; unfold getT; rw [if_neg (by omega)]
        go_upto_region 13 with fail
        obtain ⟨WB, rfl⟩ : ∃ WB, WB = WA := ⟨_, rfl⟩
        have PB : Hid (Box WB pw [.int .i64 Z.kind, .int .i64 Z.n, .bool Z.wr]) := show Box _ _ _ by rw [HZE.out]; exact PA.out
        have FB := FA
        have XB := XA
        have EB := EA
        have GB := GA
        have hv0 : ∀ y : GrownW WB, y.world.cell? ⟨w.heap.size, 0, none⟩ = some (v0) := fun y => (XB.out.grew y.grew).c 0 rfl
        have hv1 : ∀ y : GrownW WB, y.world.cell? ⟨w.heap.size, 1, none⟩ = some (v1) := fun y => (XB.out.grew y.grew).c 1 rfl
        have hv2 : ∀ y : GrownW WB, y.world.cell? ⟨w.heap.size, 2, none⟩ = some (v2) := fun y => (XB.out.grew y.grew).c 2 rfl
        have hv3 : ∀ y : GrownW WB, y.world.cell? ⟨w.heap.size, 3, none⟩ = some (v3) := fun y => (XB.out.grew y.grew).c 3 rfl
        have hv4 : ∀ y : GrownW WB, y.world.cell? ⟨w.heap.size, 4, none⟩ = some (v4) := fun y => (XB.out.grew y.grew).c 4 rfl
        have hv5 : ∀ y : GrownW WB, y.world.cell? ⟨w.heap.size, 5, none⟩ = some (v5) := fun y => (XB.out.grew y.grew).c 5 rfl
        have hv6 : ∀ y : GrownW WB, y.world.cell? ⟨w.heap.size, 6, none⟩ = some (v6) := fun y => (XB.out.grew y.grew).c 6 rfl
        have hv7 : ∀ y : GrownW WB, y.world.cell? ⟨w.heap.size, 7, none⟩ = some (v7) := fun y => (XB.out.grew y.grew).c 7 rfl
        have hq0 : ∀ y : GrownW WB, y.world.cell? ⟨pw, 0, none⟩ = some (.int .i64 Z.kind) := fun y => (PB.out.grew y.grew).c 0 rfl
        have hq1 : ∀ y : GrownW WB, y.world.cell? ⟨pw, 1, none⟩ = some (.int .i64 Z.n) := fun y => (PB.out.grew y.grew).c 1 rfl
        have hq2 : ∀ y : GrownW WB, y.world.cell? ⟨pw, 2, none⟩ = some (.bool Z.wr) := fun y => (PB.out.grew y.grew).c 2 rfl
        have hne : Nonempty (GrownW WB) := ⟨⟨_, Grew.refl _⟩⟩
        refine wp_lax [(2, ⟨fun v => v = .agg #[.int .i64 Z.kind, .int .i64 Z.n, .bool Z.wr], fun _ _ => True⟩)] mixed (by kernel_rfl) ?_ ?_ ?_
        · intro y hy
          simp at hy
          subst hy
          exact ⟨_, rfl⟩
        · intro y hy
          simp at hy
          subst hy
          exact fun _ _ _ _ h => h
        iterate 2 (refine lax_quiet rfl rfl rfl (fun K hK => ?_); go_big_quiet_op; refine hK _ ?_; clear hK K)
        refine lax_spec rfl rfl (fun w' hg hF => ?_) (fun v1 hv => ?_)
        · refine Does.call [.agg #[v0, v1, v2, v3, v4, v5, v6, v7], .int .i64 n] rfl Try.func37 rfl rfl rfl ?_
          refine (k6 w' (GB.out.trans hg)).mono ?_
          rintro e w'' ⟨rfl, hg2⟩
          exact ⟨_, rfl, hg2, rfl, trivial⟩
        subst hv
        simp only [Act.put, List.setIfInBounds_toArray, List.set_cons_succ, List.set_cons_zero]
        iterate 2 (refine lax_quiet rfl rfl rfl (fun K hK => ?_); go_big_quiet_op; refine hK _ ?_; clear hK K)
        refine lax_nil fun WC hgC hF => ?_
        have GC : Hid (Grew w WC) := GB.out.trans hgC
        have XC : Hid (Box WC w.heap.size [v0, v1, v2, v3, v4, v5, v6, v7]) := XB.out.grew hgC
        have EC : Hid (Box WC (w.heap.size + 1) [.int .i64 x.kind, .int .i64 x.n, .bool x.wr]) := EB.out.grew hgC
        have FC : Hid (Box WC pF (cellsL F)) := FB.out.grew hgC
        have HPS : Hid (pw < WC.heap.size) := show _ < _ from (PB.out.grew hgC).lt
        clear hF hgC hne hzz hv0 hv1 hv2 hv3 hv4 hv5 hv6 hv7 hq0 hq1 hq2
        obtain ⟨P1, HP1⟩ : ∃ P1, Hid (pagesTo t allB = P1) := ⟨_, rfl⟩
        obtain ⟨P2, HP2⟩ : ∃ P2, Hid (pagesTo t (fitB x.kind x.n) = P2) := ⟨_, rfl⟩
        simp only [HP1.out] at k7
        simp only [HP2.out] at k8
        have HL1 : Hid (∀ m, (P1 m).length ≤ m) := show ∀ m, _ from fun m => by rw [← HP1.out]; exact pagesTo_len _ _ _
        have HL2 : Hid (∀ m, (P2 m).length ≤ m) := show ∀ m, _ from fun m => by rw [← HP2.out]; exact pagesTo_len _ _ _
        have HST : Hid (∀ (m : Nat) (z : En), F[m]? = some z → 0 ≤ z.kind ∧ P1 (m + 1) = (if decide (0 < z.kind) then P1 m ++ [(m : Int)] else P1 m) ∧ P2 (m + 1) = (if decide (0 < z.kind) && fitB x.kind x.n z then P2 m ++ [(m : Int)] else P2 m)) := show ∀ (m : Nat) (z : En), _ from fun m z hz => by
          have hm : m < 64 := by rw [← HFL.out]; exact (List.getElem?_eq_some_iff.1 hz).1
          rw [← HF.out, flatT_at t hm] at hz
          cases hz
          have h0 : 0 ≤ (getN t (m / 8) (m % 8)).kind := (enW_zero (HTB.out.get _ _)).1.1
          have hs : enS (getN t (m / 8) (m % 8)) = decide (0 < (getN t (m / 8) (m % 8)).kind) := by
            unfold enS
            by_cases h : (getN t (m / 8) (m % 8)).kind = 0
            · rw [h]; rfl
            · rw [decide_eq_true (by omega)]
              simpa using h
          refine ⟨h0, ?_, ?_⟩
          · rw [← HP1.out, pagesTo_succ, hs]
            simp [allB]
          · rw [← HP2.out, pagesTo_succ, hs]
        go_wp2_with (refine wp_loadAll rfl 63 (.tmp 11) rfl pF rfl FC.out Try.underlying63 rfl (by rw [HCL.out]; exact Try.sizeFlat) ?_)
        go_loopg [13, 14, 73] 64 (fun gg s13 s14 s73 wr => ∃ (kk n1 c1 n2 c2 : Nat) (d1 d2 : Option Addr) (l' : List En), kk ≤ 64 ∧ 64 - kk ≤ gg ∧ s73 = .int .i64 kk ∧ s13 = .slice d1 n1 c1 ∧ s14 = .slice d2 n2 c2 ∧ Hid (Grew w wr) ∧ Hid (WC.heap.size ≤ wr.heap.size) ∧ Hid (OwnRow blE WC.heap.size wr (.slice d1 n1 c1) (P1 kk)) ∧ Hid (OwnRow blE WC.heap.size wr (.slice d2 n2 c2) (P2 kk)) ∧ Hid (∀ g, (Value.slice d1 n1 c1).ownBlock = some g → (Value.slice d2 n2 c2).ownBlock ≠ some g) ∧ Hid (Box wr pF (cellsL l')) ∧ Hid (Upto enG kk F l') ∧ Hid (Box wr w.heap.size [v0, v1, v2, v3, v4, v5, v6, v7]) ∧ Hid (Box wr (w.heap.size + 1) [.int .i64 x.kind, .int .i64 x.n, .bool x.wr]))
        case atStart => exact ⟨0, 0, 0, 0, 0, none, none, F, Nat.zero_le _, by omega, rfl, rfl, rfl, GC.out, Nat.le_refl _, by rw [← HP1.out]; exact OwnRow.nil _ _ _, by rw [← HP2.out]; exact OwnRow.nil _ _ _, fun g h => (by cases h), FC.out, Upto.zero _ _, XC.out, EC.out⟩
        case round =>
          obtain ⟨kk, n1, c1, n2, c2, d1, d2, l', hkk, hgg, rfl, rfl, rfl, BW, SW, OW1, OW2, AP, FW, UW, XW, EW⟩ := hrel
          by_cases hlt : kk < 64
          · have hltz : (kk : Int) < 64 := by omega
            obtain ⟨z, hz⟩ : ∃ z, F[kk]? = some z := ⟨_, List.getElem?_eq_getElem (by rw [HFL.out]; exact hlt)⟩
            have HZF : Hid (F[kk]? = some z) := hz
            obtain ⟨hk0, s1, s2⟩ := HST.out kk z hz
            have HZL' : Hid (l'[kk]? = some z) := show _ = _ by rw [UW.out kk, if_neg (Nat.lt_irrefl _)]; exact hz
            obtain ⟨r0, r1, r2⟩ := cellsL_at HZL'.out
            have HR2 : Hid ((cellsL l')[kk * 3 + 2]? = some (.bool z.wr)) := r2
            have HCS : Hid ((cellsL l').set (kk * 3 + 2) (.bool false) = cellsL (l'.set kk (enG z))) := show _ = _ by
              have h1 := cellsL_set (enG z) (show kk < l'.length from (List.getElem?_eq_some_iff.1 HZL'.out).1)
              rw [← h1]
              have e0 : (cellsL l').set (kk * 3) (.int .i64 (enG z).kind) = cellsL l' := set_same r0
              rw [e0, set_same (show (cellsL l')[kk * 3 + 1]? = some (.int .i64 (enG z).n) from r1)]
              rfl
            have U2 : Hid (Upto enG (kk + 1) F (l'.set kk (enG z))) := UW.out.step hz
            clear r0 r1 r2 hz
            go_upto_region 19 with (refine wp_flatAt rfl (.tmp 72) (.tmp 73) rfl F rfl kk rfl hlt HZF.out ?_)
            obtain ⟨pz, hpz⟩ : ∃ pz, wr.heap.size = pz := ⟨_, rfl⟩
            obtain ⟨WD, hWD⟩ : ∃ WD, wr.alloc (.cells #[.int .i64 z.kind, .int .i64 z.n, .bool z.wr] 57) = WD := ⟨_, rfl⟩
            have GD : Hid (Grew wr WD) := show Grew _ _ by rw [← hWD]; exact grew_alloc _ _
            have PD : Hid (Box WD pz [.int .i64 z.kind, .int .i64 z.n, .bool z.wr]) := show Box _ _ _ by rw [← hWD]; exact Box.top _ _ _ hpz.symm
            have HPZ : Hid (WC.heap.size ≤ pz) := show _ ≤ _ by rw [← hpz]; exact SW.out
            have HPZ' : Hid (wr.heap.size ≤ pz) := show _ ≤ _ by rw [← hpz]; exact Nat.le_refl _
            rw [hWD]
            rw [hpz]
            clear hWD hpz
            have FD : Hid (Box WD pF (cellsL l')) := FW.out.grew GD.out
            have XD : Hid (Box WD w.heap.size [v0, v1, v2, v3, v4, v5, v6, v7]) := XW.out.grew GD.out
            have ED : Hid (Box WD (w.heap.size + 1) [.int .i64 x.kind, .int .i64 x.n, .bool x.wr]) := EW.out.grew GD.out
            have OD1 : Hid (OwnRow blE WC.heap.size WD (.slice d1 n1 c1) (P1 kk)) := OW1.out.grew GD.out
            have OD2 : Hid (OwnRow blE WC.heap.size WD (.slice d2 n2 c2) (P2 kk)) := OW2.out.grew GD.out
            have GWD : Hid (Grew w WD) := BW.out.trans GD.out
            have SD : Hid (WC.heap.size ≤ WD.heap.size) := Nat.le_trans SW.out (Below.size GD.out)
            have z0 := PD.out.c 0 rfl
            by_cases hp : 0 < z.kind
            · rw [decide_eq_true hp] at s1 s2
              simp only [Bool.true_and, if_true] at s1 s2
              have HS1 : Hid (P1 (kk + 1) = P1 kk ++ [(kk : Int)]) := s1
              have HS2 : Hid (P2 (kk + 1) = if fitB x.kind x.n z = true then P2 kk ++ [(kk : Int)] else P2 kk) := s2
              clear s1 s2
              have HR1 : Hid (RowAt blE (WD.alloc (.cells #[.int .i64 (kk : Int)] 3)) (.slice (some ⟨WD.heap.size, 0, none⟩) 1 1) [(kk : Int)]) := one_row blE WD (kk : Int) _ _ rfl (by decide)
              go_wp2_with (at_builtin; refine wpList_append_apart (E := blE) rfl (.tmp 80) (.tmp 82) rfl WC.heap.size _ (P1 kk) rfl (OD1.out.grew (grew_alloc _ _)) _ [(kk : Int)] rfl HR1.out ?qb ?qc ?_)
              case qb =>
                have := HL1.out kk
                show (_ + 1) * 8 ≤ _
                omega
              case qc => exact Nat.le_trans SD.out (Below.size (grew_alloc _ _))
              intro vF WF owF grF apF
              obtain ⟨f1, cf1, rfl⟩ := owF.form
              have hlp : (P1 kk ++ [(kk : Int)]).length = (P1 (kk + 1)).length := by rw [HS1.out]
              rw [← HS1.out] at owF
              rw [hlp] at apF ⊢
              have GDF : Hid (WD.grownBy WF (Value.slice d1 n1 c1).ownBlock) := show World.grownBy _ _ _ from grown_trans (grew_by (grew_alloc _ _) _) grF
              have OF1 : Hid (OwnRow blE WC.heap.size WF (.slice f1 (P1 (kk + 1)).length cf1) (P1 (kk + 1))) := owF
              have OF2 : Hid (OwnRow blE WC.heap.size WF (.slice d2 n2 c2) (P2 kk)) := OD2.out.grown GDF.out (fun g h2 h1 => AP.out g h1 h2)
              have APF : Hid (∀ g, (Value.slice f1 (P1 (kk + 1)).length cf1).ownBlock = some g → (Value.slice d2 n2 c2).ownBlock ≠ some g) := show ∀ g, _ from fun g h1 h2 => by
                rcases apF g h1 with h3 | h3
                · exact AP.out g h3 h2
                · have := (OD2.out.lt g h2).2
                  have := Below.size (grew_alloc WD (.cells #[.int .i64 (kk : Int)] 3))
                  omega
              have hb1 : ∀ b, b < WC.heap.size → ∀ g, (Value.slice d1 n1 c1).ownBlock = some g → b ≠ g := fun b hb g h => by have := (OD1.out.lt g h).1; omega
              have HPN : Hid (w.heap.size + 2 ≤ pF ∧ pF < pw ∧ pw < WC.heap.size) := show _ ∧ _ ∧ _ from ⟨HPW.out, HPP.out, HPS.out⟩
              have FF : Hid (Box WF pF (cellsL l')) := FD.out.beside GDF.out (hb1 _ (by have := HPN.out; omega))
              have XF : Hid (Box WF w.heap.size [v0, v1, v2, v3, v4, v5, v6, v7]) := XD.out.beside GDF.out (hb1 _ (by have := HPN.out; omega))
              have EF : Hid (Box WF (w.heap.size + 1) [.int .i64 x.kind, .int .i64 x.n, .bool x.wr]) := ED.out.beside GDF.out (hb1 _ (by have := HPN.out; omega))
              have PF : Hid (Box WF pz [.int .i64 z.kind, .int .i64 z.n, .bool z.wr]) := PD.out.beside GDF.out (fun g h => by have := (OW1.out.lt g h).2; have := HPZ'.out; omega)
              have GWF : Hid (Grew w WF) := show Grew _ _ from grew_beside GWD.out GDF.out (fun g h => by have := (OD1.out.lt g h).1; have := HPN.out; omega)
              have SF : Hid (WC.heap.size ≤ WF.heap.size) := Nat.le_trans SD.out GDF.out.size
              clear owF grF apF HR1 z0 hlp hb1
              have z0 := PF.out.c 0 rfl
              have z1 := PF.out.c 1 rfl
              have y0 := EF.out.c 0 rfl
              have y1 := EF.out.c 1 rfl
              have HFB : Hid (fitB x.kind x.n z = ((z.kind == x.kind) && (z.n == x.n))) := rfl
              generalize (P1 (kk + 1)).length = m1 at OF1 APF ⊢
              by_cases ek : z.kind = x.kind
              · have ekb : (z.kind == x.kind) = true := by simpa using ek
                by_cases en : z.n = x.n
                · have enb : (z.n == x.n) = true := by simpa using en
                  have HS3 : Hid (P2 (kk + 1) = P2 kk ++ [(kk : Int)]) := show _ = _ by rw [HS2.out, HFB.out, ekb, enb]; rfl
                  clear ek en
                  have HR1 : Hid (RowAt blE (WF.alloc (.cells #[.int .i64 (kk : Int)] 3)) (.slice (some ⟨WF.heap.size, 0, none⟩) 1 1) [(kk : Int)]) := one_row blE WF (kk : Int) _ _ rfl (by decide)
                  go_wp2_with (at_builtin; refine wpList_append_apart (E := blE) rfl (.tmp 96) (.tmp 98) rfl WC.heap.size _ (P2 kk) rfl (OF2.out.grew (grew_alloc _ _)) _ [(kk : Int)] rfl HR1.out ?qb ?qc ?_)
                  case qb =>
                    have := HL2.out kk
                    show (_ + 1) * 8 ≤ _
                    omega
                  case qc => exact Nat.le_trans SF.out (Below.size (grew_alloc _ _))
                  intro vG WG owG grG apG
                  obtain ⟨f2, cf2, rfl⟩ := owG.form
                  have hlp : (P2 kk ++ [(kk : Int)]).length = (P2 (kk + 1)).length := by rw [HS3.out]
                  rw [← HS3.out] at owG
                  rw [hlp] at apG ⊢
                  have GFG : Hid (WF.grownBy WG (Value.slice d2 n2 c2).ownBlock) := show World.grownBy _ _ _ from grown_trans (grew_by (grew_alloc _ _) _) grG
                  have OG2 : Hid (OwnRow blE WC.heap.size WG (.slice f2 (P2 (kk + 1)).length cf2) (P2 (kk + 1))) := owG
                  have OG1 : Hid (OwnRow blE WC.heap.size WG (.slice f1 m1 cf1) (P1 (kk + 1))) := OF1.out.grown GFG.out (fun g h1 h2 => APF.out g h1 h2)
                  have APG : Hid (∀ g, (Value.slice f1 m1 cf1).ownBlock = some g → (Value.slice f2 (P2 (kk + 1)).length cf2).ownBlock ≠ some g) := show ∀ g, _ from fun g h1 h2 => by
                    rcases apG g h2 with h3 | h3
                    · exact APF.out g h1 h3
                    · have := (OF1.out.lt g h1).2
                      have := Below.size (grew_alloc WF (.cells #[.int .i64 (kk : Int)] 3))
                      omega
                  have hb1 : ∀ b, b < WC.heap.size → ∀ g, (Value.slice d2 n2 c2).ownBlock = some g → b ≠ g := fun b hb g h => by have := (OF2.out.lt g h).1; omega
                  have FG : Hid (Box WG pF (cellsL l')) := FF.out.beside GFG.out (hb1 _ (by have := HPN.out; omega))
                  have XG : Hid (Box WG w.heap.size [v0, v1, v2, v3, v4, v5, v6, v7]) := XF.out.beside GFG.out (hb1 _ (by have := HPN.out; omega))
                  have EG : Hid (Box WG (w.heap.size + 1) [.int .i64 x.kind, .int .i64 x.n, .bool x.wr]) := EF.out.beside GFG.out (hb1 _ (by have := HPN.out; omega))
                  have GWG : Hid (Grew w WG) := show Grew _ _ from grew_beside GWF.out GFG.out (fun g h => by have := (OF2.out.lt g h).1; have := HPN.out; omega)
                  have SG : Hid (WC.heap.size ≤ WG.heap.size) := Nat.le_trans SF.out GFG.out.size
                  clear owG grG apG HR1 z0 z1 y0 y1 hlp hb1
                  generalize (P2 (kk + 1)).length = m2 at OG2 APG ⊢
                  have wl0 := FG.out.c _ HR2.out
                  have wlf := FG.out.f
                  go_upto_region 24 with fail
                  obtain ⟨WT, hWT⟩ : ∃ WT, (WG).setCell ⟨pF, kk * 3 + 2, none⟩ (.bool false) = WT := ⟨_, rfl⟩
                  have FT : Hid (Box WT pF (cellsL (l'.set kk (enG z)))) := show Box _ _ _ by rw [← hWT, ← HCS.out]; exact FG.out.set _ _
                  have hpn := HPN.out
                  have XT : Hid (Box WT w.heap.size [v0, v1, v2, v3, v4, v5, v6, v7]) := show Box _ _ _ by rw [← hWT]; exact XG.out.other (by simp; omega) _
                  have ET : Hid (Box WT (w.heap.size + 1) [.int .i64 x.kind, .int .i64 x.n, .bool x.wr]) := show Box _ _ _ by rw [← hWT]; exact EG.out.other (by simp; omega) _
                  have GT' : Hid (Grew w WT) := show Grew _ _ by rw [← hWT]; exact Below.setCell GWG.out (p := ⟨pF, kk * 3 + 2, none⟩) (by simp; omega) _
                  have ST : Hid (WC.heap.size ≤ WT.heap.size) := show _ ≤ _ by rw [← hWT]; have := SG.out; simp [World.setCell]; omega
                  have OT1 : Hid (OwnRow blE WC.heap.size WT (.slice f1 m1 cf1) (P1 (kk + 1))) := show OwnRow _ _ _ _ _ by rw [← hWT]; exact OG1.out.setCell (by simp; omega) _
                  have OT2 : Hid (OwnRow blE WC.heap.size WT (.slice f2 m2 cf2) (P2 (kk + 1))) := show OwnRow _ _ _ _ _ by rw [← hWT]; exact OG2.out.setCell (by simp; omega) _
                  rw [hWT]
                  clear hWT wl0 wlf hpn
                  go_wp2
                  go_roundg (64 - (kk + 1))
                  case measure => omega
                  case rel => exact ⟨kk + 1, _, _, _, _, _, _, _, by omega, by omega, by go_num, rfl, rfl, GT'.out, ST.out, OT1.out, OT2.out, APG.out, FT.out, U2.out, XT.out, ET.out⟩
                · have enb : (z.n == x.n) = false := by simpa using en
                  have HS3 : Hid (P2 (kk + 1) = P2 kk) := show _ = _ by rw [HS2.out, HFB.out, ekb, enb]; rfl
                  clear ek en
                  have wl0 := FF.out.c _ HR2.out
                  have wlf := FF.out.f
                  go_upto_region 24 with fail
                  obtain ⟨WT, hWT⟩ : ∃ WT, (WF).setCell ⟨pF, kk * 3 + 2, none⟩ (.bool false) = WT := ⟨_, rfl⟩
                  have FT : Hid (Box WT pF (cellsL (l'.set kk (enG z)))) := show Box _ _ _ by rw [← hWT, ← HCS.out]; exact FF.out.set _ _
                  have hpn := HPN.out
                  have XT : Hid (Box WT w.heap.size [v0, v1, v2, v3, v4, v5, v6, v7]) := show Box _ _ _ by rw [← hWT]; exact XF.out.other (by simp; omega) _
                  have ET : Hid (Box WT (w.heap.size + 1) [.int .i64 x.kind, .int .i64 x.n, .bool x.wr]) := show Box _ _ _ by rw [← hWT]; exact EF.out.other (by simp; omega) _
                  have GT' : Hid (Grew w WT) := show Grew _ _ by rw [← hWT]; exact Below.setCell GWF.out (p := ⟨pF, kk * 3 + 2, none⟩) (by simp; omega) _
                  have ST : Hid (WC.heap.size ≤ WT.heap.size) := show _ ≤ _ by rw [← hWT]; have := SF.out; simp [World.setCell]; omega
                  have OT1 : Hid (OwnRow blE WC.heap.size WT (.slice f1 m1 cf1) (P1 (kk + 1))) := show OwnRow _ _ _ _ _ by rw [← hWT]; exact OF1.out.setCell (by simp; omega) _
                  have OT2 : Hid (OwnRow blE WC.heap.size WT (.slice d2 n2 c2) (P2 (kk + 1))) := show OwnRow _ _ _ _ _ by rw [← hWT, HS3.out]; exact OF2.out.setCell (by simp; omega) _
                  rw [hWT]
                  clear hWT wl0 wlf hpn
                  go_wp2
                  go_roundg (64 - (kk + 1))
                  case measure => omega
                  case rel => exact ⟨kk + 1, _, _, _, _, _, _, _, by omega, by omega, by go_num, rfl, rfl, GT'.out, ST.out, OT1.out, OT2.out, APF.out, FT.out, U2.out, XT.out, ET.out⟩
              · have ekb : (z.kind == x.kind) = false := by simpa using ek
                have HS3 : Hid (P2 (kk + 1) = P2 kk) := show _ = _ by rw [HS2.out, HFB.out, ekb]; rfl
                clear ek
                have wl0 := FF.out.c _ HR2.out
                have wlf := FF.out.f
                go_upto_region 24 with fail
                obtain ⟨WT, hWT⟩ : ∃ WT, (WF).setCell ⟨pF, kk * 3 + 2, none⟩ (.bool false) = WT := ⟨_, rfl⟩
                have FT : Hid (Box WT pF (cellsL (l'.set kk (enG z)))) := show Box _ _ _ by rw [← hWT, ← HCS.out]; exact FF.out.set _ _
                have hpn := HPN.out
                have XT : Hid (Box WT w.heap.size [v0, v1, v2, v3, v4, v5, v6, v7]) := show Box _ _ _ by rw [← hWT]; exact XF.out.other (by simp; omega) _
                have ET : Hid (Box WT (w.heap.size + 1) [.int .i64 x.kind, .int .i64 x.n, .bool x.wr]) := show Box _ _ _ by rw [← hWT]; exact EF.out.other (by simp; omega) _
                have GT' : Hid (Grew w WT) := show Grew _ _ by rw [← hWT]; exact Below.setCell GWF.out (p := ⟨pF, kk * 3 + 2, none⟩) (by simp; omega) _
                have ST : Hid (WC.heap.size ≤ WT.heap.size) := show _ ≤ _ by rw [← hWT]; have := SF.out; simp [World.setCell]; omega
                have OT1 : Hid (OwnRow blE WC.heap.size WT (.slice f1 m1 cf1) (P1 (kk + 1))) := show OwnRow _ _ _ _ _ by rw [← hWT]; exact OF1.out.setCell (by simp; omega) _
                have OT2 : Hid (OwnRow blE WC.heap.size WT (.slice d2 n2 c2) (P2 (kk + 1))) := show OwnRow _ _ _ _ _ by rw [← hWT, HS3.out]; exact OF2.out.setCell (by simp; omega) _
                rw [hWT]
                clear hWT wl0 wlf hpn
                go_wp2
                go_roundg (64 - (kk + 1))
                case measure => omega
                case rel => exact ⟨kk + 1, _, _, _, _, _, _, _, by omega, by omega, by go_num, rfl, rfl, GT'.out, ST.out, OT1.out, OT2.out, APF.out, FT.out, U2.out, XT.out, ET.out⟩
            · rw [decide_eq_false hp] at s1 s2
              have HS1 : Hid (P1 (kk + 1) = P1 kk) := show _ = _ by rw [s1]; rfl
              have HS2 : Hid (P2 (kk + 1) = P2 kk) := show _ = _ by rw [s2]; rfl
              clear s1 s2
              have HPN : Hid (w.heap.size + 2 ≤ pF ∧ pF < pw ∧ pw < WC.heap.size) := show _ ∧ _ ∧ _ from ⟨HPW.out, HPP.out, HPS.out⟩
              have wl0 := FD.out.c _ HR2.out
              have wlf := FD.out.f
              go_upto_region 24 with fail
              obtain ⟨WT, hWT⟩ : ∃ WT, (WD).setCell ⟨pF, kk * 3 + 2, none⟩ (.bool false) = WT := ⟨_, rfl⟩
              have FT : Hid (Box WT pF (cellsL (l'.set kk (enG z)))) := show Box _ _ _ by rw [← hWT, ← HCS.out]; exact FD.out.set _ _
              have hpn := HPN.out
              have XT : Hid (Box WT w.heap.size [v0, v1, v2, v3, v4, v5, v6, v7]) := show Box _ _ _ by rw [← hWT]; exact XD.out.other (by simp; omega) _
              have ET : Hid (Box WT (w.heap.size + 1) [.int .i64 x.kind, .int .i64 x.n, .bool x.wr]) := show Box _ _ _ by rw [← hWT]; exact ED.out.other (by simp; omega) _
              have GT' : Hid (Grew w WT) := show Grew _ _ by rw [← hWT]; exact Below.setCell GWD.out (p := ⟨pF, kk * 3 + 2, none⟩) (by simp; omega) _
              have ST : Hid (WC.heap.size ≤ WT.heap.size) := show _ ≤ _ by rw [← hWT]; have := SD.out; simp [World.setCell]; omega
              have OT1 : Hid (OwnRow blE WC.heap.size WT (.slice d1 n1 c1) (P1 (kk + 1))) := show OwnRow _ _ _ _ _ by rw [← hWT, HS1.out]; exact OD1.out.setCell (by simp; omega) _
              have OT2 : Hid (OwnRow blE WC.heap.size WT (.slice d2 n2 c2) (P2 (kk + 1))) := show OwnRow _ _ _ _ _ by rw [← hWT, HS2.out]; exact OD2.out.setCell (by simp; omega) _
              rw [hWT]
              clear hWT wl0 wlf hpn
              go_wp2
              go_roundg (64 - (kk + 1))
              case measure => omega
              case rel => exact ⟨kk + 1, _, _, _, _, _, _, _, by omega, by omega, by go_num, rfl, rfl, GT'.out, ST.out, OT1.out, OT2.out, AP.out, FT.out, U2.out, XT.out, ET.out⟩
          · have hltz : ¬ (kk : Int) < 64 := by omega
            have : kk = 64 := by omega
            subst this
            have HLE : Hid (l' = F.map enG) := UW.out.all (by rw [HFL.out]; exact Nat.le_refl _)
            obtain ⟨LG, HLG⟩ : ∃ LG, Hid (F.map enG = LG) := ⟨_, rfl⟩
            have HTG : Hid (tableOf LG = guardT t) := show _ = _ by rw [← HLG.out, ← HF.out]; exact tableOf_guard HTB.out
            have hto := fun W => tableOf_any LG W (by rw [← HLG.out, List.length_map]; exact HFL.out) (by
              rw [← HLG.out]
              intro e he
              obtain ⟨y, hy, rfl⟩ := List.mem_map.1 he
              rw [← HF.out] at hy
              unfold flatT at hy
              obtain ⟨j, _, rfl⟩ := List.mem_map.1 hy
              exact (enW_zero (HTB.out.get _ _)).1.1)
            rw [HTG.out] at hto
            have FE : Hid (Box wr pF (cellsL LG)) := show Box _ _ _ by rw [← HLG.out, ← HLE.out]; exact FW.out
            have HCG : Hid ((cellsL LG).length = 192) := show _ = _ by rw [cellsL_len, ← HLG.out, List.length_map, HFL.out]
            obtain ⟨CG, HCGE⟩ : ∃ CG, Hid (cellsL LG = CG) := ⟨_, rfl⟩
            rw [HCGE.out] at FE HCG hto
            obtain ⟨GT, HGT⟩ : ∃ GT, Hid (guardT t = GT) := ⟨_, rfl⟩
            simp only [HGT.out] at k9 hto
            have R1 : Hid (RowAt blE wr (.slice d1 n1 c1) (P1 64)) := OW1.out.at
            have R2 : Hid (RowAt blE wr (.slice d2 n2 c2) (P2 64)) := OW2.out.at
            obtain ⟨m1, HM1⟩ : ∃ m1, Hid ((P1 64).length = m1) := ⟨_, rfl⟩
            obtain ⟨m2, HM2⟩ : ∃ m2, Hid ((P2 64).length = m2) := ⟨_, rfl⟩
            go_upto_region 25 with fail
            have hv0 : ∀ y : GrownW wr, y.world.cell? ⟨w.heap.size, 0, none⟩ = some (v0) := fun y => (XW.out.grew y.grew).c 0 rfl
            have hv1 : ∀ y : GrownW wr, y.world.cell? ⟨w.heap.size, 1, none⟩ = some (v1) := fun y => (XW.out.grew y.grew).c 1 rfl
            have hv2 : ∀ y : GrownW wr, y.world.cell? ⟨w.heap.size, 2, none⟩ = some (v2) := fun y => (XW.out.grew y.grew).c 2 rfl
            have hv3 : ∀ y : GrownW wr, y.world.cell? ⟨w.heap.size, 3, none⟩ = some (v3) := fun y => (XW.out.grew y.grew).c 3 rfl
            have hv4 : ∀ y : GrownW wr, y.world.cell? ⟨w.heap.size, 4, none⟩ = some (v4) := fun y => (XW.out.grew y.grew).c 4 rfl
            have hv5 : ∀ y : GrownW wr, y.world.cell? ⟨w.heap.size, 5, none⟩ = some (v5) := fun y => (XW.out.grew y.grew).c 5 rfl
            have hv6 : ∀ y : GrownW wr, y.world.cell? ⟨w.heap.size, 6, none⟩ = some (v6) := fun y => (XW.out.grew y.grew).c 6 rfl
            have hv7 : ∀ y : GrownW wr, y.world.cell? ⟨w.heap.size, 7, none⟩ = some (v7) := fun y => (XW.out.grew y.grew).c 7 rfl
            have hx0 : ∀ y : GrownW wr, y.world.cell? ⟨w.heap.size + 1, 0, none⟩ = some (.int .i64 x.kind) := fun y => (EW.out.grew y.grew).c 0 rfl
            have hx1 : ∀ y : GrownW wr, y.world.cell? ⟨w.heap.size + 1, 1, none⟩ = some (.int .i64 x.n) := fun y => (EW.out.grew y.grew).c 1 rfl
            have hx2 : ∀ y : GrownW wr, y.world.cell? ⟨w.heap.size + 1, 2, none⟩ = some (.bool x.wr) := fun y => (EW.out.grew y.grew).c 2 rfl
            have hne : Nonempty (GrownW wr) := ⟨⟨_, Grew.refl _⟩⟩
            refine wp_lax [(1, ⟨fun v => ∃ a c, v = .slice a m1 c, fun v w' => RowAt blE w' v (P1 64)⟩), (3, ⟨fun v => v = .bool true, fun _ _ => True⟩), (10, ⟨fun v => ∃ a c, v = .slice a m2 c, fun v w' => RowAt blE w' v (P2 64)⟩), (12, ⟨fun v => v = .bool true, fun _ _ => True⟩), (16, ⟨fun v => ∃ us : List Value, us.length = 8 ∧ v = .agg us.toArray, fun v w' => ∃ us : List Value, v = .agg us.toArray ∧ TabAt w' us GT⟩), (18, ⟨fun v => ∃ us : List Value, us.length = 8 ∧ v = .agg us.toArray, fun v w' => ∃ us : List Value, v = .agg us.toArray ∧ TabAt w' us GT⟩), (19, ⟨fun v => v = .bool true, fun _ _ => True⟩)] mixed (by kernel_rfl) ?_ ?_ ?_
            · intro y hy
              simp at hy
              rcases hy with rfl | rfl | rfl | rfl | rfl | rfl | rfl
              · exact ⟨_, none, 0, rfl⟩
              · exact ⟨_, rfl⟩
              · exact ⟨_, none, 0, rfl⟩
              · exact ⟨_, rfl⟩
              · exact ⟨_, nil8, rfl, rfl⟩
              · exact ⟨_, nil8, rfl, rfl⟩
              · exact ⟨_, rfl⟩
            · intro y hy
              simp at hy
              rcases hy with rfl | rfl | rfl | rfl | rfl | rfl | rfl
              · exact fun _ _ _ hg h => RowAt.grew h hg
              · exact fun _ _ _ _ h => h
              · exact fun _ _ _ hg h => RowAt.grew h hg
              · exact fun _ _ _ _ h => h
              · exact fun _ _ _ hg ⟨us, h1, h2⟩ => ⟨us, h1, h2.grew hg⟩
              · exact fun _ _ _ hg ⟨us, h1, h2⟩ => ⟨us, h1, h2.grew hg⟩
              · exact fun _ _ _ _ h => h
            iterate 1 (refine lax_quiet rfl rfl rfl (fun K hK => ?_); go_big_quiet_op; refine hK _ ?_; clear hK K)
            refine lax_spec rfl rfl (fun w' hg hF => ?_) (fun v1 hv => ?_)
            · refine Does.call [.agg #[v0, v1, v2, v3, v4, v5, v6, v7]] rfl Try.func39 rfl rfl rfl ?_
              refine (k7 w' (BW.out.trans hg)).mono ?_
              rintro e w'' ⟨v, rfl, ow, hg2⟩
              obtain ⟨a, c, rfl⟩ := ow.form
              rw [HM1.out] at ow ⊢
              exact ⟨_, rfl, hg2, ⟨a, c, rfl⟩, ow.at⟩
            obtain ⟨ja, jc, rfl⟩ := hv
            simp only [Act.put, List.setIfInBounds_toArray, List.set_cons_succ, List.set_cons_zero]
            iterate 1 (refine lax_quiet rfl rfl rfl (fun K hK => ?_); go_big_quiet_op; refine hK _ ?_; clear hK K)
            refine lax_spec rfl rfl (fun w' hg hF => ?_) (fun v1 hv => ?_)
            · have r1 : RowAt blE w' (.slice ja m1 jc) (P1 64) := hF 1 (by kernel_rfl)
              refine Does.call [.slice ja m1 jc, .slice d1 n1 c1] rfl Try.func38 rfl rfl rfl ?_
              refine (sameL_any _ _ (P1 64) w' r1 (R1.out.grew hg)).mono ?_
              rintro e w'' ⟨rfl, hg2⟩
              exact ⟨_, rfl, hg2, rfl, trivial⟩
            subst hv
            simp only [Act.put, List.setIfInBounds_toArray, List.set_cons_succ, List.set_cons_zero]
            iterate 6 (refine lax_quiet rfl rfl rfl (fun K hK => ?_); go_big_quiet_op; refine hK _ ?_; clear hK K)
            refine lax_spec rfl rfl (fun w' hg hF => ?_) (fun v1 hv => ?_)
            · refine Does.call [.agg #[v0, v1, v2, v3, v4, v5, v6, v7], .int .i64 x.kind, .int .i64 x.n] rfl Try.func40 rfl rfl rfl ?_
              refine (k8 w' (BW.out.trans hg)).mono ?_
              rintro e w'' ⟨v, rfl, ow, hg2⟩
              obtain ⟨a, c, rfl⟩ := ow.form
              rw [HM2.out] at ow ⊢
              exact ⟨_, rfl, hg2, ⟨a, c, rfl⟩, ow.at⟩
            obtain ⟨ka, kc, rfl⟩ := hv
            simp only [Act.put, List.setIfInBounds_toArray, List.set_cons_succ, List.set_cons_zero]
            iterate 1 (refine lax_quiet rfl rfl rfl (fun K hK => ?_); go_big_quiet_op; refine hK _ ?_; clear hK K)
            refine lax_spec rfl rfl (fun w' hg hF => ?_) (fun v1 hv => ?_)
            · have r1 : RowAt blE w' (.slice ka m2 kc) (P2 64) := hF 10 (by kernel_rfl)
              refine Does.call [.slice ka m2 kc, .slice d2 n2 c2] rfl Try.func38 rfl rfl rfl ?_
              refine (sameL_any _ _ (P2 64) w' r1 (R2.out.grew hg)).mono ?_
              rintro e w'' ⟨rfl, hg2⟩
              exact ⟨_, rfl, hg2, rfl, trivial⟩
            subst hv
            simp only [Act.put, List.setIfInBounds_toArray, List.set_cons_succ, List.set_cons_zero]
            iterate 3 (refine lax_quiet rfl rfl rfl (fun K hK => ?_); go_big_quiet_op; refine hK _ ?_; clear hK K)
            refine lax_spec rfl rfl (fun w' hg hF => ?_) (fun v1 hv => ?_)
            · refine Does.call [.agg #[v0, v1, v2, v3, v4, v5, v6, v7]] rfl Try.func41 rfl rfl rfl ?_
              refine (k9 w' (BW.out.trans hg)).mono ?_
              rintro e w'' ⟨us, rfl, ts, hg2⟩
              exact ⟨_, rfl, hg2, ⟨us, ts.len, rfl⟩, us, rfl, ts.now⟩
            obtain ⟨gs, gs8, rfl⟩ := hv
            simp only [Act.put, List.setIfInBounds_toArray, List.set_cons_succ, List.set_cons_zero]
            refine lax_quiet rfl rfl rfl (fun K hK => ?_)
            refine ⟨.agg CG.toArray, fun w' hw' => ?_, hK _ ?_⟩
            · obtain ⟨y, rfl⟩ := hw'
              unfold Oper.quietAt
              rw [run_loadFlat (.tmp 11) rfl pF rfl (FE.out.grew y.grew) HCG.out]
              simp [Oper.quietUpon]
            simp only [Act.put, List.setIfInBounds_toArray, List.set_cons_succ, List.set_cons_zero]
            refine lax_spec rfl rfl (fun w' hg hF => ?_) (fun v1 hv => ?_)
            · refine Does.call [.agg CG.toArray] rfl Try.func42 rfl rfl rfl ?_
              refine (hto w').mono ?_
              rintro e w'' ⟨us, rfl, ts, hg2⟩
              exact ⟨_, rfl, hg2, ⟨us, ts.len, rfl⟩, us, rfl, ts.now⟩
            obtain ⟨ds, ds8, rfl⟩ := hv
            simp only [Act.put, List.setIfInBounds_toArray, List.set_cons_succ, List.set_cons_zero]
            refine lax_spec rfl rfl (fun w' hg hF => ?_) (fun v1 hv => ?_)
            · have tgs : TabAt w' gs GT := (by obtain ⟨us, h1, h2⟩ : ∃ us : List Value, (Value.agg gs.toArray) = .agg us.toArray ∧ TabAt w' us GT := hF 16 (by kernel_rfl); have h3 : gs = us := (by simpa using h1); rw [h3]; exact h2)
              have tds : TabAt w' ds GT := (by obtain ⟨us, h1, h2⟩ : ∃ us : List Value, (Value.agg ds.toArray) = .agg us.toArray ∧ TabAt w' us GT := hF 18 (by kernel_rfl); have h3 : ds = us := (by simpa using h1); rw [h3]; exact h2)
              refine Does.call [.agg gs.toArray, .agg ds.toArray] rfl Try.func32 rfl rfl rfl ?_
              refine (sameTb_any gs ds GT w' tgs tds).mono ?_
              rintro e w'' ⟨rfl, hg2⟩
              exact ⟨_, rfl, hg2, rfl, trivial⟩
            subst hv
            simp only [Act.put, List.setIfInBounds_toArray, List.set_cons_succ, List.set_cons_zero]
            iterate 2 (refine lax_quiet rfl rfl rfl (fun K hK => ?_); go_big_quiet_op; refine hK _ ?_; clear hK K)
            refine lax_nil fun WZ hgZ hF => ?_
            have GZ : Hid (Grew w WZ) := BW.out.trans hgZ
            clear hF hgZ
            go_wp2
            go_ret
            exact ⟨rfl, GZ.out⟩
    · have hn0d : decide (0 ≤ n) = false := decide_eq_false hn0
      have HZE : Hid (Z = en0) := show _ = _ by rw [← HZ.out]; unfold getT; rw [if_neg (by omega)]
      go_upto_region 13 with fail
      obtain ⟨WB, rfl⟩ : ∃ WB, WB = WA := ⟨_, rfl⟩
      have PB : Hid (Box WB pw [.int .i64 Z.kind, .int .i64 Z.n, .bool Z.wr]) := show Box _ _ _ by rw [HZE.out]; exact PA.out
      have FB := FA
      have XB := XA
      have EB := EA
      have GB := GA
      have hv0 : ∀ y : GrownW WB, y.world.cell? ⟨w.heap.size, 0, none⟩ = some (v0) := fun y => (XB.out.grew y.grew).c 0 rfl
      have hv1 : ∀ y : GrownW WB, y.world.cell? ⟨w.heap.size, 1, none⟩ = some (v1) := fun y => (XB.out.grew y.grew).c 1 rfl
      have hv2 : ∀ y : GrownW WB, y.world.cell? ⟨w.heap.size, 2, none⟩ = some (v2) := fun y => (XB.out.grew y.grew).c 2 rfl
      have hv3 : ∀ y : GrownW WB, y.world.cell? ⟨w.heap.size, 3, none⟩ = some (v3) := fun y => (XB.out.grew y.grew).c 3 rfl
      have hv4 : ∀ y : GrownW WB, y.world.cell? ⟨w.heap.size, 4, none⟩ = some (v4) := fun y => (XB.out.grew y.grew).c 4 rfl
      have hv5 : ∀ y : GrownW WB, y.world.cell? ⟨w.heap.size, 5, none⟩ = some (v5) := fun y => (XB.out.grew y.grew).c 5 rfl
      have hv6 : ∀ y : GrownW WB, y.world.cell? ⟨w.heap.size, 6, none⟩ = some (v6) := fun y => (XB.out.grew y.grew).c 6 rfl
      have hv7 : ∀ y : GrownW WB, y.world.cell? ⟨w.heap.size, 7, none⟩ = some (v7) := fun y => (XB.out.grew y.grew).c 7 rfl
      have hq0 : ∀ y : GrownW WB, y.world.cell? ⟨pw, 0, none⟩ = some (.int .i64 Z.kind) := fun y => (PB.out.grew y.grew).c 0 rfl
      have hq1 : ∀ y : GrownW WB, y.world.cell? ⟨pw, 1, none⟩ = some (.int .i64 Z.n) := fun y => (PB.out.grew y.grew).c 1 rfl
      have hq2 : ∀ y : GrownW WB, y.world.cell? ⟨pw, 2, none⟩ = some (.bool Z.wr) := fun y => (PB.out.grew y.grew).c 2 rfl
      have hne : Nonempty (GrownW WB) := ⟨⟨_, Grew.refl _⟩⟩
      refine wp_lax [(2, ⟨fun v => v = .agg #[.int .i64 Z.kind, .int .i64 Z.n, .bool Z.wr], fun _ _ => True⟩)] mixed (by kernel_rfl) ?_ ?_ ?_
      · intro y hy
        simp at hy
        subst hy
        exact ⟨_, rfl⟩
      · intro y hy
        simp at hy
        subst hy
        exact fun _ _ _ _ h => h
      iterate 2 (refine lax_quiet rfl rfl rfl (fun K hK => ?_); go_big_quiet_op; refine hK _ ?_; clear hK K)
      refine lax_spec rfl rfl (fun w' hg hF => ?_) (fun v1 hv => ?_)
      · refine Does.call [.agg #[v0, v1, v2, v3, v4, v5, v6, v7], .int .i64 n] rfl Try.func37 rfl rfl rfl ?_
        refine (k6 w' (GB.out.trans hg)).mono ?_
        rintro e w'' ⟨rfl, hg2⟩
        exact ⟨_, rfl, hg2, rfl, trivial⟩
      subst hv
      simp only [Act.put, List.setIfInBounds_toArray, List.set_cons_succ, List.set_cons_zero]
      iterate 2 (refine lax_quiet rfl rfl rfl (fun K hK => ?_); go_big_quiet_op; refine hK _ ?_; clear hK K)
      refine lax_nil fun WC hgC hF => ?_
      have GC : Hid (Grew w WC) := GB.out.trans hgC
      have XC : Hid (Box WC w.heap.size [v0, v1, v2, v3, v4, v5, v6, v7]) := XB.out.grew hgC
      have EC : Hid (Box WC (w.heap.size + 1) [.int .i64 x.kind, .int .i64 x.n, .bool x.wr]) := EB.out.grew hgC
      have FC : Hid (Box WC pF (cellsL F)) := FB.out.grew hgC
      have HPS : Hid (pw < WC.heap.size) := show _ < _ from (PB.out.grew hgC).lt
      clear hF hgC hne hzz hv0 hv1 hv2 hv3 hv4 hv5 hv6 hv7 hq0 hq1 hq2
      obtain ⟨P1, HP1⟩ : ∃ P1, Hid (pagesTo t allB = P1) := ⟨_, rfl⟩
      obtain ⟨P2, HP2⟩ : ∃ P2, Hid (pagesTo t (fitB x.kind x.n) = P2) := ⟨_, rfl⟩
      simp only [HP1.out] at k7
      simp only [HP2.out] at k8
      have HL1 : Hid (∀ m, (P1 m).length ≤ m) := show ∀ m, _ from fun m => by rw [← HP1.out]; exact pagesTo_len _ _ _
      have HL2 : Hid (∀ m, (P2 m).length ≤ m) := show ∀ m, _ from fun m => by rw [← HP2.out]; exact pagesTo_len _ _ _
      have HST : Hid (∀ (m : Nat) (z : En), F[m]? = some z → 0 ≤ z.kind ∧ P1 (m + 1) = (if decide (0 < z.kind) then P1 m ++ [(m : Int)] else P1 m) ∧ P2 (m + 1) = (if decide (0 < z.kind) && fitB x.kind x.n z then P2 m ++ [(m : Int)] else P2 m)) := show ∀ (m : Nat) (z : En), _ from fun m z hz => by
        have hm : m < 64 := by rw [← HFL.out]; exact (List.getElem?_eq_some_iff.1 hz).1
        rw [← HF.out, flatT_at t hm] at hz
        cases hz
        have h0 : 0 ≤ (getN t (m / 8) (m % 8)).kind := (enW_zero (HTB.out.get _ _)).1.1
        have hs : enS (getN t (m / 8) (m % 8)) = decide (0 < (getN t (m / 8) (m % 8)).kind) := by
          unfold enS
          by_cases h : (getN t (m / 8) (m % 8)).kind = 0
          · rw [h]; rfl
          · rw [decide_eq_true (by omega)]
            simpa using h
        refine ⟨h0, ?_, ?_⟩
        · rw [← HP1.out, pagesTo_succ, hs]
          simp [allB]
        · rw [← HP2.out, pagesTo_succ, hs]
      go_wp2_with (refine wp_loadAll rfl 63 (.tmp 11) rfl pF rfl FC.out Try.underlying63 rfl (by rw [HCL.out]; exact Try.sizeFlat) ?_)
      go_loopg [13, 14, 73] 64 (fun gg s13 s14 s73 wr => ∃ (kk n1 c1 n2 c2 : Nat) (d1 d2 : Option Addr) (l' : List En), kk ≤ 64 ∧ 64 - kk ≤ gg ∧ s73 = .int .i64 kk ∧ s13 = .slice d1 n1 c1 ∧ s14 = .slice d2 n2 c2 ∧ Hid (Grew w wr) ∧ Hid (WC.heap.size ≤ wr.heap.size) ∧ Hid (OwnRow blE WC.heap.size wr (.slice d1 n1 c1) (P1 kk)) ∧ Hid (OwnRow blE WC.heap.size wr (.slice d2 n2 c2) (P2 kk)) ∧ Hid (∀ g, (Value.slice d1 n1 c1).ownBlock = some g → (Value.slice d2 n2 c2).ownBlock ≠ some g) ∧ Hid (Box wr pF (cellsL l')) ∧ Hid (Upto enG kk F l') ∧ Hid (Box wr w.heap.size [v0, v1, v2, v3, v4, v5, v6, v7]) ∧ Hid (Box wr (w.heap.size + 1) [.int .i64 x.kind, .int .i64 x.n, .bool x.wr]))
      case atStart => exact ⟨0, 0, 0, 0, 0, none, none, F, Nat.zero_le _, by omega, rfl, rfl, rfl, GC.out, Nat.le_refl _, by rw [← HP1.out]; exact OwnRow.nil _ _ _, by rw [← HP2.out]; exact OwnRow.nil _ _ _, fun g h => (by cases h), FC.out, Upto.zero _ _, XC.out, EC.out⟩
      case round =>
        obtain ⟨kk, n1, c1, n2, c2, d1, d2, l', hkk, hgg, rfl, rfl, rfl, BW, SW, OW1, OW2, AP, FW, UW, XW, EW⟩ := hrel
        by_cases hlt : kk < 64
        · have hltz : (kk : Int) < 64 := by omega
          obtain ⟨z, hz⟩ : ∃ z, F[kk]? = some z := ⟨_, List.getElem?_eq_getElem (by rw [HFL.out]; exact hlt)⟩
          have HZF : Hid (F[kk]? = some z) := hz
          obtain ⟨hk0, s1, s2⟩ := HST.out kk z hz
          have HZL' : Hid (l'[kk]? = some z) := show _ = _ by rw [UW.out kk, if_neg (Nat.lt_irrefl _)]; exact hz
          obtain ⟨r0, r1, r2⟩ := cellsL_at HZL'.out
          have HR2 : Hid ((cellsL l')[kk * 3 + 2]? = some (.bool z.wr)) := r2
          have HCS : Hid ((cellsL l').set (kk * 3 + 2) (.bool false) = cellsL (l'.set kk (enG z))) := show _ = _ by
            have h1 := cellsL_set (enG z) (show kk < l'.length from (List.getElem?_eq_some_iff.1 HZL'.out).1)
            rw [← h1]
            have e0 : (cellsL l').set (kk * 3) (.int .i64 (enG z).kind) = cellsL l' := set_same r0
            rw [e0, set_same (show (cellsL l')[kk * 3 + 1]? = some (.int .i64 (enG z).n) from r1)]
            rfl
          have U2 : Hid (Upto enG (kk + 1) F (l'.set kk (enG z))) := UW.out.step hz
          clear r0 r1 r2 hz
          go_upto_region 19 with (refine wp_flatAt rfl (.tmp 72) (.tmp 73) rfl F rfl kk rfl hlt HZF.out ?_)
          obtain ⟨pz, hpz⟩ : ∃ pz, wr.heap.size = pz := ⟨_, rfl⟩
          obtain ⟨WD, hWD⟩ : ∃ WD, wr.alloc (.cells #[.int .i64 z.kind, .int .i64 z.n, .bool z.wr] 57) = WD := ⟨_, rfl⟩
          have GD : Hid (Grew wr WD) := show Grew _ _ by rw [← hWD]; exact grew_alloc _ _
          have PD : Hid (Box WD pz [.int .i64 z.kind, .int .i64 z.n, .bool z.wr]) := show Box _ _ _ by rw [← hWD]; exact Box.top _ _ _ hpz.symm
          have HPZ : Hid (WC.heap.size ≤ pz) := show _ ≤ _ by rw [← hpz]; exact SW.out
          have HPZ' : Hid (wr.heap.size ≤ pz) := show _ ≤ _ by rw [← hpz]; exact Nat.le_refl _
          rw [hWD]
          rw [hpz]
          clear hWD hpz
          have FD : Hid (Box WD pF (cellsL l')) := FW.out.grew GD.out
          have XD : Hid (Box WD w.heap.size [v0, v1, v2, v3, v4, v5, v6, v7]) := XW.out.grew GD.out
          have ED : Hid (Box WD (w.heap.size + 1) [.int .i64 x.kind, .int .i64 x.n, .bool x.wr]) := EW.out.grew GD.out
          have OD1 : Hid (OwnRow blE WC.heap.size WD (.slice d1 n1 c1) (P1 kk)) := OW1.out.grew GD.out
          have OD2 : Hid (OwnRow blE WC.heap.size WD (.slice d2 n2 c2) (P2 kk)) := OW2.out.grew GD.out
          have GWD : Hid (Grew w WD) := BW.out.trans GD.out
          have SD : Hid (WC.heap.size ≤ WD.heap.size) := Nat.le_trans SW.out (Below.size GD.out)
          have z0 := PD.out.c 0 rfl
          by_cases hp : 0 < z.kind
          · rw [decide_eq_true hp] at s1 s2
            simp only [Bool.true_and, if_true] at s1 s2
            have HS1 : Hid (P1 (kk + 1) = P1 kk ++ [(kk : Int)]) := s1
            have HS2 : Hid (P2 (kk + 1) = if fitB x.kind x.n z = true then P2 kk ++ [(kk : Int)] else P2 kk) := s2
            clear s1 s2
            have HR1 : Hid (RowAt blE (WD.alloc (.cells #[.int .i64 (kk : Int)] 3)) (.slice (some ⟨WD.heap.size, 0, none⟩) 1 1) [(kk : Int)]) := one_row blE WD (kk : Int) _ _ rfl (by decide)
            go_wp2_with (at_builtin; refine wpList_append_apart (E := blE) rfl (.tmp 80) (.tmp 82) rfl WC.heap.size _ (P1 kk) rfl (OD1.out.grew (grew_alloc _ _)) _ [(kk : Int)] rfl HR1.out ?qb ?qc ?_)
            case qb =>
              have := HL1.out kk
              show (_ + 1) * 8 ≤ _
              omega
            case qc => exact Nat.le_trans SD.out (Below.size (grew_alloc _ _))
            intro vF WF owF grF apF
            obtain ⟨f1, cf1, rfl⟩ := owF.form
            have hlp : (P1 kk ++ [(kk : Int)]).length = (P1 (kk + 1)).length := by rw [HS1.out]
            rw [← HS1.out] at owF
            rw [hlp] at apF ⊢
            have GDF : Hid (WD.grownBy WF (Value.slice d1 n1 c1).ownBlock) := show World.grownBy _ _ _ from grown_trans (grew_by (grew_alloc _ _) _) grF
            have OF1 : Hid (OwnRow blE WC.heap.size WF (.slice f1 (P1 (kk + 1)).length cf1) (P1 (kk + 1))) := owF
            have OF2 : Hid (OwnRow blE WC.heap.size WF (.slice d2 n2 c2) (P2 kk)) := OD2.out.grown GDF.out (fun g h2 h1 => AP.out g h1 h2)
            have APF : Hid (∀ g, (Value.slice f1 (P1 (kk + 1)).length cf1).ownBlock = some g → (Value.slice d2 n2 c2).ownBlock ≠ some g) := show ∀ g, _ from fun g h1 h2 => by
              rcases apF g h1 with h3 | h3
              · exact AP.out g h3 h2
              · have := (OD2.out.lt g h2).2
                have := Below.size (grew_alloc WD (.cells #[.int .i64 (kk : Int)] 3))
                omega
            have hb1 : ∀ b, b < WC.heap.size → ∀ g, (Value.slice d1 n1 c1).ownBlock = some g → b ≠ g := fun b hb g h => by have := (OD1.out.lt g h).1; omega
            have HPN : Hid (w.heap.size + 2 ≤ pF ∧ pF < pw ∧ pw < WC.heap.size) := show _ ∧ _ ∧ _ from ⟨HPW.out, HPP.out, HPS.out⟩
            have FF : Hid (Box WF pF (cellsL l')) := FD.out.beside GDF.out (hb1 _ (by have := HPN.out; omega))
            have XF : Hid (Box WF w.heap.size [v0, v1, v2, v3, v4, v5, v6, v7]) := XD.out.beside GDF.out (hb1 _ (by have := HPN.out; omega))
            have EF : Hid (Box WF (w.heap.size + 1) [.int .i64 x.kind, .int .i64 x.n, .bool x.wr]) := ED.out.beside GDF.out (hb1 _ (by have := HPN.out; omega))
            have PF : Hid (Box WF pz [.int .i64 z.kind, .int .i64 z.n, .bool z.wr]) := PD.out.beside GDF.out (fun g h => by have := (OW1.out.lt g h).2; have := HPZ'.out; omega)
            have GWF : Hid (Grew w WF) := show Grew _ _ from grew_beside GWD.out GDF.out (fun g h => by have := (OD1.out.lt g h).1; have := HPN.out; omega)
            have SF : Hid (WC.heap.size ≤ WF.heap.size) := Nat.le_trans SD.out GDF.out.size
            clear owF grF apF HR1 z0 hlp hb1
            have z0 := PF.out.c 0 rfl
            have z1 := PF.out.c 1 rfl
            have y0 := EF.out.c 0 rfl
            have y1 := EF.out.c 1 rfl
            have HFB : Hid (fitB x.kind x.n z = ((z.kind == x.kind) && (z.n == x.n))) := rfl
            generalize (P1 (kk + 1)).length = m1 at OF1 APF ⊢
            by_cases ek : z.kind = x.kind
            · have ekb : (z.kind == x.kind) = true := by simpa using ek
              by_cases en : z.n = x.n
              · have enb : (z.n == x.n) = true := by simpa using en
                have HS3 : Hid (P2 (kk + 1) = P2 kk ++ [(kk : Int)]) := show _ = _ by rw [HS2.out, HFB.out, ekb, enb]; rfl
                clear ek en
                have HR1 : Hid (RowAt blE (WF.alloc (.cells #[.int .i64 (kk : Int)] 3)) (.slice (some ⟨WF.heap.size, 0, none⟩) 1 1) [(kk : Int)]) := one_row blE WF (kk : Int) _ _ rfl (by decide)
                go_wp2_with (at_builtin; refine wpList_append_apart (E := blE) rfl (.tmp 96) (.tmp 98) rfl WC.heap.size _ (P2 kk) rfl (OF2.out.grew (grew_alloc _ _)) _ [(kk : Int)] rfl HR1.out ?qb ?qc ?_)
                case qb =>
                  have := HL2.out kk
                  show (_ + 1) * 8 ≤ _
                  omega
                case qc => exact Nat.le_trans SF.out (Below.size (grew_alloc _ _))
                intro vG WG owG grG apG
                obtain ⟨f2, cf2, rfl⟩ := owG.form
                have hlp : (P2 kk ++ [(kk : Int)]).length = (P2 (kk + 1)).length := by rw [HS3.out]
                rw [← HS3.out] at owG
                rw [hlp] at apG ⊢
                have GFG : Hid (WF.grownBy WG (Value.slice d2 n2 c2).ownBlock) := show World.grownBy _ _ _ from grown_trans (grew_by (grew_alloc _ _) _) grG
                have OG2 : Hid (OwnRow blE WC.heap.size WG (.slice f2 (P2 (kk + 1)).length cf2) (P2 (kk + 1))) := owG
                have OG1 : Hid (OwnRow blE WC.heap.size WG (.slice f1 m1 cf1) (P1 (kk + 1))) := OF1.out.grown GFG.out (fun g h1 h2 => APF.out g h1 h2)
                have APG : Hid (∀ g, (Value.slice f1 m1 cf1).ownBlock = some g → (Value.slice f2 (P2 (kk + 1)).length cf2).ownBlock ≠ some g) := show ∀ g, _ from fun g h1 h2 => by
                  rcases apG g h2 with h3 | h3
                  · exact APF.out g h1 h3
                  · have := (OF1.out.lt g h1).2
                    have := Below.size (grew_alloc WF (.cells #[.int .i64 (kk : Int)] 3))
                    omega
                have hb1 : ∀ b, b < WC.heap.size → ∀ g, (Value.slice d2 n2 c2).ownBlock = some g → b ≠ g := fun b hb g h => by have := (OF2.out.lt g h).1; omega
                have FG : Hid (Box WG pF (cellsL l')) := FF.out.beside GFG.out (hb1 _ (by have := HPN.out; omega))
                have XG : Hid (Box WG w.heap.size [v0, v1, v2, v3, v4, v5, v6, v7]) := XF.out.beside GFG.out (hb1 _ (by have := HPN.out; omega))
                have EG : Hid (Box WG (w.heap.size + 1) [.int .i64 x.kind, .int .i64 x.n, .bool x.wr]) := EF.out.beside GFG.out (hb1 _ (by have := HPN.out; omega))
                have GWG : Hid (Grew w WG) := show Grew _ _ from grew_beside GWF.out GFG.out (fun g h => by have := (OF2.out.lt g h).1; have := HPN.out; omega)
                have SG : Hid (WC.heap.size ≤ WG.heap.size) := Nat.le_trans SF.out GFG.out.size
                clear owG grG apG HR1 z0 z1 y0 y1 hlp hb1
                generalize (P2 (kk + 1)).length = m2 at OG2 APG ⊢
                have wl0 := FG.out.c _ HR2.out
                have wlf := FG.out.f
                go_upto_region 24 with fail
                obtain ⟨WT, hWT⟩ : ∃ WT, (WG).setCell ⟨pF, kk * 3 + 2, none⟩ (.bool false) = WT := ⟨_, rfl⟩
                have FT : Hid (Box WT pF (cellsL (l'.set kk (enG z)))) := show Box _ _ _ by rw [← hWT, ← HCS.out]; exact FG.out.set _ _
                have hpn := HPN.out
                have XT : Hid (Box WT w.heap.size [v0, v1, v2, v3, v4, v5, v6, v7]) := show Box _ _ _ by rw [← hWT]; exact XG.out.other (by simp; omega) _
                have ET : Hid (Box WT (w.heap.size + 1) [.int .i64 x.kind, .int .i64 x.n, .bool x.wr]) := show Box _ _ _ by rw [← hWT]; exact EG.out.other (by simp; omega) _
                have GT' : Hid (Grew w WT) := show Grew _ _ by rw [← hWT]; exact Below.setCell GWG.out (p := ⟨pF, kk * 3 + 2, none⟩) (by simp; omega) _
                have ST : Hid (WC.heap.size ≤ WT.heap.size) := show _ ≤ _ by rw [← hWT]; have := SG.out; simp [World.setCell]; omega
                have OT1 : Hid (OwnRow blE WC.heap.size WT (.slice f1 m1 cf1) (P1 (kk + 1))) := show OwnRow _ _ _ _ _ by rw [← hWT]; exact OG1.out.setCell (by simp; omega) _
                have OT2 : Hid (OwnRow blE WC.heap.size WT (.slice f2 m2 cf2) (P2 (kk + 1))) := show OwnRow _ _ _ _ _ by rw [← hWT]; exact OG2.out.setCell (by simp; omega) _
                rw [hWT]
                clear hWT wl0 wlf hpn
                go_wp2
                go_roundg (64 - (kk + 1))
                case measure => omega
                case rel => exact ⟨kk + 1, _, _, _, _, _, _, _, by omega, by omega, by go_num, rfl, rfl, GT'.out, ST.out, OT1.out, OT2.out, APG.out, FT.out, U2.out, XT.out, ET.out⟩
              · have enb : (z.n == x.n) = false := by simpa using en
                have HS3 : Hid (P2 (kk + 1) = P2 kk) := show _ = _ by rw [HS2.out, HFB.out, ekb, enb]; rfl
                clear ek en
                have wl0 := FF.out.c _ HR2.out
                have wlf := FF.out.f
                go_upto_region 24 with fail
                obtain ⟨WT, hWT⟩ : ∃ WT, (WF).setCell ⟨pF, kk * 3 + 2, none⟩ (.bool false) = WT := ⟨_, rfl⟩
                have FT : Hid (Box WT pF (cellsL (l'.set kk (enG z)))) := show Box _ _ _ by rw [← hWT, ← HCS.out]; exact FF.out.set _ _
                have hpn := HPN.out
                have XT : Hid (Box WT w.heap.size [v0, v1, v2, v3, v4, v5, v6, v7]) := show Box _ _ _ by rw [← hWT]; exact XF.out.other (by simp; omega) _
                have ET : Hid (Box WT (w.heap.size + 1) [.int .i64 x.kind, .int .i64 x.n, .bool x.wr]) := show Box _ _ _ by rw [← hWT]; exact EF.out.other (by simp; omega) _
                have GT' : Hid (Grew w WT) := show Grew _ _ by rw [← hWT]; exact Below.setCell GWF.out (p := ⟨pF, kk * 3 + 2, none⟩) (by simp; omega) _
                have ST : Hid (WC.heap.size ≤ WT.heap.size) := show _ ≤ _ by rw [← hWT]; have := SF.out; simp [World.setCell]; omega
                have OT1 : Hid (OwnRow blE WC.heap.size WT (.slice f1 m1 cf1) (P1 (kk + 1))) := show OwnRow _ _ _ _ _ by rw [← hWT]; exact OF1.out.setCell (by simp; omega) _
                have OT2 : Hid (OwnRow blE WC.heap.size WT (.slice d2 n2 c2) (P2 (kk + 1))) := show OwnRow _ _ _ _ _ by rw [← hWT, HS3.out]; exact OF2.out.setCell (by simp; omega) _
                rw [hWT]
                clear hWT wl0 wlf hpn
                go_wp2
                go_roundg (64 - (kk + 1))
                case measure => omega
                case rel => exact ⟨kk + 1, _, _, _, _, _, _, _, by omega, by omega, by go_num, rfl, rfl, GT'.out, ST.out, OT1.out, OT2.out, APF.out, FT.out, U2.out, XT.out, ET.out⟩
            · have ekb : (z.kind == x.kind) = false := by simpa using ek
              have HS3 : Hid (P2 (kk + 1) = P2 kk) := show _ = _ by rw [HS2.out, HFB.out, ekb]; rfl
              clear ek
              have wl0 := FF.out.c _ HR2.out
              have wlf := FF.out.f
              go_upto_region 24 with fail
              obtain ⟨WT, hWT⟩ : ∃ WT, (WF).setCell ⟨pF, kk * 3 + 2, none⟩ (.bool false) = WT := ⟨_, rfl⟩
              have FT : Hid (Box WT pF (cellsL (l'.set kk (enG z)))) := show Box _ _ _ by rw [← hWT, ← HCS.out]; exact FF.out.set _ _
              have hpn := HPN.out
              have XT : Hid (Box WT w.heap.size [v0, v1, v2, v3, v4, v5, v6, v7]) := show Box _ _ _ by rw [← hWT]; exact XF.out.other (by simp; omega) _
              have ET : Hid (Box WT (w.heap.size + 1) [.int .i64 x.kind, .int .i64 x.n, .bool x.wr]) := show Box _ _ _ by rw [← hWT]; exact EF.out.other (by simp; omega) _
              have GT' : Hid (Grew w WT) := show Grew _ _ by rw [← hWT]; exact Below.setCell GWF.out (p := ⟨pF, kk * 3 + 2, none⟩) (by simp; omega) _
              have ST : Hid (WC.heap.size ≤ WT.heap.size) := show _ ≤ _ by rw [← hWT]; have := SF.out; simp [World.setCell]; omega
              have OT1 : Hid (OwnRow blE WC.heap.size WT (.slice f1 m1 cf1) (P1 (kk + 1))) := show OwnRow _ _ _ _ _ by rw [← hWT]; exact OF1.out.setCell (by simp; omega) _
              have OT2 : Hid (OwnRow blE WC.heap.size WT (.slice d2 n2 c2) (P2 (kk + 1))) := show OwnRow _ _ _ _ _ by rw [← hWT, HS3.out]; exact OF2.out.setCell (by simp; omega) _
              rw [hWT]
              clear hWT wl0 wlf hpn
              go_wp2
              go_roundg (64 - (kk + 1))
              case measure => omega
              case rel => exact ⟨kk + 1, _, _, _, _, _, _, _, by omega, by omega, by go_num, rfl, rfl, GT'.out, ST.out, OT1.out, OT2.out, APF.out, FT.out, U2.out, XT.out, ET.out⟩
          · rw [decide_eq_false hp] at s1 s2
            have HS1 : Hid (P1 (kk + 1) = P1 kk) := show _ = _ by rw [s1]; rfl
            have HS2 : Hid (P2 (kk + 1) = P2 kk) := show _ = _ by rw [s2]; rfl
            clear s1 s2
            have HPN : Hid (w.heap.size + 2 ≤ pF ∧ pF < pw ∧ pw < WC.heap.size) := show _ ∧ _ ∧ _ from ⟨HPW.out, HPP.out, HPS.out⟩
            have wl0 := FD.out.c _ HR2.out
            have wlf := FD.out.f
            go_upto_region 24 with fail
            obtain ⟨WT, hWT⟩ : ∃ WT, (WD).setCell ⟨pF, kk * 3 + 2, none⟩ (.bool false) = WT := ⟨_, rfl⟩
            have FT : Hid (Box WT pF (cellsL (l'.set kk (enG z)))) := show Box _ _ _ by rw [← hWT, ← HCS.out]; exact FD.out.set _ _
            have hpn := HPN.out
            have XT : Hid (Box WT w.heap.size [v0, v1, v2, v3, v4, v5, v6, v7]) := show Box _ _ _ by rw [← hWT]; exact XD.out.other (by simp; omega) _
            have ET : Hid (Box WT (w.heap.size + 1) [.int .i64 x.kind, .int .i64 x.n, .bool x.wr]) := show Box _ _ _ by rw [← hWT]; exact ED.out.other (by simp; omega) _
            have GT' : Hid (Grew w WT) := show Grew _ _ by rw [← hWT]; exact Below.setCell GWD.out (p := ⟨pF, kk * 3 + 2, none⟩) (by simp; omega) _
            have ST : Hid (WC.heap.size ≤ WT.heap.size) := show _ ≤ _ by rw [← hWT]; have := SD.out; simp [World.setCell]; omega
            have OT1 : Hid (OwnRow blE WC.heap.size WT (.slice d1 n1 c1) (P1 (kk + 1))) := show OwnRow _ _ _ _ _ by rw [← hWT, HS1.out]; exact OD1.out.setCell (by simp; omega) _
            have OT2 : Hid (OwnRow blE WC.heap.size WT (.slice d2 n2 c2) (P2 (kk + 1))) := show OwnRow _ _ _ _ _ by rw [← hWT, HS2.out]; exact OD2.out.setCell (by simp; omega) _
            rw [hWT]
            clear hWT wl0 wlf hpn
            go_wp2
            go_roundg (64 - (kk + 1))
            case measure => omega
            case rel => exact ⟨kk + 1, _, _, _, _, _, _, _, by omega, by omega, by go_num, rfl, rfl, GT'.out, ST.out, OT1.out, OT2.out, AP.out, FT.out, U2.out, XT.out, ET.out⟩
        · have hltz : ¬ (kk : Int) < 64 := by omega
          have : kk = 64 := by omega
          subst this
          have HLE : Hid (l' = F.map enG) := UW.out.all (by rw [HFL.out]; exact Nat.le_refl _)
          obtain ⟨LG, HLG⟩ : ∃ LG, Hid (F.map enG = LG) := ⟨_, rfl⟩
          have HTG : Hid (tableOf LG = guardT t) := show _ = _ by rw [← HLG.out, ← HF.out]; exact tableOf_guard HTB.out
          have hto := fun W => tableOf_any LG W (by rw [← HLG.out, List.length_map]; exact HFL.out) (by
            rw [← HLG.out]
            intro e he
            obtain ⟨y, hy, rfl⟩ := List.mem_map.1 he
            rw [← HF.out] at hy
            unfold flatT at hy
            obtain ⟨j, _, rfl⟩ := List.mem_map.1 hy
            exact (enW_zero (HTB.out.get _ _)).1.1)
          rw [HTG.out] at hto
          have FE : Hid (Box wr pF (cellsL LG)) := show Box _ _ _ by rw [← HLG.out, ← HLE.out]; exact FW.out
          have HCG : Hid ((cellsL LG).length = 192) := show _ = _ by rw [cellsL_len, ← HLG.out, List.length_map, HFL.out]
          obtain ⟨CG, HCGE⟩ : ∃ CG, Hid (cellsL LG = CG) := ⟨_, rfl⟩
          rw [HCGE.out] at FE HCG hto
          obtain ⟨GT, HGT⟩ : ∃ GT, Hid (guardT t = GT) := ⟨_, rfl⟩
          simp only [HGT.out] at k9 hto
          have R1 : Hid (RowAt blE wr (.slice d1 n1 c1) (P1 64)) := OW1.out.at
          have R2 : Hid (RowAt blE wr (.slice d2 n2 c2) (P2 64)) := OW2.out.at
          obtain ⟨m1, HM1⟩ : ∃ m1, Hid ((P1 64).length = m1) := ⟨_, rfl⟩
          obtain ⟨m2, HM2⟩ : ∃ m2, Hid ((P2 64).length = m2) := ⟨_, rfl⟩
          go_upto_region 25 with fail
          have hv0 : ∀ y : GrownW wr, y.world.cell? ⟨w.heap.size, 0, none⟩ = some (v0) := fun y => (XW.out.grew y.grew).c 0 rfl
          have hv1 : ∀ y : GrownW wr, y.world.cell? ⟨w.heap.size, 1, none⟩ = some (v1) := fun y => (XW.out.grew y.grew).c 1 rfl
          have hv2 : ∀ y : GrownW wr, y.world.cell? ⟨w.heap.size, 2, none⟩ = some (v2) := fun y => (XW.out.grew y.grew).c 2 rfl
          have hv3 : ∀ y : GrownW wr, y.world.cell? ⟨w.heap.size, 3, none⟩ = some (v3) := fun y => (XW.out.grew y.grew).c 3 rfl
          have hv4 : ∀ y : GrownW wr, y.world.cell? ⟨w.heap.size, 4, none⟩ = some (v4) := fun y => (XW.out.grew y.grew).c 4 rfl
          have hv5 : ∀ y : GrownW wr, y.world.cell? ⟨w.heap.size, 5, none⟩ = some (v5) := fun y => (XW.out.grew y.grew).c 5 rfl
          have hv6 : ∀ y : GrownW wr, y.world.cell? ⟨w.heap.size, 6, none⟩ = some (v6) := fun y => (XW.out.grew y.grew).c 6 rfl
          have hv7 : ∀ y : GrownW wr, y.world.cell? ⟨w.heap.size, 7, none⟩ = some (v7) := fun y => (XW.out.grew y.grew).c 7 rfl
          have hx0 : ∀ y : GrownW wr, y.world.cell? ⟨w.heap.size + 1, 0, none⟩ = some (.int .i64 x.kind) := fun y => (EW.out.grew y.grew).c 0 rfl
          have hx1 : ∀ y : GrownW wr, y.world.cell? ⟨w.heap.size + 1, 1, none⟩ = some (.int .i64 x.n) := fun y => (EW.out.grew y.grew).c 1 rfl
          have hx2 : ∀ y : GrownW wr, y.world.cell? ⟨w.heap.size + 1, 2, none⟩ = some (.bool x.wr) := fun y => (EW.out.grew y.grew).c 2 rfl
          have hne : Nonempty (GrownW wr) := ⟨⟨_, Grew.refl _⟩⟩
          refine wp_lax [(1, ⟨fun v => ∃ a c, v = .slice a m1 c, fun v w' => RowAt blE w' v (P1 64)⟩), (3, ⟨fun v => v = .bool true, fun _ _ => True⟩), (10, ⟨fun v => ∃ a c, v = .slice a m2 c, fun v w' => RowAt blE w' v (P2 64)⟩), (12, ⟨fun v => v = .bool true, fun _ _ => True⟩), (16, ⟨fun v => ∃ us : List Value, us.length = 8 ∧ v = .agg us.toArray, fun v w' => ∃ us : List Value, v = .agg us.toArray ∧ TabAt w' us GT⟩), (18, ⟨fun v => ∃ us : List Value, us.length = 8 ∧ v = .agg us.toArray, fun v w' => ∃ us : List Value, v = .agg us.toArray ∧ TabAt w' us GT⟩), (19, ⟨fun v => v = .bool true, fun _ _ => True⟩)] mixed (by kernel_rfl) ?_ ?_ ?_
          · intro y hy
            simp at hy
            rcases hy with rfl | rfl | rfl | rfl | rfl | rfl | rfl
            · exact ⟨_, none, 0, rfl⟩
            · exact ⟨_, rfl⟩
            · exact ⟨_, none, 0, rfl⟩
            · exact ⟨_, rfl⟩
            · exact ⟨_, nil8, rfl, rfl⟩
            · exact ⟨_, nil8, rfl, rfl⟩
            · exact ⟨_, rfl⟩
          · intro y hy
            simp at hy
            rcases hy with rfl | rfl | rfl | rfl | rfl | rfl | rfl
            · exact fun _ _ _ hg h => RowAt.grew h hg
            · exact fun _ _ _ _ h => h
            · exact fun _ _ _ hg h => RowAt.grew h hg
            · exact fun _ _ _ _ h => h
            · exact fun _ _ _ hg ⟨us, h1, h2⟩ => ⟨us, h1, h2.grew hg⟩
            · exact fun _ _ _ hg ⟨us, h1, h2⟩ => ⟨us, h1, h2.grew hg⟩
            · exact fun _ _ _ _ h => h
          iterate 1 (refine lax_quiet rfl rfl rfl (fun K hK => ?_); go_big_quiet_op; refine hK _ ?_; clear hK K)
          refine lax_spec rfl rfl (fun w' hg hF => ?_) (fun v1 hv => ?_)
          · refine Does.call [.agg #[v0, v1, v2, v3, v4, v5, v6, v7]] rfl Try.func39 rfl rfl rfl ?_
            refine (k7 w' (BW.out.trans hg)).mono ?_
            rintro e w'' ⟨v, rfl, ow, hg2⟩
            obtain ⟨a, c, rfl⟩ := ow.form
            rw [HM1.out] at ow ⊢
            exact ⟨_, rfl, hg2, ⟨a, c, rfl⟩, ow.at⟩
          obtain ⟨ja, jc, rfl⟩ := hv
          simp only [Act.put, List.setIfInBounds_toArray, List.set_cons_succ, List.set_cons_zero]
          iterate 1 (refine lax_quiet rfl rfl rfl (fun K hK => ?_); go_big_quiet_op; refine hK _ ?_; clear hK K)
          refine lax_spec rfl rfl (fun w' hg hF => ?_) (fun v1 hv => ?_)
          · have r1 : RowAt blE w' (.slice ja m1 jc) (P1 64) := hF 1 (by kernel_rfl)
            refine Does.call [.slice ja m1 jc, .slice d1 n1 c1] rfl Try.func38 rfl rfl rfl ?_
            refine (sameL_any _ _ (P1 64) w' r1 (R1.out.grew hg)).mono ?_
            rintro e w'' ⟨rfl, hg2⟩
            exact ⟨_, rfl, hg2, rfl, trivial⟩
          subst hv
          simp only [Act.put, List.setIfInBounds_toArray, List.set_cons_succ, List.set_cons_zero]
          iterate 6 (refine lax_quiet rfl rfl rfl (fun K hK => ?_); go_big_quiet_op; refine hK _ ?_; clear hK K)
          refine lax_spec rfl rfl (fun w' hg hF => ?_) (fun v1 hv => ?_)
          · refine Does.call [.agg #[v0, v1, v2, v3, v4, v5, v6, v7], .int .i64 x.kind, .int .i64 x.n] rfl Try.func40 rfl rfl rfl ?_
            refine (k8 w' (BW.out.trans hg)).mono ?_
            rintro e w'' ⟨v, rfl, ow, hg2⟩
            obtain ⟨a, c, rfl⟩ := ow.form
            rw [HM2.out] at ow ⊢
            exact ⟨_, rfl, hg2, ⟨a, c, rfl⟩, ow.at⟩
          obtain ⟨ka, kc, rfl⟩ := hv
          simp only [Act.put, List.setIfInBounds_toArray, List.set_cons_succ, List.set_cons_zero]
          iterate 1 (refine lax_quiet rfl rfl rfl (fun K hK => ?_); go_big_quiet_op; refine hK _ ?_; clear hK K)
          refine lax_spec rfl rfl (fun w' hg hF => ?_) (fun v1 hv => ?_)
          · have r1 : RowAt blE w' (.slice ka m2 kc) (P2 64) := hF 10 (by kernel_rfl)
            refine Does.call [.slice ka m2 kc, .slice d2 n2 c2] rfl Try.func38 rfl rfl rfl ?_
            refine (sameL_any _ _ (P2 64) w' r1 (R2.out.grew hg)).mono ?_
            rintro e w'' ⟨rfl, hg2⟩
            exact ⟨_, rfl, hg2, rfl, trivial⟩
          subst hv
          simp only [Act.put, List.setIfInBounds_toArray, List.set_cons_succ, List.set_cons_zero]
          iterate 3 (refine lax_quiet rfl rfl rfl (fun K hK => ?_); go_big_quiet_op; refine hK _ ?_; clear hK K)
          refine lax_spec rfl rfl (fun w' hg hF => ?_) (fun v1 hv => ?_)
          · refine Does.call [.agg #[v0, v1, v2, v3, v4, v5, v6, v7]] rfl Try.func41 rfl rfl rfl ?_
            refine (k9 w' (BW.out.trans hg)).mono ?_
            rintro e w'' ⟨us, rfl, ts, hg2⟩
            exact ⟨_, rfl, hg2, ⟨us, ts.len, rfl⟩, us, rfl, ts.now⟩
          obtain ⟨gs, gs8, rfl⟩ := hv
          simp only [Act.put, List.setIfInBounds_toArray, List.set_cons_succ, List.set_cons_zero]
          refine lax_quiet rfl rfl rfl (fun K hK => ?_)
          refine ⟨.agg CG.toArray, fun w' hw' => ?_, hK _ ?_⟩
          · obtain ⟨y, rfl⟩ := hw'
            unfold Oper.quietAt
            rw [run_loadFlat (.tmp 11) rfl pF rfl (FE.out.grew y.grew) HCG.out]
            simp [Oper.quietUpon]
          simp only [Act.put, List.setIfInBounds_toArray, List.set_cons_succ, List.set_cons_zero]
          refine lax_spec rfl rfl (fun w' hg hF => ?_) (fun v1 hv => ?_)
          · refine Does.call [.agg CG.toArray] rfl Try.func42 rfl rfl rfl ?_
            refine (hto w').mono ?_
            rintro e w'' ⟨us, rfl, ts, hg2⟩
            exact ⟨_, rfl, hg2, ⟨us, ts.len, rfl⟩, us, rfl, ts.now⟩
          obtain ⟨ds, ds8, rfl⟩ := hv
          simp only [Act.put, List.setIfInBounds_toArray, List.set_cons_succ, List.set_cons_zero]
          refine lax_spec rfl rfl (fun w' hg hF => ?_) (fun v1 hv => ?_)
          · have tgs : TabAt w' gs GT := (by obtain ⟨us, h1, h2⟩ : ∃ us : List Value, (Value.agg gs.toArray) = .agg us.toArray ∧ TabAt w' us GT := hF 16 (by kernel_rfl); have h3 : gs = us := (by simpa using h1); rw [h3]; exact h2)
            have tds : TabAt w' ds GT := (by obtain ⟨us, h1, h2⟩ : ∃ us : List Value, (Value.agg ds.toArray) = .agg us.toArray ∧ TabAt w' us GT := hF 18 (by kernel_rfl); have h3 : ds = us := (by simpa using h1); rw [h3]; exact h2)
            refine Does.call [.agg gs.toArray, .agg ds.toArray] rfl Try.func32 rfl rfl rfl ?_
            refine (sameTb_any gs ds GT w' tgs tds).mono ?_
            rintro e w'' ⟨rfl, hg2⟩
            exact ⟨_, rfl, hg2, rfl, trivial⟩
          subst hv
          simp only [Act.put, List.setIfInBounds_toArray, List.set_cons_succ, List.set_cons_zero]
          iterate 2 (refine lax_quiet rfl rfl rfl (fun K hK => ?_); go_big_quiet_op; refine hK _ ?_; clear hK K)
          refine lax_nil fun WZ hgZ hF => ?_
          have GZ : Hid (Grew w WZ) := BW.out.trans hgZ
          clear hF hgZ
          go_wp2
          go_ret
          exact ⟨rfl, GZ.out⟩
  · have hSb : (S != 0) = true := by simpa using hS
    clear hS
    go_wp2
    go_ret
    exact ⟨rfl, G7.out⟩

end Go.Proofs.Ytodbgjhdfjpcpac
