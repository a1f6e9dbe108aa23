/- The walk of the law TableSets. -/
import Derived.Test.YtodbgjhdfjpcpacTbAlive
import Derived.Test.YtodbgjhdfjpcpacTbSame
import Derived.Test.YtodbgjhdfjpcpacTbHeld
namespace Go.Proofs.Ytodbgjhdfjpcpac
open Go.RowKit

theorem getT_right {t : List (List En)} (h : TbOk t) (n : Int) : enW (getT t n) = 0 := by
  unfold getT
  split
  · exact h.get _ _
  · exact enW_0

/-- What comes of a table that is set. -/
theorem sets_pure {t : List (List En)} {n : Int} {x : En} (h8 : t.length = 8) (he : setE t n x = 0) (other : Int) :
    tbW (setR t n x) = 0 ∧ getT (setR t n x) n = x ∧ (other ≠ n → getT (setR t n x) other = getT t other) ∧ setE (setR t n x) n (getT t n) = 0 ∧ setR (setR t n x) n (getT t n) = t := by
  rcases set_cases t n x with ⟨hz, e1, _⟩ | ⟨_, _, e1, _⟩ | ⟨_, _, hx, e1, _⟩ | ⟨hz, hn, hx, _, e2⟩
  · rw [e1] at he; exact absurd he hz
  · rw [e1] at he; cases he
  · rw [e1] at he; exact absurd he hx
  · have ht : TbOk t := ⟨h8, tbW_zero.1 hz⟩
    have hs := setT_ok ht (n := n.toNat) hx
    have hg : getT t n = getN t (n.toNat / 8) (n.toNat % 8) := by unfold getT; rw [if_pos hn]
    have h1 : tbW (setT t n.toNat x) = 0 := tbW_zero.2 hs.ok
    have h2 : setE (setT t n.toNat x) n (getT t n) = 0 := by
      unfold setE
      rw [if_pos h1, if_pos hn]
      exact getT_right ht n
    rw [e2]
    refine ⟨h1, getT_set_self ht hn.1 hn.2 hx, fun ho => getT_set_ne ht hn.1 hn.2 ho hx, h2, ?_⟩
    unfold setR
    rw [if_pos h2, hg]
    exact setT_back ht (by omega) hx

set_option maxRecDepth 100000 in
set_option maxHeartbeats 4000000 in
theorem tableSets_any (vs : List Value) (t : List (List En)) (n : Int) (x : En) (other : Int) (w : World) (hv : TabAt w vs t) :
    Calls Try.prog 8 #[.agg vs.toArray, .int .i64 n, .agg #[.int .i64 x.kind, .int .i64 x.n, .bool x.wr], .int .i64 other] w fun e w' => e = .returned (.bool true) ∧ Grew w w' := by
  have HV : Hid (TabAt w vs t) := hv
  have HT8 : Hid (t.length = 8) := hv.tlen
  obtain ⟨v0, v1, v2, v3, v4, v5, v6, v7, rfl⟩ := eight hv.len
  clear hv
  have hset := fun W (hW : Grew w W) => setTb_any [v0, v1, v2, v3, v4, v5, v6, v7] t n x W (HV.out.grew hW)
  obtain ⟨W0, hW0⟩ : ∃ W0, (w.alloc (.cells #[v0, v1, v2, v3, v4, v5, v6, v7] 55)).alloc (.cells #[.int .i64 x.kind, .int .i64 x.n, .bool x.wr] 57) = W0 := ⟨_, rfl⟩
  have HG0 : Hid (Grew w W0) := show Grew w W0 by rw [← hW0]; exact (grew_alloc _ _).trans (grew_alloc _ _)
  have X0 : Hid (Box W0 w.heap.size [v0, v1, v2, v3, v4, v5, v6, v7]) := show Box _ _ _ by rw [← hW0]; exact (Box.top w _ _ rfl).alloc _
  have E0 : Hid (Box W0 (w.heap.size + 1) [.int .i64 x.kind, .int .i64 x.n, .bool x.wr]) := show Box _ _ _ by rw [← hW0]; exact Box.top _ _ _ (by simp)
  have HW0 : Hid (_ = W0) := hW0
  clear hW0
  obtain ⟨S, HS⟩ : ∃ S, Hid (setE t n x = S) := ⟨_, rfl⟩
  obtain ⟨R, HR⟩ : ∃ R, Hid (setR t n x = R) := ⟨_, rfl⟩
  simp only [HS.out, HR.out] at hset
  by_cases hS : S = 0
  · subst hS
    obtain ⟨a1, a2, a3, a4, a5⟩ := sets_pure HT8.out HS.out other
    have hback := fun us W (hW : TabAt W us R) => setTb_any us R n (getT t n) W hW
    rw [HR.out] at a1 a2 a3 a4 a5
    simp only [a4, a5] at hback
    have hgn := fun W (hW : Grew w W) => getTb_any [v0, v1, v2, v3, v4, v5, v6, v7] t n W (HV.out.grew hW)
    have hwr := fun us W (hW : TabAt W us R) => wrongTb_any us R W hW
    simp only [a1] at hwr
    have hgx := fun us W (hW : TabAt W us R) => getTb_any us R n W hW
    simp only [a2, enV] at hgx
    have hgo := fun us W (hW : TabAt W us R) => getTb_any us R other W hW
    have hgt := fun W (hW : Grew w W) => getTb_any [v0, v1, v2, v3, v4, v5, v6, v7] t other W (HV.out.grew hW)
    have A3 : Hid (other ≠ n → getT R other = getT t other) := a3
    clear a1 a2 a3 a4 a5
    obtain ⟨Z, HZ⟩ : ∃ Z, Hid (getT t n = Z) := ⟨_, rfl⟩
    simp only [HZ.out, enV] at hback hgn
    have hee := fun W => en_eq x.kind x.n x.kind x.n x.wr x.wr W
    simp only [enEqB_self] at hee
    by_cases ho : other = n
    · obtain rfl : n = other := ho.symm
      have honz : (n != n) = false := by simp
      clear hgo hgt
      go_enter Try.func8, Try.ntmps8
      go_upto_region 1 with fail
      rw [HW0.out]
      go_wp2_with fail
      refine (aliveTb_any W0).mono ?_
      rintro e W1 ⟨rfl, g1⟩
      have G1 : Hid (Grew w W1) := HG0.out.trans g1
      have X1 : Hid (Box W1 w.heap.size [v0, v1, v2, v3, v4, v5, v6, v7]) := X0.out.grew g1
      have E1 : Hid (Box W1 (w.heap.size + 1) [.int .i64 x.kind, .int .i64 x.n, .bool x.wr]) := E0.out.grew g1
      clear g1
      have x0 := X1.out.c 0 rfl
      have x1 := X1.out.c 1 rfl
      have x2 := X1.out.c 2 rfl
      have x3 := X1.out.c 3 rfl
      have x4 := X1.out.c 4 rfl
      have x5 := X1.out.c 5 rfl
      have x6 := X1.out.c 6 rfl
      have x7 := X1.out.c 7 rfl
      have e0 := E1.out.c 0 rfl
      have e1 := E1.out.c 1 rfl
      have e2 := E1.out.c 2 rfl
      go_wp2_with fail
      refine (hset W1 G1.out).mono ?_
      rintro e W2 ⟨us, rfl, ts, g2⟩
      have TS : Hid (TabS 0 W1.heap.size W2 us R) := ts
      have G2 : Hid (Grew w W2) := G1.out.trans g2
      have X2 : Hid (Box W2 w.heap.size [v0, v1, v2, v3, v4, v5, v6, v7]) := X1.out.grew g2
      have E2 : Hid (Box W2 (w.heap.size + 1) [.int .i64 x.kind, .int .i64 x.n, .bool x.wr]) := E1.out.grew g2
      clear ts g2 hset x0 x1 x2 x3 x4 x5 x6 x7 e0 e1 e2
      obtain ⟨px, HPX⟩ : ∃ px, Hid (W2.heap.size = px) := ⟨_, rfl⟩
      go_wp2_with (refine wp_storeAll rfl 55 (.tmp 9) (.tmp 19) rfl W2.heap.size rfl us rfl (Box.top W2 nil8 55 rfl) TS.out.len Try.sizeTable TS.out.one ?_)
      intro W3 b3 g3 s3
      rw [HPX.out] at b3 g3 ⊢
      have G23 : Hid (Grew W2 W3) := show Grew _ _ from grew_grown (grew_alloc W2 _) g3 (by rw [HPX.out]; exact Nat.le_refl _)
      obtain ⟨u0, u1, u2, u3, u4, u5, u6, u7, rfl⟩ := eight TS.out.len
      have P3 : Hid (Box W3 px [u0, u1, u2, u3, u4, u5, u6, u7]) := b3
      have G3 : Hid (Grew w W3) := G2.out.trans G23.out
      have T3 : Hid (TabAt W3 [u0, u1, u2, u3, u4, u5, u6, u7] R) := TS.out.now.grew G23.out
      have X3 : Hid (Box W3 w.heap.size [v0, v1, v2, v3, v4, v5, v6, v7]) := X2.out.grew G23.out
      have E3 : Hid (Box W3 (w.heap.size + 1) [.int .i64 x.kind, .int .i64 x.n, .bool x.wr]) := E2.out.grew G23.out
      clear b3 g3 s3
      go_upto_region 6 with fail
      have hv0 : ∀ y : GrownW W3, y.world.cell? ⟨w.heap.size, 0, none⟩ = some (v0) := fun y => (X3.out.grew y.grew).c 0 rfl
      have hv1 : ∀ y : GrownW W3, y.world.cell? ⟨w.heap.size, 1, none⟩ = some (v1) := fun y => (X3.out.grew y.grew).c 1 rfl
      have hv2 : ∀ y : GrownW W3, y.world.cell? ⟨w.heap.size, 2, none⟩ = some (v2) := fun y => (X3.out.grew y.grew).c 2 rfl
      have hv3 : ∀ y : GrownW W3, y.world.cell? ⟨w.heap.size, 3, none⟩ = some (v3) := fun y => (X3.out.grew y.grew).c 3 rfl
      have hv4 : ∀ y : GrownW W3, y.world.cell? ⟨w.heap.size, 4, none⟩ = some (v4) := fun y => (X3.out.grew y.grew).c 4 rfl
      have hv5 : ∀ y : GrownW W3, y.world.cell? ⟨w.heap.size, 5, none⟩ = some (v5) := fun y => (X3.out.grew y.grew).c 5 rfl
      have hv6 : ∀ y : GrownW W3, y.world.cell? ⟨w.heap.size, 6, none⟩ = some (v6) := fun y => (X3.out.grew y.grew).c 6 rfl
      have hv7 : ∀ y : GrownW W3, y.world.cell? ⟨w.heap.size, 7, none⟩ = some (v7) := fun y => (X3.out.grew y.grew).c 7 rfl
      have hu0 : ∀ y : GrownW W3, y.world.cell? ⟨px, 0, none⟩ = some (u0) := fun y => (P3.out.grew y.grew).c 0 rfl
      have hu1 : ∀ y : GrownW W3, y.world.cell? ⟨px, 1, none⟩ = some (u1) := fun y => (P3.out.grew y.grew).c 1 rfl
      have hu2 : ∀ y : GrownW W3, y.world.cell? ⟨px, 2, none⟩ = some (u2) := fun y => (P3.out.grew y.grew).c 2 rfl
      have hu3 : ∀ y : GrownW W3, y.world.cell? ⟨px, 3, none⟩ = some (u3) := fun y => (P3.out.grew y.grew).c 3 rfl
      have hu4 : ∀ y : GrownW W3, y.world.cell? ⟨px, 4, none⟩ = some (u4) := fun y => (P3.out.grew y.grew).c 4 rfl
      have hu5 : ∀ y : GrownW W3, y.world.cell? ⟨px, 5, none⟩ = some (u5) := fun y => (P3.out.grew y.grew).c 5 rfl
      have hu6 : ∀ y : GrownW W3, y.world.cell? ⟨px, 6, none⟩ = some (u6) := fun y => (P3.out.grew y.grew).c 6 rfl
      have hu7 : ∀ y : GrownW W3, y.world.cell? ⟨px, 7, none⟩ = some (u7) := fun y => (P3.out.grew y.grew).c 7 rfl
      have hx0 : ∀ y : GrownW W3, y.world.cell? ⟨w.heap.size + 1, 0, none⟩ = some (.int .i64 x.kind) := fun y => (E3.out.grew y.grew).c 0 rfl
      have hx1 : ∀ y : GrownW W3, y.world.cell? ⟨w.heap.size + 1, 1, none⟩ = some (.int .i64 x.n) := fun y => (E3.out.grew y.grew).c 1 rfl
      have hx2 : ∀ y : GrownW W3, y.world.cell? ⟨w.heap.size + 1, 2, none⟩ = some (.bool x.wr) := fun y => (E3.out.grew y.grew).c 2 rfl
      have hne : Nonempty (GrownW W3) := ⟨⟨_, Grew.refl _⟩⟩
      refine wp_lax [(1, ⟨fun v => v = .int .i64 0, fun _ _ => True⟩), (6, ⟨fun v => v = .agg #[.int .i64 x.kind, .int .i64 x.n, .bool x.wr], fun _ _ => True⟩)] mixed (by kernel_rfl) ?_ ?_ ?_
      · intro y hy
        simp at hy
        rcases hy with rfl | rfl
        · exact ⟨_, rfl⟩
        · exact ⟨_, rfl⟩
      · intro y hy
        simp at hy
        rcases hy with rfl | rfl
        · exact fun _ _ _ _ h => h
        · exact fun _ _ _ _ h => h
      iterate 1 (refine lax_quiet rfl rfl rfl (fun K hK => ?_); go_big_quiet_op; refine hK _ ?_; clear hK K)
      refine lax_spec rfl rfl (fun w' hg hF => ?_) (fun v1 hv => ?_)
      · refine Does.call [.agg #[u0, u1, u2, u3, u4, u5, u6, u7]] rfl Try.func30 rfl rfl rfl ?_
        refine (hwr _ w' (T3.out.grew hg)).mono ?_
        rintro e w'' ⟨rfl, hg2⟩
        exact ⟨_, rfl, hg2, rfl, trivial⟩
      subst hv
      simp only [Act.put, List.setIfInBounds_toArray, List.set_cons_succ, List.set_cons_zero]
      iterate 4 (refine lax_quiet rfl rfl rfl (fun K hK => ?_); go_big_quiet_op; refine hK _ ?_; clear hK K)
      refine lax_spec rfl rfl (fun w' hg hF => ?_) (fun v1 hv => ?_)
      · refine Does.call [.agg #[u0, u1, u2, u3, u4, u5, u6, u7], .int .i64 n] rfl Try.func37 rfl rfl rfl ?_
        refine (hgx _ w' (T3.out.grew hg)).mono ?_
        rintro e w'' ⟨rfl, hg2⟩
        exact ⟨_, rfl, hg2, rfl, trivial⟩
      subst hv
      simp only [Act.put, List.setIfInBounds_toArray, List.set_cons_succ, List.set_cons_zero]
      iterate 8 (refine lax_quiet rfl rfl rfl (fun K hK => ?_); go_big_quiet_op; refine hK _ ?_; clear hK K)
      refine lax_skip ?_ ?_
      · kernel_rfl
      simp only [Act.put, List.setIfInBounds_toArray, List.set_cons_succ, List.set_cons_zero]
      refine lax_skip ?_ ?_
      · kernel_rfl
      simp only [Act.put, List.setIfInBounds_toArray, List.set_cons_succ, List.set_cons_zero]
      refine lax_skip ?_ ?_
      · kernel_rfl
      simp only [Act.put, List.setIfInBounds_toArray, List.set_cons_succ, List.set_cons_zero]
      refine lax_skip ?_ ?_
      · kernel_rfl
      simp only [Act.put, List.setIfInBounds_toArray, List.set_cons_succ, List.set_cons_zero]
      refine lax_skip ?_ ?_
      · kernel_rfl
      simp only [Act.put, List.setIfInBounds_toArray, List.set_cons_succ, List.set_cons_zero]
      refine lax_skip ?_ ?_
      · kernel_rfl
      simp only [Act.put, List.setIfInBounds_toArray, List.set_cons_succ, List.set_cons_zero]
      refine lax_skip ?_ ?_
      · kernel_rfl
      simp only [Act.put, List.setIfInBounds_toArray, List.set_cons_succ, List.set_cons_zero]
      iterate 2 (refine lax_quiet rfl rfl rfl (fun K hK => ?_); go_big_quiet_op; refine hK _ ?_; clear hK K)
      refine lax_nil fun W4 hg4 hF => ?_
      have G4 : Hid (Grew w W4) := G3.out.trans hg4
      have X4 : Hid (Box W4 w.heap.size [v0, v1, v2, v3, v4, v5, v6, v7]) := X3.out.grew hg4
      have P4 : Hid (Box W4 px [u0, u1, u2, u3, u4, u5, u6, u7]) := P3.out.grew hg4
      have T4 : Hid (TabAt W4 [u0, u1, u2, u3, u4, u5, u6, u7] R) := T3.out.grew hg4
      clear hF hg4 hne hv0 hv1 hv2 hv3 hv4 hv5 hv6 hv7 hu0 hu1 hu2 hu3 hu4 hu5 hu6 hu7 hx0 hx1 hx2
      go_upto_region 8 with fail
      refine wp_region_held (S := fun W => Grew W4 W) mixed ?_
      show wpAnyH _ _ _ _ _ 12 (Array.replicate 12 false) _ W4.drew
      have GD : Grew W4 W4.drew := (show Below _ _ _ from (Below.refl _ _).drew)
      refine takeH 0 (some 51) (.agg #[u0, u1, u2, u3, u4, u5, u6, u7]) rfl rfl (by kernel_rfl) (by kernel_rfl) (by kernel_rfl) (fun _ _ _ h => h) (yieldsIf_load_mid rfl 55 (.tmp 9) rfl px 0 rfl [u0, u1, u2, u3, u4, u5, u6, u7] _ (fun W hW => (P4.out.grew hW).range) Try.underlying55 rfl Try.sizeTable) GD ?_
      simp only [Act.put, List.setIfInBounds_toArray, List.set_cons_succ, List.set_cons_zero]
      refine takeH 1 (some 52) (.int .i64 n) rfl rfl (by kernel_rfl) (by kernel_rfl) (by kernel_rfl) (fun _ _ _ h => h) (.inl ⟨rfl, fun _ _ => rfl⟩) GD ?_
      simp only [Act.put, List.setIfInBounds_toArray, List.set_cons_succ, List.set_cons_zero]
      refine takeH 2 (some 53) (.agg #[v0, v1, v2, v3, v4, v5, v6, v7]) rfl rfl (by kernel_rfl) (by kernel_rfl) (by kernel_rfl) (fun _ _ _ h => h) (yieldsIf_load_mid rfl 55 (.tmp 4) rfl w.heap.size 0 rfl [v0, v1, v2, v3, v4, v5, v6, v7] _ (fun W hW => (X4.out.grew hW).range) Try.underlying55 rfl Try.sizeTable) GD ?_
      simp only [Act.put, List.setIfInBounds_toArray, List.set_cons_succ, List.set_cons_zero]
      refine takeH 3 (some 54) (.int .i64 n) rfl rfl (by kernel_rfl) (by kernel_rfl) (by kernel_rfl) (fun _ _ _ h => h) (.inl ⟨rfl, fun _ _ => rfl⟩) GD ?_
      simp only [Act.put, List.setIfInBounds_toArray, List.set_cons_succ, List.set_cons_zero]
      refine wpAnyH_all (rs := [4, 9]) (by kernel_rfl) (by simp) ?_
      intro j hj
      simp only [List.mem_cons, List.not_mem_nil, or_false] at hj
      rcases hj with rfl | rfl
      · refine wpOp_does (some 55) (fun v w' => v = .agg #[.int .i64 Z.kind, .int .i64 Z.n, .bool Z.wr] ∧ Grew W4 w' ∧ Grew W4.drew w') rfl rfl rfl (Does.call [.agg #[v0, v1, v2, v3, v4, v5, v6, v7], .int .i64 n] rfl Try.func37 rfl rfl rfl ((hgn _ (G4.out.trans GD)).mono ?_)) ?_
        · rintro e w' ⟨rfl, hg2⟩
          exact ⟨_, rfl, rfl, GD.trans hg2, hg2⟩
        rintro v WG ⟨rfl, gg, gl⟩
        refine ⟨gg, ?_⟩
        simp only [Act.put, List.setIfInBounds_toArray, List.set_cons_succ, List.set_cons_zero]
        refine wpAnyH_all (rs := [5, 9]) (by kernel_rfl) (by simp) ?_
        intro j hj
        simp only [List.mem_cons, List.not_mem_nil, or_false] at hj
        rcases hj with rfl | rfl
        · refine wpOp_does (some 56) (fun v w' => ∃ ys : List Value, v = .tuple #[.agg ys.toArray, .int .i64 0] ∧ TabS 0 (WG).heap.size w' ys t ∧ Grew W4 w' ∧ Grew WG w') rfl rfl rfl (Does.call [.agg #[u0, u1, u2, u3, u4, u5, u6, u7], .int .i64 n, .agg #[.int .i64 Z.kind, .int .i64 Z.n, .bool Z.wr]] rfl Try.func34 rfl rfl rfl ((hback _ _ (T4.out.grew gg)).mono ?_)) ?_
          · rintro e w' ⟨ys, rfl, tl, hg2⟩
            exact ⟨_, rfl, ys, rfl, tl, gg.trans hg2, hg2⟩
          rintro v WT ⟨ys, rfl, tl, gt, gl⟩
          refine ⟨gt, ?_⟩
          simp only [Act.put, List.setIfInBounds_toArray, List.set_cons_succ, List.set_cons_zero]
          refine takeH 6 (some 50) (.tuple #[.agg ys.toArray, .int .i64 0]) rfl rfl (by kernel_rfl) (by kernel_rfl) (by kernel_rfl) (fun _ _ _ h => h) (.inl ⟨rfl, fun _ _ => rfl⟩) gt ?_
          simp only [Act.put, List.setIfInBounds_toArray, List.set_cons_succ, List.set_cons_zero]
          refine takeH 7 (some 57) (.agg ys.toArray) rfl rfl (by kernel_rfl) (by kernel_rfl) (by kernel_rfl) (fun _ _ _ h => h) (.inl ⟨rfl, fun _ _ => rfl⟩) gt ?_
          simp only [Act.put, List.setIfInBounds_toArray, List.set_cons_succ, List.set_cons_zero]
          refine takeH 8 (some 58) (.int .i64 0) rfl rfl (by kernel_rfl) (by kernel_rfl) (by kernel_rfl) (fun _ _ _ h => h) (.inl ⟨rfl, fun _ _ => rfl⟩) gt ?_
          simp only [Act.put, List.setIfInBounds_toArray, List.set_cons_succ, List.set_cons_zero]
          refine wpAnyH_all (rs := [9]) (by kernel_rfl) (by simp) ?_
          intro j hj
          simp only [List.mem_cons, List.not_mem_nil, or_false] at hj
          subst hj
          refine wpOp_does (some 11) (fun v w' => v = .pointer (some ⟨(WT).heap.size, 0, none⟩) ∧ w' = (WT).alloc (.cells nil8.toArray 55)) rfl rfl rfl (Does.allocTab rfl ⟨rfl, rfl⟩) ?_
          rintro v WA ⟨rfl, hw'⟩
          have bp : Box WA (WT).heap.size nil8 := by rw [hw']; exact Box.top _ nil8 _ rfl
          have ga : Grew W4 WA := by rw [hw']; exact gt.trans (grew_alloc _ _)
          have hpy : W4.heap.size ≤ (WT).heap.size := Below.size gt
          have ts0 := tl.now
          obtain ⟨py, HPY⟩ : ∃ py, Hid ((WT).heap.size = py) := ⟨_, rfl⟩
          have hps : (WT).heap.size ≤ py := by rw [HPY.out]; exact Nat.le_refl _
          rw [HPY.out] at bp hpy ⊢
          subst hw'
          refine ⟨ga, ?_⟩
          simp only [Act.put, List.setIfInBounds_toArray, List.set_cons_succ, List.set_cons_zero]
          refine wpAnyH_all (rs := [10]) (by kernel_rfl) (by simp) ?_
          intro j hj
          simp only [List.mem_cons, List.not_mem_nil, or_false] at hj
          subst hj
          refine wpOp_does none (fun v w' => Grew W4 w' ∧ Box w' py ys ∧ TabAt w' ys t) rfl rfl rfl (Does.storeAll 55 (.tmp 11) (.tmp 57) rfl py rfl ys rfl bp tl.len Try.sizeTable tl.one (fun w' b' g' s' => ⟨grew_grown ga g' hpy, b', ?_⟩)) ?_
          · exact ts0.grew (grew_grown (grew_alloc _ _) g' hps)
          · rintro v WS ⟨gs, bs, ts⟩
            refine ⟨gs, ?_⟩
            simp only [Act.put]
            refine takeH 11 (some 10) (.int .i64 0) rfl rfl (by kernel_rfl) (by kernel_rfl) (by kernel_rfl) (fun _ _ _ h => h) (.inl ⟨rfl, fun _ _ => rfl⟩) gs ?_
            simp only [Act.put, List.setIfInBounds_toArray, List.set_cons_succ, List.set_cons_zero]
            refine wpAnyH_done (by kernel_rfl) ?_ _
            have G6 : Hid (Grew w WS) := G4.out.trans gs
            have P6 : Hid (Box WS py ys) := bs
            have T6 : Hid (TabAt WS ys t) := ts
            obtain ⟨y0, y1, y2, y3, y4, y5, y6, y7, rfl⟩ := eight T6.out.len
            have X6 : Hid (Box WS w.heap.size [v0, v1, v2, v3, v4, v5, v6, v7]) := X4.out.grew gs
            clear gs bs ts
            have x0 := X6.out.c 0 rfl
            have x1 := X6.out.c 1 rfl
            have x2 := X6.out.c 2 rfl
            have x3 := X6.out.c 3 rfl
            have x4 := X6.out.c 4 rfl
            have x5 := X6.out.c 5 rfl
            have x6 := X6.out.c 6 rfl
            have x7 := X6.out.c 7 rfl
            have p0 := P6.out.c 0 rfl
            have p1 := P6.out.c 1 rfl
            have p2 := P6.out.c 2 rfl
            have p3 := P6.out.c 3 rfl
            have p4 := P6.out.c 4 rfl
            have p5 := P6.out.c 5 rfl
            have p6 := P6.out.c 6 rfl
            have p7 := P6.out.c 7 rfl
            go_wp2_with fail
            refine (sameTb_any [y0, y1, y2, y3, y4, y5, y6, y7] [v0, v1, v2, v3, v4, v5, v6, v7] t WS T6.out (HV.out.grew G6.out)).mono ?_
            rintro e W7 ⟨rfl, g7⟩
            have G7 : Hid (Grew w W7) := G6.out.trans g7
            clear g7 x0 x1 x2 x3 x4 x5 x6 x7 p0 p1 p2 p3 p4 p5 p6 p7
            go_wp2
            go_ret
            exact ⟨rfl, G7.out⟩
        · refine wpOp_does (some 11) (fun v w' => v = .pointer (some ⟨(WG).heap.size, 0, none⟩) ∧ w' = (WG).alloc (.cells nil8.toArray 55)) rfl rfl rfl (Does.allocTab rfl ⟨rfl, rfl⟩) ?_
          rintro v WA ⟨rfl, hw'⟩
          have bp : Box WA (WG).heap.size nil8 := by rw [hw']; exact Box.top _ nil8 _ rfl
          have ga : Grew W4 WA := by rw [hw']; exact gg.trans (grew_alloc _ _)
          have hpy : W4.heap.size ≤ (WG).heap.size := Below.size gg
          obtain ⟨py, HPY⟩ : ∃ py, Hid ((WG).heap.size = py) := ⟨_, rfl⟩
          rw [HPY.out] at bp hpy ⊢
          clear hw'
          refine ⟨ga, ?_⟩
          simp only [Act.put, List.setIfInBounds_toArray, List.set_cons_succ, List.set_cons_zero]
          refine wpAnyH_all (rs := [5]) (by kernel_rfl) (by simp) ?_
          intro j hj
          simp only [List.mem_cons, List.not_mem_nil, or_false] at hj
          subst hj
          refine wpOp_does (some 56) (fun v w' => ∃ ys : List Value, v = .tuple #[.agg ys.toArray, .int .i64 0] ∧ TabS 0 (WA).heap.size w' ys t ∧ Grew W4 w' ∧ Grew WA w') rfl rfl rfl (Does.call [.agg #[u0, u1, u2, u3, u4, u5, u6, u7], .int .i64 n, .agg #[.int .i64 Z.kind, .int .i64 Z.n, .bool Z.wr]] rfl Try.func34 rfl rfl rfl ((hback _ _ (T4.out.grew ga)).mono ?_)) ?_
          · rintro e w' ⟨ys, rfl, tl, hg2⟩
            exact ⟨_, rfl, ys, rfl, tl, ga.trans hg2, hg2⟩
          rintro v WT ⟨ys, rfl, tl, gt, gl⟩
          have hps := bp.lt
          replace bp := bp.grew gl
          refine ⟨gt, ?_⟩
          simp only [Act.put, List.setIfInBounds_toArray, List.set_cons_succ, List.set_cons_zero]
          refine takeH 6 (some 50) (.tuple #[.agg ys.toArray, .int .i64 0]) rfl rfl (by kernel_rfl) (by kernel_rfl) (by kernel_rfl) (fun _ _ _ h => h) (.inl ⟨rfl, fun _ _ => rfl⟩) gt ?_
          simp only [Act.put, List.setIfInBounds_toArray, List.set_cons_succ, List.set_cons_zero]
          refine takeH 7 (some 57) (.agg ys.toArray) rfl rfl (by kernel_rfl) (by kernel_rfl) (by kernel_rfl) (fun _ _ _ h => h) (.inl ⟨rfl, fun _ _ => rfl⟩) gt ?_
          simp only [Act.put, List.setIfInBounds_toArray, List.set_cons_succ, List.set_cons_zero]
          refine takeH 8 (some 58) (.int .i64 0) rfl rfl (by kernel_rfl) (by kernel_rfl) (by kernel_rfl) (fun _ _ _ h => h) (.inl ⟨rfl, fun _ _ => rfl⟩) gt ?_
          simp only [Act.put, List.setIfInBounds_toArray, List.set_cons_succ, List.set_cons_zero]
          refine wpAnyH_all (rs := [10]) (by kernel_rfl) (by simp) ?_
          intro j hj
          simp only [List.mem_cons, List.not_mem_nil, or_false] at hj
          subst hj
          refine wpOp_does none (fun v w' => Grew W4 w' ∧ Box w' py ys ∧ TabAt w' ys t) rfl rfl rfl (Does.storeAll 55 (.tmp 11) (.tmp 57) rfl py rfl ys rfl bp tl.len Try.sizeTable tl.one (fun w' b' g' s' => ⟨grew_grown gt g' hpy, b', ?_⟩)) ?_
          · exact (tl.out (Out.grown g' (fun g h => by cases h; exact ⟨Nat.zero_le _, hps⟩))).now
          · rintro v WS ⟨gs, bs, ts⟩
            refine ⟨gs, ?_⟩
            simp only [Act.put]
            refine takeH 11 (some 10) (.int .i64 0) rfl rfl (by kernel_rfl) (by kernel_rfl) (by kernel_rfl) (fun _ _ _ h => h) (.inl ⟨rfl, fun _ _ => rfl⟩) gs ?_
            simp only [Act.put, List.setIfInBounds_toArray, List.set_cons_succ, List.set_cons_zero]
            refine wpAnyH_done (by kernel_rfl) ?_ _
            have G6 : Hid (Grew w WS) := G4.out.trans gs
            have P6 : Hid (Box WS py ys) := bs
            have T6 : Hid (TabAt WS ys t) := ts
            obtain ⟨y0, y1, y2, y3, y4, y5, y6, y7, rfl⟩ := eight T6.out.len
            have X6 : Hid (Box WS w.heap.size [v0, v1, v2, v3, v4, v5, v6, v7]) := X4.out.grew gs
            clear gs bs ts
            have x0 := X6.out.c 0 rfl
            have x1 := X6.out.c 1 rfl
            have x2 := X6.out.c 2 rfl
            have x3 := X6.out.c 3 rfl
            have x4 := X6.out.c 4 rfl
            have x5 := X6.out.c 5 rfl
            have x6 := X6.out.c 6 rfl
            have x7 := X6.out.c 7 rfl
            have p0 := P6.out.c 0 rfl
            have p1 := P6.out.c 1 rfl
            have p2 := P6.out.c 2 rfl
            have p3 := P6.out.c 3 rfl
            have p4 := P6.out.c 4 rfl
            have p5 := P6.out.c 5 rfl
            have p6 := P6.out.c 6 rfl
            have p7 := P6.out.c 7 rfl
            go_wp2_with fail
            refine (sameTb_any [y0, y1, y2, y3, y4, y5, y6, y7] [v0, v1, v2, v3, v4, v5, v6, v7] t WS T6.out (HV.out.grew G6.out)).mono ?_
            rintro e W7 ⟨rfl, g7⟩
            have G7 : Hid (Grew w W7) := G6.out.trans g7
            clear g7 x0 x1 x2 x3 x4 x5 x6 x7 p0 p1 p2 p3 p4 p5 p6 p7
            go_wp2
            go_ret
            exact ⟨rfl, G7.out⟩
      · refine wpOp_does (some 11) (fun v w' => v = .pointer (some ⟨(W4.drew).heap.size, 0, none⟩) ∧ w' = (W4.drew).alloc (.cells nil8.toArray 55)) rfl rfl rfl (Does.allocTab rfl ⟨rfl, rfl⟩) ?_
        rintro v WA ⟨rfl, hw'⟩
        have bp : Box WA (W4.drew).heap.size nil8 := by rw [hw']; exact Box.top _ nil8 _ rfl
        have ga : Grew W4 WA := by rw [hw']; exact GD.trans (grew_alloc _ _)
        have hpy : W4.heap.size ≤ (W4.drew).heap.size := Below.size GD
        obtain ⟨py, HPY⟩ : ∃ py, Hid ((W4.drew).heap.size = py) := ⟨_, rfl⟩
        rw [HPY.out] at bp hpy ⊢
        clear hw'
        refine ⟨ga, ?_⟩
        simp only [Act.put, List.setIfInBounds_toArray, List.set_cons_succ, List.set_cons_zero]
        refine wpAnyH_all (rs := [4]) (by kernel_rfl) (by simp) ?_
        intro j hj
        simp only [List.mem_cons, List.not_mem_nil, or_false] at hj
        subst hj
        refine wpOp_does (some 55) (fun v w' => v = .agg #[.int .i64 Z.kind, .int .i64 Z.n, .bool Z.wr] ∧ Grew W4 w' ∧ Grew WA w') rfl rfl rfl (Does.call [.agg #[v0, v1, v2, v3, v4, v5, v6, v7], .int .i64 n] rfl Try.func37 rfl rfl rfl ((hgn _ (G4.out.trans ga)).mono ?_)) ?_
        · rintro e w' ⟨rfl, hg2⟩
          exact ⟨_, rfl, rfl, ga.trans hg2, hg2⟩
        rintro v WG ⟨rfl, gg, gl⟩
        replace bp := bp.grew gl
        refine ⟨gg, ?_⟩
        simp only [Act.put, List.setIfInBounds_toArray, List.set_cons_succ, List.set_cons_zero]
        refine wpAnyH_all (rs := [5]) (by kernel_rfl) (by simp) ?_
        intro j hj
        simp only [List.mem_cons, List.not_mem_nil, or_false] at hj
        subst hj
        refine wpOp_does (some 56) (fun v w' => ∃ ys : List Value, v = .tuple #[.agg ys.toArray, .int .i64 0] ∧ TabS 0 (WG).heap.size w' ys t ∧ Grew W4 w' ∧ Grew WG w') rfl rfl rfl (Does.call [.agg #[u0, u1, u2, u3, u4, u5, u6, u7], .int .i64 n, .agg #[.int .i64 Z.kind, .int .i64 Z.n, .bool Z.wr]] rfl Try.func34 rfl rfl rfl ((hback _ _ (T4.out.grew gg)).mono ?_)) ?_
        · rintro e w' ⟨ys, rfl, tl, hg2⟩
          exact ⟨_, rfl, ys, rfl, tl, gg.trans hg2, hg2⟩
        rintro v WT ⟨ys, rfl, tl, gt, gl⟩
        have hps := bp.lt
        replace bp := bp.grew gl
        refine ⟨gt, ?_⟩
        simp only [Act.put, List.setIfInBounds_toArray, List.set_cons_succ, List.set_cons_zero]
        refine takeH 6 (some 50) (.tuple #[.agg ys.toArray, .int .i64 0]) rfl rfl (by kernel_rfl) (by kernel_rfl) (by kernel_rfl) (fun _ _ _ h => h) (.inl ⟨rfl, fun _ _ => rfl⟩) gt ?_
        simp only [Act.put, List.setIfInBounds_toArray, List.set_cons_succ, List.set_cons_zero]
        refine takeH 7 (some 57) (.agg ys.toArray) rfl rfl (by kernel_rfl) (by kernel_rfl) (by kernel_rfl) (fun _ _ _ h => h) (.inl ⟨rfl, fun _ _ => rfl⟩) gt ?_
        simp only [Act.put, List.setIfInBounds_toArray, List.set_cons_succ, List.set_cons_zero]
        refine takeH 8 (some 58) (.int .i64 0) rfl rfl (by kernel_rfl) (by kernel_rfl) (by kernel_rfl) (fun _ _ _ h => h) (.inl ⟨rfl, fun _ _ => rfl⟩) gt ?_
        simp only [Act.put, List.setIfInBounds_toArray, List.set_cons_succ, List.set_cons_zero]
        refine wpAnyH_all (rs := [10]) (by kernel_rfl) (by simp) ?_
        intro j hj
        simp only [List.mem_cons, List.not_mem_nil, or_false] at hj
        subst hj
        refine wpOp_does none (fun v w' => Grew W4 w' ∧ Box w' py ys ∧ TabAt w' ys t) rfl rfl rfl (Does.storeAll 55 (.tmp 11) (.tmp 57) rfl py rfl ys rfl bp tl.len Try.sizeTable tl.one (fun w' b' g' s' => ⟨grew_grown gt g' hpy, b', ?_⟩)) ?_
        · exact (tl.out (Out.grown g' (fun g h => by cases h; exact ⟨Nat.zero_le _, hps⟩))).now
        · rintro v WS ⟨gs, bs, ts⟩
          refine ⟨gs, ?_⟩
          simp only [Act.put]
          refine takeH 11 (some 10) (.int .i64 0) rfl rfl (by kernel_rfl) (by kernel_rfl) (by kernel_rfl) (fun _ _ _ h => h) (.inl ⟨rfl, fun _ _ => rfl⟩) gs ?_
          simp only [Act.put, List.setIfInBounds_toArray, List.set_cons_succ, List.set_cons_zero]
          refine wpAnyH_done (by kernel_rfl) ?_ _
          have G6 : Hid (Grew w WS) := G4.out.trans gs
          have P6 : Hid (Box WS py ys) := bs
          have T6 : Hid (TabAt WS ys t) := ts
          obtain ⟨y0, y1, y2, y3, y4, y5, y6, y7, rfl⟩ := eight T6.out.len
          have X6 : Hid (Box WS w.heap.size [v0, v1, v2, v3, v4, v5, v6, v7]) := X4.out.grew gs
          clear gs bs ts
          have x0 := X6.out.c 0 rfl
          have x1 := X6.out.c 1 rfl
          have x2 := X6.out.c 2 rfl
          have x3 := X6.out.c 3 rfl
          have x4 := X6.out.c 4 rfl
          have x5 := X6.out.c 5 rfl
          have x6 := X6.out.c 6 rfl
          have x7 := X6.out.c 7 rfl
          have p0 := P6.out.c 0 rfl
          have p1 := P6.out.c 1 rfl
          have p2 := P6.out.c 2 rfl
          have p3 := P6.out.c 3 rfl
          have p4 := P6.out.c 4 rfl
          have p5 := P6.out.c 5 rfl
          have p6 := P6.out.c 6 rfl
          have p7 := P6.out.c 7 rfl
          go_wp2_with fail
          refine (sameTb_any [y0, y1, y2, y3, y4, y5, y6, y7] [v0, v1, v2, v3, v4, v5, v6, v7] t WS T6.out (HV.out.grew G6.out)).mono ?_
          rintro e W7 ⟨rfl, g7⟩
          have G7 : Hid (Grew w W7) := G6.out.trans g7
          clear g7 x0 x1 x2 x3 x4 x5 x6 x7 p0 p1 p2 p3 p4 p5 p6 p7
          go_wp2
          go_ret
          exact ⟨rfl, G7.out⟩

    · have honz : (other != n) = true := by simpa using ho
      have HO := A3.out ho
      obtain ⟨O, HOO⟩ : ∃ O, Hid (getT t other = O) := ⟨_, rfl⟩
      rw [HOO.out] at HO
      simp only [HO, enV] at hgo
      simp only [HOO.out, enV] at hgt
      have hoo := fun W => en_eq O.kind O.n O.kind O.n O.wr O.wr W
      simp only [enEqB_self] at hoo
      clear ho HO
      go_enter Try.func8, Try.ntmps8
      go_upto_region 1 with fail
      rw [HW0.out]
      go_wp2_with fail
      refine (aliveTb_any W0).mono ?_
      rintro e W1 ⟨rfl, g1⟩
      have G1 : Hid (Grew w W1) := HG0.out.trans g1
      have X1 : Hid (Box W1 w.heap.size [v0, v1, v2, v3, v4, v5, v6, v7]) := X0.out.grew g1
      have E1 : Hid (Box W1 (w.heap.size + 1) [.int .i64 x.kind, .int .i64 x.n, .bool x.wr]) := E0.out.grew g1
      clear g1
      have x0 := X1.out.c 0 rfl
      have x1 := X1.out.c 1 rfl
      have x2 := X1.out.c 2 rfl
      have x3 := X1.out.c 3 rfl
      have x4 := X1.out.c 4 rfl
      have x5 := X1.out.c 5 rfl
      have x6 := X1.out.c 6 rfl
      have x7 := X1.out.c 7 rfl
      have e0 := E1.out.c 0 rfl
      have e1 := E1.out.c 1 rfl
      have e2 := E1.out.c 2 rfl
      go_wp2_with fail
      refine (hset W1 G1.out).mono ?_
      rintro e W2 ⟨us, rfl, ts, g2⟩
      have TS : Hid (TabS 0 W1.heap.size W2 us R) := ts
      have G2 : Hid (Grew w W2) := G1.out.trans g2
      have X2 : Hid (Box W2 w.heap.size [v0, v1, v2, v3, v4, v5, v6, v7]) := X1.out.grew g2
      have E2 : Hid (Box W2 (w.heap.size + 1) [.int .i64 x.kind, .int .i64 x.n, .bool x.wr]) := E1.out.grew g2
      clear ts g2 hset x0 x1 x2 x3 x4 x5 x6 x7 e0 e1 e2
      obtain ⟨px, HPX⟩ : ∃ px, Hid (W2.heap.size = px) := ⟨_, rfl⟩
      go_wp2_with (refine wp_storeAll rfl 55 (.tmp 9) (.tmp 19) rfl W2.heap.size rfl us rfl (Box.top W2 nil8 55 rfl) TS.out.len Try.sizeTable TS.out.one ?_)
      intro W3 b3 g3 s3
      rw [HPX.out] at b3 g3 ⊢
      have G23 : Hid (Grew W2 W3) := show Grew _ _ from grew_grown (grew_alloc W2 _) g3 (by rw [HPX.out]; exact Nat.le_refl _)
      obtain ⟨u0, u1, u2, u3, u4, u5, u6, u7, rfl⟩ := eight TS.out.len
      have P3 : Hid (Box W3 px [u0, u1, u2, u3, u4, u5, u6, u7]) := b3
      have G3 : Hid (Grew w W3) := G2.out.trans G23.out
      have T3 : Hid (TabAt W3 [u0, u1, u2, u3, u4, u5, u6, u7] R) := TS.out.now.grew G23.out
      have X3 : Hid (Box W3 w.heap.size [v0, v1, v2, v3, v4, v5, v6, v7]) := X2.out.grew G23.out
      have E3 : Hid (Box W3 (w.heap.size + 1) [.int .i64 x.kind, .int .i64 x.n, .bool x.wr]) := E2.out.grew G23.out
      clear b3 g3 s3
      go_upto_region 6 with fail
      have hv0 : ∀ y : GrownW W3, y.world.cell? ⟨w.heap.size, 0, none⟩ = some (v0) := fun y => (X3.out.grew y.grew).c 0 rfl
      have hv1 : ∀ y : GrownW W3, y.world.cell? ⟨w.heap.size, 1, none⟩ = some (v1) := fun y => (X3.out.grew y.grew).c 1 rfl
      have hv2 : ∀ y : GrownW W3, y.world.cell? ⟨w.heap.size, 2, none⟩ = some (v2) := fun y => (X3.out.grew y.grew).c 2 rfl
      have hv3 : ∀ y : GrownW W3, y.world.cell? ⟨w.heap.size, 3, none⟩ = some (v3) := fun y => (X3.out.grew y.grew).c 3 rfl
      have hv4 : ∀ y : GrownW W3, y.world.cell? ⟨w.heap.size, 4, none⟩ = some (v4) := fun y => (X3.out.grew y.grew).c 4 rfl
      have hv5 : ∀ y : GrownW W3, y.world.cell? ⟨w.heap.size, 5, none⟩ = some (v5) := fun y => (X3.out.grew y.grew).c 5 rfl
      have hv6 : ∀ y : GrownW W3, y.world.cell? ⟨w.heap.size, 6, none⟩ = some (v6) := fun y => (X3.out.grew y.grew).c 6 rfl
      have hv7 : ∀ y : GrownW W3, y.world.cell? ⟨w.heap.size, 7, none⟩ = some (v7) := fun y => (X3.out.grew y.grew).c 7 rfl
      have hu0 : ∀ y : GrownW W3, y.world.cell? ⟨px, 0, none⟩ = some (u0) := fun y => (P3.out.grew y.grew).c 0 rfl
      have hu1 : ∀ y : GrownW W3, y.world.cell? ⟨px, 1, none⟩ = some (u1) := fun y => (P3.out.grew y.grew).c 1 rfl
      have hu2 : ∀ y : GrownW W3, y.world.cell? ⟨px, 2, none⟩ = some (u2) := fun y => (P3.out.grew y.grew).c 2 rfl
      have hu3 : ∀ y : GrownW W3, y.world.cell? ⟨px, 3, none⟩ = some (u3) := fun y => (P3.out.grew y.grew).c 3 rfl
      have hu4 : ∀ y : GrownW W3, y.world.cell? ⟨px, 4, none⟩ = some (u4) := fun y => (P3.out.grew y.grew).c 4 rfl
      have hu5 : ∀ y : GrownW W3, y.world.cell? ⟨px, 5, none⟩ = some (u5) := fun y => (P3.out.grew y.grew).c 5 rfl
      have hu6 : ∀ y : GrownW W3, y.world.cell? ⟨px, 6, none⟩ = some (u6) := fun y => (P3.out.grew y.grew).c 6 rfl
      have hu7 : ∀ y : GrownW W3, y.world.cell? ⟨px, 7, none⟩ = some (u7) := fun y => (P3.out.grew y.grew).c 7 rfl
      have hx0 : ∀ y : GrownW W3, y.world.cell? ⟨w.heap.size + 1, 0, none⟩ = some (.int .i64 x.kind) := fun y => (E3.out.grew y.grew).c 0 rfl
      have hx1 : ∀ y : GrownW W3, y.world.cell? ⟨w.heap.size + 1, 1, none⟩ = some (.int .i64 x.n) := fun y => (E3.out.grew y.grew).c 1 rfl
      have hx2 : ∀ y : GrownW W3, y.world.cell? ⟨w.heap.size + 1, 2, none⟩ = some (.bool x.wr) := fun y => (E3.out.grew y.grew).c 2 rfl
      have hne : Nonempty (GrownW W3) := ⟨⟨_, Grew.refl _⟩⟩
      refine wp_lax [(1, ⟨fun v => v = .int .i64 0, fun _ _ => True⟩), (6, ⟨fun v => v = .agg #[.int .i64 x.kind, .int .i64 x.n, .bool x.wr], fun _ _ => True⟩), (17, ⟨fun v => v = .agg #[.int .i64 O.kind, .int .i64 O.n, .bool O.wr], fun _ _ => True⟩), (20, ⟨fun v => v = .agg #[.int .i64 O.kind, .int .i64 O.n, .bool O.wr], fun _ _ => True⟩)] mixed (by kernel_rfl) ?_ ?_ ?_
      · intro y hy
        simp at hy
        rcases hy with rfl | rfl | rfl | rfl
        · exact ⟨_, rfl⟩
        · exact ⟨_, rfl⟩
        · exact ⟨_, rfl⟩
        · exact ⟨_, rfl⟩
      · intro y hy
        simp at hy
        rcases hy with rfl | rfl | rfl | rfl
        · exact fun _ _ _ _ h => h
        · exact fun _ _ _ _ h => h
        · exact fun _ _ _ _ h => h
        · exact fun _ _ _ _ h => h
      iterate 1 (refine lax_quiet rfl rfl rfl (fun K hK => ?_); go_big_quiet_op; refine hK _ ?_; clear hK K)
      refine lax_spec rfl rfl (fun w' hg hF => ?_) (fun v1 hv => ?_)
      · refine Does.call [.agg #[u0, u1, u2, u3, u4, u5, u6, u7]] rfl Try.func30 rfl rfl rfl ?_
        refine (hwr _ w' (T3.out.grew hg)).mono ?_
        rintro e w'' ⟨rfl, hg2⟩
        exact ⟨_, rfl, hg2, rfl, trivial⟩
      subst hv
      simp only [Act.put, List.setIfInBounds_toArray, List.set_cons_succ, List.set_cons_zero]
      iterate 4 (refine lax_quiet rfl rfl rfl (fun K hK => ?_); go_big_quiet_op; refine hK _ ?_; clear hK K)
      refine lax_spec rfl rfl (fun w' hg hF => ?_) (fun v1 hv => ?_)
      · refine Does.call [.agg #[u0, u1, u2, u3, u4, u5, u6, u7], .int .i64 n] rfl Try.func37 rfl rfl rfl ?_
        refine (hgx _ w' (T3.out.grew hg)).mono ?_
        rintro e w'' ⟨rfl, hg2⟩
        exact ⟨_, rfl, hg2, rfl, trivial⟩
      subst hv
      simp only [Act.put, List.setIfInBounds_toArray, List.set_cons_succ, List.set_cons_zero]
      iterate 10 (refine lax_quiet rfl rfl rfl (fun K hK => ?_); go_big_quiet_op; refine hK _ ?_; clear hK K)
      refine lax_spec rfl rfl (fun w' hg hF => ?_) (fun v1 hv => ?_)
      · refine Does.call [.agg #[u0, u1, u2, u3, u4, u5, u6, u7], .int .i64 other] rfl Try.func37 rfl rfl rfl ?_
        refine (hgo _ w' (T3.out.grew hg)).mono ?_
        rintro e w'' ⟨rfl, hg2⟩
        exact ⟨_, rfl, hg2, rfl, trivial⟩
      subst hv
      simp only [Act.put, List.setIfInBounds_toArray, List.set_cons_succ, List.set_cons_zero]
      iterate 2 (refine lax_quiet rfl rfl rfl (fun K hK => ?_); go_big_quiet_op; refine hK _ ?_; clear hK K)
      refine lax_spec rfl rfl (fun w' hg hF => ?_) (fun v1 hv => ?_)
      · refine Does.call [.agg #[v0, v1, v2, v3, v4, v5, v6, v7], .int .i64 other] rfl Try.func37 rfl rfl rfl ?_
        refine (hgt w' (G3.out.trans hg)).mono ?_
        rintro e w'' ⟨rfl, hg2⟩
        exact ⟨_, rfl, hg2, rfl, trivial⟩
      subst hv
      simp only [Act.put, List.setIfInBounds_toArray, List.set_cons_succ, List.set_cons_zero]
      iterate 3 (refine lax_quiet rfl rfl rfl (fun K hK => ?_); go_big_quiet_op; refine hK _ ?_; clear hK K)
      refine lax_nil fun W4 hg4 hF => ?_
      have G4 : Hid (Grew w W4) := G3.out.trans hg4
      have X4 : Hid (Box W4 w.heap.size [v0, v1, v2, v3, v4, v5, v6, v7]) := X3.out.grew hg4
      have P4 : Hid (Box W4 px [u0, u1, u2, u3, u4, u5, u6, u7]) := P3.out.grew hg4
      have T4 : Hid (TabAt W4 [u0, u1, u2, u3, u4, u5, u6, u7] R) := T3.out.grew hg4
      clear hF hg4 hne hv0 hv1 hv2 hv3 hv4 hv5 hv6 hv7 hu0 hu1 hu2 hu3 hu4 hu5 hu6 hu7 hx0 hx1 hx2
      go_upto_region 8 with fail
      refine wp_region_held (S := fun W => Grew W4 W) mixed ?_
      show wpAnyH _ _ _ _ _ 12 (Array.replicate 12 false) _ W4.drew
      have GD : Grew W4 W4.drew := (show Below _ _ _ from (Below.refl _ _).drew)
      refine takeH 0 (some 51) (.agg #[u0, u1, u2, u3, u4, u5, u6, u7]) rfl rfl (by kernel_rfl) (by kernel_rfl) (by kernel_rfl) (fun _ _ _ h => h) (yieldsIf_load_mid rfl 55 (.tmp 9) rfl px 0 rfl [u0, u1, u2, u3, u4, u5, u6, u7] _ (fun W hW => (P4.out.grew hW).range) Try.underlying55 rfl Try.sizeTable) GD ?_
      simp only [Act.put, List.setIfInBounds_toArray, List.set_cons_succ, List.set_cons_zero]
      refine takeH 1 (some 52) (.int .i64 n) rfl rfl (by kernel_rfl) (by kernel_rfl) (by kernel_rfl) (fun _ _ _ h => h) (.inl ⟨rfl, fun _ _ => rfl⟩) GD ?_
      simp only [Act.put, List.setIfInBounds_toArray, List.set_cons_succ, List.set_cons_zero]
      refine takeH 2 (some 53) (.agg #[v0, v1, v2, v3, v4, v5, v6, v7]) rfl rfl (by kernel_rfl) (by kernel_rfl) (by kernel_rfl) (fun _ _ _ h => h) (yieldsIf_load_mid rfl 55 (.tmp 4) rfl w.heap.size 0 rfl [v0, v1, v2, v3, v4, v5, v6, v7] _ (fun W hW => (X4.out.grew hW).range) Try.underlying55 rfl Try.sizeTable) GD ?_
      simp only [Act.put, List.setIfInBounds_toArray, List.set_cons_succ, List.set_cons_zero]
      refine takeH 3 (some 54) (.int .i64 n) rfl rfl (by kernel_rfl) (by kernel_rfl) (by kernel_rfl) (fun _ _ _ h => h) (.inl ⟨rfl, fun _ _ => rfl⟩) GD ?_
      simp only [Act.put, List.setIfInBounds_toArray, List.set_cons_succ, List.set_cons_zero]
      refine wpAnyH_all (rs := [4, 9]) (by kernel_rfl) (by simp) ?_
      intro j hj
      simp only [List.mem_cons, List.not_mem_nil, or_false] at hj
      rcases hj with rfl | rfl
      · refine wpOp_does (some 55) (fun v w' => v = .agg #[.int .i64 Z.kind, .int .i64 Z.n, .bool Z.wr] ∧ Grew W4 w' ∧ Grew W4.drew w') rfl rfl rfl (Does.call [.agg #[v0, v1, v2, v3, v4, v5, v6, v7], .int .i64 n] rfl Try.func37 rfl rfl rfl ((hgn _ (G4.out.trans GD)).mono ?_)) ?_
        · rintro e w' ⟨rfl, hg2⟩
          exact ⟨_, rfl, rfl, GD.trans hg2, hg2⟩
        rintro v WG ⟨rfl, gg, gl⟩
        refine ⟨gg, ?_⟩
        simp only [Act.put, List.setIfInBounds_toArray, List.set_cons_succ, List.set_cons_zero]
        refine wpAnyH_all (rs := [5, 9]) (by kernel_rfl) (by simp) ?_
        intro j hj
        simp only [List.mem_cons, List.not_mem_nil, or_false] at hj
        rcases hj with rfl | rfl
        · refine wpOp_does (some 56) (fun v w' => ∃ ys : List Value, v = .tuple #[.agg ys.toArray, .int .i64 0] ∧ TabS 0 (WG).heap.size w' ys t ∧ Grew W4 w' ∧ Grew WG w') rfl rfl rfl (Does.call [.agg #[u0, u1, u2, u3, u4, u5, u6, u7], .int .i64 n, .agg #[.int .i64 Z.kind, .int .i64 Z.n, .bool Z.wr]] rfl Try.func34 rfl rfl rfl ((hback _ _ (T4.out.grew gg)).mono ?_)) ?_
          · rintro e w' ⟨ys, rfl, tl, hg2⟩
            exact ⟨_, rfl, ys, rfl, tl, gg.trans hg2, hg2⟩
          rintro v WT ⟨ys, rfl, tl, gt, gl⟩
          refine ⟨gt, ?_⟩
          simp only [Act.put, List.setIfInBounds_toArray, List.set_cons_succ, List.set_cons_zero]
          refine takeH 6 (some 50) (.tuple #[.agg ys.toArray, .int .i64 0]) rfl rfl (by kernel_rfl) (by kernel_rfl) (by kernel_rfl) (fun _ _ _ h => h) (.inl ⟨rfl, fun _ _ => rfl⟩) gt ?_
          simp only [Act.put, List.setIfInBounds_toArray, List.set_cons_succ, List.set_cons_zero]
          refine takeH 7 (some 57) (.agg ys.toArray) rfl rfl (by kernel_rfl) (by kernel_rfl) (by kernel_rfl) (fun _ _ _ h => h) (.inl ⟨rfl, fun _ _ => rfl⟩) gt ?_
          simp only [Act.put, List.setIfInBounds_toArray, List.set_cons_succ, List.set_cons_zero]
          refine takeH 8 (some 58) (.int .i64 0) rfl rfl (by kernel_rfl) (by kernel_rfl) (by kernel_rfl) (fun _ _ _ h => h) (.inl ⟨rfl, fun _ _ => rfl⟩) gt ?_
          simp only [Act.put, List.setIfInBounds_toArray, List.set_cons_succ, List.set_cons_zero]
          refine wpAnyH_all (rs := [9]) (by kernel_rfl) (by simp) ?_
          intro j hj
          simp only [List.mem_cons, List.not_mem_nil, or_false] at hj
          subst hj
          refine wpOp_does (some 11) (fun v w' => v = .pointer (some ⟨(WT).heap.size, 0, none⟩) ∧ w' = (WT).alloc (.cells nil8.toArray 55)) rfl rfl rfl (Does.allocTab rfl ⟨rfl, rfl⟩) ?_
          rintro v WA ⟨rfl, hw'⟩
          have bp : Box WA (WT).heap.size nil8 := by rw [hw']; exact Box.top _ nil8 _ rfl
          have ga : Grew W4 WA := by rw [hw']; exact gt.trans (grew_alloc _ _)
          have hpy : W4.heap.size ≤ (WT).heap.size := Below.size gt
          have ts0 := tl.now
          obtain ⟨py, HPY⟩ : ∃ py, Hid ((WT).heap.size = py) := ⟨_, rfl⟩
          have hps : (WT).heap.size ≤ py := by rw [HPY.out]; exact Nat.le_refl _
          rw [HPY.out] at bp hpy ⊢
          subst hw'
          refine ⟨ga, ?_⟩
          simp only [Act.put, List.setIfInBounds_toArray, List.set_cons_succ, List.set_cons_zero]
          refine wpAnyH_all (rs := [10]) (by kernel_rfl) (by simp) ?_
          intro j hj
          simp only [List.mem_cons, List.not_mem_nil, or_false] at hj
          subst hj
          refine wpOp_does none (fun v w' => Grew W4 w' ∧ Box w' py ys ∧ TabAt w' ys t) rfl rfl rfl (Does.storeAll 55 (.tmp 11) (.tmp 57) rfl py rfl ys rfl bp tl.len Try.sizeTable tl.one (fun w' b' g' s' => ⟨grew_grown ga g' hpy, b', ?_⟩)) ?_
          · exact ts0.grew (grew_grown (grew_alloc _ _) g' hps)
          · rintro v WS ⟨gs, bs, ts⟩
            refine ⟨gs, ?_⟩
            simp only [Act.put]
            refine takeH 11 (some 10) (.int .i64 0) rfl rfl (by kernel_rfl) (by kernel_rfl) (by kernel_rfl) (fun _ _ _ h => h) (.inl ⟨rfl, fun _ _ => rfl⟩) gs ?_
            simp only [Act.put, List.setIfInBounds_toArray, List.set_cons_succ, List.set_cons_zero]
            refine wpAnyH_done (by kernel_rfl) ?_ _
            have G6 : Hid (Grew w WS) := G4.out.trans gs
            have P6 : Hid (Box WS py ys) := bs
            have T6 : Hid (TabAt WS ys t) := ts
            obtain ⟨y0, y1, y2, y3, y4, y5, y6, y7, rfl⟩ := eight T6.out.len
            have X6 : Hid (Box WS w.heap.size [v0, v1, v2, v3, v4, v5, v6, v7]) := X4.out.grew gs
            clear gs bs ts
            have x0 := X6.out.c 0 rfl
            have x1 := X6.out.c 1 rfl
            have x2 := X6.out.c 2 rfl
            have x3 := X6.out.c 3 rfl
            have x4 := X6.out.c 4 rfl
            have x5 := X6.out.c 5 rfl
            have x6 := X6.out.c 6 rfl
            have x7 := X6.out.c 7 rfl
            have p0 := P6.out.c 0 rfl
            have p1 := P6.out.c 1 rfl
            have p2 := P6.out.c 2 rfl
            have p3 := P6.out.c 3 rfl
            have p4 := P6.out.c 4 rfl
            have p5 := P6.out.c 5 rfl
            have p6 := P6.out.c 6 rfl
            have p7 := P6.out.c 7 rfl
            go_wp2_with fail
            refine (sameTb_any [y0, y1, y2, y3, y4, y5, y6, y7] [v0, v1, v2, v3, v4, v5, v6, v7] t WS T6.out (HV.out.grew G6.out)).mono ?_
            rintro e W7 ⟨rfl, g7⟩
            have G7 : Hid (Grew w W7) := G6.out.trans g7
            clear g7 x0 x1 x2 x3 x4 x5 x6 x7 p0 p1 p2 p3 p4 p5 p6 p7
            go_wp2
            go_ret
            exact ⟨rfl, G7.out⟩
        · refine wpOp_does (some 11) (fun v w' => v = .pointer (some ⟨(WG).heap.size, 0, none⟩) ∧ w' = (WG).alloc (.cells nil8.toArray 55)) rfl rfl rfl (Does.allocTab rfl ⟨rfl, rfl⟩) ?_
          rintro v WA ⟨rfl, hw'⟩
          have bp : Box WA (WG).heap.size nil8 := by rw [hw']; exact Box.top _ nil8 _ rfl
          have ga : Grew W4 WA := by rw [hw']; exact gg.trans (grew_alloc _ _)
          have hpy : W4.heap.size ≤ (WG).heap.size := Below.size gg
          obtain ⟨py, HPY⟩ : ∃ py, Hid ((WG).heap.size = py) := ⟨_, rfl⟩
          rw [HPY.out] at bp hpy ⊢
          clear hw'
          refine ⟨ga, ?_⟩
          simp only [Act.put, List.setIfInBounds_toArray, List.set_cons_succ, List.set_cons_zero]
          refine wpAnyH_all (rs := [5]) (by kernel_rfl) (by simp) ?_
          intro j hj
          simp only [List.mem_cons, List.not_mem_nil, or_false] at hj
          subst hj
          refine wpOp_does (some 56) (fun v w' => ∃ ys : List Value, v = .tuple #[.agg ys.toArray, .int .i64 0] ∧ TabS 0 (WA).heap.size w' ys t ∧ Grew W4 w' ∧ Grew WA w') rfl rfl rfl (Does.call [.agg #[u0, u1, u2, u3, u4, u5, u6, u7], .int .i64 n, .agg #[.int .i64 Z.kind, .int .i64 Z.n, .bool Z.wr]] rfl Try.func34 rfl rfl rfl ((hback _ _ (T4.out.grew ga)).mono ?_)) ?_
          · rintro e w' ⟨ys, rfl, tl, hg2⟩
            exact ⟨_, rfl, ys, rfl, tl, ga.trans hg2, hg2⟩
          rintro v WT ⟨ys, rfl, tl, gt, gl⟩
          have hps := bp.lt
          replace bp := bp.grew gl
          refine ⟨gt, ?_⟩
          simp only [Act.put, List.setIfInBounds_toArray, List.set_cons_succ, List.set_cons_zero]
          refine takeH 6 (some 50) (.tuple #[.agg ys.toArray, .int .i64 0]) rfl rfl (by kernel_rfl) (by kernel_rfl) (by kernel_rfl) (fun _ _ _ h => h) (.inl ⟨rfl, fun _ _ => rfl⟩) gt ?_
          simp only [Act.put, List.setIfInBounds_toArray, List.set_cons_succ, List.set_cons_zero]
          refine takeH 7 (some 57) (.agg ys.toArray) rfl rfl (by kernel_rfl) (by kernel_rfl) (by kernel_rfl) (fun _ _ _ h => h) (.inl ⟨rfl, fun _ _ => rfl⟩) gt ?_
          simp only [Act.put, List.setIfInBounds_toArray, List.set_cons_succ, List.set_cons_zero]
          refine takeH 8 (some 58) (.int .i64 0) rfl rfl (by kernel_rfl) (by kernel_rfl) (by kernel_rfl) (fun _ _ _ h => h) (.inl ⟨rfl, fun _ _ => rfl⟩) gt ?_
          simp only [Act.put, List.setIfInBounds_toArray, List.set_cons_succ, List.set_cons_zero]
          refine wpAnyH_all (rs := [10]) (by kernel_rfl) (by simp) ?_
          intro j hj
          simp only [List.mem_cons, List.not_mem_nil, or_false] at hj
          subst hj
          refine wpOp_does none (fun v w' => Grew W4 w' ∧ Box w' py ys ∧ TabAt w' ys t) rfl rfl rfl (Does.storeAll 55 (.tmp 11) (.tmp 57) rfl py rfl ys rfl bp tl.len Try.sizeTable tl.one (fun w' b' g' s' => ⟨grew_grown gt g' hpy, b', ?_⟩)) ?_
          · exact (tl.out (Out.grown g' (fun g h => by cases h; exact ⟨Nat.zero_le _, hps⟩))).now
          · rintro v WS ⟨gs, bs, ts⟩
            refine ⟨gs, ?_⟩
            simp only [Act.put]
            refine takeH 11 (some 10) (.int .i64 0) rfl rfl (by kernel_rfl) (by kernel_rfl) (by kernel_rfl) (fun _ _ _ h => h) (.inl ⟨rfl, fun _ _ => rfl⟩) gs ?_
            simp only [Act.put, List.setIfInBounds_toArray, List.set_cons_succ, List.set_cons_zero]
            refine wpAnyH_done (by kernel_rfl) ?_ _
            have G6 : Hid (Grew w WS) := G4.out.trans gs
            have P6 : Hid (Box WS py ys) := bs
            have T6 : Hid (TabAt WS ys t) := ts
            obtain ⟨y0, y1, y2, y3, y4, y5, y6, y7, rfl⟩ := eight T6.out.len
            have X6 : Hid (Box WS w.heap.size [v0, v1, v2, v3, v4, v5, v6, v7]) := X4.out.grew gs
            clear gs bs ts
            have x0 := X6.out.c 0 rfl
            have x1 := X6.out.c 1 rfl
            have x2 := X6.out.c 2 rfl
            have x3 := X6.out.c 3 rfl
            have x4 := X6.out.c 4 rfl
            have x5 := X6.out.c 5 rfl
            have x6 := X6.out.c 6 rfl
            have x7 := X6.out.c 7 rfl
            have p0 := P6.out.c 0 rfl
            have p1 := P6.out.c 1 rfl
            have p2 := P6.out.c 2 rfl
            have p3 := P6.out.c 3 rfl
            have p4 := P6.out.c 4 rfl
            have p5 := P6.out.c 5 rfl
            have p6 := P6.out.c 6 rfl
            have p7 := P6.out.c 7 rfl
            go_wp2_with fail
            refine (sameTb_any [y0, y1, y2, y3, y4, y5, y6, y7] [v0, v1, v2, v3, v4, v5, v6, v7] t WS T6.out (HV.out.grew G6.out)).mono ?_
            rintro e W7 ⟨rfl, g7⟩
            have G7 : Hid (Grew w W7) := G6.out.trans g7
            clear g7 x0 x1 x2 x3 x4 x5 x6 x7 p0 p1 p2 p3 p4 p5 p6 p7
            go_wp2
            go_ret
            exact ⟨rfl, G7.out⟩
      · refine wpOp_does (some 11) (fun v w' => v = .pointer (some ⟨(W4.drew).heap.size, 0, none⟩) ∧ w' = (W4.drew).alloc (.cells nil8.toArray 55)) rfl rfl rfl (Does.allocTab rfl ⟨rfl, rfl⟩) ?_
        rintro v WA ⟨rfl, hw'⟩
        have bp : Box WA (W4.drew).heap.size nil8 := by rw [hw']; exact Box.top _ nil8 _ rfl
        have ga : Grew W4 WA := by rw [hw']; exact GD.trans (grew_alloc _ _)
        have hpy : W4.heap.size ≤ (W4.drew).heap.size := Below.size GD
        obtain ⟨py, HPY⟩ : ∃ py, Hid ((W4.drew).heap.size = py) := ⟨_, rfl⟩
        rw [HPY.out] at bp hpy ⊢
        clear hw'
        refine ⟨ga, ?_⟩
        simp only [Act.put, List.setIfInBounds_toArray, List.set_cons_succ, List.set_cons_zero]
        refine wpAnyH_all (rs := [4]) (by kernel_rfl) (by simp) ?_
        intro j hj
        simp only [List.mem_cons, List.not_mem_nil, or_false] at hj
        subst hj
        refine wpOp_does (some 55) (fun v w' => v = .agg #[.int .i64 Z.kind, .int .i64 Z.n, .bool Z.wr] ∧ Grew W4 w' ∧ Grew WA w') rfl rfl rfl (Does.call [.agg #[v0, v1, v2, v3, v4, v5, v6, v7], .int .i64 n] rfl Try.func37 rfl rfl rfl ((hgn _ (G4.out.trans ga)).mono ?_)) ?_
        · rintro e w' ⟨rfl, hg2⟩
          exact ⟨_, rfl, rfl, ga.trans hg2, hg2⟩
        rintro v WG ⟨rfl, gg, gl⟩
        replace bp := bp.grew gl
        refine ⟨gg, ?_⟩
        simp only [Act.put, List.setIfInBounds_toArray, List.set_cons_succ, List.set_cons_zero]
        refine wpAnyH_all (rs := [5]) (by kernel_rfl) (by simp) ?_
        intro j hj
        simp only [List.mem_cons, List.not_mem_nil, or_false] at hj
        subst hj
        refine wpOp_does (some 56) (fun v w' => ∃ ys : List Value, v = .tuple #[.agg ys.toArray, .int .i64 0] ∧ TabS 0 (WG).heap.size w' ys t ∧ Grew W4 w' ∧ Grew WG w') rfl rfl rfl (Does.call [.agg #[u0, u1, u2, u3, u4, u5, u6, u7], .int .i64 n, .agg #[.int .i64 Z.kind, .int .i64 Z.n, .bool Z.wr]] rfl Try.func34 rfl rfl rfl ((hback _ _ (T4.out.grew gg)).mono ?_)) ?_
        · rintro e w' ⟨ys, rfl, tl, hg2⟩
          exact ⟨_, rfl, ys, rfl, tl, gg.trans hg2, hg2⟩
        rintro v WT ⟨ys, rfl, tl, gt, gl⟩
        have hps := bp.lt
        replace bp := bp.grew gl
        refine ⟨gt, ?_⟩
        simp only [Act.put, List.setIfInBounds_toArray, List.set_cons_succ, List.set_cons_zero]
        refine takeH 6 (some 50) (.tuple #[.agg ys.toArray, .int .i64 0]) rfl rfl (by kernel_rfl) (by kernel_rfl) (by kernel_rfl) (fun _ _ _ h => h) (.inl ⟨rfl, fun _ _ => rfl⟩) gt ?_
        simp only [Act.put, List.setIfInBounds_toArray, List.set_cons_succ, List.set_cons_zero]
        refine takeH 7 (some 57) (.agg ys.toArray) rfl rfl (by kernel_rfl) (by kernel_rfl) (by kernel_rfl) (fun _ _ _ h => h) (.inl ⟨rfl, fun _ _ => rfl⟩) gt ?_
        simp only [Act.put, List.setIfInBounds_toArray, List.set_cons_succ, List.set_cons_zero]
        refine takeH 8 (some 58) (.int .i64 0) rfl rfl (by kernel_rfl) (by kernel_rfl) (by kernel_rfl) (fun _ _ _ h => h) (.inl ⟨rfl, fun _ _ => rfl⟩) gt ?_
        simp only [Act.put, List.setIfInBounds_toArray, List.set_cons_succ, List.set_cons_zero]
        refine wpAnyH_all (rs := [10]) (by kernel_rfl) (by simp) ?_
        intro j hj
        simp only [List.mem_cons, List.not_mem_nil, or_false] at hj
        subst hj
        refine wpOp_does none (fun v w' => Grew W4 w' ∧ Box w' py ys ∧ TabAt w' ys t) rfl rfl rfl (Does.storeAll 55 (.tmp 11) (.tmp 57) rfl py rfl ys rfl bp tl.len Try.sizeTable tl.one (fun w' b' g' s' => ⟨grew_grown gt g' hpy, b', ?_⟩)) ?_
        · exact (tl.out (Out.grown g' (fun g h => by cases h; exact ⟨Nat.zero_le _, hps⟩))).now
        · rintro v WS ⟨gs, bs, ts⟩
          refine ⟨gs, ?_⟩
          simp only [Act.put]
          refine takeH 11 (some 10) (.int .i64 0) rfl rfl (by kernel_rfl) (by kernel_rfl) (by kernel_rfl) (fun _ _ _ h => h) (.inl ⟨rfl, fun _ _ => rfl⟩) gs ?_
          simp only [Act.put, List.setIfInBounds_toArray, List.set_cons_succ, List.set_cons_zero]
          refine wpAnyH_done (by kernel_rfl) ?_ _
          have G6 : Hid (Grew w WS) := G4.out.trans gs
          have P6 : Hid (Box WS py ys) := bs
          have T6 : Hid (TabAt WS ys t) := ts
          obtain ⟨y0, y1, y2, y3, y4, y5, y6, y7, rfl⟩ := eight T6.out.len
          have X6 : Hid (Box WS w.heap.size [v0, v1, v2, v3, v4, v5, v6, v7]) := X4.out.grew gs
          clear gs bs ts
          have x0 := X6.out.c 0 rfl
          have x1 := X6.out.c 1 rfl
          have x2 := X6.out.c 2 rfl
          have x3 := X6.out.c 3 rfl
          have x4 := X6.out.c 4 rfl
          have x5 := X6.out.c 5 rfl
          have x6 := X6.out.c 6 rfl
          have x7 := X6.out.c 7 rfl
          have p0 := P6.out.c 0 rfl
          have p1 := P6.out.c 1 rfl
          have p2 := P6.out.c 2 rfl
          have p3 := P6.out.c 3 rfl
          have p4 := P6.out.c 4 rfl
          have p5 := P6.out.c 5 rfl
          have p6 := P6.out.c 6 rfl
          have p7 := P6.out.c 7 rfl
          go_wp2_with fail
          refine (sameTb_any [y0, y1, y2, y3, y4, y5, y6, y7] [v0, v1, v2, v3, v4, v5, v6, v7] t WS T6.out (HV.out.grew G6.out)).mono ?_
          rintro e W7 ⟨rfl, g7⟩
          have G7 : Hid (Grew w W7) := G6.out.trans g7
          clear g7 x0 x1 x2 x3 x4 x5 x6 x7 p0 p1 p2 p3 p4 p5 p6 p7
          go_wp2
          go_ret
          exact ⟨rfl, G7.out⟩

  · have hSb : (S != 0) = true := by simpa using hS
    have HRN : Hid (R = none8) := show _ = _ by rw [← HR.out]; unfold setR; rw [if_neg (by rw [HS.out]; exact hS)]
    clear hS
    go_enter Try.func8, Try.ntmps8
    go_upto_region 1 with fail
    rw [HW0.out]
    go_wp2_with fail
    refine (aliveTb_any W0).mono ?_
    rintro e W1 ⟨rfl, g1⟩
    have G1 : Hid (Grew w W1) := HG0.out.trans g1
    have X1 : Hid (Box W1 w.heap.size [v0, v1, v2, v3, v4, v5, v6, v7]) := X0.out.grew g1
    have E1 : Hid (Box W1 (w.heap.size + 1) [.int .i64 x.kind, .int .i64 x.n, .bool x.wr]) := E0.out.grew g1
    clear g1
    have x0 := X1.out.c 0 rfl
    have x1 := X1.out.c 1 rfl
    have x2 := X1.out.c 2 rfl
    have x3 := X1.out.c 3 rfl
    have x4 := X1.out.c 4 rfl
    have x5 := X1.out.c 5 rfl
    have x6 := X1.out.c 6 rfl
    have x7 := X1.out.c 7 rfl
    have e0 := E1.out.c 0 rfl
    have e1 := E1.out.c 1 rfl
    have e2 := E1.out.c 2 rfl
    go_wp2_with fail
    refine (hset W1 G1.out).mono ?_
    rintro e W2 ⟨us, rfl, ts, g2⟩
    have TS : Hid (TabS 0 W1.heap.size W2 us R) := ts
    have G2 : Hid (Grew w W2) := G1.out.trans g2
    have X2 : Hid (Box W2 w.heap.size [v0, v1, v2, v3, v4, v5, v6, v7]) := X1.out.grew g2
    have E2 : Hid (Box W2 (w.heap.size + 1) [.int .i64 x.kind, .int .i64 x.n, .bool x.wr]) := E1.out.grew g2
    clear ts g2 hset x0 x1 x2 x3 x4 x5 x6 x7 e0 e1 e2
    obtain ⟨px, HPX⟩ : ∃ px, Hid (W2.heap.size = px) := ⟨_, rfl⟩
    go_wp2_with (refine wp_storeAll rfl 55 (.tmp 9) (.tmp 19) rfl W2.heap.size rfl us rfl (Box.top W2 nil8 55 rfl) TS.out.len Try.sizeTable TS.out.one ?_)
    intro W3 b3 g3 s3
    rw [HPX.out] at b3 g3 ⊢
    have G23 : Hid (Grew W2 W3) := show Grew _ _ from grew_grown (grew_alloc W2 _) g3 (by rw [HPX.out]; exact Nat.le_refl _)
    obtain ⟨u0, u1, u2, u3, u4, u5, u6, u7, rfl⟩ := eight TS.out.len
    have P3 : Hid (Box W3 px [u0, u1, u2, u3, u4, u5, u6, u7]) := b3
    have G3 : Hid (Grew w W3) := G2.out.trans G23.out
    have T3 : Hid (TabAt W3 [u0, u1, u2, u3, u4, u5, u6, u7] R) := TS.out.now.grew G23.out
    have X3 : Hid (Box W3 w.heap.size [v0, v1, v2, v3, v4, v5, v6, v7]) := X2.out.grew G23.out
    have E3 : Hid (Box W3 (w.heap.size + 1) [.int .i64 x.kind, .int .i64 x.n, .bool x.wr]) := E2.out.grew G23.out
    clear b3 g3 s3
    have p0 := P3.out.c 0 rfl
    have p1 := P3.out.c 1 rfl
    have p2 := P3.out.c 2 rfl
    have p3 := P3.out.c 3 rfl
    have p4 := P3.out.c 4 rfl
    have p5 := P3.out.c 5 rfl
    have p6 := P3.out.c 6 rfl
    have p7 := P3.out.c 7 rfl
    go_wp2_with fail
    refine (sameTb_any [u0, u1, u2, u3, u4, u5, u6, u7] nil8 none8 W3 (by rw [← HRN.out]; exact T3.out) (TabS.nil 0 0 W3)).mono ?_
    rintro e W4 ⟨rfl, g4⟩
    have G4 : Hid (Grew w W4) := G3.out.trans g4
    clear g4 p0 p1 p2 p3 p4 p5 p6 p7
    go_wp2
    go_ret
    exact ⟨rfl, G4.out⟩

end Go.Proofs.Ytodbgjhdfjpcpac
