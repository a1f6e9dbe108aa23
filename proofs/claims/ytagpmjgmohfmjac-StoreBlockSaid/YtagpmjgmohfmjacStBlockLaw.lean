/- The walk of the law StoreBlock. -/
import Derived.Test.YtagpmjgmohfmjacStAlive
import Derived.Test.YtagpmjgmohfmjacStSame
import Derived.Test.YtagpmjgmohfmjacStUsed
namespace Go.Proofs.Ytagpmjgmohfmjac
open Go.RowKit

/-- A page that has a block has it the next time. -/
theorem blk_has {fs : List Fl} {cnt : Int} {i j : Nat} {f : Fl} {b : Int} (h : stW fs cnt = 0) (hf : fs[i]? = some f) (hj : f.bl[j]? = some b) (hb : 0 ≤ b) :
    blkE fs cnt i j = 0 ∧ blkF fs cnt i j = fs ∧ blkC fs cnt i j = cnt ∧ blkI fs cnt i j = b := by
  have hil := (List.getElem?_eq_some_iff.1 hf).1
  have hjl := (List.getElem?_eq_some_iff.1 hj).1
  rcases blk_cases fs cnt i j with ⟨h1, _⟩ | ⟨_, h2, _⟩ | ⟨_, i', f', hi', hf', hn, _⟩ | ⟨_, i', f', j', b', hi', hf', hj', hb', _, hbl, e1, e2, e3, e4⟩ | ⟨_, i', f', j', hi', hf', hj', hb', _⟩ | ⟨_, i', f', j', b', l', hi', hf', hj', hb', _⟩
  · exact absurd h h1
  · exact absurd ⟨by omega, by omega⟩ h2
  · obtain rfl : i = i' := by omega
    rw [hf] at hf'
    cases hf'
    exact absurd ⟨by omega, by omega⟩ hn
  · obtain rfl : i = i' := by omega
    obtain rfl : j = j' := by omega
    rw [hf] at hf'
    cases hf'
    rw [hj] at hb'
    cases hb'
    exact ⟨e1, e2, e3, e4⟩
  · obtain rfl : i = i' := by omega
    obtain rfl : j = j' := by omega
    rw [hf] at hf'
    cases hf'
    rw [hj] at hb'
    cases hb'
    omega
  · obtain rfl : i = i' := by omega
    obtain rfl : j = j' := by omega
    rw [hf] at hf'
    cases hf'
    rw [hj] at hb'
    cases hb'
    omega

set_option maxRecDepth 100000 in
set_option maxHeartbeats 2000000 in
theorem blockLaw_any (v : Value) (fs : List Fl) (cnt k x : Int) (w : World) (hv : FilesAt w v fs) :
    Calls Try.prog 5 #[.agg #[v, .int .i64 cnt], .int .i64 k, .int .i64 x] w fun e w' => e = .returned (.bool true) ∧ Grew w w' := by
  have h1 : ∀ W, Grew w W → Calls Try.prog 22 #[.agg #[v, .int .i64 cnt], .int .i64 k, .int .i64 x] W fun e w' => ∃ b, e = .returned (.tuple #[.agg #[b, .int .i64 (blkC fs cnt k x)], .int .i64 (blkI fs cnt k x), .int .i64 (blkE fs cnt k x)]) ∧ FilesS 0 W.heap.size w' b (blkF fs cnt k x) ∧ Grew W w' := fun W hW => blockSt_any v fs cnt k x W (hv.grew hW)
  have h2 : ∀ W, Grew w W → Calls Try.prog 25 #[.agg #[v, .int .i64 cnt]] W fun e w' => e = .returned (.int .i64 (leftN fs cnt : Int)) ∧ Grew W w' := fun W hW => leftN_any v fs cnt W (hv.grew hW)
  have HV : Hid (FilesAt w v fs) := hv
  obtain ⟨a, c, rfl, hbig, hrow⟩ := hv.rows
  have HR : Hid (FlRows w a fs) := hrow
  clear hv hrow
  obtain ⟨nF, HN⟩ : ∃ nF, Hid (fs.length = nF) := ⟨_, rfl⟩
  rw [HN.out] at h1 h2 hbig HV ⊢
  obtain ⟨W0, hW0⟩ : ∃ W0, w.alloc (.cells #[.slice a nF c, .int .i64 cnt] 36) = W0 := ⟨_, rfl⟩
  have HG0 : Hid (Grew w W0) := show Grew w W0 by rw [← hW0]; exact grew_alloc _ _
  have X0 : Hid (Box W0 w.heap.size [.slice a nF c, .int .i64 cnt]) := show Box _ _ _ by rw [← hW0]; exact Box.top w _ _ rfl
  have HW0 : Hid (_ = W0) := hW0
  clear hW0
  have bad : ∀ z : Int, z ≠ 0 → z ≠ 10 → (∀ W, Grew w W → Calls Try.prog 22 #[.agg #[.slice a nF c, .int .i64 cnt], .int .i64 k, .int .i64 x] W fun e w' => ∃ b, e = .returned (.tuple #[.agg #[b, .int .i64 0], .int .i64 0, .int .i64 z]) ∧ FilesS 0 W.heap.size w' b [] ∧ Grew W w') → Calls Try.prog 5 #[.agg #[.slice a nF c, .int .i64 cnt], .int .i64 k, .int .i64 x] w fun e w' => e = .returned (.bool true) ∧ Grew w w' := fun z hz hz10 h1 => by
    have hzb : (z != 0) = true := by simpa using hz
    have hzc : (z != 10) = true := by simpa using hz10
    clear h2
    go_enter Try.func5, Try.ntmps5
    go_wp2_with fail
    rw [HW0.out]
    refine (aliveSt_any _).mono ?_
    rintro e W1 ⟨rfl, g1⟩
    have G1 : Hid (Grew w W1) := HG0.out.trans g1
    have X1 : Hid (Box W1 w.heap.size [.slice a nF c, .int .i64 cnt]) := X0.out.grew g1
    clear g1
    have x0 := X1.out.c 0 rfl
    have x1 := X1.out.c 1 rfl
    go_wp2_with fail
    refine (h1 _ G1.out).mono ?_
    rintro e W2 ⟨vb, rfl, f2, g2⟩
    obtain ⟨xa, xc, rfl, _, _⟩ := f2.at.rows
    rw [show ([] : List Fl).length = 0 from rfl] at f2 ⊢
    have F2 : Hid (FilesS 0 W1.heap.size W2 (.slice xa 0 xc) []) := f2
    have G2 : Hid (Grew w W2) := G1.out.trans g2
    have X2 : Hid (Box W2 w.heap.size [.slice a nF c, .int .i64 cnt]) := X1.out.grew g2
    clear f2 g2 x0 x1 h1
    go_upto_region 4 with fail
    obtain ⟨px, hpx⟩ : ∃ px, W2.heap.size = px := ⟨_, rfl⟩
    obtain ⟨W3, hW3⟩ : ∃ W3, W2.alloc (.cells #[.slice xa 0 xc, .int .i64 0] 36) = W3 := ⟨_, rfl⟩
    have G3 : Hid (Grew w W3) := show Grew _ _ by rw [← hW3]; exact G2.out.trans (grew_alloc _ _)
    have X3 : Hid (Box W3 w.heap.size [.slice a nF c, .int .i64 cnt]) := show Box _ _ _ by rw [← hW3]; exact X2.out.alloc _
    have P3 : Hid (Box W3 px [.slice xa 0 xc, .int .i64 0]) := show Box _ _ _ by rw [← hW3]; exact Box.top _ _ _ hpx.symm
    have F3 : Hid (FilesAt W3 (.slice xa 0 xc) []) := show FilesAt _ _ _ by rw [← hW3]; exact F2.out.at.grew (grew_alloc _ _)
    rw [hW3]
    rw [hpx]
    clear hW3 hpx F2 X2
    have p1 := P3.out.c 1 rfl
    go_wp2
    go_ret
    exact ⟨rfl, G3.out⟩
  rcases blk_cases fs cnt k x with ⟨hw, e1, e2, e3, e4⟩ | ⟨hw, hk, e1, e2, e3, e4⟩ | ⟨hw, i, f, rfl, hf, hn, e1, e2, e3, e4⟩ | ⟨hw, i, f, j, b, rfl, hf, rfl, hj, hb0, hbc, e1, e2, e3, e4⟩ | ⟨hw, i, f, j, rfl, hf, rfl, hj, hlf, e1, e2, e3, e4⟩ | ⟨hw, i, f, j, b, l, rfl, hf, rfl, hj, hlf, e1, e2, e3, e4⟩
  · rw [e1, e2, e3, e4] at h1
    have := stW_range fs cnt
    exact bad _ hw (by omega) h1
  · rw [e1, e2, e3, e4] at h1
    exact bad _ (by decide) (by decide) h1
  · rw [e1, e2, e3, e4] at h1
    exact bad _ (by decide) (by decide) h1
  · rw [e1, e2, e3, e4] at h1
    clear bad
    have HF : Hid (fs[i]? = some f) := hf
    have HJ : Hid (f.bl[j]? = some b) := hj
    have hbl : ¬ b < 0 := by omega
    have hbd : decide (b < 0) = false := decide_eq_false hbl
    obtain ⟨q1, q2, q3, q4⟩ := blk_has hw hf hj hb0
    have h3 : ∀ v W, FilesAt W v fs → Calls Try.prog 22 #[.agg #[v, .int .i64 cnt], .int .i64 (i : Int), .int .i64 (j : Int)] W fun e w' => ∃ b1, e = .returned (.tuple #[.agg #[b1, .int .i64 cnt], .int .i64 b, .int .i64 0]) ∧ FilesS 0 W.heap.size w' b1 fs ∧ Grew W w' := fun v W hv => by
      have := blockSt_any v fs cnt i j W hv
      rw [q1, q2, q3, q4] at this
      exact this
    have h4 : ∀ v W, FilesAt W v fs → Calls Try.prog 14 #[.agg #[v, .int .i64 cnt]] W fun e w' => e = .returned (.int .i64 0) ∧ Grew W w' := fun v W hv => by
      have := wrongSt_any v fs cnt W hv
      rw [hw] at this
      exact this
    clear q1 q2 q3 q4 e1 e2 e3 e4 hw hf hj hb0 hbc h2
    have HNX : Hid (fs.length = nF) := HN
    obtain ⟨ad, hada, xa0, xc0, hra, hce⟩ := HR.out i f HF.out
    subst hada
    obtain ⟨nb, HNB⟩ : ∃ nb, Hid (f.bl.length = nb) := ⟨_, rfl⟩
    have HCE : Hid (∀ W, Grew w W → FlCells W (ad.add (i * 2)) f.size (.slice xa0 nb xc0)) := show ∀ W, _ from fun W hW => by rw [← HNB.out]; exact hce W hW
    obtain ⟨_, _, heq, hnum⟩ := hra.nums
    cases heq
    obtain ⟨ad2, hada2, hce2⟩ := hnum j _ HJ.out
    subst hada2
    have HCB : Hid (∀ W, Grew w W → W.cell? (ad2.add j) = some (.int .i64 b)) := hce2
    have hil : i < nF := by rw [← HN.out]; exact (List.getElem?_eq_some_iff.1 HF.out).1
    have hilz : (i : Int) < (nF : Int) := by omega
    have hjl : j < nb := by rw [← HNB.out]; exact (List.getElem?_eq_some_iff.1 HJ.out).1
    have hjz : (j : Int) < (nb : Int) := by omega
    clear hra hce hnum hce2
    go_enter Try.func5, Try.ntmps5
    go_wp2_with fail
    rw [HW0.out]
    refine (aliveSt_any _).mono ?_
    rintro e W1 ⟨rfl, g1⟩
    have G1 : Hid (Grew w W1) := HG0.out.trans g1
    have X1 : Hid (Box W1 w.heap.size [.slice (some ad) nF c, .int .i64 cnt]) := X0.out.grew g1
    clear g1
    have x0 := X1.out.c 0 rfl
    have x1 := X1.out.c 1 rfl
    go_wp2_with fail
    refine (h1 _ G1.out).mono ?_
    rintro e W2 ⟨vb, rfl, f2, g2⟩
    obtain ⟨xa, xc, rfl, _, _⟩ := f2.at.rows
    rw [HNX.out] at f2 ⊢
    have F2 : Hid (FilesS 0 W1.heap.size W2 (.slice xa nF xc) fs) := f2
    have G2 : Hid (Grew w W2) := G1.out.trans g2
    have X2 : Hid (Box W2 w.heap.size [.slice (some ad) nF c, .int .i64 cnt]) := X1.out.grew g2
    clear f2 g2 x0 x1 h1
    go_upto_region 6 with fail
    obtain ⟨px, hpx⟩ : ∃ px, W2.heap.size = px := ⟨_, rfl⟩
    obtain ⟨W3, hW3⟩ : ∃ W3, W2.alloc (.cells #[.slice xa nF xc, .int .i64 cnt] 36) = W3 := ⟨_, rfl⟩
    have G3 : Hid (Grew w W3) := show Grew _ _ by rw [← hW3]; exact G2.out.trans (grew_alloc _ _)
    have X3 : Hid (Box W3 w.heap.size [.slice (some ad) nF c, .int .i64 cnt]) := show Box _ _ _ by rw [← hW3]; exact X2.out.alloc _
    have P3 : Hid (Box W3 px [.slice xa nF xc, .int .i64 cnt]) := show Box _ _ _ by rw [← hW3]; exact Box.top _ _ _ hpx.symm
    have F3 : Hid (FilesAt W3 (.slice xa nF xc) fs) := show FilesAt _ _ _ by rw [← hW3]; exact F2.out.at.grew (grew_alloc _ _)
    rw [hW3]
    rw [hpx]
    clear hW3 hpx F2 X2
    have p0 := P3.out.c 0 rfl
    have p1 := P3.out.c 1 rfl
    go_wp2_with fail
    refine (h3 _ _ F3.out).mono ?_
    rintro e W4 ⟨vy, rfl, f4, g4⟩
    obtain ⟨ya, yc, rfl, _, _⟩ := f4.at.rows
    rw [HNX.out] at f4 ⊢
    have F4 : Hid (FilesAt W4 (.slice ya nF yc) fs) := f4.at
    have G4 : Hid (Grew w W4) := G3.out.trans g4
    have X4 : Hid (Box W4 w.heap.size [.slice (some ad) nF c, .int .i64 cnt]) := X3.out.grew g4
    have P4 : Hid (Box W4 px [.slice xa nF xc, .int .i64 cnt]) := P3.out.grew g4
    have FX4 : Hid (FilesAt W4 (.slice xa nF xc) fs) := F3.out.grew g4
    clear f4 g4 p0 p1 h3
    go_upto_region 7 with fail
    obtain ⟨py, hpy⟩ : ∃ py, W4.heap.size = py := ⟨_, rfl⟩
    obtain ⟨W5, hW5⟩ : ∃ W5, W4.alloc (.cells #[.slice ya nF yc, .int .i64 cnt] 36) = W5 := ⟨_, rfl⟩
    have G5 : Hid (Grew w W5) := show Grew _ _ by rw [← hW5]; exact G4.out.trans (grew_alloc _ _)
    have X5 : Hid (Box W5 w.heap.size [.slice (some ad) nF c, .int .i64 cnt]) := show Box _ _ _ by rw [← hW5]; exact X4.out.alloc _
    have P5 : Hid (Box W5 px [.slice xa nF xc, .int .i64 cnt]) := show Box _ _ _ by rw [← hW5]; exact P4.out.alloc _
    have Y5 : Hid (Box W5 py [.slice ya nF yc, .int .i64 cnt]) := show Box _ _ _ by rw [← hW5]; exact Box.top _ _ _ hpy.symm
    have F5 : Hid (FilesAt W5 (.slice ya nF yc) fs) := show FilesAt _ _ _ by rw [← hW5]; exact F4.out.grew (grew_alloc _ _)
    have FX5 : Hid (FilesAt W5 (.slice xa nF xc) fs) := show FilesAt _ _ _ by rw [← hW5]; exact FX4.out.grew (grew_alloc _ _)
    rw [hW5]
    rw [hpy]
    clear hW5 hpy X4 P4 F4 FX4
    have p0 := P5.out.c 0 rfl
    have p1 := P5.out.c 1 rfl
    go_wp2_with fail
    refine (h4 _ _ FX5.out).mono ?_
    rintro e W6 ⟨rfl, g6⟩
    have G6 : Hid (Grew w W6) := G5.out.trans g6
    have X6 : Hid (Box W6 w.heap.size [.slice (some ad) nF c, .int .i64 cnt]) := X5.out.grew g6
    have P6 : Hid (Box W6 px [.slice xa nF xc, .int .i64 cnt]) := P5.out.grew g6
    have Y6 : Hid (Box W6 py [.slice ya nF yc, .int .i64 cnt]) := Y5.out.grew g6
    have F6 : Hid (FilesAt W6 (.slice ya nF yc) fs) := F5.out.grew g6
    have FX6 : Hid (FilesAt W6 (.slice xa nF xc) fs) := FX5.out.grew g6
    clear g6 p0 p1 h4 X5 P5 Y5 F5 FX5
    have p0 := P6.out.c 0 rfl
    have p1 := P6.out.c 1 rfl
    have y0 := Y6.out.c 0 rfl
    have y1 := Y6.out.c 1 rfl
    have hii : (b != b) = false := by simp
    go_wp2_with fail
    refine (sameSt_any _ _ fs cnt _ FX6.out F6.out).mono ?_
    rintro e W7 ⟨rfl, g7⟩
    have G7 : Hid (Grew w W7) := G6.out.trans g7
    have X7 : Hid (Box W7 w.heap.size [.slice (some ad) nF c, .int .i64 cnt]) := X6.out.grew g7
    have P7 : Hid (Box W7 px [.slice xa nF xc, .int .i64 cnt]) := P6.out.grew g7
    have FX7 : Hid (FilesAt W7 (.slice xa nF xc) fs) := FX6.out.grew g7
    clear g7 p0 p1 y0 y1 X6 P6 Y6 F6 FX6
    have x0 := X7.out.c 0 rfl
    obtain ⟨d0, d1⟩ := HCE.out W7 G7.out
    have d2 := HCB.out W7 G7.out
    go_wp2
    have hx0 : ∀ y : GrownW W7, y.world.cell? ⟨w.heap.size, 0, none⟩ = some (.slice (some ad) nF c) := fun y => (X7.out.grew y.grew).c 0 rfl
    have hx1 : ∀ y : GrownW W7, y.world.cell? ⟨w.heap.size, 1, none⟩ = some (.int .i64 cnt) := fun y => (X7.out.grew y.grew).c 1 rfl
    have hp0 : ∀ y : GrownW W7, y.world.cell? ⟨px, 0, none⟩ = some (.slice xa nF xc) := fun y => (P7.out.grew y.grew).c 0 rfl
    have hp1 : ∀ y : GrownW W7, y.world.cell? ⟨px, 1, none⟩ = some (.int .i64 cnt) := fun y => (P7.out.grew y.grew).c 1 rfl
    have hne : Nonempty (GrownW W7) := ⟨⟨_, Grew.refl _⟩⟩
    clear d0 d1 d2 x0
    refine wp_lax [(21, ⟨fun v => v = .bool true, fun _ _ => True⟩)] mixed (by kernel_rfl) ?_ ?_ ?_
    · intro x hx
      simp at hx
      rcases hx with rfl <;> exact ⟨_, rfl⟩
    · intro x hx
      simp at hx
      rcases hx with rfl <;> exact fun _ _ _ _ h => h
    iterate 2 (refine lax_quiet rfl rfl rfl (fun K hK => ?_); go_big_quiet_op; refine hK _ ?_; clear hK K)
    refine lax_skip ?_ ?_
    · kernel_rfl
    simp only [Act.put, List.setIfInBounds_toArray, List.set_cons_succ, List.set_cons_zero]
    refine lax_skip ?_ ?_
    · kernel_rfl
    simp only [Act.put, List.setIfInBounds_toArray, List.set_cons_succ, List.set_cons_zero]
    refine lax_skip ?_ ?_
    · kernel_rfl
    simp only [Act.put, List.setIfInBounds_toArray, List.set_cons_succ, List.set_cons_zero]
    refine lax_skip ?_ ?_
    · kernel_rfl
    simp only [Act.put, List.setIfInBounds_toArray, List.set_cons_succ, List.set_cons_zero]
    iterate 2 (refine lax_quiet rfl rfl rfl (fun K hK => ?_); go_big_quiet_op; refine hK _ ?_; clear hK K)
    refine lax_skip ?_ ?_
    · kernel_rfl
    simp only [Act.put, List.setIfInBounds_toArray, List.set_cons_succ, List.set_cons_zero]
    refine lax_skip ?_ ?_
    · kernel_rfl
    simp only [Act.put, List.setIfInBounds_toArray, List.set_cons_succ, List.set_cons_zero]
    refine lax_skip ?_ ?_
    · kernel_rfl
    simp only [Act.put, List.setIfInBounds_toArray, List.set_cons_succ, List.set_cons_zero]
    refine lax_skip ?_ ?_
    · kernel_rfl
    simp only [Act.put, List.setIfInBounds_toArray, List.set_cons_succ, List.set_cons_zero]
    refine lax_skip ?_ ?_
    · kernel_rfl
    simp only [Act.put, List.setIfInBounds_toArray, List.set_cons_succ, List.set_cons_zero]
    refine lax_skip ?_ ?_
    · kernel_rfl
    simp only [Act.put, List.setIfInBounds_toArray, List.set_cons_succ, List.set_cons_zero]
    iterate 7 (refine lax_quiet rfl rfl rfl (fun K hK => ?_); go_big_quiet_op; refine hK _ ?_; clear hK K)
    refine lax_spec rfl rfl (fun w' hg hF => ?_) (fun v1 hv => ?_)
    · refine Does.call [.agg #[.slice xa nF xc, .int .i64 cnt], .agg #[.slice (some ad) nF c, .int .i64 cnt]] rfl Try.func16 rfl rfl rfl ?_
      refine (sameSt_any _ _ fs cnt w' (FX7.out.grew hg) (HV.out.grew (G7.out.trans hg))).mono ?_
      rintro e w'' ⟨rfl, hg2⟩
      exact ⟨_, rfl, hg2, rfl, trivial⟩
    subst hv
    simp only [Act.put, List.setIfInBounds_toArray, List.set_cons_succ, List.set_cons_zero]
    iterate 3 (refine lax_quiet rfl rfl rfl (fun K hK => ?_); go_big_quiet_op; refine hK _ ?_; clear hK K)
    refine lax_nil fun W8 hg8 hF => ?_
    have G8 : Hid (Grew w W8) := G7.out.trans hg8
    clear hF hg8 hx0 hx1 hp0 hp1 hne
    go_wp2
    go_ret
    exact ⟨rfl, G8.out⟩
  · rw [e1, e2, e3, e4] at h1
    clear bad
    have h0 : leftN fs cnt = 0 := by unfold leftN; rw [if_pos hw, hlf]; rfl
    rw [h0] at h2
    clear h0 e1 e2 e3 e4 hw hf hj hlf
    go_enter Try.func5, Try.ntmps5
    go_wp2_with fail
    rw [HW0.out]
    refine (aliveSt_any _).mono ?_
    rintro e W1 ⟨rfl, g1⟩
    have G1 : Hid (Grew w W1) := HG0.out.trans g1
    have X1 : Hid (Box W1 w.heap.size [.slice a nF c, .int .i64 cnt]) := X0.out.grew g1
    clear g1
    have x0 := X1.out.c 0 rfl
    have x1 := X1.out.c 1 rfl
    go_wp2_with fail
    refine (h1 _ G1.out).mono ?_
    rintro e W2 ⟨vb, rfl, f2, g2⟩
    obtain ⟨xa, xc, rfl, _, _⟩ := f2.at.rows
    rw [show ([] : List Fl).length = 0 from rfl] at f2 ⊢
    have F2 : Hid (FilesS 0 W1.heap.size W2 (.slice xa 0 xc) []) := f2
    have G2 : Hid (Grew w W2) := G1.out.trans g2
    have X2 : Hid (Box W2 w.heap.size [.slice a nF c, .int .i64 cnt]) := X1.out.grew g2
    clear f2 g2 x0 x1 h1
    go_upto_region 4 with fail
    obtain ⟨px, hpx⟩ : ∃ px, W2.heap.size = px := ⟨_, rfl⟩
    obtain ⟨W3, hW3⟩ : ∃ W3, W2.alloc (.cells #[.slice xa 0 xc, .int .i64 0] 36) = W3 := ⟨_, rfl⟩
    have G3 : Hid (Grew w W3) := show Grew _ _ by rw [← hW3]; exact G2.out.trans (grew_alloc _ _)
    have X3 : Hid (Box W3 w.heap.size [.slice a nF c, .int .i64 cnt]) := show Box _ _ _ by rw [← hW3]; exact X2.out.alloc _
    have P3 : Hid (Box W3 px [.slice xa 0 xc, .int .i64 0]) := show Box _ _ _ by rw [← hW3]; exact Box.top _ _ _ hpx.symm
    have F3 : Hid (FilesAt W3 (.slice xa 0 xc) []) := show FilesAt _ _ _ by rw [← hW3]; exact F2.out.at.grew (grew_alloc _ _)
    rw [hW3]
    rw [hpx]
    clear hW3 hpx F2 X2
    have x0 := X3.out.c 0 rfl
    have x1 := X3.out.c 1 rfl
    go_wp2_with fail
    refine (h2 _ G3.out).mono ?_
    rintro e W4 ⟨rfl, g4⟩
    have G4 : Hid (Grew w W4) := G3.out.trans g4
    have P4 : Hid (Box W4 px [.slice xa 0 xc, .int .i64 0]) := P3.out.grew g4
    clear g4 x0 x1 h2
    have p1 := P4.out.c 1 rfl
    go_wp2
    go_ret
    exact ⟨rfl, G4.out⟩
  · rw [e1, e2, e3, e4] at h1
    clear bad
    have HF : Hid (fs[i]? = some f) := hf
    have HJ : Hid (f.bl[j]? = some (-1)) := hj
    have hil0 := (List.getElem?_eq_some_iff.1 hf).1
    have hjl0 := (List.getElem?_eq_some_iff.1 hj).1
    have hmem : b ∈ leftL fs cnt := by rw [hlf]; simp
    obtain ⟨r1, r2⟩ := give_right hw hf hj hmem
    have hus : usedB fs (b : Int) = false := by
      cases hu : usedB fs (b : Int) with
      | false => rfl
      | true => exact absurd ((used_iff fs _).1 hu) (left_mem hmem).2
    have hl0 : leftN fs cnt = (leftL fs cnt).length := by unfold leftN; rw [if_pos hw]
    have hl1 : leftN (fs.set i ⟨f.size, f.bl.set j (b : Int)⟩) cnt = (leftL (fs.set i ⟨f.size, f.bl.set j (b : Int)⟩) cnt).length := by unfold leftN; rw [if_pos r1]
    have hl2 : ((leftN (fs.set i ⟨f.size, f.bl.set j (b : Int)⟩) cnt : Nat) : Int) = (leftN fs cnt : Int) - 1 := by omega
    have hl3 : (leftN fs cnt : Int) ≤ 80 := by
      rw [hl0]
      have := List.length_filter_le (fun b : Nat => !usedB fs (b : Int)) (List.range cnt.toNat)
      rw [List.length_range] at this
      have h80 := ((stW_zero fs cnt).1 hw).1
      unfold leftL
      omega
    obtain ⟨q1, q2, q3, q4⟩ := blk_has (i := i) (j := j) (f := ⟨f.size, f.bl.set j (b : Int)⟩) (b := (b : Int)) r1 (by rw [List.getElem?_set_self hil0]) (by simp only; rw [List.getElem?_set_self hjl0]) (by omega)
    have HNX : Hid ((fs.set i ⟨f.size, f.bl.set j (b : Int)⟩).length = nF) := show _ = _ by rw [List.length_set]; exact HN.out
    have h3 : ∀ v W, FilesAt W v (fs.set i ⟨f.size, f.bl.set j (b : Int)⟩) → Calls Try.prog 22 #[.agg #[v, .int .i64 cnt], .int .i64 (i : Int), .int .i64 (j : Int)] W fun e w' => ∃ b1, e = .returned (.tuple #[.agg #[b1, .int .i64 cnt], .int .i64 (b : Int), .int .i64 0]) ∧ FilesS 0 W.heap.size w' b1 (fs.set i ⟨f.size, f.bl.set j (b : Int)⟩) ∧ Grew W w' := fun v W hv => by
      have := blockSt_any v _ cnt i j W hv
      rw [q1, q2, q3, q4] at this
      exact this
    have h4 : ∀ v W, FilesAt W v (fs.set i ⟨f.size, f.bl.set j (b : Int)⟩) → Calls Try.prog 14 #[.agg #[v, .int .i64 cnt]] W fun e w' => e = .returned (.int .i64 0) ∧ Grew W w' := fun v W hv => by
      have := wrongSt_any v _ cnt W hv
      rw [r1] at this
      exact this
    have h5 : ∀ v W, FilesAt W v (fs.set i ⟨f.size, f.bl.set j (b : Int)⟩) → Calls Try.prog 25 #[.agg #[v, .int .i64 cnt]] W fun e w' => e = .returned (.int .i64 ((leftN fs cnt : Int) - 1)) ∧ Grew W w' := fun v W hv => by
      have := leftN_any v _ cnt W hv
      rw [hl2] at this
      exact this
    have h6 : ∀ W, Grew w W → Calls Try.prog 24 #[.agg #[.slice a nF c, .int .i64 cnt], .int .i64 (b : Int)] W fun e w' => e = .returned (.bool false) ∧ Grew W w' := fun W hW => by
      have := used_any _ fs cnt (b : Int) W (HV.out.grew hW)
      rw [hus] at this
      exact this
    have hl4 : (0 : Int) ≤ (leftN fs cnt : Int) := by omega
    clear q1 q2 q3 q4 e1 e2 e3 e4 hw hf hj r1 r2 hl0 hl1 hl2 hus hmem hlf
    obtain ⟨F', HF'⟩ : ∃ F', Hid (fs.set i ⟨f.size, f.bl.set j (b : Int)⟩ = F') := ⟨_, rfl⟩
    rw [HF'.out] at h1 h3 h4 h5 HNX
    generalize (leftN fs cnt : Int) = z at *
    have hzz : (z - 1 == z - 1) = true := by simp
    obtain ⟨ad, hada, xa0, xc0, hra, hce⟩ := HR.out i f HF.out
    subst hada
    obtain ⟨nb, HNB⟩ : ∃ nb, Hid (f.bl.length = nb) := ⟨_, rfl⟩
    have HCE : Hid (∀ W, Grew w W → FlCells W (ad.add (i * 2)) f.size (.slice xa0 nb xc0)) := show ∀ W, _ from fun W hW => by rw [← HNB.out]; exact hce W hW
    obtain ⟨_, _, heq, hnum⟩ := hra.nums
    cases heq
    obtain ⟨ad2, hada2, hce2⟩ := hnum j _ HJ.out
    subst hada2
    have HCB : Hid (∀ W, Grew w W → W.cell? (ad2.add j) = some (.int .i64 (-1))) := hce2
    have hil : i < nF := by rw [← HN.out]; exact (List.getElem?_eq_some_iff.1 HF.out).1
    have hilz : (i : Int) < (nF : Int) := by omega
    have hjl : j < nb := by rw [← HNB.out]; exact (List.getElem?_eq_some_iff.1 HJ.out).1
    have hjz : (j : Int) < (nb : Int) := by omega
    clear hra hce hnum hce2
    go_enter Try.func5, Try.ntmps5
    go_wp2_with fail
    rw [HW0.out]
    refine (aliveSt_any _).mono ?_
    rintro e W1 ⟨rfl, g1⟩
    have G1 : Hid (Grew w W1) := HG0.out.trans g1
    have X1 : Hid (Box W1 w.heap.size [.slice (some ad) nF c, .int .i64 cnt]) := X0.out.grew g1
    clear g1
    have x0 := X1.out.c 0 rfl
    have x1 := X1.out.c 1 rfl
    go_wp2_with fail
    refine (h1 _ G1.out).mono ?_
    rintro e W2 ⟨vb, rfl, f2, g2⟩
    obtain ⟨xa, xc, rfl, _, _⟩ := f2.at.rows
    rw [HNX.out] at f2 ⊢
    have F2 : Hid (FilesS 0 W1.heap.size W2 (.slice xa nF xc) F') := f2
    have G2 : Hid (Grew w W2) := G1.out.trans g2
    have X2 : Hid (Box W2 w.heap.size [.slice (some ad) nF c, .int .i64 cnt]) := X1.out.grew g2
    clear f2 g2 x0 x1 h1
    go_upto_region 6 with fail
    obtain ⟨px, hpx⟩ : ∃ px, W2.heap.size = px := ⟨_, rfl⟩
    obtain ⟨W3, hW3⟩ : ∃ W3, W2.alloc (.cells #[.slice xa nF xc, .int .i64 cnt] 36) = W3 := ⟨_, rfl⟩
    have G3 : Hid (Grew w W3) := show Grew _ _ by rw [← hW3]; exact G2.out.trans (grew_alloc _ _)
    have X3 : Hid (Box W3 w.heap.size [.slice (some ad) nF c, .int .i64 cnt]) := show Box _ _ _ by rw [← hW3]; exact X2.out.alloc _
    have P3 : Hid (Box W3 px [.slice xa nF xc, .int .i64 cnt]) := show Box _ _ _ by rw [← hW3]; exact Box.top _ _ _ hpx.symm
    have F3 : Hid (FilesAt W3 (.slice xa nF xc) F') := show FilesAt _ _ _ by rw [← hW3]; exact F2.out.at.grew (grew_alloc _ _)
    rw [hW3]
    rw [hpx]
    clear hW3 hpx F2 X2
    have p0 := P3.out.c 0 rfl
    have p1 := P3.out.c 1 rfl
    go_wp2_with fail
    refine (h3 _ _ F3.out).mono ?_
    rintro e W4 ⟨vy, rfl, f4, g4⟩
    obtain ⟨ya, yc, rfl, _, _⟩ := f4.at.rows
    rw [HNX.out] at f4 ⊢
    have F4 : Hid (FilesAt W4 (.slice ya nF yc) F') := f4.at
    have G4 : Hid (Grew w W4) := G3.out.trans g4
    have X4 : Hid (Box W4 w.heap.size [.slice (some ad) nF c, .int .i64 cnt]) := X3.out.grew g4
    have P4 : Hid (Box W4 px [.slice xa nF xc, .int .i64 cnt]) := P3.out.grew g4
    have FX4 : Hid (FilesAt W4 (.slice xa nF xc) F') := F3.out.grew g4
    clear f4 g4 p0 p1 h3
    go_upto_region 7 with fail
    obtain ⟨py, hpy⟩ : ∃ py, W4.heap.size = py := ⟨_, rfl⟩
    obtain ⟨W5, hW5⟩ : ∃ W5, W4.alloc (.cells #[.slice ya nF yc, .int .i64 cnt] 36) = W5 := ⟨_, rfl⟩
    have G5 : Hid (Grew w W5) := show Grew _ _ by rw [← hW5]; exact G4.out.trans (grew_alloc _ _)
    have X5 : Hid (Box W5 w.heap.size [.slice (some ad) nF c, .int .i64 cnt]) := show Box _ _ _ by rw [← hW5]; exact X4.out.alloc _
    have P5 : Hid (Box W5 px [.slice xa nF xc, .int .i64 cnt]) := show Box _ _ _ by rw [← hW5]; exact P4.out.alloc _
    have Y5 : Hid (Box W5 py [.slice ya nF yc, .int .i64 cnt]) := show Box _ _ _ by rw [← hW5]; exact Box.top _ _ _ hpy.symm
    have F5 : Hid (FilesAt W5 (.slice ya nF yc) F') := show FilesAt _ _ _ by rw [← hW5]; exact F4.out.grew (grew_alloc _ _)
    have FX5 : Hid (FilesAt W5 (.slice xa nF xc) F') := show FilesAt _ _ _ by rw [← hW5]; exact FX4.out.grew (grew_alloc _ _)
    rw [hW5]
    rw [hpy]
    clear hW5 hpy X4 P4 F4 FX4
    have p0 := P5.out.c 0 rfl
    have p1 := P5.out.c 1 rfl
    go_wp2_with fail
    refine (h4 _ _ FX5.out).mono ?_
    rintro e W6 ⟨rfl, g6⟩
    have G6 : Hid (Grew w W6) := G5.out.trans g6
    have X6 : Hid (Box W6 w.heap.size [.slice (some ad) nF c, .int .i64 cnt]) := X5.out.grew g6
    have P6 : Hid (Box W6 px [.slice xa nF xc, .int .i64 cnt]) := P5.out.grew g6
    have Y6 : Hid (Box W6 py [.slice ya nF yc, .int .i64 cnt]) := Y5.out.grew g6
    have F6 : Hid (FilesAt W6 (.slice ya nF yc) F') := F5.out.grew g6
    have FX6 : Hid (FilesAt W6 (.slice xa nF xc) F') := FX5.out.grew g6
    clear g6 p0 p1 h4 X5 P5 Y5 F5 FX5
    have p0 := P6.out.c 0 rfl
    have p1 := P6.out.c 1 rfl
    have y0 := Y6.out.c 0 rfl
    have y1 := Y6.out.c 1 rfl
    have hii : ((b : Int) != (b : Int)) = false := by simp
    go_wp2_with fail
    refine (sameSt_any _ _ F' cnt _ FX6.out F6.out).mono ?_
    rintro e W7 ⟨rfl, g7⟩
    have G7 : Hid (Grew w W7) := G6.out.trans g7
    have X7 : Hid (Box W7 w.heap.size [.slice (some ad) nF c, .int .i64 cnt]) := X6.out.grew g7
    have P7 : Hid (Box W7 px [.slice xa nF xc, .int .i64 cnt]) := P6.out.grew g7
    have FX7 : Hid (FilesAt W7 (.slice xa nF xc) F') := FX6.out.grew g7
    clear g7 p0 p1 y0 y1 X6 P6 Y6 F6 FX6
    have x0 := X7.out.c 0 rfl
    obtain ⟨d0, d1⟩ := HCE.out W7 G7.out
    have d2 := HCB.out W7 G7.out
    go_wp2
    have hx0 : ∀ y : GrownW W7, y.world.cell? ⟨w.heap.size, 0, none⟩ = some (.slice (some ad) nF c) := fun y => (X7.out.grew y.grew).c 0 rfl
    have hx1 : ∀ y : GrownW W7, y.world.cell? ⟨w.heap.size, 1, none⟩ = some (.int .i64 cnt) := fun y => (X7.out.grew y.grew).c 1 rfl
    have hp0 : ∀ y : GrownW W7, y.world.cell? ⟨px, 0, none⟩ = some (.slice xa nF xc) := fun y => (P7.out.grew y.grew).c 0 rfl
    have hp1 : ∀ y : GrownW W7, y.world.cell? ⟨px, 1, none⟩ = some (.int .i64 cnt) := fun y => (P7.out.grew y.grew).c 1 rfl
    have hne : Nonempty (GrownW W7) := ⟨⟨_, Grew.refl _⟩⟩
    clear d0 d1 d2 x0
    refine wp_lax [(4, ⟨fun v => v = .bool false, fun _ _ => True⟩), (9, ⟨fun v => v = .int .i64 (z - 1), fun _ _ => True⟩), (11, ⟨fun v => v = .int .i64 z, fun _ _ => True⟩)] mixed (by kernel_rfl) ?_ ?_ ?_
    · intro x hx
      simp at hx
      rcases hx with rfl | rfl | rfl <;> exact ⟨_, rfl⟩
    · intro x hx
      simp at hx
      rcases hx with rfl | rfl | rfl <;> exact fun _ _ _ _ h => h
    iterate 4 (refine lax_quiet rfl rfl rfl (fun K hK => ?_); go_big_quiet_op; refine hK _ ?_; clear hK K)
    refine lax_spec rfl rfl (fun w' hg hF => ?_) (fun v1 hv => ?_)
    · refine Does.call [.agg #[.slice (some ad) nF c, .int .i64 cnt], .int .i64 (b : Int)] rfl Try.func24 rfl rfl rfl ?_
      refine (h6 w' (G7.out.trans hg)).mono ?_
      rintro e w'' ⟨rfl, hg2⟩
      exact ⟨_, rfl, hg2, rfl, trivial⟩
    subst hv
    simp only [Act.put, List.setIfInBounds_toArray, List.set_cons_succ, List.set_cons_zero]
    iterate 4 (refine lax_quiet rfl rfl rfl (fun K hK => ?_); go_big_quiet_op; refine hK _ ?_; clear hK K)
    refine lax_spec rfl rfl (fun w' hg hF => ?_) (fun v1 hv => ?_)
    · refine Does.call [.agg #[.slice xa nF xc, .int .i64 cnt]] rfl Try.func25 rfl rfl rfl ?_
      refine (h5 _ w' (FX7.out.grew hg)).mono ?_
      rintro e w'' ⟨rfl, hg2⟩
      exact ⟨_, rfl, hg2, rfl, trivial⟩
    subst hv
    simp only [Act.put, List.setIfInBounds_toArray, List.set_cons_succ, List.set_cons_zero]
    iterate 1 (refine lax_quiet rfl rfl rfl (fun K hK => ?_); go_big_quiet_op; refine hK _ ?_; clear hK K)
    refine lax_spec rfl rfl (fun w' hg hF => ?_) (fun v1 hv => ?_)
    · refine Does.call [.agg #[.slice (some ad) nF c, .int .i64 cnt]] rfl Try.func25 rfl rfl rfl ?_
      refine (h2 w' (G7.out.trans hg)).mono ?_
      rintro e w'' ⟨rfl, hg2⟩
      exact ⟨_, rfl, hg2, rfl, trivial⟩
    subst hv
    simp only [Act.put, List.setIfInBounds_toArray, List.set_cons_succ, List.set_cons_zero]
    iterate 4 (refine lax_quiet rfl rfl rfl (fun K hK => ?_); go_big_quiet_op; refine hK _ ?_; clear hK K)
    refine lax_skip ?_ ?_
    · kernel_rfl
    simp only [Act.put, List.setIfInBounds_toArray, List.set_cons_succ, List.set_cons_zero]
    refine lax_skip ?_ ?_
    · kernel_rfl
    simp only [Act.put, List.setIfInBounds_toArray, List.set_cons_succ, List.set_cons_zero]
    refine lax_skip ?_ ?_
    · kernel_rfl
    simp only [Act.put, List.setIfInBounds_toArray, List.set_cons_succ, List.set_cons_zero]
    refine lax_skip ?_ ?_
    · kernel_rfl
    simp only [Act.put, List.setIfInBounds_toArray, List.set_cons_succ, List.set_cons_zero]
    refine lax_skip ?_ ?_
    · kernel_rfl
    simp only [Act.put, List.setIfInBounds_toArray, List.set_cons_succ, List.set_cons_zero]
    refine lax_skip ?_ ?_
    · kernel_rfl
    simp only [Act.put, List.setIfInBounds_toArray, List.set_cons_succ, List.set_cons_zero]
    refine lax_skip ?_ ?_
    · kernel_rfl
    simp only [Act.put, List.setIfInBounds_toArray, List.set_cons_succ, List.set_cons_zero]
    iterate 2 (refine lax_quiet rfl rfl rfl (fun K hK => ?_); go_big_quiet_op; refine hK _ ?_; clear hK K)
    refine lax_nil fun W8 hg8 hF => ?_
    have G8 : Hid (Grew w W8) := G7.out.trans hg8
    clear hF hg8 hx0 hx1 hp0 hp1 hne
    go_wp2
    go_ret
    exact ⟨rfl, G8.out⟩

end Go.Proofs.Ytagpmjgmohfmjac
