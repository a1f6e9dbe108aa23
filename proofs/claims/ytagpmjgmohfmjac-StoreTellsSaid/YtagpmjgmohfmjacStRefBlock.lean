/- Contract of Block (the document's answer). -/
import Derived.Test.YtagpmjgmohfmjacStWith
import Derived.Test.YtagpmjgmohfmjacStRefWrong
import Derived.Test.YtagpmjgmohfmjacStUsed
namespace Go.Proofs.Ytagpmjgmohfmjac
open Go.RowKit

theorem left_none {fs : List Fl} {m : Nat} (h : leftL fs (m : Int) = []) : ∀ j, j < m → usedB fs (j : Int) = true := fun j hj => by
  unfold leftL at h
  have := List.filter_eq_nil_iff.1 h j (List.mem_range.2 (by omega))
  simpa using this
theorem left_first {fs : List Fl} {m b : Nat} {l : List Nat} (h : leftL fs (m : Int) = b :: l) : b < m ∧ usedB fs (b : Int) = false ∧ ∀ j, j < b → usedB fs (j : Int) = true := by
  have hmem : b ∈ leftL fs (m : Int) := by rw [h]; simp
  unfold leftL at h hmem
  rw [Int.toNat_natCast] at h hmem
  obtain ⟨h1, h2⟩ := List.mem_filter.1 hmem
  have hbm := List.mem_range.1 h1
  refine ⟨hbm, by simpa using h2, fun j hj => ?_⟩
  cases hu : usedB fs (j : Int) with
  | true => rfl
  | false =>
    have hjm : j ∈ (List.range m).filter fun (b : Nat) => !usedB fs (b : Int) := List.mem_filter.2 ⟨List.mem_range.2 (by omega), by simp [hu]⟩
    have hp : ((List.range m).filter fun (b : Nat) => !usedB fs (b : Int)).Pairwise (· < ·) := List.Pairwise.filter _ List.pairwise_lt_range
    rw [h] at hjm hp
    rcases List.mem_cons.1 hjm with rfl | hjl
    · omega
    · have := (List.pairwise_cons.1 hp).1 j hjl
      omega

set_option maxRecDepth 100000 in
set_option maxHeartbeats 2000000 in
theorem refBlock_any (v : Value) (fs : List Fl) (cnt k x : Int) (D : Nat → Prop) (w : World) (hv : FilesD D w v fs) (hB : ∀ k, D k → k < w.heap.size) :
    Calls Try.prog 23 #[.agg #[v, .int .i64 cnt], .int .i64 k, .int .i64 x] w fun e w' => ∃ b, e = .returned (.tuple #[.agg #[b, .int .i64 (blkC fs cnt k x)], .int .i64 (blkI fs cnt k x), .int .i64 (blkE fs cnt k x)]) ∧ FilesD D w' b (blkF fs cnt k x) ∧ Grew w w' := by
  have h1 : ∀ W, Grew w W → Calls Try.prog 15 #[.agg #[v, .int .i64 cnt]] W fun e w' => e = .returned (.int .i64 (stW fs cnt)) ∧ Grew W w' := fun W hW => refWrongSt_any v fs cnt W (hv.at.grew hW)
  have HV : Hid (FilesD D w v fs) := hv
  have HB : Hid (∀ k, D k → k < w.heap.size) := hB
  obtain ⟨a, c, rfl, hbig, hrow⟩ := hv.at.rows
  have HR : Hid (FlRows w a fs) := hrow
  clear hv hrow hB
  obtain ⟨nF, HN⟩ : ∃ nF, Hid (fs.length = nF) := ⟨_, rfl⟩
  rw [HN.out] at h1 hbig HV ⊢
  obtain ⟨W0, hW0⟩ : ∃ W0, (w.alloc (.cells #[.slice a nF c, .int .i64 cnt] 36)).alloc (.cells #[.slice none 0 0, .int .i64 0] 36) = W0 := ⟨_, rfl⟩
  have HG0 : Hid (Grew w W0) := show Grew w W0 by rw [← hW0]; exact (grew_alloc _ _).trans (grew_alloc _ _)
  have X0 : Hid (Box W0 w.heap.size [.slice a nF c, .int .i64 cnt]) := show Box _ _ _ by rw [← hW0]; exact (Box.top w _ _ rfl).alloc _
  have Y0 : Hid (Box W0 (w.heap.size + 1) [.slice none 0 0, .int .i64 0]) := show Box _ _ _ by rw [← hW0]; exact Box.top _ _ _ (by simp)
  have HW0 : Hid (_ = W0) := hW0
  clear hW0
  rcases blk_cases fs cnt k x with ⟨hw, e1, e2, e3, e4⟩ | ⟨hw, hk, e1, e2, e3, e4⟩ | ⟨hw, i, f, rfl, hf, hn, e1, e2, e3, e4⟩ | ⟨hw, i, f, j, b, rfl, hf, rfl, hj, hb0, hbc, e1, e2, e3, e4⟩ | ⟨hw, i, f, j, rfl, hf, rfl, hj, hlf, e1, e2, e3, e4⟩ | ⟨hw, i, f, j, b, l, rfl, hf, rfl, hj, hlf, e1, e2, e3, e4⟩
  · rw [e1, e2, e3, e4]
    have hzb : (stW fs cnt != 0) = true := by simpa using hw
    generalize stW fs cnt = S at *
    clear e1 e2 e3 e4
    go_enter Try.func23, Try.ntmps23
    go_wp2_with fail
    rw [HW0.out]
    refine (h1 _ HG0.out).mono ?_
    rintro e W1 ⟨rfl, g1⟩
    have G1 : Hid (Grew w W1) := HG0.out.trans g1
    have X1 : Hid (Box W1 w.heap.size [.slice a nF c, .int .i64 cnt]) := X0.out.grew g1
    have Y1 : Hid (Box W1 (w.heap.size + 1) [.slice none 0 0, .int .i64 0]) := Y0.out.grew g1
    clear g1 h1
    have x0 := X1.out.c 0 rfl
    have x1 := X1.out.c 1 rfl
    have y0 := Y1.out.c 0 rfl
    have y1 := Y1.out.c 1 rfl
    have yf := Y1.out.f
    go_wp2
    refine bodyPost_ret (v := .tuple #[.agg #[.slice none 0 0, .int .i64 0], .int .i64 0, .int .i64 S]) (by simp [results, Try.results23, go_sem, *]) rfl ⟨_, rfl, FilesD.nil _ _, ?_⟩
    exact Below.setCell (Below.setCell G1.out (p := ⟨w.heap.size + 1, 0, none⟩) (by simp) _) (p := ⟨w.heap.size + 1, 1, none⟩) (by simp) _
  · rw [e1, e2, e3, e4]
    rw [hw] at h1
    rw [HN.out] at hk
    clear e1 e2 e3 e4 hw
    by_cases hk0 : k < 0
    · clear hk
      go_enter Try.func23, Try.ntmps23
      go_wp2_with fail
      rw [HW0.out]
      refine (h1 _ HG0.out).mono ?_
      rintro e W1 ⟨rfl, g1⟩
      have G1 : Hid (Grew w W1) := HG0.out.trans g1
      have X1 : Hid (Box W1 w.heap.size [.slice a nF c, .int .i64 cnt]) := X0.out.grew g1
      have Y1 : Hid (Box W1 (w.heap.size + 1) [.slice none 0 0, .int .i64 0]) := Y0.out.grew g1
      clear g1 h1
      have x0 := X1.out.c 0 rfl
      have x1 := X1.out.c 1 rfl
      have y0 := Y1.out.c 0 rfl
      have y1 := Y1.out.c 1 rfl
      have yf := Y1.out.f
      go_wp2
      refine bodyPost_ret (v := .tuple #[.agg #[.slice none 0 0, .int .i64 0], .int .i64 0, .int .i64 5]) (by simp [results, Try.results23, go_sem, *]) rfl ⟨_, rfl, FilesD.nil _ _, ?_⟩
      exact Below.setCell (Below.setCell G1.out (p := ⟨w.heap.size + 1, 0, none⟩) (by simp) _) (p := ⟨w.heap.size + 1, 1, none⟩) (by simp) _
    · have hk0d : decide (k < 0) = false := decide_eq_false hk0
      have hk1 : (nF : Int) ≤ k := by omega
      clear hk
      go_enter Try.func23, Try.ntmps23
      go_wp2_with fail
      rw [HW0.out]
      refine (h1 _ HG0.out).mono ?_
      rintro e W1 ⟨rfl, g1⟩
      have G1 : Hid (Grew w W1) := HG0.out.trans g1
      have X1 : Hid (Box W1 w.heap.size [.slice a nF c, .int .i64 cnt]) := X0.out.grew g1
      have Y1 : Hid (Box W1 (w.heap.size + 1) [.slice none 0 0, .int .i64 0]) := Y0.out.grew g1
      clear g1 h1
      have x0 := X1.out.c 0 rfl
      have x1 := X1.out.c 1 rfl
      have y0 := Y1.out.c 0 rfl
      have y1 := Y1.out.c 1 rfl
      have yf := Y1.out.f
      go_wp2
      refine bodyPost_ret (v := .tuple #[.agg #[.slice none 0 0, .int .i64 0], .int .i64 0, .int .i64 5]) (by simp [results, Try.results23, go_sem, *]) rfl ⟨_, rfl, FilesD.nil _ _, ?_⟩
      exact Below.setCell (Below.setCell G1.out (p := ⟨w.heap.size + 1, 0, none⟩) (by simp) _) (p := ⟨w.heap.size + 1, 1, none⟩) (by simp) _
  · rw [e1, e2, e3, e4]
    rw [hw] at h1
    have hil : i < nF := by rw [← HN.out]; exact (List.getElem?_eq_some_iff.1 hf).1
    have hilz : (i : Int) < (nF : Int) := by omega
    have hi0 : ¬ (i : Int) < 0 := by omega
    have hi0d : decide ((i : Int) < 0) = false := decide_eq_false hi0
    have hi1 : ¬ (nF : Int) ≤ (i : Int) := by omega
    have hi1d : decide ((nF : Int) ≤ (i : Int)) = false := decide_eq_false hi1
    have hi1e : decide (nF ≤ i) = false := decide_eq_false (by omega)
    have HF : Hid (fs[i]? = some f) := hf
    obtain ⟨ad, hada, xa0, xc0, hra, hce⟩ := HR.out i f hf
    subst hada
    have HRA : Hid (RowAt blE w (.slice xa0 f.bl.length xc0) f.bl) := hra
    have HCE : Hid (∀ W, Grew w W → FlCells W (ad.add (i * 2)) f.size (.slice xa0 f.bl.length xc0)) := hce
    have hnb := hra.short
    obtain ⟨_, _, heq, hnum⟩ := hra.nums
    cases heq
    have HNUM : Hid (NumRows w xa0 f.bl) := hnum
    obtain ⟨nb, HNB⟩ : ∃ nb, Hid (f.bl.length = nb) := ⟨_, rfl⟩
    rw [HNB.out] at HCE hnb HRA
    clear hra hce hnum hf
    rw [HNB.out] at hn
    clear e1 e2 e3 e4 hw
    go_enter Try.func23, Try.ntmps23
    go_wp2_with fail
    rw [HW0.out]
    refine (h1 _ HG0.out).mono ?_
    rintro e W1 ⟨rfl, g1⟩
    have G1 : Hid (Grew w W1) := HG0.out.trans g1
    have X1 : Hid (Box W1 w.heap.size [.slice (some ad) nF c, .int .i64 cnt]) := X0.out.grew g1
    have Y1 : Hid (Box W1 (w.heap.size + 1) [.slice none 0 0, .int .i64 0]) := Y0.out.grew g1
    clear g1 h1
    have x0 := X1.out.c 0 rfl
    have x1 := X1.out.c 1 rfl
    obtain ⟨d0, d1⟩ := HCE.out W1 G1.out
    go_upto_region 7 with fail
    obtain ⟨pf, hpf⟩ : ∃ pf, W1.heap.size = pf := ⟨_, rfl⟩
    obtain ⟨W2, hW2⟩ : ∃ W2, W1.alloc (.cells #[.int .i64 f.size, .slice xa0 nb xc0] 50) = W2 := ⟨_, rfl⟩
    have G12 : Hid (Grew W1 W2) := show Grew _ _ by rw [← hW2]; exact grew_alloc _ _
    have P2 : Hid (Box W2 pf [.int .i64 f.size, .slice xa0 nb xc0]) := show Box _ _ _ by rw [← hW2]; exact Box.top _ _ _ hpf.symm
    have HPF : Hid (W1.heap.size = pf) := hpf
    have HWB : Hid (w.heap.size + 2 ≤ pf) := show _ ≤ _ by rw [← hpf]; exact Y1.out.lt
    have G2 : Hid (Grew w W2) := G1.out.trans G12.out
    have X2 : Hid (Box W2 w.heap.size [.slice (some ad) nF c, .int .i64 cnt]) := X1.out.grew G12.out
    have Y2 : Hid (Box W2 (w.heap.size + 1) [.slice none 0 0, .int .i64 0]) := Y1.out.grew G12.out
    rw [hW2]
    rw [hpf]
    clear hW2 hpf x0 x1 d0 d1
    have p0 := P2.out.c 0 rfl
    have p1 := P2.out.c 1 rfl
    by_cases hx0 : x < 0
    · clear hn
      have y0 := Y2.out.c 0 rfl
      have y1 := Y2.out.c 1 rfl
      have yf := Y2.out.f
      go_wp2
      refine bodyPost_ret (v := .tuple #[.agg #[.slice none 0 0, .int .i64 0], .int .i64 0, .int .i64 9]) (by simp [results, Try.results23, go_sem, *]) rfl ⟨_, rfl, FilesD.nil _ _, ?_⟩
      exact Below.setCell (Below.setCell G2.out (p := ⟨w.heap.size + 1, 0, none⟩) (by simp) _) (p := ⟨w.heap.size + 1, 1, none⟩) (by simp) _
    · have hx0d : decide (x < 0) = false := decide_eq_false hx0
      have hx1 : (nb : Int) ≤ x := by omega
      clear hn
      have y0 := Y2.out.c 0 rfl
      have y1 := Y2.out.c 1 rfl
      have yf := Y2.out.f
      go_wp2
      refine bodyPost_ret (v := .tuple #[.agg #[.slice none 0 0, .int .i64 0], .int .i64 0, .int .i64 9]) (by simp [results, Try.results23, go_sem, *]) rfl ⟨_, rfl, FilesD.nil _ _, ?_⟩
      exact Below.setCell (Below.setCell G2.out (p := ⟨w.heap.size + 1, 0, none⟩) (by simp) _) (p := ⟨w.heap.size + 1, 1, none⟩) (by simp) _
  · rw [e1, e2, e3, e4]
    rw [hw] at h1
    have hil : i < nF := by rw [← HN.out]; exact (List.getElem?_eq_some_iff.1 hf).1
    have hilz : (i : Int) < (nF : Int) := by omega
    have hi0 : ¬ (i : Int) < 0 := by omega
    have hi0d : decide ((i : Int) < 0) = false := decide_eq_false hi0
    have hi1 : ¬ (nF : Int) ≤ (i : Int) := by omega
    have hi1d : decide ((nF : Int) ≤ (i : Int)) = false := decide_eq_false hi1
    have hi1e : decide (nF ≤ i) = false := decide_eq_false (by omega)
    have HF : Hid (fs[i]? = some f) := hf
    obtain ⟨ad, hada, xa0, xc0, hra, hce⟩ := HR.out i f hf
    subst hada
    have HRA : Hid (RowAt blE w (.slice xa0 f.bl.length xc0) f.bl) := hra
    have HCE : Hid (∀ W, Grew w W → FlCells W (ad.add (i * 2)) f.size (.slice xa0 f.bl.length xc0)) := hce
    have hnb := hra.short
    obtain ⟨_, _, heq, hnum⟩ := hra.nums
    cases heq
    have HNUM : Hid (NumRows w xa0 f.bl) := hnum
    obtain ⟨nb, HNB⟩ : ∃ nb, Hid (f.bl.length = nb) := ⟨_, rfl⟩
    rw [HNB.out] at HCE hnb HRA
    clear hra hce hnum hf
    have hjl : j < nb := by rw [← HNB.out]; exact (List.getElem?_eq_some_iff.1 hj).1
    have hjz : (j : Int) < (nb : Int) := by omega
    have hj0 : ¬ (j : Int) < 0 := by omega
    have hj0d : decide ((j : Int) < 0) = false := decide_eq_false hj0
    have hj1 : ¬ (nb : Int) ≤ (j : Int) := by omega
    have hj1d : decide ((nb : Int) ≤ (j : Int)) = false := decide_eq_false hj1
    have hj1e : decide (nb ≤ j) = false := decide_eq_false (by omega)
    obtain ⟨a3, ha3, hl3⟩ := HNUM.out j _ hj
    subst ha3
    have HCB : Hid (∀ W, Grew w W → W.cell? (a3.add j) = some (.int .i64 b)) := hl3
    clear hl3 hj
    have hbz : 0 ≤ b := hb0
    clear e1 e2 e3 e4 hw hb0 hbc
    go_enter Try.func23, Try.ntmps23
    go_wp2_with fail
    rw [HW0.out]
    refine (h1 _ HG0.out).mono ?_
    rintro e W1 ⟨rfl, g1⟩
    have G1 : Hid (Grew w W1) := HG0.out.trans g1
    have X1 : Hid (Box W1 w.heap.size [.slice (some ad) nF c, .int .i64 cnt]) := X0.out.grew g1
    have Y1 : Hid (Box W1 (w.heap.size + 1) [.slice none 0 0, .int .i64 0]) := Y0.out.grew g1
    clear g1 h1
    have x0 := X1.out.c 0 rfl
    have x1 := X1.out.c 1 rfl
    obtain ⟨d0, d1⟩ := HCE.out W1 G1.out
    go_upto_region 7 with fail
    obtain ⟨pf, hpf⟩ : ∃ pf, W1.heap.size = pf := ⟨_, rfl⟩
    obtain ⟨W2, hW2⟩ : ∃ W2, W1.alloc (.cells #[.int .i64 f.size, .slice (some a3) nb xc0] 50) = W2 := ⟨_, rfl⟩
    have G12 : Hid (Grew W1 W2) := show Grew _ _ by rw [← hW2]; exact grew_alloc _ _
    have P2 : Hid (Box W2 pf [.int .i64 f.size, .slice (some a3) nb xc0]) := show Box _ _ _ by rw [← hW2]; exact Box.top _ _ _ hpf.symm
    have HPF : Hid (W1.heap.size = pf) := hpf
    have HWB : Hid (w.heap.size + 2 ≤ pf) := show _ ≤ _ by rw [← hpf]; exact Y1.out.lt
    have G2 : Hid (Grew w W2) := G1.out.trans G12.out
    have X2 : Hid (Box W2 w.heap.size [.slice (some ad) nF c, .int .i64 cnt]) := X1.out.grew G12.out
    have Y2 : Hid (Box W2 (w.heap.size + 1) [.slice none 0 0, .int .i64 0]) := Y1.out.grew G12.out
    rw [hW2]
    rw [hpf]
    clear hW2 hpf x0 x1 d0 d1
    have p0 := P2.out.c 0 rfl
    have p1 := P2.out.c 1 rfl
    have d2 := HCB.out W2 G2.out
    have x0 := X2.out.c 0 rfl
    have x1 := X2.out.c 1 rfl
    have y0 := Y2.out.c 0 rfl
    have y1 := Y2.out.c 1 rfl
    have yf := Y2.out.f
    have hne1 : ¬ w.heap.size = w.heap.size + 1 := by omega
    have hne2 : ¬ w.heap.size + 1 = pf := by have := HWB.out; omega
    have hne3 : ¬ pf = w.heap.size + 1 := by have := HWB.out; omega
    have hlt3 : a3.block < w.heap.size + 1 := by
      have h1 := World.block_lt_of_cell? _ _ (HCB.out w (Grew.refl _))
      rw [add_block] at h1
      omega
    have d2a : ∀ u : Value, (W2.setCell ⟨w.heap.size + 1, 0, none⟩ u).cell? (a3.add j) = some (.int .i64 b) := fun u => by
      rw [World.cell?_of_block (w := W2) (Below.heap_setCell _ _ _ _ (by rw [add_block]; show a3.block ≠ w.heap.size + 1; omega))]
      exact d2
    have d2b : ∀ u u' : Value, ((W2.setCell ⟨w.heap.size + 1, 0, none⟩ u).setCell ⟨w.heap.size + 1, 1, none⟩ u').cell? (a3.add j) = some (.int .i64 b) := fun u u' => by
      rw [World.cell?_of_block (w := W2.setCell ⟨w.heap.size + 1, 0, none⟩ u) (Below.heap_setCell _ _ _ _ (by rw [add_block]; show a3.block ≠ w.heap.size + 1; omega))]
      exact d2a u
    go_wp2
    go_region
    all_goals go_wp2
    all_goals
      refine bodyPost_ret (v := .tuple #[.agg #[.slice (some ad) nF c, .int .i64 cnt], .int .i64 b, .int .i64 0]) (by simp [results, Try.results23, go_sem, *]) rfl ⟨_, rfl, ?_, ?_⟩
      · have hge : Grew w (((W2.setCell ⟨w.heap.size + 1, 0, none⟩ (.slice (some ad) nF c)).setCell ⟨w.heap.size + 1, 1, none⟩ (.int .i64 cnt)).drew) := (Below.setCell (Below.setCell G2.out (p := ⟨w.heap.size + 1, 0, none⟩) (by simp) _) (p := ⟨w.heap.size + 1, 1, none⟩) (by simp) _).drew
        exact HV.out.grew hge
      · exact (Below.setCell (Below.setCell G2.out (p := ⟨w.heap.size + 1, 0, none⟩) (by simp) _) (p := ⟨w.heap.size + 1, 1, none⟩) (by simp) _).drew
  · rw [e1, e2, e3, e4]
    rw [hw] at h1
    have hil : i < nF := by rw [← HN.out]; exact (List.getElem?_eq_some_iff.1 hf).1
    have hilz : (i : Int) < (nF : Int) := by omega
    have hi0 : ¬ (i : Int) < 0 := by omega
    have hi0d : decide ((i : Int) < 0) = false := decide_eq_false hi0
    have hi1 : ¬ (nF : Int) ≤ (i : Int) := by omega
    have hi1d : decide ((nF : Int) ≤ (i : Int)) = false := decide_eq_false hi1
    have hi1e : decide (nF ≤ i) = false := decide_eq_false (by omega)
    have HF : Hid (fs[i]? = some f) := hf
    obtain ⟨ad, hada, xa0, xc0, hra, hce⟩ := HR.out i f hf
    subst hada
    have HRA : Hid (RowAt blE w (.slice xa0 f.bl.length xc0) f.bl) := hra
    have HCE : Hid (∀ W, Grew w W → FlCells W (ad.add (i * 2)) f.size (.slice xa0 f.bl.length xc0)) := hce
    have hnb := hra.short
    obtain ⟨_, _, heq, hnum⟩ := hra.nums
    cases heq
    have HNUM : Hid (NumRows w xa0 f.bl) := hnum
    obtain ⟨nb, HNB⟩ : ∃ nb, Hid (f.bl.length = nb) := ⟨_, rfl⟩
    rw [HNB.out] at HCE hnb HRA
    clear hra hce hnum hf
    have hjl : j < nb := by rw [← HNB.out]; exact (List.getElem?_eq_some_iff.1 hj).1
    have hjz : (j : Int) < (nb : Int) := by omega
    have hj0 : ¬ (j : Int) < 0 := by omega
    have hj0d : decide ((j : Int) < 0) = false := decide_eq_false hj0
    have hj1 : ¬ (nb : Int) ≤ (j : Int) := by omega
    have hj1d : decide ((nb : Int) ≤ (j : Int)) = false := decide_eq_false hj1
    have hj1e : decide (nb ≤ j) = false := decide_eq_false (by omega)
    obtain ⟨a3, ha3, hl3⟩ := HNUM.out j _ hj
    subst ha3
    have HCB : Hid (∀ W, Grew w W → W.cell? (a3.add j) = some (.int .i64 (-1))) := hl3
    clear hl3 hj
    have h80 := ((stW_zero fs cnt).1 hw).1
    obtain ⟨mc, hmc⟩ : ∃ mc : Nat, cnt = (mc : Int) := ⟨cnt.toNat, by omega⟩
    subst hmc
    have hmc80 : mc ≤ 80 := by omega
    have H5 : Hid (fs.length ≤ 5) := h80.1
    have h3 : ∀ (q : Nat) W, Grew w W → Calls Try.prog 24 #[.agg #[.slice (some ad) nF c, .int .i64 (mc : Int)], .int .i64 (q : Int)] W fun e w' => e = .returned (.bool (usedB fs (q : Int))) ∧ Grew W w' := fun q W hW => used_any _ fs (mc : Int) (q : Int) W (HV.out.at.grew hW)
    have HUS : Hid (∀ q, q < mc → usedB fs (q : Int) = true) := left_none hlf
    clear e1 e2 e3 e4 hw h80 hlf
    go_enter Try.func23, Try.ntmps23
    go_wp2_with fail
    rw [HW0.out]
    refine (h1 _ HG0.out).mono ?_
    rintro e W1 ⟨rfl, g1⟩
    have G1 : Hid (Grew w W1) := HG0.out.trans g1
    have X1 : Hid (Box W1 w.heap.size [.slice (some ad) nF c, .int .i64 (mc : Int)]) := X0.out.grew g1
    have Y1 : Hid (Box W1 (w.heap.size + 1) [.slice none 0 0, .int .i64 0]) := Y0.out.grew g1
    clear g1 h1
    have x0 := X1.out.c 0 rfl
    have x1 := X1.out.c 1 rfl
    obtain ⟨d0, d1⟩ := HCE.out W1 G1.out
    go_upto_region 7 with fail
    obtain ⟨pf, hpf⟩ : ∃ pf, W1.heap.size = pf := ⟨_, rfl⟩
    obtain ⟨W2, hW2⟩ : ∃ W2, W1.alloc (.cells #[.int .i64 f.size, .slice (some a3) nb xc0] 50) = W2 := ⟨_, rfl⟩
    have G12 : Hid (Grew W1 W2) := show Grew _ _ by rw [← hW2]; exact grew_alloc _ _
    have P2 : Hid (Box W2 pf [.int .i64 f.size, .slice (some a3) nb xc0]) := show Box _ _ _ by rw [← hW2]; exact Box.top _ _ _ hpf.symm
    have HPF : Hid (W1.heap.size = pf) := hpf
    have HWB : Hid (w.heap.size + 2 ≤ pf) := show _ ≤ _ by rw [← hpf]; exact Y1.out.lt
    have G2 : Hid (Grew w W2) := G1.out.trans G12.out
    have X2 : Hid (Box W2 w.heap.size [.slice (some ad) nF c, .int .i64 (mc : Int)]) := X1.out.grew G12.out
    have Y2 : Hid (Box W2 (w.heap.size + 1) [.slice none 0 0, .int .i64 0]) := Y1.out.grew G12.out
    rw [hW2]
    rw [hpf]
    clear hW2 hpf x0 x1 d0 d1
    have p0 := P2.out.c 0 rfl
    have p1 := P2.out.c 1 rfl
    have d2 := HCB.out W2 G2.out
    go_wp2
    go_loopg [11] mc (fun gg s11 wr => ∃ kk : Nat, kk ≤ mc ∧ mc - kk ≤ gg ∧ s11 = .int .i64 kk ∧ Hid (Grew W2 wr))
    case atStart => exact ⟨0, Nat.zero_le _, by omega, rfl, Grew.refl _⟩
    case round =>
      obtain ⟨kk, hkk, hgg, rfl, BW⟩ := hrel
      clear p0 p1 d2
      have GW : Hid (Grew w wr) := G2.out.trans BW.out
      have x0 := (X2.out.grew BW.out).c 0 rfl
      have x1 := (X2.out.grew BW.out).c 1 rfl
      by_cases hlt : kk < mc
      · have hltz : (kk : Int) < (mc : Int) := by omega
        have hc3 := h3 kk wr GW.out
        rw [HUS.out kk hlt] at hc3
        go_wp2_with fail
        refine hc3.mono ?_
        rintro e W3 ⟨rfl, g3⟩
        have G3 : Hid (Grew W2 W3) := BW.out.trans g3
        clear g3 hc3 x0 x1
        go_wp2
        go_roundg (mc - (kk + 1))
        case measure => omega
        case rel => exact ⟨kk + 1, by omega, by omega, by go_num, G3.out⟩
      · have hltz : ¬ (kk : Int) < (mc : Int) := by omega
        have Y3 : Hid (Box wr (w.heap.size + 1) [.slice none 0 0, .int .i64 0]) := Y2.out.grew BW.out
        have y0 := Y3.out.c 0 rfl
        have y1 := Y3.out.c 1 rfl
        have yf := Y3.out.f
        go_wp2
        refine bodyPost_ret (v := .tuple #[.agg #[.slice none 0 0, .int .i64 0], .int .i64 0, .int .i64 10]) (by simp [results, Try.results23, go_sem, *]) rfl ⟨_, rfl, FilesD.nil _ _, ?_⟩
        exact Below.setCell (Below.setCell GW.out (p := ⟨w.heap.size + 1, 0, none⟩) (by simp) _) (p := ⟨w.heap.size + 1, 1, none⟩) (by simp) _
  · rw [e1, e2, e3, e4]
    rw [hw] at h1
    have hil : i < nF := by rw [← HN.out]; exact (List.getElem?_eq_some_iff.1 hf).1
    have hilz : (i : Int) < (nF : Int) := by omega
    have hi0 : ¬ (i : Int) < 0 := by omega
    have hi0d : decide ((i : Int) < 0) = false := decide_eq_false hi0
    have hi1 : ¬ (nF : Int) ≤ (i : Int) := by omega
    have hi1d : decide ((nF : Int) ≤ (i : Int)) = false := decide_eq_false hi1
    have hi1e : decide (nF ≤ i) = false := decide_eq_false (by omega)
    have HF : Hid (fs[i]? = some f) := hf
    obtain ⟨ad, hada, xa0, xc0, hra, hce⟩ := HR.out i f hf
    subst hada
    have HRA : Hid (RowAt blE w (.slice xa0 f.bl.length xc0) f.bl) := hra
    have HCE : Hid (∀ W, Grew w W → FlCells W (ad.add (i * 2)) f.size (.slice xa0 f.bl.length xc0)) := hce
    have hnb := hra.short
    obtain ⟨_, _, heq, hnum⟩ := hra.nums
    cases heq
    have HNUM : Hid (NumRows w xa0 f.bl) := hnum
    obtain ⟨nb, HNB⟩ : ∃ nb, Hid (f.bl.length = nb) := ⟨_, rfl⟩
    rw [HNB.out] at HCE hnb HRA
    clear hra hce hnum hf
    have hjl : j < nb := by rw [← HNB.out]; exact (List.getElem?_eq_some_iff.1 hj).1
    have hjz : (j : Int) < (nb : Int) := by omega
    have hj0 : ¬ (j : Int) < 0 := by omega
    have hj0d : decide ((j : Int) < 0) = false := decide_eq_false hj0
    have hj1 : ¬ (nb : Int) ≤ (j : Int) := by omega
    have hj1d : decide ((nb : Int) ≤ (j : Int)) = false := decide_eq_false hj1
    have hj1e : decide (nb ≤ j) = false := decide_eq_false (by omega)
    obtain ⟨a3, ha3, hl3⟩ := HNUM.out j _ hj
    subst ha3
    have HCB : Hid (∀ W, Grew w W → W.cell? (a3.add j) = some (.int .i64 (-1))) := hl3
    clear hl3 hj
    have h80 := ((stW_zero fs cnt).1 hw).1
    obtain ⟨mc, hmc⟩ : ∃ mc : Nat, cnt = (mc : Int) := ⟨cnt.toNat, by omega⟩
    subst hmc
    have hmc80 : mc ≤ 80 := by omega
    have H5 : Hid (fs.length ≤ 5) := h80.1
    have h3 : ∀ (q : Nat) W, Grew w W → Calls Try.prog 24 #[.agg #[.slice (some ad) nF c, .int .i64 (mc : Int)], .int .i64 (q : Int)] W fun e w' => e = .returned (.bool (usedB fs (q : Int))) ∧ Grew W w' := fun q W hW => used_any _ fs (mc : Int) (q : Int) W (HV.out.at.grew hW)
    obtain ⟨hbm, hub, hus⟩ := left_first hlf
    have HUS : Hid (∀ q, q < b → usedB fs (q : Int) = true) := hus
    have HUB : Hid (usedB fs (b : Int) = false) := hub
    have hok := ((stW_zero fs (mc : Int)).1 hw).2.1 f (List.mem_of_getElem? HF.out)
    have hnb12 : nb ≤ 12 := by
      have h1 := cntP_nat hok.1.1 hok.1.2
      have h2 := hok.2.1
      rw [HNB.out] at h2
      omega
    clear e1 e2 e3 e4 hw h80 hlf hus hub hok
    go_enter Try.func23, Try.ntmps23
    go_wp2_with fail
    rw [HW0.out]
    refine (h1 _ HG0.out).mono ?_
    rintro e W1 ⟨rfl, g1⟩
    have G1 : Hid (Grew w W1) := HG0.out.trans g1
    have X1 : Hid (Box W1 w.heap.size [.slice (some ad) nF c, .int .i64 (mc : Int)]) := X0.out.grew g1
    have Y1 : Hid (Box W1 (w.heap.size + 1) [.slice none 0 0, .int .i64 0]) := Y0.out.grew g1
    clear g1 h1
    have x0 := X1.out.c 0 rfl
    have x1 := X1.out.c 1 rfl
    obtain ⟨d0, d1⟩ := HCE.out W1 G1.out
    go_upto_region 7 with fail
    obtain ⟨pf, hpf⟩ : ∃ pf, W1.heap.size = pf := ⟨_, rfl⟩
    obtain ⟨W2, hW2⟩ : ∃ W2, W1.alloc (.cells #[.int .i64 f.size, .slice (some a3) nb xc0] 50) = W2 := ⟨_, rfl⟩
    have G12 : Hid (Grew W1 W2) := show Grew _ _ by rw [← hW2]; exact grew_alloc _ _
    have P2 : Hid (Box W2 pf [.int .i64 f.size, .slice (some a3) nb xc0]) := show Box _ _ _ by rw [← hW2]; exact Box.top _ _ _ hpf.symm
    have HPF : Hid (W1.heap.size = pf) := hpf
    have HWB : Hid (w.heap.size + 2 ≤ pf) := show _ ≤ _ by rw [← hpf]; exact Y1.out.lt
    have G2 : Hid (Grew w W2) := G1.out.trans G12.out
    have X2 : Hid (Box W2 w.heap.size [.slice (some ad) nF c, .int .i64 (mc : Int)]) := X1.out.grew G12.out
    have Y2 : Hid (Box W2 (w.heap.size + 1) [.slice none 0 0, .int .i64 0]) := Y1.out.grew G12.out
    rw [hW2]
    rw [hpf]
    clear hW2 hpf x0 x1 d0 d1
    have p0 := P2.out.c 0 rfl
    have p1 := P2.out.c 1 rfl
    have d2 := HCB.out W2 G2.out
    go_wp2
    go_loopg [11] mc (fun gg s11 wr => ∃ kk : Nat, kk ≤ b ∧ mc - kk ≤ gg ∧ s11 = .int .i64 kk ∧ Hid (Grew W2 wr))
    case atStart => exact ⟨0, Nat.zero_le _, by omega, rfl, Grew.refl _⟩
    case round =>
      obtain ⟨kk, hkk, hgg, rfl, BW⟩ := hrel
      clear p0 p1 d2
      have GW : Hid (Grew w wr) := G2.out.trans BW.out
      have x0 := (X2.out.grew BW.out).c 0 rfl
      have x1 := (X2.out.grew BW.out).c 1 rfl
      by_cases hlt : kk < b
      · have hltz : (kk : Int) < (mc : Int) := by omega
        have hc3 := h3 kk wr GW.out
        rw [HUS.out kk hlt] at hc3
        go_wp2_with fail
        refine hc3.mono ?_
        rintro e W3 ⟨rfl, g3⟩
        have G3 : Hid (Grew W2 W3) := BW.out.trans g3
        clear g3 hc3 x0 x1
        go_wp2
        go_roundg (mc - (kk + 1))
        case measure => omega
        case rel => exact ⟨kk + 1, by omega, by omega, by go_num, G3.out⟩
      · have : kk = b := by omega
        subst this
        have hltz : (kk : Int) < (mc : Int) := by omega
        have hc3 := h3 kk wr GW.out
        rw [HUB.out] at hc3
        go_wp2_with fail
        refine hc3.mono ?_
        rintro e W3 ⟨rfl, g3⟩
        have G3 : Hid (Grew W2 W3) := BW.out.trans g3
        have GW3 : Hid (Grew w W3) := G2.out.trans G3.out
        have P3 : Hid (Box W3 pf [.int .i64 f.size, .slice (some a3) nb xc0]) := P2.out.grew G3.out
        have HPL : Hid (pf < W3.heap.size) := P3.out.lt
        clear g3 hc3 x0 x1
        have p1a : ∀ o : Obj, (W3.alloc o).cell? ⟨pf, 1, none⟩ = some (.slice (some a3) nb xc0) := fun o => (P3.out.alloc o).c 1 rfl
        have p1 := P3.out.c 1 rfl
        go_wp2_with (at_builtin; refine wpList_append_row (E := blE) rfl (.tmp 66) (.tmp 68) rfl W3.heap.size _ [] rfl (OwnRow.made blE W3) _ f.bl rfl (HRA.out.grew (GW3.out.trans (grew_alloc _ _))) ?qb (by simp) ?_)
        case qb =>
          rw [List.length_nil, Nat.zero_add, HNB.out]
          show nb * 8 ≤ _
          omega
        intro v4 W4 ow4 gr4
        try rw [List.nil_append] at ow4
        obtain ⟨g, lc, rfl⟩ := ow4.formS (by rw [HNB.out]; omega)
        rw [HNB.out] at ow4 ⊢
        have O4 : Hid (OwnRow blE W3.heap.size W4 (.slice (some ⟨g, 0, none⟩) nb lc) f.bl) := ow4
        have G34 : Hid (Grew W3 W4) := show Grew _ _ from grew_beside (grew_alloc _ _) gr4 (fun g hg => by simp [Value.ownBlock] at hg; omega)
        clear ow4 gr4 p1 p1a
        go_wp2_with (refine wpList_store_elt (E := blE) rfl (.tmp 73) (.tmp 72) rfl W3.heap.size _ f.bl O4.out g j rfl (kk : Int) ?t1 ⟨g, j, none⟩ rfl ?t2 (.int .i64 (kk : Int)) rfl rfl ?_)
        case t1 => rw [HNB.out]; exact hjl
        case t2 => first | exact (Nat.mul_one j).symm | (show _ = Addr.mk g (j * 1) none; rw [Nat.mul_one])
        intro W5 ow5 gr5 _
        have hgb : W3.heap.size ≤ g := (O4.out.lt g rfl).1
        have O5 : Hid (OwnRow blE W3.heap.size W5 (.slice (some ⟨g, 0, none⟩) nb lc) (f.bl.set j (kk : Int))) := ow5
        have G35 : Hid (Grew W3 W5) := show Grew _ _ from grew_grown G34.out gr5 hgb
        have G5 : Hid (Grew w W5) := GW3.out.trans G35.out
        clear ow5 gr5
        obtain ⟨D', HD'⟩ : ∃ D' : Nat → Prop, Hid (∀ k, D' k ↔ D k ∨ k = w.heap.size + 1) := ⟨fun k => D k ∨ k = w.heap.size + 1, fun _ => Iff.rfl⟩
        have HLB : Hid ((f.bl.set j (kk : Int)).length = nb) := show _ = _ by rw [List.length_set]; exact HNB.out
        have RW : Hid (RowD blE D' W5 (.slice (some ⟨g, 0, none⟩) nb lc) (f.bl.set j (kk : Int))) := show RowD _ _ _ _ _ from O5.out.new.staysD (fun q hq => by
          have := HWB.out
          have := HPL.out
          rcases (HD'.out q).1 hq with h | h
          · have := HB.out q h; omega
          · omega)
        have hwf := withFile_any (.slice (some ad) nF c) fs (mc : Int) i f.size (some ⟨g, 0, none⟩) lc (f.bl.set j (kk : Int)) D' W5 (HV.out.more G5.out (fun q hq => by
          rcases (HD'.out q).1 hq with h | h
          · exact .inl h
          · exact .inr (by omega))) (by rw [HLB.out]; exact RW.out) (by rw [HN.out]; exact hil) (fun q hq => by
          have := HWB.out
          have := HPL.out
          have := Below.size G35.out
          rcases (HD'.out q).1 hq with h | h
          · have := HB.out q h; omega
          · omega) H5.out
        rw [HLB.out] at hwf
        have x0 := (X2.out.grew (G3.out.trans G35.out)).c 0 rfl
        have x1 := (X2.out.grew (G3.out.trans G35.out)).c 1 rfl
        have p0 := (P3.out.grew G35.out).c 0 rfl
        go_wp2_with fail
        refine hwf.mono ?_
        rintro e W6 ⟨vb, rfl, f6, g6⟩
        have F6 : Hid (FilesD D' W6 vb (fs.set i ⟨f.size, f.bl.set j (kk : Int)⟩)) := f6
        obtain ⟨ba, bc, rfl, _, _⟩ := f6.at.rows
        have Y6 : Hid (Box W6 (w.heap.size + 1) [.slice none 0 0, .int .i64 0]) := ((Y2.out.grew G3.out).grew G35.out).grew g6
        have G6 : Hid (Grew w W6) := G5.out.trans g6
        rw [List.length_set, HN.out] at F6 ⊢
        clear f6 g6 hwf p0 x0 x1
        have y0 := Y6.out.c 0 rfl
        have y1 := Y6.out.c 1 rfl
        have yf := Y6.out.f
        go_wp2
        have HGE : Grew w ((W6.setCell ⟨w.heap.size + 1, 0, none⟩ (.slice ba nF bc)).setCell ⟨w.heap.size + 1, 1, none⟩ (.int .i64 (mc : Int))) := Below.setCell (Below.setCell G6.out (p := ⟨w.heap.size + 1, 0, none⟩) (by simp) _) (p := ⟨w.heap.size + 1, 1, none⟩) (by simp) _
        refine bodyPost_ret (v := .tuple #[.agg #[.slice ba nF bc, .int .i64 (mc : Int)], .int .i64 (kk : Int), .int .i64 0]) (by simp [results, Try.results23, go_sem, *]) rfl ⟨_, rfl, (F6.out.two ((HD'.out _).2 (.inr rfl)) _ _).less (fun q hq => (HD'.out q).2 (.inl hq)), HGE⟩

end Go.Proofs.Ytagpmjgmohfmjac
