/- Contract of Block (package store). -/
import Derived.Test.YtagpmjgmohfmjacStSize
import Derived.Test.YtagpmjgmohfmjacStLeft
namespace Go.Proofs.Ytagpmjgmohfmjac
open Go.RowKit

theorem leftTo_cnt {fs : List Fl} {m : Nat} : leftTo fs m = (leftL fs (m : Int)).map fun (b : Nat) => (b : Int) := leftTo_all fs m

set_option maxRecDepth 100000 in
set_option maxHeartbeats 1000000 in
theorem blockSt_any (v : Value) (fs : List Fl) (cnt k x : Int) (w : World) (hv : FilesAt w v fs) :
    Calls Try.prog 22 #[.agg #[v, .int .i64 cnt], .int .i64 k, .int .i64 x] w fun e w' => ∃ b, e = .returned (.tuple #[.agg #[b, .int .i64 (blkC fs cnt k x)], .int .i64 (blkI fs cnt k x), .int .i64 (blkE fs cnt k x)]) ∧ FilesS 0 w.heap.size w' b (blkF fs cnt k x) ∧ Grew w w' := by
  have h1 : ∀ W, Grew w W → Calls Try.prog 39 #[.agg #[v, .int .i64 cnt], .int .i64 k] W fun e w' => e = .returned (.int .i64 (numW fs cnt k)) ∧ Grew W w' := fun W hW => wrongNum_any v fs cnt k W (hv.grew hW)
  have h2 : ∀ W, Grew w W → Calls Try.prog 17 #[.agg #[v, .int .i64 cnt]] W fun e w' => ∃ b, e = .returned (.agg #[b, .int .i64 cnt]) ∧ OwnFiles (W.heap.size + 2) w' b fs ∧ Grew W w' ∧ W.heap.size + 2 ≤ w'.heap.size := fun W hW => ownSt_any v fs cnt W (hv.grew hW)
  have HV : Hid (FilesAt w v fs) := hv
  obtain ⟨a, c, rfl, hbig, hrow⟩ := hv.rows
  have HR : Hid (FlRows w a fs) := hrow
  clear hv hrow
  obtain ⟨nF, HN⟩ : ∃ nF, Hid (fs.length = nF) := ⟨_, rfl⟩
  rw [HN.out] at h1 h2 hbig HV ⊢
  obtain ⟨W0, hW0⟩ : ∃ W0, (w.alloc (.cells #[.slice a nF c, .int .i64 cnt] 36)).alloc (.cells #[.slice none 0 0, .int .i64 0] 36) = W0 := ⟨_, rfl⟩
  have HG0 : Hid (Grew w W0) := show Grew w W0 by rw [← hW0]; exact (grew_alloc _ _).trans (grew_alloc _ _)
  have X0 : Hid (Box W0 w.heap.size [.slice a nF c, .int .i64 cnt]) := show Box _ _ _ by rw [← hW0]; exact (Box.top w _ _ rfl).alloc _
  have Y0 : Hid (Box W0 (w.heap.size + 1) [.slice none 0 0, .int .i64 0]) := show Box _ _ _ by rw [← hW0]; exact Box.top _ _ _ (by simp)
  have HW0 : Hid (_ = W0) := hW0
  clear hW0
  have bad : ∀ z : Int, z ≠ 0 → (∀ W, Grew w W → Calls Try.prog 39 #[.agg #[.slice a nF c, .int .i64 cnt], .int .i64 k] W fun e w' => e = .returned (.int .i64 z) ∧ Grew W w') → Calls Try.prog 22 #[.agg #[.slice a nF c, .int .i64 cnt], .int .i64 k, .int .i64 x] w fun e w' => ∃ b, e = .returned (.tuple #[.agg #[b, .int .i64 0], .int .i64 0, .int .i64 z]) ∧ FilesS 0 w.heap.size w' b [] ∧ Grew w w' := fun z hz h1 => by
    have hzb : (z != 0) = true := by simpa using hz
    clear h2
    go_enter Try.func22, Try.ntmps22
    go_wp2_with fail
    rw [HW0.out]
    refine (h1 _ HG0.out).mono ?_
    rintro e W1 ⟨rfl, g1⟩
    have G1 : Hid (Grew w W1) := HG0.out.trans g1
    have Y1 := Y0.out.grew g1
    have y0 := Y1.c 0 rfl
    have y1 := Y1.c 1 rfl
    have yf := Y1.f
    clear Y1 g1 h1
    go_wp2
    refine bodyPost_ret (v := .tuple #[.agg #[.slice none 0 0, .int .i64 0], .int .i64 0, .int .i64 z]) (by simp [results, Try.results22, go_sem, *]) rfl ⟨_, rfl, FilesS.nil _ _ _, ?_⟩
    exact Below.setCell (Below.setCell G1.out (p := ⟨w.heap.size + 1, 0, none⟩) (by simp) _) (p := ⟨w.heap.size + 1, 1, none⟩) (by simp) _
  rcases blk_cases fs cnt k x with ⟨hw, e1, e2, e3, e4⟩ | ⟨hw, hk, e1, e2, e3, e4⟩ | ⟨hw, i, f, rfl, hf, hn, e1, e2, e3, e4⟩ | ⟨hw, i, f, j, b, rfl, hf, rfl, hj, hb0, hbc, e1, e2, e3, e4⟩ | ⟨hw, i, f, j, rfl, hf, rfl, hj, hlf, e1, e2, e3, e4⟩ | ⟨hw, i, f, j, b, l, rfl, hf, rfl, hj, hlf, e1, e2, e3, e4⟩
  · rw [e1, e2, e3, e4]
    rw [numW_bad hw] at h1
    exact bad _ hw h1
  · rw [e1, e2, e3, e4]
    rw [numW_none hw hk] at h1
    exact bad _ (by decide) h1
  · rw [e1, e2, e3, e4]
    rw [numW_ok hw hf] at h1
    have hil : i < nF := by rw [← HN.out]; exact (List.getElem?_eq_some_iff.1 hf).1
    have hilz : (i : Int) < (nF : Int) := by omega
    obtain ⟨ad, hada, xa0, xc0, hra, hce⟩ := HR.out i f hf
    subst hada
    have HCE : Hid (∀ W, Grew w W → FlCells W (ad.add (i * 2)) f.size (.slice xa0 f.bl.length xc0)) := hce
    clear hce hra bad
    obtain ⟨nb, HNB⟩ : ∃ nb, Hid (f.bl.length = nb) := ⟨_, rfl⟩
    have HF : Hid (fs[i]? = some f) := hf
    clear hf
    rw [HNB.out] at HCE
    have hb := fun W => below_no hn W
    rw [HNB.out] at hb
    clear e1 e2 e3 e4 h2 hw hn
    go_enter Try.func22, Try.ntmps22
    go_wp2_with fail
    rw [HW0.out]
    refine (h1 _ HG0.out).mono ?_
    rintro e W1 ⟨rfl, g1⟩
    have G1 : Hid (Grew w W1) := HG0.out.trans g1
    have x0 := (X0.out.grew g1).c 0 rfl
    obtain ⟨d0, d1⟩ := HCE.out W1 G1.out
    have Y1 := Y0.out.grew g1
    have y0 := Y1.c 0 rfl
    have y1 := Y1.c 1 rfl
    have yf := Y1.f
    clear Y1 g1 h1
    go_wp2_with (go_at_call 33; refine (hb _).mono ?_; rintro e w' ⟨rfl, hw'⟩; rw [hw']; clear hw' w')
    refine bodyPost_ret (v := .tuple #[.agg #[.slice none 0 0, .int .i64 0], .int .i64 0, .int .i64 9]) (by simp [results, Try.results22, go_sem, *]) rfl ⟨_, rfl, FilesS.nil _ _ _, ?_⟩
    exact Below.setCell (Below.setCell G1.out (p := ⟨w.heap.size + 1, 0, none⟩) (by simp) _) (p := ⟨w.heap.size + 1, 1, none⟩) (by simp) _
  · rw [e1, e2, e3, e4]
    rw [numW_ok hw hf] at h1
    have hil : i < nF := by rw [← HN.out]; exact (List.getElem?_eq_some_iff.1 hf).1
    have hilz : (i : Int) < (nF : Int) := by omega
    obtain ⟨ad, hada, xa0, xc0, hra, hce⟩ := HR.out i f hf
    subst hada
    have HCE : Hid (∀ W, Grew w W → FlCells W (ad.add (i * 2)) f.size (.slice xa0 f.bl.length xc0)) := hce
    clear hce hra bad
    obtain ⟨nb, HNB⟩ : ∃ nb, Hid (f.bl.length = nb) := ⟨_, rfl⟩
    have HF : Hid (fs[i]? = some f) := hf
    clear hf
    rw [HNB.out] at HCE
    have hjl : j < nb := by rw [← HNB.out]; exact (List.getElem?_eq_some_iff.1 hj).1
    have hjz : (j : Int) < (nb : Int) := by omega
    have hb := fun W => below_yes (m := (j : Int)) (n := (nb : Int)) (by omega) (by omega) W
    have HJ : Hid (f.bl[j]? = some b) := hj
    have hbb : (b == -1) = false := by simp; omega
    clear hb0 hbc
    clear e1 e2 e3 e4 hw hj
    go_enter Try.func22, Try.ntmps22
    go_wp2_with fail
    rw [HW0.out]
    refine (h1 _ HG0.out).mono ?_
    rintro e W1 ⟨rfl, g1⟩
    have G1 : Hid (Grew w W1) := HG0.out.trans g1
    have X1 : Hid (Box W1 w.heap.size [.slice (some ad) nF c, .int .i64 cnt]) := X0.out.grew g1
    have Y1 : Hid (Box W1 (w.heap.size + 1) [.slice none 0 0, .int .i64 0]) := Y0.out.grew g1
    have x0 := X1.out.c 0 rfl
    have x1 := X1.out.c 1 rfl
    obtain ⟨d0, d1⟩ := HCE.out W1 G1.out
    clear g1 h1 X0 Y0
    go_wp2_with (go_at_call 33; refine (hb _).mono ?_; rintro e w' ⟨rfl, hw'⟩; rw [hw']; clear hw' w')
    refine (h2 _ G1.out).mono ?_
    rintro e W2 ⟨b1, rfl, of2, g2, s2⟩
    have HB2 : Hid (w.heap.size + 2 ≤ W1.heap.size) := Y1.out.lt
    obtain ⟨xs, k1, k2, k3, k4⟩ := of2
    obtain ⟨q, hx⟩ : ∃ q, xs[i]? = some q := ⟨_, List.getElem?_eq_getElem (by rw [k2, HN.out]; exact hil)⟩
    obtain ⟨G, bc, rfl⟩ := k1.formS (by rw [k2, HN.out]; omega)
    rw [k2, HN.out] at k1 ⊢
    obtain ⟨q1, q2⟩ := k3 i q f hx HF.out
    obtain ⟨xs0, xa, xn, xc⟩ := q
    obtain ⟨g, qc, q3⟩ := q2.formS (by rw [HNB.out]; omega)
    rw [HNB.out] at q3
    have q4 : Value.slice xa xn xc = .slice (some ⟨g, 0, none⟩) nb qc := q3
    cases q4
    have HX : Hid (xs[i]? = some ⟨xs0, some ⟨g, 0, none⟩, nb, xc⟩) := hx
    have HXS : Hid (xs0 = f.size) := q1
    have K1 : Hid (OwnRow fvE (W1.heap.size + 2) W2 (.slice (some ⟨G, 0, none⟩) nF bc) xs) := k1
    have K2 : Hid (xs.length = fs.length) := k2
    have K3 : Hid (∀ (i : Nat) x f, xs[i]? = some x → fs[i]? = some f → x.size = f.size ∧ OwnRow blE (W1.heap.size + 2) W2 x.v f.bl) := k3
    have K4 : Hid (∀ (i j : Nat) x y, i ≠ j → xs[i]? = some x → xs[j]? = some y → ∀ g, x.v.ownBlock = some g → y.v.ownBlock ≠ some g) := k4
    have KX : Hid (OwnRow blE (W1.heap.size + 2) W2 (.slice (some ⟨g, 0, none⟩) nb xc) f.bl) := q2
    have G2 : Hid (Grew w W2) := G1.out.trans g2
    have HS2 : Hid (W1.heap.size + 2 ≤ W2.heap.size) := s2
    have G12 : Hid (Grew W1 W2) := g2
    clear g2 s2 h2 x0 x1 d0 d1 k1 k2 k3 k4 q1 q2 q3 hx hb
    go_upto_region 7 with fail
    obtain ⟨po, hpo⟩ : ∃ po, W2.heap.size = po := ⟨_, rfl⟩
    obtain ⟨W3, hW3⟩ : ∃ W3, W2.alloc (.cells #[.slice (some ⟨G, 0, none⟩) nF bc, .int .i64 cnt] 36) = W3 := ⟨_, rfl⟩
    have G23 : Hid (Grew W2 W3) := show Grew _ _ by rw [← hW3]; exact grew_alloc _ _
    have P3 : Hid (BoxT W3 po 36 [.slice (some ⟨G, 0, none⟩) nF bc, .int .i64 cnt]) := show BoxT _ _ _ _ by rw [← hW3]; exact BoxT.top _ _ _ hpo.symm
    have X3 : Hid (Box W3 w.heap.size [.slice (some ad) nF c, .int .i64 cnt]) := (X1.out.grew G12.out).grew G23.out
    have Y3 : Hid (Box W3 (w.heap.size + 1) [.slice none 0 0, .int .i64 0]) := (Y1.out.grew G12.out).grew G23.out
    have HPO : Hid (W1.heap.size + 2 ≤ po) := show _ ≤ _ by rw [← hpo]; exact HS2.out
    have HP3 : Hid (po < W3.heap.size) := P3.out.box.lt
    have G3 : Hid (Grew w W3) := G2.out.trans G23.out
    have KF3 : Hid (OwnRow fvE (W1.heap.size + 2) W3 (.slice (some ⟨G, 0, none⟩) nF bc) xs) := K1.out.grew G23.out
    have KX3 : Hid (OwnRow blE (W1.heap.size + 2) W3 (.slice (some ⟨g, 0, none⟩) nb xc) f.bl) := KX.out.grew G23.out
    rw [hW3]
    rw [hpo]
    clear hW3 hpo
    have HCX : Hid (∀ W, Grew W3 W → W.cell? ⟨G, i * 2 + 1, none⟩ = some (.slice (some ⟨g, 0, none⟩) nb xc)) := show ∀ W, _ from fun W hW => by
      obtain ⟨a0, c0, hsl, hrows⟩ := (KF3.out.grew hW).at.rows
      obtain ⟨ad, had, hce⟩ := hrows i _ HX.out
      cases hsl
      cases had
      have := hce _ (Grew.refl _) 1 _ rfl
      rw [add_add', Addr.add_lit, Nat.zero_add] at this
      exact this
    have HCB : Hid (∀ W, Grew W3 W → W.cell? ⟨g, j, none⟩ = some (.int .i64 b)) := show ∀ W, _ from fun W hW => by
      obtain ⟨a0, c0, hsl, hrows⟩ := (KX3.out.grew hW).at.nums
      obtain ⟨ad, had, hce⟩ := hrows j _ HJ.out
      cases hsl
      cases had
      have := hce _ (Grew.refl _)
      rw [Addr.add_lit, Nat.zero_add] at this
      exact this
    have p0 := P3.out.box.c 0 rfl
    have d1 := HCX.out W3 (Grew.refl _)
    have d2 := HCB.out W3 (Grew.refl _)
    have F3 : Hid (FilesS 0 (W1.heap.size + 2) W3 (.slice (some ⟨G, 0, none⟩) nF bc) fs) := show FilesS _ _ _ _ _ from (OwnFiles.grew ⟨xs, K1.out, K2.out, K3.out, K4.out⟩ G23.out).new
    have p1 := P3.out.box.c 1 rfl
    have y0 := Y3.out.c 0 rfl
    have y1 := Y3.out.c 1 rfl
    have yf := Y3.out.f
    have hne2 : po ≠ w.heap.size + 1 := by have := HPO.out; have := HB2.out; omega
    have hne2' : ¬ w.heap.size + 1 = po := fun e => hne2 e.symm
    have hne3 : g ≠ w.heap.size + 1 := by have := (KX3.out.lt g rfl).1; have := HB2.out; omega
    have hne3' : ¬ w.heap.size + 1 = g := fun e => hne3 e.symm
    go_wp2
    go_region
    all_goals go_wp2
    all_goals
      refine bodyPost_ret (v := .tuple #[.agg #[.slice (some ⟨G, 0, none⟩) nF bc, .int .i64 cnt], .int .i64 b, .int .i64 0]) (by simp [results, Try.results22, go_sem, *]) rfl ⟨_, rfl, ?_, ?_⟩
      · have F6 := F3.out.less (A0 := 0) (A1 := w.heap.size + 2) (Nat.le_refl _) (by have := HB2.out; omega)
        exact (((F6.out (Out.setCell _ _ _ (p := ⟨w.heap.size + 1, 0, none⟩) (Nat.zero_le _) (by simp) _)).out (Out.setCell _ _ _ (p := ⟨w.heap.size + 1, 1, none⟩) (Nat.zero_le _) (by simp) _)).less (Nat.le_refl _) (by omega)).grew (show Below _ _ _ from (Below.refl _ _).drew)
      · exact (Below.setCell (Below.setCell G3.out (p := ⟨w.heap.size + 1, 0, none⟩) (by simp) _) (p := ⟨w.heap.size + 1, 1, none⟩) (by simp) _).drew
  · rw [e1, e2, e3, e4]
    rw [numW_ok hw hf] at h1
    have hil : i < nF := by rw [← HN.out]; exact (List.getElem?_eq_some_iff.1 hf).1
    have hilz : (i : Int) < (nF : Int) := by omega
    obtain ⟨ad, hada, xa0, xc0, hra, hce⟩ := HR.out i f hf
    subst hada
    have HCE : Hid (∀ W, Grew w W → FlCells W (ad.add (i * 2)) f.size (.slice xa0 f.bl.length xc0)) := hce
    clear hce hra bad
    obtain ⟨nb, HNB⟩ : ∃ nb, Hid (f.bl.length = nb) := ⟨_, rfl⟩
    have HF : Hid (fs[i]? = some f) := hf
    clear hf
    rw [HNB.out] at HCE
    have hjl : j < nb := by rw [← HNB.out]; exact (List.getElem?_eq_some_iff.1 hj).1
    have hjz : (j : Int) < (nb : Int) := by omega
    have hb := fun W => below_yes (m := (j : Int)) (n := (nb : Int)) (by omega) (by omega) W
    have HJ : Hid (f.bl[j]? = some (-1)) := hj
    obtain ⟨mc, hmc⟩ : ∃ mc : Nat, cnt = (mc : Int) := ⟨cnt.toNat, by have := ((stW_zero fs cnt).1 hw).1; omega⟩
    subst hmc
    have hmc80 : mc ≤ 80 := by have := ((stW_zero fs (mc : Int)).1 hw).1; omega
    have h3 : ∀ W, Grew w W → Calls Try.prog 42 #[.agg #[.slice (some ad) nF c, .int .i64 (mc : Int)]] W fun e w' => ∃ b, e = .returned b ∧ OwnRow blE (W.heap.size + 1) w' b (leftTo fs mc) ∧ Grew W w' := fun W hW => left_any _ fs mc hmc80 W (HV.out.grew hW)
    rw [leftTo_cnt, hlf] at h3
    clear hmc80 hlf
    simp only [List.map_nil] at h3
    clear e1 e2 e3 e4 hw hj
    go_enter Try.func22, Try.ntmps22
    go_wp2_with fail
    rw [HW0.out]
    refine (h1 _ HG0.out).mono ?_
    rintro e W1 ⟨rfl, g1⟩
    have G1 : Hid (Grew w W1) := HG0.out.trans g1
    have X1 : Hid (Box W1 w.heap.size [.slice (some ad) nF c, .int .i64 (mc : Int)]) := X0.out.grew g1
    have Y1 : Hid (Box W1 (w.heap.size + 1) [.slice none 0 0, .int .i64 0]) := Y0.out.grew g1
    have x0 := X1.out.c 0 rfl
    have x1 := X1.out.c 1 rfl
    obtain ⟨d0, d1⟩ := HCE.out W1 G1.out
    clear g1 h1 X0 Y0
    go_wp2_with (go_at_call 33; refine (hb _).mono ?_; rintro e w' ⟨rfl, hw'⟩; rw [hw']; clear hw' w')
    refine (h2 _ G1.out).mono ?_
    rintro e W2 ⟨b1, rfl, of2, g2, s2⟩
    have HB2 : Hid (w.heap.size + 2 ≤ W1.heap.size) := Y1.out.lt
    obtain ⟨xs, k1, k2, k3, k4⟩ := of2
    obtain ⟨q, hx⟩ : ∃ q, xs[i]? = some q := ⟨_, List.getElem?_eq_getElem (by rw [k2, HN.out]; exact hil)⟩
    obtain ⟨G, bc, rfl⟩ := k1.formS (by rw [k2, HN.out]; omega)
    rw [k2, HN.out] at k1 ⊢
    obtain ⟨q1, q2⟩ := k3 i q f hx HF.out
    obtain ⟨xs0, xa, xn, xc⟩ := q
    obtain ⟨g, qc, q3⟩ := q2.formS (by rw [HNB.out]; omega)
    rw [HNB.out] at q3
    have q4 : Value.slice xa xn xc = .slice (some ⟨g, 0, none⟩) nb qc := q3
    cases q4
    have HX : Hid (xs[i]? = some ⟨xs0, some ⟨g, 0, none⟩, nb, xc⟩) := hx
    have HXS : Hid (xs0 = f.size) := q1
    have K1 : Hid (OwnRow fvE (W1.heap.size + 2) W2 (.slice (some ⟨G, 0, none⟩) nF bc) xs) := k1
    have K2 : Hid (xs.length = fs.length) := k2
    have K3 : Hid (∀ (i : Nat) x f, xs[i]? = some x → fs[i]? = some f → x.size = f.size ∧ OwnRow blE (W1.heap.size + 2) W2 x.v f.bl) := k3
    have K4 : Hid (∀ (i j : Nat) x y, i ≠ j → xs[i]? = some x → xs[j]? = some y → ∀ g, x.v.ownBlock = some g → y.v.ownBlock ≠ some g) := k4
    have KX : Hid (OwnRow blE (W1.heap.size + 2) W2 (.slice (some ⟨g, 0, none⟩) nb xc) f.bl) := q2
    have G2 : Hid (Grew w W2) := G1.out.trans g2
    have HS2 : Hid (W1.heap.size + 2 ≤ W2.heap.size) := s2
    have G12 : Hid (Grew W1 W2) := g2
    clear g2 s2 h2 x0 x1 d0 d1 k1 k2 k3 k4 q1 q2 q3 hx hb
    go_upto_region 7 with fail
    obtain ⟨po, hpo⟩ : ∃ po, W2.heap.size = po := ⟨_, rfl⟩
    obtain ⟨W3, hW3⟩ : ∃ W3, W2.alloc (.cells #[.slice (some ⟨G, 0, none⟩) nF bc, .int .i64 (mc : Int)] 36) = W3 := ⟨_, rfl⟩
    have G23 : Hid (Grew W2 W3) := show Grew _ _ by rw [← hW3]; exact grew_alloc _ _
    have P3 : Hid (BoxT W3 po 36 [.slice (some ⟨G, 0, none⟩) nF bc, .int .i64 (mc : Int)]) := show BoxT _ _ _ _ by rw [← hW3]; exact BoxT.top _ _ _ hpo.symm
    have X3 : Hid (Box W3 w.heap.size [.slice (some ad) nF c, .int .i64 (mc : Int)]) := (X1.out.grew G12.out).grew G23.out
    have Y3 : Hid (Box W3 (w.heap.size + 1) [.slice none 0 0, .int .i64 0]) := (Y1.out.grew G12.out).grew G23.out
    have HPO : Hid (W1.heap.size + 2 ≤ po) := show _ ≤ _ by rw [← hpo]; exact HS2.out
    have HP3 : Hid (po < W3.heap.size) := P3.out.box.lt
    have G3 : Hid (Grew w W3) := G2.out.trans G23.out
    have KF3 : Hid (OwnRow fvE (W1.heap.size + 2) W3 (.slice (some ⟨G, 0, none⟩) nF bc) xs) := K1.out.grew G23.out
    have KX3 : Hid (OwnRow blE (W1.heap.size + 2) W3 (.slice (some ⟨g, 0, none⟩) nb xc) f.bl) := KX.out.grew G23.out
    rw [hW3]
    rw [hpo]
    clear hW3 hpo
    have HCX : Hid (∀ W, Grew W3 W → W.cell? ⟨G, i * 2 + 1, none⟩ = some (.slice (some ⟨g, 0, none⟩) nb xc)) := show ∀ W, _ from fun W hW => by
      obtain ⟨a0, c0, hsl, hrows⟩ := (KF3.out.grew hW).at.rows
      obtain ⟨ad, had, hce⟩ := hrows i _ HX.out
      cases hsl
      cases had
      have := hce _ (Grew.refl _) 1 _ rfl
      rw [add_add', Addr.add_lit, Nat.zero_add] at this
      exact this
    have HCB : Hid (∀ W, Grew W3 W → W.cell? ⟨g, j, none⟩ = some (.int .i64 (-1))) := show ∀ W, _ from fun W hW => by
      obtain ⟨a0, c0, hsl, hrows⟩ := (KX3.out.grew hW).at.nums
      obtain ⟨ad, had, hce⟩ := hrows j _ HJ.out
      cases hsl
      cases had
      have := hce _ (Grew.refl _)
      rw [Addr.add_lit, Nat.zero_add] at this
      exact this
    have p0 := P3.out.box.c 0 rfl
    have d1 := HCX.out W3 (Grew.refl _)
    have d2 := HCB.out W3 (Grew.refl _)
    have x0 := X3.out.c 0 rfl
    have x1 := X3.out.c 1 rfl
    go_wp2_with fail
    refine (h3 _ G3.out).mono ?_
    rintro e W4 ⟨fr, rfl, ow, g4⟩
    obtain ⟨fa, fc, rfl⟩ := ow.form
    have G4 : Hid (Grew w W4) := G3.out.trans g4
    have Y4 : Hid (Box W4 (w.heap.size + 1) [.slice none 0 0, .int .i64 0]) := Y3.out.grew g4
    clear ow g4 h3 x0 x1 p0 d1 d2
    have y0 := Y4.out.c 0 rfl
    have y1 := Y4.out.c 1 rfl
    have yf := Y4.out.f
    simp only [List.length_nil]
    go_wp2
    refine bodyPost_ret (v := .tuple #[.agg #[.slice none 0 0, .int .i64 0], .int .i64 0, .int .i64 10]) (by simp [results, Try.results22, go_sem, *]) rfl ⟨_, rfl, FilesS.nil _ _ _, ?_⟩
    exact Below.setCell (Below.setCell G4.out (p := ⟨w.heap.size + 1, 0, none⟩) (by simp) _) (p := ⟨w.heap.size + 1, 1, none⟩) (by simp) _
  · rw [e1, e2, e3, e4]
    rw [numW_ok hw hf] at h1
    have hil : i < nF := by rw [← HN.out]; exact (List.getElem?_eq_some_iff.1 hf).1
    have hilz : (i : Int) < (nF : Int) := by omega
    obtain ⟨ad, hada, xa0, xc0, hra, hce⟩ := HR.out i f hf
    subst hada
    have HCE : Hid (∀ W, Grew w W → FlCells W (ad.add (i * 2)) f.size (.slice xa0 f.bl.length xc0)) := hce
    clear hce hra bad
    obtain ⟨nb, HNB⟩ : ∃ nb, Hid (f.bl.length = nb) := ⟨_, rfl⟩
    have HF : Hid (fs[i]? = some f) := hf
    clear hf
    rw [HNB.out] at HCE
    have hjl : j < nb := by rw [← HNB.out]; exact (List.getElem?_eq_some_iff.1 hj).1
    have hjz : (j : Int) < (nb : Int) := by omega
    have hb := fun W => below_yes (m := (j : Int)) (n := (nb : Int)) (by omega) (by omega) W
    have HJ : Hid (f.bl[j]? = some (-1)) := hj
    obtain ⟨mc, hmc⟩ : ∃ mc : Nat, cnt = (mc : Int) := ⟨cnt.toNat, by have := ((stW_zero fs cnt).1 hw).1; omega⟩
    subst hmc
    have hmc80 : mc ≤ 80 := by have := ((stW_zero fs (mc : Int)).1 hw).1; omega
    have h3 : ∀ W, Grew w W → Calls Try.prog 42 #[.agg #[.slice (some ad) nF c, .int .i64 (mc : Int)]] W fun e w' => ∃ b, e = .returned b ∧ OwnRow blE (W.heap.size + 1) w' b (leftTo fs mc) ∧ Grew W w' := fun W hW => left_any _ fs mc hmc80 W (HV.out.grew hW)
    rw [leftTo_cnt, hlf] at h3
    clear hmc80 hlf
    rw [List.map_cons] at h3
    obtain ⟨lz, HLZ⟩ : ∃ lz, Hid ((b : Int) :: (l.map fun (b : Nat) => (b : Int)) = lz) := ⟨_, rfl⟩
    rw [HLZ.out] at h3
    have HL0 : Hid (lz[0]? = some (b : Int)) := show _ = _ by rw [← HLZ.out]; rfl
    have HL1 : Hid (0 < lz.length) := show 0 < _ by rw [← HLZ.out]; simp
    clear e1 e2 e3 e4 hw hj
    go_enter Try.func22, Try.ntmps22
    go_wp2_with fail
    rw [HW0.out]
    refine (h1 _ HG0.out).mono ?_
    rintro e W1 ⟨rfl, g1⟩
    have G1 : Hid (Grew w W1) := HG0.out.trans g1
    have X1 : Hid (Box W1 w.heap.size [.slice (some ad) nF c, .int .i64 (mc : Int)]) := X0.out.grew g1
    have Y1 : Hid (Box W1 (w.heap.size + 1) [.slice none 0 0, .int .i64 0]) := Y0.out.grew g1
    have x0 := X1.out.c 0 rfl
    have x1 := X1.out.c 1 rfl
    obtain ⟨d0, d1⟩ := HCE.out W1 G1.out
    clear g1 h1 X0 Y0
    go_wp2_with (go_at_call 33; refine (hb _).mono ?_; rintro e w' ⟨rfl, hw'⟩; rw [hw']; clear hw' w')
    refine (h2 _ G1.out).mono ?_
    rintro e W2 ⟨b1, rfl, of2, g2, s2⟩
    have HB2 : Hid (w.heap.size + 2 ≤ W1.heap.size) := Y1.out.lt
    obtain ⟨xs, k1, k2, k3, k4⟩ := of2
    obtain ⟨q, hx⟩ : ∃ q, xs[i]? = some q := ⟨_, List.getElem?_eq_getElem (by rw [k2, HN.out]; exact hil)⟩
    obtain ⟨G, bc, rfl⟩ := k1.formS (by rw [k2, HN.out]; omega)
    rw [k2, HN.out] at k1 ⊢
    obtain ⟨q1, q2⟩ := k3 i q f hx HF.out
    obtain ⟨xs0, xa, xn, xc⟩ := q
    obtain ⟨g, qc, q3⟩ := q2.formS (by rw [HNB.out]; omega)
    rw [HNB.out] at q3
    have q4 : Value.slice xa xn xc = .slice (some ⟨g, 0, none⟩) nb qc := q3
    cases q4
    have HX : Hid (xs[i]? = some ⟨xs0, some ⟨g, 0, none⟩, nb, xc⟩) := hx
    have HXS : Hid (xs0 = f.size) := q1
    have K1 : Hid (OwnRow fvE (W1.heap.size + 2) W2 (.slice (some ⟨G, 0, none⟩) nF bc) xs) := k1
    have K2 : Hid (xs.length = fs.length) := k2
    have K3 : Hid (∀ (i : Nat) x f, xs[i]? = some x → fs[i]? = some f → x.size = f.size ∧ OwnRow blE (W1.heap.size + 2) W2 x.v f.bl) := k3
    have K4 : Hid (∀ (i j : Nat) x y, i ≠ j → xs[i]? = some x → xs[j]? = some y → ∀ g, x.v.ownBlock = some g → y.v.ownBlock ≠ some g) := k4
    have KX : Hid (OwnRow blE (W1.heap.size + 2) W2 (.slice (some ⟨g, 0, none⟩) nb xc) f.bl) := q2
    have G2 : Hid (Grew w W2) := G1.out.trans g2
    have HS2 : Hid (W1.heap.size + 2 ≤ W2.heap.size) := s2
    have G12 : Hid (Grew W1 W2) := g2
    clear g2 s2 h2 x0 x1 d0 d1 k1 k2 k3 k4 q1 q2 q3 hx hb
    go_upto_region 7 with fail
    obtain ⟨po, hpo⟩ : ∃ po, W2.heap.size = po := ⟨_, rfl⟩
    obtain ⟨W3, hW3⟩ : ∃ W3, W2.alloc (.cells #[.slice (some ⟨G, 0, none⟩) nF bc, .int .i64 (mc : Int)] 36) = W3 := ⟨_, rfl⟩
    have G23 : Hid (Grew W2 W3) := show Grew _ _ by rw [← hW3]; exact grew_alloc _ _
    have P3 : Hid (BoxT W3 po 36 [.slice (some ⟨G, 0, none⟩) nF bc, .int .i64 (mc : Int)]) := show BoxT _ _ _ _ by rw [← hW3]; exact BoxT.top _ _ _ hpo.symm
    have X3 : Hid (Box W3 w.heap.size [.slice (some ad) nF c, .int .i64 (mc : Int)]) := (X1.out.grew G12.out).grew G23.out
    have Y3 : Hid (Box W3 (w.heap.size + 1) [.slice none 0 0, .int .i64 0]) := (Y1.out.grew G12.out).grew G23.out
    have HPO : Hid (W1.heap.size + 2 ≤ po) := show _ ≤ _ by rw [← hpo]; exact HS2.out
    have HP3 : Hid (po < W3.heap.size) := P3.out.box.lt
    have G3 : Hid (Grew w W3) := G2.out.trans G23.out
    have KF3 : Hid (OwnRow fvE (W1.heap.size + 2) W3 (.slice (some ⟨G, 0, none⟩) nF bc) xs) := K1.out.grew G23.out
    have KX3 : Hid (OwnRow blE (W1.heap.size + 2) W3 (.slice (some ⟨g, 0, none⟩) nb xc) f.bl) := KX.out.grew G23.out
    rw [hW3]
    rw [hpo]
    clear hW3 hpo
    have HCX : Hid (∀ W, Grew W3 W → W.cell? ⟨G, i * 2 + 1, none⟩ = some (.slice (some ⟨g, 0, none⟩) nb xc)) := show ∀ W, _ from fun W hW => by
      obtain ⟨a0, c0, hsl, hrows⟩ := (KF3.out.grew hW).at.rows
      obtain ⟨ad, had, hce⟩ := hrows i _ HX.out
      cases hsl
      cases had
      have := hce _ (Grew.refl _) 1 _ rfl
      rw [add_add', Addr.add_lit, Nat.zero_add] at this
      exact this
    have HCB : Hid (∀ W, Grew W3 W → W.cell? ⟨g, j, none⟩ = some (.int .i64 (-1))) := show ∀ W, _ from fun W hW => by
      obtain ⟨a0, c0, hsl, hrows⟩ := (KX3.out.grew hW).at.nums
      obtain ⟨ad, had, hce⟩ := hrows j _ HJ.out
      cases hsl
      cases had
      have := hce _ (Grew.refl _)
      rw [Addr.add_lit, Nat.zero_add] at this
      exact this
    have p0 := P3.out.box.c 0 rfl
    have d1 := HCX.out W3 (Grew.refl _)
    have d2 := HCB.out W3 (Grew.refl _)
    have x0 := X3.out.c 0 rfl
    have x1 := X3.out.c 1 rfl
    go_wp2_with fail
    refine (h3 _ G3.out).mono ?_
    rintro e W4 ⟨fr, rfl, ow, g4⟩
    obtain ⟨gf, fc, rfl⟩ := ow.formS HL1.out
    have f0 : W4.cell? ⟨gf, 0, none⟩ = some (.int .i64 (b : Int)) := by
      obtain ⟨a0, c0, hsl, hrows⟩ := ow.at.nums
      obtain ⟨ad, had, hce⟩ := hrows 0 _ HL0.out
      cases hsl
      cases had
      have := hce _ (Grew.refl _)
      rw [Addr.add_lit, Nat.zero_add] at this
      exact this
    have G4 : Hid (Grew w W4) := G3.out.trans g4
    have G34 : Hid (Grew W3 W4) := g4
    have KX4 : Hid (OwnRow blE (W1.heap.size + 2) W4 (.slice (some ⟨g, 0, none⟩) nb xc) f.bl) := KX3.out.grew g4
    have KF4 : Hid (OwnRow fvE (W1.heap.size + 2) W4 (.slice (some ⟨G, 0, none⟩) nF bc) xs) := KF3.out.grew g4
    have P4 : Hid (BoxT W4 po 36 [.slice (some ⟨G, 0, none⟩) nF bc, .int .i64 (mc : Int)]) := P3.out.grew g4
    have Y4 : Hid (Box W4 (w.heap.size + 1) [.slice none 0 0, .int .i64 0]) := Y3.out.grew g4
    have hgb : W1.heap.size + 2 ≤ g := (KX3.out.lt g rfl).1
    obtain ⟨nl, HNL⟩ : ∃ nl, Hid (lz.length = nl) := ⟨_, rfl⟩
    have hnl : 0 < nl := by rw [← HNL.out]; exact HL1.out
    have hnlz : (0 : Int) < (nl : Int) := by omega
    have hnlb : ((nl : Int) == 0) = false := by simp; omega
    rw [HNL.out]
    clear ow g4 h3 x0 x1 p0 d1 d2
    go_wp2_with (refine wpList_store_elt (E := blE) rfl (.tmp 55) (.tmp 54) rfl (W1.heap.size + 2) _ f.bl KX4.out g j rfl (b : Int) ?t1 ⟨g, j, none⟩ rfl ?t2 (.int .i64 (b : Int)) rfl rfl ?_)
    case t1 => rw [HNB.out]; exact hjl
    case t2 => show _ = Addr.mk g (j * 1) none; rw [Nat.mul_one]
    intro W5 ow5 gr5 _
    have KX5 : Hid (OwnRow blE (W1.heap.size + 2) W5 (.slice (some ⟨g, 0, none⟩) nb xc) (f.bl.set j (b : Int))) := ow5
    have P5 : Hid (Box W5 po [.slice (some ⟨G, 0, none⟩) nF bc, .int .i64 (mc : Int)]) := P4.out.box.grown gr5 (fun e => KX4.out.ne P4.out (by decide) g rfl e)
    have Y5 : Hid (Box W5 (w.heap.size + 1) [.slice none 0 0, .int .i64 0]) := Y4.out.grown gr5 (by have := HB2.out; omega)
    have G5 : Hid (Grew w W5) := show Grew _ _ from grew_grown G4.out gr5 (by have := HB2.out; omega)
    have F5 : Hid (FilesS 0 (W1.heap.size + 2) W5 (.slice (some ⟨G, 0, none⟩) nF bc) (fs.set i ⟨f.size, f.bl.set j (b : Int)⟩)) := show FilesS _ _ _ _ _ by
      have of5 := KF4.out.grown gr5 (fun g' hg' e' => by cases e'; exact KF4.out.apart KX4.out (Ne.symm two_kinds) g hg' rfl)
      refine ⟨of5.cap, xs, of5.new.stays, by simp [K2.out], fun p q f' hq hf' => ?_⟩
      by_cases e : p = i
      · subst e
        rw [List.getElem?_set_self (by rw [HN.out]; exact hil)] at hf'
        rw [HX.out] at hq
        cases hq
        cases hf'
        exact ⟨HXS.out, KX5.out.new.stays⟩
      · rw [List.getElem?_set_ne (fun h => e h.symm)] at hf'
        obtain ⟨q1, q2⟩ := K3.out p q f' hq hf'
        have o4 := q2.grew (G23.out.trans G34.out)
        exact ⟨q1, (o4.grown gr5 (fun g' hg' e' => by cases e'; exact K4.out i p _ q (fun h => e h.symm) HX.out hq g rfl hg')).new.stays⟩
    have d2 : W5.cell? ⟨g, j, none⟩ = some (.int .i64 (b : Int)) := by
      obtain ⟨a0, c0, hsl, hrows⟩ := ow5.at.nums
      obtain ⟨ad, had, hce⟩ := hrows j (b : Int) (by rw [List.getElem?_set_self (by rw [HNB.out]; exact hjl)])
      cases hsl
      cases had
      have := hce _ (Grew.refl _)
      rw [Addr.add_lit, Nat.zero_add] at this
      exact this
    clear ow5 gr5 f0
    have p0 := P5.out.c 0 rfl
    have p1 := P5.out.c 1 rfl
    have y0 := Y5.out.c 0 rfl
    have y1 := Y5.out.c 1 rfl
    have yf := Y5.out.f
    have hne2 : po ≠ w.heap.size + 1 := by have := HPO.out; have := HB2.out; omega
    have hne2' : ¬ w.heap.size + 1 = po := fun e => hne2 e.symm
    have hne3 : g ≠ w.heap.size + 1 := by have := HB2.out; omega
    have hne3' : ¬ w.heap.size + 1 = g := fun e => hne3 e.symm
    go_wp2
    go_region
    all_goals go_wp2
    all_goals
      refine bodyPost_ret (v := .tuple #[.agg #[.slice (some ⟨G, 0, none⟩) nF bc, .int .i64 (mc : Int)], .int .i64 (b : Int), .int .i64 0]) (by simp [results, Try.results22, go_sem, *]) rfl ⟨_, rfl, ?_, ?_⟩
      · have F6 := F5.out.less (A0 := 0) (A1 := w.heap.size + 2) (Nat.le_refl _) (by have := HB2.out; omega)
        exact (((F6.out (Out.setCell _ _ _ (p := ⟨w.heap.size + 1, 0, none⟩) (Nat.zero_le _) (by simp) _)).out (Out.setCell _ _ _ (p := ⟨w.heap.size + 1, 1, none⟩) (Nat.zero_le _) (by simp) _)).less (Nat.le_refl _) (by omega)).grew (show Below _ _ _ from (Below.refl _ _).drew)
      · exact (Below.setCell (Below.setCell G5.out (p := ⟨w.heap.size + 1, 0, none⟩) (by simp) _) (p := ⟨w.heap.size + 1, 1, none⟩) (by simp) _).drew

end Go.Proofs.Ytagpmjgmohfmjac
