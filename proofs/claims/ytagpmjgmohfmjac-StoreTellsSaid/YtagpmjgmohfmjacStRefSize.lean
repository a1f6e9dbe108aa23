/- Contract of Size (the document's answer). -/
import Derived.Test.YtagpmjgmohfmjacStWith
import Derived.Test.YtagpmjgmohfmjacStRefWrong
namespace Go.Proofs.Ytagpmjgmohfmjac
open Go.RowKit

theorem sized_snoc (l : List Int) (k : Nat) : sized l (k + 1) = sized l k ++ [if k < l.length then l.getD k 0 else -1] := by
  apply List.ext_getElem?
  intro j
  rcases Nat.lt_trichotomy j k with h | h | h
  · rw [List.getElem?_append_left (by rw [sized_len]; exact h)]
    have h1 : j < (sized l (k + 1)).length := by rw [sized_len]; omega
    have h2 : j < (sized l k).length := by rw [sized_len]; omega
    obtain ⟨_, a1, a2⟩ := sized_get (List.getElem?_eq_getElem h1)
    obtain ⟨_, b1, b2⟩ := sized_get (List.getElem?_eq_getElem h2)
    rw [List.getElem?_eq_getElem h1, List.getElem?_eq_getElem h2]
    rcases Nat.lt_or_ge j l.length with hl | hl
    · rw [← a1 hl, ← b1 hl]
    · rw [a2 hl, b2 hl]
  · subst h
    rw [List.getElem?_append_right (by rw [sized_len]; exact Nat.le_refl _), sized_len, Nat.sub_self]
    have h1 : j < (sized l (j + 1)).length := by rw [sized_len]; omega
    obtain ⟨_, a1, a2⟩ := sized_get (List.getElem?_eq_getElem h1)
    rw [List.getElem?_eq_getElem h1]
    by_cases hl : j < l.length
    · rw [if_pos hl, ← a1 hl, List.getD_eq_getElem?_getD, List.getElem?_eq_getElem hl]
      rfl
    · rw [if_neg hl, a2 (by omega)]
      rfl
  · rw [List.getElem?_eq_none (by rw [sized_len]; omega), List.getElem?_eq_none (by rw [List.length_append, sized_len]; simp; omega)]

set_option maxRecDepth 100000 in
set_option maxHeartbeats 2000000 in
theorem refSize_any (v : Value) (fs : List Fl) (cnt k n : Int) (D : Nat → Prop) (w : World) (hv : FilesD D w v fs) (hB : ∀ k, D k → k < w.heap.size) :
    Calls Try.prog 21 #[.agg #[v, .int .i64 cnt], .int .i64 k, .int .i64 n] w fun e w' => ∃ b, e = .returned (.tuple #[.agg #[b, .int .i64 (sizC fs cnt k n)], .int .i64 (sizE fs cnt k n)]) ∧ FilesD D w' b (sizF fs cnt k n) ∧ Grew w w' := by
  have h1 : ∀ W, Grew w W → Calls Try.prog 15 #[.agg #[v, .int .i64 cnt]] W fun e w' => e = .returned (.int .i64 (stW fs cnt)) ∧ Grew W w' := fun W hW => refWrongSt_any v fs cnt W (hv.at.grew hW)
  have HV : Hid (FilesD D w v fs) := hv
  have HB : Hid (∀ k, D k → k < w.heap.size) := hB
  obtain ⟨a, c, rfl, hbig, hrow⟩ := hv.at.rows
  have HR : Hid (FlRows w a fs) := hrow
  clear hv hrow hB
  obtain ⟨nF, HN⟩ : ∃ nF, Hid (fs.length = nF) := ⟨_, rfl⟩
  rw [HN.out] at h1 hbig HV ⊢
  obtain ⟨W0, hW0⟩ : ∃ W0, (w.alloc (.cells #[.slice a nF c, .int .i64 cnt] 36)).alloc (.cells #[.slice none 0 0, .int .i64 0] 36) = W0 := ⟨_, rfl⟩
  have HG0 : Hid (Grew w W0) := show Grew w W0 by rw [← hW0]; exact (grew_alloc _ _).trans (grew_alloc _ _)
  have X0 : Hid (Box W0 w.heap.size [.slice a nF c, .int .i64 cnt]) := show Box _ _ _ by rw [← hW0]; exact (Box.top w _ _ rfl).alloc _
  have Y0 : Hid (Box W0 (w.heap.size + 1) [.slice none 0 0, .int .i64 0]) := show Box _ _ _ by rw [← hW0]; exact Box.top _ _ _ (by simp)
  have HW0 : Hid (_ = W0) := hW0
  clear hW0
  rcases siz_cases fs cnt k n with ⟨hw, e1, e2, e3⟩ | ⟨hw, hk, e1, e2, e3⟩ | ⟨hw, i, f, rfl, hf, hn, e1, e2, e3⟩ | ⟨hw, i, f, rfl, hf, hn, e1, e2, e3⟩
  · rw [e1, e2, e3]
    have hzb : (stW fs cnt != 0) = true := by simpa using hw
    generalize stW fs cnt = S at *
    clear e1 e2 e3
    go_enter Try.func21, Try.ntmps21
    go_wp2_with fail
    rw [HW0.out]
    refine (h1 _ HG0.out).mono ?_
    rintro e W1 ⟨rfl, g1⟩
    have G1 : Hid (Grew w W1) := HG0.out.trans g1
    have X1 : Hid (Box W1 w.heap.size [.slice a nF c, .int .i64 cnt]) := X0.out.grew g1
    have Y1 : Hid (Box W1 (w.heap.size + 1) [.slice none 0 0, .int .i64 0]) := Y0.out.grew g1
    clear g1 h1
    have x0 := X1.out.c 0 rfl
    have x1 := X1.out.c 1 rfl
    have y0 := Y1.out.c 0 rfl
    have y1 := Y1.out.c 1 rfl
    have yf := Y1.out.f
    go_wp2
    refine bodyPost_ret (v := .tuple #[.agg #[.slice none 0 0, .int .i64 0], .int .i64 S]) (by simp [results, Try.results21, go_sem, *]) rfl ⟨_, rfl, FilesD.nil _ _, ?_⟩
    exact Below.setCell (Below.setCell G1.out (p := ⟨w.heap.size + 1, 0, none⟩) (by simp) _) (p := ⟨w.heap.size + 1, 1, none⟩) (by simp) _
  · rw [e1, e2, e3]
    rw [hw] at h1
    rw [HN.out] at hk
    clear e1 e2 e3 hw
    by_cases hk0 : k < 0
    · clear hk
      go_enter Try.func21, Try.ntmps21
      go_wp2_with fail
      rw [HW0.out]
      refine (h1 _ HG0.out).mono ?_
      rintro e W1 ⟨rfl, g1⟩
      have G1 : Hid (Grew w W1) := HG0.out.trans g1
      have X1 : Hid (Box W1 w.heap.size [.slice a nF c, .int .i64 cnt]) := X0.out.grew g1
      have Y1 : Hid (Box W1 (w.heap.size + 1) [.slice none 0 0, .int .i64 0]) := Y0.out.grew g1
      clear g1 h1
      have x0 := X1.out.c 0 rfl
      have x1 := X1.out.c 1 rfl
      have y0 := Y1.out.c 0 rfl
      have y1 := Y1.out.c 1 rfl
      have yf := Y1.out.f
      go_wp2
      refine bodyPost_ret (v := .tuple #[.agg #[.slice none 0 0, .int .i64 0], .int .i64 5]) (by simp [results, Try.results21, go_sem, *]) rfl ⟨_, rfl, FilesD.nil _ _, ?_⟩
      exact Below.setCell (Below.setCell G1.out (p := ⟨w.heap.size + 1, 0, none⟩) (by simp) _) (p := ⟨w.heap.size + 1, 1, none⟩) (by simp) _
    · have hk0d : decide (k < 0) = false := decide_eq_false hk0
      have hk1 : (nF : Int) ≤ k := by omega
      clear hk
      go_enter Try.func21, Try.ntmps21
      go_wp2_with fail
      rw [HW0.out]
      refine (h1 _ HG0.out).mono ?_
      rintro e W1 ⟨rfl, g1⟩
      have G1 : Hid (Grew w W1) := HG0.out.trans g1
      have X1 : Hid (Box W1 w.heap.size [.slice a nF c, .int .i64 cnt]) := X0.out.grew g1
      have Y1 : Hid (Box W1 (w.heap.size + 1) [.slice none 0 0, .int .i64 0]) := Y0.out.grew g1
      clear g1 h1
      have x0 := X1.out.c 0 rfl
      have x1 := X1.out.c 1 rfl
      have y0 := Y1.out.c 0 rfl
      have y1 := Y1.out.c 1 rfl
      have yf := Y1.out.f
      go_wp2
      refine bodyPost_ret (v := .tuple #[.agg #[.slice none 0 0, .int .i64 0], .int .i64 5]) (by simp [results, Try.results21, go_sem, *]) rfl ⟨_, rfl, FilesD.nil _ _, ?_⟩
      exact Below.setCell (Below.setCell G1.out (p := ⟨w.heap.size + 1, 0, none⟩) (by simp) _) (p := ⟨w.heap.size + 1, 1, none⟩) (by simp) _
  · rw [e1, e2, e3]
    rw [hw] at h1
    have hil : i < nF := by rw [← HN.out]; exact (List.getElem?_eq_some_iff.1 hf).1
    have hi0 : ¬ (i : Int) < 0 := by omega
    have hi0d : decide ((i : Int) < 0) = false := decide_eq_false hi0
    have hi1 : ¬ (nF : Int) ≤ (i : Int) := by omega
    have hi1d : decide ((nF : Int) ≤ (i : Int)) = false := decide_eq_false hi1
    have hi1e : decide (nF ≤ i) = false := decide_eq_false (by omega)
    clear e1 e2 e3 hw hf
    by_cases hn0 : n < 0
    · clear hn
      go_enter Try.func21, Try.ntmps21
      go_wp2_with fail
      rw [HW0.out]
      refine (h1 _ HG0.out).mono ?_
      rintro e W1 ⟨rfl, g1⟩
      have G1 : Hid (Grew w W1) := HG0.out.trans g1
      have X1 : Hid (Box W1 w.heap.size [.slice a nF c, .int .i64 cnt]) := X0.out.grew g1
      have Y1 : Hid (Box W1 (w.heap.size + 1) [.slice none 0 0, .int .i64 0]) := Y0.out.grew g1
      clear g1 h1
      have x0 := X1.out.c 0 rfl
      have x1 := X1.out.c 1 rfl
      have y0 := Y1.out.c 0 rfl
      have y1 := Y1.out.c 1 rfl
      have yf := Y1.out.f
      go_wp2
      refine bodyPost_ret (v := .tuple #[.agg #[.slice none 0 0, .int .i64 0], .int .i64 3]) (by simp [results, Try.results21, go_sem, *]) rfl ⟨_, rfl, FilesD.nil _ _, ?_⟩
      exact Below.setCell (Below.setCell G1.out (p := ⟨w.heap.size + 1, 0, none⟩) (by simp) _) (p := ⟨w.heap.size + 1, 1, none⟩) (by simp) _
    · have hn0d : decide (n < 0) = false := decide_eq_false hn0
      have hn1 : 96 < n := by omega
      clear hn
      go_enter Try.func21, Try.ntmps21
      go_wp2_with fail
      rw [HW0.out]
      refine (h1 _ HG0.out).mono ?_
      rintro e W1 ⟨rfl, g1⟩
      have G1 : Hid (Grew w W1) := HG0.out.trans g1
      have X1 : Hid (Box W1 w.heap.size [.slice a nF c, .int .i64 cnt]) := X0.out.grew g1
      have Y1 : Hid (Box W1 (w.heap.size + 1) [.slice none 0 0, .int .i64 0]) := Y0.out.grew g1
      clear g1 h1
      have x0 := X1.out.c 0 rfl
      have x1 := X1.out.c 1 rfl
      have y0 := Y1.out.c 0 rfl
      have y1 := Y1.out.c 1 rfl
      have yf := Y1.out.f
      go_wp2
      refine bodyPost_ret (v := .tuple #[.agg #[.slice none 0 0, .int .i64 0], .int .i64 3]) (by simp [results, Try.results21, go_sem, *]) rfl ⟨_, rfl, FilesD.nil _ _, ?_⟩
      exact Below.setCell (Below.setCell G1.out (p := ⟨w.heap.size + 1, 0, none⟩) (by simp) _) (p := ⟨w.heap.size + 1, 1, none⟩) (by simp) _
  · rw [e1, e2, e3]
    have h5 := ((stW_zero fs cnt).1 hw).1.1
    rw [hw] at h1
    have hil : i < nF := by rw [← HN.out]; exact (List.getElem?_eq_some_iff.1 hf).1
    have hilz : (i : Int) < (nF : Int) := by omega
    have hi0 : ¬ (i : Int) < 0 := by omega
    have hi0d : decide ((i : Int) < 0) = false := decide_eq_false hi0
    have hi1 : ¬ (nF : Int) ≤ (i : Int) := by omega
    have hi1d : decide ((nF : Int) ≤ (i : Int)) = false := decide_eq_false hi1
    have hi1e : decide (nF ≤ i) = false := decide_eq_false (by omega)
    have hn0 : ¬ n < 0 := by omega
    have hn0d : decide (n < 0) = false := decide_eq_false hn0
    have hn1 : ¬ 96 < n := by omega
    have hn1d : decide (96 < n) = false := decide_eq_false hn1
    have hcn := fun W => refCount_any n W hn.1 hn.2
    have hcp := cntP_nat hn.1 hn.2
    obtain ⟨m, hm⟩ : ∃ m : Nat, cntP n = (m : Int) := ⟨(cntP n).toNat, by omega⟩
    rw [hm] at hcn
    have HM : Hid ((cntP n).toNat = m) := show _ = _ by rw [hm, Int.toNat_natCast]
    have hm12 : m ≤ 12 := by omega
    rw [HM.out]
    have HF : Hid (fs[i]? = some f) := hf
    have H5 : Hid (fs.length ≤ 5) := h5
    obtain ⟨ad, hada, xa0, xc0, hra, hce⟩ := HR.out i f hf
    subst hada
    have HCE : Hid (∀ W, Grew w W → FlCells W (ad.add (i * 2)) f.size (.slice xa0 f.bl.length xc0)) := hce
    have hnb := hra.short
    obtain ⟨_, _, heq, hnum⟩ := hra.nums
    cases heq
    have HNUM : Hid (NumRows w xa0 f.bl) := hnum
    obtain ⟨nb, HNB⟩ : ∃ nb, Hid (f.bl.length = nb) := ⟨_, rfl⟩
    rw [HNB.out] at HCE hnb
    clear e1 e2 e3 hw hf hcp hm hn hra hce hnum h5
    go_enter Try.func21, Try.ntmps21
    go_wp2_with fail
    rw [HW0.out]
    refine (h1 _ HG0.out).mono ?_
    rintro e W1 ⟨rfl, g1⟩
    have G1 : Hid (Grew w W1) := HG0.out.trans g1
    have X1 : Hid (Box W1 w.heap.size [.slice (some ad) nF c, .int .i64 cnt]) := X0.out.grew g1
    have Y1 : Hid (Box W1 (w.heap.size + 1) [.slice none 0 0, .int .i64 0]) := Y0.out.grew g1
    clear g1 h1
    have x0 := X1.out.c 0 rfl
    have x1 := X1.out.c 1 rfl
    go_upto_region 9 with fail
    obtain ⟨pf, hpf⟩ : ∃ pf, W1.heap.size = pf := ⟨_, rfl⟩
    obtain ⟨W2, hW2⟩ : ∃ W2, W1.alloc (.cells #[.int .i64 n, .slice none 0 0] 50) = W2 := ⟨_, rfl⟩
    have G12 : Hid (Grew W1 W2) := show Grew _ _ by rw [← hW2]; exact grew_alloc _ _
    have P2 : Hid (BoxT W2 pf 50 [.int .i64 n, .slice none 0 0]) := show BoxT _ _ _ _ by rw [← hW2]; exact BoxT.top _ _ _ hpf.symm
    have HPF : Hid (W1.heap.size = pf) := hpf
    have HS2 : Hid (W2.heap.size = pf + 1) := show _ = _ by rw [← hW2, ← hpf]; simp
    have HWB : Hid (w.heap.size + 2 ≤ pf) := show _ ≤ _ by rw [← hpf]; exact Y1.out.lt
    rw [hW2]
    rw [hpf]
    clear hW2 hpf x0 x1
    have HZ0 : Hid (OwnRow blE (pf + 1) W2 (.slice none 0 0) (sized f.bl 0)) := show OwnRow _ _ _ _ _ by
      rw [show sized f.bl 0 = [] from List.eq_nil_of_length_eq_zero (sized_len _ _)]
      exact OwnRow.nil _ _ _
    go_wp2
    go_loopg [10] m (fun gg s10 wr => ∃ (kk : Nat) (ra : Option Addr) (rc : Nat), kk ≤ m ∧ m - kk ≤ gg ∧ s10 = .int .i64 kk ∧ Hid (Grew W1 wr) ∧ Hid (BoxT wr pf 50 [.int .i64 n, .slice ra kk rc]) ∧ Hid (OwnRow blE (pf + 1) wr (.slice ra kk rc) (sized f.bl kk)))
    case atStart => exact ⟨0, none, 0, Nat.zero_le _, by omega, rfl, G12.out, P2.out, HZ0.out⟩
    case round =>
      obtain ⟨kk, ra, rc, hkk, hgg, rfl, BW, PW, OW⟩ := hrel
      have GW : Hid (Grew w wr) := G1.out.trans BW.out
      have x0 := (X1.out.grew BW.out).c 0 rfl
      have x1 := (X1.out.grew BW.out).c 1 rfl
      by_cases hlt : kk < m
      · have hltz : (kk : Int) < (m : Int) := by omega
        obtain ⟨d0, d1⟩ := HCE.out wr GW.out
        have p1 := PW.out.box.c 1 rfl
        have pf1 := PW.out.box.f
        have HSN := sized_snoc f.bl kk
        have HPL : Hid (pf < wr.heap.size) := PW.out.box.lt
        have one : ∀ z : Int, sized f.bl (kk + 1) = sized f.bl kk ++ [z] → ∀ (v4 : Value) (W4 : World), OwnRow blE (pf + 1) W4 v4 (sized f.bl kk ++ [z]) → (wr.alloc (.cells #[.int .i64 z] 3)).grownBy W4 (Value.slice ra kk rc).ownBlock → ∃ xa4 xc4, v4 = .slice xa4 (kk + 1) xc4 ∧ OwnRow blE (pf + 1) W4 (.slice xa4 (kk + 1) xc4) (sized f.bl (kk + 1)) ∧ BoxT W4 pf 50 [.int .i64 n, .slice ra kk rc] ∧ Grew W1 W4 := fun z hz v4 W4 ow4 gr4 => by
          obtain ⟨xa4, xc4, rfl⟩ := ow4.form
          rw [← hz, sized_len] at ow4 ⊢
          refine ⟨xa4, xc4, rfl, ow4, (PW.out.grew (grew_alloc _ _)).beside gr4 (fun g hg => ?_), grew_beside (BW.out.trans (grew_alloc _ _)) gr4 (fun g hg => ?_)⟩
          · have := (OW.out.lt g hg).1
            omega
          · have := (OW.out.lt g hg).1
            have := HPF.out
            omega
        have HON : Hid (∀ z : Int, sized f.bl (kk + 1) = sized f.bl kk ++ [z] → ∀ (v4 : Value) (W4 : World), OwnRow blE (pf + 1) W4 v4 (sized f.bl kk ++ [z]) → (wr.alloc (.cells #[.int .i64 z] 3)).grownBy W4 (Value.slice ra kk rc).ownBlock → ∃ xa4 xc4, v4 = .slice xa4 (kk + 1) xc4 ∧ OwnRow blE (pf + 1) W4 (.slice xa4 (kk + 1) xc4) (sized f.bl (kk + 1)) ∧ BoxT W4 pf 50 [.int .i64 n, .slice ra kk rc] ∧ Grew W1 W4) := one
        clear one
        by_cases hb : kk < nb
        · have hbz : (kk : Int) < (nb : Int) := by omega
          obtain ⟨z, HZ0⟩ : ∃ z, Hid (f.bl[kk]? = some z) := ⟨_, List.getElem?_eq_getElem (by rw [HNB.out]; exact hb)⟩
          obtain ⟨a3, rfl, hl3⟩ := HNUM.out kk z HZ0.out
          have d3 := hl3 wr GW.out
          clear hl3
          have HZ : Hid (sized f.bl (kk + 1) = sized f.bl kk ++ [z]) := show _ = _ by rw [HSN, if_pos (by rw [HNB.out]; exact hb), List.getD_eq_getElem?_getD, HZ0.out]; rfl
          clear HSN
          go_wp2_with (first
            | (go_at_call 36; refine (hcn _).mono ?_; rintro e w' ⟨rfl, hw'⟩; rw [hw']; clear hw' w')
            | (at_builtin; refine wpList_append_row (E := blE) rfl (.tmp 62) (.tmp 64) rfl (pf + 1) _ (sized f.bl kk) rfl (OW.out.grew (grew_alloc _ _)) _ [z] rfl (one_row blE wr z _ _ rfl (by show 8 ≤ _; omega)) ?qb ?qc ?_))
          case qb =>
            rw [sized_len]
            show (kk + 1) * 8 ≤ _
            omega
          case qc => simp; have := HPL.out; omega
          intro v4 W4 ow4 gr4
          obtain ⟨xa4, xc4, rfl, ow5, pb5, g5⟩ := HON.out z HZ.out v4 W4 ow4 gr4
          have O5 : Hid (OwnRow blE (pf + 1) W4 (.slice xa4 (kk + 1) xc4) (sized f.bl (kk + 1))) := ow5
          have P5 : Hid (BoxT W4 pf 50 [.int .i64 n, .slice ra kk rc]) := pb5
          have G5 : Hid (Grew W1 W4) := g5
          clear ow4 gr4 ow5 pb5 g5 d0 d1 p1 pf1 x0 x1
          have q1 := P5.out.box.c 1 rfl
          have qf := P5.out.box.f
          go_wp2
          go_roundg (m - (kk + 1))
          case measure => omega
          case rel => exact ⟨kk + 1, xa4, xc4, by omega, by omega, by go_num, Below.setCell G5.out (p := ⟨pf, 1, none⟩) (by have := HPF.out; simp; omega) _, P5.out.set 1 _, O5.out.setCell (a := ⟨pf, 1, none⟩) (by simp) _⟩
        · have hbz : ¬ (kk : Int) < (nb : Int) := by omega
          have HZ : Hid (sized f.bl (kk + 1) = sized f.bl kk ++ [(-1)]) := show _ = _ by rw [HSN, if_neg (by rw [HNB.out]; exact hb)]
          clear HSN
          go_wp2_with (first
            | (go_at_call 36; refine (hcn _).mono ?_; rintro e w' ⟨rfl, hw'⟩; rw [hw']; clear hw' w')
            | (at_builtin; refine wpList_append_row (E := blE) rfl (.tmp 62) (.tmp 64) rfl (pf + 1) _ (sized f.bl kk) rfl (OW.out.grew (grew_alloc _ _)) _ [(-1)] rfl (one_row blE wr (-1) _ _ rfl (by show 8 ≤ _; omega)) ?qb ?qc ?_))
          case qb =>
            rw [sized_len]
            show (kk + 1) * 8 ≤ _
            omega
          case qc => simp; have := HPL.out; omega
          intro v4 W4 ow4 gr4
          obtain ⟨xa4, xc4, rfl, ow5, pb5, g5⟩ := HON.out (-1) HZ.out v4 W4 ow4 gr4
          have O5 : Hid (OwnRow blE (pf + 1) W4 (.slice xa4 (kk + 1) xc4) (sized f.bl (kk + 1))) := ow5
          have P5 : Hid (BoxT W4 pf 50 [.int .i64 n, .slice ra kk rc]) := pb5
          have G5 : Hid (Grew W1 W4) := g5
          clear ow4 gr4 ow5 pb5 g5 d0 d1 p1 pf1 x0 x1
          have q1 := P5.out.box.c 1 rfl
          have qf := P5.out.box.f
          go_wp2
          go_roundg (m - (kk + 1))
          case measure => omega
          case rel => exact ⟨kk + 1, xa4, xc4, by omega, by omega, by go_num, Below.setCell G5.out (p := ⟨pf, 1, none⟩) (by have := HPF.out; simp; omega) _, P5.out.set 1 _, O5.out.setCell (a := ⟨pf, 1, none⟩) (by simp) _⟩
      · have hltz : ¬ (kk : Int) < (m : Int) := by omega
        have : kk = m := by omega
        subst this
        obtain ⟨D', HD'⟩ : ∃ D' : Nat → Prop, Hid (∀ k, D' k ↔ D k ∨ k = w.heap.size + 1) := ⟨fun k => D k ∨ k = w.heap.size + 1, fun _ => Iff.rfl⟩
        have RW : Hid (RowD blE D' wr (.slice ra kk rc) (sized f.bl kk)) := show RowD _ _ _ _ _ from OW.out.new.staysD (fun k hk => by
          have := HWB.out
          rcases (HD'.out k).1 hk with h | h
          · have := HB.out k h; omega
          · omega)
        have hwf := withFile_any (.slice (some ad) nF c) fs cnt i n ra rc (sized f.bl kk) D' wr (HV.out.more GW.out (fun k hk => by
          rcases (HD'.out k).1 hk with h | h
          · exact .inl h
          · exact .inr (by omega))) (by rw [sized_len]; exact RW.out) (by rw [HN.out]; exact hil) (fun k hk => by
          have := HWB.out
          have := PW.out.box.lt
          rcases (HD'.out k).1 hk with h | h
          · have := HB.out k h; omega
          · omega) H5.out
        rw [sized_len] at hwf
        have p0 := PW.out.box.c 0 rfl
        have p1 := PW.out.box.c 1 rfl
        go_wp2_with (first | (go_at_call 36; refine (hcn _).mono ?_; rintro e w' ⟨rfl, hw'⟩; rw [hw']; clear hw' w') | fail)
        refine hwf.mono ?_
        rintro e W5 ⟨vb, rfl, f5, g5⟩
        have F5 : Hid (FilesD D' W5 vb (fs.set i ⟨n, sized f.bl kk⟩)) := f5
        obtain ⟨ba, bc, rfl, _, _⟩ := f5.at.rows
        have Y5 : Hid (Box W5 (w.heap.size + 1) [.slice none 0 0, .int .i64 0]) := (Y1.out.grew BW.out).grew g5
        have G5 : Hid (Grew w W5) := GW.out.trans g5
        rw [List.length_set, HN.out] at F5 ⊢
        clear f5 g5 hwf p0 p1 x0 x1
        have y0 := Y5.out.c 0 rfl
        have y1 := Y5.out.c 1 rfl
        have yf := Y5.out.f
        go_wp2
        have HGE : Grew w ((W5.setCell ⟨w.heap.size + 1, 0, none⟩ (.slice ba nF bc)).setCell ⟨w.heap.size + 1, 1, none⟩ (.int .i64 cnt)) := Below.setCell (Below.setCell G5.out (p := ⟨w.heap.size + 1, 0, none⟩) (by simp) _) (p := ⟨w.heap.size + 1, 1, none⟩) (by simp) _
        refine bodyPost_ret (v := .tuple #[.agg #[.slice ba nF bc, .int .i64 cnt], .int .i64 0]) (by simp [results, Try.results21, go_sem, *]) rfl ⟨_, rfl, (F5.out.two ((HD'.out _).2 (.inr rfl)) _ _).less (fun k hk => (HD'.out k).2 (.inl hk)), HGE⟩

end Go.Proofs.Ytagpmjgmohfmjac
