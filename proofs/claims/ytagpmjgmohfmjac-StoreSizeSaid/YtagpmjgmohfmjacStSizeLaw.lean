/- The walk of the law StoreSize. -/
import Derived.Test.YtagpmjgmohfmjacStAlive
import Derived.Test.YtagpmjgmohfmjacStSame
namespace Go.Proofs.Ytagpmjgmohfmjac
open Go.RowKit

set_option maxRecDepth 100000 in
set_option maxHeartbeats 2000000 in
theorem sizeLaw_any (v : Value) (fs : List Fl) (cnt k n ot : Int) (w : World) (hv : FilesAt w v fs) :
    Calls Try.prog 6 #[.agg #[v, .int .i64 cnt], .int .i64 k, .int .i64 n, .int .i64 ot] w fun e w' => e = .returned (.bool true) ∧ Grew w w' := by
  have h1 : ∀ W, Grew w W → Calls Try.prog 20 #[.agg #[v, .int .i64 cnt], .int .i64 k, .int .i64 n] W fun e w' => ∃ b, e = .returned (.tuple #[.agg #[b, .int .i64 (sizC fs cnt k n)], .int .i64 (sizE fs cnt k n)]) ∧ FilesS 0 W.heap.size w' b (sizF fs cnt k n) ∧ Grew W w' := fun W hW => sizeSt_any v fs cnt k n W (hv.grew hW)
  have HV : Hid (FilesAt w v fs) := hv
  have hcap := hv.cap
  obtain ⟨a, c, rfl, hbig, hrow⟩ := hv.rows
  have HR : Hid (FlRows w a fs) := hrow
  have hcap' : fs.length ≤ c := hcap
  clear hv hrow hcap
  obtain ⟨nF, HN⟩ : ∃ nF, Hid (fs.length = nF) := ⟨_, rfl⟩
  rw [HN.out] at h1 hbig HV hcap' ⊢
  obtain ⟨W0, hW0⟩ : ∃ W0, w.alloc (.cells #[.slice a nF c, .int .i64 cnt] 36) = W0 := ⟨_, rfl⟩
  have HG0 : Hid (Grew w W0) := show Grew w W0 by rw [← hW0]; exact grew_alloc _ _
  have X0 : Hid (Box W0 w.heap.size [.slice a nF c, .int .i64 cnt]) := show Box _ _ _ by rw [← hW0]; exact Box.top w _ _ rfl
  have HW0 : Hid (_ = W0) := hW0
  clear hW0
  have bad : ∀ z : Int, z ≠ 0 → (∀ W, Grew w W → Calls Try.prog 20 #[.agg #[.slice a nF c, .int .i64 cnt], .int .i64 k, .int .i64 n] W fun e w' => ∃ b, e = .returned (.tuple #[.agg #[b, .int .i64 0], .int .i64 z]) ∧ FilesS 0 W.heap.size w' b [] ∧ Grew W w') → Calls Try.prog 6 #[.agg #[.slice a nF c, .int .i64 cnt], .int .i64 k, .int .i64 n, .int .i64 ot] w fun e w' => e = .returned (.bool true) ∧ Grew w w' := fun z hz h1 => by
    have hzb : (z != 0) = true := by simpa using hz
    go_enter Try.func6, Try.ntmps6
    go_wp2_with fail
    rw [HW0.out]
    refine (aliveSt_any _).mono ?_
    rintro e W1 ⟨rfl, g1⟩
    have G1 : Hid (Grew w W1) := HG0.out.trans g1
    have X1 : Hid (Box W1 w.heap.size [.slice a nF c, .int .i64 cnt]) := X0.out.grew g1
    clear g1
    have x0 := X1.out.c 0 rfl
    have x1 := X1.out.c 1 rfl
    go_wp2_with fail
    refine (h1 _ G1.out).mono ?_
    rintro e W2 ⟨vb, rfl, f2, g2⟩
    have capx := f2.cap
    obtain ⟨xa, xc, rfl, _, _⟩ := f2.at.rows
    have capx' : (([] : List Fl)).length ≤ xc := capx
    rw [show ([] : List Fl).length = 0 from rfl] at f2 capx' ⊢
    have F2 : Hid (FilesS 0 W1.heap.size W2 (.slice xa 0 xc) ([] : List Fl)) := f2
    have G2 : Hid (Grew w W2) := G1.out.trans g2
    have X2 : Hid (Box W2 w.heap.size [.slice a nF c, .int .i64 cnt]) := X1.out.grew g2
    clear f2 g2 x0 x1 h1 capx
    go_upto_region 4 with fail
    obtain ⟨px, hpx⟩ : ∃ px, W2.heap.size = px := ⟨_, rfl⟩
    obtain ⟨W3, hW3⟩ : ∃ W3, W2.alloc (.cells #[.slice xa 0 xc, .int .i64 0] 36) = W3 := ⟨_, rfl⟩
    have G3 : Hid (Grew w W3) := show Grew _ _ by rw [← hW3]; exact G2.out.trans (grew_alloc _ _)
    have X3 : Hid (Box W3 w.heap.size [.slice a nF c, .int .i64 cnt]) := show Box _ _ _ by rw [← hW3]; exact X2.out.alloc _
    have P3 : Hid (Box W3 px [.slice xa 0 xc, .int .i64 0]) := show Box _ _ _ by rw [← hW3]; exact Box.top _ _ _ hpx.symm
    have F3 : Hid (FilesAt W3 (.slice xa 0 xc) ([] : List Fl)) := show FilesAt _ _ _ by rw [← hW3]; exact F2.out.at.grew (grew_alloc _ _)
    rw [hW3]
    rw [hpx]
    clear hW3 hpx F2 X2
    go_wp2
    go_ret
    exact ⟨rfl, G3.out⟩
  rcases siz_cases fs cnt k n with ⟨hw, e1, e2, e3⟩ | ⟨hw, hk, e1, e2, e3⟩ | ⟨hw, i, f, rfl, hf, hn, e1, e2, e3⟩ | ⟨hw, i, f, rfl, hf, hn, e1, e2, e3⟩
  · rw [e1, e2, e3] at h1
    exact bad _ hw h1
  · rw [e1, e2, e3] at h1
    exact bad _ (by decide) h1
  · rw [e1, e2, e3] at h1
    exact bad _ (by decide) h1
  · rw [e1, e2, e3] at h1
    clear bad
    have HF : Hid (fs[i]? = some f) := hf
    have hil : i < nF := by rw [← HN.out]; exact (List.getElem?_eq_some_iff.1 hf).1
    have hilz : (i : Int) < (nF : Int) := by omega
    have hcn := fun W => count_any n W hn.1 hn.2
    have hcp := cntP_nat hn.1 hn.2
    obtain ⟨m, hm⟩ : ∃ m : Nat, cntP n = (m : Int) := ⟨(cntP n).toNat, by omega⟩
    rw [hm] at hcn
    have HM : Hid ((cntP n).toNat = m) := show _ = _ by rw [hm, Int.toNat_natCast]
    have hst : stW (fs.set i ⟨n, sized f.bl (cntP n).toNat⟩) cnt = 0 := size_right hw hf hn.1 hn.2
    rw [HM.out] at h1 hst
    have h4 : ∀ v W, FilesAt W v (fs.set i ⟨n, sized f.bl m⟩) → Calls Try.prog 14 #[.agg #[v, .int .i64 cnt]] W fun e w' => e = .returned (.int .i64 0) ∧ Grew W w' := fun v W hv => by
      have := wrongSt_any v _ cnt W hv
      rw [hst] at this
      exact this
    have HNX : Hid ((fs.set i ⟨n, sized f.bl m⟩).length = nF) := show _ = _ by rw [List.length_set]; exact HN.out
    obtain ⟨ad, hada, xa0, xc0, hra, hce⟩ := HR.out i f HF.out
    subst hada
    obtain ⟨nb, HNB⟩ : ∃ nb, Hid (f.bl.length = nb) := ⟨_, rfl⟩
    have HCE : Hid (∀ W, Grew w W → FlCells W (ad.add (i * 2)) f.size (.slice xa0 nb xc0)) := show ∀ W, _ from fun W hW => by rw [← HNB.out]; exact hce W hW
    have hnb := hra.short
    rw [HNB.out] at hnb
    obtain ⟨_, _, heq, hnum⟩ := hra.nums
    cases heq
    have HNUM : Hid (NumRows w xa0 f.bl) := hnum
    clear hra hce hnum e1 e2 e3 hw hf hst hcp hm
    go_enter Try.func6, Try.ntmps6
    go_wp2_with fail
    rw [HW0.out]
    refine (aliveSt_any _).mono ?_
    rintro e W1 ⟨rfl, g1⟩
    have G1 : Hid (Grew w W1) := HG0.out.trans g1
    have X1 : Hid (Box W1 w.heap.size [.slice (some ad) nF c, .int .i64 cnt]) := X0.out.grew g1
    clear g1
    have x0 := X1.out.c 0 rfl
    have x1 := X1.out.c 1 rfl
    go_wp2_with fail
    refine (h1 _ G1.out).mono ?_
    rintro e W2 ⟨vb, rfl, f2, g2⟩
    have capx := f2.cap
    obtain ⟨xa, xc, rfl, _, _⟩ := f2.at.rows
    have capx' : ((fs.set i ⟨n, sized f.bl m⟩)).length ≤ xc := capx
    rw [HNX.out] at f2 capx' ⊢
    have F2 : Hid (FilesS 0 W1.heap.size W2 (.slice xa nF xc) (fs.set i ⟨n, sized f.bl m⟩)) := f2
    have G2 : Hid (Grew w W2) := G1.out.trans g2
    have X2 : Hid (Box W2 w.heap.size [.slice (some ad) nF c, .int .i64 cnt]) := X1.out.grew g2
    clear f2 g2 x0 x1 h1 capx
    go_upto_region 6 with fail
    obtain ⟨px, hpx⟩ : ∃ px, W2.heap.size = px := ⟨_, rfl⟩
    obtain ⟨W3, hW3⟩ : ∃ W3, W2.alloc (.cells #[.slice xa nF xc, .int .i64 cnt] 36) = W3 := ⟨_, rfl⟩
    have G3 : Hid (Grew w W3) := show Grew _ _ by rw [← hW3]; exact G2.out.trans (grew_alloc _ _)
    have X3 : Hid (Box W3 w.heap.size [.slice (some ad) nF c, .int .i64 cnt]) := show Box _ _ _ by rw [← hW3]; exact X2.out.alloc _
    have P3 : Hid (Box W3 px [.slice xa nF xc, .int .i64 cnt]) := show Box _ _ _ by rw [← hW3]; exact Box.top _ _ _ hpx.symm
    have F3 : Hid (FilesAt W3 (.slice xa nF xc) (fs.set i ⟨n, sized f.bl m⟩)) := show FilesAt _ _ _ by rw [← hW3]; exact F2.out.at.grew (grew_alloc _ _)
    rw [hW3]
    rw [hpx]
    clear hW3 hpx F2 X2
    obtain ⟨_, _, heq, _, hrx⟩ := F3.out.rows
    rw [HNX.out] at heq
    cases heq
    obtain ⟨ax, hax, ya, yc, hry, hcx⟩ := hrx i ⟨n, sized f.bl m⟩ (by rw [List.getElem?_set_self (by rw [HN.out]; exact hil)])
    subst hax
    simp only [sized_len] at hry hcx
    have HCX : Hid (∀ W, Grew W3 W → FlCells W (ax.add (i * 2)) n (.slice ya m yc)) := hcx
    have hmb := hry.short
    rw [sized_len] at hmb
    obtain ⟨_, _, heq, hnum⟩ := hry.nums
    rw [sized_len] at heq
    cases heq
    have HNX3 : Hid (NumRows W3 ya (sized f.bl m)) := hnum
    clear hrx hry hcx hnum
    have hx0 : ∀ y : GrownW W3, y.world.cell? ⟨px, 0, none⟩ = some (.slice (some ax) nF xc) := fun y => (P3.out.grew y.grew).c 0 rfl
    have hx1 : ∀ y : GrownW W3, y.world.cell? ⟨px, 1, none⟩ = some (.int .i64 cnt) := fun y => (P3.out.grew y.grew).c 1 rfl
    have hy0 : ∀ y : GrownW W3, y.world.cell? (ax.add (i * 2)) = some (.int .i64 n) := fun y => (HCX.out _ y.grew).1
    have hy1 : ∀ y : GrownW W3, y.world.cell? { block := (ax.add (i * 2)).block, off := (ax.add (i * 2)).off + 1 } = some (.slice ya m yc) := fun y => (HCX.out _ y.grew).2
    have hne : Nonempty (GrownW W3) := ⟨⟨_, Grew.refl _⟩⟩
    have hnn : (n != n) = false := by simp
    have hmm : ((m : Int) != (m : Int)) = false := by simp
    refine wp_lax [(1, ⟨fun v => v = .int .i64 0, fun _ _ => True⟩), (22, ⟨fun v => v = .int .i64 (m : Int), fun _ _ => True⟩)] mixed (by kernel_rfl) ?_ ?_ ?_
    · intro x hx
      simp at hx
      rcases hx with rfl | rfl <;> exact ⟨_, rfl⟩
    · intro x hx
      simp at hx
      rcases hx with rfl | rfl <;> exact fun _ _ _ _ h => h
    iterate 1 (refine lax_quiet rfl rfl rfl (fun K hK => ?_); go_big_quiet_op; refine hK _ ?_; clear hK K)
    refine lax_spec rfl rfl (fun w' hg hF => ?_) (fun v1 hv => ?_)
    · refine Does.call [.agg #[.slice (some ax) nF xc, .int .i64 cnt]] rfl Try.func14 rfl rfl rfl ?_
      refine (h4 _ w' (F3.out.grew hg)).mono ?_
      rintro e w'' ⟨rfl, hg2⟩
      exact ⟨_, rfl, hg2, rfl, trivial⟩
    subst hv
    simp only [Act.put, List.setIfInBounds_toArray, List.set_cons_succ, List.set_cons_zero]
    iterate 20 (refine lax_quiet rfl rfl rfl (fun K hK => ?_); go_big_quiet_op; refine hK _ ?_; clear hK K)
    refine lax_spec rfl rfl (fun w' hg hF => ?_) (fun v1 hv => ?_)
    · refine Does.call [.int .i64 n] rfl Try.func27 rfl rfl rfl ?_
      refine (hcn w').mono ?_
      rintro e w'' ⟨rfl, e2⟩
      exact ⟨_, rfl, by rw [e2]; exact Grew.refl _, rfl, trivial⟩
    subst hv
    simp only [Act.put, List.setIfInBounds_toArray, List.set_cons_succ, List.set_cons_zero]
    iterate 2 (refine lax_quiet rfl rfl rfl (fun K hK => ?_); go_big_quiet_op; refine hK _ ?_; clear hK K)
    refine lax_nil fun W4 hg4 hF => ?_
    have G34 : Hid (Grew W3 W4) := hg4
    have G4 : Hid (Grew w W4) := G3.out.trans hg4
    clear hF hg4 hx0 hx1 hy0 hy1 hne h4 hcn
    have p0 := (P3.out.grew G34.out).c 0 rfl
    obtain ⟨d0, d1⟩ := HCX.out W4 G34.out
    go_wp2
    go_loopg [56] m (fun gg s56 wr => ∃ kk : Nat, kk ≤ m ∧ m - kk ≤ gg ∧ s56 = .int .i64 kk ∧ Hid (Grew W3 wr))
    case atStart => exact ⟨0, Nat.zero_le _, by omega, rfl, G34.out⟩
    case round =>
      obtain ⟨kk, hkk, hgg, rfl, BW⟩ := hrel
      clear p0 d0 d1
      have GB : Hid (Grew w wr) := G3.out.trans BW.out
      have x0 := (X3.out.grew BW.out).c 0 rfl
      have x1 := (X3.out.grew BW.out).c 1 rfl
      have p0 := (P3.out.grew BW.out).c 0 rfl
      have p1 := (P3.out.grew BW.out).c 1 rfl
      by_cases hlt : kk < m
      · have hltz : (kk : Int) < (m : Int) := by omega
        obtain ⟨z, HZ⟩ : ∃ z, Hid ((sized f.bl m)[kk]? = some z) := ⟨_, List.getElem?_eq_getElem (by rw [sized_len]; exact hlt)⟩
        obtain ⟨ay, rfl, hly⟩ := HNX3.out kk z HZ.out
        have d2 := hly wr BW.out
        obtain ⟨e0, e1⟩ := HCE.out wr GB.out
        obtain ⟨_, s1, s2⟩ := sized_get HZ.out
        rw [HNB.out] at s1 s2
        clear hly
        by_cases hb : kk < nb
        · have hbz : (kk : Int) < (nb : Int) := by omega
          have hbn : ¬ (nb : Int) ≤ (kk : Int) := by omega
          have hbd : decide ((nb : Int) ≤ (kk : Int)) = false := decide_eq_false hbn
          have hbd2 : decide (nb ≤ kk) = false := decide_eq_false (by omega)
          obtain ⟨a3, rfl, hl3⟩ := HNUM.out kk z (s1 hb)
          have d3 := hl3 wr GB.out
          have hzz : (z != z) = false := by simp
          clear hl3 s1 s2
          go_wp2
          go_roundg (m - (kk + 1))
          case measure => omega
          case rel => exact ⟨kk + 1, by omega, by omega, by go_num, BW.out⟩
        · have hbz : ¬ (kk : Int) < (nb : Int) := by omega
          have hbn : (nb : Int) ≤ (kk : Int) := by omega
          have hbd : decide ((kk : Int) < (nb : Int)) = false := decide_eq_false hbz
          have hbd2 : decide (kk < nb) = false := decide_eq_false hb
          have hz1 := s2 (by omega)
          subst hz1
          clear s1 s2
          go_wp2
          go_roundg (m - (kk + 1))
          case measure => omega
          case rel => exact ⟨kk + 1, by omega, by omega, by go_num, BW.out⟩
      · have hltz : ¬ (kk : Int) < (m : Int) := by omega
        have : kk = m := by omega
        subst this
        by_cases ho0 : ot < 0
        · go_wp2
          go_ret
          exact ⟨rfl, GB.out⟩
        · have ho0d : decide (ot < 0) = false := decide_eq_false ho0
          by_cases ho1 : (nF : Int) ≤ ot
          · go_wp2
            go_ret
            exact ⟨rfl, GB.out⟩
          · have ho1d : decide ((nF : Int) ≤ ot) = false := decide_eq_false ho1
            by_cases ho2 : ot = (i : Int)
            · subst ho2
              have ho2d : ((i : Int) == (i : Int)) = true := by simp
              go_wp2
              go_ret
              exact ⟨rfl, GB.out⟩
            · obtain ⟨o, rfl⟩ : ∃ o : Nat, ot = (o : Int) := ⟨ot.toNat, by omega⟩
              have ho2d : ((o : Int) == (i : Int)) = false := by simpa using ho2
              have hoi : o ≠ i := by omega
              have hol : o < nF := by omega
              have holz : (o : Int) < (nF : Int) := by omega
              have ho3d : decide (nF ≤ o) = false := decide_eq_false (by omega)
              have hoc1 : (o : Int) + 1 ≤ (c : Int) := by omega
              have hoc2 : (o : Int) + 1 ≤ (xc : Int) := by omega
              have hoc3 : o + 1 ≤ c := by omega
              have hoc4 : o + 1 ≤ xc := by omega
              obtain ⟨fo, HFO⟩ : ∃ fo, Hid (fs[o]? = some fo) := ⟨_, List.getElem?_eq_getElem (by rw [HN.out]; exact hol)⟩
              have HFX : Hid ((fs.set i ⟨n, sized f.bl kk⟩)[o]? = some fo) := show _ = _ by rw [List.getElem?_set_ne (fun h => hoi h.symm)]; exact HFO.out
              have hx0 : ∀ y : GrownW wr, y.world.cell? ⟨w.heap.size, 0, none⟩ = some (.slice (some ad) nF c) := fun y => (X3.out.grew (BW.out.trans y.grew)).c 0 rfl
              have hp0 : ∀ y : GrownW wr, y.world.cell? ⟨px, 0, none⟩ = some (.slice (some ax) nF xc) := fun y => (P3.out.grew (BW.out.trans y.grew)).c 0 rfl
              have hne : Nonempty (GrownW wr) := ⟨⟨_, Grew.refl _⟩⟩
              go_wp2
              clear x0 x1 p0 p1
              refine wp_lax [(14, ⟨fun v => v = .bool true, fun _ _ => True⟩)] mixed (by kernel_rfl) ?_ ?_ ?_
              · intro x hx
                simp at hx
                subst hx
                exact ⟨_, rfl⟩
              · intro x hx
                simp at hx
                subst hx
                exact fun _ _ _ _ h => h
              iterate 14 (refine lax_quiet rfl rfl rfl (fun K hK => ?_); go_big_quiet_op; refine hK _ ?_; clear hK K)
              refine lax_spec rfl rfl (fun w' hg hF => ?_) (fun v1 hv => ?_)
              · refine Does.call [.agg #[.slice (some (ad.add (o * 2))) 1 (c - o), .int .i64 0], .agg #[.slice (some (ax.add (o * 2))) 1 (xc - o), .int .i64 0]] rfl Try.func16 rfl rfl rfl ?_
                refine (sameSt_any _ _ [fo] 0 w' ((HV.out.sub HFO.out (by omega)).grew (GB.out.trans hg)) ((F3.out.sub HFX.out (by omega)).grew (BW.out.trans hg))).mono ?_
                rintro e w'' ⟨rfl, hg2⟩
                exact ⟨_, rfl, hg2, rfl, trivial⟩
              subst hv
              simp only [Act.put, List.setIfInBounds_toArray, List.set_cons_succ, List.set_cons_zero]
              iterate 1 (refine lax_quiet rfl rfl rfl (fun K hK => ?_); go_big_quiet_op; refine hK _ ?_; clear hK K)
              refine lax_nil fun W8 hg8 hF => ?_
              have G8 : Hid (Grew w W8) := GB.out.trans hg8
              clear hF hg8 hx0 hp0 hne
              go_wp2
              go_ret
              exact ⟨rfl, G8.out⟩

end Go.Proofs.Ytagpmjgmohfmjac
