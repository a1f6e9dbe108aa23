/- Contract of NextFrame (the document's answer): a memory that is right. -/
import Derived.Test.YtbcaagmnmaonbabRefNext
namespace Go.Proofs.Ytbcaagmnmaonbab
open Go.RowKit

set_option maxRecDepth 100000 in
set_option maxHeartbeats 4000000 in
theorem rnextB (a : Option Addr) (c : Nat) (fs : List Fr) (i0 : Nat) (w : World) (hv : RowAt w (.slice a fs.length c) fs) (hz : memW fs (i0 : Int) = 0) (R : List Fr × Nat × Int) (hR : nextGo (2 * fs.length) fs i0 = R) (hRN : fs.any held = false → R = (fs, i0, -1)) :
    Calls Try.prog 22 #[.agg #[.slice a fs.length c, .int .i64 (i0 : Int)]] w fun e w' => ∃ a' c', e = .returned (.tuple #[.agg #[.slice a' fs.length c', .int .i64 (R.2.1 : Int)], .int .i64 R.2.2, .int .i64 0]) ∧ (NewRow w.heap.size w' (.slice a' fs.length c') R.1 ∨ (a' = a ∧ c' = c ∧ R.1 = fs)) ∧ Grew w w' := by
  have HV : Hid (RowAt w (.slice a fs.length c) fs) := hv
  have hw : ∀ W, Grew w W → Calls Try.prog 12 #[.agg #[.slice a fs.length c, .int .i64 (i0 : Int)]] W fun e w' => e = .returned (.int .i64 (memW fs (i0 : Int))) ∧ Grew W w' := fun W hW => refWrongMem_any a c fs _ W (HV.out.grew hW)
  obtain ⟨h40, hfw, _, hhand⟩ := memW_zero hz
  have hbig := hv.short
  obtain ⟨a0, c0, heq, hrow⟩ := hv.frs
  cases heq
  have HRW : Hid (FrRows w a fs) := hrow
  clear hrow hv hfw
  obtain ⟨n, HN⟩ : ∃ n, Hid (fs.length = n) := ⟨_, rfl⟩
  simp only [HN.out, hz] at hw HV hbig h40 hhand hR ⊢
  have HR : Hid (nextGo (2 * n) fs i0 = R) := hR
  have HRN : Hid (fs.any held = false → R = (fs, i0, -1)) := hRN
  clear hz hR hRN
  obtain ⟨W0, hW0⟩ : ∃ W0, (w.alloc (.cells #[.slice a n c, .int .i64 (i0 : Int)] 39)).alloc (.cells #[.slice none 0 0, .int .i64 0] 39) = W0 := ⟨_, rfl⟩
  have HG0 : Hid (Grew w W0) := show Grew w W0 by rw [← hW0]; exact (grew_alloc _ _).trans (grew_alloc _ _)
  have X0 : Hid (Box W0 w.heap.size [.slice a n c, .int .i64 (i0 : Int)]) := show Box _ _ _ by rw [← hW0]; exact (Box.top w _ _ rfl).alloc _
  have X2 : Hid (Box W0 (w.heap.size + 1) [.slice none 0 0, .int .i64 0]) := show Box _ _ _ by rw [← hW0]; exact Box.top _ _ _ (by simp)
  have HW0 : Hid (_ = W0) := hW0
  clear hW0
  go_enter Try.func22, Try.ntmps22
  go_upto_region 1 with fail
  rw [HW0.out]
  have e0 := X0.out.c 0 rfl
  have e1 := X0.out.c 1 rfl
  go_wp2_with fail
  refine (hw _ HG0.out).mono ?_
  rintro e W1 ⟨rfl, g1⟩
  have G1 : Hid (Grew W0 W1) := g1
  clear g1 e0 e1 hw
  have e0 := (X0.out.grew G1.out).c 0 rfl
  go_wp2
  clear e0
  go_loopg [6, 8, 21] n (fun gg s6 _ s21 wr => ∃ (kk : Nat) (b : Bool), kk ≤ n ∧ n - kk ≤ gg ∧ s21 = .int .i64 kk ∧ s6 = .bool b ∧ Hid (Grew W1 wr) ∧ Hid ((fs.take kk).any held = b))
  case atStart => exact ⟨0, false, Nat.zero_le _, by omega, rfl, rfl, Grew.refl _, rfl⟩
  case round =>
    obtain ⟨kk, b, hkk, hg, rfl, rfl, BW, A⟩ := hrel
    by_cases hlt : kk < n
    · have hltz : (kk : Int) < (n : Int) := by omega
      obtain ⟨q, HQ⟩ : ∃ q, Hid (fs[kk]? = some q) := ⟨_, List.getElem?_eq_getElem (by rw [HN.out]; exact hlt)⟩
      obtain ⟨ad, rfl, hl⟩ := HRW.out kk q HQ.out
      obtain ⟨d0, d1, d2, d3, d4, d5, d6, d7, d8, d9, d10, d11, d12⟩ := hl wr (HG0.out.trans (G1.out.trans BW.out))
      clear hl
      have HST : Hid ((fs.take (kk + 1)).any held = ((fs.take kk).any held || held q)) := any_step HQ.out
      cases b with
      | true =>
        have HA : Hid ((fs.take (kk + 1)).any held = true) := show _ = _ by rw [HST.out, A.out]; rfl
        clear HST A
        go_wp2
        go_roundg (n - (kk + 1))
        case measure => omega
        case rel => exact ⟨kk + 1, true, by omega, by omega, by go_num, rfl, BW.out.trans (grew_alloc _ _), HA.out⟩
      | false =>
        have HA : Hid ((fs.take (kk + 1)).any held = held q) := show _ = _ by rw [HST.out, A.out]; rfl
        have HHD : Hid (held q = decide (0 < q.r)) := rfl
        clear HST A
        go_wp2
        go_roundg (n - (kk + 1))
        case measure => omega
        case rel => exact ⟨kk + 1, held q, by omega, by omega, by go_num, rfl, BW.out.trans (grew_alloc _ _), HA.out⟩
    · have hltz : ¬ (kk : Int) < (n : Int) := by omega
      have : kk = n := by omega
      subst this
      have HA : Hid (fs.any held = b) := show _ = _ by rw [← A.out, List.take_of_length_le (by rw [HN.out]; exact Nat.le_refl _)]
      have GG : Hid (Grew W0 wr) := G1.out.trans BW.out
      clear A
      have e0 := (X0.out.grew GG.out).c 0 rfl
      have e1 := (X0.out.grew GG.out).c 1 rfl
      have el := (X0.out.grew GG.out).lt
      cases b with
      | false =>
        have HF : Hid (R = (fs, i0, -1)) := HRN.out HA.out
        have r0 := (X2.out.grew GG.out).c 0 rfl
        have r1 := (X2.out.grew GG.out).c 1 rfl
        have rf := (X2.out.grew GG.out).f
        have rl := (X2.out.grew GG.out).lt
        go_wp2
        refine bodyPost_ret (v := .tuple #[.agg #[.slice a kk c, .int .i64 (i0 : Int)], .int .i64 (-1), .int .i64 0]) (by simp [results, Try.results22, go_sem, *]) rfl ⟨a, c, ?_, .inr ⟨rfl, rfl, ?_⟩, ?_⟩
        · rw [HF.out]
        · rw [HF.out]
        · exact grew_set (grew_set (HG0.out.trans GG.out) (by simp) _) (by simp) _
      | true =>
        have hkk0 : 0 < kk := by
          rcases Nat.eq_zero_or_pos kk with h0 | h0
          · have h1 : fs = [] := List.eq_nil_of_length_eq_zero (by rw [HN.out]; exact h0)
            have h2 := HA.out
            rw [h1] at h2
            simp at h2
          · exact h0
        go_wp2
        clear e0 e1 el
        go_loopg [9, 10, 11, 39] (2 * kk) (fun gg _ _ _ s39 wq => ∃ (jj hk : Nat) (fk : List Fr) (av : Option Addr) (cv : Nat), jj ≤ 2 * kk ∧ 2 * kk - jj ≤ gg ∧ s39 = .int .i64 jj ∧ hk < kk ∧ Hid (fk.length = kk) ∧ Hid (Box wq w.heap.size [.slice av kk cv, .int .i64 (hk : Int)]) ∧ Hid (Box wq (w.heap.size + 1) [.slice none 0 0, .int .i64 0]) ∧ Hid (Grew w wq) ∧ Hid (W0.heap.size ≤ wq.heap.size) ∧ Hid (NewRow W0.heap.size wq (.slice av kk cv) fk ∨ (av = a ∧ cv = c ∧ fk = fs)) ∧ Hid (nextGo (2 * kk - jj) fk hk = R))
        case atStart => exact ⟨0, i0, fs, a, c, Nat.zero_le _, by omega, rfl, by omega, HN.out, X0.out.grew GG.out, X2.out.grew GG.out, HG0.out.trans GG.out, Below.size GG.out, (show _ ∨ _ from .inr ⟨rfl, rfl, rfl⟩), HR.out⟩
        case round =>
          obtain ⟨jj, hk, fk, av, cv, hjj, hg2, rfl, hhk, HL, BMM, BRR, GW, HSZ, OR, A2⟩ := hrel
          have RA : Hid (RowAt wr (.slice av kk cv) fk) := show RowAt _ _ _ by
            rcases OR.out with h1 | ⟨rfl, rfl, rfl⟩
            · exact h1.1
            · exact HV.out.grew GW.out
          by_cases hlt2 : jj < 2 * kk
          · have hltz2 : (jj : Int) < 2 * (kk : Int) := by omega
            obtain ⟨q, HQ⟩ : ∃ q, Hid (fk[hk]? = some q) := ⟨_, List.getElem?_eq_getElem (by rw [HL.out]; exact hhk)⟩
            obtain ⟨a9, c9, heq9, hrow9⟩ := RA.out.frs
            rw [HL.out] at heq9
            cases heq9
            obtain ⟨ad, rfl, hl9⟩ := hrow9 hk q HQ.out
            obtain ⟨d0, d1, d2, d3, d4, d5, d6, d7, d8, d9, d10, d11, d12⟩ := hl9 wr (Grew.refl _)
            clear hl9 hrow9
            have hgd : fk.getD hk fr0 = q := by rw [List.getD_eq_getElem?_getD, HQ.out]; rfl
            have e0 := BMM.out.c 0 rfl
            have e1 := BMM.out.c 1 rfl
            have el := BMM.out.lt
            have hhz : (hk : Int) < (kk : Int) := by omega
            have hwith : ∀ W, Grew wr W → Calls Try.prog 39 #[.agg #[.slice (some ad) kk cv, .int .i64 (hk : Int)], .int .i64 (hk : Int), .agg #[.int .u8 q.p.b0, .int .u8 q.p.b1, .int .u8 q.p.b2, .int .u8 q.p.b3, .int .u8 q.p.b4, .int .u8 q.p.b5, .int .u8 q.p.b6, .int .u8 q.p.b7, .int .i64 q.r, .bool false, .bool q.d, .int .i64 q.f, .int .i64 q.x]] W fun e w' => ∃ a2 c2, e = .returned (.agg #[.slice a2 kk c2, .int .i64 (hk : Int)]) ∧ NewRow W.heap.size w' (.slice a2 kk c2) (fk.set hk (frU q)) ∧ Grew W w' := fun W hW => by
              have hc := with_any (some ad) cv fk (hk : Int) hk (by rw [HL.out]; exact hhk) (frU q) W (by rw [HL.out]; exact RA.out.grew hW)
              rw [HL.out] at hc
              refine Calls.mono hc ?_
              rintro e w' ⟨b, rfl, hb, hg⟩
              obtain ⟨a2, c2, rfl, _⟩ := hb.1.rows
              rw [List.length_set, HL.out] at hb ⊢
              exact ⟨a2, c2, rfl, hb, hg⟩
            obtain ⟨u, HUU⟩ : ∃ u, Hid (q.u = u) := ⟨_, rfl⟩
            rw [HUU.out] at d9
            by_cases hr : 0 < q.r
            · cases u with
              | true =>
                by_cases hwr : hk + 1 = kk
                · have hww : ((hk : Int) + 1 == (kk : Int)) = true := by simp; omega
                  have HMOD : Hid ((hk + 1) % kk = 0) := show _ = _ by rw [show hk + 1 = kk by omega]; exact Nat.mod_self kk
                  have HST : Hid (nextGo (2 * kk - (jj + 1)) (fk.set hk (frU q)) (0) = R) := show _ = _ by
                    rw [← A2.out, show 2 * kk - jj = (2 * kk - (jj + 1)) + 1 by omega, nextGo, hgd, HL.out, HMOD.out, show idle q = false from by unfold idle; rw [HUU.out]; simp]
                    rfl
                  clear hgd A2
                  go_wp2_with fail
                  refine (hwith _ (grew_alloc _ _)).mono ?_
                  rintro e W5 ⟨a5, c5, rfl, hb5, g5⟩
                  have hs0 : w.heap.size < W0.heap.size := X0.out.lt
                  have hs1 : w.heap.size + 1 < W0.heap.size := X2.out.lt
                  have GG5 : Hid (Grew w W5) := (GW.out.trans (grew_alloc _ _)).trans g5
                  have B5 : Hid (Box W5 w.heap.size [.slice (some ad) kk cv, .int .i64 (hk : Int)]) := (BMM.out.alloc _).grew g5
                  have R5 : Hid (Box W5 (w.heap.size + 1) [.slice none 0 0, .int .i64 0]) := (BRR.out.alloc _).grew g5
                  have hsz := HSZ.out
                  have hsz5 : W0.heap.size ≤ W5.heap.size := by have := Below.size g5; simp at this; omega
                  have NB5 : Hid (NewRow W0.heap.size W5 (.slice a5 kk c5) (fk.set hk (frU q))) := hb5.base (by simp; omega)
                  clear hb5 g5 d0 d1 d2 d3 d4 d5 d6 d7 d8 d9 d10 d11 d12 e0 e1 el hwith
                  have e0 := B5.out.c 0 rfl
                  have e1 := B5.out.c 1 rfl
                  have ef := B5.out.f
                  have el := B5.out.lt
                  go_upto_region 19 with fail
                  obtain ⟨W6, hW6⟩ : ∃ W6, (W5.setCell ⟨w.heap.size, 0, none⟩ (.slice a5 kk c5)).setCell ⟨w.heap.size, 1, none⟩ (.int .i64 (hk : Int)) = W6 := ⟨_, rfl⟩
                  rw [hW6]
                  have B6 : Hid (Box W6 w.heap.size [.slice a5 kk c5, .int .i64 (hk : Int)]) := show Box _ _ _ by rw [← hW6]; exact (B5.out.set 0 _).set 1 _
                  have R6 : Hid (Box W6 (w.heap.size + 1) [.slice none 0 0, .int .i64 0]) := show Box _ _ _ by rw [← hW6]; exact (R5.out.other (by simp) _).other (by simp) _
                  have NB6 : Hid (NewRow W0.heap.size W6 (.slice a5 kk c5) (fk.set hk (frU q))) := show NewRow _ _ _ _ by rw [← hW6]; exact (NB5.out.setCell (a := ⟨w.heap.size, 0, none⟩) hs0 _).setCell (a := ⟨w.heap.size, 1, none⟩) hs0 _
                  have GG6 : Hid (Grew w W6) := show Grew _ _ by rw [← hW6]; exact grew_set (grew_set GG5.out (Nat.le_refl _) _) (Nat.le_refl _) _
                  have hsz6 : W0.heap.size ≤ W6.heap.size := by rw [← hW6]; simp; omega
                  clear hW6 e0 e1 ef el
                  have e1 := B6.out.c 1 rfl
                  have ef := B6.out.f
                  go_upto_region 20 with fail
                  obtain ⟨W7, hW7⟩ : ∃ W7, W6.setCell ⟨w.heap.size, 1, none⟩ (.int .i64 ((hk : Int) + 1)) = W7 := ⟨_, rfl⟩
                  rw [hW7]
                  have B7 : Hid (Box W7 w.heap.size [.slice a5 kk c5, .int .i64 ((hk : Int) + 1)]) := show Box _ _ _ by rw [← hW7]; exact B6.out.set 1 _
                  have R7 : Hid (Box W7 (w.heap.size + 1) [.slice none 0 0, .int .i64 0]) := show Box _ _ _ by rw [← hW7]; exact R6.out.other (by simp) _
                  have NB7 : Hid (NewRow W0.heap.size W7 (.slice a5 kk c5) (fk.set hk (frU q))) := show NewRow _ _ _ _ by rw [← hW7]; exact NB6.out.setCell (a := ⟨w.heap.size, 1, none⟩) hs0 _
                  have GG7 : Hid (Grew w W7) := show Grew _ _ by rw [← hW7]; exact grew_set GG6.out (Nat.le_refl _) _
                  have hsz7 : W0.heap.size ≤ W7.heap.size := by rw [← hW7]; simp; omega
                  clear hW7 e1 ef
                  have e0 := B7.out.c 0 rfl
                  have e1 := B7.out.c 1 rfl
                  have ef := B7.out.f
                  have el := B7.out.lt
                  go_wp2
                  go_roundg (2 * kk - (jj + 1))
                  case measure => omega
                  case rel => exact ⟨jj + 1, 0, fk.set hk (frU q), a5, c5, by omega, by omega, by go_num, by omega, (show (fk.set hk (frU q)).length = kk by rw [List.length_set]; exact HL.out), (show Box _ _ _ by first | exact B7.out | exact (B7.out.set 1 _)), (show Box _ _ _ by repeat first | exact R7.out | refine Box.other ?_ (by simp) _), (by repeat first | exact GG7.out | refine grew_set ?_ (by simp) _), (show W0.heap.size ≤ _ by first | exact hsz7 | (simp; omega)), (show _ ∨ _ from .inl (by repeat first | exact NB7.out | refine NewRow.setCell ?_ (by first | exact hs0 | exact hs1) _)), HST.out⟩
                · have hww : ((hk : Int) + 1 == (kk : Int)) = false := by simp; omega
                  have HMOD : Hid ((hk + 1) % kk = hk + 1) := show _ = _ by exact Nat.mod_eq_of_lt (by omega)
                  have HST : Hid (nextGo (2 * kk - (jj + 1)) (fk.set hk (frU q)) (hk + 1) = R) := show _ = _ by
                    rw [← A2.out, show 2 * kk - jj = (2 * kk - (jj + 1)) + 1 by omega, nextGo, hgd, HL.out, HMOD.out, show idle q = false from by unfold idle; rw [HUU.out]; simp]
                    rfl
                  clear hgd A2
                  go_wp2_with fail
                  refine (hwith _ (grew_alloc _ _)).mono ?_
                  rintro e W5 ⟨a5, c5, rfl, hb5, g5⟩
                  have hs0 : w.heap.size < W0.heap.size := X0.out.lt
                  have hs1 : w.heap.size + 1 < W0.heap.size := X2.out.lt
                  have GG5 : Hid (Grew w W5) := (GW.out.trans (grew_alloc _ _)).trans g5
                  have B5 : Hid (Box W5 w.heap.size [.slice (some ad) kk cv, .int .i64 (hk : Int)]) := (BMM.out.alloc _).grew g5
                  have R5 : Hid (Box W5 (w.heap.size + 1) [.slice none 0 0, .int .i64 0]) := (BRR.out.alloc _).grew g5
                  have hsz := HSZ.out
                  have hsz5 : W0.heap.size ≤ W5.heap.size := by have := Below.size g5; simp at this; omega
                  have NB5 : Hid (NewRow W0.heap.size W5 (.slice a5 kk c5) (fk.set hk (frU q))) := hb5.base (by simp; omega)
                  clear hb5 g5 d0 d1 d2 d3 d4 d5 d6 d7 d8 d9 d10 d11 d12 e0 e1 el hwith
                  have e0 := B5.out.c 0 rfl
                  have e1 := B5.out.c 1 rfl
                  have ef := B5.out.f
                  have el := B5.out.lt
                  go_upto_region 19 with fail
                  obtain ⟨W6, hW6⟩ : ∃ W6, (W5.setCell ⟨w.heap.size, 0, none⟩ (.slice a5 kk c5)).setCell ⟨w.heap.size, 1, none⟩ (.int .i64 (hk : Int)) = W6 := ⟨_, rfl⟩
                  rw [hW6]
                  have B6 : Hid (Box W6 w.heap.size [.slice a5 kk c5, .int .i64 (hk : Int)]) := show Box _ _ _ by rw [← hW6]; exact (B5.out.set 0 _).set 1 _
                  have R6 : Hid (Box W6 (w.heap.size + 1) [.slice none 0 0, .int .i64 0]) := show Box _ _ _ by rw [← hW6]; exact (R5.out.other (by simp) _).other (by simp) _
                  have NB6 : Hid (NewRow W0.heap.size W6 (.slice a5 kk c5) (fk.set hk (frU q))) := show NewRow _ _ _ _ by rw [← hW6]; exact (NB5.out.setCell (a := ⟨w.heap.size, 0, none⟩) hs0 _).setCell (a := ⟨w.heap.size, 1, none⟩) hs0 _
                  have GG6 : Hid (Grew w W6) := show Grew _ _ by rw [← hW6]; exact grew_set (grew_set GG5.out (Nat.le_refl _) _) (Nat.le_refl _) _
                  have hsz6 : W0.heap.size ≤ W6.heap.size := by rw [← hW6]; simp; omega
                  clear hW6 e0 e1 ef el
                  have e1 := B6.out.c 1 rfl
                  have ef := B6.out.f
                  go_upto_region 20 with fail
                  obtain ⟨W7, hW7⟩ : ∃ W7, W6.setCell ⟨w.heap.size, 1, none⟩ (.int .i64 ((hk : Int) + 1)) = W7 := ⟨_, rfl⟩
                  rw [hW7]
                  have B7 : Hid (Box W7 w.heap.size [.slice a5 kk c5, .int .i64 ((hk : Int) + 1)]) := show Box _ _ _ by rw [← hW7]; exact B6.out.set 1 _
                  have R7 : Hid (Box W7 (w.heap.size + 1) [.slice none 0 0, .int .i64 0]) := show Box _ _ _ by rw [← hW7]; exact R6.out.other (by simp) _
                  have NB7 : Hid (NewRow W0.heap.size W7 (.slice a5 kk c5) (fk.set hk (frU q))) := show NewRow _ _ _ _ by rw [← hW7]; exact NB6.out.setCell (a := ⟨w.heap.size, 1, none⟩) hs0 _
                  have GG7 : Hid (Grew w W7) := show Grew _ _ by rw [← hW7]; exact grew_set GG6.out (Nat.le_refl _) _
                  have hsz7 : W0.heap.size ≤ W7.heap.size := by rw [← hW7]; simp; omega
                  clear hW7 e1 ef
                  have e0 := B7.out.c 0 rfl
                  have e1 := B7.out.c 1 rfl
                  have ef := B7.out.f
                  have el := B7.out.lt
                  go_wp2
                  go_roundg (2 * kk - (jj + 1))
                  case measure => omega
                  case rel => exact ⟨jj + 1, hk + 1, fk.set hk (frU q), a5, c5, by omega, by omega, by go_num, by omega, (show (fk.set hk (frU q)).length = kk by rw [List.length_set]; exact HL.out), (show Box _ _ _ by first | exact B7.out | exact (B7.out.set 1 _)), (show Box _ _ _ by repeat first | exact R7.out | refine Box.other ?_ (by simp) _), (by repeat first | exact GG7.out | refine grew_set ?_ (by simp) _), (show W0.heap.size ≤ _ by first | exact hsz7 | (simp; omega)), (show _ ∨ _ from .inl (by repeat first | exact NB7.out | refine NewRow.setCell ?_ (by first | exact hs0 | exact hs1) _)), HST.out⟩
              | false =>
                by_cases hwr : hk + 1 = kk
                · have hww : ((hk : Int) + 1 == (kk : Int)) = true := by simp; omega
                  have HMOD : Hid ((hk + 1) % kk = 0) := show _ = _ by rw [show hk + 1 = kk by omega]; exact Nat.mod_self kk
                  have HST : Hid (R = (fk.set hk (frU q), 0, (hk : Int))) := show _ = _ by
                    rw [← A2.out, show 2 * kk - jj = (2 * kk - (jj + 1)) + 1 by omega, nextGo, hgd, HL.out, HMOD.out, show idle q = true from by unfold idle; rw [HUU.out]; simp [hr]]
                    rfl
                  clear hgd A2
                  go_wp2_with fail
                  refine (hwith _ (grew_alloc _ _)).mono ?_
                  rintro e W5 ⟨a5, c5, rfl, hb5, g5⟩
                  have hs0 : w.heap.size < W0.heap.size := X0.out.lt
                  have hs1 : w.heap.size + 1 < W0.heap.size := X2.out.lt
                  have GG5 : Hid (Grew w W5) := (GW.out.trans (grew_alloc _ _)).trans g5
                  have B5 : Hid (Box W5 w.heap.size [.slice (some ad) kk cv, .int .i64 (hk : Int)]) := (BMM.out.alloc _).grew g5
                  have R5 : Hid (Box W5 (w.heap.size + 1) [.slice none 0 0, .int .i64 0]) := (BRR.out.alloc _).grew g5
                  have hsz := HSZ.out
                  have hsz5 : W0.heap.size ≤ W5.heap.size := by have := Below.size g5; simp at this; omega
                  have NB5 : Hid (NewRow W0.heap.size W5 (.slice a5 kk c5) (fk.set hk (frU q))) := hb5.base (by simp; omega)
                  clear hb5 g5 d0 d1 d2 d3 d4 d5 d6 d7 d8 d9 d10 d11 d12 e0 e1 el hwith
                  have e0 := B5.out.c 0 rfl
                  have e1 := B5.out.c 1 rfl
                  have ef := B5.out.f
                  have el := B5.out.lt
                  go_upto_region 19 with fail
                  obtain ⟨W6, hW6⟩ : ∃ W6, (W5.setCell ⟨w.heap.size, 0, none⟩ (.slice a5 kk c5)).setCell ⟨w.heap.size, 1, none⟩ (.int .i64 (hk : Int)) = W6 := ⟨_, rfl⟩
                  rw [hW6]
                  have B6 : Hid (Box W6 w.heap.size [.slice a5 kk c5, .int .i64 (hk : Int)]) := show Box _ _ _ by rw [← hW6]; exact (B5.out.set 0 _).set 1 _
                  have R6 : Hid (Box W6 (w.heap.size + 1) [.slice none 0 0, .int .i64 0]) := show Box _ _ _ by rw [← hW6]; exact (R5.out.other (by simp) _).other (by simp) _
                  have NB6 : Hid (NewRow W0.heap.size W6 (.slice a5 kk c5) (fk.set hk (frU q))) := show NewRow _ _ _ _ by rw [← hW6]; exact (NB5.out.setCell (a := ⟨w.heap.size, 0, none⟩) hs0 _).setCell (a := ⟨w.heap.size, 1, none⟩) hs0 _
                  have GG6 : Hid (Grew w W6) := show Grew _ _ by rw [← hW6]; exact grew_set (grew_set GG5.out (Nat.le_refl _) _) (Nat.le_refl _) _
                  have hsz6 : W0.heap.size ≤ W6.heap.size := by rw [← hW6]; simp; omega
                  clear hW6 e0 e1 ef el
                  have e1 := B6.out.c 1 rfl
                  have ef := B6.out.f
                  go_upto_region 20 with fail
                  obtain ⟨W7, hW7⟩ : ∃ W7, W6.setCell ⟨w.heap.size, 1, none⟩ (.int .i64 ((hk : Int) + 1)) = W7 := ⟨_, rfl⟩
                  rw [hW7]
                  have B7 : Hid (Box W7 w.heap.size [.slice a5 kk c5, .int .i64 ((hk : Int) + 1)]) := show Box _ _ _ by rw [← hW7]; exact B6.out.set 1 _
                  have R7 : Hid (Box W7 (w.heap.size + 1) [.slice none 0 0, .int .i64 0]) := show Box _ _ _ by rw [← hW7]; exact R6.out.other (by simp) _
                  have NB7 : Hid (NewRow W0.heap.size W7 (.slice a5 kk c5) (fk.set hk (frU q))) := show NewRow _ _ _ _ by rw [← hW7]; exact NB6.out.setCell (a := ⟨w.heap.size, 1, none⟩) hs0 _
                  have GG7 : Hid (Grew w W7) := show Grew _ _ by rw [← hW7]; exact grew_set GG6.out (Nat.le_refl _) _
                  have hsz7 : W0.heap.size ≤ W7.heap.size := by rw [← hW7]; simp; omega
                  clear hW7 e1 ef
                  have e0 := B7.out.c 0 rfl
                  have e1 := B7.out.c 1 rfl
                  have ef := B7.out.f
                  have el := B7.out.lt
                  have r0 := R7.out.c 0 rfl
                  have r1 := R7.out.c 1 rfl
                  have rf := R7.out.f
                  have rl := R7.out.lt
                  go_wp2
                  refine bodyPost_ret (v := .tuple #[.agg #[.slice a5 kk c5, .int .i64 0], .int .i64 (hk : Int), .int .i64 0]) (by simp [results, Try.results22, go_sem, *]) rfl ⟨a5, c5, ?_, .inl ?_, ?_⟩
                  · rw [HST.out]
                    rfl
                  · rw [HST.out]
                    exact NewRow.base (by repeat first | exact NB7.out | refine NewRow.setCell ?_ (by first | exact hs0 | exact hs1) _) (by omega)
                  · exact (by repeat first | exact GG7.out | refine grew_set ?_ (by simp) _)
                · have hww : ((hk : Int) + 1 == (kk : Int)) = false := by simp; omega
                  have HMOD : Hid ((hk + 1) % kk = hk + 1) := show _ = _ by exact Nat.mod_eq_of_lt (by omega)
                  have HST : Hid (R = (fk.set hk (frU q), hk + 1, (hk : Int))) := show _ = _ by
                    rw [← A2.out, show 2 * kk - jj = (2 * kk - (jj + 1)) + 1 by omega, nextGo, hgd, HL.out, HMOD.out, show idle q = true from by unfold idle; rw [HUU.out]; simp [hr]]
                    rfl
                  clear hgd A2
                  go_wp2_with fail
                  refine (hwith _ (grew_alloc _ _)).mono ?_
                  rintro e W5 ⟨a5, c5, rfl, hb5, g5⟩
                  have hs0 : w.heap.size < W0.heap.size := X0.out.lt
                  have hs1 : w.heap.size + 1 < W0.heap.size := X2.out.lt
                  have GG5 : Hid (Grew w W5) := (GW.out.trans (grew_alloc _ _)).trans g5
                  have B5 : Hid (Box W5 w.heap.size [.slice (some ad) kk cv, .int .i64 (hk : Int)]) := (BMM.out.alloc _).grew g5
                  have R5 : Hid (Box W5 (w.heap.size + 1) [.slice none 0 0, .int .i64 0]) := (BRR.out.alloc _).grew g5
                  have hsz := HSZ.out
                  have hsz5 : W0.heap.size ≤ W5.heap.size := by have := Below.size g5; simp at this; omega
                  have NB5 : Hid (NewRow W0.heap.size W5 (.slice a5 kk c5) (fk.set hk (frU q))) := hb5.base (by simp; omega)
                  clear hb5 g5 d0 d1 d2 d3 d4 d5 d6 d7 d8 d9 d10 d11 d12 e0 e1 el hwith
                  have e0 := B5.out.c 0 rfl
                  have e1 := B5.out.c 1 rfl
                  have ef := B5.out.f
                  have el := B5.out.lt
                  go_upto_region 19 with fail
                  obtain ⟨W6, hW6⟩ : ∃ W6, (W5.setCell ⟨w.heap.size, 0, none⟩ (.slice a5 kk c5)).setCell ⟨w.heap.size, 1, none⟩ (.int .i64 (hk : Int)) = W6 := ⟨_, rfl⟩
                  rw [hW6]
                  have B6 : Hid (Box W6 w.heap.size [.slice a5 kk c5, .int .i64 (hk : Int)]) := show Box _ _ _ by rw [← hW6]; exact (B5.out.set 0 _).set 1 _
                  have R6 : Hid (Box W6 (w.heap.size + 1) [.slice none 0 0, .int .i64 0]) := show Box _ _ _ by rw [← hW6]; exact (R5.out.other (by simp) _).other (by simp) _
                  have NB6 : Hid (NewRow W0.heap.size W6 (.slice a5 kk c5) (fk.set hk (frU q))) := show NewRow _ _ _ _ by rw [← hW6]; exact (NB5.out.setCell (a := ⟨w.heap.size, 0, none⟩) hs0 _).setCell (a := ⟨w.heap.size, 1, none⟩) hs0 _
                  have GG6 : Hid (Grew w W6) := show Grew _ _ by rw [← hW6]; exact grew_set (grew_set GG5.out (Nat.le_refl _) _) (Nat.le_refl _) _
                  have hsz6 : W0.heap.size ≤ W6.heap.size := by rw [← hW6]; simp; omega
                  clear hW6 e0 e1 ef el
                  have e1 := B6.out.c 1 rfl
                  have ef := B6.out.f
                  go_upto_region 20 with fail
                  obtain ⟨W7, hW7⟩ : ∃ W7, W6.setCell ⟨w.heap.size, 1, none⟩ (.int .i64 ((hk : Int) + 1)) = W7 := ⟨_, rfl⟩
                  rw [hW7]
                  have B7 : Hid (Box W7 w.heap.size [.slice a5 kk c5, .int .i64 ((hk : Int) + 1)]) := show Box _ _ _ by rw [← hW7]; exact B6.out.set 1 _
                  have R7 : Hid (Box W7 (w.heap.size + 1) [.slice none 0 0, .int .i64 0]) := show Box _ _ _ by rw [← hW7]; exact R6.out.other (by simp) _
                  have NB7 : Hid (NewRow W0.heap.size W7 (.slice a5 kk c5) (fk.set hk (frU q))) := show NewRow _ _ _ _ by rw [← hW7]; exact NB6.out.setCell (a := ⟨w.heap.size, 1, none⟩) hs0 _
                  have GG7 : Hid (Grew w W7) := show Grew _ _ by rw [← hW7]; exact grew_set GG6.out (Nat.le_refl _) _
                  have hsz7 : W0.heap.size ≤ W7.heap.size := by rw [← hW7]; simp; omega
                  clear hW7 e1 ef
                  have e0 := B7.out.c 0 rfl
                  have e1 := B7.out.c 1 rfl
                  have ef := B7.out.f
                  have el := B7.out.lt
                  have r0 := R7.out.c 0 rfl
                  have r1 := R7.out.c 1 rfl
                  have rf := R7.out.f
                  have rl := R7.out.lt
                  go_wp2
                  refine bodyPost_ret (v := .tuple #[.agg #[.slice a5 kk c5, .int .i64 ((hk : Int) + 1)], .int .i64 (hk : Int), .int .i64 0]) (by simp [results, Try.results22, go_sem, *]) rfl ⟨a5, c5, ?_, .inl ?_, ?_⟩
                  · rw [HST.out]
                    simp
                  · rw [HST.out]
                    exact NewRow.base (by repeat first | exact NB7.out | refine NewRow.setCell ?_ (by first | exact hs0 | exact hs1) _) (by omega)
                  · exact (by repeat first | exact GG7.out | refine grew_set ?_ (by simp) _)
            · by_cases hwr : hk + 1 = kk
              · have hww : ((hk : Int) + 1 == (kk : Int)) = true := by simp; omega
                have HMOD : Hid ((hk + 1) % kk = 0) := show _ = _ by rw [show hk + 1 = kk by omega]; exact Nat.mod_self kk
                have HST : Hid (nextGo (2 * kk - (jj + 1)) (fk.set hk (frU q)) (0) = R) := show _ = _ by
                  rw [← A2.out, show 2 * kk - jj = (2 * kk - (jj + 1)) + 1 by omega, nextGo, hgd, HL.out, HMOD.out, show idle q = false from by unfold idle; simp [hr]]
                  rfl
                clear hgd A2
                go_wp2_with fail
                refine (hwith _ (grew_alloc _ _)).mono ?_
                rintro e W5 ⟨a5, c5, rfl, hb5, g5⟩
                have hs0 : w.heap.size < W0.heap.size := X0.out.lt
                have hs1 : w.heap.size + 1 < W0.heap.size := X2.out.lt
                have GG5 : Hid (Grew w W5) := (GW.out.trans (grew_alloc _ _)).trans g5
                have B5 : Hid (Box W5 w.heap.size [.slice (some ad) kk cv, .int .i64 (hk : Int)]) := (BMM.out.alloc _).grew g5
                have R5 : Hid (Box W5 (w.heap.size + 1) [.slice none 0 0, .int .i64 0]) := (BRR.out.alloc _).grew g5
                have hsz := HSZ.out
                have hsz5 : W0.heap.size ≤ W5.heap.size := by have := Below.size g5; simp at this; omega
                have NB5 : Hid (NewRow W0.heap.size W5 (.slice a5 kk c5) (fk.set hk (frU q))) := hb5.base (by simp; omega)
                clear hb5 g5 d0 d1 d2 d3 d4 d5 d6 d7 d8 d9 d10 d11 d12 e0 e1 el hwith
                have e0 := B5.out.c 0 rfl
                have e1 := B5.out.c 1 rfl
                have ef := B5.out.f
                have el := B5.out.lt
                go_upto_region 19 with fail
                obtain ⟨W6, hW6⟩ : ∃ W6, (W5.setCell ⟨w.heap.size, 0, none⟩ (.slice a5 kk c5)).setCell ⟨w.heap.size, 1, none⟩ (.int .i64 (hk : Int)) = W6 := ⟨_, rfl⟩
                rw [hW6]
                have B6 : Hid (Box W6 w.heap.size [.slice a5 kk c5, .int .i64 (hk : Int)]) := show Box _ _ _ by rw [← hW6]; exact (B5.out.set 0 _).set 1 _
                have R6 : Hid (Box W6 (w.heap.size + 1) [.slice none 0 0, .int .i64 0]) := show Box _ _ _ by rw [← hW6]; exact (R5.out.other (by simp) _).other (by simp) _
                have NB6 : Hid (NewRow W0.heap.size W6 (.slice a5 kk c5) (fk.set hk (frU q))) := show NewRow _ _ _ _ by rw [← hW6]; exact (NB5.out.setCell (a := ⟨w.heap.size, 0, none⟩) hs0 _).setCell (a := ⟨w.heap.size, 1, none⟩) hs0 _
                have GG6 : Hid (Grew w W6) := show Grew _ _ by rw [← hW6]; exact grew_set (grew_set GG5.out (Nat.le_refl _) _) (Nat.le_refl _) _
                have hsz6 : W0.heap.size ≤ W6.heap.size := by rw [← hW6]; simp; omega
                clear hW6 e0 e1 ef el
                have e1 := B6.out.c 1 rfl
                have ef := B6.out.f
                go_upto_region 20 with fail
                obtain ⟨W7, hW7⟩ : ∃ W7, W6.setCell ⟨w.heap.size, 1, none⟩ (.int .i64 ((hk : Int) + 1)) = W7 := ⟨_, rfl⟩
                rw [hW7]
                have B7 : Hid (Box W7 w.heap.size [.slice a5 kk c5, .int .i64 ((hk : Int) + 1)]) := show Box _ _ _ by rw [← hW7]; exact B6.out.set 1 _
                have R7 : Hid (Box W7 (w.heap.size + 1) [.slice none 0 0, .int .i64 0]) := show Box _ _ _ by rw [← hW7]; exact R6.out.other (by simp) _
                have NB7 : Hid (NewRow W0.heap.size W7 (.slice a5 kk c5) (fk.set hk (frU q))) := show NewRow _ _ _ _ by rw [← hW7]; exact NB6.out.setCell (a := ⟨w.heap.size, 1, none⟩) hs0 _
                have GG7 : Hid (Grew w W7) := show Grew _ _ by rw [← hW7]; exact grew_set GG6.out (Nat.le_refl _) _
                have hsz7 : W0.heap.size ≤ W7.heap.size := by rw [← hW7]; simp; omega
                clear hW7 e1 ef
                have e0 := B7.out.c 0 rfl
                have e1 := B7.out.c 1 rfl
                have ef := B7.out.f
                have el := B7.out.lt
                go_wp2
                go_roundg (2 * kk - (jj + 1))
                case measure => omega
                case rel => exact ⟨jj + 1, 0, fk.set hk (frU q), a5, c5, by omega, by omega, by go_num, by omega, (show (fk.set hk (frU q)).length = kk by rw [List.length_set]; exact HL.out), (show Box _ _ _ by first | exact B7.out | exact (B7.out.set 1 _)), (show Box _ _ _ by repeat first | exact R7.out | refine Box.other ?_ (by simp) _), (by repeat first | exact GG7.out | refine grew_set ?_ (by simp) _), (show W0.heap.size ≤ _ by first | exact hsz7 | (simp; omega)), (show _ ∨ _ from .inl (by repeat first | exact NB7.out | refine NewRow.setCell ?_ (by first | exact hs0 | exact hs1) _)), HST.out⟩
              · have hww : ((hk : Int) + 1 == (kk : Int)) = false := by simp; omega
                have HMOD : Hid ((hk + 1) % kk = hk + 1) := show _ = _ by exact Nat.mod_eq_of_lt (by omega)
                have HST : Hid (nextGo (2 * kk - (jj + 1)) (fk.set hk (frU q)) (hk + 1) = R) := show _ = _ by
                  rw [← A2.out, show 2 * kk - jj = (2 * kk - (jj + 1)) + 1 by omega, nextGo, hgd, HL.out, HMOD.out, show idle q = false from by unfold idle; simp [hr]]
                  rfl
                clear hgd A2
                go_wp2_with fail
                refine (hwith _ (grew_alloc _ _)).mono ?_
                rintro e W5 ⟨a5, c5, rfl, hb5, g5⟩
                have hs0 : w.heap.size < W0.heap.size := X0.out.lt
                have hs1 : w.heap.size + 1 < W0.heap.size := X2.out.lt
                have GG5 : Hid (Grew w W5) := (GW.out.trans (grew_alloc _ _)).trans g5
                have B5 : Hid (Box W5 w.heap.size [.slice (some ad) kk cv, .int .i64 (hk : Int)]) := (BMM.out.alloc _).grew g5
                have R5 : Hid (Box W5 (w.heap.size + 1) [.slice none 0 0, .int .i64 0]) := (BRR.out.alloc _).grew g5
                have hsz := HSZ.out
                have hsz5 : W0.heap.size ≤ W5.heap.size := by have := Below.size g5; simp at this; omega
                have NB5 : Hid (NewRow W0.heap.size W5 (.slice a5 kk c5) (fk.set hk (frU q))) := hb5.base (by simp; omega)
                clear hb5 g5 d0 d1 d2 d3 d4 d5 d6 d7 d8 d9 d10 d11 d12 e0 e1 el hwith
                have e0 := B5.out.c 0 rfl
                have e1 := B5.out.c 1 rfl
                have ef := B5.out.f
                have el := B5.out.lt
                go_upto_region 19 with fail
                obtain ⟨W6, hW6⟩ : ∃ W6, (W5.setCell ⟨w.heap.size, 0, none⟩ (.slice a5 kk c5)).setCell ⟨w.heap.size, 1, none⟩ (.int .i64 (hk : Int)) = W6 := ⟨_, rfl⟩
                rw [hW6]
                have B6 : Hid (Box W6 w.heap.size [.slice a5 kk c5, .int .i64 (hk : Int)]) := show Box _ _ _ by rw [← hW6]; exact (B5.out.set 0 _).set 1 _
                have R6 : Hid (Box W6 (w.heap.size + 1) [.slice none 0 0, .int .i64 0]) := show Box _ _ _ by rw [← hW6]; exact (R5.out.other (by simp) _).other (by simp) _
                have NB6 : Hid (NewRow W0.heap.size W6 (.slice a5 kk c5) (fk.set hk (frU q))) := show NewRow _ _ _ _ by rw [← hW6]; exact (NB5.out.setCell (a := ⟨w.heap.size, 0, none⟩) hs0 _).setCell (a := ⟨w.heap.size, 1, none⟩) hs0 _
                have GG6 : Hid (Grew w W6) := show Grew _ _ by rw [← hW6]; exact grew_set (grew_set GG5.out (Nat.le_refl _) _) (Nat.le_refl _) _
                have hsz6 : W0.heap.size ≤ W6.heap.size := by rw [← hW6]; simp; omega
                clear hW6 e0 e1 ef el
                have e1 := B6.out.c 1 rfl
                have ef := B6.out.f
                go_upto_region 20 with fail
                obtain ⟨W7, hW7⟩ : ∃ W7, W6.setCell ⟨w.heap.size, 1, none⟩ (.int .i64 ((hk : Int) + 1)) = W7 := ⟨_, rfl⟩
                rw [hW7]
                have B7 : Hid (Box W7 w.heap.size [.slice a5 kk c5, .int .i64 ((hk : Int) + 1)]) := show Box _ _ _ by rw [← hW7]; exact B6.out.set 1 _
                have R7 : Hid (Box W7 (w.heap.size + 1) [.slice none 0 0, .int .i64 0]) := show Box _ _ _ by rw [← hW7]; exact R6.out.other (by simp) _
                have NB7 : Hid (NewRow W0.heap.size W7 (.slice a5 kk c5) (fk.set hk (frU q))) := show NewRow _ _ _ _ by rw [← hW7]; exact NB6.out.setCell (a := ⟨w.heap.size, 1, none⟩) hs0 _
                have GG7 : Hid (Grew w W7) := show Grew _ _ by rw [← hW7]; exact grew_set GG6.out (Nat.le_refl _) _
                have hsz7 : W0.heap.size ≤ W7.heap.size := by rw [← hW7]; simp; omega
                clear hW7 e1 ef
                have e0 := B7.out.c 0 rfl
                have e1 := B7.out.c 1 rfl
                have ef := B7.out.f
                have el := B7.out.lt
                go_wp2
                go_roundg (2 * kk - (jj + 1))
                case measure => omega
                case rel => exact ⟨jj + 1, hk + 1, fk.set hk (frU q), a5, c5, by omega, by omega, by go_num, by omega, (show (fk.set hk (frU q)).length = kk by rw [List.length_set]; exact HL.out), (show Box _ _ _ by first | exact B7.out | exact (B7.out.set 1 _)), (show Box _ _ _ by repeat first | exact R7.out | refine Box.other ?_ (by simp) _), (by repeat first | exact GG7.out | refine grew_set ?_ (by simp) _), (show W0.heap.size ≤ _ by first | exact hsz7 | (simp; omega)), (show _ ∨ _ from .inl (by repeat first | exact NB7.out | refine NewRow.setCell ?_ (by first | exact hs0 | exact hs1) _)), HST.out⟩
          · have hltz2 : ¬ (jj : Int) < 2 * (kk : Int) := by omega
            have : jj = 2 * kk := by omega
            subst this
            have HF : Hid (R = (fk, hk, -1)) := show _ = _ by rw [← A2.out, Nat.sub_self]; rfl
            have e0 := BMM.out.c 0 rfl
            have e1 := BMM.out.c 1 rfl
            have el := BMM.out.lt
            have r0 := BRR.out.c 0 rfl
            have r1 := BRR.out.c 1 rfl
            have rf := BRR.out.f
            have rl := BRR.out.lt
            have hs1 : w.heap.size + 1 < W0.heap.size := X2.out.lt
            clear A2
            go_wp2
            refine bodyPost_ret (v := .tuple #[.agg #[.slice av kk cv, .int .i64 (hk : Int)], .int .i64 (-1), .int .i64 0]) (by simp [results, Try.results22, go_sem, *]) rfl ⟨av, cv, ?_, ?_, ?_⟩
            · rw [HF.out]
            · rw [HF.out]
              rcases OR.out with h1 | ⟨h1, h2, h3⟩
              · exact .inl (((h1.setCell (a := ⟨w.heap.size + 1, 0, none⟩) hs1 _).setCell (a := ⟨w.heap.size + 1, 1, none⟩) hs1 _).base (by omega))
              · exact .inr ⟨h1, h2, h3⟩
            · exact grew_set (grew_set GW.out (by simp) _) (by simp) _

theorem nextGo_len : ∀ (m : Nat) (fs : List Fr) (h : Nat), (nextGo m fs h).1.length = fs.length
  | 0, _, _ => rfl
  | m + 1, fs, h => by
    rw [nextGo]
    split
    · simp
    · rw [nextGo_len m]
      simp

theorem nextF_len {fs : List Fr} {h : Int} (hz : memW fs h = 0) : (nextF fs h).length = fs.length := by
  unfold nextF nextR
  rw [if_pos hz, nextGo_len]

theorem refNext_any (a : Option Addr) (c : Nat) (fs : List Fr) (h : Int) (w : World) (hv : RowAt w (.slice a fs.length c) fs) :
    Calls Try.prog 22 #[.agg #[.slice a fs.length c, .int .i64 h]] w fun e w' => ∃ a' c', e = .returned (.tuple #[.agg #[.slice a' (nextF fs h).length c', .int .i64 (nextH fs h)], .int .i64 (nextI fs h), .int .i64 (memW fs h)]) ∧ (NewRow w.heap.size w' (.slice a' (nextF fs h).length c') (nextF fs h) ∨ (a' = a ∧ c' = c ∧ nextF fs h = fs)) ∧ Grew w w' := by
  by_cases hz : memW fs h = 0
  · rw [nextF_len hz]
    unfold nextH nextI nextF
    rw [if_pos hz, if_pos hz, if_pos hz]
    obtain ⟨i0, rfl⟩ := Int.eq_ofNat_of_zero_le (memW_zero hz).2.2.1
    rw [hz]
    exact rnextB a c fs i0 w hv hz (nextR fs i0) rfl (fun hn => by rw [nextR_none hz hn, Int.toNat_natCast])
  · unfold nextH nextI nextF
    rw [if_neg hz, if_neg hz, if_neg hz]
    refine Calls.mono (rnextA a c fs h w hv _ rfl (by simpa using hz)) ?_
    rintro e w' ⟨b, rfl, hb, hg⟩
    obtain ⟨a', c', rfl, _⟩ := hb.1.rows
    exact ⟨a', c', rfl, .inl hb, hg⟩

end Go.Proofs.Ytbcaagmnmaonbab
