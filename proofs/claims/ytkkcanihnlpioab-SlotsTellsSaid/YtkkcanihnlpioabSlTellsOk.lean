/- The walk of the law SlotsTells (New has room). -/
import Derived.Test.YtkkcanihnlpioabSlRefHold
import Derived.Test.YtkkcanihnlpioabSlNew
import Derived.Test.YtkkcanihnlpioabSlSame
namespace Go.Proofs.Ytkkcanihnlpioab
open Go.RowKit

set_option maxRecDepth 100000 in
set_option maxHeartbeats 4000000 in
theorem stells_ok (a : Option Addr) (c : Nat) (s : List Int) (k : Int) (m : Nat) (hm : m ≤ 60) (w : World) (hv : RowAt slE w (.slice a s.length c) s) :
    Calls Try.prog 8 #[.slice a s.length c, .int .i64 k, .int .i64 (m : Int)] w fun e w' => e = .returned (.bool true) ∧ Grew w w' := by
  have HV : Hid (RowAt slE w (.slice a s.length c) s) := hv
  have hbig := hv.short
  have c1 : ∀ W, Grew w W → Calls Try.prog 26 #[.slice a s.length c] W fun e w' => e = .returned (.int .i64 (slW s)) ∧ Grew W w' := fun W hW => wrongS_any a c s W (HV.out.grew hW)
  have c2 : ∀ W, Grew w W → Calls Try.prog 27 #[.slice a s.length c] W fun e w' => e = .returned (.int .i64 (slW s)) ∧ Grew W w' := fun W hW => refWrongS_any a c s W (HV.out.grew hW)
  have c4 : ∀ W, Grew w W → Calls Try.prog 28 #[.slice a s.length c] W fun e w' => e = .returned (.int .i64 (freeS s)) ∧ Grew W w' := fun W hW => freeS_any a c s W (HV.out.grew hW)
  have c5 : ∀ W, Grew w W → Calls Try.prog 29 #[.slice a s.length c, .int .i64 (m : Int)] W fun e w' => ∃ a' c', e = .returned (.tuple #[.slice a' (takeSL s (m : Int)).length c', .int .i64 (takeSI s (m : Int)), .int .i64 (takeSE s (m : Int))]) ∧ NewRow slE W.heap.size w' (.slice a' (takeSL s (m : Int)).length c') (takeSL s (m : Int)) ∧ Grew W w' := fun W hW => takeS_any a c s (m : Int) W (HV.out.grew hW)
  have c6 : ∀ W, Grew w W → Calls Try.prog 30 #[.slice a s.length c, .int .i64 (m : Int)] W fun e w' => ∃ a' c', e = .returned (.tuple #[.slice a' (takeSL s (m : Int)).length c', .int .i64 (takeSI s (m : Int)), .int .i64 (takeSE s (m : Int))]) ∧ NewRow slE W.heap.size w' (.slice a' (takeSL s (m : Int)).length c') (takeSL s (m : Int)) ∧ Grew W w' := fun W hW => refTakeS_any a c s (m : Int) W (HV.out.grew hW)
  have c7 : ∀ W, Grew w W → Calls Try.prog 32 #[.slice a s.length c, .int .i64 k, .int .i64 (m : Int)] W fun e w' => ∃ a' c', e = .returned (.tuple #[.slice a' (holdSL s k (m : Int)).length c', .int .i64 (holdSE s k (m : Int))]) ∧ NewRow slE W.heap.size w' (.slice a' (holdSL s k (m : Int)).length c') (holdSL s k (m : Int)) ∧ Grew W w' := fun W hW => holdS_any a c s k (m : Int) W (HV.out.grew hW)
  have c8 : ∀ W, Grew w W → Calls Try.prog 33 #[.slice a s.length c, .int .i64 k, .int .i64 (m : Int)] W fun e w' => ∃ a' c', e = .returned (.tuple #[.slice a' (holdSL s k (m : Int)).length c', .int .i64 (holdSE s k (m : Int))]) ∧ NewRow slE W.heap.size w' (.slice a' (holdSL s k (m : Int)).length c') (holdSL s k (m : Int)) ∧ Grew W w' := fun W hW => refHoldS_any a c s k (m : Int) W (HV.out.grew hW)
  have cf : ∀ a' c' W, RowAt slE W (.slice a' m c') (List.replicate m 0) → Calls Try.prog 28 #[.slice a' m c'] W fun e w' => e = .returned (.int .i64 (m : Int)) ∧ Grew W w' := fun a' c' W hR => by
    have hc := freeS_any a' c' (List.replicate m 0) W (by rw [List.length_replicate]; exact hR)
    rw [List.length_replicate, show freeS (List.replicate m 0) = m from by unfold freeS; rw [List.countP_replicate]; rfl] at hc
    exact hc
  generalize takeSL s (m : Int) = F1 at c5 c6
  generalize takeSI s (m : Int) = I1 at c5 c6
  generalize takeSE s (m : Int) = E1 at c5 c6
  generalize holdSL s k (m : Int) = F2 at c7 c8
  generalize holdSE s k (m : Int) = E2 at c7 c8
  generalize slW s = E3 at c1 c2
  obtain ⟨l1, L1⟩ : ∃ l, Hid (F1.length = l) := ⟨_, rfl⟩
  obtain ⟨l2, L2⟩ : ∃ l, Hid (F2.length = l) := ⟨_, rfl⟩
  rw [L1.out] at c5 c6
  rw [L2.out] at c7 c8
  obtain ⟨n, HN⟩ : ∃ n, Hid (s.length = n) := ⟨_, rfl⟩
  obtain ⟨a0, c0, heq, hrow⟩ := hv.sls
  cases heq
  have HRW : Hid (SlRows w a s) := hrow
  clear hrow hv
  have HFR : Hid (∀ j q, s[j]? = some q → freeS (s.take (j + 1)) = freeS (s.take j) + if q = 0 then 1 else 0) := show ∀ j q, _ from fun j q hq => freeS_step hq
  obtain ⟨fr, HF⟩ : ∃ fr, Hid (freeS s = fr) := ⟨_, rfl⟩
  simp only [HF.out] at c4
  simp only [HN.out] at c1 c2 c4 c5 c6 c7 c8 HV hbig ⊢
  have hee : (E3 != E3) = false := by simp
  have h60 : (m : Int) ≤ 60 := by omega
  have h00 : (0 : Int) ≤ (m : Int) := by omega
  have hkk : ((m : Int) != (m : Int)) = false := by simp
  go_enter Try.func8, Try.ntmps8
  go_wp2_with fail
  refine (newS_nat m hm _).mono ?_
  rintro e W1 ⟨na, nc, rfl, nr, g1⟩
  have NR1 : Hid (RowAt slE W1 (.slice na m nc) (List.replicate m 0)) := nr.1
  have G1 : Hid (Grew w W1) := g1
  clear nr g1
  go_wp2_with fail
  refine (c1 _ G1.out).mono ?_
  rintro e W2 ⟨rfl, g2⟩
  have G2 : Hid (Grew W1 W2) := g2
  clear g2
  go_wp2_with fail
  refine (c2 _ (G1.out.trans G2.out)).mono ?_
  rintro e W3 ⟨rfl, g3⟩
  have G3 : Hid (Grew W1 W3) := G2.out.trans g3
  clear g3
  go_wp2_with fail
  refine (cf _ _ _ (NR1.out.grew G3.out)).mono ?_
  rintro e W4 ⟨rfl, g4⟩
  have G4 : Hid (Grew w W4) := (G1.out.trans G3.out).trans g4
  clear g4
  go_wp2
  go_loopg [9, 11, 56] n (fun gg s15 _ s74 wr => ∃ (kk f : Nat), kk ≤ n ∧ n - kk ≤ gg ∧ f ≤ kk ∧ s74 = .int .i64 kk ∧ s15 = .int .i64 f ∧ Hid (Grew w wr) ∧ Hid (freeS (s.take kk) = f))
  case atStart => exact ⟨0, 0, Nat.zero_le _, by omega, Nat.le_refl _, rfl, rfl, G4.out, rfl⟩
  case round =>
    obtain ⟨kk, f, hkk', hg, hf, rfl, rfl, BW, A⟩ := hrel
    by_cases hlt : kk < n
    · have hltz : (kk : Int) < (n : Int) := by omega
      obtain ⟨q, HQ⟩ : ∃ q, Hid (s[kk]? = some q) := ⟨_, List.getElem?_eq_getElem (by rw [HN.out]; exact hlt)⟩
      obtain ⟨ad, rfl, hl⟩ := HRW.out kk q HQ.out
      have d0 := hl wr BW.out
      have HST : Hid (freeS (s.take (kk + 1)) = freeS (s.take kk) + if q = 0 then 1 else 0) := HFR.out kk q HQ.out
      clear hl
      by_cases hz : q = 0
      · have HA : Hid (freeS (s.take (kk + 1)) = f + 1) := show _ = _ by rw [HST.out, A.out, if_pos hz]
        have hzb : (q == 0) = true := by simp [hz]
        have HZ : Hid (q = 0) := hz
        clear HST hz
        go_wp2
        go_roundg (n - (kk + 1))
        case measure => omega
        case rel => exact ⟨kk + 1, f + 1, by omega, by omega, by omega, by go_num, by go_num, BW.out, HA.out⟩
      · have HA : Hid (freeS (s.take (kk + 1)) = f) := show _ = _ by rw [HST.out, A.out, if_neg hz]; rfl
        have hzb : (q == 0) = false := by simp [hz]
        clear HST
        go_wp2
        go_roundg (n - (kk + 1))
        case measure => omega
        case rel => exact ⟨kk + 1, f, by omega, by omega, by omega, by go_num, rfl, BW.out, HA.out⟩
    · have hltz : ¬ (kk : Int) < (n : Int) := by omega
      have hkn : n = kk := by omega
      subst hkn
      have hfm : fr = f := by rw [← HF.out, ← A.out, List.take_of_length_le (by rw [HN.out]; exact Nat.le_refl _)]
      subst hfm
      clear A
      have hff : ((fr : Int) != (fr : Int)) = false := by simp
      have hE1 : (E1 != E1) = false := by simp
      have hE2 : (E2 == E2) = true := by simp
      have hI1 : (I1 != I1) = false := by simp
      go_wp2_with fail
      refine (c5 _ BW.out).mono ?_
      rintro e W6 ⟨a6, k6, rfl, nb6, g6⟩
      have N6 : Hid (RowAt slE W6 (.slice a6 l1 k6) F1) := nb6.1
      have G6 : Hid (Grew w W6) := BW.out.trans g6
      clear nb6 g6
      go_wp2_with fail
      refine (c6 _ G6.out).mono ?_
      rintro e W7 ⟨a7, k7, rfl, nb7, g7⟩
      have N7 : Hid (RowAt slE W7 (.slice a7 l1 k7) F1) := nb7.1
      have M7 : Hid (RowAt slE W7 (.slice a6 l1 k6) F1) := N6.out.grew g7
      have G7 : Hid (Grew w W7) := G6.out.trans g7
      clear nb7 g7
      go_wp2_with fail
      refine (c4 _ G7.out).mono ?_
      rintro e W8 ⟨rfl, g8⟩
      have N8 : Hid (RowAt slE W8 (.slice a7 l1 k7) F1) := N7.out.grew g8
      have M8 : Hid (RowAt slE W8 (.slice a6 l1 k6) F1) := M7.out.grew g8
      have G8 : Hid (Grew w W8) := G7.out.trans g8
      clear g8
      go_wp2_with fail
      refine (sameS_any _ _ F1 _ M8.out N8.out).mono ?_
      rintro e W9 ⟨rfl, g9⟩
      have G9 : Hid (Grew w W9) := G8.out.trans g9
      clear g9
      go_wp2_with fail
      refine (c7 _ G9.out).mono ?_
      rintro e W10 ⟨a10, k10, rfl, nb10, g10⟩
      have G10 : Hid (Grew w W10) := G9.out.trans g10
      have N10 : Hid (RowAt slE W10 (.slice a10 l2 k10) F2) := nb10.1
      clear nb10 g10
      go_wp2_with fail
      refine (c8 _ G10.out).mono ?_
      rintro e W11 ⟨a11, k11, rfl, nb11, g11⟩
      have G11 : Hid (Grew w W11) := G10.out.trans g11
      have N11 : Hid (RowAt slE W11 (.slice a11 l2 k11) F2) := nb11.1
      have M11 : Hid (RowAt slE W11 (.slice a10 l2 k10) F2) := N10.out.grew g11
      clear nb11 g11
      go_wp2_with fail
      refine (sameS_any _ _ F2 _ M11.out N11.out).mono ?_
      rintro e W12 ⟨rfl, g12⟩
      have G12 : Hid (Grew w W12) := G11.out.trans g12
      clear g12
      go_wp2
      go_ret
      exact ⟨rfl, G12.out⟩

end Go.Proofs.Ytkkcanihnlpioab
