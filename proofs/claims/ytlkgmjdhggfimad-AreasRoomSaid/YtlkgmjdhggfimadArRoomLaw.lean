/- Law AreasRoom: where there is room one may map, and nowhere lower. -/
import Derived.Test.YtlkgmjdhggfimadArAlive
namespace Go.Proofs.Ytlkgmjdhggfimad
open Go.RowKit

set_option maxRecDepth 100000 in
set_option maxHeartbeats 2000000 in
theorem roomLaw_any (v : Value) (l : List Ar) (n : Int) (w : World) (hv : RowAt arE w v l) :
    Calls Try.prog 8 #[v, .int .i64 n] w fun e w' => e = .returned (.bool true) ∧ Grew w w' := by
  have HV : Hid (RowAt arE w v l) := hv
  have hfe := field_err
  have HAL : Hid (∀ W, Calls Try.prog 25 #[] W fun e w' => e = .returned (.bool true) ∧ Grew W w') := fun W => aliveAr_any W
  have HWR : Hid (∀ W, Grew w W → Calls Try.prog 12 #[v] W fun e w' => e = .returned (.agg #[.int .i64 (wrL l).1, .int .i64 (wrL l).2]) ∧ Grew W w') := fun W hW => wrongAr_any v l W (HV.out.grew hW)
  clear hv
  by_cases hz : (wrL l).1 = 0
  case neg =>
    have hzb : ((wrL l).1 != 0) = true := by simp [hz]
    clear hz
    generalize (wrL l).2 = I at HWR
    generalize (wrL l).1 = E at *
    go_enter Try.func8, Try.ntmps8
    go_wp2_with fail
    refine (HAL.out w).mono ?_
    rintro e W1 ⟨rfl, g1⟩
    have G1 : Hid (Grew w W1) := g1
    clear g1
    go_wp2_with fail
    refine (HWR.out W1 G1.out).mono ?_
    rintro e W2 ⟨rfl, g⟩
    have G2 : Hid (Grew w W2) := G1.out.trans g
    clear g
    go_wp2
    go_ret
    exact ⟨rfl, G2.out⟩
  case pos =>
  have HZ : Hid ((wrL l).1 = 0) := hz
  rw [hz] at HWR
  generalize (wrL l).2 = I at HWR
  clear hz
  by_cases c1 : n < 1
  · go_enter Try.func8, Try.ntmps8
    go_wp2_with fail
    refine (HAL.out w).mono ?_
    rintro e W1 ⟨rfl, g1⟩
    have G1 : Hid (Grew w W1) := g1
    clear g1
    go_wp2_with fail
    refine (HWR.out W1 G1.out).mono ?_
    rintro e W2 ⟨rfl, g⟩
    have G2 : Hid (Grew w W2) := G1.out.trans g
    clear g
    go_wp2
    go_ret
    exact ⟨rfl, G2.out⟩
  by_cases c2 : 64 < n
  · go_enter Try.func8, Try.ntmps8
    go_wp2_with fail
    refine (HAL.out w).mono ?_
    rintro e W1 ⟨rfl, g1⟩
    have G1 : Hid (Grew w W1) := g1
    clear g1
    go_wp2_with fail
    refine (HWR.out W1 G1.out).mono ?_
    rintro e W2 ⟨rfl, g⟩
    have G2 : Hid (Grew w W2) := G1.out.trans g
    clear g
    go_wp2
    go_ret
    exact ⟨rfl, G2.out⟩
  have HRO : Hid (∀ W, Grew w W → Calls Try.prog 23 #[v, .int .i64 n] W fun e w' => e = .returned (.int .i64 (roomL l n)) ∧ Grew W w') := fun W hW => room_any v l n W (HV.out.grew hW) HZ.out (by omega)
  have HM : Hid (∀ (kk : Nat) W, Grew w W → Calls Try.prog 14 #[v, .agg #[.int .i64 (kk : Int), .int .i64 ((kk : Int) + n), .bool false, .bool false, .bool false, .int .i64 (-1), .int .i64 0]] W (Gives (mapA l ⟨kk, (kk : Int) + n, false, false, false, -1, 0⟩) W)) := fun kk W hW => map_any v l ⟨kk, (kk : Int) + n, false, false, false, -1, 0⟩ W (HV.out.grew hW)
  have HRM : Hid (∀ kk : Nat, (kk : Int) ≤ 64 - n → (((mapA l ⟨kk, (kk : Int) + n, false, false, false, -1, 0⟩).2 = 0 ∨ (mapA l ⟨kk, (kk : Int) + n, false, false, false, -1, 0⟩).2 = 4) ↔ hitB l kk n = false)) := fun kk hk => room_map HZ.out (by omega) hk
  have HRC : Hid ((∃ k : Nat, roomL l n = k ∧ 1 ≤ n ∧ (k : Int) ≤ 64 - n ∧ hitB l k n = false ∧ ∀ j : Nat, j < k → hitB l j n = true) ∨ (roomL l n = -1 ∧ (1 ≤ n → ∀ j : Nat, (j : Int) ≤ 64 - n → hitB l j n = true))) := roomL_cases l n
  generalize roomL l n = R at HRO HRC
  go_enter Try.func8, Try.ntmps8
  go_wp2_with fail
  refine (HAL.out w).mono ?_
  rintro e W1 ⟨rfl, g1⟩
  have G1 : Hid (Grew w W1) := g1
  clear g1
  go_wp2_with fail
  refine (HWR.out W1 G1.out).mono ?_
  rintro e W2 ⟨rfl, g⟩
  have G2 : Hid (Grew w W2) := G1.out.trans g
  clear g
  go_wp2_with fail
  refine (HRO.out W2 G2.out).mono ?_
  rintro e W3 ⟨rfl, g⟩
  have G3 : Hid (Grew w W3) := G2.out.trans g
  clear g
  go_wp2
  go_loopg [30] (65 - n.toNat) (fun gg s30 wr => ∃ kk : Nat, kk ≤ 65 - n.toNat ∧ 65 - n.toNat - kk ≤ gg ∧ s30 = .int .i64 kk ∧ Hid (Grew w wr) ∧ Hid (0 ≤ R → (kk : Int) ≤ R))
  case atStart => exact ⟨0, Nat.zero_le _, by omega, rfl, G3.out, fun h => h⟩
  case round =>
    obtain ⟨kk, hkk, hg, rfl, BW, A⟩ := hrel
    by_cases hlt : (kk : Int) < 64 - n + 1
    · have hrm := HRM.out kk (by omega)
      go_wp2_with fail
      refine (HM.out kk wr BW.out).mono ?_
      intro e W4 hgv
      obtain ⟨xa, xc, rfl, ow, g⟩ := hgv.slice
      have G4 : Hid (Grew w W4) := BW.out.trans g
      clear g ow hgv
      generalize mapA l ⟨kk, (kk : Int) + n, false, false, false, -1, 0⟩ = N at hrm ⊢
      obtain ⟨NL, NE⟩ := N
      cases hh : hitB l kk n with
      | true =>
        rw [hh] at hrm
        have hn0 : ¬ NE = 0 := fun h => by have := hrm.1 (.inl h); cases this
        have hn4 : ¬ NE = 4 := fun h => by have := hrm.1 (.inr h); cases this
        have hb0 : (NE == 0) = false := by simp [hn0]
        have hb4 : (NE == 4) = false := by simp [hn4]
        clear hrm hn0 hn4
        have HNE : Hid (¬ (kk : Int) = R) := show ¬ _ from fun h => by
          rcases HRC.out with ⟨k, h1, h2, h3, h4, h5⟩ | ⟨h1, h2⟩
          · have : kk = k := by omega
            subst this
            rw [hh] at h4
            cases h4
          · omega
        have HA : Hid (0 ≤ R → ((kk + 1 : Nat) : Int) ≤ R) := show _ → _ from fun h => by have := A.out h; have := HNE.out; omega
        have hkr : ((kk : Int) == R) = false := by simpa using HNE.out
        clear hh
        by_cases hr : 0 ≤ R
        · go_wp2
          go_roundg (65 - n.toNat - (kk + 1))
          case measure => omega
          case rel => exact ⟨kk + 1, by omega, by omega, by go_num, G4.out, HA.out⟩
        · go_wp2
          go_roundg (65 - n.toNat - (kk + 1))
          case measure => omega
          case rel => exact ⟨kk + 1, by omega, by omega, by go_num, G4.out, HA.out⟩
      | false =>
        have hor := hrm.2 hh
        have HR : Hid ((kk : Int) = R) := show _ = _ by
          rcases HRC.out with ⟨k, h1, h2, h3, h4, h5⟩ | ⟨h1, h2⟩
          · rcases Nat.lt_or_ge kk k with h | h
            · rw [h5 kk h] at hh; cases hh
            · have := A.out (by omega); omega
          · rw [h2 (by omega) kk (by omega)] at hh; cases hh
        clear hrm hh
        have hr0 : 0 ≤ R := by rw [← HR.out]; omega
        have hkr : ((kk : Int) == R) = true := by simpa using HR.out
        rcases hor with h | h
        · have hb0 : (NE == 0) = true := by simpa using h
          clear h
          go_wp2
          go_ret
          exact ⟨rfl, G4.out⟩
        · have hb0 : (NE == 0) = false := by have : NE = 4 := h; subst this; decide
          have hb4 : (NE == 4) = true := by simpa using h
          clear h
          go_wp2
          go_ret
          exact ⟨rfl, G4.out⟩
    · have HR : Hid (R < 0) := show _ < _ by
        rcases HRC.out with ⟨k, h1, h2, h3, h4, h5⟩ | ⟨h1, h2⟩
        · have := A.out (by omega); omega
        · omega
      have hr0 : R < 0 := HR.out
      go_wp2
      go_ret
      exact ⟨rfl, BW.out⟩

end Go.Proofs.Ytlkgmjdhggfimad
