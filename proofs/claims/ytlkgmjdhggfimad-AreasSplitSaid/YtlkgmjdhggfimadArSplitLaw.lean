/- Law AreasSplit: in parts as at once. -/
import Derived.Test.YtlkgmjdhggfimadArAlive
import Derived.Test.YtlkgmjdhggfimadArSame
namespace Go.Proofs.Ytlkgmjdhggfimad
open Go.RowKit

set_option maxRecDepth 100000 in
set_option maxHeartbeats 4000000 in
theorem splitLaw_any (v : Value) (l : List Ar) (s n k : Int) (r u : Bool) (w : World) (hv : RowAt arE w v l) :
    Calls Try.prog 6 #[v, .int .i64 s, .int .i64 n, .int .i64 k, .bool r, .bool u] w fun e w' => e = .returned (.bool true) ∧ Grew w w' := by
  have HV : Hid (RowAt arE w v l) := hv
  have HAL : Hid (∀ W, Calls Try.prog 25 #[] W fun e w' => e = .returned (.bool true) ∧ Grew W w') := fun W => aliveAr_any W
  clear hv
  by_cases c1 : n < 2
  · clear HV
    go_enter Try.func6, Try.ntmps6
    go_wp2_with fail
    refine (HAL.out w).mono ?_
    rintro e W1 ⟨rfl, g1⟩
    have G1 : Hid (Grew w W1) := g1
    clear g1
    go_wp2
    go_ret
    exact ⟨rfl, G1.out⟩
  by_cases c2 : 64 < n
  · clear HV
    go_enter Try.func6, Try.ntmps6
    go_wp2_with fail
    refine (HAL.out w).mono ?_
    rintro e W1 ⟨rfl, g1⟩
    have G1 : Hid (Grew w W1) := g1
    clear g1
    go_wp2
    go_ret
    exact ⟨rfl, G1.out⟩
  by_cases c3 : k < 1
  · clear HV
    go_enter Try.func6, Try.ntmps6
    go_wp2_with fail
    refine (HAL.out w).mono ?_
    rintro e W1 ⟨rfl, g1⟩
    have G1 : Hid (Grew w W1) := g1
    clear g1
    go_wp2
    go_ret
    exact ⟨rfl, G1.out⟩
  by_cases c4 : n ≤ k
  · clear HV
    go_enter Try.func6, Try.ntmps6
    go_wp2_with fail
    refine (HAL.out w).mono ?_
    rintro e W1 ⟨rfl, g1⟩
    have G1 : Hid (Grew w W1) := g1
    clear g1
    go_wp2
    go_ret
    exact ⟨rfl, G1.out⟩
  by_cases c5 : s < 0
  · clear HV
    go_enter Try.func6, Try.ntmps6
    go_wp2_with fail
    refine (HAL.out w).mono ?_
    rintro e W1 ⟨rfl, g1⟩
    have G1 : Hid (Grew w W1) := g1
    clear g1
    go_wp2
    go_ret
    exact ⟨rfl, G1.out⟩
  by_cases c6 : 64 < s
  · clear HV
    go_enter Try.func6, Try.ntmps6
    go_wp2_with fail
    refine (HAL.out w).mono ?_
    rintro e W1 ⟨rfl, g1⟩
    have G1 : Hid (Grew w W1) := g1
    clear g1
    go_wp2
    go_ret
    exact ⟨rfl, G1.out⟩
  have HU1 : Hid (∀ W, Grew w W → Calls Try.prog 17 #[v, .int .i64 s, .int .i64 n] W (Gives (unA l s n) W)) := fun W hW => unmap_any v l s n W (HV.out.grew hW) (by omega)
  have HU2 : Hid (∀ W, Grew w W → Calls Try.prog 17 #[v, .int .i64 s, .int .i64 k] W (Gives (unA l s k) W)) := fun W hW => unmap_any v l s k W (HV.out.grew hW) (by omega)
  have HU3 : Hid ((unA l s n).2 = 0 → (unA l s k).2 = 0 → ∀ x W, RowAt arE W x (unA l s k).1 → Calls Try.prog 17 #[x, .int .i64 (s + k), .int .i64 (n - k)] W (Gives (unA l s n) W)) := fun h1 h2 x W hx => by
    have := unmap_any x _ (s + k) (n - k) W hx (by omega)
    rw [split_un (by omega) (by omega) h1 h2] at this
    exact this
  have HP1 : Hid (∀ W, Grew w W → Calls Try.prog 19 #[v, .int .i64 s, .int .i64 n, .bool r, .bool u] W (Gives (prA l s n r u) W)) := fun W hW => protect_any v l s n r u W (HV.out.grew hW) (by omega)
  have HP2 : Hid (∀ W, Grew w W → Calls Try.prog 19 #[v, .int .i64 s, .int .i64 k, .bool r, .bool u] W (Gives (prA l s k r u) W)) := fun W hW => protect_any v l s k r u W (HV.out.grew hW) (by omega)
  have HP3 : Hid ((prA l s n r u).2 = 0 → (prA l s k r u).2 = 0 → ∀ x W, RowAt arE W x (prA l s k r u).1 → Calls Try.prog 19 #[x, .int .i64 (s + k), .int .i64 (n - k), .bool r, .bool u] W (Gives (prA l s n r u) W)) := fun h1 h2 x W hx => by
    have := protect_any x _ (s + k) (n - k) r u W hx (by omega)
    rw [split_pr (by omega) (by omega) h1 h2] at this
    exact this
  clear HV
  generalize unA l s n = X1 at HU1 HU3
  generalize unA l s k = X2 at HU2 HU3
  generalize prA l s n r u = X3 at HP1 HP3
  generalize prA l s k r u = X4 at HP2 HP3
  obtain ⟨L1, E1⟩ := X1
  obtain ⟨L2, E2⟩ := X2
  obtain ⟨L3, E3⟩ := X3
  obtain ⟨L4, E4⟩ := X4
  have HU3' : Hid (E1 = 0 → E2 = 0 → ∀ x W, RowAt arE W x L2 → Calls Try.prog 17 #[x, .int .i64 (s + k), .int .i64 (n - k)] W (Gives (L1, 0) W)) := fun h1 h2 x W hx => by
    have := HU3.out h1 h2 x W hx
    rw [h1] at this
    exact this
  have HP3' : Hid (E3 = 0 → E4 = 0 → ∀ x W, RowAt arE W x L4 → Calls Try.prog 19 #[x, .int .i64 (s + k), .int .i64 (n - k), .bool r, .bool u] W (Gives (L3, 0) W)) := fun h1 h2 x W hx => by
    have := HP3.out h1 h2 x W hx
    rw [h1] at this
    exact this
  clear HU3 HP3
  by_cases hE1 : E1 = 0
  · by_cases hE2 : E2 = 0
    · have HU4 : Hid _ := HU3'.out hE1 hE2
      have zE1 : (E1 == 0) = true := by simp [hE1]
      have yE1 : (E1 != 0) = false := by simp [hE1]
      have zE2 : (E2 == 0) = true := by simp [hE2]
      have yE2 : (E2 != 0) = false := by simp [hE2]
      clear hE1 hE2 HU3'
      by_cases hE3 : E3 = 0
      · by_cases hE4 : E4 = 0
        · have HP4 : Hid _ := HP3'.out hE3 hE4
          have zE3 : (E3 == 0) = true := by simp [hE3]
          have yE3 : (E3 != 0) = false := by simp [hE3]
          have zE4 : (E4 == 0) = true := by simp [hE4]
          have yE4 : (E4 != 0) = false := by simp [hE4]
          clear hE3 hE4 HP3'
          go_enter Try.func6, Try.ntmps6
          go_wp2_with fail
          refine (HAL.out w).mono ?_
          rintro e W1 ⟨rfl, g1⟩
          have G1 : Hid (Grew w W1) := g1
          clear g1
          go_wp2_with fail
          refine (HU1.out W1 G1.out).mono ?_
          intro e W2 hgv
          obtain ⟨xa, xc, rfl, ow, g⟩ := hgv.slice
          have G2 : Hid (Grew w W2) := G1.out.trans g
          have R2 : Hid (RowAt arE W2 (.slice xa L1.length xc) L1) := ow.at
          clear g ow hgv
          go_wp2_with fail
          refine (HU2.out W2 G2.out).mono ?_
          intro e W3 hgv
          obtain ⟨ya, yc, rfl, ow, g⟩ := hgv.slice
          have G3 : Hid (Grew w W3) := G2.out.trans g
          have R3 : Hid (RowAt arE W3 (.slice xa L1.length xc) L1) := R2.out.grew g
          have Y3 : Hid (RowAt arE W3 (.slice ya L2.length yc) L2) := ow.at
          clear g ow hgv
          go_wp2_with fail
          refine (HU4.out _ W3 Y3.out).mono ?_
          intro e W4 hgv
          obtain ⟨za, zc, rfl, ow, g⟩ := hgv.slice
          have G4 : Hid (Grew w W4) := G3.out.trans g
          have R4 : Hid (RowAt arE W4 (.slice xa L1.length xc) L1) := R3.out.grew g
          have Z4 : Hid (RowAt arE W4 (.slice za L1.length zc) L1) := ow.at
          clear g ow hgv
          go_wp2_with fail
          refine (sameAr_any _ _ L1 W4 R4.out Z4.out).mono ?_
          rintro e W5 ⟨rfl, g⟩
          have G5 : Hid (Grew w W5) := G4.out.trans g
          clear g
          go_wp2_with fail
          refine (HP1.out W5 G5.out).mono ?_
          intro e W6 hgv
          obtain ⟨pa, pc, rfl, ow, g⟩ := hgv.slice
          have G6 : Hid (Grew w W6) := G5.out.trans g
          have P6 : Hid (RowAt arE W6 (.slice pa L3.length pc) L3) := ow.at
          clear g ow hgv
          go_wp2_with fail
          refine (HP2.out W6 G6.out).mono ?_
          intro e W7 hgv
          obtain ⟨qa, qc, rfl, ow, g⟩ := hgv.slice
          have G7 : Hid (Grew w W7) := G6.out.trans g
          have P7 : Hid (RowAt arE W7 (.slice pa L3.length pc) L3) := P6.out.grew g
          have Q7 : Hid (RowAt arE W7 (.slice qa L4.length qc) L4) := ow.at
          clear g ow hgv
          go_wp2_with fail
          refine (HP4.out _ W7 Q7.out).mono ?_
          intro e W8 hgv
          obtain ⟨ta, tc, rfl, ow, g⟩ := hgv.slice
          have G8 : Hid (Grew w W8) := G7.out.trans g
          have P8 : Hid (RowAt arE W8 (.slice pa L3.length pc) L3) := P7.out.grew g
          have T8 : Hid (RowAt arE W8 (.slice ta L3.length tc) L3) := ow.at
          clear g ow hgv
          go_wp2_with fail
          refine (sameAr_any _ _ L3 W8 P8.out T8.out).mono ?_
          rintro e W9 ⟨rfl, g⟩
          have G9 : Hid (Grew w W9) := G8.out.trans g
          clear g
          go_wp2
          go_ret
          exact ⟨rfl, G9.out⟩
        · have zE3 : (E3 == 0) = true := by simp [hE3]
          have yE3 : (E3 != 0) = false := by simp [hE3]
          have zE4 : (E4 == 0) = false := by simp [hE4]
          have yE4 : (E4 != 0) = true := by simp [hE4]
          clear hE3 hE4 HP3'
          go_enter Try.func6, Try.ntmps6
          go_wp2_with fail
          refine (HAL.out w).mono ?_
          rintro e W1 ⟨rfl, g1⟩
          have G1 : Hid (Grew w W1) := g1
          clear g1
          go_wp2_with fail
          refine (HU1.out W1 G1.out).mono ?_
          intro e W2 hgv
          obtain ⟨xa, xc, rfl, ow, g⟩ := hgv.slice
          have G2 : Hid (Grew w W2) := G1.out.trans g
          have R2 : Hid (RowAt arE W2 (.slice xa L1.length xc) L1) := ow.at
          clear g ow hgv
          go_wp2_with fail
          refine (HU2.out W2 G2.out).mono ?_
          intro e W3 hgv
          obtain ⟨ya, yc, rfl, ow, g⟩ := hgv.slice
          have G3 : Hid (Grew w W3) := G2.out.trans g
          have R3 : Hid (RowAt arE W3 (.slice xa L1.length xc) L1) := R2.out.grew g
          have Y3 : Hid (RowAt arE W3 (.slice ya L2.length yc) L2) := ow.at
          clear g ow hgv
          go_wp2_with fail
          refine (HU4.out _ W3 Y3.out).mono ?_
          intro e W4 hgv
          obtain ⟨za, zc, rfl, ow, g⟩ := hgv.slice
          have G4 : Hid (Grew w W4) := G3.out.trans g
          have R4 : Hid (RowAt arE W4 (.slice xa L1.length xc) L1) := R3.out.grew g
          have Z4 : Hid (RowAt arE W4 (.slice za L1.length zc) L1) := ow.at
          clear g ow hgv
          go_wp2_with fail
          refine (sameAr_any _ _ L1 W4 R4.out Z4.out).mono ?_
          rintro e W5 ⟨rfl, g⟩
          have G5 : Hid (Grew w W5) := G4.out.trans g
          clear g
          go_wp2_with fail
          refine (HP1.out W5 G5.out).mono ?_
          intro e W6 hgv
          obtain ⟨pa, pc, rfl, ow, g⟩ := hgv.slice
          have G6 : Hid (Grew w W6) := G5.out.trans g
          have P6 : Hid (RowAt arE W6 (.slice pa L3.length pc) L3) := ow.at
          clear g ow hgv
          go_wp2_with fail
          refine (HP2.out W6 G6.out).mono ?_
          intro e W7 hgv
          obtain ⟨qa, qc, rfl, ow, g⟩ := hgv.slice
          have G7 : Hid (Grew w W7) := G6.out.trans g
          have P7 : Hid (RowAt arE W7 (.slice pa L3.length pc) L3) := P6.out.grew g
          have Q7 : Hid (RowAt arE W7 (.slice qa L4.length qc) L4) := ow.at
          clear g ow hgv
          go_wp2
          go_ret
          exact ⟨rfl, G7.out⟩
      · have zE3 : (E3 == 0) = false := by simp [hE3]
        have yE3 : (E3 != 0) = true := by simp [hE3]
        clear hE3 HP3'
        go_enter Try.func6, Try.ntmps6
        go_wp2_with fail
        refine (HAL.out w).mono ?_
        rintro e W1 ⟨rfl, g1⟩
        have G1 : Hid (Grew w W1) := g1
        clear g1
        go_wp2_with fail
        refine (HU1.out W1 G1.out).mono ?_
        intro e W2 hgv
        obtain ⟨xa, xc, rfl, ow, g⟩ := hgv.slice
        have G2 : Hid (Grew w W2) := G1.out.trans g
        have R2 : Hid (RowAt arE W2 (.slice xa L1.length xc) L1) := ow.at
        clear g ow hgv
        go_wp2_with fail
        refine (HU2.out W2 G2.out).mono ?_
        intro e W3 hgv
        obtain ⟨ya, yc, rfl, ow, g⟩ := hgv.slice
        have G3 : Hid (Grew w W3) := G2.out.trans g
        have R3 : Hid (RowAt arE W3 (.slice xa L1.length xc) L1) := R2.out.grew g
        have Y3 : Hid (RowAt arE W3 (.slice ya L2.length yc) L2) := ow.at
        clear g ow hgv
        go_wp2_with fail
        refine (HU4.out _ W3 Y3.out).mono ?_
        intro e W4 hgv
        obtain ⟨za, zc, rfl, ow, g⟩ := hgv.slice
        have G4 : Hid (Grew w W4) := G3.out.trans g
        have R4 : Hid (RowAt arE W4 (.slice xa L1.length xc) L1) := R3.out.grew g
        have Z4 : Hid (RowAt arE W4 (.slice za L1.length zc) L1) := ow.at
        clear g ow hgv
        go_wp2_with fail
        refine (sameAr_any _ _ L1 W4 R4.out Z4.out).mono ?_
        rintro e W5 ⟨rfl, g⟩
        have G5 : Hid (Grew w W5) := G4.out.trans g
        clear g
        go_wp2_with fail
        refine (HP1.out W5 G5.out).mono ?_
        intro e W6 hgv
        obtain ⟨pa, pc, rfl, ow, g⟩ := hgv.slice
        have G6 : Hid (Grew w W6) := G5.out.trans g
        have P6 : Hid (RowAt arE W6 (.slice pa L3.length pc) L3) := ow.at
        clear g ow hgv
        go_wp2_with fail
        refine (HP2.out W6 G6.out).mono ?_
        intro e W7 hgv
        obtain ⟨qa, qc, rfl, ow, g⟩ := hgv.slice
        have G7 : Hid (Grew w W7) := G6.out.trans g
        have P7 : Hid (RowAt arE W7 (.slice pa L3.length pc) L3) := P6.out.grew g
        have Q7 : Hid (RowAt arE W7 (.slice qa L4.length qc) L4) := ow.at
        clear g ow hgv
        go_wp2
        go_ret
        exact ⟨rfl, G7.out⟩
    · have zE1 : (E1 == 0) = true := by simp [hE1]
      have yE1 : (E1 != 0) = false := by simp [hE1]
      have zE2 : (E2 == 0) = false := by simp [hE2]
      have yE2 : (E2 != 0) = true := by simp [hE2]
      clear hE1 hE2 HU3'
      by_cases hE3 : E3 = 0
      · by_cases hE4 : E4 = 0
        · have HP4 : Hid _ := HP3'.out hE3 hE4
          have zE3 : (E3 == 0) = true := by simp [hE3]
          have yE3 : (E3 != 0) = false := by simp [hE3]
          have zE4 : (E4 == 0) = true := by simp [hE4]
          have yE4 : (E4 != 0) = false := by simp [hE4]
          clear hE3 hE4 HP3'
          go_enter Try.func6, Try.ntmps6
          go_wp2_with fail
          refine (HAL.out w).mono ?_
          rintro e W1 ⟨rfl, g1⟩
          have G1 : Hid (Grew w W1) := g1
          clear g1
          go_wp2_with fail
          refine (HU1.out W1 G1.out).mono ?_
          intro e W2 hgv
          obtain ⟨xa, xc, rfl, ow, g⟩ := hgv.slice
          have G2 : Hid (Grew w W2) := G1.out.trans g
          have R2 : Hid (RowAt arE W2 (.slice xa L1.length xc) L1) := ow.at
          clear g ow hgv
          go_wp2_with fail
          refine (HU2.out W2 G2.out).mono ?_
          intro e W3 hgv
          obtain ⟨ya, yc, rfl, ow, g⟩ := hgv.slice
          have G3 : Hid (Grew w W3) := G2.out.trans g
          have R3 : Hid (RowAt arE W3 (.slice xa L1.length xc) L1) := R2.out.grew g
          have Y3 : Hid (RowAt arE W3 (.slice ya L2.length yc) L2) := ow.at
          clear g ow hgv
          go_wp2_with fail
          refine (HP1.out W3 G3.out).mono ?_
          intro e W4 hgv
          obtain ⟨pa, pc, rfl, ow, g⟩ := hgv.slice
          have G4 : Hid (Grew w W4) := G3.out.trans g
          have P4 : Hid (RowAt arE W4 (.slice pa L3.length pc) L3) := ow.at
          clear g ow hgv
          go_wp2_with fail
          refine (HP2.out W4 G4.out).mono ?_
          intro e W5 hgv
          obtain ⟨qa, qc, rfl, ow, g⟩ := hgv.slice
          have G5 : Hid (Grew w W5) := G4.out.trans g
          have P5 : Hid (RowAt arE W5 (.slice pa L3.length pc) L3) := P4.out.grew g
          have Q5 : Hid (RowAt arE W5 (.slice qa L4.length qc) L4) := ow.at
          clear g ow hgv
          go_wp2_with fail
          refine (HP4.out _ W5 Q5.out).mono ?_
          intro e W6 hgv
          obtain ⟨ta, tc, rfl, ow, g⟩ := hgv.slice
          have G6 : Hid (Grew w W6) := G5.out.trans g
          have P6 : Hid (RowAt arE W6 (.slice pa L3.length pc) L3) := P5.out.grew g
          have T6 : Hid (RowAt arE W6 (.slice ta L3.length tc) L3) := ow.at
          clear g ow hgv
          go_wp2_with fail
          refine (sameAr_any _ _ L3 W6 P6.out T6.out).mono ?_
          rintro e W7 ⟨rfl, g⟩
          have G7 : Hid (Grew w W7) := G6.out.trans g
          clear g
          go_wp2
          go_ret
          exact ⟨rfl, G7.out⟩
        · have zE3 : (E3 == 0) = true := by simp [hE3]
          have yE3 : (E3 != 0) = false := by simp [hE3]
          have zE4 : (E4 == 0) = false := by simp [hE4]
          have yE4 : (E4 != 0) = true := by simp [hE4]
          clear hE3 hE4 HP3'
          go_enter Try.func6, Try.ntmps6
          go_wp2_with fail
          refine (HAL.out w).mono ?_
          rintro e W1 ⟨rfl, g1⟩
          have G1 : Hid (Grew w W1) := g1
          clear g1
          go_wp2_with fail
          refine (HU1.out W1 G1.out).mono ?_
          intro e W2 hgv
          obtain ⟨xa, xc, rfl, ow, g⟩ := hgv.slice
          have G2 : Hid (Grew w W2) := G1.out.trans g
          have R2 : Hid (RowAt arE W2 (.slice xa L1.length xc) L1) := ow.at
          clear g ow hgv
          go_wp2_with fail
          refine (HU2.out W2 G2.out).mono ?_
          intro e W3 hgv
          obtain ⟨ya, yc, rfl, ow, g⟩ := hgv.slice
          have G3 : Hid (Grew w W3) := G2.out.trans g
          have R3 : Hid (RowAt arE W3 (.slice xa L1.length xc) L1) := R2.out.grew g
          have Y3 : Hid (RowAt arE W3 (.slice ya L2.length yc) L2) := ow.at
          clear g ow hgv
          go_wp2_with fail
          refine (HP1.out W3 G3.out).mono ?_
          intro e W4 hgv
          obtain ⟨pa, pc, rfl, ow, g⟩ := hgv.slice
          have G4 : Hid (Grew w W4) := G3.out.trans g
          have P4 : Hid (RowAt arE W4 (.slice pa L3.length pc) L3) := ow.at
          clear g ow hgv
          go_wp2_with fail
          refine (HP2.out W4 G4.out).mono ?_
          intro e W5 hgv
          obtain ⟨qa, qc, rfl, ow, g⟩ := hgv.slice
          have G5 : Hid (Grew w W5) := G4.out.trans g
          have P5 : Hid (RowAt arE W5 (.slice pa L3.length pc) L3) := P4.out.grew g
          have Q5 : Hid (RowAt arE W5 (.slice qa L4.length qc) L4) := ow.at
          clear g ow hgv
          go_wp2
          go_ret
          exact ⟨rfl, G5.out⟩
      · have zE3 : (E3 == 0) = false := by simp [hE3]
        have yE3 : (E3 != 0) = true := by simp [hE3]
        clear hE3 HP3'
        go_enter Try.func6, Try.ntmps6
        go_wp2_with fail
        refine (HAL.out w).mono ?_
        rintro e W1 ⟨rfl, g1⟩
        have G1 : Hid (Grew w W1) := g1
        clear g1
        go_wp2_with fail
        refine (HU1.out W1 G1.out).mono ?_
        intro e W2 hgv
        obtain ⟨xa, xc, rfl, ow, g⟩ := hgv.slice
        have G2 : Hid (Grew w W2) := G1.out.trans g
        have R2 : Hid (RowAt arE W2 (.slice xa L1.length xc) L1) := ow.at
        clear g ow hgv
        go_wp2_with fail
        refine (HU2.out W2 G2.out).mono ?_
        intro e W3 hgv
        obtain ⟨ya, yc, rfl, ow, g⟩ := hgv.slice
        have G3 : Hid (Grew w W3) := G2.out.trans g
        have R3 : Hid (RowAt arE W3 (.slice xa L1.length xc) L1) := R2.out.grew g
        have Y3 : Hid (RowAt arE W3 (.slice ya L2.length yc) L2) := ow.at
        clear g ow hgv
        go_wp2_with fail
        refine (HP1.out W3 G3.out).mono ?_
        intro e W4 hgv
        obtain ⟨pa, pc, rfl, ow, g⟩ := hgv.slice
        have G4 : Hid (Grew w W4) := G3.out.trans g
        have P4 : Hid (RowAt arE W4 (.slice pa L3.length pc) L3) := ow.at
        clear g ow hgv
        go_wp2_with fail
        refine (HP2.out W4 G4.out).mono ?_
        intro e W5 hgv
        obtain ⟨qa, qc, rfl, ow, g⟩ := hgv.slice
        have G5 : Hid (Grew w W5) := G4.out.trans g
        have P5 : Hid (RowAt arE W5 (.slice pa L3.length pc) L3) := P4.out.grew g
        have Q5 : Hid (RowAt arE W5 (.slice qa L4.length qc) L4) := ow.at
        clear g ow hgv
        go_wp2
        go_ret
        exact ⟨rfl, G5.out⟩
  · have zE1 : (E1 == 0) = false := by simp [hE1]
    have yE1 : (E1 != 0) = true := by simp [hE1]
    clear hE1 HU3'
    by_cases hE3 : E3 = 0
    · by_cases hE4 : E4 = 0
      · have HP4 : Hid _ := HP3'.out hE3 hE4
        have zE3 : (E3 == 0) = true := by simp [hE3]
        have yE3 : (E3 != 0) = false := by simp [hE3]
        have zE4 : (E4 == 0) = true := by simp [hE4]
        have yE4 : (E4 != 0) = false := by simp [hE4]
        clear hE3 hE4 HP3'
        go_enter Try.func6, Try.ntmps6
        go_wp2_with fail
        refine (HAL.out w).mono ?_
        rintro e W1 ⟨rfl, g1⟩
        have G1 : Hid (Grew w W1) := g1
        clear g1
        go_wp2_with fail
        refine (HU1.out W1 G1.out).mono ?_
        intro e W2 hgv
        obtain ⟨xa, xc, rfl, ow, g⟩ := hgv.slice
        have G2 : Hid (Grew w W2) := G1.out.trans g
        have R2 : Hid (RowAt arE W2 (.slice xa L1.length xc) L1) := ow.at
        clear g ow hgv
        go_wp2_with fail
        refine (HU2.out W2 G2.out).mono ?_
        intro e W3 hgv
        obtain ⟨ya, yc, rfl, ow, g⟩ := hgv.slice
        have G3 : Hid (Grew w W3) := G2.out.trans g
        have R3 : Hid (RowAt arE W3 (.slice xa L1.length xc) L1) := R2.out.grew g
        have Y3 : Hid (RowAt arE W3 (.slice ya L2.length yc) L2) := ow.at
        clear g ow hgv
        go_wp2_with fail
        refine (HP1.out W3 G3.out).mono ?_
        intro e W4 hgv
        obtain ⟨pa, pc, rfl, ow, g⟩ := hgv.slice
        have G4 : Hid (Grew w W4) := G3.out.trans g
        have P4 : Hid (RowAt arE W4 (.slice pa L3.length pc) L3) := ow.at
        clear g ow hgv
        go_wp2_with fail
        refine (HP2.out W4 G4.out).mono ?_
        intro e W5 hgv
        obtain ⟨qa, qc, rfl, ow, g⟩ := hgv.slice
        have G5 : Hid (Grew w W5) := G4.out.trans g
        have P5 : Hid (RowAt arE W5 (.slice pa L3.length pc) L3) := P4.out.grew g
        have Q5 : Hid (RowAt arE W5 (.slice qa L4.length qc) L4) := ow.at
        clear g ow hgv
        go_wp2_with fail
        refine (HP4.out _ W5 Q5.out).mono ?_
        intro e W6 hgv
        obtain ⟨ta, tc, rfl, ow, g⟩ := hgv.slice
        have G6 : Hid (Grew w W6) := G5.out.trans g
        have P6 : Hid (RowAt arE W6 (.slice pa L3.length pc) L3) := P5.out.grew g
        have T6 : Hid (RowAt arE W6 (.slice ta L3.length tc) L3) := ow.at
        clear g ow hgv
        go_wp2_with fail
        refine (sameAr_any _ _ L3 W6 P6.out T6.out).mono ?_
        rintro e W7 ⟨rfl, g⟩
        have G7 : Hid (Grew w W7) := G6.out.trans g
        clear g
        go_wp2
        go_ret
        exact ⟨rfl, G7.out⟩
      · have zE3 : (E3 == 0) = true := by simp [hE3]
        have yE3 : (E3 != 0) = false := by simp [hE3]
        have zE4 : (E4 == 0) = false := by simp [hE4]
        have yE4 : (E4 != 0) = true := by simp [hE4]
        clear hE3 hE4 HP3'
        go_enter Try.func6, Try.ntmps6
        go_wp2_with fail
        refine (HAL.out w).mono ?_
        rintro e W1 ⟨rfl, g1⟩
        have G1 : Hid (Grew w W1) := g1
        clear g1
        go_wp2_with fail
        refine (HU1.out W1 G1.out).mono ?_
        intro e W2 hgv
        obtain ⟨xa, xc, rfl, ow, g⟩ := hgv.slice
        have G2 : Hid (Grew w W2) := G1.out.trans g
        have R2 : Hid (RowAt arE W2 (.slice xa L1.length xc) L1) := ow.at
        clear g ow hgv
        go_wp2_with fail
        refine (HU2.out W2 G2.out).mono ?_
        intro e W3 hgv
        obtain ⟨ya, yc, rfl, ow, g⟩ := hgv.slice
        have G3 : Hid (Grew w W3) := G2.out.trans g
        have R3 : Hid (RowAt arE W3 (.slice xa L1.length xc) L1) := R2.out.grew g
        have Y3 : Hid (RowAt arE W3 (.slice ya L2.length yc) L2) := ow.at
        clear g ow hgv
        go_wp2_with fail
        refine (HP1.out W3 G3.out).mono ?_
        intro e W4 hgv
        obtain ⟨pa, pc, rfl, ow, g⟩ := hgv.slice
        have G4 : Hid (Grew w W4) := G3.out.trans g
        have P4 : Hid (RowAt arE W4 (.slice pa L3.length pc) L3) := ow.at
        clear g ow hgv
        go_wp2_with fail
        refine (HP2.out W4 G4.out).mono ?_
        intro e W5 hgv
        obtain ⟨qa, qc, rfl, ow, g⟩ := hgv.slice
        have G5 : Hid (Grew w W5) := G4.out.trans g
        have P5 : Hid (RowAt arE W5 (.slice pa L3.length pc) L3) := P4.out.grew g
        have Q5 : Hid (RowAt arE W5 (.slice qa L4.length qc) L4) := ow.at
        clear g ow hgv
        go_wp2
        go_ret
        exact ⟨rfl, G5.out⟩
    · have zE3 : (E3 == 0) = false := by simp [hE3]
      have yE3 : (E3 != 0) = true := by simp [hE3]
      clear hE3 HP3'
      go_enter Try.func6, Try.ntmps6
      go_wp2_with fail
      refine (HAL.out w).mono ?_
      rintro e W1 ⟨rfl, g1⟩
      have G1 : Hid (Grew w W1) := g1
      clear g1
      go_wp2_with fail
      refine (HU1.out W1 G1.out).mono ?_
      intro e W2 hgv
      obtain ⟨xa, xc, rfl, ow, g⟩ := hgv.slice
      have G2 : Hid (Grew w W2) := G1.out.trans g
      have R2 : Hid (RowAt arE W2 (.slice xa L1.length xc) L1) := ow.at
      clear g ow hgv
      go_wp2_with fail
      refine (HU2.out W2 G2.out).mono ?_
      intro e W3 hgv
      obtain ⟨ya, yc, rfl, ow, g⟩ := hgv.slice
      have G3 : Hid (Grew w W3) := G2.out.trans g
      have R3 : Hid (RowAt arE W3 (.slice xa L1.length xc) L1) := R2.out.grew g
      have Y3 : Hid (RowAt arE W3 (.slice ya L2.length yc) L2) := ow.at
      clear g ow hgv
      go_wp2_with fail
      refine (HP1.out W3 G3.out).mono ?_
      intro e W4 hgv
      obtain ⟨pa, pc, rfl, ow, g⟩ := hgv.slice
      have G4 : Hid (Grew w W4) := G3.out.trans g
      have P4 : Hid (RowAt arE W4 (.slice pa L3.length pc) L3) := ow.at
      clear g ow hgv
      go_wp2_with fail
      refine (HP2.out W4 G4.out).mono ?_
      intro e W5 hgv
      obtain ⟨qa, qc, rfl, ow, g⟩ := hgv.slice
      have G5 : Hid (Grew w W5) := G4.out.trans g
      have P5 : Hid (RowAt arE W5 (.slice pa L3.length pc) L3) := P4.out.grew g
      have Q5 : Hid (RowAt arE W5 (.slice qa L4.length qc) L4) := ow.at
      clear g ow hgv
      go_wp2
      go_ret
      exact ⟨rfl, G5.out⟩

end Go.Proofs.Ytlkgmjdhggfimad
