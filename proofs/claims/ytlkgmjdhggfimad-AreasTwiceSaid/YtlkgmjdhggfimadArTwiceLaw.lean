/- Law AreasTwice: protected twice as once. -/
import Derived.Test.YtlkgmjdhggfimadArAlive
import Derived.Test.YtlkgmjdhggfimadArSame
namespace Go.Proofs.Ytlkgmjdhggfimad
open Go.RowKit

set_option maxRecDepth 100000 in
set_option maxHeartbeats 2000000 in
theorem twiceLaw_any (v : Value) (l : List Ar) (s n : Int) (r u : Bool) (w : World) (hv : RowAt arE w v l) (hs : s ≤ 9223372036854775807) :
    Calls Try.prog 7 #[v, .int .i64 s, .int .i64 n, .bool r, .bool u] w fun e w' => e = .returned (.bool true) ∧ Grew w w' := by
  have HV : Hid (RowAt arE w v l) := hv
  have hfe := field_err
  have HAL : Hid (∀ W, Calls Try.prog 25 #[] W fun e w' => e = .returned (.bool true) ∧ Grew W w') := fun W => aliveAr_any W
  have HP : Hid (∀ W, Grew w W → Calls Try.prog 19 #[v, .int .i64 s, .int .i64 n, .bool r, .bool u] W (Gives (prA l s n r u) W)) := fun W hW => protect_any v l s n r u W (HV.out.grew hW) hs
  have HPN : Hid (∀ W, Grew w W → Calls Try.prog 19 #[v, .int .i64 s, .int .i64 n, .bool (!r), .bool (!u)] W (Gives (prA l s n (!r) (!u)) W)) := fun W hW => protect_any v l s n (!r) (!u) W (HV.out.grew hW) hs
  clear hv
  by_cases hz : (prA l s n r u).2 = 0
  · have b1 := (twice_pr (r' := r) (w' := u) hz).1
    have b2 := (twice_pr (r' := r) (w' := u) hz).2
    have b3 := (twice_pr (r' := !r) (w' := !u) hz).2
    have he : prA l s n r u = ((prA l s n r u).1, (0 : Int)) := by rw [← hz]
    have HP2 : Hid (∀ x W, RowAt arE W x (prA l s n r u).1 → Calls Try.prog 19 #[x, .int .i64 s, .int .i64 n, .bool r, .bool u] W (Gives ((prA l s n r u).1, 0) W)) := fun x W hx => by
      have := protect_any x _ s n r u W hx hs
      rw [b2] at this
      rw [← he]
      exact this
    have HP3 : Hid (∀ x W, RowAt arE W x (prA l s n r u).1 → Calls Try.prog 19 #[x, .int .i64 s, .int .i64 n, .bool (!r), .bool (!u)] W (Gives (prA l s n (!r) (!u)) W)) := fun x W hx => by
      have := protect_any x _ s n (!r) (!u) W hx hs
      rw [b3] at this
      exact this
    have HWR : Hid (∀ x W, RowAt arE W x (prA l s n r u).1 → Calls Try.prog 12 #[x] W fun e w' => e = .returned (.agg #[.int .i64 0, .int .i64 (wrL (prA l s n r u).1).2]) ∧ Grew W w') := fun x W hx => by
      have := wrongAr_any x _ W hx
      rw [b1] at this
      exact this
    rw [he] at HP
    clear b1 b2 b3 he hz
    generalize (wrL (prA l s n r u).1).2 = I at HWR
    generalize (prA l s n r u).1 = M at *
    generalize prA l s n (!r) (!u) = N at *
    obtain ⟨NL, NE⟩ := N
    have hnn : (NE != NE) = false := by simp
    by_cases hne : NE = 0
    · have hneb : (NE != 0) = false := by simp [hne]
      clear hne
      go_enter Try.func7, Try.ntmps7
      go_wp2_with fail
      refine (HAL.out w).mono ?_
      rintro e W1 ⟨rfl, g1⟩
      have G1 : Hid (Grew w W1) := g1
      clear g1
      go_wp2_with fail
      refine (HP.out W1 G1.out).mono ?_
      intro e W2 hgv
      obtain ⟨xa, xc, rfl, ow, g⟩ := hgv.slice
      have G2 : Hid (Grew w W2) := G1.out.trans g
      have R2 : Hid (RowAt arE W2 (.slice xa M.length xc) M) := ow.at
      clear g ow hgv
      go_wp2_with fail
      refine (HP2.out _ W2 R2.out).mono ?_
      intro e W3 hgv
      obtain ⟨ya, yc, rfl, ow, g⟩ := hgv.slice
      have G3 : Hid (Grew w W3) := G2.out.trans g
      have R3 : Hid (RowAt arE W3 (.slice xa M.length xc) M) := R2.out.grew g
      have Y3 : Hid (RowAt arE W3 (.slice ya M.length yc) M) := ow.at
      clear g ow hgv
      go_wp2_with fail
      refine (HP3.out _ W3 R3.out).mono ?_
      intro e W4 hgv
      obtain ⟨za, zc, rfl, ow, g⟩ := hgv.slice
      have G4 : Hid (Grew w W4) := G3.out.trans g
      have R4 : Hid (RowAt arE W4 (.slice xa M.length xc) M) := R3.out.grew g
      have Y4 : Hid (RowAt arE W4 (.slice ya M.length yc) M) := Y3.out.grew g
      have S4 : Hid (RowAt arE W4 (.slice za NL.length zc) NL) := ow.at
      clear g ow hgv
      go_wp2_with fail
      refine (HPN.out W4 G4.out).mono ?_
      intro e W5 hgv
      obtain ⟨ta, tc, rfl, ow, g⟩ := hgv.slice
      have G5 : Hid (Grew w W5) := G4.out.trans g
      have R5 : Hid (RowAt arE W5 (.slice xa M.length xc) M) := R4.out.grew g
      have Y5 : Hid (RowAt arE W5 (.slice ya M.length yc) M) := Y4.out.grew g
      have S5 : Hid (RowAt arE W5 (.slice za NL.length zc) NL) := S4.out.grew g
      have T5 : Hid (RowAt arE W5 (.slice ta NL.length tc) NL) := ow.at
      clear g ow hgv
      go_wp2_with fail
      refine (sameAr_any _ _ M W5 R5.out Y5.out).mono ?_
      rintro e W6 ⟨rfl, g⟩
      have G6 : Hid (Grew w W6) := G5.out.trans g
      have R6 : Hid (RowAt arE W6 (.slice xa M.length xc) M) := R5.out.grew g
      have S6 : Hid (RowAt arE W6 (.slice za NL.length zc) NL) := S5.out.grew g
      have T6 : Hid (RowAt arE W6 (.slice ta NL.length tc) NL) := T5.out.grew g
      clear g
      go_wp2_with fail
      refine (HWR.out _ W6 R6.out).mono ?_
      rintro e W7 ⟨rfl, g⟩
      have G7 : Hid (Grew w W7) := G6.out.trans g
      have S7 : Hid (RowAt arE W7 (.slice za NL.length zc) NL) := S6.out.grew g
      have T7 : Hid (RowAt arE W7 (.slice ta NL.length tc) NL) := T6.out.grew g
      clear g
      go_wp2_with fail
      refine (sameAr_any _ _ NL W7 S7.out T7.out).mono ?_
      rintro e W8 ⟨rfl, g⟩
      have G8 : Hid (Grew w W8) := G7.out.trans g
      clear g
      go_wp2
      go_ret
      exact ⟨rfl, G8.out⟩
    · have hneb : (NE != 0) = true := by simp [hne]
      clear hne
      go_enter Try.func7, Try.ntmps7
      go_wp2_with fail
      refine (HAL.out w).mono ?_
      rintro e W1 ⟨rfl, g1⟩
      have G1 : Hid (Grew w W1) := g1
      clear g1
      go_wp2_with fail
      refine (HP.out W1 G1.out).mono ?_
      intro e W2 hgv
      obtain ⟨xa, xc, rfl, ow, g⟩ := hgv.slice
      have G2 : Hid (Grew w W2) := G1.out.trans g
      have R2 : Hid (RowAt arE W2 (.slice xa M.length xc) M) := ow.at
      clear g ow hgv
      go_wp2_with fail
      refine (HP2.out _ W2 R2.out).mono ?_
      intro e W3 hgv
      obtain ⟨ya, yc, rfl, ow, g⟩ := hgv.slice
      have G3 : Hid (Grew w W3) := G2.out.trans g
      have R3 : Hid (RowAt arE W3 (.slice xa M.length xc) M) := R2.out.grew g
      have Y3 : Hid (RowAt arE W3 (.slice ya M.length yc) M) := ow.at
      clear g ow hgv
      go_wp2_with fail
      refine (HP3.out _ W3 R3.out).mono ?_
      intro e W4 hgv
      obtain ⟨za, zc, rfl, ow, g⟩ := hgv.slice
      have G4 : Hid (Grew w W4) := G3.out.trans g
      have R4 : Hid (RowAt arE W4 (.slice xa M.length xc) M) := R3.out.grew g
      have Y4 : Hid (RowAt arE W4 (.slice ya M.length yc) M) := Y3.out.grew g
      have S4 : Hid (RowAt arE W4 (.slice za NL.length zc) NL) := ow.at
      clear g ow hgv
      go_wp2_with fail
      refine (HPN.out W4 G4.out).mono ?_
      intro e W5 hgv
      obtain ⟨ta, tc, rfl, ow, g⟩ := hgv.slice
      have G5 : Hid (Grew w W5) := G4.out.trans g
      have R5 : Hid (RowAt arE W5 (.slice xa M.length xc) M) := R4.out.grew g
      have Y5 : Hid (RowAt arE W5 (.slice ya M.length yc) M) := Y4.out.grew g
      have S5 : Hid (RowAt arE W5 (.slice za NL.length zc) NL) := S4.out.grew g
      have T5 : Hid (RowAt arE W5 (.slice ta NL.length tc) NL) := ow.at
      clear g ow hgv
      go_wp2_with fail
      refine (sameAr_any _ _ M W5 R5.out Y5.out).mono ?_
      rintro e W6 ⟨rfl, g⟩
      have G6 : Hid (Grew w W6) := G5.out.trans g
      have R6 : Hid (RowAt arE W6 (.slice xa M.length xc) M) := R5.out.grew g
      have S6 : Hid (RowAt arE W6 (.slice za NL.length zc) NL) := S5.out.grew g
      have T6 : Hid (RowAt arE W6 (.slice ta NL.length tc) NL) := T5.out.grew g
      clear g
      go_wp2_with fail
      refine (HWR.out _ W6 R6.out).mono ?_
      rintro e W7 ⟨rfl, g⟩
      have G7 : Hid (Grew w W7) := G6.out.trans g
      have S7 : Hid (RowAt arE W7 (.slice za NL.length zc) NL) := S6.out.grew g
      have T7 : Hid (RowAt arE W7 (.slice ta NL.length tc) NL) := T6.out.grew g
      clear g
      go_wp2
      go_ret
      exact ⟨rfl, G7.out⟩
  · have hzb : ((prA l s n r u).2 != 0) = true := by simp [hz]
    clear hz
    generalize prA l s n r u = N at HP hzb
    obtain ⟨NL, NE⟩ := N
    have hzb' : (NE != 0) = true := hzb
    clear hzb
    go_enter Try.func7, Try.ntmps7
    go_wp2_with fail
    refine (HAL.out w).mono ?_
    rintro e W1 ⟨rfl, g1⟩
    have G1 : Hid (Grew w W1) := g1
    clear g1
    go_wp2_with fail
    refine (HP.out W1 G1.out).mono ?_
    intro e W2 hgv
    obtain ⟨xa, xc, rfl, ow, g⟩ := hgv.slice
    have G2 : Hid (Grew w W2) := G1.out.trans g
    clear g ow hgv
    go_wp2
    go_ret
    exact ⟨rfl, G2.out⟩

end Go.Proofs.Ytlkgmjdhggfimad
