/- The walk of the law SlotsTake. -/
import Derived.Test.YtkkcanihnlpioacSlTakeLaw
import Derived.Test.YtkkcanihnlpioacSlAlive
import Derived.Test.YtkkcanihnlpioacSlSame
namespace Go.Proofs.Ytkkcanihnlpioac
open Go.RowKit

set_option maxRecDepth 100000 in
set_option maxHeartbeats 2000000 in
theorem takeSLaw_any (a : Option Addr) (c : Nat) (s : List Int) (m : Int) (w : World) (hv : RowAt slE w (.slice a s.length c) s) :
    Calls Try.prog 3 #[.slice a s.length c, .int .i64 m] w fun e w' => e = .returned (.bool true) ∧ Grew w w' := by
  have HV : Hid (RowAt slE w (.slice a s.length c) s) := hv
  have h1 : ∀ W, Grew w W → Calls Try.prog 5 #[.slice a s.length c, .int .i64 m] W fun e w' => ∃ a' c', e = .returned (.tuple #[.slice a' (takeSL s m).length c', .int .i64 (takeSI s m), .int .i64 (takeSE s m)]) ∧ NewRow slE W.heap.size w' (.slice a' (takeSL s m).length c') (takeSL s m) ∧ Grew W w' := fun W hW => takeS_any a c s m W (HV.out.grew hW)
  have h2 : ∀ W, Grew w W → Calls Try.prog 6 #[.slice a s.length c] W fun e w' => e = .returned (.int .i64 (freeS s)) ∧ Grew W w' := fun W hW => freeS_any a c s W (HV.out.grew hW)
  have hbig := hv.short
  obtain ⟨a', c', heq, hrow⟩ := hv.sls
  cases heq
  have HR : Hid (SlRows w a s) := hrow
  clear hrow hv
  obtain ⟨n, HN⟩ : ∃ n, Hid (s.length = n) := ⟨_, rfl⟩
  rcases takeS_cases s m with ⟨hw, e1, e2, e3⟩ | ⟨hw, hm, e1, e2, e3⟩ | ⟨hw, hm, hi, e1, e2, e3⟩ | ⟨hw, hm, hi, e1, e2, e3⟩
  · rw [e1, e2, e3] at h1
    have hz := slW_cases s
    clear e1 e2 e3 h2
    generalize slW s = z at h1 hw hz
    rw [HN.out] at h1 hbig ⊢
    have hz1 : (z == 10) = false := by simp; omega
    have hz2 : (z != 0) = true := by simpa using hw
    clear hz hw
    go_enter Try.func3, Try.ntmps3
    go_wp2_with fail
    refine (aliveS_any _).mono ?_
    rintro e W1 ⟨rfl, g1⟩
    have G1 : Hid (Grew w W1) := g1
    clear g1
    go_wp2_with fail
    refine (h1 _ G1.out).mono ?_
    rintro e W2 ⟨a2, c2, rfl, nb, g2⟩
    have G2 : Hid (Grew w W2) := G1.out.trans g2
    clear g2 nb h1
    go_wp2
    go_ret
    exact ⟨rfl, G2.out⟩
  · rw [e1, e2, e3] at h1
    clear e1 e2 e3 h2 hw
    rw [HN.out] at h1 hbig ⊢
    clear hm
    go_enter Try.func3, Try.ntmps3
    go_wp2_with fail
    refine (aliveS_any _).mono ?_
    rintro e W1 ⟨rfl, g1⟩
    have G1 : Hid (Grew w W1) := g1
    clear g1
    go_wp2_with fail
    refine (h1 _ G1.out).mono ?_
    rintro e W2 ⟨a2, c2, rfl, nb, g2⟩
    have G2 : Hid (Grew w W2) := G1.out.trans g2
    clear g2 nb h1
    go_wp2
    go_ret
    exact ⟨rfl, G2.out⟩
  · rw [e1, e2, e3] at h1
    rw [freeS_none hi] at h2
    clear e1 e2 e3 hw hi
    rw [HN.out] at h1 h2 hbig ⊢
    clear hm
    go_enter Try.func3, Try.ntmps3
    go_wp2_with fail
    refine (aliveS_any _).mono ?_
    rintro e W1 ⟨rfl, g1⟩
    have G1 : Hid (Grew w W1) := g1
    clear g1
    go_wp2_with fail
    refine (h1 _ G1.out).mono ?_
    rintro e W2 ⟨a2, c2, rfl, nb, g2⟩
    have G2 : Hid (Grew w W2) := G1.out.trans g2
    clear g2 nb h1
    go_wp2_with fail
    refine (h2 _ G2.out).mono ?_
    rintro e W3 ⟨rfl, g3⟩
    have G3 : Hid (Grew w W3) := G2.out.trans g3
    clear g3 h2
    go_wp2
    go_ret
    exact ⟨rfl, G3.out⟩
  · have hq := first_is hi
    rw [e1, e2, e3, List.length_set] at h1
    clear e1 e2 e3
    obtain ⟨i, HI⟩ : ∃ i, Hid (s.findIdx isZ = i) := ⟨_, rfl⟩
    rw [HI.out] at hi hq h1
    obtain ⟨M, rfl⟩ : ∃ M : Nat, m = (M : Int) := ⟨m.toNat, by omega⟩
    have hM1 : 1 ≤ M := by omega
    have hM2 : M ≤ 1000 := by omega
    have HQ : Hid (s[i]? = some 0) := hq
    have hf := freeS_set (q := (M : Int)) (by omega) hq
    have hw' := slW_set hw i (q := (M : Int)) (by omega) (by omega)
    have h3 : ∀ a' c' W, RowAt slE W (.slice a' s.length c') (s.set i (M : Int)) → Calls Try.prog 6 #[.slice a' s.length c'] W fun e w' => e = .returned (.int .i64 (freeS (s.set i (M : Int)))) ∧ Grew W w' := fun a' c' W hr => by
      have := freeS_any a' c' (s.set i (M : Int)) W (by rw [List.length_set]; exact hr)
      rw [List.length_set] at this
      exact this
    have h4 : ∀ a' c' W, RowAt slE W (.slice a' s.length c') (s.set i (M : Int)) → Calls Try.prog 7 #[.slice a' s.length c'] W fun e w' => e = .returned (.int .i64 0) ∧ Grew W w' := fun a' c' W hr => by
      have := wrongS_any a' c' (s.set i (M : Int)) W (by rw [List.length_set]; exact hr)
      rw [List.length_set, hw'] at this
      exact this
    have h5 : ∀ (q : Nat) a' c' W, 1 ≤ q → q ≤ 1000 → RowAt slE W (.slice a' s.length c') (s.set i (q : Int)) → Calls Try.prog 8 #[.slice a' s.length c', .int .i64 (i : Int), .int .i64 (-1)] W fun e w' => ∃ a2 c2, e = .returned (.tuple #[.slice a2 s.length c2, .int .i64 0]) ∧ RowAt slE w' (.slice a2 s.length c2) (s.set i ((q - 1 : Nat) : Int)) ∧ Grew W w' := fun q a' c' W hq1 hq2 hr => by
      have := holdS_any a' c' (s.set i (q : Int)) i (-1) W (by rw [List.length_set]; exact hr)
      obtain ⟨hE, hL⟩ := less_set hw hi (q := (q : Int)) (by omega) (by omega)
      rw [hE, hL, List.length_set, List.length_set, show (q : Int) - 1 = ((q - 1 : Nat) : Int) from by omega] at this
      refine this.mono ?_
      rintro e w' ⟨a2, c2, rfl, nr, hg⟩
      exact ⟨a2, c2, rfl, nr.1, hg⟩
    have h6 : ∀ a' c' W, RowAt slE W (.slice a' s.length c') (s.set i 0) → Calls Try.prog 8 #[.slice a' s.length c', .int .i64 (i : Int), .int .i64 (-1)] W fun e w' => ∃ v, e = .returned (.tuple #[v, .int .i64 5]) ∧ Grew W w' := fun a' c' W hr => by
      have := holdS_any a' c' (s.set i 0) i (-1) W (by rw [List.length_set]; exact hr)
      rw [less_none hw hi, List.length_set] at this
      refine this.mono ?_
      rintro e w' ⟨a2, c2, rfl, nr, hg⟩
      exact ⟨_, rfl, hg⟩
    have HS : Hid (s.set i 0 = s) := set_same hq
    have hf1 : ((freeS (s.set i (M : Int)) : Nat) : Int) = (freeS s : Int) - 1 := by omega
    have hfl : freeS s ≤ n := by rw [← HN.out]; exact List.countP_le_length
    generalize freeS (s.set i (M : Int)) = f1 at *
    generalize freeS s = f0 at *
    rw [HN.out] at h1 h2 h3 h4 h5 h6 hi hbig HV ⊢
    have hfb : ((f1 : Int) != (f0 : Int) - 1) = false := by simp [hf1]
    have hiz : (i : Int) < (n : Int) := by omega
    have hiz' : ¬ (n : Int) ≤ (i : Int) := by omega
    have hi0 : ¬ (i : Int) < 0 := by omega
    have hin : ¬ n ≤ i := by omega
    have hid : decide (n ≤ i) = false := decide_eq_false hin
    have hjd : decide ((i : Int) < 0) = false := decide_eq_false hi0
    obtain ⟨ad, rfl, hl⟩ := HR.out i 0 HQ.out
    clear hm hw hw' hq hf hf1
    go_enter Try.func3, Try.ntmps3
    go_wp2_with fail
    refine (aliveS_any _).mono ?_
    rintro e W1 ⟨rfl, g1⟩
    have G1 : Hid (Grew w W1) := g1
    clear g1
    go_wp2_with fail
    refine (h1 _ G1.out).mono ?_
    rintro e W2 ⟨a2, c2, rfl, nb, g2⟩
    have G2 : Hid (Grew w W2) := G1.out.trans g2
    have N2 : Hid (RowAt slE W2 (.slice a2 n c2) (s.set i (M : Int))) := nb.1
    have d0 := hl W2 G2.out
    clear g2 nb h1
    go_wp2_with fail
    refine (h3 _ _ _ N2.out).mono ?_
    rintro e W3 ⟨rfl, g3⟩
    have G3 : Hid (Grew w W3) := G2.out.trans g3
    have N3 : Hid (RowAt slE W3 (.slice a2 n c2) (s.set i (M : Int))) := N2.out.grew g3
    clear g3 h3 d0
    go_wp2_with fail
    refine (h2 _ G3.out).mono ?_
    rintro e W4 ⟨rfl, g4⟩
    have G4 : Hid (Grew w W4) := G3.out.trans g4
    have N4 : Hid (RowAt slE W4 (.slice a2 n c2) (s.set i (M : Int))) := N3.out.grew g4
    clear g4 h2 N2 N3
    go_wp2_with fail
    refine (h4 _ _ _ N4.out).mono ?_
    rintro e W5 ⟨rfl, g5⟩
    have G5 : Hid (Grew w W5) := G4.out.trans g5
    have N5 : Hid (RowAt slE W5 (.slice a2 n c2) (s.set i (M : Int))) := N4.out.grew g5
    clear g5 h4 N4
    go_wp2
    go_loopg [5, 58] M (fun gg s5 s58 wr => ∃ (kk : Nat) (a' : Option Addr) (c' : Nat), kk ≤ M ∧ M - kk ≤ gg ∧ s58 = .int .i64 kk ∧ s5 = .slice a' n c' ∧ Hid (Grew w wr) ∧ Hid (RowAt slE wr (.slice a' n c') (s.set i ((M - kk : Nat) : Int))))
    case atStart => exact ⟨0, a2, c2, Nat.zero_le _, by omega, rfl, rfl, G5.out, N5.out⟩
    case round =>
      obtain ⟨kk, xa, xc, hkk, hg, rfl, rfl, BW, A⟩ := hrel
      by_cases hlt : kk < M
      · have hltz : (kk : Int) < (M : Int) := by omega
        have h7 := h5 (M - kk) xa xc wr (by omega) (by omega) A.out
        clear h5 h6 hl
        go_wp2_with fail
        refine h7.mono ?_
        rintro e W6 ⟨ya, yc, rfl, nr, g6⟩
        have G6 : Hid (Grew w W6) := BW.out.trans g6
        have N6 : Hid (RowAt slE W6 (.slice ya n yc) (s.set i ((M - (kk + 1) : Nat) : Int))) := nr
        clear nr g6 h7
        go_wp2
        go_roundg (M - (kk + 1))
        case measure => omega
        case rel => exact ⟨kk + 1, ya, yc, by omega, by omega, by go_num, rfl, G6.out, N6.out⟩
      · have hltz : ¬ (kk : Int) < (M : Int) := by omega
        have : kk = M := by omega
        subst this
        have A' : Hid (RowAt slE wr (.slice xa n xc) (s.set i 0)) := show RowAt _ _ _ _ by
          have := A.out
          rw [Nat.sub_self] at this
          exact this
        clear A h5 hl
        go_wp2_with fail
        refine (h6 _ _ _ A'.out).mono ?_
        rintro e W6 ⟨v6, rfl, g6⟩
        have G6 : Hid (Grew w W6) := BW.out.trans g6
        have N6 : Hid (RowAt slE W6 (.slice xa n xc) s) := show RowAt _ _ _ _ by
          have := A'.out.grew g6
          rw [HS.out] at this
          exact this
        clear g6 h6 A'
        go_wp2_with fail
        refine (sameS_any _ _ s _ N6.out (HV.out.grew G6.out)).mono ?_
        rintro e W7 ⟨rfl, g7⟩
        have G7 : Hid (Grew w W7) := G6.out.trans g7
        clear g7
        go_wp2
        go_ret
        exact ⟨rfl, G7.out⟩

end Go.Proofs.Ytkkcanihnlpioac
