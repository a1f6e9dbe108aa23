/- Contracts of wrongPages and Room (package areas). -/
import Derived.Test.YtlkgmjdhggfimadArWrong
namespace Go.Proofs.Ytlkgmjdhggfimad
open Go.RowKit

theorem field_err (x y : Int) (w : World) : (Instr.field 39 (.agg #[.int .i64 x, .int .i64 y]) 0).run Try.prog w = .ok (.int .i64 x) w := by
  simp only [Instr.field, Sem.run_bind, run_underlying Try.underlying39, Result.andThen_ok, asAgg]
  exact run_part_plain w (by simp [Program.plainKey, Try.underlying29]) rfl

def wpE (l : List Ar) (s n : Int) : Int := if (wrL l).1 ≠ 0 then (wrL l).1 else if spanB s n = true then 0 else 3

set_option maxRecDepth 100000 in
set_option maxHeartbeats 1000000 in
theorem wrongPages_any (v : Value) (l : List Ar) (s n : Int) (w : World) (hv : RowAt arE w v l) (hs : s ≤ 9223372036854775807) :
    Calls Try.prog 45 #[v, .int .i64 s, .int .i64 n] w fun e w' => e = .returned (.int .i64 (wpE l s n)) ∧ Grew w w' := by
  have hw := wrongAr_any v l w hv
  have hfe := field_err
  obtain ⟨a, c, rfl, _⟩ := hv.ars
  clear hv
  generalize l.length = m at hw ⊢
  by_cases hz : (wrL l).1 = 0
  · have HE : Hid (wpE l s n = if spanB s n = true then 0 else 3) := show _ = _ by unfold wpE; rw [if_neg (fun h => h hz)]
    rw [hz] at hw
    clear hz
    generalize (wrL l).2 = I at hw
    by_cases h0 : s < 0
    · have HF : Hid (wpE l s n = 3) := show _ = _ by rw [HE.out, if_neg (by rw [spanB_iff]; omega)]
      go_enter Try.func45, Try.ntmps45
      go_wp2_with fail
      refine hw.mono ?_
      rintro e W1 ⟨rfl, g1⟩
      have G1 : Hid (Grew w W1) := g1
      clear g1 hw
      go_wp2
      go_ret
      exact ⟨by rw [HF.out]; rfl, G1.out⟩
    by_cases h1 : n < 1
    · have HF : Hid (wpE l s n = 3) := show _ = _ by rw [HE.out, if_neg (by rw [spanB_iff]; omega)]
      go_enter Try.func45, Try.ntmps45
      go_wp2_with fail
      refine hw.mono ?_
      rintro e W1 ⟨rfl, g1⟩
      have G1 : Hid (Grew w W1) := g1
      clear g1 hw
      go_wp2
      go_ret
      exact ⟨by rw [HF.out]; rfl, G1.out⟩
    by_cases h2 : 64 - s < n
    · have HF : Hid (wpE l s n = 3) := show _ = _ by rw [HE.out, if_neg (by rw [spanB_iff]; omega)]
      go_enter Try.func45, Try.ntmps45
      go_wp2_with fail
      refine hw.mono ?_
      rintro e W1 ⟨rfl, g1⟩
      have G1 : Hid (Grew w W1) := g1
      clear g1 hw
      go_wp2
      go_ret
      exact ⟨by rw [HF.out]; rfl, G1.out⟩
    · have HF : Hid (wpE l s n = 0) := show _ = _ by rw [HE.out, if_pos (by rw [spanB_iff]; omega)]
      go_enter Try.func45, Try.ntmps45
      go_wp2_with fail
      refine hw.mono ?_
      rintro e W1 ⟨rfl, g1⟩
      have G1 : Hid (Grew w W1) := g1
      clear g1 hw
      go_wp2
      go_ret
      exact ⟨by rw [HF.out]; rfl, G1.out⟩
  · have HF : Hid (wpE l s n = (wrL l).1) := show _ = _ by unfold wpE; rw [if_pos hz]
    have hzb : ((wrL l).1 != 0) = true := by simp [hz]
    clear hz
    generalize (wrL l).2 = I at hw
    generalize (wrL l).1 = E at *
    go_enter Try.func45, Try.ntmps45
    go_wp2_with fail
    refine hw.mono ?_
    rintro e W1 ⟨rfl, g1⟩
    have G1 : Hid (Grew w W1) := g1
    clear g1 hw
    go_wp2
    go_ret
    exact ⟨by rw [HF.out]; rfl, G1.out⟩

set_option maxRecDepth 100000 in
set_option maxHeartbeats 1000000 in
theorem room_any (v : Value) (l : List Ar) (n : Int) (w : World) (hv : RowAt arE w v l) (hl : (wrL l).1 = 0) (hn : n ≤ 9223372036854775807) :
    Calls Try.prog 23 #[v, .int .i64 n] w fun e w' => e = .returned (.int .i64 (roomL l n)) ∧ Grew w w' := by
  have HV : Hid (RowAt arE w v l) := hv
  have hfe := field_err
  have HT : Hid (∀ (s k : Nat) W, s + k ≤ 64 → Grew w W → Calls Try.prog 40 #[v, .int .i64 (s : Int), .int .i64 ((s : Int) + (k : Int))] W fun e w' => e = .returned (.int .i64 (countA l s k : Int)) ∧ Grew W w') := fun s k W h1 h2 => taken_any v l s k W (HV.out.grew h2) h1
  by_cases h1 : n < 1
  · have HF : Hid (roomL l n = -1) := show _ = _ by unfold roomL; rw [if_pos (by omega)]
    obtain ⟨a, c, rfl, _⟩ := hv.ars
    clear hv HV HT
    generalize l.length = m
    generalize roomL l n = R at HF ⊢
    go_enter Try.func23, Try.ntmps23
    go_wp2
    go_ret
    exact ⟨by rw [HF.out]; rfl, Grew.refl _⟩
  · have hw := wrongAr_any v l w hv
    rw [hl] at hw
    generalize (wrL l).2 = I at hw
    have HHIT : Hid (∀ k : Nat, (k : Int) ≤ 64 - n → hitB l k n = false → (∀ j : Nat, j < k → hitB l j n = true) → roomL l n = k) := fun k h2 h3 h4 => roomL_hit (by omega) h2 h3 h4
    have HMISS : Hid ((1 ≤ n → ∀ j : Nat, (j : Int) ≤ 64 - n → hitB l j n = true) → roomL l n = -1) := roomL_miss
    clear hv hl
    generalize roomL l n = R at HHIT HMISS ⊢
    go_enter Try.func23, Try.ntmps23
    go_wp2_with fail
    refine hw.mono ?_
    rintro e W1 ⟨rfl, g1⟩
    have G1 : Hid (Grew w W1) := g1
    clear g1 hw
    go_wp2
    go_loopg [17] (65 - n.toNat) (fun gg s17 wr => ∃ kk : Nat, kk ≤ 65 - n.toNat ∧ 65 - n.toNat - kk ≤ gg ∧ s17 = .int .i64 kk ∧ Hid (Grew w wr) ∧ Hid (∀ j : Nat, j < kk → hitB l j n = true))
    case atStart => exact ⟨0, Nat.zero_le _, by omega, rfl, G1.out, fun j hj => absurd hj (Nat.not_lt_zero _)⟩
    case round =>
      obtain ⟨kk, hkk, hg, rfl, BW, A⟩ := hrel
      by_cases hlt : (kk : Int) < 64 - n + 1
      · obtain ⟨nn, hnn⟩ : ∃ nn : Nat, (nn : Int) = n := ⟨n.toNat, by omega⟩
        have hsum : kk + nn ≤ 64 := by omega
        go_wp2_with fail
        rw [← hnn]
        refine (HT.out kk nn wr hsum BW.out).mono ?_
        rintro e W2 ⟨rfl, g2⟩
        have G2 : Hid (Grew w W2) := BW.out.trans g2
        clear g2
        have hch := count_hit (l := l) hsum
        rw [hnn] at hch
        by_cases hc : countA l kk nn = 0
        · have hcb : ((countA l kk nn : Int) == 0) = true := by simp [hc]
          have HF : Hid (R = (kk : Int)) := HHIT.out kk (by omega) (hch.1 hc) A.out
          clear hc hch
          generalize countA l kk nn = C at hcb
          go_wp2
          go_ret
          exact ⟨by rw [HF.out]; rfl, G2.out⟩
        · have hcb : ((countA l kk nn : Int) == 0) = false := by simp [hc]
          have HA : Hid (∀ j : Nat, j < kk + 1 → hitB l j n = true) := show ∀ j : Nat, _ from fun j hj => by
            by_cases e : j = kk
            · subst e
              cases hq : hitB l j n with
              | true => rfl
              | false => exact absurd (hch.2 hq) hc
            · exact A.out j (by omega)
          clear hc hch
          generalize countA l kk nn = C at hcb
          go_wp2
          go_roundg (65 - n.toNat - (kk + 1))
          case measure => omega
          case rel => exact ⟨kk + 1, by omega, by omega, by go_num, G2.out, HA.out⟩
      · have HF : Hid (R = -1) := HMISS.out fun _ j hj => A.out j (by omega)
        go_wp2
        go_ret
        exact ⟨by rw [HF.out]; rfl, BW.out⟩

end Go.Proofs.Ytlkgmjdhggfimad
