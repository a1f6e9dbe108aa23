/- Contract of SameTable (the document's answer): tables that have the same are the same. -/
import Derived.Test.YtodbgjhdfjpcpacTbOps2
namespace Go.Proofs.Ytodbgjhdfjpcpac
open Go.RowKit

set_option maxRecDepth 100000 in
set_option maxHeartbeats 1000000 in
theorem sameTb_any (vs us : List Value) (t : List (List En)) (w : World) (hv : TabAt w vs t) (hu : TabAt w us t) :
    Calls Try.prog 32 #[.agg vs.toArray, .agg us.toArray] w fun e w' => e = .returned (.bool true) ∧ Grew w w' := by
  have HV : Hid (TabAt w vs t) := hv
  have HU : Hid (TabAt w us t) := hu
  clear hv hu
  obtain ⟨W0, hW0⟩ : ∃ W0, (w.alloc (.cells vs.toArray 55)).alloc (.cells us.toArray 55) = W0 := ⟨_, rfl⟩
  have HG0 : Hid (Grew w W0) := show Grew w W0 by rw [← hW0]; exact (grew_alloc _ _).trans (grew_alloc _ _)
  have X0 : Hid (Box W0 w.heap.size vs) := show Box _ _ _ by rw [← hW0]; exact (Box.top w _ _ rfl).alloc _
  have Y0 : Hid (Box W0 (w.heap.size + 1) us) := show Box _ _ _ by rw [← hW0]; exact Box.top _ _ _ (by simp)
  have HW0 : Hid (_ = W0) := hW0
  clear hW0
  go_enter Try.func32, Try.ntmps32
  go_upto_region 1 with fail
  rw [HW0.out]
  go_wp2
  go_loopg [7] 8 (fun gg s7 wr => ∃ kk : Nat, kk ≤ 8 ∧ 8 - kk ≤ gg ∧ s7 = .int .i64 kk ∧ Hid (Grew W0 wr))
  case atStart => exact ⟨0, Nat.zero_le _, by omega, rfl, Grew.refl _⟩
  case round =>
    obtain ⟨kk, hkk, hg, rfl, BW⟩ := hrel
    by_cases hlt : kk < 8
    · have hltz : (kk : Int) < 8 := by omega
      obtain ⟨xa, xc, q, hq, hvk, hr⟩ := HV.out.half hlt
      obtain ⟨ya, yc, q', hq', huk, hr'⟩ := HU.out.half hlt
      obtain rfl : q = q' := by rw [hq] at hq'; cases hq'; rfl
      have hqbig := hr.short
      obtain ⟨_, _, heq, hens⟩ := hr.ens
      cases heq
      obtain ⟨_, _, heq, hens'⟩ := hr'.ens
      cases heq
      have HE : Hid (EnRows w xa q) := hens
      have HE' : Hid (EnRows w ya q) := hens'
      obtain ⟨mq, HMQ⟩ : ∃ mq, Hid (q.length = mq) := ⟨_, rfl⟩
      rw [HMQ.out] at hvk huk hqbig
      have HVK : Hid (vs[kk]? = some (.slice xa mq xc)) := hvk
      have HUK : Hid (us[kk]? = some (.slice ya mq yc)) := huk
      clear hens hens' hr hr' hq hq' hvk huk
      have x0 := (X0.out.grew BW.out).c kk HVK.out
      have y0 := (Y0.out.grew BW.out).c kk HUK.out
      have hnn : ((mq : Int) != (mq : Int)) = false := by simp
      go_wp2
      go_quiet (fail)
      obtain ⟨W2, hW2⟩ : ∃ W2, wr.drewN nq = W2 := ⟨_, rfl⟩
      have G2 : Hid (Grew W0 W2) := show Grew _ _ by rw [← hW2]; exact BW.out.trans (show Below _ _ _ from Go.below_drewN (Below.refl _ _) _)
      rw [hW2]
      clear hW2 x0 y0
      have x0 := (X0.out.grew G2.out).c kk HVK.out
      have y0 := (Y0.out.grew G2.out).c kk HUK.out
      go_wp2
      go_loopg [23] mq (fun g2 s23 wr2 => ∃ k2 : Nat, k2 ≤ mq ∧ mq - k2 ≤ g2 ∧ s23 = .int .i64 k2 ∧ Hid (Grew W0 wr2))
      case atStart => exact ⟨0, Nat.zero_le _, by omega, rfl, G2.out⟩
      case round =>
        obtain ⟨k2, hk2, hg2, rfl, BW2⟩ := hrel
        clear x0 y0
        by_cases hlt2 : k2 < mq
        · have hltz2 : (k2 : Int) < (mq : Int) := by omega
          obtain ⟨z, HZ⟩ : ∃ z, Hid (q[k2]? = some z) := ⟨_, List.getElem?_eq_getElem (by rw [HMQ.out]; exact hlt2)⟩
          obtain ⟨ad2, rfl, hl2⟩ := HE.out k2 z HZ.out
          obtain ⟨ad3, rfl, hl3⟩ := HE'.out k2 z HZ.out
          obtain ⟨d0, d1, d2⟩ := hl2 _ (HG0.out.trans BW2.out)
          obtain ⟨e0, e1, e2⟩ := hl3 _ (HG0.out.trans BW2.out)
          have x0 := (X0.out.grew BW2.out).c kk HVK.out
          have y0 := (Y0.out.grew BW2.out).c kk HUK.out
          have hee := fun W => en_eq z.kind z.n z.kind z.n z.wr z.wr W
          rw [enEqB_self] at hee
          clear hl2 hl3
          go_wp2
          go_quiet (fail)
          go_wp2
          go_roundg (mq - (k2 + 1))
          case measure => omega
          case rel => exact ⟨k2 + 1, by omega, by omega, by go_num, BW2.out.trans (show Below _ _ _ from Go.below_drewN (Below.refl _ _) _)⟩
        · have hltz2 : ¬ (k2 : Int) < (mq : Int) := by omega
          have : k2 = mq := by omega
          subst this
          go_wp2
          go_roundg (8 - (kk + 1))
          case measure => omega
          case rel => exact ⟨kk + 1, by omega, by omega, by go_num, BW2.out⟩
    · have hltz : ¬ (kk : Int) < 8 := by omega
      have : kk = 8 := by omega
      subst this
      have GE : Hid (Grew w wr) := HG0.out.trans BW.out
      go_wp2
      go_ret
      exact ⟨rfl, GE.out⟩

end Go.Proofs.Ytodbgjhdfjpcpac
