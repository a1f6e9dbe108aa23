/- Contract of Used (the document's answer). -/
import Derived.Test.YtagpmjgmohfmjacStIndex
namespace Go.Proofs.Ytagpmjgmohfmjac
open Go.RowKit

set_option maxRecDepth 100000 in
set_option maxHeartbeats 1000000 in
theorem used_any (v : Value) (fs : List Fl) (cnt b : Int) (w : World) (hv : FilesAt w v fs) :
    Calls Try.prog 24 #[.agg #[v, .int .i64 cnt], .int .i64 b] w fun e w' => e = .returned (.bool (usedB fs b)) ∧ Grew w w' := by
  obtain ⟨a, c, rfl, hbig, hrow⟩ := hv.rows
  have HR : Hid (FlRows w a fs) := hrow
  clear hrow hv
  obtain ⟨n, HN⟩ : ∃ n, Hid (fs.length = n) := ⟨_, rfl⟩
  rw [HN.out] at hbig ⊢
  obtain ⟨ANS, HANS⟩ : ∃ ANS, Hid (usedB fs b = ANS) := ⟨_, rfl⟩
  rw [HANS.out]
  obtain ⟨W0, hW0⟩ : ∃ W0, w.alloc (.cells #[.slice a n c, .int .i64 cnt] 36) = W0 := ⟨_, rfl⟩
  have HG0 : Hid (Grew w W0) := show Grew w W0 by rw [← hW0]; exact grew_alloc _ _
  have HW0 : Hid (_ = W0) := hW0
  clear hW0
  go_enter Try.func24, Try.ntmps24
  go_wp2
  rw [HW0.out]
  go_loopg [12] n (fun gg s12 wr => ∃ kk : Nat, kk ≤ n ∧ n - kk ≤ gg ∧ s12 = .int .i64 kk ∧ Hid (Grew w wr) ∧ Hid (∀ (j : Nat) (q : Fl), j < kk → fs[j]? = some q → q.bl.contains b = false))
  case atStart => exact ⟨0, Nat.zero_le _, by omega, rfl, HG0.out, fun j q hj => absurd hj (Nat.not_lt_zero _)⟩
  case round =>
    obtain ⟨kk, hkk, hg, rfl, BW, A⟩ := hrel
    by_cases hlt : kk < n
    · have hltz : (kk : Int) < (n : Int) := by omega
      obtain ⟨q, HQ⟩ : ∃ q, Hid (fs[kk]? = some q) := ⟨_, List.getElem?_eq_getElem (by rw [HN.out]; exact hlt)⟩
      obtain ⟨ad, rfl, xa, xc, hra, hl⟩ := HR.out kk q HQ.out
      obtain ⟨d0, d1⟩ := hl wr BW.out
      have hqbig := hra.short
      obtain ⟨a', c', heq, hnum⟩ := hra.nums
      cases heq
      have HRA : Hid (NumRows w xa q.bl) := hnum
      clear hl hra hnum
      obtain ⟨nb, HNB⟩ : ∃ nb, Hid (q.bl.length = nb) := ⟨_, rfl⟩
      rw [HNB.out] at d1 hqbig
      obtain ⟨W2, hW2⟩ : ∃ W2, wr.alloc (.cells #[.int .i64 q.size, .slice xa nb xc] 50) = W2 := ⟨_, rfl⟩
      have G2 : Hid (Grew w W2) := show Grew _ _ by rw [← hW2]; exact BW.out.trans (grew_alloc _ _)
      have HW2 : Hid (_ = W2) := hW2
      clear hW2
      go_wp2
      rw [HW2.out]
      go_loopg [19] nb (fun g2 s19 wr2 => ∃ k2 : Nat, k2 ≤ nb ∧ nb - k2 ≤ g2 ∧ s19 = .int .i64 k2 ∧ Hid (Grew w wr2) ∧ Hid (∀ (j : Nat) z, j < k2 → q.bl[j]? = some z → ¬ z = b))
      case atStart => exact ⟨0, Nat.zero_le _, by omega, rfl, G2.out, fun j z hj => absurd hj (Nat.not_lt_zero _)⟩
      case round =>
        obtain ⟨k2, hk2, hg2, rfl, BW2, A2⟩ := hrel
        clear d0 d1
        by_cases hlt2 : k2 < nb
        · have hltz2 : (k2 : Int) < (nb : Int) := by omega
          obtain ⟨z, HZ⟩ : ∃ z, Hid (q.bl[k2]? = some z) := ⟨_, List.getElem?_eq_getElem (by rw [HNB.out]; exact hlt2)⟩
          obtain ⟨ad2, rfl, hl2⟩ := HRA.out k2 z HZ.out
          have d2 := hl2 _ BW2.out
          clear hl2
          by_cases hz : z = b
          · have hzb : (z == b) = true := by simpa using hz
            have HF : Hid (ANS = true) := show _ = _ by
              rw [← HANS.out]
              unfold usedB
              exact anyAt HQ.out (List.contains_iff_mem.2 (hz ▸ List.mem_of_getElem? HZ.out))
            clear hz
            go_wp2
            go_ret
            exact ⟨by rw [HF.out]; rfl, BW2.out⟩
          · have hzb : (z == b) = false := by simpa using hz
            have HA2 : Hid (∀ (j : Nat) z, j < k2 + 1 → q.bl[j]? = some z → ¬ z = b) := show ∀ (j : Nat) z, _ from fun j z' hj hz' => by
              by_cases e : j = k2
              · subst e
                rw [HZ.out] at hz'
                cases hz'
                exact hz
              · exact A2.out j z' (by omega) hz'
            clear hz
            go_wp2
            go_roundg (nb - (k2 + 1))
            case measure => omega
            case rel => exact ⟨k2 + 1, by omega, by omega, by go_num, BW2.out, HA2.out⟩
        · have hltz2 : ¬ (k2 : Int) < (nb : Int) := by omega
          have : k2 = nb := by omega
          subst this
          have HA : Hid (∀ (j : Nat) (q : Fl), j < kk + 1 → fs[j]? = some q → q.bl.contains b = false) := show ∀ (j : Nat) (q : Fl), _ from fun j q' hj hq' => by
            by_cases e : j = kk
            · subst e
              rw [HQ.out] at hq'
              cases hq'
              cases hb : q.bl.contains b with
              | false => rfl
              | true =>
                obtain ⟨p, hp⟩ := List.getElem?_of_mem (List.contains_iff_mem.1 hb)
                exact absurd rfl (A2.out p b (by rw [← HNB.out]; exact (List.getElem?_eq_some_iff.1 hp).1) hp)
            · exact A.out j q' (by omega) hq'
          go_wp2
          go_roundg (n - (kk + 1))
          case measure => omega
          case rel => exact ⟨kk + 1, by omega, by omega, by go_num, BW2.out, HA.out⟩
    · have hltz : ¬ (kk : Int) < (n : Int) := by omega
      have : kk = n := by omega
      subst this
      have HF : Hid (ANS = false) := show _ = _ by
        rw [← HANS.out]
        unfold usedB
        rw [anyNo (fun j q hj => A.out j q (by rw [← HN.out]; exact (List.getElem?_eq_some_iff.1 hj).1) hj)]
      go_wp2
      go_ret
      exact ⟨by rw [HF.out]; rfl, BW.out⟩

end Go.Proofs.Ytagpmjgmohfmjac
