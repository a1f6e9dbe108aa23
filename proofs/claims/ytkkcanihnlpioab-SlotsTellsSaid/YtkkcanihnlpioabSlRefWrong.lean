/- Contract: what is wrong with slots (the document's answer). -/
import Derived.Test.YtkkcanihnlpioabSlWrong
namespace Go.Proofs.Ytkkcanihnlpioab
open Go.RowKit

set_option maxRecDepth 100000 in
set_option maxHeartbeats 1000000 in
theorem refWrongS_any (a : Option Addr) (c : Nat) (s : List Int) (w : World) (hv : RowAt slE w (.slice a s.length c) s) :
    Calls Try.prog 27 #[.slice a s.length c] w fun e w' => e = .returned (.int .i64 (slW s)) ∧ Grew w w' := by
  have HM : Hid (slW s = if 60 < s.length then 4 else if s.any badS then 3 else 0) := rfl
  have hbig := hv.short
  obtain ⟨a', c', heq, hrow⟩ := hv.sls
  cases heq
  have HR : Hid (SlRows w a s) := hrow
  clear hrow hv
  obtain ⟨n, HN⟩ : ∃ n, Hid (s.length = n) := ⟨_, rfl⟩
  rw [HN.out] at HM hbig ⊢
  by_cases h60 : 60 < n
  · have h60z : (60 : Int) < (n : Int) := by omega
    have HF : Hid (slW s = 4) := show _ = _ by rw [HM.out, if_pos h60]
    clear HM
    go_enter Try.func27, Try.ntmps27
    go_wp2
    go_ret
    exact ⟨by rw [HF.out]; rfl, Grew.refl _⟩
  · have h60z : ¬ (60 : Int) < (n : Int) := by omega
    rw [if_neg h60] at HM
    go_enter Try.func27, Try.ntmps27
    go_wp2
    go_loopg [4, 10] n (fun gg _ s8 wr => ∃ kk : Nat, kk ≤ n ∧ n - kk ≤ gg ∧ s8 = .int .i64 kk ∧ Hid (Grew w wr) ∧ Hid (∀ j q, j < kk → s[j]? = some q → badS q = false))
    case atStart => exact ⟨0, Nat.zero_le _, by omega, rfl, Grew.refl w, fun j q hj => absurd hj (Nat.not_lt_zero _)⟩
    case round =>
      obtain ⟨kk, hkk, hg, rfl, BW, A⟩ := hrel
      by_cases hlt : kk < n
      · have hltz : (kk : Int) < (n : Int) := by omega
        obtain ⟨q, HQ⟩ : ∃ q, Hid (s[kk]? = some q) := ⟨_, List.getElem?_eq_getElem (by rw [HN.out]; exact hlt)⟩
        obtain ⟨ad, rfl, hl⟩ := HR.out kk q HQ.out
        have d0 := hl wr BW.out
        clear hl
        by_cases hq : badS q = true
        · have HF : Hid (slW s = 3) := show _ = _ by rw [HM.out, any_at HQ.out hq]; rfl
          clear HM A
          by_cases h0 : q < 0
          · clear hq
            go_wp2
            go_ret
            exact ⟨by rw [HF.out]; rfl, BW.out⟩
          · have h1 : 1000 < q := by simp [badS] at hq; omega
            clear hq
            go_wp2
            go_ret
            exact ⟨by rw [HF.out]; rfl, BW.out⟩
        · have hq' : badS q = false := by simpa using hq
          have HA : Hid (∀ (j : Nat) q, j < kk + 1 → s[j]? = some q → badS q = false) := show ∀ (j : Nat) q, _ from fun j q' hj hq'' => by
            by_cases e : j = kk
            · subst e
              rw [HQ.out] at hq''
              cases hq''
              exact hq'
            · exact A.out j q' (by omega) hq''
          have h0 : ¬ q < 0 := by intro h; exact hq (by simp [badS, h])
          have h1 : ¬ 1000 < q := by intro h; exact hq (by simp [badS, h])
          clear hq hq'
          go_wp2
          go_roundg (n - (kk + 1))
          case measure => omega
          case rel => exact ⟨kk + 1, by omega, by omega, by go_num, BW.out, HA.out⟩
      · have hltz : ¬ (kk : Int) < (n : Int) := by omega
        have : kk = n := by omega
        subst this
        have HF : Hid (slW s = 0) := show _ = _ by
          rw [HM.out, any_no (fun j q hj => A.out j q (by rw [← HN.out]; exact (List.getElem?_eq_some_iff.1 hj).1) hj)]
          rfl
        clear HM A
        go_wp2
        go_ret
        exact ⟨by rw [HF.out]; rfl, BW.out⟩

end Go.Proofs.Ytkkcanihnlpioab
