/- Contract of SameSlots (the document's answer): slots that have the same are the same. -/
import Derived.Test.YtkkcanihnlpioabSlWrong
namespace Go.Proofs.Ytkkcanihnlpioab
open Go.RowKit

set_option maxRecDepth 100000 in
set_option maxHeartbeats 1000000 in
theorem sameS_any (v v' : Value) (fs : List Int) (w : World) (hb : RowAt slE w v fs) (hb' : RowAt slE w v' fs) :
    Calls Try.prog 31 #[v, v'] w fun e w' => e = .returned (.bool true) ∧ Grew w w' := by
  have hbig := hb.short
  obtain ⟨a, c, rfl, hr⟩ := hb.sls
  obtain ⟨a', c', rfl, hr'⟩ := hb'.sls
  have HR : Hid (SlRows w a fs) := hr
  have HR' : Hid (SlRows w a' fs) := hr'
  clear hb hb' hr hr'
  obtain ⟨n, HN⟩ : ∃ n, Hid (fs.length = n) := ⟨_, rfl⟩
  rw [HN.out] at hbig ⊢
  have hnn : ((n : Int) != (n : Int)) = false := by simp
  go_enter Try.func31, Try.ntmps31
  go_wp2
  go_loopg [5, 13] n (fun gg _ s23 wr => ∃ kk : Nat, kk ≤ n ∧ n - kk ≤ gg ∧ s23 = .int .i64 kk ∧ Hid (Grew w wr))
  case atStart => exact ⟨0, Nat.zero_le _, by omega, rfl, Grew.refl _⟩
  case round =>
    obtain ⟨kk, hkk, hg, rfl, BW⟩ := hrel
    by_cases hlt : kk < n
    · have hltz : (kk : Int) < (n : Int) := by omega
      obtain ⟨q, HQ⟩ : ∃ q, Hid (fs[kk]? = some q) := ⟨_, List.getElem?_eq_getElem (by rw [HN.out]; exact hlt)⟩
      obtain ⟨ad, rfl, hl⟩ := HR.out kk q HQ.out
      obtain ⟨ad', rfl, hl'⟩ := HR'.out kk q HQ.out
      have d0 := hl wr BW.out
      have f0 := hl' wr BW.out
      have hqq : (q != q) = false := by simp
      clear hl hl'
      go_wp2
      go_quiet (fail)
      go_wp2
      go_roundg (n - (kk + 1))
      case measure => omega
      case rel => exact ⟨kk + 1, by omega, by omega, by go_num, BW.out.trans (show Below _ _ _ from Go.below_drewN (Below.refl _ _) _)⟩
    · have hltz : ¬ (kk : Int) < (n : Int) := by omega
      have : kk = n := by omega
      subst this
      go_wp2
      go_ret
      exact ⟨rfl, BW.out⟩

end Go.Proofs.Ytkkcanihnlpioab
