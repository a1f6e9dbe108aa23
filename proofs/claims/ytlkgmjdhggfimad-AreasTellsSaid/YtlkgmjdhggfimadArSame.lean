/- Contract of SameAreas (the document's answer): areas that are the same are the same. -/
import Derived.Test.YtlkgmjdhggfimadArEq
import Derived.Test.YtlkgmjdhggfimadSmall
namespace Go.Proofs.Ytlkgmjdhggfimad
open Go.RowKit

set_option maxRecDepth 100000 in
set_option maxHeartbeats 1000000 in
theorem sameAr_any (v u : Value) (l : List Ar) (w : World) (hv : RowAt arE w v l) (hu : RowAt arE w u l) :
    Calls Try.prog 16 #[v, u] w fun e w' => e = .returned (.bool true) ∧ Grew w w' := by
  have hbig := hv.short
  obtain ⟨a, c, rfl, hrow⟩ := hv.ars
  obtain ⟨a', c', rfl, hrow'⟩ := hu.ars
  have HR : Hid (ArRows w a l) := hrow
  have HR' : Hid (ArRows w a' l) := hrow'
  clear hrow hrow' hv hu
  obtain ⟨n, HN⟩ : ∃ n, Hid (l.length = n) := ⟨_, rfl⟩
  rw [HN.out] at hbig ⊢
  have hnn : ((n : Int) != (n : Int)) = false := by simp
  go_enter Try.func16, Try.ntmps16
  go_wp2
  go_loopg [13] n (fun gg s13 wr => ∃ kk : Nat, kk ≤ n ∧ n - kk ≤ gg ∧ s13 = .int .i64 kk ∧ Hid (Grew w wr))
  case atStart => exact ⟨0, Nat.zero_le _, by omega, rfl, Grew.refl _⟩
  case round =>
    obtain ⟨kk, hkk, hg, rfl, BW⟩ := hrel
    by_cases hlt : kk < n
    · have hltz : (kk : Int) < (n : Int) := by omega
      obtain ⟨z, HZ⟩ : ∃ z, Hid (l[kk]? = some z) := ⟨_, List.getElem?_eq_getElem (by rw [HN.out]; exact hlt)⟩
      obtain ⟨ad, rfl, hl⟩ := HR.out kk z HZ.out
      obtain ⟨ad', rfl, hl'⟩ := HR'.out kk z HZ.out
      obtain ⟨d0, d1, d2, d3, d4, d5, d6⟩ := hl wr BW.out
      obtain ⟨e0, e1, e2, e3, e4, e5, e6⟩ := hl' wr BW.out
      have hee := fun W => ar_eq z.fr z.fr z.to z.to z.rd z.rd z.wr z.wr z.sh z.sh z.file z.file z.base z.base W
      rw [arEqB_self] at hee
      clear hl hl'
      go_wp2
      go_quiet (fail)
      go_wp2
      go_roundg (n - (kk + 1))
      case measure => omega
      case rel => exact ⟨kk + 1, by omega, by omega, by go_num, BW.out.trans (show Below _ _ _ from Go.below_drewN (Below.refl _ _) _)⟩
    · have hltz : ¬ (kk : Int) < (n : Int) := by omega
      have : kk = n := by omega
      subst this
      go_wp2
      go_ret
      exact ⟨rfl, BW.out⟩

end Go.Proofs.Ytlkgmjdhggfimad
