/- Contract of SameDisk (the document's answer): two disks that have the same are the same. -/
import Derived.Test.YtbcaagmnmaonbaaPutEq
import Derived.BigQuiet
import Derived.WalkSmall
namespace Go.Proofs.Ytbcaagmnmaonbaa
open Go.RowKit

set_option maxRecDepth 100000 in
set_option maxHeartbeats 1000000 in
theorem same_any (d d' : Value) (ps : List (List Int)) (qs : List (Int × List Int)) (w : World) (hd : DiskAt w d ps qs) (hd' : DiskAt w d' ps qs) :
    Calls Try.prog 20 #[d, d'] w fun e w' => e = .returned (.bool true) ∧ Grew w w' := by
  obtain ⟨b, q, rfl, hb, hq⟩ := hd
  obtain ⟨b', q', rfl, hb', hq'⟩ := hd'
  have hbig : ps.length ≤ 9223372036854775807 := by have := hb.2.2; omega
  have hbigq : qs.length ≤ 9223372036854775807 := by have := hq.2.2; omega
  obtain ⟨ab, cb, rfl, hrb⟩ := hb.rows
  obtain ⟨aq, cq, rfl, hrq⟩ := hq.rows
  obtain ⟨ab', cb', rfl, hrb'⟩ := hb'.rows
  obtain ⟨aq', cq', rfl, hrq'⟩ := hq'.rows
  have HRB : Hid (PageRows w ab ps) := hrb
  have HRB' : Hid (PageRows w ab' ps) := hrb'
  have HRQ : Hid (PutRows w aq qs) := hrq
  have HRQ' : Hid (PutRows w aq' qs) := hrq'
  clear hb hq hb' hq' hrb hrb' hrq hrq'
  obtain ⟨nb, HNB⟩ : ∃ nb, Hid (ps.length = nb) := ⟨_, rfl⟩
  obtain ⟨kq, HNQ⟩ : ∃ kq, Hid (qs.length = kq) := ⟨_, rfl⟩
  rw [HNB.out] at hbig
  rw [HNQ.out] at hbigq
  rw [HNB.out, HNQ.out]
  obtain ⟨W0, hW0⟩ : ∃ W0, (w.alloc (.cells #[.slice ab nb cb, .slice aq kq cq] 36)).alloc (.cells #[.slice ab' nb cb', .slice aq' kq cq'] 36) = W0 := ⟨_, rfl⟩
  have HG0 : Hid (Grew w W0) := show Grew w W0 by rw [← hW0]; exact (grew_alloc _ _).trans (grew_alloc _ _)
  have X0 : Hid (Box W0 w.heap.size [.slice ab nb cb, .slice aq kq cq]) := show Box _ _ _ by rw [← hW0]; exact (Box.top w [.slice ab nb cb, .slice aq kq cq] _ rfl).alloc _
  have X1 : Hid (Box W0 (w.heap.size + 1) [.slice ab' nb cb', .slice aq' kq cq']) := show Box _ _ _ by rw [← hW0]; exact Box.top _ [.slice ab' nb cb', .slice aq' kq cq'] _ (by simp)
  have HW0 : Hid (_ = W0) := hW0
  clear hW0
  have hnn : ((nb : Int) != (nb : Int)) = false := by simp
  have hqq : ((kq : Int) != (kq : Int)) = false := by simp
  go_enter Try.func20, Try.ntmps20
  go_wp2
  rw [HW0.out]
  go_loopg [5, 26] nb (fun gg _ s26 wr => ∃ kk : Nat, kk ≤ nb ∧ nb - kk ≤ gg ∧ s26 = .int .i64 kk ∧ Hid (Grew W0 wr))
  case atStart => exact ⟨0, Nat.zero_le _, by omega, rfl, Grew.refl _⟩
  case round =>
    obtain ⟨kk, hkk, hg, rfl, BW⟩ := hrel
    by_cases hlt : kk < nb
    · have hltz : (kk : Int) < (nb : Int) := by omega
      obtain ⟨p, HPK⟩ : ∃ p, Hid (ps[kk]? = some p) := ⟨_, List.getElem?_eq_getElem (by rw [HNB.out]; exact hlt)⟩
      obtain ⟨x, b0, b1, b2, b3, b4, b5, b6, b7, rfl, rfl, hl⟩ := HRB.out kk p HPK.out
      obtain ⟨x', c0, c1, c2, c3, c4, c5, c6, c7, rfl, hpp, hl'⟩ := HRB'.out kk _ HPK.out
      simp only [List.cons.injEq, and_true] at hpp
      obtain ⟨rfl, rfl, rfl, rfl, rfl, rfl, rfl, rfl⟩ := hpp
      obtain ⟨d0, d1, d2, d3, d4, d5, d6, d7⟩ := hl wr (HG0.out.trans BW.out)
      obtain ⟨f0, f1, f2, f3, f4, f5, f6, f7⟩ := hl' wr (HG0.out.trans BW.out)
      have z0 := (X0.out.grew BW.out).c 0 rfl
      have z1 := (X1.out.grew BW.out).c 0 rfl
      have pe := page_same b0 b1 b2 b3 b4 b5 b6 b7
      clear hl hl'
      go_wp2
      go_quiet (fail)
      go_wp2
      go_roundg (nb - (kk + 1))
      case measure => omega
      case rel => exact ⟨kk + 1, by omega, by omega, by go_num, BW.out.trans (show Below _ _ _ from Go.below_drewN (Below.refl _ _) _)⟩
    · have hltz : ¬ (kk : Int) < (nb : Int) := by omega
      have : kk = nb := by omega
      subst this
      have z1 := (X0.out.grew BW.out).c 1 rfl
      go_wp2
      clear z1
      go_loopg [6, 44] kq (fun gg _ s44 wr' => ∃ jj : Nat, jj ≤ kq ∧ kq - jj ≤ gg ∧ s44 = .int .i64 jj ∧ Hid (Grew W0 wr'))
      case atStart => exact ⟨0, Nat.zero_le _, by omega, rfl, BW.out⟩
      case round =>
        obtain ⟨jj, hjj, hg, rfl, BW'⟩ := hrel
        by_cases hlt : jj < kq
        · have hltz : (jj : Int) < (kq : Int) := by omega
          obtain ⟨p, HPK⟩ : ∃ p, Hid (qs[jj]? = some p) := ⟨_, List.getElem?_eq_getElem (by rw [HNQ.out]; exact hlt)⟩
          obtain ⟨x, m, b0, b1, b2, b3, b4, b5, b6, b7, rfl, rfl, hl⟩ := HRQ.out jj p HPK.out
          obtain ⟨x', m', c0, c1, c2, c3, c4, c5, c6, c7, rfl, hpp, hl'⟩ := HRQ'.out jj _ HPK.out
          simp only [Prod.mk.injEq, List.cons.injEq, and_true] at hpp
          obtain ⟨rfl, rfl, rfl, rfl, rfl, rfl, rfl, rfl, rfl⟩ := hpp
          obtain ⟨d0, d1, d2, d3, d4, d5, d6, d7, d8⟩ := hl wr (HG0.out.trans BW'.out)
          obtain ⟨f0, f1, f2, f3, f4, f5, f6, f7, f8⟩ := hl' wr (HG0.out.trans BW'.out)
          have z0 := (X0.out.grew BW'.out).c 1 rfl
          have z1 := (X1.out.grew BW'.out).c 1 rfl
          have pe := put_same m b0 b1 b2 b3 b4 b5 b6 b7
          clear hl hl'
          go_wp2
          go_quiet (fail)
          go_wp2
          go_roundg (kq - (jj + 1))
          case measure => omega
          case rel => exact ⟨jj + 1, by omega, by omega, by go_num, BW'.out.trans (show Below _ _ _ from Go.below_drewN (Below.refl _ _) _)⟩
        · have hltz : ¬ (jj : Int) < (kq : Int) := by omega
          have : jj = kq := by omega
          subst this
          go_wp2
          go_ret
          exact ⟨rfl, HG0.out.trans BW'.out⟩

end Go.Proofs.Ytbcaagmnmaonbaa
