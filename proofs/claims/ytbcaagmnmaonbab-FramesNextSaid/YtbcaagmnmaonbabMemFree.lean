/- Contract of Free (package frames). -/
import Derived.Test.YtbcaagmnmaonbabMemWrong
namespace Go.Proofs.Ytbcaagmnmaonbab
open Go.RowKit

/-- How many are free. -/
def freeN (fs : List Fr) : Nat := fs.countP fun a => a.r == 0

theorem freeN_le (fs : List Fr) : freeN fs ≤ fs.length := List.countP_le_length

theorem freeN_step {fs : List Fr} {k : Nat} {q : Fr} (h : fs[k]? = some q) : freeN (fs.take (k + 1)) = freeN (fs.take k) + if q.r = 0 then 1 else 0 := by
  obtain ⟨hlt, rfl⟩ := List.getElem?_eq_some_iff.1 h
  rw [List.take_succ_eq_append_getElem hlt]
  unfold freeN
  rw [List.countP_append, List.countP_cons, List.countP_nil]
  simp

set_option maxRecDepth 100000 in
set_option maxHeartbeats 1000000 in
theorem free_any (a : Option Addr) (c : Nat) (fs : List Fr) (h : Int) (w : World) (hv : RowAt w (.slice a fs.length c) fs) :
    Calls Try.prog 16 #[.agg #[.slice a fs.length c, .int .i64 h]] w fun e w' => e = .returned (.int .i64 (freeN fs)) ∧ Grew w w' := by
  have hbig := hv.short
  obtain ⟨a', c', heq, hrow⟩ := hv.frs
  cases heq
  have HR : Hid (FrRows w a fs) := hrow
  clear hrow hv
  obtain ⟨n, HN⟩ : ∃ n, Hid (fs.length = n) := ⟨_, rfl⟩
  rw [HN.out] at hbig ⊢
  obtain ⟨W0, hW0⟩ : ∃ W0, w.alloc (.cells #[.slice a n c, .int .i64 h] 39) = W0 := ⟨_, rfl⟩
  have HG0 : Hid (Grew w W0) := show Grew w W0 by rw [← hW0]; exact grew_alloc _ _
  have HW0 : Hid (_ = W0) := hW0
  clear hW0
  go_enter Try.func16, Try.ntmps16
  go_wp2
  rw [HW0.out]
  go_loopg [3, 5, 9] n (fun gg s3 _ s9 wr => ∃ (kk m : Nat), kk ≤ n ∧ n - kk ≤ gg ∧ m ≤ kk ∧ s9 = .int .i64 kk ∧ s3 = .int .i64 m ∧ Hid (Grew W0 wr) ∧ Hid (freeN (fs.take kk) = m))
  case atStart => exact ⟨0, 0, Nat.zero_le _, by omega, Nat.le_refl _, rfl, rfl, Grew.refl _, rfl⟩
  case round =>
    obtain ⟨kk, m, hkk, hg, hm, rfl, rfl, BW, A⟩ := hrel
    by_cases hlt : kk < n
    · have hltz : (kk : Int) < (n : Int) := by omega
      obtain ⟨q, HQ⟩ : ∃ q, Hid (fs[kk]? = some q) := ⟨_, List.getElem?_eq_getElem (by rw [HN.out]; exact hlt)⟩
      obtain ⟨ad, rfl, hl⟩ := HR.out kk q HQ.out
      obtain ⟨d0, d1, d2, d3, d4, d5, d6, d7, d8, d9, d10, d11, d12⟩ := hl wr (HG0.out.trans BW.out)
      have HST : Hid (freeN (fs.take (kk + 1)) = freeN (fs.take kk) + if q.r = 0 then 1 else 0) := freeN_step HQ.out
      clear hl
      by_cases hz : q.r = 0
      · have HA : Hid (freeN (fs.take (kk + 1)) = m + 1) := show _ = _ by rw [HST.out, A.out, if_pos hz]
        have hzb : (q.r == 0) = true := by simp [hz]
        have HZ : Hid (q.r = 0) := hz
        clear HST hz
        go_wp2
        go_roundg (n - (kk + 1))
        case measure => omega
        case rel => exact ⟨kk + 1, m + 1, by omega, by omega, by omega, by go_num, by go_num, BW.out.trans (grew_alloc _ _), HA.out⟩
      · have HA : Hid (freeN (fs.take (kk + 1)) = m) := show _ = _ by rw [HST.out, A.out, if_neg hz]; rfl
        have hzb : (q.r == 0) = false := by simp [hz]
        clear HST
        go_wp2
        go_roundg (n - (kk + 1))
        case measure => omega
        case rel => exact ⟨kk + 1, m, by omega, by omega, by omega, by go_num, rfl, BW.out.trans (grew_alloc _ _), HA.out⟩
    · have hltz : ¬ (kk : Int) < (n : Int) := by omega
      have : kk = n := by omega
      subst this
      have HA : Hid (freeN fs = m) := show _ = _ by rw [← A.out, List.take_of_length_le (by rw [HN.out]; exact Nat.le_refl _)]
      clear A
      go_wp2
      go_ret
      exact ⟨by rw [HA.out]; rfl, HG0.out.trans BW.out⟩

end Go.Proofs.Ytbcaagmnmaonbab
