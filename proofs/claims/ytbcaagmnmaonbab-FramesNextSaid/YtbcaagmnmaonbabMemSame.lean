/- Contract of SameMemory (the document's answer): two memories that have the same are the same. -/
import Derived.Test.YtbcaagmnmaonbabMemWrong
namespace Go.Proofs.Ytbcaagmnmaonbab
open Go.RowKit

theorem fr_same (q : Fr) (W : World) : (Op.equalIn 10000 47 (.agg #[.int .u8 q.p.b0, .int .u8 q.p.b1, .int .u8 q.p.b2, .int .u8 q.p.b3, .int .u8 q.p.b4, .int .u8 q.p.b5, .int .u8 q.p.b6, .int .u8 q.p.b7, .int .i64 q.r, .bool q.u, .bool q.d, .int .i64 q.f, .int .i64 q.x]) (.agg #[.int .u8 q.p.b0, .int .u8 q.p.b1, .int .u8 q.p.b2, .int .u8 q.p.b3, .int .u8 q.p.b4, .int .u8 q.p.b5, .int .u8 q.p.b6, .int .u8 q.p.b7, .int .i64 q.r, .bool q.u, .bool q.d, .int .i64 q.f, .int .i64 q.x])).run Try.prog W = .ok true W := by
  rw [fr_eq, frEqB_self]

set_option maxRecDepth 100000 in
set_option maxHeartbeats 1000000 in
theorem sameMem_any (m m' : Value) (fs : List Fr) (h : Int) (w : World) (hm : MemAt w m fs h) (hm' : MemAt w m' fs h) :
    Calls Try.prog 13 #[m, m'] w fun e w' => e = .returned (.bool true) ∧ Grew w w' := by
  obtain ⟨b, rfl, hb⟩ := hm
  obtain ⟨b', rfl, hb'⟩ := hm'
  have hbig := hb.short
  obtain ⟨a, c, rfl, hr⟩ := hb.frs
  obtain ⟨a', c', rfl, hr'⟩ := hb'.frs
  have HR : Hid (FrRows w a fs) := hr
  have HR' : Hid (FrRows w a' fs) := hr'
  clear hb hb' hr hr'
  obtain ⟨n, HN⟩ : ∃ n, Hid (fs.length = n) := ⟨_, rfl⟩
  rw [HN.out] at hbig ⊢
  obtain ⟨W0, hW0⟩ : ∃ W0, (w.alloc (.cells #[.slice a n c, .int .i64 h] 39)).alloc (.cells #[.slice a' n c', .int .i64 h] 39) = W0 := ⟨_, rfl⟩
  have HG0 : Hid (Grew w W0) := show Grew w W0 by rw [← hW0]; exact (grew_alloc _ _).trans (grew_alloc _ _)
  have X0 : Hid (Box W0 w.heap.size [.slice a n c, .int .i64 h]) := show Box _ _ _ by rw [← hW0]; exact (Box.top w _ _ rfl).alloc _
  have X1 : Hid (Box W0 (w.heap.size + 1) [.slice a' n c', .int .i64 h]) := show Box _ _ _ by rw [← hW0]; exact Box.top _ _ _ (by simp)
  have HW0 : Hid (_ = W0) := hW0
  clear hW0
  have hnn : ((n : Int) != (n : Int)) = false := by simp
  have hhh : (h != h) = false := by simp
  go_enter Try.func13, Try.ntmps13
  go_wp2
  rw [HW0.out]
  go_loopg [5, 23] n (fun gg _ s23 wr => ∃ kk : Nat, kk ≤ n ∧ n - kk ≤ gg ∧ s23 = .int .i64 kk ∧ Hid (Grew W0 wr))
  case atStart => exact ⟨0, Nat.zero_le _, by omega, rfl, Grew.refl _⟩
  case round =>
    obtain ⟨kk, hkk, hg, rfl, BW⟩ := hrel
    by_cases hlt : kk < n
    · have hltz : (kk : Int) < (n : Int) := by omega
      obtain ⟨q, HQ⟩ : ∃ q, Hid (fs[kk]? = some q) := ⟨_, List.getElem?_eq_getElem (by rw [HN.out]; exact hlt)⟩
      obtain ⟨ad, rfl, hl⟩ := HR.out kk q HQ.out
      obtain ⟨ad', rfl, hl'⟩ := HR'.out kk q HQ.out
      obtain ⟨d0, d1, d2, d3, d4, d5, d6, d7, d8, d9, d10, d11, d12⟩ := hl wr (HG0.out.trans BW.out)
      obtain ⟨f0, f1, f2, f3, f4, f5, f6, f7, f8, f9, f10, f11, f12⟩ := hl' wr (HG0.out.trans BW.out)
      have z0 := (X0.out.grew BW.out).c 0 rfl
      have z1 := (X1.out.grew BW.out).c 0 rfl
      have pe := fr_same q
      clear hl hl'
      go_wp2
      go_quiet (fail)
      go_wp2
      go_roundg (n - (kk + 1))
      case measure => omega
      case rel => exact ⟨kk + 1, by omega, by omega, by go_num, BW.out.trans (show Below _ _ _ from Go.below_drewN (Below.refl _ _) _)⟩
    · have hltz : ¬ (kk : Int) < (n : Int) := by omega
      have : kk = n := by omega
      subst this
      go_wp2
      go_ret
      exact ⟨rfl, HG0.out.trans BW.out⟩

end Go.Proofs.Ytbcaagmnmaonbab
