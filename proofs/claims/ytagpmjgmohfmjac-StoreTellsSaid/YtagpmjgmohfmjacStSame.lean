/- Contract of SameStore (the document's answer): stores that have the same are the same. -/
import Derived.Test.YtagpmjgmohfmjacStIndex
namespace Go.Proofs.Ytagpmjgmohfmjac
open Go.RowKit

set_option maxRecDepth 100000 in
set_option maxHeartbeats 1000000 in
theorem sameSt_any (v v' : Value) (fs : List Fl) (cnt : Int) (w : World) (hv : FilesAt w v fs) (hv' : FilesAt w v' fs) :
    Calls Try.prog 16 #[.agg #[v, .int .i64 cnt], .agg #[v', .int .i64 cnt]] w fun e w' => e = .returned (.bool true) ∧ Grew w w' := by
  obtain ⟨a, c, rfl, hbig, hrow⟩ := hv.rows
  obtain ⟨a', c', rfl, _, hrow'⟩ := hv'.rows
  have HR : Hid (FlRows w a fs) := hrow
  have HR' : Hid (FlRows w a' fs) := hrow'
  clear hrow hv hrow' hv'
  obtain ⟨n, HN⟩ : ∃ n, Hid (fs.length = n) := ⟨_, rfl⟩
  rw [HN.out] at hbig ⊢
  have hcc : (cnt != cnt) = false := by simp
  have hnn : ((n : Int) != (n : Int)) = false := by simp
  obtain ⟨W0, hW0⟩ : ∃ W0, (w.alloc (.cells #[.slice a n c, .int .i64 cnt] 36)).alloc (.cells #[.slice a' n c', .int .i64 cnt] 36) = W0 := ⟨_, rfl⟩
  have HG0 : Hid (Grew w W0) := show Grew w W0 by rw [← hW0]; exact (grew_alloc _ _).trans (grew_alloc _ _)
  have X0 : Hid (Box W0 w.heap.size [.slice a n c, .int .i64 cnt]) := show Box _ _ _ by rw [← hW0]; exact (Box.top w _ _ rfl).alloc _
  have Y0 : Hid (Box W0 (w.heap.size + 1) [.slice a' n c', .int .i64 cnt]) := show Box _ _ _ by rw [← hW0]; exact Box.top _ _ _ (by simp)
  have HW0 : Hid (_ = W0) := hW0
  clear hW0
  go_enter Try.func16, Try.ntmps16
  go_wp2
  rw [HW0.out]
  go_loopg [26] n (fun gg s26 wr => ∃ kk : Nat, kk ≤ n ∧ n - kk ≤ gg ∧ s26 = .int .i64 kk ∧ Hid (Grew W0 wr))
  case atStart => exact ⟨0, Nat.zero_le _, by omega, rfl, Grew.refl _⟩
  case round =>
    obtain ⟨kk, hkk, hg, rfl, BW⟩ := hrel
    by_cases hlt : kk < n
    · have hltz : (kk : Int) < (n : Int) := by omega
      obtain ⟨q, HQ⟩ : ∃ q, Hid (fs[kk]? = some q) := ⟨_, List.getElem?_eq_getElem (by rw [HN.out]; exact hlt)⟩
      obtain ⟨ad, rfl, xa, xc, hra, hl⟩ := HR.out kk q HQ.out
      obtain ⟨ad', rfl, xa', xc', hra', hl'⟩ := HR'.out kk q HQ.out
      obtain ⟨d0, d1⟩ := hl wr (HG0.out.trans BW.out)
      obtain ⟨e0, e1⟩ := hl' wr (HG0.out.trans BW.out)
      have hqbig := hra.short
      obtain ⟨_, _, heq, hnum⟩ := hra.nums
      cases heq
      obtain ⟨_, _, heq, hnum'⟩ := hra'.nums
      cases heq
      have HRA : Hid (NumRows w xa q.bl) := hnum
      have HRA' : Hid (NumRows w xa' q.bl) := hnum'
      clear hl hra hnum hl' hra' hnum'
      obtain ⟨nb, HNB⟩ : ∃ nb, Hid (q.bl.length = nb) := ⟨_, rfl⟩
      rw [HNB.out] at d1 e1 hqbig
      have hss : (q.size != q.size) = false := by simp
      have hbb : ((nb : Int) != (nb : Int)) = false := by simp
      have x0 := (X0.out.grew BW.out).c 0 rfl
      have y0 := (Y0.out.grew BW.out).c 0 rfl
      have up : ∀ {p : Addr} {u : Value}, wr.cell? p = some u → ∀ o : Obj, (wr.alloc o).cell? p = some u := fun h o => by
        rw [Below.cell (grew_alloc wr o) (World.block_lt_of_cell? _ _ h)]
        exact h
      have up2 : ∀ {p : Addr} {u : Value}, wr.cell? p = some u → ∀ o o' : Obj, ((wr.alloc o).alloc o').cell? p = some u := fun h o o' => by
        rw [Below.cell (grew_alloc (wr.alloc o) o') (World.block_lt_of_cell? _ _ (up h o))]
        exact up h o
      have x0a := up x0
      have y0a := up y0
      have d0a := up d0
      have d1a := up d1
      have e0a := up e0
      have e1a := up e1
      have x0b := up2 x0
      have y0b := up2 y0
      have d0b := up2 d0
      have d1b := up2 d1
      have e0b := up2 e0
      have e1b := up2 e1
      clear up up2
      go_wp2
      go_region
      all_goals clear x0a y0a d0a d1a e0a e1a x0b y0b d0b d1b e0b e1b x0 y0 d0 d1 e0 e1
      · show Exit.then _ _ _ _ _
        obtain ⟨W2, hW2⟩ : ∃ W2, ((wr.alloc (.cells #[.int .i64 q.size, .slice xa nb xc] 50)).alloc (.cells #[.int .i64 q.size, .slice xa' nb xc'] 50)).drew = W2 := ⟨_, rfl⟩
        have BX : Hid (Box W2 (wr.heap.size) [.int .i64 q.size, .slice xa nb xc]) := show Box _ _ _ by rw [← hW2]; exact ((Box.top wr _ _ rfl).alloc _).grew (show Below _ _ _ from (Below.refl _ _).drew)
        have BY : Hid (Box W2 (wr.heap.size + 1) [.int .i64 q.size, .slice xa' nb xc']) := show Box _ _ _ by rw [← hW2]; exact (Box.top _ _ _ (by simp)).grew (show Below _ _ _ from (Below.refl _ _).drew)
        have G2 : Hid (Grew W0 W2) := show Grew _ _ by rw [← hW2]; exact ((BW.out.trans (grew_alloc _ _)).trans (grew_alloc _ _)).trans (show Below _ _ _ from (Below.refl _ _).drew)
        rw [hW2]
        clear hW2
        have b0 := BX.out.c 0 rfl
        have b1 := BX.out.c 1 rfl
        have c0 := BY.out.c 0 rfl
        have c1 := BY.out.c 1 rfl
        go_wp2
        go_loopg [56] nb (fun g2 s56 wr2 => ∃ k2 : Nat, k2 ≤ nb ∧ nb - k2 ≤ g2 ∧ s56 = .int .i64 k2 ∧ Hid (Grew W2 wr2))
        case atStart => exact ⟨0, Nat.zero_le _, by omega, rfl, Grew.refl _⟩
        case round =>
          obtain ⟨k2, hk2, hg2, rfl, BW2⟩ := hrel
          clear b0 b1 c0 c1
          have b1 := (BX.out.grew BW2.out).c 1 rfl
          have c1 := (BY.out.grew BW2.out).c 1 rfl
          have GW2 : Hid (Grew w _) := (HG0.out.trans G2.out).trans BW2.out
          by_cases hlt2 : k2 < nb
          · have hltz2 : (k2 : Int) < (nb : Int) := by omega
            obtain ⟨z, HZ⟩ : ∃ z, Hid (q.bl[k2]? = some z) := ⟨_, List.getElem?_eq_getElem (by rw [HNB.out]; exact hlt2)⟩
            obtain ⟨ad2, rfl, hl2⟩ := HRA.out k2 z HZ.out
            obtain ⟨ad3, rfl, hl3⟩ := HRA'.out k2 z HZ.out
            have d2 := hl2 _ GW2.out
            have d3 := hl3 _ GW2.out
            have hzz : (z != z) = false := by simp
            clear hl2 hl3
            go_wp2
            go_quiet (fail)
            go_wp2
            go_roundg (nb - (k2 + 1))
            case measure => omega
            case rel => exact ⟨k2 + 1, by omega, by omega, by go_num, BW2.out.trans (show Below _ _ _ from Go.below_drewN (Below.refl _ _) _)⟩
          · have hltz2 : ¬ (k2 : Int) < (nb : Int) := by omega
            have : k2 = nb := by omega
            subst this
            go_wp2
            go_roundg (n - (kk + 1))
            case measure => omega
            case rel => exact ⟨kk + 1, by omega, by omega, by go_num, G2.out.trans BW2.out⟩
      · show Exit.then _ _ _ _ _
        obtain ⟨W2, hW2⟩ : ∃ W2, ((wr.alloc (.cells #[.int .i64 q.size, .slice xa' nb xc'] 50)).alloc (.cells #[.int .i64 q.size, .slice xa nb xc] 50)).drew = W2 := ⟨_, rfl⟩
        have BX : Hid (Box W2 (wr.heap.size + 1) [.int .i64 q.size, .slice xa nb xc]) := show Box _ _ _ by rw [← hW2]; exact (Box.top _ _ _ (by simp)).grew (show Below _ _ _ from (Below.refl _ _).drew)
        have BY : Hid (Box W2 (wr.heap.size) [.int .i64 q.size, .slice xa' nb xc']) := show Box _ _ _ by rw [← hW2]; exact ((Box.top wr _ _ rfl).alloc _).grew (show Below _ _ _ from (Below.refl _ _).drew)
        have G2 : Hid (Grew W0 W2) := show Grew _ _ by rw [← hW2]; exact ((BW.out.trans (grew_alloc _ _)).trans (grew_alloc _ _)).trans (show Below _ _ _ from (Below.refl _ _).drew)
        rw [hW2]
        clear hW2
        have b0 := BX.out.c 0 rfl
        have b1 := BX.out.c 1 rfl
        have c0 := BY.out.c 0 rfl
        have c1 := BY.out.c 1 rfl
        go_wp2
        go_loopg [56] nb (fun g2 s56 wr2 => ∃ k2 : Nat, k2 ≤ nb ∧ nb - k2 ≤ g2 ∧ s56 = .int .i64 k2 ∧ Hid (Grew W2 wr2))
        case atStart => exact ⟨0, Nat.zero_le _, by omega, rfl, Grew.refl _⟩
        case round =>
          obtain ⟨k2, hk2, hg2, rfl, BW2⟩ := hrel
          clear b0 b1 c0 c1
          have b1 := (BX.out.grew BW2.out).c 1 rfl
          have c1 := (BY.out.grew BW2.out).c 1 rfl
          have GW2 : Hid (Grew w _) := (HG0.out.trans G2.out).trans BW2.out
          by_cases hlt2 : k2 < nb
          · have hltz2 : (k2 : Int) < (nb : Int) := by omega
            obtain ⟨z, HZ⟩ : ∃ z, Hid (q.bl[k2]? = some z) := ⟨_, List.getElem?_eq_getElem (by rw [HNB.out]; exact hlt2)⟩
            obtain ⟨ad2, rfl, hl2⟩ := HRA.out k2 z HZ.out
            obtain ⟨ad3, rfl, hl3⟩ := HRA'.out k2 z HZ.out
            have d2 := hl2 _ GW2.out
            have d3 := hl3 _ GW2.out
            have hzz : (z != z) = false := by simp
            clear hl2 hl3
            go_wp2
            go_quiet (fail)
            go_wp2
            go_roundg (nb - (k2 + 1))
            case measure => omega
            case rel => exact ⟨k2 + 1, by omega, by omega, by go_num, BW2.out.trans (show Below _ _ _ from Go.below_drewN (Below.refl _ _) _)⟩
          · have hltz2 : ¬ (k2 : Int) < (nb : Int) := by omega
            have : k2 = nb := by omega
            subst this
            go_wp2
            go_roundg (n - (kk + 1))
            case measure => omega
            case rel => exact ⟨kk + 1, by omega, by omega, by go_num, G2.out.trans BW2.out⟩
    · have hltz : ¬ (kk : Int) < (n : Int) := by omega
      have : kk = n := by omega
      subst this
      have GE : Hid (Grew w wr) := HG0.out.trans BW.out
      go_wp2
      go_ret
      exact ⟨rfl, GE.out⟩

end Go.Proofs.Ytagpmjgmohfmjac
