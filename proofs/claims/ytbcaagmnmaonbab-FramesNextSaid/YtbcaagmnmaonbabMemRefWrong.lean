/- Contracts: what is wrong with a memory (package frames, and the document's answer). -/
import Derived.Test.YtbcaagmnmaonbabMemWrong
namespace Go.Proofs.Ytbcaagmnmaonbab
open Go.RowKit

set_option maxRecDepth 100000 in
set_option maxHeartbeats 1000000 in
theorem refWrongMem_any (a : Option Addr) (c : Nat) (fs : List Fr) (h : Int) (w : World) (hv : RowAt w (.slice a fs.length c) fs) :
    Calls Try.prog 12 #[.agg #[.slice a fs.length c, .int .i64 h]] w fun e w' => e = .returned (.int .i64 (memW fs h)) ∧ Grew w w' := by
  have hbig := hv.short
  obtain ⟨a', c', heq, hrow⟩ := hv.frs
  cases heq
  have HR : Hid (FrRows w a fs) := hrow
  clear hrow hv
  have HM : Hid (memW fs h = if 40 < fs.length then 4 else if frsW fs = 0 then (if inB h (max fs.length 1) then 0 else 3) else frsW fs) := rfl
  obtain ⟨n, HN⟩ : ∃ n, Hid (fs.length = n) := ⟨_, rfl⟩
  rw [HN.out] at hbig HM ⊢
  obtain ⟨W0, hW0⟩ : ∃ W0, w.alloc (.cells #[.slice a n c, .int .i64 h] 39) = W0 := ⟨_, rfl⟩
  have HG0 : Hid (Grew w W0) := show Grew w W0 by rw [← hW0]; exact grew_alloc _ _
  have X0 : Hid (Box W0 w.heap.size [.slice a n c, .int .i64 h]) := show Box _ _ _ by rw [← hW0]; exact Box.top w _ _ rfl
  have HW0 : Hid (_ = W0) := hW0
  clear hW0
  by_cases h40 : 40 < n
  · have h40z : (40 : Int) < (n : Int) := by omega
    go_enter Try.func12, Try.ntmps12
    go_wp2
    go_ret
    exact ⟨by rw [HM.out, if_pos h40]; rfl, by rw [HW0.out]; exact HG0.out⟩
  · have h40z : ¬ (40 : Int) < (n : Int) := by omega
    rw [if_neg h40] at HM
    go_enter Try.func12, Try.ntmps12
    go_wp2
    rw [HW0.out]
    go_loopg [4, 5, 13] n (fun gg _ _ s13 wr => ∃ kk : Nat, kk ≤ n ∧ n - kk ≤ gg ∧ s13 = .int .i64 kk ∧ Hid (Grew W0 wr) ∧ Hid (frsW (fs.drop kk) = frsW fs))
    case atStart => exact ⟨0, Nat.zero_le _, by omega, rfl, Grew.refl _, rfl⟩
    case round =>
      obtain ⟨kk, hkk, hg, rfl, BW, A⟩ := hrel
      by_cases hlt : kk < n
      · have hltz : (kk : Int) < (n : Int) := by omega
        obtain ⟨q, HQ⟩ : ∃ q, Hid (fs[kk]? = some q) := ⟨_, List.getElem?_eq_getElem (by rw [HN.out]; exact hlt)⟩
        obtain ⟨ad, rfl, hl⟩ := HR.out kk q HQ.out
        obtain ⟨d0, d1, d2, d3, d4, d5, d6, d7, d8, d9, d10, d11, d12⟩ := hl wr (HG0.out.trans BW.out)
        have hcall : ∀ W, Calls Try.prog 33 #[.agg #[.int .u8 q.p.b0, .int .u8 q.p.b1, .int .u8 q.p.b2, .int .u8 q.p.b3, .int .u8 q.p.b4, .int .u8 q.p.b5, .int .u8 q.p.b6, .int .u8 q.p.b7, .int .i64 q.r, .bool q.u, .bool q.d, .int .i64 q.f, .int .i64 q.x]] W fun e w' => e = .returned (.int .i64 (frW q)) ∧ Grew W w' := fun W => refWrongFrame_any q W
        have HST : Hid (frsW (fs.drop kk) = if frW q = 0 then frsW (fs.drop (kk + 1)) else frW q) := show _ = _ by
          obtain ⟨hlt', rfl⟩ := List.getElem?_eq_some_iff.1 HQ.out
          rw [List.drop_eq_getElem_cons hlt']
          rfl
        clear hl
        generalize frW q = z at hcall HST
        by_cases hz : z = 0
        · have HA : Hid (frsW (fs.drop (kk + 1)) = frsW fs) := show _ = _ by rw [← A.out, HST.out, if_pos hz]
          subst hz
          clear HST
          go_wp2_with (go_at_call 33; refine (hcall _).mono ?_; rintro e w' ⟨rfl, hb'⟩)
          go_roundg (n - (kk + 1))
          case measure => omega
          case rel => exact ⟨kk + 1, by omega, by omega, by go_num, (BW.out.trans (grew_alloc _ _)).trans hb', HA.out⟩
        · have hzb : (z != 0) = true := by simpa using hz
          have HF : Hid (memW fs h = z) := show _ = _ by
            have h1 := A.out
            rw [HST.out, if_neg hz] at h1
            rw [HM.out, ← h1, if_neg hz]
          clear HST A HM
          go_wp2_with (go_at_call 33; refine (hcall _).mono ?_; rintro e w' ⟨rfl, hb'⟩)
          go_ret
          exact ⟨by rw [HF.out]; rfl, ((HG0.out.trans BW.out).trans (grew_alloc _ _)).trans hb'⟩
      · have hltz : ¬ (kk : Int) < (n : Int) := by omega
        have : kk = n := by omega
        subst this
        have e0 := (X0.out.grew BW.out).c 0 rfl
        have e1 := (X0.out.grew BW.out).c 1 rfl
        have hz : frsW fs = 0 := by rw [← A.out, List.drop_of_length_le (by rw [HN.out]; exact Nat.le_refl _)]; rfl
        have HM' : Hid (memW fs h = if inB h (max kk 1) then 0 else 3) := show _ = _ by rw [HM.out, if_pos hz]
        clear HM A hz
        by_cases hh0 : h = 0
        · subst hh0
          rw [show inB 0 (max kk 1) = true from by simp [inB]; omega, if_pos rfl] at HM'
          go_wp2
          go_ret
          exact ⟨by rw [HM'.out]; rfl, HG0.out.trans BW.out⟩
        · have hh0b : (h != 0) = true := by simp [hh0]
          by_cases hneg : h < 0
          · rw [show inB h (max kk 1) = false from by simp [inB]; omega, if_neg (by decide)] at HM'
            go_wp2
            go_ret
            exact ⟨by rw [HM'.out]; rfl, HG0.out.trans BW.out⟩
          · by_cases hge : (kk : Int) ≤ h
            · rw [show inB h (max kk 1) = false from by simp [inB]; omega, if_neg (by decide)] at HM'
              go_wp2
              go_ret
              exact ⟨by rw [HM'.out]; rfl, HG0.out.trans BW.out⟩
            · rw [show inB h (max kk 1) = true from by simp [inB]; omega, if_pos rfl] at HM'
              go_wp2
              go_ret
              exact ⟨by rw [HM'.out]; rfl, HG0.out.trans BW.out⟩

end Go.Proofs.Ytbcaagmnmaonbab
