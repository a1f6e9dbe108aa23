/- Contract of WrongDisk (the document's answer). -/
import Derived.Test.YtbcaagmnmaonbaaPure
namespace Go.Proofs.Ytbcaagmnmaonbaa
open Go.RowKit

set_option maxRecDepth 100000 in
set_option maxHeartbeats 1000000 in
theorem refWrong_any (a : Option Addr) (n c : Nat) (qv : Value) (qs : List (Int × List Int)) (w : World) (hq : PutsAt w qv qs) :
    Calls Try.prog 19 #[.agg #[.slice a n c, qv]] w fun e w' => e = .returned (.int .i64 (wrongL n qs)) ∧ Grew w w' := by
  have HL : Hid (wrongL n qs = if 80 < n then 4 else if 400 < qs.length then 4 else if qs.any (fun q => !inB q.1 n) then 3 else 0) := rfl
  have hbig : qs.length ≤ 9223372036854775807 := by have := hq.2.2; omega
  obtain ⟨a2, c2, rfl, hrow⟩ := hq.rows
  have HRQ : Hid (PutRows w a2 qs) := hrow
  clear hq hrow
  obtain ⟨kq, HN⟩ : ∃ kq, Hid (qs.length = kq) := ⟨_, rfl⟩
  rw [HN.out] at HL hbig ⊢
  by_cases h1 : 80 < n
  · have h1' : (80 : Int) < (n : Int) := by omega
    rw [if_pos h1] at HL
    go_enter Try.func19, Try.ntmps19
    go_wp2
    go_ret
    exact ⟨by rw [HL.out]; rfl, grew_alloc _ _⟩
  · have h1' : ¬ (80 : Int) < (n : Int) := by omega
    rw [if_neg h1] at HL
    by_cases h2 : 400 < kq
    · have h2' : (400 : Int) < (kq : Int) := by omega
      rw [if_pos h2] at HL
      go_enter Try.func19, Try.ntmps19
      go_wp2
      go_ret
      exact ⟨by rw [HL.out]; rfl, grew_alloc _ _⟩
    · have h2' : ¬ (400 : Int) < (kq : Int) := by omega
      rw [if_neg h2] at HL
      obtain ⟨W0, hW0⟩ : ∃ W0, w.alloc (.cells #[.slice a n c, .slice a2 kq c2] 36) = W0 := ⟨_, rfl⟩
      have HG0 : Hid (Grew w W0) := show Grew w W0 by rw [← hW0]; exact grew_alloc _ _
      have X0 : Hid (Box W0 w.heap.size [.slice a n c, .slice a2 kq c2]) := show Box _ _ _ by rw [← hW0]; exact Box.top w [.slice a n c, .slice a2 kq c2] _ rfl
      have HW0 : Hid (_ = W0) := hW0
      clear hW0
      go_enter Try.func19, Try.ntmps19
      go_wp2
      rw [HW0.out]
      go_loopg [4, 18] kq (fun gg _ s18 wr => ∃ kk : Nat, kk ≤ kq ∧ kq - kk ≤ gg ∧ s18 = .int .i64 kk ∧ Hid (Grew W0 wr) ∧ Hid (∀ (j : Nat) q, j < kk → qs[j]? = some q → inB q.1 n = true))
      case atStart => exact ⟨0, Nat.zero_le _, by omega, rfl, Grew.refl _, fun j q hj => absurd hj (Nat.not_lt_zero _)⟩
      case round =>
        obtain ⟨kk, hkk, hg, rfl, BW, A⟩ := hrel
        by_cases hlt : kk < kq
        · have hltz : (kk : Int) < (kq : Int) := by omega
          obtain ⟨q, HQ⟩ : ∃ q, Hid (qs[kk]? = some q) := ⟨_, List.getElem?_eq_getElem (by rw [HN.out]; exact hlt)⟩
          obtain ⟨x, m, b0, b1, b2, b3, b4, b5, b6, b7, rfl, rfl, hl⟩ := HRQ.out kk q HQ.out
          obtain ⟨d0, d1, d2, d3, d4, d5, d6, d7, d8⟩ := hl wr (HG0.out.trans BW.out)
          have X := X0.out.grew BW.out
          have z0 := X.c 0 rfl
          have zl := X.lt
          clear hl X
          by_cases hb : inB m n = true
          · have hb' := hb
            unfold inB at hb'
            simp at hb'
            have hm0 : ¬ m < 0 := by omega
            have hmn : ¬ (n : Int) ≤ m := by omega
            have HB : Hid (inB m n = true) := hb
            clear hb hb'
            go_wp2
            go_roundg (kq - (kk + 1))
            case measure => omega
            case rel =>
              refine ⟨kk + 1, by omega, by omega, by go_num, BW.out.trans (grew_alloc _ _), (show Hid _ from fun j q' hj hq' => ?_)⟩
              by_cases e : j = kk
              · subst e
                rw [HQ.out] at hq'
                cases hq'
                exact HB.out
              · exact A.out j q' (by omega) hq'
          · have hany : (qs.any fun q => !inB q.1 n) = true := List.any_eq_true.2 ⟨_, List.mem_of_getElem? HQ.out, by simpa using hb⟩
            rw [if_pos hany] at HL
            unfold inB at hb
            simp at hb
            clear hany
            by_cases hm0 : m < 0
            · clear hb
              go_wp2
              go_ret
              exact ⟨by rw [HL.out]; rfl, (HG0.out.trans BW.out).trans (grew_alloc _ _)⟩
            · have hmn : (n : Int) ≤ m := hb (by omega)
              clear hb
              go_wp2
              go_ret
              exact ⟨by rw [HL.out]; rfl, (HG0.out.trans BW.out).trans (grew_alloc _ _)⟩
        · have hltz : ¬ (kk : Int) < (kq : Int) := by omega
          have : kk = kq := by omega
          subst this
          have hany : ¬ (qs.any fun q => !inB q.1 n) = true := fun h => by
            obtain ⟨q, hq, hb⟩ := List.any_eq_true.1 h
            obtain ⟨j, hj⟩ := List.getElem?_of_mem hq
            have := A.out j q (by rw [← HN.out]; exact (List.getElem?_eq_some_iff.1 hj).1) hj
            rw [this] at hb
            simp at hb
          rw [if_neg hany] at HL
          clear hany
          go_wp2
          go_ret
          exact ⟨by rw [HL.out]; rfl, HG0.out.trans BW.out⟩

end Go.Proofs.Ytbcaagmnmaonbaa
