/- Contract of wrongFile (package store). -/
import Derived.Test.YtagpmjgmohfmjacStGive
import Derived.BigQuiet
import Derived.WalkSmall
import Derived.Deep.Cut
namespace Go.Proofs.Ytagpmjgmohfmjac
open Go.RowKit

theorem blG_snoc (g l : List Int) (b : Int) : blG g (l ++ [b]) = giveG (blG g l) b := by
  unfold blG
  rw [List.foldl_append]
  rfl

theorem take_snoc {l : List Int} {k : Nat} {q : Int} (h : l[k]? = some q) : l.take (k + 1) = l.take k ++ [q] := by
  rw [List.take_add_one, h]
  rfl

theorem drop_cons {α : Type} {l : List α} {k : Nat} {q : α} (h : l[k]? = some q) : l.drop k = q :: l.drop (k + 1) := by
  obtain ⟨hlt, rfl⟩ := List.getElem?_eq_some_iff.1 h
  exact List.drop_eq_getElem_cons hlt

set_option maxRecDepth 100000 in
set_option maxHeartbeats 1000000 in
theorem wrongFile_any (f : Fl) (xa : Option Addr) (xc : Nat) (cnt : Int) (g : List Int) (pc pg : Nat) (w : World) (hc : Box w pc [.int .i64 cnt]) (hg : Box w pg (marks 80 g)) (hne : pc ≠ pg) (hn : cnt ≤ 80) (hr : RowS blE pg (pg + 1) w (.slice xa f.bl.length xc) f.bl) :
    Calls Try.prog 35 #[.agg #[.int .i64 f.size, .slice xa f.bl.length xc], .func (.func 44) #[] #[.pointer (some ⟨pc, 0, none⟩), .pointer (some ⟨pg, 0, none⟩)]] w fun e w' => e = .returned (.int .i64 (flW cnt g f)) ∧ (flW cnt g f = 0 → Box w' pg (marks 80 (blG g f.bl))) ∧ Out pg (pg + 1) w w' := by
  obtain ⟨sz, bl⟩ := f
  have HD : Hid (flW cnt g ⟨sz, bl⟩ = if 0 ≤ sz ∧ sz ≤ 96 then (if (bl.length : Int) = cntP sz then blW cnt g bl else 2) else 3) := rfl
  have HC : Hid (Box w pc [.int .i64 cnt]) := hc
  have HG : Hid (Box w pg (marks 80 g)) := hg
  have HR : Hid (RowS blE pg (pg + 1) w (.slice xa bl.length xc) bl) := hr
  have HNE : Hid (pc ≠ pg) := hne
  have hbig := (hr.now).short
  clear hc hg hr hne
  simp only at hbig
  show Calls _ _ #[.agg #[.int .i64 sz, .slice xa bl.length xc], _] _ _
  generalize flW cnt g ⟨sz, bl⟩ = Z at HD ⊢
  simp only
  by_cases h1 : 0 ≤ sz ∧ sz ≤ 96
  · rw [if_pos h1] at HD
    obtain ⟨h10, h11⟩ := h1
    have hb := fun W => below_yes (m := sz) (n := 97) h10 (by omega) W
    have hcn := fun W => count_any sz W h10 h11
    by_cases h2 : (bl.length : Int) = cntP sz
    · rw [if_pos h2] at HD
      rw [← h2] at hcn
      clear h10 h11 h2
      obtain ⟨n, HN⟩ : ∃ n, Hid (bl.length = n) := ⟨_, rfl⟩
      rw [HN.out] at hbig hcn HR ⊢
      obtain ⟨W0, hW0⟩ : ∃ W0, w.alloc (.cells #[.int .i64 sz, .slice xa n xc] 50) = W0 := ⟨_, rfl⟩
      have HW0 : Hid (_ = W0) := hW0
      have HG0 : Hid (Grew w W0) := show Grew w W0 by rw [← hW0]; exact grew_alloc _ _
      clear hW0
      have eg := enters_of Try.func44 (by kernel_rfl) rfl
      have hnn : ((n : Int) != (n : Int)) = false := by simp
      go_enter Try.func35, Try.ntmps35
      go_wp2_with (go_at_call 33; refine (hb _).mono ?_; rintro e w' ⟨rfl, rfl⟩)
      go_quiet (first | (go_at_call 27; exact Calls.quiet_of_same (hcn _)))
      rw [HW0.out]
      obtain ⟨W1, hW1⟩ : ∃ W1, W0.drewN nq = W1 := ⟨_, rfl⟩
      have X1 : Hid (Box W1 w.heap.size [.int .i64 sz, .slice xa n xc]) := show Box _ _ _ by rw [← hW1, ← HW0.out]; exact (Box.top w _ _ rfl).grew (show Below _ _ _ from Go.below_drewN (Below.refl _ _) _)
      have O1 : Hid (Out pg (pg + 1) w W1) := show Out _ _ _ _ by rw [← hW1]; exact (Out.grew HG0.out).trans (Out.grew (show Below _ _ _ from Go.below_drewN (Below.refl _ _) _))
      have C1 : Hid (Box W1 pc [.int .i64 cnt]) := show Box _ _ _ from HC.out.out O1.out (by have := HNE.out; omega)
      have G1 : Hid (Box W1 pg (marks 80 g)) := show Box _ _ _ by rw [← hW1]; exact (HG.out.grew HG0.out).grew (show Below _ _ _ from Go.below_drewN (Below.refl _ _) _)
      rw [hW1]
      clear hW1 hcn hb HC HG
      have x0 := X1.out.c 0 rfl
      have x1 := X1.out.c 1 rfl
      go_wp2
      go_loopg [6, 7, 22] n (fun gg _ _ s22 wr => ∃ kk : Nat, kk ≤ n ∧ n - kk ≤ gg ∧ s22 = .int .i64 kk ∧ Hid (Out pg (pg + 1) w wr) ∧ Hid (Box wr pg (marks 80 (blG g (bl.take kk)))) ∧ Hid (blW cnt (blG g (bl.take kk)) (bl.drop kk) = blW cnt g bl) ∧ Hid (Box wr pc [.int .i64 cnt]))
      case atStart => exact ⟨0, Nat.zero_le _, by omega, rfl, O1.out, G1.out, rfl, C1.out⟩
      case round =>
        obtain ⟨kk, hkk, hgg, rfl, OW, GW, AW, CW⟩ := hrel
        clear x0 x1 X1 O1 C1 G1
        by_cases hlt : kk < n
        · have hltz : (kk : Int) < (n : Int) := by omega
          obtain ⟨q, HQ⟩ : ∃ q, Hid (bl[kk]? = some q) := ⟨_, List.getElem?_eq_getElem (by rw [HN.out]; exact hlt)⟩
          obtain ⟨a', c', heq, hrow⟩ := (HR.out wr OW.out).nums
          rw [HN.out] at heq
          cases heq
          obtain ⟨ad, rfl, hl⟩ := hrow kk q HQ.out
          have d0 := hl wr (Grew.refl _)
          have hcall := give_any q cnt (blG g (bl.take kk)) pc pg wr CW.out GW.out hn
          have HST : Hid (blW cnt (blG g (bl.take kk)) (bl.drop kk) = if giveE cnt (blG g (bl.take kk)) q = 0 then blW cnt (blG g (bl.take (kk + 1))) (bl.drop (kk + 1)) else giveE cnt (blG g (bl.take kk)) q) := show _ = _ by
            rw [drop_cons HQ.out, take_snoc HQ.out, blG_snoc]
            rfl
          rw [← blG_snoc, ← take_snoc HQ.out] at hcall
          clear hl hrow
          generalize giveE cnt (blG g (bl.take kk)) q = z at hcall HST
          by_cases hz : z = 0
          · have HA : Hid (blW cnt (blG g (bl.take (kk + 1))) (bl.drop (kk + 1)) = blW cnt g bl) := show _ = _ by rw [← AW.out, HST.out, if_pos hz]
            subst hz
            clear HST
            go_wp2_with fail
            refine hcall.mono ?_
            rintro e W2 ⟨rfl, k1, k2, k3⟩
            have G2 : Hid (Box W2 pg (marks 80 (blG g (bl.take (kk + 1))))) := k1 (by first | exact rfl | exact trivial)
            have O2 : Hid (Out pg (pg + 1) w W2) := OW.out.trans (Out.grown k2 (fun g hg => by cases hg; omega))
            have C2 : Hid (Box W2 pc [.int .i64 cnt]) := CW.out.grown k2 HNE.out
            clear k1 k2 k3 hcall
            go_wp2
            go_roundg (n - (kk + 1))
            case measure => omega
            case rel => exact ⟨kk + 1, by omega, by omega, by go_num, O2.out, G2.out, HA.out, C2.out⟩
          · have hzb : (z != 0) = true := by simpa using hz
            have HF : Hid (Z = z) := show _ = _ by
              have h1 := AW.out
              rw [HST.out, if_neg hz] at h1
              rw [HD.out, ← h1]
            clear HST
            go_wp2_with fail
            refine hcall.mono ?_
            rintro e W2 ⟨rfl, k1, k2, k3⟩
            have O2 : Hid (Out pg (pg + 1) w W2) := OW.out.trans (Out.grown k2 (fun g hg => by cases hg; omega))
            clear k1 k2 k3 hcall
            go_wp2
            go_ret
            exact ⟨by rw [HF.out]; rfl, fun h => absurd (HF.out.symm.trans h) hz, O2.out⟩
        · have hltz : ¬ (kk : Int) < (n : Int) := by omega
          have : kk = n := by omega
          subst this
          have HF : Hid (Z = 0) := show _ = _ by
            rw [HD.out, ← AW.out, List.drop_of_length_le (by rw [HN.out]; exact Nat.le_refl _)]
            rfl
          have GE : Hid (Box wr pg (marks 80 (blG g bl))) := show Box _ _ _ by
            have := GW.out
            rw [List.take_of_length_le (by rw [HN.out]; exact Nat.le_refl _)] at this
            exact this
          go_wp2
          go_ret
          exact ⟨by rw [HF.out]; rfl, fun _ => GE.out, OW.out⟩
    · rw [if_neg h2] at HD
      have hnn : ((bl.length : Int) != cntP sz) = true := by simpa using h2
      clear h2 h10 h11
      generalize cntP sz = cp at *
      obtain ⟨n, HN⟩ : ∃ n, Hid (bl.length = n) := ⟨_, rfl⟩
      rw [HN.out] at hbig hnn HR ⊢
      go_enter Try.func35, Try.ntmps35
      go_wp2_with (go_at_call 33; refine (hb _).mono ?_; rintro e w' ⟨rfl, rfl⟩)
      go_quiet (first | (go_at_call 27; exact Calls.quiet_of_same (hcn _)))
      go_wp2
      go_ret
      exact ⟨by rw [HD.out]; rfl, fun h => (by rw [HD.out] at h; cases h), (Out.grew (grew_alloc _ _)).trans (Out.grew (show Below _ _ _ from Go.below_drewN (Below.refl _ _) _))⟩
  · rw [if_neg h1] at HD
    have hb := fun W => below_no (m := sz) (n := 97) (by omega) W
    clear h1
    obtain ⟨n, HN⟩ : ∃ n, Hid (bl.length = n) := ⟨_, rfl⟩
    rw [HN.out] at hbig HR ⊢
    go_enter Try.func35, Try.ntmps35
    go_wp2_with (go_at_call 33; refine (hb _).mono ?_; rintro e w' ⟨rfl, rfl⟩)
    go_ret
    exact ⟨by rw [HD.out]; rfl, fun h => (by rw [HD.out] at h; cases h), Out.grew (grew_alloc _ _)⟩

end Go.Proofs.Ytagpmjgmohfmjac
