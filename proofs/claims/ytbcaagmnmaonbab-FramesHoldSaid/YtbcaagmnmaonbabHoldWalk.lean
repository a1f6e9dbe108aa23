/- The walk of the law FramesHold. -/
import Derived.Test.YtbcaagmnmaonbabHoldLaw
namespace Go.Proofs.Ytbcaagmnmaonbab
open Go.RowKit

set_option maxRecDepth 100000 in
set_option maxHeartbeats 2000000 in
theorem holdLaw_any (a : Option Addr) (c : Nat) (fs : List Fr) (h k nn : Int) (w : World) (hv : RowAt w (.slice a fs.length c) fs) :
    Calls Try.prog 6 #[.agg #[.slice a fs.length c, .int .i64 h], .int .i64 k, .int .i64 nn] w fun e w' => e = .returned (.bool true) ∧ Grew w w' := by
  have HV : Hid (RowAt w (.slice a fs.length c) fs) := hv
  have h1 : ∀ W, Grew w W → Calls Try.prog 19 #[.agg #[.slice a fs.length c, .int .i64 h], .int .i64 k, .int .i64 nn] W fun e w' => ∃ a' c', e = .returned (.tuple #[.agg #[.slice a' (holdF fs h k nn).length c', .int .i64 (holdH fs h k nn)], .int .i64 (holdE fs h k nn)]) ∧ NewRow W.heap.size w' (.slice a' (holdF fs h k nn).length c') (holdF fs h k nn) ∧ Grew W w' := fun W hW => (hold_any a c fs h k nn W (HV.out.grew hW)).mono (by
    rintro e w' ⟨b, rfl, hb, hg⟩
    obtain ⟨a', c', rfl, _⟩ := hb.1.rows
    exact ⟨a', c', rfl, hb, hg⟩)
  clear hv
  obtain ⟨n, HN⟩ : ∃ n, Hid (fs.length = n) := ⟨_, rfl⟩
  obtain ⟨W0, hW0⟩ : ∃ W0, w.alloc (.cells #[.slice a n c, .int .i64 h] 39) = W0 := ⟨_, rfl⟩
  have HG0 : Hid (Grew w W0) := show Grew w W0 by rw [← hW0]; exact grew_alloc _ _
  have X0 : Hid (Box W0 w.heap.size [.slice a n c, .int .i64 h]) := show Box _ _ _ by rw [← hW0]; exact Box.top w _ _ rfl
  have HW0 : Hid (_ = W0) := hW0
  clear hW0
  by_cases he : holdE fs h k nn = 0
  · by_cases hn : 0 ≤ nn
    · obtain ⟨hb, p1, p2, p3, p4, p5⟩ := hold_back he hn
      rw [he] at h1
      generalize holdF fs h k nn = F at *
      generalize holdH fs h k nn = hh at *
      rw [HN.out] at p5
      have h2 : ∀ a' c' W, RowAt W (.slice a' n c') F → Calls Try.prog 19 #[.agg #[.slice a' n c', .int .i64 hh], .int .i64 k, .int .i64 (-nn)] W fun e w' => ∃ a2 c2, e = .returned (.tuple #[.agg #[.slice a2 n c2, .int .i64 h], .int .i64 0]) ∧ NewRow W.heap.size w' (.slice a2 n c2) fs ∧ Grew W w' := fun a' c' W hr => by
        have hc := hold_any a' c' F hh k (-nn) W (by rw [p5]; exact hr)
        rw [p2, p3, p4, p5] at hc
        refine hc.mono ?_
        rintro e w' ⟨b, rfl, hb, hg⟩
        obtain ⟨a2, c2, rfl, _⟩ := hb.1.rows
        rw [HN.out] at hb ⊢
        exact ⟨a2, c2, rfl, hb, hg⟩
      have h3 : ∀ a' c' W, RowAt W (.slice a' n c') F → Calls Try.prog 11 #[.agg #[.slice a' n c', .int .i64 hh]] W fun e w' => e = .returned (.int .i64 0) ∧ Grew W w' := fun a' c' W hr => by
        have hc := wrongMem_any a' c' F hh W (by rw [p5]; exact hr)
        rw [p1, p5] at hc
        exact hc
      rw [p5] at h1
      rw [HN.out] at HV h1 ⊢
      clear p1 p2 p3 p4 p5 he
      have hneg : ¬ nn < 0 := by omega
      go_enter Try.func6, Try.ntmps6
      go_upto_region 1 with fail
      rw [HW0.out]
      go_wp2_with fail
      refine (alive_any _).mono ?_
      rintro e W1 ⟨rfl, g1⟩
      have G1 : Hid (Grew W0 W1) := g1
      clear g1
      have e0 := (X0.out.grew G1.out).c 0 rfl
      have e1 := (X0.out.grew G1.out).c 1 rfl
      go_wp2_with fail
      refine (h1 _ (HG0.out.trans G1.out)).mono ?_
      rintro e W2 ⟨a2, c2, rfl, hb2, g2⟩
      have NB2 : Hid (RowAt W2 (.slice a2 n c2) F) := hb2.1
      have G2 : Hid (Grew W0 W2) := G1.out.trans g2
      clear hb2 g2 e0 e1
      go_wp2_with fail
      refine (h2 _ _ _ (NB2.out.grew (grew_alloc _ _))).mono ?_
      rintro e W3 ⟨a3, c3, rfl, hb3, g3⟩
      have NB3 : Hid (RowAt W3 (.slice a3 n c3) fs) := hb3.1
      have R3 : Hid (RowAt W3 (.slice a2 n c2) F) := (NB2.out.grew (grew_alloc _ _)).grew g3
      have X3 : Hid (Box W3 W2.heap.size [.slice a2 n c2, .int .i64 hh]) := (Box.top W2 _ _ rfl).grew g3
      have G3 : Hid (Grew W0 W3) := (G2.out.trans (grew_alloc _ _)).trans g3
      clear hb3 g3
      have e0 := X3.out.c 0 rfl
      have e1 := X3.out.c 1 rfl
      have el := X3.out.lt
      go_wp2_with fail
      refine (h3 _ _ _ (R3.out.grew (grew_alloc _ _))).mono ?_
      rintro e W4 ⟨rfl, g4⟩
      have GG4 : Hid (Grew W3 W4) := (grew_alloc _ _).trans g4
      have Y4 : Hid (Box W4 W3.heap.size [.slice a3 n c3, .int .i64 h]) := (Box.top W3 _ _ rfl).grew g4
      clear g4 e0 e1 el
      have e0 := (X0.out.grew (G3.out.trans GG4.out)).c 0 rfl
      have e1 := (X0.out.grew (G3.out.trans GG4.out)).c 1 rfl
      have y0 := Y4.out.c 0 rfl
      have y1 := Y4.out.c 1 rfl
      go_wp2_with fail
      refine (sameMem_any (.agg #[.slice a n c, .int .i64 h]) (.agg #[.slice a3 n c3, .int .i64 h]) fs h _ ⟨_, rfl, HV.out.grew (HG0.out.trans (G3.out.trans GG4.out))⟩ ⟨_, rfl, NB3.out.grew GG4.out⟩).mono ?_
      rintro e W5 ⟨rfl, g5⟩
      have G5 : Hid (Grew w W5) := (HG0.out.trans (G3.out.trans GG4.out)).trans g5
      clear g5 e0 e1 y0 y1
      go_wp2
      go_ret
      exact ⟨rfl, G5.out⟩
    · generalize holdF fs h k nn = F at *
      generalize holdH fs h k nn = hh at *
      obtain ⟨l, HL⟩ : ∃ l, Hid (F.length = l) := ⟨_, rfl⟩
      rw [he, HL.out] at h1
      rw [HN.out] at HV h1 ⊢
      clear he
      have hneg : nn < 0 := by omega
      go_enter Try.func6, Try.ntmps6
      go_upto_region 1 with fail
      rw [HW0.out]
      go_wp2_with fail
      refine (alive_any _).mono ?_
      rintro e W1 ⟨rfl, g1⟩
      have G1 : Hid (Grew W0 W1) := g1
      clear g1
      have e0 := (X0.out.grew G1.out).c 0 rfl
      have e1 := (X0.out.grew G1.out).c 1 rfl
      go_wp2_with fail
      refine (h1 _ (HG0.out.trans G1.out)).mono ?_
      rintro e W2 ⟨a2, c2, rfl, hb2, g2⟩
      have G2 : Hid (Grew w W2) := (HG0.out.trans G1.out).trans g2
      clear hb2 g2 e0 e1
      go_wp2
      go_ret
      exact ⟨rfl, G2.out.trans (grew_alloc _ _)⟩
  · generalize holdF fs h k nn = F at *
    generalize holdH fs h k nn = hh at *
    generalize holdE fs h k nn = z at *
    obtain ⟨l, HL⟩ : ∃ l, Hid (F.length = l) := ⟨_, rfl⟩
    rw [HL.out] at h1
    rw [HN.out] at HV h1 ⊢
    have hzb : (z != 0) = true := by simpa using he
    clear he
    go_enter Try.func6, Try.ntmps6
    go_upto_region 1 with fail
    rw [HW0.out]
    go_wp2_with fail
    refine (alive_any _).mono ?_
    rintro e W1 ⟨rfl, g1⟩
    have G1 : Hid (Grew W0 W1) := g1
    clear g1
    have e0 := (X0.out.grew G1.out).c 0 rfl
    have e1 := (X0.out.grew G1.out).c 1 rfl
    go_wp2_with fail
    refine (h1 _ (HG0.out.trans G1.out)).mono ?_
    rintro e W2 ⟨a2, c2, rfl, hb2, g2⟩
    have G2 : Hid (Grew w W2) := (HG0.out.trans G1.out).trans g2
    clear hb2 g2 e0 e1
    go_wp2
    go_ret
    exact ⟨rfl, G2.out.trans (grew_alloc _ _)⟩

end Go.Proofs.Ytbcaagmnmaonbab
