/- The walk of the law DiskFlush. -/
import Derived.Test.YtbcaagmnmaonbaaSame
import Derived.Test.YtbcaagmnmaonbaaFlush
namespace Go.Proofs.Ytbcaagmnmaonbaa
open Go.RowKit

theorem settle_len (keep : Nat → Bool) : ∀ (qs : List (Int × List Int)) (j : Nat) (ps : List (List Int)), (settleL keep qs j ps).length = ps.length
  | [], _, _ => rfl
  | q :: r, j, ps => by
    unfold settleL
    rw [settle_len keep r]
    split <;> simp

/-- Flushed, a block is what was read of it. -/
theorem flush_get (i : Nat) : ∀ (qs : List (Int × List Int)) (j : Nat) (ps : List (List Int)), i < ps.length → (∀ q ∈ qs, ∃ k : Nat, q.1 = (k : Int) ∧ k < ps.length) →
    (settleL (fun _ => true) qs j ps).getD i zero8 = pickQ (qs.reverse.find? (fun q => q.1 == (i : Int))) (ps.getD i zero8)
  | [], _, _, _, _ => rfl
  | q :: r, j, ps, hi, hin => by
    obtain ⟨k, hk, hlt⟩ := hin q (by simp)
    unfold settleL
    simp only [if_true]
    rw [flush_get i r (j + 1) _ (by simpa using hi) (fun x hx => by
      obtain ⟨k', h1, h2⟩ := hin x (by simp [hx])
      exact ⟨k', h1, by simpa using h2⟩)]
    rw [List.reverse_cons, List.find?_append]
    cases hf : r.reverse.find? (fun q => q.1 == (i : Int)) with
    | some x => rfl
    | none =>
      simp only [Option.none_or, List.find?_cons, List.find?_nil, pickQ]
      by_cases hki : k = i
      · subst hki
        simp [hk, List.getD_eq_getElem?_getD, hlt]
      · have hne : (q.1 == (i : Int)) = false := by rw [hk]; simp; omega
        rw [hne]
        simp only [hk, Int.toNat_natCast, List.getD_eq_getElem?_getD]
        rw [List.getElem?_set_ne hki]

theorem flush_right {ps : List (List Int)} {qs : List (Int × List Int)} (h : wrongL ps.length qs = 0) : wrongL (settleL (fun _ => true) qs 0 ps).length [] = 0 :=
  wrongL_ok (by rw [settle_len]; exact (wrongL_zero h).1) (by simp) (by simp)

theorem flush_err {ps : List (List Int)} {qs : List (Int × List Int)} (h : wrongL ps.length qs = 0) (m : Int) : wrongAtL (settleL (fun _ => true) qs 0 ps).length [] m = wrongAtL ps.length qs m := by
  rw [wrongAtL_of h, wrongAtL_of (flush_right h), settle_len]

theorem flush_read {ps : List (List Int)} {qs : List (Int × List Int)} (h : wrongL ps.length qs = 0) (m : Int) : readL (settleL (fun _ => true) qs 0 ps) [] m = readL ps qs m := by
  have he := flush_err h m
  by_cases hz : wrongAtL ps.length qs m = 0
  · obtain ⟨_, i, rfl, hi⟩ := wrongAtL_zero hz
    rw [readL_of hz, readL_of (he.trans hz)]
    simp only [List.reverse_nil, List.find?_nil, pickQ, Int.toNat_natCast]
    exact flush_get i qs 0 ps hi (wrongL_zero h).2.2
  · have hz' : ¬ wrongAtL (settleL (fun _ => true) qs 0 ps).length [] m = 0 := by rw [he]; exact hz
    unfold readL
    rw [if_neg hz, if_neg hz']

set_option maxRecDepth 100000 in
set_option maxHeartbeats 1000000 in
theorem flushLaw_err (d : Value) (ps : List (List Int)) (qs : List (Int × List Int)) (n m : Int) (w : World) (hd : DiskAt w d ps qs) (hr : ¬ wrongL ps.length qs = 0) :
    Calls Try.prog 7 #[d, .int .i64 n, .int .i64 m] w fun e w' => e = .returned (.bool true) ∧ Grew w w' := by
  have HD : Hid (DiskAt w d ps qs) := hd
  obtain ⟨b, q, rfl, hb, hq⟩ := hd
  obtain ⟨ab, cb, rfl, _⟩ := hb.rows
  obtain ⟨aq, cq, rfl, _⟩ := hq.rows
  clear hb hq
  obtain ⟨W0, hW0⟩ : ∃ W0, w.alloc (.cells #[.slice ab ps.length cb, .slice aq qs.length cq] 36) = W0 := ⟨_, rfl⟩
  have HG0 : Hid (Grew w W0) := show Grew w W0 by rw [← hW0]; exact grew_alloc _ _
  have X0 : Hid (Box W0 w.heap.size [.slice ab ps.length cb, .slice aq qs.length cq]) := show Box _ _ _ by rw [← hW0]; exact Box.top w [.slice ab ps.length cb, .slice aq qs.length cq] _ rfl
  have hfl : ∀ W, Grew w W → Calls Try.prog 29 #[.agg #[.slice ab ps.length cb, .slice aq qs.length cq]] W fun e w' => ∃ d', e = .returned (.tuple #[d', .int .i64 (wrongL ps.length qs)]) ∧ NewDisk W.heap.size w' d' (keepD (fun _ => true) ps qs) [] ∧ Grew W w' := fun W hW => flush_any _ ps qs W (HD.out.grew hW)
  obtain ⟨r, HR⟩ : ∃ r, Hid (wrongL ps.length qs = r) := ⟨_, rfl⟩
  rw [HR.out] at hr
  simp only [HR.out] at hfl
  have hne : (r != 0) = true := by simpa using hr
  obtain ⟨nb, HNB⟩ : ∃ nb, Hid (ps.length = nb) := ⟨_, rfl⟩
  obtain ⟨nq, HNQ⟩ : ∃ nq, Hid (qs.length = nq) := ⟨_, rfl⟩
  rw [HNB.out, HNQ.out] at hW0 X0 ⊢
  simp only [HNB.out, HNQ.out] at hfl
  have HW0 : Hid (_ = W0) := hW0
  clear hW0
  go_enter Try.func7, Try.ntmps7
  go_wp2_with (first
    | (go_at_call 32; rw [HW0.out]; refine (aliveDisk_any W0).mono ?_; rintro e W1 ⟨rfl, g1⟩
       have G1 : Hid (Grew W0 W1) := g1
       have e0 := (X0.out.grew g1).c 0 rfl
       have e1 := (X0.out.grew g1).c 1 rfl)
    | (go_at_call 29; refine (hfl W1 (HG0.out.trans G1.out)).mono ?_; rintro e W2 ⟨d2, rfl, nd2, g2⟩
       obtain ⟨yb, db, yq, dq, rfl, nd2⟩ := nd2.open
       have G2 : Hid (Grew W1 W2) := g2))
  go_ret
  exact ⟨rfl, ((HG0.out.trans G1.out).trans G2.out).trans (grew_alloc _ _)⟩

set_option maxRecDepth 100000 in
set_option maxHeartbeats 1000000 in
theorem flushLaw_ok (d : Value) (ps : List (List Int)) (qs : List (Int × List Int)) (n m : Int) (w : World) (hd : DiskAt w d ps qs) (hr : wrongL ps.length qs = 0) :
    Calls Try.prog 7 #[d, .int .i64 n, .int .i64 m] w fun e w' => e = .returned (.bool true) ∧ Grew w w' := by
  have HD : Hid (DiskAt w d ps qs) := hd
  obtain ⟨b, q, rfl, hb, hq⟩ := hd
  obtain ⟨ab, cb, rfl, _⟩ := hb.rows
  obtain ⟨aq, cq, rfl, _⟩ := hq.rows
  clear hb hq
  obtain ⟨W0, hW0⟩ : ∃ W0, w.alloc (.cells #[.slice ab ps.length cb, .slice aq qs.length cq] 36) = W0 := ⟨_, rfl⟩
  have HG0 : Hid (Grew w W0) := show Grew w W0 by rw [← hW0]; exact grew_alloc _ _
  have X0 : Hid (Box W0 w.heap.size [.slice ab ps.length cb, .slice aq qs.length cq]) := show Box _ _ _ by rw [← hW0]; exact Box.top w [.slice ab ps.length cb, .slice aq qs.length cq] _ rfl
  obtain ⟨S, hS⟩ : ∃ S, settleL (fun _ => true) qs 0 ps = S := ⟨_, rfl⟩
  have hSr : wrongL S.length [] = 0 := by rw [← hS]; exact flush_right hr
  have hfl : ∀ W, Grew w W → Calls Try.prog 29 #[.agg #[.slice ab ps.length cb, .slice aq qs.length cq]] W fun e w' => ∃ d', e = .returned (.tuple #[d', .int .i64 0]) ∧ NewDisk W.heap.size w' d' S [] ∧ Grew W w' := fun W hW => by
    have h := flush_any _ ps qs W (HD.out.grew hW)
    rw [show keepD (fun _ => true) ps qs = settleL (fun _ => true) qs 0 ps from if_pos hr, hS, hr] at h
    exact h
  have hcr : ∀ W x, DiskAt W x S [] → Calls Try.prog 31 #[x, .int .i64 n] W fun e w' => ∃ d', e = .returned (.tuple #[d', .int .i64 0]) ∧ NewDisk W.heap.size w' d' S [] ∧ Grew W w' := fun W x hx => by
    have h := crash_any x S [] n W hx
    rw [show keepD (crashK n) S [] = S from if_pos hSr, hSr] at h
    exact h
  obtain ⟨b0, b1, b2, b3, b4, b5, b6, b7, hbb⟩ := len8 (readL ps qs m) (readL_len HD.out.ok8 m)
  obtain ⟨eo, heo⟩ : ∃ eo, wrongAtL ps.length qs m = eo := ⟨_, rfl⟩
  have heq : (eo == eo) = true := by simp
  have HE : Hid (wrongAtL S.length [] m = eo) := show _ = _ by rw [← hS, flush_err hr]; exact heo
  have HB : Hid (readL S [] m = [b0, b1, b2, b3, b4, b5, b6, b7]) := show _ = _ by rw [← hS, flush_read hr]; exact hbb
  have rd1 := read_at HD.out m eo b0 b1 b2 b3 b4 b5 b6 b7 heo hbb
  obtain ⟨nb, HNB⟩ : ∃ nb, Hid (ps.length = nb) := ⟨_, rfl⟩
  obtain ⟨nq, HNQ⟩ : ∃ nq, Hid (qs.length = nq) := ⟨_, rfl⟩
  rw [HNB.out, HNQ.out] at hW0 X0 ⊢
  simp only [HNB.out, HNQ.out] at hfl rd1
  have HW0 : Hid (_ = W0) := hW0
  have HCR : Hid (∀ W x, DiskAt W x S [] → Calls Try.prog 31 #[x, .int .i64 n] W fun e w' => ∃ d', e = .returned (.tuple #[d', .int .i64 0]) ∧ NewDisk W.heap.size w' d' S [] ∧ Grew W w') := hcr
  clear hW0 heo hbb hS hSr hr hcr
  obtain ⟨ls, HLS⟩ : ∃ ls, Hid (S.length = ls) := ⟨_, rfl⟩
  have pe1 := page_same b0 b1 b2 b3 b4 b5 b6 b7
  go_enter Try.func7, Try.ntmps7
  go_wp2_with (first
    | (go_at_call 32; rw [HW0.out]; refine (aliveDisk_any W0).mono ?_; rintro e W1 ⟨rfl, g1⟩
       have G1 : Hid (Grew W0 W1) := g1
       have e0 := (X0.out.grew g1).c 0 rfl
       have e1 := (X0.out.grew g1).c 1 rfl)
    | (go_at_call 29; refine (hfl W1 (HG0.out.trans G1.out)).mono ?_; clear hfl; rintro e W2 ⟨d2, rfl, nd2, g2⟩
       obtain ⟨yb, db, yq, dq, rfl, nd2⟩ := nd2.open
       rw [HLS.out] at nd2 ⊢
       have N2 : Hid (DiskAt W2 (.agg #[.slice yb ls db, .slice yq 0 dq]) S []) := nd2.at
       have G2 : Hid (Grew W1 W2) := g2
       clear nd2 e0 e1)
    | (go_at_call 31; refine (HCR.out _ (.agg #[.slice yb ls db, .slice yq 0 dq]) (N2.out.grew (grew_alloc _ _))).mono ?_; rintro e W3 ⟨d3, rfl, nd3, g3⟩
       obtain ⟨zb, eb, zq, eq, rfl, nd3⟩ := nd3.open
       rw [HLS.out] at nd3 ⊢
       have N3 : Hid (DiskAt W3 (.agg #[.slice zb ls eb, .slice zq 0 eq]) S []) := nd3.at
       have G3 : Hid (Grew W2 W3) := (grew_alloc W2 _).trans g3
       have B3 : Hid (Box W3 W2.heap.size [.slice yb ls db, .slice yq 0 dq]) := (Box.top W2 [.slice yb ls db, .slice yq 0 dq] _ rfl).grew g3
       have x0 := ((X0.out.grew (G1.out.trans G2.out)).grew G3.out).c 0 rfl
       have x1 := ((X0.out.grew (G1.out.trans G2.out)).grew G3.out).c 1 rfl
       have xl := ((X0.out.grew (G1.out.trans G2.out)).grew G3.out).lt
       clear nd3)
    | (go_at_call_of 23 ab; refine (rd1 _ (((HG0.out.trans (G1.out.trans G2.out)).trans G3.out).trans (grew_alloc W3 _))).mono ?_; clear rd1; rintro e W4 ⟨rfl, g4⟩
       have G4 : Hid (Grew W3 W4) := (grew_alloc W3 _).trans g4
       have rd2 := read_at N3.out m eo b0 b1 b2 b3 b4 b5 b6 b7 (by rw [HE.out]) HB.out
       clear x0 x1 xl
       have B4 : Hid (Box W4 W3.heap.size [.slice zb ls eb, .slice zq 0 eq]) := (Box.top W3 [.slice zb ls eb, .slice zq 0 eq] _ rfl).grew g4
       have x0 := B4.out.c 0 rfl
       have x1 := B4.out.c 1 rfl
       have xl := B4.out.lt)
    | (go_at_call_of 23 zb; refine (rd2 _ (G4.out.trans (grew_alloc W4 _))).mono ?_; clear rd2; rintro e W5 ⟨rfl, g5⟩
       have G5 : Hid (Grew W4 W5) := (grew_alloc W4 _).trans g5
       clear x0 x1 xl
       have A5 : Box W5 W4.heap.size [.int .u8 b0, .int .u8 b1, .int .u8 b2, .int .u8 b3, .int .u8 b4, .int .u8 b5, .int .u8 b6, .int .u8 b7] := (Box.top W4 [.int .u8 b0, .int .u8 b1, .int .u8 b2, .int .u8 b3, .int .u8 b4, .int .u8 b5, .int .u8 b6, .int .u8 b7] _ rfl).grew g5
       have Y5 := B3.out.grew (G4.out.trans G5.out)
       have Z5 := B4.out.grew G5.out
       have al := A5.lt
       have yl := Y5.lt
       have zl := Z5.lt
       have y0 := Y5.c 0 rfl
       have y1 := Y5.c 1 rfl
       have z0 := Z5.c 0 rfl
       have z1 := Z5.c 1 rfl
       have a0 := A5.c 0 rfl
       have a1 := A5.c 1 rfl
       have a2 := A5.c 2 rfl
       have a3 := A5.c 3 rfl
       have a4 := A5.c 4 rfl
       have a5 := A5.c 5 rfl
       have a6 := A5.c 6 rfl
       have a7 := A5.c 7 rfl
       clear A5 Y5 Z5)
    | (go_at_call 20; refine (same_any (.agg #[.slice yb ls db, .slice yq 0 dq]) (.agg #[.slice zb ls eb, .slice zq 0 eq]) S [] _ ((N2.out.grew (G3.out.trans (G4.out.trans G5.out))).grew (grew_alloc W5 _)) ((N3.out.grew (G4.out.trans G5.out)).grew (grew_alloc W5 _))).mono ?_; rintro e W6 ⟨rfl, g6⟩
       have G6 : Hid (Grew W5 W6) := (grew_alloc W5 _).trans g6))
  go_ret
  exact ⟨rfl, (HG0.out.trans ((G1.out.trans G2.out).trans (G3.out.trans (G4.out.trans G5.out)))).trans G6.out⟩

theorem flushLaw_walk (d : Value) (ps : List (List Int)) (qs : List (Int × List Int)) (n m : Int) (w : World) (hd : DiskAt w d ps qs) :
    Calls Try.prog 7 #[d, .int .i64 n, .int .i64 m] w fun e w' => e = .returned (.bool true) ∧ Grew w w' := by
  by_cases hr : wrongL ps.length qs = 0
  · exact flushLaw_ok d ps qs n m w hd hr
  · exact flushLaw_err d ps qs n m w hd hr

end Go.Proofs.Ytbcaagmnmaonbaa
