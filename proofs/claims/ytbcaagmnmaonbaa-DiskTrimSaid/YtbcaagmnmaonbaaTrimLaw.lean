/- The walk of the law DiskTrim. -/
import Derived.Test.YtbcaagmnmaonbaaReads
import Derived.Test.YtbcaagmnmaonbaaTrim
namespace Go.Proofs.Ytbcaagmnmaonbaa
open Go.RowKit

theorem settle_len (keep : Nat → Bool) : ∀ (qs : List (Int × List Int)) (j : Nat) (ps : List (List Int)), (settleL keep qs j ps).length = ps.length
  | [], _, _ => rfl
  | q :: r, j, ps => by
    unfold settleL
    rw [settle_len keep r]
    split <;> simp

/-- A block is old, or one that was written. -/
theorem settle_old (keep : Nat → Bool) (i : Nat) : ∀ (qs : List (Int × List Int)) (j : Nat) (ps : List (List Int)), (settleL keep qs j ps)[i]? = ps[i]? ∨ ∃ q ∈ qs, q.1.toNat = i ∧ (settleL keep qs j ps)[i]? = some q.2
  | [], _, _ => .inl rfl
  | q :: r, j, ps => by
    unfold settleL
    rcases settle_old keep i r (j + 1) (if keep j then ps.set q.1.toNat q.2 else ps) with h | ⟨x, hx, h1, h2⟩
    · by_cases hk : keep j = true
      · rw [if_pos hk] at h ⊢
        by_cases hq : q.1.toNat = i
        · rcases Nat.lt_or_ge i ps.length with hlt | hge
          · right
            refine ⟨q, by simp, hq, ?_⟩
            rw [h, hq]
            simp [hlt]
          · left
            rw [h, List.getElem?_eq_none (by simpa using hge), List.getElem?_eq_none hge]
        · left
          rw [h, List.getElem?_set_ne hq]
      · rw [if_neg hk] at h ⊢
        exact .inl h
    · exact .inr ⟨x, by simp [hx], h1, h2⟩


theorem trim_right {ps : List (List Int)} {qs : List (Int × List Int)} {i : Nat} (h : wrongL ps.length qs = 0) : wrongL (ps.set i zero8).length (qs.filter fun q => !(q.1 == (i : Int))) = 0 := by
  obtain ⟨h1, h2, h3⟩ := wrongL_zero h
  refine wrongL_ok (by simpa using h1) (Nat.le_trans (List.length_filter_le _ _) h2) fun q hq => ?_
  obtain ⟨k, hk, hl⟩ := h3 q ((List.mem_filter.1 hq).1)
  exact ⟨k, hk, by simpa using hl⟩

theorem trim_err_same {ps : List (List Int)} {qs : List (Int × List Int)} {i : Nat} (h : wrongL ps.length qs = 0) (o : Int) : wrongAtL (ps.set i zero8).length (qs.filter fun q => !(q.1 == (i : Int))) o = wrongAtL ps.length qs o := by
  rw [wrongAtL_of h, wrongAtL_of (trim_right h), List.length_set]

theorem find_filter {qs : List (Int × List Int)} {m o : Int} (h : ¬ o = m) : (qs.filter fun q => !(q.1 == m)).find? (fun q => q.1 == o) = qs.find? (fun q => q.1 == o) := by
  induction qs with
  | nil => rfl
  | cons q r ih =>
    by_cases hq : q.1 = o
    · have h1 : (!(q.1 == m)) = true := by simp [hq, h]
      rw [List.filter_cons, if_pos h1]
      simp [hq]
    · have h1 : (q.1 == o) = false := by simpa using hq
      rw [List.find?_cons, h1, List.filter_cons]
      split
      · rw [List.find?_cons, h1]; exact ih
      · exact ih

theorem trim_other {ps : List (List Int)} {qs : List (Int × List Int)} {i : Nat} (h : wrongL ps.length qs = 0) {o : Int} (ho : ¬ o = (i : Int)) : readL (ps.set i zero8) (qs.filter fun q => !(q.1 == (i : Int))) o = readL ps qs o := by
  have he := trim_err_same (i := i) h o
  by_cases hz : wrongAtL ps.length qs o = 0
  · obtain ⟨_, k, rfl, hk⟩ := wrongAtL_zero hz
    rw [readL_of hz, readL_of (he.trans hz), ← List.filter_reverse, find_filter ho]
    simp only [Int.toNat_natCast, List.getD_eq_getElem?_getD]
    rw [List.getElem?_set_ne (by omega)]
  · have hz' : ¬ wrongAtL (ps.set i zero8).length (qs.filter fun q => !(q.1 == (i : Int))) o = 0 := by rw [he]; exact hz
    unfold readL
    rw [if_neg hz, if_neg hz']

theorem trim_gone {ps : List (List Int)} {qs : List (Int × List Int)} (keep : Nat → Bool) {i : Nat} (h : wrongL ps.length qs = 0) (hi : i < ps.length) :
    wrongAtL (settleL keep (qs.filter fun q => !(q.1 == (i : Int))) 0 (ps.set i zero8)).length [] (i : Int) = 0 ∧ readL (settleL keep (qs.filter fun q => !(q.1 == (i : Int))) 0 (ps.set i zero8)) [] (i : Int) = zero8 := by
  have h1 : wrongAtL (settleL keep (qs.filter fun q => !(q.1 == (i : Int))) 0 (ps.set i zero8)).length [] (i : Int) = 0 :=
    wrongAtL_ok (wrongL_ok (by rw [settle_len, List.length_set]; exact (wrongL_zero h).1) (by simp) (by simp)) rfl (by rw [settle_len, List.length_set]; exact hi)
  refine ⟨h1, ?_⟩
  rw [readL_of h1]
  simp only [List.reverse_nil, List.find?_nil, pickQ, Int.toNat_natCast, List.getD_eq_getElem?_getD]
  rcases settle_old keep i (qs.filter fun q => !(q.1 == (i : Int))) 0 (ps.set i zero8) with h2 | ⟨q, hq, h2, _⟩
  · rw [h2]
    simp [hi]
  · exfalso
    obtain ⟨k, hk, _⟩ := (wrongL_zero h).2.2 q ((List.mem_filter.1 hq).1)
    have h3 := (List.mem_filter.1 hq).2
    rw [hk] at h2 h3
    simp only [Int.toNat_natCast] at h2
    subst h2
    simp at h3


set_option maxRecDepth 100000 in
set_option maxHeartbeats 1000000 in
theorem trimLaw_err (d : Value) (ps : List (List Int)) (qs : List (Int × List Int)) (m n o : Int) (w : World) (hd : DiskAt w d ps qs) (hr : ¬ wrongAtL ps.length qs m = 0) :
    Calls Try.prog 8 #[d, .int .i64 m, .int .i64 n, .int .i64 o] w fun e w' => e = .returned (.bool true) ∧ Grew w w' := by
  have HD : Hid (DiskAt w d ps qs) := hd
  obtain ⟨b, q, rfl, hb, hq⟩ := hd
  obtain ⟨ab, cb, rfl, _⟩ := hb.rows
  obtain ⟨aq, cq, rfl, _⟩ := hq.rows
  clear hb hq
  obtain ⟨W0, hW0⟩ : ∃ W0, w.alloc (.cells #[.slice ab ps.length cb, .slice aq qs.length cq] 36) = W0 := ⟨_, rfl⟩
  have HG0 : Hid (Grew w W0) := show Grew w W0 by rw [← hW0]; exact grew_alloc _ _
  have X0 : Hid (Box W0 w.heap.size [.slice ab ps.length cb, .slice aq qs.length cq]) := show Box _ _ _ by rw [← hW0]; exact Box.top w [.slice ab ps.length cb, .slice aq qs.length cq] _ rfl
  have htr : ∀ W, Grew w W → Calls Try.prog 27 #[.agg #[.slice ab ps.length cb, .slice aq qs.length cq], .int .i64 m] W fun e w' => ∃ d', e = .returned (.tuple #[d', .int .i64 (wrongAtL ps.length qs m)]) ∧ NewDisk W.heap.size w' d' [] [] ∧ Grew W w' := fun W hW => trim_err _ ps qs m W (HD.out.grew hW) hr
  obtain ⟨r, HR⟩ : ∃ r, Hid (wrongAtL ps.length qs m = r) := ⟨_, rfl⟩
  rw [HR.out] at hr
  simp only [HR.out] at htr
  have hne : (r != 0) = true := by simpa using hr
  obtain ⟨nb, HNB⟩ : ∃ nb, Hid (ps.length = nb) := ⟨_, rfl⟩
  obtain ⟨nq, HNQ⟩ : ∃ nq, Hid (qs.length = nq) := ⟨_, rfl⟩
  rw [HNB.out, HNQ.out] at hW0 X0 ⊢
  simp only [HNB.out, HNQ.out] at htr
  have HW0 : Hid (_ = W0) := hW0
  clear hW0
  go_enter Try.func8, Try.ntmps8
  go_wp2_with (first
    | (go_at_call 32; rw [HW0.out]; refine (aliveDisk_any W0).mono ?_; rintro e W1 ⟨rfl, g1⟩
       have G1 : Hid (Grew W0 W1) := g1
       have e0 := (X0.out.grew g1).c 0 rfl
       have e1 := (X0.out.grew g1).c 1 rfl)
    | (go_at_call 27; refine (htr W1 (HG0.out.trans G1.out)).mono ?_; rintro e W2 ⟨d2, rfl, nd2, g2⟩
       obtain ⟨yb, db, yq, dq, rfl, nd2⟩ := nd2.open
       have G2 : Hid (Grew W1 W2) := g2))
  go_ret
  exact ⟨rfl, ((HG0.out.trans G1.out).trans G2.out).trans (grew_alloc _ _)⟩

set_option maxRecDepth 100000 in
set_option maxHeartbeats 1000000 in
theorem trimLaw_ok (d : Value) (ps : List (List Int)) (qs : List (Int × List Int)) (i : Nat) (n o : Int) (w : World) (hd : DiskAt w d ps qs) (hr : wrongAtL ps.length qs (i : Int) = 0) :
    Calls Try.prog 8 #[d, .int .i64 (i : Int), .int .i64 n, .int .i64 o] w fun e w' => e = .returned (.bool true) ∧ Grew w w' := by
  have HD : Hid (DiskAt w d ps qs) := hd
  obtain ⟨b, q, rfl, hb, hq⟩ := hd
  obtain ⟨ab, cb, rfl, _⟩ := hb.rows
  obtain ⟨aq, cq, rfl, _⟩ := hq.rows
  clear hb hq
  obtain ⟨hw0, i', hii, hib⟩ := wrongAtL_zero hr
  have hi : i < ps.length := by omega
  obtain ⟨W0, hW0⟩ : ∃ W0, w.alloc (.cells #[.slice ab ps.length cb, .slice aq qs.length cq] 36) = W0 := ⟨_, rfl⟩
  have HG0 : Hid (Grew w W0) := show Grew w W0 by rw [← hW0]; exact grew_alloc _ _
  have X0 : Hid (Box W0 w.heap.size [.slice ab ps.length cb, .slice aq qs.length cq]) := show Box _ _ _ by rw [← hW0]; exact Box.top w [.slice ab ps.length cb, .slice aq qs.length cq] _ rfl
  obtain ⟨ps', hps'⟩ : ∃ ps', ps.set i zero8 = ps' := ⟨_, rfl⟩
  obtain ⟨qs', hqs'⟩ : ∃ qs', (qs.filter fun q => !(q.1 == (i : Int))) = qs' := ⟨_, rfl⟩
  have hright : wrongL ps'.length qs' = 0 := by rw [← hps', ← hqs']; exact trim_right hw0
  have hgone := trim_gone (crashK n) hw0 hi
  have hok8 : Ok8 ps' qs' := by
    rw [← hps', ← hqs']
    exact ⟨mem_set_len HD.out.ok8.1 rfl, fun q hq => HD.out.ok8.2 q ((List.mem_filter.1 hq).1)⟩
  have herr := trim_err_same (i := i) hw0 o
  have hoth := fun ho => trim_other (i := i) hw0 (o := o) ho
  rw [hps', hqs'] at hgone herr
  rw [hps', hqs'] at hoth
  have htr : ∀ W, Grew w W → Calls Try.prog 27 #[.agg #[.slice ab ps.length cb, .slice aq qs.length cq], .int .i64 (i : Int)] W fun e w' => ∃ d', e = .returned (.tuple #[d', .int .i64 0]) ∧ NewDisk W.heap.size w' d' ps' qs' ∧ Grew W w' := fun W hW => by
    have h := trim_ok _ ps qs i W (HD.out.grew hW) hr
    rw [hps', hqs'] at h
    exact h
  obtain ⟨S, hS⟩ : ∃ S, settleL (crashK n) qs' 0 ps' = S := ⟨_, rfl⟩
  rw [hS] at hgone
  have HCR : Hid (∀ W x, DiskAt W x ps' qs' → Calls Try.prog 31 #[x, .int .i64 n] W fun e w' => ∃ d', e = .returned (.tuple #[d', .int .i64 0]) ∧ NewDisk W.heap.size w' d' S [] ∧ Grew W w') := show ∀ W x, _ from fun W x hx => by
    have h := crash_any x ps' qs' n W hx
    rw [show keepD (crashK n) ps' qs' = settleL (crashK n) qs' 0 ps' from if_pos hright, hS, hright] at h
    exact h
  obtain ⟨b0, b1, b2, b3, b4, b5, b6, b7, hbb⟩ := len8 (readL ps qs o) (readL_len HD.out.ok8 o)
  obtain ⟨eo, heo⟩ : ∃ eo, wrongAtL ps.length qs o = eo := ⟨_, rfl⟩
  have heq : (eo == eo) = true := by simp
  have HGO : Hid (wrongAtL S.length [] (i : Int) = 0 ∧ readL S [] (i : Int) = [0, 0, 0, 0, 0, 0, 0, 0]) := hgone
  have HE : Hid (wrongAtL ps'.length qs' o = eo) := herr.trans heo
  obtain ⟨c0, c1, c2, c3, c4, c5, c6, c7, hcc⟩ := len8 (readL ps' qs' o) (readL_len hok8 o)
  have HC : Hid (readL ps' qs' o = [c0, c1, c2, c3, c4, c5, c6, c7]) := hcc
  have HOM : Hid (¬ o = (i : Int) → readL ps' qs' o = [b0, b1, b2, b3, b4, b5, b6, b7]) := show _ → _ from fun ho => (hoth ho).trans hbb
  have rd2 := read_at HD.out o eo b0 b1 b2 b3 b4 b5 b6 b7 heo hbb
  obtain ⟨nb, HNB⟩ : ∃ nb, Hid (ps.length = nb) := ⟨_, rfl⟩
  obtain ⟨nq, HNQ⟩ : ∃ nq, Hid (qs.length = nq) := ⟨_, rfl⟩
  rw [HNB.out, HNQ.out] at hW0 X0 ⊢
  simp only [HNB.out, HNQ.out] at htr rd2
  have HW0 : Hid (_ = W0) := hW0
  clear hW0 heo hbb hS hps' hqs' hright hgone hok8 herr hoth hcc hr hw0 hii hib hi
  obtain ⟨l1, HL1⟩ : ∃ l1, Hid (ps'.length = l1) := ⟨_, rfl⟩
  obtain ⟨l2, HL2⟩ : ∃ l2, Hid (qs'.length = l2) := ⟨_, rfl⟩
  obtain ⟨l3, HL3⟩ : ∃ l3, Hid (S.length = l3) := ⟨_, rfl⟩
  have pe0 := page_same 0 0 0 0 0 0 0 0
  have pe2 := page_same b0 b1 b2 b3 b4 b5 b6 b7
  by_cases hom : o = (i : Int)
  · subst hom
    have hob : ((i : Int) == (i : Int)) = true := by simp
    go_enter Try.func8, Try.ntmps8
    go_wp2_with (first
      | (go_at_call 32; rw [HW0.out]; refine (aliveDisk_any W0).mono ?_; rintro e W1 ⟨rfl, g1⟩
         have G1 : Hid (Grew W0 W1) := g1
         have e0 := (X0.out.grew g1).c 0 rfl
         have e1 := (X0.out.grew g1).c 1 rfl)
      | (go_at_call 27; refine (htr W1 (HG0.out.trans G1.out)).mono ?_; clear htr; rintro e W2 ⟨d2, rfl, nd2, g2⟩
         obtain ⟨yb, db, yq, dq, rfl, nd2⟩ := nd2.open
         rw [HL1.out, HL2.out] at nd2 ⊢
         have N2 : Hid (DiskAt W2 (.agg #[.slice yb l1 db, .slice yq l2 dq]) ps' qs') := nd2.at
         have G2 : Hid (Grew W1 W2) := g2
         clear nd2 e0 e1)
      | (go_at_call 31; refine (HCR.out _ (.agg #[.slice yb l1 db, .slice yq l2 dq]) (N2.out.grew (grew_alloc _ _))).mono ?_; rintro e W3 ⟨d3, rfl, nd3, g3⟩
         obtain ⟨zb, eb, zq, eq, rfl, nd3⟩ := nd3.open
         rw [HL3.out] at nd3 ⊢
         have G3 : Hid (Grew W2 W3) := (grew_alloc W2 _).trans g3
         have B3 : Hid (Box W3 W2.heap.size [.slice yb l1 db, .slice yq l2 dq]) := (Box.top W2 [.slice yb l1 db, .slice yq l2 dq] _ rfl).grew g3
         have rd1 := read_at nd3.at (i : Int) 0 0 0 0 0 0 0 0 0 (by rw [HGO.out.1]) HGO.out.2
         clear nd3)
      | (go_at_call_of 23 zb; refine (rd1 _ (grew_alloc W3 _)).mono ?_; clear rd1; rintro e W4 ⟨rfl, g4⟩
         have G4 : Hid (Grew W3 W4) := (grew_alloc W3 _).trans g4
         have xx := ((X0.out.grew (G1.out.trans G2.out)).grew (G3.out.trans G4.out))
         have x0 := xx.c 0 rfl
         have x1 := xx.c 1 rfl
         have xl := xx.lt
         clear xx)
      | (go_at_call_of 23 ab; refine (rd2 _ (((HG0.out.trans (G1.out.trans G2.out)).trans (G3.out.trans G4.out)).trans (grew_alloc W4 _))).mono ?_; clear rd2; rintro e W5 ⟨rfl, g5⟩
         have G5 : Hid (Grew W4 W5) := (grew_alloc W4 _).trans g5
         have rd3 := read_at N2.out (i : Int) eo c0 c1 c2 c3 c4 c5 c6 c7 (by rw [HE.out]) HC.out
         have A5 : Hid (Box W5 W4.heap.size [.int .u8 0, .int .u8 0, .int .u8 0, .int .u8 0, .int .u8 0, .int .u8 0, .int .u8 0, .int .u8 0]) := (Box.top W4 [.int .u8 0, .int .u8 0, .int .u8 0, .int .u8 0, .int .u8 0, .int .u8 0, .int .u8 0, .int .u8 0] _ rfl).grew g5
         clear x0 x1 xl
         have B5 := B3.out.grew (G4.out.trans G5.out)
         have x0 := B5.c 0 rfl
         have x1 := B5.c 1 rfl
         have xl := B5.lt
         clear B5)
      | (go_at_call_of 23 yb; refine (rd3 _ ((G3.out.trans (G4.out.trans G5.out)).trans (grew_alloc W5 _))).mono ?_; clear rd3; rintro e W6 ⟨rfl, g6⟩
         have G6 : Hid (Grew W5 W6) := (grew_alloc W5 _).trans g6
         clear x0 x1 xl
         have A6 := A5.out.grew G6.out
         have C6 : Box W6 W5.heap.size [.int .u8 b0, .int .u8 b1, .int .u8 b2, .int .u8 b3, .int .u8 b4, .int .u8 b5, .int .u8 b6, .int .u8 b7] := (Box.top W5 [.int .u8 b0, .int .u8 b1, .int .u8 b2, .int .u8 b3, .int .u8 b4, .int .u8 b5, .int .u8 b6, .int .u8 b7] _ rfl).grew g6
         have al := A6.lt
         have cl := C6.lt
         have a0 := A6.c 0 rfl
         have a1 := A6.c 1 rfl
         have a2 := A6.c 2 rfl
         have a3 := A6.c 3 rfl
         have a4 := A6.c 4 rfl
         have a5 := A6.c 5 rfl
         have a6 := A6.c 6 rfl
         have a7 := A6.c 7 rfl
         have s0 := C6.c 0 rfl
         have s1 := C6.c 1 rfl
         have s2 := C6.c 2 rfl
         have s3 := C6.c 3 rfl
         have s4 := C6.c 4 rfl
         have s5 := C6.c 5 rfl
         have s6 := C6.c 6 rfl
         have s7 := C6.c 7 rfl
         clear A6 C6))
    go_ret
    exact ⟨rfl, ((HG0.out.trans ((G1.out.trans G2.out).trans (G3.out.trans (G4.out.trans G5.out)))).trans G6.out).trans (grew_alloc _ _)⟩
  · have hob : (o == (i : Int)) = false := by simpa using hom
    have HC2 : Hid (readL ps' qs' o = [b0, b1, b2, b3, b4, b5, b6, b7]) := HOM.out hom
    go_enter Try.func8, Try.ntmps8
    go_wp2_with (first
      | (go_at_call 32; rw [HW0.out]; refine (aliveDisk_any W0).mono ?_; rintro e W1 ⟨rfl, g1⟩
         have G1 : Hid (Grew W0 W1) := g1
         have e0 := (X0.out.grew g1).c 0 rfl
         have e1 := (X0.out.grew g1).c 1 rfl)
      | (go_at_call 27; refine (htr W1 (HG0.out.trans G1.out)).mono ?_; clear htr; rintro e W2 ⟨d2, rfl, nd2, g2⟩
         obtain ⟨yb, db, yq, dq, rfl, nd2⟩ := nd2.open
         rw [HL1.out, HL2.out] at nd2 ⊢
         have N2 : Hid (DiskAt W2 (.agg #[.slice yb l1 db, .slice yq l2 dq]) ps' qs') := nd2.at
         have G2 : Hid (Grew W1 W2) := g2
         clear nd2 e0 e1)
      | (go_at_call 31; refine (HCR.out _ (.agg #[.slice yb l1 db, .slice yq l2 dq]) (N2.out.grew (grew_alloc _ _))).mono ?_; rintro e W3 ⟨d3, rfl, nd3, g3⟩
         obtain ⟨zb, eb, zq, eq, rfl, nd3⟩ := nd3.open
         rw [HL3.out] at nd3 ⊢
         have G3 : Hid (Grew W2 W3) := (grew_alloc W2 _).trans g3
         have B3 : Hid (Box W3 W2.heap.size [.slice yb l1 db, .slice yq l2 dq]) := (Box.top W2 [.slice yb l1 db, .slice yq l2 dq] _ rfl).grew g3
         have rd1 := read_at nd3.at (i : Int) 0 0 0 0 0 0 0 0 0 (by rw [HGO.out.1]) HGO.out.2
         clear nd3)
      | (go_at_call_of 23 zb; refine (rd1 _ (grew_alloc W3 _)).mono ?_; clear rd1; rintro e W4 ⟨rfl, g4⟩
         have G4 : Hid (Grew W3 W4) := (grew_alloc W3 _).trans g4
         have xx := ((X0.out.grew (G1.out.trans G2.out)).grew (G3.out.trans G4.out))
         have x0 := xx.c 0 rfl
         have x1 := xx.c 1 rfl
         have xl := xx.lt
         clear xx)
      | (go_at_call_of 23 ab; refine (rd2 _ (((HG0.out.trans (G1.out.trans G2.out)).trans (G3.out.trans G4.out)).trans (grew_alloc W4 _))).mono ?_; clear rd2; rintro e W5 ⟨rfl, g5⟩
         have G5 : Hid (Grew W4 W5) := (grew_alloc W4 _).trans g5
         have rd3 := read_at N2.out o eo b0 b1 b2 b3 b4 b5 b6 b7 (by rw [HE.out]) HC2.out
         have A5 : Hid (Box W5 W4.heap.size [.int .u8 0, .int .u8 0, .int .u8 0, .int .u8 0, .int .u8 0, .int .u8 0, .int .u8 0, .int .u8 0]) := (Box.top W4 [.int .u8 0, .int .u8 0, .int .u8 0, .int .u8 0, .int .u8 0, .int .u8 0, .int .u8 0, .int .u8 0] _ rfl).grew g5
         clear x0 x1 xl
         have B5 := B3.out.grew (G4.out.trans G5.out)
         have x0 := B5.c 0 rfl
         have x1 := B5.c 1 rfl
         have xl := B5.lt
         clear B5)
      | (go_at_call_of 23 yb; refine (rd3 _ ((G3.out.trans (G4.out.trans G5.out)).trans (grew_alloc W5 _))).mono ?_; clear rd3; rintro e W6 ⟨rfl, g6⟩
         have G6 : Hid (Grew W5 W6) := (grew_alloc W5 _).trans g6
         clear x0 x1 xl
         have A6 := A5.out.grew G6.out
         have C6 : Box W6 W5.heap.size [.int .u8 b0, .int .u8 b1, .int .u8 b2, .int .u8 b3, .int .u8 b4, .int .u8 b5, .int .u8 b6, .int .u8 b7] := (Box.top W5 [.int .u8 b0, .int .u8 b1, .int .u8 b2, .int .u8 b3, .int .u8 b4, .int .u8 b5, .int .u8 b6, .int .u8 b7] _ rfl).grew g6
         have al := A6.lt
         have cl := C6.lt
         have a0 := A6.c 0 rfl
         have a1 := A6.c 1 rfl
         have a2 := A6.c 2 rfl
         have a3 := A6.c 3 rfl
         have a4 := A6.c 4 rfl
         have a5 := A6.c 5 rfl
         have a6 := A6.c 6 rfl
         have a7 := A6.c 7 rfl
         have s0 := C6.c 0 rfl
         have s1 := C6.c 1 rfl
         have s2 := C6.c 2 rfl
         have s3 := C6.c 3 rfl
         have s4 := C6.c 4 rfl
         have s5 := C6.c 5 rfl
         have s6 := C6.c 6 rfl
         have s7 := C6.c 7 rfl
         clear A6 C6))
    go_ret
    exact ⟨rfl, ((HG0.out.trans ((G1.out.trans G2.out).trans (G3.out.trans (G4.out.trans G5.out)))).trans G6.out).trans (grew_alloc _ _)⟩

theorem trimLaw_walk (d : Value) (ps : List (List Int)) (qs : List (Int × List Int)) (m n o : Int) (w : World) (hd : DiskAt w d ps qs) :
    Calls Try.prog 8 #[d, .int .i64 m, .int .i64 n, .int .i64 o] w fun e w' => e = .returned (.bool true) ∧ Grew w w' := by
  by_cases hr : wrongAtL ps.length qs m = 0
  · obtain ⟨_, i, rfl, _⟩ := wrongAtL_zero hr
    exact trimLaw_ok d ps qs i n o w hd hr
  · exact trimLaw_err d ps qs m n o w hd hr

end Go.Proofs.Ytbcaagmnmaonbaa
