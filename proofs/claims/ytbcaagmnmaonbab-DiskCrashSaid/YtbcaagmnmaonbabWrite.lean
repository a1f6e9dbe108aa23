/- Contract of Write (package disk). -/
import Derived.Test.YtbcaagmnmaonbabDeleteOne
namespace Go.Proofs.Ytbcaagmnmaonbab
open Go.RowKit

/-- The blocks behind a write: if as many waited as may, the first one is there for good. -/
def writeB (ps : List (List Int)) (qs : List (Int × List Int)) : List (List Int) := if qs.length = 400 then ps.set (qs.headD (0, [])).1.toNat (qs.headD (0, [])).2 else ps
def writeQ (qs : List (Int × List Int)) (m : Int) (p : List Int) : List (Int × List Int) := (if qs.length = 400 then qs.tail else qs) ++ [(m, p)]
def writeDP (ps : List (List Int)) (qs : List (Int × List Int)) (m : Int) : List (List Int) := if wrongAtL ps.length qs m = 0 then writeB ps qs else []
def writeDQ (ps : List (List Int)) (qs : List (Int × List Int)) (m : Int) (p : List Int) : List (Int × List Int) := if wrongAtL ps.length qs m = 0 then writeQ qs m p else []

set_option maxRecDepth 100000 in
set_option maxHeartbeats 1000000 in
theorem write_err (d : Value) (ps : List (List Int)) (qs : List (Int × List Int)) (m : Int) (p : List Int) (hp : p.length = 8) (w : World) (hd : DiskAt w d ps qs) (hr0 : ¬ wrongAtL ps.length qs m = 0) :
    Calls Try.prog 25 #[d, .int .i64 m, .agg (pgc p).toArray] w fun e w' => ∃ d', e = .returned (.tuple #[d', .int .i64 (wrongAtL ps.length qs m)]) ∧ NewDisk w.heap.size w' d' (writeDP ps qs m) (writeDQ ps qs m p) ∧ Grew w w' := by
  obtain ⟨p0, p1, p2, p3, p4, p5, p6, p7, rfl⟩ := len8 p hp
  have HD : Hid (DiskAt w d ps qs) := hd
  obtain ⟨b, q, rfl, hb, hq⟩ := hd
  have HQ : Hid (PutsAt w q qs) := hq
  obtain ⟨ab, cb, rfl, _⟩ := hb.rows
  obtain ⟨aq, cq, rfl, _⟩ := hq.rows
  clear hb hq hp
  show Calls Try.prog 25 #[.agg #[.slice ab ps.length cb, .slice aq qs.length cq], .int .i64 m, .agg #[.int .u8 p0, .int .u8 p1, .int .u8 p2, .int .u8 p3, .int .u8 p4, .int .u8 p5, .int .u8 p6, .int .u8 p7]] w _
  have HP : Hid (writeDP ps qs m = if wrongAtL ps.length qs m = 0 then writeB ps qs else []) := rfl
  have HQ' : Hid (writeDQ ps qs m [p0, p1, p2, p3, p4, p5, p6, p7] = if wrongAtL ps.length qs m = 0 then writeQ qs m [p0, p1, p2, p3, p4, p5, p6, p7] else []) := rfl
  obtain ⟨W0, hW0⟩ : ∃ W0, ((w.alloc (.cells #[.slice ab ps.length cb, .slice aq qs.length cq] 25)).alloc (.cells #[.int .u8 p0, .int .u8 p1, .int .u8 p2, .int .u8 p3, .int .u8 p4, .int .u8 p5, .int .u8 p6, .int .u8 p7] 31)).alloc (.cells #[.slice none 0 0, .slice none 0 0] 25) = W0 := ⟨_, rfl⟩
  have HG0 : Hid (Grew w W0) := show Grew w W0 by rw [← hW0]; exact ((grew_alloc _ _).trans (grew_alloc _ _)).trans (grew_alloc _ _)
  have X0 : Hid (Box W0 w.heap.size [.slice ab ps.length cb, .slice aq qs.length cq]) := show Box _ _ _ by rw [← hW0]; exact ((Box.top w [.slice ab ps.length cb, .slice aq qs.length cq] _ rfl).alloc _).alloc _
  have X1 : Hid (Box W0 (w.heap.size + 1) [.int .u8 p0, .int .u8 p1, .int .u8 p2, .int .u8 p3, .int .u8 p4, .int .u8 p5, .int .u8 p6, .int .u8 p7]) := show Box _ _ _ by rw [← hW0]; exact (Box.top _ [.int .u8 p0, .int .u8 p1, .int .u8 p2, .int .u8 p3, .int .u8 p4, .int .u8 p5, .int .u8 p6, .int .u8 p7] _ (by simp)).alloc _
  have X2 : Hid (Box W0 (w.heap.size + 1 + 1) [.slice none 0 0, .slice none 0 0]) := show Box _ _ _ by rw [← hW0]; exact Box.top _ [.slice none 0 0, .slice none 0 0] _ (by simp)
  have hcon := wrongAt_any ab ps.length cb (.slice aq qs.length cq) qs m W0 (HQ.out.grew HG0.out)
  have hown : ∀ W, Grew W0 W → Calls Try.prog 41 #[.agg #[.slice ab ps.length cb, .slice aq qs.length cq]] W fun e w' => ∃ d', e = .returned d' ∧ OwnDisk W.heap.size w' d' ps qs ∧ Grew W w' := fun W hW => own_any _ ps qs W (HD.out.grew (HG0.out.trans hW))
  obtain ⟨r, HW⟩ : ∃ r, Hid (wrongAtL ps.length qs m = r) := ⟨_, rfl⟩
  rw [HW.out] at hcon HP HQ' ⊢
  obtain ⟨nb, HNB⟩ : ∃ nb, Hid (ps.length = nb) := ⟨_, rfl⟩
  obtain ⟨nq, HNQ⟩ : ∃ nq, Hid (qs.length = nq) := ⟨_, rfl⟩
  rw [HNB.out, HNQ.out] at hcon hW0 X0 ⊢
  simp only [HNB.out, HNQ.out] at hown
  have HW0 : Hid (_ = W0) := hW0
  clear hW0
  have hr : ¬ r = 0 := fun e => hr0 (HW.out.trans e)
  have hne : (r != 0) = true := by simpa using hr
  rw [if_neg hr] at HP HQ'
  rw [HP.out, HQ'.out]
  go_enter Try.func25, Try.ntmps25
  go_wp2_with (go_at_call 29; rw [HW0.out]; refine hcon.mono ?_; rintro e W1 ⟨rfl, hg1⟩
               have Y2 := X2.out.grew hg1
               have c0 := Y2.c 0 rfl
               have c1 := Y2.c 1 rfl
               have f0 := Y2.f
               clear Y2)
  refine bodyPost_ret (v := .tuple #[.agg #[.slice none 0 0, .slice none 0 0], .int .i64 r]) (by simp [results, Try.results25, go_sem, *]) rfl ⟨_, rfl, nilDisk _ _, ?_⟩
  have HG1 : Grew w W1 := HG0.out.trans hg1
  iterate 2 (refine grew_set ?_ (by simp; omega) _)
  exact HG1


set_option maxRecDepth 100000 in
set_option maxHeartbeats 1000000 in
theorem write_few (d : Value) (ps : List (List Int)) (qs : List (Int × List Int)) (m : Int) (p : List Int) (hp : p.length = 8) (w : World) (hd : DiskAt w d ps qs) (hr0 : wrongAtL ps.length qs m = 0) (h4 : ¬ qs.length = 400) :
    Calls Try.prog 25 #[d, .int .i64 m, .agg (pgc p).toArray] w fun e w' => ∃ d', e = .returned (.tuple #[d', .int .i64 (wrongAtL ps.length qs m)]) ∧ NewDisk w.heap.size w' d' (writeDP ps qs m) (writeDQ ps qs m p) ∧ Grew w w' := by
  obtain ⟨p0, p1, p2, p3, p4, p5, p6, p7, rfl⟩ := len8 p hp
  have HD : Hid (DiskAt w d ps qs) := hd
  obtain ⟨b, q, rfl, hb, hq⟩ := hd
  have HQ : Hid (PutsAt w q qs) := hq
  obtain ⟨ab, cb, rfl, _⟩ := hb.rows
  obtain ⟨aq, cq, rfl, _⟩ := hq.rows
  clear hb hq hp
  show Calls Try.prog 25 #[.agg #[.slice ab ps.length cb, .slice aq qs.length cq], .int .i64 m, .agg #[.int .u8 p0, .int .u8 p1, .int .u8 p2, .int .u8 p3, .int .u8 p4, .int .u8 p5, .int .u8 p6, .int .u8 p7]] w _
  have HP : Hid (writeDP ps qs m = if wrongAtL ps.length qs m = 0 then writeB ps qs else []) := rfl
  have HQ' : Hid (writeDQ ps qs m [p0, p1, p2, p3, p4, p5, p6, p7] = if wrongAtL ps.length qs m = 0 then writeQ qs m [p0, p1, p2, p3, p4, p5, p6, p7] else []) := rfl
  obtain ⟨W0, hW0⟩ : ∃ W0, ((w.alloc (.cells #[.slice ab ps.length cb, .slice aq qs.length cq] 25)).alloc (.cells #[.int .u8 p0, .int .u8 p1, .int .u8 p2, .int .u8 p3, .int .u8 p4, .int .u8 p5, .int .u8 p6, .int .u8 p7] 31)).alloc (.cells #[.slice none 0 0, .slice none 0 0] 25) = W0 := ⟨_, rfl⟩
  have HG0 : Hid (Grew w W0) := show Grew w W0 by rw [← hW0]; exact ((grew_alloc _ _).trans (grew_alloc _ _)).trans (grew_alloc _ _)
  have X0 : Hid (Box W0 w.heap.size [.slice ab ps.length cb, .slice aq qs.length cq]) := show Box _ _ _ by rw [← hW0]; exact ((Box.top w [.slice ab ps.length cb, .slice aq qs.length cq] _ rfl).alloc _).alloc _
  have X1 : Hid (Box W0 (w.heap.size + 1) [.int .u8 p0, .int .u8 p1, .int .u8 p2, .int .u8 p3, .int .u8 p4, .int .u8 p5, .int .u8 p6, .int .u8 p7]) := show Box _ _ _ by rw [← hW0]; exact (Box.top _ [.int .u8 p0, .int .u8 p1, .int .u8 p2, .int .u8 p3, .int .u8 p4, .int .u8 p5, .int .u8 p6, .int .u8 p7] _ (by simp)).alloc _
  have X2 : Hid (Box W0 (w.heap.size + 1 + 1) [.slice none 0 0, .slice none 0 0]) := show Box _ _ _ by rw [← hW0]; exact Box.top _ [.slice none 0 0, .slice none 0 0] _ (by simp)
  have hcon := wrongAt_any ab ps.length cb (.slice aq qs.length cq) qs m W0 (HQ.out.grew HG0.out)
  have hown : ∀ W, Grew W0 W → Calls Try.prog 41 #[.agg #[.slice ab ps.length cb, .slice aq qs.length cq]] W fun e w' => ∃ d', e = .returned d' ∧ OwnDisk W.heap.size w' d' ps qs ∧ Grew W w' := fun W hW => own_any _ ps qs W (HD.out.grew (HG0.out.trans hW))
  obtain ⟨r, HW⟩ : ∃ r, Hid (wrongAtL ps.length qs m = r) := ⟨_, rfl⟩
  rw [HW.out] at hcon HP HQ' ⊢
  obtain ⟨nb, HNB⟩ : ∃ nb, Hid (ps.length = nb) := ⟨_, rfl⟩
  obtain ⟨nq, HNQ⟩ : ∃ nq, Hid (qs.length = nq) := ⟨_, rfl⟩
  rw [HNB.out, HNQ.out] at hcon hW0 X0 ⊢
  simp only [HNB.out, HNQ.out] at hown
  have HW0 : Hid (_ = W0) := hW0
  clear hW0
  have hr := HW.out.symm.trans hr0
  subst hr
  rw [if_pos rfl] at HP HQ'
  obtain ⟨hw0, i, hmi, hib⟩ := wrongAtL_zero HW.out
  obtain ⟨hn80, hq400, hin⟩ := wrongL_zero hw0
  obtain ⟨i0, hi, hz0, hz1, hz2⟩ := info_parts Try.infoPut
  rw [HP.out, HQ'.out]
  clear hmi hib
  have h400 : ¬ nq = 400 := fun e => h4 (HNQ.out.trans e)
  have hb4 : ((nq : Int) == 400) = false := by simp; omega
  have HB' : Hid (writeB ps qs = ps) := show writeB ps qs = ps by unfold writeB; rw [if_neg (by rw [HNQ.out]; exact h400)]
  have HQ2 : Hid (writeQ qs m [p0, p1, p2, p3, p4, p5, p6, p7] = qs ++ [(m, [p0, p1, p2, p3, p4, p5, p6, p7])]) := show writeQ _ _ _ = _ by unfold writeQ; rw [if_neg (by rw [HNQ.out]; exact h400)]
  have H400 : Hid (qs.length ≤ 400) := hq400
  clear hq400 hin hn80 hw0
  go_enter Try.func25, Try.ntmps25
  go_wp2_with (first
    | (go_at_call 29; rw [HW0.out]; refine hcon.mono ?_; rintro e W1 ⟨rfl, hg1⟩
       have G1 : Hid (Grew W0 W1) := hg1
       have e0 := (X0.out.grew hg1).c 0 rfl
       have e1 := (X0.out.grew hg1).c 1 rfl)
    | (go_at_call 41; refine (hown W1 G1.out).mono ?_; rintro e W2 ⟨d', rfl, hd', hg2⟩
       obtain ⟨bv, qv, rfl, ob, oq⟩ := hd'
       obtain ⟨ab', cb', rfl⟩ := ob.form
       obtain ⟨aq', cq', rfl⟩ := oq.form
       have OB : Hid (OwnPages W1.heap.size W2 (.slice ab' ps.length cb') ps) := ob
       have OQ : Hid (OwnPuts W1.heap.size W2 (.slice aq' qs.length cq') qs) := oq
       have G2 : Hid (Grew W1 W2) := hg2
       rw [HNB.out] at OB
       rw [HNQ.out] at OQ
       rw [HNB.out, HNQ.out]
       clear ob oq hg1 hg2 e0 e1
       have P1 := (X1.out.grew G1.out).grew G2.out
       have lt1 : w.heap.size + 1 < W2.heap.size := P1.lt
       have u0 := P1.c 0 rfl
       have u1 := P1.c 1 rfl
       have u2 := P1.c 2 rfl
       have u3 := P1.c 3 rfl
       have u4 := P1.c 4 rfl
       have u5 := P1.c 5 rfl
       have u6 := P1.c 6 rfl
       have u7 := P1.c 7 rfl
       clear P1)
    | (at_builtin
       have O4 := OQ.out.grew ((grew_alloc W2 (.cells #[.slice ab' nb cb', .slice aq' nq cq'] 25)).trans (grew_alloc _ (.cells #[.int .i64 m, .int .u8 p0, .int .u8 p1, .int .u8 p2, .int .u8 p3, .int .u8 p4, .int .u8 p5, .int .u8 p6, .int .u8 p7] 35)))
       have P4 := OB.out.grew ((grew_alloc W2 (.cells #[.slice ab' nb cb', .slice aq' nq cq'] 25)).trans (grew_alloc _ (.cells #[.int .i64 m, .int .u8 p0, .int .u8 p1, .int .u8 p2, .int .u8 p3, .int .u8 p4, .int .u8 p5, .int .u8 p6, .int .u8 p7] 35)))
       have B4 := (BoxT.top W2 [.slice ab' nb cb', .slice aq' nq cq'] 25 rfl).grew (grew_alloc _ (.cells #[.int .i64 m, .int .u8 p0, .int .u8 p1, .int .u8 p2, .int .u8 p3, .int .u8 p4, .int .u8 p5, .int .u8 p6, .int .u8 p7] 35))
       have R4 := ((((X2.out.grew G1.out).grew G2.out).grew (grew_alloc W2 (.cells #[.slice ab' nb cb', .slice aq' nq cq'] 25))).grew (grew_alloc _ (.cells #[.int .i64 m, .int .u8 p0, .int .u8 p1, .int .u8 p2, .int .u8 p3, .int .u8 p4, .int .u8 p5, .int .u8 p6, .int .u8 p7] 35)))
       refine wpList_append_own _ rfl (.tmp 40) (.tmp 44) 23 rfl W1.heap.size 35 i0 _ 9 16 Try.underlying23 hi hz0 hz1 hz2 rfl (by decide) _ _ _ rfl O4.1 ⟨W2.heap.size + 1, 0, none⟩ 1 1 (ptc (m, [p0, p1, p2, p3, p4, p5, p6, p7])) rfl rfl (Cells.top _ (ptc (m, [p0, p1, p2, p3, p4, p5, p6, p7])) _ (by simp)) (ptc_one _) (maxLen_of (by have := H400.out; omega)) (by have := H400.out; omega) (by have := Below.size G2.out; simp; omega) ?_
       intro v' W5 hown' hgrow _
       have N5 : Hid (OwnPuts W1.heap.size W5 v' (qs ++ [(m, [p0, p1, p2, p3, p4, p5, p6, p7])])) := OwnPuts.snoc hown' OQ.out.2.1 rfl (by have := H400.out; omega)
       have P5 : Hid (OwnPages W1.heap.size W5 (.slice ab' nb cb') ps) := P4.beside O4 hgrow
       have B5 : Hid (BoxT W5 W2.heap.size 25 [.slice ab' nb cb', .slice aq' nq cq']) := B4.beside hgrow (O4.ne B4)
       have R5 : Hid (Box W5 (w.heap.size + 1 + 1) [.slice none 0 0, .slice none 0 0]) := R4.beside hgrow (fun g hg => by have h1 := (O4.lt g hg).1; have h2 := (X2.out.grew G1.out).lt; omega)
       have G5 : Hid (Grew w W5) := grew_beside (((HG0.out.trans G1.out).trans G2.out).trans ((grew_alloc _ _).trans (grew_alloc _ _))) hgrow (fun g hg => by have h1 := (O4.lt g hg).1; have h2 := Below.size (HG0.out.trans G1.out); omega)
       obtain ⟨av, cv, hv'⟩ := N5.out.form
       rw [List.length_append, HNQ.out, List.length_singleton] at hv'
       subst hv'
       have v0 := B5.out.box.c 0 rfl
       have v1 := B5.out.box.c 1 rfl
       have vf := B5.out.box.f
       have y0 := R5.out.c 0 rfl
       have y1 := R5.out.c 1 rfl
       have yf := R5.out.f
       have hneb : w.heap.size + 1 + 1 ≠ W2.heap.size := by have := ((X2.out.grew G1.out).grew G2.out).lt; omega
       clear O4 P4 B4 R4 hown' hgrow u0 u1 u2 u3 u4 u5 u6 u7 lt1))
  refine bodyPost_ret (v := .tuple #[.agg #[.slice ab' nb cb', .slice av (nq + 1) cv], .int .i64 0]) (by simp [results, Try.results25, go_sem, *]) rfl ⟨_, rfl, ?_, ?_⟩
  · rw [HB'.out, HQ2.out]
    exact fin_new P5.out N5.out B5.out (X2.out.grew G1.out).lt (Below.size (HG0.out.trans G1.out))
  · have h1 := Below.size (HG0.out.trans G1.out)
    have h2 := Below.size G2.out
    iterate 3 (refine grew_set ?_ (by simp; omega) _)
    exact G5.out

end Go.Proofs.Ytbcaagmnmaonbab
