/- Contract of Write (package disk). -/
import Derived.Test.YtbcaagmnmaonbabWrite
namespace Go.Proofs.Ytbcaagmnmaonbab
open Go.RowKit

set_option maxRecDepth 100000 in
set_option maxHeartbeats 1000000 in
theorem write_full (d : Value) (ps : List (List Int)) (qs : List (Int × List Int)) (m : Int) (p : List Int) (hp : p.length = 8) (w : World) (hd : DiskAt w d ps qs) (hr0 : wrongAtL ps.length qs m = 0) (h4 : qs.length = 400) :
    Calls Try.prog 25 #[d, .int .i64 m, .agg (pgc p).toArray] w fun e w' => ∃ d', e = .returned (.tuple #[d', .int .i64 (wrongAtL ps.length qs m)]) ∧ NewDisk w.heap.size w' d' (writeDP ps qs m) (writeDQ ps qs m p) ∧ Grew w w' := by
  obtain ⟨p0, p1, p2, p3, p4, p5, p6, p7, rfl⟩ := len8 p hp
  have HD : Hid (DiskAt w d ps qs) := hd
  obtain ⟨b, q, rfl, hb, hq⟩ := hd
  have HQ : Hid (PutsAt w q qs) := hq
  obtain ⟨ab, cb, rfl, _⟩ := hb.rows
  obtain ⟨aq, cq, rfl, _⟩ := hq.rows
  clear hb hq hp
  show Calls Try.prog 25 #[.agg #[.slice ab ps.length cb, .slice aq qs.length cq], .int .i64 m, .agg #[.int .u8 p0, .int .u8 p1, .int .u8 p2, .int .u8 p3, .int .u8 p4, .int .u8 p5, .int .u8 p6, .int .u8 p7]] w _
  have HP : Hid (writeDP ps qs m = if wrongAtL ps.length qs m = 0 then writeB ps qs else []) := rfl
  have HQ' : Hid (writeDQ ps qs m [p0, p1, p2, p3, p4, p5, p6, p7] = if wrongAtL ps.length qs m = 0 then writeQ qs m [p0, p1, p2, p3, p4, p5, p6, p7] else []) := rfl
  obtain ⟨W0, hW0⟩ : ∃ W0, ((w.alloc (.cells #[.slice ab ps.length cb, .slice aq qs.length cq] 25)).alloc (.cells #[.int .u8 p0, .int .u8 p1, .int .u8 p2, .int .u8 p3, .int .u8 p4, .int .u8 p5, .int .u8 p6, .int .u8 p7] 31)).alloc (.cells #[.slice none 0 0, .slice none 0 0] 25) = W0 := ⟨_, rfl⟩
  have HG0 : Hid (Grew w W0) := show Grew w W0 by rw [← hW0]; exact ((grew_alloc _ _).trans (grew_alloc _ _)).trans (grew_alloc _ _)
  have X0 : Hid (Box W0 w.heap.size [.slice ab ps.length cb, .slice aq qs.length cq]) := show Box _ _ _ by rw [← hW0]; exact ((Box.top w [.slice ab ps.length cb, .slice aq qs.length cq] _ rfl).alloc _).alloc _
  have X1 : Hid (Box W0 (w.heap.size + 1) [.int .u8 p0, .int .u8 p1, .int .u8 p2, .int .u8 p3, .int .u8 p4, .int .u8 p5, .int .u8 p6, .int .u8 p7]) := show Box _ _ _ by rw [← hW0]; exact (Box.top _ [.int .u8 p0, .int .u8 p1, .int .u8 p2, .int .u8 p3, .int .u8 p4, .int .u8 p5, .int .u8 p6, .int .u8 p7] _ (by simp)).alloc _
  have X2 : Hid (Box W0 (w.heap.size + 1 + 1) [.slice none 0 0, .slice none 0 0]) := show Box _ _ _ by rw [← hW0]; exact Box.top _ [.slice none 0 0, .slice none 0 0] _ (by simp)
  have hcon := wrongAt_any ab ps.length cb (.slice aq qs.length cq) qs m W0 (HQ.out.grew HG0.out)
  have hown : ∀ W, Grew W0 W → Calls Try.prog 41 #[.agg #[.slice ab ps.length cb, .slice aq qs.length cq]] W fun e w' => ∃ d', e = .returned d' ∧ OwnDisk W.heap.size w' d' ps qs ∧ Grew W w' := fun W hW => own_any _ ps qs W (HD.out.grew (HG0.out.trans hW))
  obtain ⟨r, HW⟩ : ∃ r, Hid (wrongAtL ps.length qs m = r) := ⟨_, rfl⟩
  rw [HW.out] at hcon HP HQ' ⊢
  obtain ⟨nb, HNB⟩ : ∃ nb, Hid (ps.length = nb) := ⟨_, rfl⟩
  obtain ⟨nq, HNQ⟩ : ∃ nq, Hid (qs.length = nq) := ⟨_, rfl⟩
  rw [HNB.out, HNQ.out] at hcon hW0 X0 ⊢
  simp only [HNB.out, HNQ.out] at hown
  have HW0 : Hid (_ = W0) := hW0
  clear hW0
  have hr := HW.out.symm.trans hr0
  subst hr
  rw [if_pos rfl] at HP HQ'
  obtain ⟨hw0, i, hmi, hib⟩ := wrongAtL_zero HW.out
  obtain ⟨hn80, hq400, hin⟩ := wrongL_zero hw0
  obtain ⟨i0, hi, hz0, hz1, hz2⟩ := info_parts Try.infoPut
  rw [HP.out, HQ'.out]
  clear hmi hib
  have h400 := HNQ.out.symm.trans h4
  subst h400
  obtain ⟨q0, r, rfl⟩ : ∃ q0 r, qs = q0 :: r := by
    cases qs with
    | nil => exact absurd HNQ.out (by simp)
    | cons q0 r => exact ⟨q0, r, rfl⟩
  have HR : Hid (r.length = 399) := show r.length = 399 by have := HNQ.out; simpa using this
  obtain ⟨mi, l⟩ := q0
  obtain ⟨c0, c1, c2, c3, c4, c5, c6, c7, rfl⟩ := len8 l (HQ.out.2.1 (mi, l) (by simp))
  obtain ⟨i1, hmi1, hib1⟩ := hin _ (List.mem_cons_self)
  simp only at hmi1
  subst hmi1
  have hi1n : i1 < nb := by rw [← HNB.out]; exact hib1
  have hi1z : (i1 : Int) < (nb : Int) := by omega
  have HB' : Hid (writeB ps (((i1 : Int), [c0, c1, c2, c3, c4, c5, c6, c7]) :: r) = ps.set i1 [c0, c1, c2, c3, c4, c5, c6, c7]) := show writeB _ _ = _ by unfold writeB; rw [if_pos HNQ.out]; rfl
  have HQ2 : Hid (writeQ (((i1 : Int), [c0, c1, c2, c3, c4, c5, c6, c7]) :: r) m [p0, p1, p2, p3, p4, p5, p6, p7] = r ++ [(m, [p0, p1, p2, p3, p4, p5, p6, p7])]) := show writeQ _ _ _ = _ by unfold writeQ; rw [if_pos HNQ.out]; rfl
  clear hq400 hin hn80 hw0 hib1
  go_enter Try.func25, Try.ntmps25
  go_wp2_with (first
    | (go_at_call 29; rw [HW0.out]; refine hcon.mono ?_; rintro e W1 ⟨rfl, hg1⟩
       have G1 : Hid (Grew W0 W1) := hg1
       have e0 := (X0.out.grew hg1).c 0 rfl
       have e1 := (X0.out.grew hg1).c 1 rfl)
    | (go_at_call 41; refine (hown W1 G1.out).mono ?_; rintro e W2 ⟨d', rfl, hd', hg2⟩
       obtain ⟨bv, qv, rfl, ob, oq⟩ := hd'
       obtain ⟨gb, capb, hbv⟩ : ∃ gb capb, bv = .slice (some ⟨gb, 0, none⟩) nb capb := by
         rcases ob.1.2 with ⟨_, h0⟩ | ⟨gv, cap, cur, h0, _⟩
         · have := HNB.out; omega
         · exact ⟨gv, cap, by rw [h0, HNB.out]⟩
       subst hbv
       obtain ⟨gq, capq, hqv⟩ : ∃ gq capq, qv = .slice (some ⟨gq, 0, none⟩) 400 capq := by
         rcases oq.1.2 with ⟨_, h0⟩ | ⟨gv, cap, cur, h0, _⟩
         · simp at h0
         · exact ⟨gv, cap, by rw [h0, HNQ.out]⟩
       subst hqv
       have OB : Hid (OwnPages W1.heap.size W2 (.slice (some ⟨gb, 0, none⟩) nb capb) ps) := ob
       have OQ : Hid (OwnPuts W1.heap.size W2 (.slice (some ⟨gq, 0, none⟩) 400 capq) (((i1 : Int), [c0, c1, c2, c3, c4, c5, c6, c7]) :: r)) := oq
       have G2 : Hid (Grew W1 W2) := hg2
       obtain ⟨k0, k1, k2, k3, k4, k5, k6, k7, k8⟩ := oq.head
       have lq : gq < W2.heap.size := (oq.lt gq rfl).2
       clear ob oq hg1 hg2 e0 e1)
    | (refine wpList_store_page rfl (.tmp 34) (.tmp 33) rfl W1.heap.size _ ps (OB.out.grew ((grew_alloc W2 (.cells #[.slice (some ⟨gb, 0, none⟩) nb capb, .slice (some ⟨gq, 0, none⟩) 400 capq] 25)).trans (grew_alloc _ (.cells #[.int .i64 (i1 : Int), .int .u8 c0, .int .u8 c1, .int .u8 c2, .int .u8 c3, .int .u8 c4, .int .u8 c5, .int .u8 c6, .int .u8 c7] 35)))) gb i1 rfl (by rw [HNB.out]; exact hi1n) [c0, c1, c2, c3, c4, c5, c6, c7] rfl _ rfl (by simp) rfl ?_
       intro W5 ow5 gr5 _
       have O4 := OQ.out.grew ((grew_alloc W2 (.cells #[.slice (some ⟨gb, 0, none⟩) nb capb, .slice (some ⟨gq, 0, none⟩) 400 capq] 25)).trans (grew_alloc _ (.cells #[.int .i64 (i1 : Int), .int .u8 c0, .int .u8 c1, .int .u8 c2, .int .u8 c3, .int .u8 c4, .int .u8 c5, .int .u8 c6, .int .u8 c7] 35)))
       have P4 := OB.out.grew ((grew_alloc W2 (.cells #[.slice (some ⟨gb, 0, none⟩) nb capb, .slice (some ⟨gq, 0, none⟩) 400 capq] 25)).trans (grew_alloc _ (.cells #[.int .i64 (i1 : Int), .int .u8 c0, .int .u8 c1, .int .u8 c2, .int .u8 c3, .int .u8 c4, .int .u8 c5, .int .u8 c6, .int .u8 c7] 35)))
       have B4 := (BoxT.top W2 [.slice (some ⟨gb, 0, none⟩) nb capb, .slice (some ⟨gq, 0, none⟩) 400 capq] 25 rfl).grew (grew_alloc _ (.cells #[.int .i64 (i1 : Int), .int .u8 c0, .int .u8 c1, .int .u8 c2, .int .u8 c3, .int .u8 c4, .int .u8 c5, .int .u8 c6, .int .u8 c7] 35))
       have hgb := P4.lt gb rfl
       have O5 : Hid (OwnPuts W1.heap.size W5 (.slice (some ⟨gq, 0, none⟩) 400 capq) (((i1 : Int), [c0, c1, c2, c3, c4, c5, c6, c7]) :: r)) := O4.beside P4 gr5
       have P5 : Hid (OwnPages W1.heap.size W5 (.slice (some ⟨gb, 0, none⟩) nb capb) (ps.set i1 [c0, c1, c2, c3, c4, c5, c6, c7])) := ow5
       have B5 : Hid (BoxT W5 W2.heap.size 25 [.slice (some ⟨gb, 0, none⟩) nb capb, .slice (some ⟨gq, 0, none⟩) 400 capq]) := B4.beside gr5 (P4.ne B4)
       have R5 : Hid (Box W5 (w.heap.size + 1 + 1) [.slice none 0 0, .slice none 0 0]) := ((((X2.out.grew G1.out).grew G2.out).grew (grew_alloc W2 _)).grew (grew_alloc _ _)).beside gr5 (fun g hg => by cases hg; have h2 := (X2.out.grew G1.out).lt; omega)
       have A5 : Hid (Box W5 (w.heap.size + 1) [.int .u8 p0, .int .u8 p1, .int .u8 p2, .int .u8 p3, .int .u8 p4, .int .u8 p5, .int .u8 p6, .int .u8 p7]) := ((((X1.out.grew G1.out).grew G2.out).grew (grew_alloc W2 _)).grew (grew_alloc _ _)).beside gr5 (fun g hg => by cases hg; have h2 := (X1.out.grew G1.out).lt; omega)
       have G5 : Hid (Grew w W5) := grew_beside (((HG0.out.trans G1.out).trans G2.out).trans ((grew_alloc _ _).trans (grew_alloc _ _))) gr5 (fun g hg => by cases hg; have h2 := Below.size (HG0.out.trans G1.out); omega)
       have v0 := B5.out.box.c 0 rfl
       have v1 := B5.out.box.c 1 rfl
       clear O4 P4 B4 ow5 gr5 k0 k1 k2 k3 k4 k5 k6 k7 k8 lq hgb)
    | (go_at_call 42
       have hdel := delete01_any W1.heap.size gq capq ((i1 : Int), [c0, c1, c2, c3, c4, c5, c6, c7]) r W5 (by rw [HR.out]; exact O5.out) (by rw [HR.out]; decide) (by rw [HR.out]; decide)
       rw [HR.out] at hdel
       refine hdel.mono ?_
       rintro e W6 ⟨rfl, ow6, gr6⟩
       have hgq := O5.out.lt gq rfl
       have O6 : Hid (OwnPuts W1.heap.size W6 (.slice (some ⟨gq, 0, none⟩) 399 capq) r) := ow6
       have P6 : Hid (OwnPages W1.heap.size W6 (.slice (some ⟨gb, 0, none⟩) nb capb) (ps.set i1 [c0, c1, c2, c3, c4, c5, c6, c7])) := P5.out.beside O5.out gr6
       have B6 : Hid (BoxT W6 W2.heap.size 25 [.slice (some ⟨gb, 0, none⟩) nb capb, .slice (some ⟨gq, 0, none⟩) 400 capq]) := B5.out.beside gr6 (O5.out.ne B5.out)
       have R6 : Hid (Box W6 (w.heap.size + 1 + 1) [.slice none 0 0, .slice none 0 0]) := R5.out.beside gr6 (fun g hg => by cases hg; have h2 := (X2.out.grew G1.out).lt; omega)
       have A6 : Hid (Box W6 (w.heap.size + 1) [.int .u8 p0, .int .u8 p1, .int .u8 p2, .int .u8 p3, .int .u8 p4, .int .u8 p5, .int .u8 p6, .int .u8 p7]) := A5.out.beside gr6 (fun g hg => by cases hg; have h2 := (X1.out.grew G1.out).lt; omega)
       have G6 : Hid (Grew w W6) := grew_beside G5.out gr6 (fun g hg => by cases hg; have h2 := Below.size (HG0.out.trans G1.out); omega)
       clear hdel ow6 gr6 v0 v1 hgq
       have v0 := B6.out.box.c 0 rfl
       have v1 := B6.out.box.c 1 rfl
       have vf := B6.out.box.f
       have hneb1 : w.heap.size + 1 ≠ W2.heap.size := by have := ((X1.out.grew G1.out).grew G2.out).lt; omega
       have lt1 : w.heap.size + 1 < W6.heap.size := A6.out.lt
       have lt2 : W2.heap.size < W6.heap.size := B6.out.box.lt
       have u0 := A6.out.c 0 rfl
       have u1 := A6.out.c 1 rfl
       have u2 := A6.out.c 2 rfl
       have u3 := A6.out.c 3 rfl
       have u4 := A6.out.c 4 rfl
       have u5 := A6.out.c 5 rfl
       have u6 := A6.out.c 6 rfl
       have u7 := A6.out.c 7 rfl)
    | (at_builtin
       have g7 := grew_alloc (W6.setCell ⟨W2.heap.size, 1, none⟩ (.slice (some ⟨gq, 0, none⟩) 399 capq)) (.cells #[.int .i64 m, .int .u8 p0, .int .u8 p1, .int .u8 p2, .int .u8 p3, .int .u8 p4, .int .u8 p5, .int .u8 p6, .int .u8 p7] 35)
       have O7 := (O6.out.setOther (a := ⟨W2.heap.size, 1, none⟩) (O6.out.ne B6.out) (.slice (some ⟨gq, 0, none⟩) 399 capq)).grew g7
       have P7 := (P6.out.setOther (a := ⟨W2.heap.size, 1, none⟩) (P6.out.ne B6.out) (.slice (some ⟨gq, 0, none⟩) 399 capq)).grew g7
       have B7 := (B6.out.set 1 (.slice (some ⟨gq, 0, none⟩) 399 capq)).grew g7
       have R7 := (R6.out.other (a := ⟨W2.heap.size, 1, none⟩) (by have := ((X2.out.grew G1.out).grew G2.out).lt; show w.heap.size + 1 + 1 ≠ W2.heap.size; omega) (.slice (some ⟨gq, 0, none⟩) 399 capq)).grew g7
       have G7 := (show Grew w (W6.setCell ⟨W2.heap.size, 1, none⟩ (.slice (some ⟨gq, 0, none⟩) 399 capq)) from grew_set G6.out (by have := Below.size ((HG0.out.trans G1.out).trans G2.out); exact this) _).trans g7
       refine wpList_append_own _ rfl (.tmp 40) (.tmp 44) 23 rfl W1.heap.size 35 i0 _ 9 16 Try.underlying23 hi hz0 hz1 hz2 rfl (by decide) _ _ _ rfl O7.1 ⟨W6.heap.size, 0, none⟩ 1 1 (ptc (m, [p0, p1, p2, p3, p4, p5, p6, p7])) rfl rfl (Cells.top _ (ptc (m, [p0, p1, p2, p3, p4, p5, p6, p7])) _ (by simp)) (ptc_one _) (maxLen_of (by rw [HR.out]; decide)) (by rw [HR.out]; decide) (by have h1 := Below.size G2.out; have h2 := Below.size g7; have h3 := B6.out.box.lt; simp at h2 ⊢; omega) ?_
       intro v' W8 hown' hgrow _
       have N5 : Hid (OwnPuts W1.heap.size W8 v' (r ++ [(m, [p0, p1, p2, p3, p4, p5, p6, p7])])) := OwnPuts.snoc hown' O6.out.2.1 rfl (by rw [HR.out]; decide)
       have P8 : Hid (OwnPages W1.heap.size W8 (.slice (some ⟨gb, 0, none⟩) nb capb) (ps.set i1 [c0, c1, c2, c3, c4, c5, c6, c7])) := P7.beside O7 hgrow
       have B8 : Hid (BoxT W8 W2.heap.size 25 [.slice (some ⟨gb, 0, none⟩) nb capb, .slice (some ⟨gq, 0, none⟩) 399 capq]) := B7.beside hgrow (O7.ne B7)
       have R8 : Hid (Box W8 (w.heap.size + 1 + 1) [.slice none 0 0, .slice none 0 0]) := R7.beside hgrow (fun g hg => by have h1 := (O7.lt g hg).1; have h2 := (X2.out.grew G1.out).lt; omega)
       have G8 : Hid (Grew w W8) := grew_beside G7 hgrow (fun g hg => by have h1 := (O7.lt g hg).1; have h2 := Below.size (HG0.out.trans G1.out); omega)
       obtain ⟨av, cv, hv'⟩ := N5.out.form
       rw [List.length_append, HR.out, List.length_singleton] at hv'
       subst hv'
       clear v0 v1 vf
       have v0 := B8.out.box.c 0 rfl
       have v1 := B8.out.box.c 1 rfl
       have vf := B8.out.box.f
       have y0 := R8.out.c 0 rfl
       have y1 := R8.out.c 1 rfl
       have yf := R8.out.f
       have hneb : w.heap.size + 1 + 1 ≠ W2.heap.size := by have := ((X2.out.grew G1.out).grew G2.out).lt; omega
       clear O7 P7 B7 R7 G7 g7 hown' hgrow u0 u1 u2 u3 u4 u5 u6 u7 lt1 lt2 hneb1))
  refine bodyPost_ret (v := .tuple #[.agg #[.slice (some ⟨gb, 0, none⟩) nb capb, .slice av 400 cv], .int .i64 0]) (by simp [results, Try.results25, go_sem, *]) rfl ⟨_, rfl, ?_, ?_⟩
  · rw [HB'.out, HQ2.out]
    exact fin_new P8.out N5.out B8.out (X2.out.grew G1.out).lt (Below.size (HG0.out.trans G1.out))
  · have h1 := Below.size (HG0.out.trans G1.out)
    have h2 := Below.size G2.out
    iterate 3 (refine grew_set ?_ (by simp; omega) _)
    exact G8.out

theorem write_any (d : Value) (ps : List (List Int)) (qs : List (Int × List Int)) (m : Int) (p : List Int) (hp : p.length = 8) (w : World) (hd : DiskAt w d ps qs) :
    Calls Try.prog 25 #[d, .int .i64 m, .agg (pgc p).toArray] w fun e w' => ∃ d', e = .returned (.tuple #[d', .int .i64 (wrongAtL ps.length qs m)]) ∧ NewDisk w.heap.size w' d' (writeDP ps qs m) (writeDQ ps qs m p) ∧ Grew w w' := by
  by_cases hr0 : wrongAtL ps.length qs m = 0
  · by_cases h4 : qs.length = 400
    · exact write_full d ps qs m p hp w hd hr0 h4
    · exact write_few d ps qs m p hp w hd hr0 h4
  · exact write_err d ps qs m p hp w hd hr0

end Go.Proofs.Ytbcaagmnmaonbab
