/- Contract of Trim (package disk). -/
import Derived.Test.YtbcaagmnmaonbaaDeleteFunc
import Derived.Test.YtbcaagmnmaonbaaPure
namespace Go.Proofs.Ytbcaagmnmaonbaa
open Go.RowKit

def trimDP (ps : List (List Int)) (qs : List (Int × List Int)) (m : Int) : List (List Int) := if wrongAtL ps.length qs m = 0 then ps.set m.toNat zero8 else []
def trimDQ (ps : List (List Int)) (qs : List (Int × List Int)) (m : Int) : List (Int × List Int) := if wrongAtL ps.length qs m = 0 then qs.filter (fun q => !(q.1 == m)) else []

set_option maxRecDepth 100000 in
set_option maxHeartbeats 1000000 in
theorem trim_err (d : Value) (ps : List (List Int)) (qs : List (Int × List Int)) (m : Int) (w : World) (hd : DiskAt w d ps qs) (hr0 : ¬ wrongAtL ps.length qs m = 0) :
    Calls Try.prog 27 #[d, .int .i64 m] w fun e w' => ∃ d', e = .returned (.tuple #[d', .int .i64 (wrongAtL ps.length qs m)]) ∧ NewDisk w.heap.size w' d' [] [] ∧ Grew w w' := by
  obtain ⟨b, q, rfl, hb, hq⟩ := hd
  have HQ : Hid (PutsAt w q qs) := hq
  obtain ⟨ab, cb, rfl, _⟩ := hb.rows
  obtain ⟨aq, cq, rfl, _⟩ := hq.rows
  clear hb hq
  obtain ⟨W0, hW0⟩ : ∃ W0, ((w.alloc (.cells #[.slice ab ps.length cb, .slice aq qs.length cq] 36)).alloc (.cells #[.int .i64 m] 3)).alloc (.cells #[.slice none 0 0, .slice none 0 0] 36) = W0 := ⟨_, rfl⟩
  have HG0 : Hid (Grew w W0) := show Grew w W0 by rw [← hW0]; exact ((grew_alloc _ _).trans (grew_alloc _ _)).trans (grew_alloc _ _)
  have X2 : Hid (Box W0 (w.heap.size + 1 + 1) [.slice none 0 0, .slice none 0 0]) := show Box _ _ _ by rw [← hW0]; exact Box.top _ [.slice none 0 0, .slice none 0 0] _ (by simp)
  have hcon := wrongAt_any ab ps.length cb (.slice aq qs.length cq) qs m W0 (HQ.out.grew HG0.out)
  obtain ⟨r, HW⟩ : ∃ r, Hid (wrongAtL ps.length qs m = r) := ⟨_, rfl⟩
  rw [HW.out] at hcon hr0 ⊢
  obtain ⟨nb, HNB⟩ : ∃ nb, Hid (ps.length = nb) := ⟨_, rfl⟩
  obtain ⟨nq, HNQ⟩ : ∃ nq, Hid (qs.length = nq) := ⟨_, rfl⟩
  rw [HNB.out, HNQ.out] at hcon hW0 ⊢
  have HW0 : Hid (_ = W0) := hW0
  clear hW0
  have hne : (r != 0) = true := by simpa using hr0
  go_enter Try.func27, Try.ntmps27
  go_wp2_with (go_at_call 39; rw [HW0.out]; refine hcon.mono ?_; rintro e W1 ⟨rfl, hg1⟩
               have Y2 := X2.out.grew hg1
               have c0 := Y2.c 0 rfl
               have c1 := Y2.c 1 rfl
               have f0 := Y2.f
               clear Y2)
  refine bodyPost_ret (v := .tuple #[.agg #[.slice none 0 0, .slice none 0 0], .int .i64 r]) (by simp [results, Try.results27, go_sem, *]) rfl ⟨_, rfl, nilDisk _ _, ?_⟩
  have HG1 : Grew w W1 := HG0.out.trans hg1
  iterate 2 (refine grew_set ?_ (by simp; omega) _)
  exact HG1

set_option maxRecDepth 100000 in
set_option maxHeartbeats 1000000 in
theorem trim_ok (d : Value) (ps : List (List Int)) (qs : List (Int × List Int)) (i : Nat) (w : World) (hd : DiskAt w d ps qs) (hr0 : wrongAtL ps.length qs (i : Int) = 0) :
    Calls Try.prog 27 #[d, .int .i64 (i : Int)] w fun e w' => ∃ d', e = .returned (.tuple #[d', .int .i64 0]) ∧ NewDisk w.heap.size w' d' (ps.set i zero8) (qs.filter fun q => !(q.1 == (i : Int))) ∧ Grew w w' := by
  have HD : Hid (DiskAt w d ps qs) := hd
  obtain ⟨b, q, rfl, hb, hq⟩ := hd
  have HQ : Hid (PutsAt w q qs) := hq
  obtain ⟨ab, cb, rfl, _⟩ := hb.rows
  obtain ⟨aq, cq, rfl, _⟩ := hq.rows
  clear hb hq
  obtain ⟨hw0, i', hii, hib⟩ := wrongAtL_zero hr0
  obtain ⟨_, hq400, _⟩ := wrongL_zero hw0
  have hi : i < ps.length := by omega
  clear hw0 hii hib
  obtain ⟨W0, hW0⟩ : ∃ W0, ((w.alloc (.cells #[.slice ab ps.length cb, .slice aq qs.length cq] 36)).alloc (.cells #[.int .i64 (i : Int)] 3)).alloc (.cells #[.slice none 0 0, .slice none 0 0] 36) = W0 := ⟨_, rfl⟩
  have HG0 : Hid (Grew w W0) := show Grew w W0 by rw [← hW0]; exact ((grew_alloc _ _).trans (grew_alloc _ _)).trans (grew_alloc _ _)
  have X0 : Hid (Box W0 w.heap.size [.slice ab ps.length cb, .slice aq qs.length cq]) := show Box _ _ _ by rw [← hW0]; exact ((Box.top w [.slice ab ps.length cb, .slice aq qs.length cq] _ rfl).alloc _).alloc _
  have X1 : Hid (Box W0 (w.heap.size + 1) [.int .i64 (i : Int)]) := show Box _ _ _ by rw [← hW0]; exact (Box.top _ [.int .i64 (i : Int)] _ (by simp)).alloc _
  have X2 : Hid (Box W0 (w.heap.size + 1 + 1) [.slice none 0 0, .slice none 0 0]) := show Box _ _ _ by rw [← hW0]; exact Box.top _ [.slice none 0 0, .slice none 0 0] _ (by simp)
  have hcon := wrongAt_any ab ps.length cb (.slice aq qs.length cq) qs (i : Int) W0 (HQ.out.grew HG0.out)
  rw [hr0] at hcon
  have hown : ∀ W, Grew W0 W → Calls Try.prog 21 #[.agg #[.slice ab ps.length cb, .slice aq qs.length cq]] W fun e w' => ∃ d', e = .returned d' ∧ OwnDisk W.heap.size w' d' ps qs ∧ Grew W w' := fun W hW => own_any _ ps qs W (HD.out.grew (HG0.out.trans hW))
  obtain ⟨nb, HNB⟩ : ∃ nb, Hid (ps.length = nb) := ⟨_, rfl⟩
  obtain ⟨nq, HNQ⟩ : ∃ nq, Hid (qs.length = nq) := ⟨_, rfl⟩
  have H400 : Hid (qs.length ≤ 400) := hq400
  rw [HNB.out] at hi
  rw [HNB.out, HNQ.out] at hcon hW0 X0 ⊢
  simp only [HNB.out, HNQ.out] at hown
  have HW0 : Hid (_ = W0) := hW0
  have hiz : (i : Int) < (nb : Int) := by omega
  clear hW0 hr0 hq400
  go_enter Try.func27, Try.ntmps27
  go_wp2_with (first
    | (go_at_call 39; rw [HW0.out]; refine hcon.mono ?_; clear hcon; rintro e W1 ⟨rfl, hg1⟩
       have G1 : Hid (Grew W0 W1) := hg1
       have e0 := (X0.out.grew hg1).c 0 rfl
       have e1 := (X0.out.grew hg1).c 1 rfl)
    | (go_at_call 21; refine (hown W1 G1.out).mono ?_; clear hown; rintro e W2 ⟨d', rfl, hd', hg2⟩
       obtain ⟨bv, qv, rfl, ob, oq⟩ := hd'
       obtain ⟨gb, capb, hbv⟩ : ∃ gb capb, bv = .slice (some ⟨gb, 0, none⟩) nb capb := by
         rcases ob.1.2 with ⟨_, h0⟩ | ⟨gv, cap, cur, h0, _⟩
         · have := HNB.out; omega
         · exact ⟨gv, cap, by rw [h0, HNB.out]⟩
       subst hbv
       obtain ⟨aq', cq', rfl⟩ := oq.form
       have OB : Hid (OwnPages W1.heap.size W2 (.slice (some ⟨gb, 0, none⟩) nb capb) ps) := ob
       have OQ : Hid (OwnPuts W1.heap.size W2 (.slice aq' qs.length cq') qs) := oq
       have G2 : Hid (Grew W1 W2) := hg2
       rw [HNQ.out] at OQ
       rw [HNQ.out]
       clear ob oq hg1 hg2 e0 e1
       have m0 := ((X1.out.grew G1.out).grew G2.out).c 0 rfl
       have ml := ((X1.out.grew G1.out).grew G2.out).lt)
    | (refine wpList_store_page rfl (.tmp 21) (.tmp 20) rfl W1.heap.size _ ps (OB.out.grew (grew_alloc W2 (.cells #[.slice (some ⟨gb, 0, none⟩) nb capb, .slice aq' nq cq'] 36))) gb i rfl (by rw [HNB.out]; exact hi) zero8 rfl _ rfl (by simp) rfl ?_
       intro W5 ow5 gr5 _
       have O4 := OQ.out.grew (grew_alloc W2 (.cells #[.slice (some ⟨gb, 0, none⟩) nb capb, .slice aq' nq cq'] 36))
       have P4 := OB.out.grew (grew_alloc W2 (.cells #[.slice (some ⟨gb, 0, none⟩) nb capb, .slice aq' nq cq'] 36))
       have B4 := BoxT.top W2 [.slice (some ⟨gb, 0, none⟩) nb capb, .slice aq' nq cq'] 36 rfl
       have hgb := P4.lt gb rfl
       have O5 : Hid (OwnPuts W1.heap.size W5 (.slice aq' nq cq') qs) := O4.beside P4 gr5
       have P5 : Hid (OwnPages W1.heap.size W5 (.slice (some ⟨gb, 0, none⟩) nb capb) (ps.set i zero8)) := ow5
       have B5 : Hid (BoxT W5 W2.heap.size 36 [.slice (some ⟨gb, 0, none⟩) nb capb, .slice aq' nq cq']) := B4.beside gr5 (P4.ne B4)
       have R5 : Hid (Box W5 (w.heap.size + 1 + 1) [.slice none 0 0, .slice none 0 0]) := (((X2.out.grew G1.out).grew G2.out).grew (grew_alloc W2 _)).beside gr5 (fun g hg => by cases hg; have h2 := (X2.out.grew G1.out).lt; omega)
       have A5 : Hid (Box W5 (w.heap.size + 1) [.int .i64 (i : Int)]) := (((X1.out.grew G1.out).grew G2.out).grew (grew_alloc W2 _)).beside gr5 (fun g hg => by cases hg; have h2 := (X1.out.grew G1.out).lt; omega)
       have G5 : Hid (Grew w W5) := grew_beside (((HG0.out.trans G1.out).trans G2.out).trans (grew_alloc _ _)) gr5 (fun g hg => by cases hg; have h2 := Below.size (HG0.out.trans G1.out); omega)
       have v0 := B5.out.box.c 0 rfl
       have v1 := B5.out.box.c 1 rfl
       clear O4 P4 B4 ow5 gr5 m0 ml hgb)
    | (go_at_call 42; refine (deleteFunc_any (i : Int) (w.heap.size + 1) W1.heap.size (.slice aq' nq cq') qs W5 O5.out A5.out (X1.out.grew G1.out).lt H400.out).mono ?_
       rintro e W6 ⟨v', rfl, ow6, gr6, ob6⟩
       have N6 : Hid (OwnPuts W1.heap.size W6 v' (qs.filter fun q => !(q.1 == (i : Int)))) := ow6
       have P6 : Hid (OwnPages W1.heap.size W6 (.slice (some ⟨gb, 0, none⟩) nb capb) (ps.set i zero8)) := P5.out.beside O5.out gr6
       have B6 : Hid (BoxT W6 W2.heap.size 36 [.slice (some ⟨gb, 0, none⟩) nb capb, .slice aq' nq cq']) := B5.out.beside gr6 (O5.out.ne B5.out)
       have R6 : Hid (Box W6 (w.heap.size + 1 + 1) [.slice none 0 0, .slice none 0 0]) := R5.out.beside gr6 (fun g hg => by have h1 := (O5.out.lt g hg).1; have h2 := (X2.out.grew G1.out).lt; omega)
       have G6 : Hid (Grew w W6) := grew_beside G5.out gr6 (fun g hg => by have h1 := (O5.out.lt g hg).1; have h2 := Below.size (HG0.out.trans G1.out); omega)
       obtain ⟨av, cv, hv'⟩ := N6.out.form
       obtain ⟨lv, HLV⟩ : ∃ lv, Hid ((qs.filter fun q => !(q.1 == (i : Int))).length = lv) := ⟨_, rfl⟩
       rw [HLV.out] at hv'
       subst hv'
       clear v0 v1 ow6 gr6 ob6
       have v0 := B6.out.box.c 0 rfl
       have v1 := B6.out.box.c 1 rfl
       have vf := B6.out.box.f
       have y0 := R6.out.c 0 rfl
       have y1 := R6.out.c 1 rfl
       have yf := R6.out.f
       have hneb : w.heap.size + 1 + 1 ≠ W2.heap.size := by have := ((X2.out.grew G1.out).grew G2.out).lt; omega))
  refine bodyPost_ret (v := .tuple #[.agg #[.slice (some ⟨gb, 0, none⟩) nb capb, .slice av lv cv], .int .i64 0]) (by simp [results, Try.results27, go_sem, *]) rfl ⟨_, rfl, ?_, ?_⟩
  · exact fin_new P6.out N6.out B6.out (X2.out.grew G1.out).lt (Below.size (HG0.out.trans G1.out))
  · have h1 := Below.size (HG0.out.trans G1.out)
    have h2 := Below.size G2.out
    iterate 3 (refine grew_set ?_ (by simp; omega) _)
    exact G6.out

theorem trim_any (d : Value) (ps : List (List Int)) (qs : List (Int × List Int)) (m : Int) (w : World) (hd : DiskAt w d ps qs) :
    Calls Try.prog 27 #[d, .int .i64 m] w fun e w' => ∃ d', e = .returned (.tuple #[d', .int .i64 (wrongAtL ps.length qs m)]) ∧ NewDisk w.heap.size w' d' (trimDP ps qs m) (trimDQ ps qs m) ∧ Grew w w' := by
  by_cases hr : wrongAtL ps.length qs m = 0
  · rw [show trimDP ps qs m = ps.set m.toNat zero8 from if_pos hr, show trimDQ ps qs m = qs.filter (fun q => !(q.1 == m)) from if_pos hr, hr]
    obtain ⟨_, i, rfl, _⟩ := wrongAtL_zero hr
    rw [Int.toNat_natCast]
    exact trim_ok d ps qs i w hd hr
  · rw [show trimDP ps qs m = [] from if_neg hr, show trimDQ ps qs m = [] from if_neg hr]
    exact trim_err d ps qs m w hd hr

end Go.Proofs.Ytbcaagmnmaonbaa
