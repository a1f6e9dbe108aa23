/- Contract of TrimDisk (the document's answer). -/
import Derived.Test.YtbcaagmnmaonbaaRefErr
import Derived.Test.YtbcaagmnmaonbaaTrim
namespace Go.Proofs.Ytbcaagmnmaonbaa
open Go.RowKit

theorem putsAt_one {w : World} {B : Nat} {m b0 b1 b2 b3 b4 b5 b6 b7 : Int} (c : Nat) (h : Box w B [.int .i64 m, .int .u8 b0, .int .u8 b1, .int .u8 b2, .int .u8 b3, .int .u8 b4, .int .u8 b5, .int .u8 b6, .int .u8 b7]) : PutsAt w (.slice (some ⟨B, 0, none⟩) 1 c) [(m, [b0, b1, b2, b3, b4, b5, b6, b7])] := by
  refine ⟨⟨some ⟨B, 0, none⟩, c, rfl, fun h => (by cases h), fun x hx => ?_⟩, by simp, by simp⟩
  cases hx
  intro j u hj
  rw [Addr.add_lit, Nat.zero_add]
  exact h.c j hj

set_option maxRecDepth 100000 in
set_option maxHeartbeats 1000000 in
theorem refTrim_ok (d : Value) (ps : List (List Int)) (qs : List (Int × List Int)) (i : Nat) (w : World) (hd : DiskAt w d ps qs) (hr0 : wrongAtL ps.length qs (i : Int) = 0) :
    Calls Try.prog 28 #[d, .int .i64 (i : Int)] w fun e w' => ∃ d', e = .returned (.tuple #[d', .int .i64 0]) ∧ NewDisk w.heap.size w' d' (ps.set i zero8) (qs.filter fun q => !(q.1 == (i : Int))) ∧ Grew w w' := by
  obtain ⟨hw0, i', hii, hib⟩ := wrongAtL_zero hr0
  obtain ⟨hn80, hq400, _⟩ := wrongL_zero hw0
  have hi : i < ps.length := by omega
  obtain ⟨b, q, rfl, hb, hq⟩ := hd
  have HB : Hid (PagesAt w b ps) := hb
  have HQ : Hid (PutsAt w q qs) := hq
  obtain ⟨ab, cb, rfl, _⟩ := hb.rows
  obtain ⟨aq, cq, rfl, hrq⟩ := hq.rows
  have HRQ : Hid (PutRows w aq qs) := hrq
  have H80 : Hid (ps.length ≤ 80) := hn80
  have H400 : Hid (qs.length ≤ 400) := hq400
  clear hb hq hrq hii hib hr0
  obtain ⟨W0, hW0⟩ : ∃ W0, (w.alloc (.cells #[.slice ab ps.length cb, .slice aq qs.length cq] 36)).alloc (.cells #[.slice none 0 0, .slice none 0 0] 36) = W0 := ⟨_, rfl⟩
  have HG0 : Hid (Grew w W0) := show Grew w W0 by rw [← hW0]; exact (grew_alloc _ _).trans (grew_alloc _ _)
  have X0 : Hid (Box W0 w.heap.size [.slice ab ps.length cb, .slice aq qs.length cq]) := show Box _ _ _ by rw [← hW0]; exact (Box.top w [.slice ab ps.length cb, .slice aq qs.length cq] _ rfl).alloc _
  have X1 : Hid (Box W0 (w.heap.size + 1) [.slice none 0 0, .slice none 0 0]) := show Box _ _ _ by rw [← hW0]; exact Box.top _ [.slice none 0 0, .slice none 0 0] _ (by simp)
  have hcon := refWrong_any ab ps.length cb (.slice aq qs.length cq) qs W0 (HQ.out.grew HG0.out)
  rw [hw0] at hcon
  obtain ⟨nb, HNB⟩ : ∃ nb, Hid (ps.length = nb) := ⟨_, rfl⟩
  obtain ⟨kq, HNQ⟩ : ∃ kq, Hid (qs.length = kq) := ⟨_, rfl⟩
  rw [HNB.out] at hi HB
  rw [HNQ.out] at hq400
  rw [HNB.out, HNQ.out] at hcon hW0 X0 ⊢
  have HW0 : Hid (_ = W0) := hW0
  have h2 : ¬ (i : Int) < 0 := by omega
  have h3 : ¬ (nb : Int) ≤ (i : Int) := by omega
  have h4 : (i : Int) < (nb : Int) := by omega
  clear hW0 hw0 hn80
  go_enter Try.func28, Try.ntmps28
  go_wp2_with (first
    | (go_at_call 19; rw [HW0.out]; refine hcon.mono ?_; clear hcon; rintro e W1 ⟨rfl, g1⟩
       have G1 : Hid (Grew W0 W1) := g1
       have HG1 : Hid (Grew w W1) := HG0.out.trans g1
       have e0 := (X0.out.grew g1).c 0 rfl
       have e1 := (X0.out.grew g1).c 1 rfl
       have el := (X0.out.grew g1).lt)
    | (refine wpList_append_pages rfl (.tmp 26) (.tmp 28) rfl W1.heap.size _ [] rfl (ownPages_made W1) (.slice ab nb cb) ps rfl (HB.out.grew (HG1.out.trans (grew_alloc W1 _))) (by have := H80.out; simp; omega) (by simp) ?_
       intro v W2 ow gr
       have HG12 : Hid (Grew W1 W2) := show Grew W1 W2 from Below.grown (grew_alloc W1 _) gr (by simp) (fun k hk => by cases hk; exact Nat.le_refl _)
       obtain ⟨gb, capb, hbv⟩ : ∃ gb capb, v = .slice (some ⟨gb, 0, none⟩) nb capb := by
         rcases ow.1.2 with ⟨_, h0⟩ | ⟨gv, cap, cur, h0, _⟩
         · rw [List.nil_append, HNB.out] at h0; omega
         · exact ⟨gv, cap, by rw [h0]; simp [HNB.out]⟩
       subst hbv
       have OB : Hid (OwnPages W1.heap.size W2 (.slice (some ⟨gb, 0, none⟩) nb capb) ps) := ow
       clear ow gr e0 e1 el)
    | (refine wpList_store_page rfl (.tmp 35) (.tmp 34) rfl W1.heap.size _ ps (OB.out.grew (grew_alloc W2 (.cells #[.slice (some ⟨gb, 0, none⟩) nb capb, .slice none 0 0] 36))) gb i rfl (by rw [HNB.out]; exact hi) zero8 rfl _ rfl (by simp) rfl ?_
       intro W5 ow5 gr5 _
       have P4 := OB.out.grew (grew_alloc W2 (.cells #[.slice (some ⟨gb, 0, none⟩) nb capb, .slice none 0 0] 36))
       have B4 := BoxT.top W2 [.slice (some ⟨gb, 0, none⟩) nb capb, .slice none 0 0] 36 rfl
       have hgb := P4.lt gb rfl
       have P5 : Hid (OwnPages W1.heap.size W5 (.slice (some ⟨gb, 0, none⟩) nb capb) (ps.set i zero8)) := ow5
       have B5 : Hid (BoxT W5 W2.heap.size 36 [.slice (some ⟨gb, 0, none⟩) nb capb, .slice none 0 0]) := B4.beside gr5 (P4.ne B4)
       have R5 : Hid (Box W5 (w.heap.size + 1) [.slice none 0 0, .slice none 0 0]) := (((X1.out.grew G1.out).grew HG12.out).grew (grew_alloc W2 _)).beside gr5 (fun g hg => by cases hg; have h2 := (X1.out.grew G1.out).lt; omega)
       have D5 := (((X0.out.grew G1.out).grew HG12.out).grew (grew_alloc W2 (.cells #[.slice (some ⟨gb, 0, none⟩) nb capb, .slice none 0 0] 36))).beside gr5 (fun g hg => by cases hg; have h2 := (X0.out.grew G1.out).lt; omega)
       have G5 : Hid (Grew w W5) := grew_beside ((HG1.out.trans HG12.out).trans (grew_alloc _ _)) gr5 (fun g hg => by cases hg; have h2 := Below.size HG1.out; omega)
       have v1 := D5.c 1 rfl
       clear P4 B4 ow5 gr5 hgb D5))
  have HT : Hid (∀ (j : Nat) q, qs[j]? = some q → (qs.take (j + 1)).filter (fun q => !(q.1 == (i : Int))) = (qs.take j).filter (fun q => !(q.1 == (i : Int))) ++ [q].filter (fun q => !(q.1 == (i : Int)))) := show ∀ (j : Nat) q, _ from fun j q h => by
    obtain ⟨hlt, rfl⟩ := List.getElem?_eq_some_iff.1 h
    rw [List.take_succ_eq_append_getElem hlt, List.filter_append]
  have HBB : Hid (w.heap.size + 1 < W1.heap.size) := (X1.out.grew G1.out).lt
  have HW12 : Hid (W1.heap.size ≤ W2.heap.size) := Below.size HG12.out
  clear v1
  go_loopg [9, 39] kq (fun gg _ s39 wr => ∃ (kk : Nat) (qv : Value), kk ≤ kq ∧ kq - kk ≤ gg ∧ s39 = .int .i64 kk ∧ Hid (Grew w wr) ∧ Hid (OwnPages W1.heap.size wr (.slice (some ⟨gb, 0, none⟩) nb capb) (ps.set i zero8)) ∧ Hid (OwnPuts W1.heap.size wr qv ((qs.take kk).filter fun q => !(q.1 == (i : Int)))) ∧ Hid (BoxT wr W2.heap.size 36 [.slice (some ⟨gb, 0, none⟩) nb capb, qv]) ∧ Hid (Box wr (w.heap.size + 1) [.slice none 0 0, .slice none 0 0]))
  case atStart => exact ⟨0, .slice none 0 0, Nat.zero_le _, by omega, rfl, G5.out, P5.out, (show Hid _ from ⟨World.ownsRow_nil _ _ _ _, by simp, by simp⟩), B5.out, R5.out⟩
  case round =>
    obtain ⟨kk, qv, hkk, hg, rfl, GW, OP, OQ, BO, BR⟩ := hrel
    obtain ⟨av, cv, hqv⟩ := OQ.out.form
    obtain ⟨lv, HLV⟩ : ∃ lv, Hid (((qs.take kk).filter fun q => !(q.1 == (i : Int))).length = lv) := ⟨_, rfl⟩
    rw [HLV.out] at hqv
    subst hqv
    by_cases hlt : kk < kq
    · have hltz : (kk : Int) < (kq : Int) := by omega
      obtain ⟨q, HQK⟩ : ∃ q, Hid (qs[kk]? = some q) := ⟨_, List.getElem?_eq_getElem (by rw [HNQ.out]; exact hlt)⟩
      obtain ⟨x, m, a0, a1, a2, a3, a4, a5, a6, a7, rfl, rfl, hl⟩ := HRQ.out kk q HQK.out
      obtain ⟨d0, d1, d2, d3, d4, d5, d6, d7, d8⟩ := hl wr GW.out
      have HST : Hid _ := HT.out kk _ HQK.out
      have HL4 : Hid (((qs.take kk).filter fun q => !(q.1 == (i : Int))).length ≤ 400) := show _ ≤ _ from Nat.le_trans (List.length_filter_le _ _) (Nat.le_trans (by rw [List.length_take]; omega) H400.out)
      clear hl
      by_cases hm : m = (i : Int)
      · subst hm
        have hmb : ((i : Int) != (i : Int)) = false := by simp
        go_wp2
        go_roundg (kq - (kk + 1))
        case measure => omega
        case rel =>
          refine ⟨kk + 1, .slice av lv cv, by omega, by omega, by go_num, GW.out.trans (grew_alloc _ _), OP.out.grew (grew_alloc _ _), ?_, BO.out.grew (grew_alloc _ _), BR.out.alloc _⟩
          show OwnPuts _ _ _ _
          rw [HST.out]
          simp only [List.filter_cons, List.filter_nil, beq_self_eq_true, Bool.not_true, Bool.false_eq_true, if_false, List.append_nil]
          exact OQ.out.grew (grew_alloc _ _)
      · have hmb : (m != (i : Int)) = true := by simpa using hm
        have hmb' : (m == (i : Int)) = false := by simpa using hm
        have HM : Hid ((m == (i : Int)) = false) := hmb'
        have o1 := BO.out.box.c 1 rfl
        have ol := BO.out.box.lt
        clear hm hmb'
        go_wp2_with (
          refine wpList_append_puts rfl (.tmp 48) (.tmp 50) rfl W1.heap.size _ _ rfl (OQ.out.grew ((grew_alloc wr (.cells #[.int .i64 m, .int .u8 a0, .int .u8 a1, .int .u8 a2, .int .u8 a3, .int .u8 a4, .int .u8 a5, .int .u8 a6, .int .u8 a7] 56)).trans (grew_alloc _ (.cells #[.int .i64 m, .int .u8 a0, .int .u8 a1, .int .u8 a2, .int .u8 a3, .int .u8 a4, .int .u8 a5, .int .u8 a6, .int .u8 a7] 56)))) (.slice (some ⟨wr.heap.size + 1, 0, none⟩) 1 1) [(m, [a0, a1, a2, a3, a4, a5, a6, a7])] rfl (putsAt_one 1 (Box.top _ [.int .i64 m, .int .u8 a0, .int .u8 a1, .int .u8 a2, .int .u8 a3, .int .u8 a4, .int .u8 a5, .int .u8 a6, .int .u8 a7] _ (by simp))) (by have := HL4.out; simp; omega) (by have h1 := BO.out.box.lt; have h2 := HW12.out; simp; omega) ?_
          intro v' W7 ow7 gr7
          have g6 := (grew_alloc wr (.cells #[.int .i64 m, .int .u8 a0, .int .u8 a1, .int .u8 a2, .int .u8 a3, .int .u8 a4, .int .u8 a5, .int .u8 a6, .int .u8 a7] 56)).trans (grew_alloc _ (.cells #[.int .i64 m, .int .u8 a0, .int .u8 a1, .int .u8 a2, .int .u8 a3, .int .u8 a4, .int .u8 a5, .int .u8 a6, .int .u8 a7] 56))
          have O6 := OQ.out.grew g6
          have N7 : Hid (OwnPuts W1.heap.size W7 v' (((qs.take kk).filter fun q => !(q.1 == (i : Int))) ++ [(m, [a0, a1, a2, a3, a4, a5, a6, a7])])) := ow7
          have P7 : Hid (OwnPages W1.heap.size W7 (.slice (some ⟨gb, 0, none⟩) nb capb) (ps.set i zero8)) := (OP.out.grew g6).beside O6 gr7
          have B7 : Hid (BoxT W7 W2.heap.size 36 [.slice (some ⟨gb, 0, none⟩) nb capb, .slice av lv cv]) := (BO.out.grew g6).beside gr7 (O6.ne (BO.out.grew g6))
          have R7 : Hid (Box W7 (w.heap.size + 1) [.slice none 0 0, .slice none 0 0]) := (BR.out.grew g6).beside gr7 (fun g hg => by have h1 := (O6.lt g hg).1; have h2 := HBB.out; omega)
          have G7 : Hid (Grew w W7) := grew_beside (GW.out.trans g6) gr7 (fun g hg => by have h1 := (O6.lt g hg).1; have h2 := Below.size HG1.out; omega)
          obtain ⟨av', cv', hv'⟩ := N7.out.form
          obtain ⟨lv', HLV'⟩ : ∃ lv', Hid ((((qs.take kk).filter fun q => !(q.1 == (i : Int))) ++ [(m, [a0, a1, a2, a3, a4, a5, a6, a7])]).length = lv') := ⟨_, rfl⟩
          rw [HLV'.out] at hv'
          subst hv'
          have u1 := B7.out.box.c 1 rfl
          have uf := B7.out.box.f
          clear ow7 gr7 g6 O6 o1 ol)
        go_roundg (kq - (kk + 1))
        case measure => omega
        case rel =>
          refine ⟨kk + 1, .slice av' lv' cv', by omega, by omega, by go_num, grew_set G7.out (by have h1 := HW12.out; have h2 := Below.size HG1.out; show w.heap.size ≤ W2.heap.size; omega) _, P7.out.setOther (P7.out.ne B7.out) _, ?_, B7.out.set 1 _, R7.out.other (by have h1 := HW12.out; have h2 := HBB.out; show w.heap.size + 1 ≠ W2.heap.size; omega) _⟩
          show OwnPuts _ _ _ _
          rw [HST.out]
          simp only [List.filter_cons, List.filter_nil, HM.out, Bool.not_false, if_true]
          exact N7.out.setOther (N7.out.ne B7.out) _
    · have hltz : ¬ (kk : Int) < (kq : Int) := by omega
      have : kk = kq := by omega
      subst this
      have o0 := BO.out.box.c 0 rfl
      have o1 := BO.out.box.c 1 rfl
      have r0 := BR.out.c 0 rfl
      have r1 := BR.out.c 1 rfl
      have rf := BR.out.f
      go_wp2
      refine bodyPost_ret (v := .tuple #[.agg #[.slice (some ⟨gb, 0, none⟩) nb capb, .slice av lv cv], .int .i64 0]) (by simp [results, Try.results28, go_sem, *]) rfl ⟨_, rfl, ?_, ?_⟩
      · have hq' := OQ.out
        rw [List.take_of_length_le (by rw [HNQ.out]; exact Nat.le_refl _)] at hq'
        exact NewDisk.base (OwnDisk.new ⟨_, _, rfl, (OP.out.setCell (a := ⟨w.heap.size + 1, 0, none⟩) HBB.out _).setCell (a := ⟨w.heap.size + 1, 1, none⟩) HBB.out _, (hq'.setCell (a := ⟨w.heap.size + 1, 0, none⟩) HBB.out _).setCell (a := ⟨w.heap.size + 1, 1, none⟩) HBB.out _⟩) (Below.size HG1.out)
      · iterate 2 (refine grew_set ?_ (by simp) _)
        exact GW.out

theorem refTrim_any (d : Value) (ps : List (List Int)) (qs : List (Int × List Int)) (m : Int) (w : World) (hd : DiskAt w d ps qs) :
    Calls Try.prog 28 #[d, .int .i64 m] w fun e w' => ∃ d', e = .returned (.tuple #[d', .int .i64 (wrongAtL ps.length qs m)]) ∧ NewDisk w.heap.size w' d' (trimDP ps qs m) (trimDQ ps qs m) ∧ Grew w w' := by
  by_cases hr : wrongAtL ps.length qs m = 0
  · rw [show trimDP ps qs m = ps.set m.toNat zero8 from if_pos hr, show trimDQ ps qs m = qs.filter (fun q => !(q.1 == m)) from if_pos hr, hr]
    obtain ⟨_, i, rfl, _⟩ := wrongAtL_zero hr
    rw [Int.toNat_natCast]
    exact refTrim_ok d ps qs i w hd hr
  · rw [show trimDP ps qs m = [] from if_neg hr, show trimDQ ps qs m = [] from if_neg hr]
    exact refTrim_err d ps qs m w hd hr

end Go.Proofs.Ytbcaagmnmaonbaa
