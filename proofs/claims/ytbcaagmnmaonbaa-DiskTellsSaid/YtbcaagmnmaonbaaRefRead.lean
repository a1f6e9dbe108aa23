/- Contract of ReadDisk (the document's answer). -/
import Derived.Test.YtbcaagmnmaonbaaRefWrong
namespace Go.Proofs.Ytbcaagmnmaonbaa
open Go.RowKit

theorem pick_snoc {r : List (Int × List Int)} {q : Int × List Int} {m : Int} {d : List Int} : pickQ ((r ++ [q]).reverse.find? (fun q => q.1 == m)) d = if q.1 == m then q.2 else pickQ (r.reverse.find? (fun q => q.1 == m)) d := by
  rw [List.reverse_append]
  simp only [List.reverse_cons, List.reverse_nil, List.nil_append, List.cons_append, List.find?_cons]
  cases hq : (q.1 == m) <;> simp [pickQ]

set_option maxRecDepth 100000 in
set_option maxHeartbeats 1000000 in
theorem refRead_err (d : Value) (ps : List (List Int)) (qs : List (Int × List Int)) (m : Int) (w : World) (hd : DiskAt w d ps qs) (hr0 : ¬ wrongAtL ps.length qs m = 0) :
    Calls Try.prog 24 #[d, .int .i64 m] w fun e w' => e = .returned (.tuple #[.agg (pgc zero8).toArray, .int .i64 (wrongAtL ps.length qs m)]) ∧ Grew w w' := by
  obtain ⟨b, q, rfl, hb, hq⟩ := hd
  have HQ : Hid (PutsAt w q qs) := hq
  obtain ⟨ab, cb, rfl, _⟩ := hb.rows
  obtain ⟨aq, cq, rfl, _⟩ := hq.rows
  clear hb hq
  have HWA : Hid (wrongAtL ps.length qs m = if wrongL ps.length qs = 0 then (if inB m ps.length then 0 else 3) else wrongL ps.length qs) := rfl
  obtain ⟨W0, hW0⟩ : ∃ W0, (w.alloc (.cells #[.slice ab ps.length cb, .slice aq qs.length cq] 36)).alloc (.cells #[.int .u8 0, .int .u8 0, .int .u8 0, .int .u8 0, .int .u8 0, .int .u8 0, .int .u8 0, .int .u8 0] 23) = W0 := ⟨_, rfl⟩
  have HG0 : Hid (Grew w W0) := show Grew w W0 by rw [← hW0]; exact (grew_alloc _ _).trans (grew_alloc _ _)
  have X0 : Hid (Box W0 w.heap.size [.slice ab ps.length cb, .slice aq qs.length cq]) := show Box _ _ _ by rw [← hW0]; exact (Box.top w [.slice ab ps.length cb, .slice aq qs.length cq] _ rfl).alloc _
  have X1 : Hid (Box W0 (w.heap.size + 1) [.int .u8 0, .int .u8 0, .int .u8 0, .int .u8 0, .int .u8 0, .int .u8 0, .int .u8 0, .int .u8 0]) := show Box _ _ _ by rw [← hW0]; exact Box.top _ [.int .u8 0, .int .u8 0, .int .u8 0, .int .u8 0, .int .u8 0, .int .u8 0, .int .u8 0, .int .u8 0] _ (by simp)
  have hcon := refWrong_any ab ps.length cb (.slice aq qs.length cq) qs W0 (HQ.out.grew HG0.out)
  obtain ⟨r, HR⟩ : ∃ r, Hid (wrongL ps.length qs = r) := ⟨_, rfl⟩
  rw [HR.out] at hcon HWA
  obtain ⟨nb, HNB⟩ : ∃ nb, Hid (ps.length = nb) := ⟨_, rfl⟩
  obtain ⟨kq, HNQ⟩ : ∃ kq, Hid (qs.length = kq) := ⟨_, rfl⟩
  rw [HNB.out] at HWA hr0
  rw [HNB.out, HNQ.out] at hcon hW0 X0 ⊢
  have HW0 : Hid (_ = W0) := hW0
  clear hW0
  have hcases : (Hid (wrongAtL nb qs m = r) ∧ (r != 0) = true) ∨ (Hid (wrongAtL nb qs m = 3) ∧ (r != 0) = false ∧ Hid (r = 0) ∧ m < 0) ∨ (Hid (wrongAtL nb qs m = 3) ∧ (r != 0) = false ∧ Hid (r = 0) ∧ ¬ m < 0 ∧ (nb : Int) ≤ m) := by
    by_cases h1 : r = 0
    · subst h1
      rw [if_pos rfl] at HWA
      have hnb : ¬ inB m nb = true := fun e => by rw [HWA.out, if_pos e] at hr0; exact hr0 rfl
      rw [if_neg hnb] at HWA
      unfold inB at hnb
      simp at hnb
      by_cases h2 : m < 0
      · exact .inr (.inl ⟨HWA, rfl, rfl, h2⟩)
      · exact .inr (.inr ⟨HWA, rfl, rfl, h2, hnb (by omega)⟩)
    · rw [if_neg h1] at HWA
      exact .inl ⟨HWA, by simpa using h1⟩
  clear HWA hr0
  rcases hcases with ⟨HE, h1⟩ | ⟨HE, h1, h0, h2⟩ | ⟨HE, h1, h0, h2, h3⟩
  · rw [HE.out]
    go_enter Try.func24, Try.ntmps24
    go_wp2_with (go_at_call 19; rw [HW0.out]; refine hcon.mono ?_; clear hcon; rintro e W1 ⟨rfl, g1⟩
                 have e0 := (X0.out.grew g1).c 0 rfl
                 have Y := X1.out.grew g1
                 have c0 := Y.c 0 rfl
                 have c1 := Y.c 1 rfl
                 have c2 := Y.c 2 rfl
                 have c3 := Y.c 3 rfl
                 have c4 := Y.c 4 rfl
                 have c5 := Y.c 5 rfl
                 have c6 := Y.c 6 rfl
                 have c7 := Y.c 7 rfl
                 have f0 := Y.f
                 clear Y)
    refine bodyPost_ret (v := .tuple #[.agg #[.int .u8 0, .int .u8 0, .int .u8 0, .int .u8 0, .int .u8 0, .int .u8 0, .int .u8 0, .int .u8 0], .int .i64 r]) (by simp [results, Try.results24, go_sem, *]) rfl ⟨rfl, ?_⟩
    have HG1 : Grew w W1 := HG0.out.trans g1
    iterate 8 (refine grew_set ?_ (by simp) _)
    exact HG1
  all_goals
    rw [HE.out]
    have hr := h0.out
    subst hr
    go_enter Try.func24, Try.ntmps24
    go_wp2_with (go_at_call 19; rw [HW0.out]; refine hcon.mono ?_; clear hcon; rintro e W1 ⟨rfl, g1⟩
                 have e0 := (X0.out.grew g1).c 0 rfl
                 have Y := X1.out.grew g1
                 have c0 := Y.c 0 rfl
                 have c1 := Y.c 1 rfl
                 have c2 := Y.c 2 rfl
                 have c3 := Y.c 3 rfl
                 have c4 := Y.c 4 rfl
                 have c5 := Y.c 5 rfl
                 have c6 := Y.c 6 rfl
                 have c7 := Y.c 7 rfl
                 have f0 := Y.f
                 clear Y)
    refine bodyPost_ret (v := .tuple #[.agg #[.int .u8 0, .int .u8 0, .int .u8 0, .int .u8 0, .int .u8 0, .int .u8 0, .int .u8 0, .int .u8 0], .int .i64 3]) (by simp [results, Try.results24, go_sem, *]) rfl ⟨rfl, ?_⟩
    have HG1 : Grew w W1 := HG0.out.trans g1
    iterate 8 (refine grew_set ?_ (by simp) _)
    exact HG1

set_option maxRecDepth 100000 in
set_option maxHeartbeats 1000000 in
theorem refRead_ok (d : Value) (ps : List (List Int)) (qs : List (Int × List Int)) (i : Nat) (w : World) (hd : DiskAt w d ps qs) (hr0 : wrongAtL ps.length qs (i : Int) = 0) :
    Calls Try.prog 24 #[d, .int .i64 (i : Int)] w fun e w' => e = .returned (.tuple #[.agg (pgc (readL ps qs (i : Int))).toArray, .int .i64 0]) ∧ Grew w w' := by
  obtain ⟨hw0, i', hii, hib⟩ := wrongAtL_zero hr0
  have hi : i < ps.length := by omega
  have HRL := readL_of hr0
  simp only [Int.toNat_natCast] at HRL
  obtain ⟨b, q, rfl, hb, hq⟩ := hd
  have HQ : Hid (PutsAt w q qs) := hq
  have hbig : qs.length ≤ 9223372036854775807 := by have := hq.2.2; omega
  obtain ⟨ab, cb, rfl, hrb⟩ := hb.rows
  obtain ⟨aq, cq, rfl, hrq⟩ := hq.rows
  have HRQ : Hid (PutRows w aq qs) := hrq
  obtain ⟨pg, hpg⟩ : ∃ pg, ps[i]? = some pg := ⟨_, List.getElem?_eq_getElem hi⟩
  obtain ⟨xa, b0, b1, b2, b3, b4, b5, b6, b7, hxa, rfl, hrow⟩ := hrb i pg hpg
  subst hxa
  have HROW : Hid (∀ W, Grew w W → PageCells W (xa.add (i * 8)) b0 b1 b2 b3 b4 b5 b6 b7) := hrow
  rw [show ps.getD i zero8 = [b0, b1, b2, b3, b4, b5, b6, b7] from by rw [List.getD_eq_getElem?_getD, hpg]; rfl] at HRL
  have HL : Hid (readL ps qs (i : Int) = pickQ (qs.reverse.find? (fun q => q.1 == (i : Int))) [b0, b1, b2, b3, b4, b5, b6, b7]) := HRL
  clear hb hq hrb hrq hrow hpg HRL
  obtain ⟨W0, hW0⟩ : ∃ W0, (w.alloc (.cells #[.slice (some xa) ps.length cb, .slice aq qs.length cq] 36)).alloc (.cells #[.int .u8 0, .int .u8 0, .int .u8 0, .int .u8 0, .int .u8 0, .int .u8 0, .int .u8 0, .int .u8 0] 23) = W0 := ⟨_, rfl⟩
  have HG0 : Hid (Grew w W0) := show Grew w W0 by rw [← hW0]; exact (grew_alloc _ _).trans (grew_alloc _ _)
  have X0 : Hid (Box W0 w.heap.size [.slice (some xa) ps.length cb, .slice aq qs.length cq]) := show Box _ _ _ by rw [← hW0]; exact (Box.top w [.slice (some xa) ps.length cb, .slice aq qs.length cq] _ rfl).alloc _
  have X1 : Hid (Box W0 (w.heap.size + 1) [.int .u8 0, .int .u8 0, .int .u8 0, .int .u8 0, .int .u8 0, .int .u8 0, .int .u8 0, .int .u8 0]) := show Box _ _ _ by rw [← hW0]; exact Box.top _ [.int .u8 0, .int .u8 0, .int .u8 0, .int .u8 0, .int .u8 0, .int .u8 0, .int .u8 0, .int .u8 0] _ (by simp)
  have hcon := refWrong_any (some xa) ps.length cb (.slice aq qs.length cq) qs W0 (HQ.out.grew HG0.out)
  rw [hw0] at hcon
  obtain ⟨nb, HNB⟩ : ∃ nb, Hid (ps.length = nb) := ⟨_, rfl⟩
  obtain ⟨kq, HNQ⟩ : ∃ kq, Hid (qs.length = kq) := ⟨_, rfl⟩
  rw [HNB.out] at hi
  rw [HNQ.out] at hbig
  rw [HNB.out, HNQ.out] at hcon hW0 X0 ⊢
  have HW0 : Hid (_ = W0) := hW0
  have h2 : ¬ (i : Int) < 0 := by omega
  have h3 : ¬ (nb : Int) ≤ (i : Int) := by omega
  have h4 : (i : Int) < (nb : Int) := by omega
  clear hW0 hw0 hii hib hr0
  go_enter Try.func24, Try.ntmps24
  go_wp2_with (go_at_call 19; rw [HW0.out]; refine hcon.mono ?_; clear hcon; rintro e W1 ⟨rfl, g1⟩
               have G1 : Hid (Grew W0 W1) := g1
               have e0 := (X0.out.grew g1).c 0 rfl
               have e1 := (X0.out.grew g1).c 1 rfl
               have el := (X0.out.grew g1).lt
               obtain ⟨d0, d1, d2, d3, d4, d5, d6, d7⟩ := HROW.out W1 (HG0.out.trans g1))
  have HT : Hid (∀ (j : Nat) q, qs[j]? = some q → qs.take (j + 1) = qs.take j ++ [q]) := show ∀ (j : Nat) q, _ from fun j q h => by
    obtain ⟨hlt, rfl⟩ := List.getElem?_eq_some_iff.1 h
    exact List.take_succ_eq_append_getElem hlt
  clear e0 e1 el d0 d1 d2 d3 d4 d5 d6 d7
  go_loopg [9, 34] kq (fun gg _ s34 wr => ∃ (kk : Nat) (c0 c1 c2 c3 c4 c5 c6 c7 : Int), kk ≤ kq ∧ kq - kk ≤ gg ∧ s34 = .int .i64 kk ∧ Hid (Grew w wr) ∧ Hid (Box wr W1.heap.size [.int .u8 c0, .int .u8 c1, .int .u8 c2, .int .u8 c3, .int .u8 c4, .int .u8 c5, .int .u8 c6, .int .u8 c7]) ∧ Hid (Box wr (w.heap.size + 1) [.int .u8 0, .int .u8 0, .int .u8 0, .int .u8 0, .int .u8 0, .int .u8 0, .int .u8 0, .int .u8 0]) ∧ Hid (pickQ ((qs.take kk).reverse.find? (fun q => q.1 == (i : Int))) [b0, b1, b2, b3, b4, b5, b6, b7] = [c0, c1, c2, c3, c4, c5, c6, c7]))
  case atStart => exact ⟨0, b0, b1, b2, b3, b4, b5, b6, b7, Nat.zero_le _, by omega, rfl, (HG0.out.trans G1.out).trans (grew_alloc _ _), Box.top W1 [.int .u8 b0, .int .u8 b1, .int .u8 b2, .int .u8 b3, .int .u8 b4, .int .u8 b5, .int .u8 b6, .int .u8 b7] _ rfl, (X1.out.grew G1.out).alloc _, rfl⟩
  case round =>
    obtain ⟨kk, c0, c1, c2, c3, c4, c5, c6, c7, hkk, hg, rfl, GW, BP, BR, HPK⟩ := hrel
    have hW1w : w.heap.size + 2 ≤ W1.heap.size := by have h1 := Below.size G1.out; have h2 := X1.out.lt; omega
    by_cases hlt : kk < kq
    · have hltz : (kk : Int) < (kq : Int) := by omega
      obtain ⟨q, HQK⟩ : ∃ q, Hid (qs[kk]? = some q) := ⟨_, List.getElem?_eq_getElem (by rw [HNQ.out]; exact hlt)⟩
      obtain ⟨x, m, a0, a1, a2, a3, a4, a5, a6, a7, rfl, rfl, hl⟩ := HRQ.out kk q HQK.out
      obtain ⟨d0, d1, d2, d3, d4, d5, d6, d7, d8⟩ := hl wr GW.out
      have HST := HT.out kk _ HQK.out
      clear hl
      by_cases hm : m = (i : Int)
      · subst hm
        have k0 := BP.out.c 0 rfl
        have k1 := BP.out.c 1 rfl
        have k2 := BP.out.c 2 rfl
        have k3 := BP.out.c 3 rfl
        have k4 := BP.out.c 4 rfl
        have k5 := BP.out.c 5 rfl
        have k6 := BP.out.c 6 rfl
        have k7 := BP.out.c 7 rfl
        have kf := BP.out.f
        have kl := BP.out.lt
        have HST' : Hid (pickQ ((qs.take (kk + 1)).reverse.find? (fun q => q.1 == (i : Int))) [b0, b1, b2, b3, b4, b5, b6, b7] = [a0, a1, a2, a3, a4, a5, a6, a7]) := show _ = _ by rw [HST, pick_snoc]; simp
        clear HST
        go_wp2
        go_roundg (kq - (kk + 1))
        case measure => omega
        case rel =>
          refine ⟨kk + 1, a0, a1, a2, a3, a4, a5, a6, a7, by omega, by omega, by go_num, ?_, ?_, ?_, HST'.out⟩
          · show Grew _ _
            refine Grew.trans ?_ (grew_alloc _ _)
            iterate 8 (refine grew_set ?_ (by simp; omega) _)
            exact GW.out
          · exact ((((((((BP.out.set 0 _).set 1 _).set 2 _).set 3 _).set 4 _).set 5 _).set 6 _).set 7 _).alloc _
          · show Box _ _ _
            refine Box.alloc ?_ _
            iterate 8 (refine Box.other ?_ (by simp; omega) _)
            exact BR.out
      · have hmb : (m == (i : Int)) = false := by simpa using hm
        have HST' : Hid (pickQ ((qs.take (kk + 1)).reverse.find? (fun q => q.1 == (i : Int))) [b0, b1, b2, b3, b4, b5, b6, b7] = [c0, c1, c2, c3, c4, c5, c6, c7]) := show _ = _ by rw [HST, pick_snoc]; simp only [hmb]; exact HPK.out
        clear HST hm
        go_wp2
        go_roundg (kq - (kk + 1))
        case measure => omega
        case rel => exact ⟨kk + 1, c0, c1, c2, c3, c4, c5, c6, c7, by omega, by omega, by go_num, GW.out.trans (grew_alloc _ _), BP.out.alloc _, BR.out.alloc _, HST'.out⟩
    · have hltz : ¬ (kk : Int) < (kq : Int) := by omega
      have : kk = kq := by omega
      subst this
      have k0 := BP.out.c 0 rfl
      have k1 := BP.out.c 1 rfl
      have k2 := BP.out.c 2 rfl
      have k3 := BP.out.c 3 rfl
      have k4 := BP.out.c 4 rfl
      have k5 := BP.out.c 5 rfl
      have k6 := BP.out.c 6 rfl
      have k7 := BP.out.c 7 rfl
      have r0 := BR.out.c 0 rfl
      have r1 := BR.out.c 1 rfl
      have r2 := BR.out.c 2 rfl
      have r3 := BR.out.c 3 rfl
      have r4 := BR.out.c 4 rfl
      have r5 := BR.out.c 5 rfl
      have r6 := BR.out.c 6 rfl
      have r7 := BR.out.c 7 rfl
      have rf := BR.out.f
      have HF : Hid (readL ps qs (i : Int) = [c0, c1, c2, c3, c4, c5, c6, c7]) := show _ = _ by rw [HL.out, ← HPK.out, List.take_of_length_le (by rw [HNQ.out]; exact Nat.le_refl _)]
      go_wp2
      refine bodyPost_ret (v := .tuple #[.agg #[.int .u8 c0, .int .u8 c1, .int .u8 c2, .int .u8 c3, .int .u8 c4, .int .u8 c5, .int .u8 c6, .int .u8 c7], .int .i64 0]) (by simp [results, Try.results24, go_sem, *]) rfl ⟨by rw [HF.out]; rfl, ?_⟩
      iterate 8 (refine grew_set ?_ (by simp) _)
      exact GW.out

theorem refRead_any (d : Value) (ps : List (List Int)) (qs : List (Int × List Int)) (m : Int) (w : World) (hd : DiskAt w d ps qs) :
    Calls Try.prog 24 #[d, .int .i64 m] w fun e w' => e = .returned (.tuple #[.agg (pgc (readL ps qs m)).toArray, .int .i64 (wrongAtL ps.length qs m)]) ∧ Grew w w' := by
  by_cases hr : wrongAtL ps.length qs m = 0
  · obtain ⟨_, i, rfl, _⟩ := wrongAtL_zero hr
    rw [hr]
    exact refRead_ok d ps qs i w hd hr
  · rw [show readL ps qs m = zero8 from if_neg hr]
    exact refRead_err d ps qs m w hd hr

end Go.Proofs.Ytbcaagmnmaonbaa
