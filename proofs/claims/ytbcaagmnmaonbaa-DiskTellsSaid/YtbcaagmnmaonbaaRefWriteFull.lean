/- Contract of WriteDisk (the document's answer), with a full queue. -/
import Derived.Test.YtbcaagmnmaonbaaRefWrite
namespace Go.Proofs.Ytbcaagmnmaonbaa
open Go.RowKit

/-- Without its first. -/
theorem PutsAt.tail {w : World} {g n c : Nat} {m c0 c1 c2 c3 c4 c5 c6 c7 : Int} {r : List (Int × List Int)} (h : PutsAt w (.slice (some ⟨g, 0, none⟩) n c) ((m, [c0, c1, c2, c3, c4, c5, c6, c7]) :: r)) {n' c' : Nat} (hn : r.length = n') : PutsAt w (.slice (some ⟨g, 9, none⟩) n' c') r := by
  obtain ⟨⟨a, cc, he, _, hc⟩, h8, hb⟩ := h
  cases he
  refine ⟨⟨some ⟨g, 9, none⟩, c', by rw [hn], fun e => (by cases e), fun x hx => ?_⟩, fun q hq => h8 q (List.mem_cons_of_mem _ hq), by simp at hb; omega⟩
  cases hx
  intro j u hj
  have := hc _ rfl (9 + j) u (by rw [List.flatMap_cons, List.getElem?_append_right (by simp [ptc, pgc])]; simpa [ptc, pgc] using hj)
  rw [Addr.add_lit] at this ⊢
  rwa [Nat.zero_add] at this

set_option maxRecDepth 100000 in
set_option maxHeartbeats 1000000 in
theorem refWrite_full (d : Value) (ps : List (List Int)) (qs : List (Int × List Int)) (m : Int) (p0 p1 p2 p3 p4 p5 p6 p7 : Int) (w : World) (hd : DiskAt w d ps qs) (hr0 : wrongAtL ps.length qs m = 0) (hfull : qs.length = 400) :
    Calls Try.prog 26 #[d, .int .i64 m, .agg #[.int .u8 p0, .int .u8 p1, .int .u8 p2, .int .u8 p3, .int .u8 p4, .int .u8 p5, .int .u8 p6, .int .u8 p7]] w fun e w' => ∃ d', e = .returned (.tuple #[d', .int .i64 0]) ∧ NewDisk w.heap.size w' d' (writeB ps qs) (writeQ qs m [p0, p1, p2, p3, p4, p5, p6, p7]) ∧ Grew w w' := by
  obtain ⟨hw0, i, hmi, hib⟩ := wrongAtL_zero hr0
  obtain ⟨hn80, hq400, hin⟩ := wrongL_zero hw0
  have HIN : Hid (∀ q ∈ qs, ∃ i : Nat, q.1 = (i : Int) ∧ i < ps.length) := hin
  obtain ⟨b, q, rfl, hb, hq⟩ := hd
  have HB : Hid (PagesAt w b ps) := hb
  have HQ : Hid (PutsAt w q qs) := hq
  obtain ⟨ab, cb, rfl, _⟩ := hb.rows
  obtain ⟨aq, cq, rfl, _⟩ := hq.rows
  have H80 : Hid (ps.length ≤ 80) := hn80
  have H400 : Hid (qs.length = 400) := hfull
  clear hin
  clear hb hq hr0 hfull hq400 hn80
  obtain ⟨W0, hW0⟩ : ∃ W0, ((w.alloc (.cells #[.slice ab ps.length cb, .slice aq qs.length cq] 36)).alloc (.cells #[.int .u8 p0, .int .u8 p1, .int .u8 p2, .int .u8 p3, .int .u8 p4, .int .u8 p5, .int .u8 p6, .int .u8 p7] 23)).alloc (.cells #[.slice none 0 0, .slice none 0 0] 36) = W0 := ⟨_, rfl⟩
  have HG0 : Hid (Grew w W0) := show Grew w W0 by rw [← hW0]; exact ((grew_alloc _ _).trans (grew_alloc _ _)).trans (grew_alloc _ _)
  have X0 : Hid (Box W0 w.heap.size [.slice ab ps.length cb, .slice aq qs.length cq]) := show Box _ _ _ by rw [← hW0]; exact ((Box.top w [.slice ab ps.length cb, .slice aq qs.length cq] _ rfl).alloc _).alloc _
  have X1 : Hid (Box W0 (w.heap.size + 1) [.int .u8 p0, .int .u8 p1, .int .u8 p2, .int .u8 p3, .int .u8 p4, .int .u8 p5, .int .u8 p6, .int .u8 p7]) := show Box _ _ _ by rw [← hW0]; exact (Box.top _ [.int .u8 p0, .int .u8 p1, .int .u8 p2, .int .u8 p3, .int .u8 p4, .int .u8 p5, .int .u8 p6, .int .u8 p7] _ (by simp)).alloc _
  have X2 : Hid (Box W0 (w.heap.size + 1 + 1) [.slice none 0 0, .slice none 0 0]) := show Box _ _ _ by rw [← hW0]; exact Box.top _ [.slice none 0 0, .slice none 0 0] _ (by simp)
  have hcon := refWrong_any ab ps.length cb (.slice aq qs.length cq) qs W0 (HQ.out.grew HG0.out)
  rw [hw0] at hcon
  obtain ⟨nb, HNB⟩ : ∃ nb, Hid (ps.length = nb) := ⟨_, rfl⟩
  obtain ⟨kq, HNQ⟩ : ∃ kq, Hid (qs.length = kq) := ⟨_, rfl⟩
  rw [HNB.out] at hib HB
  rw [HNQ.out] at HQ
  rw [HNB.out, HNQ.out] at hcon hW0 X0 ⊢
  have HW0 : Hid (_ = W0) := hW0
  have h2 : ¬ m < 0 := by omega
  have h3 : ¬ (nb : Int) ≤ m := by omega
  clear hW0 hw0 hmi hib
  go_enter Try.func26, Try.ntmps26
  go_wp2_with (go_at_call 19; rw [HW0.out]; refine hcon.mono ?_; clear hcon; rintro e W1 ⟨rfl, g1⟩
               have G1 : Hid (Grew W0 W1) := g1
               have HG1 : Hid (Grew w W1) := HG0.out.trans g1
               have e0 := (X0.out.grew g1).c 0 rfl
               have e1 := (X0.out.grew g1).c 1 rfl)
  have A1 := X1.out.grew G1.out
  have hx1 : ∀ x : GrownW W1, x.world.cell? ⟨w.heap.size, 1, none⟩ = some (.slice aq kq cq) := fun x => ((X0.out.grew G1.out).grew x.grew).c 1 rfl
  have hy0 : ∀ x : GrownW W1, x.world.cell? ⟨w.heap.size + 1, 0, none⟩ = some (.int .u8 p0) := fun x => (A1.grew x.grew).c 0 rfl
  have hy1 : ∀ x : GrownW W1, x.world.cell? ⟨w.heap.size + 1, 1, none⟩ = some (.int .u8 p1) := fun x => (A1.grew x.grew).c 1 rfl
  have hy2 : ∀ x : GrownW W1, x.world.cell? ⟨w.heap.size + 1, 2, none⟩ = some (.int .u8 p2) := fun x => (A1.grew x.grew).c 2 rfl
  have hy3 : ∀ x : GrownW W1, x.world.cell? ⟨w.heap.size + 1, 3, none⟩ = some (.int .u8 p3) := fun x => (A1.grew x.grew).c 3 rfl
  have hy4 : ∀ x : GrownW W1, x.world.cell? ⟨w.heap.size + 1, 4, none⟩ = some (.int .u8 p4) := fun x => (A1.grew x.grew).c 4 rfl
  have hy5 : ∀ x : GrownW W1, x.world.cell? ⟨w.heap.size + 1, 5, none⟩ = some (.int .u8 p5) := fun x => (A1.grew x.grew).c 5 rfl
  have hy6 : ∀ x : GrownW W1, x.world.cell? ⟨w.heap.size + 1, 6, none⟩ = some (.int .u8 p6) := fun x => (A1.grew x.grew).c 6 rfl
  have hy7 : ∀ x : GrownW W1, x.world.cell? ⟨w.heap.size + 1, 7, none⟩ = some (.int .u8 p7) := fun x => (A1.grew x.grew).c 7 rfl
  have hne : Nonempty (GrownW W1) := ⟨⟨_, Grew.refl _⟩⟩
  clear e0 e1 A1
  refine wp_lax_tail 8 [(0, ⟨fun v => ∃ g, v = .slice (some ⟨g, 0, none⟩) 0 0, fun v w' => OwnPuts W1.heap.size w' v []⟩), (3, ⟨fun v => ∃ a c, v = .slice a kq c, fun v w' => OwnPuts W1.heap.size w' v qs⟩), (7, ⟨fun v => ∃ B, v = .slice (some ⟨B, 0, none⟩) 1 1, fun v w' => PutsAt w' v [(m, [p0, p1, p2, p3, p4, p5, p6, p7])]⟩)] mixed (by kernel_rfl) rfl rfl (by decide) ?_ ?_ ?_
  · intro x hx
    simp at hx
    rcases hx with rfl | rfl | rfl
    · exact ⟨_, 0, rfl⟩
    · exact ⟨_, none, 0, rfl⟩
    · exact ⟨_, 0, rfl⟩
  · intro x hx
    simp at hx
    rcases hx with rfl | rfl | rfl
    · intro v w1 w2 hg h; exact h.grew hg
    · intro v w1 w2 hg h; exact h.grew hg
    · intro v w1 w2 hg h; exact h.grew hg
  simp only [List.take, List.drop]
  refine lax_spec rfl rfl (fun w' hg hF => ?_) (fun v1 hv => ?_)
  · refine Does.step (v := .slice (some ⟨w'.heap.size, 0, none⟩) 0 0) (w' := w'.alloc (.cells #[] 56)) (by simp only [execOp]; go_simp) ⟨grew_alloc _ _, ⟨_, rfl⟩, (ownPuts_made w').base (Below.size hg)⟩
  obtain ⟨g27, rfl⟩ := hv
  simp only [Act.put, List.setIfInBounds_toArray, List.set_cons_succ, List.set_cons_zero]
  iterate 2 (refine lax_quiet rfl rfl rfl (fun K hK => ?_); go_big_quiet_op; refine hK _ ?_; clear hK K)
  refine lax_spec rfl rfl (fun w' hg hF => ?_) (fun v1 hv => ?_)
  · have h0 : OwnPuts W1.heap.size w' (.slice (some ⟨g27, 0, none⟩) 0 0) [] := hF 0 (by kernel_rfl)
    obtain ⟨v', w2, hrun, ho, hg2⟩ := run_append_new (w := w') 34 h0 (.slice aq kq cq) qs (HQ.out.grew (HG1.out.trans hg)) (Below.size hg)
    obtain ⟨a', c', rfl⟩ := ho.form
    refine Does.step (v := .slice a' qs.length c') (w' := w2) ?_ ⟨hg2, ⟨a', c', by rw [HNQ.out]⟩, ho⟩
    simp only [execOp, resolve, invoke, builtin, pure_bind, Sem.run_bind, Sem.run_pure, List.map_toArray, List.map_cons, List.map_nil]
    exact Eq.trans (congrArg (fun r => Result.andThen r (fun a w' => Result.ok (Next.value a) w')) hrun) rfl
  obtain ⟨a30, c30, rfl⟩ := hv
  simp only [Act.put, List.setIfInBounds_toArray, List.set_cons_succ, List.set_cons_zero]
  iterate 3 (refine lax_quiet rfl rfl rfl (fun K hK => ?_); go_big_quiet_op; refine hK _ ?_; clear hK K)
  refine lax_spec rfl rfl (fun w' hg hF => ?_) (fun v1 hv => ?_)
  · refine Does.step (v := .slice (some ⟨w'.heap.size, 0, none⟩) 1 1) (w' := w'.alloc (.cells #[.int .i64 m, .int .u8 p0, .int .u8 p1, .int .u8 p2, .int .u8 p3, .int .u8 p4, .int .u8 p5, .int .u8 p6, .int .u8 p7] 56)) (by simp only [execOp]; go_simp) ⟨grew_alloc _ _, ⟨_, rfl⟩, putsAt_one 1 (Box.top w' [.int .i64 m, .int .u8 p0, .int .u8 p1, .int .u8 p2, .int .u8 p3, .int .u8 p4, .int .u8 p5, .int .u8 p6, .int .u8 p7] _ rfl)⟩
  obtain ⟨g34, rfl⟩ := hv
  simp only [Act.put, List.setIfInBounds_toArray, List.set_cons_succ, List.set_cons_zero]
  refine lax_nil fun w2 hg2 hF => ?_
  have O30 : Hid (OwnPuts W1.heap.size w2 (.slice a30 kq c30) qs) := hF 3
  have O34 : Hid (PutsAt w2 (.slice (some ⟨g34, 0, none⟩) 1 1) [(m, [p0, p1, p2, p3, p4, p5, p6, p7])]) := hF 7
  have G2 : Hid (Grew W1 w2) := hg2
  clear hF hg2 hx1 hy0 hy1 hy2 hy3 hy4 hy5 hy6 hy7 hne
  have HQ4 : Hid (kq ≤ 400) := show _ ≤ _ by have h1 := H400.out; have h2 := HNQ.out; omega
  refine wpList_append_puts rfl (.tmp 30) (.tmp 34) rfl W1.heap.size _ qs rfl O30.out (.slice (some ⟨g34, 0, none⟩) 1 1) [(m, [p0, p1, p2, p3, p4, p5, p6, p7])] rfl O34.out (by have h1 := HQ4.out; have h2 := HNQ.out; simp; omega) (Below.size G2.out) ?_
  intro v35 W3 ow3 gr3
  obtain ⟨a35, c35, hv35⟩ := ow3.form
  have HL35 : Hid ((qs ++ [(m, [p0, p1, p2, p3, p4, p5, p6, p7])]).length = kq + 1) := show _ = _ by rw [← HNQ.out]; simp
  rw [HL35.out] at hv35
  subst hv35
  have O3 : Hid (OwnPuts W1.heap.size W3 (.slice a35 (kq + 1) c35) (qs ++ [(m, [p0, p1, p2, p3, p4, p5, p6, p7])])) := ow3
  have G3 : Hid (Grew W1 W3) := show Grew W1 W3 from grew_beside G2.out gr3 (fun g hg => (O30.out.lt g hg).1)
  clear ow3 gr3
  have e0 := ((X0.out.grew G1.out).grew G3.out).c 0 rfl
  have el := ((X0.out.grew G1.out).grew G3.out).lt
  go_wp2_with (
       refine wpList_append_pages rfl (.tmp 36) (.tmp 38) rfl W3.heap.size _ [] rfl (ownPages_made W3) (.slice ab nb cb) ps rfl (HB.out.grew ((HG1.out.trans G3.out).trans (grew_alloc W3 _))) (by have := H80.out; simp; omega) (by simp) ?_
       intro v W4 ow4 gr4
       have G4 : Hid (Grew W3 W4) := show Grew W3 W4 from Below.grown (grew_alloc W3 _) gr4 (by simp) (fun k hk => by cases hk; exact Nat.le_refl _)
       obtain ⟨gb, capb, hbv⟩ : ∃ gb capb, v = .slice gb nb capb := by
         obtain ⟨x, y, h⟩ := ow4.form
         exact ⟨x, y, by rw [h]; simp [HNB.out]⟩
       subst hbv
       have OB : Hid (OwnPages W3.heap.size W4 (.slice gb nb capb) ps) := ow4
       clear ow4 gr4 e0 el)
  have X24 := ((X2.out.grew G1.out).grew G3.out).grew G4.out
  have O4 : Hid (OwnPuts W1.heap.size W4 (.slice a35 (kq + 1) c35) (qs ++ [(m, [p0, p1, p2, p3, p4, p5, p6, p7])])) := O3.out.grew G4.out
  have HK : Hid (kq = 400) := HNQ.out.symm.trans H400.out
  obtain ⟨q0, r, hqr⟩ : ∃ q0 r, qs = q0 :: r := by
    cases qs with
    | nil => exact absurd H400.out (by simp)
    | cons q0 r => exact ⟨q0, r, rfl⟩
  obtain ⟨mi, l⟩ := q0
  obtain ⟨i1, hmi1, hib1⟩ := HIN.out (mi, l) (by rw [hqr]; simp)
  simp only at hmi1
  subst hmi1
  obtain ⟨c0, c1, c2, c3, c4, c5, c6, c7, rfl⟩ := len8 l (HQ.out.2.1 ((i1 : Int), l) (by rw [hqr]; simp))
  rw [HNB.out] at hib1
  have hi1z : (i1 : Int) < (nb : Int) := by omega
  have HR : Hid (r.length = 399) := show r.length = 399 by have := H400.out; rw [hqr] at this; simpa using this
  have HB' : Hid (writeB ps qs = ps.set i1 [c0, c1, c2, c3, c4, c5, c6, c7]) := show writeB _ _ = _ by unfold writeB; rw [if_pos H400.out, hqr]; rfl
  have HQ2 : Hid (writeQ qs m [p0, p1, p2, p3, p4, p5, p6, p7] = r ++ [(m, [p0, p1, p2, p3, p4, p5, p6, p7])]) := show writeQ _ _ _ = _ by unfold writeQ; rw [if_pos H400.out, hqr]; rfl
  have O4' : Hid (OwnPuts W1.heap.size W4 (.slice a35 (kq + 1) c35) (((i1 : Int), [c0, c1, c2, c3, c4, c5, c6, c7]) :: (r ++ [(m, [p0, p1, p2, p3, p4, p5, p6, p7])]))) := show OwnPuts _ _ _ _ by have := O4.out; rw [hqr] at this; exact this
  have k400 := HK.out
  subst k400
  obtain ⟨gq, capq, hqv⟩ : ∃ gq capq, Value.slice a35 (400 + 1) c35 = .slice (some ⟨gq, 0, none⟩) (400 + 1) capq := by
    rcases O4'.out.1.2 with ⟨_, h0⟩ | ⟨gv, cap, cur, h0, _⟩
    · simp at h0
    · exact ⟨gv, cap, by rw [h0]; simp [HR.out]⟩
  cases hqv
  obtain ⟨gb, hgb⟩ : ∃ g, gb = some ⟨g, 0, none⟩ := by
    rcases OB.out.1.2 with ⟨_, h0⟩ | ⟨gv, cap, cur, h0, _⟩
    · have := HNB.out; omega
    · exact ⟨gv, by cases h0; rfl⟩
  subst hgb
  have hcap : 401 ≤ c35 := by
    rcases O4'.out.1.2 with ⟨h0, _⟩ | ⟨gv, cap, cur, h0, _, _, hnc, _⟩
    · injection h0 with h1; cases h1
    · injection h0 with h1 h2 h3; simp [HR.out] at hnc; omega
  have hcap1 : ¬ c35 - 1 = 0 := by omega
  clear hqr
  go_loopg [9] 1 (fun gg s9 wr => (gg = 1 ∧ s9 = .slice (some ⟨gq, 0, none⟩) 401 c35 ∧ W4 = wr) ∨ (s9 = .slice (some ⟨gq, 9, none⟩) 400 (c35 - 1) ∧ Hid (Grew w wr) ∧ Hid (OwnPages W3.heap.size wr (.slice (some ⟨gb, 0, none⟩) nb capb) (ps.set i1 [c0, c1, c2, c3, c4, c5, c6, c7])) ∧ Hid (OwnPuts W1.heap.size wr (.slice (some ⟨gq, 0, none⟩) 401 c35) (((i1 : Int), [c0, c1, c2, c3, c4, c5, c6, c7]) :: (r ++ [(m, [p0, p1, p2, p3, p4, p5, p6, p7])]))) ∧ Hid (Box wr (w.heap.size + 1 + 1) [.slice none 0 0, .slice none 0 0])))
  case atStart => exact Or.inl ⟨rfl, rfl, rfl⟩
  case round =>
    rcases hrel with ⟨rfl, rfl, rfl⟩ | ⟨rfl, GW, OP, OQ, BR⟩
    · obtain ⟨k0, k1, k2, k3, k4, k5, k6, k7, k8⟩ : (∀ x : GrownW W4, x.world.cell? ⟨gq, 0, none⟩ = some (.int .i64 (i1 : Int))) ∧ (∀ x : GrownW W4, x.world.cell? ⟨gq, 1, none⟩ = some (.int .u8 c0)) ∧ (∀ x : GrownW W4, x.world.cell? ⟨gq, 2, none⟩ = some (.int .u8 c1)) ∧ (∀ x : GrownW W4, x.world.cell? ⟨gq, 3, none⟩ = some (.int .u8 c2)) ∧ (∀ x : GrownW W4, x.world.cell? ⟨gq, 4, none⟩ = some (.int .u8 c3)) ∧ (∀ x : GrownW W4, x.world.cell? ⟨gq, 5, none⟩ = some (.int .u8 c4)) ∧ (∀ x : GrownW W4, x.world.cell? ⟨gq, 6, none⟩ = some (.int .u8 c5)) ∧ (∀ x : GrownW W4, x.world.cell? ⟨gq, 7, none⟩ = some (.int .u8 c6)) ∧ (∀ x : GrownW W4, x.world.cell? ⟨gq, 8, none⟩ = some (.int .u8 c7)) :=
        ⟨fun x => ((O4'.out.grew x.grew).head).1, fun x => ((O4'.out.grew x.grew).head).2.1, fun x => ((O4'.out.grew x.grew).head).2.2.1, fun x => ((O4'.out.grew x.grew).head).2.2.2.1, fun x => ((O4'.out.grew x.grew).head).2.2.2.2.1, fun x => ((O4'.out.grew x.grew).head).2.2.2.2.2.1, fun x => ((O4'.out.grew x.grew).head).2.2.2.2.2.2.1, fun x => ((O4'.out.grew x.grew).head).2.2.2.2.2.2.2.1, fun x => ((O4'.out.grew x.grew).head).2.2.2.2.2.2.2.2⟩
      have hne : Nonempty (GrownW W4) := ⟨⟨_, Grew.refl _⟩⟩
      go_wp2
      refine wp_lax_tail 9 [] mixed (by kernel_rfl) rfl rfl (by decide) (fun x hx => by simp at hx) (fun x hx => by simp at hx) ?_
      simp only [List.take, List.drop]
      iterate 9 (refine lax_quiet rfl rfl rfl (fun K hK => ?_); go_big_quiet_op; refine hK _ ?_; clear hK K)
      refine lax_nil fun w5 hg5 hF => ?_
      have G5 : Hid (Grew W4 w5) := hg5
      clear hF hg5 k0 k1 k2 k3 k4 k5 k6 k7 k8 hne
      go_wp2_with (
        refine wpList_store_page rfl (.tmp 52) (.tmp 51) rfl W3.heap.size _ ps (OB.out.grew G5.out) gb i1 rfl (by rw [HNB.out]; exact hib1) [c0, c1, c2, c3, c4, c5, c6, c7] rfl _ rfl (by simp) rfl ?_
        intro W6 ow6 gr6 _
        have P5 := OB.out.grew G5.out
        have hgb := P5.lt gb rfl
        have P6 : Hid (OwnPages W3.heap.size W6 (.slice (some ⟨gb, 0, none⟩) nb capb) (ps.set i1 [c0, c1, c2, c3, c4, c5, c6, c7])) := ow6
        have Q6 : Hid (OwnPuts W1.heap.size W6 (.slice (some ⟨gq, 0, none⟩) 401 c35) (((i1 : Int), [c0, c1, c2, c3, c4, c5, c6, c7]) :: (r ++ [(m, [p0, p1, p2, p3, p4, p5, p6, p7])]))) := (O4'.out.grew G5.out).beside (P5.base (Below.size G3.out)) gr6
        have R6 : Hid (Box W6 (w.heap.size + 1 + 1) [.slice none 0 0, .slice none 0 0]) := (X24.grew G5.out).beside gr6 (fun g hg => by cases hg; have h2 := ((X2.out.grew G1.out).grew G3.out).lt; omega)
        have G6 : Hid (Grew w W6) := grew_beside (((HG1.out.trans G3.out).trans G4.out).trans G5.out) gr6 (fun g hg => by cases hg; have h2 := Below.size (HG1.out.trans G3.out); omega)
        clear ow6 gr6 P5 hgb)
      go_roundg 0
      case measure => omega
      case rel => exact Or.inr ⟨rfl, G6.out, P6.out, Q6.out, R6.out⟩
    · have r0 := BR.out.c 0 rfl
      have r1 := BR.out.c 1 rfl
      have rf := BR.out.f
      go_wp2
      have hb2 : w.heap.size + 1 + 1 < W1.heap.size := (X2.out.grew G1.out).lt
      refine bodyPost_ret (v := .tuple #[.agg #[.slice (some ⟨gb, 0, none⟩) nb capb, .slice (some ⟨gq, 9, none⟩) 400 (c35 - 1)], .int .i64 0]) (by simp [results, Try.results26, go_sem, *]) rfl ⟨_, rfl, ?_, ?_⟩
      · rw [HB'.out, HQ2.out]
        have ob := ((OP.out.base (Below.size G3.out)).setCell (a := ⟨w.heap.size + 1 + 1, 0, none⟩) hb2 (.slice (some ⟨gb, 0, none⟩) nb capb)).setCell (a := ⟨w.heap.size + 1 + 1, 1, none⟩) hb2 (.slice (some ⟨gq, 9, none⟩) 400 (c35 - 1))
        have oq := (OQ.out.setCell (a := ⟨w.heap.size + 1 + 1, 0, none⟩) hb2 (.slice (some ⟨gb, 0, none⟩) nb capb)).setCell (a := ⟨w.heap.size + 1 + 1, 1, none⟩) hb2 (.slice (some ⟨gq, 9, none⟩) 400 (c35 - 1))
        exact NewDisk.base ⟨_, _, rfl, ob.at, PutsAt.tail oq.at (by simp [HR.out]), ob.fresh, fun x n c e => by cases e; exact (oq.fresh _ _ _ rfl : _ ≤ gq)⟩ (Below.size HG1.out)
      · iterate 2 (refine grew_set ?_ (by simp; omega) _)
        exact GW.out

theorem refWrite_any (d : Value) (ps : List (List Int)) (qs : List (Int × List Int)) (m : Int) (p : List Int) (hp : p.length = 8) (w : World) (hd : DiskAt w d ps qs) :
    Calls Try.prog 26 #[d, .int .i64 m, .agg (pgc p).toArray] w fun e w' => ∃ d', e = .returned (.tuple #[d', .int .i64 (wrongAtL ps.length qs m)]) ∧ NewDisk w.heap.size w' d' (writeDP ps qs m) (writeDQ ps qs m p) ∧ Grew w w' := by
  obtain ⟨p0, p1, p2, p3, p4, p5, p6, p7, rfl⟩ := len8 p hp
  by_cases hr : wrongAtL ps.length qs m = 0
  · rw [show writeDP ps qs m = writeB ps qs from if_pos hr, show writeDQ ps qs m [p0, p1, p2, p3, p4, p5, p6, p7] = writeQ qs m [p0, p1, p2, p3, p4, p5, p6, p7] from if_pos hr, hr]
    by_cases h4 : qs.length = 400
    · exact refWrite_full d ps qs m p0 p1 p2 p3 p4 p5 p6 p7 w hd hr h4
    · rw [show writeB ps qs = ps by unfold writeB; rw [if_neg h4], show writeQ qs m [p0, p1, p2, p3, p4, p5, p6, p7] = qs ++ [(m, [p0, p1, p2, p3, p4, p5, p6, p7])] by unfold writeQ; rw [if_neg h4]]
      exact refWrite_few d ps qs m p0 p1 p2 p3 p4 p5 p6 p7 w hd hr h4
  · rw [show writeDP ps qs m = [] from if_neg hr, show writeDQ ps qs m [p0, p1, p2, p3, p4, p5, p6, p7] = [] from if_neg hr]
    exact refWrite_err d ps qs m p0 p1 p2 p3 p4 p5 p6 p7 w hd hr

end Go.Proofs.Ytbcaagmnmaonbaa
