/- Contract of WriteDisk (the document's answer). -/
import Derived.Test.YtbcaagmnmaonbaaRefTrim
import Derived.Test.YtbcaagmnmaonbaaWriteFull
import Derived.ArgAppend
namespace Go.Proofs.Ytbcaagmnmaonbaa
open Go.RowKit

/-- What waits, appended onto a new slice without room: in new memory. -/
theorem run_append_new {w : World} {base g : Nat} (ty : TypeId) (h0 : OwnPuts base w (.slice (some ⟨g, 0, none⟩) 0 0) []) (vx : Value) (qs : List (Int × List Int)) (hv : PutsAt w vx qs) (hbase : base ≤ w.heap.size) :
    ∃ v' w', (Builtin.append_ #[34, 34] ty #[.slice (some ⟨g, 0, none⟩) 0 0, vx]).run Try.prog w = .ok v' w' ∧ OwnPuts base w' v' qs ∧ Grew w w' := by
  obtain ⟨i0, hi, hz0, hz1, hz2⟩ := info_parts Try.infoPut
  obtain ⟨⟨ax, c, rfl, hnone, hcells⟩, h8, hb⟩ := hv
  by_cases hq : qs = []
  · subst hq
    refine ⟨_, w, ?_, h0, Grew.refl w⟩
    cases ax with
    | none => simp [Builtin.append_, run_underlying Try.underlying34, sizeOf, typeInfo, hi, Builtin.lenOf, Builtin.firstCells, storeCells]
    | some x => simp [Builtin.append_, run_underlying Try.underlying34, sizeOf, typeInfo, hi, Builtin.lenOf, Builtin.firstCells, loadCells, loadCellsFrom, storeCells]
  · cases ax with
    | none => exact absurd (hnone rfl) hq
    | some ad =>
      have hpos : 0 < qs.length := List.length_pos_iff.2 hq
      obtain ⟨v', w', hr, ho, hg⟩ := run_append_arg_grows (P := Try.prog) w 34 ty 56 i0 _ 9 16 Try.underlying34 hi hz0 hz1 hz2 rfl (by decide) ⟨g, 0, none⟩ 0 0 [] rfl (fun j u hj => by simp at hj) ad qs.length c (qs.flatMap ptc) (flatMap_len qs fun q hq => by rw [ptc_len, h8 q hq]) (hcells ad rfl) (by omega) (maxLen_of (by omega)) (by omega)
      refine ⟨v', w', hr, ⟨ownsRow_base (by simpa using ho) hbase, h8, hb⟩, ⟨hg.os, hg.tape, hg.output, hg.size, fun k hk => hg.block k hk (by simp)⟩⟩

theorem Does.step {P : Program} {o : Oper} {a : Act} {w w' : World} {v : Value} {K : Value → World → Prop} (hr : (execOp a.eval o).run P w = .ok (.value v) w') (h : K v w') : Does P o a w K := by
  unfold Does
  rw [hr]
  exact h

set_option maxRecDepth 100000 in
set_option maxHeartbeats 1000000 in
theorem refWrite_few (d : Value) (ps : List (List Int)) (qs : List (Int × List Int)) (m : Int) (p0 p1 p2 p3 p4 p5 p6 p7 : Int) (w : World) (hd : DiskAt w d ps qs) (hr0 : wrongAtL ps.length qs m = 0) (hfew : ¬ qs.length = 400) :
    Calls Try.prog 26 #[d, .int .i64 m, .agg #[.int .u8 p0, .int .u8 p1, .int .u8 p2, .int .u8 p3, .int .u8 p4, .int .u8 p5, .int .u8 p6, .int .u8 p7]] w fun e w' => ∃ d', e = .returned (.tuple #[d', .int .i64 0]) ∧ NewDisk w.heap.size w' d' ps (qs ++ [(m, [p0, p1, p2, p3, p4, p5, p6, p7])]) ∧ Grew w w' := by
  obtain ⟨hw0, i, hmi, hib⟩ := wrongAtL_zero hr0
  obtain ⟨hn80, hq400, _⟩ := wrongL_zero hw0
  obtain ⟨b, q, rfl, hb, hq⟩ := hd
  have HB : Hid (PagesAt w b ps) := hb
  have HQ : Hid (PutsAt w q qs) := hq
  obtain ⟨ab, cb, rfl, _⟩ := hb.rows
  obtain ⟨aq, cq, rfl, _⟩ := hq.rows
  have H80 : Hid (ps.length ≤ 80) := hn80
  have H400 : Hid (qs.length < 400) := show _ < _ by omega
  clear hb hq hr0 hfew hq400 hn80
  obtain ⟨W0, hW0⟩ : ∃ W0, ((w.alloc (.cells #[.slice ab ps.length cb, .slice aq qs.length cq] 36)).alloc (.cells #[.int .u8 p0, .int .u8 p1, .int .u8 p2, .int .u8 p3, .int .u8 p4, .int .u8 p5, .int .u8 p6, .int .u8 p7] 23)).alloc (.cells #[.slice none 0 0, .slice none 0 0] 36) = W0 := ⟨_, rfl⟩
  have HG0 : Hid (Grew w W0) := show Grew w W0 by rw [← hW0]; exact ((grew_alloc _ _).trans (grew_alloc _ _)).trans (grew_alloc _ _)
  have X0 : Hid (Box W0 w.heap.size [.slice ab ps.length cb, .slice aq qs.length cq]) := show Box _ _ _ by rw [← hW0]; exact ((Box.top w [.slice ab ps.length cb, .slice aq qs.length cq] _ rfl).alloc _).alloc _
  have X1 : Hid (Box W0 (w.heap.size + 1) [.int .u8 p0, .int .u8 p1, .int .u8 p2, .int .u8 p3, .int .u8 p4, .int .u8 p5, .int .u8 p6, .int .u8 p7]) := show Box _ _ _ by rw [← hW0]; exact (Box.top _ [.int .u8 p0, .int .u8 p1, .int .u8 p2, .int .u8 p3, .int .u8 p4, .int .u8 p5, .int .u8 p6, .int .u8 p7] _ (by simp)).alloc _
  have X2 : Hid (Box W0 (w.heap.size + 1 + 1) [.slice none 0 0, .slice none 0 0]) := show Box _ _ _ by rw [← hW0]; exact Box.top _ [.slice none 0 0, .slice none 0 0] _ (by simp)
  have hcon := refWrong_any ab ps.length cb (.slice aq qs.length cq) qs W0 (HQ.out.grew HG0.out)
  rw [hw0] at hcon
  obtain ⟨nb, HNB⟩ : ∃ nb, Hid (ps.length = nb) := ⟨_, rfl⟩
  obtain ⟨kq, HNQ⟩ : ∃ kq, Hid (qs.length = kq) := ⟨_, rfl⟩
  rw [HNB.out] at hib HB
  rw [HNQ.out] at HQ
  rw [HNB.out, HNQ.out] at hcon hW0 X0 ⊢
  have HW0 : Hid (_ = W0) := hW0
  have h2 : ¬ m < 0 := by omega
  have h3 : ¬ (nb : Int) ≤ m := by omega
  clear hW0 hw0 hmi hib
  go_enter Try.func26, Try.ntmps26
  go_wp2_with (go_at_call 19; rw [HW0.out]; refine hcon.mono ?_; clear hcon; rintro e W1 ⟨rfl, g1⟩
               have G1 : Hid (Grew W0 W1) := g1
               have HG1 : Hid (Grew w W1) := HG0.out.trans g1
               have e0 := (X0.out.grew g1).c 0 rfl
               have e1 := (X0.out.grew g1).c 1 rfl)
  have A1 := X1.out.grew G1.out
  have hx1 : ∀ x : GrownW W1, x.world.cell? ⟨w.heap.size, 1, none⟩ = some (.slice aq kq cq) := fun x => ((X0.out.grew G1.out).grew x.grew).c 1 rfl
  have hy0 : ∀ x : GrownW W1, x.world.cell? ⟨w.heap.size + 1, 0, none⟩ = some (.int .u8 p0) := fun x => (A1.grew x.grew).c 0 rfl
  have hy1 : ∀ x : GrownW W1, x.world.cell? ⟨w.heap.size + 1, 1, none⟩ = some (.int .u8 p1) := fun x => (A1.grew x.grew).c 1 rfl
  have hy2 : ∀ x : GrownW W1, x.world.cell? ⟨w.heap.size + 1, 2, none⟩ = some (.int .u8 p2) := fun x => (A1.grew x.grew).c 2 rfl
  have hy3 : ∀ x : GrownW W1, x.world.cell? ⟨w.heap.size + 1, 3, none⟩ = some (.int .u8 p3) := fun x => (A1.grew x.grew).c 3 rfl
  have hy4 : ∀ x : GrownW W1, x.world.cell? ⟨w.heap.size + 1, 4, none⟩ = some (.int .u8 p4) := fun x => (A1.grew x.grew).c 4 rfl
  have hy5 : ∀ x : GrownW W1, x.world.cell? ⟨w.heap.size + 1, 5, none⟩ = some (.int .u8 p5) := fun x => (A1.grew x.grew).c 5 rfl
  have hy6 : ∀ x : GrownW W1, x.world.cell? ⟨w.heap.size + 1, 6, none⟩ = some (.int .u8 p6) := fun x => (A1.grew x.grew).c 6 rfl
  have hy7 : ∀ x : GrownW W1, x.world.cell? ⟨w.heap.size + 1, 7, none⟩ = some (.int .u8 p7) := fun x => (A1.grew x.grew).c 7 rfl
  have hne : Nonempty (GrownW W1) := ⟨⟨_, Grew.refl _⟩⟩
  clear e0 e1 A1
  refine wp_lax_tail 8 [(0, ⟨fun v => ∃ g, v = .slice (some ⟨g, 0, none⟩) 0 0, fun v w' => OwnPuts W1.heap.size w' v []⟩), (3, ⟨fun v => ∃ a c, v = .slice a kq c, fun v w' => OwnPuts W1.heap.size w' v qs⟩), (7, ⟨fun v => ∃ B, v = .slice (some ⟨B, 0, none⟩) 1 1, fun v w' => PutsAt w' v [(m, [p0, p1, p2, p3, p4, p5, p6, p7])]⟩)] mixed (by kernel_rfl) rfl rfl (by decide) ?_ ?_ ?_
  · intro x hx
    simp at hx
    rcases hx with rfl | rfl | rfl
    · exact ⟨_, 0, rfl⟩
    · exact ⟨_, none, 0, rfl⟩
    · exact ⟨_, 0, rfl⟩
  · intro x hx
    simp at hx
    rcases hx with rfl | rfl | rfl
    · intro v w1 w2 hg h; exact h.grew hg
    · intro v w1 w2 hg h; exact h.grew hg
    · intro v w1 w2 hg h; exact h.grew hg
  simp only [List.take, List.drop]
  refine lax_spec rfl rfl (fun w' hg hF => ?_) (fun v1 hv => ?_)
  · refine Does.step (v := .slice (some ⟨w'.heap.size, 0, none⟩) 0 0) (w' := w'.alloc (.cells #[] 56)) (by simp only [execOp]; go_simp) ⟨grew_alloc _ _, ⟨_, rfl⟩, (ownPuts_made w').base (Below.size hg)⟩
  obtain ⟨g27, rfl⟩ := hv
  simp only [Act.put, List.setIfInBounds_toArray, List.set_cons_succ, List.set_cons_zero]
  iterate 2 (refine lax_quiet rfl rfl rfl (fun K hK => ?_); go_big_quiet_op; refine hK _ ?_; clear hK K)
  refine lax_spec rfl rfl (fun w' hg hF => ?_) (fun v1 hv => ?_)
  · have h0 : OwnPuts W1.heap.size w' (.slice (some ⟨g27, 0, none⟩) 0 0) [] := hF 0 (by kernel_rfl)
    obtain ⟨v', w2, hrun, ho, hg2⟩ := run_append_new (w := w') 34 h0 (.slice aq kq cq) qs (HQ.out.grew (HG1.out.trans hg)) (Below.size hg)
    obtain ⟨a', c', rfl⟩ := ho.form
    refine Does.step (v := .slice a' qs.length c') (w' := w2) ?_ ⟨hg2, ⟨a', c', by rw [HNQ.out]⟩, ho⟩
    simp only [execOp, resolve, invoke, builtin, pure_bind, Sem.run_bind, Sem.run_pure, List.map_toArray, List.map_cons, List.map_nil]
    exact Eq.trans (congrArg (fun r => Result.andThen r (fun a w' => Result.ok (Next.value a) w')) hrun) rfl
  obtain ⟨a30, c30, rfl⟩ := hv
  simp only [Act.put, List.setIfInBounds_toArray, List.set_cons_succ, List.set_cons_zero]
  iterate 3 (refine lax_quiet rfl rfl rfl (fun K hK => ?_); go_big_quiet_op; refine hK _ ?_; clear hK K)
  refine lax_spec rfl rfl (fun w' hg hF => ?_) (fun v1 hv => ?_)
  · refine Does.step (v := .slice (some ⟨w'.heap.size, 0, none⟩) 1 1) (w' := w'.alloc (.cells #[.int .i64 m, .int .u8 p0, .int .u8 p1, .int .u8 p2, .int .u8 p3, .int .u8 p4, .int .u8 p5, .int .u8 p6, .int .u8 p7] 56)) (by simp only [execOp]; go_simp) ⟨grew_alloc _ _, ⟨_, rfl⟩, putsAt_one 1 (Box.top w' [.int .i64 m, .int .u8 p0, .int .u8 p1, .int .u8 p2, .int .u8 p3, .int .u8 p4, .int .u8 p5, .int .u8 p6, .int .u8 p7] _ rfl)⟩
  obtain ⟨g34, rfl⟩ := hv
  simp only [Act.put, List.setIfInBounds_toArray, List.set_cons_succ, List.set_cons_zero]
  refine lax_nil fun w2 hg2 hF => ?_
  have O30 : Hid (OwnPuts W1.heap.size w2 (.slice a30 kq c30) qs) := hF 3
  have O34 : Hid (PutsAt w2 (.slice (some ⟨g34, 0, none⟩) 1 1) [(m, [p0, p1, p2, p3, p4, p5, p6, p7])]) := hF 7
  have G2 : Hid (Grew W1 w2) := hg2
  clear hF hg2 hx1 hy0 hy1 hy2 hy3 hy4 hy5 hy6 hy7 hne
  have HQ4 : Hid (kq ≤ 400) := show _ ≤ _ by have h1 := H400.out; have h2 := HNQ.out; omega
  refine wpList_append_puts rfl (.tmp 30) (.tmp 34) rfl W1.heap.size _ qs rfl O30.out (.slice (some ⟨g34, 0, none⟩) 1 1) [(m, [p0, p1, p2, p3, p4, p5, p6, p7])] rfl O34.out (by have h1 := HQ4.out; have h2 := HNQ.out; simp; omega) (Below.size G2.out) ?_
  intro v35 W3 ow3 gr3
  obtain ⟨a35, c35, hv35⟩ := ow3.form
  have HL35 : Hid ((qs ++ [(m, [p0, p1, p2, p3, p4, p5, p6, p7])]).length = kq + 1) := show _ = _ by rw [← HNQ.out]; simp
  rw [HL35.out] at hv35
  subst hv35
  have O3 : Hid (OwnPuts W1.heap.size W3 (.slice a35 (kq + 1) c35) (qs ++ [(m, [p0, p1, p2, p3, p4, p5, p6, p7])])) := ow3
  have G3 : Hid (Grew W1 W3) := show Grew W1 W3 from grew_beside G2.out gr3 (fun g hg => (O30.out.lt g hg).1)
  clear ow3 gr3
  have e0 := ((X0.out.grew G1.out).grew G3.out).c 0 rfl
  have el := ((X0.out.grew G1.out).grew G3.out).lt
  go_wp2_with (
       refine wpList_append_pages rfl (.tmp 36) (.tmp 38) rfl W3.heap.size _ [] rfl (ownPages_made W3) (.slice ab nb cb) ps rfl (HB.out.grew ((HG1.out.trans G3.out).trans (grew_alloc W3 _))) (by have := H80.out; simp; omega) (by simp) ?_
       intro v W4 ow4 gr4
       have G4 : Hid (Grew W3 W4) := show Grew W3 W4 from Below.grown (grew_alloc W3 _) gr4 (by simp) (fun k hk => by cases hk; exact Nat.le_refl _)
       obtain ⟨gb, capb, hbv⟩ : ∃ gb capb, v = .slice gb nb capb := by
         obtain ⟨x, y, h⟩ := ow4.form
         exact ⟨x, y, by rw [h]; simp [HNB.out]⟩
       subst hbv
       have OB : Hid (OwnPages W3.heap.size W4 (.slice gb nb capb) ps) := ow4
       clear ow4 gr4 e0 el)
  have X24 := ((X2.out.grew G1.out).grew G3.out).grew G4.out
  have O4 : Hid (OwnPuts W1.heap.size W4 (.slice a35 (kq + 1) c35) (qs ++ [(m, [p0, p1, p2, p3, p4, p5, p6, p7])])) := O3.out.grew G4.out
  have hz : ¬ (400 : Int) < (kq : Int) + 1 := by have h1 := H400.out; have h2 := HNQ.out; omega
  have y0 := X24.c 0 rfl
  have y1 := X24.c 1 rfl
  have yf := X24.f
  go_loopg [9] 0 (fun _ s9 wr => s9 = .slice a35 (kq + 1) c35 ∧ W4 = wr)
  case atStart => exact ⟨rfl, rfl⟩
  case round =>
    obtain ⟨rfl, rfl⟩ := hrel
    go_wp2
    have hb2 : w.heap.size + 1 + 1 < W1.heap.size := (X2.out.grew G1.out).lt
    refine bodyPost_ret (v := .tuple #[.agg #[.slice gb nb capb, .slice a35 (kq + 1) c35], .int .i64 0]) (by simp [results, Try.results26, go_sem, *]) rfl ⟨_, rfl, ?_, ?_⟩
    · exact NewDisk.base (OwnDisk.new ⟨_, _, rfl, ((OB.out.base (Below.size G3.out)).setCell (a := ⟨w.heap.size + 1 + 1, 0, none⟩) hb2 _).setCell (a := ⟨w.heap.size + 1 + 1, 1, none⟩) hb2 _, (O4.out.setCell (a := ⟨w.heap.size + 1 + 1, 0, none⟩) hb2 _).setCell (a := ⟨w.heap.size + 1 + 1, 1, none⟩) hb2 _⟩) (Below.size HG1.out)
    · iterate 2 (refine grew_set ?_ (by simp; omega) _)
      exact (HG1.out.trans G3.out).trans G4.out

end Go.Proofs.Ytbcaagmnmaonbaa
