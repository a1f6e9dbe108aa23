/- Contract of Create (the document's answer). -/
import Derived.Test.YtagpmjgmohfmjacStWith
import Derived.Test.YtagpmjgmohfmjacStRefWrong
import Derived.Test.YtagpmjgmohfmjacStAlive
namespace Go.Proofs.Ytagpmjgmohfmjac
open Go.RowKit

def fv0 : FlV := ⟨0, none, 0, 0⟩
theorem own_one (w : World) : OwnRow fvE w.heap.size (w.alloc (.cells #[.int .i64 0, .slice none 0 0] 50)) (.slice (some ⟨w.heap.size, 0, none⟩) 1 1) [fv0] := by
  refine ⟨⟨rfl, .inr ⟨w.heap.size, 1, #[.int .i64 0, .slice none 0 0], rfl, Nat.le_refl _, ?_, Nat.le_refl _, maxLen_of (by omega), rfl, rfl⟩⟩, by show 1 * 32 ≤ _; omega⟩
  show (w.heap.push _)[w.heap.size]? = _
  simp [fvE]

theorem lookup_mem {α : Type} {k : Nat} {s : α} : ∀ {S : List (Nat × α)}, S.lookup k = some s → (k, s) ∈ S
  | [], h => by simp at h
  | (p, a) :: S, h => by
    by_cases h1 : k = p
    · subst h1
      simp at h
      subst h
      simp
    · have e1 : (k == p) = false := by simpa using h1
      rw [List.lookup_cons, e1] at h
      exact List.mem_cons_of_mem _ (lookup_mem h)

theorem Does.skip {P : Program} {o : Oper} {a : Act} {w w' : World} {K : Value → World → Prop} (hr : (execOp a.eval o).run P w = .ok .skip w') (h : K undef w') : Does P o a w K := by
  unfold Does
  rw [hr]
  exact h

set_option maxRecDepth 100000 in
set_option maxHeartbeats 2000000 in
theorem refCreate_any (v : Value) (fs : List Fl) (cnt : Int) (D : Nat → Prop) (w : World) (hv : FilesD D w v fs) (hB : ∀ k, D k → k < w.heap.size) :
    Calls Try.prog 19 #[.agg #[v, .int .i64 cnt]] w fun e w' => ∃ b, e = .returned (.tuple #[.agg #[b, .int .i64 (creC fs cnt)], .int .i64 (creI fs cnt), .int .i64 (creE fs cnt)]) ∧ FilesD D w' b (creF fs cnt) ∧ Grew w w' := by
  have h1 : ∀ W, Grew w W → Calls Try.prog 15 #[.agg #[v, .int .i64 cnt]] W fun e w' => e = .returned (.int .i64 (stW fs cnt)) ∧ Grew W w' := fun W hW => refWrongSt_any v fs cnt W (hv.at.grew hW)
  have HV : Hid (FilesD D w v fs) := hv
  have HB : Hid (∀ k, D k → k < w.heap.size) := hB
  obtain ⟨a, c, rfl, hbig, hrow⟩ := hv.at.rows
  have HR : Hid (FlRows w a fs) := hrow
  clear hv hrow hB
  obtain ⟨nF, HN⟩ : ∃ nF, Hid (fs.length = nF) := ⟨_, rfl⟩
  rw [HN.out] at h1 hbig HV ⊢
  obtain ⟨W0, hW0⟩ : ∃ W0, (w.alloc (.cells #[.slice a nF c, .int .i64 cnt] 36)).alloc (.cells #[.slice none 0 0, .int .i64 0] 36) = W0 := ⟨_, rfl⟩
  have HG0 : Hid (Grew w W0) := show Grew w W0 by rw [← hW0]; exact (grew_alloc _ _).trans (grew_alloc _ _)
  have X0 : Hid (Box W0 w.heap.size [.slice a nF c, .int .i64 cnt]) := show Box _ _ _ by rw [← hW0]; exact (Box.top w _ _ rfl).alloc _
  have Y0 : Hid (Box W0 (w.heap.size + 1) [.slice none 0 0, .int .i64 0]) := show Box _ _ _ by rw [← hW0]; exact Box.top _ _ _ (by simp)
  have HW0 : Hid (_ = W0) := hW0
  clear hW0
  rcases cre_cases fs cnt with ⟨hw, e1, e2, e3, e4⟩ | ⟨hw, hl, e1, e2, e3, e4⟩ | ⟨hw, hl, e1, e2, e3, e4⟩
  · rw [e1, e2, e3, e4]
    have hzb : (stW fs cnt != 0) = true := by simpa using hw
    generalize stW fs cnt = S at *
    clear e1 e2 e3 e4
    go_enter Try.func19, Try.ntmps19
    go_wp2_with fail
    rw [HW0.out]
    refine (h1 _ HG0.out).mono ?_
    rintro e W1 ⟨rfl, g1⟩
    have G1 : Hid (Grew w W1) := HG0.out.trans g1
    have X1 : Hid (Box W1 w.heap.size [.slice a nF c, .int .i64 cnt]) := X0.out.grew g1
    have Y1 : Hid (Box W1 (w.heap.size + 1) [.slice none 0 0, .int .i64 0]) := Y0.out.grew g1
    clear g1 h1
    have x0 := X1.out.c 0 rfl
    have x1 := X1.out.c 1 rfl
    have y0 := Y1.out.c 0 rfl
    have y1 := Y1.out.c 1 rfl
    have yf := Y1.out.f
    go_wp2
    refine bodyPost_ret (v := .tuple #[.agg #[.slice none 0 0, .int .i64 0], .int .i64 0, .int .i64 S]) (by simp [results, Try.results19, go_sem, *]) rfl ⟨_, rfl, FilesD.nil _ _, ?_⟩
    exact Below.setCell (Below.setCell G1.out (p := ⟨w.heap.size + 1, 0, none⟩) (by simp) _) (p := ⟨w.heap.size + 1, 1, none⟩) (by simp) _
  · rw [e1, e2, e3, e4]
    rw [hw] at h1
    rw [HN.out] at hl
    have hl5 : (5 : Int) ≤ (nF : Int) := by omega
    clear e1 e2 e3 e4 hw hl
    go_enter Try.func19, Try.ntmps19
    go_wp2_with fail
    rw [HW0.out]
    refine (h1 _ HG0.out).mono ?_
    rintro e W1 ⟨rfl, g1⟩
    have G1 : Hid (Grew w W1) := HG0.out.trans g1
    have X1 : Hid (Box W1 w.heap.size [.slice a nF c, .int .i64 cnt]) := X0.out.grew g1
    have Y1 : Hid (Box W1 (w.heap.size + 1) [.slice none 0 0, .int .i64 0]) := Y0.out.grew g1
    clear g1 h1
    have x0 := X1.out.c 0 rfl
    have x1 := X1.out.c 1 rfl
    have y0 := Y1.out.c 0 rfl
    have y1 := Y1.out.c 1 rfl
    have yf := Y1.out.f
    go_wp2
    refine bodyPost_ret (v := .tuple #[.agg #[.slice none 0 0, .int .i64 0], .int .i64 0, .int .i64 4]) (by simp [results, Try.results19, go_sem, *]) rfl ⟨_, rfl, FilesD.nil _ _, ?_⟩
    exact Below.setCell (Below.setCell G1.out (p := ⟨w.heap.size + 1, 0, none⟩) (by simp) _) (p := ⟨w.heap.size + 1, 1, none⟩) (by simp) _
  · rw [e1, e2, e3, e4]
    rw [hw] at h1
    rw [HN.out] at hl ⊢
    have hl5 : ¬ (5 : Int) ≤ (nF : Int) := by omega
    have HVX := HV.out
    obtain ⟨_, xs, k1, k2, k3⟩ := HVX
    have HX : Hid (RowAt fvE w (.slice a nF c) xs) := k1.now
    have HL : Hid (xs.length = nF) := show _ = _ by rw [k2]; exact HN.out
    have HK : Hid (∀ (i : Nat) x f, xs[i]? = some x → fs[i]? = some f → x.size = f.size ∧ RowD blE D w (.slice x.a x.n x.c) f.bl) := k3
    clear e1 e2 e3 e4 hw k1 k2 k3
    go_enter Try.func19, Try.ntmps19
    go_wp2_with fail
    rw [HW0.out]
    refine (h1 _ HG0.out).mono ?_
    rintro e W1 ⟨rfl, g1⟩
    have G1 : Hid (Grew w W1) := HG0.out.trans g1
    have X1 : Hid (Box W1 w.heap.size [.slice a nF c, .int .i64 cnt]) := X0.out.grew g1
    have Y1 : Hid (Box W1 (w.heap.size + 1) [.slice none 0 0, .int .i64 0]) := Y0.out.grew g1
    clear g1 h1
    have x0 := X1.out.c 0 rfl
    have x1 := X1.out.c 1 rfl
    have HB1 : Hid (w.heap.size + 2 ≤ W1.heap.size) := Y1.out.lt
    go_wp2
    clear x0 x1
    obtain ⟨rc, HRC⟩ : ∃ rc, Hid (w.heap.size + 1 = rc) := ⟨_, rfl⟩
    rw [HRC.out] at Y1 ⊢
    obtain ⟨I, HI⟩ : ∃ I : World → Prop, Hid (∀ q, I q ↔ Out rc (rc + 1) W1 q) := ⟨fun q => Out rc (rc + 1) W1 q, fun _ => Iff.rfl⟩
    have HIG : Hid (∀ q, I q → Grew w q) := show ∀ q, _ from fun q hq => Out.grew_of G1.out (by have := HRC.out; omega) ((HI.out q).1 hq)
    have hx0 : ∀ y : HoldI I, y.world.cell? ⟨w.heap.size, 0, none⟩ = some (.slice a nF c) := fun y => (X1.out.out ((HI.out _).1 y.holds) (by have := HRC.out; omega)).c 0 rfl
    have hx1 : ∀ y : HoldI I, y.world.cell? ⟨w.heap.size, 1, none⟩ = some (.int .i64 cnt) := fun y => (X1.out.out ((HI.out _).1 y.holds) (by have := HRC.out; omega)).c 1 rfl
    have hne : Nonempty (HoldI I) := ⟨⟨W1, (HI.out _).2 (Out.refl _ _ _)⟩⟩
    have HRB : Hid (rc < W1.heap.size) := Y1.out.lt
    refine wp_lax_tailI (I := I) 14 [(0, ⟨fun v => ∃ g, v = .slice (some ⟨g, 0, none⟩) 0 0, fun v w' => OwnRow fvE W1.heap.size w' v [], fun p q => Grew p q, fun _ => True⟩), (3, ⟨fun v => (∃ a c, v = .slice a nF c) ∧ (nF = 0 → ∃ g, v = .slice (some ⟨g, 0, none⟩) 0 0), fun v w' => OwnRow fvE W1.heap.size w' v xs, fun p q => Grew p q, fun _ => True⟩), (5, ⟨fun v => ∃ g, v = .slice (some ⟨g, 0, none⟩) 1 1, fun v w' => OwnRow fvE W1.heap.size w' v [fv0], fun p q => Grew p q, fun _ => True⟩), (6, ⟨fun v => ∃ a c, v = .slice a (nF + 1) c, fun v w' => OwnRow fvE W1.heap.size w' v (xs ++ [fv0]), fun p q => (∀ u m, m.length ≤ nF ∨ m.length ≤ 1 → OwnRow fvE W1.heap.size p u m → OwnRow fvE W1.heap.size q u m) ∧ ∀ b cs, b < W1.heap.size → Box p b cs → Box q b cs, fun _ => True⟩), (13, ⟨fun _ => True, fun _ w' => ∃ a c, Box w' rc [.slice a (nF + 1) c, .int .i64 cnt] ∧ OwnRow fvE W1.heap.size w' (.slice a (nF + 1) c) (xs ++ [fv0]), fun p q => ∃ u u', q = (p.setCell ⟨rc, 0, none⟩ u).setCell ⟨rc, 1, none⟩ u', fun p => Box p rc [.slice none 0 0, .int .i64 0]⟩)] ((HI.out _).2 (Out.drew _)) mixed (by kernel_rfl) rfl rfl (by decide) ?hS ?hp ?hpre ?hpr0 ?_
    case hS =>
      intro x hx
      simp only [List.mem_cons, List.not_mem_nil, or_false] at hx
      rcases hx with rfl | rfl | rfl | rfl | rfl
      · exact ⟨_, 0, rfl⟩
      · by_cases h0 : nF = 0
        · subst h0
          exact ⟨.slice (some ⟨0, 0, none⟩) 0 0, ⟨_, _, rfl⟩, fun _ => ⟨0, rfl⟩⟩
        · exact ⟨.slice none nF 0, ⟨_, _, rfl⟩, fun h => absurd h h0⟩
      · exact ⟨_, 0, rfl⟩
      · exact ⟨_, none, 0, rfl⟩
      · exact ⟨undef, trivial⟩
    case hp =>
      intro k s j t hk hj hjk hanc v p q hst hpo
      have down : ∀ {l : List FlV}, OwnRow fvE W1.heap.size p v l → (∃ u u', q = (p.setCell ⟨rc, 0, none⟩ u).setCell ⟨rc, 1, none⟩ u') → OwnRow fvE W1.heap.size q v l := fun h ⟨u, u', e⟩ => by
        rw [e]
        exact (h.setCell (a := ⟨rc, 0, none⟩) HRB.out u).setCell (a := ⟨rc, 1, none⟩) HRB.out u'
      have hk' := lookup_mem hk
      have hj' := lookup_mem hj
      clear hk hj
      simp only [List.mem_cons, Prod.mk.injEq, List.not_mem_nil, or_false] at hk' hj'
      rcases hk' with ⟨rfl, rfl⟩ | ⟨rfl, rfl⟩ | ⟨rfl, rfl⟩ | ⟨rfl, rfl⟩ | ⟨rfl, rfl⟩
      · rcases hj' with ⟨rfl, rfl⟩ | ⟨rfl, rfl⟩ | ⟨rfl, rfl⟩ | ⟨rfl, rfl⟩ | ⟨rfl, rfl⟩
        · exact absurd rfl hjk
        · exact OwnRow.grew hpo hst
        · exact OwnRow.grew hpo hst
        · exact hst.1 v [] (.inl (Nat.zero_le _)) hpo
        · exact down hpo hst
      · rcases hj' with ⟨rfl, rfl⟩ | ⟨rfl, rfl⟩ | ⟨rfl, rfl⟩ | ⟨rfl, rfl⟩ | ⟨rfl, rfl⟩
        · exact OwnRow.grew hpo hst
        · exact absurd rfl hjk
        · exact OwnRow.grew hpo hst
        · exact hst.1 v xs (.inl (by rw [HL.out]; exact Nat.le_refl _)) hpo
        · exact down hpo hst
      · rcases hj' with ⟨rfl, rfl⟩ | ⟨rfl, rfl⟩ | ⟨rfl, rfl⟩ | ⟨rfl, rfl⟩ | ⟨rfl, rfl⟩
        · exact OwnRow.grew hpo hst
        · exact OwnRow.grew hpo hst
        · exact absurd rfl hjk
        · exact hst.1 v [fv0] (.inr (Nat.le_refl _)) hpo
        · exact down hpo hst
      · rcases hj' with ⟨rfl, rfl⟩ | ⟨rfl, rfl⟩ | ⟨rfl, rfl⟩ | ⟨rfl, rfl⟩ | ⟨rfl, rfl⟩
        · exact OwnRow.grew hpo hst
        · exact OwnRow.grew hpo hst
        · exact OwnRow.grew hpo hst
        · exact absurd rfl hjk
        · exact down hpo hst
      · rcases hj' with ⟨rfl, rfl⟩ | ⟨rfl, rfl⟩ | ⟨rfl, rfl⟩ | ⟨rfl, rfl⟩ | ⟨rfl, rfl⟩
        · exact Bool.noConfusion (hanc.symm.trans (show _ = true by kernel_rfl))
        · exact Bool.noConfusion (hanc.symm.trans (show _ = true by kernel_rfl))
        · exact Bool.noConfusion (hanc.symm.trans (show _ = true by kernel_rfl))
        · exact Bool.noConfusion (hanc.symm.trans (show _ = true by kernel_rfl))
        · exact absurd rfl hjk
    case hpre =>
      intro j t k s hj hk hjk p q hst hpr
      have hk' := lookup_mem hk
      have hj' := lookup_mem hj
      clear hk hj
      simp only [List.mem_cons, Prod.mk.injEq, List.not_mem_nil, or_false] at hk' hj'
      rcases hj' with ⟨rfl, rfl⟩ | ⟨rfl, rfl⟩ | ⟨rfl, rfl⟩ | ⟨rfl, rfl⟩ | ⟨rfl, rfl⟩
      · trivial
      · trivial
      · trivial
      · trivial
      · rcases hk' with ⟨rfl, rfl⟩ | ⟨rfl, rfl⟩ | ⟨rfl, rfl⟩ | ⟨rfl, rfl⟩ | ⟨rfl, rfl⟩
        · exact Box.grew hpr hst
        · exact Box.grew hpr hst
        · exact Box.grew hpr hst
        · exact hst.2 rc _ HRB.out hpr
        · exact absurd rfl hjk
    case hpr0 =>
      intro k t hk
      have hk' := lookup_mem hk
      clear hk
      simp only [List.mem_cons, Prod.mk.injEq, List.not_mem_nil, or_false] at hk'
      rcases hk' with ⟨rfl, rfl⟩ | ⟨rfl, rfl⟩ | ⟨rfl, rfl⟩ | ⟨rfl, rfl⟩ | ⟨rfl, rfl⟩
      · trivial
      · trivial
      · trivial
      · trivial
      · exact Y1.out.grew (show Below _ _ _ from (Below.refl _ _).drew)
    simp only [List.take, List.drop]
    refine laxI_spec rfl rfl (fun w' hI' hpr hF => ?_) (fun v1 hv => ?_)
    · have hg := (HI.out _).1 hI'
      have hgw := HIG.out _ hI'
      refine Does.step (v := .slice (some ⟨w'.heap.size, 0, none⟩) 0 0) (w' := w'.alloc (.cells #[] 50)) (by simp only [execOp]; go_simp) ⟨(HI.out _).2 (hg.trans (Out.grew (grew_alloc _ _))), grew_alloc _ _, ⟨_, rfl⟩, (OwnRow.made fvE w').base hg.size⟩
    obtain ⟨g0, rfl⟩ := hv
    simp only [Act.put, List.setIfInBounds_toArray, List.set_cons_succ, List.set_cons_zero]
    iterate 2 (refine laxI_quiet rfl rfl rfl (fun K hK => ?_); go_big_quiet_op; refine hK _ ?_; clear hK K)
    refine laxI_spec rfl rfl (fun w' hI' hpr hF => ?_) (fun v1 hv => ?_)
    · have hg := (HI.out _).1 hI'
      have hgw := HIG.out _ hI'
      have h0 : OwnRow fvE W1.heap.size w' (.slice (some ⟨g0, 0, none⟩) 0 0) [] := hF 0 (by kernel_rfl)
      obtain ⟨v', w2, hrun, ho, hg2, hz⟩ := run_append_new (E := fvE) (w := w') 34 h0 (.slice a nF c) xs (HX.out.grew hgw) hg.size
      obtain ⟨a', c', rfl⟩ := ho.form
      refine Does.step (v := .slice a' xs.length c') (w' := w2) ?_ ⟨(HI.out _).2 (hg.trans (Out.grew hg2)), hg2, ⟨⟨a', c', by rw [HL.out]⟩, fun h => ⟨g0, hz (List.eq_nil_of_length_eq_zero (by rw [HL.out]; exact h))⟩⟩, ho⟩
      simp only [execOp, resolve, invoke, builtin, pure_bind, Sem.run_bind, Sem.run_pure, List.map_toArray, List.map_cons, List.map_nil]
      exact Eq.trans (congrArg (fun r => Result.andThen r (fun a w' => Result.ok (Next.value a) w')) hrun) rfl
    obtain ⟨⟨a3, c3, rfl⟩, hz3⟩ := hv
    simp only [Act.put, List.setIfInBounds_toArray, List.set_cons_succ, List.set_cons_zero]
    iterate 1 (refine laxI_quiet rfl rfl rfl (fun K hK => ?_); go_big_quiet_op; refine hK _ ?_; clear hK K)
    refine laxI_spec rfl rfl (fun w' hI' hpr hF => ?_) (fun v1 hv => ?_)
    · have hg := (HI.out _).1 hI'
      have hgw := HIG.out _ hI'
      refine Does.step (v := .slice (some ⟨w'.heap.size, 0, none⟩) 1 1) (w' := w'.alloc (.cells #[.int .i64 0, .slice none 0 0] 50)) (by simp only [execOp]; go_simp) ⟨(HI.out _).2 (hg.trans (Out.grew (grew_alloc _ _))), grew_alloc _ _, ⟨_, rfl⟩, (own_one w').base hg.size⟩
    obtain ⟨g5, rfl⟩ := hv
    simp only [Act.put, List.setIfInBounds_toArray, List.set_cons_succ, List.set_cons_zero]
    refine laxI_spec rfl rfl (fun w' hI' hpr hF => ?_) (fun v1 hv => ?_)
    · have hg := (HI.out _).1 hI'
      have hgw := HIG.out _ hI'
      have o3 : OwnRow fvE W1.heap.size w' (.slice a3 nF c3) xs := hF 3 (by kernel_rfl)
      have o5 : OwnRow fvE W1.heap.size w' (.slice (some ⟨g5, 0, none⟩) 1 1) [fv0] := hF 5 (by kernel_rfl)
      have key : ∃ v' w2, (Builtin.append_ #[34, 34] 34 #[.slice a3 nF c3, .slice (some ⟨g5, 0, none⟩) 1 1]).run Try.prog w' = .ok v' w2 ∧ OwnRow fvE W1.heap.size w2 v' (xs ++ [fv0]) ∧ Out rc (rc + 1) W1 w2 ∧ (∀ b cs, b < W1.heap.size → Box w' b cs → Box w2 b cs) ∧ ∀ u m, m.length ≤ nF ∨ m.length ≤ 1 → OwnRow fvE W1.heap.size w' u m → OwnRow fvE W1.heap.size w2 u m := by
        by_cases h0 : nF = 0
        · have hxs : xs = [] := List.eq_nil_of_length_eq_zero (by rw [HL.out]; exact h0)
          subst hxs
          obtain ⟨g, hgv⟩ := hz3 h0
          rw [hgv] at o3 ⊢
          obtain ⟨v', w2, hrun, ho, hg2, _⟩ := run_append_new (E := fvE) (w := w') 34 o3 (.slice (some ⟨g5, 0, none⟩) 1 1) [fv0] o5.at hg.size
          exact ⟨v', w2, hrun, ho, hg.trans (Out.grew hg2), fun b cs _ h => h.grew hg2, fun u m _ h => h.grew hg2⟩
        · obtain ⟨v', w2, hrun, ho, hgr, hk⟩ := run_append_keeps (E := fvE) (w := w') 34 o3 (.slice (some ⟨g5, 0, none⟩) 1 1) [fv0] o5.at (by rw [HL.out]; show (nF + 1) * 32 ≤ _; omega) hg.size
          refine ⟨v', w2, hrun, ho, ⟨hgr.os.trans hg.os, hgr.tape.trans hg.tape, hgr.output.trans hg.output, Nat.le_trans hg.size hgr.size, fun k hk' hb' => (hgr.block k (Nat.lt_of_lt_of_le hk' hg.size) (fun e => by have := (o3.lt k e.symm).1; omega)).trans (hg.block k hk' hb')⟩, fun b cs hb h => h.beside hgr (fun g hg' => by have := (o3.lt g hg').1; omega), fun u m hm h => hk u m ?_ h⟩
          rw [HL.out]
          omega
      obtain ⟨v', w2, hrun, ho, hg2, hbx, hk⟩ := key
      obtain ⟨a', c', rfl⟩ := ho.form
      refine Does.step (v := .slice a' (xs ++ [fv0]).length c') (w' := w2) ?_ ⟨(HI.out _).2 hg2, ⟨hk, hbx⟩, ⟨a', c', by rw [List.length_append, HL.out]; rfl⟩, ho⟩
      simp only [execOp, resolve, invoke, builtin, pure_bind, Sem.run_bind, Sem.run_pure, List.map_toArray, List.map_cons, List.map_nil]
      exact Eq.trans (congrArg (fun r => Result.andThen r (fun a w' => Result.ok (Next.value a) w')) hrun) rfl
    obtain ⟨a6, c6, rfl⟩ := hv
    simp only [Act.put, List.setIfInBounds_toArray, List.set_cons_succ, List.set_cons_zero]
    iterate 6 (refine laxI_quiet rfl rfl rfl (fun K hK => ?_); go_big_quiet_op; refine hK _ ?_; clear hK K)
    refine laxI_spec rfl rfl (fun w' hI' hpr hF => ?_) (fun v1 hv => ?_)
    · have hg := (HI.out _).1 hI'
      have hbx : Box w' rc [.slice none 0 0, .int .i64 0] := hpr
      have o6 : OwnRow fvE W1.heap.size w' (.slice a6 (nF + 1) c6) (xs ++ [fv0]) := hF 6 (by kernel_rfl)
      have y0 := hbx.c 0 rfl
      have y1 := hbx.c 1 rfl
      have yf := hbx.f
      have o7 := (o6.setCell (a := ⟨rc, 0, none⟩) HRB.out (.slice a6 (nF + 1) c6)).setCell (a := ⟨rc, 1, none⟩) HRB.out (.int .i64 cnt)
      have b7 := hbx.two (.slice a6 (nF + 1) c6) (.int .i64 cnt)
      refine Does.skip (w' := (w'.setCell ⟨rc, 0, none⟩ (.slice a6 (nF + 1) c6)).setCell ⟨rc, 1, none⟩ (.int .i64 cnt)) ?_ ⟨(HI.out _).2 ((hg.trans (Out.setCell _ _ _ (p := ⟨rc, 0, none⟩) (Nat.le_refl _) (Nat.lt_succ_self _) _)).trans (Out.setCell _ _ _ (p := ⟨rc, 1, none⟩) (Nat.le_refl _) (Nat.lt_succ_self _) _)), ⟨_, _, rfl⟩, trivial, ⟨_, _, b7, o7⟩⟩
      clear o7 b7 o6 hbx hF hpr hg
      simp only [execOp]
      go_simp
    simp only [Act.put]
    refine laxI_nil fun W4 hI4 hF => ?_
    obtain ⟨a7, c7, b7, o7⟩ : ∃ a c, Box W4 rc [.slice a (nF + 1) c, .int .i64 cnt] ∧ OwnRow fvE W1.heap.size W4 (.slice a (nF + 1) c) (xs ++ [fv0]) := hF 13
    have O4 : Hid (OwnRow fvE W1.heap.size W4 (.slice a7 (nF + 1) c7) (xs ++ [fv0])) := o7
    have HGE : Grew w W4 := HIG.out _ hI4
    have HG4 : Hid (Grew w W4) := HGE
    have y0 := b7.c 0 rfl
    have y1 := b7.c 1 rfl
    have yf := b7.f
    clear hF hI4 hx0 hx1 hne hz3 b7 o7 HGE
    go_wp2
    refine bodyPost_ret (v := .tuple #[.agg #[.slice a7 (nF + 1) c7, .int .i64 cnt], .int .i64 (nF : Int), .int .i64 0]) (by simp [results, Try.results19, go_sem, *]) rfl ⟨_, rfl, ?_, HG4.out⟩
    refine ⟨O4.out.cap, _, O4.out.new.staysD (fun k hk => by have := HB1.out; have := HB.out k hk; omega), by simp [HL.out, HN.out], fun i x f hx hf => ?_⟩
    rcases Nat.lt_or_ge i xs.length with hi | hi
    · rw [List.getElem?_append_left hi] at hx
      rw [List.getElem?_append_left (by rw [HN.out, ← HL.out]; exact hi)] at hf
      obtain ⟨q1, q2⟩ := HK.out i x f hx hf
      exact ⟨q1, q2.out (OutD.grew HG4.out)⟩
    · rw [List.getElem?_append_right hi] at hx
      rw [List.getElem?_append_right (by rw [HN.out, ← HL.out]; exact hi), HN.out, ← HL.out] at hf
      have hi0 : i - xs.length = 0 := by
        have := (List.getElem?_eq_some_iff.1 hx).1
        simp at this
        omega
      rw [hi0] at hx hf
      cases hx
      cases hf
      exact ⟨rfl, fun w' _ => RowAt.nil blE w'⟩

end Go.Proofs.Ytagpmjgmohfmjac
