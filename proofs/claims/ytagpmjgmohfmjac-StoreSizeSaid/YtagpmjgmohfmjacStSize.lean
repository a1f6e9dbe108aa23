/- Contract of Size (package store). -/
import Derived.Test.YtagpmjgmohfmjacStSmall
import Derived.Test.YtagpmjgmohfmjacStResized
import Derived.Test.YtagpmjgmohfmjacLaxI
namespace Go.Proofs.Ytagpmjgmohfmjac
open Go.RowKit

theorem OwnRow.out {α : Type} {E : Elt α} {base B0 B1 : Nat} {w w' : World} {v : Value} {l : List α} (h : OwnRow E base w v l) (k : Out B0 B1 w w') (hb : ∀ g, v.ownBlock = some g → g < B0 ∨ B1 ≤ g) : OwnRow E base w' v l := by
  refine ⟨⟨h.1.1, ?_⟩, h.2⟩
  rcases h.1.2 with h1 | ⟨g, cap, cur, rfl, h2, h3, h4⟩
  · exact .inl h1
  · exact .inr ⟨g, cap, cur, rfl, h2, by rw [k.block g (Array.getElem?_eq_some_iff.1 h3).1 (hb g rfl)]; exact h3, h4⟩

theorem NewRow.grown {α : Type} {E : Elt α} {base G : Nat} {w w' : World} {a : Option Addr} {n c : Nat} {l : List α} (h : NewRow E base w (.slice a n c) l) (k : w.grownBy w' (some G)) (hb : ∀ x, a = some x → x.block ≠ G) : NewRow E base w' (.slice a n c) l := by
  obtain ⟨⟨⟨a', c', h1, h2, h3⟩, h4⟩, h5⟩ := h
  cases h1
  refine ⟨⟨⟨a, c, rfl, h2, fun x hx j u hj => ?_⟩, h4⟩, h5⟩
  subst hx
  have hc := h3 x rfl j u hj
  have hl := World.block_lt_of_cell? _ _ hc
  have hne := hb x rfl
  rw [add_block] at hl
  rw [World.cell?_of_block (w := w) (k.block _ (by rw [add_block]; exact hl) (fun e => by rw [add_block] at e; cases e; exact hne rfl))]
  exact hc

theorem look2 {α : Type} {A B : α} {p q k : Nat} {s : α} (h : List.lookup k [(p, A), (q, B)] = some s) : (k = p ∧ s = A) ∨ (k = q ∧ s = B) := by
  by_cases h1 : k = p
  · subst h1
    simp at h
    exact .inl ⟨rfl, h.symm⟩
  · by_cases h2 : k = q
    · subst h2
      have e1 : (k == p) = false := by simpa using h1
      simp [List.lookup, e1] at h
      exact .inr ⟨rfl, h.symm⟩
    · have e1 : (k == p) = false := by simpa using h1
      have e2 : (k == q) = false := by simpa using h2
      simp [List.lookup, e1, e2] at h

theorem numW_bad {fs : List Fl} {cnt k : Int} (h : stW fs cnt ≠ 0) : numW fs cnt k = stW fs cnt := by unfold numW; rw [if_neg h]
theorem numW_none {fs : List Fl} {cnt k : Int} (h : stW fs cnt = 0) (h1 : ¬ (0 ≤ k ∧ k < (fs.length : Int))) : numW fs cnt k = 5 := by unfold numW; rw [if_pos h, if_neg (by rw [inL_iff]; exact h1)]
theorem numW_ok {fs : List Fl} {cnt : Int} {i : Nat} {f : Fl} (h : stW fs cnt = 0) (h1 : fs[i]? = some f) : numW fs cnt (i : Int) = 0 := by
  have := (List.getElem?_eq_some_iff.1 h1).1
  unfold numW
  rw [if_pos h, if_pos (inL_iff.2 ⟨by omega, by omega⟩)]

set_option maxRecDepth 100000 in
set_option maxHeartbeats 1000000 in
theorem sizeSt_any (v : Value) (fs : List Fl) (cnt k n : Int) (w : World) (hv : FilesAt w v fs) :
    Calls Try.prog 20 #[.agg #[v, .int .i64 cnt], .int .i64 k, .int .i64 n] w fun e w' => ∃ b, e = .returned (.tuple #[.agg #[b, .int .i64 (sizC fs cnt k n)], .int .i64 (sizE fs cnt k n)]) ∧ FilesS 0 w.heap.size w' b (sizF fs cnt k n) ∧ Grew w w' := by
  have h1 : ∀ W, Grew w W → Calls Try.prog 39 #[.agg #[v, .int .i64 cnt], .int .i64 k] W fun e w' => e = .returned (.int .i64 (numW fs cnt k)) ∧ Grew W w' := fun W hW => wrongNum_any v fs cnt k W (hv.grew hW)
  have h2 : ∀ W, Grew w W → Calls Try.prog 17 #[.agg #[v, .int .i64 cnt]] W fun e w' => ∃ b, e = .returned (.agg #[b, .int .i64 cnt]) ∧ OwnFiles (W.heap.size + 2) w' b fs ∧ Grew W w' ∧ W.heap.size + 2 ≤ w'.heap.size := fun W hW => ownSt_any v fs cnt W (hv.grew hW)
  obtain ⟨a, c, rfl, hbig, _⟩ := hv.rows
  clear hv
  obtain ⟨nF, HN⟩ : ∃ nF, Hid (fs.length = nF) := ⟨_, rfl⟩
  rw [HN.out] at h1 h2 hbig ⊢
  obtain ⟨W0, hW0⟩ : ∃ W0, (w.alloc (.cells #[.slice a nF c, .int .i64 cnt] 36)).alloc (.cells #[.slice none 0 0, .int .i64 0] 36) = W0 := ⟨_, rfl⟩
  have HG0 : Hid (Grew w W0) := show Grew w W0 by rw [← hW0]; exact (grew_alloc _ _).trans (grew_alloc _ _)
  have X0 : Hid (Box W0 w.heap.size [.slice a nF c, .int .i64 cnt]) := show Box _ _ _ by rw [← hW0]; exact (Box.top w _ _ rfl).alloc _
  have Y0 : Hid (Box W0 (w.heap.size + 1) [.slice none 0 0, .int .i64 0]) := show Box _ _ _ by rw [← hW0]; exact Box.top _ _ _ (by simp)
  have HW0 : Hid (_ = W0) := hW0
  clear hW0
  have bad : ∀ z : Int, z ≠ 0 → (∀ W, Grew w W → Calls Try.prog 39 #[.agg #[.slice a nF c, .int .i64 cnt], .int .i64 k] W fun e w' => e = .returned (.int .i64 z) ∧ Grew W w') → Calls Try.prog 20 #[.agg #[.slice a nF c, .int .i64 cnt], .int .i64 k, .int .i64 n] w fun e w' => ∃ b, e = .returned (.tuple #[.agg #[b, .int .i64 0], .int .i64 z]) ∧ FilesS 0 w.heap.size w' b [] ∧ Grew w w' := fun z hz h1 => by
    have hzb : (z != 0) = true := by simpa using hz
    clear h2
    go_enter Try.func20, Try.ntmps20
    go_wp2_with fail
    rw [HW0.out]
    refine (h1 _ HG0.out).mono ?_
    rintro e W1 ⟨rfl, g1⟩
    have G1 : Hid (Grew w W1) := HG0.out.trans g1
    have Y1 := Y0.out.grew g1
    have y0 := Y1.c 0 rfl
    have y1 := Y1.c 1 rfl
    have yf := Y1.f
    clear Y1 g1 h1
    go_wp2
    refine bodyPost_ret (v := .tuple #[.agg #[.slice none 0 0, .int .i64 0], .int .i64 z]) (by simp [results, Try.results20, go_sem, *]) rfl ⟨_, rfl, FilesS.nil _ _ _, ?_⟩
    exact Below.setCell (Below.setCell G1.out (p := ⟨w.heap.size + 1, 0, none⟩) (by simp) _) (p := ⟨w.heap.size + 1, 1, none⟩) (by simp) _
  rcases siz_cases fs cnt k n with ⟨hw, e1, e2, e3⟩ | ⟨hw, hk, e1, e2, e3⟩ | ⟨hw, i, f, rfl, hf, hn, e1, e2, e3⟩ | ⟨hw, i, f, rfl, hf, hn, e1, e2, e3⟩
  · rw [e1, e2, e3]
    rw [numW_bad hw] at h1
    exact bad _ hw h1
  · rw [e1, e2, e3]
    rw [numW_none hw hk] at h1
    exact bad _ (by decide) h1
  · rw [e1, e2, e3]
    rw [numW_ok hw hf] at h1
    have hb := fun W => below_no (m := n) (n := 97) (by omega) W
    clear e1 e2 e3 h2 hw hn bad hf
    go_enter Try.func20, Try.ntmps20
    go_wp2_with fail
    rw [HW0.out]
    refine (h1 _ HG0.out).mono ?_
    rintro e W1 ⟨rfl, g1⟩
    have G1 : Hid (Grew w W1) := HG0.out.trans g1
    have Y1 := Y0.out.grew g1
    have y0 := Y1.c 0 rfl
    have y1 := Y1.c 1 rfl
    have yf := Y1.f
    clear Y1 g1 h1
    go_wp2_with (go_at_call 33; refine (hb _).mono ?_; rintro e w' ⟨rfl, rfl⟩)
    refine bodyPost_ret (v := .tuple #[.agg #[.slice none 0 0, .int .i64 0], .int .i64 3]) (by simp [results, Try.results20, go_sem, *]) rfl ⟨_, rfl, FilesS.nil _ _ _, ?_⟩
    exact Below.setCell (Below.setCell G1.out (p := ⟨w.heap.size + 1, 0, none⟩) (by simp) _) (p := ⟨w.heap.size + 1, 1, none⟩) (by simp) _
  · rw [e1, e2, e3]
    rw [numW_ok hw hf] at h1
    have hb := fun W => below_yes (m := n) (n := 97) hn.1 (by omega) W
    have hcn := fun W => count_any n W hn.1 hn.2
    have hcp := cntP_nat hn.1 hn.2
    obtain ⟨m, hm⟩ : ∃ m : Nat, cntP n = (m : Int) := ⟨(cntP n).toNat, by omega⟩
    rw [hm] at hcn
    have HM : Hid ((cntP n).toNat = m) := show _ = _ by rw [hm, Int.toNat_natCast]
    have hm12 : m ≤ 12 := by omega
    rw [HM.out]
    have hok := ((stW_zero fs cnt).1 hw).2.1 f (List.mem_of_getElem? hf)
    have hfl : f.bl.length ≤ 12 := by
      have := cntP_nat hok.1.1 hok.1.2
      have := hok.2.1
      omega
    have hil : i < nF := by rw [← HN.out]; exact (List.getElem?_eq_some_iff.1 hf).1
    have hilz : (i : Int) < (nF : Int) := by omega
    have HF : Hid (fs[i]? = some f) := hf
    clear e1 e2 e3 hw hn bad hf hok hcp hm
    go_enter Try.func20, Try.ntmps20
    go_wp2_with fail
    rw [HW0.out]
    refine (h1 _ HG0.out).mono ?_
    rintro e W1 ⟨rfl, g1⟩
    have G1 : Hid (Grew w W1) := HG0.out.trans g1
    have X1 : Hid (Box W1 w.heap.size [.slice a nF c, .int .i64 cnt]) := X0.out.grew g1
    have Y1 : Hid (Box W1 (w.heap.size + 1) [.slice none 0 0, .int .i64 0]) := Y0.out.grew g1
    have x0 := X1.out.c 0 rfl
    have x1 := X1.out.c 1 rfl
    clear g1 h1 X0 Y0
    go_wp2_with (go_at_call 33; refine (hb _).mono ?_; rintro e w' ⟨rfl, hw'⟩; rw [hw']; clear hw' w')
    refine (h2 _ G1.out).mono ?_
    rintro e W2 ⟨b, rfl, of2, g2, s2⟩
    have HB2 : Hid (w.heap.size + 2 ≤ W1.heap.size) := Y1.out.lt
    obtain ⟨xs, k1, k2, k3, k4⟩ := of2
    obtain ⟨x, hx⟩ : ∃ x, xs[i]? = some x := ⟨_, List.getElem?_eq_getElem (by rw [k2, HN.out]; exact hil)⟩
    obtain ⟨G, bc, rfl⟩ := k1.formS (by rw [k2, HN.out]; omega)
    rw [k2, HN.out] at k1 ⊢
    obtain ⟨q1, q2⟩ := k3 i x f hx HF.out
    obtain ⟨xs0, xa, xn, xc⟩ := x
    obtain ⟨qa, qc, q3⟩ := q2.form
    have q4 : Value.slice xa xn xc = .slice qa f.bl.length qc := q3
    cases q4
    have HX : Hid (xs[i]? = some ⟨xs0, xa, f.bl.length, xc⟩) := hx
    have K1 : Hid (OwnRow fvE (W1.heap.size + 2) W2 (.slice (some ⟨G, 0, none⟩) nF bc) xs) := k1
    have K2 : Hid (xs.length = fs.length) := k2
    have K3 : Hid (∀ (i : Nat) x f, xs[i]? = some x → fs[i]? = some f → x.size = f.size ∧ OwnRow blE (W1.heap.size + 2) W2 x.v f.bl) := k3
    have K4 : Hid (∀ (i j : Nat) x y, i ≠ j → xs[i]? = some x → xs[j]? = some y → ∀ g, x.v.ownBlock = some g → y.v.ownBlock ≠ some g) := k4
    have KX : Hid (OwnRow blE (W1.heap.size + 2) W2 (.slice xa f.bl.length xc) f.bl) := q2
    have G2 : Hid (Grew w W2) := G1.out.trans g2
    have HS2 : Hid (W1.heap.size + 2 ≤ W2.heap.size) := s2
    have G12 : Hid (Grew W1 W2) := g2
    clear g2 s2 h2 x0 x1 k1 k2 k3 k4 q1 q2 q3 hx hb
    go_upto_region 7 with fail
    obtain ⟨po, hpo⟩ : ∃ po, W2.heap.size = po := ⟨_, rfl⟩
    obtain ⟨W3, hW3⟩ : ∃ W3, W2.alloc (.cells #[.slice (some ⟨G, 0, none⟩) nF bc, .int .i64 cnt] 36) = W3 := ⟨_, rfl⟩
    have G23 : Hid (Grew W2 W3) := show Grew _ _ by rw [← hW3]; exact grew_alloc _ _
    have P3 : Hid (BoxT W3 po 36 [.slice (some ⟨G, 0, none⟩) nF bc, .int .i64 cnt]) := show BoxT _ _ _ _ by rw [← hW3]; exact BoxT.top _ _ _ hpo.symm
    have Y3 : Hid (Box W3 (w.heap.size + 1) [.slice none 0 0, .int .i64 0]) := (Y1.out.grew G12.out).grew G23.out
    have HPO : Hid (W1.heap.size + 2 ≤ po) := show _ ≤ _ by rw [← hpo]; exact HS2.out
    have HP3 : Hid (po < W3.heap.size) := P3.out.box.lt
    have G3 : Hid (Grew w W3) := G2.out.trans G23.out
    have KF3 : Hid (OwnRow fvE (W1.heap.size + 2) W3 (.slice (some ⟨G, 0, none⟩) nF bc) xs) := K1.out.grew G23.out
    have KX3 : Hid (OwnRow blE (W1.heap.size + 2) W3 (.slice xa f.bl.length xc) f.bl) := KX.out.grew G23.out
    rw [hW3]
    rw [hpo]
    clear hW3 hpo
    -- the one block that may be written
    obtain ⟨g, hg1, hg2, hg3, hg4, hg5⟩ : ∃ g, (∀ g', (Value.slice xa f.bl.length xc).ownBlock = some g' → g' = g) ∧ g ≠ G ∧ g ≠ po ∧ W1.heap.size + 2 ≤ g ∧ ((Value.slice xa f.bl.length xc).ownBlock = none → W3.heap.size ≤ g) := by
      cases ho : (Value.slice xa f.bl.length xc).ownBlock with
      | none => exact ⟨W3.heap.size, fun g' h => (by cases h), by have := (KF3.out.lt G rfl).2; omega, by have := HP3.out; omega, by have := HP3.out; have := HPO.out; omega, fun _ => Nat.le_refl _⟩
      | some g =>
        refine ⟨g, fun g' h => by cases h; rfl, fun e => ?_, fun e => ?_, (KX3.out.lt g ho).1, fun h => by cases h⟩
        · subst e
          exact KX3.out.apart KF3.out two_kinds g ho rfl
        · exact KX3.out.ne P3.out (by decide) g ho e.symm
    obtain ⟨I, HI⟩ : ∃ I : World → Prop, Hid (∀ w, I w ↔ Out g (g + 1) W3 w) := ⟨fun w => Out g (g + 1) W3 w, fun _ => Iff.rfl⟩
    have hx0 : ∀ x : HoldI I, x.world.cell? ⟨po, 0, none⟩ = some (.slice (some ⟨G, 0, none⟩) nF bc) := fun x => (P3.out.box.out ((HI.out _).1 x.holds) (by omega)).c 0 rfl
    have hx1 : ∀ x : HoldI I, x.world.cell? ⟨G, i * 2 + 1, none⟩ = some (.slice xa f.bl.length xc) := fun x => by
      have ho := KF3.out.out ((HI.out _).1 x.holds) (fun g' hg' => by simp [Value.ownBlock] at hg'; omega)
      obtain ⟨a0, c0, hsl, hrows⟩ := ho.at.rows
      obtain ⟨ad, had, hce⟩ := hrows i _ HX.out
      cases hsl
      cases had
      have := hce _ (Grew.refl _) 1 _ rfl
      rw [add_add', Addr.add_lit, Nat.zero_add] at this
      exact this
    have hne : Nonempty (HoldI I) := ⟨⟨W3, (HI.out _).2 (Out.refl _ _ _)⟩⟩
    obtain ⟨nb, HNB⟩ : ∃ nb, Hid (f.bl.length = nb) := ⟨_, rfl⟩
    rw [HNB.out] at hx1 hg1 hg5 KX KX3 HX
    refine wp_lax_tailI (I := I) 15 [(11, ⟨fun v => v = .int .i64 (m : Int), fun _ _ => True, fun w w' => w' = w, fun _ => True⟩), (12, ⟨fun v => ∃ a' c', v = .slice a' m c', fun v w' => NewRow blE (W1.heap.size + 2) w' v (sized f.bl m) ∧ ∀ x n' c', v = .slice (some x) n' c' → ∃ cs, w'.heap[x.block]? = some (.cells cs blE.ty (0, 0)), fun w w' => w.grownBy w' (Value.slice xa nb xc).ownBlock, fun w => OwnRow blE (W1.heap.size + 2) w (.slice xa nb xc) f.bl ∧ W1.heap.size + 2 ≤ w.heap.size⟩)] ((HI.out _).2 (Out.drew _)) mixed (by kernel_rfl) rfl rfl (by decide) ?hS ?hp ?hpre ?hpr0 ?_
    case hS =>
      intro x hx
      simp at hx
      rcases hx with rfl | rfl
      · exact ⟨_, rfl⟩
      · exact ⟨_, none, 0, rfl⟩
    case hp =>
      intro k s j t hk hj hjk _ v w w' hst hpo
      rcases look2 hk with ⟨rfl, rfl⟩ | ⟨rfl, rfl⟩
      · trivial
      · rcases look2 hj with ⟨rfl, rfl⟩ | ⟨rfl, rfl⟩
        · have e : w' = w := hst
          subst e
          exact hpo
        · exact absurd rfl hjk
    case hpre =>
      intro j t k s hj hk hjk w w' hst hpr
      rcases look2 hj with ⟨rfl, rfl⟩ | ⟨rfl, rfl⟩
      · trivial
      · rcases look2 hk with ⟨rfl, rfl⟩ | ⟨rfl, rfl⟩
        · have e : w' = w := hst
          subst e
          exact hpr
        · exact absurd rfl hjk
    case hpr0 =>
      intro k t hk
      rcases look2 hk with ⟨rfl, rfl⟩ | ⟨rfl, rfl⟩
      · trivial
      · exact ⟨KX3.out.grew (show Below _ _ _ from (Below.refl _ _).drew), show W1.heap.size + 2 ≤ W3.heap.size by have := HP3.out; have := HPO.out; omega⟩
    simp only [List.take, List.drop]
    iterate 11 (refine laxI_quiet rfl rfl rfl (fun K hK => ?_); go_big_quiet_op; refine hK _ ?_; clear hK K)
    refine laxI_spec rfl rfl (fun w' hI' hpr hF => ?_) (fun v1 hv => ?_)
    · refine Does.call [.int .i64 n] rfl Try.func27 rfl rfl rfl ?_
      refine (hcn w').mono ?_
      rintro e w'' ⟨rfl, e2⟩
      subst e2
      exact ⟨_, rfl, hI', rfl, rfl, trivial⟩
    obtain rfl : v1 = .int .i64 (m : Int) := hv
    simp only [Act.put, List.setIfInBounds_toArray, List.set_cons_succ, List.set_cons_zero]
    refine laxI_spec rfl rfl (fun w' hI' hpr hF => ?_) (fun v1 hv => ?_)
    · refine Does.call [.slice xa nb xc, .int .i64 (m : Int)] rfl Try.func40 rfl rfl rfl ?_
      have hpr' : OwnRow blE (W1.heap.size + 2) w' (.slice xa nb xc) f.bl ∧ W1.heap.size + 2 ≤ w'.heap.size := hpr
      have hcall := resized_any xa xc f.bl m hm12 hfl (W1.heap.size + 2) w' (by rw [HNB.out]; exact hpr'.1) hpr'.2
      rw [HNB.out] at hcall
      refine hcall.mono ?_
      rintro e w'' ⟨a', c', rfl, nr, ho, gb⟩
      refine ⟨_, rfl, (HI.out _).2 (((HI.out _).1 hI').trans (Out.grown gb (fun g' h => by have := hg1 g' h; omega))), gb, ⟨a', c', rfl⟩, nr, fun x n' c' e => ?_⟩
      cases e
      exact ho x rfl
    obtain ⟨ra, rc, rfl⟩ := hv
    simp only [Act.put, List.setIfInBounds_toArray, List.set_cons_succ, List.set_cons_zero]
    iterate 2 (refine laxI_quiet rfl rfl rfl (fun K hK => ?_); go_big_quiet_op; refine hK _ ?_; clear hK K)
    refine laxI_nil fun W4 hI4 hF => ?_
    have f12 : NewRow blE (W1.heap.size + 2) W4 (.slice ra m rc) (sized f.bl m) ∧ ∀ x n' c', Value.slice ra m rc = .slice (some x) n' c' → ∃ cs, W4.heap[x.block]? = some (.cells cs blE.ty (0, 0)) := hF 12
    have O4 : Hid (Out g (g + 1) W3 W4) := (HI.out _).1 hI4
    clear hF hx0 hx1 hI4 hne hcn
    have KF4 : Hid (OwnRow fvE (W1.heap.size + 2) W4 (.slice (some ⟨G, 0, none⟩) nF bc) xs) := KF3.out.out O4.out (fun g' hg' => by simp [Value.ownBlock] at hg'; omega)
    refine wpList_store_elt (E := fvE) rfl (.tmp 37) (.tmp 36) rfl (W1.heap.size + 2) _ xs KF4.out G i rfl ⟨n, ra, m, rc⟩ ?t1 ⟨G, i * 2, none⟩ ?t2 rfl (.agg #[.int .i64 n, .slice ra m rc]) ?t3 rfl ?_
    case t1 => rw [K2.out, HN.out]; exact hil
    case t2 => rfl
    case t3 => rfl
    intro W5 ow5 gr5 sz5
    have hGp : G ≠ po := fun e => KF3.out.ne P3.out (by decide) G rfl e.symm
    have hGb : W1.heap.size + 2 ≤ G := (KF3.out.lt G rfl).1
    have P5 : Hid (Box W5 po [.slice (some ⟨G, 0, none⟩) nF bc, .int .i64 cnt]) := (P3.out.box.out O4.out (by omega)).grown gr5 (fun e => hGp e.symm)
    have Y5 : Hid (Box W5 (w.heap.size + 1) [.slice none 0 0, .int .i64 0]) := (Y3.out.out O4.out (by have := HB2.out; omega)).grown gr5 (by have := HB2.out; omega)
    have G5 : Hid (Grew w W5) := show Grew _ _ from grew_grown (Out.grew_of G3.out (by have := HB2.out; omega) O4.out) gr5 (by have := HB2.out; omega)
    have F5 : Hid (FilesS 0 (W1.heap.size + 2) W5 (.slice (some ⟨G, 0, none⟩) nF bc) (fs.set i ⟨n, sized f.bl m⟩)) := show FilesS _ _ _ _ _ by
      refine ⟨ow5.cap, xs.set i ⟨n, ra, m, rc⟩, ow5.new.stays, by simp [K2.out], fun j x f' hx hf' => ?_⟩
      by_cases e : j = i
      · subst e
        rw [List.getElem?_set_self (by rw [K2.out, HN.out]; exact hil)] at hx
        rw [List.getElem?_set_self (by rw [HN.out]; exact hil)] at hf'
        cases hx
        cases hf'
        refine ⟨rfl, (f12.1.grown gr5 (fun x hx hG => ?_)).stays⟩
        subst hx
        obtain ⟨cs, h1⟩ := f12.2 x _ _ rfl
        obtain ⟨ds, h2⟩ := KF4.out.obj (g := G) rfl
        rw [hG, h2] at h1
        simp only [Option.some.injEq, Obj.cells.injEq] at h1
        exact two_kinds h1.2.1.symm
      · rw [List.getElem?_set_ne (fun h => e h.symm)] at hx hf'
        obtain ⟨q1, q2⟩ := K3.out j x f' hx hf'
        have o4 := (q2.grew G23.out).out O4.out (fun g' hg' => by
          have h1 : g' ≠ g := fun e' => by
            subst e'
            cases ho : (Value.slice xa nb xc).ownBlock with
            | none =>
              have h2 := hg5 ho
              have h3 := ((q2.grew G23.out).lt g' hg').2
              omega
            | some g0 =>
              have := hg1 g0 ho
              subst this
              exact K4.out j i x _ e hx HX.out g0 hg' ho
          omega)
        exact ⟨q1, (o4.grown gr5 (fun g' hg' e' => by cases e'; exact KF4.out.apart o4 (Ne.symm two_kinds) G rfl hg')).new.stays⟩
    clear ow5 gr5 sz5 f12
    have p0 := P5.out.c 0 rfl
    have p1 := P5.out.c 1 rfl
    have y0 := Y5.out.c 0 rfl
    have y1 := Y5.out.c 1 rfl
    have yf := Y5.out.f
    have hne2 : po ≠ w.heap.size + 1 := by have := HPO.out; have := HB2.out; omega
    have hne2' : ¬ w.heap.size + 1 = po := fun e => hne2 e.symm
    go_wp2
    refine bodyPost_ret (v := .tuple #[.agg #[.slice (some ⟨G, 0, none⟩) nF bc, .int .i64 cnt], .int .i64 0]) (by simp [results, Try.results20, go_sem, *]) rfl ⟨_, rfl, ?_, ?_⟩
    · have F6 := F5.out.less (A0 := 0) (A1 := w.heap.size + 2) (Nat.le_refl _) (by have := HB2.out; omega)
      exact ((F6.out (Out.setCell _ _ _ (p := ⟨w.heap.size + 1, 0, none⟩) (Nat.zero_le _) (by simp) _)).out (Out.setCell _ _ _ (p := ⟨w.heap.size + 1, 1, none⟩) (Nat.zero_le _) (by simp) _)).less (Nat.le_refl _) (by omega)
    · exact Below.setCell (Below.setCell G5.out (p := ⟨w.heap.size + 1, 0, none⟩) (by simp) _) (p := ⟨w.heap.size + 1, 1, none⟩) (by simp) _

end Go.Proofs.Ytagpmjgmohfmjac
