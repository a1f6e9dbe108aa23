/- Contract of Create (package store). -/
import Derived.Test.YtagpmjgmohfmjacStSmall
import Derived.Test.YtagpmjgmohfmjacStOwn
namespace Go.Proofs.Ytagpmjgmohfmjac
open Go.RowKit

/-- A file more, without bytes. -/
theorem OwnFiles.append {base base' : Nat} {w w' : World} {v v' : Value} {fs : List Fl} {xs : List FlV} (h1 : OwnRow fvE base w v xs) (h2 : xs.length = fs.length) (h3 : ∀ (i : Nat) x f, xs[i]? = some x → fs[i]? = some f → x.size = f.size ∧ OwnRow blE base w x.v f.bl)
    (h4 : ∀ (i j : Nat) x y, i ≠ j → xs[i]? = some x → xs[j]? = some y → ∀ g, x.v.ownBlock = some g → y.v.ownBlock ≠ some g) (hv : OwnRow fvE base' w' v' (xs ++ [⟨0, none, 0, 0⟩])) (hg : w.grownBy w' v.ownBlock) (hb : base' ≤ base) : OwnFiles base' w' v' (fs ++ [⟨0, []⟩]) := by
  refine ⟨xs ++ [⟨0, none, 0, 0⟩], hv, by simp [h2], fun i x f hx hf => ?_, fun i j x y hij hx hy g hgx => ?_⟩
  · rcases Nat.lt_or_ge i xs.length with hi | hi
    · rw [List.getElem?_append_left hi] at hx
      rw [List.getElem?_append_left (by omega)] at hf
      obtain ⟨q1, q2⟩ := h3 i x f hx hf
      exact ⟨q1, (q2.grown hg (fun g hg' e => h1.apart q2 (Ne.symm two_kinds) g e hg')).base hb⟩
    · rw [List.getElem?_append_right hi] at hx
      rw [List.getElem?_append_right (by omega), ← h2] at hf
      have hi0 : i - xs.length = 0 := by
        have := (List.getElem?_eq_some_iff.1 hx).1
        simp at this
        omega
      rw [hi0] at hx hf
      cases hx
      cases hf
      exact ⟨rfl, OwnRow.nil _ _ _⟩
  · rcases Nat.lt_or_ge i xs.length with hi | hi
    · rw [List.getElem?_append_left hi] at hx
      rcases Nat.lt_or_ge j xs.length with hj | hj
      · rw [List.getElem?_append_left hj] at hy
        exact h4 i j x y hij hx hy g hgx
      · rw [List.getElem?_append_right hj] at hy
        have hj0 : j - xs.length = 0 := by
          have := (List.getElem?_eq_some_iff.1 hy).1
          simp at this
          omega
        rw [hj0] at hy
        cases hy
        exact fun e => by cases e
    · rw [List.getElem?_append_right hi] at hx
      have hi0 : i - xs.length = 0 := by
        have := (List.getElem?_eq_some_iff.1 hx).1
        simp at this
        omega
      rw [hi0] at hx
      cases hx
      cases hgx

set_option maxRecDepth 100000 in
set_option maxHeartbeats 1000000 in
theorem createSt_any (v : Value) (fs : List Fl) (cnt : Int) (w : World) (hv : FilesAt w v fs) :
    Calls Try.prog 18 #[.agg #[v, .int .i64 cnt]] w fun e w' => ∃ b, e = .returned (.tuple #[.agg #[b, .int .i64 (creC fs cnt)], .int .i64 (creI fs cnt), .int .i64 (creE fs cnt)]) ∧ FilesS 0 w.heap.size w' b (creF fs cnt) ∧ Grew w w' := by
  have h1 : ∀ W, Grew w W → Calls Try.prog 14 #[.agg #[v, .int .i64 cnt]] W fun e w' => e = .returned (.int .i64 (stW fs cnt)) ∧ Grew W w' := fun W hW => wrongSt_any v fs cnt W (hv.grew hW)
  have h2 : ∀ W, Grew w W → Calls Try.prog 17 #[.agg #[v, .int .i64 cnt]] W fun e w' => ∃ b, e = .returned (.agg #[b, .int .i64 cnt]) ∧ OwnFiles (W.heap.size + 2) w' b fs ∧ Grew W w' ∧ W.heap.size + 2 ≤ w'.heap.size := fun W hW => ownSt_any v fs cnt W (hv.grew hW)
  obtain ⟨a, c, rfl, hbig, _⟩ := hv.rows
  clear hv
  obtain ⟨n, HN⟩ : ∃ n, Hid (fs.length = n) := ⟨_, rfl⟩
  rw [HN.out] at h1 h2 hbig ⊢
  obtain ⟨W0, hW0⟩ : ∃ W0, (w.alloc (.cells #[.slice a n c, .int .i64 cnt] 36)).alloc (.cells #[.slice none 0 0, .int .i64 0] 36) = W0 := ⟨_, rfl⟩
  have HG0 : Hid (Grew w W0) := show Grew w W0 by rw [← hW0]; exact (grew_alloc _ _).trans (grew_alloc _ _)
  have X0 : Hid (Box W0 w.heap.size [.slice a n c, .int .i64 cnt]) := show Box _ _ _ by rw [← hW0]; exact (Box.top w _ _ rfl).alloc _
  have Y0 : Hid (Box W0 (w.heap.size + 1) [.slice none 0 0, .int .i64 0]) := show Box _ _ _ by rw [← hW0]; exact Box.top _ _ _ (by simp)
  have HW0 : Hid (_ = W0) := hW0
  clear hW0
  rcases cre_cases fs cnt with ⟨hw, e1, e2, e3, e4⟩ | ⟨hw, hl, e1, e2, e3, e4⟩ | ⟨hw, hl, e1, e2, e3, e4⟩
  · rw [e1, e2, e3, e4]
    have hzb : (stW fs cnt != 0) = true := by simpa using hw
    clear e1 e2 e3 e4 h2 hw
    generalize stW fs cnt = S at *
    go_enter Try.func18, Try.ntmps18
    go_wp2_with fail
    rw [HW0.out]
    refine (h1 _ HG0.out).mono ?_
    rintro e W1 ⟨rfl, g1⟩
    have G1 : Hid (Grew w W1) := HG0.out.trans g1
    have Y1 := Y0.out.grew g1
    have y0 := Y1.c 0 rfl
    have y1 := Y1.c 1 rfl
    have yf := Y1.f
    clear Y1 g1 h1
    go_wp2
    refine bodyPost_ret (v := .tuple #[.agg #[.slice none 0 0, .int .i64 0], .int .i64 0, .int .i64 S]) (by simp [results, Try.results18, go_sem, *]) rfl ⟨_, rfl, FilesS.nil _ _ _, ?_⟩
    exact Below.setCell (Below.setCell G1.out (p := ⟨w.heap.size + 1, 0, none⟩) (by simp) _) (p := ⟨w.heap.size + 1, 1, none⟩) (by simp) _
  · rw [e1, e2, e3, e4]
    rw [hw] at h1
    rw [HN.out] at hl
    have hl5 : ((n : Int) == 5) = true := by simp; omega
    clear e1 e2 e3 e4 h2 hw hl
    go_enter Try.func18, Try.ntmps18
    go_wp2_with fail
    rw [HW0.out]
    refine (h1 _ HG0.out).mono ?_
    rintro e W1 ⟨rfl, g1⟩
    have G1 : Hid (Grew w W1) := HG0.out.trans g1
    have x0 := (X0.out.grew g1).c 0 rfl
    have Y1 := Y0.out.grew g1
    have y0 := Y1.c 0 rfl
    have y1 := Y1.c 1 rfl
    have yf := Y1.f
    clear Y1 g1 h1
    go_wp2
    refine bodyPost_ret (v := .tuple #[.agg #[.slice none 0 0, .int .i64 0], .int .i64 0, .int .i64 4]) (by simp [results, Try.results18, go_sem, *]) rfl ⟨_, rfl, FilesS.nil _ _ _, ?_⟩
    exact Below.setCell (Below.setCell G1.out (p := ⟨w.heap.size + 1, 0, none⟩) (by simp) _) (p := ⟨w.heap.size + 1, 1, none⟩) (by simp) _
  · rw [e1, e2, e3, e4]
    rw [hw] at h1
    rw [HN.out] at hl ⊢
    have hl5 : ((n : Int) == 5) = false := by simp; omega
    clear e1 e2 e3 e4 hw
    go_enter Try.func18, Try.ntmps18
    go_wp2_with fail
    rw [HW0.out]
    refine (h1 _ HG0.out).mono ?_
    rintro e W1 ⟨rfl, g1⟩
    have G1 : Hid (Grew w W1) := HG0.out.trans g1
    have X1 : Hid (Box W1 w.heap.size [.slice a n c, .int .i64 cnt]) := X0.out.grew g1
    have Y1 : Hid (Box W1 (w.heap.size + 1) [.slice none 0 0, .int .i64 0]) := Y0.out.grew g1
    have x0 := X1.out.c 0 rfl
    have x1 := X1.out.c 1 rfl
    clear g1 h1 X0 Y0
    go_wp2_with fail
    refine (h2 _ G1.out).mono ?_
    rintro e W2 ⟨b, rfl, of2, g2, s2⟩
    have HB2 : Hid (w.heap.size + 2 ≤ W1.heap.size) := Y1.out.lt
    obtain ⟨xs, k1, k2, k3, k4⟩ := of2
    obtain ⟨ba, bc, rfl⟩ := k1.form
    rw [k2, HN.out] at k1 ⊢
    have K1 : Hid (OwnRow fvE (W1.heap.size + 2) W2 (.slice ba n bc) xs) := k1
    have K2 : Hid (xs.length = fs.length) := k2
    have K3 : Hid (∀ (i : Nat) x f, xs[i]? = some x → fs[i]? = some f → x.size = f.size ∧ OwnRow blE (W1.heap.size + 2) W2 x.v f.bl) := k3
    have K4 : Hid (∀ (i j : Nat) x y, i ≠ j → xs[i]? = some x → xs[j]? = some y → ∀ g, x.v.ownBlock = some g → y.v.ownBlock ≠ some g) := k4
    have G2 : Hid (Grew w W2) := G1.out.trans g2
    have HS2 : Hid (W1.heap.size + 2 ≤ W2.heap.size) := s2
    have G12 : Hid (Grew W1 W2) := g2
    clear g2 s2 h2 x0 x1 k1 k2 k3 k4
    go_upto_region 7 with fail
    obtain ⟨po, hpo⟩ : ∃ po, W2.heap.size = po := ⟨_, rfl⟩
    obtain ⟨W3, hW3⟩ : ∃ W3, W2.alloc (.cells #[.slice ba n bc, .int .i64 cnt] 36) = W3 := ⟨_, rfl⟩
    have G23 : Hid (Grew W2 W3) := show Grew _ _ by rw [← hW3]; exact grew_alloc _ _
    have P3 : Hid (BoxT W3 po 36 [.slice ba n bc, .int .i64 cnt]) := show BoxT _ _ _ _ by rw [← hW3]; exact BoxT.top _ _ _ hpo.symm
    have X3 : Hid (Box W3 w.heap.size [.slice a n c, .int .i64 cnt]) := (X1.out.grew G12.out).grew G23.out
    have Y3 : Hid (Box W3 (w.heap.size + 1) [.slice none 0 0, .int .i64 0]) := (Y1.out.grew G12.out).grew G23.out
    have HPO : Hid (W1.heap.size + 2 ≤ po) := show _ ≤ _ by rw [← hpo]; exact HS2.out
    have HP3 : Hid (po < W3.heap.size) := P3.out.box.lt
    have G3 : Hid (Grew w W3) := G2.out.trans G23.out
    rw [hW3]
    rw [hpo]
    clear hW3 hpo
    have p0 := P3.out.box.c 0 rfl
    go_wp2_with (at_builtin; refine wpList_append_row (E := fvE) rfl (.tmp 21) (.tmp 23) rfl (W1.heap.size + 2) _ xs rfl (K1.out.grew (G23.out.trans (grew_alloc _ _))) _ [⟨0, none, 0, 0⟩] rfl (one_row fvE W3 ⟨0, none, 0, 0⟩ _ _ rfl (by show 32 ≤ _; omega)) ?qb ?qc ?_)
    case qb =>
      rw [K2.out, HN.out]
      show (_ + 1) * 32 ≤ _
      omega
    case qc => simp; have := HPO.out; have := HP3.out; omega
    intro v4 W4 ow4 gr4
    have OF4 := OwnFiles.append (K1.out.grew (G23.out.trans (grew_alloc _ _))) K2.out (fun i x f hx hf => ⟨(K3.out i x f hx hf).1, (K3.out i x f hx hf).2.grew (G23.out.trans (grew_alloc _ _))⟩) K4.out ow4 gr4 (Nat.le_refl _)
    obtain ⟨xa, xc, rfl⟩ := ow4.form
    rw [List.length_append, K2.out, HN.out] at OF4 ⊢
    simp only [List.length_cons, List.length_nil, Nat.zero_add] at OF4 ⊢
    have hown : ∀ g, (Value.slice ba n bc).ownBlock = some g → W1.heap.size + 2 ≤ g := fun g hg => (K1.out.lt g hg).1
    have P4 : Hid (BoxT W4 po 36 [.slice ba n bc, .int .i64 cnt]) := (P3.out.grew (grew_alloc _ _)).beside gr4 (fun g hg => (K1.out.grew G23.out).ne P3.out (by decide) g hg)
    have X4 : Hid (Box W4 w.heap.size [.slice a n c, .int .i64 cnt]) := (X3.out.grew (grew_alloc _ _)).beside gr4 (fun g hg => by have := hown g hg; have := HB2.out; omega)
    have Y4 : Hid (Box W4 (w.heap.size + 1) [.slice none 0 0, .int .i64 0]) := (Y3.out.grew (grew_alloc _ _)).beside gr4 (fun g hg => by have := hown g hg; have := HB2.out; omega)
    have G4 : Hid (Grew w W4) := show Grew _ _ from grew_beside (G3.out.trans (grew_alloc _ _)) gr4 (fun g hg => by have := hown g hg; have := HB2.out; omega)
    have O4 : Hid (OwnFiles (W1.heap.size + 2) W4 (.slice xa (n + 1) xc) (fs ++ [⟨0, []⟩])) := OF4
    clear OF4 ow4 gr4 hown p0
    have q0 := P4.out.box.c 0 rfl
    have q1 := P4.out.box.c 1 rfl
    have qf := P4.out.box.f
    go_upto_region 8 with fail
    obtain ⟨W5, hW5⟩ : ∃ W5, W4.setCell ⟨po, 0, none⟩ (.slice xa (n + 1) xc) = W5 := ⟨_, rfl⟩
    have hne1 : po ≠ w.heap.size := by have := HPO.out; have := HB2.out; omega
    have hne2 : po ≠ w.heap.size + 1 := by have := HPO.out; have := HB2.out; omega
    have P5 : Hid (Box W5 po [.slice xa (n + 1) xc, .int .i64 cnt]) := show Box _ _ _ by rw [← hW5]; exact P4.out.box.set 0 _
    have X5 : Hid (Box W5 w.heap.size [.slice a n c, .int .i64 cnt]) := show Box _ _ _ by rw [← hW5]; exact X4.out.other (fun e => hne1 e.symm) _
    have Y5 : Hid (Box W5 (w.heap.size + 1) [.slice none 0 0, .int .i64 0]) := show Box _ _ _ by rw [← hW5]; exact Y4.out.other (fun e => hne2 e.symm) _
    have O5 : Hid (OwnFiles (W1.heap.size + 2) W5 (.slice xa (n + 1) xc) (fs ++ [⟨0, []⟩])) := show OwnFiles _ _ _ _ by rw [← hW5]; exact O4.out.setBox P4.out (by decide) (by decide) 0 _
    have G5 : Hid (Grew w W5) := show Grew _ _ by rw [← hW5]; exact Below.setCell G4.out (p := ⟨po, 0, none⟩) (by have := HPO.out; have := HB2.out; simp; omega) _
    rw [hW5]
    clear hW5 q0 q1 qf O4 P4 X4 Y4 G4
    have p0 := P5.out.c 0 rfl
    have p1 := P5.out.c 1 rfl
    have x0 := X5.out.c 0 rfl
    have x1 := X5.out.c 1 rfl
    have y0 := Y5.out.c 0 rfl
    have y1 := Y5.out.c 1 rfl
    have yf := Y5.out.f
    have hne1' : ¬ w.heap.size = po := fun e => hne1 e.symm
    have hne2' : ¬ w.heap.size + 1 = po := fun e => hne2 e.symm
    go_region
    all_goals go_wp2
    all_goals
      refine bodyPost_ret (v := .tuple #[.agg #[.slice xa (n + 1) xc, .int .i64 cnt], .int .i64 n, .int .i64 0]) (by simp [results, Try.results18, go_sem, *]) rfl ⟨_, rfl, ?_, ?_⟩
      · refine FilesS.grew ((OwnFiles.setCell (OwnFiles.setCell O5.out (a := ⟨w.heap.size + 1, 0, none⟩) ?_ _) (a := ⟨w.heap.size + 1, 1, none⟩) ?_ _).new.less (Nat.le_refl _) ?_) (show Below _ _ _ from (Below.refl _ _).drew)
        · have := HB2.out; simp; omega
        · have := HB2.out; simp; omega
        · have := HB2.out; omega
      · exact (Below.setCell (Below.setCell G5.out (p := ⟨w.heap.size + 1, 0, none⟩) (by simp) _) (p := ⟨w.heap.size + 1, 1, none⟩) (by simp) _).drew

end Go.Proofs.Ytagpmjgmohfmjac
