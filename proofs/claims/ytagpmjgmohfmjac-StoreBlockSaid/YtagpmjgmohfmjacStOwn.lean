/- Contract of Own (package store): a copy that may be written. -/
import Derived.Test.YtagpmjgmohfmjacStLeaf
import Derived.BigQuiet
import Derived.WalkSmall
import Derived.Deep.Cut
namespace Go.Proofs.Ytagpmjgmohfmjac
open Go.RowKit

/-- Files of the call's own: no two have blocks in one place. -/
def OwnFiles (base : Nat) (w : World) (v : Value) (fs : List Fl) : Prop :=
  ∃ xs : List FlV, OwnRow fvE base w v xs ∧ xs.length = fs.length ∧ (∀ (i : Nat) x f, xs[i]? = some x → fs[i]? = some f → x.size = f.size ∧ OwnRow blE base w x.v f.bl) ∧
    ∀ (i j : Nat) x y, i ≠ j → xs[i]? = some x → xs[j]? = some y → ∀ g, x.v.ownBlock = some g → y.v.ownBlock ≠ some g

theorem OwnFiles.new {base : Nat} {w : World} {v : Value} {fs : List Fl} (h : OwnFiles base w v fs) : FilesS 0 base w v fs := by
  obtain ⟨xs, h1, h2, h3, _⟩ := h
  exact ⟨h1.cap, xs, h1.new.stays, h2, fun i x f hx hf => ⟨(h3 i x f hx hf).1, (h3 i x f hx hf).2.new.stays⟩⟩
theorem OwnFiles.grew {base : Nat} {w w' : World} {v : Value} {fs : List Fl} (h : OwnFiles base w v fs) (k : Grew w w') : OwnFiles base w' v fs := by
  obtain ⟨xs, h1, h2, h3, h4⟩ := h
  exact ⟨xs, h1.grew k, h2, fun i x f hx hf => ⟨(h3 i x f hx hf).1, (h3 i x f hx hf).2.grew k⟩, h4⟩
theorem OwnFiles.base {base base' : Nat} {w : World} {v : Value} {fs : List Fl} (h : OwnFiles base w v fs) (hb : base' ≤ base) : OwnFiles base' w v fs := by
  obtain ⟨xs, h1, h2, h3, h4⟩ := h
  exact ⟨xs, h1.base hb, h2, fun i x f hx hf => ⟨(h3 i x f hx hf).1, (h3 i x f hx hf).2.base hb⟩, h4⟩
theorem OwnFiles.setCell {base : Nat} {w : World} {v : Value} {fs : List Fl} (h : OwnFiles base w v fs) {a : Addr} (ha : a.block < base) (u : Value) : OwnFiles base (w.setCell a u) v fs := by
  obtain ⟨xs, h1, h2, h3, h4⟩ := h
  exact ⟨xs, h1.setCell ha u, h2, fun i x f hx hf => ⟨(h3 i x f hx hf).1, (h3 i x f hx hf).2.setCell ha u⟩, h4⟩

theorem OwnRow.obj {α : Type} {E : Elt α} {base : Nat} {w : World} {v : Value} {l : List α} (h : OwnRow E base w v l) {g : Nat} (hg : v.ownBlock = some g) : ∃ cs, w.heap[g]? = some (.cells cs E.ty (0, 0)) := by
  rcases h.1.2 with ⟨rfl, _⟩ | ⟨g', cap, cur, rfl, _, h3, _⟩
  · cases hg
  · simp only [Value.ownBlock, Option.some.injEq] at hg
    subst hg
    exact ⟨cur, h3⟩

/-- Rows of two kinds lie in two places. -/
theorem OwnRow.apart {α β : Type} {E : Elt α} {F : Elt β} {base base' : Nat} {w : World} {v u : Value} {l : List α} {m : List β} (h : OwnRow E base w v l) (k : OwnRow F base' w u m) (ht : E.ty ≠ F.ty) : ∀ g, v.ownBlock = some g → u.ownBlock ≠ some g := fun g hg hu => by
  obtain ⟨cs, h1⟩ := h.obj hg
  obtain ⟨ds, h2⟩ := k.obj hu
  rw [h1] at h2
  simp only [Option.some.injEq, Obj.cells.injEq] at h2
  exact ht h2.2.1

theorem two_kinds : blE.ty ≠ fvE.ty := by decide

theorem slice_get {a : Option Addr} {n c : Nat} : (FlV.v ⟨0, a, n, c⟩) = .slice a n c := rfl

theorem OwnFiles.setBox {base : Nat} {w : World} {v : Value} {fs : List Fl} (h : OwnFiles base w v fs) {b : Nat} {t : TypeId} {cs : List Value} (hb : BoxT w b t cs) (h1 : t ≠ fvE.ty) (h2 : t ≠ blE.ty) (i : Nat) (u : Value) : OwnFiles base (w.setCell ⟨b, i, none⟩ u) v fs := by
  obtain ⟨xs, k1, k2, k3, k4⟩ := h
  exact ⟨xs, k1.setOther (k1.ne hb h1) u, k2, fun i x f hx hf => ⟨(k3 i x f hx hf).1, (k3 i x f hx hf).2.setOther ((k3 i x f hx hf).2.ne hb h2) u⟩, k4⟩

/-- The first kk of ys are the call's own, the others are as they were. -/
structure Half (base : Nat) (w : World) (kk : Nat) (xs ys : List FlV) (fs : List Fl) : Prop where
  len : ys.length = xs.length
  own : ∀ (i : Nat) y f, i < kk → ys[i]? = some y → fs[i]? = some f → y.size = f.size ∧ OwnRow blE base w y.v f.bl
  rest : ∀ (i : Nat), kk ≤ i → ys[i]? = xs[i]?
  two : ∀ (i j : Nat) x y, i < kk → j < kk → i ≠ j → ys[i]? = some x → ys[j]? = some y → ∀ g, x.v.ownBlock = some g → y.v.ownBlock ≠ some g

theorem Half.step {base : Nat} {w w1 w2 : World} {kk : Nat} {xs ys : List FlV} {fs : List Fl} (h : Half base w kk xs ys fs) (hg : Grew w w1) {g : Nat} (hg2 : w1.grownBy w2 (some g)) {f : Fl} {x : FlV} (hf : fs[kk]? = some f) (hx : xs[kk]? = some x)
    (hs : x.size = f.size) {a : Option Addr} {n c : Nat} (hown : OwnRow blE w.heap.size w1 (.slice a n c) f.bl) (hb : base ≤ w.heap.size) {v : Value} (hv : OwnRow fvE base w1 v ys) (hvg : v.ownBlock = some g) : Half base w2 (kk + 1) xs (ys.set kk ⟨x.size, a, n, c⟩) fs := by
  have hk : kk < ys.length := by rw [h.len]; exact (List.getElem?_eq_some_iff.1 hx).1
  have keep : ∀ (y : FlV) (l : List Int), OwnRow blE base w1 y.v l → OwnRow blE base w2 y.v l := fun y l o => o.grown hg2 (fun g' h1 e => by
    cases e
    exact hv.apart o (Ne.symm two_kinds) g hvg h1)
  refine ⟨by rw [List.length_set]; exact h.len, fun i y f' hi hy hf' => ?_, fun i hi => ?_, fun i j p q hi hj hij hp hq g' hp' => ?_⟩
  · by_cases e : i = kk
    · subst e
      rw [List.getElem?_set_self hk] at hy
      cases hy
      rw [hf] at hf'
      cases hf'
      exact ⟨hs, keep ⟨x.size, a, n, c⟩ _ (hown.base hb)⟩
    · rw [List.getElem?_set_ne (fun h => e h.symm)] at hy
      obtain ⟨q1, q2⟩ := h.own i y f' (by omega) hy hf'
      exact ⟨q1, keep y _ (q2.grew hg)⟩
  · rw [List.getElem?_set_ne (by omega)]
    exact h.rest i (by omega)
  · have newer : ∀ (i : Nat) y f', i < kk → ys[i]? = some y → fs[i]? = some f' → ∀ b, y.v.ownBlock = some b → b < w.heap.size := fun i y f' hi hy hf' b hb' => ((h.own i y f' hi hy hf').2.lt b hb').2
    have hfl : ∀ i, i < kk → ∃ f', fs[i]? = some f' := fun i hi => ⟨_, List.getElem?_eq_getElem (by have := (List.getElem?_eq_some_iff.1 hf).1; omega)⟩
    by_cases e1 : i = kk
    · subst e1
      rw [List.getElem?_set_self hk] at hp
      cases hp
      rw [List.getElem?_set_ne (by omega)] at hq
      obtain ⟨f', hf'⟩ := hfl j (by omega)
      intro hq'
      have h1 := newer j q f' (by omega) hq hf' g' hq'
      have h2 := (hown.lt g' hp').1
      omega
    · rw [List.getElem?_set_ne (by omega)] at hp
      by_cases e2 : j = kk
      · subst e2
        rw [List.getElem?_set_self hk] at hq
        cases hq
        obtain ⟨f', hf'⟩ := hfl i (by omega)
        intro hq'
        have h1 := newer i p f' (by omega) hp hf' g' hp'
        have h2 := (hown.lt g' hq').1
        omega
      · rw [List.getElem?_set_ne (by omega)] at hq
        exact h.two i j p q (by omega) (by omega) hij hp hq g' hp'

theorem Half.all {base : Nat} {w : World} {xs ys : List FlV} {fs : List Fl} {v : Value} (h : Half base w xs.length xs ys fs) (hl : xs.length = fs.length) (hv : OwnRow fvE base w v ys) : OwnFiles base w v fs := by
  refine ⟨ys, hv, h.len.trans hl, fun i y f hy hf => h.own i y f (by rw [← h.len]; exact (List.getElem?_eq_some_iff.1 hy).1) hy hf, fun i j p q hij hp hq => h.two i j p q ?_ ?_ hij hp hq⟩
  · rw [← h.len]; exact (List.getElem?_eq_some_iff.1 hp).1
  · rw [← h.len]; exact (List.getElem?_eq_some_iff.1 hq).1

set_option maxRecDepth 100000 in
set_option maxHeartbeats 1000000 in
theorem ownSt_any (v : Value) (fs : List Fl) (cnt : Int) (w : World) (hv : FilesAt w v fs) :
    Calls Try.prog 17 #[.agg #[v, .int .i64 cnt]] w fun e w' => ∃ b, e = .returned (.agg #[b, .int .i64 cnt]) ∧ OwnFiles (w.heap.size + 2) w' b fs ∧ Grew w w' ∧ w.heap.size + 2 ≤ w'.heap.size := by
  obtain ⟨_, xs, k1, k2, k3⟩ := hv
  have HX : Hid (RowAt fvE w v xs) := k1.now
  have HK : Hid (∀ (i : Nat) x f, xs[i]? = some x → fs[i]? = some f → x.size = f.size ∧ RowAt blE w (.slice x.a x.n x.c) f.bl) := show ∀ (i : Nat) x f, _ from fun i x f hx hf => ⟨(k3 i x f hx hf).1, (k3 i x f hx hf).2.now⟩
  have HL : Hid (xs.length = fs.length) := k2
  have hbig := k1.now.short
  obtain ⟨a, c, rfl, _⟩ := k1.now.rows
  clear k1 k2 k3
  obtain ⟨n, HN⟩ : ∃ n, Hid (xs.length = n) := ⟨_, rfl⟩
  rw [HN.out] at hbig HX ⊢
  obtain ⟨W0, hW0⟩ : ∃ W0, (w.alloc (.cells #[.slice a n c, .int .i64 cnt] 36)).alloc (.cells #[.slice none 0 0, .int .i64 0] 36) = W0 := ⟨_, rfl⟩
  have HG0 : Hid (Grew w W0) := show Grew w W0 by rw [← hW0]; exact (grew_alloc _ _).trans (grew_alloc _ _)
  have X0 : Hid (Box W0 w.heap.size [.slice a n c, .int .i64 cnt]) := show Box _ _ _ by rw [← hW0]; exact (Box.top w _ _ rfl).alloc _
  have Y0 : Hid (Box W0 (w.heap.size + 1) [.slice none 0 0, .int .i64 0]) := show Box _ _ _ by rw [← hW0]; exact Box.top _ _ _ (by simp)
  have HS0 : Hid (W0.heap.size = w.heap.size + 2) := show _ = _ by rw [← hW0]; simp
  have HW0 : Hid (_ = W0) := hW0
  clear hW0
  go_enter Try.func17, Try.ntmps17
  go_wp2_with fail
  rw [HW0.out]
  refine (cloneFile_any _ xs W0 (HX.out.grew HG0.out)).mono ?_
  rintro e W1 ⟨v1, rfl, ow1, g1⟩
  obtain ⟨xa, xc, rfl⟩ := ow1.form
  rw [HS0.out] at ow1
  rw [HN.out] at ow1 ⊢
  have O1 : Hid (OwnRow fvE (w.heap.size + 2) W1 (.slice xa n xc) xs) := ow1
  have G1 : Hid (Grew W0 W1) := g1
  clear ow1 g1
  go_wp2
  go_loopg [4, 10] n (fun gg _ s10 wr => ∃ (kk : Nat) (ys : List FlV), kk ≤ n ∧ n - kk ≤ gg ∧ s10 = .int .i64 kk ∧ Hid (Grew W0 wr) ∧ Hid (OwnRow fvE (w.heap.size + 2) wr (.slice xa n xc) ys) ∧ Hid (Half (w.heap.size + 2) wr kk xs ys fs))
  case atStart => exact ⟨0, xs, Nat.zero_le _, by omega, rfl, G1.out, O1.out, ⟨rfl, fun i y f hi => absurd hi (Nat.not_lt_zero _), fun i _ => rfl, fun i j x y hi => absurd hi (Nat.not_lt_zero _)⟩⟩
  case round =>
    obtain ⟨kk, ys, hkk, hgg, rfl, BW, OW, HH⟩ := hrel
    clear O1 G1
    by_cases hlt : kk < n
    · have hltz : (kk : Int) < (n : Int) := by omega
      obtain ⟨q, HQ⟩ : ∃ q, Hid (xs[kk]? = some q) := ⟨_, List.getElem?_eq_getElem (by rw [HN.out]; exact hlt)⟩
      obtain ⟨f, HF⟩ : ∃ f, Hid (fs[kk]? = some f) := ⟨_, List.getElem?_eq_getElem (by rw [← HL.out, HN.out]; exact hlt)⟩
      have HY : Hid (ys[kk]? = some q) := show _ = _ by rw [HH.out.rest kk (Nat.le_refl _)]; exact HQ.out
      obtain ⟨g, xc', heq⟩ := OW.out.formS (by rw [HH.out.len, HN.out]; omega)
      rw [HH.out.len, HN.out] at heq
      cases heq
      obtain ⟨q1, q2⟩ := HK.out kk q f HQ.out HF.out
      have Q1 : Hid (q.size = f.size) := q1
      have hcl := cloneInt_any _ f.bl wr (q2.grew (HG0.out.trans BW.out))
      obtain ⟨a0, c0, hsl, hrows⟩ := OW.out.at.rows
      obtain ⟨ad, had, hce⟩ := hrows kk q HY.out
      rw [HH.out.len, HN.out] at hsl
      cases hsl
      cases had
      have d1 : wr.cell? ⟨g, kk * 2 + 1, none⟩ = some (.slice q.a q.n q.c) := by
        have := hce wr (Grew.refl _) 1 _ rfl
        rw [add_add', Addr.add_lit, Nat.zero_add] at this
        exact this
      clear q1 q2 hrows hce
      go_wp2_with fail
      refine hcl.mono ?_
      rintro e W2 ⟨v2, rfl, ow2, g2⟩
      obtain ⟨a2, c2, rfl⟩ := ow2.form
      have O2 : Hid (OwnRow blE wr.heap.size W2 (.slice a2 f.bl.length c2) f.bl) := ow2
      have G2 : Hid (Grew wr W2) := g2
      have OF2 : Hid (OwnRow fvE (w.heap.size + 2) W2 (.slice (some ⟨g, 0, none⟩) n xc) ys) := OW.out.grew g2
      have HB : Hid (w.heap.size + 2 ≤ wr.heap.size) := show _ ≤ _ by
        have := Below.size BW.out
        rw [HS0.out] at this
        exact this
      clear ow2 g2 hcl d1
      generalize f.bl.length = nb at O2 ⊢
      go_wp2_with (refine wpList_store_part (E := fvE) rfl (.tmp 22) (.tmp 20) 22 rfl (w.heap.size + 2) _ ys OF2.out g kk 1 rfl q ⟨q.size, a2, nb, c2⟩ HY.out [.slice a2 nb c2] ?s1 rfl ?s2 ?s3 ⟨g, kk * 2 + 1, none⟩ rfl rfl (.slice a2 nb c2) rfl rfl ?_)
      case s1 => kernel_rfl
      case s2 => exact Nat.le_refl 2
      case s3 => simp; rfl
      intro W3 ow3 gr3 _
      have O3 : Hid (OwnRow fvE (w.heap.size + 2) W3 (.slice (some ⟨g, 0, none⟩) n xc) (ys.set kk ⟨q.size, a2, nb, c2⟩)) := ow3
      have H3 : Hid (Half (w.heap.size + 2) W3 (kk + 1) xs (ys.set kk ⟨q.size, a2, nb, c2⟩) fs) := HH.out.step G2.out gr3 HF.out HQ.out Q1.out O2.out HB.out OF2.out rfl
      have G3 : Hid (Grew W0 W3) := show Grew _ _ from grew_grown (BW.out.trans G2.out) gr3 (by
        rw [HS0.out]
        exact (OF2.out.lt g rfl).1)
      clear ow3 gr3
      go_wp2
      go_roundg (n - (kk + 1))
      case measure => omega
      case rel => exact ⟨kk + 1, _, by omega, by omega, by go_num, G3.out, O3.out, H3.out⟩
    · have hltz : ¬ (kk : Int) < (n : Int) := by omega
      have : kk = n := by omega
      subst this
      have OA : Hid (OwnFiles (w.heap.size + 2) wr (.slice xa kk xc) fs) := show OwnFiles _ _ _ _ by
        have h1 := HH.out
        rw [← HN.out] at h1
        exact h1.all HL.out OW.out
      have x1 := (X0.out.grew BW.out).c 1 rfl
      have Y1 := Y0.out.grew BW.out
      have y0 := Y1.c 0 rfl
      have y1 := Y1.c 1 rfl
      have yf := Y1.f
      have HG : Hid (Grew w wr) := HG0.out.trans BW.out
      clear Y1
      go_wp2
      refine bodyPost_ret (v := .agg #[.slice xa kk xc, .int .i64 cnt]) (by simp [results, Try.results17, go_sem, *]) rfl ⟨_, rfl, (OA.out.setCell (by simp) _).setCell (by simp) _, ?_, ?_⟩
      · exact Below.setCell (Below.setCell HG.out (p := ⟨w.heap.size + 1, 0, none⟩) (by simp) _) (p := ⟨w.heap.size + 1, 1, none⟩) (by simp) _
      · have := Below.size BW.out
        rw [HS0.out] at this
        simp [World.setCell]
        exact this

end Go.Proofs.Ytagpmjgmohfmjac
