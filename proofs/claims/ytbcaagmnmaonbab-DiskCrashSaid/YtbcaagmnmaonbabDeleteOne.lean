/- Contract of slices.Delete(s, 0, 1) of what waits, in memory of the call's own: the first one is gone. -/
import Derived.Test.YtbcaagmnmaonbabDelete
namespace Go.Proofs.Ytbcaagmnmaonbab
open Go.RowKit

theorem grown_trans {a b c : World} {g : Nat} (h : a.grownBy b (some g)) (k : b.grownBy c (some g)) : a.grownBy c (some g) :=
  ⟨k.os.trans h.os, k.tape.trans h.tape, k.output.trans h.output, Nat.le_trans h.size k.size, fun i hi hne => (k.block i (Nat.lt_of_lt_of_le hi h.size) hne).trans (h.block i hi hne)⟩

theorem grown_grew {a b c : World} {g : Nat} (h : a.grownBy b (some g)) (k : Grew b c) : a.grownBy c (some g) :=
  ⟨k.os.trans h.os, k.tape.trans h.tape, k.output.trans h.output, Nat.le_trans h.size k.size, fun i hi hne => (k.block i (Nat.lt_of_lt_of_le hi h.size)).trans (h.block i hi hne)⟩

theorem grew_grown' {a b c : World} {g : Nat} (h : Grew a b) (k : b.grownBy c (some g)) : a.grownBy c (some g) :=
  ⟨k.os.trans h.os, k.tape.trans h.tape, k.output.trans h.output, Nat.le_trans h.size k.size, fun i hi hne => (k.block i (Nat.lt_of_lt_of_le hi h.size) hne).trans (h.block i hi)⟩

set_option maxHeartbeats 4000000 in
theorem delete01_any (base g cap : Nat) (q0 : Int × List Int) (r : List (Int × List Int)) (w : World) (hown : OwnPuts base w (.slice (some ⟨g, 0, none⟩) (r.length + 1) cap) (q0 :: r)) (hr : 1 ≤ r.length) (h400 : r.length ≤ 400) :
    Calls Try.prog 42 #[.slice (some ⟨g, 0, none⟩) (r.length + 1) cap, .int .i64 0, .int .i64 1] w fun e w' => e = .returned (.slice (some ⟨g, 0, none⟩) r.length cap) ∧ OwnPuts base w' (.slice (some ⟨g, 0, none⟩) r.length cap) r ∧ w.grownBy w' (some g) := by
  obtain ⟨_, _, hcap, hmax, _⟩ := hown.block
  have HO : Hid (OwnPuts base w (.slice (some ⟨g, 0, none⟩) (r.length + 1) cap) (q0 :: r)) := hown
  simp only [List.length_cons] at hcap
  obtain ⟨k, HK⟩ : ∃ k, Hid (r.length = k) := ⟨_, rfl⟩
  have hmax' : cap ≤ 9223372036854775807 := by simpa [maxLen] using hmax
  rw [HK.out] at hcap hr h400 HO ⊢
  clear hown hmax
  have h1 : ¬ cap = 1 := by omega
  have h2 : ((k + 1 : Nat) : Int) = (k : Int) + 1 := by omega
  have h3 : (k : Int) + 1 ≤ (cap : Int) := by omega
  have h4 : (1 : Int) ≤ (k : Int) := by omega
  go_enter Try.func42, Try.ntmps42
  go_wp2
  have hne : Nonempty (GrownW w) := ⟨⟨_, Grew.refl _⟩⟩
  refine wp_lax_tail 6 [] mixed (by kernel_rfl) rfl rfl (by decide) (by simp) (by simp) ?_
  simp only [List.take, List.drop]
  iterate 6 (refine lax_quiet rfl rfl rfl (fun K hK => ?_); go_big_quiet_op; refine hK _ ?_; clear hK K)
  refine lax_nil fun w' hg _ => ?_
  have HO' : Hid (OwnPuts base w' (.slice (some ⟨g, 0, none⟩) (k + 1) cap) (q0 :: r)) := HO.out.grew hg
  have HG : Hid (Grew w w') := hg
  clear hg hne
  go_wp2_with (first
    | (refine wpList_append_shift rfl (.tmp 22) (.tmp 25) rfl base g cap (k + 1) q0 r HO'.out rfl (cap - 1) (by rw [HK.out]; rfl) ?_; intro w2 ow2 gr2 sz2; have O2 : Hid (OwnPuts base w2 (.slice (some ⟨g, 0, none⟩) r.length cap) r) := ow2; have G2 : Hid (w'.grownBy w2 (some g)) := gr2; clear ow2 gr2 sz2; rw [HK.out])
    | (refine wpList_clear_row rfl (.tmp 31) rfl base g cap _ r O2.out _ 1 _ rfl (by rw [HK.out]; exact hcap) (fun _ => by rw [HK.out]) ?_; intro w3 ow3 gr3 sz3; have O3 : Hid (OwnPuts base w3 (.slice (some ⟨g, 0, none⟩) r.length cap) r) := ow3; have G3 : Hid (w2.grownBy w3 (some g)) := gr3; clear ow3 gr3 sz3))
  go_ret
  exact ⟨rfl, by rw [← HK.out]; exact O3.out, grew_grown' HG.out (grown_trans G2.out G3.out)⟩

/-- Pages, and what waits, lie in blocks of their own. -/
theorem OwnPages.beside {base base' : Nat} {w w' : World} {bv qv : Value} {ps : List (List Int)} {qs : List (Int × List Int)} (h : OwnPages base w bv ps) (k : OwnPuts base' w qv qs) (hg : w.grownBy w' qv.ownBlock) : OwnPages base w' bv ps := by
  refine ⟨⟨h.1.1, ?_⟩, h.2⟩
  rcases h.1.2 with h1 | ⟨g, cap, cur, rfl, h2, h3, h4⟩
  · exact .inl h1
  · refine .inr ⟨g, cap, cur, rfl, h2, ?_, h4⟩
    rw [hg.block g (Array.getElem?_eq_some_iff.1 h3).1 (fun e => ?_)]
    · exact h3
    · rcases k.1.2 with ⟨rfl, _⟩ | ⟨g', cap', cur', rfl, _, k3, _⟩
      · cases e
      · simp only [Value.ownBlock, Option.some.injEq] at e
        subst e
        rw [h3] at k3
        cases k3

theorem OwnPuts.beside {base base' : Nat} {w w' : World} {bv qv : Value} {ps : List (List Int)} {qs : List (Int × List Int)} (k : OwnPuts base' w qv qs) (h : OwnPages base w bv ps) (hg : w.grownBy w' bv.ownBlock) : OwnPuts base' w' qv qs := by
  refine ⟨⟨k.1.1, ?_⟩, k.2⟩
  rcases k.1.2 with h1 | ⟨g, cap, cur, rfl, h2, h3, h4⟩
  · exact .inl h1
  · refine .inr ⟨g, cap, cur, rfl, h2, ?_, h4⟩
    rw [hg.block g (Array.getElem?_eq_some_iff.1 h3).1 (fun e => ?_)]
    · exact h3
    · rcases h.1.2 with ⟨rfl, _⟩ | ⟨g', cap', cur', rfl, _, k3, _⟩
      · cases e
      · simp only [Value.ownBlock, Option.some.injEq] at e
        subst e
        rw [h3] at k3
        cases k3

theorem OwnPuts.lt {base : Nat} {w : World} {v : Value} {qs : List (Int × List Int)} (h : OwnPuts base w v qs) : ∀ g, v.ownBlock = some g → base ≤ g ∧ g < w.heap.size := h.1.lt
theorem OwnPages.lt {base : Nat} {w : World} {v : Value} {ps : List (List Int)} (h : OwnPages base w v ps) : ∀ g, v.ownBlock = some g → base ≤ g ∧ g < w.heap.size := h.1.lt

theorem Cells.top (w : World) (cs : List Value) (t : TypeId) {b : Nat} (hb : b = w.heap.size) : Cells (w.alloc (.cells cs.toArray t)) ⟨b, 0, none⟩ cs := fun j u hj => by
  rw [Addr.add_lit, Nat.zero_add]
  exact (Box.top w cs t hb).c j hj

theorem Box.beside {w w' : World} {b : Nat} {cs : List Value} {row : Option Nat} (h : Box w b cs) (hg : w.grownBy w' row) (hb : ∀ g, row = some g → b ≠ g) : Box w' b cs := by
  have hlt := h.lt
  obtain ⟨t, h⟩ := h
  exact ⟨t, by rw [hg.block b hlt (fun e => hb b e.symm rfl)]; exact h⟩

theorem grew_beside {w W W' : World} {row : Option Nat} (h : Grew w W) (hg : W.grownBy W' row) (hb : ∀ g, row = some g → w.heap.size ≤ g) : Grew w W' := Below.grown h hg (Below.size h) hb

/-- A box, and what type its block has. -/
def BoxT (w : World) (b : Nat) (t : TypeId) (cs : List Value) : Prop := w.heap[b]? = some (.cells cs.toArray t (0, 0))
theorem BoxT.box {w : World} {b : Nat} {t : TypeId} {cs : List Value} (h : BoxT w b t cs) : Box w b cs := ⟨t, h⟩
theorem BoxT.top (w : World) (cs : List Value) (t : TypeId) {b : Nat} (hb : b = w.heap.size) : BoxT (w.alloc (.cells cs.toArray t)) b t cs := by
  subst hb
  show (w.heap.push _)[w.heap.size]? = _
  simp
theorem BoxT.grew {w w' : World} {b : Nat} {t : TypeId} {cs : List Value} (h : BoxT w b t cs) (hg : Grew w w') : BoxT w' b t cs := (hg.block b h.box.lt).trans h
theorem BoxT.beside {w w' : World} {b : Nat} {t : TypeId} {cs : List Value} {row : Option Nat} (h : BoxT w b t cs) (hg : w.grownBy w' row) (hb : ∀ g, row = some g → b ≠ g) : BoxT w' b t cs := by
  unfold BoxT
  rw [hg.block b h.box.lt (fun e => hb b e.symm rfl)]
  exact h
theorem BoxT.set {w : World} {b : Nat} {t : TypeId} {cs : List Value} (h : BoxT w b t cs) (i : Nat) (u : Value) : BoxT (w.setCell ⟨b, i, none⟩ u) b t (cs.set i u) := by
  have hlt := h.box.lt
  obtain ⟨_, h2⟩ := Array.getElem?_eq_some_iff.1 h
  unfold BoxT World.setCell
  rw [Array.getElem?_eq_getElem (by simpa using hlt)]
  simp [Array.getElem_modify, h2]
theorem BoxT.other {w : World} {b : Nat} {t : TypeId} {cs : List Value} (h : BoxT w b t cs) {a : Addr} (ha : b ≠ a.block) (u : Value) : BoxT (w.setCell a u) b t cs := by
  unfold BoxT
  rw [Below.heap_setCell _ _ _ _ ha]
  exact h

theorem OwnPuts.ne {base : Nat} {w : World} {v : Value} {qs : List (Int × List Int)} (h : OwnPuts base w v qs) {b : Nat} {cs : List Value} (hb : BoxT w b 25 cs) : ∀ g, v.ownBlock = some g → b ≠ g := fun g hg e => by
  subst e
  rcases h.1.2 with ⟨rfl, _⟩ | ⟨g', cap, cur, rfl, _, h3, _⟩
  · cases hg
  · simp only [Value.ownBlock, Option.some.injEq] at hg
    subst hg
    rw [hb] at h3
    cases h3
theorem OwnPages.ne {base : Nat} {w : World} {v : Value} {ps : List (List Int)} (h : OwnPages base w v ps) {b : Nat} {cs : List Value} (hb : BoxT w b 25 cs) : ∀ g, v.ownBlock = some g → b ≠ g := fun g hg e => by
  subst e
  rcases h.1.2 with ⟨rfl, _⟩ | ⟨g', cap, cur, rfl, _, h3, _⟩
  · cases hg
  · simp only [Value.ownBlock, Option.some.injEq] at hg
    subst hg
    rw [hb] at h3
    cases h3

theorem ownsRow_setOther {w : World} {base size n : Nat} {e : TypeId} {v : Value} {xs : List Value} (h : w.ownsRow base e size v n xs) {a : Addr} (ha : ∀ g, v.ownBlock = some g → a.block ≠ g) (u : Value) : (w.setCell a u).ownsRow base e size v n xs := by
  refine ⟨h.1, ?_⟩
  rcases h.2 with h1 | ⟨g, cap, cur, rfl, h2, h3, h4⟩
  · exact .inl h1
  · exact .inr ⟨g, cap, cur, rfl, h2, by rw [Below.heap_setCell _ _ _ _ (fun e => ha g rfl e.symm)]; exact h3, h4⟩
theorem OwnPages.setOther {base : Nat} {w : World} {v : Value} {ps : List (List Int)} (h : OwnPages base w v ps) {a : Addr} (ha : ∀ g, v.ownBlock = some g → a.block ≠ g) (u : Value) : OwnPages base (w.setCell a u) v ps := ⟨ownsRow_setOther h.1 ha u, h.2⟩
theorem OwnPuts.setOther {base : Nat} {w : World} {v : Value} {qs : List (Int × List Int)} (h : OwnPuts base w v qs) {a : Addr} (ha : ∀ g, v.ownBlock = some g → a.block ≠ g) (u : Value) : OwnPuts base (w.setCell a u) v qs := ⟨ownsRow_setOther h.1 ha u, h.2⟩

theorem OwnPages.form {base : Nat} {w : World} {v : Value} {ps : List (List Int)} (h : OwnPages base w v ps) : ∃ a c, v = .slice a ps.length c := by
  obtain ⟨a, c, h1, _⟩ := h.at.rows
  exact ⟨a, c, h1⟩
theorem OwnPuts.form {base : Nat} {w : World} {v : Value} {qs : List (Int × List Int)} (h : OwnPuts base w v qs) : ∃ a c, v = .slice a qs.length c := by
  obtain ⟨a, c, h1, _⟩ := h.at.rows
  exact ⟨a, c, h1⟩

/-- One more waits. -/
theorem OwnPuts.snoc {base : Nat} {w : World} {v : Value} {qs : List (Int × List Int)} {q : Int × List Int} (h : w.ownsRow base 35 9 v (qs.length + 1) (qs.flatMap ptc ++ ptc q)) (h8 : ∀ x ∈ qs, x.2.length = 8) (hq : q.2.length = 8) (hb : (qs.length + 1) * 16 ≤ 140737488355328) : OwnPuts base w v (qs ++ [q]) := by
  refine ⟨by simpa using h, fun x hx => ?_, by simpa using hb⟩
  rcases List.mem_append.1 hx with h1 | h1
  · exact h8 x h1
  · simp at h1; subst h1; exact hq

/-- The end of a walk that answers a disk of its own: the variable is copied into the result. -/
theorem fin_new {base base' Bo R : Nat} {w : World} {bv qv : Value} {ps : List (List Int)} {qs : List (Int × List Int)} {cs : List Value} (hp : OwnPages base w bv ps) (hq : OwnPuts base w qv qs) (hB : BoxT w Bo 25 cs) (hR : R < base) (hb : base' ≤ base) :
    NewDisk base' (((w.setCell ⟨Bo, 1, none⟩ qv).setCell ⟨R, 0, none⟩ bv).setCell ⟨R, 1, none⟩ qv) (.agg #[bv, qv]) ps qs := by
  have hp1 := ((hp.setOther (a := ⟨Bo, 1, none⟩) (hp.ne hB) qv).setCell (a := ⟨R, 0, none⟩) hR bv).setCell (a := ⟨R, 1, none⟩) hR qv
  have hq1 := ((hq.setOther (a := ⟨Bo, 1, none⟩) (hq.ne hB) qv).setCell (a := ⟨R, 0, none⟩) hR bv).setCell (a := ⟨R, 1, none⟩) hR qv
  exact NewDisk.base (OwnDisk.new ⟨_, _, rfl, hp1, hq1⟩) hb

/-- The first one of what waits, as a load meets it. -/
theorem OwnPuts.head {base : Nat} {w : World} {g n cap : Nat} {m c0 c1 c2 c3 c4 c5 c6 c7 : Int} {r : List (Int × List Int)} (h : OwnPuts base w (.slice (some ⟨g, 0, none⟩) n cap) ((m, [c0, c1, c2, c3, c4, c5, c6, c7]) :: r)) :
    w.cell? ⟨g, 0, none⟩ = some (.int .i64 m) ∧ w.cell? ⟨g, 1, none⟩ = some (.int .u8 c0) ∧ w.cell? ⟨g, 2, none⟩ = some (.int .u8 c1) ∧ w.cell? ⟨g, 3, none⟩ = some (.int .u8 c2) ∧ w.cell? ⟨g, 4, none⟩ = some (.int .u8 c3) ∧ w.cell? ⟨g, 5, none⟩ = some (.int .u8 c4) ∧ w.cell? ⟨g, 6, none⟩ = some (.int .u8 c5) ∧ w.cell? ⟨g, 7, none⟩ = some (.int .u8 c6) ∧ w.cell? ⟨g, 8, none⟩ = some (.int .u8 c7) := by
  have hc : ∀ (j : Nat) u, (((m, [c0, c1, c2, c3, c4, c5, c6, c7]) :: r).flatMap ptc)[j]? = some u → w.cell? ⟨g, j, none⟩ = some u := fun j u hj => by
    have := h.1.cells rfl j u hj
    rwa [Addr.add_lit, Nat.zero_add] at this
  exact ⟨hc 0 _ rfl, hc 1 _ rfl, hc 2 _ rfl, hc 3 _ rfl, hc 4 _ rfl, hc 5 _ rfl, hc 6 _ rfl, hc 7 _ rfl, hc 8 _ rfl⟩

end Go.Proofs.Ytbcaagmnmaonbab
