/- Contracts: a copy of a disk; a disk of noughts (package disk). -/
import Derived.Test.YtbcaagmnmaonbabClone
import Derived.Test.YtbcaagmnmaonbabLaxTail
namespace Go.Proofs.Ytbcaagmnmaonbab
open Go.RowKit

/-- A disk in new memory. -/
def OwnDisk (base : Nat) (w : World) (d : Value) (ps : List (List Int)) (qs : List (Int × List Int)) : Prop := ∃ b q, d = .agg #[b, q] ∧ OwnPages base w b ps ∧ OwnPuts base w q qs

theorem OwnDisk.at {base : Nat} {w : World} {d : Value} {ps : List (List Int)} {qs : List (Int × List Int)} (h : OwnDisk base w d ps qs) : DiskAt w d ps qs := by
  obtain ⟨b, q, h1, h2, h3⟩ := h
  exact ⟨b, q, h1, h2.at, h3.at⟩

theorem OwnPages.grew {base : Nat} {w w' : World} {v : Value} {ps : List (List Int)} (h : OwnPages base w v ps) (hg : Grew w w') : OwnPages base w' v ps := ⟨ownsRow_grew h.1 hg, h.2⟩
theorem OwnPuts.grew {base : Nat} {w w' : World} {v : Value} {qs : List (Int × List Int)} (h : OwnPuts base w v qs) (hg : Grew w w') : OwnPuts base w' v qs := ⟨ownsRow_grew h.1 hg, h.2⟩
theorem OwnPages.base {base base' : Nat} {w : World} {v : Value} {ps : List (List Int)} (h : OwnPages base w v ps) (hb : base' ≤ base) : OwnPages base' w v ps := ⟨ownsRow_base h.1 hb, h.2⟩
theorem OwnPuts.base {base base' : Nat} {w : World} {v : Value} {qs : List (Int × List Int)} (h : OwnPuts base w v qs) (hb : base' ≤ base) : OwnPuts base' w v qs := ⟨ownsRow_base h.1 hb, h.2⟩

theorem OwnPages.slice {base : Nat} {w : World} {v : Value} {ps : List (List Int)} (h : OwnPages base w v ps) : ∃ a n c, v = .slice a n c := by
  rcases h.1.2 with ⟨rfl, _⟩ | ⟨g, cap, cur, rfl, _⟩
  · exact ⟨_, _, _, rfl⟩
  · exact ⟨_, _, _, rfl⟩
theorem OwnPuts.slice {base : Nat} {w : World} {v : Value} {qs : List (Int × List Int)} (h : OwnPuts base w v qs) : ∃ a n c, v = .slice a n c := by
  rcases h.1.2 with ⟨rfl, _⟩ | ⟨g, cap, cur, rfl, _⟩
  · exact ⟨_, _, _, rfl⟩
  · exact ⟨_, _, _, rfl⟩

theorem mixed : Try.prog.follows .mixedOrders = true := by kernel_rfl

theorem OwnPages.setCell {base : Nat} {w : World} {v : Value} {ps : List (List Int)} (h : OwnPages base w v ps) {a : Addr} (ha : a.block < base) (u : Value) : OwnPages base (w.setCell a u) v ps := ⟨ownsRow_setCell_below h.1 ha u, h.2⟩
theorem OwnPuts.setCell {base : Nat} {w : World} {v : Value} {qs : List (Int × List Int)} (h : OwnPuts base w v qs) {a : Addr} (ha : a.block < base) (u : Value) : OwnPuts base (w.setCell a u) v qs := ⟨ownsRow_setCell_below h.1 ha u, h.2⟩

/-- The slice v leads to memory from base on. -/
def fresh (base : Nat) (v : Value) : Prop := ∀ x n c, v = .slice (some x) n c → base ≤ x.block

/-- A disk in memory from base on. -/
def NewDisk (base : Nat) (w : World) (d : Value) (ps : List (List Int)) (qs : List (Int × List Int)) : Prop := ∃ b q, d = .agg #[b, q] ∧ PagesAt w b ps ∧ PutsAt w q qs ∧ fresh base b ∧ fresh base q

theorem NewDisk.at {base : Nat} {w : World} {d : Value} {ps : List (List Int)} {qs : List (Int × List Int)} (h : NewDisk base w d ps qs) : DiskAt w d ps qs := by
  obtain ⟨b, q, h1, h2, h3, _⟩ := h
  exact ⟨b, q, h1, h2, h3⟩
theorem NewDisk.grew {base : Nat} {w w' : World} {d : Value} {ps : List (List Int)} {qs : List (Int × List Int)} (h : NewDisk base w d ps qs) (hg : Grew w w') : NewDisk base w' d ps qs := by
  obtain ⟨b, q, h1, h2, h3, h4⟩ := h
  exact ⟨b, q, h1, h2.grew hg, h3.grew hg, h4⟩
theorem NewDisk.base {base base' : Nat} {w : World} {d : Value} {ps : List (List Int)} {qs : List (Int × List Int)} (h : NewDisk base w d ps qs) (hb : base' ≤ base) : NewDisk base' w d ps qs := by
  obtain ⟨b, q, h1, h2, h3, h4, h5⟩ := h
  exact ⟨b, q, h1, h2, h3, fun x n c e => Nat.le_trans hb (h4 x n c e), fun x n c e => Nat.le_trans hb (h5 x n c e)⟩

theorem add_block (x : Addr) (j : Nat) : (x.add j).block = x.block := by unfold Addr.add; split <;> rfl

theorem SliceAt.setCell {α : Type} {enc : α → List Value} {base : Nat} {w : World} {v : Value} {l : List α} (h : SliceAt enc w v l) (hf : fresh base v) {a : Addr} (ha : a.block < base) (u : Value) : SliceAt enc (w.setCell a u) v l := by
  obtain ⟨x, c, h1, h2, h3⟩ := h
  refine ⟨x, c, h1, h2, fun y hy j t hj => ?_⟩
  subst hy
  have := hf y _ _ h1
  rw [World.cell?_of_block (w := w) (Below.heap_setCell _ _ _ _ (by rw [add_block]; omega))]
  exact h3 y rfl j t hj

theorem NewDisk.setCell {base : Nat} {w : World} {d : Value} {ps : List (List Int)} {qs : List (Int × List Int)} (h : NewDisk base w d ps qs) {a : Addr} (ha : a.block < base) (u : Value) : NewDisk base (w.setCell a u) d ps qs := by
  obtain ⟨b, q, h1, h2, h3, h4, h5⟩ := h
  exact ⟨b, q, h1, ⟨h2.1.setCell h4 ha u, h2.2⟩, ⟨h3.1.setCell h5 ha u, h3.2⟩, h4, h5⟩

theorem OwnPages.fresh {base : Nat} {w : World} {v : Value} {ps : List (List Int)} (h : OwnPages base w v ps) : fresh base v := fun x n c e => by
  rcases h.1.2 with ⟨h0, _⟩ | ⟨g, cap, cur, h0, h1, _⟩
  · rw [h0] at e; cases e
  · rw [h0] at e; cases e; exact h1
theorem OwnPuts.fresh {base : Nat} {w : World} {v : Value} {qs : List (Int × List Int)} (h : OwnPuts base w v qs) : fresh base v := fun x n c e => by
  rcases h.1.2 with ⟨h0, _⟩ | ⟨g, cap, cur, h0, h1, _⟩
  · rw [h0] at e; cases e
  · rw [h0] at e; cases e; exact h1
theorem fresh_nil (base : Nat) : fresh base (.slice none 0 0) := fun x n c e => by cases e
theorem OwnDisk.new {base : Nat} {w : World} {d : Value} {ps : List (List Int)} {qs : List (Int × List Int)} (h : OwnDisk base w d ps qs) : NewDisk base w d ps qs := by
  obtain ⟨b, q, h1, h2, h3⟩ := h
  exact ⟨b, q, h1, h2.at, h3.at, h2.fresh, h3.fresh⟩

theorem frozen_grew {w w' : World} (hg : Grew w w') {p : Addr} (hp : p.block < w.heap.size) : w'.frozen? p = w.frozen? p := Below.frozen hg hp

set_option maxHeartbeats 1000000 in
theorem own_any (d : Value) (ps : List (List Int)) (qs : List (Int × List Int)) (w : World) (hd : DiskAt w d ps qs) :
    Calls Try.prog 41 #[d] w fun e w' => ∃ d', e = .returned d' ∧ OwnDisk w.heap.size w' d' ps qs ∧ Grew w w' := by
  obtain ⟨b, q, rfl, hb, hq⟩ := hd
  have HB : Hid (PagesAt w b ps) := hb
  have HQ : Hid (PutsAt w q qs) := hq
  obtain ⟨ab, cb, rfl, _⟩ := hb.rows
  obtain ⟨aq, cq, rfl, _⟩ := hq.rows
  clear hb hq
  go_enter Try.func41, Try.ntmps41
  go_wp2
  obtain ⟨W1, hW⟩ : ∃ W1, (w.alloc (.cells #[.slice ab ps.length cb, .slice aq qs.length cq] 25)).alloc (.cells #[.slice none 0 0, .slice none 0 0] 25) = W1 := ⟨_, rfl⟩
  have hg1 : Hid (Grew w W1) := show Grew w W1 by rw [← hW]; exact (grew_alloc _ _).trans (grew_alloc _ _)
  have hsz : Hid (W1.heap.size = w.heap.size + 2) := show W1.heap.size = _ by rw [← hW]; simp
  have k0 : W1.cell? ⟨w.heap.size, 0, none⟩ = some (.slice ab ps.length cb) := by rw [← hW]; simp
  have k1 : W1.cell? ⟨w.heap.size, 1, none⟩ = some (.slice aq qs.length cq) := by rw [← hW]; simp
  have k2 : W1.cell? ⟨w.heap.size + 1, 0, none⟩ = some (.slice none 0 0) := by rw [← hW]; simp
  have k3 : W1.cell? ⟨w.heap.size + 1, 1, none⟩ = some (.slice none 0 0) := by rw [← hW]; simp
  have f2 : W1.frozen? ⟨w.heap.size + 1, 0, none⟩ = false := by rw [← hW]; simp
  have f3 : W1.frozen? ⟨w.heap.size + 1, 1, none⟩ = false := by rw [← hW]; simp
  rw [hW]
  have hx0 : ∀ x : GrownW W1, x.world.cell? ⟨w.heap.size, 0, none⟩ = some (.slice ab ps.length cb) := fun x => (Below.cell x.grew (World.block_lt_of_cell? _ _ k0)).trans k0
  have hx1 : ∀ x : GrownW W1, x.world.cell? ⟨w.heap.size, 1, none⟩ = some (.slice aq qs.length cq) := fun x => (Below.cell x.grew (World.block_lt_of_cell? _ _ k1)).trans k1
  have hne : Nonempty (GrownW W1) := ⟨⟨_, Grew.refl _⟩⟩
  refine wp_lax_tail 7 [(2, ⟨fun v => ∃ a n c, v = .slice a n c, fun v w' => OwnPages (w.heap.size + 2) w' v ps⟩), (5, ⟨fun v => ∃ a n c, v = .slice a n c, fun v w' => OwnPuts (w.heap.size + 2) w' v qs⟩)] mixed (by kernel_rfl) rfl rfl (by decide) ?_ ?_ ?_
  · intro x hx
    simp at hx
    rcases hx with rfl | rfl
    · exact ⟨_, none, 0, 0, rfl⟩
    · exact ⟨_, none, 0, 0, rfl⟩
  · intro x hx
    simp at hx
    rcases hx with rfl | rfl
    · intro v w1 w2 hg h; exact h.grew hg
    · intro v w1 w2 hg h; exact h.grew hg
  simp only [List.take, List.drop]
  iterate 2 (refine lax_quiet rfl rfl rfl (fun K hK => ?_); go_big_quiet_op; refine hK _ ?_; clear hK K)
  refine lax_spec rfl rfl (fun w' hg hF => ?_) (fun v1 hv => ?_)
  · refine Does.call [.slice ab ps.length cb] rfl Try.func46 rfl rfl rfl ?_
    refine (clonePages_any _ ps w' (HB.out.grew (hg1.out.trans hg))).mono ?_
    rintro e w'' ⟨v2, rfl, hb, hg2⟩
    exact ⟨_, rfl, hg2, hb.slice, hb.base (by have := Below.size hg; rw [hsz.out] at this; exact this)⟩
  obtain ⟨a1, n1, c1, rfl⟩ := hv
  simp only [Act.put, List.setIfInBounds_toArray, List.set_cons_succ, List.set_cons_zero]
  iterate 2 (refine lax_quiet rfl rfl rfl (fun K hK => ?_); go_big_quiet_op; refine hK _ ?_; clear hK K)
  refine lax_spec rfl rfl (fun w' hg hF => ?_) (fun v1 hv => ?_)
  · refine Does.call [.slice aq qs.length cq] rfl Try.func49 rfl rfl rfl ?_
    refine (clonePuts_any _ qs w' (HQ.out.grew (hg1.out.trans hg))).mono ?_
    rintro e w'' ⟨v2, rfl, hb, hg2⟩
    exact ⟨_, rfl, hg2, hb.slice, hb.base (by have := Below.size hg; rw [hsz.out] at this; exact this)⟩
  obtain ⟨a2, n2, c2, rfl⟩ := hv
  simp only [Act.put, List.setIfInBounds_toArray, List.set_cons_succ, List.set_cons_zero]
  iterate 1 (refine lax_quiet rfl rfl rfl (fun K hK => ?_); go_big_quiet_op; refine hK _ ?_; clear hK K)
  refine lax_nil fun w' hg hF => ?_
  have ow1 : Hid (OwnPages (w.heap.size + 2) w' (.slice a1 n1 c1) ps) := hF 2
  have ow2 : Hid (OwnPuts (w.heap.size + 2) w' (.slice a2 n2 c2) qs) := hF 5
  have m2 : w'.cell? ⟨w.heap.size + 1, 0, none⟩ = some (.slice none 0 0) := (Below.cell hg (World.block_lt_of_cell? _ _ k2)).trans k2
  have m3 : w'.cell? ⟨w.heap.size + 1, 1, none⟩ = some (.slice none 0 0) := (Below.cell hg (World.block_lt_of_cell? _ _ k3)).trans k3
  have g2 : w'.frozen? ⟨w.heap.size + 1, 0, none⟩ = false := (Below.frozen hg (World.block_lt_of_cell? _ _ k2)).trans f2
  have g3 : w'.frozen? ⟨w.heap.size + 1, 1, none⟩ = false := (Below.frozen hg (World.block_lt_of_cell? _ _ k3)).trans f3
  have HG : Hid (Grew w w') := hg1.out.trans hg
  clear hF k0 k1 k2 k3 f2 f3 hx0 hx1 hW hg hne
  go_wp2
  refine bodyPost_ret (v := .agg #[.slice a1 n1 c1, .slice a2 n2 c2]) (by simp [results, Try.results41, go_sem, *]) rfl ⟨_, rfl, ⟨_, _, rfl, ((ow1.out.setCell (by simp) _).setCell (by simp) _).base (by omega), ((ow2.out.setCell (by simp) _).setCell (by simp) _).base (by omega)⟩, ?_⟩
  exact Below.setCell (Below.setCell HG.out (p := ⟨w.heap.size + 1, 0, none⟩) (by simp) _) (p := ⟨w.heap.size + 1, 1, none⟩) (by simp) _

end Go.Proofs.Ytbcaagmnmaonbab
