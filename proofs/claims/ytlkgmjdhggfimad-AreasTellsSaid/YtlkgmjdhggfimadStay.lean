/- Rows that stay, whatever is done to some blocks. No condition: laws of the model. -/
import Derived.Test.YtlkgmjdhggfimadElts
namespace Go.Proofs.Ytlkgmjdhggfimad
open Go.RowKit

/-- Outside the blocks from B0 to below B1 the world is as it was. -/
structure Out (B0 B1 : Nat) (w w' : World) : Prop where
  os : w'.os = w.os
  tape : w'.tape = w.tape
  output : w'.output = w.output
  size : w.heap.size ≤ w'.heap.size
  block : ∀ k, k < w.heap.size → (k < B0 ∨ B1 ≤ k) → w'.heap[k]? = w.heap[k]?

theorem Out.refl (B0 B1 : Nat) (w : World) : Out B0 B1 w w := ⟨rfl, rfl, rfl, Nat.le_refl _, fun _ _ _ => rfl⟩
theorem Out.trans {B0 B1 : Nat} {a b c : World} (h : Out B0 B1 a b) (k : Out B0 B1 b c) : Out B0 B1 a c :=
  ⟨k.os.trans h.os, k.tape.trans h.tape, k.output.trans h.output, Nat.le_trans h.size k.size, fun i hi hb => (k.block i (Nat.lt_of_lt_of_le hi h.size) hb).trans (h.block i hi hb)⟩
theorem Out.grew {B0 B1 : Nat} {a b : World} (h : Grew a b) : Out B0 B1 a b := ⟨Below.os h, Below.tape h, Below.output h, Below.size h, fun i hi _ => Below.block h i hi⟩
theorem Out.setCell (B0 B1 : Nat) (w : World) {p : Addr} (h0 : B0 ≤ p.block) (h1 : p.block < B1) (u : Value) : Out B0 B1 w (w.setCell p u) :=
  ⟨rfl, rfl, rfl, by simp [World.setCell], fun k _ hb => Below.heap_setCell _ _ _ _ (by omega)⟩
theorem Out.grown {B0 B1 : Nat} {w w' : World} {row : Option Nat} (hg : w.grownBy w' row) (h : ∀ g, row = some g → B0 ≤ g ∧ g < B1) : Out B0 B1 w w' :=
  ⟨hg.os, hg.tape, hg.output, hg.size, fun k hk hb => hg.block k hk (fun e => by have := h k e.symm; omega)⟩
theorem Out.wide {A0 A1 B0 B1 : Nat} {a b : World} (h : Out A0 A1 a b) (h0 : B0 ≤ A0) (h1 : A1 ≤ B1) : Out B0 B1 a b :=
  ⟨h.os, h.tape, h.output, h.size, fun i hi hb => h.block i hi (by omega)⟩
theorem Out.drew {B0 B1 : Nat} (w : World) : Out B0 B1 w w.drew := Out.grew (show Below _ _ _ from (Below.refl _ _).drew)
theorem Out.grew_of {B0 B1 : Nat} {w W w' : World} (h : Grew w W) (hB : w.heap.size ≤ B0) (k : Out B0 B1 W w') : Grew w w' :=
  (show Below _ _ _ from Below.trans h ⟨k.os, k.tape, k.output, k.size, fun i hi => k.block i (Nat.lt_of_lt_of_le hi (Below.size h)) (.inl (Nat.lt_of_lt_of_le hi hB))⟩)
theorem Out.zero {w w' : World} (h : Out 0 0 w w') : Grew w w' := ⟨h.os, h.tape, h.output, h.size, fun k hk => h.block k hk (.inr (Nat.zero_le _))⟩

theorem Box.out {B0 B1 : Nat} {w w' : World} {b : Nat} {cs : List Value} (h : Box w b cs) (k : Out B0 B1 w w') (hb : b < B0 ∨ B1 ≤ b) : Box w' b cs := by
  have hlt := h.lt
  obtain ⟨t, h⟩ := h
  exact ⟨t, by rw [k.block b hlt hb]; exact h⟩

section
variable {α : Type} {E : Elt α}
/-- A row that stays, whatever is done from B0 to below B1. -/
def RowS (E : Elt α) (B0 B1 : Nat) (w : World) (v : Value) (l : List α) : Prop := ∀ w', Out B0 B1 w w' → RowAt E w' v l
theorem RowS.now {B0 B1 : Nat} {w : World} {v : Value} {l : List α} (h : RowS E B0 B1 w v l) : RowAt E w v l := h w (Out.refl _ _ _)
theorem RowS.out {B0 B1 : Nat} {w w' : World} {v : Value} {l : List α} (h : RowS E B0 B1 w v l) (k : Out B0 B1 w w') : RowS E B0 B1 w' v l := fun w2 h2 => h w2 (k.trans h2)
theorem RowS.less {A0 A1 B0 B1 : Nat} {w : World} {v : Value} {l : List α} (h : RowS E B0 B1 w v l) (h0 : B0 ≤ A0) (h1 : A1 ≤ B1) : RowS E A0 A1 w v l := fun w2 h2 => h w2 (h2.wide h0 h1)
theorem RowAt.stays {B0 : Nat} (B1 : Nat) {w W : World} {v : Value} {l : List α} (h : RowAt E w v l) (hB : w.heap.size ≤ B0) (hg : Grew w W) : RowS E B0 B1 W v l := fun _ k => h.grew (k.grew_of hg hB)
theorem RowAt.s0 {w : World} {v : Value} {l : List α} (h : RowAt E w v l) : RowS E 0 0 w v l := fun _ k => h.grew k.zero
theorem NewRow.stays {base : Nat} {w : World} {v : Value} {l : List α} (h : NewRow E base w v l) : RowS E 0 base w v l := fun w' k => by
  obtain ⟨⟨⟨a, c, h1, h2, h3⟩, h4⟩, h5⟩ := h
  refine ⟨⟨a, c, h1, h2, fun x hx j u hj => ?_⟩, h4⟩
  subst hx
  have hc := h3 x rfl j u hj
  have hl := World.block_lt_of_cell? _ _ hc
  have hf := h5 x _ _ h1
  rw [World.cell?_of_block (w := w) (k.block _ hl (.inr (by rw [add_block]; exact hf)))]
  exact hc

/-- A row of one that is laid anew. -/
theorem one_row (E : Elt α) (w : World) (x : α) (cs : Array Value) (t : TypeId) (hcs : cs = (E.enc x).toArray) (hb : E.bytes ≤ 140737488355328) : RowAt E (w.alloc (.cells cs t)) (.slice (some ⟨w.heap.size, 0, none⟩) 1 1) [x] := by
  subst hcs
  refine ⟨⟨_, 1, rfl, fun h => (by cases h), fun y hy => ?_⟩, by simpa using hb⟩
  cases hy
  simpa using Cells.top w (E.enc x) t rfl
end

/-- A slice's length is at most its capacity. -/
def Cap : Value → Prop
  | .slice _ n c => n ≤ c
  | _ => True
theorem OwnRow.cap {α : Type} {E : Elt α} {base : Nat} {w : World} {v : Value} {l : List α} (h : OwnRow E base w v l) : Cap v := by
  rcases h.1.2 with ⟨rfl, _⟩ | ⟨g, cap, cur, rfl, _, _, h4, _⟩
  · exact Nat.le_refl _
  · exact h4

/-- But for the blocks of D the world is as it was. -/
structure OutD (D : Nat → Prop) (w w' : World) : Prop where
  os : w'.os = w.os
  tape : w'.tape = w.tape
  output : w'.output = w.output
  size : w.heap.size ≤ w'.heap.size
  block : ∀ k, k < w.heap.size → ¬ D k → w'.heap[k]? = w.heap[k]?

theorem OutD.refl (D : Nat → Prop) (w : World) : OutD D w w := ⟨rfl, rfl, rfl, Nat.le_refl _, fun _ _ _ => rfl⟩
theorem OutD.trans {D : Nat → Prop} {a b c : World} (h : OutD D a b) (k : OutD D b c) : OutD D a c :=
  ⟨k.os.trans h.os, k.tape.trans h.tape, k.output.trans h.output, Nat.le_trans h.size k.size, fun i hi hb => (k.block i (Nat.lt_of_lt_of_le hi h.size) hb).trans (h.block i hi hb)⟩
theorem OutD.grew {D : Nat → Prop} {a b : World} (h : Grew a b) : OutD D a b := ⟨Below.os h, Below.tape h, Below.output h, Below.size h, fun i hi _ => Below.block h i hi⟩
theorem OutD.setCell (D : Nat → Prop) (w : World) {p : Addr} (h : D p.block) (u : Value) : OutD D w (w.setCell p u) :=
  ⟨rfl, rfl, rfl, by simp [World.setCell], fun k _ hb => Below.heap_setCell _ _ _ _ (fun e => hb (e ▸ h))⟩
theorem OutD.wide {D D' : Nat → Prop} {a b : World} (h : OutD D' a b) (hd : ∀ k, D' k → D k) : OutD D a b := ⟨h.os, h.tape, h.output, h.size, fun i hi hb => h.block i hi (fun e => hb (hd i e))⟩

section
variable {α : Type} {E : Elt α}
def RowD (E : Elt α) (D : Nat → Prop) (w : World) (v : Value) (l : List α) : Prop := ∀ w', OutD D w w' → RowAt E w' v l
theorem RowD.now {D : Nat → Prop} {w : World} {v : Value} {l : List α} (h : RowD E D w v l) : RowAt E w v l := h w (OutD.refl _ _)
theorem RowD.out {D : Nat → Prop} {w w' : World} {v : Value} {l : List α} (h : RowD E D w v l) (k : OutD D w w') : RowD E D w' v l := fun w2 h2 => h w2 (k.trans h2)
theorem RowD.less {D D' : Nat → Prop} {w : World} {v : Value} {l : List α} (h : RowD E D w v l) (hd : ∀ k, D' k → D k) : RowD E D' w v l := fun w2 h2 => h w2 (h2.wide hd)
theorem RowD.more {D : Nat → Prop} {w W : World} {v : Value} {l : List α} (h : RowD E D w v l) (hg : Grew w W) {D' : Nat → Prop} (hd : ∀ k, D' k → D k ∨ w.heap.size ≤ k) : RowD E D' W v l := fun w2 h2 =>
  h w2 ⟨h2.os.trans (Below.os hg), h2.tape.trans (Below.tape hg), h2.output.trans (Below.output hg), Nat.le_trans (Below.size hg) h2.size, fun k hk hn => (h2.block k (Nat.lt_of_lt_of_le hk (Below.size hg)) (fun e => (hd k e).elim hn (fun h => absurd hk (Nat.not_lt.2 h)))).trans (Below.block hg k hk)⟩
theorem NewRow.staysD {base : Nat} {w : World} {v : Value} {l : List α} (h : NewRow E base w v l) {D : Nat → Prop} (hd : ∀ k, D k → k < base) : RowD E D w v l := fun w' k => by
  obtain ⟨⟨⟨a, c, h1, h2, h3⟩, h4⟩, h5⟩ := h
  refine ⟨⟨a, c, h1, h2, fun x hx j u hj => ?_⟩, h4⟩
  subst hx
  have hc := h3 x rfl j u hj
  have hl := World.block_lt_of_cell? _ _ hc
  have hf := h5 x _ _ h1
  rw [World.cell?_of_block (w := w) (k.block _ hl (fun e => by have := hd _ e; rw [add_block] at this; omega))]
  exact hc
end

theorem OwnRow.obj {α : Type} {E : Elt α} {base : Nat} {w : World} {v : Value} {l : List α} (h : OwnRow E base w v l) {g : Nat} (hg : v.ownBlock = some g) : ∃ cs, w.heap[g]? = some (.cells cs E.ty (0, 0)) := by
  rcases h.1.2 with ⟨rfl, _⟩ | ⟨g', cap, cur, rfl, _, h3, _⟩
  · cases hg
  · simp only [Value.ownBlock, Option.some.injEq] at hg
    subst hg
    exact ⟨cur, h3⟩

/-- Rows of two kinds lie in two places. -/
theorem OwnRow.apart {α β : Type} {E : Elt α} {F : Elt β} {base base' : Nat} {w : World} {v u : Value} {l : List α} {m : List β} (h : OwnRow E base w v l) (k : OwnRow F base' w u m) (ht : E.ty ≠ F.ty) : ∀ g, v.ownBlock = some g → u.ownBlock ≠ some g := fun g hg hu => by
  obtain ⟨cs, h1⟩ := h.obj hg
  obtain ⟨ds, h2⟩ := k.obj hu
  rw [h1] at h2
  simp only [Option.some.injEq, Obj.cells.injEq] at h2
  exact ht h2.2.1

theorem OwnRow.one {α : Type} {E : Elt α} {base g n c : Nat} {w : World} {l : List α} (h : OwnRow E base w (.slice (some ⟨g, 0, none⟩) n c) l) {i : Nat} {x : α} (hx : l[i]? = some x) : Cells w ((Addr.mk g 0 none).add (i * E.k)) (E.enc x) := by
  obtain ⟨a0, c0, hsl, hrows⟩ := h.at.rows
  obtain ⟨ad, had, hce⟩ := hrows i _ hx
  cases hsl
  cases had
  exact hce w (Grew.refl _)

end Go.Proofs.Ytlkgmjdhggfimad
