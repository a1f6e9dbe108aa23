/- Files that stay, whatever is done to some blocks. -/
import Derived.Test.YtagpmjgmohfmjacStData
namespace Go.Proofs.Ytagpmjgmohfmjac
open Go.RowKit

/-- But for the blocks of D the world is as it was. -/
structure OutD (D : Nat → Prop) (w w' : World) : Prop where
  os : w'.os = w.os
  tape : w'.tape = w.tape
  output : w'.output = w.output
  size : w.heap.size ≤ w'.heap.size
  block : ∀ k, k < w.heap.size → ¬ D k → w'.heap[k]? = w.heap[k]?

theorem OutD.refl (D : Nat → Prop) (w : World) : OutD D w w := ⟨rfl, rfl, rfl, Nat.le_refl _, fun _ _ _ => rfl⟩
theorem OutD.trans {D : Nat → Prop} {a b c : World} (h : OutD D a b) (k : OutD D b c) : OutD D a c :=
  ⟨k.os.trans h.os, k.tape.trans h.tape, k.output.trans h.output, Nat.le_trans h.size k.size, fun i hi hb => (k.block i (Nat.lt_of_lt_of_le hi h.size) hb).trans (h.block i hi hb)⟩
theorem OutD.grew {D : Nat → Prop} {a b : World} (h : Grew a b) : OutD D a b := ⟨Below.os h, Below.tape h, Below.output h, Below.size h, fun i hi _ => Below.block h i hi⟩
theorem OutD.setCell (D : Nat → Prop) (w : World) {p : Addr} (h : D p.block) (u : Value) : OutD D w (w.setCell p u) :=
  ⟨rfl, rfl, rfl, by simp [World.setCell], fun k _ hb => Below.heap_setCell _ _ _ _ (fun e => hb (e ▸ h))⟩
theorem OutD.wide {D D' : Nat → Prop} {a b : World} (h : OutD D' a b) (hd : ∀ k, D' k → D k) : OutD D a b := ⟨h.os, h.tape, h.output, h.size, fun i hi hb => h.block i hi (fun e => hb (hd i e))⟩

section
variable {α : Type} {E : Elt α}
def RowD (E : Elt α) (D : Nat → Prop) (w : World) (v : Value) (l : List α) : Prop := ∀ w', OutD D w w' → RowAt E w' v l
theorem RowD.now {D : Nat → Prop} {w : World} {v : Value} {l : List α} (h : RowD E D w v l) : RowAt E w v l := h w (OutD.refl _ _)
theorem RowD.out {D : Nat → Prop} {w w' : World} {v : Value} {l : List α} (h : RowD E D w v l) (k : OutD D w w') : RowD E D w' v l := fun w2 h2 => h w2 (k.trans h2)
theorem RowD.less {D D' : Nat → Prop} {w : World} {v : Value} {l : List α} (h : RowD E D w v l) (hd : ∀ k, D' k → D k) : RowD E D' w v l := fun w2 h2 => h w2 (h2.wide hd)
theorem RowD.more {D : Nat → Prop} {w W : World} {v : Value} {l : List α} (h : RowD E D w v l) (hg : Grew w W) {D' : Nat → Prop} (hd : ∀ k, D' k → D k ∨ w.heap.size ≤ k) : RowD E D' W v l := fun w2 h2 =>
  h w2 ⟨h2.os.trans (Below.os hg), h2.tape.trans (Below.tape hg), h2.output.trans (Below.output hg), Nat.le_trans (Below.size hg) h2.size, fun k hk hn => (h2.block k (Nat.lt_of_lt_of_le hk (Below.size hg)) (fun e => (hd k e).elim hn (fun h => absurd hk (Nat.not_lt.2 h)))).trans (Below.block hg k hk)⟩
theorem NewRow.staysD {base : Nat} {w : World} {v : Value} {l : List α} (h : NewRow E base w v l) {D : Nat → Prop} (hd : ∀ k, D k → k < base) : RowD E D w v l := fun w' k => by
  obtain ⟨⟨⟨a, c, h1, h2, h3⟩, h4⟩, h5⟩ := h
  refine ⟨⟨a, c, h1, h2, fun x hx j u hj => ?_⟩, h4⟩
  subst hx
  have hc := h3 x rfl j u hj
  have hl := World.block_lt_of_cell? _ _ hc
  have hf := h5 x _ _ h1
  rw [World.cell?_of_block (w := w) (k.block _ hl (fun e => by have := hd _ e; rw [add_block] at this; omega))]
  exact hc
end

def FilesD (D : Nat → Prop) (w : World) (v : Value) (fs : List Fl) : Prop :=
  Cap v ∧ ∃ xs : List FlV, RowD fvE D w v xs ∧ xs.length = fs.length ∧ ∀ (i : Nat) x f, xs[i]? = some x → fs[i]? = some f → x.size = f.size ∧ RowD blE D w (.slice x.a x.n x.c) f.bl

theorem FilesD.at {D : Nat → Prop} {w : World} {v : Value} {fs : List Fl} (h : FilesD D w v fs) : FilesAt w v fs := by
  obtain ⟨hc, xs, k1, k2, k3⟩ := h
  exact ⟨hc, xs, k1.now.s0, k2, fun i x f hx hf => ⟨(k3 i x f hx hf).1, (k3 i x f hx hf).2.now.s0⟩⟩
theorem FilesD.out {D : Nat → Prop} {w w' : World} {v : Value} {fs : List Fl} (h : FilesD D w v fs) (k : OutD D w w') : FilesD D w' v fs := by
  obtain ⟨hc, xs, h1, h2, h3⟩ := h
  exact ⟨hc, xs, h1.out k, h2, fun i x f hx hf => ⟨(h3 i x f hx hf).1, (h3 i x f hx hf).2.out k⟩⟩
theorem FilesD.grew {D : Nat → Prop} {w w' : World} {v : Value} {fs : List Fl} (h : FilesD D w v fs) (k : Grew w w') : FilesD D w' v fs := h.out (OutD.grew k)
theorem FilesD.less {D D' : Nat → Prop} {w : World} {v : Value} {fs : List Fl} (h : FilesD D w v fs) (hd : ∀ k, D' k → D k) : FilesD D' w v fs := by
  obtain ⟨hc, xs, k1, k2, k3⟩ := h
  exact ⟨hc, xs, k1.less hd, k2, fun i x f hx hf => ⟨(k3 i x f hx hf).1, (k3 i x f hx hf).2.less hd⟩⟩
theorem FilesD.more {D : Nat → Prop} {w W : World} {v : Value} {fs : List Fl} (h : FilesD D w v fs) (hg : Grew w W) {D' : Nat → Prop} (hd : ∀ k, D' k → D k ∨ w.heap.size ≤ k) : FilesD D' W v fs := by
  obtain ⟨hc, xs, k1, k2, k3⟩ := h
  exact ⟨hc, xs, k1.more hg hd, k2, fun i x f hx hf => ⟨(k3 i x f hx hf).1, (k3 i x f hx hf).2.more hg hd⟩⟩
theorem FilesD.two {D : Nat → Prop} {W : World} {b : Value} {fs : List Fl} (h : FilesD D W b fs) {p : Nat} (hp : D p) (u v : Value) : FilesD D ((W.setCell ⟨p, 0, none⟩ u).setCell ⟨p, 1, none⟩ v) b fs :=
  (h.out (OutD.setCell _ _ (p := ⟨p, 0, none⟩) hp _)).out (OutD.setCell _ _ (p := ⟨p, 1, none⟩) hp _)
theorem FilesD.nil (D : Nat → Prop) (w : World) : FilesD D w (.slice none 0 0) [] := ⟨Nat.le_refl _, [], fun w' _ => RowAt.nil fvE w', rfl, fun i x f hx => by simp at hx⟩
/-- What came in: nothing of it is done to. -/
theorem FilesAt.d {w : World} {v : Value} {fs : List Fl} (h : FilesAt w v fs) : FilesD (fun _ => False) w v fs := by
  obtain ⟨hc, xs, k1, k2, k3⟩ := h
  have up : ∀ {α : Type} {E : Elt α} {u : Value} {l : List α}, RowS E 0 0 w u l → RowD E (fun _ => False) w u l := fun h w' k => h w' ⟨k.os, k.tape, k.output, k.size, fun i hi _ => k.block i hi (fun e => e)⟩
  exact ⟨hc, xs, up k1, k2, fun i x f hx hf => ⟨(k3 i x f hx hf).1, up (k3 i x f hx hf).2⟩⟩
theorem FilesS.d {B0 B1 : Nat} {w : World} {v : Value} {fs : List Fl} (h : FilesS B0 B1 w v fs) {D : Nat → Prop} (hd : ∀ k, D k → B0 ≤ k ∧ k < B1) : FilesD D w v fs := by
  obtain ⟨hc, xs, k1, k2, k3⟩ := h
  have up : ∀ {α : Type} {E : Elt α} {u : Value} {l : List α}, RowS E B0 B1 w u l → RowD E D w u l := fun h w' k => h w' ⟨k.os, k.tape, k.output, k.size, fun i hi hb => k.block i hi (fun e => by have := hd i e; omega)⟩
  exact ⟨hc, xs, up k1, k2, fun i x f hx hf => ⟨(k3 i x f hx hf).1, up (k3 i x f hx hf).2⟩⟩

end Go.Proofs.Ytagpmjgmohfmjac
