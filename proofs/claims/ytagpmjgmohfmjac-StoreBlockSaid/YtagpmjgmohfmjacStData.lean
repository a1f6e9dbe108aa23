/- Files as data: their cells, rows of numbers, how a store lies in memory, and when it stays as it is. -/
import Derived.Test.YtagpmjgmohfmjacElts
import Derived.Test.YtagpmjgmohfmjacStPure2
namespace Go.Proofs.Ytagpmjgmohfmjac
open Go.RowKit

def niv (z : Int) : List Value := [.int .i64 z]
theorem Try.infoNum : (Try.prog.info? 3).map (fun i => (i.zero, i.size, i.bytes)) = some (some (.int .i64 0), 1, 8) := by kernel_rfl

/-- Rows of numbers. -/
def blE : Elt Int where
  enc := niv
  k := 1
  ty := 3
  st := 22
  bytes := 8
  zv := .int .i64 0
  zero := 0
  len := fun _ => rfl
  one := fun a u hu => by
    simp only [niv, List.mem_cons, List.not_mem_nil, or_false] at hu
    subst hu
    rfl
  und := Try.underlying22
  info := Try.infoNum
  zok := rfl
  few := by decide
  pos := by decide

/-- A file's cells: its size, and where its blocks are. -/
structure FlV where
  size : Int
  a : Option Addr
  n : Nat
  c : Nat

def FlV.v (x : FlV) : Value := .slice x.a x.n x.c
def flv (x : FlV) : List Value := [.int .i64 x.size, .slice x.a x.n x.c]
theorem Try.infoFile : (Try.prog.info? 50).map (fun i => (i.zero, i.size, i.bytes)) = some (some (.agg #[.int .i64 0, .slice none 0 0]), 2, 32) := by kernel_rfl

/-- Rows of files' cells. -/
def fvE : Elt FlV where
  enc := flv
  k := 2
  ty := 50
  st := 34
  bytes := 32
  zv := .agg #[.int .i64 0, .slice none 0 0]
  zero := ⟨0, none, 0, 0⟩
  len := fun _ => rfl
  one := fun a u hu => by
    simp only [flv, List.mem_cons, List.not_mem_nil, or_false] at hu
    rcases hu with rfl | rfl <;> rfl
  und := Try.underlying34
  info := Try.infoFile
  zok := rfl
  few := by decide
  pos := by decide

/-- Outside the blocks from B0 to below B1 the world is as it was. -/
structure Out (B0 B1 : Nat) (w w' : World) : Prop where
  os : w'.os = w.os
  tape : w'.tape = w.tape
  output : w'.output = w.output
  size : w.heap.size ≤ w'.heap.size
  block : ∀ k, k < w.heap.size → (k < B0 ∨ B1 ≤ k) → w'.heap[k]? = w.heap[k]?

theorem Out.refl (B0 B1 : Nat) (w : World) : Out B0 B1 w w := ⟨rfl, rfl, rfl, Nat.le_refl _, fun _ _ _ => rfl⟩
theorem Out.trans {B0 B1 : Nat} {a b c : World} (h : Out B0 B1 a b) (k : Out B0 B1 b c) : Out B0 B1 a c :=
  ⟨k.os.trans h.os, k.tape.trans h.tape, k.output.trans h.output, Nat.le_trans h.size k.size, fun i hi hb => (k.block i (Nat.lt_of_lt_of_le hi h.size) hb).trans (h.block i hi hb)⟩
theorem Out.grew {B0 B1 : Nat} {a b : World} (h : Grew a b) : Out B0 B1 a b := ⟨Below.os h, Below.tape h, Below.output h, Below.size h, fun i hi _ => Below.block h i hi⟩
theorem Out.setCell (B0 B1 : Nat) (w : World) {p : Addr} (h0 : B0 ≤ p.block) (h1 : p.block < B1) (u : Value) : Out B0 B1 w (w.setCell p u) :=
  ⟨rfl, rfl, rfl, by simp [World.setCell], fun k _ hb => Below.heap_setCell _ _ _ _ (by omega)⟩
theorem Out.grown {B0 B1 : Nat} {w w' : World} {row : Option Nat} (hg : w.grownBy w' row) (h : ∀ g, row = some g → B0 ≤ g ∧ g < B1) : Out B0 B1 w w' :=
  ⟨hg.os, hg.tape, hg.output, hg.size, fun k hk hb => hg.block k hk (fun e => by have := h k e.symm; omega)⟩
theorem Out.wide {A0 A1 B0 B1 : Nat} {a b : World} (h : Out A0 A1 a b) (h0 : B0 ≤ A0) (h1 : A1 ≤ B1) : Out B0 B1 a b :=
  ⟨h.os, h.tape, h.output, h.size, fun i hi hb => h.block i hi (by omega)⟩
theorem Out.drew {B0 B1 : Nat} (w : World) : Out B0 B1 w w.drew := Out.grew (show Below _ _ _ from (Below.refl _ _).drew)
theorem Out.grew_of {B0 B1 : Nat} {w W w' : World} (h : Grew w W) (hB : w.heap.size ≤ B0) (k : Out B0 B1 W w') : Grew w w' :=
  (show Below _ _ _ from Below.trans h ⟨k.os, k.tape, k.output, k.size, fun i hi => k.block i (Nat.lt_of_lt_of_le hi (Below.size h)) (.inl (Nat.lt_of_lt_of_le hi hB))⟩)
theorem Out.zero {w w' : World} (h : Out 0 0 w w') : Grew w w' := ⟨h.os, h.tape, h.output, h.size, fun k hk => h.block k hk (.inr (Nat.zero_le _))⟩

theorem Box.out {B0 B1 : Nat} {w w' : World} {b : Nat} {cs : List Value} (h : Box w b cs) (k : Out B0 B1 w w') (hb : b < B0 ∨ B1 ≤ b) : Box w' b cs := by
  have hlt := h.lt
  obtain ⟨t, h⟩ := h
  exact ⟨t, by rw [k.block b hlt hb]; exact h⟩

section
variable {α : Type} {E : Elt α}
/-- A row that stays, whatever is done from B0 to below B1. -/
def RowS (E : Elt α) (B0 B1 : Nat) (w : World) (v : Value) (l : List α) : Prop := ∀ w', Out B0 B1 w w' → RowAt E w' v l
theorem RowS.now {B0 B1 : Nat} {w : World} {v : Value} {l : List α} (h : RowS E B0 B1 w v l) : RowAt E w v l := h w (Out.refl _ _ _)
theorem RowS.out {B0 B1 : Nat} {w w' : World} {v : Value} {l : List α} (h : RowS E B0 B1 w v l) (k : Out B0 B1 w w') : RowS E B0 B1 w' v l := fun w2 h2 => h w2 (k.trans h2)
theorem RowS.less {A0 A1 B0 B1 : Nat} {w : World} {v : Value} {l : List α} (h : RowS E B0 B1 w v l) (h0 : B0 ≤ A0) (h1 : A1 ≤ B1) : RowS E A0 A1 w v l := fun w2 h2 => h w2 (h2.wide h0 h1)
theorem RowAt.stays {B0 : Nat} (B1 : Nat) {w W : World} {v : Value} {l : List α} (h : RowAt E w v l) (hB : w.heap.size ≤ B0) (hg : Grew w W) : RowS E B0 B1 W v l := fun _ k => h.grew (k.grew_of hg hB)
theorem RowAt.s0 {w : World} {v : Value} {l : List α} (h : RowAt E w v l) : RowS E 0 0 w v l := fun _ k => h.grew k.zero
theorem NewRow.stays {base : Nat} {w : World} {v : Value} {l : List α} (h : NewRow E base w v l) : RowS E 0 base w v l := fun w' k => by
  obtain ⟨⟨⟨a, c, h1, h2, h3⟩, h4⟩, h5⟩ := h
  refine ⟨⟨a, c, h1, h2, fun x hx j u hj => ?_⟩, h4⟩
  subst hx
  have hc := h3 x rfl j u hj
  have hl := World.block_lt_of_cell? _ _ hc
  have hf := h5 x _ _ h1
  rw [World.cell?_of_block (w := w) (k.block _ hl (.inr (by rw [add_block]; exact hf)))]
  exact hc

/-- A row of one that is laid anew. -/
theorem one_row (E : Elt α) (w : World) (x : α) (cs : Array Value) (t : TypeId) (hcs : cs = (E.enc x).toArray) (hb : E.bytes ≤ 140737488355328) : RowAt E (w.alloc (.cells cs t)) (.slice (some ⟨w.heap.size, 0, none⟩) 1 1) [x] := by
  subst hcs
  refine ⟨⟨_, 1, rfl, fun h => (by cases h), fun y hy => ?_⟩, by simpa using hb⟩
  cases hy
  simpa using Cells.top w (E.enc x) t rfl
end

/-- A slice's length is at most its capacity. -/
def Cap : Value → Prop
  | .slice _ n c => n ≤ c
  | _ => True
theorem OwnRow.cap {α : Type} {E : Elt α} {base : Nat} {w : World} {v : Value} {l : List α} (h : OwnRow E base w v l) : Cap v := by
  rcases h.1.2 with ⟨rfl, _⟩ | ⟨g, cap, cur, rfl, _, _, h4, _⟩
  · exact Nat.le_refl _
  · exact h4

/-- The files at v, which stay, whatever is done from B0 to below B1. -/
def FilesS (B0 B1 : Nat) (w : World) (v : Value) (fs : List Fl) : Prop :=
  Cap v ∧ ∃ xs : List FlV, RowS fvE B0 B1 w v xs ∧ xs.length = fs.length ∧ ∀ (i : Nat) x f, xs[i]? = some x → fs[i]? = some f → x.size = f.size ∧ RowS blE B0 B1 w (.slice x.a x.n x.c) f.bl
/-- The files at v. -/
def FilesAt (w : World) (v : Value) (fs : List Fl) : Prop := FilesS 0 0 w v fs

theorem FilesS.out {B0 B1 : Nat} {w w' : World} {v : Value} {fs : List Fl} (h : FilesS B0 B1 w v fs) (k : Out B0 B1 w w') : FilesS B0 B1 w' v fs := by
  obtain ⟨hc, xs, h1, h2, h3⟩ := h
  exact ⟨hc, xs, h1.out k, h2, fun i x f hx hf => ⟨(h3 i x f hx hf).1, (h3 i x f hx hf).2.out k⟩⟩
theorem FilesS.grew {B0 B1 : Nat} {w w' : World} {v : Value} {fs : List Fl} (h : FilesS B0 B1 w v fs) (k : Grew w w') : FilesS B0 B1 w' v fs := h.out (Out.grew k)
theorem FilesS.less {A0 A1 B0 B1 : Nat} {w : World} {v : Value} {fs : List Fl} (h : FilesS B0 B1 w v fs) (h0 : B0 ≤ A0) (h1 : A1 ≤ B1) : FilesS A0 A1 w v fs := by
  obtain ⟨hc, xs, k1, k2, k3⟩ := h
  exact ⟨hc, xs, k1.less h0 h1, k2, fun i x f hx hf => ⟨(k3 i x f hx hf).1, (k3 i x f hx hf).2.less h0 h1⟩⟩
theorem FilesS.at {B0 B1 : Nat} {w : World} {v : Value} {fs : List Fl} (h : FilesS B0 B1 w v fs) : FilesAt w v fs := by
  obtain ⟨hc, xs, k1, k2, k3⟩ := h
  exact ⟨hc, xs, k1.now.s0, k2, fun i x f hx hf => ⟨(k3 i x f hx hf).1, (k3 i x f hx hf).2.now.s0⟩⟩
theorem FilesAt.grew {w w' : World} {v : Value} {fs : List Fl} (h : FilesAt w v fs) (k : Grew w w') : FilesAt w' v fs := FilesS.grew h k
theorem FilesAt.stays {B0 : Nat} (B1 : Nat) {w W : World} {v : Value} {fs : List Fl} (h : FilesAt w v fs) (hB : w.heap.size ≤ B0) (hg : Grew w W) : FilesS B0 B1 W v fs := by
  obtain ⟨hc, xs, k1, k2, k3⟩ := h
  exact ⟨hc, xs, k1.now.stays B1 hB hg, k2, fun i x f hx hf => ⟨(k3 i x f hx hf).1, (k3 i x f hx hf).2.now.stays B1 hB hg⟩⟩
theorem FilesS.nil (B0 B1 : Nat) (w : World) : FilesS B0 B1 w (.slice none 0 0) [] := ⟨Nat.le_refl _, [], fun w' _ => RowAt.nil fvE w', rfl, fun i x f hx => by simp at hx⟩

/-- The cells of a file. -/
def FlCells (W : World) (y : Addr) (s : Int) (b : Value) : Prop := W.cell? y = some (.int .i64 s) ∧ W.cell? { block := y.block, off := y.off + 1 } = some b
/-- What a walk over files meets. -/
def FlRows (w : World) (a : Option Addr) (fs : List Fl) : Prop := ∀ (j : Nat) f, fs[j]? = some f → ∃ ad, a = some ad ∧ ∃ xa xc, RowAt blE w (.slice xa f.bl.length xc) f.bl ∧ ∀ W, Grew w W → FlCells W (ad.add (j * 2)) f.size (.slice xa f.bl.length xc)

theorem FilesAt.rows {w : World} {v : Value} {fs : List Fl} (h : FilesAt w v fs) : ∃ a c, v = .slice a fs.length c ∧ fs.length ≤ 9223372036854775807 ∧ FlRows w a fs := by
  obtain ⟨_, xs, k1, k2, k3⟩ := h
  obtain ⟨a, c, h1, h2⟩ := k1.now.rows
  refine ⟨a, c, by rw [← k2]; exact h1, by rw [← k2]; exact k1.now.short, fun j f hf => ?_⟩
  obtain ⟨x, hx⟩ : ∃ x, xs[j]? = some x := ⟨_, List.getElem?_eq_getElem (by rw [k2]; exact (List.getElem?_eq_some_iff.1 hf).1)⟩
  obtain ⟨ad, e1, e2⟩ := h2 j x hx
  obtain ⟨q1, q2⟩ := k3 j x f hx hf
  have q3 := q2.now
  obtain ⟨⟨a', c', q4, _⟩, _⟩ := id q3
  cases x
  simp only at q1 q3 q4
  cases q4
  subst q1
  refine ⟨ad, e1, _, _, q3, fun W hW => ⟨?_, ?_⟩⟩
  · exact e2 W hW 0 _ rfl
  · exact e2 W hW 1 _ rfl

theorem FilesS.cap {B0 B1 : Nat} {w : World} {v : Value} {fs : List Fl} (h : FilesS B0 B1 w v fs) : Cap v := h.1

/-- One file of them. -/
theorem FilesAt.sub {w : World} {ad : Addr} {n c : Nat} {fs : List Fl} (h : FilesAt w (.slice (some ad) n c) fs) {o : Nat} {f : Fl} (hf : fs[o]? = some f) {c' : Nat} (hc' : 1 ≤ c') : FilesAt w (.slice (some (ad.add (o * 2))) 1 c') [f] := by
  obtain ⟨_, xs, k1, k2, k3⟩ := h
  obtain ⟨a, c0, h1, h2⟩ := k1.now.rows
  obtain ⟨x, hx⟩ : ∃ x, xs[o]? = some x := ⟨_, List.getElem?_eq_getElem (by rw [k2]; exact (List.getElem?_eq_some_iff.1 hf).1)⟩
  obtain ⟨ad', e1, e2⟩ := h2 o x hx
  cases h1
  cases e1
  refine ⟨hc', [x], RowAt.s0 ⟨⟨_, c', rfl, fun h => (by cases h), fun y hy => ?_⟩, ?_⟩, rfl, fun i x' f' hx' hf' => ?_⟩
  · cases hy
    have e3 : Cells w (ad.add (o * 2)) (fvE.enc x) := e2 w (Grew.refl _)
    simpa using e3
  · show 1 * 32 ≤ _
    omega
  · have hi : i = 0 := by
      have := (List.getElem?_eq_some_iff.1 hx').1
      simp at this
      exact this
    subst hi
    cases hx'
    cases hf'
    exact k3 o x f hx hf

def NumRows (w : World) (a : Option Addr) (l : List Int) : Prop := ∀ (j : Nat) x, l[j]? = some x → ∃ ad, a = some ad ∧ ∀ W, Grew w W → W.cell? (ad.add j) = some (.int .i64 x)
theorem RowAt.nums {w : World} {v : Value} {l : List Int} (h : RowAt blE w v l) : ∃ a c, v = .slice a l.length c ∧ NumRows w a l := by
  obtain ⟨a, c, h1, h2⟩ := h.rows
  refine ⟨a, c, h1, fun j x hj => ?_⟩
  obtain ⟨ad, h3, h4⟩ := h2 j x hj
  refine ⟨ad, h3, fun W hW => ?_⟩
  have := h4 W hW 0 _ rfl
  rw [add_add', show j * blE.k + 0 = j from by show j * 1 + 0 = j; omega] at this
  exact this

end Go.Proofs.Ytagpmjgmohfmjac
