/- Rows of elements in memory, variables in blocks of their own: laws of the model, free of the program. -/
import Derived.Test.YtlkgmjdhggfimadProg
import Derived.Test.YtlkgmjdhggfimadLaxTail
import Derived.WalkKit
import Derived.Deep.LoopGhost
import Derived.Deep.Slices
import Derived.Laws.AppendOwn
import Derived.Lib.Walk
import Derived.Lib.SliceRun
import Derived.Laws.CopyRow
import Derived.Laws.CopyOwn
import Derived.Laws.MakeOwn
import Derived.Laws.OwnMore
import Derived.Shelf.Abstract
namespace Go.Proofs.Ytlkgmjdhggfimad
open Go.RowKit

theorem add_add' (a : Addr) (i j : Nat) : (a.add i).add j = a.add (i + j) := by
  unfold Addr.add
  by_cases h1 : i = 0 <;> by_cases h2 : j = 0 <;> simp [h1, h2] <;> omega

/-- The cells cs lie from x on. -/
def Cells (w : World) (x : Addr) (cs : List Value) : Prop := ∀ j u, cs[j]? = some u → w.cell? (x.add j) = some u

theorem Cells.grew {w w' : World} {x : Addr} {cs : List Value} (h : Cells w x cs) (hg : Grew w w') : Cells w' x cs := fun j u hj => by
  have h1 := h j u hj
  rw [Below.cell hg (World.block_lt_of_cell? _ _ h1)]
  exact h1

theorem flatMap_len {α : Type} {enc : α → List Value} {k : Nat} : ∀ (l : List α), (∀ a ∈ l, (enc a).length = k) → (l.flatMap enc).length = l.length * k
  | [], _ => by simp
  | a :: l, h => by
    rw [List.flatMap_cons, List.length_append, h a (by simp), flatMap_len l (fun b hb => h b (by simp [hb])), List.length_cons, Nat.add_mul, Nat.one_mul, Nat.add_comm]

/-- What of the cells of a row is an element's. -/
theorem flatMap_elem {α : Type} {enc : α → List Value} {k : Nat} : ∀ (l : List α) (j : Nat) (a : α), (∀ b ∈ l, (enc b).length = k) → l[j]? = some a → ∀ i u, (enc a)[i]? = some u → (l.flatMap enc)[j * k + i]? = some u
  | [], j, a, _, h, _, _, _ => by simp at h
  | b :: l, 0, a, hk, h, i, u, hi => by
    simp at h; subst h
    have hil : i < (enc b).length := by
      rcases Nat.lt_or_ge i (enc b).length with h | h
      · exact h
      · rw [List.getElem?_eq_none h] at hi; cases hi
    rw [List.flatMap_cons, Nat.zero_mul, Nat.zero_add, List.getElem?_append_left hil]
    exact hi
  | b :: l, j + 1, a, hk, h, i, u, hi => by
    have hb := hk b (by simp)
    rw [List.flatMap_cons, List.getElem?_append_right (by rw [hb, Nat.add_mul]; omega), hb]
    have e : (j + 1) * k + i - k = j * k + i := by rw [Nat.add_mul]; omega
    rw [e]
    exact flatMap_elem l j a (fun c hc => hk c (by simp [hc])) (by simpa using h) i u hi

theorem Cells.elem {α : Type} {enc : α → List Value} {k : Nat} {w : World} {x : Addr} {l : List α} (h : Cells w x (l.flatMap enc)) (hk : ∀ b ∈ l, (enc b).length = k) {j : Nat} {a : α} (ha : l[j]? = some a) : Cells w (x.add (j * k)) (enc a) := fun i u hi => by
  rw [add_add']
  exact h _ _ (flatMap_elem l j a hk ha i u hi)

theorem Cells.load {P : Program} {w : World} {x : Addr} {cs : List Value} (h : Cells w x cs) {k : Nat} (hk : cs.length = k) : Sem.run P (loadCellsFrom x 0 k #[]) w = .ok cs.toArray w := by
  have := run_loadCells_list (P := P) (w := w) x cs h
  rw [hk] at this
  simpa [loadCells] using this

/-- The slice v leads to a row of l. -/
def SliceAt {α : Type} (enc : α → List Value) (w : World) (v : Value) (l : List α) : Prop :=
  ∃ a c, v = .slice a l.length c ∧ (a = none → l = []) ∧ ∀ x, a = some x → Cells w x (l.flatMap enc)

theorem SliceAt.grew {α : Type} {enc : α → List Value} {w w' : World} {v : Value} {l : List α} (h : SliceAt enc w v l) (hg : Grew w w') : SliceAt enc w' v l := by
  obtain ⟨a, c, h1, h2, h3⟩ := h
  exact ⟨a, c, h1, h2, fun x hx => (h3 x hx).grew hg⟩

theorem sliceAt_of_owns {α : Type} {enc : α → List Value} {w : World} {base size : Nat} {e : TypeId} {v : Value} {l : List α} (h : w.ownsRow base e size v l.length (l.flatMap enc)) : SliceAt enc w v l := by
  rcases h.2 with ⟨rfl, hn⟩ | ⟨g, cap, cur, rfl, h2, h3, h4, h5, h6, h7⟩
  · have hl : l = [] := List.eq_nil_of_length_eq_zero hn
    subst hl
    exact ⟨none, 0, rfl, fun _ => rfl, fun x hx => by cases hx⟩
  · refine ⟨some ⟨g, 0, none⟩, cap, rfl, fun h => (by cases h), fun x hx => ?_⟩
    cases hx
    exact h.cells rfl

theorem ownsRow_grew {w w' : World} {base size n : Nat} {e : TypeId} {v : Value} {xs : List Value} (h : w.ownsRow base e size v n xs) (hg : Grew w w') : w'.ownsRow base e size v n xs := by
  refine ⟨h.1, ?_⟩
  rcases h.2 with h1 | ⟨g, cap, cur, rfl, h2, h3, h4⟩
  · exact .inl h1
  · exact .inr ⟨g, cap, cur, rfl, h2, by rw [Below.block hg g (Array.getElem?_eq_some_iff.1 h3).1]; exact h3, h4⟩

theorem ownsRow_base {w : World} {base base' size n : Nat} {e : TypeId} {v : Value} {xs : List Value} (h : w.ownsRow base e size v n xs) (hb : base' ≤ base) : w.ownsRow base' e size v n xs := by
  refine ⟨h.1, ?_⟩
  rcases h.2 with h1 | ⟨g, cap, cur, rfl, h2, h3⟩
  · exact .inl h1
  · exact .inr ⟨g, cap, cur, rfl, Nat.le_trans hb h2, h3⟩

theorem flatMap_one {α : Type} {enc : α → List Value} (h : ∀ a, ∀ u ∈ enc a, u.oneCell' = true) (l : List α) : ∀ u ∈ l.flatMap enc, u.oneCell' = true := fun u hu => by
  obtain ⟨a, _, ha⟩ := List.mem_flatMap.1 hu
  exact h a u ha

theorem maxLen_of {n : Nat} (h : n ≤ 140737488355328) : n ≤ maxLen := by simp [maxLen]; omega

theorem grew_alloc (w : World) (o : Obj) : Grew w (w.alloc o) := (Below.refl _ _).alloc (Nat.le_refl _) _

theorem grew_set {w W : World} (h : Grew w W) {a : Addr} (ha : w.heap.size ≤ a.block) (u : Value) : Grew w (W.setCell a u) := Below.setCell h ha u

theorem mixed : Try.prog.follows .mixedOrders = true := by kernel_rfl

/-- The slice v leads to memory from base on. -/
def fresh (base : Nat) (v : Value) : Prop := ∀ x n c, v = .slice (some x) n c → base ≤ x.block

theorem fresh_nil (base : Nat) : fresh base (.slice none 0 0) := fun x n c e => by cases e

theorem add_block (x : Addr) (j : Nat) : (x.add j).block = x.block := by unfold Addr.add; split <;> rfl

theorem SliceAt.setCell {α : Type} {enc : α → List Value} {base : Nat} {w : World} {v : Value} {l : List α} (h : SliceAt enc w v l) (hf : fresh base v) {a : Addr} (ha : a.block < base) (u : Value) : SliceAt enc (w.setCell a u) v l := by
  obtain ⟨x, c, h1, h2, h3⟩ := h
  refine ⟨x, c, h1, h2, fun y hy j t hj => ?_⟩
  subst hy
  have := hf y _ _ h1
  rw [World.cell?_of_block (w := w) (Below.heap_setCell _ _ _ _ (by rw [add_block]; omega))]
  exact h3 y rfl j t hj

theorem frozen_grew {w w' : World} (hg : Grew w w') {p : Addr} (hp : p.block < w.heap.size) : w'.frozen? p = w.frozen? p := Below.frozen hg hp

theorem setRow_grown (w : World) (g : Nat) (cs : Array Value) : w.grownBy (w.setRow g cs) (some g) := by
  refine ⟨rfl, rfl, rfl, by simp [World.setRow], fun k hk hne => ?_⟩
  have : g ≠ k := fun e => hne (by rw [e])
  unfold World.setRow
  simp [Array.getElem?_modify, this]

/-- A row, stored over from a place on. -/
theorem run_storeCells_row {P : Program} {w : World} {base size n : Nat} {e : TypeId} {v : Value} {xs : List Value} (h : w.ownsRow base e size v n xs) {g : Nat} (hg : v.ownBlock = some g) (off : Nat) (cs : List Value) (hfit : off + cs.length ≤ n * size) (h1 : ∀ u ∈ cs, u.oneCell' = true) :
    ∃ w', (storeCells ⟨g, off, none⟩ cs 0).run P w = .ok () w' ∧ w'.ownsRow base e size v n (splice xs off cs) ∧ w.grownBy w' (some g) ∧ w'.heap.size = w.heap.size := by
  obtain ⟨hl, h2⟩ := h
  rcases h2 with ⟨rfl, hn⟩ | ⟨g', cap, cur, rfl, hb, hh, hn, hm, hs, ht⟩
  · simp [Value.ownBlock] at hg
  · simp [Value.ownBlock] at hg
    subst hg
    have hle : n * size ≤ cur.size := by rw [hs]; exact Nat.mul_le_mul_right _ hn
    refine ⟨_, run_storeCells_at P g' off e cs 0 cur w hh (by omega) h1, ⟨by rw [length_splice _ _ _ (by omega)]; exact hl, .inr ⟨g', cap, _, rfl, hb, setRow_heap w g' cur _ e _ hh, hn, hm, ?_, ?_⟩⟩, setRow_grown _ _ _, by simp [World.setRow]⟩
    · simp; omega
    · subst ht
      apply List.ext_getElem?
      intro j
      simp only [splice, Nat.add_zero]
      simp only [List.getElem?_take, List.getElem?_append, List.getElem?_drop, List.length_take, List.length_append, Array.length_toList]
      have e1 : min off cur.size = off := by omega
      have e2 : min off (min (n * size) cur.size) = off := by omega
      simp only [e1, e2]
      split <;> split <;> (try split) <;> (try split) <;> (try split) <;> first | rfl | omega | (congr 1; omega) | skip

theorem wpList_store_row {P : Program} {w : World} {ops : Array Oper} {rest : List Oper} {o : Oper} {a : Act} {Q : Exit → Act → World → Prop} (hgd : o.guard = none) (p x : Operand) (t : TypeId) (ho : o.op = .store t p x) (k : Nat) (hk : (P.info? t).map (·.size) = some k)
    (base : Nat) (v : Value) (n : Nat) (xs : List Value) (hown : w.ownsRow base t k v n xs) (g i : Nat) (hg : v.ownBlock = some g) (hi : i < n) (cs : List Value) (hcs : cs.length = k) (h1 : ∀ u ∈ cs, u.oneCell' = true)
    (ad : Addr) (hp : a.eval p = .pointer (some ad)) (had : ad = ⟨g, i * k, none⟩) (hx : a.eval x = .agg cs.toArray)
    (h : ∀ w', w'.ownsRow base t k v n (splice xs (i * k) cs) → w.grownBy w' (some g) → w'.heap.size = w.heap.size → wpList P ops Q rest (a.put o.dst undef) w') : wpList P ops Q (o :: rest) a w := by
  subst had
  refine wpList_plain hgd fun K hK => ?_
  have hfit : i * k + cs.length ≤ n * k := by
    rw [hcs, ← Nat.succ_mul]
    exact Nat.mul_le_mul_right _ hi
  obtain ⟨w', hr, h2, h3, h4⟩ := run_storeCells_row (P := P) hown hg (i * k) cs hfit h1
  have hsz : (Go.sizeOf t).run P w = .ok k w := by
    cases hq : P.info? t with
    | none => simp [hq] at hk
    | some i => simp [hq] at hk; simp [Go.sizeOf, typeInfo, hq, hk]
  have hall : (Instr.storeAt t (.pointer (some ⟨g, i * k, none⟩)) (.agg cs.toArray)).run P w = .ok () w' := by
    simp [Instr.storeAt, Instr.sureAddr, storeVar, Sem.run_bind, hsz, Result.andThen, Value.cells, hcs, hr]
  unfold Oper.wp
  simp only [execOp, ho, hp, hx, Sem.run_bind, hall, Result.andThen, Sem.run_pure, Oper.upon]
  exact hK _ _ (h w' h2 h3 h4)

theorem splice_set {α : Type} {enc : α → List Value} {k : Nat} (x : α) (hx : (enc x).length = k) : ∀ (l : List α) (i : Nat), (∀ a ∈ l, (enc a).length = k) → i < l.length → splice (l.flatMap enc) (i * k) (enc x) = (l.set i x).flatMap enc
  | [], i, _, hi => by simp at hi
  | a :: l, 0, h, _ => by
    simp only [splice, List.flatMap_cons, Nat.zero_mul, List.take_zero, List.nil_append, Nat.zero_add, List.set_cons_zero]
    rw [List.drop_append_of_le_length (by rw [hx, h a (by simp)]; exact Nat.le_refl _), List.drop_of_length_le (by rw [hx, h a (by simp)]; exact Nat.le_refl _), List.nil_append]
  | a :: l, i + 1, h, hi => by
    have ha := h a (by simp)
    have ih := splice_set x hx l i (fun b hb => h b (by simp [hb])) (by simpa using hi)
    simp only [splice, List.flatMap_cons, List.set_cons_succ] at ih ⊢
    rw [← ih, Nat.succ_mul, Nat.add_comm (i * k) k, ← ha, List.take_length_add_append, Nat.add_assoc, List.drop_length_add_append, List.append_assoc]

theorem grew_grown {w W W' : World} {g : Nat} (h : Grew w W) (hg : W.grownBy W' (some g)) (hb : w.heap.size ≤ g) : Grew w W' :=
  Below.grown h hg (Below.size h) (fun k hk => by cases hk; exact hb)

theorem bel_grew {B : Nat} {a w w' : World} (h : Below B a w) (hB : B ≤ w.heap.size) (hg : Grew w w') : Below B a w' := h.trans (Below.mono hg hB)

/-- The block b holds the cells cs, and may be written. -/
def Box (w : World) (b : Nat) (cs : List Value) : Prop := ∃ t, w.heap[b]? = some (.cells cs.toArray t (0, 0))

theorem Box.lt {w : World} {b : Nat} {cs : List Value} (h : Box w b cs) : b < w.heap.size := by
  obtain ⟨t, h⟩ := h
  exact (Array.getElem?_eq_some_iff.1 h).1

theorem Box.c {w : World} {b : Nat} {cs : List Value} (h : Box w b cs) (i : Nat) {u : Value} (hi : cs[i]? = some u) : w.cell? ⟨b, i, none⟩ = some u := by
  obtain ⟨t, h⟩ := h
  simp [World.cell?, h, hi]

theorem Box.f {w : World} {b : Nat} {cs : List Value} (h : Box w b cs) (i : Nat) : w.frozen? ⟨b, i, none⟩ = false := by
  obtain ⟨t, h⟩ := h
  simp [World.frozen?, h]

theorem Box.below {w w' : World} {b B : Nat} {cs : List Value} (h : Box w b cs) (hg : Below B w w') (hb : b < B) : Box w' b cs := by
  obtain ⟨t, h⟩ := h
  exact ⟨t, by rw [hg.block b hb]; exact h⟩

theorem Box.grew {w w' : World} {b : Nat} {cs : List Value} (h : Box w b cs) (hg : Grew w w') : Box w' b cs := h.below hg h.lt

theorem Box.top (w : World) (cs : List Value) (t : TypeId) {b : Nat} (hb : b = w.heap.size) : Box (w.alloc (.cells cs.toArray t)) b cs := by
  subst hb
  refine ⟨t, ?_⟩
  show (w.heap.push _)[w.heap.size]? = _
  simp

theorem Box.alloc {w : World} {b : Nat} {cs : List Value} (h : Box w b cs) (o : Obj) : Box (w.alloc o) b cs := h.grew (grew_alloc _ _)

theorem Box.grown {w w' : World} {b g : Nat} {cs : List Value} (h : Box w b cs) (hg : w.grownBy w' (some g)) (hb : b ≠ g) : Box w' b cs := by
  have hlt := h.lt
  obtain ⟨t, h⟩ := h
  exact ⟨t, by rw [hg.block b hlt (fun e => hb (by cases e; rfl))]; exact h⟩

theorem Box.other {w : World} {b : Nat} {cs : List Value} (h : Box w b cs) {a : Addr} (ha : b ≠ a.block) (u : Value) : Box (w.setCell a u) b cs := by
  obtain ⟨t, h⟩ := h
  exact ⟨t, by rw [Below.heap_setCell _ _ _ _ ha]; exact h⟩

theorem Box.set {w : World} {b : Nat} {cs : List Value} (h : Box w b cs) (i : Nat) (u : Value) : Box (w.setCell ⟨b, i, none⟩ u) b (cs.set i u) := by
  have hlt := h.lt
  obtain ⟨t, h⟩ := h
  refine ⟨t, ?_⟩
  obtain ⟨_, h2⟩ := Array.getElem?_eq_some_iff.1 h
  unfold World.setCell
  rw [Array.getElem?_eq_getElem (by simpa using hlt)]
  simp [Array.getElem_modify, h2]

theorem ownsRow_same {w w' : World} {base size n : Nat} {e : TypeId} {v : Value} {xs : List Value} (h : w.ownsRow base e size v n xs) (hs : ∀ k, base ≤ k → w'.heap[k]? = w.heap[k]?) : w'.ownsRow base e size v n xs := by
  refine ⟨h.1, ?_⟩
  rcases h.2 with h1 | ⟨g, cap, cur, rfl, h2, h3, h4⟩
  · exact .inl h1
  · exact .inr ⟨g, cap, cur, rfl, h2, by rw [hs g h2]; exact h3, h4⟩

theorem alloc2_same (w : World) (A B C : Obj) (k : Nat) (hk : w.heap.size + 1 ≤ k) : ((w.alloc A).alloc C).heap[k]? = ((w.alloc B).alloc C).heap[k]? := by
  show ((w.heap.push A).push C)[k]? = ((w.heap.push B).push C)[k]?
  simp only [Array.getElem?_push, Array.size_push]
  split
  · rfl
  · rw [if_neg (by omega), if_neg (by omega)]

theorem World.grownBy.rfl' (w : World) (row : Option Nat) : w.grownBy w row := ⟨rfl, rfl, rfl, Nat.le_refl _, fun _ _ _ => rfl⟩

theorem Cells.top (w : World) (cs : List Value) (t : TypeId) {b : Nat} (hb : b = w.heap.size) : Cells (w.alloc (.cells cs.toArray t)) ⟨b, 0, none⟩ cs := fun j u hj => by
  rw [Addr.add_lit, Nat.zero_add]
  exact (Box.top w cs t hb).c j hj

theorem Box.beside {w w' : World} {b : Nat} {cs : List Value} {row : Option Nat} (h : Box w b cs) (hg : w.grownBy w' row) (hb : ∀ g, row = some g → b ≠ g) : Box w' b cs := by
  have hlt := h.lt
  obtain ⟨t, h⟩ := h
  exact ⟨t, by rw [hg.block b hlt (fun e => hb b e.symm rfl)]; exact h⟩

theorem grew_beside {w W W' : World} {row : Option Nat} (h : Grew w W) (hg : W.grownBy W' row) (hb : ∀ g, row = some g → w.heap.size ≤ g) : Grew w W' := Below.grown h hg (Below.size h) hb

/-- A box, and what type its block has. -/
def BoxT (w : World) (b : Nat) (t : TypeId) (cs : List Value) : Prop := w.heap[b]? = some (.cells cs.toArray t (0, 0))

theorem BoxT.box {w : World} {b : Nat} {t : TypeId} {cs : List Value} (h : BoxT w b t cs) : Box w b cs := ⟨t, h⟩

theorem BoxT.top (w : World) (cs : List Value) (t : TypeId) {b : Nat} (hb : b = w.heap.size) : BoxT (w.alloc (.cells cs.toArray t)) b t cs := by
  subst hb
  show (w.heap.push _)[w.heap.size]? = _
  simp

theorem BoxT.grew {w w' : World} {b : Nat} {t : TypeId} {cs : List Value} (h : BoxT w b t cs) (hg : Grew w w') : BoxT w' b t cs := (hg.block b h.box.lt).trans h

theorem BoxT.beside {w w' : World} {b : Nat} {t : TypeId} {cs : List Value} {row : Option Nat} (h : BoxT w b t cs) (hg : w.grownBy w' row) (hb : ∀ g, row = some g → b ≠ g) : BoxT w' b t cs := by
  unfold BoxT
  rw [hg.block b h.box.lt (fun e => hb b e.symm rfl)]
  exact h

theorem BoxT.set {w : World} {b : Nat} {t : TypeId} {cs : List Value} (h : BoxT w b t cs) (i : Nat) (u : Value) : BoxT (w.setCell ⟨b, i, none⟩ u) b t (cs.set i u) := by
  have hlt := h.box.lt
  obtain ⟨_, h2⟩ := Array.getElem?_eq_some_iff.1 h
  unfold BoxT World.setCell
  rw [Array.getElem?_eq_getElem (by simpa using hlt)]
  simp [Array.getElem_modify, h2]

theorem BoxT.other {w : World} {b : Nat} {t : TypeId} {cs : List Value} (h : BoxT w b t cs) {a : Addr} (ha : b ≠ a.block) (u : Value) : BoxT (w.setCell a u) b t cs := by
  unfold BoxT
  rw [Below.heap_setCell _ _ _ _ ha]
  exact h

theorem ownsRow_setOther {w : World} {base size n : Nat} {e : TypeId} {v : Value} {xs : List Value} (h : w.ownsRow base e size v n xs) {a : Addr} (ha : ∀ g, v.ownBlock = some g → a.block ≠ g) (u : Value) : (w.setCell a u).ownsRow base e size v n xs := by
  refine ⟨h.1, ?_⟩
  rcases h.2 with h1 | ⟨g, cap, cur, rfl, h2, h3, h4⟩
  · exact .inl h1
  · exact .inr ⟨g, cap, cur, rfl, h2, by rw [Below.heap_setCell _ _ _ _ (fun e => ha g rfl e.symm)]; exact h3, h4⟩

end Go.Proofs.Ytlkgmjdhggfimad
