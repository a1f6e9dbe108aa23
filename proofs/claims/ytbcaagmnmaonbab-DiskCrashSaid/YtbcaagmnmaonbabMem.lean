/- How pages, what waits, and disks lie in memory. No condition: definitions, and laws of the model. -/
import Derived.Test.YtbcaagmnmaonbabProg
import Derived.Test.YtbcaagmnmaonbabLaxWalk
import Derived.WalkKit
import Derived.Deep.LoopGhost
import Derived.Deep.Slices
import Derived.Laws.AppendOwn
namespace Go.Proofs.Ytbcaagmnmaonbab
open Go.RowKit

def pgc (p : List Int) : List Value := p.map (Value.int .u8)
def ptc (q : Int × List Int) : List Value := .int .i64 q.1 :: pgc q.2

theorem pgc_len (p : List Int) : (pgc p).length = p.length := by simp [pgc]
theorem ptc_len (q : Int × List Int) : (ptc q).length = q.2.length + 1 := by simp [ptc, pgc]

theorem pgc_one (p : List Int) : ∀ u ∈ pgc p, u.oneCell' = true := fun u hu => by
  obtain ⟨x, _, rfl⟩ := List.mem_map.1 hu
  rfl
theorem ptc_one (q : Int × List Int) : ∀ u ∈ ptc q, u.oneCell' = true := fun u hu => by
  rcases List.mem_cons.1 hu with rfl | h
  · rfl
  · exact pgc_one _ u h

theorem add_add' (a : Addr) (i j : Nat) : (a.add i).add j = a.add (i + j) := by
  unfold Addr.add
  by_cases h1 : i = 0 <;> by_cases h2 : j = 0 <;> simp [h1, h2] <;> omega

/-- The cells cs lie from x on. -/
def Cells (w : World) (x : Addr) (cs : List Value) : Prop := ∀ j u, cs[j]? = some u → w.cell? (x.add j) = some u

theorem Cells.grew {w w' : World} {x : Addr} {cs : List Value} (h : Cells w x cs) (hg : Grew w w') : Cells w' x cs := fun j u hj => by
  have h1 := h j u hj
  rw [Below.cell hg (World.block_lt_of_cell? _ _ h1)]
  exact h1

theorem flatMap_len {α : Type} {enc : α → List Value} {k : Nat} : ∀ (l : List α), (∀ a ∈ l, (enc a).length = k) → (l.flatMap enc).length = l.length * k
  | [], _ => by simp
  | a :: l, h => by
    rw [List.flatMap_cons, List.length_append, h a (by simp), flatMap_len l (fun b hb => h b (by simp [hb])), List.length_cons, Nat.add_mul, Nat.one_mul, Nat.add_comm]

/-- What of the cells of a row is an element's. -/
theorem flatMap_elem {α : Type} {enc : α → List Value} {k : Nat} : ∀ (l : List α) (j : Nat) (a : α), (∀ b ∈ l, (enc b).length = k) → l[j]? = some a → ∀ i u, (enc a)[i]? = some u → (l.flatMap enc)[j * k + i]? = some u
  | [], j, a, _, h, _, _, _ => by simp at h
  | b :: l, 0, a, hk, h, i, u, hi => by
    simp at h; subst h
    have hil : i < (enc b).length := by
      rcases Nat.lt_or_ge i (enc b).length with h | h
      · exact h
      · rw [List.getElem?_eq_none h] at hi; cases hi
    rw [List.flatMap_cons, Nat.zero_mul, Nat.zero_add, List.getElem?_append_left hil]
    exact hi
  | b :: l, j + 1, a, hk, h, i, u, hi => by
    have hb := hk b (by simp)
    rw [List.flatMap_cons, List.getElem?_append_right (by rw [hb, Nat.add_mul]; omega), hb]
    have e : (j + 1) * k + i - k = j * k + i := by rw [Nat.add_mul]; omega
    rw [e]
    exact flatMap_elem l j a (fun c hc => hk c (by simp [hc])) (by simpa using h) i u hi

theorem Cells.elem {α : Type} {enc : α → List Value} {k : Nat} {w : World} {x : Addr} {l : List α} (h : Cells w x (l.flatMap enc)) (hk : ∀ b ∈ l, (enc b).length = k) {j : Nat} {a : α} (ha : l[j]? = some a) : Cells w (x.add (j * k)) (enc a) := fun i u hi => by
  rw [add_add']
  exact h _ _ (flatMap_elem l j a hk ha i u hi)

theorem Cells.load {P : Program} {w : World} {x : Addr} {cs : List Value} (h : Cells w x cs) {k : Nat} (hk : cs.length = k) : Sem.run P (loadCellsFrom x 0 k #[]) w = .ok cs.toArray w := by
  have := run_loadCells_list (P := P) (w := w) x cs h
  rw [hk] at this
  simpa [loadCells] using this

/-- The slice v leads to a row of l. -/
def SliceAt {α : Type} (enc : α → List Value) (w : World) (v : Value) (l : List α) : Prop :=
  ∃ a c, v = .slice a l.length c ∧ (a = none → l = []) ∧ ∀ x, a = some x → Cells w x (l.flatMap enc)

theorem SliceAt.grew {α : Type} {enc : α → List Value} {w w' : World} {v : Value} {l : List α} (h : SliceAt enc w v l) (hg : Grew w w') : SliceAt enc w' v l := by
  obtain ⟨a, c, h1, h2, h3⟩ := h
  exact ⟨a, c, h1, h2, fun x hx => (h3 x hx).grew hg⟩

def PagesAt (w : World) (v : Value) (ps : List (List Int)) : Prop := SliceAt pgc w v ps ∧ (∀ p ∈ ps, p.length = 8) ∧ ps.length * 8 ≤ 140737488355328
def PutsAt (w : World) (v : Value) (qs : List (Int × List Int)) : Prop := SliceAt ptc w v qs ∧ (∀ q ∈ qs, q.2.length = 8) ∧ qs.length * 16 ≤ 140737488355328

theorem PagesAt.grew {w w' : World} {v : Value} {ps : List (List Int)} (h : PagesAt w v ps) (hg : Grew w w') : PagesAt w' v ps := ⟨h.1.grew hg, h.2⟩
theorem PutsAt.grew {w w' : World} {v : Value} {qs : List (Int × List Int)} (h : PutsAt w v qs) (hg : Grew w w') : PutsAt w' v qs := ⟨h.1.grew hg, h.2⟩

def OwnPages (base : Nat) (w : World) (v : Value) (ps : List (List Int)) : Prop := w.ownsRow base 31 8 v ps.length (ps.flatMap pgc) ∧ (∀ p ∈ ps, p.length = 8) ∧ ps.length * 8 ≤ 140737488355328
def OwnPuts (base : Nat) (w : World) (v : Value) (qs : List (Int × List Int)) : Prop := w.ownsRow base 35 9 v qs.length (qs.flatMap ptc) ∧ (∀ q ∈ qs, q.2.length = 8) ∧ qs.length * 16 ≤ 140737488355328

theorem sliceAt_of_owns {α : Type} {enc : α → List Value} {w : World} {base size : Nat} {e : TypeId} {v : Value} {l : List α} (h : w.ownsRow base e size v l.length (l.flatMap enc)) : SliceAt enc w v l := by
  rcases h.2 with ⟨rfl, hn⟩ | ⟨g, cap, cur, rfl, h2, h3, h4, h5, h6, h7⟩
  · have hl : l = [] := List.eq_nil_of_length_eq_zero hn
    subst hl
    exact ⟨none, 0, rfl, fun _ => rfl, fun x hx => by cases hx⟩
  · refine ⟨some ⟨g, 0, none⟩, cap, rfl, fun h => (by cases h), fun x hx => ?_⟩
    cases hx
    exact h.cells rfl

theorem OwnPages.at {base : Nat} {w : World} {v : Value} {ps : List (List Int)} (h : OwnPages base w v ps) : PagesAt w v ps := ⟨sliceAt_of_owns h.1, h.2⟩
theorem OwnPuts.at {base : Nat} {w : World} {v : Value} {qs : List (Int × List Int)} (h : OwnPuts base w v qs) : PutsAt w v qs := ⟨sliceAt_of_owns h.1, h.2⟩

theorem ownsRow_grew {w w' : World} {base size n : Nat} {e : TypeId} {v : Value} {xs : List Value} (h : w.ownsRow base e size v n xs) (hg : Grew w w') : w'.ownsRow base e size v n xs := by
  refine ⟨h.1, ?_⟩
  rcases h.2 with h1 | ⟨g, cap, cur, rfl, h2, h3, h4⟩
  · exact .inl h1
  · exact .inr ⟨g, cap, cur, rfl, h2, by rw [Below.block hg g (Array.getElem?_eq_some_iff.1 h3).1]; exact h3, h4⟩

theorem ownsRow_base {w : World} {base base' size n : Nat} {e : TypeId} {v : Value} {xs : List Value} (h : w.ownsRow base e size v n xs) (hb : base' ≤ base) : w.ownsRow base' e size v n xs := by
  refine ⟨h.1, ?_⟩
  rcases h.2 with h1 | ⟨g, cap, cur, rfl, h2, h3⟩
  · exact .inl h1
  · exact .inr ⟨g, cap, cur, rfl, Nat.le_trans hb h2, h3⟩

/-- The disk that is the value d. -/
def DiskAt (w : World) (d : Value) (ps : List (List Int)) (qs : List (Int × List Int)) : Prop := ∃ b q, d = .agg #[b, q] ∧ PagesAt w b ps ∧ PutsAt w q qs

theorem DiskAt.grew {w w' : World} {d : Value} {ps : List (List Int)} {qs : List (Int × List Int)} (h : DiskAt w d ps qs) (hg : Grew w w') : DiskAt w' d ps qs := by
  obtain ⟨b, q, h1, h2, h3⟩ := h
  exact ⟨b, q, h1, h2.grew hg, h3.grew hg⟩

theorem len8 (l : List Int) (h : l.length = 8) : ∃ c0 c1 c2 c3 c4 c5 c6 c7, l = [c0, c1, c2, c3, c4, c5, c6, c7] := by
  match l, h with
  | [c0, c1, c2, c3, c4, c5, c6, c7], _ => exact ⟨c0, c1, c2, c3, c4, c5, c6, c7, rfl⟩

/-- The nine cells of one that waits, as a load meets them. -/
def PutCells (W : World) (y : Addr) (m b0 b1 b2 b3 b4 b5 b6 b7 : Int) : Prop :=
  W.cell? y = some (.int .i64 m) ∧ W.cell? { block := y.block, off := y.off + 1 } = some (.int .u8 b0) ∧ W.cell? { block := y.block, off := y.off + 2 } = some (.int .u8 b1) ∧ W.cell? { block := y.block, off := y.off + 3 } = some (.int .u8 b2) ∧
  W.cell? { block := y.block, off := y.off + 4 } = some (.int .u8 b3) ∧ W.cell? { block := y.block, off := y.off + 5 } = some (.int .u8 b4) ∧ W.cell? { block := y.block, off := y.off + 6 } = some (.int .u8 b5) ∧ W.cell? { block := y.block, off := y.off + 7 } = some (.int .u8 b6) ∧ W.cell? { block := y.block, off := y.off + 8 } = some (.int .u8 b7)

/-- The eight cells of a page, as a load meets them. -/
def PageCells (W : World) (y : Addr) (b0 b1 b2 b3 b4 b5 b6 b7 : Int) : Prop :=
  W.cell? y = some (.int .u8 b0) ∧ W.cell? { block := y.block, off := y.off + 1 } = some (.int .u8 b1) ∧ W.cell? { block := y.block, off := y.off + 2 } = some (.int .u8 b2) ∧ W.cell? { block := y.block, off := y.off + 3 } = some (.int .u8 b3) ∧
  W.cell? { block := y.block, off := y.off + 4 } = some (.int .u8 b4) ∧ W.cell? { block := y.block, off := y.off + 5 } = some (.int .u8 b5) ∧ W.cell? { block := y.block, off := y.off + 6 } = some (.int .u8 b6) ∧ W.cell? { block := y.block, off := y.off + 7 } = some (.int .u8 b7)

theorem Cells.put {W : World} {y : Addr} {m b0 b1 b2 b3 b4 b5 b6 b7 : Int} (h : Cells W y (ptc (m, [b0, b1, b2, b3, b4, b5, b6, b7]))) : PutCells W y m b0 b1 b2 b3 b4 b5 b6 b7 :=
  ⟨h 0 _ rfl, h 1 _ rfl, h 2 _ rfl, h 3 _ rfl, h 4 _ rfl, h 5 _ rfl, h 6 _ rfl, h 7 _ rfl, h 8 _ rfl⟩

theorem Cells.page {W : World} {y : Addr} {b0 b1 b2 b3 b4 b5 b6 b7 : Int} (h : Cells W y (pgc [b0, b1, b2, b3, b4, b5, b6, b7])) : PageCells W y b0 b1 b2 b3 b4 b5 b6 b7 :=
  ⟨h 0 _ rfl, h 1 _ rfl, h 2 _ rfl, h 3 _ rfl, h 4 _ rfl, h 5 _ rfl, h 6 _ rfl, h 7 _ rfl⟩

def PutRows (w : World) (a : Option Addr) (qs : List (Int × List Int)) : Prop :=
  ∀ (j : Nat) q, qs[j]? = some q → ∃ x m b0 b1 b2 b3 b4 b5 b6 b7, a = some x ∧ q = (m, [b0, b1, b2, b3, b4, b5, b6, b7]) ∧ ∀ W, Grew w W → PutCells W (x.add (j * 9)) m b0 b1 b2 b3 b4 b5 b6 b7

def PageRows (w : World) (a : Option Addr) (ps : List (List Int)) : Prop :=
  ∀ (j : Nat) p, ps[j]? = some p → ∃ x b0 b1 b2 b3 b4 b5 b6 b7, a = some x ∧ p = [b0, b1, b2, b3, b4, b5, b6, b7] ∧ ∀ W, Grew w W → PageCells W (x.add (j * 8)) b0 b1 b2 b3 b4 b5 b6 b7

/-- What a loop reads of a slice, round by round, whatever grows. -/
theorem PutsAt.rows {w : World} {v : Value} {qs : List (Int × List Int)} (h : PutsAt w v qs) : ∃ a c, v = .slice a qs.length c ∧ PutRows w a qs := by
  obtain ⟨⟨a, c, h1, h2, h3⟩, h4, _⟩ := h
  refine ⟨a, c, h1, fun j q hj => ?_⟩
  have hm : q ∈ qs := List.mem_of_getElem? hj
  obtain ⟨m, l⟩ := q
  obtain ⟨b0, b1, b2, b3, b4, b5, b6, b7, rfl⟩ := len8 l (h4 _ hm)
  cases a with
  | none => rw [h2 rfl] at hm; cases hm
  | some x => exact ⟨x, m, b0, b1, b2, b3, b4, b5, b6, b7, rfl, rfl, fun W hW => (((h3 x rfl).grew hW).elem (k := 9) (fun b hb => by rw [ptc_len, h4 b hb]) hj).put⟩

theorem PagesAt.rows {w : World} {v : Value} {ps : List (List Int)} (h : PagesAt w v ps) : ∃ a c, v = .slice a ps.length c ∧ PageRows w a ps := by
  obtain ⟨⟨a, c, h1, h2, h3⟩, h4, _⟩ := h
  refine ⟨a, c, h1, fun j q hj => ?_⟩
  have hm : q ∈ ps := List.mem_of_getElem? hj
  obtain ⟨b0, b1, b2, b3, b4, b5, b6, b7, rfl⟩ := len8 q (h4 _ hm)
  cases a with
  | none => rw [h2 rfl] at hm; cases hm
  | some x => exact ⟨x, b0, b1, b2, b3, b4, b5, b6, b7, rfl, rfl, fun W hW => (((h3 x rfl).grew hW).elem (k := 8) (fun b hb => by rw [pgc_len, h4 b hb]) hj).page⟩

end Go.Proofs.Ytbcaagmnmaonbab
