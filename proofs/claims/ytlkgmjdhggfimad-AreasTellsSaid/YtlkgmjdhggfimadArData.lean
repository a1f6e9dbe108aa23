/- Areas and pages as cells: rows of areas, arrays of areas and of pages by value, loads and stores of whole elements. No condition: laws of the model. -/
import Derived.Test.YtlkgmjdhggfimadStay
import Derived.Test.YtlkgmjdhggfimadArPure2
import Derived.Deep.MidRow
import Derived.Laws.ResultCell
import Derived.BigQuiet
import Derived.WalkSmall
import Derived.Deep.Cut
namespace Go.Proofs.Ytlkgmjdhggfimad
open Go.RowKit

def arv (a : Ar) : List Value := [.int .i64 a.fr, .int .i64 a.to, .bool a.rd, .bool a.wr, .bool a.sh, .int .i64 a.file, .int .i64 a.base]
def arA (a : Ar) : Value := .agg #[.int .i64 a.fr, .int .i64 a.to, .bool a.rd, .bool a.wr, .bool a.sh, .int .i64 a.file, .int .i64 a.base]
theorem Try.infoArea : (Try.prog.info? 37).map (fun i => (i.zero, i.size, i.bytes)) = some (some (.agg #[.int .i64 0, .int .i64 0, .bool false, .bool false, .bool false, .int .i64 0, .int .i64 0]), 7, 40) := by kernel_rfl

theorem Try.sizeArea : (Try.prog.info? 37).map (·.size) = some 7 := by kernel_rfl
theorem Try.sizeFault : (Try.prog.info? 39).map (·.size) = some 2 := by kernel_rfl
theorem Try.sizeOne : (Try.prog.info? 48).map (·.size) = some 6 := by kernel_rfl
theorem Try.sizePgs : (Try.prog.info? 80).map (·.size) = some 448 := by kernel_rfl
theorem Try.sizeOnes : (Try.prog.info? 49).map (·.size) = some 384 := by kernel_rfl
/-- Rows of areas. -/
def arE : Elt Ar where
  enc := arv
  k := 7
  ty := 37
  st := 35
  bytes := 40
  zv := .agg #[.int .i64 0, .int .i64 0, .bool false, .bool false, .bool false, .int .i64 0, .int .i64 0]
  zero := ar0
  len := fun _ => rfl
  one := fun a u hu => by
    simp only [arv, List.mem_cons, List.not_mem_nil, or_false] at hu
    rcases hu with rfl | rfl | rfl | rfl | rfl | rfl | rfl <;> rfl
  und := Try.underlying35
  info := Try.infoArea
  zok := rfl
  few := by decide
  pos := by decide

/-- The cells of an area. -/
def ArCells (W : World) (y : Addr) (e : Ar) : Prop := W.cell? y = some (.int .i64 e.fr) ∧ W.cell? { block := y.block, off := y.off + 1 } = some (.int .i64 e.to) ∧ W.cell? { block := y.block, off := y.off + 2 } = some (.bool e.rd) ∧ W.cell? { block := y.block, off := y.off + 3 } = some (.bool e.wr) ∧ W.cell? { block := y.block, off := y.off + 4 } = some (.bool e.sh) ∧ W.cell? { block := y.block, off := y.off + 5 } = some (.int .i64 e.file) ∧ W.cell? { block := y.block, off := y.off + 6 } = some (.int .i64 e.base)
def ArRows (w : World) (a : Option Addr) (l : List Ar) : Prop := ∀ (j : Nat) e, l[j]? = some e → ∃ ad, a = some ad ∧ ∀ W, Grew w W → ArCells W (ad.add (j * 7)) e
theorem RowAt.ars {w : World} {v : Value} {l : List Ar} (h : RowAt arE w v l) : ∃ a c, v = .slice a l.length c ∧ ArRows w a l := by
  obtain ⟨a, c, h1, h2⟩ := h.rows
  refine ⟨a, c, h1, fun j x hj => ?_⟩
  obtain ⟨ad, h3, h4⟩ := h2 j x hj
  exact ⟨ad, h3, fun W hW => ⟨h4 W hW 0 _ rfl, h4 W hW 1 _ rfl, h4 W hW 2 _ rfl, h4 W hW 3 _ rfl, h4 W hW 4 _ rfl, h4 W hW 5 _ rfl, h4 W hW 6 _ rfl⟩⟩

def onv (x : On) : List Value := [.bool x.is, .bool x.rd, .bool x.wr, .bool x.sh, .int .i64 x.file, .int .i64 x.page]

/-- 64 of something, by number. -/
def tab {α : Type} (f : Nat → α) : List α := (List.range 64).map f
theorem tab_len {α : Type} (f : Nat → α) : (tab f).length = 64 := by simp [tab]
theorem tab_at {α : Type} {f : Nat → α} {k : Nat} (h : k < 64) : (tab f)[k]? = some (f k) := by
  unfold tab
  rw [List.getElem?_map, List.getElem?_range h]
  rfl
theorem tab_ext {α : Type} {f g : Nat → α} (h : ∀ k, k < 64 → f k = g k) : tab f = tab g := by
  unfold tab
  exact List.map_congr_left fun k hk => h k (List.mem_range.1 hk)
def upd {α : Type} (f : Nat → α) (k : Nat) (x : α) : Nat → α := fun j => if j = k then x else f j
theorem tab_set {α : Type} (f : Nat → α) (k : Nat) (x : α) : (tab f).set k x = tab (upd f k x) := by
  apply List.ext_getElem?
  intro j
  by_cases hj : j < 64
  · rw [tab_at hj]
    unfold upd
    by_cases e : j = k
    · subst e
      rw [List.getElem?_set_self (by rw [tab_len]; exact hj), if_pos rfl]
    · rw [List.getElem?_set_ne (fun h => e h.symm), tab_at hj, if_neg e]
  · rw [List.getElem?_eq_none (by simp [tab]; omega), List.getElem?_eq_none (by simp [tab]; omega)]

/-- Cells of a list. -/
def cellsA (l : List Ar) : List Value := l.flatMap arv
def cellsO (l : List On) : List Value := l.flatMap onv
theorem cellsA_len (l : List Ar) : (cellsA l).length = l.length * 7 := flatMap_len l (fun _ _ => rfl)
theorem cellsO_len (l : List On) : (cellsO l).length = l.length * 6 := flatMap_len l (fun _ _ => rfl)
theorem cellsA_one (l : List Ar) : ∀ v ∈ cellsA l, v.oneCell' = true := flatMap_one arE.one l
theorem onv_one (x : On) : ∀ u ∈ onv x, u.oneCell' = true := fun u hu => by
  simp only [onv, List.mem_cons, List.not_mem_nil, or_false] at hu
  rcases hu with rfl | rfl | rfl | rfl | rfl | rfl <;> rfl
theorem cellsO_one (l : List On) : ∀ v ∈ cellsO l, v.oneCell' = true := flatMap_one onv_one l

theorem Box.range {w : World} {b : Nat} {cs : List Value} (h : Box w b cs) : w.rangeAt b 0 cs := fun j v hj => by
  rw [Nat.zero_add]
  exact h.c j hj
theorem Box.there {w : World} {b : Nat} {cs : List Value} (h : Box w b cs) : w.there b 0 cs.length := fun j hj => by
  rw [Nat.zero_add]
  exact ⟨by rw [h.c j (List.getElem?_eq_getElem hj)]; rfl, h.f j⟩

/-- Cells of a block stored over, from o on. -/
theorem Box.part {w : World} {b : Nat} : ∀ {ds cs : List Value} {o : Nat}, Box w b cs → o + ds.length ≤ cs.length → Box (w.setCells b o ds) b (splice cs o ds) := by
  have key : ∀ (ds cs : List Value) (o : Nat) (w : World), Box w b cs → o + ds.length ≤ cs.length → Box (w.setCells b o ds) b (splice cs o ds) := fun ds => by
    induction ds with
    | nil =>
      intro cs o w h hl
      have : splice cs o [] = cs := by simp [splice]
      rw [this]
      exact h
    | cons d ds ih =>
      intro cs o w h hl
      simp only [List.length_cons] at hl
      have h1 := h.set o d
      have h2 := ih (cs.set o d) (o + 1) (w.setCell ⟨b, o, none⟩ d) h1 (by simp; omega)
      have h3 : splice (cs.set o d) (o + 1) ds = splice cs o (d :: ds) := by
        unfold splice
        rw [List.take_set, List.drop_set, if_pos (by omega), List.take_add_one, List.getElem?_eq_getElem (by omega)]
        simp only [List.length_cons, Option.toList_some]
        rw [List.set_append_right _ _ (by simp; omega), show o + 1 + ds.length = o + (ds.length + 1) by omega]
        simp [List.length_take, Nat.min_eq_left (show o ≤ cs.length by omega)]
      rw [h3] at h2
      exact h2
  exact fun {ds cs o} h hl => key ds cs o w h hl

theorem grown_trans {a b c : World} {row : Option Nat} (h : a.grownBy b row) (k : b.grownBy c row) : a.grownBy c row :=
  ⟨k.os.trans h.os, k.tape.trans h.tape, k.output.trans h.output, Nat.le_trans h.size k.size, fun i hi hr => (k.block i (Nat.lt_of_lt_of_le hi h.size) hr).trans (h.block i hi hr)⟩
theorem setCells_grown (b : Nat) : ∀ (ds : List Value) (o : Nat) (w : World), w.grownBy (w.setCells b o ds) (some b) ∧ (w.setCells b o ds).heap.size = w.heap.size
  | [], _, w => ⟨World.grownBy.rfl' _ _, rfl⟩
  | d :: ds, o, w => by
    obtain ⟨h1, h2⟩ := setCells_grown b ds (o + 1) (w.setCell ⟨b, o, none⟩ d)
    have h3 : w.grownBy (w.setCell ⟨b, o, none⟩ d) (some b) := ⟨rfl, rfl, rfl, by simp [World.setCell], fun k _ hk => Below.heap_setCell _ _ _ _ (fun e => hk (by rw [e]))⟩
    exact ⟨grown_trans h3 h1, h2.trans (by simp [World.setCell])⟩
/-- A whole value out of its block, and into it; one element of an array in its block. -/
theorem wp_loadAll {ops : Array Oper} {rest : List Oper} {o : Oper} {a : Act} {w : World} {Q : Exit → Act → World → Prop} (hgd : o.guard = none) (ty : TypeId) (x : Operand) (ho : o.op = .load ty x) (b : Nat) (hx : a.eval x = .pointer (some ⟨b, 0, none⟩)) {vs : List Value} (hb : Box w b vs) {d : TypeDesc} (hu : Try.prog.underlying ty = some d) (hd : d.isRow = true) (hi : (Try.prog.info? ty).map (·.size) = some vs.length)
    (h : wpList Try.prog ops Q rest (a.put o.dst (.agg vs.toArray)) w) : wpList Try.prog ops Q (o :: rest) a w :=
  wpList_load_mid hgd ty x ho b 0 hx vs _ hb.range hu hd hi h
theorem splice_all {cs vs : List Value} (h : vs.length = cs.length) : splice cs 0 vs = vs := by
  unfold splice
  rw [List.take_zero, List.nil_append, Nat.zero_add, List.drop_of_length_le (by omega), List.append_nil]
theorem wp_storeAll {ops : Array Oper} {rest : List Oper} {o : Oper} {a : Act} {w : World} {Q : Exit → Act → World → Prop} (hgd : o.guard = none) (ty : TypeId) (p x : Operand) (ho : o.op = .store ty p x) (b : Nat) (hp : a.eval p = .pointer (some ⟨b, 0, none⟩)) (vs : List Value) (hx : a.eval x = .agg vs.toArray)
    {cs : List Value} (hb : Box w b cs) (hl : vs.length = cs.length) (hi : (Try.prog.info? ty).map (·.size) = some cs.length) (h1 : ∀ v ∈ vs, v.oneCell' = true)
    (h : ∀ w', Box w' b vs → w.grownBy w' (some b) → w'.heap.size = w.heap.size → wpList Try.prog ops Q rest (a.put o.dst undef) w') : wpList Try.prog ops Q (o :: rest) a w := by
  refine wpList_store_mid hgd ty p x ho b 0 vs.toArray hp hx ?_ ?_ (all_oneCell_toArray h1) ?_
  · simpa [hl] using hb.there
  · simpa [hl] using hi
  · have := hb.part (ds := vs) (o := 0) (by omega)
    rw [splice_all hl] at this
    exact h _ this (setCells_grown b vs 0 w).1 (setCells_grown b vs 0 w).2
/-- A store of cells at o, into a block. -/
theorem wp_storeMid {ops : Array Oper} {rest : List Oper} {op : Oper} {a : Act} {w : World} {Q : Exit → Act → World → Prop} (hgd : op.guard = none) (ty : TypeId) (p x : Operand) (ho : op.op = .store ty p x) (b o : Nat) (hp : a.eval p = .pointer (some ⟨b, o, none⟩)) (vs : List Value) (hx : a.eval x = .agg vs.toArray)
    {cs : List Value} (hb : Box w b cs) (hl : o + vs.length ≤ cs.length) (hi : (Try.prog.info? ty).map (·.size) = some vs.length) (h1 : ∀ v ∈ vs, v.oneCell' = true)
    (h : ∀ w', Box w' b (splice cs o vs) → w.grownBy w' (some b) → w'.heap.size = w.heap.size → wpList Try.prog ops Q rest (a.put op.dst undef) w') : wpList Try.prog ops Q (op :: rest) a w := by
  refine wpList_store_mid hgd ty p x ho b o vs.toArray hp hx ?_ ?_ (all_oneCell_toArray h1) ?_
  · intro j hj
    have := hb.there (o + j) (by simp at hj; omega)
    rw [Nat.zero_add] at this
    exact this
  · simpa using hi
  · exact h _ (hb.part hl) (setCells_grown b vs o w).1 (setCells_grown b vs o w).2
theorem Box.mid {w : World} {b : Nat} {cs vs : List Value} (h : Box w b cs) (o : Nat) (hv : ∀ (j : Nat) v, vs[j]? = some v → cs[o + j]? = some v) : w.rangeAt b o vs := fun j v hj => h.c _ (hv j v hj)

theorem ret_cell {fn : Func} {p : Tmp} {ty : TypeId} (h : fn.results = #[.cell p ty]) (tmps : Array Value) {w : World} {b : Nat} (hp : tmps.getD p undef = .pointer (some ⟨b, 0, none⟩)) {vs : List Value} (hb : Box w b vs) {d : TypeDesc} (hu : Try.prog.underlying ty = some d) (hd : d.isRow = true) (hi : (Try.prog.info? ty).map (·.size) = some vs.length) :
    (results fn tmps).run Try.prog w = .ok (.agg vs.toArray) w := by
  have hp' : tmps[p]?.getD undef = .pointer (some ⟨b, 0, none⟩) := by simpa using hp
  have hld := run_loadVar_mid (P := Try.prog) w b 0 ty vs d hb.range hu hd hi
  simp [results, h, hp', asAddr, hld]

end Go.Proofs.Ytlkgmjdhggfimad
