/- Rows of elements of whatever kind: what a slice leads to, what is the call's own, what stores and appends do to it. No condition: laws of the model. -/
import Derived.Test.YtlkgmjdhggfimadRow
namespace Go.Proofs.Ytlkgmjdhggfimad
open Go.RowKit

/-- A kind of elements: their cells, their type, the type of their slices. -/
structure Elt (α : Type) where
  enc : α → List Value
  k : Nat
  ty : TypeId
  st : TypeId
  bytes : Nat
  zv : Value
  zero : α
  len : ∀ a, (enc a).length = k
  one : ∀ a, ∀ u ∈ enc a, u.oneCell' = true
  und : Try.prog.underlying st = some (.slice ty)
  info : (Try.prog.info? ty).map (fun i => (i.zero, i.size, i.bytes)) = some (some zv, k, bytes)
  zok : zv.cells = (enc zero).toArray
  few : k ≤ bytes
  pos : 0 < k

section
variable {α : Type} {E : Elt α}

def RowAt (E : Elt α) (w : World) (v : Value) (l : List α) : Prop := SliceAt E.enc w v l ∧ l.length * E.bytes ≤ 140737488355328
def OwnRow (E : Elt α) (base : Nat) (w : World) (v : Value) (l : List α) : Prop := w.ownsRow base E.ty E.k v l.length (l.flatMap E.enc) ∧ l.length * E.bytes ≤ 140737488355328
def RowsAt (E : Elt α) (w : World) (a : Option Addr) (l : List α) : Prop := ∀ (j : Nat) x, l[j]? = some x → ∃ ad, a = some ad ∧ ∀ W, Grew w W → Cells W (ad.add (j * E.k)) (E.enc x)

theorem zsize (E : Elt α) : E.zv.cells.size = E.k := by rw [E.zok]; simp [E.len]

theorem row_len (E : Elt α) (l : List α) : (l.flatMap E.enc).length = l.length * E.k := flatMap_len l fun a _ => E.len a

theorem RowAt.grew {w w' : World} {v : Value} {l : List α} (h : RowAt E w v l) (hg : Grew w w') : RowAt E w' v l := ⟨h.1.grew hg, h.2⟩
theorem RowAt.rows {w : World} {v : Value} {l : List α} (h : RowAt E w v l) : ∃ a c, v = .slice a l.length c ∧ RowsAt E w a l := by
  obtain ⟨⟨a, c, h1, h2, h3⟩, _⟩ := h
  refine ⟨a, c, h1, fun j q hj => ?_⟩
  cases a with
  | none => rw [h2 rfl] at hj; simp at hj
  | some x => exact ⟨x, rfl, fun W hW => ((h3 x rfl).grew hW).elem (k := E.k) (fun b _ => E.len b) hj⟩
theorem RowAt.short {w : World} {v : Value} {l : List α} (h : RowAt E w v l) : l.length ≤ 9223372036854775807 := by
  have h1 := h.2
  have h2 : l.length * 1 ≤ l.length * E.bytes := Nat.mul_le_mul_left _ (Nat.le_trans E.pos E.few)
  omega
theorem RowAt.setCell {base : Nat} {w : World} {v : Value} {l : List α} (h : RowAt E w v l) (hf : fresh base v) {a : Addr} (ha : a.block < base) (u : Value) : RowAt E (w.setCell a u) v l := ⟨h.1.setCell hf ha u, h.2⟩
theorem RowAt.nil (E : Elt α) (w : World) : RowAt E w (.slice none 0 0) ([] : List α) := ⟨⟨none, 0, rfl, fun _ => rfl, fun x hx => by cases hx⟩, by simp⟩

theorem OwnRow.at {base : Nat} {w : World} {v : Value} {l : List α} (h : OwnRow E base w v l) : RowAt E w v l := ⟨sliceAt_of_owns h.1, h.2⟩
theorem OwnRow.grew {base : Nat} {w w' : World} {v : Value} {l : List α} (h : OwnRow E base w v l) (hg : Grew w w') : OwnRow E base w' v l := ⟨ownsRow_grew h.1 hg, h.2⟩
theorem OwnRow.base {base base' : Nat} {w : World} {v : Value} {l : List α} (h : OwnRow E base w v l) (hb : base' ≤ base) : OwnRow E base' w v l := ⟨ownsRow_base h.1 hb, h.2⟩
theorem OwnRow.setCell {base : Nat} {w : World} {v : Value} {l : List α} (h : OwnRow E base w v l) {a : Addr} (ha : a.block < base) (u : Value) : OwnRow E base (w.setCell a u) v l := ⟨ownsRow_setCell_below h.1 ha u, h.2⟩
theorem OwnRow.setOther {base : Nat} {w : World} {v : Value} {l : List α} (h : OwnRow E base w v l) {a : Addr} (ha : ∀ g, v.ownBlock = some g → a.block ≠ g) (u : Value) : OwnRow E base (w.setCell a u) v l := ⟨ownsRow_setOther h.1 ha u, h.2⟩
theorem OwnRow.lt {base : Nat} {w : World} {v : Value} {l : List α} (h : OwnRow E base w v l) : ∀ g, v.ownBlock = some g → base ≤ g ∧ g < w.heap.size := h.1.lt
theorem OwnRow.form {base : Nat} {w : World} {v : Value} {l : List α} (h : OwnRow E base w v l) : ∃ a c, v = .slice a l.length c := by
  obtain ⟨a, c, h1, _⟩ := h.at.rows
  exact ⟨a, c, h1⟩
theorem OwnRow.formS {base : Nat} {w : World} {v : Value} {l : List α} (h : OwnRow E base w v l) (hl : 0 < l.length) : ∃ g c, v = .slice (some ⟨g, 0, none⟩) l.length c := by
  rcases h.1.2 with ⟨rfl, h0⟩ | ⟨g, cap, cur, h0, _⟩
  · omega
  · exact ⟨g, cap, h0⟩
theorem OwnRow.fresh {base : Nat} {w : World} {v : Value} {l : List α} (h : OwnRow E base w v l) : fresh base v := fun x n c e => by
  rcases h.1.2 with ⟨h0, _⟩ | ⟨g, cap, cur, h0, h1, _⟩
  · rw [h0] at e; cases e
  · rw [h0] at e; cases e; exact h1
theorem OwnRow.nil (E : Elt α) (base : Nat) (w : World) : OwnRow E base w (.slice none 0 0) ([] : List α) := ⟨World.ownsRow_nil _ _ _ _, by simp⟩
theorem OwnRow.made (E : Elt α) (w : World) : OwnRow E w.heap.size (w.alloc (.cells #[] E.ty)) (.slice (some ⟨w.heap.size, 0, none⟩) 0 0) ([] : List α) := ⟨World.ownsRow_made w #[] 0 (Nat.le_refl _) (Nat.zero_le _) (by simp), by simp⟩
theorem OwnRow.ne {base : Nat} {w : World} {v : Value} {l : List α} (h : OwnRow E base w v l) {b : Nat} {t : TypeId} {cs : List Value} (hb : BoxT w b t cs) (ht : t ≠ E.ty) : ∀ g, v.ownBlock = some g → b ≠ g := fun g hg e => by
  subst e
  rcases h.1.2 with ⟨rfl, _⟩ | ⟨g', cap, cur, rfl, _, h3, _⟩
  · cases hg
  · simp only [Value.ownBlock, Option.some.injEq] at hg
    subst hg
    rw [hb] at h3
    cases h3
    exact ht rfl
theorem OwnRow.grown {base : Nat} {w w' : World} {row : Option Nat} {v : Value} {l : List α} (h : OwnRow E base w v l) (hg : w.grownBy w' row) (hne : ∀ g, v.ownBlock = some g → row ≠ some g) : OwnRow E base w' v l := by
  refine ⟨⟨h.1.1, ?_⟩, h.2⟩
  rcases h.1.2 with h1 | ⟨g, cap, cur, rfl, h2, h3, h4⟩
  · exact .inl h1
  · exact .inr ⟨g, cap, cur, rfl, h2, by rw [hg.block g (Array.getElem?_eq_some_iff.1 h3).1 (fun e => hne g rfl e.symm)]; exact h3, h4⟩

/-- A row in memory from base on. -/
def NewRow (E : Elt α) (base : Nat) (w : World) (v : Value) (l : List α) : Prop := RowAt E w v l ∧ fresh base v
theorem NewRow.grew {base : Nat} {w w' : World} {v : Value} {l : List α} (h : NewRow E base w v l) (hg : Grew w w') : NewRow E base w' v l := ⟨h.1.grew hg, h.2⟩
theorem NewRow.base {base base' : Nat} {w : World} {v : Value} {l : List α} (h : NewRow E base w v l) (hb : base' ≤ base) : NewRow E base' w v l := ⟨h.1, fun x n c e => Nat.le_trans hb (h.2 x n c e)⟩
theorem NewRow.setCell {base : Nat} {w : World} {v : Value} {l : List α} (h : NewRow E base w v l) {a : Addr} (ha : a.block < base) (u : Value) : NewRow E base (w.setCell a u) v l := ⟨h.1.setCell h.2 ha u, h.2⟩
theorem NewRow.nil (E : Elt α) (base : Nat) (w : World) : NewRow E base w (.slice none 0 0) ([] : List α) := ⟨RowAt.nil E w, fresh_nil _⟩
theorem OwnRow.new {base : Nat} {w : World} {v : Value} {l : List α} (h : OwnRow E base w v l) : NewRow E base w v l := ⟨h.at, h.fresh⟩

/-- append onto a row of the call's own, of whatever came in. -/
theorem run_append_none {w : World} {base : Nat} {v : Value} {l : List α} (ty : TypeId) (hown : OwnRow E base w v l) (c : Nat) : (Builtin.append_ #[E.st, E.st] ty #[v, .slice none 0 c]).run Try.prog w = .ok v w := by
  obtain ⟨i0, hi, _, hz1, _⟩ := info_parts E.info
  rcases hown.1.2 with ⟨rfl, _⟩ | ⟨g, cap, cur, rfl, _, _, hnc, _⟩
  · simp [Builtin.append_, run_underlying E.und, sizeOf, typeInfo, hi, Builtin.lenOf, Builtin.firstCells]
  · simp [Builtin.append_, run_underlying E.und, sizeOf, typeInfo, hi, Builtin.lenOf, Builtin.firstCells, hnc, storeCells]

theorem wpList_append_row {w : World} {ops : Array Oper} {rest : List Oper} {o : Oper} {a : Act} {Q : Exit → Act → World → Prop} (hgd : o.guard = none) (s x : Operand) (ho : o.op = .call { callee := .builtin .append, args := #[s, x], argTypes := #[E.st, E.st] })
    (base : Nat) (vs : Value) (l0 : List α) (hs : a.eval s = vs) (hown : OwnRow E base w vs l0) (vx : Value) (l : List α) (hx : a.eval x = vx) (hv : RowAt E w vx l) (hb : (l0.length + l.length) * E.bytes ≤ 140737488355328) (hbase : base ≤ w.heap.size)
    (h : ∀ v' w', OwnRow E base w' v' (l0 ++ l) → w.grownBy w' vs.ownBlock → wpList Try.prog ops Q rest (a.put o.dst v') w') : wpList Try.prog ops Q (o :: rest) a w := by
  obtain ⟨⟨ax, c, rfl, hnone, hcells⟩, _⟩ := hv
  cases ax with
  | none =>
    have hps := hnone rfl
    subst hps
    refine wpList_plain hgd fun K hK => ?_
    have hrun := run_append_none o.type hown c
    unfold Oper.wp execOp
    simp only [ho, resolve, invoke, builtin, Sem.run_bind, Sem.run_pure, Result.andThen_ok, List.map_toArray, List.map_cons, List.map_nil, hs, hx, List.length_nil, hrun]
    exact hK _ _ (h vs w (by rw [List.append_nil]; exact hown) (World.grownBy.rfl' _ _))
  | some ad =>
    obtain ⟨i0, hi, hz0, hz1, hz2⟩ := info_parts E.info
    have h2 : (l0.length + l.length) * 1 ≤ (l0.length + l.length) * E.bytes := Nat.mul_le_mul_left _ (Nat.le_trans E.pos E.few)
    refine wpList_append_own w hgd s x E.st ho base E.ty i0 _ E.k E.bytes E.und hi hz0 hz1 hz2 (zsize E) E.pos vs l0.length _ hs hown.1 ad l.length c (l.flatMap E.enc) hx (row_len E l) (hcells ad rfl) (flatMap_one E.one l) (maxLen_of (by omega)) hb hbase fun v' w' h1 h2 _ => ?_
    exact h v' w' ⟨by rw [List.length_append, List.flatMap_append]; exact h1, by rw [List.length_append]; exact hb⟩ h2

/-- A part of an element, stored over. -/
theorem splice_part {x y : α} (j : Nat) (cs : List Value) (hy : E.enc y = splice (E.enc x) j cs) (hj : j + cs.length ≤ E.k) : ∀ (l : List α) (i : Nat), l[i]? = some x → splice (l.flatMap E.enc) (i * E.k + j) cs = (l.set i y).flatMap E.enc
  | [], i, hi => by simp at hi
  | a :: l, 0, hi => by
    simp at hi
    subst hi
    have ha := E.len a
    simp only [splice, List.flatMap_cons, Nat.zero_mul, Nat.zero_add, List.set_cons_zero] at hy ⊢
    rw [hy, List.take_append_of_le_length (by omega), List.drop_append_of_le_length (by omega)]
    simp
  | a :: l, i + 1, hi => by
    have ha := E.len a
    have ih := splice_part j cs hy hj l i (by simpa using hi)
    simp only [splice, List.flatMap_cons, List.set_cons_succ] at ih ⊢
    rw [← ih, Nat.succ_mul, Nat.add_comm (i * E.k) E.k, Nat.add_assoc, ← ha, List.take_length_add_append, Nat.add_assoc, List.drop_length_add_append, List.append_assoc]

/-- A store of a part of an element into a row of the call's own (cs: the cells that are stored). -/
theorem wpList_store_part {w : World} {ops : Array Oper} {rest : List Oper} {o : Oper} {a : Act} {Q : Exit → Act → World → Prop} (hgd : o.guard = none) (p x : Operand) (t : TypeId) (ho : o.op = .store t p x) (base : Nat) (v : Value) (l : List α) (hown : OwnRow E base w v l)
    (g i j : Nat) (hg : v.ownBlock = some g) (e y : α) (hi : l[i]? = some e) (cs : List Value) (hk : (Try.prog.info? t).map (·.size) = some cs.length) (hy : E.enc y = splice (E.enc e) j cs) (hj : j + cs.length ≤ E.k) (h1 : ∀ u ∈ cs, u.oneCell' = true)
    (ad : Addr) (hp : a.eval p = .pointer (some ad)) (had : ad = ⟨g, i * E.k + j, none⟩) (vx : Value) (hx : a.eval x = vx) (hvx : vx.cells = cs.toArray)
    (h : ∀ w', OwnRow E base w' v (l.set i y) → w.grownBy w' (some g) → w'.heap.size = w.heap.size → wpList Try.prog ops Q rest (a.put o.dst undef) w') : wpList Try.prog ops Q (o :: rest) a w := by
  subst had
  refine wpList_plain hgd fun K hK => ?_
  have hil : i < l.length := (List.getElem?_eq_some_iff.1 hi).1
  have hfit : i * E.k + j + cs.length ≤ l.length * E.k := by
    have : (i + 1) * E.k ≤ l.length * E.k := Nat.mul_le_mul_right _ hil
    rw [Nat.add_mul] at this
    omega
  obtain ⟨w', hr, h2, h3, h4⟩ := run_storeCells_row (P := Try.prog) hown.1 hg (i * E.k + j) cs hfit h1
  have hsz : (Go.sizeOf t).run Try.prog w = .ok cs.length w := by
    cases hq : Try.prog.info? t with
    | none => simp [hq] at hk
    | some i => simp [hq] at hk; simp [Go.sizeOf, typeInfo, hq, hk]
  have hall : (Instr.storeAt t (.pointer (some ⟨g, i * E.k + j, none⟩)) vx).run Try.prog w = .ok () w' := by
    simp [Instr.storeAt, Instr.sureAddr, storeVar, Sem.run_bind, hsz, Result.andThen, hvx, hr]
  unfold Oper.wp
  simp only [execOp, ho, hp, hx, Sem.run_bind, hall, Result.andThen, Sem.run_pure, Oper.upon]
  rw [splice_part j cs hy hj l i hi] at h2
  exact hK _ _ (h w' ⟨by rw [List.length_set]; exact h2, by rw [List.length_set]; exact hown.2⟩ h3 h4)

/-- A store of a whole element. -/
theorem wpList_store_elt {w : World} {ops : Array Oper} {rest : List Oper} {o : Oper} {a : Act} {Q : Exit → Act → World → Prop} (hgd : o.guard = none) (p x : Operand) (ho : o.op = .store E.ty p x) (base : Nat) (v : Value) (l : List α) (hown : OwnRow E base w v l)
    (g i : Nat) (hg : v.ownBlock = some g) (y : α) (hi : i < l.length) (ad : Addr) (hp : a.eval p = .pointer (some ad)) (had : ad = ⟨g, i * E.k, none⟩) (vx : Value) (hx : a.eval x = vx) (hvx : vx.cells = (E.enc y).toArray)
    (h : ∀ w', OwnRow E base w' v (l.set i y) → w.grownBy w' (some g) → w'.heap.size = w.heap.size → wpList Try.prog ops Q rest (a.put o.dst undef) w') : wpList Try.prog ops Q (o :: rest) a w := by
  obtain ⟨i0, hi0, _, hz1, _⟩ := info_parts E.info
  refine wpList_store_part hgd p x E.ty ho base v l hown g i 0 hg (l[i]) y (List.getElem?_eq_getElem hi) (E.enc y) (by rw [hi0]; simp [hz1, E.len]) ?_ (by rw [E.len]; omega) (E.one y) ad hp (by rw [had]; rfl) vx hx hvx h
  unfold splice
  rw [List.take_zero, List.nil_append, Nat.zero_add, List.drop_of_length_le (by rw [E.len, E.len]; exact Nat.le_refl _), List.append_nil]

theorem made_row (E : Elt α) (n : Nat) : (madeCells E.zv.cells (n * E.k)).toList = (List.replicate n E.zero).flatMap E.enc := by
  have hl : ((List.replicate n E.zero).flatMap E.enc).length = n * E.k := by rw [row_len E]; simp
  have hp : 0 < E.k := E.pos
  apply List.ext_getElem?
  intro j
  rcases Nat.lt_or_ge j (n * E.k) with h | h
  · have hj : j = j / E.k * E.k + j % E.k := by rw [Nat.mul_comm]; exact (Nat.div_add_mod _ _).symm
    have h8 : j % E.k < E.k := Nat.mod_lt _ hp
    have hq : j / E.k < n := (Nat.div_lt_iff_lt_mul hp).2 h
    have hz : (E.enc E.zero)[j % E.k]? = some ((E.enc E.zero)[j % E.k]'(by rw [E.len]; exact h8)) := List.getElem?_eq_getElem _
    have h1 := flatMap_elem (enc := E.enc) (k := E.k) (List.replicate n E.zero) (j / E.k) E.zero (fun a _ => E.len a) (by simp [hq]) (j % E.k) _ hz
    rw [← hj] at h1
    rw [h1]
    simp [madeCells, h, E.zok, E.len, h8]
  · rw [List.getElem?_eq_none (by simp [madeCells]; exact h), List.getElem?_eq_none (by rw [hl]; exact h)]

theorem wpList_make_row (E : Elt α) {w : World} {ops : Array Oper} {rest : List Oper} {o : Oper} {a : Act} {Q : Exit → Act → World → Prop} (hgd : o.guard = none) (l : Operand) (ho : o.op = .makeSlice E.st l l) (n : Nat) (hl : a.eval l = .int .i64 n) (hn : n * E.bytes ≤ 140737488355328)
    (h : ∀ C, OwnRow E w.heap.size (w.alloc (.cells C E.ty)) (.slice (some ⟨w.heap.size, 0, none⟩) n n) (List.replicate n E.zero) → wpList Try.prog ops Q rest (a.put o.dst (.slice (some ⟨w.heap.size, 0, none⟩) n n)) (w.alloc (.cells C E.ty))) : wpList Try.prog ops Q (o :: rest) a w := by
  refine wpList_plain hgd fun K hK => ?_
  obtain ⟨i0, hi, hz0, hz1, hz2⟩ := info_parts E.info
  have h2 : n * 1 ≤ n * E.bytes := Nat.mul_le_mul_left _ (Nat.le_trans E.pos E.few)
  have hb : ((E.bytes : Int) * (n : Int)) ≤ 140737488355328 := by
    obtain ⟨B, hB⟩ : ∃ B, n * E.bytes = B := ⟨_, rfl⟩
    rw [hB] at hn
    rw [← Int.natCast_mul, Nat.mul_comm, hB]
    omega
  have hrun := run_make (P := Try.prog) w E.st E.ty i0 _ E.und hi hz0 .i64 .i64 n n (by omega) (Int.le_refl _) (by rw [hz2]; exact Int.le_trans hb (by omega)) (by omega)
  rw [hz1, Int.toNat_natCast] at hrun
  unfold Oper.wp
  simp only [execOp, ho, hl, Sem.run_bind, hrun, Result.andThen, Sem.run_pure, Oper.upon]
  refine hK _ _ (h _ ⟨⟨?_, .inr ⟨w.heap.size, n, madeCells E.zv.cells (n * E.k), by rw [List.length_replicate], Nat.le_refl _, ?_, ?_, ?_, ?_, ?_⟩⟩, by rw [List.length_replicate]; exact hn⟩)
  · rw [row_len E]
  · show (w.heap.push _)[w.heap.size]? = _
    simp
  · rw [List.length_replicate]; exact Nat.le_refl _
  · exact maxLen_of (by omega)
  · rw [size_madeCells]
  · rw [List.length_replicate, List.take_of_length_le (by simp [madeCells]), made_row E]

end

end Go.Proofs.Ytlkgmjdhggfimad
