/- Rows of frames: what a slice leads to, what is the call's own, what stores and appends do to it. No condition: laws of the model. -/
import Derived.Test.YtbcaagmnmaonbabFrData
namespace Go.Proofs.Ytbcaagmnmaonbab
open Go.RowKit

def RowAt (w : World) (v : Value) (l : List Fr) : Prop := SliceAt frv w v l ∧ l.length * 40 ≤ 140737488355328
def OwnRow (base : Nat) (w : World) (v : Value) (l : List Fr) : Prop := w.ownsRow base 47 13 v l.length (l.flatMap frv) ∧ l.length * 40 ≤ 140737488355328
def RowsAt (w : World) (a : Option Addr) (l : List Fr) : Prop := ∀ (j : Nat) x, l[j]? = some x → ∃ ad, a = some ad ∧ ∀ W, Grew w W → Cells W (ad.add (j * 13)) (frv x)

theorem zsize : frz.cells.size = 13 := by rw [frz_ok]; simp [frv_len]

theorem row_len (l : List Fr) : (l.flatMap frv).length = l.length * 13 := flatMap_len l fun a _ => frv_len a

theorem RowAt.grew {w w' : World} {v : Value} {l : List Fr} (h : RowAt w v l) (hg : Grew w w') : RowAt w' v l := ⟨h.1.grew hg, h.2⟩
theorem RowAt.rows {w : World} {v : Value} {l : List Fr} (h : RowAt w v l) : ∃ a c, v = .slice a l.length c ∧ RowsAt w a l := by
  obtain ⟨⟨a, c, h1, h2, h3⟩, _⟩ := h
  refine ⟨a, c, h1, fun j q hj => ?_⟩
  cases a with
  | none => rw [h2 rfl] at hj; simp at hj
  | some x => exact ⟨x, rfl, fun W hW => ((h3 x rfl).grew hW).elem (k := 13) (fun b _ => frv_len b) hj⟩
theorem RowAt.short {w : World} {v : Value} {l : List Fr} (h : RowAt w v l) : l.length ≤ 9223372036854775807 := by
  have h1 := h.2
  have h2 : l.length * 1 ≤ l.length * 40 := Nat.mul_le_mul_left _ (Nat.le_trans frv_pos frv_few)
  omega
theorem RowAt.setCell {base : Nat} {w : World} {v : Value} {l : List Fr} (h : RowAt w v l) (hf : fresh base v) {a : Addr} (ha : a.block < base) (u : Value) : RowAt (w.setCell a u) v l := ⟨h.1.setCell hf ha u, h.2⟩
theorem RowAt.nil (w : World) : RowAt w (.slice none 0 0) ([] : List Fr) := ⟨⟨none, 0, rfl, fun _ => rfl, fun x hx => by cases hx⟩, by simp⟩

theorem OwnRow.at {base : Nat} {w : World} {v : Value} {l : List Fr} (h : OwnRow base w v l) : RowAt w v l := ⟨sliceAt_of_owns h.1, h.2⟩
theorem OwnRow.grew {base : Nat} {w w' : World} {v : Value} {l : List Fr} (h : OwnRow base w v l) (hg : Grew w w') : OwnRow base w' v l := ⟨ownsRow_grew h.1 hg, h.2⟩
theorem OwnRow.base {base base' : Nat} {w : World} {v : Value} {l : List Fr} (h : OwnRow base w v l) (hb : base' ≤ base) : OwnRow base' w v l := ⟨ownsRow_base h.1 hb, h.2⟩
theorem OwnRow.setCell {base : Nat} {w : World} {v : Value} {l : List Fr} (h : OwnRow base w v l) {a : Addr} (ha : a.block < base) (u : Value) : OwnRow base (w.setCell a u) v l := ⟨ownsRow_setCell_below h.1 ha u, h.2⟩
theorem OwnRow.setOther {base : Nat} {w : World} {v : Value} {l : List Fr} (h : OwnRow base w v l) {a : Addr} (ha : ∀ g, v.ownBlock = some g → a.block ≠ g) (u : Value) : OwnRow base (w.setCell a u) v l := ⟨ownsRow_setOther h.1 ha u, h.2⟩
theorem OwnRow.lt {base : Nat} {w : World} {v : Value} {l : List Fr} (h : OwnRow base w v l) : ∀ g, v.ownBlock = some g → base ≤ g ∧ g < w.heap.size := h.1.lt
theorem OwnRow.form {base : Nat} {w : World} {v : Value} {l : List Fr} (h : OwnRow base w v l) : ∃ a c, v = .slice a l.length c := by
  obtain ⟨a, c, h1, _⟩ := h.at.rows
  exact ⟨a, c, h1⟩
theorem OwnRow.formS {base : Nat} {w : World} {v : Value} {l : List Fr} (h : OwnRow base w v l) (hl : 0 < l.length) : ∃ g c, v = .slice (some ⟨g, 0, none⟩) l.length c := by
  rcases h.1.2 with ⟨rfl, h0⟩ | ⟨g, cap, cur, h0, _⟩
  · omega
  · exact ⟨g, cap, h0⟩
theorem OwnRow.fresh {base : Nat} {w : World} {v : Value} {l : List Fr} (h : OwnRow base w v l) : fresh base v := fun x n c e => by
  rcases h.1.2 with ⟨h0, _⟩ | ⟨g, cap, cur, h0, h1, _⟩
  · rw [h0] at e; cases e
  · rw [h0] at e; cases e; exact h1
theorem OwnRow.nil (base : Nat) (w : World) : OwnRow base w (.slice none 0 0) ([] : List Fr) := ⟨World.ownsRow_nil _ _ _ _, by simp⟩
theorem OwnRow.made (w : World) : OwnRow w.heap.size (w.alloc (.cells #[] 47)) (.slice (some ⟨w.heap.size, 0, none⟩) 0 0) ([] : List Fr) := ⟨World.ownsRow_made w #[] 0 (Nat.le_refl _) (Nat.zero_le _) (by simp), by simp⟩
theorem OwnRow.ne {base : Nat} {w : World} {v : Value} {l : List Fr} (h : OwnRow base w v l) {b : Nat} {t : TypeId} {cs : List Value} (hb : BoxT w b t cs) (ht : t ≠ 47) : ∀ g, v.ownBlock = some g → b ≠ g := fun g hg e => by
  subst e
  rcases h.1.2 with ⟨rfl, _⟩ | ⟨g', cap, cur, rfl, _, h3, _⟩
  · cases hg
  · simp only [Value.ownBlock, Option.some.injEq] at hg
    subst hg
    rw [hb] at h3
    cases h3
    exact ht rfl
theorem OwnRow.grown {base : Nat} {w w' : World} {row : Option Nat} {v : Value} {l : List Fr} (h : OwnRow base w v l) (hg : w.grownBy w' row) (hne : ∀ g, v.ownBlock = some g → row ≠ some g) : OwnRow base w' v l := by
  refine ⟨⟨h.1.1, ?_⟩, h.2⟩
  rcases h.1.2 with h1 | ⟨g, cap, cur, rfl, h2, h3, h4⟩
  · exact .inl h1
  · exact .inr ⟨g, cap, cur, rfl, h2, by rw [hg.block g (Array.getElem?_eq_some_iff.1 h3).1 (fun e => hne g rfl e.symm)]; exact h3, h4⟩

/-- A row in memory from base on. -/
def NewRow (base : Nat) (w : World) (v : Value) (l : List Fr) : Prop := RowAt w v l ∧ fresh base v
theorem NewRow.grew {base : Nat} {w w' : World} {v : Value} {l : List Fr} (h : NewRow base w v l) (hg : Grew w w') : NewRow base w' v l := ⟨h.1.grew hg, h.2⟩
theorem NewRow.base {base base' : Nat} {w : World} {v : Value} {l : List Fr} (h : NewRow base w v l) (hb : base' ≤ base) : NewRow base' w v l := ⟨h.1, fun x n c e => Nat.le_trans hb (h.2 x n c e)⟩
theorem NewRow.setCell {base : Nat} {w : World} {v : Value} {l : List Fr} (h : NewRow base w v l) {a : Addr} (ha : a.block < base) (u : Value) : NewRow base (w.setCell a u) v l := ⟨h.1.setCell h.2 ha u, h.2⟩
theorem NewRow.nil (base : Nat) (w : World) : NewRow base w (.slice none 0 0) ([] : List Fr) := ⟨RowAt.nil w, fresh_nil _⟩
theorem OwnRow.new {base : Nat} {w : World} {v : Value} {l : List Fr} (h : OwnRow base w v l) : NewRow base w v l := ⟨h.at, h.fresh⟩

/-- append onto a row of the call's own, of whatever came in. -/
theorem run_append_none {w : World} {base : Nat} {v : Value} {l : List Fr} (ty : TypeId) (hown : OwnRow base w v l) (c : Nat) : (Builtin.append_ #[37, 37] ty #[v, .slice none 0 c]).run Try.prog w = .ok v w := by
  obtain ⟨i0, hi, _, hz1, _⟩ := info_parts Try.infoFrame
  rcases hown.1.2 with ⟨rfl, _⟩ | ⟨g, cap, cur, rfl, _, _, hnc, _⟩
  · simp [Builtin.append_, run_underlying Try.underlying37, sizeOf, typeInfo, hi, Builtin.lenOf, Builtin.firstCells]
  · simp [Builtin.append_, run_underlying Try.underlying37, sizeOf, typeInfo, hi, Builtin.lenOf, Builtin.firstCells, hnc, storeCells]

theorem wpList_append_row {w : World} {ops : Array Oper} {rest : List Oper} {o : Oper} {a : Act} {Q : Exit → Act → World → Prop} (hgd : o.guard = none) (s x : Operand) (ho : o.op = .call { callee := .builtin .append, args := #[s, x], argTypes := #[37, 37] })
    (base : Nat) (vs : Value) (l0 : List Fr) (hs : a.eval s = vs) (hown : OwnRow base w vs l0) (vx : Value) (l : List Fr) (hx : a.eval x = vx) (hv : RowAt w vx l) (hb : (l0.length + l.length) * 40 ≤ 140737488355328) (hbase : base ≤ w.heap.size)
    (h : ∀ v' w', OwnRow base w' v' (l0 ++ l) → w.grownBy w' vs.ownBlock → wpList Try.prog ops Q rest (a.put o.dst v') w') : wpList Try.prog ops Q (o :: rest) a w := by
  obtain ⟨⟨ax, c, rfl, hnone, hcells⟩, _⟩ := hv
  cases ax with
  | none =>
    have hps := hnone rfl
    subst hps
    refine wpList_plain hgd fun K hK => ?_
    have hrun := run_append_none o.type hown c
    unfold Oper.wp execOp
    simp only [ho, resolve, invoke, builtin, Sem.run_bind, Sem.run_pure, Result.andThen_ok, List.map_toArray, List.map_cons, List.map_nil, hs, hx, List.length_nil, hrun]
    exact hK _ _ (h vs w (by rw [List.append_nil]; exact hown) (World.grownBy.rfl' _ _))
  | some ad =>
    obtain ⟨i0, hi, hz0, hz1, hz2⟩ := info_parts Try.infoFrame
    have h2 : (l0.length + l.length) * 1 ≤ (l0.length + l.length) * 40 := Nat.mul_le_mul_left _ (Nat.le_trans frv_pos frv_few)
    refine wpList_append_own w hgd s x 37 ho base 47 i0 _ 13 40 Try.underlying37 hi hz0 hz1 hz2 zsize frv_pos vs l0.length _ hs hown.1 ad l.length c (l.flatMap frv) hx (row_len l) (hcells ad rfl) (flatMap_one frv_one l) (maxLen_of (by omega)) hb hbase fun v' w' h1 h2 _ => ?_
    exact h v' w' ⟨by rw [List.length_append, List.flatMap_append]; exact h1, by rw [List.length_append]; exact hb⟩ h2

/-- A part of an element, stored over. -/
theorem splice_part {x y : Fr} (j : Nat) (cs : List Value) (hy : frv y = splice (frv x) j cs) (hj : j + cs.length ≤ 13) : ∀ (l : List Fr) (i : Nat), l[i]? = some x → splice (l.flatMap frv) (i * 13 + j) cs = (l.set i y).flatMap frv
  | [], i, hi => by simp at hi
  | a :: l, 0, hi => by
    simp at hi
    subst hi
    have ha := frv_len a
    simp only [splice, List.flatMap_cons, Nat.zero_mul, Nat.zero_add, List.set_cons_zero] at hy ⊢
    rw [hy, List.take_append_of_le_length (by omega), List.drop_append_of_le_length (by omega)]
    simp
  | a :: l, i + 1, hi => by
    have ha := frv_len a
    have ih := splice_part j cs hy hj l i (by simpa using hi)
    simp only [splice, List.flatMap_cons, List.set_cons_succ] at ih ⊢
    rw [← ih, Nat.succ_mul, Nat.add_comm (i * 13) 13, Nat.add_assoc, ← ha, List.take_length_add_append, Nat.add_assoc, List.drop_length_add_append, List.append_assoc]

/-- A store of a part of an element into a row of the call's own (cs: the cells that are stored). -/
theorem wpList_store_part {w : World} {ops : Array Oper} {rest : List Oper} {o : Oper} {a : Act} {Q : Exit → Act → World → Prop} (hgd : o.guard = none) (p x : Operand) (t : TypeId) (ho : o.op = .store t p x) (base : Nat) (v : Value) (l : List Fr) (hown : OwnRow base w v l)
    (g i j : Nat) (hg : v.ownBlock = some g) (e y : Fr) (hi : l[i]? = some e) (cs : List Value) (hk : (Try.prog.info? t).map (·.size) = some cs.length) (hy : frv y = splice (frv e) j cs) (hj : j + cs.length ≤ 13) (h1 : ∀ u ∈ cs, u.oneCell' = true)
    (ad : Addr) (hp : a.eval p = .pointer (some ad)) (had : ad = ⟨g, i * 13 + j, none⟩) (vx : Value) (hx : a.eval x = vx) (hvx : vx.cells = cs.toArray)
    (h : ∀ w', OwnRow base w' v (l.set i y) → w.grownBy w' (some g) → w'.heap.size = w.heap.size → wpList Try.prog ops Q rest (a.put o.dst undef) w') : wpList Try.prog ops Q (o :: rest) a w := by
  subst had
  refine wpList_plain hgd fun K hK => ?_
  have hil : i < l.length := (List.getElem?_eq_some_iff.1 hi).1
  have hfit : i * 13 + j + cs.length ≤ l.length * 13 := by
    have : (i + 1) * 13 ≤ l.length * 13 := Nat.mul_le_mul_right _ hil
    rw [Nat.add_mul] at this
    omega
  obtain ⟨w', hr, h2, h3, h4⟩ := run_storeCells_row (P := Try.prog) hown.1 hg (i * 13 + j) cs hfit h1
  have hsz : (Go.sizeOf t).run Try.prog w = .ok cs.length w := by
    cases hq : Try.prog.info? t with
    | none => simp [hq] at hk
    | some i => simp [hq] at hk; simp [Go.sizeOf, typeInfo, hq, hk]
  have hall : (Instr.storeAt t (.pointer (some ⟨g, i * 13 + j, none⟩)) vx).run Try.prog w = .ok () w' := by
    simp [Instr.storeAt, Instr.sureAddr, storeVar, Sem.run_bind, hsz, Result.andThen, hvx, hr]
  unfold Oper.wp
  simp only [execOp, ho, hp, hx, Sem.run_bind, hall, Result.andThen, Sem.run_pure, Oper.upon]
  rw [splice_part j cs hy hj l i hi] at h2
  exact hK _ _ (h w' ⟨by rw [List.length_set]; exact h2, by rw [List.length_set]; exact hown.2⟩ h3 h4)

/-- A store of a whole element. -/
theorem wpList_store_elt {w : World} {ops : Array Oper} {rest : List Oper} {o : Oper} {a : Act} {Q : Exit → Act → World → Prop} (hgd : o.guard = none) (p x : Operand) (ho : o.op = .store 47 p x) (base : Nat) (v : Value) (l : List Fr) (hown : OwnRow base w v l)
    (g i : Nat) (hg : v.ownBlock = some g) (y : Fr) (hi : i < l.length) (ad : Addr) (hp : a.eval p = .pointer (some ad)) (had : ad = ⟨g, i * 13, none⟩) (vx : Value) (hx : a.eval x = vx) (hvx : vx.cells = (frv y).toArray)
    (h : ∀ w', OwnRow base w' v (l.set i y) → w.grownBy w' (some g) → w'.heap.size = w.heap.size → wpList Try.prog ops Q rest (a.put o.dst undef) w') : wpList Try.prog ops Q (o :: rest) a w := by
  obtain ⟨i0, hi0, _, hz1, _⟩ := info_parts Try.infoFrame
  refine wpList_store_part hgd p x 47 ho base v l hown g i 0 hg (l[i]) y (List.getElem?_eq_getElem hi) (frv y) (by rw [hi0]; simp [hz1, frv_len]) ?_ (by rw [frv_len]; omega) (frv_one y) ad hp (by rw [had]; rfl) vx hx hvx h
  unfold splice
  rw [List.take_zero, List.nil_append, Nat.zero_add, List.drop_of_length_le (by rw [frv_len, frv_len]; exact Nat.le_refl _), List.append_nil]

theorem made_row (n : Nat) : (madeCells frz.cells (n * 13)).toList = (List.replicate n fr0).flatMap frv := by
  have hl : ((List.replicate n fr0).flatMap frv).length = n * 13 := by rw [row_len]; simp
  have hp : 0 < 13 := frv_pos
  apply List.ext_getElem?
  intro j
  rcases Nat.lt_or_ge j (n * 13) with h | h
  · have hj : j = j / 13 * 13 + j % 13 := by rw [Nat.mul_comm]; exact (Nat.div_add_mod _ _).symm
    have h8 : j % 13 < 13 := Nat.mod_lt _ hp
    have hq : j / 13 < n := (Nat.div_lt_iff_lt_mul hp).2 h
    have hz : (frv fr0)[j % 13]? = some ((frv fr0)[j % 13]'(by rw [frv_len]; exact h8)) := List.getElem?_eq_getElem _
    have h1 := flatMap_elem (enc := frv) (k := 13) (List.replicate n fr0) (j / 13) fr0 (fun a _ => frv_len a) (by simp [hq]) (j % 13) _ hz
    rw [← hj] at h1
    rw [h1]
    simp [madeCells, h, frz_ok, frv_len]
    rw [hz]
    rfl
  · rw [List.getElem?_eq_none (by simp [madeCells]; exact h), List.getElem?_eq_none (by rw [hl]; exact h)]

theorem wpList_make_row {w : World} {ops : Array Oper} {rest : List Oper} {o : Oper} {a : Act} {Q : Exit → Act → World → Prop} (hgd : o.guard = none) (l : Operand) (ho : o.op = .makeSlice 37 l l) (n : Nat) (hl : a.eval l = .int .i64 n) (hn : n * 40 ≤ 140737488355328)
    (h : ∀ C, OwnRow w.heap.size (w.alloc (.cells C 47)) (.slice (some ⟨w.heap.size, 0, none⟩) n n) (List.replicate n fr0) → wpList Try.prog ops Q rest (a.put o.dst (.slice (some ⟨w.heap.size, 0, none⟩) n n)) (w.alloc (.cells C 47))) : wpList Try.prog ops Q (o :: rest) a w := by
  refine wpList_plain hgd fun K hK => ?_
  obtain ⟨i0, hi, hz0, hz1, hz2⟩ := info_parts Try.infoFrame
  have h2 : n * 1 ≤ n * 40 := Nat.mul_le_mul_left _ (Nat.le_trans frv_pos frv_few)
  have hb : ((40 : Nat) : Int) * (n : Int) ≤ 140737488355328 := by omega
  have hrun := run_make (P := Try.prog) w 37 47 i0 _ Try.underlying37 hi hz0 .i64 .i64 n n (by omega) (Int.le_refl _) (by rw [hz2]; exact Int.le_trans hb (by omega)) (by omega)
  rw [hz1, Int.toNat_natCast] at hrun
  unfold Oper.wp
  simp only [execOp, ho, hl, Sem.run_bind, hrun, Result.andThen, Sem.run_pure, Oper.upon]
  refine hK _ _ (h _ ⟨⟨?_, .inr ⟨w.heap.size, n, madeCells frz.cells (n * 13), by rw [List.length_replicate], Nat.le_refl _, ?_, ?_, ?_, ?_, ?_⟩⟩, by rw [List.length_replicate]; exact hn⟩)
  · rw [row_len]
  · show (w.heap.push _)[w.heap.size]? = _
    simp
    rfl
  · rw [List.length_replicate]; exact Nat.le_refl _
  · exact maxLen_of (by omega)
  · rw [size_madeCells]
  · rw [List.length_replicate, List.take_of_length_le (by simp [madeCells]), made_row]

end Go.Proofs.Ytbcaagmnmaonbab
