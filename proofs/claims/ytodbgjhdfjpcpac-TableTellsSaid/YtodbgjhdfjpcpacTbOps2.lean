/- Stores of whole tables, and tables that are handed back. No condition: laws of the model. -/
import Derived.Test.YtodbgjhdfjpcpacTbOps
import Derived.Laws.ResultCell
namespace Go.Proofs.Ytodbgjhdfjpcpac
open Go.RowKit

theorem grown_trans {a b c : World} {row : Option Nat} (h : a.grownBy b row) (k : b.grownBy c row) : a.grownBy c row :=
  ⟨k.os.trans h.os, k.tape.trans h.tape, k.output.trans h.output, Nat.le_trans h.size k.size, fun i hi hr => (k.block i (Nat.lt_of_lt_of_le hi h.size) hr).trans (h.block i hi hr)⟩
theorem grew_by {a b : World} (h : Grew a b) (row : Option Nat) : a.grownBy b row := ⟨Below.os h, Below.tape h, Below.output h, Below.size h, fun i hi _ => Below.block h i hi⟩
theorem setCells_grown (b : Nat) : ∀ (ds : List Value) (o : Nat) (w : World), w.grownBy (w.setCells b o ds) (some b) ∧ (w.setCells b o ds).heap.size = w.heap.size
  | [], _, w => ⟨World.grownBy.rfl' _ _, rfl⟩
  | d :: ds, o, w => by
    obtain ⟨h1, h2⟩ := setCells_grown b ds (o + 1) (w.setCell ⟨b, o, none⟩ d)
    have h3 : w.grownBy (w.setCell ⟨b, o, none⟩ d) (some b) := ⟨rfl, rfl, rfl, by simp [World.setCell], fun k _ hk => Below.heap_setCell _ _ _ _ (fun e => hk (by rw [e]))⟩
    exact ⟨grown_trans h3 h1, h2.trans (by simp [World.setCell])⟩

/-- A whole value into its block. -/
theorem wp_storeAll {ops : Array Oper} {rest : List Oper} {o : Oper} {a : Act} {w : World} {Q : Exit → Act → World → Prop} (hgd : o.guard = none) (ty : TypeId) (p x : Operand) (ho : o.op = .store ty p x) (b : Nat) (hp : a.eval p = .pointer (some ⟨b, 0, none⟩)) (vs : List Value) (hx : a.eval x = .agg vs.toArray)
    {cs : List Value} (hb : Box w b cs) (hl : vs.length = cs.length) (hi : (Try.prog.info? ty).map (·.size) = some cs.length) (h1 : ∀ v ∈ vs, v.oneCell' = true)
    (h : ∀ w', Box w' b vs → w.grownBy w' (some b) → w'.heap.size = w.heap.size → wpList Try.prog ops Q rest (a.put o.dst undef) w') : wpList Try.prog ops Q (o :: rest) a w := by
  refine wpList_store_mid hgd ty p x ho b 0 vs.toArray hp hx ?_ ?_ (all_oneCell_toArray h1) ?_
  · simpa [hl] using hb.there
  · simpa [hl] using hi
  · exact h _ (hb.all vs hl) (setCells_grown b vs 0 w).1 (setCells_grown b vs 0 w).2

theorem wp_loadAll {ops : Array Oper} {rest : List Oper} {o : Oper} {a : Act} {w : World} {Q : Exit → Act → World → Prop} (hgd : o.guard = none) (ty : TypeId) (x : Operand) (ho : o.op = .load ty x) (b : Nat) (hx : a.eval x = .pointer (some ⟨b, 0, none⟩)) {vs : List Value} (hb : Box w b vs) {d : TypeDesc} (hu : Try.prog.underlying ty = some d) (hd : d.isRow = true) (hi : (Try.prog.info? ty).map (·.size) = some vs.length)
    (h : wpList Try.prog ops Q rest (a.put o.dst (.agg vs.toArray)) w) : wpList Try.prog ops Q (o :: rest) a w :=
  wpList_load_mid hgd ty x ho b 0 hx vs _ hb.range hu hd hi h

theorem ret_cell {fn : Func} {p : Tmp} {ty : TypeId} (h : fn.results = #[.cell p ty]) (tmps : Array Value) {w : World} {b : Nat} (hp : tmps.getD p undef = .pointer (some ⟨b, 0, none⟩)) {vs : List Value} (hb : Box w b vs) {d : TypeDesc} (hu : Try.prog.underlying ty = some d) (hd : d.isRow = true) (hi : (Try.prog.info? ty).map (·.size) = some vs.length) :
    (results fn tmps).run Try.prog w = .ok (.agg vs.toArray) w := by
  have hp' : tmps[p]?.getD undef = .pointer (some ⟨b, 0, none⟩) := by simpa using hp
  have hld := run_loadVar_mid (P := Try.prog) w b 0 ty vs d hb.range hu hd hi
  simp [results, h, hp', asAddr, hld]
theorem ret_cell_tmp {fn : Func} {p u : Tmp} {ty : TypeId} (h : fn.results = #[.cell p ty, .tmp u]) (tmps : Array Value) {w : World} {b : Nat} (hp : tmps.getD p undef = .pointer (some ⟨b, 0, none⟩)) {vs : List Value} (hb : Box w b vs) {d : TypeDesc} (hu : Try.prog.underlying ty = some d) (hd : d.isRow = true) (hi : (Try.prog.info? ty).map (·.size) = some vs.length) :
    (results fn tmps).run Try.prog w = .ok (.tuple #[.agg vs.toArray, tmps.getD u undef]) w := by
  have hld := run_loadVar_mid (P := Try.prog) w b 0 ty vs d hb.range hu hd hi
  rw [results_cell_tmp h, hp]
  simp [asAddr, Result.andThen, hld]

theorem slice_one {v : Value} (h : ∃ a n c, v = .slice a n c) : v.oneCell' = true := by
  obtain ⟨a, n, c, rfl⟩ := h
  rfl
theorem TabS.one {B0 B1 : Nat} {w : World} {vs : List Value} {t : List (List En)} (h : TabS B0 B1 w vs t) : ∀ v ∈ vs, v.oneCell' = true := fun v hv => by
  obtain ⟨i, hi⟩ := List.getElem?_of_mem hv
  have hlt : i < 8 := by rw [← h.len]; exact (List.getElem?_eq_some_iff.1 hi).1
  obtain ⟨a, c, x, _, h2, _⟩ := h.now.half hlt
  rw [h2] at hi
  cases hi
  rfl

/-- A table of the call's own: no two halves lie in one place. -/
structure OwnTab (base : Nat) (w : World) (vs : List Value) (t : List (List En)) : Prop where
  len : vs.length = 8
  tlen : t.length = 8
  row : ∀ (i : Nat) v h, vs[i]? = some v → t[i]? = some h → OwnRow enE base w v h
  two : ∀ (i j : Nat) u v, i ≠ j → vs[i]? = some u → vs[j]? = some v → ∀ g, u.ownBlock = some g → v.ownBlock ≠ some g

theorem OwnTab.new {base : Nat} {w : World} {vs : List Value} {t : List (List En)} (h : OwnTab base w vs t) : TabS 0 base w vs t := ⟨h.len, h.tlen, fun i v x hv hx => (h.row i v x hv hx).new.stays⟩
theorem OwnTab.grew {base : Nat} {w w' : World} {vs : List Value} {t : List (List En)} (h : OwnTab base w vs t) (k : Grew w w') : OwnTab base w' vs t := ⟨h.len, h.tlen, fun i v x hv hx => (h.row i v x hv hx).grew k, h.two⟩
theorem OwnTab.base {base base' : Nat} {w : World} {vs : List Value} {t : List (List En)} (h : OwnTab base w vs t) (hb : base' ≤ base) : OwnTab base' w vs t := ⟨h.len, h.tlen, fun i v x hv hx => (h.row i v x hv hx).base hb, h.two⟩
theorem OwnTab.half {base : Nat} {w : World} {vs : List Value} {t : List (List En)} (h : OwnTab base w vs t) {i : Nat} (hi : i < 8) : ∃ a c x, t[i]? = some x ∧ vs[i]? = some (.slice a x.length c) ∧ OwnRow enE base w (.slice a x.length c) x := by
  obtain ⟨v, hv⟩ : ∃ v, vs[i]? = some v := ⟨_, List.getElem?_eq_getElem (by rw [h.len]; exact hi)⟩
  obtain ⟨x, hx⟩ : ∃ x, t[i]? = some x := ⟨_, List.getElem?_eq_getElem (by rw [h.tlen]; exact hi)⟩
  have hr := h.row i v x hv hx
  obtain ⟨a, c, rfl⟩ := hr.form
  exact ⟨a, c, x, hx, hv, hr⟩
/-- Stores into one half's block leave the others. -/
theorem OwnTab.one {base : Nat} {w w' : World} {vs : List Value} {t : List (List En)} (h : OwnTab base w vs t) {i : Nat} {v v' : Value} {x' : List En} (hi : i < 8) (hv : vs[i]? = some v) (hg : w.grownBy w' v.ownBlock) (ho : OwnRow enE base w' v' x') (hn : ∀ g, v'.ownBlock = some g → v.ownBlock = some g ∨ w.heap.size ≤ g) : OwnTab base w' (vs.set i v') (t.set i x') := by
  have hlt : ∀ (j : Nat) u, vs[j]? = some u → ∀ g, u.ownBlock = some g → g < w.heap.size := fun j u hu g hg => by
    obtain ⟨x, hx⟩ : ∃ x, t[j]? = some x := ⟨_, List.getElem?_eq_getElem (by rw [h.tlen, ← h.len]; exact (List.getElem?_eq_some_iff.1 hu).1)⟩
    exact ((h.row j u x hu hx).lt g hg).2
  refine ⟨by simp [h.len], by simp [h.tlen], fun j u x hu hx => ?_, fun j k p q hjk hp hq g hpg hqg => ?_⟩
  · by_cases e : j = i
    · subst e
      rw [List.getElem?_set_self (by rw [h.len]; exact hi)] at hu
      rw [List.getElem?_set_self (by rw [h.tlen]; exact hi)] at hx
      cases hu
      cases hx
      exact ho
    · rw [List.getElem?_set_ne (fun h => e h.symm)] at hu hx
      exact (h.row j u x hu hx).grown hg (fun g hu' hv' => h.two j i u v e hu hv g hu' hv')
  · by_cases e1 : j = i
    · subst e1
      rw [List.getElem?_set_self (by rw [h.len]; exact hi)] at hp
      cases hp
      rw [List.getElem?_set_ne hjk] at hq
      rcases hn g hpg with h1 | h1
      · exact h.two j k v q hjk hv hq g h1 hqg
      · have := hlt k q hq g hqg
        omega
    · rw [List.getElem?_set_ne (fun h => e1 h.symm)] at hp
      by_cases e2 : k = i
      · subst e2
        rw [List.getElem?_set_self (by rw [h.len]; exact hi)] at hq
        cases hq
        rcases hn g hqg with h1 | h1
        · exact h.two j k p v hjk hp hv g hpg h1
        · have := hlt j p hp g hpg
          omega
      · rw [List.getElem?_set_ne (fun h => e2 h.symm)] at hq
        exact h.two j k p q hjk hp hq g hpg hqg

end Go.Proofs.Ytodbgjhdfjpcpac
