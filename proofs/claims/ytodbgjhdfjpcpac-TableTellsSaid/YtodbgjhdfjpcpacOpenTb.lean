/- How a table, an entry and numbers that came in are read. -/
import Derived.Test.YtodbgjhdfjpcpacRows
import Derived.Test.YtodbgjhdfjpcpacTbData
import Derived.WalkKit
import Derived.ProofKit
import Derived.OpenShut
import Derived.ShutString
import Derived.ChangeOld
import Derived.Below
import Derived.Carry
import Derived.SizedLaws
import Derived.Deep.Slices
namespace Go.Proofs.Ytodbgjhdfjpcpac
open Go.ChangeShapes Go.WideShapes Go.ChangeAt Go.RowKit

theorem Try.cellsInt : Try.prog.cellsOf 3 = 1 := by kernel_rfl
theorem Try.cellsBool : Try.prog.cellsOf 4 = 1 := by kernel_rfl
theorem Try.cellsEntry : Try.prog.cellsOf 57 = 3 := by kernel_rfl
theorem Try.cellsEntries : Try.prog.cellsOf 53 = 1 := by kernel_rfl
theorem Try.cellsTable : Try.prog.cellsOf 55 = 8 := by kernel_rfl
theorem Try.bytesInt : Try.prog.bytesOf 3 = 8 := by kernel_rfl
theorem Try.bytesEntry : Try.prog.bytesOf 57 = 24 := by kernel_rfl

theorem weightsAll_mem {H : Type} {P : Program} {e : TypeId} : ∀ {l : List (DataW H)} {d : DataW H}, d ∈ l → ∀ n ∈ d.weights P e, n ∈ DataW.weightsAll P e l
  | [], d, h, _, _ => by cases h
  | x :: l, d, h, n, hn => by
    simp only [DataW.weightsAll, List.mem_append]
    rcases List.mem_cons.1 h with rfl | h
    · exact .inl hn
    · exact .inr (weightsAll_mem h n hn)

section
variable {H : Type} {enc : TypeId × Value → H} {w : World} {base : Nat} {spare : Nat → Bool} {held : Bool}

set_option maxRecDepth 100000 in
theorem trod_entry {fuel : Nat} {cs : List Value} {x : DataW H × List MemPlace} (h : DataW.trod enc Try.prog w base spare held fuel 57 cs = some x) : ∃ q : En, cs = env q := by
  obtain ⟨xs, n, _, _, hlen, hl, hf⟩ := DataW.trod_struct Try.underlying57 h
  rw [Try.cellsEntry] at hlen
  have hxl : xs.length = 3 := hl
  have h0 : DataW.trod enc Try.prog w base spare held n 3 ((cs.drop 0).take (Try.prog.cellsOf 3)) = xs[0]? := hf 0 _ rfl
  have h1 : DataW.trod enc Try.prog w base spare held n 3 ((cs.drop 1).take (Try.prog.cellsOf 3)) = xs[1]? := hf 1 _ rfl
  have h2 : DataW.trod enc Try.prog w base spare held n 4 ((cs.drop 2).take (Try.prog.cellsOf 4)) = xs[2]? := hf 2 _ rfl
  rw [Try.cellsInt] at h0 h1
  rw [Try.cellsBool] at h2
  rw [List.getElem?_eq_getElem (by omega)] at h0 h1 h2
  obtain ⟨r, hr, _, _⟩ := DataW.trod_int Try.underlying3 h0
  obtain ⟨f, hff, _, _⟩ := DataW.trod_int Try.underlying3 h1
  obtain ⟨u, hu, _⟩ := DataW.trod_bool Try.underlying4 h2
  obtain ⟨c0, c1, c2, rfl⟩ : ∃ c0 c1 c2, cs = [c0, c1, c2] := by
    match cs, hlen with
    | [c0, c1, c2], _ => exact ⟨c0, c1, c2, rfl⟩
  simp only [List.drop_succ_cons, List.drop_zero, List.take_succ_cons, List.take_zero, List.cons.injEq, and_true] at hr hff hu
  subst hr hff hu
  exact ⟨⟨r, f, u⟩, rfl⟩

theorem cells_join {α : Type} {enc0 : α → List Value} {k : Nat} : ∀ (l : List α) (x : Addr), (∀ a ∈ l, (enc0 a).length = k) → (∀ (i : Nat) a, l[i]? = some a → Cells w (x.add (i * k)) (enc0 a)) → Cells w x (l.flatMap enc0)
  | [], x, _, _ => fun j u hj => by simp at hj
  | a :: l, x, hk, h => fun j u hj => by
    rw [List.flatMap_cons] at hj
    have ha := hk a (by simp)
    rcases Nat.lt_or_ge j k with hjk | hjk
    · rw [List.getElem?_append_left (by omega)] at hj
      have := h 0 a rfl j u hj
      rw [add_add'] at this
      simpa using this
    · rw [List.getElem?_append_right (by omega), ha] at hj
      have ih := cells_join l (x.add k) (fun b hb => hk b (by simp [hb])) (fun i b hi => by
        have := h (i + 1) b (by simpa using hi)
        rw [add_add']
        rw [show k + i * k = (i + 1) * k by rw [Nat.add_mul]; omega]
        exact this) (j - k) u hj
      rw [add_add', show k + (j - k) = j by omega] at ih
      exact ih

theorem open_row {α : Type} [Inhabited α] (enc0 : α → List Value) (Q : α → Prop) (k : Nat) {t e : TypeId} (hu : Try.prog.underlying t = some (.slice e)) (hk : Try.prog.cellsOf e = k) (helem : ∀ n cs (x : DataW H × List MemPlace), cs.length = k → DataW.trod enc Try.prog w base spare held n e cs = some x → ∃ a, Q a ∧ cs = enc0 a)
    {fuel : Nat} {cs : List Value} {x : DataW H × List MemPlace} (h : DataW.trod enc Try.prog w base spare held fuel t cs = some x) :
    ∃ v l, cs = [v] ∧ SliceAt enc0 w v l ∧ (∀ a ∈ l, Q a ∧ (enc0 a).length = k) ∧ (l = [] ∨ ∃ es sp, x.1 = .slice es sp ∧ es.length = l.length) := by
  rcases Go.Deep.open_slice hu h with ⟨rfl, _⟩ | ⟨a, len, cap, m, n, D, Pl, rfl, hb, hl, hm, hm', hx, hel⟩
  · exact ⟨_, [], rfl, ⟨none, 0, rfl, fun _ => rfl, fun x hx => by cases hx⟩, by simp, .inl rfl⟩
  · have hlm : len ≤ m := by rw [hm']; split <;> omega
    have hex : ∀ i, i < len → ∃ a0, Q a0 ∧ (enc0 a0).length = k ∧ Cells w (a.add (i * k)) (enc0 a0) := fun i hi => by
      obtain ⟨cs', h1, h2⟩ := hel i (by omega)
      rw [hk] at h1
      obtain ⟨_, hcl, hcc⟩ := World.cells?_some h1
      obtain ⟨a0, hq, rfl⟩ := helem _ _ _ hcl h2
      refine ⟨a0, hq, hcl, fun j u hj => ?_⟩
      have hj' : j < k := by rw [← hcl]; exact (List.getElem?_eq_some_iff.1 hj).1
      rw [hcc j hj']
      exact hj
    obtain ⟨f, hf⟩ := Go.Deep.choose_lt hex
    refine ⟨_, (List.range len).map f, rfl, ⟨some a, cap, by simp, fun h => (by cases h), fun y hy => ?_⟩, fun b hb => ?_, .inr ⟨_, _, by rw [hx], by simp⟩⟩
    · cases hy
      refine cells_join (k := k) _ _ (fun b hb => ?_) (fun i b hi => ?_)
      · obtain ⟨i, hi, rfl⟩ := List.mem_map.1 hb
        exact (hf i (List.mem_range.1 hi)).2.1
      · have hil : i < len := by have := (List.getElem?_eq_some_iff.1 hi).1; simpa using this
        simp [hil] at hi
        subst hi
        exact (hf i hil).2.2
    · obtain ⟨i, hi, rfl⟩ := List.mem_map.1 hb
      have := hf i (List.mem_range.1 hi)
      exact ⟨this.1, this.2.1⟩

/-- Numbers that came in. -/
theorem open_nums {fuel : Nat} {v : Value} {x : DataW H × List MemPlace} (h : DataW.trod enc Try.prog w base spare held fuel 22 [v] = some x) (hw : ∀ n ∈ x.1.weights Try.prog 22, n ≤ reachBytes) :
    ∃ (a : Option Addr) (c : Nat) (l : List Int), v = .slice a l.length c ∧ RowAt blE w (.slice a l.length c) l := by
  rcases Go.Deep.open_slice1 Try.underlying22 Try.cellsInt h with ⟨h0, _⟩ | ⟨a, len, cap, m, n, V, D, Pl, hcs, hb, hl, hm, hmm, hx, hel⟩
  · cases h0
    exact ⟨none, 0, [], rfl, RowAt.nil _ _⟩
  · have hlm : len ≤ m := by rw [hmm]; split <;> omega
    have hex : ∀ i, i < len → ∃ z : Int, w.cell? (a.add i) = some (.int .i64 z) := fun i hi => by
      obtain ⟨h1, h2⟩ := hel i (by omega)
      obtain ⟨z, hz, _, _⟩ := DataW.trod_int Try.underlying3 h2
      have hz' : V i = .int .i64 z := by simpa using hz
      rw [hz'] at h1
      exact ⟨z, h1⟩
    obtain ⟨f, hf⟩ := Go.Deep.choose_lt hex
    cases hcs
    refine ⟨some a, cap, (List.range len).map f, by simp, ⟨some a, cap, rfl, fun h => (by cases h), fun y hy => ?_⟩, ?_⟩
    · cases hy
      refine cells_join (k := 1) _ _ (fun b _ => rfl) (fun i z hi => ?_)
      have hil : i < len := by have := (List.getElem?_eq_some_iff.1 hi).1; simpa using this
      simp [hil] at hi
      subst hi
      intro j u hj
      have hj0 : j = 0 := by
        have := (List.getElem?_eq_some_iff.1 hj).1
        simp [blE, niv] at this
        exact this
      subst hj0
      simp [blE, niv] at hj
      subst hj
      rw [add_add', Nat.mul_one, Nat.add_zero]
      exact hf i hil
    · have := hw ((((List.range len).map D).length + ((List.range (m - len)).map fun j => D (len + j)).length) * Try.prog.bytesOf 3) (by rw [hx]; simp [DataW.weights, Try.underlying22])
      rw [Try.bytesInt] at this
      unfold reachBytes at this
      simp at this ⊢
      show len * 8 ≤ _
      omega


set_option maxRecDepth 100000 in
/-- A half that came in. -/
theorem open_half {fuel : Nat} {v : Value} {x : DataW H × List MemPlace} (h : DataW.trod enc Try.prog w base spare held fuel 53 [v] = some x) (hw : ∀ n ∈ x.1.weights Try.prog 53, n ≤ reachBytes) : ∃ l : List En, RowAt enE w v l := by
  haveI : Inhabited En := ⟨en0⟩
  obtain ⟨v0, l, e0, s0, q0, w0⟩ := open_row env (fun _ => True) 3 Try.underlying53 Try.cellsEntry (fun n cs x _ ht => by obtain ⟨q, rfl⟩ := trod_entry ht; exact ⟨q, trivial, rfl⟩) h
  cases e0
  refine ⟨l, s0, ?_⟩
  rcases w0 with rfl | ⟨es, sp, he, hel⟩
  · show 0 * 24 ≤ _
    omega
  · have := hw ((es.length + sp.length) * Try.prog.bytesOf 57) (by rw [he]; simp [DataW.weights, Try.underlying53])
    rw [Try.bytesEntry] at this
    unfold reachBytes at this
    show l.length * 24 ≤ _
    omega

set_option maxRecDepth 100000 in
/-- A table that came in. -/
theorem open_table {b0 : Nat} {r : Reach} {v : Value} {d : DataW H} {p : List MemPlace} (hv : Value.okWide Try.prog w r b0 55 v) (h : DataW.Trod enc Try.prog w base spare held 55 v d p) (hw : ∀ n ∈ d.weights Try.prog 55, n ≤ reachBytes) :
    ∃ (vs : List Value) (t : List (List En)), v = .agg vs.toArray ∧ TabAt w vs t := by
  obtain ⟨cs, rfl, hsz, _⟩ : ∃ cs, v = .agg cs ∧ cs.size = Try.prog.cellsOf 55 ∧ Row.okWide Try.prog w r b0 55 cs := by
    simpa [Value.okWide, Try.underlying55] using hv
  obtain ⟨fuel, hf⟩ := h
  obtain ⟨xs, n, _, hx, hlen, hl, hfs⟩ := DataW.trod_array Try.underlying55 hf
  rw [Try.cellsTable] at hsz
  obtain ⟨cs⟩ := cs
  have hcl : cs.length = 8 := by simpa using hsz
  have hd : d = .agg (xs.map (·.1)) := by have := congrArg Prod.fst hx; simpa using this
  subst hd
  have hex : ∀ i, i < 8 → ∃ l : List En, ∀ u, cs[i]? = some u → RowAt enE w u l := fun i hi => by
    have h1 := hfs i hi
    rw [Try.cellsEntries, Nat.mul_one, List.getElem?_eq_getElem (by omega)] at h1
    have h2 : ((Value.agg cs.toArray).cells.toList.drop i).take 1 = [cs[i]'(by omega)] := by
      simp only [Value.cells]
      rw [List.drop_eq_getElem_cons (by omega)]
      rfl
    rw [h2] at h1
    obtain ⟨l, hl'⟩ := open_half h1 (fun k hk => hw k (by
      simp only [DataW.weights, Try.underlying55]
      exact weightsAll_mem (d := (xs[i]'(by omega)).1) (List.mem_map.2 ⟨xs[i]'(by omega), List.getElem_mem _, rfl⟩) k hk))
    refine ⟨l, fun u hu => ?_⟩
    rw [List.getElem?_eq_getElem (by omega)] at hu
    cases hu
    exact hl'
  obtain ⟨f, hf'⟩ := Go.Deep.choose_lt hex
  refine ⟨cs, (List.range 8).map f, rfl, hcl, by simp, fun i u y hu hy => ?_⟩
  have hi : i < 8 := by rw [← hcl]; exact (List.getElem?_eq_some_iff.1 hu).1
  rw [List.getElem?_map, List.getElem?_range hi] at hy
  cases hy
  exact (hf' i hi u hu).s0

set_option maxRecDepth 100000 in
/-- An entry that came in. -/
theorem open_entry {b0 : Nat} {r : Reach} {v : Value} {d : DataW H} {p : List MemPlace} (hv : Value.okWide Try.prog w r b0 57 v) (h : DataW.Trod enc Try.prog w base spare held 57 v d p) : ∃ x : En, v = .agg #[.int .i64 x.kind, .int .i64 x.n, .bool x.wr] := by
  obtain ⟨cs, rfl, hsz, _⟩ : ∃ cs, v = .agg cs ∧ cs.size = Try.prog.cellsOf 57 ∧ Row.okWide Try.prog w r b0 57 cs := by
    simpa [Value.okWide, Try.underlying57] using hv
  obtain ⟨fuel, hf⟩ := h
  obtain ⟨x, hcs⟩ := trod_entry hf
  refine ⟨x, ?_⟩
  simp only [Value.cells] at hcs
  obtain ⟨cs⟩ := cs
  simp at hcs
  rw [hcs]
  rfl

end
end Go.Proofs.Ytodbgjhdfjpcpac
