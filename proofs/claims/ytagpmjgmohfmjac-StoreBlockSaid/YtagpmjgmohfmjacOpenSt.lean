/- How a store and numbers that came in are read. -/
import Derived.Test.YtagpmjgmohfmjacRows
import Derived.Test.YtagpmjgmohfmjacStData
import Derived.WalkKit
import Derived.ProofKit
import Derived.OpenShut
import Derived.ShutString
import Derived.ChangeOld
import Derived.Below
import Derived.Carry
import Derived.SizedLaws
import Derived.Deep.Slices
import Derived.Deep.SlicePairs
namespace Go.Proofs.Ytagpmjgmohfmjac
open Go.ChangeShapes Go.WideShapes Go.ChangeAt Go.RowKit

theorem Try.cellsInt : Try.prog.cellsOf 3 = 1 := by kernel_rfl
theorem Try.cellsInts : Try.prog.cellsOf 22 = 1 := by kernel_rfl
theorem Try.cellsFile : Try.prog.cellsOf 50 = 2 := by kernel_rfl
theorem Try.cellsFiles : Try.prog.cellsOf 34 = 1 := by kernel_rfl
theorem Try.cellsStore : Try.prog.cellsOf 36 = 2 := by kernel_rfl
theorem Try.bytesInt : Try.prog.bytesOf 3 = 8 := by kernel_rfl
theorem Try.bytesFile : Try.prog.bytesOf 50 = 32 := by kernel_rfl

theorem weightsAll_mem {H : Type} {P : Program} {e : TypeId} : ∀ {l : List (DataW H)} {d : DataW H}, d ∈ l → ∀ n ∈ d.weights P e, n ∈ DataW.weightsAll P e l
  | [], d, h, _, _ => by cases h
  | x :: l, d, h, n, hn => by
    simp only [DataW.weightsAll, List.mem_append]
    rcases List.mem_cons.1 h with rfl | h
    · exact .inl hn
    · exact .inr (weightsAll_mem h n hn)

section
variable {H : Type} {enc : TypeId × Value → H} {w : World} {base : Nat} {spare : Nat → Bool} {held : Bool}

theorem cells_join {α : Type} {enc0 : α → List Value} {k : Nat} : ∀ (l : List α) (x : Addr), (∀ a ∈ l, (enc0 a).length = k) → (∀ (i : Nat) a, l[i]? = some a → Cells w (x.add (i * k)) (enc0 a)) → Cells w x (l.flatMap enc0)
  | [], x, _, _ => fun j u hj => by simp at hj
  | a :: l, x, hk, h => fun j u hj => by
    rw [List.flatMap_cons] at hj
    have ha := hk a (by simp)
    rcases Nat.lt_or_ge j k with hjk | hjk
    · rw [List.getElem?_append_left (by omega)] at hj
      have := h 0 a rfl j u hj
      rw [add_add'] at this
      simpa using this
    · rw [List.getElem?_append_right (by omega), ha] at hj
      have ih := cells_join l (x.add k) (fun b hb => hk b (by simp [hb])) (fun i b hi => by
        have := h (i + 1) b (by simpa using hi)
        rw [add_add']
        rw [show k + i * k = (i + 1) * k by rw [Nat.add_mul]; omega]
        exact this) (j - k) u hj
      rw [add_add', show k + (j - k) = j by omega] at ih
      exact ih

/-- Numbers that came in. -/
theorem open_nums {fuel : Nat} {v : Value} {x : DataW H × List MemPlace} (h : DataW.trod enc Try.prog w base spare held fuel 22 [v] = some x) (hw : ∀ n ∈ x.1.weights Try.prog 22, n ≤ reachBytes) :
    ∃ (a : Option Addr) (c : Nat) (l : List Int), v = .slice a l.length c ∧ RowAt blE w (.slice a l.length c) l := by
  rcases Go.Deep.open_slice1 Try.underlying22 Try.cellsInt h with ⟨h0, _⟩ | ⟨a, len, cap, m, n, V, D, Pl, hcs, hb, hl, hm, hmm, hx, hel⟩
  · cases h0
    exact ⟨none, 0, [], rfl, RowAt.nil _ _⟩
  · have hlm : len ≤ m := by rw [hmm]; split <;> omega
    have hex : ∀ i, i < len → ∃ z : Int, w.cell? (a.add i) = some (.int .i64 z) := fun i hi => by
      obtain ⟨h1, h2⟩ := hel i (by omega)
      obtain ⟨z, hz, _, _⟩ := DataW.trod_int Try.underlying3 h2
      have hz' : V i = .int .i64 z := by simpa using hz
      rw [hz'] at h1
      exact ⟨z, h1⟩
    obtain ⟨f, hf⟩ := Go.Deep.choose_lt hex
    cases hcs
    refine ⟨some a, cap, (List.range len).map f, by simp, ⟨some a, cap, rfl, fun h => (by cases h), fun y hy => ?_⟩, ?_⟩
    · cases hy
      refine cells_join (k := 1) _ _ (fun b _ => rfl) (fun i z hi => ?_)
      have hil : i < len := by have := (List.getElem?_eq_some_iff.1 hi).1; simpa using this
      simp [hil] at hi
      subst hi
      intro j u hj
      have hj0 : j = 0 := by
        have := (List.getElem?_eq_some_iff.1 hj).1
        simp [blE, niv] at this
        exact this
      subst hj0
      simp [blE, niv] at hj
      subst hj
      rw [add_add', Nat.mul_one, Nat.add_zero]
      exact hf i hil
    · have := hw ((((List.range len).map D).length + ((List.range (m - len)).map fun j => D (len + j)).length) * Try.prog.bytesOf 3) (by rw [hx]; simp [DataW.weights, Try.underlying22])
      rw [Try.bytesInt] at this
      unfold reachBytes at this
      simp at this ⊢
      show len * 8 ≤ _
      omega

set_option maxRecDepth 100000 in
/-- Files that came in. -/
theorem open_files {fuel : Nat} {v : Value} {x : DataW H × List MemPlace} (h : DataW.trod enc Try.prog w base spare held fuel 34 [v] = some x) (hw : ∀ n ∈ x.1.weights Try.prog 34, n ≤ reachBytes) :
    ∃ fs : List Fl, FilesAt w v fs := by
  rcases Go.Deep.open_slice_pairs Try.underlying34 Try.underlying50 Try.cellsFile rfl rfl Try.cellsInt Try.cellsInts h with ⟨h0, _⟩ | ⟨a, len, cap, m, n, V0, V1, D0, D1, P0, P1, hcs, hb, hl, hm, hmm, hx, hel⟩
  · cases h0
    exact ⟨[], FilesS.nil _ _ _⟩
  · have hlm : len ≤ m := by rw [hmm]; split <;> omega
    have hws : ∀ i, i < len → ∀ k ∈ (D1 i).weights Try.prog 22, k ≤ reachBytes := fun i hi k hk => hw k (by
      rw [hx]
      simp only [DataW.weights, Try.underlying34]
      refine List.mem_cons_of_mem _ (List.mem_append_left _ (weightsAll_mem (d := .agg [D0 i, D1 i]) (List.mem_map.2 ⟨i, List.mem_range.2 hi, rfl⟩) k ?_))
      simp only [DataW.weights, Try.underlying50]
      exact DataW.weights_mem_each (j := 1) (t := 22) (d := D1 i) rfl rfl k hk)
    have hex : ∀ i, i < len → ∃ q : FlV × List Int, w.cell? (a.add (i * 2)) = some (.int .i64 q.1.size) ∧ w.cell? (a.add (i * 2 + 1)) = some (.slice q.1.a q.1.n q.1.c) ∧ RowAt blE w (.slice q.1.a q.1.n q.1.c) q.2 := fun i hi => by
      obtain ⟨h1, h2, h3, h4⟩ := hel i (by omega)
      obtain ⟨z, hz, _, _⟩ := DataW.trod_int Try.underlying3 h3
      obtain ⟨a', c', l, hv, hr⟩ := open_nums h4 (hws i hi)
      have hz' : V0 i = .int .i64 z := by simpa using hz
      rw [hz'] at h1
      rw [hv] at h2
      exact ⟨(⟨z, a', l.length, c'⟩, l), h1, h2, hr⟩
    haveI : Inhabited (FlV × List Int) := ⟨(⟨0, none, 0, 0⟩, [])⟩
    obtain ⟨f, hf⟩ := Go.Deep.choose_lt hex
    cases hcs
    have hrow : RowAt fvE w (.slice (some a) len cap) ((List.range len).map fun i => (f i).1) := by
      refine ⟨⟨some a, cap, by simp, fun h => (by cases h), fun y hy => ?_⟩, ?_⟩
      · cases hy
        refine cells_join (k := 2) _ _ (fun b _ => rfl) (fun i z hi => ?_)
        have hil : i < len := by have := (List.getElem?_eq_some_iff.1 hi).1; simpa using this
        simp [hil] at hi
        subst hi
        obtain ⟨q1, q2, _⟩ := hf i hil
        intro j u hj
        rw [add_add']
        have hj2 : j < 2 := (List.getElem?_eq_some_iff.1 hj).1
        rcases Nat.lt_or_ge j 1 with h1 | h1
        · have : j = 0 := by omega
          subst this
          cases hj
          exact q1
        · have : j = 1 := by omega
          subst this
          cases hj
          exact q2
      · have := hw ((((List.range len).map fun i => DataW.agg [D0 i, D1 i]).length + ((List.range (m - len)).map fun j => DataW.agg [D0 (len + j), D1 (len + j)]).length) * Try.prog.bytesOf 50) (by rw [hx]; simp [DataW.weights, Try.underlying34])
        rw [Try.bytesFile] at this
        unfold reachBytes at this
        simp at this ⊢
        show len * 32 ≤ _
        omega
    refine ⟨(List.range len).map fun i => ⟨(f i).1.size, (f i).2⟩, hl, _, hrow.s0, by simp, fun i x g hx hg => ?_⟩
    have hil : i < len := by have := (List.getElem?_eq_some_iff.1 hx).1; simpa using this
    simp [hil] at hx hg
    subst hx
    subst hg
    exact ⟨rfl, (hf i hil).2.2.s0⟩

/-- A store that came in. -/
theorem open_store {b0 : Nat} {r : Reach} {v : Value} {d : DataW H} {p : List MemPlace} (hv : Value.okWide Try.prog w r b0 36 v) (h : DataW.Trod enc Try.prog w base spare held 36 v d p) (hw : ∀ n ∈ d.weights Try.prog 36, n ≤ reachBytes) :
    ∃ (v0 : Value) (fs : List Fl) (cnt : Int), v = .agg #[v0, .int .i64 cnt] ∧ FilesAt w v0 fs := by
  obtain ⟨cs, rfl, hsz, _⟩ : ∃ cs, v = .agg cs ∧ cs.size = Try.prog.cellsOf 36 ∧ Row.okWide Try.prog w r b0 36 cs := by
    simpa [Value.okWide, Try.underlying36] using hv
  obtain ⟨fuel, hf⟩ := h
  obtain ⟨xs, n, _, hx, hlen, hl, hfs⟩ := DataW.trod_struct Try.underlying36 hf
  have hxl : xs.length = 2 := hl
  rw [Try.cellsStore] at hsz
  obtain ⟨cs⟩ := cs
  have hcl : cs.length = 2 := by simpa using hsz
  obtain ⟨c0, c1, rfl⟩ : ∃ c0 c1, cs = [c0, c1] := by
    match cs, hcl with
    | [c0, c1], _ => exact ⟨c0, c1, rfl⟩
  obtain ⟨x0, x1, rfl⟩ : ∃ x0 x1, xs = [x0, x1] := by
    match xs, hxl with
    | [x0, x1], _ => exact ⟨x0, x1, rfl⟩
  have h0 : DataW.trod enc Try.prog w base spare held n 34 (([c0, c1].drop 0).take (Try.prog.cellsOf 34)) = some x0 := hfs 0 _ rfl
  have h1 : DataW.trod enc Try.prog w base spare held n 3 (([c0, c1].drop 1).take (Try.prog.cellsOf 3)) = some x1 := hfs 1 _ rfl
  rw [Try.cellsFiles] at h0
  rw [Try.cellsInt] at h1
  obtain ⟨m, hm, _, _⟩ := DataW.trod_int Try.underlying3 h1
  cases hm
  have hd : d = .agg [x0.1, x1.1] := by have := congrArg Prod.fst hx; simpa using this
  subst hd
  obtain ⟨fs, hfs'⟩ := open_files h0 (fun n hn => hw n (by
    simp only [DataW.weights, Try.underlying36]
    simp [DataW.weightsEach]
    exact .inl hn))
  exact ⟨c0, fs, m, rfl, hfs'⟩

end
end Go.Proofs.Ytagpmjgmohfmjac
