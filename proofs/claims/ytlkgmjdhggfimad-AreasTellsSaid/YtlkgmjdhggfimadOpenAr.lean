/- How areas that came in are read. -/
import Derived.Test.YtlkgmjdhggfimadRows
import Derived.Test.YtlkgmjdhggfimadArData
import Derived.WalkKit
import Derived.ProofKit
import Derived.OpenShut
import Derived.ShutString
import Derived.ChangeOld
import Derived.Below
import Derived.Carry
import Derived.SizedLaws
import Derived.Deep.Slices
namespace Go.Proofs.Ytlkgmjdhggfimad
open Go.ChangeShapes Go.WideShapes Go.ChangeAt Go.RowKit

theorem Try.cellsInt : Try.prog.cellsOf 3 = 1 := by kernel_rfl
theorem Try.cellsBool : Try.prog.cellsOf 4 = 1 := by kernel_rfl
theorem Try.cellsArea : Try.prog.cellsOf 37 = 7 := by kernel_rfl
theorem Try.bytesArea : Try.prog.bytesOf 37 = 40 := by kernel_rfl

section
variable {H : Type} {enc : TypeId × Value → H} {w : World} {base : Nat} {spare : Nat → Bool} {held : Bool}

set_option maxRecDepth 100000 in
theorem trod_area {fuel : Nat} {cs : List Value} {x : DataW H × List MemPlace} (h : DataW.trod enc Try.prog w base spare held fuel 37 cs = some x) : ∃ q : Ar, cs = arv q := by
  obtain ⟨xs, n, _, _, hlen, hl, hf⟩ := DataW.trod_struct Try.underlying37 h
  rw [Try.cellsArea] at hlen
  have hxl : xs.length = 7 := hl
  have h0 : DataW.trod enc Try.prog w base spare held n 3 ((cs.drop 0).take (Try.prog.cellsOf 3)) = xs[0]? := hf 0 _ rfl
  have h1 : DataW.trod enc Try.prog w base spare held n 3 ((cs.drop 1).take (Try.prog.cellsOf 3)) = xs[1]? := hf 1 _ rfl
  have h2 : DataW.trod enc Try.prog w base spare held n 4 ((cs.drop 2).take (Try.prog.cellsOf 4)) = xs[2]? := hf 2 _ rfl
  have h3 : DataW.trod enc Try.prog w base spare held n 4 ((cs.drop 3).take (Try.prog.cellsOf 4)) = xs[3]? := hf 3 _ rfl
  have h4 : DataW.trod enc Try.prog w base spare held n 4 ((cs.drop 4).take (Try.prog.cellsOf 4)) = xs[4]? := hf 4 _ rfl
  have h5 : DataW.trod enc Try.prog w base spare held n 3 ((cs.drop 5).take (Try.prog.cellsOf 3)) = xs[5]? := hf 5 _ rfl
  have h6 : DataW.trod enc Try.prog w base spare held n 3 ((cs.drop 6).take (Try.prog.cellsOf 3)) = xs[6]? := hf 6 _ rfl
  rw [Try.cellsInt] at h0 h1 h5 h6
  rw [Try.cellsBool] at h2 h3 h4
  rw [List.getElem?_eq_getElem (by omega)] at h0 h1 h2 h3 h4 h5 h6
  obtain ⟨r0, e0, _, _⟩ := DataW.trod_int Try.underlying3 h0
  obtain ⟨r1, e1, _, _⟩ := DataW.trod_int Try.underlying3 h1
  obtain ⟨r2, e2, _⟩ := DataW.trod_bool Try.underlying4 h2
  obtain ⟨r3, e3, _⟩ := DataW.trod_bool Try.underlying4 h3
  obtain ⟨r4, e4, _⟩ := DataW.trod_bool Try.underlying4 h4
  obtain ⟨r5, e5, _, _⟩ := DataW.trod_int Try.underlying3 h5
  obtain ⟨r6, e6, _, _⟩ := DataW.trod_int Try.underlying3 h6
  obtain ⟨c0, c1, c2, c3, c4, c5, c6, rfl⟩ : ∃ c0 c1 c2 c3 c4 c5 c6, cs = [c0, c1, c2, c3, c4, c5, c6] := by
    match cs, hlen with
    | [c0, c1, c2, c3, c4, c5, c6], _ => exact ⟨c0, c1, c2, c3, c4, c5, c6, rfl⟩
  simp only [List.drop_succ_cons, List.drop_zero, List.take_succ_cons, List.take_zero, List.cons.injEq, and_true] at e0 e1 e2 e3 e4 e5 e6
  subst e0 e1 e2 e3 e4 e5 e6
  exact ⟨⟨r0, r1, r2, r3, r4, r5, r6⟩, rfl⟩

theorem cells_join {α : Type} {enc0 : α → List Value} {k : Nat} : ∀ (l : List α) (x : Addr), (∀ a ∈ l, (enc0 a).length = k) → (∀ (i : Nat) a, l[i]? = some a → Cells w (x.add (i * k)) (enc0 a)) → Cells w x (l.flatMap enc0)
  | [], x, _, _ => fun j u hj => by simp at hj
  | a :: l, x, hk, h => fun j u hj => by
    rw [List.flatMap_cons] at hj
    have ha := hk a (by simp)
    rcases Nat.lt_or_ge j k with hjk | hjk
    · rw [List.getElem?_append_left (by omega)] at hj
      have := h 0 a rfl j u hj
      rw [add_add'] at this
      simpa using this
    · rw [List.getElem?_append_right (by omega), ha] at hj
      have ih := cells_join l (x.add k) (fun b hb => hk b (by simp [hb])) (fun i b hi => by
        have := h (i + 1) b (by simpa using hi)
        rw [add_add']
        rw [show k + i * k = (i + 1) * k by rw [Nat.add_mul]; omega]
        exact this) (j - k) u hj
      rw [add_add', show k + (j - k) = j by omega] at ih
      exact ih

theorem open_row {α : Type} [Inhabited α] (enc0 : α → List Value) (Q : α → Prop) (k : Nat) {t e : TypeId} (hu : Try.prog.underlying t = some (.slice e)) (hk : Try.prog.cellsOf e = k) (helem : ∀ n cs (x : DataW H × List MemPlace), cs.length = k → DataW.trod enc Try.prog w base spare held n e cs = some x → ∃ a, Q a ∧ cs = enc0 a)
    {fuel : Nat} {cs : List Value} {x : DataW H × List MemPlace} (h : DataW.trod enc Try.prog w base spare held fuel t cs = some x) :
    ∃ v l, cs = [v] ∧ SliceAt enc0 w v l ∧ (∀ a ∈ l, Q a ∧ (enc0 a).length = k) ∧ (l = [] ∨ ∃ es sp, x.1 = .slice es sp ∧ es.length = l.length) := by
  rcases Go.Deep.open_slice hu h with ⟨rfl, _⟩ | ⟨a, len, cap, m, n, D, Pl, rfl, hb, hl, hm, hm', hx, hel⟩
  · exact ⟨_, [], rfl, ⟨none, 0, rfl, fun _ => rfl, fun x hx => by cases hx⟩, by simp, .inl rfl⟩
  · have hlm : len ≤ m := by rw [hm']; split <;> omega
    have hex : ∀ i, i < len → ∃ a0, Q a0 ∧ (enc0 a0).length = k ∧ Cells w (a.add (i * k)) (enc0 a0) := fun i hi => by
      obtain ⟨cs', h1, h2⟩ := hel i (by omega)
      rw [hk] at h1
      obtain ⟨_, hcl, hcc⟩ := World.cells?_some h1
      obtain ⟨a0, hq, rfl⟩ := helem _ _ _ hcl h2
      refine ⟨a0, hq, hcl, fun j u hj => ?_⟩
      have hj' : j < k := by rw [← hcl]; exact (List.getElem?_eq_some_iff.1 hj).1
      rw [hcc j hj']
      exact hj
    obtain ⟨f, hf⟩ := Go.Deep.choose_lt hex
    refine ⟨_, (List.range len).map f, rfl, ⟨some a, cap, by simp, fun h => (by cases h), fun y hy => ?_⟩, fun b hb => ?_, .inr ⟨_, _, by rw [hx], by simp⟩⟩
    · cases hy
      refine cells_join (k := k) _ _ (fun b hb => ?_) (fun i b hi => ?_)
      · obtain ⟨i, hi, rfl⟩ := List.mem_map.1 hb
        exact (hf i (List.mem_range.1 hi)).2.1
      · have hil : i < len := by have := (List.getElem?_eq_some_iff.1 hi).1; simpa using this
        simp [hil] at hi
        subst hi
        exact (hf i hil).2.2
    · obtain ⟨i, hi, rfl⟩ := List.mem_map.1 hb
      have := hf i (List.mem_range.1 hi)
      exact ⟨this.1, this.2.1⟩


set_option maxRecDepth 100000 in
/-- Areas that came in. -/
theorem open_areas {b0 : Nat} {r : Reach} {v : Value} {d : DataW H} {p : List MemPlace} (hv : Value.okWide Try.prog w r b0 35 v) (h : DataW.Trod enc Try.prog w base spare held 35 v d p) (hw : ∀ n ∈ d.weights Try.prog 35, n ≤ reachBytes) :
    ∃ (a : Option Addr) (c : Nat) (s : List Ar), v = .slice a s.length c ∧ RowAt arE w (.slice a s.length c) s := by
  haveI : Inhabited Ar := ⟨ar0⟩
  obtain ⟨fuel, hf⟩ := h
  obtain ⟨v0, ps, e0, s0, q0, w0⟩ := open_row arv (fun _ => True) 7 Try.underlying35 Try.cellsArea (fun n cs x _ ht => by
    obtain ⟨q, rfl⟩ := trod_area ht
    exact ⟨q, trivial, rfl⟩) hf
  obtain ⟨a, c, rfl, s2, s3⟩ := s0
  obtain ⟨a1, l1, c1, rfl⟩ := okWide_slice Try.underlying35 hv
  have e1 : Value.slice a1 l1 c1 = .slice a ps.length c := by simpa [Value.cells] using e0
  cases e1
  refine ⟨a, c, ps, rfl, ⟨⟨a, c, rfl, s2, s3⟩, ?_⟩⟩
  rcases w0 with rfl | ⟨es, sp, he, hel⟩
  · show 0 * 40 ≤ _
    omega
  · have he' : d = .slice es sp := he
    have := hw ((es.length + sp.length) * Try.prog.bytesOf 37) (by rw [he']; simp [DataW.weights, Try.underlying35])
    rw [Try.bytesArea] at this
    unfold reachBytes at this
    show ps.length * 40 ≤ _
    omega

set_option maxRecDepth 100000 in
/-- An area that came in. -/
theorem open_area {b0 : Nat} {r : Reach} {v : Value} {d : DataW H} {p : List MemPlace} (hv : Value.okWide Try.prog w r b0 37 v) (h : DataW.Trod enc Try.prog w base spare held 37 v d p) : ∃ x : Ar, v = .agg #[.int .i64 x.fr, .int .i64 x.to, .bool x.rd, .bool x.wr, .bool x.sh, .int .i64 x.file, .int .i64 x.base] := by
  obtain ⟨cs, rfl, hsz, _⟩ : ∃ cs, v = .agg cs ∧ cs.size = Try.prog.cellsOf 37 ∧ Row.okWide Try.prog w r b0 37 cs := by
    simpa [Value.okWide, Try.underlying37] using hv
  obtain ⟨fuel, hf⟩ := h
  obtain ⟨x, hcs⟩ := trod_area hf
  refine ⟨x, ?_⟩
  simp only [Value.cells] at hcs
  obtain ⟨cs⟩ := cs
  simp at hcs
  rw [hcs]
  rfl

theorem int_max {n : Int} (h : (Lit.int .i64 n).wf = true) : n ≤ 9223372036854775807 := by
  simp only [Lit.wf, Bool.and_eq_true, decide_eq_true_eq] at h
  exact h.2

end
end Go.Proofs.Ytlkgmjdhggfimad
