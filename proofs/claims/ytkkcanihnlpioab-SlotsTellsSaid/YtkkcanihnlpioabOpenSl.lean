/- How slots and numbers that came in are read. -/
import Derived.Test.YtkkcanihnlpioabRows
import Derived.Test.YtkkcanihnlpioabSlData
import Derived.WalkKit
import Derived.ProofKit
import Derived.OpenShut
import Derived.ShutString
import Derived.ChangeOld
import Derived.Below
import Derived.Carry
import Derived.SizedLaws
import Derived.Deep.Slices
namespace Go.Proofs.Ytkkcanihnlpioab
open Go.ChangeShapes Go.WideShapes Go.ChangeAt Go.RowKit

theorem Try.cellsInt : Try.prog.cellsOf 3 = 1 := by kernel_rfl
theorem Try.cellsSlots : Try.prog.cellsOf 58 = 1 := by kernel_rfl
theorem Try.bytesInt : Try.prog.bytesOf 3 = 8 := by kernel_rfl

section
variable {H : Type} {enc : TypeId × Value → H} {w : World} {base : Nat} {spare : Nat → Bool} {held : Bool}

theorem cells_join {α : Type} {enc0 : α → List Value} {k : Nat} : ∀ (l : List α) (x : Addr), (∀ a ∈ l, (enc0 a).length = k) → (∀ (i : Nat) a, l[i]? = some a → Cells w (x.add (i * k)) (enc0 a)) → Cells w x (l.flatMap enc0)
  | [], x, _, _ => fun j u hj => by simp at hj
  | a :: l, x, hk, h => fun j u hj => by
    rw [List.flatMap_cons] at hj
    have ha := hk a (by simp)
    rcases Nat.lt_or_ge j k with hjk | hjk
    · rw [List.getElem?_append_left (by omega)] at hj
      have := h 0 a rfl j u hj
      rw [add_add'] at this
      simpa using this
    · rw [List.getElem?_append_right (by omega), ha] at hj
      have ih := cells_join l (x.add k) (fun b hb => hk b (by simp [hb])) (fun i b hi => by
        have := h (i + 1) b (by simpa using hi)
        rw [add_add']
        rw [show k + i * k = (i + 1) * k by rw [Nat.add_mul]; omega]
        exact this) (j - k) u hj
      rw [add_add', show k + (j - k) = j by omega] at ih
      exact ih

theorem open_row {α : Type} [Inhabited α] (enc0 : α → List Value) (Q : α → Prop) (k : Nat) {t e : TypeId} (hu : Try.prog.underlying t = some (.slice e)) (hk : Try.prog.cellsOf e = k) (helem : ∀ n cs (x : DataW H × List MemPlace), cs.length = k → DataW.trod enc Try.prog w base spare held n e cs = some x → ∃ a, Q a ∧ cs = enc0 a)
    {fuel : Nat} {cs : List Value} {x : DataW H × List MemPlace} (h : DataW.trod enc Try.prog w base spare held fuel t cs = some x) :
    ∃ v l, cs = [v] ∧ SliceAt enc0 w v l ∧ (∀ a ∈ l, Q a ∧ (enc0 a).length = k) ∧ (l = [] ∨ ∃ es sp, x.1 = .slice es sp ∧ es.length = l.length) := by
  rcases Go.Deep.open_slice hu h with ⟨rfl, _⟩ | ⟨a, len, cap, m, n, D, Pl, rfl, hb, hl, hm, hm', hx, hel⟩
  · exact ⟨_, [], rfl, ⟨none, 0, rfl, fun _ => rfl, fun x hx => by cases hx⟩, by simp, .inl rfl⟩
  · have hlm : len ≤ m := by rw [hm']; split <;> omega
    have hex : ∀ i, i < len → ∃ a0, Q a0 ∧ (enc0 a0).length = k ∧ Cells w (a.add (i * k)) (enc0 a0) := fun i hi => by
      obtain ⟨cs', h1, h2⟩ := hel i (by omega)
      rw [hk] at h1
      obtain ⟨_, hcl, hcc⟩ := World.cells?_some h1
      obtain ⟨a0, hq, rfl⟩ := helem _ _ _ hcl h2
      refine ⟨a0, hq, hcl, fun j u hj => ?_⟩
      have hj' : j < k := by rw [← hcl]; exact (List.getElem?_eq_some_iff.1 hj).1
      rw [hcc j hj']
      exact hj
    obtain ⟨f, hf⟩ := Go.Deep.choose_lt hex
    refine ⟨_, (List.range len).map f, rfl, ⟨some a, cap, by simp, fun h => (by cases h), fun y hy => ?_⟩, fun b hb => ?_, .inr ⟨_, _, by rw [hx], by simp⟩⟩
    · cases hy
      refine cells_join (k := k) _ _ (fun b hb => ?_) (fun i b hi => ?_)
      · obtain ⟨i, hi, rfl⟩ := List.mem_map.1 hb
        exact (hf i (List.mem_range.1 hi)).2.1
      · have hil : i < len := by have := (List.getElem?_eq_some_iff.1 hi).1; simpa using this
        simp [hil] at hi
        subst hi
        exact (hf i hil).2.2
    · obtain ⟨i, hi, rfl⟩ := List.mem_map.1 hb
      have := hf i (List.mem_range.1 hi)
      exact ⟨this.1, this.2.1⟩

set_option maxRecDepth 100000 in
/-- Slots that came in, and how many there are. -/
theorem open_slots {b0 : Nat} {r : Reach} {v : Value} {d : DataW H} {p : List MemPlace} (hv : Value.okWide Try.prog w r b0 58 v) (h : DataW.Trod enc Try.prog w base spare held 58 v d p) (hw : ∀ n ∈ d.weights Try.prog 58, n ≤ reachBytes) :
    ∃ (a : Option Addr) (c : Nat) (s : List Int), v = .slice a s.length c ∧ RowAt slE w (.slice a s.length c) s := by
  obtain ⟨fuel, hf⟩ := h
  obtain ⟨v0, ps, e0, s0, q0, w0⟩ := open_row siv (fun _ => True) 1 Try.underlying58 Try.cellsInt (fun n cs x _ ht => by
    obtain ⟨z, hz, _, _⟩ := DataW.trod_int Try.underlying3 ht
    exact ⟨z, trivial, hz⟩) hf
  obtain ⟨a, c, rfl, s2, s3⟩ := s0
  obtain ⟨a1, l1, c1, rfl⟩ := okWide_slice Try.underlying58 hv
  have e1 : Value.slice a1 l1 c1 = .slice a ps.length c := by simpa [Value.cells] using e0
  cases e1
  refine ⟨a, c, ps, rfl, ⟨⟨a, c, rfl, s2, s3⟩, ?_⟩⟩
  rcases w0 with rfl | ⟨es, sp, he, hel⟩
  · show 0 * 8 ≤ _
    omega
  · have he' : d = .slice es sp := he
    have := hw ((es.length + sp.length) * Try.prog.bytesOf 3) (by rw [he']; simp [DataW.weights, Try.underlying58])
    rw [Try.bytesInt] at this
    unfold reachBytes at this
    show ps.length * 8 ≤ _
    omega

end
end Go.Proofs.Ytkkcanihnlpioab
