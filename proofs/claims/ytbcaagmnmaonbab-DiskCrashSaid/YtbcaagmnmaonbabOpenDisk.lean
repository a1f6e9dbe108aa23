/- How a disk, a page and numbers that came in are read. -/
import Derived.Test.YtbcaagmnmaonbabRows
import Derived.Test.YtbcaagmnmaonbabMem
import Derived.WalkKit
import Derived.ProofKit
import Derived.OpenShut
import Derived.ShutString
import Derived.ChangeOld
import Derived.Below
import Derived.Carry
import Derived.SizedLaws
import Derived.Deep.Slices
namespace Go.Proofs.Ytbcaagmnmaonbab
open Go.ChangeShapes Go.WideShapes Go.ChangeAt Go.RowKit

theorem Try.cellsPage : Try.prog.cellsOf 31 = 8 := by kernel_rfl
theorem Try.cellsU8 : Try.prog.cellsOf 5 = 1 := by kernel_rfl
theorem Try.cellsPut : Try.prog.cellsOf 35 = 9 := by kernel_rfl
theorem Try.cellsDisk : Try.prog.cellsOf 25 = 2 := by kernel_rfl
theorem Try.cellsPages : Try.prog.cellsOf 22 = 1 := by kernel_rfl
theorem Try.cellsPuts : Try.prog.cellsOf 23 = 1 := by kernel_rfl
theorem Try.cellsInt : Try.prog.cellsOf 3 = 1 := by kernel_rfl
theorem Try.bytesPage : Try.prog.bytesOf 31 = 8 := by kernel_rfl
theorem Try.bytesPut : Try.prog.bytesOf 35 = 16 := by kernel_rfl

section
variable {H : Type} {enc : TypeId × Value → H} {w : World} {base : Nat} {spare : Nat → Bool} {held : Bool}

theorem trod_page {fuel : Nat} {cs : List Value} {x : DataW H × List MemPlace} (h : DataW.trod enc Try.prog w base spare held fuel 31 cs = some x) (hl8 : cs.length = 8) : ∃ l : List Int, l.length = 8 ∧ cs = pgc l := by
  obtain ⟨xs, m, _, _, hlen, hl, hel⟩ := DataW.trod_array Try.underlying31 h
  have key : ∀ i, i < 8 → ∃ x, cs[i]? = some (.int .u8 x) := fun i hi => by
    have h1 := hel i hi
    rw [List.getElem?_eq_getElem (by omega)] at h1
    obtain ⟨x, hx, _, _⟩ := DataW.trod_int Try.underlying5 h1
    refine ⟨x, ?_⟩
    rw [Try.cellsU8] at hx
    have : ((cs.drop (i * 1)).take 1)[0]? = some (.int .u8 x) := by
      have e2 : ((cs.drop (i * 1)).take 1) = [.int .u8 x] := by simpa using hx
      rw [e2]; rfl
    rw [List.getElem?_take_of_lt (by omega), List.getElem?_drop] at this
    simpa using this
  refine ⟨cs.map fun c => match c with | .int _ x => x | _ => 0, by simpa using hl8, ?_⟩
  apply List.ext_getElem?
  intro i
  rcases Nat.lt_or_ge i 8 with hi | hi
  · obtain ⟨x, hx⟩ := key i hi
    simp [pgc, hx]
  · rw [List.getElem?_eq_none (by omega), List.getElem?_eq_none (by simp [pgc]; omega)]

theorem trod_put {fuel : Nat} {cs : List Value} {x : DataW H × List MemPlace} (h : DataW.trod enc Try.prog w base spare held fuel 35 cs = some x) : ∃ q : Int × List Int, q.2.length = 8 ∧ cs = ptc q := by
  obtain ⟨xs, n, _, _, hlen, hl, hf⟩ := DataW.trod_struct Try.underlying35 h
  rw [Try.cellsPut] at hlen
  have hxl : xs.length = 2 := hl
  have h0 : DataW.trod enc Try.prog w base spare held n 3 ((cs.drop 0).take (Try.prog.cellsOf 3)) = xs[0]? := hf 0 _ rfl
  have h1 : DataW.trod enc Try.prog w base spare held n 31 ((cs.drop 1).take (Try.prog.cellsOf 31)) = xs[1]? := hf 1 _ rfl
  rw [Try.cellsInt, List.drop_zero] at h0
  rw [Try.cellsPage] at h1
  rw [List.getElem?_eq_getElem (by omega)] at h0 h1
  obtain ⟨m, hm, _, _⟩ := DataW.trod_int Try.underlying3 h0
  obtain ⟨l, hl8, hcl⟩ := trod_page h1 (by simp; omega)
  refine ⟨(m, l), hl8, ?_⟩
  cases cs with
  | nil => simp at hlen
  | cons c r =>
    simp at hm
    subst hm
    show _ = Value.int .i64 m :: pgc l
    rw [← hcl]
    simp at hlen
    simp only [List.drop_succ_cons, List.drop_zero]
    rw [List.take_of_length_le (by omega)]

theorem cells_join {α : Type} {enc0 : α → List Value} {k : Nat} : ∀ (l : List α) (x : Addr), (∀ a ∈ l, (enc0 a).length = k) → (∀ (i : Nat) a, l[i]? = some a → Cells w (x.add (i * k)) (enc0 a)) → Cells w x (l.flatMap enc0)
  | [], x, _, _ => fun j u hj => by simp at hj
  | a :: l, x, hk, h => fun j u hj => by
    rw [List.flatMap_cons] at hj
    have ha := hk a (by simp)
    rcases Nat.lt_or_ge j k with hjk | hjk
    · rw [List.getElem?_append_left (by omega)] at hj
      have := h 0 a rfl j u hj
      rw [add_add'] at this
      simpa using this
    · rw [List.getElem?_append_right (by omega), ha] at hj
      have ih := cells_join l (x.add k) (fun b hb => hk b (by simp [hb])) (fun i b hi => by
        have := h (i + 1) b (by simpa using hi)
        rw [add_add']
        rw [show k + i * k = (i + 1) * k by rw [Nat.add_mul]; omega]
        exact this) (j - k) u hj
      rw [add_add', show k + (j - k) = j by omega] at ih
      exact ih

theorem open_row {α : Type} [Inhabited α] (enc0 : α → List Value) (Q : α → Prop) (k : Nat) {t e : TypeId} (hu : Try.prog.underlying t = some (.slice e)) (hk : Try.prog.cellsOf e = k) (helem : ∀ n cs (x : DataW H × List MemPlace), cs.length = k → DataW.trod enc Try.prog w base spare held n e cs = some x → ∃ a, Q a ∧ cs = enc0 a)
    {fuel : Nat} {cs : List Value} {x : DataW H × List MemPlace} (h : DataW.trod enc Try.prog w base spare held fuel t cs = some x) :
    ∃ v l, cs = [v] ∧ SliceAt enc0 w v l ∧ (∀ a ∈ l, Q a ∧ (enc0 a).length = k) ∧ (l = [] ∨ ∃ es sp, x.1 = .slice es sp ∧ es.length = l.length) := by
  rcases Go.Deep.open_slice hu h with ⟨rfl, _⟩ | ⟨a, len, cap, m, n, D, Pl, rfl, hb, hl, hm, hm', hx, hel⟩
  · exact ⟨_, [], rfl, ⟨none, 0, rfl, fun _ => rfl, fun x hx => by cases hx⟩, by simp, .inl rfl⟩
  · have hlm : len ≤ m := by rw [hm']; split <;> omega
    have hex : ∀ i, i < len → ∃ a0, Q a0 ∧ (enc0 a0).length = k ∧ Cells w (a.add (i * k)) (enc0 a0) := fun i hi => by
      obtain ⟨cs', h1, h2⟩ := hel i (by omega)
      rw [hk] at h1
      obtain ⟨_, hcl, hcc⟩ := World.cells?_some h1
      obtain ⟨a0, hq, rfl⟩ := helem _ _ _ hcl h2
      refine ⟨a0, hq, hcl, fun j u hj => ?_⟩
      have hj' : j < k := by rw [← hcl]; exact (List.getElem?_eq_some_iff.1 hj).1
      rw [hcc j hj']
      exact hj
    obtain ⟨f, hf⟩ := Go.Deep.choose_lt hex
    refine ⟨_, (List.range len).map f, rfl, ⟨some a, cap, by simp, fun h => (by cases h), fun y hy => ?_⟩, fun b hb => ?_, .inr ⟨_, _, by rw [hx], by simp⟩⟩
    · cases hy
      refine cells_join (k := k) _ _ (fun b hb => ?_) (fun i b hi => ?_)
      · obtain ⟨i, hi, rfl⟩ := List.mem_map.1 hb
        exact (hf i (List.mem_range.1 hi)).2.1
      · have hil : i < len := by have := (List.getElem?_eq_some_iff.1 hi).1; simpa using this
        simp [hil] at hi
        subst hi
        exact (hf i hil).2.2
    · obtain ⟨i, hi, rfl⟩ := List.mem_map.1 hb
      have := hf i (List.mem_range.1 hi)
      exact ⟨this.1, this.2.1⟩

/-- A disk that came in, and how great it is. -/
theorem open_disk {b0 : Nat} {r : Reach} {v : Value} {d : DataW H} {p : List MemPlace} (hv : Value.okWide Try.prog w r b0 25 v) (h : DataW.Trod enc Try.prog w base spare held 25 v d p) (hw : ∀ n ∈ d.weights Try.prog 25, n ≤ reachBytes) :
    ∃ ps qs, DiskAt w v ps qs := by
  obtain ⟨cs, rfl, hsz, _⟩ : ∃ cs, v = .agg cs ∧ cs.size = Try.prog.cellsOf 25 ∧ Row.okWide Try.prog w r b0 25 cs := by
    simpa [Value.okWide, Try.underlying25] using hv
  obtain ⟨fuel, hf⟩ := h
  obtain ⟨xs, n, _, hx, hlen, hl, hfs⟩ := DataW.trod_struct Try.underlying25 hf
  have hxl : xs.length = 2 := hl
  rw [Try.cellsDisk] at hsz
  obtain ⟨cs⟩ := cs
  have hcl : cs.length = 2 := by simpa using hsz
  obtain ⟨c0, c1, rfl⟩ : ∃ c0 c1, cs = [c0, c1] := by
    match cs, hcl with
    | [c0, c1], _ => exact ⟨c0, c1, rfl⟩
  obtain ⟨x0, x1, rfl⟩ : ∃ x0 x1, xs = [x0, x1] := by
    match xs, hxl with
    | [x0, x1], _ => exact ⟨x0, x1, rfl⟩
  have h0 : DataW.trod enc Try.prog w base spare held n 22 (([c0, c1].drop 0).take (Try.prog.cellsOf 22)) = some x0 := hfs 0 _ rfl
  have h1 : DataW.trod enc Try.prog w base spare held n 23 (([c0, c1].drop 1).take (Try.prog.cellsOf 23)) = some x1 := hfs 1 _ rfl
  rw [Try.cellsPages] at h0
  rw [Try.cellsPuts] at h1
  haveI : Inhabited (Int × List Int) := ⟨(0, [])⟩
  obtain ⟨v0, ps, e0, s0, q0, w0⟩ := open_row pgc (fun p => p.length = 8) 8 Try.underlying22 Try.cellsPage (fun n cs x hc ht => by obtain ⟨l, hl, rfl⟩ := trod_page ht hc; exact ⟨l, hl, rfl⟩) h0
  obtain ⟨v1, qs, e1, s1, q1, w1⟩ := open_row ptc (fun q => q.2.length = 8) 9 Try.underlying23 Try.cellsPut (fun n cs x _ ht => trod_put ht) h1
  cases e0
  cases e1
  have hd : d = .agg [x0.1, x1.1] := by have := congrArg Prod.fst hx; simpa using this
  subst hd
  have hwt : ∀ n, n ∈ x0.1.weights Try.prog 22 ∨ n ∈ x1.1.weights Try.prog 23 → n ≤ reachBytes := fun n hn => hw n (by
    simp only [DataW.weights, Try.underlying25]
    simp [DataW.weightsEach]
    exact hn)
  refine ⟨ps, qs, _, _, rfl, ⟨s0, fun p hp => (q0 p hp).1, ?_⟩, ⟨s1, fun q hq => (q1 q hq).1, ?_⟩⟩
  · rcases w0 with rfl | ⟨es, sp, he, hel⟩
    · simp
    · have := hwt ((es.length + sp.length) * Try.prog.bytesOf 31) (.inl (by rw [he]; simp [DataW.weights, Try.underlying22]))
      rw [Try.bytesPage] at this
      unfold reachBytes at this
      omega
  · rcases w1 with rfl | ⟨es, sp, he, hel⟩
    · simp
    · have := hwt ((es.length + sp.length) * Try.prog.bytesOf 35) (.inr (by rw [he]; simp [DataW.weights, Try.underlying23]))
      rw [Try.bytesPut] at this
      unfold reachBytes at this
      omega

/-- A page that came in. -/
theorem open_page {b0 : Nat} {r : Reach} {v : Value} {d : DataW H} {p : List MemPlace} (hv : Value.okWide Try.prog w r b0 31 v) (h : DataW.Trod enc Try.prog w base spare held 31 v d p) : ∃ l : List Int, l.length = 8 ∧ v = .agg (pgc l).toArray := by
  obtain ⟨cs, rfl, hsz, _⟩ : ∃ cs, v = .agg cs ∧ cs.size = Try.prog.cellsOf 31 ∧ Row.okWide Try.prog w r b0 31 cs := by
    simpa [Value.okWide, Try.underlying31] using hv
  obtain ⟨fuel, hf⟩ := h
  rw [Try.cellsPage] at hsz
  obtain ⟨l, hl, hcs⟩ := trod_page hf (by simpa [Value.cells] using hsz)
  refine ⟨l, hl, ?_⟩
  simp only [Value.cells] at hcs
  rw [← hcs]

end
end Go.Proofs.Ytbcaagmnmaonbab
