/- How a memory, a page and numbers that came in are read. -/
import Derived.Test.YtbcaagmnmaonbabRows
import Derived.Test.YtbcaagmnmaonbabFr
import Derived.WalkKit
import Derived.ProofKit
import Derived.OpenShut
import Derived.ShutString
import Derived.ChangeOld
import Derived.Below
import Derived.Carry
import Derived.SizedLaws
import Derived.Deep.Slices
namespace Go.Proofs.Ytbcaagmnmaonbab
open Go.ChangeShapes Go.WideShapes Go.ChangeAt Go.RowKit

theorem Try.cellsPage : Try.prog.cellsOf 31 = 8 := by kernel_rfl
theorem Try.cellsU8 : Try.prog.cellsOf 5 = 1 := by kernel_rfl
theorem Try.cellsFrame : Try.prog.cellsOf 47 = 13 := by kernel_rfl
theorem Try.cellsMem : Try.prog.cellsOf 39 = 2 := by kernel_rfl
theorem Try.cellsFrames : Try.prog.cellsOf 37 = 1 := by kernel_rfl
theorem Try.cellsInt : Try.prog.cellsOf 3 = 1 := by kernel_rfl
theorem Try.cellsBool : Try.prog.cellsOf 4 = 1 := by kernel_rfl
theorem Try.bytesFrame : Try.prog.bytesOf 47 = 40 := by kernel_rfl

section
variable {H : Type} {enc : TypeId × Value → H} {w : World} {base : Nat} {spare : Nat → Bool} {held : Bool}

theorem trod_page {fuel : Nat} {cs : List Value} {x : DataW H × List MemPlace} (h : DataW.trod enc Try.prog w base spare held fuel 31 cs = some x) (hl8 : cs.length = 8) : ∃ p : Pg, cs = pgv p := by
  obtain ⟨xs, m, _, _, hlen, hl, hel⟩ := DataW.trod_array Try.underlying31 h
  have key : ∀ i, i < 8 → ∃ x, cs[i]? = some (.int .u8 x) := fun i hi => by
    have h1 := hel i hi
    rw [List.getElem?_eq_getElem (by omega)] at h1
    obtain ⟨x, hx, _, _⟩ := DataW.trod_int Try.underlying5 h1
    refine ⟨x, ?_⟩
    rw [Try.cellsU8] at hx
    have : ((cs.drop (i * 1)).take 1)[0]? = some (.int .u8 x) := by
      have e2 : ((cs.drop (i * 1)).take 1) = [.int .u8 x] := by simpa using hx
      rw [e2]; rfl
    rw [List.getElem?_take_of_lt (by omega), List.getElem?_drop] at this
    simpa using this
  obtain ⟨c0, c1, c2, c3, c4, c5, c6, c7, rfl⟩ : ∃ c0 c1 c2 c3 c4 c5 c6 c7, cs = [c0, c1, c2, c3, c4, c5, c6, c7] := by
    match cs, hl8 with
    | [c0, c1, c2, c3, c4, c5, c6, c7], _ => exact ⟨c0, c1, c2, c3, c4, c5, c6, c7, rfl⟩
  obtain ⟨x0, h0⟩ := key 0 (by omega)
  obtain ⟨x1, h1⟩ := key 1 (by omega)
  obtain ⟨x2, h2⟩ := key 2 (by omega)
  obtain ⟨x3, h3⟩ := key 3 (by omega)
  obtain ⟨x4, h4⟩ := key 4 (by omega)
  obtain ⟨x5, h5⟩ := key 5 (by omega)
  obtain ⟨x6, h6⟩ := key 6 (by omega)
  obtain ⟨x7, h7⟩ := key 7 (by omega)
  simp only [List.getElem?_cons_succ, List.getElem?_cons_zero, Option.some.injEq] at h0 h1 h2 h3 h4 h5 h6 h7
  subst h0 h1 h2 h3 h4 h5 h6 h7
  exact ⟨⟨x0, x1, x2, x3, x4, x5, x6, x7⟩, rfl⟩

theorem trod_frame {fuel : Nat} {cs : List Value} {x : DataW H × List MemPlace} (h : DataW.trod enc Try.prog w base spare held fuel 47 cs = some x) : ∃ q : Fr, cs = frv q := by
  obtain ⟨xs, n, _, _, hlen, hl, hf⟩ := DataW.trod_struct Try.underlying47 h
  rw [Try.cellsFrame] at hlen
  have hxl : xs.length = 6 := hl
  have h0 : DataW.trod enc Try.prog w base spare held n 31 ((cs.drop 0).take (Try.prog.cellsOf 31)) = xs[0]? := hf 0 _ rfl
  have h1 : DataW.trod enc Try.prog w base spare held n 3 ((cs.drop 8).take (Try.prog.cellsOf 3)) = xs[1]? := hf 1 _ rfl
  have h2 : DataW.trod enc Try.prog w base spare held n 4 ((cs.drop 9).take (Try.prog.cellsOf 4)) = xs[2]? := hf 2 _ rfl
  have h3 : DataW.trod enc Try.prog w base spare held n 4 ((cs.drop 10).take (Try.prog.cellsOf 4)) = xs[3]? := hf 3 _ rfl
  have h4 : DataW.trod enc Try.prog w base spare held n 3 ((cs.drop 11).take (Try.prog.cellsOf 3)) = xs[4]? := hf 4 _ rfl
  have h5 : DataW.trod enc Try.prog w base spare held n 3 ((cs.drop 12).take (Try.prog.cellsOf 3)) = xs[5]? := hf 5 _ rfl
  rw [Try.cellsPage] at h0
  rw [Try.cellsInt] at h1 h4 h5
  rw [Try.cellsBool] at h2 h3
  rw [List.getElem?_eq_getElem (by omega)] at h0 h1 h2 h3 h4 h5
  obtain ⟨p, hp⟩ := trod_page h0 (by simp; omega)
  obtain ⟨r, hr, _, _⟩ := DataW.trod_int Try.underlying3 h1
  obtain ⟨u, hu, _⟩ := DataW.trod_bool Try.underlying4 h2
  obtain ⟨d, hd, _⟩ := DataW.trod_bool Try.underlying4 h3
  obtain ⟨f, hff, _, _⟩ := DataW.trod_int Try.underlying3 h4
  obtain ⟨x, hx, _, _⟩ := DataW.trod_int Try.underlying3 h5
  obtain ⟨c0, c1, c2, c3, c4, c5, c6, c7, c8, c9, c10, c11, c12, rfl⟩ : ∃ c0 c1 c2 c3 c4 c5 c6 c7 c8 c9 c10 c11 c12, cs = [c0, c1, c2, c3, c4, c5, c6, c7, c8, c9, c10, c11, c12] := by
    match cs, hlen with
    | [c0, c1, c2, c3, c4, c5, c6, c7, c8, c9, c10, c11, c12], _ => exact ⟨c0, c1, c2, c3, c4, c5, c6, c7, c8, c9, c10, c11, c12, rfl⟩
  simp only [List.drop_succ_cons, List.drop_zero, List.take_succ_cons, List.take_zero, List.cons.injEq, and_true] at hr hu hd hff hx
  subst hr hu hd hff hx
  simp only [List.drop_zero, List.take_succ_cons, List.take_zero, pgv, List.cons.injEq, and_true] at hp
  obtain ⟨rfl, rfl, rfl, rfl, rfl, rfl, rfl, rfl⟩ := hp
  exact ⟨⟨p, r, u, d, f, x⟩, rfl⟩

theorem cells_join {α : Type} {enc0 : α → List Value} {k : Nat} : ∀ (l : List α) (x : Addr), (∀ a ∈ l, (enc0 a).length = k) → (∀ (i : Nat) a, l[i]? = some a → Cells w (x.add (i * k)) (enc0 a)) → Cells w x (l.flatMap enc0)
  | [], x, _, _ => fun j u hj => by simp at hj
  | a :: l, x, hk, h => fun j u hj => by
    rw [List.flatMap_cons] at hj
    have ha := hk a (by simp)
    rcases Nat.lt_or_ge j k with hjk | hjk
    · rw [List.getElem?_append_left (by omega)] at hj
      have := h 0 a rfl j u hj
      rw [add_add'] at this
      simpa using this
    · rw [List.getElem?_append_right (by omega), ha] at hj
      have ih := cells_join l (x.add k) (fun b hb => hk b (by simp [hb])) (fun i b hi => by
        have := h (i + 1) b (by simpa using hi)
        rw [add_add']
        rw [show k + i * k = (i + 1) * k by rw [Nat.add_mul]; omega]
        exact this) (j - k) u hj
      rw [add_add', show k + (j - k) = j by omega] at ih
      exact ih

theorem open_row {α : Type} [Inhabited α] (enc0 : α → List Value) (Q : α → Prop) (k : Nat) {t e : TypeId} (hu : Try.prog.underlying t = some (.slice e)) (hk : Try.prog.cellsOf e = k) (helem : ∀ n cs (x : DataW H × List MemPlace), cs.length = k → DataW.trod enc Try.prog w base spare held n e cs = some x → ∃ a, Q a ∧ cs = enc0 a)
    {fuel : Nat} {cs : List Value} {x : DataW H × List MemPlace} (h : DataW.trod enc Try.prog w base spare held fuel t cs = some x) :
    ∃ v l, cs = [v] ∧ SliceAt enc0 w v l ∧ (∀ a ∈ l, Q a ∧ (enc0 a).length = k) ∧ (l = [] ∨ ∃ es sp, x.1 = .slice es sp ∧ es.length = l.length) := by
  rcases Go.Deep.open_slice hu h with ⟨rfl, _⟩ | ⟨a, len, cap, m, n, D, Pl, rfl, hb, hl, hm, hm', hx, hel⟩
  · exact ⟨_, [], rfl, ⟨none, 0, rfl, fun _ => rfl, fun x hx => by cases hx⟩, by simp, .inl rfl⟩
  · have hlm : len ≤ m := by rw [hm']; split <;> omega
    have hex : ∀ i, i < len → ∃ a0, Q a0 ∧ (enc0 a0).length = k ∧ Cells w (a.add (i * k)) (enc0 a0) := fun i hi => by
      obtain ⟨cs', h1, h2⟩ := hel i (by omega)
      rw [hk] at h1
      obtain ⟨_, hcl, hcc⟩ := World.cells?_some h1
      obtain ⟨a0, hq, rfl⟩ := helem _ _ _ hcl h2
      refine ⟨a0, hq, hcl, fun j u hj => ?_⟩
      have hj' : j < k := by rw [← hcl]; exact (List.getElem?_eq_some_iff.1 hj).1
      rw [hcc j hj']
      exact hj
    obtain ⟨f, hf⟩ := Go.Deep.choose_lt hex
    refine ⟨_, (List.range len).map f, rfl, ⟨some a, cap, by simp, fun h => (by cases h), fun y hy => ?_⟩, fun b hb => ?_, .inr ⟨_, _, by rw [hx], by simp⟩⟩
    · cases hy
      refine cells_join (k := k) _ _ (fun b hb => ?_) (fun i b hi => ?_)
      · obtain ⟨i, hi, rfl⟩ := List.mem_map.1 hb
        exact (hf i (List.mem_range.1 hi)).2.1
      · have hil : i < len := by have := (List.getElem?_eq_some_iff.1 hi).1; simpa using this
        simp [hil] at hi
        subst hi
        exact (hf i hil).2.2
    · obtain ⟨i, hi, rfl⟩ := List.mem_map.1 hb
      have := hf i (List.mem_range.1 hi)
      exact ⟨this.1, this.2.1⟩

/-- A memory that came in, and how great it is. -/
theorem open_mem {b0 : Nat} {r : Reach} {v : Value} {d : DataW H} {p : List MemPlace} (hv : Value.okWide Try.prog w r b0 39 v) (h : DataW.Trod enc Try.prog w base spare held 39 v d p) (hw : ∀ n ∈ d.weights Try.prog 39, n ≤ reachBytes) :
    ∃ (a : Option Addr) (c : Nat) (fs : List Fr) (h : Int), v = .agg #[.slice a fs.length c, .int .i64 h] ∧ RowAt w (.slice a fs.length c) fs := by
  obtain ⟨cs, rfl, hsz, _⟩ : ∃ cs, v = .agg cs ∧ cs.size = Try.prog.cellsOf 39 ∧ Row.okWide Try.prog w r b0 39 cs := by
    simpa [Value.okWide, Try.underlying39] using hv
  obtain ⟨fuel, hf⟩ := h
  obtain ⟨xs, n, _, hx, hlen, hl, hfs⟩ := DataW.trod_struct Try.underlying39 hf
  have hxl : xs.length = 2 := hl
  rw [Try.cellsMem] at hsz
  obtain ⟨cs⟩ := cs
  have hcl : cs.length = 2 := by simpa using hsz
  obtain ⟨c0, c1, rfl⟩ : ∃ c0 c1, cs = [c0, c1] := by
    match cs, hcl with
    | [c0, c1], _ => exact ⟨c0, c1, rfl⟩
  obtain ⟨x0, x1, rfl⟩ : ∃ x0 x1, xs = [x0, x1] := by
    match xs, hxl with
    | [x0, x1], _ => exact ⟨x0, x1, rfl⟩
  have h0 : DataW.trod enc Try.prog w base spare held n 37 (([c0, c1].drop 0).take (Try.prog.cellsOf 37)) = some x0 := hfs 0 _ rfl
  have h1 : DataW.trod enc Try.prog w base spare held n 3 (([c0, c1].drop 1).take (Try.prog.cellsOf 3)) = some x1 := hfs 1 _ rfl
  rw [Try.cellsFrames] at h0
  rw [Try.cellsInt] at h1
  haveI : Inhabited Fr := ⟨fr0⟩
  obtain ⟨v0, ps, e0, s0, q0, w0⟩ := open_row frv (fun _ => True) 13 Try.underlying37 Try.cellsFrame (fun n cs x _ ht => by obtain ⟨q, rfl⟩ := trod_frame ht; exact ⟨q, trivial, rfl⟩) h0
  obtain ⟨m, hm, _, _⟩ := DataW.trod_int Try.underlying3 h1
  cases e0
  cases hm
  have hd : d = .agg [x0.1, x1.1] := by have := congrArg Prod.fst hx; simpa using this
  subst hd
  have hwt : ∀ n, n ∈ x0.1.weights Try.prog 37 → n ≤ reachBytes := fun n hn => hw n (by
    simp only [DataW.weights, Try.underlying39]
    simp [DataW.weightsEach]
    exact .inl hn)
  obtain ⟨a, c, rfl, s2, s3⟩ := s0
  refine ⟨a, c, ps, m, rfl, ⟨⟨a, c, rfl, s2, s3⟩, ?_⟩⟩
  rcases w0 with rfl | ⟨es, sp, he, hel⟩
  · show 0 * 40 ≤ _
    omega
  · have := hwt ((es.length + sp.length) * Try.prog.bytesOf 47) (by rw [he]; simp [DataW.weights, Try.underlying37])
    rw [Try.bytesFrame] at this
    unfold reachBytes at this
    show ps.length * 40 ≤ _
    omega

/-- A page that came in. -/
theorem open_page {b0 : Nat} {r : Reach} {v : Value} {d : DataW H} {p : List MemPlace} (hv : Value.okWide Try.prog w r b0 31 v) (h : DataW.Trod enc Try.prog w base spare held 31 v d p) : ∃ l : Pg, v = .agg (pgv l).toArray := by
  obtain ⟨cs, rfl, hsz, _⟩ : ∃ cs, v = .agg cs ∧ cs.size = Try.prog.cellsOf 31 ∧ Row.okWide Try.prog w r b0 31 cs := by
    simpa [Value.okWide, Try.underlying31] using hv
  obtain ⟨fuel, hf⟩ := h
  rw [Try.cellsPage] at hsz
  obtain ⟨l, hcs⟩ := trod_page hf (by simpa [Value.cells] using hsz)
  refine ⟨l, ?_⟩
  simp only [Value.cells] at hcs
  rw [← hcs]

end
end Go.Proofs.Ytbcaagmnmaonbab
