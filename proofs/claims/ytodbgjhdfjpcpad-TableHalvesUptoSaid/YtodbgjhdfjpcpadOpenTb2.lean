/- How lists of numbers that came in are read, and how long they are. -/
import Derived.Test.YtodbgjhdfjpcpadOpenTb
namespace Go.Proofs.Ytodbgjhdfjpcpad
open Go.ChangeShapes Go.WideShapes Go.ChangeAt Go.RowKit

theorem bulk_pos {H : Type} (d : DataW H) : 0 < Rows.uptoBulk d := by
  cases d with
  | lit l => cases l <;> simp [Rows.uptoBulk]
  | nil => simp [Rows.uptoBulk]
  | ptr d => simp [Rows.uptoBulk]
  | slice elems spare => simp [Rows.uptoBulk]
  | agg parts => simp [Rows.uptoBulk]
  | iface t d => simp [Rows.uptoBulk]
  | map entries => simp [Rows.uptoBulk]
  | held h => simp [Rows.uptoBulk]
theorem bulk_len {H : Type} : ∀ l : List (DataW H), l.length ≤ Rows.uptoBulkAll l
  | [] => Nat.zero_le _
  | d :: l => by
    have h1 := bulk_pos d
    have h2 := bulk_len l
    simp only [Rows.uptoBulkAll, List.length_cons]
    omega
theorem two_short {H : Type} {a b : DataW H} {m n : Nat} (ha : m ≤ Rows.uptoBulk a) (hb : n ≤ Rows.uptoBulk b) (hk : Rows.uptoSmall H [a, b] = true) : m ≤ 1048576 ∧ n ≤ 1048576 := by
  have h : Rows.uptoBulkAll [a, b] ≤ 1048576 := of_decide_eq_true hk
  simp only [Rows.uptoBulkAll] at h
  omega

section
variable {H : Type} {enc : TypeId × Value → H} {w : World} {base : Nat} {spare : Nat → Bool} {held : Bool}
set_option maxRecDepth 100000 in
/-- A list of numbers that came in. -/
theorem open_list {b0 : Nat} {r : Reach} {v : Value} {d : DataW H} {p : List MemPlace} (hv : Value.okWide Try.prog w r b0 22 v) (h : DataW.Trod enc Try.prog w base spare held 22 v d p) (hw : ∀ n ∈ d.weights Try.prog 22, n ≤ reachBytes) :
    ∃ (a : Option Addr) (c : Nat) (s : List Int), v = .slice a s.length c ∧ RowAt blE w (.slice a s.length c) s ∧ s.length ≤ Rows.uptoBulk d := by
  obtain ⟨fuel, hf⟩ := h
  obtain ⟨v0, ps, e0, s0, q0, w0⟩ := open_row niv (fun _ => True) 1 Try.underlying22 Try.cellsInt (fun n cs x _ ht => by
    obtain ⟨z, hz, _, _⟩ := DataW.trod_int Try.underlying3 ht
    exact ⟨z, trivial, hz⟩) hf
  obtain ⟨a, c, rfl, s2, s3⟩ := s0
  obtain ⟨a1, l1, c1, rfl⟩ := okWide_slice Try.underlying22 hv
  have e1 : Value.slice a1 l1 c1 = .slice a ps.length c := by simpa [Value.cells] using e0
  cases e1
  rcases w0 with rfl | ⟨es, sp, he, hel⟩
  · refine ⟨a, c, [], rfl, ⟨⟨a, c, rfl, s2, s3⟩, ?_⟩, Nat.zero_le _⟩
    show 0 * 8 ≤ _
    omega
  · have he' : d = .slice es sp := he
    have := hw ((es.length + sp.length) * Try.prog.bytesOf 3) (by rw [he']; simp [DataW.weights, Try.underlying22])
    rw [Try.bytesInt] at this
    unfold reachBytes at this
    refine ⟨a, c, ps, rfl, ⟨⟨a, c, rfl, s2, s3⟩, ?_⟩, ?_⟩
    · show ps.length * 8 ≤ _
      omega
    · have h1 := bulk_len es
      rw [he']
      simp only [Rows.uptoBulk]
      omega

end
end Go.Proofs.Ytodbgjhdfjpcpad
