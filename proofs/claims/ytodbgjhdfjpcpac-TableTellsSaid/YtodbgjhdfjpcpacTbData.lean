/- Tables as data: their cells, rows of entries, how a table lies in memory, and when it stays as it is. -/
import Derived.Test.YtodbgjhdfjpcpacStay
import Derived.Test.YtodbgjhdfjpcpacTbPure
namespace Go.Proofs.Ytodbgjhdfjpcpac
open Go.RowKit

def env (e : En) : List Value := [.int .i64 e.kind, .int .i64 e.n, .bool e.wr]
theorem Try.infoEntry : (Try.prog.info? 57).map (fun i => (i.zero, i.size, i.bytes)) = some (some (.agg #[.int .i64 0, .int .i64 0, .bool false]), 3, 24) := by kernel_rfl

/-- Rows of entries. -/
def enE : Elt En where
  enc := env
  k := 3
  ty := 57
  st := 53
  bytes := 24
  zv := .agg #[.int .i64 0, .int .i64 0, .bool false]
  zero := en0
  len := fun _ => rfl
  one := fun a u hu => by
    simp only [env, List.mem_cons, List.not_mem_nil, or_false] at hu
    rcases hu with rfl | rfl | rfl <;> rfl
  und := Try.underlying53
  info := Try.infoEntry
  zok := rfl
  few := by decide
  pos := by decide

def niv (z : Int) : List Value := [.int .i64 z]
theorem Try.infoNum : (Try.prog.info? 3).map (fun i => (i.zero, i.size, i.bytes)) = some (some (.int .i64 0), 1, 8) := by kernel_rfl

/-- Rows of numbers. -/
def blE : Elt Int where
  enc := niv
  k := 1
  ty := 3
  st := 22
  bytes := 8
  zv := .int .i64 0
  zero := 0
  len := fun _ => rfl
  one := fun a u hu => by
    simp only [niv, List.mem_cons, List.not_mem_nil, or_false] at hu
    subst hu
    rfl
  und := Try.underlying22
  info := Try.infoNum
  zok := rfl
  few := by decide
  pos := by decide

def NumRows (w : World) (a : Option Addr) (l : List Int) : Prop := ∀ (j : Nat) x, l[j]? = some x → ∃ ad, a = some ad ∧ ∀ W, Grew w W → W.cell? (ad.add j) = some (.int .i64 x)
theorem RowAt.nums {w : World} {v : Value} {l : List Int} (h : RowAt blE w v l) : ∃ a c, v = .slice a l.length c ∧ NumRows w a l := by
  obtain ⟨a, c, h1, h2⟩ := h.rows
  refine ⟨a, c, h1, fun j x hj => ?_⟩
  obtain ⟨ad, h3, h4⟩ := h2 j x hj
  refine ⟨ad, h3, fun W hW => ?_⟩
  have := h4 W hW 0 _ rfl
  rw [add_add', show j * blE.k + 0 = j from by show j * 1 + 0 = j; omega] at this
  exact this

/-- The cells of an entry. -/
def EnCells (W : World) (y : Addr) (e : En) : Prop := W.cell? y = some (.int .i64 e.kind) ∧ W.cell? { block := y.block, off := y.off + 1 } = some (.int .i64 e.n) ∧ W.cell? { block := y.block, off := y.off + 2 } = some (.bool e.wr)
/-- What a walk over entries meets. -/
def EnRows (w : World) (a : Option Addr) (l : List En) : Prop := ∀ (j : Nat) e, l[j]? = some e → ∃ ad, a = some ad ∧ ∀ W, Grew w W → EnCells W (ad.add (j * 3)) e
theorem RowAt.ens {w : World} {v : Value} {l : List En} (h : RowAt enE w v l) : ∃ a c, v = .slice a l.length c ∧ EnRows w a l := by
  obtain ⟨a, c, h1, h2⟩ := h.rows
  refine ⟨a, c, h1, fun j x hj => ?_⟩
  obtain ⟨ad, h3, h4⟩ := h2 j x hj
  exact ⟨ad, h3, fun W hW => ⟨h4 W hW 0 _ rfl, h4 W hW 1 _ rfl, h4 W hW 2 _ rfl⟩⟩

/-- The table whose halves are vs: it stays, whatever is done from B0 to below B1. -/
structure TabS (B0 B1 : Nat) (w : World) (vs : List Value) (t : List (List En)) : Prop where
  len : vs.length = 8
  tlen : t.length = 8
  row : ∀ (i : Nat) v h, vs[i]? = some v → t[i]? = some h → RowS enE B0 B1 w v h
/-- The table whose halves are vs. -/
def TabAt (w : World) (vs : List Value) (t : List (List En)) : Prop := TabS 0 0 w vs t

theorem TabS.out {B0 B1 : Nat} {w w' : World} {vs : List Value} {t : List (List En)} (h : TabS B0 B1 w vs t) (k : Out B0 B1 w w') : TabS B0 B1 w' vs t := ⟨h.len, h.tlen, fun i v x hv hx => (h.row i v x hv hx).out k⟩
theorem TabS.grew {B0 B1 : Nat} {w w' : World} {vs : List Value} {t : List (List En)} (h : TabS B0 B1 w vs t) (k : Grew w w') : TabS B0 B1 w' vs t := h.out (Out.grew k)
theorem TabS.less {A0 A1 B0 B1 : Nat} {w : World} {vs : List Value} {t : List (List En)} (h : TabS B0 B1 w vs t) (h0 : B0 ≤ A0) (h1 : A1 ≤ B1) : TabS A0 A1 w vs t := ⟨h.len, h.tlen, fun i v x hv hx => (h.row i v x hv hx).less h0 h1⟩
theorem TabS.now {B0 B1 : Nat} {w : World} {vs : List Value} {t : List (List En)} (h : TabS B0 B1 w vs t) : TabAt w vs t := ⟨h.len, h.tlen, fun i v x hv hx => (h.row i v x hv hx).now.s0⟩
theorem TabAt.grew {w w' : World} {vs : List Value} {t : List (List En)} (h : TabAt w vs t) (k : Grew w w') : TabAt w' vs t := TabS.grew h k
theorem TabAt.stays {B0 : Nat} (B1 : Nat) {w W : World} {vs : List Value} {t : List (List En)} (h : TabAt w vs t) (hB : w.heap.size ≤ B0) (hg : Grew w W) : TabS B0 B1 W vs t := ⟨h.len, h.tlen, fun i v x hv hx => (h.row i v x hv hx).now.stays B1 hB hg⟩

def nil8 : List Value := List.replicate 8 (.slice none 0 0)
theorem TabS.nil (B0 B1 : Nat) (w : World) : TabS B0 B1 w nil8 none8 := ⟨rfl, rfl, fun i v h hv hh => by
  have h1 := List.mem_of_getElem? hv
  have h2 := List.mem_of_getElem? hh
  rw [nil8, List.mem_replicate] at h1
  rw [none8, List.mem_replicate] at h2
  rw [h1.2, h2.2]
  exact fun w' _ => RowAt.nil enE w'⟩

/-- One half. -/
theorem TabAt.half {w : World} {vs : List Value} {t : List (List En)} (h : TabAt w vs t) {i : Nat} (hi : i < 8) : ∃ a c x, t[i]? = some x ∧ vs[i]? = some (.slice a x.length c) ∧ RowAt enE w (.slice a x.length c) x := by
  obtain ⟨v, hv⟩ : ∃ v, vs[i]? = some v := ⟨_, List.getElem?_eq_getElem (by rw [h.len]; exact hi)⟩
  obtain ⟨x, hx⟩ : ∃ x, t[i]? = some x := ⟨_, List.getElem?_eq_getElem (by rw [h.tlen]; exact hi)⟩
  have hr := (h.row i v x hv hx).now
  obtain ⟨a, c, rfl, _⟩ := hr.rows
  exact ⟨a, c, x, hx, hv, hr⟩

/-- Eight. -/
theorem eight {α : Type} : ∀ {l : List α}, l.length = 8 → ∃ a b c d e f g h, l = [a, b, c, d, e, f, g, h]
  | [a, b, c, d, e, f, g, h], _ => ⟨a, b, c, d, e, f, g, h, rfl⟩

end Go.Proofs.Ytodbgjhdfjpcpac
