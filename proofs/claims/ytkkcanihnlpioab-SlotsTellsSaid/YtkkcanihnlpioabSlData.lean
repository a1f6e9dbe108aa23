/- Slots as data: their cells. -/
import Derived.Test.YtkkcanihnlpioabElts
namespace Go.Proofs.Ytkkcanihnlpioab
open Go.RowKit

def siv (z : Int) : List Value := [.int .i64 z]

theorem Try.infoInt : (Try.prog.info? 3).map (fun i => (i.zero, i.size, i.bytes)) = some (some (.int .i64 0), 1, 8) := by kernel_rfl

/-- Rows of numbers, as slots are. -/
def slE : Elt Int where
  enc := siv
  k := 1
  ty := 3
  st := 58
  bytes := 8
  zv := .int .i64 0
  zero := 0
  len := fun _ => rfl
  one := fun a u hu => by
    simp only [siv, List.mem_cons, List.not_mem_nil, or_false] at hu
    subst hu
    rfl
  und := Try.underlying58
  info := Try.infoInt
  zok := rfl
  few := by decide
  pos := by decide

def SlRows (w : World) (a : Option Addr) (l : List Int) : Prop := ∀ (j : Nat) x, l[j]? = some x → ∃ ad, a = some ad ∧ ∀ W, Grew w W → W.cell? (ad.add j) = some (.int .i64 x)

theorem RowAt.sls {w : World} {v : Value} {l : List Int} (h : RowAt slE w v l) : ∃ a c, v = .slice a l.length c ∧ SlRows w a l := by
  obtain ⟨a, c, h1, h2⟩ := h.rows
  refine ⟨a, c, h1, fun j x hj => ?_⟩
  obtain ⟨ad, h3, h4⟩ := h2 j x hj
  refine ⟨ad, h3, fun W hW => ?_⟩
  have := h4 W hW 0 _ rfl
  rw [add_add', show j * slE.k + 0 = j from by show j * 1 + 0 = j; omega] at this
  exact this

end Go.Proofs.Ytkkcanihnlpioab
