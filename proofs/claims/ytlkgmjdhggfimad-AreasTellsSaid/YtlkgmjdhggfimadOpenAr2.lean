/- Areas that came in are no more than there is room for behind them. -/
import Derived.Test.YtlkgmjdhggfimadOpenAr
namespace Go.Proofs.Ytlkgmjdhggfimad
open Go.ChangeShapes Go.WideShapes Go.ChangeAt Go.RowKit

section
variable {H : Type} {enc : TypeId × Value → H} {w : World} {base : Nat} {spare : Nat → Bool} {held : Bool}
theorem open_cap {b0 : Nat} {r : Reach} {v : Value} {d : DataW H} {p : List MemPlace} (hv : Value.okWide Try.prog w r b0 35 v) (h : DataW.Trod enc Try.prog w base spare held 35 v d p) : Cap v := by
  obtain ⟨fuel, hf⟩ := h
  obtain ⟨a1, l1, c1, rfl⟩ := okWide_slice Try.underlying35 hv
  rcases Go.Deep.open_slice Try.underlying35 hf with ⟨h0, _⟩ | ⟨a, len, cap, m, n, D, Pl, hcs, hb, hl, _⟩
  · have e1 : Value.slice a1 l1 c1 = .slice none 0 0 := by simpa [Value.cells] using h0
    cases e1
    exact Nat.le_refl _
  · have e1 : Value.slice a1 l1 c1 = .slice (some a) len cap := by simpa [Value.cells] using hcs
    cases e1
    exact hl
end
end Go.Proofs.Ytlkgmjdhggfimad
