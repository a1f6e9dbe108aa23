/-
  No cell of these rows narrows 'for every input' (looked for: loops, veiled, ifaces, maps, wideKeys, modest, calm, conditions, laid).
  DERIVED. THE GIVEN ROWS OF THIS SEAT. 3 by the template 'for every input the law returns true; each argument reads behind the call as it read before'; 0 by the template 'total and deterministic' (their statements: YtmfckdkcmbncdaaGreatTotals.lean).
  GIVEN WITH THE SEED: the statements are not yours to turn. If you find one false, say at which input.
  Laid BY PROGRAM, IN A SANDBOX (cutbox-rows.mjs): the forced cells as the released guide's own fill.sh prints them over the translation 3190758712969d15… (all of the seat's roots in one cut). By AI agents, Wed Nov 11 2026. No macro, syntax, notation, axiom, sorry.
-/
import Derived.Test.YtmfckdkcmbncdaaGreatChecked
import GoSem.Claim
import GoSem.ClaimJoined
import GoSem.ClaimMapViews
import Derived.JoinedTies
import Derived.KernelRfl
namespace Go.Proofs.YtmfckdkcmbncdaaGreat
/- THE CELL 'sum', in the pinned program and in every row, IS THE sha256 OF THE DUMP (.gsa) THAT YtmfckdkcmbncdaaGreatProg.lean LOADS. Nothing in Lean hashes anything: it is a label: what it is worth is what the hold of that sum in a sandbox is worth. -/
noncomputable def Tryz.pinned : Pinned := { name := "ytmfckdkcmbncdaagreat", sum := "3190758712969d15af4da9ba3add9e6f26354e327f3437d409b184fcbdddf349", checked := Tryz.checked }
namespace Rows
def none {H : Type} : Left H := { results := [], args := [] }

/-- 'pgtop.TopFork': WHATEVER THE INPUT: true; the input reads as it did. -/
def topForkSpec : ChangeSpec := { name := "topFork", fn := fun _ => fun
  | [d1, d2, d3, d4, d5] => { results := [.lit (.bool true)], args := [d1, d2, d3, d4, d5] }
  | _ => none }
def topForkRow : OpenClaim := { program := "ytmfckdkcmbncdaagreat", sum := "3190758712969d15af4da9ba3add9e6f26354e327f3437d409b184fcbdddf349", func := "pagewright/pgtop.TopFork", spec := "topFork", inPlace := ["slices.overlaps[pagewright/api.Cached]"], unfollowed := true, recurses := true, plainKeys := false, apart := false }
def TopForkSaid : Prop := topForkRow.holds Tryz.pinned (OpenSpec.ofChange topForkSpec)

/-- ITS FALSE NEIGHBOUR: 'it returns false'. Refute it at one input. -/
def topForkWrong : ChangeSpec := { name := "topFork", fn := fun _ => fun
  | [d1, d2, d3, d4, d5] => { results := [.lit (.bool false)], args := [d1, d2, d3, d4, d5] }
  | _ => none }
def TopForkWrongFalsely : Prop := topForkRow.holds Tryz.pinned (OpenSpec.ofChange topForkWrong)

/-- 'pgtop.TopCut': WHATEVER THE INPUT: true; the input reads as it did. -/
def topCutSpec : ChangeSpec := { name := "topCut", fn := fun _ => fun
  | [d1, d2, d3, d4, d5] => { results := [.lit (.bool true)], args := [d1, d2, d3, d4, d5] }
  | _ => none }
def topCutRow : OpenClaim := { program := "ytmfckdkcmbncdaagreat", sum := "3190758712969d15af4da9ba3add9e6f26354e327f3437d409b184fcbdddf349", func := "pagewright/pgtop.TopCut", spec := "topCut", inPlace := ["slices.overlaps[pagewright/api.Cached]"], unfollowed := true, recurses := true, plainKeys := false, apart := false }
def TopCutSaid : Prop := topCutRow.holds Tryz.pinned (OpenSpec.ofChange topCutSpec)

/-- ITS FALSE NEIGHBOUR: 'it returns false'. Refute it at one input. -/
def topCutWrong : ChangeSpec := { name := "topCut", fn := fun _ => fun
  | [d1, d2, d3, d4, d5] => { results := [.lit (.bool false)], args := [d1, d2, d3, d4, d5] }
  | _ => none }
def TopCutWrongFalsely : Prop := topCutRow.holds Tryz.pinned (OpenSpec.ofChange topCutWrong)

/-- 'pgtop.TopMapped': WHATEVER THE INPUT: true; the input reads as it did. -/
def topMappedSpec : ChangeSpec := { name := "topMapped", fn := fun _ => fun
  | [d1, d2, d3, d4] => { results := [.lit (.bool true)], args := [d1, d2, d3, d4] }
  | _ => none }
def topMappedRow : OpenClaim := { program := "ytmfckdkcmbncdaagreat", sum := "3190758712969d15af4da9ba3add9e6f26354e327f3437d409b184fcbdddf349", func := "pagewright/pgtop.TopMapped", spec := "topMapped", inPlace := ["slices.overlaps[pagewright/api.Cached]"], unfollowed := true, recurses := true, plainKeys := false, apart := false }
def TopMappedSaid : Prop := topMappedRow.holds Tryz.pinned (OpenSpec.ofChange topMappedSpec)

/-- ITS FALSE NEIGHBOUR: 'it returns false'. Refute it at one input. -/
def topMappedWrong : ChangeSpec := { name := "topMapped", fn := fun _ => fun
  | [d1, d2, d3, d4] => { results := [.lit (.bool false)], args := [d1, d2, d3, d4] }
  | _ => none }
def TopMappedWrongFalsely : Prop := topMappedRow.holds Tryz.pinned (OpenSpec.ofChange topMappedWrong)

/- THE SECOND FORM. 'bulk': how many values and letters a reading holds, each counted each time it is reached (what is shared counts as often as it is met; a slice's spare places count too). A statement '..UptoSaid' is the law's where the arguments, and the package variables that the reading takes, are together of bulk at most 1048576: NARROWER than '..Said'. Prove '..Said' where nothing that the law and all that it calls make is longer than what came in: it says more and counts as full. Else prove '..UptoSaid'. A law counts once. -/
mutual
def uptoBulk {H : Type} : DataW H → Nat
  | .lit (.string bytes) => bytes.length + 1
  | .lit _ => 1
  | .nil => 1
  | .ptr d => uptoBulk d + 1
  | .slice elems spare => uptoBulkAll elems + uptoBulkAll spare + 1
  | .agg parts => uptoBulkAll parts + 1
  | .iface _ d => uptoBulk d + 1
  | .map entries => uptoBulkEntries entries + 1
  | .held _ => 1
def uptoBulkAll {H : Type} : List (DataW H) → Nat
  | [] => 0
  | d :: r => uptoBulk d + uptoBulkAll r
def uptoBulkEntries {H : Type} : List (Lit × DataW H) → Nat
  | [] => 0
  | x :: r => uptoBulkEntry x + uptoBulkEntries r
def uptoBulkEntry {H : Type} : Lit × DataW H → Nat
  | (.string bytes, d) => bytes.length + uptoBulk d + 1
  | (_, d) => uptoBulk d + 1
 end
def uptoSmall : (H : Type) → List (DataW H) → Bool := fun _ ds => decide (uptoBulkAll ds ≤ 1048576)
def OpenSpec.upto (s : _root_.Go.ChangeSpec) : _root_.Go.OpenSpec := { _root_.Go.OpenSpec.ofChange s with cond := some uptoSmall }

/-- 'pgtop.TopFork', WHERE WHAT IT READS IS OF BULK AT MOST 1048576: true; the input reads as it did. -/
def topForkUptoRow : OpenClaim := { program := "ytmfckdkcmbncdaagreat", sum := "3190758712969d15af4da9ba3add9e6f26354e327f3437d409b184fcbdddf349", func := "pagewright/pgtop.TopFork", spec := "topFork", inPlace := ["slices.overlaps[pagewright/api.Cached]"], unfollowed := true, recurses := true, plainKeys := false, apart := false, narrowed := true }
def TopForkUptoSaid : Prop := topForkUptoRow.holds Tryz.pinned (OpenSpec.upto topForkSpec)

/-- 'pgtop.TopCut', WHERE WHAT IT READS IS OF BULK AT MOST 1048576: true; the input reads as it did. -/
def topCutUptoRow : OpenClaim := { program := "ytmfckdkcmbncdaagreat", sum := "3190758712969d15af4da9ba3add9e6f26354e327f3437d409b184fcbdddf349", func := "pagewright/pgtop.TopCut", spec := "topCut", inPlace := ["slices.overlaps[pagewright/api.Cached]"], unfollowed := true, recurses := true, plainKeys := false, apart := false, narrowed := true }
def TopCutUptoSaid : Prop := topCutUptoRow.holds Tryz.pinned (OpenSpec.upto topCutSpec)

/-- 'pgtop.TopMapped', WHERE WHAT IT READS IS OF BULK AT MOST 1048576: true; the input reads as it did. -/
def topMappedUptoRow : OpenClaim := { program := "ytmfckdkcmbncdaagreat", sum := "3190758712969d15af4da9ba3add9e6f26354e327f3437d409b184fcbdddf349", func := "pagewright/pgtop.TopMapped", spec := "topMapped", inPlace := ["slices.overlaps[pagewright/api.Cached]"], unfollowed := true, recurses := true, plainKeys := false, apart := false, narrowed := true }
def TopMappedUptoSaid : Prop := topMappedUptoRow.holds Tryz.pinned (OpenSpec.upto topMappedSpec)

end Rows
end Go.Proofs.YtmfckdkcmbncdaaGreat
