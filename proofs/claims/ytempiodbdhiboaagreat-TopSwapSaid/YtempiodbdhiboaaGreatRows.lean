/-
  No cell of these rows narrows 'for every input' (looked for: loops, veiled, ifaces, maps, wideKeys, modest, calm, conditions, laid).
  DERIVED. THE GIVEN ROWS OF THIS SEAT. 3 by the template 'for every input the law returns true; each argument reads behind the call as it read before'; 0 by the template 'total and deterministic' (their statements: YtempiodbdhiboaaGreatTotals.lean).
  GIVEN WITH THE SEED: the statements are not yours to turn. If you find one false, say at which input.
  Laid BY PROGRAM, IN A SANDBOX (cutbox-rows.mjs): the forced cells as the released guide's own fill.sh prints them over the translation d8e9037ae382a2c2… (all of the seat's roots in one cut). By AI agents, Wed Nov 11 2026. No macro, syntax, notation, axiom, sorry.
-/
import Derived.Test.YtempiodbdhiboaaGreatChecked
import GoSem.Claim
import GoSem.ClaimJoined
import GoSem.ClaimMapViews
import Derived.JoinedTies
import Derived.KernelRfl
namespace Go.Proofs.YtempiodbdhiboaaGreat
/- THE CELL 'sum', in the pinned program and in every row, IS THE sha256 OF THE DUMP (.gsa) THAT YtempiodbdhiboaaGreatProg.lean LOADS. Nothing in Lean hashes anything: it is a label: what it is worth is what the hold of that sum in a sandbox is worth. -/
noncomputable def Tryz.pinned : Pinned := { name := "ytempiodbdhiboaagreat", sum := "d8e9037ae382a2c2f9680238c1d70a4bf92c00c654a339c6603474c4d6323e49", checked := Tryz.checked }
namespace Rows
def none {H : Type} : Left H := { results := [], args := [] }

/-- 'pgtop.TopProcs': WHATEVER THE INPUT: true; the input reads as it did. -/
def topProcsSpec : ChangeSpec := { name := "topProcs", fn := fun _ => fun
  | [d] => { results := [.lit (.bool true)], args := [d] }
  | _ => none }
def topProcsRow : OpenClaim := { program := "ytempiodbdhiboaagreat", sum := "d8e9037ae382a2c2f9680238c1d70a4bf92c00c654a339c6603474c4d6323e49", func := "pagewright/pgtop.TopProcs", spec := "topProcs", inPlace := ["slices.overlaps[pagewright/api.Cached]"], unfollowed := true, recurses := true, plainKeys := false, apart := false }
def TopProcsSaid : Prop := topProcsRow.holds Tryz.pinned (OpenSpec.ofChange topProcsSpec)

/-- ITS FALSE NEIGHBOUR: 'it returns false'. Refute it at one input. -/
def topProcsWrong : ChangeSpec := { name := "topProcs", fn := fun _ => fun
  | [d] => { results := [.lit (.bool false)], args := [d] }
  | _ => none }
def TopProcsWrongFalsely : Prop := topProcsRow.holds Tryz.pinned (OpenSpec.ofChange topProcsWrong)

/-- 'pgtop.TopSwap': WHATEVER THE INPUT: true; the input reads as it did. -/
def topSwapSpec : ChangeSpec := { name := "topSwap", fn := fun _ => fun
  | [d1, d2, d3] => { results := [.lit (.bool true)], args := [d1, d2, d3] }
  | _ => none }
def topSwapRow : OpenClaim := { program := "ytempiodbdhiboaagreat", sum := "d8e9037ae382a2c2f9680238c1d70a4bf92c00c654a339c6603474c4d6323e49", func := "pagewright/pgtop.TopSwap", spec := "topSwap", inPlace := ["slices.overlaps[pagewright/api.Cached]"], unfollowed := true, recurses := true, plainKeys := false, apart := false }
def TopSwapSaid : Prop := topSwapRow.holds Tryz.pinned (OpenSpec.ofChange topSwapSpec)

/-- ITS FALSE NEIGHBOUR: 'it returns false'. Refute it at one input. -/
def topSwapWrong : ChangeSpec := { name := "topSwap", fn := fun _ => fun
  | [d1, d2, d3] => { results := [.lit (.bool false)], args := [d1, d2, d3] }
  | _ => none }
def TopSwapWrongFalsely : Prop := topSwapRow.holds Tryz.pinned (OpenSpec.ofChange topSwapWrong)

/-- 'pgtop.TopFork': WHATEVER THE INPUT: true; the input reads as it did. -/
def topForkSpec : ChangeSpec := { name := "topFork", fn := fun _ => fun
  | [d1, d2, d3, d4, d5] => { results := [.lit (.bool true)], args := [d1, d2, d3, d4, d5] }
  | _ => none }
def topForkRow : OpenClaim := { program := "ytempiodbdhiboaagreat", sum := "d8e9037ae382a2c2f9680238c1d70a4bf92c00c654a339c6603474c4d6323e49", func := "pagewright/pgtop.TopFork", spec := "topFork", inPlace := ["slices.overlaps[pagewright/api.Cached]"], unfollowed := true, recurses := true, plainKeys := false, apart := false }
def TopForkSaid : Prop := topForkRow.holds Tryz.pinned (OpenSpec.ofChange topForkSpec)

/-- ITS FALSE NEIGHBOUR: 'it returns false'. Refute it at one input. -/
def topForkWrong : ChangeSpec := { name := "topFork", fn := fun _ => fun
  | [d1, d2, d3, d4, d5] => { results := [.lit (.bool false)], args := [d1, d2, d3, d4, d5] }
  | _ => none }
def TopForkWrongFalsely : Prop := topForkRow.holds Tryz.pinned (OpenSpec.ofChange topForkWrong)

/- THE SECOND FORM. 'bulk': how many values and letters a reading holds, each counted each time it is reached (what is shared counts as often as it is met; a slice's spare places count too). A statement '..UptoSaid' is the law's where the arguments, and the package variables that the reading takes, are together of bulk at most 1048576: NARROWER than '..Said'. Prove '..Said' where nothing that the law and all that it calls make is longer than what came in: it says more and counts as full. Else prove '..UptoSaid'. A law counts once. -/
mutual
def uptoBulk {H : Type} : DataW H → Nat
  | .lit (.string bytes) => bytes.length + 1
  | .lit _ => 1
  | .nil => 1
  | .ptr d => uptoBulk d + 1
  | .slice elems spare => uptoBulkAll elems + uptoBulkAll spare + 1
  | .agg parts => uptoBulkAll parts + 1
  | .iface _ d => uptoBulk d + 1
  | .map entries => uptoBulkEntries entries + 1
  | .held _ => 1
def uptoBulkAll {H : Type} : List (DataW H) → Nat
  | [] => 0
  | d :: r => uptoBulk d + uptoBulkAll r
def uptoBulkEntries {H : Type} : List (Lit × DataW H) → Nat
  | [] => 0
  | x :: r => uptoBulkEntry x + uptoBulkEntries r
def uptoBulkEntry {H : Type} : Lit × DataW H → Nat
  | (.string bytes, d) => bytes.length + uptoBulk d + 1
  | (_, d) => uptoBulk d + 1
 end
def uptoSmall : (H : Type) → List (DataW H) → Bool := fun _ ds => decide (uptoBulkAll ds ≤ 1048576)
def OpenSpec.upto (s : _root_.Go.ChangeSpec) : _root_.Go.OpenSpec := { _root_.Go.OpenSpec.ofChange s with cond := some uptoSmall }

/-- 'pgtop.TopProcs', WHERE WHAT IT READS IS OF BULK AT MOST 1048576: true; the input reads as it did. -/
def topProcsUptoRow : OpenClaim := { program := "ytempiodbdhiboaagreat", sum := "d8e9037ae382a2c2f9680238c1d70a4bf92c00c654a339c6603474c4d6323e49", func := "pagewright/pgtop.TopProcs", spec := "topProcs", inPlace := ["slices.overlaps[pagewright/api.Cached]"], unfollowed := true, recurses := true, plainKeys := false, apart := false, narrowed := true }
def TopProcsUptoSaid : Prop := topProcsUptoRow.holds Tryz.pinned (OpenSpec.upto topProcsSpec)

/-- 'pgtop.TopSwap', WHERE WHAT IT READS IS OF BULK AT MOST 1048576: true; the input reads as it did. -/
def topSwapUptoRow : OpenClaim := { program := "ytempiodbdhiboaagreat", sum := "d8e9037ae382a2c2f9680238c1d70a4bf92c00c654a339c6603474c4d6323e49", func := "pagewright/pgtop.TopSwap", spec := "topSwap", inPlace := ["slices.overlaps[pagewright/api.Cached]"], unfollowed := true, recurses := true, plainKeys := false, apart := false, narrowed := true }
def TopSwapUptoSaid : Prop := topSwapUptoRow.holds Tryz.pinned (OpenSpec.upto topSwapSpec)

/-- 'pgtop.TopFork', WHERE WHAT IT READS IS OF BULK AT MOST 1048576: true; the input reads as it did. -/
def topForkUptoRow : OpenClaim := { program := "ytempiodbdhiboaagreat", sum := "d8e9037ae382a2c2f9680238c1d70a4bf92c00c654a339c6603474c4d6323e49", func := "pagewright/pgtop.TopFork", spec := "topFork", inPlace := ["slices.overlaps[pagewright/api.Cached]"], unfollowed := true, recurses := true, plainKeys := false, apart := false, narrowed := true }
def TopForkUptoSaid : Prop := topForkUptoRow.holds Tryz.pinned (OpenSpec.upto topForkSpec)

end Rows
end Go.Proofs.YtempiodbdhiboaaGreat
