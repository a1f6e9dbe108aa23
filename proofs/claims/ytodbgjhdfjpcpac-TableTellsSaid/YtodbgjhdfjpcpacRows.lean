/-
  No cell of these rows narrows 'for every input' (looked for: loops, veiled, ifaces, maps, wideKeys, modest, calm, conditions, laid).
  DERIVED. THE GIVEN ROWS OF THIS SEAT. 6 by the template 'for every input the law returns true; each argument reads behind the call as it read before'; 0 by the template 'total and deterministic' (their statements: YtodbgjhdfjpcpacTotals.lean).
  GIVEN WITH THE SEED: the statements are not yours to turn. If you find one false, say at which input.
  Laid BY PROGRAM, IN A SANDBOX (cutbox-rows.mjs): the forced cells as the released guide's own fill.sh prints them over the translation 3425ba807b4daeca… (all of the seat's roots in one cut). By AI agents, Wed Nov 11 2026. No macro, syntax, notation, axiom, sorry.
-/
import Derived.Test.YtodbgjhdfjpcpacChecked
import GoSem.Claim
import GoSem.ClaimJoined
import GoSem.ClaimMapViews
import Derived.JoinedTies
import Derived.KernelRfl
namespace Go.Proofs.Ytodbgjhdfjpcpac
/- THE CELL 'sum', in the pinned program and in every row, IS THE sha256 OF THE DUMP (.gsa) THAT YtodbgjhdfjpcpacProg.lean LOADS. Nothing in Lean hashes anything: it is a label: what it is worth is what the hold of that sum in a sandbox is worth. -/
noncomputable def Try.pinned : Pinned := { name := "ytodbgjhdfjpcpac", sum := "3425ba807b4daeca89a1411b3120442b3bcba0cc50d9ffdcd548dfa52555b673", checked := Try.checked }
namespace Rows
def none {H : Type} : Left H := { results := [], args := [] }

/-- 'pglaw4.SlotsTake': WHATEVER THE INPUT: true; the input reads as it did. -/
def slotsTakeSpec : ChangeSpec := { name := "slotsTake", fn := fun _ => fun
  | [d1, d2] => { results := [.lit (.bool true)], args := [d1, d2] }
  | _ => none }
def slotsTakeRow : OpenClaim := { program := "ytodbgjhdfjpcpac", sum := "3425ba807b4daeca89a1411b3120442b3bcba0cc50d9ffdcd548dfa52555b673", func := "pagewright/pglaw4.SlotsTake", spec := "slotsTake", unfollowed := true, recurses := true, apart := false }
def SlotsTakeSaid : Prop := slotsTakeRow.holds Try.pinned (OpenSpec.ofChange slotsTakeSpec)

/-- ITS FALSE NEIGHBOUR: 'it returns false'. Refute it at one input. -/
def slotsTakeWrong : ChangeSpec := { name := "slotsTake", fn := fun _ => fun
  | [d1, d2] => { results := [.lit (.bool false)], args := [d1, d2] }
  | _ => none }
def SlotsTakeWrongFalsely : Prop := slotsTakeRow.holds Try.pinned (OpenSpec.ofChange slotsTakeWrong)

/-- 'pglaw5.StoreTells': WHATEVER THE INPUT: true; the input reads as it did. -/
def storeTellsSpec : ChangeSpec := { name := "storeTells", fn := fun _ => fun
  | [d1, d2, d3, d4] => { results := [.lit (.bool true)], args := [d1, d2, d3, d4] }
  | _ => none }
def storeTellsRow : OpenClaim := { program := "ytodbgjhdfjpcpac", sum := "3425ba807b4daeca89a1411b3120442b3bcba0cc50d9ffdcd548dfa52555b673", func := "pagewright/pglaw5.StoreTells", spec := "storeTells", unfollowed := true, recurses := true, apart := false }
def StoreTellsSaid : Prop := storeTellsRow.holds Try.pinned (OpenSpec.ofChange storeTellsSpec)

/-- ITS FALSE NEIGHBOUR: 'it returns false'. Refute it at one input. -/
def storeTellsWrong : ChangeSpec := { name := "storeTells", fn := fun _ => fun
  | [d1, d2, d3, d4] => { results := [.lit (.bool false)], args := [d1, d2, d3, d4] }
  | _ => none }
def StoreTellsWrongFalsely : Prop := storeTellsRow.holds Try.pinned (OpenSpec.ofChange storeTellsWrong)

/-- 'pglaw5.StoreBlock': WHATEVER THE INPUT: true; the input reads as it did. -/
def storeBlockSpec : ChangeSpec := { name := "storeBlock", fn := fun _ => fun
  | [d1, d2, d3] => { results := [.lit (.bool true)], args := [d1, d2, d3] }
  | _ => none }
def storeBlockRow : OpenClaim := { program := "ytodbgjhdfjpcpac", sum := "3425ba807b4daeca89a1411b3120442b3bcba0cc50d9ffdcd548dfa52555b673", func := "pagewright/pglaw5.StoreBlock", spec := "storeBlock", unfollowed := true, recurses := true, apart := false }
def StoreBlockSaid : Prop := storeBlockRow.holds Try.pinned (OpenSpec.ofChange storeBlockSpec)

/-- ITS FALSE NEIGHBOUR: 'it returns false'. Refute it at one input. -/
def storeBlockWrong : ChangeSpec := { name := "storeBlock", fn := fun _ => fun
  | [d1, d2, d3] => { results := [.lit (.bool false)], args := [d1, d2, d3] }
  | _ => none }
def StoreBlockWrongFalsely : Prop := storeBlockRow.holds Try.pinned (OpenSpec.ofChange storeBlockWrong)

/-- 'pglaw5.StoreSize': WHATEVER THE INPUT: true; the input reads as it did. -/
def storeSizeSpec : ChangeSpec := { name := "storeSize", fn := fun _ => fun
  | [d1, d2, d3, d4] => { results := [.lit (.bool true)], args := [d1, d2, d3, d4] }
  | _ => none }
def storeSizeRow : OpenClaim := { program := "ytodbgjhdfjpcpac", sum := "3425ba807b4daeca89a1411b3120442b3bcba0cc50d9ffdcd548dfa52555b673", func := "pagewright/pglaw5.StoreSize", spec := "storeSize", unfollowed := true, recurses := true, apart := false }
def StoreSizeSaid : Prop := storeSizeRow.holds Try.pinned (OpenSpec.ofChange storeSizeSpec)

/-- ITS FALSE NEIGHBOUR: 'it returns false'. Refute it at one input. -/
def storeSizeWrong : ChangeSpec := { name := "storeSize", fn := fun _ => fun
  | [d1, d2, d3, d4] => { results := [.lit (.bool false)], args := [d1, d2, d3, d4] }
  | _ => none }
def StoreSizeWrongFalsely : Prop := storeSizeRow.holds Try.pinned (OpenSpec.ofChange storeSizeWrong)

/-- 'pglaw6.TableTells': WHATEVER THE INPUT: true; the input reads as it did. -/
def tableTellsSpec : ChangeSpec := { name := "tableTells", fn := fun _ => fun
  | [d1, d2, d3] => { results := [.lit (.bool true)], args := [d1, d2, d3] }
  | _ => none }
def tableTellsRow : OpenClaim := { program := "ytodbgjhdfjpcpac", sum := "3425ba807b4daeca89a1411b3120442b3bcba0cc50d9ffdcd548dfa52555b673", func := "pagewright/pglaw6.TableTells", spec := "tableTells", unfollowed := true, recurses := true, apart := false }
def TableTellsSaid : Prop := tableTellsRow.holds Try.pinned (OpenSpec.ofChange tableTellsSpec)

/-- ITS FALSE NEIGHBOUR: 'it returns false'. Refute it at one input. -/
def tableTellsWrong : ChangeSpec := { name := "tableTells", fn := fun _ => fun
  | [d1, d2, d3] => { results := [.lit (.bool false)], args := [d1, d2, d3] }
  | _ => none }
def TableTellsWrongFalsely : Prop := tableTellsRow.holds Try.pinned (OpenSpec.ofChange tableTellsWrong)

/-- 'pglaw6.TableSets': WHATEVER THE INPUT: true; the input reads as it did. -/
def tableSetsSpec : ChangeSpec := { name := "tableSets", fn := fun _ => fun
  | [d1, d2, d3, d4] => { results := [.lit (.bool true)], args := [d1, d2, d3, d4] }
  | _ => none }
def tableSetsRow : OpenClaim := { program := "ytodbgjhdfjpcpac", sum := "3425ba807b4daeca89a1411b3120442b3bcba0cc50d9ffdcd548dfa52555b673", func := "pagewright/pglaw6.TableSets", spec := "tableSets", unfollowed := true, recurses := true, apart := false }
def TableSetsSaid : Prop := tableSetsRow.holds Try.pinned (OpenSpec.ofChange tableSetsSpec)

/-- ITS FALSE NEIGHBOUR: 'it returns false'. Refute it at one input. -/
def tableSetsWrong : ChangeSpec := { name := "tableSets", fn := fun _ => fun
  | [d1, d2, d3, d4] => { results := [.lit (.bool false)], args := [d1, d2, d3, d4] }
  | _ => none }
def TableSetsWrongFalsely : Prop := tableSetsRow.holds Try.pinned (OpenSpec.ofChange tableSetsWrong)

/- THE SECOND FORM. 'bulk': how many values and letters a reading holds, each counted each time it is reached (what is shared counts as often as it is met; a slice's spare places count too). A statement '..UptoSaid' is the law's where the arguments, and the package variables that the reading takes, are together of bulk at most 1048576: NARROWER than '..Said'. Prove '..Said' where nothing that the law and all that it calls make is longer than what came in: it says more and counts as full. Else prove '..UptoSaid'. A law counts once. -/
mutual
def uptoBulk {H : Type} : DataW H → Nat
  | .lit (.string bytes) => bytes.length + 1
  | .lit _ => 1
  | .nil => 1
  | .ptr d => uptoBulk d + 1
  | .slice elems spare => uptoBulkAll elems + uptoBulkAll spare + 1
  | .agg parts => uptoBulkAll parts + 1
  | .iface _ d => uptoBulk d + 1
  | .map entries => uptoBulkEntries entries + 1
  | .held _ => 1
def uptoBulkAll {H : Type} : List (DataW H) → Nat
  | [] => 0
  | d :: r => uptoBulk d + uptoBulkAll r
def uptoBulkEntries {H : Type} : List (Lit × DataW H) → Nat
  | [] => 0
  | x :: r => uptoBulkEntry x + uptoBulkEntries r
def uptoBulkEntry {H : Type} : Lit × DataW H → Nat
  | (.string bytes, d) => bytes.length + uptoBulk d + 1
  | (_, d) => uptoBulk d + 1
 end
def uptoSmall : (H : Type) → List (DataW H) → Bool := fun _ ds => decide (uptoBulkAll ds ≤ 1048576)
def OpenSpec.upto (s : _root_.Go.ChangeSpec) : _root_.Go.OpenSpec := { _root_.Go.OpenSpec.ofChange s with cond := some uptoSmall }

/-- 'pglaw4.SlotsTake', WHERE WHAT IT READS IS OF BULK AT MOST 1048576: true; the input reads as it did. -/
def slotsTakeUptoRow : OpenClaim := { program := "ytodbgjhdfjpcpac", sum := "3425ba807b4daeca89a1411b3120442b3bcba0cc50d9ffdcd548dfa52555b673", func := "pagewright/pglaw4.SlotsTake", spec := "slotsTake", unfollowed := true, recurses := true, apart := false, narrowed := true }
def SlotsTakeUptoSaid : Prop := slotsTakeUptoRow.holds Try.pinned (OpenSpec.upto slotsTakeSpec)

/-- 'pglaw5.StoreTells', WHERE WHAT IT READS IS OF BULK AT MOST 1048576: true; the input reads as it did. -/
def storeTellsUptoRow : OpenClaim := { program := "ytodbgjhdfjpcpac", sum := "3425ba807b4daeca89a1411b3120442b3bcba0cc50d9ffdcd548dfa52555b673", func := "pagewright/pglaw5.StoreTells", spec := "storeTells", unfollowed := true, recurses := true, apart := false, narrowed := true }
def StoreTellsUptoSaid : Prop := storeTellsUptoRow.holds Try.pinned (OpenSpec.upto storeTellsSpec)

/-- 'pglaw5.StoreBlock', WHERE WHAT IT READS IS OF BULK AT MOST 1048576: true; the input reads as it did. -/
def storeBlockUptoRow : OpenClaim := { program := "ytodbgjhdfjpcpac", sum := "3425ba807b4daeca89a1411b3120442b3bcba0cc50d9ffdcd548dfa52555b673", func := "pagewright/pglaw5.StoreBlock", spec := "storeBlock", unfollowed := true, recurses := true, apart := false, narrowed := true }
def StoreBlockUptoSaid : Prop := storeBlockUptoRow.holds Try.pinned (OpenSpec.upto storeBlockSpec)

/-- 'pglaw5.StoreSize', WHERE WHAT IT READS IS OF BULK AT MOST 1048576: true; the input reads as it did. -/
def storeSizeUptoRow : OpenClaim := { program := "ytodbgjhdfjpcpac", sum := "3425ba807b4daeca89a1411b3120442b3bcba0cc50d9ffdcd548dfa52555b673", func := "pagewright/pglaw5.StoreSize", spec := "storeSize", unfollowed := true, recurses := true, apart := false, narrowed := true }
def StoreSizeUptoSaid : Prop := storeSizeUptoRow.holds Try.pinned (OpenSpec.upto storeSizeSpec)

/-- 'pglaw6.TableTells', WHERE WHAT IT READS IS OF BULK AT MOST 1048576: true; the input reads as it did. -/
def tableTellsUptoRow : OpenClaim := { program := "ytodbgjhdfjpcpac", sum := "3425ba807b4daeca89a1411b3120442b3bcba0cc50d9ffdcd548dfa52555b673", func := "pagewright/pglaw6.TableTells", spec := "tableTells", unfollowed := true, recurses := true, apart := false, narrowed := true }
def TableTellsUptoSaid : Prop := tableTellsUptoRow.holds Try.pinned (OpenSpec.upto tableTellsSpec)

/-- 'pglaw6.TableSets', WHERE WHAT IT READS IS OF BULK AT MOST 1048576: true; the input reads as it did. -/
def tableSetsUptoRow : OpenClaim := { program := "ytodbgjhdfjpcpac", sum := "3425ba807b4daeca89a1411b3120442b3bcba0cc50d9ffdcd548dfa52555b673", func := "pagewright/pglaw6.TableSets", spec := "tableSets", unfollowed := true, recurses := true, apart := false, narrowed := true }
def TableSetsUptoSaid : Prop := tableSetsUptoRow.holds Try.pinned (OpenSpec.upto tableSetsSpec)

end Rows
end Go.Proofs.Ytodbgjhdfjpcpac
