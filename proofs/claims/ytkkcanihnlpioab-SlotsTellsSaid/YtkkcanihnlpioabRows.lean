/-
  No cell of these rows narrows 'for every input' (looked for: loops, veiled, ifaces, maps, wideKeys, modest, calm, conditions, laid).
  DERIVED. THE GIVEN ROWS OF THIS SEAT. 6 by the template 'for every input the law returns true; each argument reads behind the call as it read before'; 0 by the template 'total and deterministic' (their statements: YtkkcanihnlpioabTotals.lean).
  GIVEN WITH THE SEED: the statements are not yours to turn. If you find one false, say at which input.
  Laid BY PROGRAM, IN A SANDBOX (cutbox-rows.mjs): the forced cells as the released guide's own fill.sh prints them over the translation f09d2ff675aa80ba… (all of the seat's roots in one cut). By AI agents, Wed Nov 11 2026. No macro, syntax, notation, axiom, sorry.
-/
import Derived.Test.YtkkcanihnlpioabChecked
import GoSem.Claim
import GoSem.ClaimJoined
import GoSem.ClaimMapViews
import Derived.JoinedTies
import Derived.KernelRfl
namespace Go.Proofs.Ytkkcanihnlpioab
/- THE CELL 'sum', in the pinned program and in every row, IS THE sha256 OF THE DUMP (.gsa) THAT YtkkcanihnlpioabProg.lean LOADS. Nothing in Lean hashes anything: it is a label: what it is worth is what the hold of that sum in a sandbox is worth. -/
noncomputable def Try.pinned : Pinned := { name := "ytkkcanihnlpioab", sum := "f09d2ff675aa80bae53adf9f13aa275ae8f2a63331718a6ed0833f40f371c999", checked := Try.checked }
namespace Rows
def none {H : Type} : Left H := { results := [], args := [] }

/-- 'pglaw2.DiskCrash': WHATEVER THE INPUT: true; the input reads as it did. -/
def diskCrashSpec : ChangeSpec := { name := "diskCrash", fn := fun _ => fun
  | [d1, d2, d3] => { results := [.lit (.bool true)], args := [d1, d2, d3] }
  | _ => none }
def diskCrashRow : OpenClaim := { program := "ytkkcanihnlpioab", sum := "f09d2ff675aa80bae53adf9f13aa275ae8f2a63331718a6ed0833f40f371c999", func := "pagewright/pglaw2.DiskCrash", spec := "diskCrash", unfollowed := true, recurses := true, apart := false }
def DiskCrashSaid : Prop := diskCrashRow.holds Try.pinned (OpenSpec.ofChange diskCrashSpec)

/-- ITS FALSE NEIGHBOUR: 'it returns false'. Refute it at one input. -/
def diskCrashWrong : ChangeSpec := { name := "diskCrash", fn := fun _ => fun
  | [d1, d2, d3] => { results := [.lit (.bool false)], args := [d1, d2, d3] }
  | _ => none }
def DiskCrashWrongFalsely : Prop := diskCrashRow.holds Try.pinned (OpenSpec.ofChange diskCrashWrong)

/-- 'pglaw3.FramesTells': WHATEVER THE INPUT: true; the input reads as it did. -/
def framesTellsSpec : ChangeSpec := { name := "framesTells", fn := fun _ => fun
  | [d1, d2, d3, d4, d5, d6] => { results := [.lit (.bool true)], args := [d1, d2, d3, d4, d5, d6] }
  | _ => none }
def framesTellsRow : OpenClaim := { program := "ytkkcanihnlpioab", sum := "f09d2ff675aa80bae53adf9f13aa275ae8f2a63331718a6ed0833f40f371c999", func := "pagewright/pglaw3.FramesTells", spec := "framesTells", unfollowed := true, recurses := true, apart := false }
def FramesTellsSaid : Prop := framesTellsRow.holds Try.pinned (OpenSpec.ofChange framesTellsSpec)

/-- ITS FALSE NEIGHBOUR: 'it returns false'. Refute it at one input. -/
def framesTellsWrong : ChangeSpec := { name := "framesTells", fn := fun _ => fun
  | [d1, d2, d3, d4, d5, d6] => { results := [.lit (.bool false)], args := [d1, d2, d3, d4, d5, d6] }
  | _ => none }
def FramesTellsWrongFalsely : Prop := framesTellsRow.holds Try.pinned (OpenSpec.ofChange framesTellsWrong)

/-- 'pglaw3.FramesTake': WHATEVER THE INPUT: true; the input reads as it did. -/
def framesTakeSpec : ChangeSpec := { name := "framesTake", fn := fun _ => fun
  | [d1, d2, d3, d4] => { results := [.lit (.bool true)], args := [d1, d2, d3, d4] }
  | _ => none }
def framesTakeRow : OpenClaim := { program := "ytkkcanihnlpioab", sum := "f09d2ff675aa80bae53adf9f13aa275ae8f2a63331718a6ed0833f40f371c999", func := "pagewright/pglaw3.FramesTake", spec := "framesTake", unfollowed := true, recurses := true, apart := false }
def FramesTakeSaid : Prop := framesTakeRow.holds Try.pinned (OpenSpec.ofChange framesTakeSpec)

/-- ITS FALSE NEIGHBOUR: 'it returns false'. Refute it at one input. -/
def framesTakeWrong : ChangeSpec := { name := "framesTake", fn := fun _ => fun
  | [d1, d2, d3, d4] => { results := [.lit (.bool false)], args := [d1, d2, d3, d4] }
  | _ => none }
def FramesTakeWrongFalsely : Prop := framesTakeRow.holds Try.pinned (OpenSpec.ofChange framesTakeWrong)

/-- 'pglaw3.FramesHold': WHATEVER THE INPUT: true; the input reads as it did. -/
def framesHoldSpec : ChangeSpec := { name := "framesHold", fn := fun _ => fun
  | [d1, d2, d3] => { results := [.lit (.bool true)], args := [d1, d2, d3] }
  | _ => none }
def framesHoldRow : OpenClaim := { program := "ytkkcanihnlpioab", sum := "f09d2ff675aa80bae53adf9f13aa275ae8f2a63331718a6ed0833f40f371c999", func := "pagewright/pglaw3.FramesHold", spec := "framesHold", unfollowed := true, recurses := true, apart := false }
def FramesHoldSaid : Prop := framesHoldRow.holds Try.pinned (OpenSpec.ofChange framesHoldSpec)

/-- ITS FALSE NEIGHBOUR: 'it returns false'. Refute it at one input. -/
def framesHoldWrong : ChangeSpec := { name := "framesHold", fn := fun _ => fun
  | [d1, d2, d3] => { results := [.lit (.bool false)], args := [d1, d2, d3] }
  | _ => none }
def FramesHoldWrongFalsely : Prop := framesHoldRow.holds Try.pinned (OpenSpec.ofChange framesHoldWrong)

/-- 'pglaw3.FramesNext': WHATEVER THE INPUT: true; the input reads as it did. -/
def framesNextSpec : ChangeSpec := { name := "framesNext", fn := fun _ => fun
  | [d] => { results := [.lit (.bool true)], args := [d] }
  | _ => none }
def framesNextRow : OpenClaim := { program := "ytkkcanihnlpioab", sum := "f09d2ff675aa80bae53adf9f13aa275ae8f2a63331718a6ed0833f40f371c999", func := "pagewright/pglaw3.FramesNext", spec := "framesNext", unfollowed := true, recurses := true, apart := false }
def FramesNextSaid : Prop := framesNextRow.holds Try.pinned (OpenSpec.ofChange framesNextSpec)

/-- ITS FALSE NEIGHBOUR: 'it returns false'. Refute it at one input. -/
def framesNextWrong : ChangeSpec := { name := "framesNext", fn := fun _ => fun
  | [d] => { results := [.lit (.bool false)], args := [d] }
  | _ => none }
def FramesNextWrongFalsely : Prop := framesNextRow.holds Try.pinned (OpenSpec.ofChange framesNextWrong)

/-- 'pglaw4.SlotsTells': WHATEVER THE INPUT: true; the input reads as it did. -/
def slotsTellsSpec : ChangeSpec := { name := "slotsTells", fn := fun _ => fun
  | [d1, d2, d3] => { results := [.lit (.bool true)], args := [d1, d2, d3] }
  | _ => none }
def slotsTellsRow : OpenClaim := { program := "ytkkcanihnlpioab", sum := "f09d2ff675aa80bae53adf9f13aa275ae8f2a63331718a6ed0833f40f371c999", func := "pagewright/pglaw4.SlotsTells", spec := "slotsTells", unfollowed := true, recurses := true, apart := false }
def SlotsTellsSaid : Prop := slotsTellsRow.holds Try.pinned (OpenSpec.ofChange slotsTellsSpec)

/-- ITS FALSE NEIGHBOUR: 'it returns false'. Refute it at one input. -/
def slotsTellsWrong : ChangeSpec := { name := "slotsTells", fn := fun _ => fun
  | [d1, d2, d3] => { results := [.lit (.bool false)], args := [d1, d2, d3] }
  | _ => none }
def SlotsTellsWrongFalsely : Prop := slotsTellsRow.holds Try.pinned (OpenSpec.ofChange slotsTellsWrong)

/- THE SECOND FORM. 'bulk': how many values and letters a reading holds, each counted each time it is reached (what is shared counts as often as it is met; a slice's spare places count too). A statement '..UptoSaid' is the law's where the arguments, and the package variables that the reading takes, are together of bulk at most 1048576: NARROWER than '..Said'. Prove '..Said' where nothing that the law and all that it calls make is longer than what came in: it says more and counts as full. Else prove '..UptoSaid'. A law counts once. -/
mutual
def uptoBulk {H : Type} : DataW H → Nat
  | .lit (.string bytes) => bytes.length + 1
  | .lit _ => 1
  | .nil => 1
  | .ptr d => uptoBulk d + 1
  | .slice elems spare => uptoBulkAll elems + uptoBulkAll spare + 1
  | .agg parts => uptoBulkAll parts + 1
  | .iface _ d => uptoBulk d + 1
  | .map entries => uptoBulkEntries entries + 1
  | .held _ => 1
def uptoBulkAll {H : Type} : List (DataW H) → Nat
  | [] => 0
  | d :: r => uptoBulk d + uptoBulkAll r
def uptoBulkEntries {H : Type} : List (Lit × DataW H) → Nat
  | [] => 0
  | x :: r => uptoBulkEntry x + uptoBulkEntries r
def uptoBulkEntry {H : Type} : Lit × DataW H → Nat
  | (.string bytes, d) => bytes.length + uptoBulk d + 1
  | (_, d) => uptoBulk d + 1
 end
def uptoSmall : (H : Type) → List (DataW H) → Bool := fun _ ds => decide (uptoBulkAll ds ≤ 1048576)
def OpenSpec.upto (s : _root_.Go.ChangeSpec) : _root_.Go.OpenSpec := { _root_.Go.OpenSpec.ofChange s with cond := some uptoSmall }

/-- 'pglaw2.DiskCrash', WHERE WHAT IT READS IS OF BULK AT MOST 1048576: true; the input reads as it did. -/
def diskCrashUptoRow : OpenClaim := { program := "ytkkcanihnlpioab", sum := "f09d2ff675aa80bae53adf9f13aa275ae8f2a63331718a6ed0833f40f371c999", func := "pagewright/pglaw2.DiskCrash", spec := "diskCrash", unfollowed := true, recurses := true, apart := false, narrowed := true }
def DiskCrashUptoSaid : Prop := diskCrashUptoRow.holds Try.pinned (OpenSpec.upto diskCrashSpec)

/-- 'pglaw3.FramesTells', WHERE WHAT IT READS IS OF BULK AT MOST 1048576: true; the input reads as it did. -/
def framesTellsUptoRow : OpenClaim := { program := "ytkkcanihnlpioab", sum := "f09d2ff675aa80bae53adf9f13aa275ae8f2a63331718a6ed0833f40f371c999", func := "pagewright/pglaw3.FramesTells", spec := "framesTells", unfollowed := true, recurses := true, apart := false, narrowed := true }
def FramesTellsUptoSaid : Prop := framesTellsUptoRow.holds Try.pinned (OpenSpec.upto framesTellsSpec)

/-- 'pglaw3.FramesTake', WHERE WHAT IT READS IS OF BULK AT MOST 1048576: true; the input reads as it did. -/
def framesTakeUptoRow : OpenClaim := { program := "ytkkcanihnlpioab", sum := "f09d2ff675aa80bae53adf9f13aa275ae8f2a63331718a6ed0833f40f371c999", func := "pagewright/pglaw3.FramesTake", spec := "framesTake", unfollowed := true, recurses := true, apart := false, narrowed := true }
def FramesTakeUptoSaid : Prop := framesTakeUptoRow.holds Try.pinned (OpenSpec.upto framesTakeSpec)

/-- 'pglaw3.FramesHold', WHERE WHAT IT READS IS OF BULK AT MOST 1048576: true; the input reads as it did. -/
def framesHoldUptoRow : OpenClaim := { program := "ytkkcanihnlpioab", sum := "f09d2ff675aa80bae53adf9f13aa275ae8f2a63331718a6ed0833f40f371c999", func := "pagewright/pglaw3.FramesHold", spec := "framesHold", unfollowed := true, recurses := true, apart := false, narrowed := true }
def FramesHoldUptoSaid : Prop := framesHoldUptoRow.holds Try.pinned (OpenSpec.upto framesHoldSpec)

/-- 'pglaw3.FramesNext', WHERE WHAT IT READS IS OF BULK AT MOST 1048576: true; the input reads as it did. -/
def framesNextUptoRow : OpenClaim := { program := "ytkkcanihnlpioab", sum := "f09d2ff675aa80bae53adf9f13aa275ae8f2a63331718a6ed0833f40f371c999", func := "pagewright/pglaw3.FramesNext", spec := "framesNext", unfollowed := true, recurses := true, apart := false, narrowed := true }
def FramesNextUptoSaid : Prop := framesNextUptoRow.holds Try.pinned (OpenSpec.upto framesNextSpec)

/-- 'pglaw4.SlotsTells', WHERE WHAT IT READS IS OF BULK AT MOST 1048576: true; the input reads as it did. -/
def slotsTellsUptoRow : OpenClaim := { program := "ytkkcanihnlpioab", sum := "f09d2ff675aa80bae53adf9f13aa275ae8f2a63331718a6ed0833f40f371c999", func := "pagewright/pglaw4.SlotsTells", spec := "slotsTells", unfollowed := true, recurses := true, apart := false, narrowed := true }
def SlotsTellsUptoSaid : Prop := slotsTellsUptoRow.holds Try.pinned (OpenSpec.upto slotsTellsSpec)

end Rows
end Go.Proofs.Ytkkcanihnlpioab
