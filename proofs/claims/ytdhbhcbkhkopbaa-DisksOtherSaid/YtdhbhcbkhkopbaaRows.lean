/-
  No cell of these rows narrows 'for every input' (looked for: loops, veiled, ifaces, maps, wideKeys, modest, calm, conditions, laid).
  DERIVED. THE GIVEN ROWS OF THIS SEAT. 6 by the template 'for every input the law returns true; each argument reads behind the call as it read before'; 0 by the template 'total and deterministic' (their statements: YtdhbhcbkhkopbaaTotals.lean).
  GIVEN WITH THE SEED: the statements are not yours to turn. If you find one false, say at which input.
  Laid BY PROGRAM, IN A SANDBOX (cutbox-rows.mjs): the forced cells as the released guide's own fill.sh prints them over the translation fe1ea438329abc99… (all of the seat's roots in one cut). By AI agents, Wed Nov 11 2026. No macro, syntax, notation, axiom, sorry.
-/
import Derived.Test.YtdhbhcbkhkopbaaChecked
import GoSem.Claim
import GoSem.ClaimJoined
import GoSem.ClaimMapViews
import Derived.JoinedTies
import Derived.KernelRfl
namespace Go.Proofs.Ytdhbhcbkhkopbaa
/- THE CELL 'sum', in the pinned program and in every row, IS THE sha256 OF THE DUMP (.gsa) THAT YtdhbhcbkhkopbaaProg.lean LOADS. Nothing in Lean hashes anything: it is a label: what it is worth is what the hold of that sum in a sandbox is worth. -/
noncomputable def Try.pinned : Pinned := { name := "ytdhbhcbkhkopbaa", sum := "fe1ea438329abc99ef458996682d7488263c07897b32387247922cb1e8d3c937", checked := Try.checked }
namespace Rows
def none {H : Type} : Left H := { results := [], args := [] }

/-- 'caissonlaw14.DisksScript': WHATEVER THE INPUT: true; the input reads as it did. -/
def disksScriptSpec : ChangeSpec := { name := "disksScript", fn := fun _ => fun
  | [d] => { results := [.lit (.bool true)], args := [d] }
  | _ => none }
def disksScriptRow : OpenClaim := { program := "ytdhbhcbkhkopbaa", sum := "fe1ea438329abc99ef458996682d7488263c07897b32387247922cb1e8d3c937", func := "caisson/caissonlaw14.DisksScript", spec := "disksScript", apart := false }
def DisksScriptSaid : Prop := disksScriptRow.holds Try.pinned (OpenSpec.ofChange disksScriptSpec)

/-- ITS FALSE NEIGHBOUR: 'it returns false'. Refute it at one input. -/
def disksScriptWrong : ChangeSpec := { name := "disksScript", fn := fun _ => fun
  | [d] => { results := [.lit (.bool false)], args := [d] }
  | _ => none }
def DisksScriptWrongFalsely : Prop := disksScriptRow.holds Try.pinned (OpenSpec.ofChange disksScriptWrong)

/-- 'caissonlaw14.DisksValues': WHATEVER THE INPUT: true; the input reads as it did. -/
def disksValuesSpec : ChangeSpec := { name := "disksValues", fn := fun _ => fun
  | [d1, d2, d3] => { results := [.lit (.bool true)], args := [d1, d2, d3] }
  | _ => none }
def disksValuesRow : OpenClaim := { program := "ytdhbhcbkhkopbaa", sum := "fe1ea438329abc99ef458996682d7488263c07897b32387247922cb1e8d3c937", func := "caisson/caissonlaw14.DisksValues", spec := "disksValues", apart := false }
def DisksValuesSaid : Prop := disksValuesRow.holds Try.pinned (OpenSpec.ofChange disksValuesSpec)

/-- ITS FALSE NEIGHBOUR: 'it returns false'. Refute it at one input. -/
def disksValuesWrong : ChangeSpec := { name := "disksValues", fn := fun _ => fun
  | [d1, d2, d3] => { results := [.lit (.bool false)], args := [d1, d2, d3] }
  | _ => none }
def DisksValuesWrongFalsely : Prop := disksValuesRow.holds Try.pinned (OpenSpec.ofChange disksValuesWrong)

/-- 'caissonlaw14.DisksErrors': WHATEVER THE INPUT: true; the input reads as it did. -/
def disksErrorsSpec : ChangeSpec := { name := "disksErrors", fn := fun _ => fun
  | [d1, d2, d3] => { results := [.lit (.bool true)], args := [d1, d2, d3] }
  | _ => none }
def disksErrorsRow : OpenClaim := { program := "ytdhbhcbkhkopbaa", sum := "fe1ea438329abc99ef458996682d7488263c07897b32387247922cb1e8d3c937", func := "caisson/caissonlaw14.DisksErrors", spec := "disksErrors", apart := false }
def DisksErrorsSaid : Prop := disksErrorsRow.holds Try.pinned (OpenSpec.ofChange disksErrorsSpec)

/-- ITS FALSE NEIGHBOUR: 'it returns false'. Refute it at one input. -/
def disksErrorsWrong : ChangeSpec := { name := "disksErrors", fn := fun _ => fun
  | [d1, d2, d3] => { results := [.lit (.bool false)], args := [d1, d2, d3] }
  | _ => none }
def DisksErrorsWrongFalsely : Prop := disksErrorsRow.holds Try.pinned (OpenSpec.ofChange disksErrorsWrong)

/-- 'caissonlaw14.DisksSame': WHATEVER THE INPUT: true; the input reads as it did. -/
def disksSameSpec : ChangeSpec := { name := "disksSame", fn := fun _ => fun
  | [d1, d2] => { results := [.lit (.bool true)], args := [d1, d2] }
  | _ => none }
def disksSameRow : OpenClaim := { program := "ytdhbhcbkhkopbaa", sum := "fe1ea438329abc99ef458996682d7488263c07897b32387247922cb1e8d3c937", func := "caisson/caissonlaw14.DisksSame", spec := "disksSame", apart := false }
def DisksSameSaid : Prop := disksSameRow.holds Try.pinned (OpenSpec.ofChange disksSameSpec)

/-- ITS FALSE NEIGHBOUR: 'it returns false'. Refute it at one input. -/
def disksSameWrong : ChangeSpec := { name := "disksSame", fn := fun _ => fun
  | [d1, d2] => { results := [.lit (.bool false)], args := [d1, d2] }
  | _ => none }
def DisksSameWrongFalsely : Prop := disksSameRow.holds Try.pinned (OpenSpec.ofChange disksSameWrong)

/-- 'caissonlaw14.DisksOther': WHATEVER THE INPUT: true; the input reads as it did. -/
def disksOtherSpec : ChangeSpec := { name := "disksOther", fn := fun _ => fun
  | [d1, d2, d3] => { results := [.lit (.bool true)], args := [d1, d2, d3] }
  | _ => none }
def disksOtherRow : OpenClaim := { program := "ytdhbhcbkhkopbaa", sum := "fe1ea438329abc99ef458996682d7488263c07897b32387247922cb1e8d3c937", func := "caisson/caissonlaw14.DisksOther", spec := "disksOther", apart := false }
def DisksOtherSaid : Prop := disksOtherRow.holds Try.pinned (OpenSpec.ofChange disksOtherSpec)

/-- ITS FALSE NEIGHBOUR: 'it returns false'. Refute it at one input. -/
def disksOtherWrong : ChangeSpec := { name := "disksOther", fn := fun _ => fun
  | [d1, d2, d3] => { results := [.lit (.bool false)], args := [d1, d2, d3] }
  | _ => none }
def DisksOtherWrongFalsely : Prop := disksOtherRow.holds Try.pinned (OpenSpec.ofChange disksOtherWrong)

/-- 'caissonlaw14.DisksKnown': WHATEVER THE INPUT: true; the input reads as it did. -/
def disksKnownSpec : ChangeSpec := { name := "disksKnown", fn := fun _ => fun
  | [] => { results := [.lit (.bool true)], args := [] }
  | _ => none }
def disksKnownRow : OpenClaim := { program := "ytdhbhcbkhkopbaa", sum := "fe1ea438329abc99ef458996682d7488263c07897b32387247922cb1e8d3c937", func := "caisson/caissonlaw14.DisksKnown", spec := "disksKnown", apart := false }
def DisksKnownSaid : Prop := disksKnownRow.holds Try.pinned (OpenSpec.ofChange disksKnownSpec)

/-- ITS FALSE NEIGHBOUR: 'it returns false'. Refute it at one input. -/
def disksKnownWrong : ChangeSpec := { name := "disksKnown", fn := fun _ => fun
  | [] => { results := [.lit (.bool false)], args := [] }
  | _ => none }
def DisksKnownWrongFalsely : Prop := disksKnownRow.holds Try.pinned (OpenSpec.ofChange disksKnownWrong)

/- THE SECOND FORM. 'bulk': how many values and letters a reading holds, each counted each time it is reached (what is shared counts as often as it is met; a slice's spare places count too). A statement '..UptoSaid' is the law's where the arguments, and the package variables that the reading takes, are together of bulk at most 1048576: NARROWER than '..Said'. Prove '..Said' where nothing that the law and all that it calls make is longer than what came in: it says more and counts as full. Else prove '..UptoSaid'. A law counts once. -/
mutual
def uptoBulk {H : Type} : DataW H → Nat
  | .lit (.string bytes) => bytes.length + 1
  | .lit _ => 1
  | .nil => 1
  | .ptr d => uptoBulk d + 1
  | .slice elems spare => uptoBulkAll elems + uptoBulkAll spare + 1
  | .agg parts => uptoBulkAll parts + 1
  | .iface _ d => uptoBulk d + 1
  | .map entries => uptoBulkEntries entries + 1
  | .held _ => 1
def uptoBulkAll {H : Type} : List (DataW H) → Nat
  | [] => 0
  | d :: r => uptoBulk d + uptoBulkAll r
def uptoBulkEntries {H : Type} : List (Lit × DataW H) → Nat
  | [] => 0
  | x :: r => uptoBulkEntry x + uptoBulkEntries r
def uptoBulkEntry {H : Type} : Lit × DataW H → Nat
  | (.string bytes, d) => bytes.length + uptoBulk d + 1
  | (_, d) => uptoBulk d + 1
 end
def uptoSmall : (H : Type) → List (DataW H) → Bool := fun _ ds => decide (uptoBulkAll ds ≤ 1048576)
def OpenSpec.upto (s : _root_.Go.ChangeSpec) : _root_.Go.OpenSpec := { _root_.Go.OpenSpec.ofChange s with cond := some uptoSmall }

/-- 'caissonlaw14.DisksScript', WHERE WHAT IT READS IS OF BULK AT MOST 1048576: true; the input reads as it did. -/
def disksScriptUptoRow : OpenClaim := { program := "ytdhbhcbkhkopbaa", sum := "fe1ea438329abc99ef458996682d7488263c07897b32387247922cb1e8d3c937", func := "caisson/caissonlaw14.DisksScript", spec := "disksScript", apart := false, narrowed := true }
def DisksScriptUptoSaid : Prop := disksScriptUptoRow.holds Try.pinned (OpenSpec.upto disksScriptSpec)

/-- 'caissonlaw14.DisksValues', WHERE WHAT IT READS IS OF BULK AT MOST 1048576: true; the input reads as it did. -/
def disksValuesUptoRow : OpenClaim := { program := "ytdhbhcbkhkopbaa", sum := "fe1ea438329abc99ef458996682d7488263c07897b32387247922cb1e8d3c937", func := "caisson/caissonlaw14.DisksValues", spec := "disksValues", apart := false, narrowed := true }
def DisksValuesUptoSaid : Prop := disksValuesUptoRow.holds Try.pinned (OpenSpec.upto disksValuesSpec)

/-- 'caissonlaw14.DisksErrors', WHERE WHAT IT READS IS OF BULK AT MOST 1048576: true; the input reads as it did. -/
def disksErrorsUptoRow : OpenClaim := { program := "ytdhbhcbkhkopbaa", sum := "fe1ea438329abc99ef458996682d7488263c07897b32387247922cb1e8d3c937", func := "caisson/caissonlaw14.DisksErrors", spec := "disksErrors", apart := false, narrowed := true }
def DisksErrorsUptoSaid : Prop := disksErrorsUptoRow.holds Try.pinned (OpenSpec.upto disksErrorsSpec)

/-- 'caissonlaw14.DisksSame', WHERE WHAT IT READS IS OF BULK AT MOST 1048576: true; the input reads as it did. -/
def disksSameUptoRow : OpenClaim := { program := "ytdhbhcbkhkopbaa", sum := "fe1ea438329abc99ef458996682d7488263c07897b32387247922cb1e8d3c937", func := "caisson/caissonlaw14.DisksSame", spec := "disksSame", apart := false, narrowed := true }
def DisksSameUptoSaid : Prop := disksSameUptoRow.holds Try.pinned (OpenSpec.upto disksSameSpec)

/-- 'caissonlaw14.DisksOther', WHERE WHAT IT READS IS OF BULK AT MOST 1048576: true; the input reads as it did. -/
def disksOtherUptoRow : OpenClaim := { program := "ytdhbhcbkhkopbaa", sum := "fe1ea438329abc99ef458996682d7488263c07897b32387247922cb1e8d3c937", func := "caisson/caissonlaw14.DisksOther", spec := "disksOther", apart := false, narrowed := true }
def DisksOtherUptoSaid : Prop := disksOtherUptoRow.holds Try.pinned (OpenSpec.upto disksOtherSpec)

/-- 'caissonlaw14.DisksKnown', WHERE WHAT IT READS IS OF BULK AT MOST 1048576: true; the input reads as it did. -/
def disksKnownUptoRow : OpenClaim := { program := "ytdhbhcbkhkopbaa", sum := "fe1ea438329abc99ef458996682d7488263c07897b32387247922cb1e8d3c937", func := "caisson/caissonlaw14.DisksKnown", spec := "disksKnown", apart := false, narrowed := true }
def DisksKnownUptoSaid : Prop := disksKnownUptoRow.holds Try.pinned (OpenSpec.upto disksKnownSpec)

end Rows
end Go.Proofs.Ytdhbhcbkhkopbaa
