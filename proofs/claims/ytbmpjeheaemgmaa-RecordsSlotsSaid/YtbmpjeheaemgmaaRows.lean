/-
  No cell of these rows narrows 'for every input' (looked for: loops, veiled, ifaces, maps, wideKeys, modest, calm, conditions, laid).
  DERIVED. THE GIVEN ROWS OF THIS SEAT. 6 by the template 'for every input the law returns true; each argument reads behind the call as it read before'; 0 by the template 'total and deterministic' (their statements: YtbmpjeheaemgmaaTotals.lean).
  GIVEN WITH THE SEED: the statements are not yours to turn. If you find one false, say at which input.
  Laid BY PROGRAM, IN A SANDBOX (cutbox-rows.mjs): the forced cells as the released guide's own fill.sh prints them over the translation e8b535e14bc75776… (all of the seat's roots in one cut). By AI agents, Wed Nov 11 2026. No macro, syntax, notation, axiom, sorry.
-/
import Derived.Test.YtbmpjeheaemgmaaChecked
import GoSem.Claim
import GoSem.ClaimJoined
import GoSem.ClaimMapViews
import Derived.JoinedTies
import Derived.KernelRfl
namespace Go.Proofs.Ytbmpjeheaemgmaa
/- THE CELL 'sum', in the pinned program and in every row, IS THE sha256 OF THE DUMP (.gsa) THAT YtbmpjeheaemgmaaProg.lean LOADS. Nothing in Lean hashes anything: it is a label: what it is worth is what the hold of that sum in a sandbox is worth. -/
noncomputable def Try.pinned : Pinned := { name := "ytbmpjeheaemgmaa", sum := "e8b535e14bc75776aae30003e352a934a184cb4977af04b5ec192ad26c0ddf28", checked := Try.checked }
namespace Rows
def none {H : Type} : Left H := { results := [], args := [] }

/-- 'caissonlaw10.RecordsRecord': WHATEVER THE INPUT: true; the input reads as it did. -/
def recordsRecordSpec : ChangeSpec := { name := "recordsRecord", fn := fun _ => fun
  | [d] => { results := [.lit (.bool true)], args := [d] }
  | _ => none }
def recordsRecordRow : OpenClaim := { program := "ytbmpjeheaemgmaa", sum := "e8b535e14bc75776aae30003e352a934a184cb4977af04b5ec192ad26c0ddf28", func := "caisson/caissonlaw10.RecordsRecord", spec := "recordsRecord", unfollowed := true, recurses := true, apart := false }
def RecordsRecordSaid : Prop := recordsRecordRow.holds Try.pinned (OpenSpec.ofChange recordsRecordSpec)

/-- ITS FALSE NEIGHBOUR: 'it returns false'. Refute it at one input. -/
def recordsRecordWrong : ChangeSpec := { name := "recordsRecord", fn := fun _ => fun
  | [d] => { results := [.lit (.bool false)], args := [d] }
  | _ => none }
def RecordsRecordWrongFalsely : Prop := recordsRecordRow.holds Try.pinned (OpenSpec.ofChange recordsRecordWrong)

/-- 'caissonlaw10.RecordsEntry': WHATEVER THE INPUT: true; the input reads as it did. -/
def recordsEntrySpec : ChangeSpec := { name := "recordsEntry", fn := fun _ => fun
  | [d] => { results := [.lit (.bool true)], args := [d] }
  | _ => none }
def recordsEntryRow : OpenClaim := { program := "ytbmpjeheaemgmaa", sum := "e8b535e14bc75776aae30003e352a934a184cb4977af04b5ec192ad26c0ddf28", func := "caisson/caissonlaw10.RecordsEntry", spec := "recordsEntry", unfollowed := true, recurses := true, apart := false }
def RecordsEntrySaid : Prop := recordsEntryRow.holds Try.pinned (OpenSpec.ofChange recordsEntrySpec)

/-- ITS FALSE NEIGHBOUR: 'it returns false'. Refute it at one input. -/
def recordsEntryWrong : ChangeSpec := { name := "recordsEntry", fn := fun _ => fun
  | [d] => { results := [.lit (.bool false)], args := [d] }
  | _ => none }
def RecordsEntryWrongFalsely : Prop := recordsEntryRow.holds Try.pinned (OpenSpec.ofChange recordsEntryWrong)

/-- 'caissonlaw10.RecordsCell': WHATEVER THE INPUT: true; the input reads as it did. -/
def recordsCellSpec : ChangeSpec := { name := "recordsCell", fn := fun _ => fun
  | [d] => { results := [.lit (.bool true)], args := [d] }
  | _ => none }
def recordsCellRow : OpenClaim := { program := "ytbmpjeheaemgmaa", sum := "e8b535e14bc75776aae30003e352a934a184cb4977af04b5ec192ad26c0ddf28", func := "caisson/caissonlaw10.RecordsCell", spec := "recordsCell", unfollowed := true, recurses := true, apart := false }
def RecordsCellSaid : Prop := recordsCellRow.holds Try.pinned (OpenSpec.ofChange recordsCellSpec)

/-- ITS FALSE NEIGHBOUR: 'it returns false'. Refute it at one input. -/
def recordsCellWrong : ChangeSpec := { name := "recordsCell", fn := fun _ => fun
  | [d] => { results := [.lit (.bool false)], args := [d] }
  | _ => none }
def RecordsCellWrongFalsely : Prop := recordsCellRow.holds Try.pinned (OpenSpec.ofChange recordsCellWrong)

/-- 'caissonlaw10.RecordsGet': WHATEVER THE INPUT: true; the input reads as it did. -/
def recordsGetSpec : ChangeSpec := { name := "recordsGet", fn := fun _ => fun
  | [d] => { results := [.lit (.bool true)], args := [d] }
  | _ => none }
def recordsGetRow : OpenClaim := { program := "ytbmpjeheaemgmaa", sum := "e8b535e14bc75776aae30003e352a934a184cb4977af04b5ec192ad26c0ddf28", func := "caisson/caissonlaw10.RecordsGet", spec := "recordsGet", unfollowed := true, recurses := true, apart := false }
def RecordsGetSaid : Prop := recordsGetRow.holds Try.pinned (OpenSpec.ofChange recordsGetSpec)

/-- ITS FALSE NEIGHBOUR: 'it returns false'. Refute it at one input. -/
def recordsGetWrong : ChangeSpec := { name := "recordsGet", fn := fun _ => fun
  | [d] => { results := [.lit (.bool false)], args := [d] }
  | _ => none }
def RecordsGetWrongFalsely : Prop := recordsGetRow.holds Try.pinned (OpenSpec.ofChange recordsGetWrong)

/-- 'caissonlaw10.RecordsSlots': WHATEVER THE INPUT: true; the input reads as it did. -/
def recordsSlotsSpec : ChangeSpec := { name := "recordsSlots", fn := fun _ => fun
  | [d1, d2] => { results := [.lit (.bool true)], args := [d1, d2] }
  | _ => none }
def recordsSlotsRow : OpenClaim := { program := "ytbmpjeheaemgmaa", sum := "e8b535e14bc75776aae30003e352a934a184cb4977af04b5ec192ad26c0ddf28", func := "caisson/caissonlaw10.RecordsSlots", spec := "recordsSlots", unfollowed := true, recurses := true, apart := false }
def RecordsSlotsSaid : Prop := recordsSlotsRow.holds Try.pinned (OpenSpec.ofChange recordsSlotsSpec)

/-- ITS FALSE NEIGHBOUR: 'it returns false'. Refute it at one input. -/
def recordsSlotsWrong : ChangeSpec := { name := "recordsSlots", fn := fun _ => fun
  | [d1, d2] => { results := [.lit (.bool false)], args := [d1, d2] }
  | _ => none }
def RecordsSlotsWrongFalsely : Prop := recordsSlotsRow.holds Try.pinned (OpenSpec.ofChange recordsSlotsWrong)

/-- 'caissonlaw10.RecordsKnown': WHATEVER THE INPUT: true; the input reads as it did. -/
def recordsKnownSpec : ChangeSpec := { name := "recordsKnown", fn := fun _ => fun
  | [] => { results := [.lit (.bool true)], args := [] }
  | _ => none }
def recordsKnownRow : OpenClaim := { program := "ytbmpjeheaemgmaa", sum := "e8b535e14bc75776aae30003e352a934a184cb4977af04b5ec192ad26c0ddf28", func := "caisson/caissonlaw10.RecordsKnown", spec := "recordsKnown", unfollowed := true, recurses := true, apart := false }
def RecordsKnownSaid : Prop := recordsKnownRow.holds Try.pinned (OpenSpec.ofChange recordsKnownSpec)

/-- ITS FALSE NEIGHBOUR: 'it returns false'. Refute it at one input. -/
def recordsKnownWrong : ChangeSpec := { name := "recordsKnown", fn := fun _ => fun
  | [] => { results := [.lit (.bool false)], args := [] }
  | _ => none }
def RecordsKnownWrongFalsely : Prop := recordsKnownRow.holds Try.pinned (OpenSpec.ofChange recordsKnownWrong)

/- THE SECOND FORM. 'bulk': how many values and letters a reading holds, each counted each time it is reached (what is shared counts as often as it is met; a slice's spare places count too). A statement '..UptoSaid' is the law's where the arguments, and the package variables that the reading takes, are together of bulk at most 1048576: NARROWER than '..Said'. Prove '..Said' where nothing that the law and all that it calls make is longer than what came in: it says more and counts as full. Else prove '..UptoSaid'. A law counts once. -/
mutual
def uptoBulk {H : Type} : DataW H → Nat
  | .lit (.string bytes) => bytes.length + 1
  | .lit _ => 1
  | .nil => 1
  | .ptr d => uptoBulk d + 1
  | .slice elems spare => uptoBulkAll elems + uptoBulkAll spare + 1
  | .agg parts => uptoBulkAll parts + 1
  | .iface _ d => uptoBulk d + 1
  | .map entries => uptoBulkEntries entries + 1
  | .held _ => 1
def uptoBulkAll {H : Type} : List (DataW H) → Nat
  | [] => 0
  | d :: r => uptoBulk d + uptoBulkAll r
def uptoBulkEntries {H : Type} : List (Lit × DataW H) → Nat
  | [] => 0
  | x :: r => uptoBulkEntry x + uptoBulkEntries r
def uptoBulkEntry {H : Type} : Lit × DataW H → Nat
  | (.string bytes, d) => bytes.length + uptoBulk d + 1
  | (_, d) => uptoBulk d + 1
 end
def uptoSmall : (H : Type) → List (DataW H) → Bool := fun _ ds => decide (uptoBulkAll ds ≤ 1048576)
def OpenSpec.upto (s : _root_.Go.ChangeSpec) : _root_.Go.OpenSpec := { _root_.Go.OpenSpec.ofChange s with cond := some uptoSmall }

/-- 'caissonlaw10.RecordsRecord', WHERE WHAT IT READS IS OF BULK AT MOST 1048576: true; the input reads as it did. -/
def recordsRecordUptoRow : OpenClaim := { program := "ytbmpjeheaemgmaa", sum := "e8b535e14bc75776aae30003e352a934a184cb4977af04b5ec192ad26c0ddf28", func := "caisson/caissonlaw10.RecordsRecord", spec := "recordsRecord", unfollowed := true, recurses := true, apart := false, narrowed := true }
def RecordsRecordUptoSaid : Prop := recordsRecordUptoRow.holds Try.pinned (OpenSpec.upto recordsRecordSpec)

/-- 'caissonlaw10.RecordsEntry', WHERE WHAT IT READS IS OF BULK AT MOST 1048576: true; the input reads as it did. -/
def recordsEntryUptoRow : OpenClaim := { program := "ytbmpjeheaemgmaa", sum := "e8b535e14bc75776aae30003e352a934a184cb4977af04b5ec192ad26c0ddf28", func := "caisson/caissonlaw10.RecordsEntry", spec := "recordsEntry", unfollowed := true, recurses := true, apart := false, narrowed := true }
def RecordsEntryUptoSaid : Prop := recordsEntryUptoRow.holds Try.pinned (OpenSpec.upto recordsEntrySpec)

/-- 'caissonlaw10.RecordsCell', WHERE WHAT IT READS IS OF BULK AT MOST 1048576: true; the input reads as it did. -/
def recordsCellUptoRow : OpenClaim := { program := "ytbmpjeheaemgmaa", sum := "e8b535e14bc75776aae30003e352a934a184cb4977af04b5ec192ad26c0ddf28", func := "caisson/caissonlaw10.RecordsCell", spec := "recordsCell", unfollowed := true, recurses := true, apart := false, narrowed := true }
def RecordsCellUptoSaid : Prop := recordsCellUptoRow.holds Try.pinned (OpenSpec.upto recordsCellSpec)

/-- 'caissonlaw10.RecordsGet', WHERE WHAT IT READS IS OF BULK AT MOST 1048576: true; the input reads as it did. -/
def recordsGetUptoRow : OpenClaim := { program := "ytbmpjeheaemgmaa", sum := "e8b535e14bc75776aae30003e352a934a184cb4977af04b5ec192ad26c0ddf28", func := "caisson/caissonlaw10.RecordsGet", spec := "recordsGet", unfollowed := true, recurses := true, apart := false, narrowed := true }
def RecordsGetUptoSaid : Prop := recordsGetUptoRow.holds Try.pinned (OpenSpec.upto recordsGetSpec)

/-- 'caissonlaw10.RecordsSlots', WHERE WHAT IT READS IS OF BULK AT MOST 1048576: true; the input reads as it did. -/
def recordsSlotsUptoRow : OpenClaim := { program := "ytbmpjeheaemgmaa", sum := "e8b535e14bc75776aae30003e352a934a184cb4977af04b5ec192ad26c0ddf28", func := "caisson/caissonlaw10.RecordsSlots", spec := "recordsSlots", unfollowed := true, recurses := true, apart := false, narrowed := true }
def RecordsSlotsUptoSaid : Prop := recordsSlotsUptoRow.holds Try.pinned (OpenSpec.upto recordsSlotsSpec)

/-- 'caissonlaw10.RecordsKnown', WHERE WHAT IT READS IS OF BULK AT MOST 1048576: true; the input reads as it did. -/
def recordsKnownUptoRow : OpenClaim := { program := "ytbmpjeheaemgmaa", sum := "e8b535e14bc75776aae30003e352a934a184cb4977af04b5ec192ad26c0ddf28", func := "caisson/caissonlaw10.RecordsKnown", spec := "recordsKnown", unfollowed := true, recurses := true, apart := false, narrowed := true }
def RecordsKnownUptoSaid : Prop := recordsKnownUptoRow.holds Try.pinned (OpenSpec.upto recordsKnownSpec)

end Rows
end Go.Proofs.Ytbmpjeheaemgmaa
