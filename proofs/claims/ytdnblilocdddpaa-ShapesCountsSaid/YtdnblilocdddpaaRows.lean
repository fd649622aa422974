/-
  No cell of these rows narrows 'for every input' (looked for: loops, veiled, ifaces, maps, wideKeys, modest, calm, conditions, laid).
  DERIVED. THE GIVEN ROWS OF THIS SEAT. 6 by the template 'for every input the law returns true; each argument reads behind the call as it read before'; 0 by the template 'total and deterministic' (their statements: YtdnblilocdddpaaTotals.lean).
  GIVEN WITH THE SEED: the statements are not yours to turn. If you find one false, say at which input.
  Laid BY PROGRAM, IN A SANDBOX (cutbox-rows.mjs): the forced cells as the released guide's own fill.sh prints them over the translation a4acbe55cbf65a6c… (all of the seat's roots in one cut). By AI agents, Wed Nov 11 2026. No macro, syntax, notation, axiom, sorry.
-/
import Derived.Test.YtdnblilocdddpaaChecked
import GoSem.Claim
import GoSem.ClaimJoined
import GoSem.ClaimMapViews
import Derived.JoinedTies
import Derived.KernelRfl
namespace Go.Proofs.Ytdnblilocdddpaa
/- THE CELL 'sum', in the pinned program and in every row, IS THE sha256 OF THE DUMP (.gsa) THAT YtdnblilocdddpaaProg.lean LOADS. Nothing in Lean hashes anything: it is a label: what it is worth is what the hold of that sum in a sandbox is worth. -/
noncomputable def Try.pinned : Pinned := { name := "ytdnblilocdddpaa", sum := "a4acbe55cbf65a6cd3bb36351308f8b0910e93e23165c67c7a81151bd88f8d4b", checked := Try.checked }
namespace Rows
def none {H : Type} : Left H := { results := [], args := [] }

/-- 'caissonlaw12.ShapesSectors': WHATEVER THE INPUT: true; the input reads as it did. -/
def shapesSectorsSpec : ChangeSpec := { name := "shapesSectors", fn := fun _ => fun
  | [d1, d2] => { results := [.lit (.bool true)], args := [d1, d2] }
  | _ => none }
def shapesSectorsRow : OpenClaim := { program := "ytdnblilocdddpaa", sum := "a4acbe55cbf65a6cd3bb36351308f8b0910e93e23165c67c7a81151bd88f8d4b", func := "caisson/caissonlaw12.ShapesSectors", spec := "shapesSectors", unfollowed := true, recurses := true, apart := false }
def ShapesSectorsSaid : Prop := shapesSectorsRow.holds Try.pinned (OpenSpec.ofChange shapesSectorsSpec)

/-- ITS FALSE NEIGHBOUR: 'it returns false'. Refute it at one input. -/
def shapesSectorsWrong : ChangeSpec := { name := "shapesSectors", fn := fun _ => fun
  | [d1, d2] => { results := [.lit (.bool false)], args := [d1, d2] }
  | _ => none }
def ShapesSectorsWrongFalsely : Prop := shapesSectorsRow.holds Try.pinned (OpenSpec.ofChange shapesSectorsWrong)

/-- 'caissonlaw12.ShapesCounts': WHATEVER THE INPUT: true; the input reads as it did. -/
def shapesCountsSpec : ChangeSpec := { name := "shapesCounts", fn := fun _ => fun
  | [d1, d2] => { results := [.lit (.bool true)], args := [d1, d2] }
  | _ => none }
def shapesCountsRow : OpenClaim := { program := "ytdnblilocdddpaa", sum := "a4acbe55cbf65a6cd3bb36351308f8b0910e93e23165c67c7a81151bd88f8d4b", func := "caisson/caissonlaw12.ShapesCounts", spec := "shapesCounts", unfollowed := true, recurses := true, apart := false }
def ShapesCountsSaid : Prop := shapesCountsRow.holds Try.pinned (OpenSpec.ofChange shapesCountsSpec)

/-- ITS FALSE NEIGHBOUR: 'it returns false'. Refute it at one input. -/
def shapesCountsWrong : ChangeSpec := { name := "shapesCounts", fn := fun _ => fun
  | [d1, d2] => { results := [.lit (.bool false)], args := [d1, d2] }
  | _ => none }
def ShapesCountsWrongFalsely : Prop := shapesCountsRow.holds Try.pinned (OpenSpec.ofChange shapesCountsWrong)

/-- 'caissonlaw12.ShapesFamily': WHATEVER THE INPUT: true; the input reads as it did. -/
def shapesFamilySpec : ChangeSpec := { name := "shapesFamily", fn := fun _ => fun
  | [d1, d2, d3] => { results := [.lit (.bool true)], args := [d1, d2, d3] }
  | _ => none }
def shapesFamilyRow : OpenClaim := { program := "ytdnblilocdddpaa", sum := "a4acbe55cbf65a6cd3bb36351308f8b0910e93e23165c67c7a81151bd88f8d4b", func := "caisson/caissonlaw12.ShapesFamily", spec := "shapesFamily", unfollowed := true, recurses := true, apart := false }
def ShapesFamilySaid : Prop := shapesFamilyRow.holds Try.pinned (OpenSpec.ofChange shapesFamilySpec)

/-- ITS FALSE NEIGHBOUR: 'it returns false'. Refute it at one input. -/
def shapesFamilyWrong : ChangeSpec := { name := "shapesFamily", fn := fun _ => fun
  | [d1, d2, d3] => { results := [.lit (.bool false)], args := [d1, d2, d3] }
  | _ => none }
def ShapesFamilyWrongFalsely : Prop := shapesFamilyRow.holds Try.pinned (OpenSpec.ofChange shapesFamilyWrong)

/-- 'caissonlaw12.ShapesPath': WHATEVER THE INPUT: true; the input reads as it did. -/
def shapesPathSpec : ChangeSpec := { name := "shapesPath", fn := fun _ => fun
  | [d1, d2] => { results := [.lit (.bool true)], args := [d1, d2] }
  | _ => none }
def shapesPathRow : OpenClaim := { program := "ytdnblilocdddpaa", sum := "a4acbe55cbf65a6cd3bb36351308f8b0910e93e23165c67c7a81151bd88f8d4b", func := "caisson/caissonlaw12.ShapesPath", spec := "shapesPath", unfollowed := true, recurses := true, apart := false }
def ShapesPathSaid : Prop := shapesPathRow.holds Try.pinned (OpenSpec.ofChange shapesPathSpec)

/-- ITS FALSE NEIGHBOUR: 'it returns false'. Refute it at one input. -/
def shapesPathWrong : ChangeSpec := { name := "shapesPath", fn := fun _ => fun
  | [d1, d2] => { results := [.lit (.bool false)], args := [d1, d2] }
  | _ => none }
def ShapesPathWrongFalsely : Prop := shapesPathRow.holds Try.pinned (OpenSpec.ofChange shapesPathWrong)

/-- 'caissonlaw12.ShapesErrors': WHATEVER THE INPUT: true; the input reads as it did. -/
def shapesErrorsSpec : ChangeSpec := { name := "shapesErrors", fn := fun _ => fun
  | [d] => { results := [.lit (.bool true)], args := [d] }
  | _ => none }
def shapesErrorsRow : OpenClaim := { program := "ytdnblilocdddpaa", sum := "a4acbe55cbf65a6cd3bb36351308f8b0910e93e23165c67c7a81151bd88f8d4b", func := "caisson/caissonlaw12.ShapesErrors", spec := "shapesErrors", unfollowed := true, recurses := true, apart := false }
def ShapesErrorsSaid : Prop := shapesErrorsRow.holds Try.pinned (OpenSpec.ofChange shapesErrorsSpec)

/-- ITS FALSE NEIGHBOUR: 'it returns false'. Refute it at one input. -/
def shapesErrorsWrong : ChangeSpec := { name := "shapesErrors", fn := fun _ => fun
  | [d] => { results := [.lit (.bool false)], args := [d] }
  | _ => none }
def ShapesErrorsWrongFalsely : Prop := shapesErrorsRow.holds Try.pinned (OpenSpec.ofChange shapesErrorsWrong)

/-- 'caissonlaw12.ShapesKnown': WHATEVER THE INPUT: true; the input reads as it did. -/
def shapesKnownSpec : ChangeSpec := { name := "shapesKnown", fn := fun _ => fun
  | [] => { results := [.lit (.bool true)], args := [] }
  | _ => none }
def shapesKnownRow : OpenClaim := { program := "ytdnblilocdddpaa", sum := "a4acbe55cbf65a6cd3bb36351308f8b0910e93e23165c67c7a81151bd88f8d4b", func := "caisson/caissonlaw12.ShapesKnown", spec := "shapesKnown", unfollowed := true, recurses := true, apart := false }
def ShapesKnownSaid : Prop := shapesKnownRow.holds Try.pinned (OpenSpec.ofChange shapesKnownSpec)

/-- ITS FALSE NEIGHBOUR: 'it returns false'. Refute it at one input. -/
def shapesKnownWrong : ChangeSpec := { name := "shapesKnown", fn := fun _ => fun
  | [] => { results := [.lit (.bool false)], args := [] }
  | _ => none }
def ShapesKnownWrongFalsely : Prop := shapesKnownRow.holds Try.pinned (OpenSpec.ofChange shapesKnownWrong)

/- THE SECOND FORM. 'bulk': how many values and letters a reading holds, each counted each time it is reached (what is shared counts as often as it is met; a slice's spare places count too). A statement '..UptoSaid' is the law's where the arguments, and the package variables that the reading takes, are together of bulk at most 1048576: NARROWER than '..Said'. Prove '..Said' where nothing that the law and all that it calls make is longer than what came in: it says more and counts as full. Else prove '..UptoSaid'. A law counts once. -/
mutual
def uptoBulk {H : Type} : DataW H → Nat
  | .lit (.string bytes) => bytes.length + 1
  | .lit _ => 1
  | .nil => 1
  | .ptr d => uptoBulk d + 1
  | .slice elems spare => uptoBulkAll elems + uptoBulkAll spare + 1
  | .agg parts => uptoBulkAll parts + 1
  | .iface _ d => uptoBulk d + 1
  | .map entries => uptoBulkEntries entries + 1
  | .held _ => 1
def uptoBulkAll {H : Type} : List (DataW H) → Nat
  | [] => 0
  | d :: r => uptoBulk d + uptoBulkAll r
def uptoBulkEntries {H : Type} : List (Lit × DataW H) → Nat
  | [] => 0
  | x :: r => uptoBulkEntry x + uptoBulkEntries r
def uptoBulkEntry {H : Type} : Lit × DataW H → Nat
  | (.string bytes, d) => bytes.length + uptoBulk d + 1
  | (_, d) => uptoBulk d + 1
 end
def uptoSmall : (H : Type) → List (DataW H) → Bool := fun _ ds => decide (uptoBulkAll ds ≤ 1048576)
def OpenSpec.upto (s : _root_.Go.ChangeSpec) : _root_.Go.OpenSpec := { _root_.Go.OpenSpec.ofChange s with cond := some uptoSmall }

/-- 'caissonlaw12.ShapesSectors', WHERE WHAT IT READS IS OF BULK AT MOST 1048576: true; the input reads as it did. -/
def shapesSectorsUptoRow : OpenClaim := { program := "ytdnblilocdddpaa", sum := "a4acbe55cbf65a6cd3bb36351308f8b0910e93e23165c67c7a81151bd88f8d4b", func := "caisson/caissonlaw12.ShapesSectors", spec := "shapesSectors", unfollowed := true, recurses := true, apart := false, narrowed := true }
def ShapesSectorsUptoSaid : Prop := shapesSectorsUptoRow.holds Try.pinned (OpenSpec.upto shapesSectorsSpec)

/-- 'caissonlaw12.ShapesCounts', WHERE WHAT IT READS IS OF BULK AT MOST 1048576: true; the input reads as it did. -/
def shapesCountsUptoRow : OpenClaim := { program := "ytdnblilocdddpaa", sum := "a4acbe55cbf65a6cd3bb36351308f8b0910e93e23165c67c7a81151bd88f8d4b", func := "caisson/caissonlaw12.ShapesCounts", spec := "shapesCounts", unfollowed := true, recurses := true, apart := false, narrowed := true }
def ShapesCountsUptoSaid : Prop := shapesCountsUptoRow.holds Try.pinned (OpenSpec.upto shapesCountsSpec)

/-- 'caissonlaw12.ShapesFamily', WHERE WHAT IT READS IS OF BULK AT MOST 1048576: true; the input reads as it did. -/
def shapesFamilyUptoRow : OpenClaim := { program := "ytdnblilocdddpaa", sum := "a4acbe55cbf65a6cd3bb36351308f8b0910e93e23165c67c7a81151bd88f8d4b", func := "caisson/caissonlaw12.ShapesFamily", spec := "shapesFamily", unfollowed := true, recurses := true, apart := false, narrowed := true }
def ShapesFamilyUptoSaid : Prop := shapesFamilyUptoRow.holds Try.pinned (OpenSpec.upto shapesFamilySpec)

/-- 'caissonlaw12.ShapesPath', WHERE WHAT IT READS IS OF BULK AT MOST 1048576: true; the input reads as it did. -/
def shapesPathUptoRow : OpenClaim := { program := "ytdnblilocdddpaa", sum := "a4acbe55cbf65a6cd3bb36351308f8b0910e93e23165c67c7a81151bd88f8d4b", func := "caisson/caissonlaw12.ShapesPath", spec := "shapesPath", unfollowed := true, recurses := true, apart := false, narrowed := true }
def ShapesPathUptoSaid : Prop := shapesPathUptoRow.holds Try.pinned (OpenSpec.upto shapesPathSpec)

/-- 'caissonlaw12.ShapesErrors', WHERE WHAT IT READS IS OF BULK AT MOST 1048576: true; the input reads as it did. -/
def shapesErrorsUptoRow : OpenClaim := { program := "ytdnblilocdddpaa", sum := "a4acbe55cbf65a6cd3bb36351308f8b0910e93e23165c67c7a81151bd88f8d4b", func := "caisson/caissonlaw12.ShapesErrors", spec := "shapesErrors", unfollowed := true, recurses := true, apart := false, narrowed := true }
def ShapesErrorsUptoSaid : Prop := shapesErrorsUptoRow.holds Try.pinned (OpenSpec.upto shapesErrorsSpec)

/-- 'caissonlaw12.ShapesKnown', WHERE WHAT IT READS IS OF BULK AT MOST 1048576: true; the input reads as it did. -/
def shapesKnownUptoRow : OpenClaim := { program := "ytdnblilocdddpaa", sum := "a4acbe55cbf65a6cd3bb36351308f8b0910e93e23165c67c7a81151bd88f8d4b", func := "caisson/caissonlaw12.ShapesKnown", spec := "shapesKnown", unfollowed := true, recurses := true, apart := false, narrowed := true }
def ShapesKnownUptoSaid : Prop := shapesKnownUptoRow.holds Try.pinned (OpenSpec.upto shapesKnownSpec)

end Rows
end Go.Proofs.Ytdnblilocdddpaa
