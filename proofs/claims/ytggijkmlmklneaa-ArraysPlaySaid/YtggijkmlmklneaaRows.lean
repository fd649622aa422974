/-
  No cell of these rows narrows 'for every input' (looked for: loops, veiled, ifaces, maps, wideKeys, modest, calm, conditions, laid).
  DERIVED. THE GIVEN ROWS OF THIS SEAT. 5 by the template 'for every input the law returns true; each argument reads behind the call as it read before'; 0 by the template 'total and deterministic' (their statements: YtggijkmlmklneaaTotals.lean).
  GIVEN WITH THE SEED: the statements are not yours to turn. If you find one false, say at which input.
  Laid BY PROGRAM, IN A SANDBOX (cutbox-rows.mjs): the forced cells as the released guide's own fill.sh prints them over the translation 2a2a7bc3aef2cb10… (all of the seat's roots in one cut). By AI agents, Wed Nov 11 2026. No macro, syntax, notation, axiom, sorry.
-/
import Derived.Test.YtggijkmlmklneaaChecked
import GoSem.Claim
import GoSem.ClaimJoined
import GoSem.ClaimMapViews
import Derived.JoinedTies
import Derived.KernelRfl
namespace Go.Proofs.Ytggijkmlmklneaa
/- THE CELL 'sum', in the pinned program and in every row, IS THE sha256 OF THE DUMP (.gsa) THAT YtggijkmlmklneaaProg.lean LOADS. Nothing in Lean hashes anything: it is a label: what it is worth is what the hold of that sum in a sandbox is worth. -/
noncomputable def Try.pinned : Pinned := { name := "ytggijkmlmklneaa", sum := "2a2a7bc3aef2cb100871e1c68e927fbaead4038b721bfb8f7664a93a88a6bb56", checked := Try.checked }
namespace Rows
def none {H : Type} : Left H := { results := [], args := [] }

/-- 'caissonlaw21.ArraysPlay': WHATEVER THE INPUT: true; the input reads as it did. -/
def arraysPlaySpec : ChangeSpec := { name := "arraysPlay", fn := fun _ => fun
  | [d] => { results := [.lit (.bool true)], args := [d] }
  | _ => none }
def arraysPlayRow : OpenClaim := { program := "ytggijkmlmklneaa", sum := "2a2a7bc3aef2cb100871e1c68e927fbaead4038b721bfb8f7664a93a88a6bb56", func := "caisson/caissonlaw21.ArraysPlay", spec := "arraysPlay", unfollowed := true, recurses := true, apart := false }
def ArraysPlaySaid : Prop := arraysPlayRow.holds Try.pinned (OpenSpec.ofChange arraysPlaySpec)

/-- ITS FALSE NEIGHBOUR: 'it returns false'. Refute it at one input. -/
def arraysPlayWrong : ChangeSpec := { name := "arraysPlay", fn := fun _ => fun
  | [d] => { results := [.lit (.bool false)], args := [d] }
  | _ => none }
def ArraysPlayWrongFalsely : Prop := arraysPlayRow.holds Try.pinned (OpenSpec.ofChange arraysPlayWrong)

/-- 'caissonlaw21.ArraysOrder': WHATEVER THE INPUT: true; the input reads as it did. -/
def arraysOrderSpec : ChangeSpec := { name := "arraysOrder", fn := fun _ => fun
  | [d1, d2, d3] => { results := [.lit (.bool true)], args := [d1, d2, d3] }
  | _ => none }
def arraysOrderRow : OpenClaim := { program := "ytggijkmlmklneaa", sum := "2a2a7bc3aef2cb100871e1c68e927fbaead4038b721bfb8f7664a93a88a6bb56", func := "caisson/caissonlaw21.ArraysOrder", spec := "arraysOrder", unfollowed := true, recurses := true, apart := false }
def ArraysOrderSaid : Prop := arraysOrderRow.holds Try.pinned (OpenSpec.ofChange arraysOrderSpec)

/-- ITS FALSE NEIGHBOUR: 'it returns false'. Refute it at one input. -/
def arraysOrderWrong : ChangeSpec := { name := "arraysOrder", fn := fun _ => fun
  | [d1, d2, d3] => { results := [.lit (.bool false)], args := [d1, d2, d3] }
  | _ => none }
def ArraysOrderWrongFalsely : Prop := arraysOrderRow.holds Try.pinned (OpenSpec.ofChange arraysOrderWrong)

/-- 'caissonlaw21.ArraysErrors': WHATEVER THE INPUT: true; the input reads as it did. -/
def arraysErrorsSpec : ChangeSpec := { name := "arraysErrors", fn := fun _ => fun
  | [d1, d2, d3] => { results := [.lit (.bool true)], args := [d1, d2, d3] }
  | _ => none }
def arraysErrorsRow : OpenClaim := { program := "ytggijkmlmklneaa", sum := "2a2a7bc3aef2cb100871e1c68e927fbaead4038b721bfb8f7664a93a88a6bb56", func := "caisson/caissonlaw21.ArraysErrors", spec := "arraysErrors", unfollowed := true, recurses := true, apart := false }
def ArraysErrorsSaid : Prop := arraysErrorsRow.holds Try.pinned (OpenSpec.ofChange arraysErrorsSpec)

/-- ITS FALSE NEIGHBOUR: 'it returns false'. Refute it at one input. -/
def arraysErrorsWrong : ChangeSpec := { name := "arraysErrors", fn := fun _ => fun
  | [d1, d2, d3] => { results := [.lit (.bool false)], args := [d1, d2, d3] }
  | _ => none }
def ArraysErrorsWrongFalsely : Prop := arraysErrorsRow.holds Try.pinned (OpenSpec.ofChange arraysErrorsWrong)

/-- 'caissonlaw21.ArraysDiffer': WHATEVER THE INPUT: true; the input reads as it did. -/
def arraysDifferSpec : ChangeSpec := { name := "arraysDiffer", fn := fun _ => fun
  | [d1, d2] => { results := [.lit (.bool true)], args := [d1, d2] }
  | _ => none }
def arraysDifferRow : OpenClaim := { program := "ytggijkmlmklneaa", sum := "2a2a7bc3aef2cb100871e1c68e927fbaead4038b721bfb8f7664a93a88a6bb56", func := "caisson/caissonlaw21.ArraysDiffer", spec := "arraysDiffer", unfollowed := true, recurses := true, apart := false }
def ArraysDifferSaid : Prop := arraysDifferRow.holds Try.pinned (OpenSpec.ofChange arraysDifferSpec)

/-- ITS FALSE NEIGHBOUR: 'it returns false'. Refute it at one input. -/
def arraysDifferWrong : ChangeSpec := { name := "arraysDiffer", fn := fun _ => fun
  | [d1, d2] => { results := [.lit (.bool false)], args := [d1, d2] }
  | _ => none }
def ArraysDifferWrongFalsely : Prop := arraysDifferRow.holds Try.pinned (OpenSpec.ofChange arraysDifferWrong)

/-- 'caissonlaw21.ArraysKnown': WHATEVER THE INPUT: true; the input reads as it did. -/
def arraysKnownSpec : ChangeSpec := { name := "arraysKnown", fn := fun _ => fun
  | [] => { results := [.lit (.bool true)], args := [] }
  | _ => none }
def arraysKnownRow : OpenClaim := { program := "ytggijkmlmklneaa", sum := "2a2a7bc3aef2cb100871e1c68e927fbaead4038b721bfb8f7664a93a88a6bb56", func := "caisson/caissonlaw21.ArraysKnown", spec := "arraysKnown", unfollowed := true, recurses := true, apart := false }
def ArraysKnownSaid : Prop := arraysKnownRow.holds Try.pinned (OpenSpec.ofChange arraysKnownSpec)

/-- ITS FALSE NEIGHBOUR: 'it returns false'. Refute it at one input. -/
def arraysKnownWrong : ChangeSpec := { name := "arraysKnown", fn := fun _ => fun
  | [] => { results := [.lit (.bool false)], args := [] }
  | _ => none }
def ArraysKnownWrongFalsely : Prop := arraysKnownRow.holds Try.pinned (OpenSpec.ofChange arraysKnownWrong)

/- THE SECOND FORM. 'bulk': how many values and letters a reading holds, each counted each time it is reached (what is shared counts as often as it is met; a slice's spare places count too). A statement '..UptoSaid' is the law's where the arguments, and the package variables that the reading takes, are together of bulk at most 1048576: NARROWER than '..Said'. Prove '..Said' where nothing that the law and all that it calls make is longer than what came in: it says more and counts as full. Else prove '..UptoSaid'. A law counts once. -/
mutual
def uptoBulk {H : Type} : DataW H → Nat
  | .lit (.string bytes) => bytes.length + 1
  | .lit _ => 1
  | .nil => 1
  | .ptr d => uptoBulk d + 1
  | .slice elems spare => uptoBulkAll elems + uptoBulkAll spare + 1
  | .agg parts => uptoBulkAll parts + 1
  | .iface _ d => uptoBulk d + 1
  | .map entries => uptoBulkEntries entries + 1
  | .held _ => 1
def uptoBulkAll {H : Type} : List (DataW H) → Nat
  | [] => 0
  | d :: r => uptoBulk d + uptoBulkAll r
def uptoBulkEntries {H : Type} : List (Lit × DataW H) → Nat
  | [] => 0
  | x :: r => uptoBulkEntry x + uptoBulkEntries r
def uptoBulkEntry {H : Type} : Lit × DataW H → Nat
  | (.string bytes, d) => bytes.length + uptoBulk d + 1
  | (_, d) => uptoBulk d + 1
 end
def uptoSmall : (H : Type) → List (DataW H) → Bool := fun _ ds => decide (uptoBulkAll ds ≤ 1048576)
def OpenSpec.upto (s : _root_.Go.ChangeSpec) : _root_.Go.OpenSpec := { _root_.Go.OpenSpec.ofChange s with cond := some uptoSmall }

/-- 'caissonlaw21.ArraysPlay', WHERE WHAT IT READS IS OF BULK AT MOST 1048576: true; the input reads as it did. -/
def arraysPlayUptoRow : OpenClaim := { program := "ytggijkmlmklneaa", sum := "2a2a7bc3aef2cb100871e1c68e927fbaead4038b721bfb8f7664a93a88a6bb56", func := "caisson/caissonlaw21.ArraysPlay", spec := "arraysPlay", unfollowed := true, recurses := true, apart := false, narrowed := true }
def ArraysPlayUptoSaid : Prop := arraysPlayUptoRow.holds Try.pinned (OpenSpec.upto arraysPlaySpec)

/-- 'caissonlaw21.ArraysOrder', WHERE WHAT IT READS IS OF BULK AT MOST 1048576: true; the input reads as it did. -/
def arraysOrderUptoRow : OpenClaim := { program := "ytggijkmlmklneaa", sum := "2a2a7bc3aef2cb100871e1c68e927fbaead4038b721bfb8f7664a93a88a6bb56", func := "caisson/caissonlaw21.ArraysOrder", spec := "arraysOrder", unfollowed := true, recurses := true, apart := false, narrowed := true }
def ArraysOrderUptoSaid : Prop := arraysOrderUptoRow.holds Try.pinned (OpenSpec.upto arraysOrderSpec)

/-- 'caissonlaw21.ArraysErrors', WHERE WHAT IT READS IS OF BULK AT MOST 1048576: true; the input reads as it did. -/
def arraysErrorsUptoRow : OpenClaim := { program := "ytggijkmlmklneaa", sum := "2a2a7bc3aef2cb100871e1c68e927fbaead4038b721bfb8f7664a93a88a6bb56", func := "caisson/caissonlaw21.ArraysErrors", spec := "arraysErrors", unfollowed := true, recurses := true, apart := false, narrowed := true }
def ArraysErrorsUptoSaid : Prop := arraysErrorsUptoRow.holds Try.pinned (OpenSpec.upto arraysErrorsSpec)

/-- 'caissonlaw21.ArraysDiffer', WHERE WHAT IT READS IS OF BULK AT MOST 1048576: true; the input reads as it did. -/
def arraysDifferUptoRow : OpenClaim := { program := "ytggijkmlmklneaa", sum := "2a2a7bc3aef2cb100871e1c68e927fbaead4038b721bfb8f7664a93a88a6bb56", func := "caisson/caissonlaw21.ArraysDiffer", spec := "arraysDiffer", unfollowed := true, recurses := true, apart := false, narrowed := true }
def ArraysDifferUptoSaid : Prop := arraysDifferUptoRow.holds Try.pinned (OpenSpec.upto arraysDifferSpec)

/-- 'caissonlaw21.ArraysKnown', WHERE WHAT IT READS IS OF BULK AT MOST 1048576: true; the input reads as it did. -/
def arraysKnownUptoRow : OpenClaim := { program := "ytggijkmlmklneaa", sum := "2a2a7bc3aef2cb100871e1c68e927fbaead4038b721bfb8f7664a93a88a6bb56", func := "caisson/caissonlaw21.ArraysKnown", spec := "arraysKnown", unfollowed := true, recurses := true, apart := false, narrowed := true }
def ArraysKnownUptoSaid : Prop := arraysKnownUptoRow.holds Try.pinned (OpenSpec.upto arraysKnownSpec)

end Rows
end Go.Proofs.Ytggijkmlmklneaa
