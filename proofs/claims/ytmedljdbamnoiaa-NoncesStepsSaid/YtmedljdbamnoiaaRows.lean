/-
  No cell of these rows narrows 'for every input' (looked for: loops, veiled, ifaces, maps, wideKeys, modest, calm, conditions, laid).
  DERIVED. THE GIVEN ROWS OF THIS SEAT. 5 by the template 'for every input the law returns true; each argument reads behind the call as it read before'; 0 by the template 'total and deterministic' (their statements: YtmedljdbamnoiaaTotals.lean).
  GIVEN WITH THE SEED: the statements are not yours to turn. If you find one false, say at which input.
  Laid BY PROGRAM, IN A SANDBOX (cutbox-rows.mjs): the forced cells as the released guide's own fill.sh prints them over the translation 7ef93f40b2b36fe3… (all of the seat's roots in one cut). By AI agents, Wed Nov 11 2026. No macro, syntax, notation, axiom, sorry.
-/
import Derived.Test.YtmedljdbamnoiaaChecked
import GoSem.Claim
import GoSem.ClaimJoined
import GoSem.ClaimMapViews
import Derived.JoinedTies
import Derived.KernelRfl
namespace Go.Proofs.Ytmedljdbamnoiaa
/- THE CELL 'sum', in the pinned program and in every row, IS THE sha256 OF THE DUMP (.gsa) THAT YtmedljdbamnoiaaProg.lean LOADS. Nothing in Lean hashes anything: it is a label: what it is worth is what the hold of that sum in a sandbox is worth. -/
noncomputable def Try.pinned : Pinned := { name := "ytmedljdbamnoiaa", sum := "7ef93f40b2b36fe3ed870c443885944fc0ec4c136a30ba15310ef091b82a254d", checked := Try.checked }
namespace Rows
def none {H : Type} : Left H := { results := [], args := [] }

/-- 'caissonlaw08.NoncesBytes': WHATEVER THE INPUT: true; the input reads as it did. -/
def noncesBytesSpec : ChangeSpec := { name := "noncesBytes", fn := fun _ => fun
  | [d1, d2, d3] => { results := [.lit (.bool true)], args := [d1, d2, d3] }
  | _ => none }
def noncesBytesRow : OpenClaim := { program := "ytmedljdbamnoiaa", sum := "7ef93f40b2b36fe3ed870c443885944fc0ec4c136a30ba15310ef091b82a254d", func := "caisson/caissonlaw08.NoncesBytes", spec := "noncesBytes", unfollowed := true, recurses := true, apart := false }
def NoncesBytesSaid : Prop := noncesBytesRow.holds Try.pinned (OpenSpec.ofChange noncesBytesSpec)

/-- ITS FALSE NEIGHBOUR: 'it returns false'. Refute it at one input. -/
def noncesBytesWrong : ChangeSpec := { name := "noncesBytes", fn := fun _ => fun
  | [d1, d2, d3] => { results := [.lit (.bool false)], args := [d1, d2, d3] }
  | _ => none }
def NoncesBytesWrongFalsely : Prop := noncesBytesRow.holds Try.pinned (OpenSpec.ofChange noncesBytesWrong)

/-- 'caissonlaw08.NoncesErrors': WHATEVER THE INPUT: true; the input reads as it did. -/
def noncesErrorsSpec : ChangeSpec := { name := "noncesErrors", fn := fun _ => fun
  | [d1, d2] => { results := [.lit (.bool true)], args := [d1, d2] }
  | _ => none }
def noncesErrorsRow : OpenClaim := { program := "ytmedljdbamnoiaa", sum := "7ef93f40b2b36fe3ed870c443885944fc0ec4c136a30ba15310ef091b82a254d", func := "caisson/caissonlaw08.NoncesErrors", spec := "noncesErrors", unfollowed := true, recurses := true, apart := false }
def NoncesErrorsSaid : Prop := noncesErrorsRow.holds Try.pinned (OpenSpec.ofChange noncesErrorsSpec)

/-- ITS FALSE NEIGHBOUR: 'it returns false'. Refute it at one input. -/
def noncesErrorsWrong : ChangeSpec := { name := "noncesErrors", fn := fun _ => fun
  | [d1, d2] => { results := [.lit (.bool false)], args := [d1, d2] }
  | _ => none }
def NoncesErrorsWrongFalsely : Prop := noncesErrorsRow.holds Try.pinned (OpenSpec.ofChange noncesErrorsWrong)

/-- 'caissonlaw08.NoncesSteps': WHATEVER THE INPUT: true; the input reads as it did. -/
def noncesStepsSpec : ChangeSpec := { name := "noncesSteps", fn := fun _ => fun
  | [d1, d2] => { results := [.lit (.bool true)], args := [d1, d2] }
  | _ => none }
def noncesStepsRow : OpenClaim := { program := "ytmedljdbamnoiaa", sum := "7ef93f40b2b36fe3ed870c443885944fc0ec4c136a30ba15310ef091b82a254d", func := "caisson/caissonlaw08.NoncesSteps", spec := "noncesSteps", unfollowed := true, recurses := true, apart := false }
def NoncesStepsSaid : Prop := noncesStepsRow.holds Try.pinned (OpenSpec.ofChange noncesStepsSpec)

/-- ITS FALSE NEIGHBOUR: 'it returns false'. Refute it at one input. -/
def noncesStepsWrong : ChangeSpec := { name := "noncesSteps", fn := fun _ => fun
  | [d1, d2] => { results := [.lit (.bool false)], args := [d1, d2] }
  | _ => none }
def NoncesStepsWrongFalsely : Prop := noncesStepsRow.holds Try.pinned (OpenSpec.ofChange noncesStepsWrong)

/-- 'caissonlaw08.NoncesOnce': WHATEVER THE INPUT: true; the input reads as it did. -/
def noncesOnceSpec : ChangeSpec := { name := "noncesOnce", fn := fun _ => fun
  | [d1, d2] => { results := [.lit (.bool true)], args := [d1, d2] }
  | _ => none }
def noncesOnceRow : OpenClaim := { program := "ytmedljdbamnoiaa", sum := "7ef93f40b2b36fe3ed870c443885944fc0ec4c136a30ba15310ef091b82a254d", func := "caisson/caissonlaw08.NoncesOnce", spec := "noncesOnce", unfollowed := true, recurses := true, apart := false }
def NoncesOnceSaid : Prop := noncesOnceRow.holds Try.pinned (OpenSpec.ofChange noncesOnceSpec)

/-- ITS FALSE NEIGHBOUR: 'it returns false'. Refute it at one input. -/
def noncesOnceWrong : ChangeSpec := { name := "noncesOnce", fn := fun _ => fun
  | [d1, d2] => { results := [.lit (.bool false)], args := [d1, d2] }
  | _ => none }
def NoncesOnceWrongFalsely : Prop := noncesOnceRow.holds Try.pinned (OpenSpec.ofChange noncesOnceWrong)

/-- 'caissonlaw08.NoncesKnown': WHATEVER THE INPUT: true; the input reads as it did. -/
def noncesKnownSpec : ChangeSpec := { name := "noncesKnown", fn := fun _ => fun
  | [] => { results := [.lit (.bool true)], args := [] }
  | _ => none }
def noncesKnownRow : OpenClaim := { program := "ytmedljdbamnoiaa", sum := "7ef93f40b2b36fe3ed870c443885944fc0ec4c136a30ba15310ef091b82a254d", func := "caisson/caissonlaw08.NoncesKnown", spec := "noncesKnown", unfollowed := true, recurses := true, apart := false }
def NoncesKnownSaid : Prop := noncesKnownRow.holds Try.pinned (OpenSpec.ofChange noncesKnownSpec)

/-- ITS FALSE NEIGHBOUR: 'it returns false'. Refute it at one input. -/
def noncesKnownWrong : ChangeSpec := { name := "noncesKnown", fn := fun _ => fun
  | [] => { results := [.lit (.bool false)], args := [] }
  | _ => none }
def NoncesKnownWrongFalsely : Prop := noncesKnownRow.holds Try.pinned (OpenSpec.ofChange noncesKnownWrong)

/- THE SECOND FORM. 'bulk': how many values and letters a reading holds, each counted each time it is reached (what is shared counts as often as it is met; a slice's spare places count too). A statement '..UptoSaid' is the law's where the arguments, and the package variables that the reading takes, are together of bulk at most 1048576: NARROWER than '..Said'. Prove '..Said' where nothing that the law and all that it calls make is longer than what came in: it says more and counts as full. Else prove '..UptoSaid'. A law counts once. -/
mutual
def uptoBulk {H : Type} : DataW H → Nat
  | .lit (.string bytes) => bytes.length + 1
  | .lit _ => 1
  | .nil => 1
  | .ptr d => uptoBulk d + 1
  | .slice elems spare => uptoBulkAll elems + uptoBulkAll spare + 1
  | .agg parts => uptoBulkAll parts + 1
  | .iface _ d => uptoBulk d + 1
  | .map entries => uptoBulkEntries entries + 1
  | .held _ => 1
def uptoBulkAll {H : Type} : List (DataW H) → Nat
  | [] => 0
  | d :: r => uptoBulk d + uptoBulkAll r
def uptoBulkEntries {H : Type} : List (Lit × DataW H) → Nat
  | [] => 0
  | x :: r => uptoBulkEntry x + uptoBulkEntries r
def uptoBulkEntry {H : Type} : Lit × DataW H → Nat
  | (.string bytes, d) => bytes.length + uptoBulk d + 1
  | (_, d) => uptoBulk d + 1
 end
def uptoSmall : (H : Type) → List (DataW H) → Bool := fun _ ds => decide (uptoBulkAll ds ≤ 1048576)
def OpenSpec.upto (s : _root_.Go.ChangeSpec) : _root_.Go.OpenSpec := { _root_.Go.OpenSpec.ofChange s with cond := some uptoSmall }

/-- 'caissonlaw08.NoncesBytes', WHERE WHAT IT READS IS OF BULK AT MOST 1048576: true; the input reads as it did. -/
def noncesBytesUptoRow : OpenClaim := { program := "ytmedljdbamnoiaa", sum := "7ef93f40b2b36fe3ed870c443885944fc0ec4c136a30ba15310ef091b82a254d", func := "caisson/caissonlaw08.NoncesBytes", spec := "noncesBytes", unfollowed := true, recurses := true, apart := false, narrowed := true }
def NoncesBytesUptoSaid : Prop := noncesBytesUptoRow.holds Try.pinned (OpenSpec.upto noncesBytesSpec)

/-- 'caissonlaw08.NoncesErrors', WHERE WHAT IT READS IS OF BULK AT MOST 1048576: true; the input reads as it did. -/
def noncesErrorsUptoRow : OpenClaim := { program := "ytmedljdbamnoiaa", sum := "7ef93f40b2b36fe3ed870c443885944fc0ec4c136a30ba15310ef091b82a254d", func := "caisson/caissonlaw08.NoncesErrors", spec := "noncesErrors", unfollowed := true, recurses := true, apart := false, narrowed := true }
def NoncesErrorsUptoSaid : Prop := noncesErrorsUptoRow.holds Try.pinned (OpenSpec.upto noncesErrorsSpec)

/-- 'caissonlaw08.NoncesSteps', WHERE WHAT IT READS IS OF BULK AT MOST 1048576: true; the input reads as it did. -/
def noncesStepsUptoRow : OpenClaim := { program := "ytmedljdbamnoiaa", sum := "7ef93f40b2b36fe3ed870c443885944fc0ec4c136a30ba15310ef091b82a254d", func := "caisson/caissonlaw08.NoncesSteps", spec := "noncesSteps", unfollowed := true, recurses := true, apart := false, narrowed := true }
def NoncesStepsUptoSaid : Prop := noncesStepsUptoRow.holds Try.pinned (OpenSpec.upto noncesStepsSpec)

/-- 'caissonlaw08.NoncesOnce', WHERE WHAT IT READS IS OF BULK AT MOST 1048576: true; the input reads as it did. -/
def noncesOnceUptoRow : OpenClaim := { program := "ytmedljdbamnoiaa", sum := "7ef93f40b2b36fe3ed870c443885944fc0ec4c136a30ba15310ef091b82a254d", func := "caisson/caissonlaw08.NoncesOnce", spec := "noncesOnce", unfollowed := true, recurses := true, apart := false, narrowed := true }
def NoncesOnceUptoSaid : Prop := noncesOnceUptoRow.holds Try.pinned (OpenSpec.upto noncesOnceSpec)

/-- 'caissonlaw08.NoncesKnown', WHERE WHAT IT READS IS OF BULK AT MOST 1048576: true; the input reads as it did. -/
def noncesKnownUptoRow : OpenClaim := { program := "ytmedljdbamnoiaa", sum := "7ef93f40b2b36fe3ed870c443885944fc0ec4c136a30ba15310ef091b82a254d", func := "caisson/caissonlaw08.NoncesKnown", spec := "noncesKnown", unfollowed := true, recurses := true, apart := false, narrowed := true }
def NoncesKnownUptoSaid : Prop := noncesKnownUptoRow.holds Try.pinned (OpenSpec.upto noncesKnownSpec)

end Rows
end Go.Proofs.Ytmedljdbamnoiaa
