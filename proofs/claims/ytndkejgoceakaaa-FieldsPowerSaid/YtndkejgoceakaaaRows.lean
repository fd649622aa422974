/-
  No cell of these rows narrows 'for every input' (looked for: loops, veiled, ifaces, maps, wideKeys, modest, calm, conditions, laid).
  DERIVED. THE GIVEN ROWS OF THIS SEAT. 5 by the template 'for every input the law returns true; each argument reads behind the call as it read before'; 0 by the template 'total and deterministic' (their statements: YtndkejgoceakaaaTotals.lean).
  GIVEN WITH THE SEED: the statements are not yours to turn. If you find one false, say at which input.
  Laid BY PROGRAM, IN A SANDBOX (cutbox-rows.mjs): the forced cells as the released guide's own fill.sh prints them over the translation 80b7cf6176efffa6… (all of the seat's roots in one cut). By AI agents, Wed Nov 11 2026. No macro, syntax, notation, axiom, sorry.
-/
import Derived.Test.YtndkejgoceakaaaChecked
import GoSem.Claim
import GoSem.ClaimJoined
import GoSem.ClaimMapViews
import Derived.JoinedTies
import Derived.KernelRfl
namespace Go.Proofs.Ytndkejgoceakaaa
/- THE CELL 'sum', in the pinned program and in every row, IS THE sha256 OF THE DUMP (.gsa) THAT YtndkejgoceakaaaProg.lean LOADS. Nothing in Lean hashes anything: it is a label: what it is worth is what the hold of that sum in a sandbox is worth. -/
noncomputable def Try.pinned : Pinned := { name := "ytndkejgoceakaaa", sum := "80b7cf6176efffa6e27c7e1ae4a260772cd9bd99626c1b44deca855530d15222", checked := Try.checked }
namespace Rows
def none {H : Type} : Left H := { results := [], args := [] }

/-- 'caissonlaw05.FieldsMul': WHATEVER THE INPUT: true; the input reads as it did. -/
def fieldsMulSpec : ChangeSpec := { name := "fieldsMul", fn := fun _ => fun
  | [d1, d2, d3] => { results := [.lit (.bool true)], args := [d1, d2, d3] }
  | _ => none }
def fieldsMulRow : OpenClaim := { program := "ytndkejgoceakaaa", sum := "80b7cf6176efffa6e27c7e1ae4a260772cd9bd99626c1b44deca855530d15222", func := "caisson/caissonlaw05.FieldsMul", spec := "fieldsMul", unfollowed := true, recurses := true, apart := false }
def FieldsMulSaid : Prop := fieldsMulRow.holds Try.pinned (OpenSpec.ofChange fieldsMulSpec)

/-- ITS FALSE NEIGHBOUR: 'it returns false'. Refute it at one input. -/
def fieldsMulWrong : ChangeSpec := { name := "fieldsMul", fn := fun _ => fun
  | [d1, d2, d3] => { results := [.lit (.bool false)], args := [d1, d2, d3] }
  | _ => none }
def FieldsMulWrongFalsely : Prop := fieldsMulRow.holds Try.pinned (OpenSpec.ofChange fieldsMulWrong)

/-- 'caissonlaw05.FieldsPower': WHATEVER THE INPUT: true; the input reads as it did. -/
def fieldsPowerSpec : ChangeSpec := { name := "fieldsPower", fn := fun _ => fun
  | [d1, d2, d3] => { results := [.lit (.bool true)], args := [d1, d2, d3] }
  | _ => none }
def fieldsPowerRow : OpenClaim := { program := "ytndkejgoceakaaa", sum := "80b7cf6176efffa6e27c7e1ae4a260772cd9bd99626c1b44deca855530d15222", func := "caisson/caissonlaw05.FieldsPower", spec := "fieldsPower", unfollowed := true, recurses := true, apart := false }
def FieldsPowerSaid : Prop := fieldsPowerRow.holds Try.pinned (OpenSpec.ofChange fieldsPowerSpec)

/-- ITS FALSE NEIGHBOUR: 'it returns false'. Refute it at one input. -/
def fieldsPowerWrong : ChangeSpec := { name := "fieldsPower", fn := fun _ => fun
  | [d1, d2, d3] => { results := [.lit (.bool false)], args := [d1, d2, d3] }
  | _ => none }
def FieldsPowerWrongFalsely : Prop := fieldsPowerRow.holds Try.pinned (OpenSpec.ofChange fieldsPowerWrong)

/-- 'caissonlaw05.FieldsInverse': WHATEVER THE INPUT: true; the input reads as it did. -/
def fieldsInverseSpec : ChangeSpec := { name := "fieldsInverse", fn := fun _ => fun
  | [d1, d2] => { results := [.lit (.bool true)], args := [d1, d2] }
  | _ => none }
def fieldsInverseRow : OpenClaim := { program := "ytndkejgoceakaaa", sum := "80b7cf6176efffa6e27c7e1ae4a260772cd9bd99626c1b44deca855530d15222", func := "caisson/caissonlaw05.FieldsInverse", spec := "fieldsInverse", unfollowed := true, recurses := true, apart := false }
def FieldsInverseSaid : Prop := fieldsInverseRow.holds Try.pinned (OpenSpec.ofChange fieldsInverseSpec)

/-- ITS FALSE NEIGHBOUR: 'it returns false'. Refute it at one input. -/
def fieldsInverseWrong : ChangeSpec := { name := "fieldsInverse", fn := fun _ => fun
  | [d1, d2] => { results := [.lit (.bool false)], args := [d1, d2] }
  | _ => none }
def FieldsInverseWrongFalsely : Prop := fieldsInverseRow.holds Try.pinned (OpenSpec.ofChange fieldsInverseWrong)

/-- 'caissonlaw05.FieldsSub': WHATEVER THE INPUT: true; the input reads as it did. -/
def fieldsSubSpec : ChangeSpec := { name := "fieldsSub", fn := fun _ => fun
  | [d1, d2] => { results := [.lit (.bool true)], args := [d1, d2] }
  | _ => none }
def fieldsSubRow : OpenClaim := { program := "ytndkejgoceakaaa", sum := "80b7cf6176efffa6e27c7e1ae4a260772cd9bd99626c1b44deca855530d15222", func := "caisson/caissonlaw05.FieldsSub", spec := "fieldsSub", unfollowed := true, recurses := true, apart := false }
def FieldsSubSaid : Prop := fieldsSubRow.holds Try.pinned (OpenSpec.ofChange fieldsSubSpec)

/-- ITS FALSE NEIGHBOUR: 'it returns false'. Refute it at one input. -/
def fieldsSubWrong : ChangeSpec := { name := "fieldsSub", fn := fun _ => fun
  | [d1, d2] => { results := [.lit (.bool false)], args := [d1, d2] }
  | _ => none }
def FieldsSubWrongFalsely : Prop := fieldsSubRow.holds Try.pinned (OpenSpec.ofChange fieldsSubWrong)

/-- 'caissonlaw05.FieldsKnown': WHATEVER THE INPUT: true; the input reads as it did. -/
def fieldsKnownSpec : ChangeSpec := { name := "fieldsKnown", fn := fun _ => fun
  | [] => { results := [.lit (.bool true)], args := [] }
  | _ => none }
def fieldsKnownRow : OpenClaim := { program := "ytndkejgoceakaaa", sum := "80b7cf6176efffa6e27c7e1ae4a260772cd9bd99626c1b44deca855530d15222", func := "caisson/caissonlaw05.FieldsKnown", spec := "fieldsKnown", unfollowed := true, recurses := true, apart := false }
def FieldsKnownSaid : Prop := fieldsKnownRow.holds Try.pinned (OpenSpec.ofChange fieldsKnownSpec)

/-- ITS FALSE NEIGHBOUR: 'it returns false'. Refute it at one input. -/
def fieldsKnownWrong : ChangeSpec := { name := "fieldsKnown", fn := fun _ => fun
  | [] => { results := [.lit (.bool false)], args := [] }
  | _ => none }
def FieldsKnownWrongFalsely : Prop := fieldsKnownRow.holds Try.pinned (OpenSpec.ofChange fieldsKnownWrong)

/- THE SECOND FORM. 'bulk': how many values and letters a reading holds, each counted each time it is reached (what is shared counts as often as it is met; a slice's spare places count too). A statement '..UptoSaid' is the law's where the arguments, and the package variables that the reading takes, are together of bulk at most 1048576: NARROWER than '..Said'. Prove '..Said' where nothing that the law and all that it calls make is longer than what came in: it says more and counts as full. Else prove '..UptoSaid'. A law counts once. -/
mutual
def uptoBulk {H : Type} : DataW H → Nat
  | .lit (.string bytes) => bytes.length + 1
  | .lit _ => 1
  | .nil => 1
  | .ptr d => uptoBulk d + 1
  | .slice elems spare => uptoBulkAll elems + uptoBulkAll spare + 1
  | .agg parts => uptoBulkAll parts + 1
  | .iface _ d => uptoBulk d + 1
  | .map entries => uptoBulkEntries entries + 1
  | .held _ => 1
def uptoBulkAll {H : Type} : List (DataW H) → Nat
  | [] => 0
  | d :: r => uptoBulk d + uptoBulkAll r
def uptoBulkEntries {H : Type} : List (Lit × DataW H) → Nat
  | [] => 0
  | x :: r => uptoBulkEntry x + uptoBulkEntries r
def uptoBulkEntry {H : Type} : Lit × DataW H → Nat
  | (.string bytes, d) => bytes.length + uptoBulk d + 1
  | (_, d) => uptoBulk d + 1
 end
def uptoSmall : (H : Type) → List (DataW H) → Bool := fun _ ds => decide (uptoBulkAll ds ≤ 1048576)
def OpenSpec.upto (s : _root_.Go.ChangeSpec) : _root_.Go.OpenSpec := { _root_.Go.OpenSpec.ofChange s with cond := some uptoSmall }

/-- 'caissonlaw05.FieldsMul', WHERE WHAT IT READS IS OF BULK AT MOST 1048576: true; the input reads as it did. -/
def fieldsMulUptoRow : OpenClaim := { program := "ytndkejgoceakaaa", sum := "80b7cf6176efffa6e27c7e1ae4a260772cd9bd99626c1b44deca855530d15222", func := "caisson/caissonlaw05.FieldsMul", spec := "fieldsMul", unfollowed := true, recurses := true, apart := false, narrowed := true }
def FieldsMulUptoSaid : Prop := fieldsMulUptoRow.holds Try.pinned (OpenSpec.upto fieldsMulSpec)

/-- 'caissonlaw05.FieldsPower', WHERE WHAT IT READS IS OF BULK AT MOST 1048576: true; the input reads as it did. -/
def fieldsPowerUptoRow : OpenClaim := { program := "ytndkejgoceakaaa", sum := "80b7cf6176efffa6e27c7e1ae4a260772cd9bd99626c1b44deca855530d15222", func := "caisson/caissonlaw05.FieldsPower", spec := "fieldsPower", unfollowed := true, recurses := true, apart := false, narrowed := true }
def FieldsPowerUptoSaid : Prop := fieldsPowerUptoRow.holds Try.pinned (OpenSpec.upto fieldsPowerSpec)

/-- 'caissonlaw05.FieldsInverse', WHERE WHAT IT READS IS OF BULK AT MOST 1048576: true; the input reads as it did. -/
def fieldsInverseUptoRow : OpenClaim := { program := "ytndkejgoceakaaa", sum := "80b7cf6176efffa6e27c7e1ae4a260772cd9bd99626c1b44deca855530d15222", func := "caisson/caissonlaw05.FieldsInverse", spec := "fieldsInverse", unfollowed := true, recurses := true, apart := false, narrowed := true }
def FieldsInverseUptoSaid : Prop := fieldsInverseUptoRow.holds Try.pinned (OpenSpec.upto fieldsInverseSpec)

/-- 'caissonlaw05.FieldsSub', WHERE WHAT IT READS IS OF BULK AT MOST 1048576: true; the input reads as it did. -/
def fieldsSubUptoRow : OpenClaim := { program := "ytndkejgoceakaaa", sum := "80b7cf6176efffa6e27c7e1ae4a260772cd9bd99626c1b44deca855530d15222", func := "caisson/caissonlaw05.FieldsSub", spec := "fieldsSub", unfollowed := true, recurses := true, apart := false, narrowed := true }
def FieldsSubUptoSaid : Prop := fieldsSubUptoRow.holds Try.pinned (OpenSpec.upto fieldsSubSpec)

/-- 'caissonlaw05.FieldsKnown', WHERE WHAT IT READS IS OF BULK AT MOST 1048576: true; the input reads as it did. -/
def fieldsKnownUptoRow : OpenClaim := { program := "ytndkejgoceakaaa", sum := "80b7cf6176efffa6e27c7e1ae4a260772cd9bd99626c1b44deca855530d15222", func := "caisson/caissonlaw05.FieldsKnown", spec := "fieldsKnown", unfollowed := true, recurses := true, apart := false, narrowed := true }
def FieldsKnownUptoSaid : Prop := fieldsKnownUptoRow.holds Try.pinned (OpenSpec.upto fieldsKnownSpec)

end Rows
end Go.Proofs.Ytndkejgoceakaaa
