/-
  No cell of these rows narrows 'for every input' (looked for: loops, veiled, ifaces, maps, wideKeys, modest, calm, conditions, laid).
  DERIVED. THE GIVEN ROWS OF THIS SEAT. 5 by the template 'for every input the law returns true; each argument reads behind the call as it read before'; 0 by the template 'total and deterministic' (their statements: YtliolhdkbneleaaTotals.lean).
  GIVEN WITH THE SEED: the statements are not yours to turn. If you find one false, say at which input.
  Laid BY PROGRAM, IN A SANDBOX (cutbox-rows.mjs): the forced cells as the released guide's own fill.sh prints them over the translation 55a37c2fda62868d… (all of the seat's roots in one cut). By AI agents, Wed Nov 11 2026. No macro, syntax, notation, axiom, sorry.
-/
import Derived.Test.YtliolhdkbneleaaChecked
import GoSem.Claim
import GoSem.ClaimJoined
import GoSem.ClaimMapViews
import Derived.JoinedTies
import Derived.KernelRfl
namespace Go.Proofs.Ytliolhdkbneleaa
/- THE CELL 'sum', in the pinned program and in every row, IS THE sha256 OF THE DUMP (.gsa) THAT YtliolhdkbneleaaProg.lean LOADS. Nothing in Lean hashes anything: it is a label: what it is worth is what the hold of that sum in a sandbox is worth. -/
noncomputable def Try.pinned : Pinned := { name := "ytliolhdkbneleaa", sum := "55a37c2fda62868d995014a9d526e9f1d78e9a49b577aa0643b578ce6a3ee185", checked := Try.checked }
namespace Rows
def none {H : Type} : Left H := { results := [], args := [] }

/-- 'caissonlaw06.CiphersExpand': WHATEVER THE INPUT: true; the input reads as it did. -/
def ciphersExpandSpec : ChangeSpec := { name := "ciphersExpand", fn := fun _ => fun
  | [d] => { results := [.lit (.bool true)], args := [d] }
  | _ => none }
def ciphersExpandRow : OpenClaim := { program := "ytliolhdkbneleaa", sum := "55a37c2fda62868d995014a9d526e9f1d78e9a49b577aa0643b578ce6a3ee185", func := "caisson/caissonlaw06.CiphersExpand", spec := "ciphersExpand", unfollowed := true, recurses := true, apart := false }
def CiphersExpandSaid : Prop := ciphersExpandRow.holds Try.pinned (OpenSpec.ofChange ciphersExpandSpec)

/-- ITS FALSE NEIGHBOUR: 'it returns false'. Refute it at one input. -/
def ciphersExpandWrong : ChangeSpec := { name := "ciphersExpand", fn := fun _ => fun
  | [d] => { results := [.lit (.bool false)], args := [d] }
  | _ => none }
def CiphersExpandWrongFalsely : Prop := ciphersExpandRow.holds Try.pinned (OpenSpec.ofChange ciphersExpandWrong)

/-- 'caissonlaw06.CiphersEncrypt': WHATEVER THE INPUT: true; the input reads as it did. -/
def ciphersEncryptSpec : ChangeSpec := { name := "ciphersEncrypt", fn := fun _ => fun
  | [d1, d2] => { results := [.lit (.bool true)], args := [d1, d2] }
  | _ => none }
def ciphersEncryptRow : OpenClaim := { program := "ytliolhdkbneleaa", sum := "55a37c2fda62868d995014a9d526e9f1d78e9a49b577aa0643b578ce6a3ee185", func := "caisson/caissonlaw06.CiphersEncrypt", spec := "ciphersEncrypt", unfollowed := true, recurses := true, apart := false }
def CiphersEncryptSaid : Prop := ciphersEncryptRow.holds Try.pinned (OpenSpec.ofChange ciphersEncryptSpec)

/-- ITS FALSE NEIGHBOUR: 'it returns false'. Refute it at one input. -/
def ciphersEncryptWrong : ChangeSpec := { name := "ciphersEncrypt", fn := fun _ => fun
  | [d1, d2] => { results := [.lit (.bool false)], args := [d1, d2] }
  | _ => none }
def CiphersEncryptWrongFalsely : Prop := ciphersEncryptRow.holds Try.pinned (OpenSpec.ofChange ciphersEncryptWrong)

/-- 'caissonlaw06.CiphersRounds': WHATEVER THE INPUT: true; the input reads as it did. -/
def ciphersRoundsSpec : ChangeSpec := { name := "ciphersRounds", fn := fun _ => fun
  | [d1, d2] => { results := [.lit (.bool true)], args := [d1, d2] }
  | _ => none }
def ciphersRoundsRow : OpenClaim := { program := "ytliolhdkbneleaa", sum := "55a37c2fda62868d995014a9d526e9f1d78e9a49b577aa0643b578ce6a3ee185", func := "caisson/caissonlaw06.CiphersRounds", spec := "ciphersRounds", unfollowed := true, recurses := true, apart := false }
def CiphersRoundsSaid : Prop := ciphersRoundsRow.holds Try.pinned (OpenSpec.ofChange ciphersRoundsSpec)

/-- ITS FALSE NEIGHBOUR: 'it returns false'. Refute it at one input. -/
def ciphersRoundsWrong : ChangeSpec := { name := "ciphersRounds", fn := fun _ => fun
  | [d1, d2] => { results := [.lit (.bool false)], args := [d1, d2] }
  | _ => none }
def CiphersRoundsWrongFalsely : Prop := ciphersRoundsRow.holds Try.pinned (OpenSpec.ofChange ciphersRoundsWrong)

/-- 'caissonlaw06.CiphersBack': WHATEVER THE INPUT: true; the input reads as it did. -/
def ciphersBackSpec : ChangeSpec := { name := "ciphersBack", fn := fun _ => fun
  | [d1, d2] => { results := [.lit (.bool true)], args := [d1, d2] }
  | _ => none }
def ciphersBackRow : OpenClaim := { program := "ytliolhdkbneleaa", sum := "55a37c2fda62868d995014a9d526e9f1d78e9a49b577aa0643b578ce6a3ee185", func := "caisson/caissonlaw06.CiphersBack", spec := "ciphersBack", unfollowed := true, recurses := true, apart := false }
def CiphersBackSaid : Prop := ciphersBackRow.holds Try.pinned (OpenSpec.ofChange ciphersBackSpec)

/-- ITS FALSE NEIGHBOUR: 'it returns false'. Refute it at one input. -/
def ciphersBackWrong : ChangeSpec := { name := "ciphersBack", fn := fun _ => fun
  | [d1, d2] => { results := [.lit (.bool false)], args := [d1, d2] }
  | _ => none }
def CiphersBackWrongFalsely : Prop := ciphersBackRow.holds Try.pinned (OpenSpec.ofChange ciphersBackWrong)

/-- 'caissonlaw06.CiphersKnown': WHATEVER THE INPUT: true; the input reads as it did. -/
def ciphersKnownSpec : ChangeSpec := { name := "ciphersKnown", fn := fun _ => fun
  | [] => { results := [.lit (.bool true)], args := [] }
  | _ => none }
def ciphersKnownRow : OpenClaim := { program := "ytliolhdkbneleaa", sum := "55a37c2fda62868d995014a9d526e9f1d78e9a49b577aa0643b578ce6a3ee185", func := "caisson/caissonlaw06.CiphersKnown", spec := "ciphersKnown", unfollowed := true, recurses := true, apart := false }
def CiphersKnownSaid : Prop := ciphersKnownRow.holds Try.pinned (OpenSpec.ofChange ciphersKnownSpec)

/-- ITS FALSE NEIGHBOUR: 'it returns false'. Refute it at one input. -/
def ciphersKnownWrong : ChangeSpec := { name := "ciphersKnown", fn := fun _ => fun
  | [] => { results := [.lit (.bool false)], args := [] }
  | _ => none }
def CiphersKnownWrongFalsely : Prop := ciphersKnownRow.holds Try.pinned (OpenSpec.ofChange ciphersKnownWrong)

/- THE SECOND FORM. 'bulk': how many values and letters a reading holds, each counted each time it is reached (what is shared counts as often as it is met; a slice's spare places count too). A statement '..UptoSaid' is the law's where the arguments, and the package variables that the reading takes, are together of bulk at most 1048576: NARROWER than '..Said'. Prove '..Said' where nothing that the law and all that it calls make is longer than what came in: it says more and counts as full. Else prove '..UptoSaid'. A law counts once. -/
mutual
def uptoBulk {H : Type} : DataW H → Nat
  | .lit (.string bytes) => bytes.length + 1
  | .lit _ => 1
  | .nil => 1
  | .ptr d => uptoBulk d + 1
  | .slice elems spare => uptoBulkAll elems + uptoBulkAll spare + 1
  | .agg parts => uptoBulkAll parts + 1
  | .iface _ d => uptoBulk d + 1
  | .map entries => uptoBulkEntries entries + 1
  | .held _ => 1
def uptoBulkAll {H : Type} : List (DataW H) → Nat
  | [] => 0
  | d :: r => uptoBulk d + uptoBulkAll r
def uptoBulkEntries {H : Type} : List (Lit × DataW H) → Nat
  | [] => 0
  | x :: r => uptoBulkEntry x + uptoBulkEntries r
def uptoBulkEntry {H : Type} : Lit × DataW H → Nat
  | (.string bytes, d) => bytes.length + uptoBulk d + 1
  | (_, d) => uptoBulk d + 1
 end
def uptoSmall : (H : Type) → List (DataW H) → Bool := fun _ ds => decide (uptoBulkAll ds ≤ 1048576)
def OpenSpec.upto (s : _root_.Go.ChangeSpec) : _root_.Go.OpenSpec := { _root_.Go.OpenSpec.ofChange s with cond := some uptoSmall }

/-- 'caissonlaw06.CiphersExpand', WHERE WHAT IT READS IS OF BULK AT MOST 1048576: true; the input reads as it did. -/
def ciphersExpandUptoRow : OpenClaim := { program := "ytliolhdkbneleaa", sum := "55a37c2fda62868d995014a9d526e9f1d78e9a49b577aa0643b578ce6a3ee185", func := "caisson/caissonlaw06.CiphersExpand", spec := "ciphersExpand", unfollowed := true, recurses := true, apart := false, narrowed := true }
def CiphersExpandUptoSaid : Prop := ciphersExpandUptoRow.holds Try.pinned (OpenSpec.upto ciphersExpandSpec)

/-- 'caissonlaw06.CiphersEncrypt', WHERE WHAT IT READS IS OF BULK AT MOST 1048576: true; the input reads as it did. -/
def ciphersEncryptUptoRow : OpenClaim := { program := "ytliolhdkbneleaa", sum := "55a37c2fda62868d995014a9d526e9f1d78e9a49b577aa0643b578ce6a3ee185", func := "caisson/caissonlaw06.CiphersEncrypt", spec := "ciphersEncrypt", unfollowed := true, recurses := true, apart := false, narrowed := true }
def CiphersEncryptUptoSaid : Prop := ciphersEncryptUptoRow.holds Try.pinned (OpenSpec.upto ciphersEncryptSpec)

/-- 'caissonlaw06.CiphersRounds', WHERE WHAT IT READS IS OF BULK AT MOST 1048576: true; the input reads as it did. -/
def ciphersRoundsUptoRow : OpenClaim := { program := "ytliolhdkbneleaa", sum := "55a37c2fda62868d995014a9d526e9f1d78e9a49b577aa0643b578ce6a3ee185", func := "caisson/caissonlaw06.CiphersRounds", spec := "ciphersRounds", unfollowed := true, recurses := true, apart := false, narrowed := true }
def CiphersRoundsUptoSaid : Prop := ciphersRoundsUptoRow.holds Try.pinned (OpenSpec.upto ciphersRoundsSpec)

/-- 'caissonlaw06.CiphersBack', WHERE WHAT IT READS IS OF BULK AT MOST 1048576: true; the input reads as it did. -/
def ciphersBackUptoRow : OpenClaim := { program := "ytliolhdkbneleaa", sum := "55a37c2fda62868d995014a9d526e9f1d78e9a49b577aa0643b578ce6a3ee185", func := "caisson/caissonlaw06.CiphersBack", spec := "ciphersBack", unfollowed := true, recurses := true, apart := false, narrowed := true }
def CiphersBackUptoSaid : Prop := ciphersBackUptoRow.holds Try.pinned (OpenSpec.upto ciphersBackSpec)

/-- 'caissonlaw06.CiphersKnown', WHERE WHAT IT READS IS OF BULK AT MOST 1048576: true; the input reads as it did. -/
def ciphersKnownUptoRow : OpenClaim := { program := "ytliolhdkbneleaa", sum := "55a37c2fda62868d995014a9d526e9f1d78e9a49b577aa0643b578ce6a3ee185", func := "caisson/caissonlaw06.CiphersKnown", spec := "ciphersKnown", unfollowed := true, recurses := true, apart := false, narrowed := true }
def CiphersKnownUptoSaid : Prop := ciphersKnownUptoRow.holds Try.pinned (OpenSpec.upto ciphersKnownSpec)

end Rows
end Go.Proofs.Ytliolhdkbneleaa
