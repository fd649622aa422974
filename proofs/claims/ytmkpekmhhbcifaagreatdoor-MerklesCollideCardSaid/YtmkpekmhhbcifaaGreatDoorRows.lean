/-
  NARROWER THAN 'FOR EVERY INPUT', by the rows' own cells (each row's printed sentence says how): MerklesBuild: laid · MerklesCheck: laid · MerklesProve: laid · MerklesVerify: laid · MerklesCollide: laid · MerklesDiffer: laid · MerklesErrors: laid · MerklesKnown: laid.
  DERIVED. THE GIVEN ROWS OF THIS SEAT. 8 by the template 'for every input the law returns true; each argument reads behind the call as it read before'; 0 by the template 'total and deterministic' (their statements: YtmkpekmhhbcifaaGreatDoorTotals.lean).
  GIVEN WITH THE SEED: the statements are not yours to turn. If you find one false, say at which input.
  Laid BY PROGRAM, IN A SANDBOX (cutbox-rows.mjs): the forced cells as the released guide's own fill.sh prints them over the translation 8fa597a3aaff2a23… (all of the seat's roots in one cut). By AI agents, Wed Nov 11 2026. No macro, syntax, notation, axiom, sorry.
-/
import Derived.Test.YtmkpekmhhbcifaaGreatDoorChecked
import GoSem.Claim
import GoSem.ClaimJoined
import GoSem.ClaimMapViews
import Derived.JoinedTies
import Derived.KernelRfl
namespace Go.Proofs.YtmkpekmhhbcifaaGreatDoor
/- THE CELL 'sum', in the pinned program and in every row, IS THE sha256 OF THE DUMP (.gsa) THAT YtmkpekmhhbcifaaGreatDoorProg.lean LOADS. Nothing in Lean hashes anything: it is a label: what it is worth is what the hold of that sum in a sandbox is worth. -/
noncomputable def Tryz.pinned : Pinned := { name := "ytmkpekmhhbcifaagreatdoor", sum := "8fa597a3aaff2a2383a065ec81023bd6855d2a2d2b290e8631432544e42b0360", checked := Tryz.checked }
namespace Rows
def none {H : Type} : Left H := { results := [], args := [] }

/- WHAT THE LISTED PACKAGE-LEVEL VARIABLES READ AS WHEN THE CALL BEGINS. Each datum BY PROGRAM (the guide's laid-datum.mjs) off the statement by which the dump's own 'gosem.cut.vars' lays the variable. In a bare row this is a premise. The card (YtmkpekmhhbcifaaGreatDoorCards.lean) ties it to the program's text. -/
def laid_errors_errorType {H : Type} : DataW H := .iface "internal/reflectlite.rtype" (.agg [.ptr (.lit (.string [101, 114, 114, 111, 114]))])
def laid_caisson_digests_constants {H : Type} : DataW H := .agg [.lit (.int .u32 1116352408), .lit (.int .u32 1899447441), .lit (.int .u32 3049323471), .lit (.int .u32 3921009573), .lit (.int .u32 961987163), .lit (.int .u32 1508970993), .lit (.int .u32 2453635748), .lit (.int .u32 2870763221), .lit (.int .u32 3624381080), .lit (.int .u32 310598401), .lit (.int .u32 607225278), .lit (.int .u32 1426881987), .lit (.int .u32 1925078388), .lit (.int .u32 2162078206), .lit (.int .u32 2614888103), .lit (.int .u32 3248222580), .lit (.int .u32 3835390401), .lit (.int .u32 4022224774), .lit (.int .u32 264347078), .lit (.int .u32 604807628), .lit (.int .u32 770255983), .lit (.int .u32 1249150122), .lit (.int .u32 1555081692), .lit (.int .u32 1996064986), .lit (.int .u32 2554220882), .lit (.int .u32 2821834349), .lit (.int .u32 2952996808), .lit (.int .u32 3210313671), .lit (.int .u32 3336571891), .lit (.int .u32 3584528711), .lit (.int .u32 113926993), .lit (.int .u32 338241895), .lit (.int .u32 666307205), .lit (.int .u32 773529912), .lit (.int .u32 1294757372), .lit (.int .u32 1396182291), .lit (.int .u32 1695183700), .lit (.int .u32 1986661051), .lit (.int .u32 2177026350), .lit (.int .u32 2456956037), .lit (.int .u32 2730485921), .lit (.int .u32 2820302411), .lit (.int .u32 3259730800), .lit (.int .u32 3345764771), .lit (.int .u32 3516065817), .lit (.int .u32 3600352804), .lit (.int .u32 4094571909), .lit (.int .u32 275423344), .lit (.int .u32 430227734), .lit (.int .u32 506948616), .lit (.int .u32 659060556), .lit (.int .u32 883997877), .lit (.int .u32 958139571), .lit (.int .u32 1322822218), .lit (.int .u32 1537002063), .lit (.int .u32 1747873779), .lit (.int .u32 1955562222), .lit (.int .u32 2024104815), .lit (.int .u32 2227730452), .lit (.int .u32 2361852424), .lit (.int .u32 2428436474), .lit (.int .u32 2756734187), .lit (.int .u32 3204031479), .lit (.int .u32 3329325298)]
def laid_caisson_digests_initial {H : Type} : DataW H := .agg [.lit (.int .u32 1779033703), .lit (.int .u32 3144134277), .lit (.int .u32 1013904242), .lit (.int .u32 2773480762), .lit (.int .u32 1359893119), .lit (.int .u32 2600822924), .lit (.int .u32 528734635), .lit (.int .u32 1541459225)]
def laid_caisson_nodes_sizes {H : Type} : DataW H := .agg [.lit (.int .i64 185), .lit (.int .i64 137), .lit (.int .i64 137), .lit (.int .i64 137), .lit (.int .i64 137), .lit (.int .i64 137)]

/-- 'caissonlaw16.MerklesBuild': WHATEVER THE INPUT: true; the input reads as it did. -/
def merklesBuildSpec : ChangeSpec := { name := "merklesBuild", fn := fun _ => fun
  | [d] => { results := [.lit (.bool true)], args := [d] }
  | _ => none }
def merklesBuildRow : OpenClaim := { program := "ytmkpekmhhbcifaagreatdoor", sum := "8fa597a3aaff2a2383a065ec81023bd6855d2a2d2b290e8631432544e42b0360", func := "caisson/caissonlaw16.MerklesBuild", spec := "merklesBuild", inPlace := ["internal/reflectlite.ValueOf", "(internal/reflectlite.Value).Type", "(internal/reflectlite.Value).IsNil", "internal/reflectlite.TypeOf", "(internal/reflectlite.Value).Elem", "(internal/reflectlite.Value).Set"], unfollowed := true, recurses := true, named := ["caisson/nodes.sizes", "caisson/digests.initial", "caisson/digests.constants", "errors.errorType"], apart := false, laid := [("errors.errorType", laid_errors_errorType), ("caisson/digests.constants", laid_caisson_digests_constants), ("caisson/digests.initial", laid_caisson_digests_initial), ("caisson/nodes.sizes", laid_caisson_nodes_sizes)] }
def MerklesBuildSaid : Prop := merklesBuildRow.holds Tryz.pinned (OpenSpec.ofChange merklesBuildSpec)

/-- ITS FALSE NEIGHBOUR: 'it returns false'. Refute it at one input. -/
def merklesBuildWrong : ChangeSpec := { name := "merklesBuild", fn := fun _ => fun
  | [d] => { results := [.lit (.bool false)], args := [d] }
  | _ => none }
def MerklesBuildWrongFalsely : Prop := merklesBuildRow.holds Tryz.pinned (OpenSpec.ofChange merklesBuildWrong)

/-- 'caissonlaw16.MerklesCheck': WHATEVER THE INPUT: true; the input reads as it did. -/
def merklesCheckSpec : ChangeSpec := { name := "merklesCheck", fn := fun _ => fun
  | [d1, d2, d3] => { results := [.lit (.bool true)], args := [d1, d2, d3] }
  | _ => none }
def merklesCheckRow : OpenClaim := { program := "ytmkpekmhhbcifaagreatdoor", sum := "8fa597a3aaff2a2383a065ec81023bd6855d2a2d2b290e8631432544e42b0360", func := "caisson/caissonlaw16.MerklesCheck", spec := "merklesCheck", inPlace := ["internal/reflectlite.ValueOf", "(internal/reflectlite.Value).Type", "(internal/reflectlite.Value).IsNil", "internal/reflectlite.TypeOf", "(internal/reflectlite.Value).Elem", "(internal/reflectlite.Value).Set"], unfollowed := true, recurses := true, named := ["caisson/nodes.sizes", "caisson/digests.initial", "caisson/digests.constants", "errors.errorType"], apart := false, laid := [("errors.errorType", laid_errors_errorType), ("caisson/digests.constants", laid_caisson_digests_constants), ("caisson/digests.initial", laid_caisson_digests_initial), ("caisson/nodes.sizes", laid_caisson_nodes_sizes)] }
def MerklesCheckSaid : Prop := merklesCheckRow.holds Tryz.pinned (OpenSpec.ofChange merklesCheckSpec)

/-- ITS FALSE NEIGHBOUR: 'it returns false'. Refute it at one input. -/
def merklesCheckWrong : ChangeSpec := { name := "merklesCheck", fn := fun _ => fun
  | [d1, d2, d3] => { results := [.lit (.bool false)], args := [d1, d2, d3] }
  | _ => none }
def MerklesCheckWrongFalsely : Prop := merklesCheckRow.holds Tryz.pinned (OpenSpec.ofChange merklesCheckWrong)

/-- 'caissonlaw16.MerklesProve': WHATEVER THE INPUT: true; the input reads as it did. -/
def merklesProveSpec : ChangeSpec := { name := "merklesProve", fn := fun _ => fun
  | [d1, d2, d3] => { results := [.lit (.bool true)], args := [d1, d2, d3] }
  | _ => none }
def merklesProveRow : OpenClaim := { program := "ytmkpekmhhbcifaagreatdoor", sum := "8fa597a3aaff2a2383a065ec81023bd6855d2a2d2b290e8631432544e42b0360", func := "caisson/caissonlaw16.MerklesProve", spec := "merklesProve", inPlace := ["internal/reflectlite.ValueOf", "(internal/reflectlite.Value).Type", "(internal/reflectlite.Value).IsNil", "internal/reflectlite.TypeOf", "(internal/reflectlite.Value).Elem", "(internal/reflectlite.Value).Set"], unfollowed := true, recurses := true, named := ["caisson/nodes.sizes", "caisson/digests.initial", "caisson/digests.constants", "errors.errorType"], apart := false, laid := [("errors.errorType", laid_errors_errorType), ("caisson/digests.constants", laid_caisson_digests_constants), ("caisson/digests.initial", laid_caisson_digests_initial), ("caisson/nodes.sizes", laid_caisson_nodes_sizes)] }
def MerklesProveSaid : Prop := merklesProveRow.holds Tryz.pinned (OpenSpec.ofChange merklesProveSpec)

/-- ITS FALSE NEIGHBOUR: 'it returns false'. Refute it at one input. -/
def merklesProveWrong : ChangeSpec := { name := "merklesProve", fn := fun _ => fun
  | [d1, d2, d3] => { results := [.lit (.bool false)], args := [d1, d2, d3] }
  | _ => none }
def MerklesProveWrongFalsely : Prop := merklesProveRow.holds Tryz.pinned (OpenSpec.ofChange merklesProveWrong)

/-- 'caissonlaw16.MerklesVerify': WHATEVER THE INPUT: true; the input reads as it did. -/
def merklesVerifySpec : ChangeSpec := { name := "merklesVerify", fn := fun _ => fun
  | [d1, d2, d3] => { results := [.lit (.bool true)], args := [d1, d2, d3] }
  | _ => none }
def merklesVerifyRow : OpenClaim := { program := "ytmkpekmhhbcifaagreatdoor", sum := "8fa597a3aaff2a2383a065ec81023bd6855d2a2d2b290e8631432544e42b0360", func := "caisson/caissonlaw16.MerklesVerify", spec := "merklesVerify", inPlace := ["internal/reflectlite.ValueOf", "(internal/reflectlite.Value).Type", "(internal/reflectlite.Value).IsNil", "internal/reflectlite.TypeOf", "(internal/reflectlite.Value).Elem", "(internal/reflectlite.Value).Set"], unfollowed := true, recurses := true, named := ["caisson/nodes.sizes", "caisson/digests.initial", "caisson/digests.constants", "errors.errorType"], apart := false, laid := [("errors.errorType", laid_errors_errorType), ("caisson/digests.constants", laid_caisson_digests_constants), ("caisson/digests.initial", laid_caisson_digests_initial), ("caisson/nodes.sizes", laid_caisson_nodes_sizes)] }
def MerklesVerifySaid : Prop := merklesVerifyRow.holds Tryz.pinned (OpenSpec.ofChange merklesVerifySpec)

/-- ITS FALSE NEIGHBOUR: 'it returns false'. Refute it at one input. -/
def merklesVerifyWrong : ChangeSpec := { name := "merklesVerify", fn := fun _ => fun
  | [d1, d2, d3] => { results := [.lit (.bool false)], args := [d1, d2, d3] }
  | _ => none }
def MerklesVerifyWrongFalsely : Prop := merklesVerifyRow.holds Tryz.pinned (OpenSpec.ofChange merklesVerifyWrong)

/-- 'caissonlaw16.MerklesCollide': WHATEVER THE INPUT: true; the input reads as it did. -/
def merklesCollideSpec : ChangeSpec := { name := "merklesCollide", fn := fun _ => fun
  | [d1, d2, d3] => { results := [.lit (.bool true)], args := [d1, d2, d3] }
  | _ => none }
def merklesCollideRow : OpenClaim := { program := "ytmkpekmhhbcifaagreatdoor", sum := "8fa597a3aaff2a2383a065ec81023bd6855d2a2d2b290e8631432544e42b0360", func := "caisson/caissonlaw16.MerklesCollide", spec := "merklesCollide", inPlace := ["internal/reflectlite.ValueOf", "(internal/reflectlite.Value).Type", "(internal/reflectlite.Value).IsNil", "internal/reflectlite.TypeOf", "(internal/reflectlite.Value).Elem", "(internal/reflectlite.Value).Set"], unfollowed := true, recurses := true, named := ["caisson/nodes.sizes", "caisson/digests.initial", "caisson/digests.constants", "errors.errorType"], apart := false, laid := [("errors.errorType", laid_errors_errorType), ("caisson/digests.constants", laid_caisson_digests_constants), ("caisson/digests.initial", laid_caisson_digests_initial), ("caisson/nodes.sizes", laid_caisson_nodes_sizes)] }
def MerklesCollideSaid : Prop := merklesCollideRow.holds Tryz.pinned (OpenSpec.ofChange merklesCollideSpec)

/-- ITS FALSE NEIGHBOUR: 'it returns false'. Refute it at one input. -/
def merklesCollideWrong : ChangeSpec := { name := "merklesCollide", fn := fun _ => fun
  | [d1, d2, d3] => { results := [.lit (.bool false)], args := [d1, d2, d3] }
  | _ => none }
def MerklesCollideWrongFalsely : Prop := merklesCollideRow.holds Tryz.pinned (OpenSpec.ofChange merklesCollideWrong)

/-- 'caissonlaw16.MerklesDiffer': WHATEVER THE INPUT: true; the input reads as it did. -/
def merklesDifferSpec : ChangeSpec := { name := "merklesDiffer", fn := fun _ => fun
  | [d1, d2] => { results := [.lit (.bool true)], args := [d1, d2] }
  | _ => none }
def merklesDifferRow : OpenClaim := { program := "ytmkpekmhhbcifaagreatdoor", sum := "8fa597a3aaff2a2383a065ec81023bd6855d2a2d2b290e8631432544e42b0360", func := "caisson/caissonlaw16.MerklesDiffer", spec := "merklesDiffer", inPlace := ["internal/reflectlite.ValueOf", "(internal/reflectlite.Value).Type", "(internal/reflectlite.Value).IsNil", "internal/reflectlite.TypeOf", "(internal/reflectlite.Value).Elem", "(internal/reflectlite.Value).Set"], unfollowed := true, recurses := true, named := ["caisson/nodes.sizes", "caisson/digests.initial", "caisson/digests.constants", "errors.errorType"], apart := false, laid := [("errors.errorType", laid_errors_errorType), ("caisson/digests.constants", laid_caisson_digests_constants), ("caisson/digests.initial", laid_caisson_digests_initial), ("caisson/nodes.sizes", laid_caisson_nodes_sizes)] }
def MerklesDifferSaid : Prop := merklesDifferRow.holds Tryz.pinned (OpenSpec.ofChange merklesDifferSpec)

/-- ITS FALSE NEIGHBOUR: 'it returns false'. Refute it at one input. -/
def merklesDifferWrong : ChangeSpec := { name := "merklesDiffer", fn := fun _ => fun
  | [d1, d2] => { results := [.lit (.bool false)], args := [d1, d2] }
  | _ => none }
def MerklesDifferWrongFalsely : Prop := merklesDifferRow.holds Tryz.pinned (OpenSpec.ofChange merklesDifferWrong)

/-- 'caissonlaw16.MerklesErrors': WHATEVER THE INPUT: true; the input reads as it did. -/
def merklesErrorsSpec : ChangeSpec := { name := "merklesErrors", fn := fun _ => fun
  | [d1, d2, d3] => { results := [.lit (.bool true)], args := [d1, d2, d3] }
  | _ => none }
def merklesErrorsRow : OpenClaim := { program := "ytmkpekmhhbcifaagreatdoor", sum := "8fa597a3aaff2a2383a065ec81023bd6855d2a2d2b290e8631432544e42b0360", func := "caisson/caissonlaw16.MerklesErrors", spec := "merklesErrors", inPlace := ["internal/reflectlite.ValueOf", "(internal/reflectlite.Value).Type", "(internal/reflectlite.Value).IsNil", "internal/reflectlite.TypeOf", "(internal/reflectlite.Value).Elem", "(internal/reflectlite.Value).Set"], unfollowed := true, recurses := true, named := ["caisson/nodes.sizes", "caisson/digests.initial", "caisson/digests.constants", "errors.errorType"], apart := false, laid := [("errors.errorType", laid_errors_errorType), ("caisson/digests.constants", laid_caisson_digests_constants), ("caisson/digests.initial", laid_caisson_digests_initial), ("caisson/nodes.sizes", laid_caisson_nodes_sizes)] }
def MerklesErrorsSaid : Prop := merklesErrorsRow.holds Tryz.pinned (OpenSpec.ofChange merklesErrorsSpec)

/-- ITS FALSE NEIGHBOUR: 'it returns false'. Refute it at one input. -/
def merklesErrorsWrong : ChangeSpec := { name := "merklesErrors", fn := fun _ => fun
  | [d1, d2, d3] => { results := [.lit (.bool false)], args := [d1, d2, d3] }
  | _ => none }
def MerklesErrorsWrongFalsely : Prop := merklesErrorsRow.holds Tryz.pinned (OpenSpec.ofChange merklesErrorsWrong)

/-- 'caissonlaw16.MerklesKnown': WHATEVER THE INPUT: true; the input reads as it did. -/
def merklesKnownSpec : ChangeSpec := { name := "merklesKnown", fn := fun _ => fun
  | [] => { results := [.lit (.bool true)], args := [] }
  | _ => none }
def merklesKnownRow : OpenClaim := { program := "ytmkpekmhhbcifaagreatdoor", sum := "8fa597a3aaff2a2383a065ec81023bd6855d2a2d2b290e8631432544e42b0360", func := "caisson/caissonlaw16.MerklesKnown", spec := "merklesKnown", inPlace := ["internal/reflectlite.ValueOf", "(internal/reflectlite.Value).Type", "(internal/reflectlite.Value).IsNil", "internal/reflectlite.TypeOf", "(internal/reflectlite.Value).Elem", "(internal/reflectlite.Value).Set"], unfollowed := true, recurses := true, named := ["caisson/nodes.sizes", "caisson/digests.initial", "caisson/digests.constants", "errors.errorType"], apart := false, laid := [("errors.errorType", laid_errors_errorType), ("caisson/digests.constants", laid_caisson_digests_constants), ("caisson/digests.initial", laid_caisson_digests_initial), ("caisson/nodes.sizes", laid_caisson_nodes_sizes)] }
def MerklesKnownSaid : Prop := merklesKnownRow.holds Tryz.pinned (OpenSpec.ofChange merklesKnownSpec)

/-- ITS FALSE NEIGHBOUR: 'it returns false'. Refute it at one input. -/
def merklesKnownWrong : ChangeSpec := { name := "merklesKnown", fn := fun _ => fun
  | [] => { results := [.lit (.bool false)], args := [] }
  | _ => none }
def MerklesKnownWrongFalsely : Prop := merklesKnownRow.holds Tryz.pinned (OpenSpec.ofChange merklesKnownWrong)

/- THE SECOND FORM. 'bulk': how many values and letters a reading holds, each counted each time it is reached (what is shared counts as often as it is met; a slice's spare places count too). A statement '..UptoSaid' is the law's where the arguments, and the package variables that the reading takes, are together of bulk at most 1048576: NARROWER than '..Said'. Prove '..Said' where nothing that the law and all that it calls make is longer than what came in: it says more and counts as full. Else prove '..UptoSaid'. A law counts once. -/
mutual
def uptoBulk {H : Type} : DataW H → Nat
  | .lit (.string bytes) => bytes.length + 1
  | .lit _ => 1
  | .nil => 1
  | .ptr d => uptoBulk d + 1
  | .slice elems spare => uptoBulkAll elems + uptoBulkAll spare + 1
  | .agg parts => uptoBulkAll parts + 1
  | .iface _ d => uptoBulk d + 1
  | .map entries => uptoBulkEntries entries + 1
  | .held _ => 1
def uptoBulkAll {H : Type} : List (DataW H) → Nat
  | [] => 0
  | d :: r => uptoBulk d + uptoBulkAll r
def uptoBulkEntries {H : Type} : List (Lit × DataW H) → Nat
  | [] => 0
  | x :: r => uptoBulkEntry x + uptoBulkEntries r
def uptoBulkEntry {H : Type} : Lit × DataW H → Nat
  | (.string bytes, d) => bytes.length + uptoBulk d + 1
  | (_, d) => uptoBulk d + 1
 end
def uptoSmall : (H : Type) → List (DataW H) → Bool := fun _ ds => decide (uptoBulkAll ds ≤ 1048576)
def OpenSpec.upto (s : _root_.Go.ChangeSpec) : _root_.Go.OpenSpec := { _root_.Go.OpenSpec.ofChange s with cond := some uptoSmall }

/-- 'caissonlaw16.MerklesBuild', WHERE WHAT IT READS IS OF BULK AT MOST 1048576: true; the input reads as it did. -/
def merklesBuildUptoRow : OpenClaim := { program := "ytmkpekmhhbcifaagreatdoor", sum := "8fa597a3aaff2a2383a065ec81023bd6855d2a2d2b290e8631432544e42b0360", func := "caisson/caissonlaw16.MerklesBuild", spec := "merklesBuild", inPlace := ["internal/reflectlite.ValueOf", "(internal/reflectlite.Value).Type", "(internal/reflectlite.Value).IsNil", "internal/reflectlite.TypeOf", "(internal/reflectlite.Value).Elem", "(internal/reflectlite.Value).Set"], unfollowed := true, recurses := true, named := ["caisson/nodes.sizes", "caisson/digests.initial", "caisson/digests.constants", "errors.errorType"], apart := false, laid := [("errors.errorType", laid_errors_errorType), ("caisson/digests.constants", laid_caisson_digests_constants), ("caisson/digests.initial", laid_caisson_digests_initial), ("caisson/nodes.sizes", laid_caisson_nodes_sizes)], narrowed := true }
def MerklesBuildUptoSaid : Prop := merklesBuildUptoRow.holds Tryz.pinned (OpenSpec.upto merklesBuildSpec)

/-- 'caissonlaw16.MerklesCheck', WHERE WHAT IT READS IS OF BULK AT MOST 1048576: true; the input reads as it did. -/
def merklesCheckUptoRow : OpenClaim := { program := "ytmkpekmhhbcifaagreatdoor", sum := "8fa597a3aaff2a2383a065ec81023bd6855d2a2d2b290e8631432544e42b0360", func := "caisson/caissonlaw16.MerklesCheck", spec := "merklesCheck", inPlace := ["internal/reflectlite.ValueOf", "(internal/reflectlite.Value).Type", "(internal/reflectlite.Value).IsNil", "internal/reflectlite.TypeOf", "(internal/reflectlite.Value).Elem", "(internal/reflectlite.Value).Set"], unfollowed := true, recurses := true, named := ["caisson/nodes.sizes", "caisson/digests.initial", "caisson/digests.constants", "errors.errorType"], apart := false, laid := [("errors.errorType", laid_errors_errorType), ("caisson/digests.constants", laid_caisson_digests_constants), ("caisson/digests.initial", laid_caisson_digests_initial), ("caisson/nodes.sizes", laid_caisson_nodes_sizes)], narrowed := true }
def MerklesCheckUptoSaid : Prop := merklesCheckUptoRow.holds Tryz.pinned (OpenSpec.upto merklesCheckSpec)

/-- 'caissonlaw16.MerklesProve', WHERE WHAT IT READS IS OF BULK AT MOST 1048576: true; the input reads as it did. -/
def merklesProveUptoRow : OpenClaim := { program := "ytmkpekmhhbcifaagreatdoor", sum := "8fa597a3aaff2a2383a065ec81023bd6855d2a2d2b290e8631432544e42b0360", func := "caisson/caissonlaw16.MerklesProve", spec := "merklesProve", inPlace := ["internal/reflectlite.ValueOf", "(internal/reflectlite.Value).Type", "(internal/reflectlite.Value).IsNil", "internal/reflectlite.TypeOf", "(internal/reflectlite.Value).Elem", "(internal/reflectlite.Value).Set"], unfollowed := true, recurses := true, named := ["caisson/nodes.sizes", "caisson/digests.initial", "caisson/digests.constants", "errors.errorType"], apart := false, laid := [("errors.errorType", laid_errors_errorType), ("caisson/digests.constants", laid_caisson_digests_constants), ("caisson/digests.initial", laid_caisson_digests_initial), ("caisson/nodes.sizes", laid_caisson_nodes_sizes)], narrowed := true }
def MerklesProveUptoSaid : Prop := merklesProveUptoRow.holds Tryz.pinned (OpenSpec.upto merklesProveSpec)

/-- 'caissonlaw16.MerklesVerify', WHERE WHAT IT READS IS OF BULK AT MOST 1048576: true; the input reads as it did. -/
def merklesVerifyUptoRow : OpenClaim := { program := "ytmkpekmhhbcifaagreatdoor", sum := "8fa597a3aaff2a2383a065ec81023bd6855d2a2d2b290e8631432544e42b0360", func := "caisson/caissonlaw16.MerklesVerify", spec := "merklesVerify", inPlace := ["internal/reflectlite.ValueOf", "(internal/reflectlite.Value).Type", "(internal/reflectlite.Value).IsNil", "internal/reflectlite.TypeOf", "(internal/reflectlite.Value).Elem", "(internal/reflectlite.Value).Set"], unfollowed := true, recurses := true, named := ["caisson/nodes.sizes", "caisson/digests.initial", "caisson/digests.constants", "errors.errorType"], apart := false, laid := [("errors.errorType", laid_errors_errorType), ("caisson/digests.constants", laid_caisson_digests_constants), ("caisson/digests.initial", laid_caisson_digests_initial), ("caisson/nodes.sizes", laid_caisson_nodes_sizes)], narrowed := true }
def MerklesVerifyUptoSaid : Prop := merklesVerifyUptoRow.holds Tryz.pinned (OpenSpec.upto merklesVerifySpec)

/-- 'caissonlaw16.MerklesCollide', WHERE WHAT IT READS IS OF BULK AT MOST 1048576: true; the input reads as it did. -/
def merklesCollideUptoRow : OpenClaim := { program := "ytmkpekmhhbcifaagreatdoor", sum := "8fa597a3aaff2a2383a065ec81023bd6855d2a2d2b290e8631432544e42b0360", func := "caisson/caissonlaw16.MerklesCollide", spec := "merklesCollide", inPlace := ["internal/reflectlite.ValueOf", "(internal/reflectlite.Value).Type", "(internal/reflectlite.Value).IsNil", "internal/reflectlite.TypeOf", "(internal/reflectlite.Value).Elem", "(internal/reflectlite.Value).Set"], unfollowed := true, recurses := true, named := ["caisson/nodes.sizes", "caisson/digests.initial", "caisson/digests.constants", "errors.errorType"], apart := false, laid := [("errors.errorType", laid_errors_errorType), ("caisson/digests.constants", laid_caisson_digests_constants), ("caisson/digests.initial", laid_caisson_digests_initial), ("caisson/nodes.sizes", laid_caisson_nodes_sizes)], narrowed := true }
def MerklesCollideUptoSaid : Prop := merklesCollideUptoRow.holds Tryz.pinned (OpenSpec.upto merklesCollideSpec)

/-- 'caissonlaw16.MerklesDiffer', WHERE WHAT IT READS IS OF BULK AT MOST 1048576: true; the input reads as it did. -/
def merklesDifferUptoRow : OpenClaim := { program := "ytmkpekmhhbcifaagreatdoor", sum := "8fa597a3aaff2a2383a065ec81023bd6855d2a2d2b290e8631432544e42b0360", func := "caisson/caissonlaw16.MerklesDiffer", spec := "merklesDiffer", inPlace := ["internal/reflectlite.ValueOf", "(internal/reflectlite.Value).Type", "(internal/reflectlite.Value).IsNil", "internal/reflectlite.TypeOf", "(internal/reflectlite.Value).Elem", "(internal/reflectlite.Value).Set"], unfollowed := true, recurses := true, named := ["caisson/nodes.sizes", "caisson/digests.initial", "caisson/digests.constants", "errors.errorType"], apart := false, laid := [("errors.errorType", laid_errors_errorType), ("caisson/digests.constants", laid_caisson_digests_constants), ("caisson/digests.initial", laid_caisson_digests_initial), ("caisson/nodes.sizes", laid_caisson_nodes_sizes)], narrowed := true }
def MerklesDifferUptoSaid : Prop := merklesDifferUptoRow.holds Tryz.pinned (OpenSpec.upto merklesDifferSpec)

/-- 'caissonlaw16.MerklesErrors', WHERE WHAT IT READS IS OF BULK AT MOST 1048576: true; the input reads as it did. -/
def merklesErrorsUptoRow : OpenClaim := { program := "ytmkpekmhhbcifaagreatdoor", sum := "8fa597a3aaff2a2383a065ec81023bd6855d2a2d2b290e8631432544e42b0360", func := "caisson/caissonlaw16.MerklesErrors", spec := "merklesErrors", inPlace := ["internal/reflectlite.ValueOf", "(internal/reflectlite.Value).Type", "(internal/reflectlite.Value).IsNil", "internal/reflectlite.TypeOf", "(internal/reflectlite.Value).Elem", "(internal/reflectlite.Value).Set"], unfollowed := true, recurses := true, named := ["caisson/nodes.sizes", "caisson/digests.initial", "caisson/digests.constants", "errors.errorType"], apart := false, laid := [("errors.errorType", laid_errors_errorType), ("caisson/digests.constants", laid_caisson_digests_constants), ("caisson/digests.initial", laid_caisson_digests_initial), ("caisson/nodes.sizes", laid_caisson_nodes_sizes)], narrowed := true }
def MerklesErrorsUptoSaid : Prop := merklesErrorsUptoRow.holds Tryz.pinned (OpenSpec.upto merklesErrorsSpec)

/-- 'caissonlaw16.MerklesKnown', WHERE WHAT IT READS IS OF BULK AT MOST 1048576: true; the input reads as it did. -/
def merklesKnownUptoRow : OpenClaim := { program := "ytmkpekmhhbcifaagreatdoor", sum := "8fa597a3aaff2a2383a065ec81023bd6855d2a2d2b290e8631432544e42b0360", func := "caisson/caissonlaw16.MerklesKnown", spec := "merklesKnown", inPlace := ["internal/reflectlite.ValueOf", "(internal/reflectlite.Value).Type", "(internal/reflectlite.Value).IsNil", "internal/reflectlite.TypeOf", "(internal/reflectlite.Value).Elem", "(internal/reflectlite.Value).Set"], unfollowed := true, recurses := true, named := ["caisson/nodes.sizes", "caisson/digests.initial", "caisson/digests.constants", "errors.errorType"], apart := false, laid := [("errors.errorType", laid_errors_errorType), ("caisson/digests.constants", laid_caisson_digests_constants), ("caisson/digests.initial", laid_caisson_digests_initial), ("caisson/nodes.sizes", laid_caisson_nodes_sizes)], narrowed := true }
def MerklesKnownUptoSaid : Prop := merklesKnownUptoRow.holds Tryz.pinned (OpenSpec.upto merklesKnownSpec)

end Rows
end Go.Proofs.YtmkpekmhhbcifaaGreatDoor
