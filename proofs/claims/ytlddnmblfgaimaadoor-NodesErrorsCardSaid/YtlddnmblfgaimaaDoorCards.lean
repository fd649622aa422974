/-
  DERIVED. GIVEN WITH THE SEED: THE CARDS: each row of YtlddnmblfgaimaaDoorRows.lean that lists a variable, with what it lists TIED to the program's text (the seventh form; the later family's looks); each row that meets fmt, with fmt's text TOLD by the authors' own Lean function (tested against real Go, not proved from fmt's source: count such statements apart). THE CARD IS WHAT COUNTS. Prove the row's statement (the work); the ties are given (YtlddnmblfgaimaaDoorTie.lean); close each card by the builder's one call (the guide's Derived/Test/ToyasCard.lean, 'card_holds'). Laid BY PROGRAM, IN A SANDBOX (cutbox-door.mjs). By AI agents, Wed Nov 11 2026. No macro, syntax, notation, axiom, sorry.
-/
import Derived.Test.YtlddnmblfgaimaaDoorRows
import GoSem.ClaimSeven
namespace Go.Proofs.YtlddnmblfgaimaaDoor
namespace Rows

/-- THE TIED CARD OF 'caissonlaw13.NodesBack'. -/
def nodesBackCard : Claim7 := { stood := { row := nodesBackRow, standIns := [], harness := (true, "eff9a7179ffb233a7c3e678fdea430c35a61869ddb039f8311d6f2b131771229"), looks := false }, kinds := [], alts := [], laidByText := true, laidKinds := [.data], laidTests := true, laidLooks := .later }
def NodesBackCardSaid : Prop := Claim7.holds Tryd.pinned (.plain (OpenSpec.ofChange nodesBackSpec)) nodesBackCard

/-- THE TIED CARD OF 'caissonlaw13.NodesGet'. -/
def nodesGetCard : Claim7 := { stood := { row := nodesGetRow, standIns := [], harness := (true, "eff9a7179ffb233a7c3e678fdea430c35a61869ddb039f8311d6f2b131771229"), looks := false }, kinds := [], alts := [], laidByText := true, laidKinds := [.data], laidTests := true, laidLooks := .later }
def NodesGetCardSaid : Prop := Claim7.holds Tryd.pinned (.plain (OpenSpec.ofChange nodesGetSpec)) nodesGetCard

/-- THE TIED CARD OF 'caissonlaw13.NodesDigest'. -/
def nodesDigestCard : Claim7 := { stood := { row := nodesDigestRow, standIns := [], harness := (true, "eff9a7179ffb233a7c3e678fdea430c35a61869ddb039f8311d6f2b131771229"), looks := false }, kinds := [], alts := [], laidByText := true, laidKinds := [.data, .data, .data], laidTests := true, laidLooks := .later }
def NodesDigestCardSaid : Prop := Claim7.holds Tryd.pinned (.plain (OpenSpec.ofChange nodesDigestSpec)) nodesDigestCard

/-- THE TIED CARD OF 'caissonlaw13.NodesErrors'. -/
def nodesErrorsCard : Claim7 := { stood := { row := nodesErrorsRow, standIns := [], harness := (true, "eff9a7179ffb233a7c3e678fdea430c35a61869ddb039f8311d6f2b131771229"), looks := false }, kinds := [], alts := [], laidByText := true, laidKinds := [.data, .data, .data], laidTests := true, laidLooks := .later }
def NodesErrorsCardSaid : Prop := Claim7.holds Tryd.pinned (.plain (OpenSpec.ofChange nodesErrorsSpec)) nodesErrorsCard

/-- THE TIED CARD OF 'caissonlaw13.NodesWith'. -/
def nodesWithCard : Claim7 := { stood := { row := nodesWithRow, standIns := [], harness := (true, "eff9a7179ffb233a7c3e678fdea430c35a61869ddb039f8311d6f2b131771229"), looks := false }, kinds := [], alts := [], laidByText := true, laidKinds := [.data], laidTests := true, laidLooks := .later }
def NodesWithCardSaid : Prop := Claim7.holds Tryd.pinned (.plain (OpenSpec.ofChange nodesWithSpec)) nodesWithCard

/-- THE TIED CARD OF 'caissonlaw13.NodesKnown'. -/
def nodesKnownCard : Claim7 := { stood := { row := nodesKnownRow, standIns := [], harness := (true, "eff9a7179ffb233a7c3e678fdea430c35a61869ddb039f8311d6f2b131771229"), looks := false }, kinds := [], alts := [], laidByText := true, laidKinds := [.data], laidTests := true, laidLooks := .later }
def NodesKnownCardSaid : Prop := Claim7.holds Tryd.pinned (.plain (OpenSpec.ofChange nodesKnownSpec)) nodesKnownCard

/-- THE SECOND FORM's CARD OF 'caissonlaw13.NodesBack'. -/
def nodesBackUptoCard : Claim7 := { stood := { row := nodesBackUptoRow, standIns := [], harness := (true, "eff9a7179ffb233a7c3e678fdea430c35a61869ddb039f8311d6f2b131771229"), looks := false }, kinds := [], alts := [], laidByText := true, laidKinds := [.data], laidTests := true, laidLooks := .later }
def NodesBackUptoCardSaid : Prop := Claim7.holds Tryd.pinned (.plain (OpenSpec.upto nodesBackSpec)) nodesBackUptoCard

/-- THE SECOND FORM's CARD OF 'caissonlaw13.NodesGet'. -/
def nodesGetUptoCard : Claim7 := { stood := { row := nodesGetUptoRow, standIns := [], harness := (true, "eff9a7179ffb233a7c3e678fdea430c35a61869ddb039f8311d6f2b131771229"), looks := false }, kinds := [], alts := [], laidByText := true, laidKinds := [.data], laidTests := true, laidLooks := .later }
def NodesGetUptoCardSaid : Prop := Claim7.holds Tryd.pinned (.plain (OpenSpec.upto nodesGetSpec)) nodesGetUptoCard

/-- THE SECOND FORM's CARD OF 'caissonlaw13.NodesDigest'. -/
def nodesDigestUptoCard : Claim7 := { stood := { row := nodesDigestUptoRow, standIns := [], harness := (true, "eff9a7179ffb233a7c3e678fdea430c35a61869ddb039f8311d6f2b131771229"), looks := false }, kinds := [], alts := [], laidByText := true, laidKinds := [.data, .data, .data], laidTests := true, laidLooks := .later }
def NodesDigestUptoCardSaid : Prop := Claim7.holds Tryd.pinned (.plain (OpenSpec.upto nodesDigestSpec)) nodesDigestUptoCard

/-- THE SECOND FORM's CARD OF 'caissonlaw13.NodesErrors'. -/
def nodesErrorsUptoCard : Claim7 := { stood := { row := nodesErrorsUptoRow, standIns := [], harness := (true, "eff9a7179ffb233a7c3e678fdea430c35a61869ddb039f8311d6f2b131771229"), looks := false }, kinds := [], alts := [], laidByText := true, laidKinds := [.data, .data, .data], laidTests := true, laidLooks := .later }
def NodesErrorsUptoCardSaid : Prop := Claim7.holds Tryd.pinned (.plain (OpenSpec.upto nodesErrorsSpec)) nodesErrorsUptoCard

/-- THE SECOND FORM's CARD OF 'caissonlaw13.NodesWith'. -/
def nodesWithUptoCard : Claim7 := { stood := { row := nodesWithUptoRow, standIns := [], harness := (true, "eff9a7179ffb233a7c3e678fdea430c35a61869ddb039f8311d6f2b131771229"), looks := false }, kinds := [], alts := [], laidByText := true, laidKinds := [.data], laidTests := true, laidLooks := .later }
def NodesWithUptoCardSaid : Prop := Claim7.holds Tryd.pinned (.plain (OpenSpec.upto nodesWithSpec)) nodesWithUptoCard

/-- THE SECOND FORM's CARD OF 'caissonlaw13.NodesKnown'. -/
def nodesKnownUptoCard : Claim7 := { stood := { row := nodesKnownUptoRow, standIns := [], harness := (true, "eff9a7179ffb233a7c3e678fdea430c35a61869ddb039f8311d6f2b131771229"), looks := false }, kinds := [], alts := [], laidByText := true, laidKinds := [.data], laidTests := true, laidLooks := .later }
def NodesKnownUptoCardSaid : Prop := Claim7.holds Tryd.pinned (.plain (OpenSpec.upto nodesKnownSpec)) nodesKnownUptoCard
end Rows
end Go.Proofs.YtlddnmblfgaimaaDoor
