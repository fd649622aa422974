/-
  DERIVED. GIVEN WITH THE SEED: THE CARDS: each row of YtmkpekmhhbcifaaGreatDoorRows.lean that lists a variable, with what it lists TIED to the program's text (the seventh form; the later family's looks); each row that meets fmt, with fmt's text TOLD by the authors' own Lean function (tested against real Go, not proved from fmt's source: count such statements apart). THE CARD IS WHAT COUNTS. Prove the row's statement (the work); the ties are given (YtmkpekmhhbcifaaGreatDoorTie.lean); close each card by the builder's one call (the guide's Derived/Test/ToyasCard.lean, 'card_holds'). Laid BY PROGRAM, IN A SANDBOX (cutbox-door.mjs). By AI agents, Wed Nov 11 2026. No macro, syntax, notation, axiom, sorry.
-/
import Derived.Test.YtmkpekmhhbcifaaGreatDoorRows
import GoSem.ClaimSeven
namespace Go.Proofs.YtmkpekmhhbcifaaGreatDoor
namespace Rows

/-- THE TIED CARD OF 'caissonlaw16.MerklesBuild'. -/
def merklesBuildCard : Claim7 := { stood := { row := merklesBuildRow, standIns := [], harness := (true, "c775ce2dff6863eb9048e5cf54d0f535d75b64edef421f2a1a294fbbe4a57353"), looks := true }, kinds := [], alts := [], laidByText := true, laidKinds := [.handle, .data, .data, .data], laidTests := true, laidLooks := .later }
def MerklesBuildCardSaid : Prop := Claim7.holds Tryz.pinned (.plain (OpenSpec.ofChange merklesBuildSpec)) merklesBuildCard

/-- THE TIED CARD OF 'caissonlaw16.MerklesCheck'. -/
def merklesCheckCard : Claim7 := { stood := { row := merklesCheckRow, standIns := [], harness := (true, "c775ce2dff6863eb9048e5cf54d0f535d75b64edef421f2a1a294fbbe4a57353"), looks := true }, kinds := [], alts := [], laidByText := true, laidKinds := [.handle, .data, .data, .data], laidTests := true, laidLooks := .later }
def MerklesCheckCardSaid : Prop := Claim7.holds Tryz.pinned (.plain (OpenSpec.ofChange merklesCheckSpec)) merklesCheckCard

/-- THE TIED CARD OF 'caissonlaw16.MerklesProve'. -/
def merklesProveCard : Claim7 := { stood := { row := merklesProveRow, standIns := [], harness := (true, "c775ce2dff6863eb9048e5cf54d0f535d75b64edef421f2a1a294fbbe4a57353"), looks := true }, kinds := [], alts := [], laidByText := true, laidKinds := [.handle, .data, .data, .data], laidTests := true, laidLooks := .later }
def MerklesProveCardSaid : Prop := Claim7.holds Tryz.pinned (.plain (OpenSpec.ofChange merklesProveSpec)) merklesProveCard

/-- THE TIED CARD OF 'caissonlaw16.MerklesVerify'. -/
def merklesVerifyCard : Claim7 := { stood := { row := merklesVerifyRow, standIns := [], harness := (true, "c775ce2dff6863eb9048e5cf54d0f535d75b64edef421f2a1a294fbbe4a57353"), looks := true }, kinds := [], alts := [], laidByText := true, laidKinds := [.handle, .data, .data, .data], laidTests := true, laidLooks := .later }
def MerklesVerifyCardSaid : Prop := Claim7.holds Tryz.pinned (.plain (OpenSpec.ofChange merklesVerifySpec)) merklesVerifyCard

/-- THE TIED CARD OF 'caissonlaw16.MerklesCollide'. -/
def merklesCollideCard : Claim7 := { stood := { row := merklesCollideRow, standIns := [], harness := (true, "c775ce2dff6863eb9048e5cf54d0f535d75b64edef421f2a1a294fbbe4a57353"), looks := true }, kinds := [], alts := [], laidByText := true, laidKinds := [.handle, .data, .data, .data], laidTests := true, laidLooks := .later }
def MerklesCollideCardSaid : Prop := Claim7.holds Tryz.pinned (.plain (OpenSpec.ofChange merklesCollideSpec)) merklesCollideCard

/-- THE TIED CARD OF 'caissonlaw16.MerklesDiffer'. -/
def merklesDifferCard : Claim7 := { stood := { row := merklesDifferRow, standIns := [], harness := (true, "c775ce2dff6863eb9048e5cf54d0f535d75b64edef421f2a1a294fbbe4a57353"), looks := true }, kinds := [], alts := [], laidByText := true, laidKinds := [.handle, .data, .data, .data], laidTests := true, laidLooks := .later }
def MerklesDifferCardSaid : Prop := Claim7.holds Tryz.pinned (.plain (OpenSpec.ofChange merklesDifferSpec)) merklesDifferCard

/-- THE TIED CARD OF 'caissonlaw16.MerklesErrors'. -/
def merklesErrorsCard : Claim7 := { stood := { row := merklesErrorsRow, standIns := [], harness := (true, "c775ce2dff6863eb9048e5cf54d0f535d75b64edef421f2a1a294fbbe4a57353"), looks := true }, kinds := [], alts := [], laidByText := true, laidKinds := [.handle, .data, .data, .data], laidTests := true, laidLooks := .later }
def MerklesErrorsCardSaid : Prop := Claim7.holds Tryz.pinned (.plain (OpenSpec.ofChange merklesErrorsSpec)) merklesErrorsCard

/-- THE TIED CARD OF 'caissonlaw16.MerklesKnown'. -/
def merklesKnownCard : Claim7 := { stood := { row := merklesKnownRow, standIns := [], harness := (true, "c775ce2dff6863eb9048e5cf54d0f535d75b64edef421f2a1a294fbbe4a57353"), looks := true }, kinds := [], alts := [], laidByText := true, laidKinds := [.handle, .data, .data, .data], laidTests := true, laidLooks := .later }
def MerklesKnownCardSaid : Prop := Claim7.holds Tryz.pinned (.plain (OpenSpec.ofChange merklesKnownSpec)) merklesKnownCard

/-- THE SECOND FORM's CARD OF 'caissonlaw16.MerklesBuild'. -/
def merklesBuildUptoCard : Claim7 := { stood := { row := merklesBuildUptoRow, standIns := [], harness := (true, "c775ce2dff6863eb9048e5cf54d0f535d75b64edef421f2a1a294fbbe4a57353"), looks := true }, kinds := [], alts := [], laidByText := true, laidKinds := [.handle, .data, .data, .data], laidTests := true, laidLooks := .later }
def MerklesBuildUptoCardSaid : Prop := Claim7.holds Tryz.pinned (.plain (OpenSpec.upto merklesBuildSpec)) merklesBuildUptoCard

/-- THE SECOND FORM's CARD OF 'caissonlaw16.MerklesCheck'. -/
def merklesCheckUptoCard : Claim7 := { stood := { row := merklesCheckUptoRow, standIns := [], harness := (true, "c775ce2dff6863eb9048e5cf54d0f535d75b64edef421f2a1a294fbbe4a57353"), looks := true }, kinds := [], alts := [], laidByText := true, laidKinds := [.handle, .data, .data, .data], laidTests := true, laidLooks := .later }
def MerklesCheckUptoCardSaid : Prop := Claim7.holds Tryz.pinned (.plain (OpenSpec.upto merklesCheckSpec)) merklesCheckUptoCard

/-- THE SECOND FORM's CARD OF 'caissonlaw16.MerklesProve'. -/
def merklesProveUptoCard : Claim7 := { stood := { row := merklesProveUptoRow, standIns := [], harness := (true, "c775ce2dff6863eb9048e5cf54d0f535d75b64edef421f2a1a294fbbe4a57353"), looks := true }, kinds := [], alts := [], laidByText := true, laidKinds := [.handle, .data, .data, .data], laidTests := true, laidLooks := .later }
def MerklesProveUptoCardSaid : Prop := Claim7.holds Tryz.pinned (.plain (OpenSpec.upto merklesProveSpec)) merklesProveUptoCard

/-- THE SECOND FORM's CARD OF 'caissonlaw16.MerklesVerify'. -/
def merklesVerifyUptoCard : Claim7 := { stood := { row := merklesVerifyUptoRow, standIns := [], harness := (true, "c775ce2dff6863eb9048e5cf54d0f535d75b64edef421f2a1a294fbbe4a57353"), looks := true }, kinds := [], alts := [], laidByText := true, laidKinds := [.handle, .data, .data, .data], laidTests := true, laidLooks := .later }
def MerklesVerifyUptoCardSaid : Prop := Claim7.holds Tryz.pinned (.plain (OpenSpec.upto merklesVerifySpec)) merklesVerifyUptoCard

/-- THE SECOND FORM's CARD OF 'caissonlaw16.MerklesCollide'. -/
def merklesCollideUptoCard : Claim7 := { stood := { row := merklesCollideUptoRow, standIns := [], harness := (true, "c775ce2dff6863eb9048e5cf54d0f535d75b64edef421f2a1a294fbbe4a57353"), looks := true }, kinds := [], alts := [], laidByText := true, laidKinds := [.handle, .data, .data, .data], laidTests := true, laidLooks := .later }
def MerklesCollideUptoCardSaid : Prop := Claim7.holds Tryz.pinned (.plain (OpenSpec.upto merklesCollideSpec)) merklesCollideUptoCard

/-- THE SECOND FORM's CARD OF 'caissonlaw16.MerklesDiffer'. -/
def merklesDifferUptoCard : Claim7 := { stood := { row := merklesDifferUptoRow, standIns := [], harness := (true, "c775ce2dff6863eb9048e5cf54d0f535d75b64edef421f2a1a294fbbe4a57353"), looks := true }, kinds := [], alts := [], laidByText := true, laidKinds := [.handle, .data, .data, .data], laidTests := true, laidLooks := .later }
def MerklesDifferUptoCardSaid : Prop := Claim7.holds Tryz.pinned (.plain (OpenSpec.upto merklesDifferSpec)) merklesDifferUptoCard

/-- THE SECOND FORM's CARD OF 'caissonlaw16.MerklesErrors'. -/
def merklesErrorsUptoCard : Claim7 := { stood := { row := merklesErrorsUptoRow, standIns := [], harness := (true, "c775ce2dff6863eb9048e5cf54d0f535d75b64edef421f2a1a294fbbe4a57353"), looks := true }, kinds := [], alts := [], laidByText := true, laidKinds := [.handle, .data, .data, .data], laidTests := true, laidLooks := .later }
def MerklesErrorsUptoCardSaid : Prop := Claim7.holds Tryz.pinned (.plain (OpenSpec.upto merklesErrorsSpec)) merklesErrorsUptoCard

/-- THE SECOND FORM's CARD OF 'caissonlaw16.MerklesKnown'. -/
def merklesKnownUptoCard : Claim7 := { stood := { row := merklesKnownUptoRow, standIns := [], harness := (true, "c775ce2dff6863eb9048e5cf54d0f535d75b64edef421f2a1a294fbbe4a57353"), looks := true }, kinds := [], alts := [], laidByText := true, laidKinds := [.handle, .data, .data, .data], laidTests := true, laidLooks := .later }
def MerklesKnownUptoCardSaid : Prop := Claim7.holds Tryz.pinned (.plain (OpenSpec.upto merklesKnownSpec)) merklesKnownUptoCard
end Rows
end Go.Proofs.YtmkpekmhhbcifaaGreatDoor
