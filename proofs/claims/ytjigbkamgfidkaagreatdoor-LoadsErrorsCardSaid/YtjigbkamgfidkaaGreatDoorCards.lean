/-
  DERIVED. GIVEN WITH THE SEED: THE CARDS: each row of YtjigbkamgfidkaaGreatDoorRows.lean that lists a variable, with what it lists TIED to the program's text (the seventh form; the later family's looks); each row that meets fmt, with fmt's text TOLD by the authors' own Lean function (tested against real Go, not proved from fmt's source: count such statements apart). THE CARD IS WHAT COUNTS. Prove the row's statement (the work); the ties are given (YtjigbkamgfidkaaGreatDoorTie.lean); close each card by the builder's one call (the guide's Derived/Test/ToyasCard.lean, 'card_holds'). Laid BY PROGRAM, IN A SANDBOX (cutbox-door.mjs). By AI agents, Wed Nov 11 2026. No macro, syntax, notation, axiom, sorry.
-/
import Derived.Test.YtjigbkamgfidkaaGreatDoorRows
import GoSem.ClaimSeven
namespace Go.Proofs.YtjigbkamgfidkaaGreatDoor
namespace Rows

/-- THE TIED CARD OF 'caissonlaw17.LoadsWritten'. -/
def loadsWrittenCard : Claim7 := { stood := { row := loadsWrittenRow, standIns := [], harness := (true, "c4e9d80dbe9e5aae1e169f6610215325f0fc1d0a14a7670a36d0f4eb29ce06d6"), looks := false }, kinds := [], alts := [], laidByText := true, laidKinds := [.data, .data, .data], laidTests := true, laidLooks := .later }
def LoadsWrittenCardSaid : Prop := Claim7.holds Tryz.pinned (.plain (OpenSpec.ofChange loadsWrittenSpec)) loadsWrittenCard

/-- THE TIED CARD OF 'caissonlaw17.LoadsEdited'. -/
def loadsEditedCard : Claim7 := { stood := { row := loadsEditedRow, standIns := [], harness := (true, "c4e9d80dbe9e5aae1e169f6610215325f0fc1d0a14a7670a36d0f4eb29ce06d6"), looks := false }, kinds := [], alts := [], laidByText := true, laidKinds := [.data, .data, .data], laidTests := true, laidLooks := .later }
def LoadsEditedCardSaid : Prop := Claim7.holds Tryz.pinned (.plain (OpenSpec.ofChange loadsEditedSpec)) loadsEditedCard

/-- THE TIED CARD OF 'caissonlaw17.LoadsSafe'. -/
def loadsSafeCard : Claim7 := { stood := { row := loadsSafeRow, standIns := [], harness := (true, "c4e9d80dbe9e5aae1e169f6610215325f0fc1d0a14a7670a36d0f4eb29ce06d6"), looks := false }, kinds := [], alts := [], laidByText := true, laidKinds := [.data, .data, .data], laidTests := true, laidLooks := .later }
def LoadsSafeCardSaid : Prop := Claim7.holds Tryz.pinned (.plain (OpenSpec.ofChange loadsSafeSpec)) loadsSafeCard

/-- THE TIED CARD OF 'caissonlaw17.LoadsChild'. -/
def loadsChildCard : Claim7 := { stood := { row := loadsChildRow, standIns := [], harness := (true, "c4e9d80dbe9e5aae1e169f6610215325f0fc1d0a14a7670a36d0f4eb29ce06d6"), looks := false }, kinds := [], alts := [], laidByText := true, laidKinds := [.data, .data, .data], laidTests := true, laidLooks := .later }
def LoadsChildCardSaid : Prop := Claim7.holds Tryz.pinned (.plain (OpenSpec.ofChange loadsChildSpec)) loadsChildCard

/-- THE TIED CARD OF 'caissonlaw17.LoadsErrors'. -/
def loadsErrorsCard : Claim7 := { stood := { row := loadsErrorsRow, standIns := [], harness := (true, "c4e9d80dbe9e5aae1e169f6610215325f0fc1d0a14a7670a36d0f4eb29ce06d6"), looks := false }, kinds := [], alts := [], laidByText := true, laidKinds := [.data, .data, .data], laidTests := true, laidLooks := .later }
def LoadsErrorsCardSaid : Prop := Claim7.holds Tryz.pinned (.plain (OpenSpec.ofChange loadsErrorsSpec)) loadsErrorsCard

/-- THE TIED CARD OF 'caissonlaw17.LoadsKnown'. -/
def loadsKnownCard : Claim7 := { stood := { row := loadsKnownRow, standIns := [], harness := (true, "c4e9d80dbe9e5aae1e169f6610215325f0fc1d0a14a7670a36d0f4eb29ce06d6"), looks := false }, kinds := [], alts := [], laidByText := true, laidKinds := [.data, .data, .data], laidTests := true, laidLooks := .later }
def LoadsKnownCardSaid : Prop := Claim7.holds Tryz.pinned (.plain (OpenSpec.ofChange loadsKnownSpec)) loadsKnownCard

/-- THE SECOND FORM's CARD OF 'caissonlaw17.LoadsWritten'. -/
def loadsWrittenUptoCard : Claim7 := { stood := { row := loadsWrittenUptoRow, standIns := [], harness := (true, "c4e9d80dbe9e5aae1e169f6610215325f0fc1d0a14a7670a36d0f4eb29ce06d6"), looks := false }, kinds := [], alts := [], laidByText := true, laidKinds := [.data, .data, .data], laidTests := true, laidLooks := .later }
def LoadsWrittenUptoCardSaid : Prop := Claim7.holds Tryz.pinned (.plain (OpenSpec.upto loadsWrittenSpec)) loadsWrittenUptoCard

/-- THE SECOND FORM's CARD OF 'caissonlaw17.LoadsEdited'. -/
def loadsEditedUptoCard : Claim7 := { stood := { row := loadsEditedUptoRow, standIns := [], harness := (true, "c4e9d80dbe9e5aae1e169f6610215325f0fc1d0a14a7670a36d0f4eb29ce06d6"), looks := false }, kinds := [], alts := [], laidByText := true, laidKinds := [.data, .data, .data], laidTests := true, laidLooks := .later }
def LoadsEditedUptoCardSaid : Prop := Claim7.holds Tryz.pinned (.plain (OpenSpec.upto loadsEditedSpec)) loadsEditedUptoCard

/-- THE SECOND FORM's CARD OF 'caissonlaw17.LoadsSafe'. -/
def loadsSafeUptoCard : Claim7 := { stood := { row := loadsSafeUptoRow, standIns := [], harness := (true, "c4e9d80dbe9e5aae1e169f6610215325f0fc1d0a14a7670a36d0f4eb29ce06d6"), looks := false }, kinds := [], alts := [], laidByText := true, laidKinds := [.data, .data, .data], laidTests := true, laidLooks := .later }
def LoadsSafeUptoCardSaid : Prop := Claim7.holds Tryz.pinned (.plain (OpenSpec.upto loadsSafeSpec)) loadsSafeUptoCard

/-- THE SECOND FORM's CARD OF 'caissonlaw17.LoadsChild'. -/
def loadsChildUptoCard : Claim7 := { stood := { row := loadsChildUptoRow, standIns := [], harness := (true, "c4e9d80dbe9e5aae1e169f6610215325f0fc1d0a14a7670a36d0f4eb29ce06d6"), looks := false }, kinds := [], alts := [], laidByText := true, laidKinds := [.data, .data, .data], laidTests := true, laidLooks := .later }
def LoadsChildUptoCardSaid : Prop := Claim7.holds Tryz.pinned (.plain (OpenSpec.upto loadsChildSpec)) loadsChildUptoCard

/-- THE SECOND FORM's CARD OF 'caissonlaw17.LoadsErrors'. -/
def loadsErrorsUptoCard : Claim7 := { stood := { row := loadsErrorsUptoRow, standIns := [], harness := (true, "c4e9d80dbe9e5aae1e169f6610215325f0fc1d0a14a7670a36d0f4eb29ce06d6"), looks := false }, kinds := [], alts := [], laidByText := true, laidKinds := [.data, .data, .data], laidTests := true, laidLooks := .later }
def LoadsErrorsUptoCardSaid : Prop := Claim7.holds Tryz.pinned (.plain (OpenSpec.upto loadsErrorsSpec)) loadsErrorsUptoCard

/-- THE SECOND FORM's CARD OF 'caissonlaw17.LoadsKnown'. -/
def loadsKnownUptoCard : Claim7 := { stood := { row := loadsKnownUptoRow, standIns := [], harness := (true, "c4e9d80dbe9e5aae1e169f6610215325f0fc1d0a14a7670a36d0f4eb29ce06d6"), looks := false }, kinds := [], alts := [], laidByText := true, laidKinds := [.data, .data, .data], laidTests := true, laidLooks := .later }
def LoadsKnownUptoCardSaid : Prop := Claim7.holds Tryz.pinned (.plain (OpenSpec.upto loadsKnownSpec)) loadsKnownUptoCard
end Rows
end Go.Proofs.YtjigbkamgfidkaaGreatDoor
