/-
  DERIVED. GIVEN WITH THE SEED: THE CARDS: each row of YtffiflfjlemggaaGreatDoorRows.lean that lists a variable, with what it lists TIED to the program's text (the seventh form; the later family's looks); each row that meets fmt, with fmt's text TOLD by the authors' own Lean function (tested against real Go, not proved from fmt's source: count such statements apart). THE CARD IS WHAT COUNTS. Prove the row's statement (the work); the ties are given (YtffiflfjlemggaaGreatDoorTie.lean); close each card by the builder's one call (the guide's Derived/Test/ToyasCard.lean, 'card_holds'). Laid BY PROGRAM, IN A SANDBOX (cutbox-door.mjs). By AI agents, Wed Nov 11 2026. No macro, syntax, notation, axiom, sorry.
-/
import Derived.Test.YtffiflfjlemggaaGreatDoorRows
import GoSem.ClaimSeven
namespace Go.Proofs.YtffiflfjlemggaaGreatDoor
namespace Rows

/-- THE TIED CARD OF 'caissontop.TopTags'. -/
def topTagsCard : Claim7 := { stood := { row := topTagsRow, standIns := [], harness := (true, "029ea73ff8d1bb06eb0d1489fdb0aa76b2b23d2a9c239f87a61458a2fd706f82"), looks := false }, kinds := [], alts := [], laidByText := true, laidKinds := [.data, .data], laidTests := true, laidLooks := .later }
def TopTagsCardSaid : Prop := Claim7.holds Tryz.pinned (.plain (OpenSpec.ofChange topTagsSpec)) topTagsCard

/-- THE TIED CARD OF 'caissontop.TopCounter'. -/
def topCounterCard : Claim7 := { stood := { row := topCounterRow, standIns := [], harness := (true, "029ea73ff8d1bb06eb0d1489fdb0aa76b2b23d2a9c239f87a61458a2fd706f82"), looks := false }, kinds := [], alts := [], laidByText := true, laidKinds := [.data, .data], laidTests := true, laidLooks := .later }
def TopCounterCardSaid : Prop := Claim7.holds Tryz.pinned (.plain (OpenSpec.ofChange topCounterSpec)) topCounterCard

/-- THE TIED CARD OF 'caissontop.TopRecord'. -/
def topRecordCard : Claim7 := { stood := { row := topRecordRow, standIns := [], harness := (true, "029ea73ff8d1bb06eb0d1489fdb0aa76b2b23d2a9c239f87a61458a2fd706f82"), looks := false }, kinds := [], alts := [], laidByText := true, laidKinds := [.data, .data], laidTests := true, laidLooks := .later }
def TopRecordCardSaid : Prop := Claim7.holds Tryz.pinned (.plain (OpenSpec.ofChange topRecordSpec)) topRecordCard

/-- THE TIED CARD OF 'caissontop.TopSubstitute'. -/
def topSubstituteCard : Claim7 := { stood := { row := topSubstituteRow, standIns := [], harness := (true, "029ea73ff8d1bb06eb0d1489fdb0aa76b2b23d2a9c239f87a61458a2fd706f82"), looks := false }, kinds := [], alts := [], laidByText := true, laidKinds := [.data, .data], laidTests := true, laidLooks := .later }
def TopSubstituteCardSaid : Prop := Claim7.holds Tryz.pinned (.plain (OpenSpec.ofChange topSubstituteSpec)) topSubstituteCard

/-- THE TIED CARD OF 'caissontop.TopCells'. -/
def topCellsCard : Claim7 := { stood := { row := topCellsRow, standIns := [], harness := (true, "029ea73ff8d1bb06eb0d1489fdb0aa76b2b23d2a9c239f87a61458a2fd706f82"), looks := false }, kinds := [], alts := [], laidByText := true, laidKinds := [.data, .data], laidTests := true, laidLooks := .later }
def TopCellsCardSaid : Prop := Claim7.holds Tryz.pinned (.plain (OpenSpec.ofChange topCellsSpec)) topCellsCard

/-- THE SECOND FORM's CARD OF 'caissontop.TopTags'. -/
def topTagsUptoCard : Claim7 := { stood := { row := topTagsUptoRow, standIns := [], harness := (true, "029ea73ff8d1bb06eb0d1489fdb0aa76b2b23d2a9c239f87a61458a2fd706f82"), looks := false }, kinds := [], alts := [], laidByText := true, laidKinds := [.data, .data], laidTests := true, laidLooks := .later }
def TopTagsUptoCardSaid : Prop := Claim7.holds Tryz.pinned (.plain (OpenSpec.upto topTagsSpec)) topTagsUptoCard

/-- THE SECOND FORM's CARD OF 'caissontop.TopCounter'. -/
def topCounterUptoCard : Claim7 := { stood := { row := topCounterUptoRow, standIns := [], harness := (true, "029ea73ff8d1bb06eb0d1489fdb0aa76b2b23d2a9c239f87a61458a2fd706f82"), looks := false }, kinds := [], alts := [], laidByText := true, laidKinds := [.data, .data], laidTests := true, laidLooks := .later }
def TopCounterUptoCardSaid : Prop := Claim7.holds Tryz.pinned (.plain (OpenSpec.upto topCounterSpec)) topCounterUptoCard

/-- THE SECOND FORM's CARD OF 'caissontop.TopRecord'. -/
def topRecordUptoCard : Claim7 := { stood := { row := topRecordUptoRow, standIns := [], harness := (true, "029ea73ff8d1bb06eb0d1489fdb0aa76b2b23d2a9c239f87a61458a2fd706f82"), looks := false }, kinds := [], alts := [], laidByText := true, laidKinds := [.data, .data], laidTests := true, laidLooks := .later }
def TopRecordUptoCardSaid : Prop := Claim7.holds Tryz.pinned (.plain (OpenSpec.upto topRecordSpec)) topRecordUptoCard

/-- THE SECOND FORM's CARD OF 'caissontop.TopSubstitute'. -/
def topSubstituteUptoCard : Claim7 := { stood := { row := topSubstituteUptoRow, standIns := [], harness := (true, "029ea73ff8d1bb06eb0d1489fdb0aa76b2b23d2a9c239f87a61458a2fd706f82"), looks := false }, kinds := [], alts := [], laidByText := true, laidKinds := [.data, .data], laidTests := true, laidLooks := .later }
def TopSubstituteUptoCardSaid : Prop := Claim7.holds Tryz.pinned (.plain (OpenSpec.upto topSubstituteSpec)) topSubstituteUptoCard

/-- THE SECOND FORM's CARD OF 'caissontop.TopCells'. -/
def topCellsUptoCard : Claim7 := { stood := { row := topCellsUptoRow, standIns := [], harness := (true, "029ea73ff8d1bb06eb0d1489fdb0aa76b2b23d2a9c239f87a61458a2fd706f82"), looks := false }, kinds := [], alts := [], laidByText := true, laidKinds := [.data, .data], laidTests := true, laidLooks := .later }
def TopCellsUptoCardSaid : Prop := Claim7.holds Tryz.pinned (.plain (OpenSpec.upto topCellsSpec)) topCellsUptoCard
end Rows
end Go.Proofs.YtffiflfjlemggaaGreatDoor
