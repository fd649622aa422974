/-
  DERIVED. GIVEN WITH THE SEED: THE CARDS: each row of YtfjpipkcfbmdeaaDoorRows.lean that lists a variable, with what it lists TIED to the program's text (the seventh form; the later family's looks); each row that meets fmt, with fmt's text TOLD by the authors' own Lean function (tested against real Go, not proved from fmt's source: count such statements apart). THE CARD IS WHAT COUNTS. Prove the row's statement (the work); the ties are given (YtfjpipkcfbmdeaaDoorTie.lean); close each card by the builder's one call (the guide's Derived/Test/ToyasCard.lean, 'card_holds'). Laid BY PROGRAM, IN A SANDBOX (cutbox-door.mjs). By AI agents, Wed Nov 11 2026. No macro, syntax, notation, axiom, sorry.
-/
import Derived.Test.YtfjpipkcfbmdeaaDoorRows
import GoSem.ClaimSeven
namespace Go.Proofs.YtfjpipkcfbmdeaaDoor
namespace Rows

/-- THE TIED CARD OF 'caissonlaw15.CellsFresh'. -/
def cellsFreshCard : Claim7 := { stood := { row := cellsFreshRow, standIns := [], harness := (true, "a734c7574f370bf1e76c61855917bbe57022eee9ab623681d75a0e65f224139d"), looks := false }, kinds := [], alts := [], laidByText := true, laidKinds := [.data, .data, .data], laidTests := true, laidLooks := .later }
def CellsFreshCardSaid : Prop := Claim7.holds Tryd.pinned (.plain (OpenSpec.ofChange cellsFreshSpec)) cellsFreshCard

/-- THE TIED CARD OF 'caissonlaw15.CellsStep'. -/
def cellsStepCard : Claim7 := { stood := { row := cellsStepRow, standIns := [], harness := (true, "a734c7574f370bf1e76c61855917bbe57022eee9ab623681d75a0e65f224139d"), looks := false }, kinds := [], alts := [], laidByText := true, laidKinds := [.data, .data, .data], laidTests := true, laidLooks := .later }
def CellsStepCardSaid : Prop := Claim7.holds Tryd.pinned (.plain (OpenSpec.ofChange cellsStepSpec)) cellsStepCard

/-- THE TIED CARD OF 'caissonlaw15.CellsFollows'. -/
def cellsFollowsCard : Claim7 := { stood := { row := cellsFollowsRow, standIns := [], harness := (true, "a734c7574f370bf1e76c61855917bbe57022eee9ab623681d75a0e65f224139d"), looks := false }, kinds := [], alts := [], laidByText := true, laidKinds := [.data, .data, .data], laidTests := true, laidLooks := .later }
def CellsFollowsCardSaid : Prop := Claim7.holds Tryd.pinned (.plain (OpenSpec.ofChange cellsFollowsSpec)) cellsFollowsCard

/-- THE TIED CARD OF 'caissonlaw15.CellsSound'. -/
def cellsSoundCard : Claim7 := { stood := { row := cellsSoundRow, standIns := [], harness := (true, "a734c7574f370bf1e76c61855917bbe57022eee9ab623681d75a0e65f224139d"), looks := false }, kinds := [], alts := [], laidByText := true, laidKinds := [.data, .data, .data], laidTests := true, laidLooks := .later }
def CellsSoundCardSaid : Prop := Claim7.holds Tryd.pinned (.plain (OpenSpec.ofChange cellsSoundSpec)) cellsSoundCard

/-- THE TIED CARD OF 'caissonlaw15.CellsFault'. -/
def cellsFaultCard : Claim7 := { stood := { row := cellsFaultRow, standIns := [], harness := (true, "a734c7574f370bf1e76c61855917bbe57022eee9ab623681d75a0e65f224139d"), looks := false }, kinds := [], alts := [], laidByText := true, laidKinds := [.data, .data, .data], laidTests := true, laidLooks := .later }
def CellsFaultCardSaid : Prop := Claim7.holds Tryd.pinned (.plain (OpenSpec.ofChange cellsFaultSpec)) cellsFaultCard

/-- THE TIED CARD OF 'caissonlaw15.CellsKnown'. -/
def cellsKnownCard : Claim7 := { stood := { row := cellsKnownRow, standIns := [], harness := (true, "a734c7574f370bf1e76c61855917bbe57022eee9ab623681d75a0e65f224139d"), looks := false }, kinds := [], alts := [], laidByText := true, laidKinds := [.data, .data, .data], laidTests := true, laidLooks := .later }
def CellsKnownCardSaid : Prop := Claim7.holds Tryd.pinned (.plain (OpenSpec.ofChange cellsKnownSpec)) cellsKnownCard

/-- THE SECOND FORM's CARD OF 'caissonlaw15.CellsFresh'. -/
def cellsFreshUptoCard : Claim7 := { stood := { row := cellsFreshUptoRow, standIns := [], harness := (true, "a734c7574f370bf1e76c61855917bbe57022eee9ab623681d75a0e65f224139d"), looks := false }, kinds := [], alts := [], laidByText := true, laidKinds := [.data, .data, .data], laidTests := true, laidLooks := .later }
def CellsFreshUptoCardSaid : Prop := Claim7.holds Tryd.pinned (.plain (OpenSpec.upto cellsFreshSpec)) cellsFreshUptoCard

/-- THE SECOND FORM's CARD OF 'caissonlaw15.CellsStep'. -/
def cellsStepUptoCard : Claim7 := { stood := { row := cellsStepUptoRow, standIns := [], harness := (true, "a734c7574f370bf1e76c61855917bbe57022eee9ab623681d75a0e65f224139d"), looks := false }, kinds := [], alts := [], laidByText := true, laidKinds := [.data, .data, .data], laidTests := true, laidLooks := .later }
def CellsStepUptoCardSaid : Prop := Claim7.holds Tryd.pinned (.plain (OpenSpec.upto cellsStepSpec)) cellsStepUptoCard

/-- THE SECOND FORM's CARD OF 'caissonlaw15.CellsFollows'. -/
def cellsFollowsUptoCard : Claim7 := { stood := { row := cellsFollowsUptoRow, standIns := [], harness := (true, "a734c7574f370bf1e76c61855917bbe57022eee9ab623681d75a0e65f224139d"), looks := false }, kinds := [], alts := [], laidByText := true, laidKinds := [.data, .data, .data], laidTests := true, laidLooks := .later }
def CellsFollowsUptoCardSaid : Prop := Claim7.holds Tryd.pinned (.plain (OpenSpec.upto cellsFollowsSpec)) cellsFollowsUptoCard

/-- THE SECOND FORM's CARD OF 'caissonlaw15.CellsSound'. -/
def cellsSoundUptoCard : Claim7 := { stood := { row := cellsSoundUptoRow, standIns := [], harness := (true, "a734c7574f370bf1e76c61855917bbe57022eee9ab623681d75a0e65f224139d"), looks := false }, kinds := [], alts := [], laidByText := true, laidKinds := [.data, .data, .data], laidTests := true, laidLooks := .later }
def CellsSoundUptoCardSaid : Prop := Claim7.holds Tryd.pinned (.plain (OpenSpec.upto cellsSoundSpec)) cellsSoundUptoCard

/-- THE SECOND FORM's CARD OF 'caissonlaw15.CellsFault'. -/
def cellsFaultUptoCard : Claim7 := { stood := { row := cellsFaultUptoRow, standIns := [], harness := (true, "a734c7574f370bf1e76c61855917bbe57022eee9ab623681d75a0e65f224139d"), looks := false }, kinds := [], alts := [], laidByText := true, laidKinds := [.data, .data, .data], laidTests := true, laidLooks := .later }
def CellsFaultUptoCardSaid : Prop := Claim7.holds Tryd.pinned (.plain (OpenSpec.upto cellsFaultSpec)) cellsFaultUptoCard

/-- THE SECOND FORM's CARD OF 'caissonlaw15.CellsKnown'. -/
def cellsKnownUptoCard : Claim7 := { stood := { row := cellsKnownUptoRow, standIns := [], harness := (true, "a734c7574f370bf1e76c61855917bbe57022eee9ab623681d75a0e65f224139d"), looks := false }, kinds := [], alts := [], laidByText := true, laidKinds := [.data, .data, .data], laidTests := true, laidLooks := .later }
def CellsKnownUptoCardSaid : Prop := Claim7.holds Tryd.pinned (.plain (OpenSpec.upto cellsKnownSpec)) cellsKnownUptoCard
end Rows
end Go.Proofs.YtfjpipkcfbmdeaaDoor
