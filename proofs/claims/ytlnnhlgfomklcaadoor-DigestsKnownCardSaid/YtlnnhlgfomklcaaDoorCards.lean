/-
  DERIVED. GIVEN WITH THE SEED: THE CARDS: each row of YtlnnhlgfomklcaaDoorRows.lean that lists a variable, with what it lists TIED to the program's text (the seventh form; the later family's looks); each row that meets fmt, with fmt's text TOLD by the authors' own Lean function (tested against real Go, not proved from fmt's source: count such statements apart). THE CARD IS WHAT COUNTS. Prove the row's statement (the work); the ties are given (YtlnnhlgfomklcaaDoorTie.lean); close each card by the builder's one call (the guide's Derived/Test/ToyasCard.lean, 'card_holds'). Laid BY PROGRAM, IN A SANDBOX (cutbox-door.mjs). By AI agents, Wed Nov 11 2026. No macro, syntax, notation, axiom, sorry.
-/
import Derived.Test.YtlnnhlgfomklcaaDoorRows
import GoSem.ClaimSeven
namespace Go.Proofs.YtlnnhlgfomklcaaDoor
namespace Rows

/-- THE TIED CARD OF 'caissonlaw02.DigestsCompress'. -/
def digestsCompressCard : Claim7 := { stood := { row := digestsCompressRow, standIns := [], harness := (true, "1b6dc3efd2e0c977741f6f86e8de089ad469bc26d1dc1177e6b7184054e84cf9"), looks := false }, kinds := [], alts := [], laidByText := true, laidKinds := [.data, .data], laidTests := true, laidLooks := .later }
def DigestsCompressCardSaid : Prop := Claim7.holds Tryd.pinned (.plain (OpenSpec.ofChange digestsCompressSpec)) digestsCompressCard

/-- THE TIED CARD OF 'caissonlaw02.DigestsOf'. -/
def digestsOfCard : Claim7 := { stood := { row := digestsOfRow, standIns := [], harness := (true, "1b6dc3efd2e0c977741f6f86e8de089ad469bc26d1dc1177e6b7184054e84cf9"), looks := false }, kinds := [], alts := [], laidByText := true, laidKinds := [.data, .data], laidTests := true, laidLooks := .later }
def DigestsOfCardSaid : Prop := Claim7.holds Tryd.pinned (.plain (OpenSpec.ofChange digestsOfSpec)) digestsOfCard

/-- THE TIED CARD OF 'caissonlaw02.DigestsParts'. -/
def digestsPartsCard : Claim7 := { stood := { row := digestsPartsRow, standIns := [], harness := (true, "1b6dc3efd2e0c977741f6f86e8de089ad469bc26d1dc1177e6b7184054e84cf9"), looks := false }, kinds := [], alts := [], laidByText := true, laidKinds := [.data, .data], laidTests := true, laidLooks := .later }
def DigestsPartsCardSaid : Prop := Claim7.holds Tryd.pinned (.plain (OpenSpec.ofChange digestsPartsSpec)) digestsPartsCard

/-- THE TIED CARD OF 'caissonlaw02.DigestsKept'. -/
def digestsKeptCard : Claim7 := { stood := { row := digestsKeptRow, standIns := [], harness := (true, "1b6dc3efd2e0c977741f6f86e8de089ad469bc26d1dc1177e6b7184054e84cf9"), looks := false }, kinds := [], alts := [], laidByText := true, laidKinds := [.data, .data], laidTests := true, laidLooks := .later }
def DigestsKeptCardSaid : Prop := Claim7.holds Tryd.pinned (.plain (OpenSpec.ofChange digestsKeptSpec)) digestsKeptCard

/-- THE TIED CARD OF 'caissonlaw02.DigestsKnown'. -/
def digestsKnownCard : Claim7 := { stood := { row := digestsKnownRow, standIns := [], harness := (true, "1b6dc3efd2e0c977741f6f86e8de089ad469bc26d1dc1177e6b7184054e84cf9"), looks := false }, kinds := [], alts := [], laidByText := true, laidKinds := [.data, .data], laidTests := true, laidLooks := .later }
def DigestsKnownCardSaid : Prop := Claim7.holds Tryd.pinned (.plain (OpenSpec.ofChange digestsKnownSpec)) digestsKnownCard

/-- THE SECOND FORM's CARD OF 'caissonlaw02.DigestsCompress'. -/
def digestsCompressUptoCard : Claim7 := { stood := { row := digestsCompressUptoRow, standIns := [], harness := (true, "1b6dc3efd2e0c977741f6f86e8de089ad469bc26d1dc1177e6b7184054e84cf9"), looks := false }, kinds := [], alts := [], laidByText := true, laidKinds := [.data, .data], laidTests := true, laidLooks := .later }
def DigestsCompressUptoCardSaid : Prop := Claim7.holds Tryd.pinned (.plain (OpenSpec.upto digestsCompressSpec)) digestsCompressUptoCard

/-- THE SECOND FORM's CARD OF 'caissonlaw02.DigestsOf'. -/
def digestsOfUptoCard : Claim7 := { stood := { row := digestsOfUptoRow, standIns := [], harness := (true, "1b6dc3efd2e0c977741f6f86e8de089ad469bc26d1dc1177e6b7184054e84cf9"), looks := false }, kinds := [], alts := [], laidByText := true, laidKinds := [.data, .data], laidTests := true, laidLooks := .later }
def DigestsOfUptoCardSaid : Prop := Claim7.holds Tryd.pinned (.plain (OpenSpec.upto digestsOfSpec)) digestsOfUptoCard

/-- THE SECOND FORM's CARD OF 'caissonlaw02.DigestsParts'. -/
def digestsPartsUptoCard : Claim7 := { stood := { row := digestsPartsUptoRow, standIns := [], harness := (true, "1b6dc3efd2e0c977741f6f86e8de089ad469bc26d1dc1177e6b7184054e84cf9"), looks := false }, kinds := [], alts := [], laidByText := true, laidKinds := [.data, .data], laidTests := true, laidLooks := .later }
def DigestsPartsUptoCardSaid : Prop := Claim7.holds Tryd.pinned (.plain (OpenSpec.upto digestsPartsSpec)) digestsPartsUptoCard

/-- THE SECOND FORM's CARD OF 'caissonlaw02.DigestsKept'. -/
def digestsKeptUptoCard : Claim7 := { stood := { row := digestsKeptUptoRow, standIns := [], harness := (true, "1b6dc3efd2e0c977741f6f86e8de089ad469bc26d1dc1177e6b7184054e84cf9"), looks := false }, kinds := [], alts := [], laidByText := true, laidKinds := [.data, .data], laidTests := true, laidLooks := .later }
def DigestsKeptUptoCardSaid : Prop := Claim7.holds Tryd.pinned (.plain (OpenSpec.upto digestsKeptSpec)) digestsKeptUptoCard

/-- THE SECOND FORM's CARD OF 'caissonlaw02.DigestsKnown'. -/
def digestsKnownUptoCard : Claim7 := { stood := { row := digestsKnownUptoRow, standIns := [], harness := (true, "1b6dc3efd2e0c977741f6f86e8de089ad469bc26d1dc1177e6b7184054e84cf9"), looks := false }, kinds := [], alts := [], laidByText := true, laidKinds := [.data, .data], laidTests := true, laidLooks := .later }
def DigestsKnownUptoCardSaid : Prop := Claim7.holds Tryd.pinned (.plain (OpenSpec.upto digestsKnownSpec)) digestsKnownUptoCard
end Rows
end Go.Proofs.YtlnnhlgfomklcaaDoor
