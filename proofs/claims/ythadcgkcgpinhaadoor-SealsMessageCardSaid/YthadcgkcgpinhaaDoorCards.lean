/-
  DERIVED. GIVEN WITH THE SEED: THE CARDS: each row of YthadcgkcgpinhaaDoorRows.lean that lists a variable, with what it lists TIED to the program's text (the seventh form; the later family's looks); each row that meets fmt, with fmt's text TOLD by the authors' own Lean function (tested against real Go, not proved from fmt's source: count such statements apart). THE CARD IS WHAT COUNTS. Prove the row's statement (the work); the ties are given (YthadcgkcgpinhaaDoorTie.lean); close each card by the builder's one call (the guide's Derived/Test/ToyasCard.lean, 'card_holds'). Laid BY PROGRAM, IN A SANDBOX (cutbox-door.mjs). By AI agents, Wed Nov 11 2026. No macro, syntax, notation, axiom, sorry.
-/
import Derived.Test.YthadcgkcgpinhaaDoorRows
import GoSem.ClaimSeven
namespace Go.Proofs.YthadcgkcgpinhaaDoor
namespace Rows

/-- THE TIED CARD OF 'caissonlaw09.SealsMessage'. -/
def sealsMessageCard : Claim7 := { stood := { row := sealsMessageRow, standIns := [], harness := (true, "c9eecc476b601e83cac00f92d45cf3b0bc5d8fe45dd0a1cae19c134a6e57f084"), looks := false }, kinds := [], alts := [], laidByText := true, laidKinds := [.data, .data], laidTests := true, laidLooks := .later }
def SealsMessageCardSaid : Prop := Claim7.holds Tryd.pinned (.plain (OpenSpec.ofChange sealsMessageSpec)) sealsMessageCard

/-- THE SECOND FORM's CARD OF 'caissonlaw09.SealsMessage'. -/
def sealsMessageUptoCard : Claim7 := { stood := { row := sealsMessageUptoRow, standIns := [], harness := (true, "c9eecc476b601e83cac00f92d45cf3b0bc5d8fe45dd0a1cae19c134a6e57f084"), looks := false }, kinds := [], alts := [], laidByText := true, laidKinds := [.data, .data], laidTests := true, laidLooks := .later }
def SealsMessageUptoCardSaid : Prop := Claim7.holds Tryd.pinned (.plain (OpenSpec.upto sealsMessageSpec)) sealsMessageUptoCard
end Rows
end Go.Proofs.YthadcgkcgpinhaaDoor
