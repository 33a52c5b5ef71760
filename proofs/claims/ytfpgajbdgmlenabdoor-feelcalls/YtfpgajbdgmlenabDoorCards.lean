/-
  DERIVED. GIVEN WITH THE SEED: THE CARDS: each row of YtfpgajbdgmlenabDoorRows.lean that lists a variable, with what it lists TIED to the program's text (the seventh form; the later family's looks); each row that meets fmt, with fmt's text TOLD by the authors' own Lean function (tested against real Go, not proved from fmt's source: count such statements apart). THE CARD IS WHAT COUNTS. Prove the row's statement (the work); the ties are given (YtfpgajbdgmlenabDoorTie.lean); close each card by the builder's one call (the guide's Derived/Test/ToyasCard.lean, 'card_holds'). Laid BY PROGRAM, IN A SANDBOX (cutbox-door.mjs). By AI agents, Wed Nov 11 2026. No macro, syntax, notation, axiom, sorry.
-/
import Derived.Test.YtfpgajbdgmlenabDoorRows
import GoSem.ClaimSeven
namespace Go.Proofs.YtfpgajbdgmlenabDoor
namespace Rows

/-- THE TIED CARD OF 'dossierlaw4.FeelCalls'. -/
def feelCallsCard : Claim7 := { stood := { row := feelCallsRow, standIns := [], harness := (true, "e6d44e22f673af6062d4c59c3f28ae5be5982917e7b0e47bebaf75ae8a48a4bf"), looks := false }, kinds := [], alts := [], laidByText := true, laidKinds := [.data], laidTests := true, laidLooks := .later }
def FeelCallsCardSaid : Prop := Claim7.holds Tryd.pinned (.plain (OpenSpec.ofChange feelCallsSpec)) feelCallsCard

/-- THE TIED CARD OF 'dossierlaw4.FeelIns'. -/
def feelInsCard : Claim7 := { stood := { row := feelInsRow, standIns := [], harness := (true, "e6d44e22f673af6062d4c59c3f28ae5be5982917e7b0e47bebaf75ae8a48a4bf"), looks := false }, kinds := [], alts := [], laidByText := true, laidKinds := [.data], laidTests := true, laidLooks := .later }
def FeelInsCardSaid : Prop := Claim7.holds Tryd.pinned (.plain (OpenSpec.ofChange feelInsSpec)) feelInsCard

/-- THE SECOND FORM's CARD OF 'dossierlaw4.FeelCalls'. -/
def feelCallsUptoCard : Claim7 := { stood := { row := feelCallsUptoRow, standIns := [], harness := (true, "e6d44e22f673af6062d4c59c3f28ae5be5982917e7b0e47bebaf75ae8a48a4bf"), looks := false }, kinds := [], alts := [], laidByText := true, laidKinds := [.data], laidTests := true, laidLooks := .later }
def FeelCallsUptoCardSaid : Prop := Claim7.holds Tryd.pinned (.plain (OpenSpec.upto feelCallsSpec)) feelCallsUptoCard

/-- THE SECOND FORM's CARD OF 'dossierlaw4.FeelIns'. -/
def feelInsUptoCard : Claim7 := { stood := { row := feelInsUptoRow, standIns := [], harness := (true, "e6d44e22f673af6062d4c59c3f28ae5be5982917e7b0e47bebaf75ae8a48a4bf"), looks := false }, kinds := [], alts := [], laidByText := true, laidKinds := [.data], laidTests := true, laidLooks := .later }
def FeelInsUptoCardSaid : Prop := Claim7.holds Tryd.pinned (.plain (OpenSpec.upto feelInsSpec)) feelInsUptoCard
end Rows
end Go.Proofs.YtfpgajbdgmlenabDoor
