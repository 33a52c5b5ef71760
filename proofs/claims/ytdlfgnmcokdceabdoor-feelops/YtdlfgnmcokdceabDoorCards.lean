/-
  DERIVED. GIVEN WITH THE SEED: THE CARDS: each row of YtdlfgnmcokdceabDoorRows.lean that lists a variable, with what it lists TIED to the program's text (the seventh form; the later family's looks); each row that meets fmt, with fmt's text TOLD by the authors' own Lean function (tested against real Go, not proved from fmt's source: count such statements apart). THE CARD IS WHAT COUNTS. Prove the row's statement (the work); the ties are given (YtdlfgnmcokdceabDoorTie.lean); close each card by the builder's one call (the guide's Derived/Test/ToyasCard.lean, 'card_holds'). Laid BY PROGRAM, IN A SANDBOX (cutbox-door.mjs). By AI agents, Wed Nov 11 2026. No macro, syntax, notation, axiom, sorry.
-/
import Derived.Test.YtdlfgnmcokdceabDoorRows
import GoSem.ClaimSeven
namespace Go.Proofs.YtdlfgnmcokdceabDoor
namespace Rows

/-- THE TIED CARD OF 'dossierlaw4.FeelOps'. -/
def feelOpsCard : Claim7 := { stood := { row := feelOpsRow, standIns := [], harness := (true, "ea466c44a55867283bc6910c6a4522387ce98adb9ed0ed1405165415e1516ea8"), looks := false }, kinds := [], alts := [], laidByText := true, laidKinds := [.data], laidTests := true, laidLooks := .later }
def FeelOpsCardSaid : Prop := Claim7.holds Tryd.pinned (.plain (OpenSpec.ofChange feelOpsSpec)) feelOpsCard

/-- THE TIED CARD OF 'dossierlaw4.FeelEnds'. -/
def feelEndsCard : Claim7 := { stood := { row := feelEndsRow, standIns := [], harness := (true, "ea466c44a55867283bc6910c6a4522387ce98adb9ed0ed1405165415e1516ea8"), looks := false }, kinds := [], alts := [], laidByText := true, laidKinds := [.data], laidTests := true, laidLooks := .later }
def FeelEndsCardSaid : Prop := Claim7.holds Tryd.pinned (.plain (OpenSpec.ofChange feelEndsSpec)) feelEndsCard

/-- THE TIED CARD OF 'dossierlaw4.FeelIns'. -/
def feelInsCard : Claim7 := { stood := { row := feelInsRow, standIns := [], harness := (true, "ea466c44a55867283bc6910c6a4522387ce98adb9ed0ed1405165415e1516ea8"), looks := false }, kinds := [], alts := [], laidByText := true, laidKinds := [.data], laidTests := true, laidLooks := .later }
def FeelInsCardSaid : Prop := Claim7.holds Tryd.pinned (.plain (OpenSpec.ofChange feelInsSpec)) feelInsCard

/-- THE SECOND FORM's CARD OF 'dossierlaw4.FeelOps'. -/
def feelOpsUptoCard : Claim7 := { stood := { row := feelOpsUptoRow, standIns := [], harness := (true, "ea466c44a55867283bc6910c6a4522387ce98adb9ed0ed1405165415e1516ea8"), looks := false }, kinds := [], alts := [], laidByText := true, laidKinds := [.data], laidTests := true, laidLooks := .later }
def FeelOpsUptoCardSaid : Prop := Claim7.holds Tryd.pinned (.plain (OpenSpec.upto feelOpsSpec)) feelOpsUptoCard

/-- THE SECOND FORM's CARD OF 'dossierlaw4.FeelEnds'. -/
def feelEndsUptoCard : Claim7 := { stood := { row := feelEndsUptoRow, standIns := [], harness := (true, "ea466c44a55867283bc6910c6a4522387ce98adb9ed0ed1405165415e1516ea8"), looks := false }, kinds := [], alts := [], laidByText := true, laidKinds := [.data], laidTests := true, laidLooks := .later }
def FeelEndsUptoCardSaid : Prop := Claim7.holds Tryd.pinned (.plain (OpenSpec.upto feelEndsSpec)) feelEndsUptoCard

/-- THE SECOND FORM's CARD OF 'dossierlaw4.FeelIns'. -/
def feelInsUptoCard : Claim7 := { stood := { row := feelInsUptoRow, standIns := [], harness := (true, "ea466c44a55867283bc6910c6a4522387ce98adb9ed0ed1405165415e1516ea8"), looks := false }, kinds := [], alts := [], laidByText := true, laidKinds := [.data], laidTests := true, laidLooks := .later }
def FeelInsUptoCardSaid : Prop := Claim7.holds Tryd.pinned (.plain (OpenSpec.upto feelInsSpec)) feelInsUptoCard
end Rows
end Go.Proofs.YtdlfgnmcokdceabDoor
