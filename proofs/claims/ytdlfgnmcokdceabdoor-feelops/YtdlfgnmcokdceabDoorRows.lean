/-
  NARROWER THAN 'FOR EVERY INPUT', by the rows' own cells (each row's printed sentence says how): FeelOps: laid · FeelEnds: laid · FeelIns: laid.
  DERIVED. THE GIVEN ROWS OF THIS SEAT. 3 by the template 'for every input the law returns true; each argument reads behind the call as it read before'; 0 by the template 'total and deterministic' (their statements: YtdlfgnmcokdceabDoorTotals.lean).
  GIVEN WITH THE SEED: the statements are not yours to turn. If you find one false, say at which input.
  Laid BY PROGRAM, IN A SANDBOX (cutbox-rows.mjs): the forced cells as the released guide's own fill.sh prints them over the translation dd072a696ca9be8d… (all of the seat's roots in one cut). By AI agents, Wed Nov 11 2026. No macro, syntax, notation, axiom, sorry.
-/
import Derived.Test.YtdlfgnmcokdceabDoorChecked
import GoSem.Claim
import GoSem.ClaimJoined
import GoSem.ClaimMapViews
import Derived.JoinedTies
import Derived.KernelRfl
namespace Go.Proofs.YtdlfgnmcokdceabDoor
/- THE CELL 'sum', in the pinned program and in every row, IS THE sha256 OF THE DUMP (.gsa) THAT YtdlfgnmcokdceabDoorProg.lean LOADS. Nothing in Lean hashes anything: it is a label: what it is worth is what the hold of that sum in a sandbox is worth. -/
noncomputable def Tryd.pinned : Pinned := { name := "ytdlfgnmcokdceabdoor", sum := "dd072a696ca9be8d320a25e50db993eefe10a6ae2f182003f4d6dd92e958a396", checked := Tryd.checked }
namespace Rows
def none {H : Type} : Left H := { results := [], args := [] }

/- WHAT THE LISTED PACKAGE-LEVEL VARIABLES READ AS WHEN THE CALL BEGINS. Each datum BY PROGRAM (the guide's laid-datum.mjs) off the statement by which the dump's own 'gosem.cut.vars' lays the variable. In a bare row this is a premise. The card (YtdlfgnmcokdceabDoorCards.lean) ties it to the program's text. -/
def laid_dossier_lex_signs {H : Type} : DataW H := .agg [.lit (.string [60, 61]), .lit (.string [62, 61]), .lit (.string [33, 61]), .lit (.string [46, 46]), .lit (.string [60]), .lit (.string [62]), .lit (.string [61]), .lit (.string [43]), .lit (.string [45]), .lit (.string [42]), .lit (.string [47]), .lit (.string [40]), .lit (.string [41]), .lit (.string [91]), .lit (.string [93]), .lit (.string [44])]

/-- 'dossierlaw4.FeelOps': WHATEVER THE INPUT: true; the input reads as it did. -/
def feelOpsSpec : ChangeSpec := { name := "feelOps", fn := fun _ => fun
  | [d1, d2] => { results := [.lit (.bool true)], args := [d1, d2] }
  | _ => none }
def feelOpsRow : OpenClaim := { program := "ytdlfgnmcokdceabdoor", sum := "dd072a696ca9be8d320a25e50db993eefe10a6ae2f182003f4d6dd92e958a396", func := "dossier/dossierlaw4.FeelOps", spec := "feelOps", inPlace := ["internal/bytealg.IndexByteString", "internal/bytealg.IndexString"], unfollowed := true, recurses := true, named := ["dossier/lex.signs", "internal/bytealg.MaxLen"], apart := false, laid := [("dossier/lex.signs", laid_dossier_lex_signs)] }
def FeelOpsSaid : Prop := feelOpsRow.holds Tryd.pinned (OpenSpec.ofChange feelOpsSpec)

/-- ITS FALSE NEIGHBOUR: 'it returns false'. Refute it at one input. -/
def feelOpsWrong : ChangeSpec := { name := "feelOps", fn := fun _ => fun
  | [d1, d2] => { results := [.lit (.bool false)], args := [d1, d2] }
  | _ => none }
def FeelOpsWrongFalsely : Prop := feelOpsRow.holds Tryd.pinned (OpenSpec.ofChange feelOpsWrong)

/-- 'dossierlaw4.FeelEnds': WHATEVER THE INPUT: true; the input reads as it did. -/
def feelEndsSpec : ChangeSpec := { name := "feelEnds", fn := fun _ => fun
  | [d1, d2] => { results := [.lit (.bool true)], args := [d1, d2] }
  | _ => none }
def feelEndsRow : OpenClaim := { program := "ytdlfgnmcokdceabdoor", sum := "dd072a696ca9be8d320a25e50db993eefe10a6ae2f182003f4d6dd92e958a396", func := "dossier/dossierlaw4.FeelEnds", spec := "feelEnds", inPlace := ["internal/bytealg.IndexByteString", "internal/bytealg.IndexString"], unfollowed := true, recurses := true, named := ["dossier/lex.signs", "internal/bytealg.MaxLen"], apart := false, laid := [("dossier/lex.signs", laid_dossier_lex_signs)] }
def FeelEndsSaid : Prop := feelEndsRow.holds Tryd.pinned (OpenSpec.ofChange feelEndsSpec)

/-- ITS FALSE NEIGHBOUR: 'it returns false'. Refute it at one input. -/
def feelEndsWrong : ChangeSpec := { name := "feelEnds", fn := fun _ => fun
  | [d1, d2] => { results := [.lit (.bool false)], args := [d1, d2] }
  | _ => none }
def FeelEndsWrongFalsely : Prop := feelEndsRow.holds Tryd.pinned (OpenSpec.ofChange feelEndsWrong)

/-- 'dossierlaw4.FeelIns': WHATEVER THE INPUT: true; the input reads as it did. -/
def feelInsSpec : ChangeSpec := { name := "feelIns", fn := fun _ => fun
  | [d1, d2, d3] => { results := [.lit (.bool true)], args := [d1, d2, d3] }
  | _ => none }
def feelInsRow : OpenClaim := { program := "ytdlfgnmcokdceabdoor", sum := "dd072a696ca9be8d320a25e50db993eefe10a6ae2f182003f4d6dd92e958a396", func := "dossier/dossierlaw4.FeelIns", spec := "feelIns", inPlace := ["internal/bytealg.IndexByteString", "internal/bytealg.IndexString"], unfollowed := true, recurses := true, named := ["dossier/lex.signs", "internal/bytealg.MaxLen"], apart := false, laid := [("dossier/lex.signs", laid_dossier_lex_signs)] }
def FeelInsSaid : Prop := feelInsRow.holds Tryd.pinned (OpenSpec.ofChange feelInsSpec)

/-- ITS FALSE NEIGHBOUR: 'it returns false'. Refute it at one input. -/
def feelInsWrong : ChangeSpec := { name := "feelIns", fn := fun _ => fun
  | [d1, d2, d3] => { results := [.lit (.bool false)], args := [d1, d2, d3] }
  | _ => none }
def FeelInsWrongFalsely : Prop := feelInsRow.holds Tryd.pinned (OpenSpec.ofChange feelInsWrong)

/- THE SECOND FORM. 'bulk': how many values and letters a reading holds, each counted each time it is reached (what is shared counts as often as it is met; a slice's spare places count too). A statement '..UptoSaid' is the law's where the arguments, and the package variables that the reading takes, are together of bulk at most 1048576: NARROWER than '..Said'. Prove '..Said' where nothing that the law and all that it calls make is longer than what came in: it says more and counts as full. Else prove '..UptoSaid'. A law counts once. -/
mutual
def uptoBulk {H : Type} : DataW H → Nat
  | .lit (.string bytes) => bytes.length + 1
  | .lit _ => 1
  | .nil => 1
  | .ptr d => uptoBulk d + 1
  | .slice elems spare => uptoBulkAll elems + uptoBulkAll spare + 1
  | .agg parts => uptoBulkAll parts + 1
  | .iface _ d => uptoBulk d + 1
  | .map entries => uptoBulkEntries entries + 1
  | .held _ => 1
def uptoBulkAll {H : Type} : List (DataW H) → Nat
  | [] => 0
  | d :: r => uptoBulk d + uptoBulkAll r
def uptoBulkEntries {H : Type} : List (Lit × DataW H) → Nat
  | [] => 0
  | x :: r => uptoBulkEntry x + uptoBulkEntries r
def uptoBulkEntry {H : Type} : Lit × DataW H → Nat
  | (.string bytes, d) => bytes.length + uptoBulk d + 1
  | (_, d) => uptoBulk d + 1
 end
def uptoSmall : (H : Type) → List (DataW H) → Bool := fun _ ds => decide (uptoBulkAll ds ≤ 1048576)
def OpenSpec.upto (s : _root_.Go.ChangeSpec) : _root_.Go.OpenSpec := { _root_.Go.OpenSpec.ofChange s with cond := some uptoSmall }

/-- 'dossierlaw4.FeelOps', WHERE WHAT IT READS IS OF BULK AT MOST 1048576: true; the input reads as it did. -/
def feelOpsUptoRow : OpenClaim := { program := "ytdlfgnmcokdceabdoor", sum := "dd072a696ca9be8d320a25e50db993eefe10a6ae2f182003f4d6dd92e958a396", func := "dossier/dossierlaw4.FeelOps", spec := "feelOps", inPlace := ["internal/bytealg.IndexByteString", "internal/bytealg.IndexString"], unfollowed := true, recurses := true, named := ["dossier/lex.signs", "internal/bytealg.MaxLen"], apart := false, laid := [("dossier/lex.signs", laid_dossier_lex_signs)], narrowed := true }
def FeelOpsUptoSaid : Prop := feelOpsUptoRow.holds Tryd.pinned (OpenSpec.upto feelOpsSpec)

/-- 'dossierlaw4.FeelEnds', WHERE WHAT IT READS IS OF BULK AT MOST 1048576: true; the input reads as it did. -/
def feelEndsUptoRow : OpenClaim := { program := "ytdlfgnmcokdceabdoor", sum := "dd072a696ca9be8d320a25e50db993eefe10a6ae2f182003f4d6dd92e958a396", func := "dossier/dossierlaw4.FeelEnds", spec := "feelEnds", inPlace := ["internal/bytealg.IndexByteString", "internal/bytealg.IndexString"], unfollowed := true, recurses := true, named := ["dossier/lex.signs", "internal/bytealg.MaxLen"], apart := false, laid := [("dossier/lex.signs", laid_dossier_lex_signs)], narrowed := true }
def FeelEndsUptoSaid : Prop := feelEndsUptoRow.holds Tryd.pinned (OpenSpec.upto feelEndsSpec)

/-- 'dossierlaw4.FeelIns', WHERE WHAT IT READS IS OF BULK AT MOST 1048576: true; the input reads as it did. -/
def feelInsUptoRow : OpenClaim := { program := "ytdlfgnmcokdceabdoor", sum := "dd072a696ca9be8d320a25e50db993eefe10a6ae2f182003f4d6dd92e958a396", func := "dossier/dossierlaw4.FeelIns", spec := "feelIns", inPlace := ["internal/bytealg.IndexByteString", "internal/bytealg.IndexString"], unfollowed := true, recurses := true, named := ["dossier/lex.signs", "internal/bytealg.MaxLen"], apart := false, laid := [("dossier/lex.signs", laid_dossier_lex_signs)], narrowed := true }
def FeelInsUptoSaid : Prop := feelInsUptoRow.holds Tryd.pinned (OpenSpec.upto feelInsSpec)

end Rows
end Go.Proofs.YtdlfgnmcokdceabDoor
