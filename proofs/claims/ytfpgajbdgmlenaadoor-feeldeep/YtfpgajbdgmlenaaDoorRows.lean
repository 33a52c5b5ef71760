/-
  NARROWER THAN 'FOR EVERY INPUT', by the rows' own cells (each row's printed sentence says how): FeelParses: laid · FeelTakes: laid · FeelSame: loops, laid · FeelOps: laid · FeelDeep: laid · FeelEnds: laid.
  DERIVED. THE GIVEN ROWS OF THIS SEAT. 6 by the template 'for every input the law returns true; each argument reads behind the call as it read before'; 0 by the template 'total and deterministic' (their statements: YtfpgajbdgmlenaaDoorTotals.lean).
  GIVEN WITH THE SEED: the statements are not yours to turn. If you find one false, say at which input.
  Laid BY PROGRAM, IN A SANDBOX (cutbox-rows.mjs): the forced cells as the released guide's own fill.sh prints them over the translation da451b45e8881d7e… (all of the seat's roots in one cut). By AI agents, Wed Nov 11 2026. No macro, syntax, notation, axiom, sorry.
-/
import Derived.Test.YtfpgajbdgmlenaaDoorChecked
import GoSem.Claim
import GoSem.ClaimJoined
import GoSem.ClaimMapViews
import Derived.JoinedTies
import Derived.KernelRfl
namespace Go.Proofs.YtfpgajbdgmlenaaDoor
/- THE CELL 'sum', in the pinned program and in every row, IS THE sha256 OF THE DUMP (.gsa) THAT YtfpgajbdgmlenaaDoorProg.lean LOADS. Nothing in Lean hashes anything: it is a label: what it is worth is what the hold of that sum in a sandbox is worth. -/
noncomputable def Tryd.pinned : Pinned := { name := "ytfpgajbdgmlenaadoor", sum := "da451b45e8881d7e1a2deded96d5e7a64fc431803f9cbd151549b7f1e66bc399", checked := Tryd.checked }
namespace Rows
def none {H : Type} : Left H := { results := [], args := [] }

/- WHAT THE LISTED PACKAGE-LEVEL VARIABLES READ AS WHEN THE CALL BEGINS. Each datum BY PROGRAM (the guide's laid-datum.mjs) off the statement by which the dump's own 'gosem.cut.vars' lays the variable. In a bare row this is a premise. The card (YtfpgajbdgmlenaaDoorCards.lean) ties it to the program's text. -/
def laid_dossier_lex_signs {H : Type} : DataW H := .agg [.lit (.string [60, 61]), .lit (.string [62, 61]), .lit (.string [33, 61]), .lit (.string [46, 46]), .lit (.string [60]), .lit (.string [62]), .lit (.string [61]), .lit (.string [43]), .lit (.string [45]), .lit (.string [42]), .lit (.string [47]), .lit (.string [40]), .lit (.string [41]), .lit (.string [91]), .lit (.string [93]), .lit (.string [44])]

/-- 'dossierlaw4.FeelParses': WHATEVER THE INPUT: true; the input reads as it did. -/
def feelParsesSpec : ChangeSpec := { name := "feelParses", fn := fun _ => fun
  | [d] => { results := [.lit (.bool true)], args := [d] }
  | _ => none }
def feelParsesRow : OpenClaim := { program := "ytfpgajbdgmlenaadoor", sum := "da451b45e8881d7e1a2deded96d5e7a64fc431803f9cbd151549b7f1e66bc399", func := "dossier/dossierlaw4.FeelParses", spec := "feelParses", inPlace := ["internal/bytealg.IndexByteString", "internal/bytealg.IndexString"], unfollowed := true, recurses := true, named := ["dossier/lex.signs", "internal/bytealg.MaxLen"], apart := false, laid := [("dossier/lex.signs", laid_dossier_lex_signs)] }
def FeelParsesSaid : Prop := feelParsesRow.holds Tryd.pinned (OpenSpec.ofChange feelParsesSpec)

/-- ITS FALSE NEIGHBOUR: 'it returns false'. Refute it at one input. -/
def feelParsesWrong : ChangeSpec := { name := "feelParses", fn := fun _ => fun
  | [d] => { results := [.lit (.bool false)], args := [d] }
  | _ => none }
def FeelParsesWrongFalsely : Prop := feelParsesRow.holds Tryd.pinned (OpenSpec.ofChange feelParsesWrong)

/-- 'dossierlaw4.FeelTakes': WHATEVER THE INPUT: true; the input reads as it did. -/
def feelTakesSpec : ChangeSpec := { name := "feelTakes", fn := fun _ => fun
  | [d1, d2, d3] => { results := [.lit (.bool true)], args := [d1, d2, d3] }
  | _ => none }
def feelTakesRow : OpenClaim := { program := "ytfpgajbdgmlenaadoor", sum := "da451b45e8881d7e1a2deded96d5e7a64fc431803f9cbd151549b7f1e66bc399", func := "dossier/dossierlaw4.FeelTakes", spec := "feelTakes", inPlace := ["internal/bytealg.IndexByteString", "internal/bytealg.IndexString"], unfollowed := true, recurses := true, named := ["dossier/lex.signs", "internal/bytealg.MaxLen"], apart := false, laid := [("dossier/lex.signs", laid_dossier_lex_signs)] }
def FeelTakesSaid : Prop := feelTakesRow.holds Tryd.pinned (OpenSpec.ofChange feelTakesSpec)

/-- ITS FALSE NEIGHBOUR: 'it returns false'. Refute it at one input. -/
def feelTakesWrong : ChangeSpec := { name := "feelTakes", fn := fun _ => fun
  | [d1, d2, d3] => { results := [.lit (.bool false)], args := [d1, d2, d3] }
  | _ => none }
def FeelTakesWrongFalsely : Prop := feelTakesRow.holds Tryd.pinned (OpenSpec.ofChange feelTakesWrong)

/-- 'dossierlaw4.FeelSame': WHATEVER THE INPUT: true; the input reads as it did. -/
def feelSameSpec : ChangeSpec := { name := "feelSame", fn := fun _ => fun
  | [d1, d2] => { results := [.lit (.bool true)], args := [d1, d2] }
  | _ => none }
def feelSameRow : OpenClaim := { program := "ytfpgajbdgmlenaadoor", sum := "da451b45e8881d7e1a2deded96d5e7a64fc431803f9cbd151549b7f1e66bc399", func := "dossier/dossierlaw4.FeelSame", spec := "feelSame", inPlace := ["internal/bytealg.IndexByteString", "internal/bytealg.IndexString"], unfollowed := true, recurses := true, named := ["dossier/lex.signs", "internal/bytealg.MaxLen"], loops := true, apart := false, laid := [("dossier/lex.signs", laid_dossier_lex_signs)] }
def FeelSameSaid : Prop := feelSameRow.holds Tryd.pinned (OpenSpec.ofChange feelSameSpec)

/-- ITS FALSE NEIGHBOUR: 'it returns false'. Refute it at one input. -/
def feelSameWrong : ChangeSpec := { name := "feelSame", fn := fun _ => fun
  | [d1, d2] => { results := [.lit (.bool false)], args := [d1, d2] }
  | _ => none }
def FeelSameWrongFalsely : Prop := feelSameRow.holds Tryd.pinned (OpenSpec.ofChange feelSameWrong)

/-- 'dossierlaw4.FeelOps': WHATEVER THE INPUT: true; the input reads as it did. -/
def feelOpsSpec : ChangeSpec := { name := "feelOps", fn := fun _ => fun
  | [d1, d2] => { results := [.lit (.bool true)], args := [d1, d2] }
  | _ => none }
def feelOpsRow : OpenClaim := { program := "ytfpgajbdgmlenaadoor", sum := "da451b45e8881d7e1a2deded96d5e7a64fc431803f9cbd151549b7f1e66bc399", func := "dossier/dossierlaw4.FeelOps", spec := "feelOps", inPlace := ["internal/bytealg.IndexByteString", "internal/bytealg.IndexString"], unfollowed := true, recurses := true, named := ["dossier/lex.signs", "internal/bytealg.MaxLen"], apart := false, laid := [("dossier/lex.signs", laid_dossier_lex_signs)] }
def FeelOpsSaid : Prop := feelOpsRow.holds Tryd.pinned (OpenSpec.ofChange feelOpsSpec)

/-- ITS FALSE NEIGHBOUR: 'it returns false'. Refute it at one input. -/
def feelOpsWrong : ChangeSpec := { name := "feelOps", fn := fun _ => fun
  | [d1, d2] => { results := [.lit (.bool false)], args := [d1, d2] }
  | _ => none }
def FeelOpsWrongFalsely : Prop := feelOpsRow.holds Tryd.pinned (OpenSpec.ofChange feelOpsWrong)

/-- 'dossierlaw4.FeelDeep': WHATEVER THE INPUT: true; the input reads as it did. -/
def feelDeepSpec : ChangeSpec := { name := "feelDeep", fn := fun _ => fun
  | [d1, d2] => { results := [.lit (.bool true)], args := [d1, d2] }
  | _ => none }
def feelDeepRow : OpenClaim := { program := "ytfpgajbdgmlenaadoor", sum := "da451b45e8881d7e1a2deded96d5e7a64fc431803f9cbd151549b7f1e66bc399", func := "dossier/dossierlaw4.FeelDeep", spec := "feelDeep", inPlace := ["internal/bytealg.IndexByteString", "internal/bytealg.IndexString"], unfollowed := true, recurses := true, named := ["dossier/lex.signs", "internal/bytealg.MaxLen"], apart := false, laid := [("dossier/lex.signs", laid_dossier_lex_signs)] }
def FeelDeepSaid : Prop := feelDeepRow.holds Tryd.pinned (OpenSpec.ofChange feelDeepSpec)

/-- ITS FALSE NEIGHBOUR: 'it returns false'. Refute it at one input. -/
def feelDeepWrong : ChangeSpec := { name := "feelDeep", fn := fun _ => fun
  | [d1, d2] => { results := [.lit (.bool false)], args := [d1, d2] }
  | _ => none }
def FeelDeepWrongFalsely : Prop := feelDeepRow.holds Tryd.pinned (OpenSpec.ofChange feelDeepWrong)

/-- 'dossierlaw4.FeelEnds': WHATEVER THE INPUT: true; the input reads as it did. -/
def feelEndsSpec : ChangeSpec := { name := "feelEnds", fn := fun _ => fun
  | [d1, d2] => { results := [.lit (.bool true)], args := [d1, d2] }
  | _ => none }
def feelEndsRow : OpenClaim := { program := "ytfpgajbdgmlenaadoor", sum := "da451b45e8881d7e1a2deded96d5e7a64fc431803f9cbd151549b7f1e66bc399", func := "dossier/dossierlaw4.FeelEnds", spec := "feelEnds", inPlace := ["internal/bytealg.IndexByteString", "internal/bytealg.IndexString"], unfollowed := true, recurses := true, named := ["dossier/lex.signs", "internal/bytealg.MaxLen"], apart := false, laid := [("dossier/lex.signs", laid_dossier_lex_signs)] }
def FeelEndsSaid : Prop := feelEndsRow.holds Tryd.pinned (OpenSpec.ofChange feelEndsSpec)

/-- ITS FALSE NEIGHBOUR: 'it returns false'. Refute it at one input. -/
def feelEndsWrong : ChangeSpec := { name := "feelEnds", fn := fun _ => fun
  | [d1, d2] => { results := [.lit (.bool false)], args := [d1, d2] }
  | _ => none }
def FeelEndsWrongFalsely : Prop := feelEndsRow.holds Tryd.pinned (OpenSpec.ofChange feelEndsWrong)

/- THE SECOND FORM. 'bulk': how many values and letters a reading holds, each counted each time it is reached (what is shared counts as often as it is met; a slice's spare places count too). A statement '..UptoSaid' is the law's where the arguments, and the package variables that the reading takes, are together of bulk at most 1048576: NARROWER than '..Said'. Prove '..Said' where nothing that the law and all that it calls make is longer than what came in: it says more and counts as full. Else prove '..UptoSaid'. A law counts once. -/
mutual
def uptoBulk {H : Type} : DataW H → Nat
  | .lit (.string bytes) => bytes.length + 1
  | .lit _ => 1
  | .nil => 1
  | .ptr d => uptoBulk d + 1
  | .slice elems spare => uptoBulkAll elems + uptoBulkAll spare + 1
  | .agg parts => uptoBulkAll parts + 1
  | .iface _ d => uptoBulk d + 1
  | .map entries => uptoBulkEntries entries + 1
  | .held _ => 1
def uptoBulkAll {H : Type} : List (DataW H) → Nat
  | [] => 0
  | d :: r => uptoBulk d + uptoBulkAll r
def uptoBulkEntries {H : Type} : List (Lit × DataW H) → Nat
  | [] => 0
  | x :: r => uptoBulkEntry x + uptoBulkEntries r
def uptoBulkEntry {H : Type} : Lit × DataW H → Nat
  | (.string bytes, d) => bytes.length + uptoBulk d + 1
  | (_, d) => uptoBulk d + 1
 end
def uptoSmall : (H : Type) → List (DataW H) → Bool := fun _ ds => decide (uptoBulkAll ds ≤ 1048576)
def OpenSpec.upto (s : _root_.Go.ChangeSpec) : _root_.Go.OpenSpec := { _root_.Go.OpenSpec.ofChange s with cond := some uptoSmall }

/-- 'dossierlaw4.FeelParses', WHERE WHAT IT READS IS OF BULK AT MOST 1048576: true; the input reads as it did. -/
def feelParsesUptoRow : OpenClaim := { program := "ytfpgajbdgmlenaadoor", sum := "da451b45e8881d7e1a2deded96d5e7a64fc431803f9cbd151549b7f1e66bc399", func := "dossier/dossierlaw4.FeelParses", spec := "feelParses", inPlace := ["internal/bytealg.IndexByteString", "internal/bytealg.IndexString"], unfollowed := true, recurses := true, named := ["dossier/lex.signs", "internal/bytealg.MaxLen"], apart := false, laid := [("dossier/lex.signs", laid_dossier_lex_signs)], narrowed := true }
def FeelParsesUptoSaid : Prop := feelParsesUptoRow.holds Tryd.pinned (OpenSpec.upto feelParsesSpec)

/-- 'dossierlaw4.FeelTakes', WHERE WHAT IT READS IS OF BULK AT MOST 1048576: true; the input reads as it did. -/
def feelTakesUptoRow : OpenClaim := { program := "ytfpgajbdgmlenaadoor", sum := "da451b45e8881d7e1a2deded96d5e7a64fc431803f9cbd151549b7f1e66bc399", func := "dossier/dossierlaw4.FeelTakes", spec := "feelTakes", inPlace := ["internal/bytealg.IndexByteString", "internal/bytealg.IndexString"], unfollowed := true, recurses := true, named := ["dossier/lex.signs", "internal/bytealg.MaxLen"], apart := false, laid := [("dossier/lex.signs", laid_dossier_lex_signs)], narrowed := true }
def FeelTakesUptoSaid : Prop := feelTakesUptoRow.holds Tryd.pinned (OpenSpec.upto feelTakesSpec)

/-- 'dossierlaw4.FeelSame', WHERE WHAT IT READS IS OF BULK AT MOST 1048576: true; the input reads as it did. -/
def feelSameUptoRow : OpenClaim := { program := "ytfpgajbdgmlenaadoor", sum := "da451b45e8881d7e1a2deded96d5e7a64fc431803f9cbd151549b7f1e66bc399", func := "dossier/dossierlaw4.FeelSame", spec := "feelSame", inPlace := ["internal/bytealg.IndexByteString", "internal/bytealg.IndexString"], unfollowed := true, recurses := true, named := ["dossier/lex.signs", "internal/bytealg.MaxLen"], loops := true, apart := false, laid := [("dossier/lex.signs", laid_dossier_lex_signs)], narrowed := true }
def FeelSameUptoSaid : Prop := feelSameUptoRow.holds Tryd.pinned (OpenSpec.upto feelSameSpec)

/-- 'dossierlaw4.FeelOps', WHERE WHAT IT READS IS OF BULK AT MOST 1048576: true; the input reads as it did. -/
def feelOpsUptoRow : OpenClaim := { program := "ytfpgajbdgmlenaadoor", sum := "da451b45e8881d7e1a2deded96d5e7a64fc431803f9cbd151549b7f1e66bc399", func := "dossier/dossierlaw4.FeelOps", spec := "feelOps", inPlace := ["internal/bytealg.IndexByteString", "internal/bytealg.IndexString"], unfollowed := true, recurses := true, named := ["dossier/lex.signs", "internal/bytealg.MaxLen"], apart := false, laid := [("dossier/lex.signs", laid_dossier_lex_signs)], narrowed := true }
def FeelOpsUptoSaid : Prop := feelOpsUptoRow.holds Tryd.pinned (OpenSpec.upto feelOpsSpec)

/-- 'dossierlaw4.FeelDeep', WHERE WHAT IT READS IS OF BULK AT MOST 1048576: true; the input reads as it did. -/
def feelDeepUptoRow : OpenClaim := { program := "ytfpgajbdgmlenaadoor", sum := "da451b45e8881d7e1a2deded96d5e7a64fc431803f9cbd151549b7f1e66bc399", func := "dossier/dossierlaw4.FeelDeep", spec := "feelDeep", inPlace := ["internal/bytealg.IndexByteString", "internal/bytealg.IndexString"], unfollowed := true, recurses := true, named := ["dossier/lex.signs", "internal/bytealg.MaxLen"], apart := false, laid := [("dossier/lex.signs", laid_dossier_lex_signs)], narrowed := true }
def FeelDeepUptoSaid : Prop := feelDeepUptoRow.holds Tryd.pinned (OpenSpec.upto feelDeepSpec)

/-- 'dossierlaw4.FeelEnds', WHERE WHAT IT READS IS OF BULK AT MOST 1048576: true; the input reads as it did. -/
def feelEndsUptoRow : OpenClaim := { program := "ytfpgajbdgmlenaadoor", sum := "da451b45e8881d7e1a2deded96d5e7a64fc431803f9cbd151549b7f1e66bc399", func := "dossier/dossierlaw4.FeelEnds", spec := "feelEnds", inPlace := ["internal/bytealg.IndexByteString", "internal/bytealg.IndexString"], unfollowed := true, recurses := true, named := ["dossier/lex.signs", "internal/bytealg.MaxLen"], apart := false, laid := [("dossier/lex.signs", laid_dossier_lex_signs)], narrowed := true }
def FeelEndsUptoSaid : Prop := feelEndsUptoRow.holds Tryd.pinned (OpenSpec.upto feelEndsSpec)

end Rows
end Go.Proofs.YtfpgajbdgmlenaaDoor
