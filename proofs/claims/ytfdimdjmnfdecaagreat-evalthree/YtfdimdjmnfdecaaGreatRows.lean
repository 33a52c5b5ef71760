/-
  NARROWER THAN 'FOR EVERY INPUT', by the rows' own cells (each row's printed sentence says how): EvalTells: loops · EvalTexts: loops · EvalRels: loops.
  DERIVED. THE GIVEN ROWS OF THIS SEAT. 6 by the template 'for every input the law returns true; each argument reads behind the call as it read before'; 0 by the template 'total and deterministic' (their statements: YtfdimdjmnfdecaaGreatTotals.lean).
  GIVEN WITH THE SEED: the statements are not yours to turn. If you find one false, say at which input.
  Laid BY PROGRAM, IN A SANDBOX (cutbox-rows.mjs): the forced cells as the released guide's own fill.sh prints them over the translation 192f5d94d34ad286… (all of the seat's roots in one cut). By AI agents, Wed Nov 11 2026. No macro, syntax, notation, axiom, sorry.
-/
import Derived.Test.YtfdimdjmnfdecaaGreatChecked
import GoSem.Claim
import GoSem.ClaimJoined
import GoSem.ClaimMapViews
import Derived.JoinedTies
import Derived.KernelRfl
namespace Go.Proofs.YtfdimdjmnfdecaaGreat
/- THE CELL 'sum', in the pinned program and in every row, IS THE sha256 OF THE DUMP (.gsa) THAT YtfdimdjmnfdecaaGreatProg.lean LOADS. Nothing in Lean hashes anything: it is a label: what it is worth is what the hold of that sum in a sandbox is worth. -/
noncomputable def Tryz.pinned : Pinned := { name := "ytfdimdjmnfdecaagreat", sum := "192f5d94d34ad2866496d92990b91943d449e5f079b787052584d847ea5822f6", checked := Tryz.checked }
namespace Rows
def none {H : Type} : Left H := { results := [], args := [] }

/-- 'dossierlaw6.EvalTells': WHATEVER THE INPUT: true; the input reads as it did. -/
def evalTellsSpec : ChangeSpec := { name := "evalTells", fn := fun _ => fun
  | [d1, d2] => { results := [.lit (.bool true)], args := [d1, d2] }
  | _ => none }
def evalTellsRow : OpenClaim := { program := "ytfdimdjmnfdecaagreat", sum := "192f5d94d34ad2866496d92990b91943d449e5f079b787052584d847ea5822f6", func := "dossier/dossierlaw6.EvalTells", spec := "evalTells", inPlace := ["internal/abi.NoEscape", "internal/bytealg.abigen_runtime_cmpstring"], unfollowed := true, recurses := true, loops := true, apart := false }
def EvalTellsSaid : Prop := evalTellsRow.holds Tryz.pinned (OpenSpec.ofChange evalTellsSpec)

/-- ITS FALSE NEIGHBOUR: 'it returns false'. Refute it at one input. -/
def evalTellsWrong : ChangeSpec := { name := "evalTells", fn := fun _ => fun
  | [d1, d2] => { results := [.lit (.bool false)], args := [d1, d2] }
  | _ => none }
def EvalTellsWrongFalsely : Prop := evalTellsRow.holds Tryz.pinned (OpenSpec.ofChange evalTellsWrong)

/-- 'dossierlaw6.EvalTexts': WHATEVER THE INPUT: true; the input reads as it did. -/
def evalTextsSpec : ChangeSpec := { name := "evalTexts", fn := fun _ => fun
  | [d1, d2] => { results := [.lit (.bool true)], args := [d1, d2] }
  | _ => none }
def evalTextsRow : OpenClaim := { program := "ytfdimdjmnfdecaagreat", sum := "192f5d94d34ad2866496d92990b91943d449e5f079b787052584d847ea5822f6", func := "dossier/dossierlaw6.EvalTexts", spec := "evalTexts", inPlace := ["internal/abi.NoEscape", "internal/bytealg.abigen_runtime_cmpstring"], unfollowed := true, recurses := true, loops := true, apart := false }
def EvalTextsSaid : Prop := evalTextsRow.holds Tryz.pinned (OpenSpec.ofChange evalTextsSpec)

/-- ITS FALSE NEIGHBOUR: 'it returns false'. Refute it at one input. -/
def evalTextsWrong : ChangeSpec := { name := "evalTexts", fn := fun _ => fun
  | [d1, d2] => { results := [.lit (.bool false)], args := [d1, d2] }
  | _ => none }
def EvalTextsWrongFalsely : Prop := evalTextsRow.holds Tryz.pinned (OpenSpec.ofChange evalTextsWrong)

/-- 'dossierlaw6.EvalLists': WHATEVER THE INPUT: true; the input reads as it did. -/
def evalListsSpec : ChangeSpec := { name := "evalLists", fn := fun _ => fun
  | [d1, d2] => { results := [.lit (.bool true)], args := [d1, d2] }
  | _ => none }
def evalListsRow : OpenClaim := { program := "ytfdimdjmnfdecaagreat", sum := "192f5d94d34ad2866496d92990b91943d449e5f079b787052584d847ea5822f6", func := "dossier/dossierlaw6.EvalLists", spec := "evalLists", inPlace := ["internal/abi.NoEscape", "internal/bytealg.abigen_runtime_cmpstring"], unfollowed := true, recurses := true, apart := false }
def EvalListsSaid : Prop := evalListsRow.holds Tryz.pinned (OpenSpec.ofChange evalListsSpec)

/-- ITS FALSE NEIGHBOUR: 'it returns false'. Refute it at one input. -/
def evalListsWrong : ChangeSpec := { name := "evalLists", fn := fun _ => fun
  | [d1, d2] => { results := [.lit (.bool false)], args := [d1, d2] }
  | _ => none }
def EvalListsWrongFalsely : Prop := evalListsRow.holds Tryz.pinned (OpenSpec.ofChange evalListsWrong)

/-- 'dossierlaw6.EvalRels': WHATEVER THE INPUT: true; the input reads as it did. -/
def evalRelsSpec : ChangeSpec := { name := "evalRels", fn := fun _ => fun
  | [d1, d2, d3] => { results := [.lit (.bool true)], args := [d1, d2, d3] }
  | _ => none }
def evalRelsRow : OpenClaim := { program := "ytfdimdjmnfdecaagreat", sum := "192f5d94d34ad2866496d92990b91943d449e5f079b787052584d847ea5822f6", func := "dossier/dossierlaw6.EvalRels", spec := "evalRels", inPlace := ["internal/bytealg.abigen_runtime_cmpstring", "internal/abi.NoEscape"], unfollowed := true, recurses := true, loops := true, apart := false }
def EvalRelsSaid : Prop := evalRelsRow.holds Tryz.pinned (OpenSpec.ofChange evalRelsSpec)

/-- ITS FALSE NEIGHBOUR: 'it returns false'. Refute it at one input. -/
def evalRelsWrong : ChangeSpec := { name := "evalRels", fn := fun _ => fun
  | [d1, d2, d3] => { results := [.lit (.bool false)], args := [d1, d2, d3] }
  | _ => none }
def EvalRelsWrongFalsely : Prop := evalRelsRow.holds Tryz.pinned (OpenSpec.ofChange evalRelsWrong)

/-- 'dossierlaw6.EvalArith': WHATEVER THE INPUT: true; the input reads as it did. -/
def evalArithSpec : ChangeSpec := { name := "evalArith", fn := fun _ => fun
  | [d1, d2, d3, d4, d5] => { results := [.lit (.bool true)], args := [d1, d2, d3, d4, d5] }
  | _ => none }
def evalArithRow : OpenClaim := { program := "ytfdimdjmnfdecaagreat", sum := "192f5d94d34ad2866496d92990b91943d449e5f079b787052584d847ea5822f6", func := "dossier/dossierlaw6.EvalArith", spec := "evalArith", inPlace := ["internal/abi.NoEscape", "internal/bytealg.abigen_runtime_cmpstring"], unfollowed := true, recurses := true, apart := false }
def EvalArithSaid : Prop := evalArithRow.holds Tryz.pinned (OpenSpec.ofChange evalArithSpec)

/-- ITS FALSE NEIGHBOUR: 'it returns false'. Refute it at one input. -/
def evalArithWrong : ChangeSpec := { name := "evalArith", fn := fun _ => fun
  | [d1, d2, d3, d4, d5] => { results := [.lit (.bool false)], args := [d1, d2, d3, d4, d5] }
  | _ => none }
def EvalArithWrongFalsely : Prop := evalArithRow.holds Tryz.pinned (OpenSpec.ofChange evalArithWrong)

/-- 'dossierlaw6.EvalThree': WHATEVER THE INPUT: true; the input reads as it did. -/
def evalThreeSpec : ChangeSpec := { name := "evalThree", fn := fun _ => fun
  | [d1, d2] => { results := [.lit (.bool true)], args := [d1, d2] }
  | _ => none }
def evalThreeRow : OpenClaim := { program := "ytfdimdjmnfdecaagreat", sum := "192f5d94d34ad2866496d92990b91943d449e5f079b787052584d847ea5822f6", func := "dossier/dossierlaw6.EvalThree", spec := "evalThree", inPlace := ["internal/abi.NoEscape", "internal/bytealg.abigen_runtime_cmpstring"], unfollowed := true, recurses := true, apart := false }
def EvalThreeSaid : Prop := evalThreeRow.holds Tryz.pinned (OpenSpec.ofChange evalThreeSpec)

/-- ITS FALSE NEIGHBOUR: 'it returns false'. Refute it at one input. -/
def evalThreeWrong : ChangeSpec := { name := "evalThree", fn := fun _ => fun
  | [d1, d2] => { results := [.lit (.bool false)], args := [d1, d2] }
  | _ => none }
def EvalThreeWrongFalsely : Prop := evalThreeRow.holds Tryz.pinned (OpenSpec.ofChange evalThreeWrong)

/- THE SECOND FORM. 'bulk': how many values and letters a reading holds, each counted each time it is reached (what is shared counts as often as it is met; a slice's spare places count too). A statement '..UptoSaid' is the law's where the arguments, and the package variables that the reading takes, are together of bulk at most 1048576: NARROWER than '..Said'. Prove '..Said' where nothing that the law and all that it calls make is longer than what came in: it says more and counts as full. Else prove '..UptoSaid'. A law counts once. -/
mutual
def uptoBulk {H : Type} : DataW H → Nat
  | .lit (.string bytes) => bytes.length + 1
  | .lit _ => 1
  | .nil => 1
  | .ptr d => uptoBulk d + 1
  | .slice elems spare => uptoBulkAll elems + uptoBulkAll spare + 1
  | .agg parts => uptoBulkAll parts + 1
  | .iface _ d => uptoBulk d + 1
  | .map entries => uptoBulkEntries entries + 1
  | .held _ => 1
def uptoBulkAll {H : Type} : List (DataW H) → Nat
  | [] => 0
  | d :: r => uptoBulk d + uptoBulkAll r
def uptoBulkEntries {H : Type} : List (Lit × DataW H) → Nat
  | [] => 0
  | x :: r => uptoBulkEntry x + uptoBulkEntries r
def uptoBulkEntry {H : Type} : Lit × DataW H → Nat
  | (.string bytes, d) => bytes.length + uptoBulk d + 1
  | (_, d) => uptoBulk d + 1
 end
def uptoSmall : (H : Type) → List (DataW H) → Bool := fun _ ds => decide (uptoBulkAll ds ≤ 1048576)
def OpenSpec.upto (s : _root_.Go.ChangeSpec) : _root_.Go.OpenSpec := { _root_.Go.OpenSpec.ofChange s with cond := some uptoSmall }

/-- 'dossierlaw6.EvalTells', WHERE WHAT IT READS IS OF BULK AT MOST 1048576: true; the input reads as it did. -/
def evalTellsUptoRow : OpenClaim := { program := "ytfdimdjmnfdecaagreat", sum := "192f5d94d34ad2866496d92990b91943d449e5f079b787052584d847ea5822f6", func := "dossier/dossierlaw6.EvalTells", spec := "evalTells", inPlace := ["internal/abi.NoEscape", "internal/bytealg.abigen_runtime_cmpstring"], unfollowed := true, recurses := true, loops := true, apart := false, narrowed := true }
def EvalTellsUptoSaid : Prop := evalTellsUptoRow.holds Tryz.pinned (OpenSpec.upto evalTellsSpec)

/-- 'dossierlaw6.EvalTexts', WHERE WHAT IT READS IS OF BULK AT MOST 1048576: true; the input reads as it did. -/
def evalTextsUptoRow : OpenClaim := { program := "ytfdimdjmnfdecaagreat", sum := "192f5d94d34ad2866496d92990b91943d449e5f079b787052584d847ea5822f6", func := "dossier/dossierlaw6.EvalTexts", spec := "evalTexts", inPlace := ["internal/abi.NoEscape", "internal/bytealg.abigen_runtime_cmpstring"], unfollowed := true, recurses := true, loops := true, apart := false, narrowed := true }
def EvalTextsUptoSaid : Prop := evalTextsUptoRow.holds Tryz.pinned (OpenSpec.upto evalTextsSpec)

/-- 'dossierlaw6.EvalLists', WHERE WHAT IT READS IS OF BULK AT MOST 1048576: true; the input reads as it did. -/
def evalListsUptoRow : OpenClaim := { program := "ytfdimdjmnfdecaagreat", sum := "192f5d94d34ad2866496d92990b91943d449e5f079b787052584d847ea5822f6", func := "dossier/dossierlaw6.EvalLists", spec := "evalLists", inPlace := ["internal/abi.NoEscape", "internal/bytealg.abigen_runtime_cmpstring"], unfollowed := true, recurses := true, apart := false, narrowed := true }
def EvalListsUptoSaid : Prop := evalListsUptoRow.holds Tryz.pinned (OpenSpec.upto evalListsSpec)

/-- 'dossierlaw6.EvalRels', WHERE WHAT IT READS IS OF BULK AT MOST 1048576: true; the input reads as it did. -/
def evalRelsUptoRow : OpenClaim := { program := "ytfdimdjmnfdecaagreat", sum := "192f5d94d34ad2866496d92990b91943d449e5f079b787052584d847ea5822f6", func := "dossier/dossierlaw6.EvalRels", spec := "evalRels", inPlace := ["internal/bytealg.abigen_runtime_cmpstring", "internal/abi.NoEscape"], unfollowed := true, recurses := true, loops := true, apart := false, narrowed := true }
def EvalRelsUptoSaid : Prop := evalRelsUptoRow.holds Tryz.pinned (OpenSpec.upto evalRelsSpec)

/-- 'dossierlaw6.EvalArith', WHERE WHAT IT READS IS OF BULK AT MOST 1048576: true; the input reads as it did. -/
def evalArithUptoRow : OpenClaim := { program := "ytfdimdjmnfdecaagreat", sum := "192f5d94d34ad2866496d92990b91943d449e5f079b787052584d847ea5822f6", func := "dossier/dossierlaw6.EvalArith", spec := "evalArith", inPlace := ["internal/abi.NoEscape", "internal/bytealg.abigen_runtime_cmpstring"], unfollowed := true, recurses := true, apart := false, narrowed := true }
def EvalArithUptoSaid : Prop := evalArithUptoRow.holds Tryz.pinned (OpenSpec.upto evalArithSpec)

/-- 'dossierlaw6.EvalThree', WHERE WHAT IT READS IS OF BULK AT MOST 1048576: true; the input reads as it did. -/
def evalThreeUptoRow : OpenClaim := { program := "ytfdimdjmnfdecaagreat", sum := "192f5d94d34ad2866496d92990b91943d449e5f079b787052584d847ea5822f6", func := "dossier/dossierlaw6.EvalThree", spec := "evalThree", inPlace := ["internal/abi.NoEscape", "internal/bytealg.abigen_runtime_cmpstring"], unfollowed := true, recurses := true, apart := false, narrowed := true }
def EvalThreeUptoSaid : Prop := evalThreeUptoRow.holds Tryz.pinned (OpenSpec.upto evalThreeSpec)

end Rows
end Go.Proofs.YtfdimdjmnfdecaaGreat
