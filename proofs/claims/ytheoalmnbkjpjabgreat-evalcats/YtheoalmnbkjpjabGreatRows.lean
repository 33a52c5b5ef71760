/-
  NARROWER THAN 'FOR EVERY INPUT', by the rows' own cells (each row's printed sentence says how): EvalWrong: loops.
  DERIVED. THE GIVEN ROWS OF THIS SEAT. 3 by the template 'for every input the law returns true; each argument reads behind the call as it read before'; 0 by the template 'total and deterministic' (their statements: YtheoalmnbkjpjabGreatTotals.lean).
  GIVEN WITH THE SEED: the statements are not yours to turn. If you find one false, say at which input.
  Laid BY PROGRAM, IN A SANDBOX (cutbox-rows.mjs): the forced cells as the released guide's own fill.sh prints them over the translation 25ff6d8778be7905… (all of the seat's roots in one cut). By AI agents, Wed Nov 11 2026. No macro, syntax, notation, axiom, sorry.
-/
import Derived.Test.YtheoalmnbkjpjabGreatChecked
import GoSem.Claim
import GoSem.ClaimJoined
import GoSem.ClaimMapViews
import Derived.JoinedTies
import Derived.KernelRfl
namespace Go.Proofs.YtheoalmnbkjpjabGreat
/- THE CELL 'sum', in the pinned program and in every row, IS THE sha256 OF THE DUMP (.gsa) THAT YtheoalmnbkjpjabGreatProg.lean LOADS. Nothing in Lean hashes anything: it is a label: what it is worth is what the hold of that sum in a sandbox is worth. -/
noncomputable def Tryz.pinned : Pinned := { name := "ytheoalmnbkjpjabgreat", sum := "25ff6d8778be79059a5b39eaa7e200085cb0a45a42e749835a3aaccbd3d9bcc4", checked := Tryz.checked }
namespace Rows
def none {H : Type} : Left H := { results := [], args := [] }

/-- 'dossierlaw6.EvalThree': WHATEVER THE INPUT: true; the input reads as it did. -/
def evalThreeSpec : ChangeSpec := { name := "evalThree", fn := fun _ => fun
  | [d1, d2] => { results := [.lit (.bool true)], args := [d1, d2] }
  | _ => none }
def evalThreeRow : OpenClaim := { program := "ytheoalmnbkjpjabgreat", sum := "25ff6d8778be79059a5b39eaa7e200085cb0a45a42e749835a3aaccbd3d9bcc4", func := "dossier/dossierlaw6.EvalThree", spec := "evalThree", inPlace := ["internal/abi.NoEscape", "internal/bytealg.abigen_runtime_cmpstring"], unfollowed := true, recurses := true, apart := false }
def EvalThreeSaid : Prop := evalThreeRow.holds Tryz.pinned (OpenSpec.ofChange evalThreeSpec)

/-- ITS FALSE NEIGHBOUR: 'it returns false'. Refute it at one input. -/
def evalThreeWrong : ChangeSpec := { name := "evalThree", fn := fun _ => fun
  | [d1, d2] => { results := [.lit (.bool false)], args := [d1, d2] }
  | _ => none }
def EvalThreeWrongFalsely : Prop := evalThreeRow.holds Tryz.pinned (OpenSpec.ofChange evalThreeWrong)

/-- 'dossierlaw6.EvalCats': WHATEVER THE INPUT: true; the input reads as it did. -/
def evalCatsSpec : ChangeSpec := { name := "evalCats", fn := fun _ => fun
  | [d1, d2] => { results := [.lit (.bool true)], args := [d1, d2] }
  | _ => none }
def evalCatsRow : OpenClaim := { program := "ytheoalmnbkjpjabgreat", sum := "25ff6d8778be79059a5b39eaa7e200085cb0a45a42e749835a3aaccbd3d9bcc4", func := "dossier/dossierlaw6.EvalCats", spec := "evalCats", inPlace := ["internal/abi.NoEscape", "internal/bytealg.abigen_runtime_cmpstring"], unfollowed := true, recurses := true, apart := false }
def EvalCatsSaid : Prop := evalCatsRow.holds Tryz.pinned (OpenSpec.ofChange evalCatsSpec)

/-- ITS FALSE NEIGHBOUR: 'it returns false'. Refute it at one input. -/
def evalCatsWrong : ChangeSpec := { name := "evalCats", fn := fun _ => fun
  | [d1, d2] => { results := [.lit (.bool false)], args := [d1, d2] }
  | _ => none }
def EvalCatsWrongFalsely : Prop := evalCatsRow.holds Tryz.pinned (OpenSpec.ofChange evalCatsWrong)

/-- 'dossierlaw6.EvalWrong': WHATEVER THE INPUT: true; the input reads as it did. -/
def evalWrongSpec : ChangeSpec := { name := "evalWrong", fn := fun _ => fun
  | [d1, d2] => { results := [.lit (.bool true)], args := [d1, d2] }
  | _ => none }
def evalWrongRow : OpenClaim := { program := "ytheoalmnbkjpjabgreat", sum := "25ff6d8778be79059a5b39eaa7e200085cb0a45a42e749835a3aaccbd3d9bcc4", func := "dossier/dossierlaw6.EvalWrong", spec := "evalWrong", inPlace := ["internal/abi.NoEscape", "internal/bytealg.abigen_runtime_cmpstring"], unfollowed := true, recurses := true, loops := true, apart := false }
def EvalWrongSaid : Prop := evalWrongRow.holds Tryz.pinned (OpenSpec.ofChange evalWrongSpec)

/-- ITS FALSE NEIGHBOUR: 'it returns false'. Refute it at one input. -/
def evalWrongWrong : ChangeSpec := { name := "evalWrong", fn := fun _ => fun
  | [d1, d2] => { results := [.lit (.bool false)], args := [d1, d2] }
  | _ => none }
def EvalWrongWrongFalsely : Prop := evalWrongRow.holds Tryz.pinned (OpenSpec.ofChange evalWrongWrong)

/- THE SECOND FORM. 'bulk': how many values and letters a reading holds, each counted each time it is reached (what is shared counts as often as it is met; a slice's spare places count too). A statement '..UptoSaid' is the law's where the arguments, and the package variables that the reading takes, are together of bulk at most 1048576: NARROWER than '..Said'. Prove '..Said' where nothing that the law and all that it calls make is longer than what came in: it says more and counts as full. Else prove '..UptoSaid'. A law counts once. -/
mutual
def uptoBulk {H : Type} : DataW H → Nat
  | .lit (.string bytes) => bytes.length + 1
  | .lit _ => 1
  | .nil => 1
  | .ptr d => uptoBulk d + 1
  | .slice elems spare => uptoBulkAll elems + uptoBulkAll spare + 1
  | .agg parts => uptoBulkAll parts + 1
  | .iface _ d => uptoBulk d + 1
  | .map entries => uptoBulkEntries entries + 1
  | .held _ => 1
def uptoBulkAll {H : Type} : List (DataW H) → Nat
  | [] => 0
  | d :: r => uptoBulk d + uptoBulkAll r
def uptoBulkEntries {H : Type} : List (Lit × DataW H) → Nat
  | [] => 0
  | x :: r => uptoBulkEntry x + uptoBulkEntries r
def uptoBulkEntry {H : Type} : Lit × DataW H → Nat
  | (.string bytes, d) => bytes.length + uptoBulk d + 1
  | (_, d) => uptoBulk d + 1
 end
def uptoSmall : (H : Type) → List (DataW H) → Bool := fun _ ds => decide (uptoBulkAll ds ≤ 1048576)
def OpenSpec.upto (s : _root_.Go.ChangeSpec) : _root_.Go.OpenSpec := { _root_.Go.OpenSpec.ofChange s with cond := some uptoSmall }

/-- 'dossierlaw6.EvalThree', WHERE WHAT IT READS IS OF BULK AT MOST 1048576: true; the input reads as it did. -/
def evalThreeUptoRow : OpenClaim := { program := "ytheoalmnbkjpjabgreat", sum := "25ff6d8778be79059a5b39eaa7e200085cb0a45a42e749835a3aaccbd3d9bcc4", func := "dossier/dossierlaw6.EvalThree", spec := "evalThree", inPlace := ["internal/abi.NoEscape", "internal/bytealg.abigen_runtime_cmpstring"], unfollowed := true, recurses := true, apart := false, narrowed := true }
def EvalThreeUptoSaid : Prop := evalThreeUptoRow.holds Tryz.pinned (OpenSpec.upto evalThreeSpec)

/-- 'dossierlaw6.EvalCats', WHERE WHAT IT READS IS OF BULK AT MOST 1048576: true; the input reads as it did. -/
def evalCatsUptoRow : OpenClaim := { program := "ytheoalmnbkjpjabgreat", sum := "25ff6d8778be79059a5b39eaa7e200085cb0a45a42e749835a3aaccbd3d9bcc4", func := "dossier/dossierlaw6.EvalCats", spec := "evalCats", inPlace := ["internal/abi.NoEscape", "internal/bytealg.abigen_runtime_cmpstring"], unfollowed := true, recurses := true, apart := false, narrowed := true }
def EvalCatsUptoSaid : Prop := evalCatsUptoRow.holds Tryz.pinned (OpenSpec.upto evalCatsSpec)

/-- 'dossierlaw6.EvalWrong', WHERE WHAT IT READS IS OF BULK AT MOST 1048576: true; the input reads as it did. -/
def evalWrongUptoRow : OpenClaim := { program := "ytheoalmnbkjpjabgreat", sum := "25ff6d8778be79059a5b39eaa7e200085cb0a45a42e749835a3aaccbd3d9bcc4", func := "dossier/dossierlaw6.EvalWrong", spec := "evalWrong", inPlace := ["internal/abi.NoEscape", "internal/bytealg.abigen_runtime_cmpstring"], unfollowed := true, recurses := true, loops := true, apart := false, narrowed := true }
def EvalWrongUptoSaid : Prop := evalWrongUptoRow.holds Tryz.pinned (OpenSpec.upto evalWrongSpec)

end Rows
end Go.Proofs.YtheoalmnbkjpjabGreat
