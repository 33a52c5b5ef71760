/-
  NARROWER THAN 'FOR EVERY INPUT', by the rows' own cells (each row's printed sentence says how): ValMay: loops · ValTells: loops.
  DERIVED. THE GIVEN ROWS OF THIS SEAT. 5 by the template 'for every input the law returns true; each argument reads behind the call as it read before'; 0 by the template 'total and deterministic' (their statements: YthccmlkcdinfdabTotals.lean).
  GIVEN WITH THE SEED: the statements are not yours to turn. If you find one false, say at which input.
  Laid BY PROGRAM, IN A SANDBOX (cutbox-rows.mjs): the forced cells as the released guide's own fill.sh prints them over the translation 9a590e926b7c7a61… (all of the seat's roots in one cut). By AI agents, Wed Nov 11 2026. No macro, syntax, notation, axiom, sorry.
-/
import Derived.Test.YthccmlkcdinfdabChecked
import GoSem.Claim
import GoSem.ClaimJoined
import GoSem.ClaimMapViews
import Derived.JoinedTies
import Derived.KernelRfl
namespace Go.Proofs.Ythccmlkcdinfdab
/- THE CELL 'sum', in the pinned program and in every row, IS THE sha256 OF THE DUMP (.gsa) THAT YthccmlkcdinfdabProg.lean LOADS. Nothing in Lean hashes anything: it is a label: what it is worth is what the hold of that sum in a sandbox is worth. -/
noncomputable def Try.pinned : Pinned := { name := "ythccmlkcdinfdab", sum := "9a590e926b7c7a61844d8f924d1ba5f6c68bda7a076af1194599a7721459c38b", checked := Try.checked }
namespace Rows
def none {H : Type} : Left H := { results := [], args := [] }

/-- 'dossierlaw1.DecDivides': WHATEVER THE INPUT: true; the input reads as it did. -/
def decDividesSpec : ChangeSpec := { name := "decDivides", fn := fun _ => fun
  | [d1, d2] => { results := [.lit (.bool true)], args := [d1, d2] }
  | _ => none }
def decDividesRow : OpenClaim := { program := "ythccmlkcdinfdab", sum := "9a590e926b7c7a61844d8f924d1ba5f6c68bda7a076af1194599a7721459c38b", func := "dossier/dossierlaw1.DecDivides", spec := "decDivides", inPlace := ["internal/bytealg.IndexByteString", "internal/bytealg.IndexString"], named := ["internal/bytealg.MaxLen"], apart := false }
def DecDividesSaid : Prop := decDividesRow.holds Try.pinned (OpenSpec.ofChange decDividesSpec)

/-- ITS FALSE NEIGHBOUR: 'it returns false'. Refute it at one input. -/
def decDividesWrong : ChangeSpec := { name := "decDivides", fn := fun _ => fun
  | [d1, d2] => { results := [.lit (.bool false)], args := [d1, d2] }
  | _ => none }
def DecDividesWrongFalsely : Prop := decDividesRow.holds Try.pinned (OpenSpec.ofChange decDividesWrong)

/-- 'dossierlaw1.DecHalves': WHATEVER THE INPUT: true; the input reads as it did. -/
def decHalvesSpec : ChangeSpec := { name := "decHalves", fn := fun _ => fun
  | [d1, d2] => { results := [.lit (.bool true)], args := [d1, d2] }
  | _ => none }
def decHalvesRow : OpenClaim := { program := "ythccmlkcdinfdab", sum := "9a590e926b7c7a61844d8f924d1ba5f6c68bda7a076af1194599a7721459c38b", func := "dossier/dossierlaw1.DecHalves", spec := "decHalves", inPlace := ["internal/bytealg.IndexByteString", "internal/bytealg.IndexString"], named := ["internal/bytealg.MaxLen"], apart := false }
def DecHalvesSaid : Prop := decHalvesRow.holds Try.pinned (OpenSpec.ofChange decHalvesSpec)

/-- ITS FALSE NEIGHBOUR: 'it returns false'. Refute it at one input. -/
def decHalvesWrong : ChangeSpec := { name := "decHalves", fn := fun _ => fun
  | [d1, d2] => { results := [.lit (.bool false)], args := [d1, d2] }
  | _ => none }
def DecHalvesWrongFalsely : Prop := decHalvesRow.holds Try.pinned (OpenSpec.ofChange decHalvesWrong)

/-- 'dossierlaw1.DecOver': WHATEVER THE INPUT: true; the input reads as it did. -/
def decOverSpec : ChangeSpec := { name := "decOver", fn := fun _ => fun
  | [d1, d2] => { results := [.lit (.bool true)], args := [d1, d2] }
  | _ => none }
def decOverRow : OpenClaim := { program := "ythccmlkcdinfdab", sum := "9a590e926b7c7a61844d8f924d1ba5f6c68bda7a076af1194599a7721459c38b", func := "dossier/dossierlaw1.DecOver", spec := "decOver", inPlace := ["internal/bytealg.IndexByteString", "internal/bytealg.IndexString"], named := ["internal/bytealg.MaxLen"], apart := false }
def DecOverSaid : Prop := decOverRow.holds Try.pinned (OpenSpec.ofChange decOverSpec)

/-- ITS FALSE NEIGHBOUR: 'it returns false'. Refute it at one input. -/
def decOverWrong : ChangeSpec := { name := "decOver", fn := fun _ => fun
  | [d1, d2] => { results := [.lit (.bool false)], args := [d1, d2] }
  | _ => none }
def DecOverWrongFalsely : Prop := decOverRow.holds Try.pinned (OpenSpec.ofChange decOverWrong)

/-- 'dossierlaw2.ValMay': WHATEVER THE INPUT: true; the input reads as it did. -/
def valMaySpec : ChangeSpec := { name := "valMay", fn := fun _ => fun
  | [d] => { results := [.lit (.bool true)], args := [d] }
  | _ => none }
def valMayRow : OpenClaim := { program := "ythccmlkcdinfdab", sum := "9a590e926b7c7a61844d8f924d1ba5f6c68bda7a076af1194599a7721459c38b", func := "dossier/dossierlaw2.ValMay", spec := "valMay", recurses := true, loops := true, apart := false }
def ValMaySaid : Prop := valMayRow.holds Try.pinned (OpenSpec.ofChange valMaySpec)

/-- ITS FALSE NEIGHBOUR: 'it returns false'. Refute it at one input. -/
def valMayWrong : ChangeSpec := { name := "valMay", fn := fun _ => fun
  | [d] => { results := [.lit (.bool false)], args := [d] }
  | _ => none }
def ValMayWrongFalsely : Prop := valMayRow.holds Try.pinned (OpenSpec.ofChange valMayWrong)

/-- 'dossierlaw2.ValTells': WHATEVER THE INPUT: true; the input reads as it did. -/
def valTellsSpec : ChangeSpec := { name := "valTells", fn := fun _ => fun
  | [d1, d2] => { results := [.lit (.bool true)], args := [d1, d2] }
  | _ => none }
def valTellsRow : OpenClaim := { program := "ythccmlkcdinfdab", sum := "9a590e926b7c7a61844d8f924d1ba5f6c68bda7a076af1194599a7721459c38b", func := "dossier/dossierlaw2.ValTells", spec := "valTells", inPlace := ["internal/bytealg.abigen_runtime_cmpstring"], unfollowed := true, recurses := true, loops := true, apart := false }
def ValTellsSaid : Prop := valTellsRow.holds Try.pinned (OpenSpec.ofChange valTellsSpec)

/-- ITS FALSE NEIGHBOUR: 'it returns false'. Refute it at one input. -/
def valTellsWrong : ChangeSpec := { name := "valTells", fn := fun _ => fun
  | [d1, d2] => { results := [.lit (.bool false)], args := [d1, d2] }
  | _ => none }
def ValTellsWrongFalsely : Prop := valTellsRow.holds Try.pinned (OpenSpec.ofChange valTellsWrong)

/- THE SECOND FORM. 'bulk': how many values and letters a reading holds, each counted each time it is reached (what is shared counts as often as it is met; a slice's spare places count too). A statement '..UptoSaid' is the law's where the arguments, and the package variables that the reading takes, are together of bulk at most 1048576: NARROWER than '..Said'. Prove '..Said' where nothing that the law and all that it calls make is longer than what came in: it says more and counts as full. Else prove '..UptoSaid'. A law counts once. -/
mutual
def uptoBulk {H : Type} : DataW H → Nat
  | .lit (.string bytes) => bytes.length + 1
  | .lit _ => 1
  | .nil => 1
  | .ptr d => uptoBulk d + 1
  | .slice elems spare => uptoBulkAll elems + uptoBulkAll spare + 1
  | .agg parts => uptoBulkAll parts + 1
  | .iface _ d => uptoBulk d + 1
  | .map entries => uptoBulkEntries entries + 1
  | .held _ => 1
def uptoBulkAll {H : Type} : List (DataW H) → Nat
  | [] => 0
  | d :: r => uptoBulk d + uptoBulkAll r
def uptoBulkEntries {H : Type} : List (Lit × DataW H) → Nat
  | [] => 0
  | x :: r => uptoBulkEntry x + uptoBulkEntries r
def uptoBulkEntry {H : Type} : Lit × DataW H → Nat
  | (.string bytes, d) => bytes.length + uptoBulk d + 1
  | (_, d) => uptoBulk d + 1
 end
def uptoSmall : (H : Type) → List (DataW H) → Bool := fun _ ds => decide (uptoBulkAll ds ≤ 1048576)
def OpenSpec.upto (s : _root_.Go.ChangeSpec) : _root_.Go.OpenSpec := { _root_.Go.OpenSpec.ofChange s with cond := some uptoSmall }

/-- 'dossierlaw1.DecDivides', WHERE WHAT IT READS IS OF BULK AT MOST 1048576: true; the input reads as it did. -/
def decDividesUptoRow : OpenClaim := { program := "ythccmlkcdinfdab", sum := "9a590e926b7c7a61844d8f924d1ba5f6c68bda7a076af1194599a7721459c38b", func := "dossier/dossierlaw1.DecDivides", spec := "decDivides", inPlace := ["internal/bytealg.IndexByteString", "internal/bytealg.IndexString"], named := ["internal/bytealg.MaxLen"], apart := false, narrowed := true }
def DecDividesUptoSaid : Prop := decDividesUptoRow.holds Try.pinned (OpenSpec.upto decDividesSpec)

/-- 'dossierlaw1.DecHalves', WHERE WHAT IT READS IS OF BULK AT MOST 1048576: true; the input reads as it did. -/
def decHalvesUptoRow : OpenClaim := { program := "ythccmlkcdinfdab", sum := "9a590e926b7c7a61844d8f924d1ba5f6c68bda7a076af1194599a7721459c38b", func := "dossier/dossierlaw1.DecHalves", spec := "decHalves", inPlace := ["internal/bytealg.IndexByteString", "internal/bytealg.IndexString"], named := ["internal/bytealg.MaxLen"], apart := false, narrowed := true }
def DecHalvesUptoSaid : Prop := decHalvesUptoRow.holds Try.pinned (OpenSpec.upto decHalvesSpec)

/-- 'dossierlaw1.DecOver', WHERE WHAT IT READS IS OF BULK AT MOST 1048576: true; the input reads as it did. -/
def decOverUptoRow : OpenClaim := { program := "ythccmlkcdinfdab", sum := "9a590e926b7c7a61844d8f924d1ba5f6c68bda7a076af1194599a7721459c38b", func := "dossier/dossierlaw1.DecOver", spec := "decOver", inPlace := ["internal/bytealg.IndexByteString", "internal/bytealg.IndexString"], named := ["internal/bytealg.MaxLen"], apart := false, narrowed := true }
def DecOverUptoSaid : Prop := decOverUptoRow.holds Try.pinned (OpenSpec.upto decOverSpec)

/-- 'dossierlaw2.ValMay', WHERE WHAT IT READS IS OF BULK AT MOST 1048576: true; the input reads as it did. -/
def valMayUptoRow : OpenClaim := { program := "ythccmlkcdinfdab", sum := "9a590e926b7c7a61844d8f924d1ba5f6c68bda7a076af1194599a7721459c38b", func := "dossier/dossierlaw2.ValMay", spec := "valMay", recurses := true, loops := true, apart := false, narrowed := true }
def ValMayUptoSaid : Prop := valMayUptoRow.holds Try.pinned (OpenSpec.upto valMaySpec)

/-- 'dossierlaw2.ValTells', WHERE WHAT IT READS IS OF BULK AT MOST 1048576: true; the input reads as it did. -/
def valTellsUptoRow : OpenClaim := { program := "ythccmlkcdinfdab", sum := "9a590e926b7c7a61844d8f924d1ba5f6c68bda7a076af1194599a7721459c38b", func := "dossier/dossierlaw2.ValTells", spec := "valTells", inPlace := ["internal/bytealg.abigen_runtime_cmpstring"], unfollowed := true, recurses := true, loops := true, apart := false, narrowed := true }
def ValTellsUptoSaid : Prop := valTellsUptoRow.holds Try.pinned (OpenSpec.upto valTellsSpec)

end Rows
end Go.Proofs.Ythccmlkcdinfdab
