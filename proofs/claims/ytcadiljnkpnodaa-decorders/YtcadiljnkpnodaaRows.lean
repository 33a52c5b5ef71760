/-
  No cell of these rows narrows 'for every input' (looked for: loops, veiled, ifaces, maps, wideKeys, modest, calm, conditions, laid).
  DERIVED. THE GIVEN ROWS OF THIS SEAT. 5 by the template 'for every input the law returns true; each argument reads behind the call as it read before'; 0 by the template 'total and deterministic' (their statements: YtcadiljnkpnodaaTotals.lean).
  GIVEN WITH THE SEED: the statements are not yours to turn. If you find one false, say at which input.
  Laid BY PROGRAM, IN A SANDBOX (cutbox-rows.mjs): the forced cells as the released guide's own fill.sh prints them over the translation 2f4c7270cff2ff0c… (all of the seat's roots in one cut). By AI agents, Wed Nov 11 2026. No macro, syntax, notation, axiom, sorry.
-/
import Derived.Test.YtcadiljnkpnodaaChecked
import GoSem.Claim
import GoSem.ClaimJoined
import GoSem.ClaimMapViews
import Derived.JoinedTies
import Derived.KernelRfl
namespace Go.Proofs.Ytcadiljnkpnodaa
/- THE CELL 'sum', in the pinned program and in every row, IS THE sha256 OF THE DUMP (.gsa) THAT YtcadiljnkpnodaaProg.lean LOADS. Nothing in Lean hashes anything: it is a label: what it is worth is what the hold of that sum in a sandbox is worth. -/
noncomputable def Try.pinned : Pinned := { name := "ytcadiljnkpnodaa", sum := "2f4c7270cff2ff0ca768efcd846e79da4d1d52699df4104cfb1d5a11812c7904", checked := Try.checked }
namespace Rows
def none {H : Type} : Left H := { results := [], args := [] }

/-- 'dossierlaw1.DecFits': WHATEVER THE INPUT: true; the input reads as it did. -/
def decFitsSpec : ChangeSpec := { name := "decFits", fn := fun _ => fun
  | [d1, d2] => { results := [.lit (.bool true)], args := [d1, d2] }
  | _ => none }
def decFitsRow : OpenClaim := { program := "ytcadiljnkpnodaa", sum := "2f4c7270cff2ff0ca768efcd846e79da4d1d52699df4104cfb1d5a11812c7904", func := "dossier/dossierlaw1.DecFits", spec := "decFits", inPlace := ["internal/bytealg.IndexByteString", "internal/bytealg.IndexString"], named := ["internal/bytealg.MaxLen"], apart := false }
def DecFitsSaid : Prop := decFitsRow.holds Try.pinned (OpenSpec.ofChange decFitsSpec)

/-- ITS FALSE NEIGHBOUR: 'it returns false'. Refute it at one input. -/
def decFitsWrong : ChangeSpec := { name := "decFits", fn := fun _ => fun
  | [d1, d2] => { results := [.lit (.bool false)], args := [d1, d2] }
  | _ => none }
def DecFitsWrongFalsely : Prop := decFitsRow.holds Try.pinned (OpenSpec.ofChange decFitsWrong)

/-- 'dossierlaw1.DecTells': WHATEVER THE INPUT: true; the input reads as it did. -/
def decTellsSpec : ChangeSpec := { name := "decTells", fn := fun _ => fun
  | [d1, d2] => { results := [.lit (.bool true)], args := [d1, d2] }
  | _ => none }
def decTellsRow : OpenClaim := { program := "ytcadiljnkpnodaa", sum := "2f4c7270cff2ff0ca768efcd846e79da4d1d52699df4104cfb1d5a11812c7904", func := "dossier/dossierlaw1.DecTells", spec := "decTells", inPlace := ["internal/bytealg.IndexByteString", "internal/bytealg.IndexString"], named := ["internal/bytealg.MaxLen"], apart := false }
def DecTellsSaid : Prop := decTellsRow.holds Try.pinned (OpenSpec.ofChange decTellsSpec)

/-- ITS FALSE NEIGHBOUR: 'it returns false'. Refute it at one input. -/
def decTellsWrong : ChangeSpec := { name := "decTells", fn := fun _ => fun
  | [d1, d2] => { results := [.lit (.bool false)], args := [d1, d2] }
  | _ => none }
def DecTellsWrongFalsely : Prop := decTellsRow.holds Try.pinned (OpenSpec.ofChange decTellsWrong)

/-- 'dossierlaw1.DecOrders': WHATEVER THE INPUT: true; the input reads as it did. -/
def decOrdersSpec : ChangeSpec := { name := "decOrders", fn := fun _ => fun
  | [d1, d2] => { results := [.lit (.bool true)], args := [d1, d2] }
  | _ => none }
def decOrdersRow : OpenClaim := { program := "ytcadiljnkpnodaa", sum := "2f4c7270cff2ff0ca768efcd846e79da4d1d52699df4104cfb1d5a11812c7904", func := "dossier/dossierlaw1.DecOrders", spec := "decOrders", inPlace := ["internal/bytealg.IndexByteString", "internal/bytealg.IndexString"], named := ["internal/bytealg.MaxLen"], apart := false }
def DecOrdersSaid : Prop := decOrdersRow.holds Try.pinned (OpenSpec.ofChange decOrdersSpec)

/-- ITS FALSE NEIGHBOUR: 'it returns false'. Refute it at one input. -/
def decOrdersWrong : ChangeSpec := { name := "decOrders", fn := fun _ => fun
  | [d1, d2] => { results := [.lit (.bool false)], args := [d1, d2] }
  | _ => none }
def DecOrdersWrongFalsely : Prop := decOrdersRow.holds Try.pinned (OpenSpec.ofChange decOrdersWrong)

/-- 'dossierlaw1.DecWholes': WHATEVER THE INPUT: true; the input reads as it did. -/
def decWholesSpec : ChangeSpec := { name := "decWholes", fn := fun _ => fun
  | [d1, d2] => { results := [.lit (.bool true)], args := [d1, d2] }
  | _ => none }
def decWholesRow : OpenClaim := { program := "ytcadiljnkpnodaa", sum := "2f4c7270cff2ff0ca768efcd846e79da4d1d52699df4104cfb1d5a11812c7904", func := "dossier/dossierlaw1.DecWholes", spec := "decWholes", inPlace := ["internal/bytealg.IndexByteString", "internal/bytealg.IndexString"], named := ["internal/bytealg.MaxLen"], apart := false }
def DecWholesSaid : Prop := decWholesRow.holds Try.pinned (OpenSpec.ofChange decWholesSpec)

/-- ITS FALSE NEIGHBOUR: 'it returns false'. Refute it at one input. -/
def decWholesWrong : ChangeSpec := { name := "decWholes", fn := fun _ => fun
  | [d1, d2] => { results := [.lit (.bool false)], args := [d1, d2] }
  | _ => none }
def DecWholesWrongFalsely : Prop := decWholesRow.holds Try.pinned (OpenSpec.ofChange decWholesWrong)

/-- 'dossierlaw1.DecFloors': WHATEVER THE INPUT: true; the input reads as it did. -/
def decFloorsSpec : ChangeSpec := { name := "decFloors", fn := fun _ => fun
  | [d] => { results := [.lit (.bool true)], args := [d] }
  | _ => none }
def decFloorsRow : OpenClaim := { program := "ytcadiljnkpnodaa", sum := "2f4c7270cff2ff0ca768efcd846e79da4d1d52699df4104cfb1d5a11812c7904", func := "dossier/dossierlaw1.DecFloors", spec := "decFloors", inPlace := ["internal/bytealg.IndexByteString", "internal/bytealg.IndexString"], named := ["internal/bytealg.MaxLen"], apart := false }
def DecFloorsSaid : Prop := decFloorsRow.holds Try.pinned (OpenSpec.ofChange decFloorsSpec)

/-- ITS FALSE NEIGHBOUR: 'it returns false'. Refute it at one input. -/
def decFloorsWrong : ChangeSpec := { name := "decFloors", fn := fun _ => fun
  | [d] => { results := [.lit (.bool false)], args := [d] }
  | _ => none }
def DecFloorsWrongFalsely : Prop := decFloorsRow.holds Try.pinned (OpenSpec.ofChange decFloorsWrong)

/- THE SECOND FORM. 'bulk': how many values and letters a reading holds, each counted each time it is reached (what is shared counts as often as it is met; a slice's spare places count too). A statement '..UptoSaid' is the law's where the arguments, and the package variables that the reading takes, are together of bulk at most 1048576: NARROWER than '..Said'. Prove '..Said' where nothing that the law and all that it calls make is longer than what came in: it says more and counts as full. Else prove '..UptoSaid'. A law counts once. -/
mutual
def uptoBulk {H : Type} : DataW H → Nat
  | .lit (.string bytes) => bytes.length + 1
  | .lit _ => 1
  | .nil => 1
  | .ptr d => uptoBulk d + 1
  | .slice elems spare => uptoBulkAll elems + uptoBulkAll spare + 1
  | .agg parts => uptoBulkAll parts + 1
  | .iface _ d => uptoBulk d + 1
  | .map entries => uptoBulkEntries entries + 1
  | .held _ => 1
def uptoBulkAll {H : Type} : List (DataW H) → Nat
  | [] => 0
  | d :: r => uptoBulk d + uptoBulkAll r
def uptoBulkEntries {H : Type} : List (Lit × DataW H) → Nat
  | [] => 0
  | x :: r => uptoBulkEntry x + uptoBulkEntries r
def uptoBulkEntry {H : Type} : Lit × DataW H → Nat
  | (.string bytes, d) => bytes.length + uptoBulk d + 1
  | (_, d) => uptoBulk d + 1
 end
def uptoSmall : (H : Type) → List (DataW H) → Bool := fun _ ds => decide (uptoBulkAll ds ≤ 1048576)
def OpenSpec.upto (s : _root_.Go.ChangeSpec) : _root_.Go.OpenSpec := { _root_.Go.OpenSpec.ofChange s with cond := some uptoSmall }

/-- 'dossierlaw1.DecFits', WHERE WHAT IT READS IS OF BULK AT MOST 1048576: true; the input reads as it did. -/
def decFitsUptoRow : OpenClaim := { program := "ytcadiljnkpnodaa", sum := "2f4c7270cff2ff0ca768efcd846e79da4d1d52699df4104cfb1d5a11812c7904", func := "dossier/dossierlaw1.DecFits", spec := "decFits", inPlace := ["internal/bytealg.IndexByteString", "internal/bytealg.IndexString"], named := ["internal/bytealg.MaxLen"], apart := false, narrowed := true }
def DecFitsUptoSaid : Prop := decFitsUptoRow.holds Try.pinned (OpenSpec.upto decFitsSpec)

/-- 'dossierlaw1.DecTells', WHERE WHAT IT READS IS OF BULK AT MOST 1048576: true; the input reads as it did. -/
def decTellsUptoRow : OpenClaim := { program := "ytcadiljnkpnodaa", sum := "2f4c7270cff2ff0ca768efcd846e79da4d1d52699df4104cfb1d5a11812c7904", func := "dossier/dossierlaw1.DecTells", spec := "decTells", inPlace := ["internal/bytealg.IndexByteString", "internal/bytealg.IndexString"], named := ["internal/bytealg.MaxLen"], apart := false, narrowed := true }
def DecTellsUptoSaid : Prop := decTellsUptoRow.holds Try.pinned (OpenSpec.upto decTellsSpec)

/-- 'dossierlaw1.DecOrders', WHERE WHAT IT READS IS OF BULK AT MOST 1048576: true; the input reads as it did. -/
def decOrdersUptoRow : OpenClaim := { program := "ytcadiljnkpnodaa", sum := "2f4c7270cff2ff0ca768efcd846e79da4d1d52699df4104cfb1d5a11812c7904", func := "dossier/dossierlaw1.DecOrders", spec := "decOrders", inPlace := ["internal/bytealg.IndexByteString", "internal/bytealg.IndexString"], named := ["internal/bytealg.MaxLen"], apart := false, narrowed := true }
def DecOrdersUptoSaid : Prop := decOrdersUptoRow.holds Try.pinned (OpenSpec.upto decOrdersSpec)

/-- 'dossierlaw1.DecWholes', WHERE WHAT IT READS IS OF BULK AT MOST 1048576: true; the input reads as it did. -/
def decWholesUptoRow : OpenClaim := { program := "ytcadiljnkpnodaa", sum := "2f4c7270cff2ff0ca768efcd846e79da4d1d52699df4104cfb1d5a11812c7904", func := "dossier/dossierlaw1.DecWholes", spec := "decWholes", inPlace := ["internal/bytealg.IndexByteString", "internal/bytealg.IndexString"], named := ["internal/bytealg.MaxLen"], apart := false, narrowed := true }
def DecWholesUptoSaid : Prop := decWholesUptoRow.holds Try.pinned (OpenSpec.upto decWholesSpec)

/-- 'dossierlaw1.DecFloors', WHERE WHAT IT READS IS OF BULK AT MOST 1048576: true; the input reads as it did. -/
def decFloorsUptoRow : OpenClaim := { program := "ytcadiljnkpnodaa", sum := "2f4c7270cff2ff0ca768efcd846e79da4d1d52699df4104cfb1d5a11812c7904", func := "dossier/dossierlaw1.DecFloors", spec := "decFloors", inPlace := ["internal/bytealg.IndexByteString", "internal/bytealg.IndexString"], named := ["internal/bytealg.MaxLen"], apart := false, narrowed := true }
def DecFloorsUptoSaid : Prop := decFloorsUptoRow.holds Try.pinned (OpenSpec.upto decFloorsSpec)

end Rows
end Go.Proofs.Ytcadiljnkpnodaa
