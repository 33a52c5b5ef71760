/- What the texts of FeelOps are parsed to; the contract of the law's one. (Printed by mkops.py.) -/
import Derived.Test.YtdlfgnmcokdceabDoorGH
import Derived.Test.YtdlfgnmcokdceabDoorGI
import Derived.Test.YtdlfgnmcokdceabDoorRegMan
namespace Go.Proofs.YtdlfgnmcokdceabDoor
open Go.RowKit
set_option linter.unusedVariables false
def opL : Nat → List UInt8
  | 0 => [111, 114]
  | 1 => [97, 110, 100]
  | 2 => [43]
  | 3 => [45]
  | 4 => [42]
  | 5 => [47]
  | _ => []
def opR : Nat → Nat
  | 0 => 0
  | 1 => 1
  | 2 => 3
  | 3 => 3
  | 4 => 4
  | 5 => 4
  | _ => 0
def opX (a b : Nat) : List UInt8 := [117, 32] ++ opL a ++ [32, 118, 32] ++ opL b ++ [32, 119]
def opY (a b : Nat) : List UInt8 := [40, 117, 32] ++ opL a ++ [32, 118, 41, 32] ++ opL b ++ [32, 119]
def opZ (a b : Nat) : List UInt8 := [117, 32] ++ opL a ++ [32, 40, 118, 32] ++ opL b ++ [32, 119, 41]
def opsB (a b : Nat) : Bool :=
  decide ((parseT (opX a b)).2.2 = 0) && decide ((parseT (opY a b)).2.2 = 0) && decide ((parseT (opZ a b)).2.2 = 0) && ((parseT (opX a b)).1.same (parseT (opY a b)).1 == decide (opR b ≤ opR a)) && ((parseT (opX a b)).1.same (parseT (opZ a b)).1 == !decide (opR b ≤ opR a))
theorem ops_calc : ∀ a, a < 6 → ∀ b, b < 6 → opsB a b = true := by decide +kernel
theorem opL_len : ∀ a, (opL a).length ≤ 3 := by
  intro a
  unfold opL
  split <;> simp
def OneRes (B : Nat) (X : XT × Int × Int) (e : Ending) (w' : World) : Prop :=
  ∃ T : XT, e = .returned (.tuple #[T.val, .bool (X.2.2 == 0)]) ∧ T.In (Fr B) w' ∧ T.bare = X.1
set_option maxHeartbeats 2000000 in
theorem one_any (l : List UInt8) (hl : l.length ≤ 1000) (w : World) (sig : Sig w) :
    Calls Tryd.prog 6 #[.string ⟨l.toArray⟩] w fun e w' => OneRes w.heap.size (parseT l) e w' ∧ Below w.heap.size w w' := by
  have P := hide (fun w sg => parse_any l hl w sg)
  have SG := hide sig
  generalize parseT l = X at *
  obtain ⟨xt, n, e0⟩ := X
  clear sig
  have ez := hide (ZB.new w 28)
  go_enter Tryd.func6, Tryd.ntmps6
  go_wp2_with fail
  refine (unhide P _ ((unhide SG).below (below1 _ _))).mono ?_
  rintro e w1 ⟨⟨A, rfl, hinA, hbA⟩, b1⟩
  dsimp only at hbA
  have Z1 := ((unhide ez).below b1)
  have z1 : w.heap.size + 1 ≤ w1.heap.size := by have := b1.size; simpa using this
  have B1 := bstep (below1 w _) b1
  have HA := hinA.weak (Q' := fun g => w.heap.size + 1 ≤ g) (fun g _ hg => by unfold Fr at hg; simp at hg; omega)
  obtain ⟨fk, fb, fm, fs, ft, flo, fhi, fa, fl, fc, fkid, rfl⟩ := hinA.form
  clear hinA b1 ez P
  obtain ⟨y0, y1, y2, y3, y4, y5, y6, y7, y8, y9⟩ := Z1
  dsimp only [XT.val]
  go_wp2_with fail
  refine bodyPost_ret (v := .tuple #[.agg #[.int .i64 fk, .bool fb, .int .i64 fm, .int .i64 fs, .string ft, .bool flo, .bool fhi, .slice fa fl fc], .bool (e0 == 0)]) (by simp [results, Tryd.results6, go_sem, y0, y1, y2, y3, y4, y5, y6, y7, y8]) rfl ?_
  refine ⟨⟨_, rfl, ?_, hbA⟩, by (repeat (first | with_reducible assumption | with_reducible exact Below.refl _ _ | (with_reducible refine Below.setCell ?_ ?_ _; rotate_left; (focus (first | omega | (simp; done) | (simp; omega) | (dsimp only; omega)))) | (with_reducible refine Below.alloc ?_ ?_ _; rotate_left; (focus (first | omega | (simp; done) | (simp; omega) | (dsimp only; omega)))) | with_reducible refine Below.drew ?_ | with_reducible refine below_dN ?_ _))⟩
  refine XT.In.weak (Q := fun g => w.heap.size + 1 ≤ g) ?_ (fun g _ hg => by unfold Fr; omega)
  (repeat (first | with_reducible assumption | with_reducible refine XT.In.alloc ?_ _ | with_reducible refine XT.In.drew ?_ | with_reducible refine XT.In.drewN ?_ _ | (with_reducible refine XT.In.set ?_ ?_ _; rotate_left; (intro g hg; (focus (first | omega | (simp; done) | (simp; omega) | (dsimp only; omega)))))))
end Go.Proofs.YtdlfgnmcokdceabDoor
