/- The walk of LexSigns: the longest sign that stands there is taken. -/
import Derived.Test.YtlcckhlkmnnjdaaDoorLexTellsW
import Derived.Test.YtlcckhlkmnnjdaaDoorKeep
import Derived.Deep.RegionHeld3
import Derived.Deep.DrawnRows
namespace Go.Proofs.YtlcckhlkmnnjdaaDoor
open Go.RowKit
set_option linter.unusedVariables false

theorem lba_app (l l' : List UInt8) : (⟨l.toArray⟩ : ByteArray) ++ ⟨l'.toArray⟩ = ⟨(l ++ l').toArray⟩ := by
  apply ByteArray.ext
  simp
def apartB (i j : Nat) : Bool := decide (lexT (sgs.getD i [] ++ 32 :: sgs.getD j []) = ([(4, sgs.getD i [], 0), (4, sgs.getD j [], (sgs.getD i []).length + 1)], (sgs.getD i []).length + 1 + (sgs.getD j []).length, 0))
theorem apart_all : ((List.range 16).all fun i => (List.range 16).all fun j => apartB i j) = true := by decide +kernel
theorem signs_apart (i : Nat) (hi : i < 16) (j : Nat) (hj : j < 16) : lexT (sgs.getD i [] ++ 32 :: sgs.getD j []) = ([(4, sgs.getD i [], 0), (4, sgs.getD j [], (sgs.getD i []).length + 1)], (sgs.getD i []).length + 1 + (sgs.getD j []).length, 0) := by
  have h := List.all_eq_true.1 apart_all i (List.mem_range.2 hi)
  exact of_decide_eq_true (List.all_eq_true.1 h j (List.mem_range.2 hj))

set_option maxHeartbeats 3200000 in
theorem lexSigns_walk (a b : Int) (ap : Bool) (_ : (Lit.int .i64 a).wf = true) (_ : (Lit.int .i64 b).wf = true) (w : World) (sig : Sig w) :
    Calls Tryd.prog 7 #[.int .i64 a, .int .i64 b, .bool ap] w fun e w' => e = .returned (.bool true) ∧ Below w.heap.size w w' := by
  have SG := hide sig
  clear sig
  by_cases ha : a < 0
  · go_enter Tryd.func7, Tryd.ntmps7
    go_wp2_with fail
    go_ret
    exact ⟨rfl, below1 _ _⟩
  by_cases ha' : 16 ≤ a
  · go_enter Tryd.func7, Tryd.ntmps7
    go_wp2_with fail
    go_ret
    exact ⟨rfl, below1 _ _⟩
  by_cases hb : b < 0
  · go_enter Tryd.func7, Tryd.ntmps7
    go_wp2_with fail
    go_ret
    exact ⟨rfl, below1 _ _⟩
  by_cases hb' : 16 ≤ b
  · go_enter Tryd.func7, Tryd.ntmps7
    go_wp2_with fail
    go_ret
    exact ⟨rfl, below1 _ _⟩
  obtain ⟨i, rfl⟩ : ∃ i : Nat, a = i := ⟨a.toNat, by omega⟩
  obtain ⟨j, rfl⟩ : ∃ j : Nat, b = j := ⟨b.toNat, by omega⟩
  have hi : i < 16 := by omega
  have hj : j < 16 := by omega
  have r1 := row_sgs w i hi
  have r2 := row_sgs w j hj
  have g1l := sgs_len hi
  have g2l := sgs_len hj
  have SA := hide (signs_apart i hi j hj)
  have BEL := hide (below1 w (.cells #[.string ⟨#[60, 61]⟩, .string ⟨#[62, 61]⟩, .string ⟨#[33, 61]⟩, .string ⟨#[46, 46]⟩, .string ⟨#[60]⟩, .string ⟨#[62]⟩, .string ⟨#[61]⟩, .string ⟨#[43]⟩, .string ⟨#[45]⟩, .string ⟨#[42]⟩, .string ⟨#[47]⟩, .string ⟨#[40]⟩, .string ⟨#[41]⟩, .string ⟨#[91]⟩, .string ⟨#[93]⟩, .string ⟨#[44]⟩] 9))
  have SG' := hide ((unhide SG).below (unhide BEL))
  have hz : w.heap.size < (w.alloc (.cells #[.string ⟨#[60, 61]⟩, .string ⟨#[62, 61]⟩, .string ⟨#[33, 61]⟩, .string ⟨#[46, 46]⟩, .string ⟨#[60]⟩, .string ⟨#[62]⟩, .string ⟨#[61]⟩, .string ⟨#[43]⟩, .string ⟨#[45]⟩, .string ⟨#[42]⟩, .string ⟨#[47]⟩, .string ⟨#[40]⟩, .string ⟨#[41]⟩, .string ⟨#[91]⟩, .string ⟨#[93]⟩, .string ⟨#[44]⟩] 9)).heap.size := by simp
  clear ha ha' hb hb'
  generalize sgs.getD i [] = g1 at *
  generalize sgs.getD j [] = g2 at *
  have BA0 := lba_app g1 g2
  have BA1 := lba_app g1 [32]
  have BA2 := lba_app (g1 ++ [32]) g2
  go_enter Tryd.func7, Tryd.ntmps7
  go_wp2_with fail
  generalize w.alloc (.cells #[.string ⟨#[60, 61]⟩, .string ⟨#[62, 61]⟩, .string ⟨#[33, 61]⟩, .string ⟨#[46, 46]⟩, .string ⟨#[60]⟩, .string ⟨#[62]⟩, .string ⟨#[61]⟩, .string ⟨#[43]⟩, .string ⟨#[45]⟩, .string ⟨#[42]⟩, .string ⟨#[47]⟩, .string ⟨#[40]⟩, .string ⟨#[41]⟩, .string ⟨#[91]⟩, .string ⟨#[93]⟩, .string ⟨#[44]⟩] 9) = W at *
  cases ap
  · have h60 := lexT_len (g1 ++ g2)
    have L1 := hide (fun w => lex_all (g1 ++ g2) w (by simp; omega))
    have L2 := hide (fun w => rlex_all (g1 ++ g2) w (by simp; omega))
    generalize hR : lexT (g1 ++ g2) = R at *
    clear hR
    obtain ⟨ts, p, er⟩ := R
    dsimp only at h60
    go_quiet (fail)
    go_wp2_with fail
    clear BA0 BA1 BA2 r1 r2
    have b0 := below_drewN (unhide BEL) nq
    have sg0 := (unhide SG).below b0
    clear BEL SG'
    generalize W.drewN nq = V at *
    refine (unhide L1 _ sg0).mono ?_
    rintro e w1 ⟨⟨v1, rfl, own1⟩, b1⟩
    have OWN1 := hide own1
    clear own1
    go_wp2_with fail
    refine (unhide L2 _).mono ?_
    rintro e w2 ⟨⟨v2, rfl, own2⟩, b2⟩
    have OWN1' := hide (owns_below (unhide OWN1) b2)
    have OWN2 := hide own2
    have b12 := bstep (bstep b0 b1) b2
    clear own2 OWN1 b1 b2
    go_wp2_with fail
    refine (lsame_any ts v1 v2 _ _ _ (by omega) (unhide OWN1') (unhide OWN2)).mono ?_
    rintro e w3 ⟨rfl, n, rfl⟩
    have b3 := below_drewN b12 n
    clear OWN1' OWN2 b12
    generalize w2.drewN n = V3 at *
    go_wp2_with fail
    refine (lknown_any _ ((unhide SG).below b3)).mono ?_
    rintro e w7 ⟨rfl, b7⟩
    go_wp2_with fail
    go_ret
    exact ⟨rfl, bstep b3 b7⟩
  · have L1 := hide (fun w => lex_all (g1 ++ 32 :: g2) w (by simp; omega))
    rw [unhide SA] at L1
    go_quiet (fail)
    go_wp2_with fail
    have b0 := below_drewN (unhide BEL) nq
    have x1 : (W.drewN nq).cell? ⟨w.heap.size, i, none⟩ = some (.string ⟨g1.toArray⟩) := r1
    have x2 : (W.drewN nq).cell? ⟨w.heap.size, j, none⟩ = some (.string ⟨g2.toArray⟩) := r2
    have hz0 : w.heap.size < (W.drewN nq).heap.size := hz
    clear BEL SG' r1 r2 hz
    generalize W.drewN nq = W1 at *
    go_quiet (fail)
    go_wp2_with fail
    have b1 := below_drewN b0 nq
    have y1 : (W1.drewN nq).cell? ⟨w.heap.size, i, none⟩ = some (.string ⟨g1.toArray⟩) := x1
    have y2 : (W1.drewN nq).cell? ⟨w.heap.size, j, none⟩ = some (.string ⟨g2.toArray⟩) := x2
    have hz1 : w.heap.size < (W1.drewN nq).heap.size := hz0
    clear b0 x1 x2 hz0 BA0 BA1 BA2
    have sg1 := (unhide SG).below b1
    generalize W1.drewN nq = W2 at *
    refine (unhide L1 _ sg1).mono ?_
    rintro e V ⟨⟨v, rfl, own⟩, b2⟩
    obtain ⟨g, cap, rfl, -, tt⟩ := own_at own (by simp)
    obtain ⟨p0, p1, p2, p3⟩ := tt 0 (by simp)
    obtain ⟨q0, q1, q2, q3⟩ := tt 1 (by simp)
    simp only [List.getElem_cons_succ, List.getElem_cons_zero, Nat.reduceMul, Nat.reduceAdd] at p2 q2
    have z1 := kcell b2 hz1 y1
    have z2 := kcell b2 hz1 y2
    have hzV : w.heap.size < V.heap.size := Nat.lt_of_lt_of_le hz1 b2.size
    have bV := hide (bstep b1 b2)
    clear own tt p1 p3 q0 q1 q3 y1 y2 hz1 b1 b2 sg1 L1 SA
    go_wp2_with fail
    generalize hbb : w.heap.size = b at z1 z2 hzV
    have SK : Hid (∀ x w', (Below V.heap.size V x ∧ x.cell? ⟨b, i, none⟩ = some (.string ⟨g1.toArray⟩) ∧ x.cell? ⟨b, j, none⟩ = some (.string ⟨g2.toArray⟩) ∧ x.cell? ⟨g, 1, none⟩ = some (.string ⟨g1.toArray⟩) ∧ x.cell? ⟨g, 4, none⟩ = some (.string ⟨g2.toArray⟩)) → Below x.heap.size x w' → (Below V.heap.size V w' ∧ w'.cell? ⟨b, i, none⟩ = some (.string ⟨g1.toArray⟩) ∧ w'.cell? ⟨b, j, none⟩ = some (.string ⟨g2.toArray⟩) ∧ w'.cell? ⟨g, 1, none⟩ = some (.string ⟨g1.toArray⟩) ∧ w'.cell? ⟨g, 4, none⟩ = some (.string ⟨g2.toArray⟩))) := by
      rintro x w' ⟨h1, h2, h3, h4, h5⟩ k
      have y := h1.size
      exact ⟨bstep h1 k, kcell k (by omega) h2, kcell k (by omega) h3, kcell k (by omega) h4, kcell k (by omega) h5⟩
    have S0 : Hid (Below V.heap.size V V.drew ∧ V.drew.cell? ⟨b, i, none⟩ = some (.string ⟨g1.toArray⟩) ∧ V.drew.cell? ⟨b, j, none⟩ = some (.string ⟨g2.toArray⟩) ∧ V.drew.cell? ⟨g, 1, none⟩ = some (.string ⟨g1.toArray⟩) ∧ V.drew.cell? ⟨g, 4, none⟩ = some (.string ⟨g2.toArray⟩)) := ⟨(Below.refl _ _).drew, z1, z2, p2, q2⟩
    have SGV := hide (fun x (h : Below V.heap.size V x) => (unhide SG).below (bstep (unhide bV) h))
    clear hbb
    go_region_held3 (fun w' => Below V.heap.size V w' ∧ w'.cell? ⟨b, i, none⟩ = some (.string ⟨g1.toArray⟩) ∧ w'.cell? ⟨b, j, none⟩ = some (.string ⟨g2.toArray⟩) ∧ w'.cell? ⟨g, 1, none⟩ = some (.string ⟨g1.toArray⟩) ∧ w'.cell? ⟨g, 4, none⟩ = some (.string ⟨g2.toArray⟩))
      (first | exact unhide S0 | assumption | exact unhide SK _ _ (by assumption) k)
      (first | (go_at_call 14; refine (lknown_any _ (unhide SGV _ (And.left (by assumption)))).mono ?_; rintro e w4 ⟨rfl, k⟩))
    all_goals
      go_wp2
      go_ret
      exact ⟨rfl, bstep (unhide bV) (And.left (by assumption))⟩
end Go.Proofs.YtlcckhlkmnnjdaaDoor
