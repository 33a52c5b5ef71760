/- The walk of EvalMods: a rest has the divisor's sign, and with the quotient makes the number. -/
import Derived.Test.YtkjiifnepjoimabGreatHBC
namespace Go.Proofs.YtkjiifnepjoimabGreat
open Go.RowKit
open VT (leaf mkV)
set_option linter.unusedVariables false
set_option linter.unusedSimpArgs false

def modL : List UInt8 := [109, 111, 100, 40, 97, 44, 32, 98, 41]
theorem mod_calc : (parseT modL).2.2 = 0 ∧ smaX (parseT modL).1 = true := by decide +kernel
theorem mod_ev (a b : Int) : evT [([97], numV a 0), ([98], numV b 0)] (parseT modL).1 = (modV a 0 b 0, 0) := by kernel_rfl
def rst (a b : Int) : Int := if a.tmod b ≠ 0 ∧ (decide (a.tmod b < 0) != decide (b < 0)) = true then a.tmod b + b else a.tmod b
theorem mod_rst (a b : Int) (hb : b ≠ 0) : modV a 0 b 0 = numV (rst a b) 0 := by
  unfold modV rst
  rw [if_neg (by simp [hb])]
  split <;> rfl
theorem rst_facts (a b : Int) (hb : b ≠ 0) : (a - rst a b).tmod b = 0 ∧ (rst a b = 0 ∨ decide (rst a b < 0) = decide (b < 0)) ∧ max (rst a b) (-(rst a b)) < max b (-b) := by
  have h1 := Int.natAbs_tmod a b
  have h2 := Nat.mod_lt a.natAbs (show 0 < b.natAbs by omega)
  have h3 := Int.mul_tdiv_add_tmod a b
  unfold rst
  by_cases hr : a.tmod b ≠ 0 ∧ (decide (a.tmod b < 0) != decide (b < 0)) = true
  · rw [if_pos hr]
    obtain ⟨hr0, hrs⟩ := hr
    refine ⟨?_, .inr ?_, ?_⟩
    · rw [show a - (a.tmod b + b) = b * (a.tdiv b - 1) by rw [Int.mul_sub, Int.mul_one]; omega]
      exact Int.mul_tmod_right _ _
    · by_cases h4 : a.tmod b < 0 <;> by_cases h5 : b < 0 <;> simp [h4, h5] at hrs ⊢ <;> omega
    · by_cases h4 : a.tmod b < 0 <;> by_cases h5 : b < 0 <;> simp [h4, h5] at hrs <;> omega
  · rw [if_neg hr]
    refine ⟨?_, ?_, by omega⟩
    · rw [show a - a.tmod b = b * a.tdiv b by omega]
      exact Int.mul_tmod_right _ _
    · by_cases h0 : a.tmod b = 0
      · exact .inl h0
      · right
        apply Classical.byContradiction
        intro h
        exact hr ⟨h0, by simpa using h⟩

set_option maxHeartbeats 8000000 in
set_option maxRecDepth 10000 in
theorem evalMods_walk (a b : Int) (_ : (Lit.int .i64 a).wf = true) (_ : (Lit.int .i64 b).wf = true) (w : World) :
    Calls Tryz.prog 6 #[.int .i64 a, .int .i64 b] w fun e w' => e = .returned (.bool true) ∧ Below w.heap.size w w' := by
  by_cases hin : -1000000 ≤ a ∧ a ≤ 1000000 ∧ -1000 ≤ b ∧ b ≤ 1000
  · obtain ⟨a1, a2, b1, b2⟩ := hin
    have TD := hide (fun a9 w h => told_any modL (by decide) (parseT modL).1 (parseT modL).2.1 (by rw [← mod_calc.1]) mod_calc.2 [(⟨#[97]⟩, numV a 0), (⟨#[98]⟩, numV b 0)] a9 2 w h (by unfold maxLen; simp) (fun e he => by
      rcases List.mem_cons.1 he with h | h
      · rw [h]; exact ok_num (isB_whole (by omega) (by omega))
      rcases List.mem_cons.1 h with h | h
      · rw [h]; exact ok_num (isB_whole (by omega) (by omega))
      · cases h))
    have eE : envT [(⟨#[97]⟩, numV a 0), (⟨#[98]⟩, numV b 0)] = [([97], numV a 0), ([98], numV b 0)] := by
      unfold envT
      simp only [List.map_cons, List.map_nil, numV, VT.leaf, VT.bare_leaf]
      rfl
    rw [eE, mod_ev] at TD
    unfold modL at TD
    clear eE
    have NA := hide (num_in (m := a) (by omega) (by omega))
    have NB := hide (num_in (m := b) (by omega) (by omega))
    by_cases hb : b = 0
    · subst hb
      have eM : modV a 0 0 0 = nilV := by unfold modV; rw [if_pos (.inr (.inr rfl))]
      rw [eM] at TD
      clear eM
      go_enter Tryz.func6, Tryz.ntmps6
      go_wp2_with fail
      refine (lnum_any _ _).mono ?_
      rintro e w1 ⟨rfl, k1⟩
      unfold lfv
      go_wp2_with fail
      refine (lnum_any _ _).mono ?_
      rintro e w2 ⟨rfl, k2⟩
      unfold lfv
      have B2 := bstep k1 k2
      clear k1 k2
      go_wp2_with fail
      have bs := below1 w2 (Obj.cells #[.string ⟨#[97]⟩, .int .i64 2, .bool false, .int .i64 a, .int .i64 0, .string ⟨#[]⟩, .slice none 0 0, .string ⟨#[98]⟩, .int .i64 2, .bool false, .int .i64 0, .int .i64 0, .string ⟨#[]⟩, .slice none 0 0] 36)
      refine (unhide TD _ _ (env2 _ _ _ _ (unhide NA _) (unhide NB _) (by go_simp) (fun j hj => ?_) (by go_simp) (fun j hj => ?_))).mono ?_
      · match j, hj with
        | 0, _ => go_simp; rfl
        | 1, _ => go_simp; rfl
        | 2, _ => go_simp; rfl
        | 3, _ => go_simp; rfl
        | 4, _ => go_simp; rfl
        | 5, _ => go_simp; rfl
      · match j, hj with
        | 0, _ => go_simp; rfl
        | 1, _ => go_simp; rfl
        | 2, _ => go_simp; rfl
        | 3, _ => go_simp; rfl
        | 4, _ => go_simp; rfl
        | 5, _ => go_simp; rfl
      rintro e w3 ⟨⟨v, rfl, T, rfl, hT, hTl, hTb⟩, k3⟩
      obtain ⟨kz, bz, mz, sz, tz, az, lz, cz, kidz, rfl⟩ := hT.form
      have hk : kz = 0 := by have h := congrArg kdV hTb; exact h
      subst hk
      have B3 := bstep (bstep B2 bs) k3
      clear hT hTl hTb TD k3 bs B2
      dsimp only [VT.val]
      go_wp2_with fail
      refine (eknown_any _).mono ?_
      rintro e w4 ⟨rfl, k4⟩
      have B4 := bstep (bstep B3 (below1 _ _)) k4
      go_wp2_with fail
      go_ret
      exact ⟨rfl, B4⟩
    · rw [mod_rst a b hb] at TD
      obtain ⟨f1, f2, f3⟩ := rst_facts a b hb
      have hb0 : (b == 0) = false := by simpa using hb
      have hb1 : ¬ b = 0 := hb
      generalize rst a b = R at *
      have r1 : -1000 < R := by omega
      have r2 : R < 1000 := by omega
      have e1 : ((a - R).tmod b == 0) = true := by simpa using f1
      have w1' : IntKind.i64.wrap (a - R) = a - R := i64_in (by omega) (by omega)
      have HF2 := hide f2
      have HF3 := hide f3
      go_enter Tryz.func6, Tryz.ntmps6
      go_wp2_with fail
      refine (lnum_any _ _).mono ?_
      rintro e w1 ⟨rfl, k1⟩
      unfold lfv
      go_wp2_with fail
      refine (lnum_any _ _).mono ?_
      rintro e w2 ⟨rfl, k2⟩
      unfold lfv
      have B2 := bstep k1 k2
      clear k1 k2
      go_wp2_with fail
      have bs := below1 w2 (Obj.cells #[.string ⟨#[97]⟩, .int .i64 2, .bool false, .int .i64 a, .int .i64 0, .string ⟨#[]⟩, .slice none 0 0, .string ⟨#[98]⟩, .int .i64 2, .bool false, .int .i64 b, .int .i64 0, .string ⟨#[]⟩, .slice none 0 0] 36)
      refine (unhide TD _ _ (env2 _ _ _ _ (unhide NA _) (unhide NB _) (by go_simp) (fun j hj => ?_) (by go_simp) (fun j hj => ?_))).mono ?_
      · match j, hj with
        | 0, _ => go_simp; rfl
        | 1, _ => go_simp; rfl
        | 2, _ => go_simp; rfl
        | 3, _ => go_simp; rfl
        | 4, _ => go_simp; rfl
        | 5, _ => go_simp; rfl
      · match j, hj with
        | 0, _ => go_simp; rfl
        | 1, _ => go_simp; rfl
        | 2, _ => go_simp; rfl
        | 3, _ => go_simp; rfl
        | 4, _ => go_simp; rfl
        | 5, _ => go_simp; rfl
      rintro e w3 ⟨⟨v, rfl, T, rfl, hT, hTl, hTb⟩, k3⟩
      obtain ⟨az, cz, kidz, rfl⟩ := num_form hT hTb
      have B3 := bstep (bstep B2 bs) k3
      clear hT hTl hTb TD k3 bs B2
      dsimp only [VT.val]
      have hm : ¬ R < -R ∨ R < -R := by omega
      rcases unhide HF2 with hR0 | hR
      · subst hR0
        have f1' : a.tmod b = 0 := by simpa using f1
        clear f1 e1 w1' f2 f3 HF2 hm
        by_cases hbm : b < -b
        all_goals
          go_wp2_with fail
          refine (eknown_any _).mono ?_
          rintro e w4 ⟨rfl, k4⟩
          have B4 := bstep (bstep B3 (below1 _ _)) k4
          go_wp2_with fail
          go_ret
          exact ⟨rfl, B4⟩
      · by_cases hR0 : R = 0
        · subst hR0
          have f1' : a.tmod b = 0 := by simpa using f1
          clear f1 e1 w1' f2 f3 HF2 hm
          by_cases hbm : b < -b
          all_goals
            go_wp2_with fail
            refine (eknown_any _).mono ?_
            rintro e w4 ⟨rfl, k4⟩
            have B4 := bstep (bstep B3 (below1 _ _)) k4
            go_wp2_with fail
            go_ret
            exact ⟨rfl, B4⟩
        have e2 : (R == 0) = false := by simpa using hR0
        by_cases hbn : b < 0
        · have hRn : R < 0 := by simpa [hbn] using hR
          have g1 : R < -R := by omega
          have g2 : b < -b := by omega
          have g3 : -R < -b := by have := unhide HF3; omega
          clear hR hm
          go_wp2_with fail
          refine (eknown_any _).mono ?_
          rintro e w4 ⟨rfl, k4⟩
          have B4 := bstep (bstep B3 (below1 _ _)) k4
          go_wp2_with fail
          go_ret
          exact ⟨rfl, B4⟩
        · have hRn : ¬ R < 0 := by simpa [hbn] using hR
          have g1 : ¬ R < -R := by omega
          have g2 : ¬ b < -b := by omega
          have g3 : R < b := by have := unhide HF3; omega
          clear hR hm
          go_wp2_with fail
          refine (eknown_any _).mono ?_
          rintro e w4 ⟨rfl, k4⟩
          have B4 := bstep (bstep B3 (below1 _ _)) k4
          go_wp2_with fail
          go_ret
          exact ⟨rfl, B4⟩
  · by_cases h1 : a < -1000000
    · go_enter Tryz.func6, Tryz.ntmps6
      go_wp2_with fail
      go_ret
      exact ⟨rfl, Below.refl _ _⟩
    by_cases h2 : 1000000 < a
    · go_enter Tryz.func6, Tryz.ntmps6
      go_wp2_with fail
      go_ret
      exact ⟨rfl, Below.refl _ _⟩
    by_cases h3 : b < -1000
    · go_enter Tryz.func6, Tryz.ntmps6
      go_wp2_with fail
      go_ret
      exact ⟨rfl, Below.refl _ _⟩
    have h4 : 1000 < b := by omega
    go_enter Tryz.func6, Tryz.ntmps6
    go_wp2_with fail
    go_ret
    exact ⟨rfl, Below.refl _ _⟩
end Go.Proofs.YtkjiifnepjoimabGreat
