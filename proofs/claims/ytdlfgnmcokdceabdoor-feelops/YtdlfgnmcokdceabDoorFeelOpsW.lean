/- The walk of FeelOps: of alike operators the left one binds first, of others the closer one. (Printed by mkops.py.) -/
import Derived.Test.YtdlfgnmcokdceabDoorFeelOpsM
import Derived.Deep.DeepCutAuto
namespace Go.Proofs.YtdlfgnmcokdceabDoor
open Go.RowKit
set_option linter.unusedVariables false
/- an expression in a box of its own. -/
def Boxed (w : World) (x : XT) (p : Value) : Prop := ∃ g, p = .pointer (some ⟨g, 0, none⟩) ∧ ∃ k b m s t lo hi a l c kid, XB w g k b m s t lo hi a l c ∧ (XT.mk k b m s t lo hi a l c kid).In (fun _ => True) w ∧ (XT.mk k b m s t lo hi a l c kid).bare = x
theorem Boxed.below {w w' : World} {x : XT} {p : Value} (h : Boxed w x p) (b : Below w.heap.size w w') : Boxed w' x p := by
  obtain ⟨g, rfl, k, bb, m, s, t, lo, hi, a, l, c, kid, h1, h2, h3⟩ := h
  exact ⟨g, rfl, k, bb, m, s, t, lo, hi, a, l, c, kid, h1.below b, h2.below b, h3⟩
theorem cell8 {w : World} {r g o : Nat} (h : g ≠ r) (v0 v1 v2 v3 v4 v5 v6 v7 : Value) : ((((((((w.setCell ⟨r, 0, none⟩ v0).setCell ⟨r, 1, none⟩ v1).setCell ⟨r, 2, none⟩ v2).setCell ⟨r, 3, none⟩ v3).setCell ⟨r, 4, none⟩ v4).setCell ⟨r, 5, none⟩ v5).setCell ⟨r, 6, none⟩ v6).setCell ⟨r, 7, none⟩ v7).cell? ⟨g, o, none⟩ = w.cell? ⟨g, o, none⟩ := by
  refine World.cell?_of_block (w := w) ?_
  rw [Below.heap_setCell _ _ _ _ h, Below.heap_setCell _ _ _ _ h, Below.heap_setCell _ _ _ _ h, Below.heap_setCell _ _ _ _ h, Below.heap_setCell _ _ _ _ h, Below.heap_setCell _ _ _ _ h, Below.heap_setCell _ _ _ _ h, Below.heap_setCell _ _ _ _ h]
theorem dba_app (l l' : List UInt8) : (⟨l.toArray⟩ : ByteArray) ++ ⟨l'.toArray⟩ = ⟨(l ++ l').toArray⟩ := by
  apply ByteArray.ext
  simp

set_option maxHeartbeats 8000000 in
set_option maxRecDepth 10000 in
theorem ops_in (a b : Nat) (ha : a < 6) (hb : b < 6) (w : World) (sig : Sig w) :
    Calls Tryd.prog 3 #[.int .i64 (a : Int), .int .i64 (b : Int)] w fun e w' => e = .returned (.bool true) ∧ Below w.heap.size w w' := by
  have K := ops_calc a ha b hb
  have lA := opL_len a
  have lB := opL_len b
  have PX := hide (fun w sg => one_any (opX a b) (by unfold opX; simp; omega) w sg)
  have PY := hide (fun w sg => one_any (opY a b) (by unfold opY; simp; omega) w sg)
  have PZ := hide (fun w sg => one_any (opZ a b) (by unfold opZ; simp; omega) w sg)
  unfold opsB at K
  generalize parseT (opX a b) = X at *
  generalize parseT (opY a b) = Y at *
  generalize parseT (opZ a b) = Z at *
  obtain ⟨xX, nx, ex⟩ := X
  obtain ⟨xY, ny, ey⟩ := Y
  obtain ⟨xZ, nz, e_z⟩ := Z
  simp only [Bool.and_eq_true, decide_eq_true_eq, beq_iff_eq] at K
  obtain ⟨⟨⟨⟨rfl, rfl⟩, rfl⟩, k1⟩, k2⟩ := K
  have K1 := hide k1
  have K2 := hide k2
  clear k1 k2
  unfold opX at PX
  unfold opY at PY
  unfold opZ at PZ
  have b0 := below2 w (Obj.cells #[.string ⟨#[111, 114]⟩, .string ⟨#[97, 110, 100]⟩, .string ⟨#[43]⟩, .string ⟨#[45]⟩, .string ⟨#[42]⟩, .string ⟨#[47]⟩] 9) (Obj.cells #[.int .i64 0, .int .i64 1, .int .i64 3, .int .i64 3, .int .i64 4, .int .i64 4] 3)
  have SG := hide (sig.below b0)
  have B0 := hide b0
  have cA : ((w.alloc (Obj.cells #[.string ⟨#[111, 114]⟩, .string ⟨#[97, 110, 100]⟩, .string ⟨#[43]⟩, .string ⟨#[45]⟩, .string ⟨#[42]⟩, .string ⟨#[47]⟩] 9)).alloc (Obj.cells #[.int .i64 0, .int .i64 1, .int .i64 3, .int .i64 3, .int .i64 4, .int .i64 4] 3)).cell? ⟨w.heap.size, a, none⟩ = some (.string ⟨(opL a).toArray⟩) := by
    have : a = 0 ∨ a = 1 ∨ a = 2 ∨ a = 3 ∨ a = 4 ∨ a = 5 := by omega
    rcases this with rfl | rfl | rfl | rfl | rfl | rfl <;> go_simp <;> rfl
  have cB : ((w.alloc (Obj.cells #[.string ⟨#[111, 114]⟩, .string ⟨#[97, 110, 100]⟩, .string ⟨#[43]⟩, .string ⟨#[45]⟩, .string ⟨#[42]⟩, .string ⟨#[47]⟩] 9)).alloc (Obj.cells #[.int .i64 0, .int .i64 1, .int .i64 3, .int .i64 3, .int .i64 4, .int .i64 4] 3)).cell? ⟨w.heap.size, b, none⟩ = some (.string ⟨(opL b).toArray⟩) := by
    have : b = 0 ∨ b = 1 ∨ b = 2 ∨ b = 3 ∨ b = 4 ∨ b = 5 := by omega
    rcases this with rfl | rfl | rfl | rfl | rfl | rfl <;> go_simp <;> rfl
  have rA : ((w.alloc (Obj.cells #[.string ⟨#[111, 114]⟩, .string ⟨#[97, 110, 100]⟩, .string ⟨#[43]⟩, .string ⟨#[45]⟩, .string ⟨#[42]⟩, .string ⟨#[47]⟩] 9)).alloc (Obj.cells #[.int .i64 0, .int .i64 1, .int .i64 3, .int .i64 3, .int .i64 4, .int .i64 4] 3)).cell? ⟨w.heap.size + 1, a, none⟩ = some (.int .i64 (opR a : Int)) := by
    have : a = 0 ∨ a = 1 ∨ a = 2 ∨ a = 3 ∨ a = 4 ∨ a = 5 := by omega
    rcases this with rfl | rfl | rfl | rfl | rfl | rfl <;> go_simp <;> rfl
  have rB : ((w.alloc (Obj.cells #[.string ⟨#[111, 114]⟩, .string ⟨#[97, 110, 100]⟩, .string ⟨#[43]⟩, .string ⟨#[45]⟩, .string ⟨#[42]⟩, .string ⟨#[47]⟩] 9)).alloc (Obj.cells #[.int .i64 0, .int .i64 1, .int .i64 3, .int .i64 3, .int .i64 4, .int .i64 4] 3)).cell? ⟨w.heap.size + 1, b, none⟩ = some (.int .i64 (opR b : Int)) := by
    have : b = 0 ∨ b = 1 ∨ b = 2 ∨ b = 3 ∨ b = 4 ∨ b = 5 := by omega
    rcases this with rfl | rfl | rfl | rfl | rfl | rfl <;> go_simp <;> rfl
  have LV : w.heap.size < ((w.alloc (Obj.cells #[.string ⟨#[111, 114]⟩, .string ⟨#[97, 110, 100]⟩, .string ⟨#[43]⟩, .string ⟨#[45]⟩, .string ⟨#[42]⟩, .string ⟨#[47]⟩] 9)).alloc (Obj.cells #[.int .i64 0, .int .i64 1, .int .i64 3, .int .i64 3, .int .i64 4, .int .i64 4] 3)).heap.size := by simp; omega
  have RV : w.heap.size + 1 < ((w.alloc (Obj.cells #[.string ⟨#[111, 114]⟩, .string ⟨#[97, 110, 100]⟩, .string ⟨#[43]⟩, .string ⟨#[45]⟩, .string ⟨#[42]⟩, .string ⟨#[47]⟩] 9)).alloc (Obj.cells #[.int .i64 0, .int .i64 1, .int .i64 3, .int .i64 3, .int .i64 4, .int .i64 4] 3)).heap.size := by simp
  clear b0 sig
  generalize opL a = A at *
  generalize opL b = B at *
  generalize opR a = ra at *
  generalize opR b = rb at *
  go_enter Tryd.func3, Tryd.ntmps3
  go_upto_region 5 with fail
  generalize (w.alloc (Obj.cells #[.string ⟨#[111, 114]⟩, .string ⟨#[97, 110, 100]⟩, .string ⟨#[43]⟩, .string ⟨#[45]⟩, .string ⟨#[42]⟩, .string ⟨#[47]⟩] 9)).alloc (Obj.cells #[.int .i64 0, .int .i64 1, .int .i64 3, .int .i64 3, .int .i64 4, .int .i64 4] 3) = V at *
  generalize hLB : w.heap.size = LB at *
  have B1 : Hid (Below w.heap.size w V) := by rw [hLB]; exact B0
  clear B0
  have B0 := B1
  clear B1
  obtain ⟨X1, e1⟩ : ∃ l, l = [117, 32] ++ A := ⟨_, rfl⟩
  obtain ⟨X2, e2⟩ : ∃ l, l = X1 ++ [32, 118, 32] := ⟨_, rfl⟩
  obtain ⟨X3, e3⟩ : ∃ l, l = X2 ++ B := ⟨_, rfl⟩
  obtain ⟨X4, e4⟩ : ∃ l, l = X3 ++ [32, 119] := ⟨_, rfl⟩
  have j1 : (⟨#[117, 32]⟩ : ByteArray) ++ ⟨A.toArray⟩ = ⟨X1.toArray⟩ := by rw [e1]; exact dba_app _ _
  have j2 : (⟨X1.toArray⟩ : ByteArray) ++ ⟨#[32, 118, 32]⟩ = ⟨X2.toArray⟩ := by rw [e2]; exact dba_app _ _
  have j3 : (⟨X2.toArray⟩ : ByteArray) ++ ⟨B.toArray⟩ = ⟨X3.toArray⟩ := by rw [e3]; exact dba_app _ _
  have j4 : (⟨X3.toArray⟩ : ByteArray) ++ ⟨#[32, 119]⟩ = ⟨X4.toArray⟩ := by rw [e4]; exact dba_app _ _
  have i1 : X1.length ≤ 10 := by rw [e1]; simp; omega
  have i2 : X2.length ≤ 20 := by rw [e2]; simp; omega
  have i3 : X3.length ≤ 30 := by rw [e3]; simp; omega
  have i4 : [117, 32] ++ A ++ [32, 118, 32] ++ B ++ [32, 119] = X4 := by rw [e4, e3, e2, e1]
  rw [i4] at PX
  clear e1 e2 e3 e4 i4
  go_cut [7, 8] (fun p o wx => o = .bool true ∧ Boxed wx xX p ∧ Below V.heap.size V wx)
  case first =>
    refine wp_region_noPanic ?_
    refine wp_region_held_drew (S := fun w' => w'.cell? ⟨LB, a, none⟩ = some (.string ⟨A.toArray⟩) ∧ w'.cell? ⟨LB, b, none⟩ = some (.string ⟨B.toArray⟩)) (by kernel_rfl) ⟨cA, cB⟩ (fun hHeld => ?_)
    refine takeAt 0 (some 31) (.slice (some ⟨LB, 0, none⟩) 6 6) ⟨_, rfl, rfl, rfl, ?_⟩ (by kernel_rfl) (by kernel_rfl) (by kernel_rfl) (fun _ _ _ h => h) (by assumption) ?_
    · intro w0 hSw; clear hSw; go_simp; (first | done | (with_reducible rfl) | omega | (intro h; omega) | (rw [if_neg (by omega)]; done) | (rw [if_neg (by omega)]; simp only [j1, j2, j3, j4]; done) | (simp only [j1, j2, j3, j4]; rw [if_neg (by omega)]; done) | skip)
    simp only [Act.put, List.setIfInBounds_toArray, List.set_cons_zero, List.set_cons_succ]
    refine takeAt 1 (some 32) (.int .i64 (a : Int)) ⟨_, rfl, rfl, rfl, ?_⟩ (by kernel_rfl) (by kernel_rfl) (by kernel_rfl) (fun _ _ _ h => h) (by assumption) ?_
    · intro w0 hSw; clear hSw; go_simp; (first | done | (with_reducible rfl) | omega | (intro h; omega) | (rw [if_neg (by omega)]; done) | (rw [if_neg (by omega)]; simp only [j1, j2, j3, j4]; done) | (simp only [j1, j2, j3, j4]; rw [if_neg (by omega)]; done) | skip)
    simp only [Act.put, List.setIfInBounds_toArray, List.set_cons_zero, List.set_cons_succ]
    refine takeAt 2 (some 33) (.pointer (some ⟨LB, a, none⟩)) ⟨_, rfl, rfl, rfl, ?_⟩ (by kernel_rfl) (by kernel_rfl) (by kernel_rfl) (fun _ _ _ h => h) (by assumption) ?_
    · intro w0 hSw; clear hSw; go_simp; (first | done | (with_reducible rfl) | omega | (intro h; omega) | (rw [if_neg (by omega)]; done) | (rw [if_neg (by omega)]; simp only [j1, j2, j3, j4]; done) | (simp only [j1, j2, j3, j4]; rw [if_neg (by omega)]; done) | skip)
    simp only [Act.put, List.setIfInBounds_toArray, List.set_cons_zero, List.set_cons_succ]
    refine takeAt 3 (some 34) (.string ⟨A.toArray⟩) ⟨_, rfl, rfl, rfl, ?_⟩ (by kernel_rfl) (by kernel_rfl) (by kernel_rfl) (fun _ _ _ h => h) (by assumption) ?_
    · intro w0 hSw; obtain ⟨h1, h2⟩ := hSw; go_simp; (first | done | (with_reducible rfl) | omega | (intro h; omega) | (rw [if_neg (by omega)]; done) | (rw [if_neg (by omega)]; simp only [j1, j2, j3, j4]; done) | (simp only [j1, j2, j3, j4]; rw [if_neg (by omega)]; done) | skip)
    simp only [Act.put, List.setIfInBounds_toArray, List.set_cons_zero, List.set_cons_succ]
    refine takeAt 4 (some 35) (.string ⟨X1.toArray⟩) ⟨_, rfl, rfl, rfl, ?_⟩ (by kernel_rfl) (by kernel_rfl) (by kernel_rfl) (fun _ _ _ h => h) (by assumption) ?_
    · intro w0 hSw; clear hSw; go_simp; (first | done | (with_reducible rfl) | omega | (intro h; omega) | (rw [if_neg (by omega)]; done) | (rw [if_neg (by omega)]; simp only [j1, j2, j3, j4]; done) | (simp only [j1, j2, j3, j4]; rw [if_neg (by omega)]; done) | skip)
    simp only [Act.put, List.setIfInBounds_toArray, List.set_cons_zero, List.set_cons_succ]
    refine takeAt 5 (some 36) (.string ⟨X2.toArray⟩) ⟨_, rfl, rfl, rfl, ?_⟩ (by kernel_rfl) (by kernel_rfl) (by kernel_rfl) (fun _ _ _ h => h) (by assumption) ?_
    · intro w0 hSw; clear hSw; go_simp; (first | done | (with_reducible rfl) | omega | (intro h; omega) | (rw [if_neg (by omega)]; done) | (rw [if_neg (by omega)]; simp only [j1, j2, j3, j4]; done) | (simp only [j1, j2, j3, j4]; rw [if_neg (by omega)]; done) | skip)
    simp only [Act.put, List.setIfInBounds_toArray, List.set_cons_zero, List.set_cons_succ]
    refine takeAt 6 (some 37) (.slice (some ⟨LB, 0, none⟩) 6 6) ⟨_, rfl, rfl, rfl, ?_⟩ (by kernel_rfl) (by kernel_rfl) (by kernel_rfl) (fun _ _ _ h => h) (by assumption) ?_
    · intro w0 hSw; clear hSw; go_simp; (first | done | (with_reducible rfl) | omega | (intro h; omega) | (rw [if_neg (by omega)]; done) | (rw [if_neg (by omega)]; simp only [j1, j2, j3, j4]; done) | (simp only [j1, j2, j3, j4]; rw [if_neg (by omega)]; done) | skip)
    simp only [Act.put, List.setIfInBounds_toArray, List.set_cons_zero, List.set_cons_succ]
    refine takeAt 7 (some 38) (.int .i64 (b : Int)) ⟨_, rfl, rfl, rfl, ?_⟩ (by kernel_rfl) (by kernel_rfl) (by kernel_rfl) (fun _ _ _ h => h) (by assumption) ?_
    · intro w0 hSw; clear hSw; go_simp; (first | done | (with_reducible rfl) | omega | (intro h; omega) | (rw [if_neg (by omega)]; done) | (rw [if_neg (by omega)]; simp only [j1, j2, j3, j4]; done) | (simp only [j1, j2, j3, j4]; rw [if_neg (by omega)]; done) | skip)
    simp only [Act.put, List.setIfInBounds_toArray, List.set_cons_zero, List.set_cons_succ]
    refine takeAt 8 (some 39) (.pointer (some ⟨LB, b, none⟩)) ⟨_, rfl, rfl, rfl, ?_⟩ (by kernel_rfl) (by kernel_rfl) (by kernel_rfl) (fun _ _ _ h => h) (by assumption) ?_
    · intro w0 hSw; clear hSw; go_simp; (first | done | (with_reducible rfl) | omega | (intro h; omega) | (rw [if_neg (by omega)]; done) | (rw [if_neg (by omega)]; simp only [j1, j2, j3, j4]; done) | (simp only [j1, j2, j3, j4]; rw [if_neg (by omega)]; done) | skip)
    simp only [Act.put, List.setIfInBounds_toArray, List.set_cons_zero, List.set_cons_succ]
    refine takeAt 9 (some 40) (.string ⟨B.toArray⟩) ⟨_, rfl, rfl, rfl, ?_⟩ (by kernel_rfl) (by kernel_rfl) (by kernel_rfl) (fun _ _ _ h => h) (by assumption) ?_
    · intro w0 hSw; obtain ⟨h1, h2⟩ := hSw; go_simp; (first | done | (with_reducible rfl) | omega | (intro h; omega) | (rw [if_neg (by omega)]; done) | (rw [if_neg (by omega)]; simp only [j1, j2, j3, j4]; done) | (simp only [j1, j2, j3, j4]; rw [if_neg (by omega)]; done) | skip)
    simp only [Act.put, List.setIfInBounds_toArray, List.set_cons_zero, List.set_cons_succ]
    refine takeAt 10 (some 41) (.string ⟨X3.toArray⟩) ⟨_, rfl, rfl, rfl, ?_⟩ (by kernel_rfl) (by kernel_rfl) (by kernel_rfl) (fun _ _ _ h => h) (by assumption) ?_
    · intro w0 hSw; clear hSw; go_simp; (first | done | (with_reducible rfl) | omega | (intro h; omega) | (rw [if_neg (by omega)]; done) | (rw [if_neg (by omega)]; simp only [j1, j2, j3, j4]; done) | (simp only [j1, j2, j3, j4]; rw [if_neg (by omega)]; done) | skip)
    simp only [Act.put, List.setIfInBounds_toArray, List.set_cons_zero, List.set_cons_succ]
    refine takeAt 11 (some 42) (.string ⟨X4.toArray⟩) ⟨_, rfl, rfl, rfl, ?_⟩ (by kernel_rfl) (by kernel_rfl) (by kernel_rfl) (fun _ _ _ h => h) (by assumption) ?_
    · intro w0 hSw; clear hSw; go_simp; (first | done | (with_reducible rfl) | omega | (intro h; omega) | (rw [if_neg (by omega)]; done) | (rw [if_neg (by omega)]; simp only [j1, j2, j3, j4]; done) | (simp only [j1, j2, j3, j4]; rw [if_neg (by omega)]; done) | skip)
    simp only [Act.put, List.setIfInBounds_toArray, List.set_cons_zero, List.set_cons_succ]
    refine wpAnyH_ready (rs := [12, 16]) (by kernel_rfl) (by simp) ?_
    refine AllReadyH.cons rfl (fun K0 hK0 => ?_) (AllReadyH.cons rfl (fun K0 hK0 => ?_) AllReadyH.nil)
    · go_simp
      refine (unhide PX _ ((unhide SG).below (Below.refl _ _).drew)).mono ?_
      rintro e w1 ⟨⟨T, rfl, hinT, hbT⟩, b1'⟩
      dsimp only at hbT
      have b1 : Below V.heap.size V w1 := bstep (Below.refl _ _).drew b1'
      obtain ⟨fk, fb, fm, fs, ft, flo, fhi, fa, fl, fc, fkid, rfl⟩ := hinT.form
      have HT := hide (hinT.weak (Q' := fun _ => True) (fun _ _ _ => trivial))
      clear hinT b1'
      have XA := hide (XB.new w1 fk fb fm fs ft flo fhi fa fl fc 28)
      dsimp only [XT.val]
      go_wp2_with fail
      refine hK0.out _ _ ⟨kcell b1 LV cA, kcell b1 LV cB⟩ (fun hHeld1 => ?_)
      clear hK0 K0 hHeld
      have hHeld := hHeld1
      clear hHeld1
      try simp only [Act.put, List.setIfInBounds_toArray, List.set_cons_zero, List.set_cons_succ]
      refine takeAt 13 (some 30) (.tuple #[.agg #[.int .i64 fk, .bool fb, .int .i64 fm, .int .i64 fs, .string ft, .bool flo, .bool fhi, .slice fa fl fc], .bool true]) ⟨_, rfl, rfl, rfl, ?_⟩ (by kernel_rfl) (by kernel_rfl) (by kernel_rfl) (fun _ _ _ h => h) (by assumption) ?_
      · intro w0 hSw; clear hSw; go_simp; (first | done | (with_reducible rfl) | omega | (intro h; omega) | (rw [if_neg (by omega)]; done) | (rw [if_neg (by omega)]; simp only [j1, j2, j3, j4]; done) | (simp only [j1, j2, j3, j4]; rw [if_neg (by omega)]; done) | skip)
      simp only [Act.put, List.setIfInBounds_toArray, List.set_cons_zero, List.set_cons_succ]
      refine takeAt 14 (some 44) (.agg #[.int .i64 fk, .bool fb, .int .i64 fm, .int .i64 fs, .string ft, .bool flo, .bool fhi, .slice fa fl fc]) ⟨_, rfl, rfl, rfl, ?_⟩ (by kernel_rfl) (by kernel_rfl) (by kernel_rfl) (fun _ _ _ h => h) (by assumption) ?_
      · intro w0 hSw; clear hSw; go_simp; (first | done | (with_reducible rfl) | omega | (intro h; omega) | (rw [if_neg (by omega)]; done) | (rw [if_neg (by omega)]; simp only [j1, j2, j3, j4]; done) | (simp only [j1, j2, j3, j4]; rw [if_neg (by omega)]; done) | skip)
      simp only [Act.put, List.setIfInBounds_toArray, List.set_cons_zero, List.set_cons_succ]
      refine takeAt 15 (some 45) (.bool true) ⟨_, rfl, rfl, rfl, ?_⟩ (by kernel_rfl) (by kernel_rfl) (by kernel_rfl) (fun _ _ _ h => h) (by assumption) ?_
      · intro w0 hSw; clear hSw; go_simp; (first | done | (with_reducible rfl) | omega | (intro h; omega) | (rw [if_neg (by omega)]; done) | (rw [if_neg (by omega)]; simp only [j1, j2, j3, j4]; done) | (simp only [j1, j2, j3, j4]; rw [if_neg (by omega)]; done) | skip)
      simp only [Act.put, List.setIfInBounds_toArray, List.set_cons_zero, List.set_cons_succ]
      refine wpAnyH_ready (rs := [16]) (by kernel_rfl) (by simp) ?_
      refine AllReadyH.cons rfl (fun K0 hK0 => ?_) AllReadyH.nil
      go_simp
      refine hK0.out _ _ ⟨kcell (below1 _ _) (Nat.lt_of_lt_of_le LV b1.size) hHeld.1, kcell (below1 _ _) (Nat.lt_of_lt_of_le LV b1.size) hHeld.2⟩ (fun hHeld1 => ?_)
      clear hK0 K0
      try simp only [Act.put, List.setIfInBounds_toArray, List.set_cons_zero, List.set_cons_succ]
      refine wpAnyH_ready (rs := [17]) (by kernel_rfl) (by simp) ?_
      refine AllReadyH.cons rfl (fun K0 hK0 => ?_) AllReadyH.nil
      go_simp
      refine hK0.out _ _ ⟨kcell (below1 _ _) (Nat.lt_of_lt_of_le LV b1.size) hHeld.1, kcell (below1 _ _) (Nat.lt_of_lt_of_le LV b1.size) hHeld.2⟩ (fun hHeld2 => ?_)
      clear hK0 K0 hHeld hHeld1
      try simp only [Act.put, List.setIfInBounds_toArray, List.set_cons_zero, List.set_cons_succ]
      refine takeAt 18 (some 8) (.bool true) ⟨_, rfl, rfl, rfl, ?_⟩ (by kernel_rfl) (by kernel_rfl) (by kernel_rfl) (fun _ _ _ h => h) (by assumption) ?_
      · intro w0 hSw; clear hSw; go_simp; (first | done | (with_reducible rfl) | omega | (intro h; omega) | (rw [if_neg (by omega)]; done) | (rw [if_neg (by omega)]; simp only [j1, j2, j3, j4]; done) | (simp only [j1, j2, j3, j4]; rw [if_neg (by omega)]; done) | skip)
      simp only [Act.put, List.setIfInBounds_toArray, List.set_cons_zero, List.set_cons_succ]
      refine wpAnyH_done (by kernel_rfl) ?_ _
      refine NoPanic.normal ?_
      go_wp2_with fail
      go_meet
      exact ⟨rfl, ⟨_, rfl, _, _, _, _, _, _, _, _, _, _, _, unhide XA, (unhide HT).alloc _, hbT⟩, bstep b1 (below1 _ _)⟩
    · go_simp
      refine hK0.out _ _ ⟨kcell (below1 _ _) LV cA, kcell (below1 _ _) LV cB⟩ (fun hHeld1 => ?_)
      clear hK0 K0 hHeld
      try simp only [Act.put, List.setIfInBounds_toArray, List.set_cons_zero, List.set_cons_succ]
      have ez := hide (ZB.new V 28)
      refine wpAnyH_ready (rs := [12]) (by kernel_rfl) (by simp) ?_
      refine AllReadyH.cons rfl (fun K0 hK0 => ?_) AllReadyH.nil
      go_simp
      refine (unhide PX _ ((unhide SG).below (below1 _ _).drew)).mono ?_
      rintro e w1 ⟨⟨T, rfl, hinT, hbT⟩, b1'⟩
      dsimp only at hbT
      have b1 : Below V.heap.size V w1 := bstep (below1 _ _).drew b1'
      have Z1 := hide (((unhide ez).below (Below.refl _ _).drew).below b1')
      have z1 : V.heap.size + 1 ≤ w1.heap.size := by have := b1'.size; simpa using this
      obtain ⟨fk, fb, fm, fs, ft, flo, fhi, fa, fl, fc, fkid, rfl⟩ := hinT.form
      have HT := hide (hinT.weak (Q' := fun g => V.heap.size + 1 ≤ g) (fun g _ hg => by unfold Fr at hg; simp at hg; omega))
      clear hinT b1' ez hHeld1
      dsimp only [XT.val]
      go_wp2_with fail
      refine hK0.out _ _ ⟨kcell b1 LV cA, kcell b1 LV cB⟩ (fun hHeld => ?_)
      clear hK0 K0
      try simp only [Act.put, List.setIfInBounds_toArray, List.set_cons_zero, List.set_cons_succ]
      refine takeAt 13 (some 30) (.tuple #[.agg #[.int .i64 fk, .bool fb, .int .i64 fm, .int .i64 fs, .string ft, .bool flo, .bool fhi, .slice fa fl fc], .bool true]) ⟨_, rfl, rfl, rfl, ?_⟩ (by kernel_rfl) (by kernel_rfl) (by kernel_rfl) (fun _ _ _ h => h) (by assumption) ?_
      · intro w0 hSw; clear hSw; go_simp; (first | done | (with_reducible rfl) | omega | (intro h; omega) | (rw [if_neg (by omega)]; done) | (rw [if_neg (by omega)]; simp only [j1, j2, j3, j4]; done) | (simp only [j1, j2, j3, j4]; rw [if_neg (by omega)]; done) | skip)
      simp only [Act.put, List.setIfInBounds_toArray, List.set_cons_zero, List.set_cons_succ]
      refine takeAt 14 (some 44) (.agg #[.int .i64 fk, .bool fb, .int .i64 fm, .int .i64 fs, .string ft, .bool flo, .bool fhi, .slice fa fl fc]) ⟨_, rfl, rfl, rfl, ?_⟩ (by kernel_rfl) (by kernel_rfl) (by kernel_rfl) (fun _ _ _ h => h) (by assumption) ?_
      · intro w0 hSw; clear hSw; go_simp; (first | done | (with_reducible rfl) | omega | (intro h; omega) | (rw [if_neg (by omega)]; done) | (rw [if_neg (by omega)]; simp only [j1, j2, j3, j4]; done) | (simp only [j1, j2, j3, j4]; rw [if_neg (by omega)]; done) | skip)
      simp only [Act.put, List.setIfInBounds_toArray, List.set_cons_zero, List.set_cons_succ]
      refine takeAt 15 (some 45) (.bool true) ⟨_, rfl, rfl, rfl, ?_⟩ (by kernel_rfl) (by kernel_rfl) (by kernel_rfl) (fun _ _ _ h => h) (by assumption) ?_
      · intro w0 hSw; clear hSw; go_simp; (first | done | (with_reducible rfl) | omega | (intro h; omega) | (rw [if_neg (by omega)]; done) | (rw [if_neg (by omega)]; simp only [j1, j2, j3, j4]; done) | (simp only [j1, j2, j3, j4]; rw [if_neg (by omega)]; done) | skip)
      simp only [Act.put, List.setIfInBounds_toArray, List.set_cons_zero, List.set_cons_succ]
      refine wpAnyH_ready (rs := [17]) (by kernel_rfl) (by simp) ?_
      refine AllReadyH.cons rfl (fun K0 hK0 => ?_) AllReadyH.nil
      obtain ⟨y0, y1, y2, y3, y4, y5, y6, y7, y8, y9⟩ := unhide Z1
      go_simp
      refine hK0.out _ _ ⟨(cell8 (by omega) _ _ _ _ _ _ _ _).trans hHeld.1, (cell8 (by omega) _ _ _ _ _ _ _ _).trans hHeld.2⟩ (fun hHeld1 => ?_)
      clear hK0 K0 hHeld y1 y2 y3 y4 y5 y6 y7 y8 y9
      try simp only [Act.put, List.setIfInBounds_toArray, List.set_cons_zero, List.set_cons_succ]
      refine takeAt 18 (some 8) (.bool true) ⟨_, rfl, rfl, rfl, ?_⟩ (by kernel_rfl) (by kernel_rfl) (by kernel_rfl) (fun _ _ _ h => h) (by assumption) ?_
      · intro w0 hSw; clear hSw; go_simp; (first | done | (with_reducible rfl) | omega | (intro h; omega) | (rw [if_neg (by omega)]; done) | (rw [if_neg (by omega)]; simp only [j1, j2, j3, j4]; done) | (simp only [j1, j2, j3, j4]; rw [if_neg (by omega)]; done) | skip)
      simp only [Act.put, List.setIfInBounds_toArray, List.set_cons_zero, List.set_cons_succ]
      refine wpAnyH_done (by kernel_rfl) ?_ _
      refine NoPanic.normal ?_
      go_wp2_with fail
      go_meet
      refine ⟨rfl, ⟨_, rfl, _, _, _, _, _, _, _, _, _, _, _, (unhide Z1).put _ _ _ _ _ _ _ _ _ _, ?_, hbT⟩, by (repeat (first | with_reducible assumption | with_reducible exact Below.refl _ _ | (with_reducible refine Below.setCell ?_ ?_ _; rotate_left; (focus (first | omega | (simp; done) | (simp; omega) | (dsimp only; omega)))) | (with_reducible refine Below.alloc ?_ ?_ _; rotate_left; (focus (first | omega | (simp; done) | (simp; omega) | (dsimp only; omega)))) | with_reducible refine Below.drew ?_ | with_reducible refine below_dN ?_ _))⟩
      refine XT.In.weak (Q := fun g => V.heap.size + 1 ≤ g) ?_ (fun _ _ _ => trivial)
      have HT2 := unhide HT
      (repeat (first | with_reducible assumption | with_reducible refine XT.In.alloc ?_ _ | with_reducible refine XT.In.drew ?_ | with_reducible refine XT.In.drewN ?_ _ | (with_reducible refine XT.In.set ?_ ?_ _; rotate_left; (intro g hg; (focus (first | omega | (simp; done) | (simp; omega) | (dsimp only; omega)))))))
  case rest =>
    obtain ⟨rfl, bx, bV⟩ := hcut
    have BXX := hide bx
    clear bx
    have cA' := kcell bV LV cA
    have cB' := kcell bV LV cB
    have rA' := kcell bV RV rA
    have rB' := kcell bV RV rB
    have SG' := hide ((unhide SG).below bV)
    have B0' := hide (bstep (unhide B0) bV)
    have LV' := Nat.lt_of_lt_of_le LV bV.size
    have RV' := Nat.lt_of_lt_of_le RV bV.size
    clear bV cA cB rA rB SG B0 LV RV j1 j2 j3 j4 i1 i2 i3 PX
    have cA := cA'
    clear cA'
    have cB := cB'
    clear cB'
    have rA := rA'
    clear rA'
    have rB := rB'
    clear rB'
    have SG := SG'
    clear SG'
    have B0 := B0'
    clear B0'
    have LV := LV'
    clear LV'
    have RV := RV'
    clear RV'
    go_upto_region 6 with fail
    obtain ⟨Y1, e1⟩ : ∃ l, l = [40, 117, 32] ++ A := ⟨_, rfl⟩
    obtain ⟨Y2, e2⟩ : ∃ l, l = Y1 ++ [32, 118, 41, 32] := ⟨_, rfl⟩
    obtain ⟨Y3, e3⟩ : ∃ l, l = Y2 ++ B := ⟨_, rfl⟩
    obtain ⟨Y4, e4⟩ : ∃ l, l = Y3 ++ [32, 119] := ⟨_, rfl⟩
    have j1 : (⟨#[40, 117, 32]⟩ : ByteArray) ++ ⟨A.toArray⟩ = ⟨Y1.toArray⟩ := by rw [e1]; exact dba_app _ _
    have j2 : (⟨Y1.toArray⟩ : ByteArray) ++ ⟨#[32, 118, 41, 32]⟩ = ⟨Y2.toArray⟩ := by rw [e2]; exact dba_app _ _
    have j3 : (⟨Y2.toArray⟩ : ByteArray) ++ ⟨B.toArray⟩ = ⟨Y3.toArray⟩ := by rw [e3]; exact dba_app _ _
    have j4 : (⟨Y3.toArray⟩ : ByteArray) ++ ⟨#[32, 119]⟩ = ⟨Y4.toArray⟩ := by rw [e4]; exact dba_app _ _
    have i1 : Y1.length ≤ 10 := by rw [e1]; simp; omega
    have i2 : Y2.length ≤ 20 := by rw [e2]; simp; omega
    have i3 : Y3.length ≤ 30 := by rw [e3]; simp; omega
    have i4 : [40, 117, 32] ++ A ++ [32, 118, 41, 32] ++ B ++ [32, 119] = Y4 := by rw [e4, e3, e2, e1]
    rw [i4] at PY
    clear e1 e2 e3 e4 i4
    go_cut [9, 10] (fun p o wx => o = .bool true ∧ Boxed wx xY p ∧ Below wc.heap.size wc wx)
    case first =>
      refine wp_region_noPanic ?_
      refine wp_region_held_drew (S := fun w' => w'.cell? ⟨LB, a, none⟩ = some (.string ⟨A.toArray⟩) ∧ w'.cell? ⟨LB, b, none⟩ = some (.string ⟨B.toArray⟩)) (by kernel_rfl) ⟨cA, cB⟩ (fun hHeld => ?_)
      refine takeAt 0 (some 47) (.slice (some ⟨LB, 0, none⟩) 6 6) ⟨_, rfl, rfl, rfl, ?_⟩ (by kernel_rfl) (by kernel_rfl) (by kernel_rfl) (fun _ _ _ h => h) (by assumption) ?_
      · intro w0 hSw; clear hSw; go_simp; (first | done | (with_reducible rfl) | omega | (intro h; omega) | (rw [if_neg (by omega)]; done) | (rw [if_neg (by omega)]; simp only [j1, j2, j3, j4]; done) | (simp only [j1, j2, j3, j4]; rw [if_neg (by omega)]; done) | skip)
      simp only [Act.put, List.setIfInBounds_toArray, List.set_cons_zero, List.set_cons_succ]
      refine takeAt 1 (some 48) (.int .i64 (a : Int)) ⟨_, rfl, rfl, rfl, ?_⟩ (by kernel_rfl) (by kernel_rfl) (by kernel_rfl) (fun _ _ _ h => h) (by assumption) ?_
      · intro w0 hSw; clear hSw; go_simp; (first | done | (with_reducible rfl) | omega | (intro h; omega) | (rw [if_neg (by omega)]; done) | (rw [if_neg (by omega)]; simp only [j1, j2, j3, j4]; done) | (simp only [j1, j2, j3, j4]; rw [if_neg (by omega)]; done) | skip)
      simp only [Act.put, List.setIfInBounds_toArray, List.set_cons_zero, List.set_cons_succ]
      refine takeAt 2 (some 49) (.pointer (some ⟨LB, a, none⟩)) ⟨_, rfl, rfl, rfl, ?_⟩ (by kernel_rfl) (by kernel_rfl) (by kernel_rfl) (fun _ _ _ h => h) (by assumption) ?_
      · intro w0 hSw; clear hSw; go_simp; (first | done | (with_reducible rfl) | omega | (intro h; omega) | (rw [if_neg (by omega)]; done) | (rw [if_neg (by omega)]; simp only [j1, j2, j3, j4]; done) | (simp only [j1, j2, j3, j4]; rw [if_neg (by omega)]; done) | skip)
      simp only [Act.put, List.setIfInBounds_toArray, List.set_cons_zero, List.set_cons_succ]
      refine takeAt 3 (some 50) (.string ⟨A.toArray⟩) ⟨_, rfl, rfl, rfl, ?_⟩ (by kernel_rfl) (by kernel_rfl) (by kernel_rfl) (fun _ _ _ h => h) (by assumption) ?_
      · intro w0 hSw; obtain ⟨h1, h2⟩ := hSw; go_simp; (first | done | (with_reducible rfl) | omega | (intro h; omega) | (rw [if_neg (by omega)]; done) | (rw [if_neg (by omega)]; simp only [j1, j2, j3, j4]; done) | (simp only [j1, j2, j3, j4]; rw [if_neg (by omega)]; done) | skip)
      simp only [Act.put, List.setIfInBounds_toArray, List.set_cons_zero, List.set_cons_succ]
      refine takeAt 4 (some 51) (.string ⟨Y1.toArray⟩) ⟨_, rfl, rfl, rfl, ?_⟩ (by kernel_rfl) (by kernel_rfl) (by kernel_rfl) (fun _ _ _ h => h) (by assumption) ?_
      · intro w0 hSw; clear hSw; go_simp; (first | done | (with_reducible rfl) | omega | (intro h; omega) | (rw [if_neg (by omega)]; done) | (rw [if_neg (by omega)]; simp only [j1, j2, j3, j4]; done) | (simp only [j1, j2, j3, j4]; rw [if_neg (by omega)]; done) | skip)
      simp only [Act.put, List.setIfInBounds_toArray, List.set_cons_zero, List.set_cons_succ]
      refine takeAt 5 (some 52) (.string ⟨Y2.toArray⟩) ⟨_, rfl, rfl, rfl, ?_⟩ (by kernel_rfl) (by kernel_rfl) (by kernel_rfl) (fun _ _ _ h => h) (by assumption) ?_
      · intro w0 hSw; clear hSw; go_simp; (first | done | (with_reducible rfl) | omega | (intro h; omega) | (rw [if_neg (by omega)]; done) | (rw [if_neg (by omega)]; simp only [j1, j2, j3, j4]; done) | (simp only [j1, j2, j3, j4]; rw [if_neg (by omega)]; done) | skip)
      simp only [Act.put, List.setIfInBounds_toArray, List.set_cons_zero, List.set_cons_succ]
      refine takeAt 6 (some 53) (.slice (some ⟨LB, 0, none⟩) 6 6) ⟨_, rfl, rfl, rfl, ?_⟩ (by kernel_rfl) (by kernel_rfl) (by kernel_rfl) (fun _ _ _ h => h) (by assumption) ?_
      · intro w0 hSw; clear hSw; go_simp; (first | done | (with_reducible rfl) | omega | (intro h; omega) | (rw [if_neg (by omega)]; done) | (rw [if_neg (by omega)]; simp only [j1, j2, j3, j4]; done) | (simp only [j1, j2, j3, j4]; rw [if_neg (by omega)]; done) | skip)
      simp only [Act.put, List.setIfInBounds_toArray, List.set_cons_zero, List.set_cons_succ]
      refine takeAt 7 (some 54) (.int .i64 (b : Int)) ⟨_, rfl, rfl, rfl, ?_⟩ (by kernel_rfl) (by kernel_rfl) (by kernel_rfl) (fun _ _ _ h => h) (by assumption) ?_
      · intro w0 hSw; clear hSw; go_simp; (first | done | (with_reducible rfl) | omega | (intro h; omega) | (rw [if_neg (by omega)]; done) | (rw [if_neg (by omega)]; simp only [j1, j2, j3, j4]; done) | (simp only [j1, j2, j3, j4]; rw [if_neg (by omega)]; done) | skip)
      simp only [Act.put, List.setIfInBounds_toArray, List.set_cons_zero, List.set_cons_succ]
      refine takeAt 8 (some 55) (.pointer (some ⟨LB, b, none⟩)) ⟨_, rfl, rfl, rfl, ?_⟩ (by kernel_rfl) (by kernel_rfl) (by kernel_rfl) (fun _ _ _ h => h) (by assumption) ?_
      · intro w0 hSw; clear hSw; go_simp; (first | done | (with_reducible rfl) | omega | (intro h; omega) | (rw [if_neg (by omega)]; done) | (rw [if_neg (by omega)]; simp only [j1, j2, j3, j4]; done) | (simp only [j1, j2, j3, j4]; rw [if_neg (by omega)]; done) | skip)
      simp only [Act.put, List.setIfInBounds_toArray, List.set_cons_zero, List.set_cons_succ]
      refine takeAt 9 (some 56) (.string ⟨B.toArray⟩) ⟨_, rfl, rfl, rfl, ?_⟩ (by kernel_rfl) (by kernel_rfl) (by kernel_rfl) (fun _ _ _ h => h) (by assumption) ?_
      · intro w0 hSw; obtain ⟨h1, h2⟩ := hSw; go_simp; (first | done | (with_reducible rfl) | omega | (intro h; omega) | (rw [if_neg (by omega)]; done) | (rw [if_neg (by omega)]; simp only [j1, j2, j3, j4]; done) | (simp only [j1, j2, j3, j4]; rw [if_neg (by omega)]; done) | skip)
      simp only [Act.put, List.setIfInBounds_toArray, List.set_cons_zero, List.set_cons_succ]
      refine takeAt 10 (some 57) (.string ⟨Y3.toArray⟩) ⟨_, rfl, rfl, rfl, ?_⟩ (by kernel_rfl) (by kernel_rfl) (by kernel_rfl) (fun _ _ _ h => h) (by assumption) ?_
      · intro w0 hSw; clear hSw; go_simp; (first | done | (with_reducible rfl) | omega | (intro h; omega) | (rw [if_neg (by omega)]; done) | (rw [if_neg (by omega)]; simp only [j1, j2, j3, j4]; done) | (simp only [j1, j2, j3, j4]; rw [if_neg (by omega)]; done) | skip)
      simp only [Act.put, List.setIfInBounds_toArray, List.set_cons_zero, List.set_cons_succ]
      refine takeAt 11 (some 58) (.string ⟨Y4.toArray⟩) ⟨_, rfl, rfl, rfl, ?_⟩ (by kernel_rfl) (by kernel_rfl) (by kernel_rfl) (fun _ _ _ h => h) (by assumption) ?_
      · intro w0 hSw; clear hSw; go_simp; (first | done | (with_reducible rfl) | omega | (intro h; omega) | (rw [if_neg (by omega)]; done) | (rw [if_neg (by omega)]; simp only [j1, j2, j3, j4]; done) | (simp only [j1, j2, j3, j4]; rw [if_neg (by omega)]; done) | skip)
      simp only [Act.put, List.setIfInBounds_toArray, List.set_cons_zero, List.set_cons_succ]
      refine wpAnyH_ready (rs := [12, 16]) (by kernel_rfl) (by simp) ?_
      refine AllReadyH.cons rfl (fun K0 hK0 => ?_) (AllReadyH.cons rfl (fun K0 hK0 => ?_) AllReadyH.nil)
      · go_simp
        refine (unhide PY _ ((unhide SG).below (Below.refl _ _).drew)).mono ?_
        rintro e w1 ⟨⟨T, rfl, hinT, hbT⟩, b1'⟩
        dsimp only at hbT
        have b1 : Below wc.heap.size wc w1 := bstep (Below.refl _ _).drew b1'
        obtain ⟨fk, fb, fm, fs, ft, flo, fhi, fa, fl, fc, fkid, rfl⟩ := hinT.form
        have HT := hide (hinT.weak (Q' := fun _ => True) (fun _ _ _ => trivial))
        clear hinT b1'
        have XA := hide (XB.new w1 fk fb fm fs ft flo fhi fa fl fc 28)
        dsimp only [XT.val]
        go_wp2_with fail
        refine hK0.out _ _ ⟨kcell b1 LV cA, kcell b1 LV cB⟩ (fun hHeld1 => ?_)
        clear hK0 K0 hHeld
        have hHeld := hHeld1
        clear hHeld1
        try simp only [Act.put, List.setIfInBounds_toArray, List.set_cons_zero, List.set_cons_succ]
        refine takeAt 13 (some 46) (.tuple #[.agg #[.int .i64 fk, .bool fb, .int .i64 fm, .int .i64 fs, .string ft, .bool flo, .bool fhi, .slice fa fl fc], .bool true]) ⟨_, rfl, rfl, rfl, ?_⟩ (by kernel_rfl) (by kernel_rfl) (by kernel_rfl) (fun _ _ _ h => h) (by assumption) ?_
        · intro w0 hSw; clear hSw; go_simp; (first | done | (with_reducible rfl) | omega | (intro h; omega) | (rw [if_neg (by omega)]; done) | (rw [if_neg (by omega)]; simp only [j1, j2, j3, j4]; done) | (simp only [j1, j2, j3, j4]; rw [if_neg (by omega)]; done) | skip)
        simp only [Act.put, List.setIfInBounds_toArray, List.set_cons_zero, List.set_cons_succ]
        refine takeAt 14 (some 60) (.agg #[.int .i64 fk, .bool fb, .int .i64 fm, .int .i64 fs, .string ft, .bool flo, .bool fhi, .slice fa fl fc]) ⟨_, rfl, rfl, rfl, ?_⟩ (by kernel_rfl) (by kernel_rfl) (by kernel_rfl) (fun _ _ _ h => h) (by assumption) ?_
        · intro w0 hSw; clear hSw; go_simp; (first | done | (with_reducible rfl) | omega | (intro h; omega) | (rw [if_neg (by omega)]; done) | (rw [if_neg (by omega)]; simp only [j1, j2, j3, j4]; done) | (simp only [j1, j2, j3, j4]; rw [if_neg (by omega)]; done) | skip)
        simp only [Act.put, List.setIfInBounds_toArray, List.set_cons_zero, List.set_cons_succ]
        refine takeAt 15 (some 61) (.bool true) ⟨_, rfl, rfl, rfl, ?_⟩ (by kernel_rfl) (by kernel_rfl) (by kernel_rfl) (fun _ _ _ h => h) (by assumption) ?_
        · intro w0 hSw; clear hSw; go_simp; (first | done | (with_reducible rfl) | omega | (intro h; omega) | (rw [if_neg (by omega)]; done) | (rw [if_neg (by omega)]; simp only [j1, j2, j3, j4]; done) | (simp only [j1, j2, j3, j4]; rw [if_neg (by omega)]; done) | skip)
        simp only [Act.put, List.setIfInBounds_toArray, List.set_cons_zero, List.set_cons_succ]
        refine wpAnyH_ready (rs := [16]) (by kernel_rfl) (by simp) ?_
        refine AllReadyH.cons rfl (fun K0 hK0 => ?_) AllReadyH.nil
        go_simp
        refine hK0.out _ _ ⟨kcell (below1 _ _) (Nat.lt_of_lt_of_le LV b1.size) hHeld.1, kcell (below1 _ _) (Nat.lt_of_lt_of_le LV b1.size) hHeld.2⟩ (fun hHeld1 => ?_)
        clear hK0 K0
        try simp only [Act.put, List.setIfInBounds_toArray, List.set_cons_zero, List.set_cons_succ]
        refine wpAnyH_ready (rs := [17]) (by kernel_rfl) (by simp) ?_
        refine AllReadyH.cons rfl (fun K0 hK0 => ?_) AllReadyH.nil
        go_simp
        refine hK0.out _ _ ⟨kcell (below1 _ _) (Nat.lt_of_lt_of_le LV b1.size) hHeld.1, kcell (below1 _ _) (Nat.lt_of_lt_of_le LV b1.size) hHeld.2⟩ (fun hHeld2 => ?_)
        clear hK0 K0 hHeld hHeld1
        try simp only [Act.put, List.setIfInBounds_toArray, List.set_cons_zero, List.set_cons_succ]
        refine takeAt 18 (some 10) (.bool true) ⟨_, rfl, rfl, rfl, ?_⟩ (by kernel_rfl) (by kernel_rfl) (by kernel_rfl) (fun _ _ _ h => h) (by assumption) ?_
        · intro w0 hSw; clear hSw; go_simp; (first | done | (with_reducible rfl) | omega | (intro h; omega) | (rw [if_neg (by omega)]; done) | (rw [if_neg (by omega)]; simp only [j1, j2, j3, j4]; done) | (simp only [j1, j2, j3, j4]; rw [if_neg (by omega)]; done) | skip)
        simp only [Act.put, List.setIfInBounds_toArray, List.set_cons_zero, List.set_cons_succ]
        refine wpAnyH_done (by kernel_rfl) ?_ _
        refine NoPanic.normal ?_
        go_wp2_with fail
        go_meet
        exact ⟨rfl, ⟨_, rfl, _, _, _, _, _, _, _, _, _, _, _, unhide XA, (unhide HT).alloc _, hbT⟩, bstep b1 (below1 _ _)⟩
      · go_simp
        refine hK0.out _ _ ⟨kcell (below1 _ _) LV cA, kcell (below1 _ _) LV cB⟩ (fun hHeld1 => ?_)
        clear hK0 K0 hHeld
        try simp only [Act.put, List.setIfInBounds_toArray, List.set_cons_zero, List.set_cons_succ]
        have ez := hide (ZB.new wc 28)
        refine wpAnyH_ready (rs := [12]) (by kernel_rfl) (by simp) ?_
        refine AllReadyH.cons rfl (fun K0 hK0 => ?_) AllReadyH.nil
        go_simp
        refine (unhide PY _ ((unhide SG).below (below1 _ _).drew)).mono ?_
        rintro e w1 ⟨⟨T, rfl, hinT, hbT⟩, b1'⟩
        dsimp only at hbT
        have b1 : Below wc.heap.size wc w1 := bstep (below1 _ _).drew b1'
        have Z1 := hide (((unhide ez).below (Below.refl _ _).drew).below b1')
        have z1 : wc.heap.size + 1 ≤ w1.heap.size := by have := b1'.size; simpa using this
        obtain ⟨fk, fb, fm, fs, ft, flo, fhi, fa, fl, fc, fkid, rfl⟩ := hinT.form
        have HT := hide (hinT.weak (Q' := fun g => wc.heap.size + 1 ≤ g) (fun g _ hg => by unfold Fr at hg; simp at hg; omega))
        clear hinT b1' ez hHeld1
        dsimp only [XT.val]
        go_wp2_with fail
        refine hK0.out _ _ ⟨kcell b1 LV cA, kcell b1 LV cB⟩ (fun hHeld => ?_)
        clear hK0 K0
        try simp only [Act.put, List.setIfInBounds_toArray, List.set_cons_zero, List.set_cons_succ]
        refine takeAt 13 (some 46) (.tuple #[.agg #[.int .i64 fk, .bool fb, .int .i64 fm, .int .i64 fs, .string ft, .bool flo, .bool fhi, .slice fa fl fc], .bool true]) ⟨_, rfl, rfl, rfl, ?_⟩ (by kernel_rfl) (by kernel_rfl) (by kernel_rfl) (fun _ _ _ h => h) (by assumption) ?_
        · intro w0 hSw; clear hSw; go_simp; (first | done | (with_reducible rfl) | omega | (intro h; omega) | (rw [if_neg (by omega)]; done) | (rw [if_neg (by omega)]; simp only [j1, j2, j3, j4]; done) | (simp only [j1, j2, j3, j4]; rw [if_neg (by omega)]; done) | skip)
        simp only [Act.put, List.setIfInBounds_toArray, List.set_cons_zero, List.set_cons_succ]
        refine takeAt 14 (some 60) (.agg #[.int .i64 fk, .bool fb, .int .i64 fm, .int .i64 fs, .string ft, .bool flo, .bool fhi, .slice fa fl fc]) ⟨_, rfl, rfl, rfl, ?_⟩ (by kernel_rfl) (by kernel_rfl) (by kernel_rfl) (fun _ _ _ h => h) (by assumption) ?_
        · intro w0 hSw; clear hSw; go_simp; (first | done | (with_reducible rfl) | omega | (intro h; omega) | (rw [if_neg (by omega)]; done) | (rw [if_neg (by omega)]; simp only [j1, j2, j3, j4]; done) | (simp only [j1, j2, j3, j4]; rw [if_neg (by omega)]; done) | skip)
        simp only [Act.put, List.setIfInBounds_toArray, List.set_cons_zero, List.set_cons_succ]
        refine takeAt 15 (some 61) (.bool true) ⟨_, rfl, rfl, rfl, ?_⟩ (by kernel_rfl) (by kernel_rfl) (by kernel_rfl) (fun _ _ _ h => h) (by assumption) ?_
        · intro w0 hSw; clear hSw; go_simp; (first | done | (with_reducible rfl) | omega | (intro h; omega) | (rw [if_neg (by omega)]; done) | (rw [if_neg (by omega)]; simp only [j1, j2, j3, j4]; done) | (simp only [j1, j2, j3, j4]; rw [if_neg (by omega)]; done) | skip)
        simp only [Act.put, List.setIfInBounds_toArray, List.set_cons_zero, List.set_cons_succ]
        refine wpAnyH_ready (rs := [17]) (by kernel_rfl) (by simp) ?_
        refine AllReadyH.cons rfl (fun K0 hK0 => ?_) AllReadyH.nil
        obtain ⟨y0, y1, y2, y3, y4, y5, y6, y7, y8, y9⟩ := unhide Z1
        go_simp
        refine hK0.out _ _ ⟨(cell8 (by omega) _ _ _ _ _ _ _ _).trans hHeld.1, (cell8 (by omega) _ _ _ _ _ _ _ _).trans hHeld.2⟩ (fun hHeld1 => ?_)
        clear hK0 K0 hHeld y1 y2 y3 y4 y5 y6 y7 y8 y9
        try simp only [Act.put, List.setIfInBounds_toArray, List.set_cons_zero, List.set_cons_succ]
        refine takeAt 18 (some 10) (.bool true) ⟨_, rfl, rfl, rfl, ?_⟩ (by kernel_rfl) (by kernel_rfl) (by kernel_rfl) (fun _ _ _ h => h) (by assumption) ?_
        · intro w0 hSw; clear hSw; go_simp; (first | done | (with_reducible rfl) | omega | (intro h; omega) | (rw [if_neg (by omega)]; done) | (rw [if_neg (by omega)]; simp only [j1, j2, j3, j4]; done) | (simp only [j1, j2, j3, j4]; rw [if_neg (by omega)]; done) | skip)
        simp only [Act.put, List.setIfInBounds_toArray, List.set_cons_zero, List.set_cons_succ]
        refine wpAnyH_done (by kernel_rfl) ?_ _
        refine NoPanic.normal ?_
        go_wp2_with fail
        go_meet
        refine ⟨rfl, ⟨_, rfl, _, _, _, _, _, _, _, _, _, _, _, (unhide Z1).put _ _ _ _ _ _ _ _ _ _, ?_, hbT⟩, by (repeat (first | with_reducible assumption | with_reducible exact Below.refl _ _ | (with_reducible refine Below.setCell ?_ ?_ _; rotate_left; (focus (first | omega | (simp; done) | (simp; omega) | (dsimp only; omega)))) | (with_reducible refine Below.alloc ?_ ?_ _; rotate_left; (focus (first | omega | (simp; done) | (simp; omega) | (dsimp only; omega)))) | with_reducible refine Below.drew ?_ | with_reducible refine below_dN ?_ _))⟩
        refine XT.In.weak (Q := fun g => wc.heap.size + 1 ≤ g) ?_ (fun _ _ _ => trivial)
        have HT2 := unhide HT
        (repeat (first | with_reducible assumption | with_reducible refine XT.In.alloc ?_ _ | with_reducible refine XT.In.drew ?_ | with_reducible refine XT.In.drewN ?_ _ | (with_reducible refine XT.In.set ?_ ?_ _; rotate_left; (intro g hg; (focus (first | omega | (simp; done) | (simp; omega) | (dsimp only; omega)))))))
    case rest =>
      obtain ⟨rfl, bx, bV⟩ := hcut
      have BXY := hide bx
      clear bx
      have cA' := kcell bV LV cA
      have cB' := kcell bV LV cB
      have rA' := kcell bV RV rA
      have rB' := kcell bV RV rB
      have SG' := hide ((unhide SG).below bV)
      have B0' := hide (bstep (unhide B0) bV)
      have LV' := Nat.lt_of_lt_of_le LV bV.size
      have RV' := Nat.lt_of_lt_of_le RV bV.size
      have BXX' := hide ((unhide BXX).below bV)
      clear BXX
      have BXX := BXX'
      clear BXX'
      clear bV cA cB rA rB SG B0 LV RV j1 j2 j3 j4 i1 i2 i3 PY
      have cA := cA'
      clear cA'
      have cB := cB'
      clear cB'
      have rA := rA'
      clear rA'
      have rB := rB'
      clear rB'
      have SG := SG'
      clear SG'
      have B0 := B0'
      clear B0'
      have LV := LV'
      clear LV'
      have RV := RV'
      clear RV'
      go_upto_region 7 with fail
      obtain ⟨Z1, e1⟩ : ∃ l, l = [117, 32] ++ A := ⟨_, rfl⟩
      obtain ⟨Z2, e2⟩ : ∃ l, l = Z1 ++ [32, 40, 118, 32] := ⟨_, rfl⟩
      obtain ⟨Z3, e3⟩ : ∃ l, l = Z2 ++ B := ⟨_, rfl⟩
      obtain ⟨Z4, e4⟩ : ∃ l, l = Z3 ++ [32, 119, 41] := ⟨_, rfl⟩
      have j1 : (⟨#[117, 32]⟩ : ByteArray) ++ ⟨A.toArray⟩ = ⟨Z1.toArray⟩ := by rw [e1]; exact dba_app _ _
      have j2 : (⟨Z1.toArray⟩ : ByteArray) ++ ⟨#[32, 40, 118, 32]⟩ = ⟨Z2.toArray⟩ := by rw [e2]; exact dba_app _ _
      have j3 : (⟨Z2.toArray⟩ : ByteArray) ++ ⟨B.toArray⟩ = ⟨Z3.toArray⟩ := by rw [e3]; exact dba_app _ _
      have j4 : (⟨Z3.toArray⟩ : ByteArray) ++ ⟨#[32, 119, 41]⟩ = ⟨Z4.toArray⟩ := by rw [e4]; exact dba_app _ _
      have i1 : Z1.length ≤ 10 := by rw [e1]; simp; omega
      have i2 : Z2.length ≤ 20 := by rw [e2]; simp; omega
      have i3 : Z3.length ≤ 30 := by rw [e3]; simp; omega
      have i4 : [117, 32] ++ A ++ [32, 40, 118, 32] ++ B ++ [32, 119, 41] = Z4 := by rw [e4, e3, e2, e1]
      rw [i4] at PZ
      clear e1 e2 e3 e4 i4
      go_cut [11, 12] (fun p o wx => o = .bool true ∧ Boxed wx xZ p ∧ Below wc.heap.size wc wx)
      case first =>
        refine wp_region_noPanic ?_
        refine wp_region_held_drew (S := fun w' => w'.cell? ⟨LB, a, none⟩ = some (.string ⟨A.toArray⟩) ∧ w'.cell? ⟨LB, b, none⟩ = some (.string ⟨B.toArray⟩)) (by kernel_rfl) ⟨cA, cB⟩ (fun hHeld => ?_)
        refine takeAt 0 (some 63) (.slice (some ⟨LB, 0, none⟩) 6 6) ⟨_, rfl, rfl, rfl, ?_⟩ (by kernel_rfl) (by kernel_rfl) (by kernel_rfl) (fun _ _ _ h => h) (by assumption) ?_
        · intro w0 hSw; clear hSw; go_simp; (first | done | (with_reducible rfl) | omega | (intro h; omega) | (rw [if_neg (by omega)]; done) | (rw [if_neg (by omega)]; simp only [j1, j2, j3, j4]; done) | (simp only [j1, j2, j3, j4]; rw [if_neg (by omega)]; done) | skip)
        simp only [Act.put, List.setIfInBounds_toArray, List.set_cons_zero, List.set_cons_succ]
        refine takeAt 1 (some 64) (.int .i64 (a : Int)) ⟨_, rfl, rfl, rfl, ?_⟩ (by kernel_rfl) (by kernel_rfl) (by kernel_rfl) (fun _ _ _ h => h) (by assumption) ?_
        · intro w0 hSw; clear hSw; go_simp; (first | done | (with_reducible rfl) | omega | (intro h; omega) | (rw [if_neg (by omega)]; done) | (rw [if_neg (by omega)]; simp only [j1, j2, j3, j4]; done) | (simp only [j1, j2, j3, j4]; rw [if_neg (by omega)]; done) | skip)
        simp only [Act.put, List.setIfInBounds_toArray, List.set_cons_zero, List.set_cons_succ]
        refine takeAt 2 (some 65) (.pointer (some ⟨LB, a, none⟩)) ⟨_, rfl, rfl, rfl, ?_⟩ (by kernel_rfl) (by kernel_rfl) (by kernel_rfl) (fun _ _ _ h => h) (by assumption) ?_
        · intro w0 hSw; clear hSw; go_simp; (first | done | (with_reducible rfl) | omega | (intro h; omega) | (rw [if_neg (by omega)]; done) | (rw [if_neg (by omega)]; simp only [j1, j2, j3, j4]; done) | (simp only [j1, j2, j3, j4]; rw [if_neg (by omega)]; done) | skip)
        simp only [Act.put, List.setIfInBounds_toArray, List.set_cons_zero, List.set_cons_succ]
        refine takeAt 3 (some 66) (.string ⟨A.toArray⟩) ⟨_, rfl, rfl, rfl, ?_⟩ (by kernel_rfl) (by kernel_rfl) (by kernel_rfl) (fun _ _ _ h => h) (by assumption) ?_
        · intro w0 hSw; obtain ⟨h1, h2⟩ := hSw; go_simp; (first | done | (with_reducible rfl) | omega | (intro h; omega) | (rw [if_neg (by omega)]; done) | (rw [if_neg (by omega)]; simp only [j1, j2, j3, j4]; done) | (simp only [j1, j2, j3, j4]; rw [if_neg (by omega)]; done) | skip)
        simp only [Act.put, List.setIfInBounds_toArray, List.set_cons_zero, List.set_cons_succ]
        refine takeAt 4 (some 67) (.string ⟨Z1.toArray⟩) ⟨_, rfl, rfl, rfl, ?_⟩ (by kernel_rfl) (by kernel_rfl) (by kernel_rfl) (fun _ _ _ h => h) (by assumption) ?_
        · intro w0 hSw; clear hSw; go_simp; (first | done | (with_reducible rfl) | omega | (intro h; omega) | (rw [if_neg (by omega)]; done) | (rw [if_neg (by omega)]; simp only [j1, j2, j3, j4]; done) | (simp only [j1, j2, j3, j4]; rw [if_neg (by omega)]; done) | skip)
        simp only [Act.put, List.setIfInBounds_toArray, List.set_cons_zero, List.set_cons_succ]
        refine takeAt 5 (some 68) (.string ⟨Z2.toArray⟩) ⟨_, rfl, rfl, rfl, ?_⟩ (by kernel_rfl) (by kernel_rfl) (by kernel_rfl) (fun _ _ _ h => h) (by assumption) ?_
        · intro w0 hSw; clear hSw; go_simp; (first | done | (with_reducible rfl) | omega | (intro h; omega) | (rw [if_neg (by omega)]; done) | (rw [if_neg (by omega)]; simp only [j1, j2, j3, j4]; done) | (simp only [j1, j2, j3, j4]; rw [if_neg (by omega)]; done) | skip)
        simp only [Act.put, List.setIfInBounds_toArray, List.set_cons_zero, List.set_cons_succ]
        refine takeAt 6 (some 69) (.slice (some ⟨LB, 0, none⟩) 6 6) ⟨_, rfl, rfl, rfl, ?_⟩ (by kernel_rfl) (by kernel_rfl) (by kernel_rfl) (fun _ _ _ h => h) (by assumption) ?_
        · intro w0 hSw; clear hSw; go_simp; (first | done | (with_reducible rfl) | omega | (intro h; omega) | (rw [if_neg (by omega)]; done) | (rw [if_neg (by omega)]; simp only [j1, j2, j3, j4]; done) | (simp only [j1, j2, j3, j4]; rw [if_neg (by omega)]; done) | skip)
        simp only [Act.put, List.setIfInBounds_toArray, List.set_cons_zero, List.set_cons_succ]
        refine takeAt 7 (some 70) (.int .i64 (b : Int)) ⟨_, rfl, rfl, rfl, ?_⟩ (by kernel_rfl) (by kernel_rfl) (by kernel_rfl) (fun _ _ _ h => h) (by assumption) ?_
        · intro w0 hSw; clear hSw; go_simp; (first | done | (with_reducible rfl) | omega | (intro h; omega) | (rw [if_neg (by omega)]; done) | (rw [if_neg (by omega)]; simp only [j1, j2, j3, j4]; done) | (simp only [j1, j2, j3, j4]; rw [if_neg (by omega)]; done) | skip)
        simp only [Act.put, List.setIfInBounds_toArray, List.set_cons_zero, List.set_cons_succ]
        refine takeAt 8 (some 71) (.pointer (some ⟨LB, b, none⟩)) ⟨_, rfl, rfl, rfl, ?_⟩ (by kernel_rfl) (by kernel_rfl) (by kernel_rfl) (fun _ _ _ h => h) (by assumption) ?_
        · intro w0 hSw; clear hSw; go_simp; (first | done | (with_reducible rfl) | omega | (intro h; omega) | (rw [if_neg (by omega)]; done) | (rw [if_neg (by omega)]; simp only [j1, j2, j3, j4]; done) | (simp only [j1, j2, j3, j4]; rw [if_neg (by omega)]; done) | skip)
        simp only [Act.put, List.setIfInBounds_toArray, List.set_cons_zero, List.set_cons_succ]
        refine takeAt 9 (some 72) (.string ⟨B.toArray⟩) ⟨_, rfl, rfl, rfl, ?_⟩ (by kernel_rfl) (by kernel_rfl) (by kernel_rfl) (fun _ _ _ h => h) (by assumption) ?_
        · intro w0 hSw; obtain ⟨h1, h2⟩ := hSw; go_simp; (first | done | (with_reducible rfl) | omega | (intro h; omega) | (rw [if_neg (by omega)]; done) | (rw [if_neg (by omega)]; simp only [j1, j2, j3, j4]; done) | (simp only [j1, j2, j3, j4]; rw [if_neg (by omega)]; done) | skip)
        simp only [Act.put, List.setIfInBounds_toArray, List.set_cons_zero, List.set_cons_succ]
        refine takeAt 10 (some 73) (.string ⟨Z3.toArray⟩) ⟨_, rfl, rfl, rfl, ?_⟩ (by kernel_rfl) (by kernel_rfl) (by kernel_rfl) (fun _ _ _ h => h) (by assumption) ?_
        · intro w0 hSw; clear hSw; go_simp; (first | done | (with_reducible rfl) | omega | (intro h; omega) | (rw [if_neg (by omega)]; done) | (rw [if_neg (by omega)]; simp only [j1, j2, j3, j4]; done) | (simp only [j1, j2, j3, j4]; rw [if_neg (by omega)]; done) | skip)
        simp only [Act.put, List.setIfInBounds_toArray, List.set_cons_zero, List.set_cons_succ]
        refine takeAt 11 (some 74) (.string ⟨Z4.toArray⟩) ⟨_, rfl, rfl, rfl, ?_⟩ (by kernel_rfl) (by kernel_rfl) (by kernel_rfl) (fun _ _ _ h => h) (by assumption) ?_
        · intro w0 hSw; clear hSw; go_simp; (first | done | (with_reducible rfl) | omega | (intro h; omega) | (rw [if_neg (by omega)]; done) | (rw [if_neg (by omega)]; simp only [j1, j2, j3, j4]; done) | (simp only [j1, j2, j3, j4]; rw [if_neg (by omega)]; done) | skip)
        simp only [Act.put, List.setIfInBounds_toArray, List.set_cons_zero, List.set_cons_succ]
        refine wpAnyH_ready (rs := [12, 16]) (by kernel_rfl) (by simp) ?_
        refine AllReadyH.cons rfl (fun K0 hK0 => ?_) (AllReadyH.cons rfl (fun K0 hK0 => ?_) AllReadyH.nil)
        · go_simp
          refine (unhide PZ _ ((unhide SG).below (Below.refl _ _).drew)).mono ?_
          rintro e w1 ⟨⟨T, rfl, hinT, hbT⟩, b1'⟩
          dsimp only at hbT
          have b1 : Below wc.heap.size wc w1 := bstep (Below.refl _ _).drew b1'
          obtain ⟨fk, fb, fm, fs, ft, flo, fhi, fa, fl, fc, fkid, rfl⟩ := hinT.form
          have HT := hide (hinT.weak (Q' := fun _ => True) (fun _ _ _ => trivial))
          clear hinT b1'
          have XA := hide (XB.new w1 fk fb fm fs ft flo fhi fa fl fc 28)
          dsimp only [XT.val]
          go_wp2_with fail
          refine hK0.out _ _ ⟨kcell b1 LV cA, kcell b1 LV cB⟩ (fun hHeld1 => ?_)
          clear hK0 K0 hHeld
          have hHeld := hHeld1
          clear hHeld1
          try simp only [Act.put, List.setIfInBounds_toArray, List.set_cons_zero, List.set_cons_succ]
          refine takeAt 13 (some 62) (.tuple #[.agg #[.int .i64 fk, .bool fb, .int .i64 fm, .int .i64 fs, .string ft, .bool flo, .bool fhi, .slice fa fl fc], .bool true]) ⟨_, rfl, rfl, rfl, ?_⟩ (by kernel_rfl) (by kernel_rfl) (by kernel_rfl) (fun _ _ _ h => h) (by assumption) ?_
          · intro w0 hSw; clear hSw; go_simp; (first | done | (with_reducible rfl) | omega | (intro h; omega) | (rw [if_neg (by omega)]; done) | (rw [if_neg (by omega)]; simp only [j1, j2, j3, j4]; done) | (simp only [j1, j2, j3, j4]; rw [if_neg (by omega)]; done) | skip)
          simp only [Act.put, List.setIfInBounds_toArray, List.set_cons_zero, List.set_cons_succ]
          refine takeAt 14 (some 76) (.agg #[.int .i64 fk, .bool fb, .int .i64 fm, .int .i64 fs, .string ft, .bool flo, .bool fhi, .slice fa fl fc]) ⟨_, rfl, rfl, rfl, ?_⟩ (by kernel_rfl) (by kernel_rfl) (by kernel_rfl) (fun _ _ _ h => h) (by assumption) ?_
          · intro w0 hSw; clear hSw; go_simp; (first | done | (with_reducible rfl) | omega | (intro h; omega) | (rw [if_neg (by omega)]; done) | (rw [if_neg (by omega)]; simp only [j1, j2, j3, j4]; done) | (simp only [j1, j2, j3, j4]; rw [if_neg (by omega)]; done) | skip)
          simp only [Act.put, List.setIfInBounds_toArray, List.set_cons_zero, List.set_cons_succ]
          refine takeAt 15 (some 77) (.bool true) ⟨_, rfl, rfl, rfl, ?_⟩ (by kernel_rfl) (by kernel_rfl) (by kernel_rfl) (fun _ _ _ h => h) (by assumption) ?_
          · intro w0 hSw; clear hSw; go_simp; (first | done | (with_reducible rfl) | omega | (intro h; omega) | (rw [if_neg (by omega)]; done) | (rw [if_neg (by omega)]; simp only [j1, j2, j3, j4]; done) | (simp only [j1, j2, j3, j4]; rw [if_neg (by omega)]; done) | skip)
          simp only [Act.put, List.setIfInBounds_toArray, List.set_cons_zero, List.set_cons_succ]
          refine wpAnyH_ready (rs := [16]) (by kernel_rfl) (by simp) ?_
          refine AllReadyH.cons rfl (fun K0 hK0 => ?_) AllReadyH.nil
          go_simp
          refine hK0.out _ _ ⟨kcell (below1 _ _) (Nat.lt_of_lt_of_le LV b1.size) hHeld.1, kcell (below1 _ _) (Nat.lt_of_lt_of_le LV b1.size) hHeld.2⟩ (fun hHeld1 => ?_)
          clear hK0 K0
          try simp only [Act.put, List.setIfInBounds_toArray, List.set_cons_zero, List.set_cons_succ]
          refine wpAnyH_ready (rs := [17]) (by kernel_rfl) (by simp) ?_
          refine AllReadyH.cons rfl (fun K0 hK0 => ?_) AllReadyH.nil
          go_simp
          refine hK0.out _ _ ⟨kcell (below1 _ _) (Nat.lt_of_lt_of_le LV b1.size) hHeld.1, kcell (below1 _ _) (Nat.lt_of_lt_of_le LV b1.size) hHeld.2⟩ (fun hHeld2 => ?_)
          clear hK0 K0 hHeld hHeld1
          try simp only [Act.put, List.setIfInBounds_toArray, List.set_cons_zero, List.set_cons_succ]
          refine takeAt 18 (some 12) (.bool true) ⟨_, rfl, rfl, rfl, ?_⟩ (by kernel_rfl) (by kernel_rfl) (by kernel_rfl) (fun _ _ _ h => h) (by assumption) ?_
          · intro w0 hSw; clear hSw; go_simp; (first | done | (with_reducible rfl) | omega | (intro h; omega) | (rw [if_neg (by omega)]; done) | (rw [if_neg (by omega)]; simp only [j1, j2, j3, j4]; done) | (simp only [j1, j2, j3, j4]; rw [if_neg (by omega)]; done) | skip)
          simp only [Act.put, List.setIfInBounds_toArray, List.set_cons_zero, List.set_cons_succ]
          refine wpAnyH_done (by kernel_rfl) ?_ _
          refine NoPanic.normal ?_
          go_wp2_with fail
          go_meet
          exact ⟨rfl, ⟨_, rfl, _, _, _, _, _, _, _, _, _, _, _, unhide XA, (unhide HT).alloc _, hbT⟩, bstep b1 (below1 _ _)⟩
        · go_simp
          refine hK0.out _ _ ⟨kcell (below1 _ _) LV cA, kcell (below1 _ _) LV cB⟩ (fun hHeld1 => ?_)
          clear hK0 K0 hHeld
          try simp only [Act.put, List.setIfInBounds_toArray, List.set_cons_zero, List.set_cons_succ]
          have ez := hide (ZB.new wc 28)
          refine wpAnyH_ready (rs := [12]) (by kernel_rfl) (by simp) ?_
          refine AllReadyH.cons rfl (fun K0 hK0 => ?_) AllReadyH.nil
          go_simp
          refine (unhide PZ _ ((unhide SG).below (below1 _ _).drew)).mono ?_
          rintro e w1 ⟨⟨T, rfl, hinT, hbT⟩, b1'⟩
          dsimp only at hbT
          have b1 : Below wc.heap.size wc w1 := bstep (below1 _ _).drew b1'
          have Z1 := hide (((unhide ez).below (Below.refl _ _).drew).below b1')
          have z1 : wc.heap.size + 1 ≤ w1.heap.size := by have := b1'.size; simpa using this
          obtain ⟨fk, fb, fm, fs, ft, flo, fhi, fa, fl, fc, fkid, rfl⟩ := hinT.form
          have HT := hide (hinT.weak (Q' := fun g => wc.heap.size + 1 ≤ g) (fun g _ hg => by unfold Fr at hg; simp at hg; omega))
          clear hinT b1' ez hHeld1
          dsimp only [XT.val]
          go_wp2_with fail
          refine hK0.out _ _ ⟨kcell b1 LV cA, kcell b1 LV cB⟩ (fun hHeld => ?_)
          clear hK0 K0
          try simp only [Act.put, List.setIfInBounds_toArray, List.set_cons_zero, List.set_cons_succ]
          refine takeAt 13 (some 62) (.tuple #[.agg #[.int .i64 fk, .bool fb, .int .i64 fm, .int .i64 fs, .string ft, .bool flo, .bool fhi, .slice fa fl fc], .bool true]) ⟨_, rfl, rfl, rfl, ?_⟩ (by kernel_rfl) (by kernel_rfl) (by kernel_rfl) (fun _ _ _ h => h) (by assumption) ?_
          · intro w0 hSw; clear hSw; go_simp; (first | done | (with_reducible rfl) | omega | (intro h; omega) | (rw [if_neg (by omega)]; done) | (rw [if_neg (by omega)]; simp only [j1, j2, j3, j4]; done) | (simp only [j1, j2, j3, j4]; rw [if_neg (by omega)]; done) | skip)
          simp only [Act.put, List.setIfInBounds_toArray, List.set_cons_zero, List.set_cons_succ]
          refine takeAt 14 (some 76) (.agg #[.int .i64 fk, .bool fb, .int .i64 fm, .int .i64 fs, .string ft, .bool flo, .bool fhi, .slice fa fl fc]) ⟨_, rfl, rfl, rfl, ?_⟩ (by kernel_rfl) (by kernel_rfl) (by kernel_rfl) (fun _ _ _ h => h) (by assumption) ?_
          · intro w0 hSw; clear hSw; go_simp; (first | done | (with_reducible rfl) | omega | (intro h; omega) | (rw [if_neg (by omega)]; done) | (rw [if_neg (by omega)]; simp only [j1, j2, j3, j4]; done) | (simp only [j1, j2, j3, j4]; rw [if_neg (by omega)]; done) | skip)
          simp only [Act.put, List.setIfInBounds_toArray, List.set_cons_zero, List.set_cons_succ]
          refine takeAt 15 (some 77) (.bool true) ⟨_, rfl, rfl, rfl, ?_⟩ (by kernel_rfl) (by kernel_rfl) (by kernel_rfl) (fun _ _ _ h => h) (by assumption) ?_
          · intro w0 hSw; clear hSw; go_simp; (first | done | (with_reducible rfl) | omega | (intro h; omega) | (rw [if_neg (by omega)]; done) | (rw [if_neg (by omega)]; simp only [j1, j2, j3, j4]; done) | (simp only [j1, j2, j3, j4]; rw [if_neg (by omega)]; done) | skip)
          simp only [Act.put, List.setIfInBounds_toArray, List.set_cons_zero, List.set_cons_succ]
          refine wpAnyH_ready (rs := [17]) (by kernel_rfl) (by simp) ?_
          refine AllReadyH.cons rfl (fun K0 hK0 => ?_) AllReadyH.nil
          obtain ⟨y0, y1, y2, y3, y4, y5, y6, y7, y8, y9⟩ := unhide Z1
          go_simp
          refine hK0.out _ _ ⟨(cell8 (by omega) _ _ _ _ _ _ _ _).trans hHeld.1, (cell8 (by omega) _ _ _ _ _ _ _ _).trans hHeld.2⟩ (fun hHeld1 => ?_)
          clear hK0 K0 hHeld y1 y2 y3 y4 y5 y6 y7 y8 y9
          try simp only [Act.put, List.setIfInBounds_toArray, List.set_cons_zero, List.set_cons_succ]
          refine takeAt 18 (some 12) (.bool true) ⟨_, rfl, rfl, rfl, ?_⟩ (by kernel_rfl) (by kernel_rfl) (by kernel_rfl) (fun _ _ _ h => h) (by assumption) ?_
          · intro w0 hSw; clear hSw; go_simp; (first | done | (with_reducible rfl) | omega | (intro h; omega) | (rw [if_neg (by omega)]; done) | (rw [if_neg (by omega)]; simp only [j1, j2, j3, j4]; done) | (simp only [j1, j2, j3, j4]; rw [if_neg (by omega)]; done) | skip)
          simp only [Act.put, List.setIfInBounds_toArray, List.set_cons_zero, List.set_cons_succ]
          refine wpAnyH_done (by kernel_rfl) ?_ _
          refine NoPanic.normal ?_
          go_wp2_with fail
          go_meet
          refine ⟨rfl, ⟨_, rfl, _, _, _, _, _, _, _, _, _, _, _, (unhide Z1).put _ _ _ _ _ _ _ _ _ _, ?_, hbT⟩, by (repeat (first | with_reducible assumption | with_reducible exact Below.refl _ _ | (with_reducible refine Below.setCell ?_ ?_ _; rotate_left; (focus (first | omega | (simp; done) | (simp; omega) | (dsimp only; omega)))) | (with_reducible refine Below.alloc ?_ ?_ _; rotate_left; (focus (first | omega | (simp; done) | (simp; omega) | (dsimp only; omega)))) | with_reducible refine Below.drew ?_ | with_reducible refine below_dN ?_ _))⟩
          refine XT.In.weak (Q := fun g => wc.heap.size + 1 ≤ g) ?_ (fun _ _ _ => trivial)
          have HT2 := unhide HT
          (repeat (first | with_reducible assumption | with_reducible refine XT.In.alloc ?_ _ | with_reducible refine XT.In.drew ?_ | with_reducible refine XT.In.drewN ?_ _ | (with_reducible refine XT.In.set ?_ ?_ _; rotate_left; (intro g hg; (focus (first | omega | (simp; done) | (simp; omega) | (dsimp only; omega)))))))
      case rest =>
        obtain ⟨rfl, bx, bV⟩ := hcut
        have BXZ := hide bx
        clear bx
        have cA' := kcell bV LV cA
        have cB' := kcell bV LV cB
        have rA' := kcell bV RV rA
        have rB' := kcell bV RV rB
        have SG' := hide ((unhide SG).below bV)
        have B0' := hide (bstep (unhide B0) bV)
        have LV' := Nat.lt_of_lt_of_le LV bV.size
        have RV' := Nat.lt_of_lt_of_le RV bV.size
        have BXX' := hide ((unhide BXX).below bV)
        clear BXX
        have BXX := BXX'
        clear BXX'
        have BXY' := hide ((unhide BXY).below bV)
        clear BXY
        have BXY := BXY'
        clear BXY'
        clear bV cA cB rA rB SG B0 LV RV j1 j2 j3 j4 i1 i2 i3 PZ
        have cA := cA'
        clear cA'
        have cB := cB'
        clear cB'
        have rA := rA'
        clear rA'
        have rB := rB'
        clear rB'
        have SG := SG'
        clear SG'
        have B0 := B0'
        clear B0'
        have LV := LV'
        clear LV'
        have RV := RV'
        clear RV'
        obtain ⟨gx, rfl, xk, xb, xm, xs, xt, xlo, xhi, xa, xl, xc, xkid, Xx, ix, hbx⟩ := unhide BXX
        have IX := hide ix
        clear ix BXX
        obtain ⟨x_0, x_1, x_2, x_3, x_4, x_5, x_6, x_7, x_8, x_9⟩ := Xx
        obtain ⟨gy, rfl, yk, yb, ym, ys, yt, ylo, yhi, ya, yl, yc, ykid, Xy, iy, hby⟩ := unhide BXY
        have IY := hide iy
        clear iy BXY
        obtain ⟨y_0, y_1, y_2, y_3, y_4, y_5, y_6, y_7, y_8, y_9⟩ := Xy
        obtain ⟨gz, rfl, zk, zb, zm, zs, zt, zlo, zhi, za, zl, zc, zkid, Xz, iz, hbz⟩ := unhide BXZ
        have IZ := hide iz
        clear iz BXZ
        obtain ⟨z_0, z_1, z_2, z_3, z_4, z_5, z_6, z_7, z_8, z_9⟩ := Xz
        by_cases hR : rb ≤ ra
        · have hR1 : (rb : Int) ≤ (ra : Int) := by omega
          have hR2 : decide ((rb : Int) ≤ (ra : Int)) = true := decide_eq_true hR1
          have hs1 : (XT.mk xk xb xm xs xt xlo xhi xa xl xc xkid).same (XT.mk yk yb ym ys yt ylo yhi ya yl yc ykid) = true := by rw [XT.same_bare, hbx, hby, unhide K1]; simp; omega
          have hs2 : (XT.mk xk xb xm xs xt xlo xhi xa xl xc xkid).same (XT.mk zk zb zm zs zt zlo zhi za zl zc zkid) = false := by rw [XT.same_bare, hbx, hbz, unhide K2]; simp; omega
          have HS1 := hide hs1
          have HS2 := hide hs2
          clear hs1 hs2
          go_wp2_with fail
          go_quiet (fail)
          go_wp2_with fail
          refine (rsame_any (XT.mk xk xb xm xs xt xlo xhi xa xl xc xkid) (XT.mk yk yb ym ys yt ylo yhi ya yl yc ykid) _ _ _ ((unhide IX).below (below_dN (Below.refl _ _) nq)) ((unhide IY).below (below_dN (Below.refl _ _) nq))).mono ?_
          rw [unhide HS1]
          rintro e v1 ⟨rfl, bv1⟩
          have Dv1 := bstep (below_dN (Below.refl _ _) nq) bv1
          have Qv1 := hide Dv1
          have dv1 := (bcell Dv1).1
          clear bv1 Dv1
          go_wp2_with fail
          refine (rsame_any (XT.mk xk xb xm xs xt xlo xhi xa xl xc xkid) (XT.mk zk zb zm zs zt zlo zhi za zl zc zkid) _ _ _ ((unhide IX).below (unhide Qv1)) ((unhide IZ).below (unhide Qv1))).mono ?_
          rw [unhide HS2]
          rintro e v2 ⟨rfl, bv2⟩
          have Dv2 := bstep (unhide Qv1) bv2
          have Qv2 := hide Dv2
          have dv2 := (bcell Dv2).1
          clear bv2 Dv2
          go_wp2_with fail
          refine (fknown_any _ ((unhide SG).below (unhide Qv2))).mono ?_
          rintro e v3 ⟨rfl, b3⟩
          go_wp2_with fail
          go_ret
          first | exact ⟨rfl, bstep (bstep (unhide B0) (unhide Qv2)) b3⟩ | exact ⟨rfl, hLB ▸ bstep (bstep (unhide B0) (unhide Qv2)) b3⟩
        · have hR1 : ¬ (rb : Int) ≤ (ra : Int) := by omega
          have hR2 : decide ((rb : Int) ≤ (ra : Int)) = false := decide_eq_false hR1
          have hs1 : (XT.mk xk xb xm xs xt xlo xhi xa xl xc xkid).same (XT.mk yk yb ym ys yt ylo yhi ya yl yc ykid) = false := by rw [XT.same_bare, hbx, hby, unhide K1]; simp; omega
          have hs2 : (XT.mk xk xb xm xs xt xlo xhi xa xl xc xkid).same (XT.mk zk zb zm zs zt zlo zhi za zl zc zkid) = true := by rw [XT.same_bare, hbx, hbz, unhide K2]; simp; omega
          have HS1 := hide hs1
          have HS2 := hide hs2
          clear hs1 hs2
          go_wp2_with fail
          go_quiet (fail)
          go_wp2_with fail
          refine (rsame_any (XT.mk xk xb xm xs xt xlo xhi xa xl xc xkid) (XT.mk yk yb ym ys yt ylo yhi ya yl yc ykid) _ _ _ ((unhide IX).below (below_dN (Below.refl _ _) nq)) ((unhide IY).below (below_dN (Below.refl _ _) nq))).mono ?_
          rw [unhide HS1]
          rintro e v1 ⟨rfl, bv1⟩
          have Dv1 := bstep (below_dN (Below.refl _ _) nq) bv1
          have Qv1 := hide Dv1
          have dv1 := (bcell Dv1).1
          clear bv1 Dv1
          go_wp2_with fail
          refine (rsame_any (XT.mk xk xb xm xs xt xlo xhi xa xl xc xkid) (XT.mk zk zb zm zs zt zlo zhi za zl zc zkid) _ _ _ ((unhide IX).below (unhide Qv1)) ((unhide IZ).below (unhide Qv1))).mono ?_
          rw [unhide HS2]
          rintro e v2 ⟨rfl, bv2⟩
          have Dv2 := bstep (unhide Qv1) bv2
          have Qv2 := hide Dv2
          have dv2 := (bcell Dv2).1
          clear bv2 Dv2
          go_wp2_with fail
          refine (fknown_any _ ((unhide SG).below (unhide Qv2))).mono ?_
          rintro e v3 ⟨rfl, b3⟩
          go_wp2_with fail
          go_ret
          first | exact ⟨rfl, bstep (bstep (unhide B0) (unhide Qv2)) b3⟩ | exact ⟨rfl, hLB ▸ bstep (bstep (unhide B0) (unhide Qv2)) b3⟩

theorem feelOps_walk (a b : Int) (ha : (Lit.int .i64 a).wf = true) (hb : (Lit.int .i64 b).wf = true) (w : World) (sig : Sig w) :
    Calls Tryd.prog 3 #[.int .i64 a, .int .i64 b] w fun e w' => e = .returned (.bool true) ∧ Below w.heap.size w w' := by
  clear ha hb
  by_cases h : 0 ≤ a ∧ a ≤ 5 ∧ 0 ≤ b ∧ b ≤ 5
  · obtain ⟨h1, h2, h3, h4⟩ := h
    obtain ⟨x, rfl⟩ : ∃ k : Nat, a = k := ⟨a.toNat, by omega⟩
    obtain ⟨y, rfl⟩ : ∃ k : Nat, b = k := ⟨b.toNat, by omega⟩
    exact ops_in x y (by omega) (by omega) w sig
  · clear sig
    by_cases h1 : a < 0
    · go_enter Tryd.func3, Tryd.ntmps3
      go_wp2_with fail
      go_ret
      exact ⟨rfl, below2 _ _ _⟩
    by_cases h2 : 5 < a
    · go_enter Tryd.func3, Tryd.ntmps3
      go_wp2_with fail
      go_ret
      exact ⟨rfl, below2 _ _ _⟩
    by_cases h3 : b < 0
    · go_enter Tryd.func3, Tryd.ntmps3
      go_wp2_with fail
      go_ret
      exact ⟨rfl, below2 _ _ _⟩
    have h4 : 5 < b := by omega
    go_enter Tryd.func3, Tryd.ntmps3
    go_wp2_with fail
    go_ret
    exact ⟨rfl, below2 _ _ _⟩
end Go.Proofs.YtdlfgnmcokdceabDoor
