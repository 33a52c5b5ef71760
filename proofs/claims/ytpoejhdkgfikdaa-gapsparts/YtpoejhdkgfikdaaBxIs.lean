/- Whether a box may be: the program's Is, the document's. -/
import Derived.Test.YtpoejhdkgfikdaaBxMem
import Derived.BigQuiet
namespace Go.Proofs.Ytpoejhdkgfikdaa
open Go.RowKit
set_option linter.unusedVariables false
set_option linter.unusedSimpArgs false

theorem not_ok1 {xl xh : List Int} (h : xl.length = 0 ∨ 3 < xl.length ∨ xh.length ≠ xl.length) : ¬ okB (xl, xh) := by
  rintro ⟨h1, h2, h3, -⟩
  dsimp only at h1 h2 h3
  omega
theorem not_ok2 {xl xh : List Int} {i : Nat} (hi : i < xl.length) (h : ix xl i < 0 ∨ ix xh i < ix xl i ∨ 1000 < ix xh i) : ¬ okB (xl, xh) := by
  rintro ⟨-, -, -, h4⟩
  have := h4 i hi
  dsimp only at this
  omega

theorem ok_of {xl xh : List Int} {n : Nat} (hn : xl.length = n) (h1 : ¬ n = 0) (h2 : ¬ 3 < n) (h3 : xh.length = n) (h4 : ∀ i, i < n → 0 ≤ ix xl i ∧ ix xl i ≤ ix xh i ∧ ix xh i ≤ 1000) : okB (xl, xh) := by
  subst hn
  exact ⟨by show 1 ≤ xl.length; omega, by show xl.length ≤ 3; omega, h3, h4⟩
set_option maxHeartbeats 2000000 in
theorem gis_any (Q : Nat → Prop) (b : Bx) (v1 v2 : Value) (w : World) (h : BoxI Q w v1 v2 b) :
    Calls Try.prog 8 #[.agg #[v1, v2]] w fun e w' => Ans (okB b) e ∧ Below w.heap.size w w' := by
  obtain ⟨xl, xh⟩ := b
  obtain ⟨h1, h2⟩ := h
  obtain ⟨a1, c1, rfl⟩ := h1.form
  obtain ⟨a2, c2, rfl⟩ := h2.form
  obtain ⟨-, m1, k1⟩ := h1.at
  obtain ⟨-, m2, k2⟩ := h2.at
  dsimp only at m1 k1 m2 k2
  unfold maxLen at m1 m2
  have K1 := hide k1
  have K2 := hide k2
  clear k1 k2 h1 h2
  have HL := hide (rfl : okB (xl, xh) = okB (xl, xh))
  by_cases bad : xl.length = 0 ∨ 3 < xl.length ∨ xh.length ≠ xl.length
  · have NO := hide (not_ok1 bad)
    generalize okB (xl, xh) = P at NO ⊢
    generalize xl.length = n1 at bad m1 ⊢
    generalize xh.length = n2 at bad m2 ⊢
    clear HL K1 K2
    skip
    by_cases z : n1 = 0
    · subst z
      go_enter Try.func8, Try.ntmps8
      go_wp2_with fail
      go_ret
      exact ⟨ans_no (unhide NO), below1 _ _⟩
    · have z1 : ((n1 : Int) == 0) = false := by simp; omega
      by_cases t : 3 < n1
      · go_enter Try.func8, Try.ntmps8
        go_wp2_with fail
        go_ret
        exact ⟨ans_no (unhide NO), below1 _ _⟩
      · have z2 : ((n2 : Int) != n1) = true := by simp; omega
        go_enter Try.func8, Try.ntmps8
        go_wp2_with fail
        go_ret
        exact ⟨ans_no (unhide NO), below1 _ _⟩
  · have hn2 : xh.length = xl.length := by omega
    have NOT : Hid (∀ i, i < xl.length → (ix xl i < 0 ∨ ix xh i < ix xl i ∨ 1000 < ix xh i) → ¬ okB (xl, xh)) := hide (fun i hi h => not_ok2 hi h)
    have YES : Hid ((∀ i, i < xl.length → 0 ≤ ix xl i ∧ ix xl i ≤ ix xh i ∧ ix xh i ≤ 1000) → okB (xl, xh)) := hide (fun h => ok_of rfl (by omega) (by omega) hn2 h)
    rw [hn2] at K2 m2 ⊢
    have z2 : ((xl.length : Int) != xl.length) = false := by simp
    generalize okB (xl, xh) = P at *
    generalize xl.length = n1 at *
    have bad1 : ¬ n1 = 0 := by omega
    have bad2 : ¬ 3 < n1 := by omega
    clear hn2
    have z1 : ((n1 : Int) == 0) = false := by simp; omega
    clear HL bad
    go_enter Try.func8, Try.ntmps8
    go_wp2_with fail
    have b0 := below1 w (Obj.cells #[.slice a1 n1 c1, .slice a2 n1 c2] 25)
    have hz : (w.alloc (Obj.cells #[.slice a1 n1 c1, .slice a2 n1 c2] 25)).heap.size = w.heap.size + 1 := by simp
    have x0 : (w.alloc (Obj.cells #[.slice a1 n1 c1, .slice a2 n1 c2] 25)).cell? ⟨w.heap.size, 1, none⟩ = some (.slice a2 n1 c2) := by go_simp
    have L1 := hide (fun i (hi : i < n1) => (by obtain ⟨bl, o, h1, h2, h3⟩ := unhide K1 i hi; exact ⟨bl, o, h1, ((bcell b0).1 _ _ h2).trans h3, by omega⟩ : ∃ bl o, a1 = some ⟨bl, o, none⟩ ∧ (w.alloc (Obj.cells #[.slice a1 n1 c1, .slice a2 n1 c2] 25)).cell? ⟨bl, o + i, none⟩ = some (.int .i64 (ix xl i)) ∧ bl < w.heap.size + 1))
    have L2 := hide (fun i (hi : i < n1) => (by obtain ⟨bl, o, h1, h2, h3⟩ := unhide K2 i hi; exact ⟨bl, o, h1, ((bcell b0).1 _ _ h2).trans h3, by omega⟩ : ∃ bl o, a2 = some ⟨bl, o, none⟩ ∧ (w.alloc (Obj.cells #[.slice a1 n1 c1, .slice a2 n1 c2] 25)).cell? ⟨bl, o + i, none⟩ = some (.int .i64 (ix xh i)) ∧ bl < w.heap.size + 1))
    clear K1 K2
    generalize w.alloc (Obj.cells #[.slice a1 n1 c1, .slice a2 n1 c2] 25) = W at *
    go_loop [25] (fun i => ∃ j : Nat, j ≤ n1 ∧ i = .int .i64 j ∧ Hid (∀ i, i < j → 0 ≤ ix xl i ∧ ix xl i ≤ ix xh i ∧ ix xh i ≤ 1000)) (fun i => n1 - (intOf i).toNat)
    case atStart => exact ⟨0, Nat.zero_le _, rfl, hide (fun i hi => absurd hi (Nat.not_lt_zero _))⟩
    case round =>
      obtain ⟨j, hj, rfl, H⟩ := hrel
      by_cases hlt : j < n1
      · obtain ⟨bl1, o1, rfl, y1, t1⟩ := unhide L1 j hlt
        obtain ⟨bl2, o2, rfl, y2, t2⟩ := unhide L2 j (by omega)
        have NO := hide (unhide NOT j hlt)
        have GO := hide (fun (h : 0 ≤ ix xl j ∧ ix xl j ≤ ix xh j ∧ ix xh j ≤ 1000) i (hi : i < j + 1) => if e : i = j then e ▸ h else unhide H i (by omega))
        clear H NOT
        generalize ix xl j = p at *
        generalize ix xh j = q at *
        by_cases g1 : p < 0
        · go_wp2_with fail
          go_ret
          exact ⟨ans_no (unhide NO (.inl g1)), b0⟩
        by_cases g2 : q < p
        · go_wp2_with fail
          go_ret
          exact ⟨ans_no (unhide NO (.inr (.inl g2))), b0⟩
        by_cases g3 : 1000 < q
        · go_wp2_with fail
          go_ret
          exact ⟨ans_no (unhide NO (.inr (.inr g3))), b0⟩
        go_wp2_with fail
        go_round
        case rel => exact ⟨j + 1, by omega, by go_num, hide (unhide GO ⟨by omega, by omega, by omega⟩)⟩
        case measure => simp [intOf]; omega
      · go_wp2_with fail
        go_ret
        exact ⟨ans_yes (unhide YES (fun i hi => unhide H i (by omega))), b0⟩

set_option maxHeartbeats 2000000 in
theorem ris_any (Q : Nat → Prop) (b : Bx) (v1 v2 : Value) (w : World) (h : BoxI Q w v1 v2 b) :
    Calls Try.prog 9 #[.agg #[v1, v2]] w fun e w' => Ans (okB b) e ∧ Below w.heap.size w w' := by
  obtain ⟨xl, xh⟩ := b
  obtain ⟨h1, h2⟩ := h
  obtain ⟨a1, c1, rfl⟩ := h1.form
  obtain ⟨a2, c2, rfl⟩ := h2.form
  obtain ⟨-, m1, k1⟩ := h1.at
  obtain ⟨-, m2, k2⟩ := h2.at
  dsimp only at m1 k1 m2 k2
  unfold maxLen at m1 m2
  have K1 := hide k1
  have K2 := hide k2
  clear k1 k2 h1 h2
  by_cases bad : xl.length = 0 ∨ 3 < xl.length ∨ xh.length ≠ xl.length
  · have NO := hide (not_ok1 bad)
    generalize okB (xl, xh) = P at NO ⊢
    generalize xl.length = n1 at bad m1 ⊢
    generalize xh.length = n2 at bad m2 ⊢
    clear K1 K2
    by_cases z : n1 < 1
    · go_enter Try.func9, Try.ntmps9
      go_wp2_with fail
      go_ret
      exact ⟨ans_no (unhide NO), below1 _ _⟩
    · by_cases t : 3 < n1
      · go_enter Try.func9, Try.ntmps9
        go_wp2_with fail
        go_ret
        exact ⟨ans_no (unhide NO), below1 _ _⟩
      · have z2 : ((n2 : Int) != n1) = true := by simp; omega
        go_enter Try.func9, Try.ntmps9
        go_wp2_with fail
        go_ret
        exact ⟨ans_no (unhide NO), below1 _ _⟩
  · have hn2 : xh.length = xl.length := by omega
    have NOT : Hid (∀ i, i < xl.length → (ix xl i < 0 ∨ ix xh i < ix xl i ∨ 1000 < ix xh i) → ¬ okB (xl, xh)) := hide (fun i hi h => not_ok2 hi h)
    have YES : Hid ((∀ i, i < xl.length → 0 ≤ ix xl i ∧ ix xl i ≤ ix xh i ∧ ix xh i ≤ 1000) → okB (xl, xh)) := hide (fun h => ok_of rfl (by omega) (by omega) hn2 h)
    rw [hn2] at K2 m2 ⊢
    have z2 : ((xl.length : Int) != xl.length) = false := by simp
    generalize okB (xl, xh) = P at *
    generalize xl.length = n1 at *
    have bad1 : ¬ n1 < 1 := by omega
    have bad2 : ¬ 3 < n1 := by omega
    clear hn2 bad
    go_enter Try.func9, Try.ntmps9
    go_wp2_with fail
    have b0 := below1 w (Obj.cells #[.slice a1 n1 c1, .slice a2 n1 c2] 25)
    have hz : (w.alloc (Obj.cells #[.slice a1 n1 c1, .slice a2 n1 c2] 25)).heap.size = w.heap.size + 1 := by simp
    have x0 : (w.alloc (Obj.cells #[.slice a1 n1 c1, .slice a2 n1 c2] 25)).cell? ⟨w.heap.size, 0, none⟩ = some (.slice a1 n1 c1) := by go_simp
    have x1 : (w.alloc (Obj.cells #[.slice a1 n1 c1, .slice a2 n1 c2] 25)).cell? ⟨w.heap.size, 1, none⟩ = some (.slice a2 n1 c2) := by go_simp
    have L1 := hide (fun i (hi : i < n1) => (by obtain ⟨bl, o, h1, h2, h3⟩ := unhide K1 i hi; exact ⟨bl, o, h1, ((bcell b0).1 _ _ h2).trans h3, by omega⟩ : ∃ bl o, a1 = some ⟨bl, o, none⟩ ∧ (w.alloc (Obj.cells #[.slice a1 n1 c1, .slice a2 n1 c2] 25)).cell? ⟨bl, o + i, none⟩ = some (.int .i64 (ix xl i)) ∧ bl < w.heap.size + 1))
    have L2 := hide (fun i (hi : i < n1) => (by obtain ⟨bl, o, h1, h2, h3⟩ := unhide K2 i hi; exact ⟨bl, o, h1, ((bcell b0).1 _ _ h2).trans h3, by omega⟩ : ∃ bl o, a2 = some ⟨bl, o, none⟩ ∧ (w.alloc (Obj.cells #[.slice a1 n1 c1, .slice a2 n1 c2] 25)).cell? ⟨bl, o + i, none⟩ = some (.int .i64 (ix xh i)) ∧ bl < w.heap.size + 1))
    clear K1 K2
    generalize w.alloc (Obj.cells #[.slice a1 n1 c1, .slice a2 n1 c2] 25) = W at *
    go_loopw [3] (fun i wr => ∃ j m : Nat, j ≤ n1 ∧ i = .int .i64 j ∧ wr = W.drewN m ∧ Hid (∀ i, i < j → 0 ≤ ix xl i ∧ ix xl i ≤ ix xh i ∧ ix xh i ≤ 1000)) (fun i _ => n1 - (intOf i).toNat)
    case atStart => exact ⟨0, 0, Nat.zero_le _, rfl, rfl, hide (fun i hi => absurd hi (Nat.not_lt_zero _))⟩
    case round =>
      obtain ⟨j, m, hj, rfl, rfl, H⟩ := hrel
      have b0' : Below w.heap.size w (W.drewN m) := below_drewN b0 _
      by_cases hlt : j < n1
      · obtain ⟨bl1, o1, rfl, y1, t1⟩ := unhide L1 j hlt
        obtain ⟨bl2, o2, rfl, y2, t2⟩ := unhide L2 j (by omega)
        have NO := hide (unhide NOT j hlt)
        have GO := hide (fun (h : 0 ≤ ix xl j ∧ ix xl j ≤ ix xh j ∧ ix xh j ≤ 1000) i (hi : i < j + 1) => if e : i = j then e ▸ h else unhide H i (by omega))
        clear H NOT
        generalize ix xl j = p at *
        generalize ix xh j = q at *
        by_cases g1 : p < 0
        · go_wp2_with fail
          go_quiet (fail)
          go_wp2_with fail
          go_ret
          exact ⟨ans_no (unhide NO (.inl g1)), below_drewN b0' _⟩
        by_cases g2 : q < p
        · go_wp2_with fail
          go_quiet (fail)
          go_wp2_with fail
          go_ret
          exact ⟨ans_no (unhide NO (.inr (.inl g2))), below_drewN b0' _⟩
        by_cases g3 : 1000 < q
        · go_wp2_with fail
          go_quiet (fail)
          go_wp2_with fail
          go_ret
          exact ⟨ans_no (unhide NO (.inr (.inr g3))), below_drewN b0' _⟩
        go_wp2_with fail
        go_quiet (fail)
        go_wp2_with fail
        go_roundw
        case rel => exact ⟨j + 1, _, by omega, by go_num, (by first | rfl | exact World.drewN_drewN _ _ _), hide (unhide GO ⟨by omega, by omega, by omega⟩)⟩
        case measure => simp [intOf]; omega
      · go_wp2_with fail
        go_ret
        exact ⟨ans_yes (unhide YES (fun i hi => unhide H i (by omega))), b0'⟩
end Go.Proofs.Ytpoejhdkgfikdaa
