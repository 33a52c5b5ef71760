/- The contract of the laws' own 'may': where it says yes all of these values may be. -/
import Derived.Test.YthccmlkcdinfdacVRIs
import Derived.Test.YthccmlkcdinfdacVSize
namespace Go.Proofs.Ythccmlkcdinfdac
open Go.RowKit

set_option maxHeartbeats 2000000 in
theorem vmay_any (bl n : Nat) (xs : Nat → VT) (w : World) (hn : n ≤ 3) (hin : (VT.mk 0 false 0 0 ⟨#[]⟩ (some ⟨bl, 0, none⟩) n n xs).In w) :
    Calls Try.prog 8 #[.slice (some ⟨bl, 0, none⟩) n n] w fun e w' => (∃ r, e = .returned (.bool r) ∧ (r = true → ∀ i, i < n → (xs i).okB 2 = true)) ∧ Below w.heap.size w w' := by
  go_enter Try.func8, Try.ntmps8
  go_wp2_with fail
  go_loopw [3] (fun i wr => ∃ (j : Nat), j ≤ n ∧ i = .int .i64 j ∧ Hid (∀ i, i < j → (xs i).okB 2 = true) ∧ Below w.heap.size w wr) (fun i _ => n - (intOf i).toNat)
  case atStart => exact ⟨0, Nat.zero_le _, rfl, hide (fun i hi => absurd hi (Nat.not_lt_zero _)), Below.refl _ _⟩
  case round =>
    obtain ⟨j, hj, rfl, HA, bel⟩ := hrel
    by_cases hlt : j < n
    · obtain ⟨bl0, o, k, b, m, s, t, a, len, cap, kid, he, hx, six, hk⟩ := hin.kid hlt
      simp only [Option.some.injEq, Addr.mk.injEq, and_true] at he
      obtain ⟨rfl, rfl⟩ := he
      have hk0 := hk.below bel
      obtain ⟨s0, s1, s2, s3, s4, s5, s6⟩ := six.below bel
      simp only [Nat.zero_add] at s1 s2 s3 s4 s5 s6
      have H1 := hide (size_any _ _ hk0)
      have H2 := hide (fun w2 (h : Below wr.heap.size wr w2) => rIs_any _ w2 (hk0.below h))
      have HX := hide hx
      clear six hk hin hx hk0
      go_wp2_with fail
      refine (unhide H1).mono ?_
      rintro e w1 ⟨⟨z, rfl⟩, k1⟩
      obtain ⟨c1, -⟩ := bcell k1
      by_cases h5 : 500 ≤ z
      · go_wp2_with fail
        go_ret
        exact ⟨⟨false, rfl, fun h => absurd h (by simp)⟩, bstep bel k1⟩
      · go_wp2_with fail
        refine (unhide H2 _ k1).mono ?_
        rintro e w2 ⟨rfl, k2⟩
        cases hok : (VT.mk k b m s t a len cap kid).okB 2
        · go_wp2_with fail
          go_ret
          exact ⟨⟨false, rfl, fun h => absurd h (by simp)⟩, bstep bel (bstep k1 k2)⟩
        · have HOK := hide hok
          clear hok
          go_wp2_with fail
          go_roundw
          case rel =>
            refine ⟨j + 1, by omega, by go_num, hide (fun i hi => ?_), bstep bel (bstep k1 k2)⟩
            by_cases hij : i = j
            · subst hij; rw [unhide HX]; exact unhide HOK
            · exact unhide HA i (by omega)
          case measure => simp [intOf]; omega
    · go_wp2_with fail
      go_ret
      exact ⟨⟨true, rfl, fun _ i hi => unhide HA i (by omega)⟩, bel⟩
theorem six_cells {w : World} {bl o : Nat} {k : Int} {b : Bool} {m s : Int} {t : ByteArray} {a : Option Addr} {len cap : Nat} {kid : Nat → VT} (h : VT.Six w bl o k b m s t a len cap) : ∀ j, j < 6 → w.cell? ⟨bl, o + j, none⟩ = (VT.mk k b m s t a len cap kid).cells[j]? := by
  obtain ⟨-, h1, h2, h3, h4, h5, h6⟩ := h
  intro j hj
  match j, hj with
  | 0, _ => exact h1
  | 1, _ => exact h2
  | 2, _ => exact h3
  | 3, _ => exact h4
  | 4, _ => exact h5
  | 5, _ => exact h6
theorem pair_in {w : World} {bl : Nat} {X Y : VT} (hx : X.In w) (hy : Y.In w) (h0 : ∀ j, j < 6 → w.cell? ⟨bl, 0 + j, none⟩ = X.cells[j]?) (h1 : ∀ j, j < 6 → w.cell? ⟨bl, 6 + j, none⟩ = Y.cells[j]?) :
    (VT.mk 0 false 0 0 ⟨#[]⟩ (some ⟨bl, 0, none⟩) 2 2 (fun i => if i = 0 then X else Y)).In w := by
  refine ⟨⟨rfl, rfl, rfl, Nat.zero_le _, Nat.le_refl _, by unfold maxLen; omega⟩, fun i hi => ?_⟩
  match i, hi with
  | 0, _ => exact ⟨⟨bl, 0, rfl, h0⟩, hx⟩
  | 1, _ => exact ⟨⟨bl, 0, rfl, h1⟩, hy⟩
theorem triple_in {w : World} {bl : Nat} {X Y Z : VT} (hx : X.In w) (hy : Y.In w) (hz : Z.In w) (h0 : ∀ j, j < 6 → w.cell? ⟨bl, 0 + j, none⟩ = X.cells[j]?) (h1 : ∀ j, j < 6 → w.cell? ⟨bl, 6 + j, none⟩ = Y.cells[j]?) (h2 : ∀ j, j < 6 → w.cell? ⟨bl, 12 + j, none⟩ = Z.cells[j]?) :
    (VT.mk 0 false 0 0 ⟨#[]⟩ (some ⟨bl, 0, none⟩) 3 3 (fun i => if i = 0 then X else if i = 1 then Y else Z)).In w := by
  refine ⟨⟨rfl, rfl, rfl, Nat.zero_le _, Nat.le_refl _, by unfold maxLen; omega⟩, fun i hi => ?_⟩
  match i, hi with
  | 0, _ => exact ⟨⟨bl, 0, rfl, h0⟩, hx⟩
  | 1, _ => exact ⟨⟨bl, 0, rfl, h1⟩, hy⟩
  | 2, _ => exact ⟨⟨bl, 0, rfl, h2⟩, hz⟩
theorem one_in {w : World} {bl : Nat} {X : VT} (hx : X.In w) (h0 : ∀ j, j < 6 → w.cell? ⟨bl, 0 + j, none⟩ = X.cells[j]?) :
    (VT.mk 0 false 0 0 ⟨#[]⟩ (some ⟨bl, 0, none⟩) 1 1 (fun _ => X)).In w := by
  refine ⟨⟨rfl, rfl, rfl, Nat.zero_le _, Nat.le_refl _, by unfold maxLen; omega⟩, fun i hi => ?_⟩
  match i, hi with
  | 0, _ => exact ⟨⟨bl, 0, rfl, h0⟩, hx⟩

theorem vmay1 {k : Int} {b : Bool} {m s : Int} {t : ByteArray} {a : Option Addr} {len cap : Nat} {kid : Nat → VT} {w0 : World} {z : Nat} (hz : w0.heap.size = z) (h0 : (VT.mk k b m s t a len cap kid).In w0) :
    Calls Try.prog 8 #[.slice (some ⟨z, 0, none⟩) 1 1] (w0.alloc (Obj.cells #[.int .i64 k, .bool b, .int .i64 m, .int .i64 s, .string t, .slice a len cap] 26)) fun e w' => (∃ r, e = .returned (.bool r) ∧ (r = true → (VT.mk k b m s t a len cap kid).okB 2 = true)) ∧ Below w0.heap.size w0 w' := by
  subst hz
  have b0 := below1 w0 (Obj.cells #[.int .i64 k, .bool b, .int .i64 m, .int .i64 s, .string t, .slice a len cap] 26)
  refine (vmay_any w0.heap.size 1 (fun _ => (VT.mk k b m s t a len cap kid)) _ (by omega) (one_in (h0.below b0) (six_cells ⟨by simp, by go_simp, by go_simp, by go_simp, by go_simp, by go_simp, by go_simp⟩))).mono ?_
  rintro e w' ⟨⟨r, he, hr⟩, hb⟩
  exact ⟨⟨r, he, fun h => hr h 0 (by omega)⟩, bstep b0 hb⟩

theorem vmay2 {k : Int} {b : Bool} {m s : Int} {t : ByteArray} {a : Option Addr} {len cap : Nat} {kid : Nat → VT} {k' : Int} {b' : Bool} {m' s' : Int} {t' : ByteArray} {a' : Option Addr} {len' cap' : Nat} {kid' : Nat → VT} {w0 : World} {z : Nat} (hz : w0.heap.size = z) (h0 : (VT.mk k b m s t a len cap kid).In w0) (h1 : (VT.mk k' b' m' s' t' a' len' cap' kid').In w0) :
    Calls Try.prog 8 #[.slice (some ⟨z, 0, none⟩) 2 2] (w0.alloc (Obj.cells #[.int .i64 k, .bool b, .int .i64 m, .int .i64 s, .string t, .slice a len cap, .int .i64 k', .bool b', .int .i64 m', .int .i64 s', .string t', .slice a' len' cap'] 26)) fun e w' => (∃ r, e = .returned (.bool r) ∧ (r = true → (VT.mk k b m s t a len cap kid).okB 2 = true ∧ (VT.mk k' b' m' s' t' a' len' cap' kid').okB 2 = true)) ∧ Below w0.heap.size w0 w' := by
  subst hz
  have b0 := below1 w0 (Obj.cells #[.int .i64 k, .bool b, .int .i64 m, .int .i64 s, .string t, .slice a len cap, .int .i64 k', .bool b', .int .i64 m', .int .i64 s', .string t', .slice a' len' cap'] 26)
  refine (vmay_any w0.heap.size 2 (fun i => if i = 0 then (VT.mk k b m s t a len cap kid) else (VT.mk k' b' m' s' t' a' len' cap' kid')) _ (by omega) (pair_in (h0.below b0) (h1.below b0) (six_cells ⟨by simp, by go_simp, by go_simp, by go_simp, by go_simp, by go_simp, by go_simp⟩) (six_cells ⟨by simp, by go_simp, by go_simp, by go_simp, by go_simp, by go_simp, by go_simp⟩))).mono ?_
  rintro e w' ⟨⟨r, he, hr⟩, hb⟩
  exact ⟨⟨r, he, fun h => ⟨hr h 0 (by omega), hr h 1 (by omega)⟩⟩, bstep b0 hb⟩

theorem vmay3 {k : Int} {b : Bool} {m s : Int} {t : ByteArray} {a : Option Addr} {len cap : Nat} {kid : Nat → VT} {k' : Int} {b' : Bool} {m' s' : Int} {t' : ByteArray} {a' : Option Addr} {len' cap' : Nat} {kid' : Nat → VT} {k'' : Int} {b'' : Bool} {m'' s'' : Int} {t'' : ByteArray} {a'' : Option Addr} {len'' cap'' : Nat} {kid'' : Nat → VT} {w0 : World} {z : Nat} (hz : w0.heap.size = z) (h0 : (VT.mk k b m s t a len cap kid).In w0) (h1 : (VT.mk k' b' m' s' t' a' len' cap' kid').In w0) (h2 : (VT.mk k'' b'' m'' s'' t'' a'' len'' cap'' kid'').In w0) :
    Calls Try.prog 8 #[.slice (some ⟨z, 0, none⟩) 3 3] (w0.alloc (Obj.cells #[.int .i64 k, .bool b, .int .i64 m, .int .i64 s, .string t, .slice a len cap, .int .i64 k', .bool b', .int .i64 m', .int .i64 s', .string t', .slice a' len' cap', .int .i64 k'', .bool b'', .int .i64 m'', .int .i64 s'', .string t'', .slice a'' len'' cap''] 26)) fun e w' => (∃ r, e = .returned (.bool r) ∧ (r = true → (VT.mk k b m s t a len cap kid).okB 2 = true ∧ (VT.mk k' b' m' s' t' a' len' cap' kid').okB 2 = true ∧ (VT.mk k'' b'' m'' s'' t'' a'' len'' cap'' kid'').okB 2 = true)) ∧ Below w0.heap.size w0 w' := by
  subst hz
  have b0 := below1 w0 (Obj.cells #[.int .i64 k, .bool b, .int .i64 m, .int .i64 s, .string t, .slice a len cap, .int .i64 k', .bool b', .int .i64 m', .int .i64 s', .string t', .slice a' len' cap', .int .i64 k'', .bool b'', .int .i64 m'', .int .i64 s'', .string t'', .slice a'' len'' cap''] 26)
  refine (vmay_any w0.heap.size 3 (fun i => if i = 0 then (VT.mk k b m s t a len cap kid) else if i = 1 then (VT.mk k' b' m' s' t' a' len' cap' kid') else (VT.mk k'' b'' m'' s'' t'' a'' len'' cap'' kid'')) _ (by omega) (triple_in (h0.below b0) (h1.below b0) (h2.below b0) (six_cells ⟨by simp, by go_simp, by go_simp, by go_simp, by go_simp, by go_simp, by go_simp⟩) (six_cells ⟨by simp, by go_simp, by go_simp, by go_simp, by go_simp, by go_simp, by go_simp⟩) (six_cells ⟨by simp, by go_simp, by go_simp, by go_simp, by go_simp, by go_simp, by go_simp⟩))).mono ?_
  rintro e w' ⟨⟨r, he, hr⟩, hb⟩
  exact ⟨⟨r, he, fun h => ⟨hr h 0 (by omega), hr h 1 (by omega), hr h 2 (by omega)⟩⟩, bstep b0 hb⟩
end Go.Proofs.Ythccmlkcdinfdac
