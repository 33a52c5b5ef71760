/- RE12 RE13 RE14: laid together. -/
import Derived.Test.YtfdimdjmnfdecaaGreatKBK
set_option linter.unusedVariables false
set_option linter.unusedSimpArgs false
set_option maxHeartbeats 8000000
namespace Go.Proofs.YtfdimdjmnfdecaaGreat
open Go.RowKit
section
open VT (leaf mkV)
def nMod : List UInt8 := [109, 111, 100]
def nHas : List UInt8 := [104, 97, 115]
theorem fix_n1 (nm : List UInt8) (h1 : nm ≠ nMod) (h2 : nm ≠ nHas) (l : List VT) (hl : l.length ≠ 1) : fixT nm l = nilV := by
 match l, hl with
 | [], _ => rfl
 | [x], h => exact absurd rfl h
 | [x, y], _ =>
  show twoT nm x y = nilV
  unfold twoT
  rw [if_neg (fun h => h1 h.1), if_neg (fun h => h2 h.1)]
 | x :: y :: z :: l, _ => rfl
theorem fix_n2 (nm : List UInt8) (h : nm = nMod ∨ nm = nHas) (l : List VT) (hl : l.length ≠ 2) : fixT nm l = nilV := by
 match l, hl with
 | [], _ => rfl
 | [x], _ => rcases h with rfl | rfl <;> rfl
 | [x, y], h => exact absurd rfl h
 | x :: y :: z :: l, _ => rfl
theorem lf_nilp {p : Array Value} {w : World} {f : Nat} {nm : List UInt8} {l : List VT} (h : Calls Tryz.prog f p w fun e w' => e = .returned (.tuple #[lfv 0 false 0 0 ⟨#[]⟩, .int .i64 0]) ∧ Below w.heap.size w w') (e : fixT nm l = nilV) :
  Calls Tryz.prog f p w fun e w' => LfRes (fixT nm l, 0) e ∧ Below w.heap.size w w' := h.mono (fun _ _ q => ⟨q.1 ▸ lfr_of (by rw [e]; rfl), q.2⟩)
theorem lf_val {p : Array Value} {w : World} {f : Nat} {nm : List UInt8} {l : List VT} {k : Int} {b : Bool} {m s : Int} {t : ByteArray} (h : Calls Tryz.prog f p w fun e w' => e = .returned (.tuple #[lfv k b m s t, .int .i64 0]) ∧ Below w.heap.size w w') (e : fixT nm l = leaf k b m s t) :
  Calls Tryz.prog f p w fun e w' => LfRes (fixT nm l, 0) e ∧ Below w.heap.size w w' := h.mono (fun _ _ q => ⟨q.1 ▸ lfr_of (by rw [e]), q.2⟩)
theorem lf_mod (m s n t : Int) : LF (modV m s n t) := by
 unfold modV
 split
 ·exact lf_nil
 ·split
  ·exact lf_num _ _
  ·exact lf_num _ _
theorem row_one {a : Option Addr} {cap : Nat} {l : List VT} {w : World} (hin : (rowT a cap l).In w) (hl : l.length = 1) : ∃ bl o k b m s t a1 len cap1 kid, a = some ⟨bl, o, none⟩ ∧ l = [VT.mk k b m s t a1 len cap1 kid] ∧ VT.Six w bl o k b m s t a1 len cap1 ∧ (VT.mk k b m s t a1 len cap1 kid).In w := by
 obtain ⟨x, rfl⟩ := List.length_eq_one_iff.1 hl
 obtain ⟨bl, o, k, b, m, s, t, a1, len, cap1, kid, rfl, hx, six, hk⟩ := hin.kid (i := 0) (by simp)
 obtain rfl : x = .mk k b m s t a1 len cap1 kid := by simpa using hx
 rw [show o + 0 * 6 = o by omega] at six
 exact ⟨bl, o, k, b, m, s, t, a1, len, cap1, kid, rfl, rfl, six, hk⟩
theorem row_two {a : Option Addr} {cap : Nat} {l : List VT} {w : World} (hin : (rowT a cap l).In w) (hl : l.length = 2) : ∃ bl o k b m s t a1 len cap1 kid k' b' m' s' t' a' len' cap' kid', a = some ⟨bl, o, none⟩ ∧ l = [VT.mk k b m s t a1 len cap1 kid, VT.mk k' b' m' s' t' a' len' cap' kid'] ∧ VT.Six w bl o k b m s t a1 len cap1 ∧ VT.Six w bl (o + 6) k' b' m' s' t' a' len' cap' ∧ (VT.mk k b m s t a1 len cap1 kid).In w ∧ (VT.mk k' b' m' s' t' a' len' cap' kid').In w := by
 obtain ⟨x, y, rfl⟩ : ∃ x y, l = [x, y] := by
  match l, hl with
  | [x, y], _ => exact ⟨x, y, rfl⟩
 obtain ⟨bl, o, k, b, m, s, t, a1, len, cap1, kid, rfl, hx, six, hk⟩ := hin.kid (i := 0) (by simp)
 obtain ⟨bl2, o2, k', b', m', s', t', a', len', cap', kid', hbl, hy, six2, hk2⟩ := hin.kid (i := 1) (by simp)
 obtain ⟨rfl, rfl⟩ : bl = bl2 ∧ o = o2 := by simpa using hbl
 obtain rfl : x = .mk k b m s t a1 len cap1 kid := by simpa using hx
 obtain rfl : y = .mk k' b' m' s' t' a' len' cap' kid' := by simpa using hy
 rw [show o + 0 * 6 = o by omega] at six
 rw [show o + 1 * 6 = o + 6 by omega] at six2
 exact ⟨bl, o, k, b, m, s, t, a1, len, cap1, kid, k', b', m', s', t', a', len', cap', kid', rfl, rfl, six, six2, hk, hk2⟩
theorem rcall_any (nm : List UInt8) (a : Option Addr) (cap : Nat) (l : List VT) (w : World) (hin : (rowT a cap l).In w) (hok : ∀ v ∈ l, v.okB 2 = true) (hlen : l.length ≤ 1000) :
  Calls Tryz.prog 34 #[.string ⟨nm.toArray⟩, .slice a l.length cap] w fun e w' => LfRes (callT nm l) e ∧ Below w.heap.size w w' := by
 unfold callT
 by_cases c4 : nm = [99, 97, 116]
 ·subst c4; rw [if_pos rfl]; exact rcall_cat a cap l w hin hok hlen
 rw [if_neg c4]
 by_cases c1 : nm = [109, 105, 110]
 ·rw [if_pos (.inl c1)]; subst c1; exact rcall_min a cap l w hin hok hlen
 by_cases c2 : nm = [109, 97, 120]
 ·rw [if_pos (.inr (.inl c2))]; subst c2; exact rcall_max a cap l w hin hok hlen
 by_cases c3 : nm = [115, 117, 109]
 ·rw [if_pos (.inr (.inr c3))]; subst c3; exact rcall_sum a cap l w hin hok hlen
 rw [if_neg (fun h => h.elim c1 (fun h => h.elim c2 c3))]
 have h1n : l.length ≠ 1 → ((l.length : Int) == 1) = false := fun h => by simp; omega
 have h2n : l.length ≠ 2 → ((l.length : Int) == 2) = false := fun h => by simp; omega
 by_cases c_abs : nm = [97, 98, 115]
 ·subst c_abs
  by_cases hl : l.length = 1
  ·obtain ⟨bl, o, k, b, m, s, t, a1, len, cap1, kid, rfl, rfl, six, hk⟩ := row_one hin hl
   by_cases hk2 : k = 2
   ·subst hk2
    exact lf_val (rcall_abs_y bl o cap b m s t a1 len cap1 w six (num_of_ok (x := VT.mk 2 b m s t a1 len cap1 kid) (hok _ (by simp)) rfl)) rfl
   ·refine lf_nilp (rcall_abs_k bl o cap k b m s t a1 len cap1 w six (by simpa using hk2)) ?_
    show oneT _ _ = _
    simp [oneT, kdV, hk2]
  ·exact lf_nilp (rcall_abs_n a cap l w (h1n hl)) (fix_n1 _ (by decide) (by decide) l hl)
 by_cases c_floor : nm = [102, 108, 111, 111, 114]
 ·subst c_floor
  by_cases hl : l.length = 1
  ·obtain ⟨bl, o, k, b, m, s, t, a1, len, cap1, kid, rfl, rfl, six, hk⟩ := row_one hin hl
   by_cases hk2 : k = 2
   ·subst hk2
    exact lf_val (rcall_floor_y bl o cap b m s t a1 len cap1 w six (num_of_ok (x := VT.mk 2 b m s t a1 len cap1 kid) (hok _ (by simp)) rfl)) rfl
   ·refine lf_nilp (rcall_floor_k bl o cap k b m s t a1 len cap1 w six (by simpa using hk2)) ?_
    show oneT _ _ = _
    simp [oneT, kdV, hk2]
  ·exact lf_nilp (rcall_floor_n a cap l w (h1n hl)) (fix_n1 _ (by decide) (by decide) l hl)
 by_cases c_ceil : nm = [99, 101, 105, 108]
 ·subst c_ceil
  by_cases hl : l.length = 1
  ·obtain ⟨bl, o, k, b, m, s, t, a1, len, cap1, kid, rfl, rfl, six, hk⟩ := row_one hin hl
   by_cases hk2 : k = 2
   ·subst hk2
    exact lf_val (rcall_ceil_y bl o cap b m s t a1 len cap1 w six (num_of_ok (x := VT.mk 2 b m s t a1 len cap1 kid) (hok _ (by simp)) rfl)) rfl
   ·refine lf_nilp (rcall_ceil_k bl o cap k b m s t a1 len cap1 w six (by simpa using hk2)) ?_
    show oneT _ _ = _
    simp [oneT, kdV, hk2]
  ·exact lf_nilp (rcall_ceil_n a cap l w (h1n hl)) (fix_n1 _ (by decide) (by decide) l hl)
 by_cases c_not : nm = [110, 111, 116]
 ·subst c_not
  by_cases hl : l.length = 1
  ·obtain ⟨bl, o, k, b, m, s, t, a1, len, cap1, kid, rfl, rfl, six, hk⟩ := row_one hin hl
   exact lf_val (rcall_not_y bl o cap k b m s t a1 len cap1 w six) rfl
  ·exact lf_nilp (rcall_not_n a cap l w (h1n hl)) (fix_n1 _ (by decide) (by decide) l hl)
 by_cases c_mod : nm = [109, 111, 100]
 ·subst c_mod
  by_cases hl : l.length = 2
  ·have e1 : ((l.length : Int) == 2) = true := by rw [hl]; rfl
   cases hall : (l.all fun v => kdV v == 2)
   ·refine lf_nilp (rcall_mod_k a cap l w hin e1 hall) ?_
    obtain ⟨bl, o, k, b, m, s, t, a1, len, cap1, kid, k', b', m', s', t', a', len', cap', kid', rfl, rfl, -⟩ := row_two hin hl
    have hn : ¬ (k = 2 ∧ k' = 2) := by rintro ⟨rfl, rfl⟩; simp [kdV] at hall
    show twoT _ _ _ = _
    unfold twoT
    rw [if_neg (fun h => hn h.2), if_neg (fun h => absurd h.1 (by decide))]
   ·have hin0 := hide hin
    obtain ⟨bl, o, k, b, m, s, t, a1, len, cap1, kid, k', b', m', s', t', a', len', cap', kid', rfl, rfl, six, six', -⟩ := row_two hin hl
    obtain ⟨rfl, rfl⟩ : k = 2 ∧ k' = 2 := by simpa [kdV] using hall
    have i1 := num_of_ok (hok _ (by simp : (VT.mk 2 b m s t a1 len cap1 kid) ∈ _)) rfl
    have i2 := num_of_ok (hok _ (by simp : (VT.mk 2 b' m' s' t' a' len' cap' kid') ∈ _)) rfl
    obtain ⟨K, BB, M, SS, TT, e⟩ : LF (modV m s m' s') := lf_mod m s m' s'
    have C := hide (fun w => rmodE_any m s m' s' w (isB_bd i1).1 (isB_bd i1).2.1 (isB_bd i2).1 (isB_bd i2).2.1)
    rw [e] at C
    refine lf_val (rcall_mod_y bl o cap b m s t a1 len cap1 b' m' s' t' a' len' cap' w six six' K BB M SS TT (hide (fun w' kk => ?_)) C) ?_
    ·have h := rallE_any 2 _ cap _ w' ((unhide hin0).below kk)
     rw [hall] at h
     exact h
    ·show twoT _ _ _ = _
     unfold twoT
     rw [if_pos ⟨rfl, rfl, rfl⟩]
     exact e
  ·exact lf_nilp (rcall_mod_n a cap l w (h2n hl)) (fix_n2 _ (.inl rfl) l hl)
 by_cases c_len : nm = [108, 101, 110]
 ·subst c_len
  by_cases hl : l.length = 1
  ·obtain ⟨bl, o, k, b, m, s, t, a1, len, cap1, kid, rfl, rfl, six, hk⟩ := row_one hin hl
   by_cases hk2 : k = 3
   ·subst hk2
    exact lf_val (rcall_len_y bl o cap b m s t a1 len cap1 w six hk.1.2.2.2.1) rfl
   ·refine lf_nilp (rcall_len_k bl o cap k b m s t a1 len cap1 w six (by simpa using hk2)) ?_
    show oneT _ _ = _
    simp [oneT, kdV, hk2]
  ·exact lf_nilp (rcall_len_n a cap l w (h1n hl)) (fix_n1 _ (by decide) (by decide) l hl)
 by_cases c_count : nm = [99, 111, 117, 110, 116]
 ·subst c_count
  by_cases hl : l.length = 1
  ·obtain ⟨bl, o, k, b, m, s, t, a1, len, cap1, kid, rfl, rfl, six, hk⟩ := row_one hin hl
   by_cases hk2 : k = 4
   ·subst hk2
    refine lf_val (rcall_count_y bl o cap b m s t a1 len cap1 w six) ?_
    show numV (((List.range len).map kid).length : Nat) 0 = _
    rw [List.length_map, List.length_range]; rfl
   ·refine lf_nilp (rcall_count_k bl o cap k b m s t a1 len cap1 w six (by simpa using hk2)) ?_
    show oneT _ _ = _
    simp [oneT, kdV, hk2]
  ·exact lf_nilp (rcall_count_n a cap l w (h1n hl)) (fix_n1 _ (by decide) (by decide) l hl)
 by_cases c_has : nm = [104, 97, 115]
 ·subst c_has
  by_cases hl : l.length = 2
  ·obtain ⟨bl, o, k, b, m, s, t, a1, len, cap1, kid, k', b', m', s', t', a', len', cap', kid', rfl, rfl, six, six', hk, hk'⟩ := row_two hin hl
   by_cases hk2 : k = 4
   ·subst hk2
    have hl2 := okB_list (hok _ (by simp : (VT.mk 4 b m s t a1 len cap1 kid) ∈ _))
    have hok2 : ∀ v ∈ (List.range len).map kid, v.okB 2 = true := fun v hv => by
     simp only [List.mem_map, List.mem_range] at hv
     obtain ⟨i, hi, rfl⟩ := hv
     exact okB_up (hl2.2 i hi)
    have oky := hok _ (by simp : (VT.mk k' b' m' s' t' a' len' cap' kid') ∈ _)
    obtain ⟨K, BB, M, SS, TT, e⟩ : LF (hasV ((List.range len).map kid) (VT.mk k' b' m' s' t' a' len' cap' kid')) := lf_boo _
    have hr := rowT_of hk
    refine lf_val (rcall_has_y bl o cap b m s t a1 len cap1 k' b' m' s' t' a' len' cap' w six six' K BB M SS TT (hide (fun w' kk => ?_))) ?_
    ·have h := rhasE_any a1 cap1 ((List.range len).map kid) (VT.mk k' b' m' s' t' a' len' cap' kid') w' (hr.below kk) hok2 oky (hk'.below kk)
     rw [e] at h
     have el : ((List.range len).map kid).length = len := by simp
     rw [el] at h
     exact h
    ·show twoT _ _ _ = _
     unfold twoT
     rw [if_neg (fun h => absurd h.1 (by decide)), if_pos ⟨rfl, rfl⟩]
     exact e
   ·refine lf_nilp (rcall_has_k bl o cap k b m s t a1 len cap1 k' b' m' s' t' a' len' cap' w six six' (by simpa using hk2)) ?_
    show twoT _ _ _ = _
    unfold twoT
    rw [if_neg (fun h => absurd h.1 (by decide)), if_neg (fun h => hk2 h.2)]
  ·exact lf_nilp (rcall_has_n a cap l w (h2n hl)) (fix_n2 _ (.inr rfl) l hl)
 refine lf_nilp (rcall_else nm (by simpa using c1) (by simpa using c2) (by simpa using c3) (by simpa using c4) (by simpa using c_abs) (by simpa using c_floor) (by simpa using c_ceil) (by simpa using c_not) (by simpa using c_mod) (by simpa using c_len) (by simpa using c_count) (by simpa using c_has) a cap l w) ?_
 match l with
 | [] => rfl
 | [x] =>
  show oneT nm x = nilV
  unfold oneT
  rw [if_neg c_not, if_neg (fun h => c_abs h.1), if_neg (fun h => c_floor h.1), if_neg (fun h => c_ceil h.1), if_neg (fun h => c_len h.1), if_neg (fun h => c_count h.1)]
 | [x, y] =>
  show twoT nm x y = nilV
  unfold twoT
  rw [if_neg (fun h => c_mod h.1), if_neg (fun h => c_has h.1)]
 | x :: y :: z :: l => rfl
def fitZ : XT → Prop
 | .none => True
 | .mk _ _ _ _ t _ _ _ len _ kid => t.size ≤ 1000 ∧ len ≤ 1000 ∧ ∀ i, i < len → fitZ (kid i)
theorem fitZ_fit (x : XT) : fitZ x → fitX x := by
 induction x with
 | none => intro _; trivial
 | mk k b m s t lo hi a len cap kid ih =>
  rintro ⟨h1, h2, h3⟩
  exact ⟨by unfold maxLen; omega, by omega, fun i hi => ih i (h3 i hi)⟩
theorem fitZ_of_sma (x : XT) : smaX x.bare = true → fitZ x := by
 induction x with
 | none => intro _; trivial
 | mk k b m s t lo hi a len cap kid ih =>
  intro h
  unfold XT.bare smaX at h
  simp only [Bool.and_eq_true, decide_eq_true_eq, List.all_eq_true, List.mem_range] at h
  refine ⟨h.1, h.2.1, fun i hi => ih i ?_⟩
  have := h.2.2 i hi
  rw [if_pos hi] at this
  exact this
def REvRes (N H : Nat) (X : VT × Int) (e : Ending) (w' : World) : Prop := ∃ T : VT, e = .returned (.tuple #[T.val, .int .i64 X.2]) ∧ T.In w' ∧ T.Lies (fun g => g < N ∨ H ≤ g) ∧ T.bare = X.1
def EnvLo (N : Nat) (es : List (ByteArray × VT)) : Prop := ∀ e ∈ es, e.2.okB 2 = true ∧ e.2.Lies (fun g => g < N)
def REvOf (x : XT) : Prop := ∀ (N : Nat) (es : List (ByteArray × VT)) (a9 : Option Addr) (c9 : Nat) (w : World), x.In (fun _ => True) w → fitZ x → EnvIn w a9 es → es.length ≤ maxLen → EnvLo N es → N ≤ w.heap.size →
  Calls Tryz.prog 12 #[x.val, .slice a9 es.length c9] w fun e w' => REvRes N w.heap.size (evT (envT es) x) e w' ∧ Below w.heap.size w w'
theorem rev_lf {X : VT × Int} {e : Ending} (h : LfRes X e) (ho : X.1.okB 2 = true) (N H : Nat) (w : World) : REvRes N H X e w := by
 obtain ⟨k, b, m, s, t, a, cap, he, hX, hc⟩ := h
 refine ⟨.mk k b m s t a 0 cap (fun _ => .none), he, ?_, VT.lies_leaf _ _ _ _ _ _ _ _ _, by rw [VT.bare_leaf, hX]⟩
 have hi := lf_inw ⟨k, b, m, s, t, hX⟩ ho w
 rw [hX] at hi
 obtain ⟨⟨h1, h2, h3, h4, -, -⟩, -⟩ := hi
 exact ⟨⟨h1, h2, h3, h4, Nat.zero_le _, hc⟩, fun i hi => absurd hi (Nat.not_lt_zero _)⟩
theorem lfr_val {X : VT × Int} (k : Int) (b : Bool) (m s : Int) (t : ByteArray) (E : Int) (h : X = (leaf k b m s t, E)) (ho : X.1.okB 2 = true) (N H : Nat) (w : World) : REvRes N H X (.returned (.tuple #[lfv k b m s t, .int .i64 E])) w := rev_lf (lfr_of h) ho N H w
set_option maxRecDepth 10000 in
theorem rleaf_1 (b : Bool) (m s : Int) (t : ByteArray) (lo hi : Bool) (a : Option Addr) (len cap : Nat) (a9 : Option Addr) (c9 n9 : Nat) (w : World) (N : Nat) :
  Calls Tryz.prog 30 #[.agg #[.int .i64 1, .bool b, .int .i64 m, .int .i64 s, .string t, .bool lo, .bool hi, .slice a len cap], .slice a9 n9 c9] w fun e w' => REvRes N w.heap.size (nilV, 0) e w' ∧ Below w.heap.size w w' := by
 have BT := boxesX w 1 b m s t lo hi a len cap
 go_enter Tryz.func30, Tryz.ntmps30
 go_wp2_with fail
 generalize ((w.alloc (Obj.cells #[.int .i64 1, .bool b, .int .i64 m, .int .i64 s, .string t, .bool lo, .bool hi, .slice a len cap] 26)).alloc (Obj.cells #[.int .i64 0, .bool false, .int .i64 0, .int .i64 0, .string ⟨#[]⟩, .slice none 0 0] 32)) = V at *
 obtain ⟨X0, O0, B0, z0⟩ := BT
 obtain ⟨x0, x1, x2, x3, x4, x5, x6, x7, x8⟩ := id X0
 simp only [Nat.zero_add] at x1 x2 x3 x4 x5 x6 x7 x8
 obtain ⟨u0, t0, t1, t2, t3, t4, t5, f0, f1, f2, f3, f4, f5⟩ := Own.fl O0
 try unfold lfv
 go_wp2_with fail
 exact bodyPost_ret (v := .tuple #[lfv 0 false 0 0 ⟨#[]⟩, .int .i64 0]) zR30lt0t1t2t3t4t5 rfl ⟨lfr_val 0 false 0 0 ⟨#[]⟩ 0 rfl ok_nil _ _ _, zBL⟩
set_option maxRecDepth 10000 in
theorem rleaf_2 (b : Bool) (m s : Int) (t : ByteArray) (lo hi : Bool) (a : Option Addr) (len cap : Nat) (a9 : Option Addr) (c9 n9 : Nat) (w : World) (N : Nat) :
  Calls Tryz.prog 30 #[.agg #[.int .i64 2, .bool b, .int .i64 m, .int .i64 s, .string t, .bool lo, .bool hi, .slice a len cap], .slice a9 n9 c9] w fun e w' => REvRes N w.heap.size (booV b, 0) e w' ∧ Below w.heap.size w w' := by
 have BT := boxesX w 2 b m s t lo hi a len cap
 go_enter Tryz.func30, Tryz.ntmps30
 go_wp2_with fail
 generalize ((w.alloc (Obj.cells #[.int .i64 2, .bool b, .int .i64 m, .int .i64 s, .string t, .bool lo, .bool hi, .slice a len cap] 26)).alloc (Obj.cells #[.int .i64 0, .bool false, .int .i64 0, .int .i64 0, .string ⟨#[]⟩, .slice none 0 0] 32)) = V at *
 obtain ⟨X0, O0, B0, z0⟩ := BT
 obtain ⟨x0, x1, x2, x3, x4, x5, x6, x7, x8⟩ := id X0
 simp only [Nat.zero_add] at x1 x2 x3 x4 x5 x6 x7 x8
 refine (rof_any _ _).mono ?_
 rintro e w1 ⟨rfl, k1⟩
 have O1 := O0.below k1
 have B1 := bstep B0 k1
 have X1 := XT.Eight.below X0 k1
 clear k1 O0 B0 X0 x0 x1 x2 x3 x4 x5 x6 x7 x8
 obtain ⟨x0, x1, x2, x3, x4, x5, x6, x7, x8⟩ := id X1
 simp only [Nat.zero_add] at x1 x2 x3 x4 x5 x6 x7 x8
 unfold tval
 obtain ⟨u0, t0, t1, t2, t3, t4, t5, f0, f1, f2, f3, f4, f5⟩ := Own.fl O1
 try unfold lfv
 go_wp2_with fail
 exact bodyPost_ret (v := .tuple #[lfv 1 b 0 0 ⟨#[]⟩, .int .i64 0]) zR30lt0t1t2t3t4t5 rfl ⟨lfr_val 1 b 0 0 ⟨#[]⟩ 0 rfl (ok_boo b) _ _ _, zBL⟩
set_option maxRecDepth 10000 in
theorem rleaf_3 (b : Bool) (m s : Int) (t : ByteArray) (lo hi : Bool) (a : Option Addr) (len cap : Nat) (a9 : Option Addr) (c9 n9 : Nat) (w : World) (N : Nat) :
  Calls Tryz.prog 30 #[.agg #[.int .i64 3, .bool b, .int .i64 m, .int .i64 s, .string t, .bool lo, .bool hi, .slice a len cap], .slice a9 n9 c9] w fun e w' => REvRes N w.heap.size (if isB m s = false then (nilV, 1) else (numV m s, 0)) e w' ∧ Below w.heap.size w w' := by
 have BT := boxesX w 3 b m s t lo hi a len cap
 generalize hRES : (if isB m s = false then ((nilV, 1) : VT × Int) else (numV m s, 0)) = RES
 have HRES := hide hRES
 clear hRES
 have IS := hide (fun w => ris_any m s w)
 have RN := hide (fun w => rnumE_any m s 0 w)
 unfold recT at RN
 rw [if_pos rfl] at RN
 go_enter Tryz.func30, Tryz.ntmps30
 go_wp2_with fail
 generalize ((w.alloc (Obj.cells #[.int .i64 3, .bool b, .int .i64 m, .int .i64 s, .string t, .bool lo, .bool hi, .slice a len cap] 26)).alloc (Obj.cells #[.int .i64 0, .bool false, .int .i64 0, .int .i64 0, .string ⟨#[]⟩, .slice none 0 0] 32)) = V at *
 obtain ⟨X0, O0, B0, z0⟩ := BT
 obtain ⟨x0, x1, x2, x3, x4, x5, x6, x7, x8⟩ := id X0
 simp only [Nat.zero_add] at x1 x2 x3 x4 x5 x6 x7 x8
 refine (unhide IS _).mono ?_
 rintro e w1 ⟨rfl, k1⟩
 have O1 := O0.below k1
 have B1 := bstep B0 k1
 have X1 := XT.Eight.below X0 k1
 clear k1 O0 B0 X0 x0 x1 x2 x3 x4 x5 x6 x7 x8
 obtain ⟨x0, x1, x2, x3, x4, x5, x6, x7, x8⟩ := id X1
 simp only [Nat.zero_add] at x1 x2 x3 x4 x5 x6 x7 x8
 cases hi : isB m s
 ·have HI := hide hi
  clear hi
  obtain ⟨u0, t0, t1, t2, t3, t4, t5, f0, f1, f2, f3, f4, f5⟩ := Own.fl O1
  try unfold lfv
  go_wp2_with fail
  exact bodyPost_ret (v := .tuple #[lfv 0 false 0 0 ⟨#[]⟩, .int .i64 1]) zR30lt0t1t2t3t4t5 rfl ⟨by rw [← unhide HRES, if_pos (unhide HI)]; exact lfr_val 0 false 0 0 ⟨#[]⟩ 1 rfl ok_nil _ _ _, zBL⟩
 ·have HI := hide hi
  clear hi
  go_wp2_with fail
  refine (unhide RN _).mono ?_
  rintro e w2 ⟨rfl, k2⟩
  have O2 := O1.below k2
  have B2 := bstep B1 k2
  have X2 := XT.Eight.below X1 k2
  clear k2 O1 B1 X1 x0 x1 x2 x3 x4 x5 x6 x7 x8
  obtain ⟨x0, x1, x2, x3, x4, x5, x6, x7, x8⟩ := id X2
  simp only [Nat.zero_add] at x1 x2 x3 x4 x5 x6 x7 x8
  unfold Tup numV leaf
  dsimp only [VT.val]
  obtain ⟨u0, t0, t1, t2, t3, t4, t5, f0, f1, f2, f3, f4, f5⟩ := Own.fl O2
  try unfold lfv
  go_wp2_with fail
  exact bodyPost_ret (v := .tuple #[lfv 2 false m s ⟨#[]⟩, .int .i64 0]) zR30lt0t1t2t3t4t5 rfl ⟨by rw [← unhide HRES, if_neg (by rw [unhide HI]; simp)]; exact lfr_val 2 false m s ⟨#[]⟩ 0 rfl (ok_num (unhide HI)) _ _ _, zBL⟩
set_option maxRecDepth 10000 in
theorem rleaf_4 (b : Bool) (m s : Int) (t : ByteArray) (lo hi : Bool) (a : Option Addr) (len cap : Nat) (a9 : Option Addr) (c9 n9 : Nat) (w : World) (N : Nat) (ht : t.size ≤ maxLen) :
  Calls Tryz.prog 30 #[.agg #[.int .i64 4, .bool b, .int .i64 m, .int .i64 s, .string t, .bool lo, .bool hi, .slice a len cap], .slice a9 n9 c9] w fun e w' => REvRes N w.heap.size (if textB t = false then (nilV, 1) else (texV t, 0)) e w' ∧ Below w.heap.size w w' := by
 have BT := boxesX w 4 b m s t lo hi a len cap
 generalize hRES : (if textB t = false then ((nilV, 1) : VT × Int) else (texV t, 0)) = RES
 have HRES := hide hRES
 clear hRES
 have IS := hide (fun w => rIs_any (texV t) w (tex_in t ht w))
 rw [tex_ok t 2] at IS
 have IS2 := hide (show ∀ w, Calls Tryz.prog 14 #[.agg #[.int .i64 3, .bool false, .int .i64 0, .int .i64 0, .string t, .slice none 0 0]] w fun e w' => e = .returned (.bool (textB t)) ∧ Below w.heap.size w w' from unhide IS)
 clear IS ht
 go_enter Tryz.func30, Tryz.ntmps30
 go_wp2_with fail
 generalize ((w.alloc (Obj.cells #[.int .i64 4, .bool b, .int .i64 m, .int .i64 s, .string t, .bool lo, .bool hi, .slice a len cap] 26)).alloc (Obj.cells #[.int .i64 0, .bool false, .int .i64 0, .int .i64 0, .string ⟨#[]⟩, .slice none 0 0] 32)) = V at *
 obtain ⟨X0, O0, B0, z0⟩ := BT
 obtain ⟨x0, x1, x2, x3, x4, x5, x6, x7, x8⟩ := id X0
 simp only [Nat.zero_add] at x1 x2 x3 x4 x5 x6 x7 x8
 refine (unhide IS2 _).mono ?_
 rintro e w1 ⟨rfl, k1⟩
 have O1 := O0.below k1
 have B1 := bstep B0 k1
 have X1 := XT.Eight.below X0 k1
 clear k1 O0 B0 X0 x0 x1 x2 x3 x4 x5 x6 x7 x8
 obtain ⟨x0, x1, x2, x3, x4, x5, x6, x7, x8⟩ := id X1
 simp only [Nat.zero_add] at x1 x2 x3 x4 x5 x6 x7 x8
 cases hi : textB t
 ·have HI := hide hi
  clear hi
  obtain ⟨u0, t0, t1, t2, t3, t4, t5, f0, f1, f2, f3, f4, f5⟩ := Own.fl O1
  try unfold lfv
  go_wp2_with fail
  exact bodyPost_ret (v := .tuple #[lfv 0 false 0 0 ⟨#[]⟩, .int .i64 1]) zR30lt0t1t2t3t4t5 rfl ⟨by rw [← unhide HRES, if_pos (unhide HI)]; exact lfr_val 0 false 0 0 ⟨#[]⟩ 1 rfl ok_nil _ _ _, zBL⟩
 ·have HI := hide hi
  clear hi
  obtain ⟨u0, t0, t1, t2, t3, t4, t5, f0, f1, f2, f3, f4, f5⟩ := Own.fl O1
  try unfold lfv
  go_wp2_with fail
  exact bodyPost_ret (v := .tuple #[lfv 3 false 0 0 t, .int .i64 0]) zR30lt0t1t2t3t4t5 rfl ⟨by rw [← unhide HRES, if_neg (by rw [unhide HI]; simp)]; exact lfr_val 3 false 0 0 t 0 rfl ((tex_ok t 2).trans (unhide HI)) _ _ _, zBL⟩
set_option maxRecDepth 10000 in
theorem rleaf_5 (b : Bool) (m s : Int) (t : ByteArray) (lo hi : Bool) (a : Option Addr) (len cap : Nat) (a9 : Option Addr) (c9 n9 : Nat) (w : World) (N : Nat) (es : List (ByteArray × VT)) (hn9 : n9 = es.length) (henv : EnvIn w a9 es) (hel : es.length ≤ maxLen) (hlo : EnvLo N es) (hN : N ≤ w.heap.size) :
  Calls Tryz.prog 30 #[.agg #[.int .i64 5, .bool b, .int .i64 m, .int .i64 s, .string t, .bool lo, .bool hi, .slice a len cap], .slice a9 n9 c9] w fun e w' => REvRes N w.heap.size (lookT (envT es) (XT.tl t), 0) e w' ∧ Below w.heap.size w w' := by
 have BT := boxesX w 5 b m s t lo hi a len cap
 subst hn9
 have hlm := hel
 unfold maxLen at hlm
 have HLO := hide hlo
 have hin1 := henv.below BT.2.2.1
 generalize hR : lookT (envT es) (XT.tl t) = R
 have HR : Hid (lookT (envT (es.drop 0)) (XT.tl t) = R) := hide (by rw [List.drop_zero]; exact hR)
 clear hR henv hel hlo
 go_enter Tryz.func30, Tryz.ntmps30
 go_wp2_with fail
 generalize ((w.alloc (Obj.cells #[.int .i64 5, .bool b, .int .i64 m, .int .i64 s, .string t, .bool lo, .bool hi, .slice a len cap] 26)).alloc (Obj.cells #[.int .i64 0, .bool false, .int .i64 0, .int .i64 0, .string ⟨#[]⟩, .slice none 0 0] 32)) = V at *
 obtain ⟨X0, O0, B0, z0⟩ := BT
 obtain ⟨x0, x1, x2, x3, x4, x5, x6, x7, x8⟩ := id X0
 simp only [Nat.zero_add] at x1 x2 x3 x4 x5 x6 x7 x8
 clear x0 x1 x2 x3 x4 x5 x6 x7 x8
 go_loopw [6] (fun i wr => ∃ (j : Nat), j ≤ es.length ∧ i = .int .i64 j ∧ Hid (lookT (envT (es.drop j)) (XT.tl t) = R) ∧ Below V.heap.size V wr) (fun i _ => es.length - (intOf i).toNat)
 case atStart => exact ⟨0, Nat.zero_le _, rfl, HR, Below.refl _ _⟩
 case round =>
  clear HR
  obtain ⟨j, hj, rfl, HR, bel⟩ := hrel
  have zz := bel.size
  have O1 := O0.below bel
  have B1 := bstep B0 bel
  have X1 := XT.Eight.below X0 bel
  obtain ⟨x0, x1, x2, x3, x4, x5, x6, x7, x8⟩ := id X1
  simp only [Nat.zero_add] at x1 x2 x3 x4 x5 x6 x7 x8
  by_cases hlt : j < es.length
  ·obtain ⟨bl, o, n, k', b', m', s', t', a', len', cap', kid', rfl, hx, sev, hk⟩ := hin1.at hlt
   obtain ⟨okj, loj⟩ : (VT.mk k' b' m' s' t' a' len' cap' kid').okB 2 = true ∧ (VT.mk k' b' m' s' t' a' len' cap' kid').Lies (fun g => g < N) := by have := unhide HLO es[j] (List.getElem_mem hlt); rw [hx] at this; exact this
   have SEV := hide (fun w' (kk : Below wr.heap.size wr w') => (sev.below bel).below kk)
   obtain ⟨s0, s1, s2, s3, s4, s5, s6, s7⟩ := sev.below bel
   have YI := hide (hk.below bel)
   have YL := hide loj
   by_cases hn : n.toList = t.toList
   ·have HR2 := hide (show R = (VT.mk k' b' m' s' t' a' len' cap' kid').bare by
     have := unhide HR
     rw [drop_consE hlt, hx] at this
     rw [← this]
     show (if XT.tl n = XT.tl t then _ else _) = _
     rw [if_pos (tl_eq.2 hn)])
    clear HR hk hx hin1 sev bel okj loj
    go_wp2_with fail
    go_quiet (fail)
    generalize hwq : wr.drewN nq = wq at *
    have bq : Below wr.heap.size wr wq := by rw [← hwq]; exact below_dN (Below.refl _ _) _
    have O2 := O1.below bq
    have B2 := bstep B1 bq
    have YI2 := hide ((unhide YI).below bq)
    have zq := bq.size
    clear hwq s0 s1 s2 s3 s4 s5 s6 s7 x0 x1 x2 x3 x4 x5 x6 x7 x8
    obtain ⟨s0, s1, s2, s3, s4, s5, s6, s7⟩ := unhide SEV _ bq
    obtain ⟨u0, t0, t1, t2, t3, t4, t5, f0, f1, f2, f3, f4, f5⟩ := Own.fl O2
    go_wp2_with fail
    refine bodyPost_ret (v := .tuple #[.agg #[.int .i64 k', .bool b', .int .i64 m', .int .i64 s', .string t', .slice a' len' cap'], .int .i64 0]) (by simp [results, Tryz.results30, go_sem, t0, t1, t2, t3, t4, t5]) rfl ⟨⟨.mk k' b' m' s' t' a' len' cap' kid', rfl, ?_, ?_, (unhide HR2).symm⟩, zBL⟩
    ·exact VT.In.kept (fun bl o _ hq => put_cell _ (w.heap.size + 1) 0 _ _ _ _ _ _ (by omega)) _ (unhide YI2) (unhide YL)
    ·exact (unhide YL).weak (fun g hg => .inl hg)
   ·have HR2 := hide (show lookT (envT (es.drop (j + 1))) (XT.tl t) = R by
     have := unhide HR
     rw [drop_consE hlt, hx] at this
     rw [← this]
     show _ = (if XT.tl n = XT.tl t then _ else _)
     rw [if_neg (fun e => hn (tl_eq.1 e))]
     rfl)
    have e1 : (n.toList == t.toList) = false := by simpa using hn
    clear HR hk hx hin1 sev okj loj SEV
    go_wp2_with fail
    go_quiet (fail)
    go_wp2_with fail
    go_roundw
    case rel => exact ⟨j + 1, by omega, by go_num, HR2, bstep bel (below_dN (Below.refl _ _) _)⟩
    case measure => simp [intOf]; omega
  ·have HR2 := hide (show R = nilV by have := unhide HR; rw [List.drop_of_length_le (by omega)] at this; exact this.symm)
   clear HR hin1
   obtain ⟨u0, t0, t1, t2, t3, t4, t5, f0, f1, f2, f3, f4, f5⟩ := Own.fl O1
   try unfold lfv
   go_wp2_with fail
   exact bodyPost_ret (v := .tuple #[lfv 0 false 0 0 ⟨#[]⟩, .int .i64 0]) zR30lt0t1t2t3t4t5 rfl ⟨by rw [unhide HR2]; exact lfr_val 0 false 0 0 ⟨#[]⟩ 0 rfl ok_nil _ _ _, zBL⟩
end
section
open VT (leaf mkV)
set_option maxRecDepth 10000 in
theorem rchoose_any (b : Bool) (m s : Int) (t : ByteArray) (lo hi : Bool) (a : Option Addr) (cap : Nat) (kid : Nat → XT) (ih : ∀ i, REvOf (kid i)) (N : Nat) (es : List (ByteArray × VT)) (a9 : Option Addr) (c9 : Nat) (w : World) (hin : (XT.mk 8 b m s t lo hi a 3 cap kid).In (fun _ => True) w) (hfit : fitZ (XT.mk 8 b m s t lo hi a 3 cap kid)) (henv : EnvIn w a9 es) (hel : es.length ≤ maxLen) (hok : EnvLo N es) (hN : N ≤ w.heap.size) :
  Calls Tryz.prog 29 #[.agg #[.int .i64 8, .bool b, .int .i64 m, .int .i64 s, .string t, .bool lo, .bool hi, .slice a 3 cap], .slice a9 es.length c9] w fun e w' => REvRes N w.heap.size (if (evT (envT es) (kid 0)).2 = 0 then (if trV (evT (envT es) (kid 0)).1 = true then evT (envT es) (kid 1) else evT (envT es) (kid 2)) else (nilV, (evT (envT es) (kid 0)).2)) e w' ∧ Below w.heap.size w w' := by
 obtain ⟨hft, hfl, hfk⟩ := hfit
 have HFK := hide hfk
 have HEL := hide hel
 have HOK := hide hok
 have HIH := hide ih
 obtain ⟨g, o, rfl⟩ := in3 hin
 clear hel hok ih hfk hft hfl
 obtain ⟨bl0, o0, p0k, p0b, p0m, p0s, p0t, p0lo, p0hi, p0a, p0l, p0c, p0kid, hbl0, hx0, eight0, hk0⟩ := hin.kid (i := 0) (by omega)
 obtain ⟨rfl, rfl⟩ : g = bl0 ∧ o = o0 := by simpa using hbl0
 have EV0 := fun w' (kk : Below w.heap.size w w') => unhide HIH 0 N es a9 c9 w'
 have HF0 := unhide HFK 0 (by omega)
 rw [hx0] at HF0
 have EH0 := hide (fun w' (kk : Below w.heap.size w w') => by have h := unhide HIH 0 N es a9 c9 w'; rw [hx0] at h; exact h (hk0.below kk) HF0 (henv.below kk) (unhide HEL) (unhide HOK) (Nat.le_trans hN kk.size))
 rw [show o + 0 * 8 = o by omega] at eight0
 clear EV0 HF0 hbl0
 obtain ⟨bl1, o1, p1k, p1b, p1m, p1s, p1t, p1lo, p1hi, p1a, p1l, p1c, p1kid, hbl1, hx1, eight1, hk1⟩ := hin.kid (i := 1) (by omega)
 obtain ⟨rfl, rfl⟩ : g = bl1 ∧ o = o1 := by simpa using hbl1
 have EV1 := fun w' (kk : Below w.heap.size w w') => unhide HIH 1 N es a9 c9 w'
 have HF1 := unhide HFK 1 (by omega)
 rw [hx1] at HF1
 have EH1 := hide (fun w' (kk : Below w.heap.size w w') => by have h := unhide HIH 1 N es a9 c9 w'; rw [hx1] at h; exact h (hk1.below kk) HF1 (henv.below kk) (unhide HEL) (unhide HOK) (Nat.le_trans hN kk.size))
 rw [show o + 1 * 8 = o + 8 by omega] at eight1
 clear EV1 HF1 hbl1
 obtain ⟨bl2, o2, p2k, p2b, p2m, p2s, p2t, p2lo, p2hi, p2a, p2l, p2c, p2kid, hbl2, hx2, eight2, hk2⟩ := hin.kid (i := 2) (by omega)
 obtain ⟨rfl, rfl⟩ : g = bl2 ∧ o = o2 := by simpa using hbl2
 have EV2 := fun w' (kk : Below w.heap.size w w') => unhide HIH 2 N es a9 c9 w'
 have HF2 := unhide HFK 2 (by omega)
 rw [hx2] at HF2
 have EH2 := hide (fun w' (kk : Below w.heap.size w w') => by have h := unhide HIH 2 N es a9 c9 w'; rw [hx2] at h; exact h (hk2.below kk) HF2 (henv.below kk) (unhide HEL) (unhide HOK) (Nat.le_trans hN kk.size))
 rw [show o + 2 * 8 = o + 16 by omega] at eight2
 clear EV2 HF2 hbl2
 rw [hx0, hx1, hx2]
 generalize hR0 : evT (envT es) (XT.mk p0k p0b p0m p0s p0t p0lo p0hi p0a p0l p0c p0kid) = R0 at *
 generalize hR1 : evT (envT es) (XT.mk p1k p1b p1m p1s p1t p1lo p1hi p1a p1l p1c p1kid) = R1 at *
 generalize hR2 : evT (envT es) (XT.mk p2k p2b p2m p2s p2t p2lo p2hi p2a p2l p2c p2kid) = R2 at *
 obtain ⟨RX, RE⟩ := R0
 obtain ⟨X0, O0, b0, z0⟩ := boxesX w 8 b m s t lo hi (some ⟨g, o, none⟩) 3 cap
 have E0 := eight0
 have E1 := eight1
 have E2 := eight2
 obtain ⟨q0, q1, q2, q3, q4, q5, q6, q7, q8⟩ := id eight0
 clear hx0 hx1 hx2 hk0 hk1 hk2 hR0 hR1 hR2 hin henv HIH HFK eight0 eight1 eight2 HEL HOK
 dsimp only
 generalize hRES : (if RE = 0 then (if trV RX = true then R1 else R2) else ((nilV, RE) : VT × Int)) = RES
 have HRES := hide hRES
 clear hRES
 go_enter Tryz.func29, Tryz.ntmps29
 go_wp2_with fail
 refine (unhide EH0 _ b0).mono ?_
 rintro e w1 ⟨⟨T, rfl, hT, hTl, hTb⟩, k1⟩
 obtain ⟨ky, by', my, sy, ty, ay, ly, cy, kidy, rfl⟩ := hT.form
 dsimp only [VT.val] at *
 have O1 := O0.below k1
 have X1 := XT.Eight.below X0 k1
 have B1 := bstep b0 k1
 have z1 := k1.size
 rw [z0] at z1
 clear k1 O0 b0 q0 q1 q2 q3 q4 q5 q6 q7 q8 EH0
 have b2 := below1 w1 (Obj.cells #[.int .i64 ky, .bool by', .int .i64 my, .int .i64 sy, .string ty, .slice ay ly cy] 32)
 have O2 := O1.below b2
 have X2 := XT.Eight.below X1 b2
 have B2 := bstep B1 b2
 by_cases hE : RE = 0
 ·subst hE
  have hTR : trV RX = trB ky by' := by rw [← hTb]; rfl
  have HR := hide (show RES = if trB ky by' = true then R1 else R2 by rw [← unhide HRES, if_pos rfl, hTR])
  clear hTR hTb hTl hT HRES
  go_wp2_with fail
  refine (rtruth_any _ _ _ _ _ _ _ _ _).mono ?_
  rintro e w3 ⟨rfl, k3⟩
  have O3 := O2.below k3
  have X3 := XT.Eight.below X2 k3
  obtain ⟨x0, x1, x2, x3, x4, x5, x6, x7, x8⟩ := id X3
  simp only [Nat.zero_add] at x1 x2 x3 x4 x5 x6 x7 x8
  have B3 := bstep B2 k3
  have z3 := k3.size
  simp at z3
  clear k3 O2 B2 b2 O1 B1
  cases hc : trB ky by'
  ·have HRB := hide (show RES = R2 by rw [unhide HR, hc]; simp)
   obtain ⟨q0, q1, q2, q3, q4, q5, q6, q7, q8⟩ := XT.Eight.below E2 B3
   clear hc
   go_wp2_with fail
   refine (unhide EH2 _ B3).mono ?_
   rintro e w4 ⟨⟨T, rfl, hT, hTl, hTb⟩, k4⟩
   obtain ⟨kz, bz, mz, sz, tz, az, lz, cz, kidz, rfl⟩ := hT.form
   dsimp only [VT.val]
   have O4 := O3.below k4
   have B4 := bstep B3 k4
   have YI := hide hT
   have YL := hide hTl
   have YB := hide hTb
   clear k4 O3 q0 q1 q2 q3 q4 q5 q6 q7 q8 hT hTl hTb EH1 EH2 x0 x1 x2 x3 x4 x5 x6 x7 x8
   obtain ⟨u0, t0, t1, t2, t3, t4, t5, f0, f1, f2, f3, f4, f5⟩ := Own.fl O4
   go_wp2_with fail
   refine bodyPost_ret (v := .tuple #[.agg #[.int .i64 kz, .bool bz, .int .i64 mz, .int .i64 sz, .string tz, .slice az lz cz], .int .i64 R2.2]) zR29t0t1t2t3t4t5 rfl ⟨?_, zBL⟩
   rw [unhide HRB]
   refine ⟨.mk kz bz mz sz tz az lz cz kidz, rfl, ?_, ?_, unhide YB⟩
   ·exact VT.In.kept (fun bl o _ hq => put_cell w4 (w.heap.size + 1) 0 _ _ _ _ _ _ (by omega)) _ (unhide YI) (unhide YL)
   ·exact (unhide YL).weak (fun h hh => by omega)
  ·have HRB := hide (show RES = R1 by rw [unhide HR, hc]; simp)
   obtain ⟨q0, q1, q2, q3, q4, q5, q6, q7, q8⟩ := XT.Eight.below E1 B3
   clear hc
   go_wp2_with fail
   refine (unhide EH1 _ B3).mono ?_
   rintro e w4 ⟨⟨T, rfl, hT, hTl, hTb⟩, k4⟩
   obtain ⟨kz, bz, mz, sz, tz, az, lz, cz, kidz, rfl⟩ := hT.form
   dsimp only [VT.val]
   have O4 := O3.below k4
   have B4 := bstep B3 k4
   have YI := hide hT
   have YL := hide hTl
   have YB := hide hTb
   clear k4 O3 q0 q1 q2 q3 q4 q5 q6 q7 q8 hT hTl hTb EH1 EH2 x0 x1 x2 x3 x4 x5 x6 x7 x8
   obtain ⟨u0, t0, t1, t2, t3, t4, t5, f0, f1, f2, f3, f4, f5⟩ := Own.fl O4
   go_wp2_with fail
   refine bodyPost_ret (v := .tuple #[.agg #[.int .i64 kz, .bool bz, .int .i64 mz, .int .i64 sz, .string tz, .slice az lz cz], .int .i64 R1.2]) zR29t0t1t2t3t4t5 rfl ⟨?_, zBL⟩
   rw [unhide HRB]
   refine ⟨.mk kz bz mz sz tz az lz cz kidz, rfl, ?_, ?_, unhide YB⟩
   ·exact VT.In.kept (fun bl o _ hq => put_cell w4 (w.heap.size + 1) 0 _ _ _ _ _ _ (by omega)) _ (unhide YI) (unhide YL)
   ·exact (unhide YL).weak (fun h hh => by omega)
 ·have HRB := hide (show RES = (nilV, RE) by rw [← unhide HRES, if_neg hE])
  have e1 : (RE != 0) = true := by simpa using hE
  clear hE hT hTl hTb EH1 EH2
  obtain ⟨u0, t0, t1, t2, t3, t4, t5, f0, f1, f2, f3, f4, f5⟩ := Own.fl O1
  have hne : ¬ w.heap.size + 1 = w1.heap.size := by omega
  go_wp2_with fail
  exact bodyPost_ret (v := .tuple #[lfv 0 false 0 0 ⟨#[]⟩, .int .i64 RE]) (by simp [results, Tryz.results29, go_sem, lfv, t0, t1, t2, t3, t4, t5, u0, hne]) rfl ⟨by rw [unhide HRB]; exact lfr_val 0 false 0 0 ⟨#[]⟩ RE rfl ok_nil _ _ _, zBL⟩
set_option maxRecDepth 10000 in
theorem reval_no (b : Bool) (m s : Int) (t : ByteArray) (lo hi : Bool) (a : Option Addr) (len cap : Nat) (a9 : Option Addr) (c9 n9 : Nat) (w : World) (N : Nat) (k : Int) (hs : kidsN k = -2 ∨ (0 < kidsN k ∧ kidsN k ≠ (len : Int))) :
  Calls Tryz.prog 12 #[.agg #[.int .i64 k, .bool b, .int .i64 m, .int .i64 s, .string t, .bool lo, .bool hi, .slice a len cap], .slice a9 n9 c9] w fun e w' => REvRes N w.heap.size (nilV, 1) e w' ∧ Below w.heap.size w w' := by
 have BT := boxesX w k b m s t lo hi a len cap
 skip
 go_enter Tryz.func12, Tryz.ntmps12
 go_wp2_with fail
 generalize ((w.alloc (Obj.cells #[.int .i64 k, .bool b, .int .i64 m, .int .i64 s, .string t, .bool lo, .bool hi, .slice a len cap] 26)).alloc (Obj.cells #[.int .i64 0, .bool false, .int .i64 0, .int .i64 0, .string ⟨#[]⟩, .slice none 0 0] 32)) = V at *
 obtain ⟨X0, O0, B0, z0⟩ := BT
 obtain ⟨x0, x1, x2, x3, x4, x5, x6, x7, x8⟩ := id X0
 simp only [Nat.zero_add] at x1 x2 x3 x4 x5 x6 x7 x8
 refine (rkids_any _ _).mono ?_
 rintro e w0 ⟨rfl, rfl⟩
 generalize kidsN k = q at *
 rcases hs with rfl | ⟨h1, h2⟩
 ·skip
  obtain ⟨u0, t0, t1, t2, t3, t4, t5, f0, f1, f2, f3, f4, f5⟩ := Own.fl O0
  try unfold lfv
  go_wp2_with fail
  exact bodyPost_ret (v := .tuple #[lfv 0 false 0 0 ⟨#[]⟩, .int .i64 1]) zR12lt0t1t2t3t4t5 rfl ⟨lfr_val 0 false 0 0 ⟨#[]⟩ 1 rfl ok_nil _ _ _, zBL⟩
 ·have e1 : (q == -2) = false := by simp; omega
  have e2 : (q != (len : Int)) = true := by simpa using h2
  clear h2
  obtain ⟨u0, t0, t1, t2, t3, t4, t5, f0, f1, f2, f3, f4, f5⟩ := Own.fl O0
  try unfold lfv
  go_wp2_with fail
  exact bodyPost_ret (v := .tuple #[lfv 0 false 0 0 ⟨#[]⟩, .int .i64 1]) zR12lt0t1t2t3t4t5 rfl ⟨lfr_val 0 false 0 0 ⟨#[]⟩ 1 rfl ok_nil _ _ _, zBL⟩
set_option maxRecDepth 10000 in
theorem reval_leaf (b : Bool) (m s : Int) (t : ByteArray) (lo hi : Bool) (a : Option Addr) (len cap : Nat) (a9 : Option Addr) (c9 n9 : Nat) (w : World) (N : Nat) (k : Int) (hk : kidsN k = 0) (h8 : (k == 8) = false) (R : VT × Int) (hN : N ≤ w.heap.size) (LE : Hid (∀ w', Below w.heap.size w w' → Calls Tryz.prog 30 #[.agg #[.int .i64 k, .bool b, .int .i64 m, .int .i64 s, .string t, .bool lo, .bool hi, .slice a len cap], .slice a9 n9 c9] w' fun e w'' => REvRes N w'.heap.size R e w'' ∧ Below w'.heap.size w' w'')) :
  Calls Tryz.prog 12 #[.agg #[.int .i64 k, .bool b, .int .i64 m, .int .i64 s, .string t, .bool lo, .bool hi, .slice a len cap], .slice a9 n9 c9] w fun e w' => REvRes N w.heap.size R e w' ∧ Below w.heap.size w w' := by
 have BT := boxesX w k b m s t lo hi a len cap
 go_enter Tryz.func12, Tryz.ntmps12
 go_wp2_with fail
 generalize ((w.alloc (Obj.cells #[.int .i64 k, .bool b, .int .i64 m, .int .i64 s, .string t, .bool lo, .bool hi, .slice a len cap] 26)).alloc (Obj.cells #[.int .i64 0, .bool false, .int .i64 0, .int .i64 0, .string ⟨#[]⟩, .slice none 0 0] 32)) = V at *
 obtain ⟨X0, O0, B0, z0⟩ := BT
 obtain ⟨x0, x1, x2, x3, x4, x5, x6, x7, x8⟩ := id X0
 simp only [Nat.zero_add] at x1 x2 x3 x4 x5 x6 x7 x8
 refine (rkids_any _ _).mono ?_
 rintro e w0 ⟨rfl, rfl⟩
 rw [hk]
 go_wp2_with fail
 refine (unhide LE _ B0).mono ?_
 rintro e w9 ⟨⟨T, rfl, hT, hTl, hTb⟩, k9⟩
 obtain ⟨kz, bz, mz, sz, tz, az, lz, cz, kidz, rfl⟩ := hT.form
 dsimp only [VT.val]
 have O9 := O0.below k9
 have B9 := bstep B0 k9
 have YI := hide hT
 have YL := hide hTl
 have YB := hide hTb
 clear k9 O0 hT hTl hTb
 obtain ⟨u0, t0, t1, t2, t3, t4, t5, f0, f1, f2, f3, f4, f5⟩ := Own.fl O9
 go_wp2_with fail
 refine bodyPost_ret (v := .tuple #[.agg #[.int .i64 kz, .bool bz, .int .i64 mz, .int .i64 sz, .string tz, .slice az lz cz], .int .i64 R.2]) zR12t0t1t2t3t4t5 rfl ⟨⟨.mk kz bz mz sz tz az lz cz kidz, rfl, ?_, ?_, unhide YB⟩, zBL⟩
 ·exact VT.In.kept (fun bl o _ hq => put_cell w9 (w.heap.size + 1) 0 _ _ _ _ _ _ (by omega)) _ (unhide YI) (unhide YL)
 ·exact (unhide YL).weak (fun h hh => by omega)
set_option maxRecDepth 10000 in
theorem reval_if (b : Bool) (m s : Int) (t : ByteArray) (lo hi : Bool) (a : Option Addr) (len cap : Nat) (a9 : Option Addr) (c9 n9 : Nat) (w : World) (N : Nat) (k : Int) (hk : kidsN k = 3) (h8 : (k == 8) = true) (hl : len = 3) (R : VT × Int) (hN : N ≤ w.heap.size) (LE : Hid (∀ w', Below w.heap.size w w' → Calls Tryz.prog 29 #[.agg #[.int .i64 k, .bool b, .int .i64 m, .int .i64 s, .string t, .bool lo, .bool hi, .slice a len cap], .slice a9 n9 c9] w' fun e w'' => REvRes N w'.heap.size R e w'' ∧ Below w'.heap.size w' w'')) :
  Calls Tryz.prog 12 #[.agg #[.int .i64 k, .bool b, .int .i64 m, .int .i64 s, .string t, .bool lo, .bool hi, .slice a len cap], .slice a9 n9 c9] w fun e w' => REvRes N w.heap.size R e w' ∧ Below w.heap.size w w' := by
 have BT := boxesX w k b m s t lo hi a len cap
 have e1 : (kidsN k == -2) = false := by rw [hk]; rfl
 have e2 : (kidsN k != (len : Int)) = false := by rw [hk, hl]; rfl
 have e3 : (0 : Int) < kidsN k := by rw [hk]; decide
 clear hl hk
 go_enter Tryz.func12, Tryz.ntmps12
 go_wp2_with fail
 generalize ((w.alloc (Obj.cells #[.int .i64 k, .bool b, .int .i64 m, .int .i64 s, .string t, .bool lo, .bool hi, .slice a len cap] 26)).alloc (Obj.cells #[.int .i64 0, .bool false, .int .i64 0, .int .i64 0, .string ⟨#[]⟩, .slice none 0 0] 32)) = V at *
 obtain ⟨X0, O0, B0, z0⟩ := BT
 obtain ⟨x0, x1, x2, x3, x4, x5, x6, x7, x8⟩ := id X0
 simp only [Nat.zero_add] at x1 x2 x3 x4 x5 x6 x7 x8
 refine (rkids_any _ _).mono ?_
 rintro e w0 ⟨rfl, rfl⟩
 generalize kidsN k = q at *
 go_wp2_with fail
 refine (unhide LE _ B0).mono ?_
 rintro e w9 ⟨⟨T, rfl, hT, hTl, hTb⟩, k9⟩
 obtain ⟨kz, bz, mz, sz, tz, az, lz, cz, kidz, rfl⟩ := hT.form
 dsimp only [VT.val]
 have O9 := O0.below k9
 have B9 := bstep B0 k9
 have YI := hide hT
 have YL := hide hTl
 have YB := hide hTb
 clear k9 O0 hT hTl hTb
 obtain ⟨u0, t0, t1, t2, t3, t4, t5, f0, f1, f2, f3, f4, f5⟩ := Own.fl O9
 go_wp2_with fail
 refine bodyPost_ret (v := .tuple #[.agg #[.int .i64 kz, .bool bz, .int .i64 mz, .int .i64 sz, .string tz, .slice az lz cz], .int .i64 R.2]) zR12t0t1t2t3t4t5 rfl ⟨⟨.mk kz bz mz sz tz az lz cz kidz, rfl, ?_, ?_, unhide YB⟩, zBL⟩
 ·exact VT.In.kept (fun bl o _ hq => put_cell w9 (w.heap.size + 1) 0 _ _ _ _ _ _ (by omega)) _ (unhide YI) (unhide YL)
 ·exact (unhide YL).weak (fun h hh => by omega)
end
section
open VT (leaf mkV)
theorem fit_selfE (m s : Int) (h : isB m s = true) : fitM m s = m ∧ fitS m s = s ∧ fitE m s = 0 := by
 obtain ⟨m1, m2, s1, s2⟩ := isB_bd h
 have hok : okM m = true := (okM_iff m).2 ⟨m1, m2⟩
 have harg : argB m s = false := by unfold argB; exact decide_eq_false (by omega)
 obtain ⟨n, rfl⟩ := Int.eq_ofNat_of_zero_le s1
 have ht : trimM m n = m ∧ trimS m n = n := by
  cases n with
  | zero => exact ⟨rfl, rfl⟩
  | succ n =>
   have h10 := isB_ten h (by omega)
   unfold trimM trimS
   rw [if_neg h10, if_neg h10]
   exact ⟨rfl, rfl⟩
 unfold fitM fitS fitE
 rw [harg]
 simp only [Bool.false_eq_true, if_false, Int.toNat_natCast]
 rw [show min n 4 = n by omega]
 unfold fitTM fitTS fitTE
 rw [show n - n = 0 by omega, show p10 0 = 1 from rfl, half_one, if_pos hok, if_pos hok, if_pos hok, ht.1, ht.2]
 exact ⟨rfl, rfl, rfl⟩
theorem sub_neg {m s : Int} (h : isB m s = true) : subR 0 0 m s = (numV (-m) s, 0) := by
 have ⟨m1, m2, s1, s2⟩ := isB_bd h
 have hn : isB (-m) s = true := by rw [isB_neg]; exact h
 obtain ⟨f1, f2, f3⟩ := fit_selfE (-m) s hn
 unfold subR
 rw [up_self m s s1, show upM 0 0 (max 0 s) = 0 by unfold upM; omega, show (0 : Int) - m = -m by omega, show max (0 : Int) s = s by omega]
 unfold fitR recT
 rw [f1, f2, f3, if_pos rfl]
theorem six_at {w : World} {g : Nat} (hg : g = w.heap.size) (k : Int) (b : Bool) (m s : Int) (t : ByteArray) (a : Option Addr) (len cap : Nat) : VT.Six (w.alloc (Obj.cells #[.int .i64 k, .bool b, .int .i64 m, .int .i64 s, .string t, .slice a len cap] 32)) g 0 k b m s t a len cap := hg ▸ six_new w k b m s t a len cap
theorem eight_grown {w w' : World} {row : Option Nat} {bl o : Nat} {k : Int} {b : Bool} {m s : Int} {t : ByteArray} {lo hi : Bool} {a : Option Addr} {len cap : Nat} (h : XT.Eight w bl o k b m s t lo hi a len cap) (hg : w.grownBy w' row) (hne : some bl ≠ row) : XT.Eight w' bl o k b m s t lo hi a len cap := by
 obtain ⟨h0, h1, h2, h3, h4, h5, h6, h7, h8⟩ := h
 have hc : ∀ i, w'.cell? ⟨bl, i, none⟩ = w.cell? ⟨bl, i, none⟩ := fun i => World.cell?_of_block (w := w) (hg.block bl h0 hne)
 exact ⟨Nat.lt_of_lt_of_le h0 hg.size, (hc _).trans h1, (hc _).trans h2, (hc _).trans h3, (hc _).trans h4, (hc _).trans h5, (hc _).trans h6, (hc _).trans h7, (hc _).trans h8⟩
theorem own_grown {w w' : World} {row : Option Nat} {b : Nat} (h : Own w b) (hg : w.grownBy w' row) (hne : some b ≠ row) : Own w' b := by
 obtain ⟨⟨h0, e0, e1, e2, e3, e4, e5⟩, f0, f1, f2, f3, f4, f5⟩ := h
 have hb := hg.block b h0 hne
 exact ⟨⟨Nat.lt_of_lt_of_le h0 hg.size, (World.cell?_of_block hb).trans e0, (World.cell?_of_block hb).trans e1, (World.cell?_of_block hb).trans e2, (World.cell?_of_block hb).trans e3, (World.cell?_of_block hb).trans e4, (World.cell?_of_block hb).trans e5⟩, (World.frozen?_of_block hb).trans f0, (World.frozen?_of_block hb).trans f1, (World.frozen?_of_block hb).trans f2, (World.frozen?_of_block hb).trans f3, (World.frozen?_of_block hb).trans f4, (World.frozen?_of_block hb).trans f5⟩
end
end Go.Proofs.YtfdimdjmnfdecaaGreat
