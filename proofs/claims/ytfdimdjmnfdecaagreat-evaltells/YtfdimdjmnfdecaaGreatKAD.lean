/- Pow DIs Align Cmp VOrd VLogMath2 EBox VAlone VIs VCmp Base: laid together. -/
import Derived.Test.YtfdimdjmnfdecaaGreatKAC
import Derived.Deep.QuietTactic
import Derived.BigQuiet
import Derived.Deep.RegionHeld3
import Derived.Deep.DrawnRows
set_option linter.unusedVariables false
set_option linter.unusedSimpArgs false
set_option maxHeartbeats 8000000
namespace Go.Proofs.YtfdimdjmnfdecaaGreat
open Go.RowKit
section
theorem power_any (n : Int) (w : World) (h0 : 0 ≤ n) (h8 : n ≤ 8) :
  Calls Tryz.prog 136 #[.int .i64 n] w fun e w' => e = .returned (.int .i64 (p10 n.toNat)) ∧ w' = w := by
 obtain ⟨m, rfl⟩ := Int.eq_ofNat_of_zero_le h0
 rw [Int.toNat_natCast]
 go_enter Tryz.func136, Tryz.ntmps136
 go_wp2
 go_loop [3, 5] (fun p i => ∃ k : Nat, k ≤ m ∧ i = .int .i64 k ∧ p = .int .i64 (p10 k)) (fun _ i => m - (intOf i).toNat)
 case atStart => exact ⟨0, Nat.zero_le _, rfl, rfl⟩
 case round =>
  obtain ⟨k, hk, rfl, rfl⟩ := hrel
  have b1 := p10_pos k
  have b2 := p10_bd (n := k) (by omega)
  by_cases hlt : k < m
  ·go_wp2
   go_round
   case rel => exact ⟨k + 1, by omega, by go_num, by rw [p10_succ]⟩
   case measure => simp [intOf]; omega
  ·have e : k = m := by omega
   subst e
   go_wp2
   go_ret
   exact ⟨rfl, rfl⟩
theorem holds_any (m : Int) (w : World) :
  Calls Tryz.prog 78 #[.int .i64 m] w fun e w' => e = .returned (.bool (okM m)) ∧ w' = w := by
 by_cases h1 : -1000000000 ≤ m
 ·by_cases h2 : m ≤ 1000000000
  ·go_enter Tryz.func78, Tryz.ntmps78
   go_wp2
   go_ret
   exact ⟨ret_bool (by simp [okM, h1, h2]), rfl⟩
  ·go_enter Tryz.func78, Tryz.ntmps78
   go_wp2
   go_ret
   exact ⟨ret_bool (by simp [okM, h1, h2]), rfl⟩
 ·go_enter Tryz.func78, Tryz.ntmps78
  go_wp2
  go_ret
  exact ⟨ret_bool (by simp [okM]; omega), rfl⟩
end
section
theorem is_any (m s : Int) (w : World) :
  Calls Tryz.prog 45 #[.agg #[.int .i64 m, .int .i64 s]] w fun e w' => e = .returned (.bool (isB m s)) ∧ Below w.heap.size w w' := by
 unfold isB
 have tm := tmod10 m
 by_cases h1 : okM m = true
 ·by_cases h2 : 0 ≤ s
  ·by_cases h3 : s ≤ 4
   ·by_cases h4 : s = 0
    ·subst h4
     clear tm
     go_enter Tryz.func45, Tryz.ntmps45
     go_wp2_with (go_at_call 78; refine (holds_any _ _).mono ?_; rintro e w' ⟨rfl, rfl⟩)
     go_ret
     exact ⟨ret_bool (by simp [h1]), (Below.refl _ _).alloc (Nat.le_refl _) _⟩
    ·have h4' : (s == 0) = false := by simpa using h4
     by_cases h5 : m % 10 = 0
     ·have tm' : (m.tmod 10 != 0) = false := by unfold bne; rw [tm]; simp [h5]
      have H5 := hide h5
      have H4 := hide h4
      clear tm h4 h5
      go_enter Tryz.func45, Tryz.ntmps45
      go_wp2_with (go_at_call 78; refine (holds_any _ _).mono ?_; rintro e w' ⟨rfl, rfl⟩)
      go_ret
      exact ⟨ret_bool (by have := unhide H5; have := unhide H4; simp [*]), (Below.refl _ _).alloc (Nat.le_refl _) _⟩
     ·have tm' : (m.tmod 10 != 0) = true := by unfold bne; rw [tm]; simp [h5]
      have H5 := hide h5
      have H4 := hide h4
      clear tm h4 h5
      go_enter Tryz.func45, Tryz.ntmps45
      go_wp2_with (go_at_call 78; refine (holds_any _ _).mono ?_; rintro e w' ⟨rfl, rfl⟩)
      go_ret
      exact ⟨ret_bool (by have := unhide H5; have := unhide H4; simp [*]), (Below.refl _ _).alloc (Nat.le_refl _) _⟩
   ·clear tm
    go_enter Tryz.func45, Tryz.ntmps45
    go_wp2_with (go_at_call 78; refine (holds_any _ _).mono ?_; rintro e w' ⟨rfl, rfl⟩)
    go_ret
    exact ⟨ret_bool (by have : ¬ s ≤ 4 := by omega
                        simp [h1, this]), (Below.refl _ _).alloc (Nat.le_refl _) _⟩
  ·clear tm
   go_enter Tryz.func45, Tryz.ntmps45
   go_wp2_with (go_at_call 78; refine (holds_any _ _).mono ?_; rintro e w' ⟨rfl, rfl⟩)
   go_ret
   exact ⟨ret_bool (by have : ¬ 0 ≤ s := by omega
                       simp [h1, this]), (Below.refl _ _).alloc (Nat.le_refl _) _⟩
 ·have h1' : okM m = false := by simpa using h1
  clear tm h1
  go_enter Tryz.func45, Tryz.ntmps45
  go_wp2_with (go_at_call 78; refine (holds_any _ _).mono ?_; rintro e w' ⟨rfl, rfl⟩)
  go_ret
  exact ⟨ret_bool (by simp [h1']), (Below.refl _ _).alloc (Nat.le_refl _) _⟩
end
section
theorem align_any (m s n t : Int) (w : World) (ha : isB m s = true) (hb : isB n t = true) :
  Calls Tryz.prog 119 #[.agg #[.int .i64 m, .int .i64 s], .agg #[.int .i64 n, .int .i64 t]] w fun e w' => e = .returned (.tuple #[.int .i64 (upM m s (max s t)), .int .i64 (upM n t (max s t)), .int .i64 (max s t)]) ∧ Below w.heap.size w w' := by
 have ⟨m1, m2, s1, s2⟩ := isB_bd ha
 have ⟨n1, n2, t1, t2⟩ := isB_bd hb
 clear ha hb
 have ub1 := upM_bd (m := m) (s := s) (t := max s t) m1 m2 (by omega)
 have ub2 := upM_bd (m := n) (s := t) (t := max s t) n1 n2 (by omega)
 unfold upM at *
 by_cases hst : s < t
 ·have e0 : max s t = t := by omega
  rw [e0] at ub1 ub2 ⊢
  rw [show (t - t).toNat = 0 by omega] at ub2 ⊢
  clear e0
  go_enter Tryz.func119, Tryz.ntmps119
  go_wp2_with fail
  go_quiet ((go_at_call 136; exact Calls.quiet_of_same (power_any _ _ (by omega) (by omega))))
  go_wp2
  go_ret3
  exact ⟨rfl, below_drewN (((Below.refl _ _).alloc (Nat.le_refl _) _).alloc (by simp) _) _⟩
 ·have e0 : max s t = s := by omega
  rw [e0] at ub1 ub2 ⊢
  rw [show (s - s).toNat = 0 by omega] at ub1 ⊢
  clear e0
  go_enter Tryz.func119, Tryz.ntmps119
  go_wp2_with fail
  go_quiet ((go_at_call 136; exact Calls.quiet_of_same (power_any _ _ (by omega) (by omega))))
  go_wp2
  go_ret3
  exact ⟨rfl, below_drewN (((Below.refl _ _).alloc (Nat.le_refl _) _).alloc (by simp) _) _⟩
end
section
theorem cmp_any (m s n t : Int) (w : World) (ha : isB m s = true) (hb : isB n t = true) :
  Calls Tryz.prog 107 #[.agg #[.int .i64 m, .int .i64 s], .agg #[.int .i64 n, .int .i64 t]] w fun e w' => e = .returned (.int .i64 (cmpI (upM m s (max s t)) (upM n t (max s t)))) ∧ Below w.heap.size w w' := by
 generalize hx : upM m s (max s t) = x
 generalize hy : upM n t (max s t) = y
 generalize hf : cmpI x y = f
 have HA := hide ha; have HB := hide hb; have HX := hide hx; have HY := hide hy
 clear ha hb hx hy
 by_cases c1 : x < y
 ·have FIN := hide (show f = -1 by rw [← hf]; exact if_pos c1)
  clear hf
  go_enter Tryz.func107, Tryz.ntmps107
  go_wp2_with fail
  refine (is_any _ _ _).mono ?_
  rintro e w1 ⟨rfl, b1⟩
  rw [unhide HA]
  obtain ⟨c1, f1⟩ := bcell b1
  go_wp2_with fail
  refine (is_any _ _ _).mono ?_
  rintro e w2 ⟨rfl, k2⟩
  rw [unhide HB]
  have b2 := bstep b1 k2
  clear c1 f1 b1 k2
  obtain ⟨c2, f2⟩ := bcell b2
  go_wp2_with fail
  refine (align_any _ _ _ _ _ (unhide HA) (unhide HB)).mono ?_
  rintro e w3 ⟨rfl, k3⟩
  have b3 := bstep b2 k3
  clear c2 f2 b2 k3
  rw [unhide HX, unhide HY]
  clear HX HY HA HB
  go_wp2
  go_ret
  exact ⟨ret_int (unhide FIN).symm, bstep (below2 w _ _) b3⟩
 ·by_cases c2 : y < x
  ·have FIN := hide (show f = 1 by rw [← hf]; unfold cmpI; rw [if_neg c1, if_pos c2])
   clear hf
   go_enter Tryz.func107, Tryz.ntmps107
   go_wp2_with fail
   refine (is_any _ _ _).mono ?_
   rintro e w1 ⟨rfl, b1⟩
   rw [unhide HA]
   obtain ⟨c1, f1⟩ := bcell b1
   go_wp2_with fail
   refine (is_any _ _ _).mono ?_
   rintro e w2 ⟨rfl, k2⟩
   rw [unhide HB]
   have b2 := bstep b1 k2
   clear c1 f1 b1 k2
   obtain ⟨c2, f2⟩ := bcell b2
   go_wp2_with fail
   refine (align_any _ _ _ _ _ (unhide HA) (unhide HB)).mono ?_
   rintro e w3 ⟨rfl, k3⟩
   have b3 := bstep b2 k3
   clear c2 f2 b2 k3
   rw [unhide HX, unhide HY]
   clear HX HY HA HB
   go_wp2
   go_ret
   exact ⟨ret_int (unhide FIN).symm, bstep (below2 w _ _) b3⟩
  ·have FIN := hide (show f = 0 by rw [← hf]; unfold cmpI; rw [if_neg c1, if_neg c2])
   clear hf
   go_enter Tryz.func107, Tryz.ntmps107
   go_wp2_with fail
   refine (is_any _ _ _).mono ?_
   rintro e w1 ⟨rfl, b1⟩
   rw [unhide HA]
   obtain ⟨c1, f1⟩ := bcell b1
   go_wp2_with fail
   refine (is_any _ _ _).mono ?_
   rintro e w2 ⟨rfl, k2⟩
   rw [unhide HB]
   have b2 := bstep b1 k2
   clear c1 f1 b1 k2
   obtain ⟨c2, f2⟩ := bcell b2
   go_wp2_with fail
   refine (align_any _ _ _ _ _ (unhide HA) (unhide HB)).mono ?_
   rintro e w3 ⟨rfl, k3⟩
   have b3 := bstep b2 k3
   clear c2 f2 b2 k3
   rw [unhide HX, unhide HY]
   clear HX HY HA HB
   go_wp2
   go_ret
   exact ⟨ret_int (unhide FIN).symm, bstep (below2 w _ _) b3⟩
end
section
theorem compare_any (x y : Int) (w : World) :
  Calls Tryz.prog 106 #[.int .i64 x, .int .i64 y] w fun e w' => e = .returned (.int .i64 (cmpI x y)) ∧ w' = w := by
 unfold cmpI
 by_cases h1 : x < y
 ·rw [if_pos h1]
  go_enter Tryz.func106, Tryz.ntmps106
  go_wp2
  go_ret
  exact ⟨rfl, rfl⟩
 ·rw [if_neg h1]
  by_cases h2 : y < x
  ·rw [if_pos h2]
   go_enter Tryz.func106, Tryz.ntmps106
   go_wp2
   go_ret
   exact ⟨rfl, rfl⟩
  ·rw [if_neg h2]
   go_enter Tryz.func106, Tryz.ntmps106
   go_wp2
   go_ret
   exact ⟨rfl, rfl⟩
theorem first_any (a b : Bool) (w : World) :
  Calls Tryz.prog 74 #[.bool a, .bool b] w fun e w' => e = .returned (.int .i64 (cmpB a b)) ∧ w' = w := by
 cases a <;> cases b
 all_goals
  go_enter Tryz.func74, Tryz.ntmps74
  go_wp2
  go_ret
  exact ⟨rfl, rfl⟩
theorem cs_run (s t : ByteArray) (w : World) : (callFunc 149 #[.string s, .string t]).run Tryz.prog w = .ok (.value (.int .i64 (cmpS s t))) w := by
 rw [run_callFunc_extern (f := 149) (fn := Tryz.f149) (by kernel_rfl) (by kernel_rfl) (by kernel_rfl) (by kernel_rfl) (e := Extern.BytealgCompare.compare) (by kernel_rfl), Lib.run_compareString]
 rfl
theorem strcmp_any (s t : ByteArray) (w : World) :
  Calls Tryz.prog 108 #[.string s, .string t] w fun e w' => e = .returned (.int .i64 (cmpS s t)) ∧ w' = w := by
 have hr := cs_run s t
 go_enter Tryz.func108, Tryz.ntmps108
 go_wp2
 go_ret
 exact ⟨rfl, rfl⟩
def OrderOf (x : VT) : Prop := ∀ (y : VT) (n n' : Nat) (w : World), x.okB n = true → y.okB n' = true → x.In w → y.In w →
  Calls Tryz.prog 73 #[x.val, y.val] w fun e w' => e = .returned (.int .i64 (x.cmp y)) ∧ Below w.heap.size w w'
theorem cmpI_bd (x y : Int) : -1 ≤ cmpI x y ∧ cmpI x y ≤ 1 := cmp_bd x y
theorem cf_any {k : Int} {b : Bool} {m s : Int} {t : ByteArray} {k' : Int} {b' : Bool} {m' s' : Int} {t' : ByteArray} (a a' : Option Addr) (len cap len' cap' : Nat) (kid kid' : Nat → VT) (ih : ∀ i, OrderOf (kid i)) (n n' : Nat) (w : World) (hl : len ≤ 8) (_hl' : len' ≤ 8)
  (ok : ∀ i, i < len → (kid i).okB n = true) (ok' : ∀ i, i < len' → (kid' i).okB n' = true) (hin : (VT.mk k b m s t a len cap kid).In w) (hin' : (VT.mk k' b' m' s' t' a' len' cap' kid').In w) :
  Calls Tryz.prog 109 #[.slice a len cap, .slice a' len' cap', .func (Fn.func 73) #[] #[]] w fun e w' => e = .returned (.int .i64 (lexF (fun i => (kid i).cmp (kid' i)) (cmpI len len') (min len len'))) ∧ Below w.heap.size w w' := by
 generalize hR : lexF (fun i => (kid i).cmp (kid' i)) (cmpI len len') (min len len') = R
 have HR := hide hR
 clear hR
 go_enter Tryz.func109, Tryz.ntmps109
 go_wp2_with fail
 go_loopw [13] (fun i wr => ∃ (j : Nat), j ≤ len ∧ j ≤ len' ∧ i = .int .i64 j ∧ Hid (∀ i, i < j → (kid i).cmp (kid' i) = 0) ∧ Below w.heap.size w wr) (fun i _ => len - (intOf i).toNat)
 case atStart => exact ⟨0, Nat.zero_le _, Nat.zero_le _, rfl, hide (fun i hi => absurd hi (Nat.not_lt_zero _)), Below.refl _ _⟩
 case round =>
  obtain ⟨j, hj, hj', rfl, HA, bel⟩ := hrel
  by_cases hlt : j < len
  ·obtain ⟨bl, o, kp, bp, mp, sp, tp, ap, lenp, capp, kidp, rfl, hx, six, hk⟩ := hin.kid hlt
   obtain ⟨s0, s1, s2, s3, s4, s5, s6⟩ := six.below bel
   have b1 := below1 wr (Obj.cells #[.int .i64 kp, .bool bp, .int .i64 mp, .int .i64 sp, .string tp, .slice ap lenp capp] 32)
   by_cases hlt' : j < len'
   ·obtain ⟨bl', o', kq, bq, mq, sq, tq, aq, lenq, capq, kidq, rfl, hy, six', hk'⟩ := hin'.kid hlt'
    obtain ⟨r0, r1, r2, r3, r4, r5, r6⟩ := six'.below bel
    have b2 := below2 wr (Obj.cells #[.int .i64 kp, .bool bp, .int .i64 mp, .int .i64 sp, .string tp, .slice ap lenp capp] 32) (Obj.cells #[.int .i64 kq, .bool bq, .int .i64 mq, .int .i64 sq, .string tq, .slice aq lenq capq] 32)
    have o1 := ok j hlt
    have o2 := ok' j hlt'
    have ihj := ih j (kid' j) n n' ((wr.alloc (Obj.cells #[.int .i64 kp, .bool bp, .int .i64 mp, .int .i64 sp, .string tp, .slice ap lenp capp] 32)).alloc (Obj.cells #[.int .i64 kq, .bool bq, .int .i64 mq, .int .i64 sq, .string tq, .slice aq lenq capq] 32)) o1 o2
    rw [hx, hy] at ihj
    have ihj := ihj ((hk.below bel).below b2) ((hk'.below bel).below b2)
    have B2 := hide (bstep bel b2)
    have HX := hide hx
    have HY := hide hy
    have IH := hide ihj
    clear six six' ih hk hk' hin hin' b1 b2 ihj o1 o2 ok ok' hx hy
    by_cases hc : (kid j).cmp (kid' j) = 0
    ·have HC := hide hc
     rw [unhide HX, unhide HY] at hc
     have HC' := hide hc
     clear hc
     go_wp2_with fail
     refine (unhide IH).mono ?_
     rintro e w4 ⟨rfl, k4⟩
     rw [unhide HC']
     go_wp2_with fail
     go_roundw
     case rel =>
      refine ⟨j + 1, by omega, by omega, by go_num, hide (fun i hi => ?_), bstep (unhide B2) k4⟩
      by_cases hij : i = j
      ·subst hij; exact unhide HC
      ·exact unhide HA i (by omega)
     case measure => simp [intOf]; omega
    ·have FIN := hide (lex_hit (f := fun i => (kid i).cmp (kid' i)) (cmpI len len') (n := min len len') (by omega) (unhide HA) hc)
     rw [unhide HX, unhide HY] at hc
     generalize hq : (VT.mk kp bp mp sp tp ap lenp capp kidp).cmp (VT.mk kq bq mq sq tq aq lenq capq kidq) = c at hc IH
     have HQ := hide hq
     have hc' : (c == 0) = false := by simpa using hc
     have hc2 : (c != 0) = true := by simpa using hc
     clear hc hq
     go_wp2_with fail
     refine (unhide IH).mono ?_
     rintro e w4 ⟨rfl, k4⟩
     go_wp2_with fail
     go_ret
     refine ⟨ret_int ?_, bstep (unhide B2) k4⟩
     have f := unhide FIN
     rw [unhide HR] at f
     rw [f]
     show c = (kid j).cmp (kid' j)
     rw [unhide HX, unhide HY, unhide HQ]
   ·have FIN := hide (lex_none (f := fun i => (kid i).cmp (kid' i)) (cmpI len len') (n := min len len') (fun i hi => unhide HA i (by omega)))
    have C1 := hide (show cmpI len len' = 1 by unfold cmpI; rw [if_neg (by omega), if_pos (by omega)])
    clear ih hin hin' six hk hx ok ok'
    have B1 := hide (bstep bel b1)
    clear b1
    go_wp2_with fail
    go_ret
    exact ⟨ret_int (by rw [← unhide HR, unhide FIN, unhide C1]), unhide B1⟩
  ·have FIN := hide (lex_none (f := fun i => (kid i).cmp (kid' i)) (cmpI len len') (n := min len len') (fun i hi => unhide HA i (by omega)))
   clear ih hin hin' ok ok'
   by_cases hll : len < len'
   ·have C1 := hide (show cmpI len len' = -1 by unfold cmpI; rw [if_pos (by omega)])
    go_wp2_with fail
    go_ret
    exact ⟨ret_int (by rw [← unhide HR, unhide FIN, unhide C1]), bel⟩
   ·have C1 := hide (show cmpI len len' = 0 by unfold cmpI; rw [if_neg (by omega), if_neg (by omega)])
    go_wp2_with fail
    go_ret
    exact ⟨ret_int (by rw [← unhide HR, unhide FIN, unhide C1]), bel⟩
theorem okB_list {b : Bool} {m s : Int} {t : ByteArray} {a : Option Addr} {len cap : Nat} {kid : Nat → VT} {n : Nat} (h : (VT.mk 4 b m s t a len cap kid).okB n = true) : len ≤ 8 ∧ ∀ i, i < len → (kid i).okB (n - 1) = true := by
 cases hal : aloneB 4 b m s t len
 ·rw [okB_no n hal] at h; cases h
 ·rw [okB_yes n hal, if_neg (by omega), if_neg (by omega), if_neg (by omega), if_pos rfl] at h
  simp only [Bool.and_eq_true, decide_eq_true_eq] at h
  exact ⟨h.2.1, fun i hi => all_range_get (f := fun i => (kid i).okB (n - 1)) h.2.2 hi⟩
theorem okB_kind {k : Int} {b : Bool} {m s : Int} {t : ByteArray} {a : Option Addr} {len cap : Nat} {kid : Nat → VT} {n : Nat} (h : (VT.mk k b m s t a len cap kid).okB n = true) :
  aloneB k b m s t len = true ∧ (k = 0 ∨ k = 1 ∨ (k = 2 ∧ isB m s = true) ∨ k = 3 ∨ k = 4) := by
 cases hal : aloneB k b m s t len
 ·rw [okB_no n hal] at h; cases h
 ·refine ⟨rfl, ?_⟩
  rw [okB_yes n hal] at h
  by_cases k0 : k = 0
  ·exact Or.inl k0
  by_cases k1 : k = 1
  ·exact Or.inr (Or.inl k1)
  rw [if_neg (by omega)] at h
  by_cases k2 : k = 2
  ·rw [if_pos k2] at h; exact Or.inr (Or.inr (Or.inl ⟨k2, h⟩))
  rw [if_neg k2] at h
  by_cases k3 : k = 3
  ·exact Or.inr (Or.inr (Or.inr (Or.inl k3)))
  rw [if_neg k3] at h
  by_cases k4 : k = 4
  ·exact Or.inr (Or.inr (Or.inr (Or.inr k4)))
  rw [if_neg k4] at h; cases h
theorem order_any (x : VT) : OrderOf x := by
 induction x with
 | none => intro y n n' w hx; exact absurd hx (by simp [VT.okB])
 | mk k b m s t a len cap kid ih =>
  intro y n n' w hx hy hin hin'
  cases y with
  | none => exact absurd hy (by simp [VT.okB])
  | mk k' b' m' s' t' a' len' cap' kid' =>
   show Calls Tryz.prog 73 #[.agg #[.int .i64 k, .bool b, .int .i64 m, .int .i64 s, .string t, .slice a len cap], .agg #[.int .i64 k', .bool b', .int .i64 m', .int .i64 s', .string t', .slice a' len' cap']] w _
   have b0 := below2 w (Obj.cells #[.int .i64 k, .bool b, .int .i64 m, .int .i64 s, .string t, .slice a len cap] 32) (Obj.cells #[.int .i64 k', .bool b', .int .i64 m', .int .i64 s', .string t', .slice a' len' cap'] 32)
   unfold VT.cmp
   by_cases hk : k = k'
   ·subst hk
    rw [if_neg (fun h => h rfl)]
    obtain ⟨al, hkk⟩ := okB_kind hx
    obtain ⟨al', hkk'⟩ := okB_kind hy
    rcases hkk with rfl | rfl | ⟨rfl, hd⟩ | rfl | rfl
    ·have l0 := (alone_t al).2.2.2 (by omega)
     have l0' := (alone_t al').2.2.2 (by omega)
     subst l0 l0'
     rw [if_neg (by omega), if_neg (by omega), if_neg (by omega), lex_none _ (fun i hi => absurd hi (by omega))]
     clear ih hin hin' al al' hx hy hkk'
     go_enter Tryz.func73, Tryz.ntmps73
     go_wp2_with fail
     go_ret
     exact ⟨rfl, b0⟩
    ·rw [if_pos rfl]
     clear ih hin hin' al al' hx hy hkk'
     go_enter Tryz.func73, Tryz.ntmps73
     go_wp2_with fail
     refine (first_any _ _ _).mono ?_
     rintro e w1 ⟨rfl, rfl⟩
     go_wp2_with fail
     go_ret
     exact ⟨rfl, b0⟩
    ·have hd' : isB m' s' = true := by
      rcases hkk' with h | h | ⟨_, h⟩ | h | h
      ·omega
      ·omega
      ·exact h
      ·omega
      ·omega
     rw [if_neg (by omega), if_pos rfl, ← cmp_dec _ _ _ _ hd hd']
     have C := hide (fun w => cmp_any m s m' s' w hd hd')
     clear ih hin hin' al al' hx hy hkk' hd hd'
     go_enter Tryz.func73, Tryz.ntmps73
     go_wp2_with fail
     refine (unhide C _).mono ?_
     rintro e w1 ⟨rfl, k1⟩
     go_wp2_with fail
     go_ret
     exact ⟨rfl, bstep b0 k1⟩
    ·rw [if_neg (by omega), if_neg (by omega), if_pos rfl]
     clear ih hin hin' al al' hx hy hkk'
     go_enter Tryz.func73, Tryz.ntmps73
     go_wp2_with fail
     refine (strcmp_any _ _ _).mono ?_
     rintro e w1 ⟨rfl, rfl⟩
     go_wp2_with fail
     go_ret
     exact ⟨rfl, b0⟩
    ·rw [if_neg (by omega), if_neg (by omega), if_neg (by omega)]
     have C := hide (cf_any a a' len cap len' cap' kid kid' ih (n - 1) (n' - 1) _ (okB_list hx).1 (okB_list hy).1 (okB_list hx).2 (okB_list hy).2 (hin.below b0) (hin'.below b0))
     clear ih hin hin' al al' hx hy hkk'
     go_enter Tryz.func73, Tryz.ntmps73
     go_wp2_with fail
     refine (unhide C).mono ?_
     rintro e w1 ⟨rfl, k1⟩
     go_wp2_with fail
     go_ret
     exact ⟨rfl, bstep b0 k1⟩
   ·rw [if_pos hk]
    have e1 : (k != k') = true := by simpa using hk
    clear ih hin hin' hx hy hk
    go_enter Tryz.func73, Tryz.ntmps73
    go_wp2_with fail
    refine (compare_any _ _ _).mono ?_
    rintro e w1 ⟨rfl, rfl⟩
    go_wp2_with fail
    go_ret
    exact ⟨rfl, b0⟩
end
section
theorem nil_of {t : ByteArray} (h : t.toList = []) : t = ⟨#[]⟩ := by
 rw [ByteArray.toList_eq] at h
 cases t
 congr 1
 simpa using h
end
section
open VT (leaf mkV)
theorem six_new (w : World) (k : Int) (b : Bool) (m s : Int) (t : ByteArray) (a : Option Addr) (len cap : Nat) : VT.Six (w.alloc (Obj.cells #[.int .i64 k, .bool b, .int .i64 m, .int .i64 s, .string t, .slice a len cap] 32)) w.heap.size 0 k b m s t a len cap :=
 ⟨by simp, by go_simp, by go_simp, by go_simp, by go_simp, by go_simp, by go_simp⟩
theorem boxes1 (w : World) (k : Int) (b : Bool) (m s : Int) (t : ByteArray) (a : Option Addr) (len cap : Nat) :
  VT.Six ((w.alloc (Obj.cells #[.int .i64 k, .bool b, .int .i64 m, .int .i64 s, .string t, .slice a len cap] 32)).alloc (Obj.cells #[.int .i64 0, .bool false, .int .i64 0, .int .i64 0, .string ⟨#[]⟩, .slice none 0 0] 32)) w.heap.size 0 k b m s t a len cap ∧
  Own ((w.alloc (Obj.cells #[.int .i64 k, .bool b, .int .i64 m, .int .i64 s, .string t, .slice a len cap] 32)).alloc (Obj.cells #[.int .i64 0, .bool false, .int .i64 0, .int .i64 0, .string ⟨#[]⟩, .slice none 0 0] 32)) (w.heap.size + 1) ∧
  Below w.heap.size w ((w.alloc (Obj.cells #[.int .i64 k, .bool b, .int .i64 m, .int .i64 s, .string t, .slice a len cap] 32)).alloc (Obj.cells #[.int .i64 0, .bool false, .int .i64 0, .int .i64 0, .string ⟨#[]⟩, .slice none 0 0] 32)) ∧
  ((w.alloc (Obj.cells #[.int .i64 k, .bool b, .int .i64 m, .int .i64 s, .string t, .slice a len cap] 32)).alloc (Obj.cells #[.int .i64 0, .bool false, .int .i64 0, .int .i64 0, .string ⟨#[]⟩, .slice none 0 0] 32)).heap.size = w.heap.size + 2 := by
 refine ⟨(six_new w k b m s t a len cap).below (below1 _ _), ?_, below2 _ _ _, by simp⟩
 have h := Own.new (w.alloc (Obj.cells #[.int .i64 k, .bool b, .int .i64 m, .int .i64 s, .string t, .slice a len cap] 32)) 32
 simpa using h
theorem boxes2 (w : World) (k : Int) (b : Bool) (m s : Int) (t : ByteArray) (a : Option Addr) (len cap : Nat) (k' : Int) (b' : Bool) (m' s' : Int) (t' : ByteArray) (a' : Option Addr) (len' cap' : Nat) :
  VT.Six (((w.alloc (Obj.cells #[.int .i64 k, .bool b, .int .i64 m, .int .i64 s, .string t, .slice a len cap] 32)).alloc (Obj.cells #[.int .i64 k', .bool b', .int .i64 m', .int .i64 s', .string t', .slice a' len' cap'] 32)).alloc (Obj.cells #[.int .i64 0, .bool false, .int .i64 0, .int .i64 0, .string ⟨#[]⟩, .slice none 0 0] 32)) w.heap.size 0 k b m s t a len cap ∧
  VT.Six (((w.alloc (Obj.cells #[.int .i64 k, .bool b, .int .i64 m, .int .i64 s, .string t, .slice a len cap] 32)).alloc (Obj.cells #[.int .i64 k', .bool b', .int .i64 m', .int .i64 s', .string t', .slice a' len' cap'] 32)).alloc (Obj.cells #[.int .i64 0, .bool false, .int .i64 0, .int .i64 0, .string ⟨#[]⟩, .slice none 0 0] 32)) (w.heap.size + 1) 0 k' b' m' s' t' a' len' cap' ∧
  Own (((w.alloc (Obj.cells #[.int .i64 k, .bool b, .int .i64 m, .int .i64 s, .string t, .slice a len cap] 32)).alloc (Obj.cells #[.int .i64 k', .bool b', .int .i64 m', .int .i64 s', .string t', .slice a' len' cap'] 32)).alloc (Obj.cells #[.int .i64 0, .bool false, .int .i64 0, .int .i64 0, .string ⟨#[]⟩, .slice none 0 0] 32)) (w.heap.size + 1 + 1) ∧
  Below w.heap.size w (((w.alloc (Obj.cells #[.int .i64 k, .bool b, .int .i64 m, .int .i64 s, .string t, .slice a len cap] 32)).alloc (Obj.cells #[.int .i64 k', .bool b', .int .i64 m', .int .i64 s', .string t', .slice a' len' cap'] 32)).alloc (Obj.cells #[.int .i64 0, .bool false, .int .i64 0, .int .i64 0, .string ⟨#[]⟩, .slice none 0 0] 32)) ∧
  (((w.alloc (Obj.cells #[.int .i64 k, .bool b, .int .i64 m, .int .i64 s, .string t, .slice a len cap] 32)).alloc (Obj.cells #[.int .i64 k', .bool b', .int .i64 m', .int .i64 s', .string t', .slice a' len' cap'] 32)).alloc (Obj.cells #[.int .i64 0, .bool false, .int .i64 0, .int .i64 0, .string ⟨#[]⟩, .slice none 0 0] 32)).heap.size = w.heap.size + 3 := by
 refine ⟨((six_new w k b m s t a len cap).below (below1 _ _)).below (below1 _ _), ?_, ?_, below3 _ _ _ _, by simp⟩
 ·have h := (six_new (w.alloc (Obj.cells #[.int .i64 k, .bool b, .int .i64 m, .int .i64 s, .string t, .slice a len cap] 32)) k' b' m' s' t' a' len' cap').below (below1 _ (Obj.cells #[.int .i64 0, .bool false, .int .i64 0, .int .i64 0, .string ⟨#[]⟩, .slice none 0 0] 32))
  simpa using h
 ·have h := Own.new ((w.alloc (Obj.cells #[.int .i64 k, .bool b, .int .i64 m, .int .i64 s, .string t, .slice a len cap] 32)).alloc (Obj.cells #[.int .i64 k', .bool b', .int .i64 m', .int .i64 s', .string t', .slice a' len' cap'] 32)) 32
  simpa using h
end
section
theorem alone_any (k : Int) (b : Bool) (m s : Int) (t : ByteArray) (a : Option Addr) (len cap : Nat) (w : World) :
  Calls Tryz.prog 111 #[.agg #[.int .i64 k, .bool b, .int .i64 m, .int .i64 s, .string t, .slice a len cap]] w fun e w' => e = .returned (.bool (aloneB k b m s t len)) ∧ Below w.heap.size w w' := by
 by_cases k1 : k = 1
 ·subst k1
  go_enter Tryz.func111, Tryz.ntmps111
  go_wp2
  all_goals go_ret
  all_goals exact ⟨ret_bool (by simp [aloneB, len0, *]), below1 _ _⟩
 by_cases k2 : k = 2
 ·subst k2
  go_enter Tryz.func111, Tryz.ntmps111
  go_wp2
  all_goals go_ret
  all_goals exact ⟨ret_bool (by simp [aloneB, len0, *]), below1 _ _⟩
 by_cases k3 : k = 3
 ·subst k3
  go_enter Tryz.func111, Tryz.ntmps111
  go_wp2
  all_goals go_ret
  all_goals exact ⟨ret_bool (by simp [aloneB, len0, *]), below1 _ _⟩
 by_cases k4 : k = 4
 ·subst k4
  go_enter Tryz.func111, Tryz.ntmps111
  go_wp2
  all_goals go_ret
  all_goals exact ⟨ret_bool (by simp [aloneB, *]), below1 _ _⟩
 have e1 : (k == 1) = false := by simpa using k1
 have e2 : (k == 2) = false := by simpa using k2
 have e3 : (k == 3) = false := by simpa using k3
 have e4 : (k == 4) = false := by simpa using k4
 have K1 := hide k1
 have K2 := hide k2
 have K3 := hide k3
 have K4 := hide k4
 clear k1 k2 k3 k4
 go_enter Tryz.func111, Tryz.ntmps111
 go_wp2
 all_goals go_ret
 all_goals (have k1 := unhide K1; have k2 := unhide K2; have k3 := unhide K3; have k4 := unhide K4; exact ⟨ret_bool (by simp [aloneB, len0, *]), below1 _ _⟩)
end
section
def FitsOf (x : VT) : Prop := ∀ (n : Nat) (w : World), n ≤ 2 → x.In w →
  Calls Tryz.prog 79 #[x.val, .int .i64 n] w fun e w' => e = .returned (.bool (x.okB n)) ∧ Below w.heap.size w w'
theorem list_any (k : Int) (b : Bool) (m s : Int) (t : ByteArray) (a : Option Addr) (len cap : Nat) (kid : Nat → VT) (ih : ∀ i, FitsOf (kid i)) (n : Nat) (w : World) (hn : n ≤ 2) (hin : (VT.mk k b m s t a len cap kid).In w) :
  Calls Tryz.prog 113 #[.slice a len cap, .int .i64 n] w fun e w' => e = .returned (.bool (decide (n ≠ 0) && (decide (len ≤ 8) && (List.range len).all fun i => (kid i).okB (n - 1)))) ∧ Below w.heap.size w w' := by
 by_cases h0 : n = 0
 ·subst h0
  go_enter Tryz.func113, Tryz.ntmps113
  go_wp2_with fail
  go_ret
  exact ⟨rfl, Below.refl _ _⟩
 have h0' : 0 < n := by omega
 rw [decide_eq_true h0, Bool.true_and]
 clear h0
 have e0 : ((n : Int) == 0) = false := by simp; omega
 by_cases h8 : len ≤ 8
 ·rw [decide_eq_true h8, Bool.true_and]
  go_enter Tryz.func113, Tryz.ntmps113
  go_wp2_with fail
  go_loopw [16] (fun i wr => ∃ (j : Nat), j ≤ len ∧ i = .int .i64 j ∧ Hid (∀ i, i < j → (kid i).okB (n - 1) = true) ∧ Below w.heap.size w wr) (fun i _ => len - (intOf i).toNat)
  case atStart => exact ⟨0, Nat.zero_le _, rfl, hide (fun i hi => absurd hi (Nat.not_lt_zero _)), Below.refl _ _⟩
  case round =>
   obtain ⟨j, hj, rfl, HA, bel⟩ := hrel
   by_cases hlt : j < len
   ·obtain ⟨bl, o, k', b', m', s', t', a', len', cap', kid', rfl, hx, six, hk⟩ := hin.kid hlt
    obtain ⟨s0, s1, s2, s3, s4, s5, s6⟩ := six.below bel
    have b1 := below1 wr (Obj.cells #[.int .i64 k', .bool b', .int .i64 m', .int .i64 s', .string t', .slice a' len' cap'] 32)
    have ihj := ih j (n - 1) (wr.alloc (Obj.cells #[.int .i64 k', .bool b', .int .i64 m', .int .i64 s', .string t', .slice a' len' cap'] 32)) (by omega)
    rw [hx, show ((n - 1 : Nat) : Int) = (n : Int) - 1 by omega] at ihj
    have ihj := ihj ((hk.below bel).below b1)
    have bel1 := bstep bel b1
    clear six ih hk hin
    have IH := hide ihj
    clear ihj
    cases hok : (kid j).okB (n - 1)
    ·have FIN := hide (all_range_no (n := len) (f := fun i => (kid i).okB (n - 1)) hlt hok)
     rw [hx] at hok
     have HX := hide hx
     have HOK := hide hok
     clear hx hok
     go_wp2_with fail
     refine (unhide IH).mono ?_
     rintro e w2 ⟨rfl, k2⟩
     rw [unhide HOK]
     go_wp2_with fail
     go_ret
     exact ⟨ret_bool (unhide FIN).symm, bstep bel1 k2⟩
    ·have HN := hide hok
     rw [hx] at hok
     have HX := hide hx
     have HOK := hide hok
     clear hx hok
     go_wp2_with fail
     refine (unhide IH).mono ?_
     rintro e w2 ⟨rfl, k2⟩
     rw [unhide HOK]
     go_wp2_with fail
     go_roundw
     case rel =>
      refine ⟨j + 1, by omega, by go_num, hide (fun i hi => ?_), bstep bel1 k2⟩
      by_cases hij : i = j
      ·subst hij; exact unhide HN
      ·exact unhide HA i (by omega)
     case measure => simp [intOf]; omega
   ·have FIN := hide (all_range (n := len) (f := fun i => (kid i).okB (n - 1)) (fun i hi => unhide HA i (by omega)))
    go_wp2_with fail
    go_ret
    exact ⟨ret_bool (unhide FIN).symm, bel⟩
 ·rw [decide_eq_false h8, Bool.false_and]
  go_enter Tryz.func113, Tryz.ntmps113
  go_wp2_with fail
  go_ret
  exact ⟨rfl, Below.refl _ _⟩
theorem fits_any (x : VT) : FitsOf x := by
 induction x with
 | none => intro q w _ h; exact absurd h (by simp [VT.In])
 | mk k b m s t a len cap kid ih =>
  intro n w hn hin
  obtain ⟨wk, wm, ws, ht, hlc, hcm⟩ := hin.1
  have ht' := hide ht
  have b0 := below1 w (Obj.cells #[.int .i64 k, .bool b, .int .i64 m, .int .i64 s, .string t, .slice a len cap] 32)
  show Calls Tryz.prog 79 #[.agg #[.int .i64 k, .bool b, .int .i64 m, .int .i64 s, .string t, .slice a len cap], .int .i64 n] w _
  clear wk wm ws ht hlc hcm
  cases hal : aloneB k b m s t len
  ·rw [okB_no _ hal]
   have HAL := hide hal
   clear hal
   go_enter Tryz.func79, Tryz.ntmps79
   go_wp2_with fail
   refine (alone_any _ _ _ _ _ _ _ _ _).mono ?_
   rintro e w1 ⟨rfl, k1⟩
   rw [unhide HAL]
   go_wp2_with fail
   go_ret
   exact ⟨rfl, bstep b0 k1⟩
  ·rw [okB_yes _ hal]
   have HAL := hide hal
   clear hal
   by_cases k0 : k = 0
   ·subst k0
    go_enter Tryz.func79, Tryz.ntmps79
    go_wp2_with fail
    refine (alone_any _ _ _ _ _ _ _ _ _).mono ?_
    rintro e w1 ⟨rfl, c1⟩
    rw [unhide HAL]
    obtain ⟨d1, -⟩ := bcell c1
    go_wp2_with fail
    go_ret
    exact ⟨rfl, bstep b0 c1⟩
   by_cases k1 : k = 1
   ·subst k1
    go_enter Tryz.func79, Tryz.ntmps79
    go_wp2_with fail
    refine (alone_any _ _ _ _ _ _ _ _ _).mono ?_
    rintro e w1 ⟨rfl, c1⟩
    rw [unhide HAL]
    obtain ⟨d1, -⟩ := bcell c1
    go_wp2_with fail
    go_ret
    exact ⟨rfl, bstep b0 c1⟩
   by_cases k2 : k = 2
   ·subst k2
    clear k0 k1
    go_enter Tryz.func79, Tryz.ntmps79
    go_wp2_with fail
    refine (alone_any _ _ _ _ _ _ _ _ _).mono ?_
    rintro e w1 ⟨rfl, c1⟩
    rw [unhide HAL]
    obtain ⟨d1, -⟩ := bcell c1
    go_wp2_with fail
    refine (is_any m s _).mono ?_
    rintro e w2 ⟨rfl, c2⟩
    go_wp2_with fail
    go_ret
    exact ⟨rfl, bstep b0 (bstep c1 c2)⟩
   by_cases k3 : k = 3
   ·subst k3
    clear k0 k1 k2
    go_enter Tryz.func79, Tryz.ntmps79
    go_wp2_with fail
    refine (alone_any _ _ _ _ _ _ _ _ _).mono ?_
    rintro e w1 ⟨rfl, c1⟩
    rw [unhide HAL]
    obtain ⟨d1, -⟩ := bcell c1
    go_wp2_with fail
    refine (text_any t _ (unhide ht')).mono ?_
    rintro e w2 ⟨rfl, rfl⟩
    go_wp2_with fail
    go_ret
    exact ⟨rfl, bstep b0 c1⟩
   by_cases k4 : k = 4
   ·subst k4
    clear k0 k1 k2 k3
    rw [if_neg (by omega), if_neg (by omega), if_neg (by omega), if_pos rfl]
    go_enter Tryz.func79, Tryz.ntmps79
    go_wp2_with fail
    refine (alone_any _ _ _ _ _ _ _ _ _).mono ?_
    rintro e w1 ⟨rfl, c1⟩
    rw [unhide HAL]
    obtain ⟨d1, -⟩ := bcell c1
    go_wp2_with fail
    refine (list_any _ _ _ _ _ _ _ _ _ ih n _ hn (hin.below (bstep b0 c1))).mono ?_
    rintro e w2 ⟨rfl, c2⟩
    go_wp2_with fail
    go_ret
    exact ⟨ret_bool (by simp), bstep b0 (bstep c1 c2)⟩
   ·rw [if_neg (by omega), if_neg k2, if_neg k3, if_neg k4]
    have e0 : (k == 0) = false := by simpa using k0
    have e1 : (k == 1) = false := by simpa using k1
    have e2 : (k == 2) = false := by simpa using k2
    have e3 : (k == 3) = false := by simpa using k3
    have e4 : (k == 4) = false := by simpa using k4
    clear k0 k1 k2 k3 k4
    go_enter Tryz.func79, Tryz.ntmps79
    go_wp2_with fail
    refine (alone_any _ _ _ _ _ _ _ _ _).mono ?_
    rintro e w1 ⟨rfl, c1⟩
    rw [unhide HAL]
    obtain ⟨d1, -⟩ := bcell c1
    go_wp2_with fail
    go_ret
    exact ⟨rfl, bstep b0 c1⟩
theorem vis_any (x : VT) (w : World) (hin : x.In w) :
  Calls Tryz.prog 46 #[x.val] w fun e w' => e = .returned (.bool (x.okB 2)) ∧ Below w.heap.size w w' := by
 cases x with
 | none => exact absurd hin (by simp [VT.In])
 | mk k b m s t a len cap kid =>
  have b0 := below1 w (Obj.cells #[.int .i64 k, .bool b, .int .i64 m, .int .i64 s, .string t, .slice a len cap] 32)
  have H := hide (fits_any _ 2 _ (by omega) (hin.below b0))
  show Calls Tryz.prog 46 #[.agg #[.int .i64 k, .bool b, .int .i64 m, .int .i64 s, .string t, .slice a len cap]] w _
  go_enter Tryz.func46, Tryz.ntmps46
  go_wp2_with fail
  refine (unhide H).mono ?_
  rintro e w1 ⟨rfl, k1⟩
  go_wp2_with fail
  go_ret
  exact ⟨rfl, bstep b0 k1⟩
end
section
attribute [local go_sem ↓] Go.wp_at_zero Go.wp_at_succ
theorem vcmp_any (x y : VT) (w : World) (hx : x.okB 2 = true) (hy : y.okB 2 = true) (hin : x.In w) (hin' : y.In w) :
  Calls Tryz.prog 42 #[x.val, y.val] w fun e w' => e = .returned (.int .i64 (x.cmp y)) ∧ Below w.heap.size w w' := by
 cases x with
 | none => exact absurd hin (by simp [VT.In])
 | mk k b m s t a len cap kid =>
  cases y with
  | none => exact absurd hin' (by simp [VT.In])
  | mk k' b' m' s' t' a' len' cap' kid' =>
   show Calls Tryz.prog 42 #[.agg #[.int .i64 k, .bool b, .int .i64 m, .int .i64 s, .string t, .slice a len cap], .agg #[.int .i64 k', .bool b', .int .i64 m', .int .i64 s', .string t', .slice a' len' cap']] w _
   have b0 := below2 w (Obj.cells #[.int .i64 k, .bool b, .int .i64 m, .int .i64 s, .string t, .slice a len cap] 32) (Obj.cells #[.int .i64 k', .bool b', .int .i64 m', .int .i64 s', .string t', .slice a' len' cap'] 32)
   have hin1 := hin.below b0
   have hin1' := hin'.below b0
   have H1 := fun w (h : (VT.mk k b m s t a len cap kid).In w) => vis_any _ w h
   have H2 := fun w (h : (VT.mk k' b' m' s' t' a' len' cap' kid').In w) => vis_any _ w h
   rw [hx] at H1
   rw [hy] at H2
   have H3 := fun w h h' => order_any (VT.mk k b m s t a len cap kid) (VT.mk k' b' m' s' t' a' len' cap' kid') 2 2 w hx hy h h'
   generalize (VT.mk k b m s t a len cap kid).cmp (VT.mk k' b' m' s' t' a' len' cap' kid') = R at *
   have HH1 := hide H1
   have HH2 := hide H2
   have HH3 := hide H3
   clear H1 H2 H3 hx hy hin hin'
   go_enter Tryz.func42, Tryz.ntmps42
   go_wp2_with fail
   have x0 : ((w.alloc (Obj.cells #[.int .i64 k, .bool b, .int .i64 m, .int .i64 s, .string t, .slice a len cap] 32)).alloc (Obj.cells #[.int .i64 k', .bool b', .int .i64 m', .int .i64 s', .string t', .slice a' len' cap'] 32)).cell? ⟨w.heap.size, 0, none⟩ = some (.int .i64 k) := by go_simp
   have x1 : ((w.alloc (Obj.cells #[.int .i64 k, .bool b, .int .i64 m, .int .i64 s, .string t, .slice a len cap] 32)).alloc (Obj.cells #[.int .i64 k', .bool b', .int .i64 m', .int .i64 s', .string t', .slice a' len' cap'] 32)).cell? ⟨w.heap.size, 1, none⟩ = some (.bool b) := by go_simp
   have x2 : ((w.alloc (Obj.cells #[.int .i64 k, .bool b, .int .i64 m, .int .i64 s, .string t, .slice a len cap] 32)).alloc (Obj.cells #[.int .i64 k', .bool b', .int .i64 m', .int .i64 s', .string t', .slice a' len' cap'] 32)).cell? ⟨w.heap.size, 2, none⟩ = some (.int .i64 m) := by go_simp
   have x3 : ((w.alloc (Obj.cells #[.int .i64 k, .bool b, .int .i64 m, .int .i64 s, .string t, .slice a len cap] 32)).alloc (Obj.cells #[.int .i64 k', .bool b', .int .i64 m', .int .i64 s', .string t', .slice a' len' cap'] 32)).cell? ⟨w.heap.size, 3, none⟩ = some (.int .i64 s) := by go_simp
   have x4 : ((w.alloc (Obj.cells #[.int .i64 k, .bool b, .int .i64 m, .int .i64 s, .string t, .slice a len cap] 32)).alloc (Obj.cells #[.int .i64 k', .bool b', .int .i64 m', .int .i64 s', .string t', .slice a' len' cap'] 32)).cell? ⟨w.heap.size, 4, none⟩ = some (.string t) := by go_simp
   have x5 : ((w.alloc (Obj.cells #[.int .i64 k, .bool b, .int .i64 m, .int .i64 s, .string t, .slice a len cap] 32)).alloc (Obj.cells #[.int .i64 k', .bool b', .int .i64 m', .int .i64 s', .string t', .slice a' len' cap'] 32)).cell? ⟨w.heap.size, 5, none⟩ = some (.slice a len cap) := by go_simp
   have x6 : ((w.alloc (Obj.cells #[.int .i64 k, .bool b, .int .i64 m, .int .i64 s, .string t, .slice a len cap] 32)).alloc (Obj.cells #[.int .i64 k', .bool b', .int .i64 m', .int .i64 s', .string t', .slice a' len' cap'] 32)).cell? ⟨w.heap.size + 1, 0, none⟩ = some (.int .i64 k') := by go_simp
   have x7 : ((w.alloc (Obj.cells #[.int .i64 k, .bool b, .int .i64 m, .int .i64 s, .string t, .slice a len cap] 32)).alloc (Obj.cells #[.int .i64 k', .bool b', .int .i64 m', .int .i64 s', .string t', .slice a' len' cap'] 32)).cell? ⟨w.heap.size + 1, 1, none⟩ = some (.bool b') := by go_simp
   have x8 : ((w.alloc (Obj.cells #[.int .i64 k, .bool b, .int .i64 m, .int .i64 s, .string t, .slice a len cap] 32)).alloc (Obj.cells #[.int .i64 k', .bool b', .int .i64 m', .int .i64 s', .string t', .slice a' len' cap'] 32)).cell? ⟨w.heap.size + 1, 2, none⟩ = some (.int .i64 m') := by go_simp
   have x9 : ((w.alloc (Obj.cells #[.int .i64 k, .bool b, .int .i64 m, .int .i64 s, .string t, .slice a len cap] 32)).alloc (Obj.cells #[.int .i64 k', .bool b', .int .i64 m', .int .i64 s', .string t', .slice a' len' cap'] 32)).cell? ⟨w.heap.size + 1, 3, none⟩ = some (.int .i64 s') := by go_simp
   have x10 : ((w.alloc (Obj.cells #[.int .i64 k, .bool b, .int .i64 m, .int .i64 s, .string t, .slice a len cap] 32)).alloc (Obj.cells #[.int .i64 k', .bool b', .int .i64 m', .int .i64 s', .string t', .slice a' len' cap'] 32)).cell? ⟨w.heap.size + 1, 4, none⟩ = some (.string t') := by go_simp
   have x11 : ((w.alloc (Obj.cells #[.int .i64 k, .bool b, .int .i64 m, .int .i64 s, .string t, .slice a len cap] 32)).alloc (Obj.cells #[.int .i64 k', .bool b', .int .i64 m', .int .i64 s', .string t', .slice a' len' cap'] 32)).cell? ⟨w.heap.size + 1, 5, none⟩ = some (.slice a' len' cap') := by go_simp
   have z1 : w.heap.size + 1 < ((w.alloc (Obj.cells #[.int .i64 k, .bool b, .int .i64 m, .int .i64 s, .string t, .slice a len cap] 32)).alloc (Obj.cells #[.int .i64 k', .bool b', .int .i64 m', .int .i64 s', .string t', .slice a' len' cap'] 32)).heap.size := by simp
   generalize hV : ((w.alloc (Obj.cells #[.int .i64 k, .bool b, .int .i64 m, .int .i64 s, .string t, .slice a len cap] 32)).alloc (Obj.cells #[.int .i64 k', .bool b', .int .i64 m', .int .i64 s', .string t', .slice a' len' cap'] 32)) = V at *
   clear hV
   generalize hB : w.heap.size = B at *
   have HB := hide hB
   have B0 := hide b0
   have HI := hide hin1
   have HI' := hide hin1'
   clear hB b0 hin1 hin1'
   have S0 : Hid (Below V.heap.size V V.drew ∧ V.drew.cell? ⟨B, 0, none⟩ = some (.int .i64 k) ∧ V.drew.cell? ⟨B, 1, none⟩ = some (.bool b) ∧ V.drew.cell? ⟨B, 2, none⟩ = some (.int .i64 m) ∧ V.drew.cell? ⟨B, 3, none⟩ = some (.int .i64 s) ∧ V.drew.cell? ⟨B, 4, none⟩ = some (.string t) ∧ V.drew.cell? ⟨B, 5, none⟩ = some (.slice a len cap) ∧ V.drew.cell? ⟨B + 1, 0, none⟩ = some (.int .i64 k') ∧ V.drew.cell? ⟨B + 1, 1, none⟩ = some (.bool b') ∧ V.drew.cell? ⟨B + 1, 2, none⟩ = some (.int .i64 m') ∧ V.drew.cell? ⟨B + 1, 3, none⟩ = some (.int .i64 s') ∧ V.drew.cell? ⟨B + 1, 4, none⟩ = some (.string t') ∧ V.drew.cell? ⟨B + 1, 5, none⟩ = some (.slice a' len' cap')) := ⟨(Below.refl _ _).drew, x0, x1, x2, x3, x4, x5, x6, x7, x8, x9, x10, x11⟩
   have SK : Hid (∀ x w', (Below V.heap.size V x ∧ x.cell? ⟨B, 0, none⟩ = some (.int .i64 k) ∧ x.cell? ⟨B, 1, none⟩ = some (.bool b) ∧ x.cell? ⟨B, 2, none⟩ = some (.int .i64 m) ∧ x.cell? ⟨B, 3, none⟩ = some (.int .i64 s) ∧ x.cell? ⟨B, 4, none⟩ = some (.string t) ∧ x.cell? ⟨B, 5, none⟩ = some (.slice a len cap) ∧ x.cell? ⟨B + 1, 0, none⟩ = some (.int .i64 k') ∧ x.cell? ⟨B + 1, 1, none⟩ = some (.bool b') ∧ x.cell? ⟨B + 1, 2, none⟩ = some (.int .i64 m') ∧ x.cell? ⟨B + 1, 3, none⟩ = some (.int .i64 s') ∧ x.cell? ⟨B + 1, 4, none⟩ = some (.string t') ∧ x.cell? ⟨B + 1, 5, none⟩ = some (.slice a' len' cap')) → Below x.heap.size x w' → (Below V.heap.size V w' ∧ w'.cell? ⟨B, 0, none⟩ = some (.int .i64 k) ∧ w'.cell? ⟨B, 1, none⟩ = some (.bool b) ∧ w'.cell? ⟨B, 2, none⟩ = some (.int .i64 m) ∧ w'.cell? ⟨B, 3, none⟩ = some (.int .i64 s) ∧ w'.cell? ⟨B, 4, none⟩ = some (.string t) ∧ w'.cell? ⟨B, 5, none⟩ = some (.slice a len cap) ∧ w'.cell? ⟨B + 1, 0, none⟩ = some (.int .i64 k') ∧ w'.cell? ⟨B + 1, 1, none⟩ = some (.bool b') ∧ w'.cell? ⟨B + 1, 2, none⟩ = some (.int .i64 m') ∧ w'.cell? ⟨B + 1, 3, none⟩ = some (.int .i64 s') ∧ w'.cell? ⟨B + 1, 4, none⟩ = some (.string t') ∧ w'.cell? ⟨B + 1, 5, none⟩ = some (.slice a' len' cap'))) := by
    rintro x w' ⟨h0, h1, h2, h3, h4, h5, h6, h7, h8, h9, h10, h11, h12⟩ kk
    have z0 := h0.size
    exact ⟨bstep h0 kk, kcell kk (by omega) h1, kcell kk (by omega) h2, kcell kk (by omega) h3, kcell kk (by omega) h4, kcell kk (by omega) h5, kcell kk (by omega) h6, kcell kk (by omega) h7, kcell kk (by omega) h8, kcell kk (by omega) h9, kcell kk (by omega) h10, kcell kk (by omega) h11, kcell kk (by omega) h12⟩
   go_region_held3 (fun w' => Below V.heap.size V w' ∧ w'.cell? ⟨B, 0, none⟩ = some (.int .i64 k) ∧ w'.cell? ⟨B, 1, none⟩ = some (.bool b) ∧ w'.cell? ⟨B, 2, none⟩ = some (.int .i64 m) ∧ w'.cell? ⟨B, 3, none⟩ = some (.int .i64 s) ∧ w'.cell? ⟨B, 4, none⟩ = some (.string t) ∧ w'.cell? ⟨B, 5, none⟩ = some (.slice a len cap) ∧ w'.cell? ⟨B + 1, 0, none⟩ = some (.int .i64 k') ∧ w'.cell? ⟨B + 1, 1, none⟩ = some (.bool b') ∧ w'.cell? ⟨B + 1, 2, none⟩ = some (.int .i64 m') ∧ w'.cell? ⟨B + 1, 3, none⟩ = some (.int .i64 s') ∧ w'.cell? ⟨B + 1, 4, none⟩ = some (.string t') ∧ w'.cell? ⟨B + 1, 5, none⟩ = some (.slice a' len' cap'))
    (first | exact unhide S0 | assumption | exact unhide SK _ _ (by assumption) k4)
    (first | (go_at_call_of 46 ([.agg #[.int .i64 k, .bool b, .int .i64 m, .int .i64 s, .string t, .slice a len cap]] : List Value); refine (unhide HH1 _ ?_).mono ?_; exact (unhide HI).below (And.left (by assumption)); rintro e w4 ⟨rfl, k4⟩) | (go_at_call_of 46 ([.agg #[.int .i64 k', .bool b', .int .i64 m', .int .i64 s', .string t', .slice a' len' cap']] : List Value); refine (unhide HH2 _ ?_).mono ?_; exact (unhide HI').below (And.left (by assumption)); rintro e w4 ⟨rfl, k4⟩))
   all_goals
    go_wp2_with fail
    refine (unhide HH3 _ ?_ ?_).mono ?_
    ·exact (unhide HI).below (And.left (by assumption))
    ·exact (unhide HI').below (And.left (by assumption))
    rintro e w5 ⟨rfl, k5⟩
    go_wp2_with fail
    go_ret
    refine ⟨rfl, ?_⟩
    have b := unhide B0
    rw [← unhide HB] at b
    exact bstep b (bstep (And.left (by assumption)) k5)
theorem vequal_any (x y : VT) (w : World) (hx : x.okB 2 = true) (hy : y.okB 2 = true) (hin : x.In w) (hin' : y.In w) :
  Calls Tryz.prog 40 #[x.val, y.val] w fun e w' => e = .returned (.bool (x.cmp y == 0)) ∧ Below w.heap.size w w' := by
 cases x with
 | none => exact absurd hin (by simp [VT.In])
 | mk k b m s t a len cap kid =>
  cases y with
  | none => exact absurd hin' (by simp [VT.In])
  | mk k' b' m' s' t' a' len' cap' kid' =>
   show Calls Tryz.prog 40 #[.agg #[.int .i64 k, .bool b, .int .i64 m, .int .i64 s, .string t, .slice a len cap], .agg #[.int .i64 k', .bool b', .int .i64 m', .int .i64 s', .string t', .slice a' len' cap']] w _
   have b0 := below2 w (Obj.cells #[.int .i64 k, .bool b, .int .i64 m, .int .i64 s, .string t, .slice a len cap] 32) (Obj.cells #[.int .i64 k', .bool b', .int .i64 m', .int .i64 s', .string t', .slice a' len' cap'] 32)
   have H := hide (vcmp_any _ _ _ hx hy (hin.below b0) (hin'.below b0))
   generalize (VT.mk k b m s t a len cap kid).cmp (VT.mk k' b' m' s' t' a' len' cap' kid') = R at *
   clear hin hin' hx hy
   go_enter Tryz.func40, Tryz.ntmps40
   go_wp2_with fail
   refine (unhide H).mono ?_
   rintro e w1 ⟨rfl, k1⟩
   go_wp2_with fail
   go_ret
   exact ⟨rfl, bstep b0 k1⟩
end
section
theorem tdiv_floor (n d : Int) (hd : 1 ≤ d) : (n.tmod d < 0 → n.tdiv d - 1 = n / d) ∧ (¬ n.tmod d < 0 → n.tdiv d = n / d) := by
 have hm := Int.tmod_lt_of_pos n (b := d) (by omega)
 have hm2 := Int.lt_tmod_of_pos n (b := d) (by omega)
 have he := Int.mul_tdiv_add_tmod n d
 have h1 := Int.emod_nonneg n (b := d) (by omega)
 have h2 := Int.emod_lt_of_pos n (b := d) (by omega)
 have h3 := Int.mul_ediv_add_emod n d
 constructor
 ·intro h
  apply Eq.symm
  rw [Int.ediv_eq_iff_of_pos (by omega)]
  have : (n.tdiv d - 1) * d = d * n.tdiv d - d := by rw [Int.sub_mul, Int.mul_comm]; omega
  have h' : (n.tdiv d - 1 + 1) * d = d * n.tdiv d := by rw [Int.sub_add_cancel, Int.mul_comm]
  constructor <;> omega
 ·intro h
  apply Eq.symm
  rw [Int.ediv_eq_iff_of_pos (by omega)]
  have : (n.tdiv d) * d = d * n.tdiv d := Int.mul_comm _ _
  have h' : (n.tdiv d + 1) * d = d * n.tdiv d + d := by rw [Int.add_mul, Int.mul_comm]; omega
  constructor <;> omega
theorem tdiv_bd (n d B : Int) (hd : 1 ≤ d) (h0 : 0 ≤ B) (h1 : -B ≤ n) (h2 : n ≤ B) : -B ≤ n.tdiv d ∧ n.tdiv d ≤ B + 1 := by
 have ⟨a, b⟩ := tdiv_floor n d hd
 have := div_abs n d B hd h0 h1 h2
 by_cases h : n.tmod d < 0
 ·have := a h; omega
 ·have := b h; omega
theorem floor_any (n d : Int) (w : World) (hd : 1 ≤ d) (hd2 : d ≤ 2000000000000000000) (h1 : -2000000000000000000 ≤ n) (h2 : n ≤ 2000000000000000000) :
  Calls Tryz.prog 150 #[.int .i64 n, .int .i64 d] w fun e w' => e = .returned (.int .i64 (n / d)) ∧ w' = w := by
 have ⟨fa, fb⟩ := tdiv_floor n d hd
 have tb := tdiv_bd n d 2000000000000000000 hd (by omega) h1 h2
 by_cases h : n.tmod d < 0
 ·have F := hide (fa h)
  clear fa fb
  go_enter Tryz.func150, Tryz.ntmps150
  go_wp2
  go_ret
  exact ⟨ret_int (by rw [← unhide F]), rfl⟩
 ·have F := hide (fb h)
  clear fa fb
  go_enter Tryz.func150, Tryz.ntmps150
  go_wp2
  go_ret
  exact ⟨ret_int (by rw [← unhide F]), rfl⟩
theorem tmod2 (q : Int) : (q.tmod 2 != 0) = decide (q % 2 ≠ 0) := by
 have : (q.tmod 2 = 0) ↔ (q % 2 = 0) := by
  rw [← Int.dvd_iff_tmod_eq_zero, ← Int.dvd_iff_emod_eq_zero]
 by_cases h0 : q % 2 = 0
 ·simp [h0, this.2 h0]
 ·have h1 := mt this.1 h0
  simp [h0, h1]
theorem half_any (n d : Int) (w : World) (hd : 1 ≤ d) (hd2 : d ≤ 2000000000000000000) (h1 : -2000000000000000000 ≤ n) (h2 : n ≤ 2000000000000000000) :
  Calls Tryz.prog 137 #[.int .i64 n, .int .i64 d] w fun e w' => e = .returned (.int .i64 (half n d)) ∧ w' = w := by
 have q1 := div_abs n d 2000000000000000000 hd (by omega) h1 h2
 have e1 : n - n / d * d = n % d := by have := Int.mul_ediv_add_emod n d; rw [Int.mul_comm] at this; omega
 have r1 := Int.emod_nonneg n (b := d) (by omega)
 have r2 := Int.emod_lt_of_pos n (b := d) (by omega)
 have q2 : -4000000000000000000 ≤ n / d * d ∧ n / d * d ≤ 4000000000000000000 := by omega
 have t2 := tmod2 (n / d)
 unfold half
 generalize hq : n / d = q at *
 generalize hr : n % d = r at *
 have HQ := hide hq; have HR := hide hr
 clear hq hr
 by_cases c1 : d - r < r
 ·have fin := hide (if_pos (Or.inl (show d < 2 * r by omega)) : (if d < 2 * r ∨ (2 * r = d ∧ q % 2 ≠ 0) then q + 1 else q) = q + 1)
  rw [unhide fin]
  clear t2
  go_enter Tryz.func137, Tryz.ntmps137
  go_wp2_with fail
  refine (floor_any _ _ _ hd hd2 h1 h2).mono ?_
  rintro e w' ⟨rfl, rfl⟩
  rw [unhide HQ]
  go_wp2
  go_ret
  exact ⟨rfl, rfl⟩
 ·by_cases c2 : r = d - r
  ·by_cases c3 : q % 2 ≠ 0
   ·have fin := hide (if_pos (Or.inr ⟨show 2 * r = d by omega, c3⟩) : (if d < 2 * r ∨ (2 * r = d ∧ q % 2 ≠ 0) then q + 1 else q) = q + 1)
    rw [unhide fin]
    have t3 : (q.tmod 2 != 0) = true := by rw [t2]; simp [c3]
    have c4 : (r == d - r) = true := by simp [← c2]
    clear t2 c2 c3
    go_enter Tryz.func137, Tryz.ntmps137
    go_wp2_with fail
    refine (floor_any _ _ _ hd hd2 h1 h2).mono ?_
    rintro e w' ⟨rfl, rfl⟩
    rw [unhide HQ]
    go_wp2
    go_ret
    exact ⟨rfl, rfl⟩
   ·have fin := hide (if_neg (by omega) : (if d < 2 * r ∨ (2 * r = d ∧ q % 2 ≠ 0) then q + 1 else q) = q)
    rw [unhide fin]
    have t3 : (q.tmod 2 != 0) = false := by rw [t2]; simpa using c3
    have c4 : (r == d - r) = true := by simp [← c2]
    clear t2 c2 c3
    go_enter Tryz.func137, Tryz.ntmps137
    go_wp2_with fail
    refine (floor_any _ _ _ hd hd2 h1 h2).mono ?_
    rintro e w' ⟨rfl, rfl⟩
    rw [unhide HQ]
    go_wp2
    go_ret
    exact ⟨rfl, rfl⟩
  ·have fin := hide (if_neg (by omega) : (if d < 2 * r ∨ (2 * r = d ∧ q % 2 ≠ 0) then q + 1 else q) = q)
   rw [unhide fin]
   have c4 : (r == d - r) = false := by simpa using c2
   clear t2
   go_enter Tryz.func137, Tryz.ntmps137
   go_wp2_with fail
   refine (floor_any _ _ _ hd hd2 h1 h2).mono ?_
   rintro e w' ⟨rfl, rfl⟩
   rw [unhide HQ]
   go_wp2
   go_ret
   exact ⟨rfl, rfl⟩
end
end Go.Proofs.YtfdimdjmnfdecaaGreat
