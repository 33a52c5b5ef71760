/- Fit Is AddSub ELst ESum EFur FlCe: laid together. -/
import Derived.Test.YtfdimdjmnfdecaaGreatKAD
import Derived.Deep.QuietTactic
import Derived.BigQuiet
import Derived.Deep.RegionWith
set_option linter.unusedVariables false
set_option linter.unusedSimpArgs false
set_option maxHeartbeats 8000000
namespace Go.Proofs.YtfdimdjmnfdecaaGreat
open Go.RowKit
section
theorem tdiv10 (m : Int) (h : m % 10 = 0) : m.tdiv 10 = m / 10 := by
 have ⟨_, b⟩ := tdiv_floor m 10 (by omega)
 apply b
 have : m.tmod 10 = 0 := by rw [← Int.dvd_iff_tmod_eq_zero, Int.dvd_iff_emod_eq_zero]; exact h
 omega
theorem trim_any (m s : Int) (w : World) (h0 : 0 ≤ s) (h4 : s ≤ 8) (b1 : -1000000000 ≤ m) (b2 : m ≤ 1000000000) :
  Calls Tryz.prog 138 #[.int .i64 m, .int .i64 s] w fun e w' => e = .returned (.agg #[.int .i64 (trimM m s.toNat), .int .i64 (trimS m s.toNat : Nat)]) ∧ Below w.heap.size w w' := by
 obtain ⟨n, rfl⟩ := Int.eq_ofNat_of_zero_le h0
 rw [Int.toNat_natCast]
 go_enter Tryz.func138, Tryz.ntmps138
 go_wp2
 go_loop [0, 1] (fun x y => ∃ (a : Int) (k : Nat), x = .int .i64 a ∧ y = .int .i64 k ∧ k ≤ 8 ∧ -1000000000 ≤ a ∧ a ≤ 1000000000 ∧ Hid (trimM a k = trimM m n ∧ trimS a k = trimS m n)) (fun _ y => (intOf y).toNat)
 case atStart => exact ⟨m, n, rfl, rfl, by omega, b1, b2, ⟨rfl, rfl⟩⟩
 case round =>
  obtain ⟨a, k, rfl, rfl, hk, a1, a2, hh⟩ := hrel
  have tm := tmod10 a
  match k, hk, hh with
  | 0, _, hh =>
   clear tm
   go_wp2
   refine bodyPost_ret (v := .agg #[.int .i64 a, .int .i64 0]) zR138 rfl ⟨?_, ?_⟩
   ·have := unhide hh
    rw [← this.1, ← this.2]; rfl
   ·exact (Below.refl _ _).alloc (Nat.le_refl _) _
  | k + 1, hk, hh =>
   by_cases h10 : a % 10 = 0
   ·have tm' : (a.tmod 10 == 0) = true := by rw [tm]; simp [h10]
    have td := tdiv10 a h10
    have H10 := hide h10
    clear tm h10
    go_wp2
    go_round
    case rel =>
     have e := unhide hh
     have h := unhide H10
     exact ⟨a / 10, k, rfl, by go_num, by omega, by omega, by omega, by rw [← e.1, ← e.2]; simp [Hid, trimM, trimS, h]⟩
    case measure => simp [intOf]
   ·have tm' : (a.tmod 10 == 0) = false := by rw [tm]; simp [h10]
    have H10 := hide h10
    clear tm h10
    go_wp2
    refine bodyPost_ret (v := .agg #[.int .i64 a, .int .i64 ((k + 1 : Nat) : Int)]) zR138 rfl ⟨?_, ?_⟩
    ·have e := unhide hh
     have h := unhide H10
     rw [← e.1, ← e.2]; simp [trimM, trimS, h]
    ·exact (Below.refl _ _).alloc (Nat.le_refl _) _
theorem fit_arg (m s : Int) (w : World) (h : argB m s = true) :
  Calls Tryz.prog 120 #[.int .i64 m, .int .i64 s] w fun e w' => e = .returned (.tuple #[.agg #[.int .i64 0, .int .i64 0], .int .i64 1]) ∧ Below w.heap.size w w' := by
 unfold argB at h
 have h := of_decide_eq_true h
 by_cases c1 : m < -1000000000000000000
 ·clear h
  go_enter Tryz.func120, Tryz.ntmps120
  go_wp2
  exact bodyPost_ret (v := .tuple #[.agg #[.int .i64 0, .int .i64 0], .int .i64 1]) zR120 rfl ⟨rfl, (Below.refl _ _).alloc (Nat.le_refl _) _⟩
 ·by_cases c2 : 1000000000000000000 < m
  ·clear h
   go_enter Tryz.func120, Tryz.ntmps120
   go_wp2
   exact bodyPost_ret (v := .tuple #[.agg #[.int .i64 0, .int .i64 0], .int .i64 1]) zR120 rfl ⟨rfl, (Below.refl _ _).alloc (Nat.le_refl _) _⟩
  ·by_cases c3 : s < 0
   ·clear h
    go_enter Tryz.func120, Tryz.ntmps120
    go_wp2
    exact bodyPost_ret (v := .tuple #[.agg #[.int .i64 0, .int .i64 0], .int .i64 1]) zR120 rfl ⟨rfl, (Below.refl _ _).alloc (Nat.le_refl _) _⟩
   ·have c4 : 8 < s := by omega
    clear h
    go_enter Tryz.func120, Tryz.ntmps120
    go_wp2
    exact bodyPost_ret (v := .tuple #[.agg #[.int .i64 0, .int .i64 0], .int .i64 1]) zR120 rfl ⟨rfl, (Below.refl _ _).alloc (Nat.le_refl _) _⟩
theorem fit_in (m s : Int) (w : World) (m1 : -1000000000000000000 ≤ m) (m2 : m ≤ 1000000000000000000) (s1 : 0 ≤ s) (s2 : s ≤ 8) :
  Calls Tryz.prog 120 #[.int .i64 m, .int .i64 s] w fun e w' => e = .returned (.tuple #[.agg #[.int .i64 (fitTM m s.toNat (min s.toNat 4 + 1)), .int .i64 (fitTS m s.toNat (min s.toNat 4 + 1) : Nat)], .int .i64 (fitTE m s.toNat (min s.toNat 4 + 1))]) ∧ Below w.heap.size w w' := by
 obtain ⟨n, rfl⟩ := Int.eq_ofNat_of_zero_le s1
 rw [Int.toNat_natCast]
 have d1 : decide (m < -1000000000000000000) = false := decide_eq_false (by omega)
 have d2 : decide (1000000000000000000 < m) = false := decide_eq_false (by omega)
 have d3 : decide ((n : Int) < 0) = false := decide_eq_false (by omega)
 have d4 : decide (8 < (n : Int)) = false := decide_eq_false (by omega)
 generalize hk0 : min n 4 + 1 = k0
 have hk1 : k0 ≤ 5 := by omega
 have hk2 : k0 ≤ n + 1 := by omega
 have HK := hide hk0
 clear hk0
 by_cases h4 : n ≤ 4
 all_goals
  go_enter Tryz.func120, Tryz.ntmps120
  go_wp2_with fail
  go_loop [6] (fun x => ∃ k : Nat, x = .int .i64 ((k : Int) - 1) ∧ k ≤ k0 ∧ Hid (fitTM m n k = fitTM m n k0 ∧ fitTS m n k = fitTS m n k0 ∧ fitTE m n k = fitTE m n k0)) (fun x => (intOf x + 1).toNat)
  case atStart => exact ⟨k0, by have := unhide HK; congr 1; omega, Nat.le_refl _, ⟨rfl, rfl, rfl⟩⟩
  case round =>
   obtain ⟨k, rfl, hk, hh⟩ := hrel
   match k, hk, hh with
   | 0, _, hh =>
    go_wp2
    have e := unhide hh
    rw [← e.1, ← e.2.1, ← e.2.2]
    exact bodyPost_ret (v := .tuple #[.agg #[.int .i64 0, .int .i64 0], .int .i64 3]) zR120 rfl ⟨rfl, (Below.refl _ _).alloc (Nat.le_refl _) _⟩
   | k + 1, hk, hh =>
    have e0 : (((k + 1 : Nat) : Int) - 1) = (k : Int) := by omega
    rw [e0]
    have pb := p10_pos (n - k)
    have pb2 := p10_bd (n := n - k) (by omega)
    go_wp2_with fail
    refine (power_any _ _ (by omega) (by omega)).mono ?_
    rintro e w' ⟨rfl, rfl⟩
    rw [show ((n : Int) - k).toNat = n - k by omega]
    go_wp2_with fail
    refine (half_any _ _ _ pb (by omega) (by omega) (by omega)).mono ?_
    rintro e w' ⟨rfl, rfl⟩
    have u1 : fitTM m n (k + 1) = if okM (half m (p10 (n - k))) = true then trimM (half m (p10 (n - k))) k else fitTM m n k := rfl
    have u2 : fitTS m n (k + 1) = if okM (half m (p10 (n - k))) = true then trimS (half m (p10 (n - k))) k else fitTS m n k := rfl
    have u3 : fitTE m n (k + 1) = if okM (half m (p10 (n - k))) = true then 0 else fitTE m n k := rfl
    generalize half m (p10 (n - k)) = x at u1 u2 u3 ⊢
    have U1 := hide u1; have U2 := hide u2; have U3 := hide u3
    clear u1 u2 u3
    go_wp2_with fail
    refine (holds_any _ _).mono ?_
    rintro e w' ⟨rfl, rfl⟩
    by_cases hok : okM x = true
    ·have hx := (okM_iff x).1 hok
     have HOK := hide hok
     rw [hok]
     clear hok
     go_wp2_with fail
     refine (trim_any _ _ _ (by omega) (by omega) hx.1 hx.2).mono ?_
     rintro e w1 ⟨rfl, hb⟩
     rw [Int.toNat_natCast]
     obtain ⟨hc, hf⟩ := bcell hb
     have hz : w.heap.size < w1.heap.size := by have := hb.size; simp at this; omega
     go_wp2
     have e1 := unhide hh
     rw [unhide U1, unhide U2, unhide U3, if_pos (unhide HOK), if_pos (unhide HOK), if_pos (unhide HOK)] at e1
     rw [← e1.1, ← e1.2.1, ← e1.2.2]
     refine bodyPost_ret (v := .tuple #[.agg #[.int .i64 (trimM x k), .int .i64 (trimS x k : Nat)], .int .i64 0]) (by simp [results, Tryz.results120, go_sem, hc]) rfl ⟨rfl, ?_⟩
     exact ((((Below.refl _ _).alloc (Nat.le_refl _) _).trans (hb.mono (by simp))).setCell (by simp) _).setCell (by simp) _
    ·have hok' : okM x = false := by simpa using hok
     have HOK := hide hok
     rw [hok']
     clear hok hok'
     go_wp2
     go_round
     case rel =>
      have e1 := unhide hh
      rw [unhide U1, unhide U2, unhide U3, if_neg (unhide HOK), if_neg (unhide HOK), if_neg (unhide HOK)] at e1
      exact ⟨k, by go_num, by omega, e1⟩
     case measure => simp [intOf]
end
section
theorem fit_any (m s : Int) (w : World) :
  Calls Tryz.prog 120 #[.int .i64 m, .int .i64 s] w fun e w' => e = .returned (.tuple #[.agg #[.int .i64 (fitM m s), .int .i64 (fitS m s)], .int .i64 (fitE m s)]) ∧ Below w.heap.size w w' := by
 by_cases h : argB m s = true
 ·have e1 : fitM m s = 0 := if_pos h
  have e2 : fitS m s = 0 := if_pos h
  have e3 : fitE m s = 1 := if_pos h
  rw [e1, e2, e3]
  exact fit_arg m s w h
 ·have e1 : fitM m s = _ := if_neg h
  have e2 : fitS m s = _ := if_neg h
  have e3 : fitE m s = _ := if_neg h
  rw [e1, e2, e3]
  unfold argB at h
  have h := mt (decide_eq_true (p := _)) h
  exact fit_in m s w (by omega) (by omega) (by omega) (by omega)
end
section
theorem add_any (m s n t : Int) (w : World) (ha : isB m s = true) (hb : isB n t = true) :
  Calls Tryz.prog 116 #[.agg #[.int .i64 m, .int .i64 s], .agg #[.int .i64 n, .int .i64 t]] w fun e w' => e = .returned (.tuple #[.agg #[.int .i64 (fitM (upM m s (max s t) + upM n t (max s t)) (max s t)), .int .i64 (fitS (upM m s (max s t) + upM n t (max s t)) (max s t))], .int .i64 (fitE (upM m s (max s t) + upM n t (max s t)) (max s t))]) ∧ Below w.heap.size w w' := by
 have ⟨m1, m2, s1, s2⟩ := isB_bd ha
 have ⟨n1, n2, t1, t2⟩ := isB_bd hb
 have ub1 := upM_bd (m := m) (s := s) (t := max s t) m1 m2 (by omega)
 have ub2 := upM_bd (m := n) (s := t) (t := max s t) n1 n2 (by omega)
 generalize hx : upM m s (max s t) = x at *
 generalize hy : upM n t (max s t) = y at *
 generalize hz : max s t = z at *
 have HA := hide ha; have HB := hide hb; have HX := hide hx; have HY := hide hy; have HZ := hide hz
 clear ha hb hx hy hz
 go_enter Tryz.func116, Tryz.ntmps116
 go_wp2_with fail
 refine (is_any _ _ _).mono ?_
 rintro e w1 ⟨rfl, b1⟩
 rw [unhide HA]
 obtain ⟨c1, f1⟩ := bcell b1
 go_wp2_with fail
 refine (is_any _ _ _).mono ?_
 rintro e w2 ⟨rfl, k2⟩
 rw [unhide HB]
 have b2 := bstep b1 k2
 clear c1 f1 b1 k2
 obtain ⟨c2, f2⟩ := bcell b2
 go_wp2_with fail
 refine (align_any _ _ _ _ _ (unhide HA) (unhide HB)).mono ?_
 rintro e w3 ⟨rfl, k3⟩
 have b3 := bstep b2 k3
 clear c2 f2 b2 k3
 obtain ⟨c3, f3⟩ := bcell b3
 rw [unhide HZ, unhide HX, unhide HY]
 clear HX HY HZ HA HB
 go_wp2_with fail
 refine (fit_any _ _ _).mono ?_
 rintro e w4 ⟨rfl, k4⟩
 have b4 := bstep b3 k4
 clear c3 f3 b3 k4
 obtain ⟨c4, f4⟩ := bcell b4
 have z4 : w.heap.size + 2 < w4.heap.size := by have := b4.size; simp at this; omega
 go_wp2
 refine bodyPost_ret (v := .tuple #[.agg #[.int .i64 (fitM _ _), .int .i64 (fitS _ _)], .int .i64 (fitE _ _)]) (by simp [results, Tryz.results116, go_sem, c4]) rfl ⟨rfl, ?_⟩
 exact ((bstep (below3 w _ _ _) b4).setCell (by simp; omega) _).setCell (by simp; omega) _
theorem sub_any (m s n t : Int) (w : World) (ha : isB m s = true) (hb : isB n t = true) :
  Calls Tryz.prog 85 #[.agg #[.int .i64 m, .int .i64 s], .agg #[.int .i64 n, .int .i64 t]] w fun e w' => e = .returned (.tuple #[.agg #[.int .i64 (fitM (upM m s (max s t) - upM n t (max s t)) (max s t)), .int .i64 (fitS (upM m s (max s t) - upM n t (max s t)) (max s t))], .int .i64 (fitE (upM m s (max s t) - upM n t (max s t)) (max s t))]) ∧ Below w.heap.size w w' := by
 have ⟨m1, m2, s1, s2⟩ := isB_bd ha
 have ⟨n1, n2, t1, t2⟩ := isB_bd hb
 have ub1 := upM_bd (m := m) (s := s) (t := max s t) m1 m2 (by omega)
 have ub2 := upM_bd (m := n) (s := t) (t := max s t) n1 n2 (by omega)
 generalize hx : upM m s (max s t) = x at *
 generalize hy : upM n t (max s t) = y at *
 generalize hz : max s t = z at *
 have HA := hide ha; have HB := hide hb; have HX := hide hx; have HY := hide hy; have HZ := hide hz
 clear ha hb hx hy hz
 go_enter Tryz.func85, Tryz.ntmps85
 go_wp2_with fail
 refine (is_any _ _ _).mono ?_
 rintro e w1 ⟨rfl, b1⟩
 rw [unhide HA]
 obtain ⟨c1, f1⟩ := bcell b1
 go_wp2_with fail
 refine (is_any _ _ _).mono ?_
 rintro e w2 ⟨rfl, k2⟩
 rw [unhide HB]
 have b2 := bstep b1 k2
 clear c1 f1 b1 k2
 obtain ⟨c2, f2⟩ := bcell b2
 go_wp2_with fail
 refine (align_any _ _ _ _ _ (unhide HA) (unhide HB)).mono ?_
 rintro e w3 ⟨rfl, k3⟩
 have b3 := bstep b2 k3
 clear c2 f2 b2 k3
 obtain ⟨c3, f3⟩ := bcell b3
 rw [unhide HZ, unhide HX, unhide HY]
 clear HX HY HZ HA HB
 go_wp2_with fail
 refine (fit_any _ _ _).mono ?_
 rintro e w4 ⟨rfl, k4⟩
 have b4 := bstep b3 k4
 clear c3 f3 b3 k4
 obtain ⟨c4, f4⟩ := bcell b4
 have z4 : w.heap.size + 2 < w4.heap.size := by have := b4.size; simp at this; omega
 go_wp2
 refine bodyPost_ret (v := .tuple #[.agg #[.int .i64 (fitM _ _), .int .i64 (fitS _ _)], .int .i64 (fitE _ _)]) (by simp [results, Tryz.results85, go_sem, c4]) rfl ⟨rfl, ?_⟩
 exact ((bstep (below3 w _ _ _) b4).setCell (by simp; omega) _).setCell (by simp; omega) _
end
section
open VT (leaf mkV)
def rowT (a : Option Addr) (cap : Nat) (l : List VT) : VT := .mk 4 false 0 0 ⟨#[]⟩ a l.length cap (fun i => l.getD i .none)
theorem rowT_bare (a : Option Addr) (cap : Nat) (l : List VT) : (rowT a cap l).bare = lisV (l.map VT.bare) := VT.bare_mk 4 false 0 0 ⟨#[]⟩ a cap l
theorem rowT_of {k : Int} {b : Bool} {m s : Int} {t : ByteArray} {a : Option Addr} {len cap : Nat} {kid : Nat → VT} {w : World} (h : (VT.mk k b m s t a len cap kid).In w) : (rowT a cap ((List.range len).map kid)).In w := by
 obtain ⟨⟨_, _, _, _, h1, h2⟩, h3⟩ := h
 unfold rowT
 refine ⟨⟨rfl, rfl, rfl, Nat.zero_le _, by simpa using h1, h2⟩, fun i hi => ?_⟩
 have hi' : i < len := by simpa using hi
 have e : ((List.range len).map kid).getD i .none = kid i := by simp [hi']
 dsimp only
 rw [e]
 exact h3 i hi'
theorem kd_bare (x : VT) : kdV x.bare = kdV x := by cases x <;> rfl
theorem boo_bare (x : VT) : booOf x.bare = booOf x := by cases x <;> rfl
theorem m_bare (x : VT) : mOf x.bare = mOf x := by cases x <;> rfl
theorem s_bare (x : VT) : sOf x.bare = sOf x := by cases x <;> rfl
theorem t_bare (x : VT) : tOf x.bare = tOf x := by cases x <;> rfl
theorem l_bare (x : VT) : lOf x.bare = (lOf x).map VT.bare := by
 cases x with
 | none => rfl
 | mk k b m s t a len cap kid =>
  show (List.range len).map (fun i => if i < len then (kid i).bare else .none) = ((List.range len).map kid).map VT.bare
  rw [List.map_map]
  refine List.map_congr_left (fun i hi => ?_)
  rw [if_pos (List.mem_range.1 hi)]
  rfl
theorem getD_eq {l : List VT} {i : Nat} (h : i < l.length) : l.getD i .none = l[i] := by simp [h]
theorem drop_cons' {l : List VT} {i : Nat} (h : i < l.length) : l.drop i = l.getD i .none :: l.drop (i + 1) := by rw [getD_eq h]; exact List.drop_eq_getElem_cons h
theorem all_any (q : Int) (a : Option Addr) (cap : Nat) (l : List VT) (w : World) (hin : (rowT a cap l).In w) :
  Calls Tryz.prog 121 #[.int .i64 q, .slice a l.length cap] w fun e w' => e = .returned (.bool (l.all fun v => kdV v == q)) ∧ Below w.heap.size w w' := by
 have hlm : l.length ≤ maxLen := by have := hin.1; omega
 unfold maxLen at hlm
 generalize hR : (l.all fun v => kdV v == q) = R
 have HR : Hid ((l.drop 0).all (fun v => kdV v == q) = R) := by rw [List.drop_zero]; exact hR
 clear hR
 go_enter Tryz.func121, Tryz.ntmps121
 go_wp2_with fail
 go_loopw [9] (fun i wr => ∃ (j : Nat), j ≤ l.length ∧ i = .int .i64 j ∧ Hid ((l.drop j).all (fun v => kdV v == q) = R) ∧ Below w.heap.size w wr) (fun i _ => l.length - (intOf i).toNat)
 case atStart => exact ⟨0, Nat.zero_le _, rfl, HR, Below.refl _ _⟩
 case round =>
  clear HR
  obtain ⟨j, hj, rfl, HR, bel⟩ := hrel
  have zz := bel.size
  by_cases hlt : j < l.length
  ·obtain ⟨bl, o, k', b', m', s', t', a', len', cap', kid', rfl, hx, six, hk⟩ := hin.kid hlt
   try dsimp only at hx
   rw [drop_cons' hlt, List.all_cons, hx] at HR
   obtain ⟨s0, s1, s2, s3, s4, s5, s6⟩ := six.below bel
   clear six hk hin hx
   by_cases hq : k' = q
   ·subst hq
    have HR2 : Hid ((l.drop (j + 1)).all (fun v => kdV v == k') = R) := hide (by have := unhide HR; rw [show (kdV (VT.mk k' b' m' s' t' a' len' cap' kid') == k') = true by simp [kdV], Bool.true_and] at this; exact this)
    clear HR
    go_wp2_with fail
    go_roundw
    case rel => exact ⟨j + 1, by omega, by go_num, HR2, zBL⟩
    case measure => simp [intOf]; omega
   ·have HR2 : Hid (R = false) := hide (by have := unhide HR; rw [← this]; simp [kdV, hq])
    have e1 : (k' != q) = true := by simpa using hq
    clear HR hq
    go_wp2_with fail
    go_ret
    exact ⟨ret_bool (unhide HR2).symm, zBL⟩
  ·have HR2 : Hid (R = true) := by have := unhide HR; rw [List.drop_of_length_le (by omega)] at this; exact this.symm
   clear HR
   go_wp2_with fail
   go_ret
   exact ⟨ret_bool (unhide HR2).symm, zBL⟩
theorem has_any (a : Option Addr) (cap : Nat) (l : List VT) (y : VT) (w : World) (hin : (rowT a cap l).In w) (hok : ∀ v ∈ l, v.okB 2 = true) (hyk : y.okB 2 = true) (hy : y.In w) :
  Calls Tryz.prog 145 #[.slice a l.length cap, y.val] w fun e w' => e = .returned (hasV l y).val ∧ Below w.heap.size w w' := by
 have hlm : l.length ≤ maxLen := by have := hin.1; omega
 unfold maxLen at hlm
 unfold hasV
 generalize hR : (l.any fun v => v.cmp y == 0) = R
 have HR : Hid ((l.drop 0).any (fun v => v.cmp y == 0) = R) := by rw [List.drop_zero]; exact hR
 clear hR
 obtain ⟨k, b, m, s, t, a2, len, cap2, kid, rfl⟩ := hy.form
 have BT := boxes1 w k b m s t a2 len cap2
 have hin1 := hin.below BT.2.2.1
 have HY := hide (hy.below BT.2.2.1)
 have HOK := hide hok
 have HYK := hide hyk
 clear hin hy hok hyk
 show Calls Tryz.prog 145 #[.slice a l.length cap, .agg #[.int .i64 k, .bool b, .int .i64 m, .int .i64 s, .string t, .slice a2 len cap2]] w _
 go_enter Tryz.func145, Tryz.ntmps145
 go_wp2_with fail
 generalize ((w.alloc (Obj.cells #[.int .i64 k, .bool b, .int .i64 m, .int .i64 s, .string t, .slice a2 len cap2] 32)).alloc (Obj.cells #[.int .i64 0, .bool false, .int .i64 0, .int .i64 0, .string ⟨#[]⟩, .slice none 0 0] 32)) = V at *
 obtain ⟨X0, O0, B0, z0⟩ := BT
 go_loopw [9] (fun i wr => ∃ (j : Nat), j ≤ l.length ∧ i = .int .i64 j ∧ Hid ((l.drop j).any (fun v => v.cmp (VT.mk k b m s t a2 len cap2 kid) == 0) = R) ∧ Below V.heap.size V wr) (fun i _ => l.length - (intOf i).toNat)
 case atStart => exact ⟨0, Nat.zero_le _, rfl, HR, Below.refl _ _⟩
 case round =>
  clear HR
  obtain ⟨j, hj, rfl, HR, bel⟩ := hrel
  have X1 := VT.Six.below X0 bel
  have O1 := Own.below O0 bel
  have B1 := bstep B0 bel
  have zz := bel.size
  by_cases hlt : j < l.length
  ·obtain ⟨bl, o, k', b', m', s', t', a', len', cap', kid', rfl, hx, six, hk⟩ := hin1.kid hlt
   try dsimp only at hx
   have hokj : (VT.mk k' b' m' s' t' a' len' cap' kid').okB 2 = true := by rw [← hx, getD_eq hlt]; exact unhide HOK _ (List.getElem_mem hlt)
   rw [drop_cons' hlt, List.any_cons, hx] at HR
   obtain ⟨s0, s1, s2, s3, s4, s5, s6⟩ := six.below bel
   have b1 := below1 wr (Obj.cells #[.int .i64 k', .bool b', .int .i64 m', .int .i64 s', .string t', .slice a' len' cap'] 32)
   have EQ := hide (vequal_any (VT.mk k' b' m' s' t' a' len' cap' kid') (VT.mk k b m s t a2 len cap2 kid) _ hokj (unhide HYK) ((hk.below bel).below b1) (((unhide HY).below bel).below b1))
   have X2 := X1.below b1
   have O2 := O1.below b1
   have B2 := bstep B1 b1
   have bel2 := bstep bel b1
   obtain ⟨x0, x1, x2, x3, x4, x5, x6⟩ := sixfl X1
   clear six hk hin1 hx hokj X0 O0 B0 X1 O1
   cases hc : ((VT.mk k' b' m' s' t' a' len' cap' kid').cmp (VT.mk k b m s t a2 len cap2 kid) == 0)
   ·have HC := hide hc
    rw [hc, Bool.false_or] at HR
    clear hc
    go_wp2_with fail
    refine (unhide EQ).mono ?_
    rintro e w2 ⟨rfl, k2⟩
    rw [unhide HC]
    go_wp2_with fail
    go_roundw
    case rel => exact ⟨j + 1, by omega, by go_num, HR, bstep bel2 k2⟩
    case measure => simp [intOf]; omega
   ·have HC := hide hc
    have HR2 : Hid (R = true) := hide (by have := unhide HR; rw [hc] at this; simpa using this.symm)
    clear hc HR
    go_wp2_with fail
    refine (unhide EQ).mono ?_
    rintro e w2 ⟨rfl, k2⟩
    rw [unhide HC]
    have O3 := O2.below k2
    have B3 := bstep B2 k2
    clear k2 b1 bel bel2 B1 B2 O2 X2 x0 x1 x2 x3 x4 x5 x6 s0 s1 s2 s3 s4 s5 s6 EQ
    go_wp2_with fail
    refine (etruth_any _ _).mono ?_
    rintro e w3 ⟨rfl, k3⟩
    have O4 := O3.below k3
    have B4 := bstep B3 k3
    clear k3 O3 B3
    obtain ⟨u0, t0, t1, t2, t3, t4, t5, f0, f1, f2, f3, f4, f5⟩ := Own.fl O4
    unfold lfv
    go_wp2_with fail
    refine bodyPost_ret (v := lfv 1 true 0 0 ⟨#[]⟩) zR145lt0t1t2t3t4t5 rfl ⟨by rw [unhide HR2]; rfl, zBL⟩
  ·have HR2 : Hid (R = false) := by have := unhide HR; rw [List.drop_of_length_le (by omega)] at this; exact this.symm
   clear HR hin1 X0 O0 B0 X1 bel
   go_wp2_with fail
   refine (etruth_any _ _).mono ?_
   rintro e w3 ⟨rfl, k3⟩
   have O4 := O1.below k3
   have B4 := bstep B1 k3
   clear k3 O1 B1
   obtain ⟨u0, t0, t1, t2, t3, t4, t5, f0, f1, f2, f3, f4, f5⟩ := Own.fl O4
   unfold lfv
   go_wp2_with fail
   refine bodyPost_ret (v := lfv 1 false 0 0 ⟨#[]⟩) zR145lt0t1t2t3t4t5 rfl ⟨by rw [unhide HR2]; rfl, zBL⟩
def OwnD (w : World) (b : Nat) (m s : Int) : Prop := b < w.heap.size ∧ w.cell? ⟨b, 0, none⟩ = some (.int .i64 m) ∧ w.cell? ⟨b, 1, none⟩ = some (.int .i64 s) ∧ w.frozen? ⟨b, 0, none⟩ = false ∧ w.frozen? ⟨b, 1, none⟩ = false
theorem OwnD.below {w w' : World} {b : Nat} {m s : Int} (h : OwnD w b m s) (k : Below w.heap.size w w') : OwnD w' b m s := by
 obtain ⟨h0, h1, h2, h3, h4⟩ := h
 exact ⟨Nat.lt_of_lt_of_le h0 k.size, kcell k h0 h1, kcell k h0 h2, kfroz k h0 h3, kfroz k h0 h4⟩
theorem OwnD.new (w : World) (m s : Int) (t : TypeId) : OwnD (w.alloc (Obj.cells #[.int .i64 m, .int .i64 s] t)) w.heap.size m s := ⟨by simp, by go_simp, by go_simp, by go_simp, by go_simp⟩
theorem OwnD.put {w : World} {b : Nat} {m s : Int} (h : OwnD w b m s) (m' s' : Int) : OwnD ((w.setCell ⟨b, 0, none⟩ (.int .i64 m')).setCell ⟨b, 1, none⟩ (.int .i64 s')) b m' s' := by
 obtain ⟨h0, h1, h2, h3, h4⟩ := h
 refine ⟨by simpa [World.setCell] using h0, ?_, ?_, by go_simp, by go_simp⟩
 ·go_simp
 ·go_simp
theorem putD_cell (w : World) (g : Nat) (v0 v1 : Value) {k i : Nat} (h : k ≠ g) : ((w.setCell ⟨g, 0, none⟩ v0).setCell ⟨g, 1, none⟩ v1).cell? ⟨k, i, none⟩ = w.cell? ⟨k, i, none⟩ := World.cell?_of_block (w := w) (by rw [Below.heap_setCell _ _ _ _ h, Below.heap_setCell _ _ _ _ h])
end
section
open VT (leaf mkV)
theorem boxD (w : World) (m s : Int) :
  Own ((w.alloc (Obj.cells #[.int .i64 0, .bool false, .int .i64 0, .int .i64 0, .string ⟨#[]⟩, .slice none 0 0] 32)).alloc (Obj.cells #[.int .i64 m, .int .i64 s] 23)) w.heap.size ∧
  OwnD ((w.alloc (Obj.cells #[.int .i64 0, .bool false, .int .i64 0, .int .i64 0, .string ⟨#[]⟩, .slice none 0 0] 32)).alloc (Obj.cells #[.int .i64 m, .int .i64 s] 23)) (w.heap.size + 1) m s ∧
  Below w.heap.size w ((w.alloc (Obj.cells #[.int .i64 0, .bool false, .int .i64 0, .int .i64 0, .string ⟨#[]⟩, .slice none 0 0] 32)).alloc (Obj.cells #[.int .i64 m, .int .i64 s] 23)) ∧
  ((w.alloc (Obj.cells #[.int .i64 0, .bool false, .int .i64 0, .int .i64 0, .string ⟨#[]⟩, .slice none 0 0] 32)).alloc (Obj.cells #[.int .i64 m, .int .i64 s] 23)).heap.size = w.heap.size + 2 := by
 refine ⟨(Own.new w 32).below (below1 _ _), ?_, below2 _ _ _, by simp⟩
 have h := OwnD.new (w.alloc (Obj.cells #[.int .i64 0, .bool false, .int .i64 0, .int .i64 0, .string ⟨#[]⟩, .slice none 0 0] 32)) m s 23
 simpa using h
theorem putD_below {n : Nat} {V w : World} (h : Below n V w) {g : Nat} (hb : n ≤ g) (v0 v1 : Value) : Below n V ((w.setCell ⟨g, 0, none⟩ v0).setCell ⟨g, 1, none⟩ v1) := (h.setCell hb v0).setCell hb v1
theorem putD_own {w : World} {b g : Nat} (h : Own w b) (hne : b ≠ g) (v0 v1 : Value) : Own ((w.setCell ⟨g, 0, none⟩ v0).setCell ⟨g, 1, none⟩ v1) b := by
 obtain ⟨⟨h0, e0, e1, e2, e3, e4, e5⟩, f0, f1, f2, f3, f4, f5⟩ := h
 refine ⟨⟨by simpa [World.setCell] using h0, ?_, ?_, ?_, ?_, ?_, ?_⟩, ?_, ?_, ?_, ?_, ?_, ?_⟩
 ·rw [putD_cell _ _ _ _ hne]; exact e0
 ·rw [putD_cell _ _ _ _ hne]; exact e1
 ·rw [putD_cell _ _ _ _ hne]; exact e2
 ·rw [putD_cell _ _ _ _ hne]; exact e3
 ·rw [putD_cell _ _ _ _ hne]; exact e4
 ·rw [putD_cell _ _ _ _ hne]; exact e5
 all_goals go_simp
theorem In_putD {w : World} {x : VT} {g : Nat} (h : x.In w) (hg : x.Lies (fun q => q ≠ g)) (v0 v1 : Value) : x.In ((w.setCell ⟨g, 0, none⟩ v0).setCell ⟨g, 1, none⟩ v1) :=
 VT.In.kept (fun bl o _ hq => putD_cell w g v0 v1 hq) x h hg
theorem sum_any (a : Option Addr) (cap : Nat) (l : List VT) (w : World) (hin : (rowT a cap l).In w) (hok : ∀ v ∈ l, isB (mOf v) (sOf v) = true) :
  Calls Tryz.prog 126 #[.slice a l.length cap] w fun e w' => e = .returned (Tup (sumT l (0, 0))) ∧ Below w.heap.size w w' := by
 have hlm : l.length ≤ maxLen := by have := hin.1; omega
 unfold maxLen at hlm
 generalize hR : sumT l (0, 0) = R
 have HR : Hid (sumT (l.drop 0) (0, 0) = R) := by rw [List.drop_zero]; exact hR
 clear hR
 have BT := boxD w 0 0
 have hin0 := hin.lies
 have HOK := hide hok
 have hin1 := hin.below BT.2.2.1
 clear hin hok
 go_enter Tryz.func126, Tryz.ntmps126
 go_wp2_with fail
 generalize ((w.alloc (Obj.cells #[.int .i64 0, .bool false, .int .i64 0, .int .i64 0, .string ⟨#[]⟩, .slice none 0 0] 32)).alloc (Obj.cells #[.int .i64 0, .int .i64 0] 23)) = V at *
 obtain ⟨O0, D0, B0, z0⟩ := BT
 generalize hB : w.heap.size = B at *
 have HB := hide hB
 clear hB
 go_loopw [11] (fun i wr => ∃ (j : Nat) (m s : Int), j ≤ l.length ∧ i = .int .i64 j ∧ isB m s = true ∧ Hid (sumT (l.drop j) (m, s) = R) ∧ Own wr B ∧ OwnD wr (B + 1) m s ∧ Below B w wr ∧ B + 2 ≤ wr.heap.size ∧ Hid ((rowT a cap l).In wr)) (fun i _ => l.length - (intOf i).toNat)
 case atStart => exact ⟨0, 0, 0, Nat.zero_le _, rfl, rfl, HR, O0, D0, B0, by omega, hide hin1⟩
 case round =>
  clear HR O0 D0 B0 hin1 z0
  obtain ⟨j, m, s, hj, rfl, his, HR, O1, D1, B1, z1, IN1⟩ := hrel
  by_cases hlt : j < l.length
  ·obtain ⟨bl, o, k', b', m', s', t', a', len', cap', kid', rfl, hx, six, hk⟩ := (unhide IN1).kid hlt
   try dsimp only at hx
   have hokj : isB m' s' = true := by have := unhide HOK _ (List.getElem_mem hlt); rw [← getD_eq hlt, hx] at this; exact this
   have HR' := hide (show sumT ((l.drop (j + 1))) (fitM (upM m s (max s s') + upM m' s' (max s s')) (max s s'), fitS (upM m s (max s s') + upM m' s' (max s s')) (max s s')) = R ∨ fitE (upM m s (max s s') + upM m' s' (max s s')) (max s s') ≠ 0 by
    by_cases hE : fitE (upM m s (max s s') + upM m' s' (max s s')) (max s s') = 0
    ·left
     have := unhide HR
     rw [drop_cons' hlt, hx, sumT] at this
     simpa [mOf, sOf, hE] using this
    ·exact .inr hE)
   have HE' := hide (show fitE (upM m s (max s s') + upM m' s' (max s s')) (max s s') ≠ 0 → R = (nilV, fitE (upM m s (max s s') + upM m' s' (max s s')) (max s s')) from fun hE => by
     have := unhide HR
     rw [drop_cons' hlt, hx, sumT] at this
     rw [← this]
     simp [mOf, sOf, hE])
   have FI := hide (fun h => fit_is (upM m s (max s s') + upM m' s' (max s s')) (max s s') h)
   have AD := hide (fun w => add_any m s m' s' w his hokj)
   obtain ⟨s0, s1, s2, s3, s4, s5, s6⟩ := six
   obtain ⟨d0, d1, d2, d3, d4⟩ := id D1
   have b1 := below1 wr (Obj.cells #[.int .i64 k', .bool b', .int .i64 m', .int .i64 s', .string t', .slice a' len' cap'] 32)
   have O2 := O1.below b1
   have D2 := D1.below b1
   have B2 := B1.trans (b1.mono (by omega))
   have IN2 := hide ((unhide IN1).below b1)
   have hne : wr.heap.size ≠ B + 1 := by omega
   clear HR hk hx his hokj O1 D1 b1
   generalize fitM (upM m s (max s s') + upM m' s' (max s s')) (max s s') = M at *
   generalize fitS (upM m s (max s s') + upM m' s' (max s s')) (max s s') = S at *
   generalize fitE (upM m s (max s s') + upM m' s' (max s s')) (max s s') = E at *
   go_wp2_with fail
   refine (unhide AD _).mono ?_
   rintro e w2 ⟨rfl, k2⟩
   have z2 := k2.size
   simp at z2
   have O3 := O2.below k2
   have D3 := D2.below k2
   have B3 := B2.trans (k2.mono (by simp; omega))
   have IN3 := hide ((unhide IN2).below k2)
   clear k2 O2 D2 B2 IN2 s0 s1 s2 s3 s4 s5 s6 d0 d1 d2 d3 d4 AD IN1 B1
   have b4 := below1 w2 (Obj.cells #[.int .i64 M, .int .i64 S] 23)
   have O4 := O3.below b4
   have D4 := D3.below b4
   have B4 := B3.trans (b4.mono (by omega))
   have IN4 := hide ((unhide IN3).below b4)
   by_cases hE : E = 0
   ·subst hE
    obtain ⟨d0, d1, d2, d3, d4⟩ := id D3
    have hne2 : ¬ B + 1 = w2.heap.size := by omega
    have hne3 : ¬ w2.heap.size = B + 1 := by omega
    go_wp2_with fail
    go_roundw
    case rel =>
     have q1 := (D3.put M S).below (below1 _ (Obj.cells #[.int .i64 M, .int .i64 S] 23))
     have q2 := (putD_own O3 (show B ≠ B + 1 by omega) (.int .i64 M) (.int .i64 S)).below (below1 _ (Obj.cells #[.int .i64 M, .int .i64 S] 23))
     have q3 := (putD_below B3 (show B ≤ B + 1 by omega) (.int .i64 M) (.int .i64 S)).alloc (by simp [World.setCell]; omega) (Obj.cells #[.int .i64 M, .int .i64 S] 23)
     have q4 := (In_putD (g := B + 1) (unhide IN3) (hin0.weak (fun q hq => by have := unhide HB; omega)) (.int .i64 M) (.int .i64 S)).below (below1 _ (Obj.cells #[.int .i64 M, .int .i64 S] 23))
     refine ⟨j + 1, M, S, by omega, by go_num, unhide FI (by first | rfl | trivial), hide ((unhide HR').resolve_right (fun h => h rfl)), q2, q1, q3, by simp [World.setCell]; omega, hide q4⟩
    case measure => simp [intOf]; omega
   ·have e1 : (E != 0) = true := by simpa using hE
    have HE2 := hide (unhide HE' hE)
    clear hE HE' HR' FI
    obtain ⟨u0, t0, t1, t2, t3, t4, t5, f0, f1, f2, f3, f4, f5⟩ := Own.fl O3
    have hne2 : ¬ B = w2.heap.size := by omega
    go_wp2_with fail
    refine bodyPost_ret (v := .tuple #[lfv 0 false 0 0 ⟨#[]⟩, .int .i64 E]) (by simp [results, Tryz.results126, go_sem, lfv, t0, t1, t2, t3, t4, t5, u0, hne2]) rfl ⟨by rw [unhide HE2]; rfl, ?_⟩
    rw [unhide HB]
    exact zBL
  ·have HR2 := hide (show R = (numV m s, 0) by have := unhide HR; rw [List.drop_of_length_le (by omega)] at this; exact this.symm)
   clear HR IN1
   obtain ⟨d0, d1, d2, d3, d4⟩ := id D1
   go_wp2_with fail
   refine (enumber_any _ _ _).mono ?_
   rintro e w3 ⟨rfl, k3⟩
   have O4 := O1.below k3
   have B4 := B1.trans (k3.mono (by omega))
   clear k3 O1 B1 D1
   obtain ⟨u0, t0, t1, t2, t3, t4, t5, f0, f1, f2, f3, f4, f5⟩ := Own.fl O4
   unfold lfv
   go_wp2_with fail
   refine bodyPost_ret (v := .tuple #[lfv 2 false m s ⟨#[]⟩, .int .i64 0]) (by simp [results, Tryz.results126, go_sem, lfv, t0, t1, t2, t3, t4, t5]) rfl ⟨by rw [unhide HR2]; rfl, ?_⟩
   rw [unhide HB]
   exact zBL
end
section
open VT (leaf mkV)
theorem fur_any (a : Option Addr) (cap : Nat) (l : List VT) (way : Int) (w : World) (hin : (rowT a cap l).In w) (hok : ∀ v ∈ l, isB (mOf v) (sOf v) = true) :
  Calls Tryz.prog 125 #[.slice a l.length cap, .int .i64 way] w fun e w' => e = .returned (furV way l).val ∧ Below w.heap.size w w' := by
 obtain ⟨⟨_, _, _, _, hlc, hlm⟩, _⟩ := id hin
 unfold maxLen at hlm
 cases l with
 | nil =>
  clear hok hin
  go_enter Tryz.func125, Tryz.ntmps125
  go_wp2_with fail
  exact bodyPost_ret (v := lfv 0 false 0 0 ⟨#[]⟩) (by simp [results, Tryz.results125, go_sem, lfv]) rfl ⟨rfl, zBL⟩
 | cons v0 l =>
  obtain ⟨bl, o, k0, b0, m0, s0, t0, a0, len0, cap0, kid0, rfl, hx0, six0, hk0⟩ := hin.kid (i := 0) (by simp)
  have hv0 : v0 = .mk k0 b0 m0 s0 t0 a0 len0 cap0 kid0 := by simpa using hx0
  subst hv0
  have his0 : isB m0 s0 = true := hok (.mk k0 b0 m0 s0 t0 a0 len0 cap0 kid0) (by simp)
  show Calls Tryz.prog 125 #[.slice (some ⟨bl, o, none⟩) (l.length + 1) cap, .int .i64 way] w fun e w' => e = .returned (numV (furD way l (m0, s0)).1 (furD way l (m0, s0)).2).val ∧ _
  generalize hR : furD way l (m0, s0) = R
  have HR : Hid (furD way (l.drop 0) (m0, s0) = R) := hide (by rw [List.drop_zero]; exact hR)
  clear hR
  have BT := boxD w m0 s0
  have hin0 := hin.lies
  have HOK := hide hok
  have hin1 := hin.below BT.2.2.1
  rw [show o + 0 * 6 = o by omega] at six0
  obtain ⟨p0, p1, p2, p3, p4, p5, p6⟩ := six0
  have hlc' : l.length + 1 ≤ cap := hlc
  have e0 : ((l.length : Int) + 1 == 0) = false := by simp; omega
  clear hin hok hx0 hk0 hlc
  by_cases hc1 : cap = 1
  ·subst hc1
   obtain rfl : l = [] := List.eq_nil_of_length_eq_zero (by omega)
   have HR2 := hide (show R = (m0, s0) from (unhide HR).symm)
   clear HR hin1 hin0 HOK
   go_enter Tryz.func125, Tryz.ntmps125
   go_wp2_with fail
   generalize ((w.alloc (Obj.cells #[.int .i64 0, .bool false, .int .i64 0, .int .i64 0, .string ⟨#[]⟩, .slice none 0 0] 32)).alloc (Obj.cells #[.int .i64 m0, .int .i64 s0] 23)) = V at *
   obtain ⟨O1, D1, B1, z0⟩ := BT
   go_loop [19] (fun i => i = .int .i64 0) (fun _ => 0)
   case atStart => rfl
   case round =>
    subst hrel
    obtain ⟨d0, d1, d2, d3, d4⟩ := id D1
    go_wp2_with fail
    refine (enumber_any _ _ _).mono ?_
    rintro e w3 ⟨rfl, k3⟩
    have O4 := O1.below k3
    have B4 := bstep B1 k3
    clear k3 O1 B1 D1
    obtain ⟨u0, t0, t1, t2, t3, t4, t5, f0, f1, f2, f3, f4, f5⟩ := Own.fl O4
    unfold lfv
    go_wp2_with fail
    exact bodyPost_ret (v := lfv 2 false m0 s0 ⟨#[]⟩) zR125lt0t1t2t3t4t5 rfl ⟨by rw [unhide HR2]; rfl, zBL⟩
  go_enter Tryz.func125, Tryz.ntmps125
  go_wp2_with fail
  generalize ((w.alloc (Obj.cells #[.int .i64 0, .bool false, .int .i64 0, .int .i64 0, .string ⟨#[]⟩, .slice none 0 0] 32)).alloc (Obj.cells #[.int .i64 m0, .int .i64 s0] 23)) = V at *
  obtain ⟨O0, D0, B0, z0⟩ := BT
  generalize hB : w.heap.size = B at *
  have HB := hide hB
  clear hB p0 p1 p2 p3 p4 p5 p6
  go_loopw [19] (fun i wr => ∃ (j : Nat) (m s : Int), j ≤ l.length ∧ i = .int .i64 j ∧ isB m s = true ∧ Hid (furD way (l.drop j) (m, s) = R) ∧ Own wr B ∧ OwnD wr (B + 1) m s ∧ Below B w wr ∧ B + 2 ≤ wr.heap.size ∧ Hid ((rowT (some ⟨bl, o, none⟩) cap (VT.mk k0 b0 m0 s0 t0 a0 len0 cap0 kid0 :: l)).In wr)) (fun i _ => l.length - (intOf i).toNat)
  case atStart => exact ⟨0, m0, s0, Nat.zero_le _, rfl, his0, HR, O0, D0, B0, by omega, hide hin1⟩
  case round =>
   clear HR O0 D0 B0 hin1 z0
   obtain ⟨j, m, s, hj, rfl, his, HR, O1, D1, B1, z1, IN1⟩ := hrel
   by_cases hlt : j < l.length
   ·obtain ⟨bl', o', k', b', m', s', t', a', len', cap', kid', hbl, hx, six, hk⟩ := (unhide IN1).kid (i := j + 1) (by simp; omega)
    obtain ⟨rfl, rfl⟩ : bl = bl' ∧ o = o' := by simpa using hbl
    have hx' : l.getD j .none = VT.mk k' b' m' s' t' a' len' cap' kid' := by simpa using hx
    have hokj : isB m' s' = true := by have := unhide HOK l[j] (by simp); rw [← getD_eq hlt, hx'] at this; exact this
    have HR' := hide (show furD way (l.drop (j + 1)) (if cmD m' s' m s = way then (m', s') else (m, s)) = R by
     have := unhide HR
     rw [drop_cons' hlt, hx', furD] at this
     exact this)
    have CM := hide (fun w => cmp_any m' s' m s w hokj his)
    have HD : Hid (cmD m' s' m s = cmpI (upM m' s' (max s' s)) (upM m s (max s' s))) := hide rfl
    have HIS := hide his
    have HIJ := hide hokj
    generalize cmpI (upM m' s' (max s' s)) (upM m s (max s' s)) = C at *
    rw [show o + (j + 1) * 6 = o + 6 + j * 6 by omega] at six
    obtain ⟨s0, s1, s2, s3, s4, s5, s6⟩ := six
    obtain ⟨d0, d1, d2, d3, d4⟩ := id D1
    have b1 := below1 wr (Obj.cells #[.int .i64 k', .bool b', .int .i64 m', .int .i64 s', .string t', .slice a' len' cap'] 32)
    have O2 := O1.below b1
    have D2 := D1.below b1
    have B2 := B1.trans (b1.mono (by omega))
    have IN2 := hide ((unhide IN1).below b1)
    have X2 := six_new wr k' b' m' s' t' a' len' cap'
    have hne : wr.heap.size ≠ B + 1 := by omega
    have hz2 : (wr.alloc (Obj.cells #[.int .i64 k', .bool b', .int .i64 m', .int .i64 s', .string t', .slice a' len' cap'] 32)).heap.size = wr.heap.size + 1 := by simp
    clear HR hk hx hx' his hokj O1 D1 b1 hbl
    go_wp2_with fail
    refine (unhide CM _).mono ?_
    rintro e w2 ⟨rfl, k2⟩
    have z2 := k2.size
    have O3 := O2.below k2
    have D3 := D2.below k2
    have B3 := B2.trans (k2.mono (by omega))
    have IN3 := hide ((unhide IN2).below k2)
    have X3 := X2.below k2
    clear k2 O2 D2 B2 IN2 s0 s1 s2 s3 s4 s5 s6 d0 d1 d2 d3 d4 CM IN1 B1 X2
    obtain ⟨x0, x1, x2, x3, x4, x5, x6⟩ := sixfl X3
    obtain ⟨d0, d1, d2, d3, d4⟩ := id D3
    by_cases hC : C = way
    ·subst hC
     go_wp2_with fail
     go_roundw
     case rel =>
      have q1 := D3.put m' s'
      have q2 := putD_own O3 (show B ≠ B + 1 by omega) (.int .i64 m') (.int .i64 s')
      have q3 := putD_below B3 (show B ≤ B + 1 by omega) (.int .i64 m') (.int .i64 s')
      have q4 := In_putD (g := B + 1) (unhide IN3) (hin0.weak (fun q hq => by have := unhide HB; omega)) (.int .i64 m') (.int .i64 s')
      refine ⟨j + 1, m', s', by omega, by go_num, unhide HIJ, hide (by have := unhide HR'; rw [if_pos (unhide HD)] at this; exact this), q2, q1, q3, by simp [World.setCell]; omega, hide q4⟩
     case measure => simp [intOf]; omega
    ·have e1 : (C == way) = false := by simpa using hC
     have HC := hide hC
     clear hC
     go_wp2_with fail
     go_roundw
     case rel => refine ⟨j + 1, m, s, by omega, by go_num, unhide HIS, hide (by have := unhide HR'; rw [if_neg (by rw [unhide HD]; exact unhide HC)] at this; exact this), O3, D3, B3, by omega, IN3⟩
     case measure => simp [intOf]; omega
   ·have HR2 := hide (show R = (m, s) by have := unhide HR; rw [List.drop_of_length_le (by omega)] at this; exact this.symm)
    clear HR IN1
    obtain ⟨d0, d1, d2, d3, d4⟩ := id D1
    go_wp2_with fail
    refine (enumber_any _ _ _).mono ?_
    rintro e w3 ⟨rfl, k3⟩
    have O4 := O1.below k3
    have B4 := B1.trans (k3.mono (by omega))
    clear k3 O1 B1 D1
    obtain ⟨u0, t0, t1, t2, t3, t4, t5, f0, f1, f2, f3, f4, f5⟩ := Own.fl O4
    unfold lfv
    go_wp2_with fail
    refine bodyPost_ret (v := lfv 2 false m s ⟨#[]⟩) zR125lt0t1t2t3t4t5 rfl ⟨by rw [unhide HR2]; rfl, ?_⟩
    rw [unhide HB]
    exact zBL
end
section
theorem flr_any (m s : Int) (w : World) (ha : isB m s = true) :
  Calls Tryz.prog 141 #[.agg #[.int .i64 m, .int .i64 s]] w fun e w' => e = .returned (.agg #[.int .i64 (m / p10 s.toNat), .int .i64 0]) ∧ Below w.heap.size w w' := by
 have ⟨m1, m2, s1, s2⟩ := isB_bd ha
 have pb := p10_pos s.toNat
 have pb2 := p10_bd (n := s.toNat) (by omega)
 have db := div_abs m (p10 s.toNat) 1000000000 pb (by omega) (by omega) (by omega)
 have HA := hide ha
 clear ha
 go_enter Tryz.func141, Tryz.ntmps141
 go_wp2_with fail
 refine (is_any _ _ _).mono ?_
 rintro e w1 ⟨rfl, b1⟩
 rw [unhide HA]
 clear HA
 obtain ⟨c1, f1⟩ := bcell b1
 have z4 : w.heap.size + 1 < w1.heap.size := by have := b1.size; simp at this; omega
 go_wp2_with fail
 go_region_with (first | (go_at_call 136; refine (power_any _ _ (by omega) (by omega)).mono ?_; rintro e w' ⟨rfl, rfl⟩) | (go_at_call 150; refine (floor_any _ _ _ (by omega) (by omega) (by omega) (by omega)).mono ?_; rintro e w' ⟨rfl, rfl⟩))
 all_goals go_wp2
 all_goals
  refine bodyPost_ret (v := .agg #[.int .i64 (m / p10 s.toNat), .int .i64 0]) (by simp [results, Tryz.results141, go_sem, c1]) rfl ⟨rfl, ?_⟩
  exact (((bstep (below2 w _ _) b1).setCell (by simp) _).setCell (by simp) _).drew
theorem ceil_any (m s : Int) (w : World) (ha : isB m s = true) :
  Calls Tryz.prog 142 #[.agg #[.int .i64 m, .int .i64 s]] w fun e w' => e = .returned (.agg #[.int .i64 (-(-m / p10 s.toNat)), .int .i64 0]) ∧ Below w.heap.size w w' := by
 have ⟨m1, m2, s1, s2⟩ := isB_bd ha
 have pb := p10_pos s.toNat
 have pb2 := p10_bd (n := s.toNat) (by omega)
 have db := div_abs (-m) (p10 s.toNat) 1000000000 pb (by omega) (by omega) (by omega)
 have hw1 : IntKind.i64.wrap (-m) = -m := i64_in (by omega) (by omega)
 have hw2 : IntKind.i64.wrap (-(-m / p10 s.toNat)) = -(-m / p10 s.toNat) := i64_in (by omega) (by omega)
 have HA := hide ha
 clear ha
 go_enter Tryz.func142, Tryz.ntmps142
 go_wp2_with fail
 refine (is_any _ _ _).mono ?_
 rintro e w1 ⟨rfl, b1⟩
 rw [unhide HA]
 clear HA
 obtain ⟨c1, f1⟩ := bcell b1
 have z4 : w.heap.size + 1 < w1.heap.size := by have := b1.size; simp at this; omega
 go_wp2_with fail
 go_region_with (first | (go_at_call 136; refine (power_any _ _ (by omega) (by omega)).mono ?_; rintro e w' ⟨rfl, rfl⟩) | (go_at_call 150; refine (floor_any _ _ _ (by omega) (by omega) (by omega) (by omega)).mono ?_; rintro e w' ⟨rfl, rfl⟩))
 all_goals go_wp2
 all_goals
  refine bodyPost_ret (v := .agg #[.int .i64 (-(-m / p10 s.toNat)), .int .i64 0]) (by simp [results, Tryz.results142, go_sem, c1]) rfl ⟨rfl, ?_⟩
  exact (((bstep (below2 w _ _) b1).setCell (by simp) _).setCell (by simp) _).drew
end
end Go.Proofs.YtfdimdjmnfdecaaGreat
