/- The contracts of val's order, and of what it goes through. -/
import Derived.Test.YthccmlkcdinfdacVCmpMath
import Derived.Test.YthccmlkcdinfdacVRIs
import Derived.Test.YthccmlkcdinfdacCmp
namespace Go.Proofs.Ythccmlkcdinfdac
open Go.RowKit

set_option maxHeartbeats 400000 in
theorem compare_any (x y : Int) (w : World) :
    Calls Try.prog 32 #[.int .i64 x, .int .i64 y] w fun e w' => e = .returned (.int .i64 (cmpI x y)) ∧ w' = w := by
  unfold cmpI
  by_cases h1 : x < y
  · rw [if_pos h1]
    go_enter Try.func32, Try.ntmps32
    go_wp2
    go_ret
    exact ⟨rfl, rfl⟩
  · rw [if_neg h1]
    by_cases h2 : y < x
    · rw [if_pos h2]
      go_enter Try.func32, Try.ntmps32
      go_wp2
      go_ret
      exact ⟨rfl, rfl⟩
    · rw [if_neg h2]
      go_enter Try.func32, Try.ntmps32
      go_wp2
      go_ret
      exact ⟨rfl, rfl⟩

set_option maxHeartbeats 400000 in
theorem first_any (a b : Bool) (w : World) :
    Calls Try.prog 22 #[.bool a, .bool b] w fun e w' => e = .returned (.int .i64 (cmpB a b)) ∧ w' = w := by
  cases a <;> cases b
  all_goals
    go_enter Try.func22, Try.ntmps22
    go_wp2
    go_ret
    exact ⟨rfl, rfl⟩

theorem cs_run (s t : ByteArray) (w : World) : (callFunc 51 #[.string s, .string t]).run Try.prog w = .ok (.value (.int .i64 (cmpS s t))) w := by
  rw [run_callFunc_extern (f := 51) (fn := Try.f51) (by kernel_rfl) (by kernel_rfl) (by kernel_rfl) (by kernel_rfl) (e := Extern.BytealgCompare.compare) (by kernel_rfl), Lib.run_compareString]
  rfl

set_option maxHeartbeats 400000 in
theorem strcmp_any (s t : ByteArray) (w : World) :
    Calls Try.prog 34 #[.string s, .string t] w fun e w' => e = .returned (.int .i64 (cmpS s t)) ∧ w' = w := by
  have hr := cs_run s t
  go_enter Try.func34, Try.ntmps34
  go_wp2
  go_ret
  exact ⟨rfl, rfl⟩

def OrderOf (x : VT) : Prop := ∀ (y : VT) (n n' : Nat) (w : World), x.okB n = true → y.okB n' = true → x.In w → y.In w →
    Calls Try.prog 21 #[x.val, y.val] w fun e w' => e = .returned (.int .i64 (x.cmp y)) ∧ Below w.heap.size w w'

theorem cmpI_bd (x y : Int) : -1 ≤ cmpI x y ∧ cmpI x y ≤ 1 := cmp_bd x y

set_option maxHeartbeats 2000000 in
theorem cf_any {k : Int} {b : Bool} {m s : Int} {t : ByteArray} {k' : Int} {b' : Bool} {m' s' : Int} {t' : ByteArray} (a a' : Option Addr) (len cap len' cap' : Nat) (kid kid' : Nat → VT) (ih : ∀ i, OrderOf (kid i)) (n n' : Nat) (w : World) (hl : len ≤ 8) (_hl' : len' ≤ 8)
    (ok : ∀ i, i < len → (kid i).okB n = true) (ok' : ∀ i, i < len' → (kid' i).okB n' = true) (hin : (VT.mk k b m s t a len cap kid).In w) (hin' : (VT.mk k' b' m' s' t' a' len' cap' kid').In w) :
    Calls Try.prog 35 #[.slice a len cap, .slice a' len' cap', .func (Fn.func 21) #[] #[]] w fun e w' => e = .returned (.int .i64 (lexF (fun i => (kid i).cmp (kid' i)) (cmpI len len') (min len len'))) ∧ Below w.heap.size w w' := by
  generalize hR : lexF (fun i => (kid i).cmp (kid' i)) (cmpI len len') (min len len') = R
  have HR := hide hR
  clear hR
  go_enter Try.func35, Try.ntmps35
  go_wp2_with fail
  go_loopw [13] (fun i wr => ∃ (j : Nat), j ≤ len ∧ j ≤ len' ∧ i = .int .i64 j ∧ Hid (∀ i, i < j → (kid i).cmp (kid' i) = 0) ∧ Below w.heap.size w wr) (fun i _ => len - (intOf i).toNat)
  case atStart => exact ⟨0, Nat.zero_le _, Nat.zero_le _, rfl, hide (fun i hi => absurd hi (Nat.not_lt_zero _)), Below.refl _ _⟩
  case round =>
    obtain ⟨j, hj, hj', rfl, HA, bel⟩ := hrel
    by_cases hlt : j < len
    · obtain ⟨bl, o, kp, bp, mp, sp, tp, ap, lenp, capp, kidp, rfl, hx, six, hk⟩ := hin.kid hlt
      obtain ⟨s0, s1, s2, s3, s4, s5, s6⟩ := six.below bel
      have b1 := below1 wr (Obj.cells #[.int .i64 kp, .bool bp, .int .i64 mp, .int .i64 sp, .string tp, .slice ap lenp capp] 26)
      by_cases hlt' : j < len'
      · obtain ⟨bl', o', kq, bq, mq, sq, tq, aq, lenq, capq, kidq, rfl, hy, six', hk'⟩ := hin'.kid hlt'
        obtain ⟨r0, r1, r2, r3, r4, r5, r6⟩ := six'.below bel
        have b2 := below2 wr (Obj.cells #[.int .i64 kp, .bool bp, .int .i64 mp, .int .i64 sp, .string tp, .slice ap lenp capp] 26) (Obj.cells #[.int .i64 kq, .bool bq, .int .i64 mq, .int .i64 sq, .string tq, .slice aq lenq capq] 26)
        have o1 := ok j hlt
        have o2 := ok' j hlt'
        have ihj := ih j (kid' j) n n' ((wr.alloc (Obj.cells #[.int .i64 kp, .bool bp, .int .i64 mp, .int .i64 sp, .string tp, .slice ap lenp capp] 26)).alloc (Obj.cells #[.int .i64 kq, .bool bq, .int .i64 mq, .int .i64 sq, .string tq, .slice aq lenq capq] 26)) o1 o2
        rw [hx, hy] at ihj
        have ihj := ihj ((hk.below bel).below b2) ((hk'.below bel).below b2)
        have B2 := hide (bstep bel b2)
        have HX := hide hx
        have HY := hide hy
        have IH := hide ihj
        clear six six' ih hk hk' hin hin' b1 b2 ihj o1 o2 ok ok' hx hy
        by_cases hc : (kid j).cmp (kid' j) = 0
        · have HC := hide hc
          rw [unhide HX, unhide HY] at hc
          have HC' := hide hc
          clear hc
          go_wp2_with fail
          refine (unhide IH).mono ?_
          rintro e w4 ⟨rfl, k4⟩
          rw [unhide HC']
          go_wp2_with fail
          go_roundw
          case rel =>
            refine ⟨j + 1, by omega, by omega, by go_num, hide (fun i hi => ?_), bstep (unhide B2) k4⟩
            by_cases hij : i = j
            · subst hij; exact unhide HC
            · exact unhide HA i (by omega)
          case measure => simp [intOf]; omega
        · have FIN := hide (lex_hit (f := fun i => (kid i).cmp (kid' i)) (cmpI len len') (n := min len len') (by omega) (unhide HA) hc)
          rw [unhide HX, unhide HY] at hc
          generalize hq : (VT.mk kp bp mp sp tp ap lenp capp kidp).cmp (VT.mk kq bq mq sq tq aq lenq capq kidq) = c at hc IH
          have HQ := hide hq
          have hc' : (c == 0) = false := by simpa using hc
          have hc2 : (c != 0) = true := by simpa using hc
          clear hc hq
          go_wp2_with fail
          refine (unhide IH).mono ?_
          rintro e w4 ⟨rfl, k4⟩
          go_wp2_with fail
          go_ret
          refine ⟨ret_int ?_, bstep (unhide B2) k4⟩
          have f := unhide FIN
          rw [unhide HR] at f
          rw [f]
          show c = (kid j).cmp (kid' j)
          rw [unhide HX, unhide HY, unhide HQ]
      · have FIN := hide (lex_none (f := fun i => (kid i).cmp (kid' i)) (cmpI len len') (n := min len len') (fun i hi => unhide HA i (by omega)))
        have C1 := hide (show cmpI len len' = 1 by unfold cmpI; rw [if_neg (by omega), if_pos (by omega)])
        clear ih hin hin' six hk hx ok ok'
        have B1 := hide (bstep bel b1)
        clear b1
        go_wp2_with fail
        go_ret
        exact ⟨ret_int (by rw [← unhide HR, unhide FIN, unhide C1]), unhide B1⟩
    · have FIN := hide (lex_none (f := fun i => (kid i).cmp (kid' i)) (cmpI len len') (n := min len len') (fun i hi => unhide HA i (by omega)))
      clear ih hin hin' ok ok'
      by_cases hll : len < len'
      · have C1 := hide (show cmpI len len' = -1 by unfold cmpI; rw [if_pos (by omega)])
        go_wp2_with fail
        go_ret
        exact ⟨ret_int (by rw [← unhide HR, unhide FIN, unhide C1]), bel⟩
      · have C1 := hide (show cmpI len len' = 0 by unfold cmpI; rw [if_neg (by omega), if_neg (by omega)])
        go_wp2_with fail
        go_ret
        exact ⟨ret_int (by rw [← unhide HR, unhide FIN, unhide C1]), bel⟩

theorem okB_list {b : Bool} {m s : Int} {t : ByteArray} {a : Option Addr} {len cap : Nat} {kid : Nat → VT} {n : Nat} (h : (VT.mk 4 b m s t a len cap kid).okB n = true) : len ≤ 8 ∧ ∀ i, i < len → (kid i).okB (n - 1) = true := by
  cases hal : aloneB 4 b m s t len
  · rw [okB_no n hal] at h; cases h
  · rw [okB_yes n hal, if_neg (by omega), if_neg (by omega), if_neg (by omega), if_pos rfl] at h
    simp only [Bool.and_eq_true, decide_eq_true_eq] at h
    exact ⟨h.2.1, fun i hi => all_range_get (f := fun i => (kid i).okB (n - 1)) h.2.2 hi⟩
theorem okB_kind {k : Int} {b : Bool} {m s : Int} {t : ByteArray} {a : Option Addr} {len cap : Nat} {kid : Nat → VT} {n : Nat} (h : (VT.mk k b m s t a len cap kid).okB n = true) :
    aloneB k b m s t len = true ∧ (k = 0 ∨ k = 1 ∨ (k = 2 ∧ isB m s = true) ∨ k = 3 ∨ k = 4) := by
  cases hal : aloneB k b m s t len
  · rw [okB_no n hal] at h; cases h
  · refine ⟨rfl, ?_⟩
    rw [okB_yes n hal] at h
    by_cases k0 : k = 0
    · exact Or.inl k0
    by_cases k1 : k = 1
    · exact Or.inr (Or.inl k1)
    rw [if_neg (by omega)] at h
    by_cases k2 : k = 2
    · rw [if_pos k2] at h; exact Or.inr (Or.inr (Or.inl ⟨k2, h⟩))
    rw [if_neg k2] at h
    by_cases k3 : k = 3
    · exact Or.inr (Or.inr (Or.inr (Or.inl k3)))
    rw [if_neg k3] at h
    by_cases k4 : k = 4
    · exact Or.inr (Or.inr (Or.inr (Or.inr k4)))
    rw [if_neg k4] at h; cases h

set_option maxHeartbeats 2000000 in
theorem order_any (x : VT) : OrderOf x := by
  induction x with
  | none => intro y n n' w hx; exact absurd hx (by simp [VT.okB])
  | mk k b m s t a len cap kid ih =>
    intro y n n' w hx hy hin hin'
    cases y with
    | none => exact absurd hy (by simp [VT.okB])
    | mk k' b' m' s' t' a' len' cap' kid' =>
      show Calls Try.prog 21 #[.agg #[.int .i64 k, .bool b, .int .i64 m, .int .i64 s, .string t, .slice a len cap], .agg #[.int .i64 k', .bool b', .int .i64 m', .int .i64 s', .string t', .slice a' len' cap']] w _
      have b0 := below2 w (Obj.cells #[.int .i64 k, .bool b, .int .i64 m, .int .i64 s, .string t, .slice a len cap] 26) (Obj.cells #[.int .i64 k', .bool b', .int .i64 m', .int .i64 s', .string t', .slice a' len' cap'] 26)
      unfold VT.cmp
      by_cases hk : k = k'
      · subst hk
        rw [if_neg (fun h => h rfl)]
        obtain ⟨al, hkk⟩ := okB_kind hx
        obtain ⟨al', hkk'⟩ := okB_kind hy
        rcases hkk with rfl | rfl | ⟨rfl, hd⟩ | rfl | rfl
        · have l0 := (alone_t al).2.2.2 (by omega)
          have l0' := (alone_t al').2.2.2 (by omega)
          subst l0 l0'
          rw [if_neg (by omega), if_neg (by omega), if_neg (by omega), lex_none _ (fun i hi => absurd hi (by omega))]
          clear ih hin hin' al al' hx hy hkk'
          go_enter Try.func21, Try.ntmps21
          go_wp2_with fail
          go_ret
          exact ⟨rfl, b0⟩
        · rw [if_pos rfl]
          clear ih hin hin' al al' hx hy hkk'
          go_enter Try.func21, Try.ntmps21
          go_wp2_with fail
          refine (first_any _ _ _).mono ?_
          rintro e w1 ⟨rfl, rfl⟩
          go_wp2_with fail
          go_ret
          exact ⟨rfl, b0⟩
        · have hd' : isB m' s' = true := by
            rcases hkk' with h | h | ⟨_, h⟩ | h | h
            · omega
            · omega
            · exact h
            · omega
            · omega
          rw [if_neg (by omega), if_pos rfl, ← cmp_dec _ _ _ _ hd hd']
          have C := hide (fun w => cmp_any m s m' s' w hd hd')
          clear ih hin hin' al al' hx hy hkk' hd hd'
          go_enter Try.func21, Try.ntmps21
          go_wp2_with fail
          refine (unhide C _).mono ?_
          rintro e w1 ⟨rfl, k1⟩
          go_wp2_with fail
          go_ret
          exact ⟨rfl, bstep b0 k1⟩
        · rw [if_neg (by omega), if_neg (by omega), if_pos rfl]
          clear ih hin hin' al al' hx hy hkk'
          go_enter Try.func21, Try.ntmps21
          go_wp2_with fail
          refine (strcmp_any _ _ _).mono ?_
          rintro e w1 ⟨rfl, rfl⟩
          go_wp2_with fail
          go_ret
          exact ⟨rfl, b0⟩
        · rw [if_neg (by omega), if_neg (by omega), if_neg (by omega)]
          have C := hide (cf_any a a' len cap len' cap' kid kid' ih (n - 1) (n' - 1) _ (okB_list hx).1 (okB_list hy).1 (okB_list hx).2 (okB_list hy).2 (hin.below b0) (hin'.below b0))
          clear ih hin hin' al al' hx hy hkk'
          go_enter Try.func21, Try.ntmps21
          go_wp2_with fail
          refine (unhide C).mono ?_
          rintro e w1 ⟨rfl, k1⟩
          go_wp2_with fail
          go_ret
          exact ⟨rfl, bstep b0 k1⟩
      · rw [if_pos hk]
        have e1 : (k != k') = true := by simpa using hk
        clear ih hin hin' hx hy hk
        go_enter Try.func21, Try.ntmps21
        go_wp2_with fail
        refine (compare_any _ _ _).mono ?_
        rintro e w1 ⟨rfl, rfl⟩
        go_wp2_with fail
        go_ret
        exact ⟨rfl, b0⟩
end Go.Proofs.Ythccmlkcdinfdac
