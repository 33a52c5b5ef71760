/- EEval: laid together. -/
import Derived.Test.YtfdimdjmnfdecaaGreatKAO
set_option linter.unusedVariables false
set_option linter.unusedSimpArgs false
set_option maxHeartbeats 8000000
namespace Go.Proofs.YtfdimdjmnfdecaaGreat
open Go.RowKit
open VT (leaf mkV)
theorem env_ok {es : List (ByteArray × VT)} (h : ∀ e ∈ es, e.2.okB 2 = true) : ∀ e ∈ envT es, e.2.okB 2 = true := by
 intro e he
 simp only [envT, List.mem_map] at he
 obtain ⟨e0, he0, rfl⟩ := he
 dsimp only
 rw [VT.okB_bare]
 exact h e0 he0
theorem nil_res (N : Nat) (e0 : Int) (w : World) : EvRes N (nilV, e0) (.returned (.tuple #[lfv 0 false 0 0 ⟨#[]⟩, .int .i64 e0])) w := lf_res (X := (nilV, e0)) lf_nil ok_nil N w
theorem in3 {w : World} {k : Int} {b : Bool} {m s : Int} {t : ByteArray} {lo hi : Bool} {a : Option Addr} {cap : Nat} {kid : Nat → XT} (h : (XT.mk k b m s t lo hi a 3 cap kid).In (fun _ => True) w) : ∃ g o, a = some ⟨g, o, none⟩ := by
 obtain ⟨bl, o, _, _, _, _, _, _, _, _, _, _, _, ha, _⟩ := h.kid (i := 0) (by omega)
 exact ⟨bl, o, ha⟩
theorem choose_any (k : Int) (b : Bool) (m s : Int) (t : ByteArray) (lo hi : Bool) (a : Option Addr) (cap : Nat) (kid : Nat → XT) (ih : ∀ i, EvOf (kid i)) (es : List (ByteArray × VT)) (a9 : Option Addr) (c9 : Nat) (w : World) (hin : (XT.mk k b m s t lo hi a 3 cap kid).In (fun _ => True) w) (hfit : fitX (XT.mk k b m s t lo hi a 3 cap kid)) (henv : EnvIn w a9 es) (hel : es.length ≤ maxLen) (hok : ∀ e ∈ es, e.2.okB 2 = true) :
  Calls Tryz.prog 25 #[.slice a 3 cap, .slice a9 es.length c9] w fun e w' => EvRes w.heap.size (if (evT (envT es) (kid 0)).2 = 0 then (if trV (evT (envT es) (kid 0)).1 = true then evT (envT es) (kid 1) else evT (envT es) (kid 2)) else (nilV, (evT (envT es) (kid 0)).2)) e w' ∧ Below w.heap.size w w' := by
 obtain ⟨hft, hfl, hfk⟩ := hfit
 have HFK := hide hfk
 have HEL := hide hel
 have HOK := hide hok
 have HIH := hide ih
 obtain ⟨g, o, rfl⟩ := in3 hin
 clear hel hok ih hfk hft hfl
 obtain ⟨bl0, o0, p0k, p0b, p0m, p0s, p0t, p0lo, p0hi, p0a, p0l, p0c, p0kid, hbl0, hx0, eight0, hk0⟩ := hin.kid (i := 0) (by omega)
 obtain ⟨rfl, rfl⟩ : g = bl0 ∧ o = o0 := by simpa using hbl0
 have EV0 := fun w' (kk : Below w.heap.size w w') => unhide HIH 0 es a9 c9 w'
 have HF0 := unhide HFK 0 (by omega)
 rw [hx0] at HF0
 have EH0 := hide (fun w' (kk : Below w.heap.size w w') => by have h := unhide HIH 0 es a9 c9 w'; rw [hx0] at h; exact h (hk0.below kk) HF0 (henv.below kk) (unhide HEL) (unhide HOK))
 rw [show o + 0 * 8 = o by omega] at eight0
 clear EV0 HF0 hbl0
 obtain ⟨bl1, o1, p1k, p1b, p1m, p1s, p1t, p1lo, p1hi, p1a, p1l, p1c, p1kid, hbl1, hx1, eight1, hk1⟩ := hin.kid (i := 1) (by omega)
 obtain ⟨rfl, rfl⟩ : g = bl1 ∧ o = o1 := by simpa using hbl1
 have EV1 := fun w' (kk : Below w.heap.size w w') => unhide HIH 1 es a9 c9 w'
 have HF1 := unhide HFK 1 (by omega)
 rw [hx1] at HF1
 have EH1 := hide (fun w' (kk : Below w.heap.size w w') => by have h := unhide HIH 1 es a9 c9 w'; rw [hx1] at h; exact h (hk1.below kk) HF1 (henv.below kk) (unhide HEL) (unhide HOK))
 rw [show o + 1 * 8 = o + 8 by omega] at eight1
 clear EV1 HF1 hbl1
 obtain ⟨bl2, o2, p2k, p2b, p2m, p2s, p2t, p2lo, p2hi, p2a, p2l, p2c, p2kid, hbl2, hx2, eight2, hk2⟩ := hin.kid (i := 2) (by omega)
 obtain ⟨rfl, rfl⟩ : g = bl2 ∧ o = o2 := by simpa using hbl2
 have EV2 := fun w' (kk : Below w.heap.size w w') => unhide HIH 2 es a9 c9 w'
 have HF2 := unhide HFK 2 (by omega)
 rw [hx2] at HF2
 have EH2 := hide (fun w' (kk : Below w.heap.size w w') => by have h := unhide HIH 2 es a9 c9 w'; rw [hx2] at h; exact h (hk2.below kk) HF2 (henv.below kk) (unhide HEL) (unhide HOK))
 rw [show o + 2 * 8 = o + 16 by omega] at eight2
 clear EV2 HF2 hbl2
 rw [hx0, hx1, hx2]
 generalize hR0 : evT (envT es) (XT.mk p0k p0b p0m p0s p0t p0lo p0hi p0a p0l p0c p0kid) = R0 at *
 generalize hR1 : evT (envT es) (XT.mk p1k p1b p1m p1s p1t p1lo p1hi p1a p1l p1c p1kid) = R1 at *
 generalize hR2 : evT (envT es) (XT.mk p2k p2b p2m p2s p2t p2lo p2hi p2a p2l p2c p2kid) = R2 at *
 obtain ⟨RX, RE⟩ := R0
 have b0 := bZ w
 have O0 := Own.new w 32
 have z0 : (w.alloc (Obj.cells #[.int .i64 0, .bool false, .int .i64 0, .int .i64 0, .string ⟨#[]⟩, .slice none 0 0] 32)).heap.size = w.heap.size + 1 := by simp
 have E0 := eight0
 have E1 := eight1
 have E2 := eight2
 obtain ⟨q0, q1, q2, q3, q4, q5, q6, q7, q8⟩ := id eight0
 clear hx0 hx1 hx2 hk0 hk1 hk2 hR0 hR1 hR2 hin henv HIH HFK eight0 eight1 eight2 HEL HOK
 dsimp only
 generalize hRES : (if RE = 0 then (if trV RX = true then R1 else R2) else ((nilV, RE) : VT × Int)) = RES
 have HRES := hide hRES
 clear hRES
 go_enter Tryz.func25, Tryz.ntmps25
 go_wp2_with fail
 refine (unhide EH0 _ b0).mono ?_
 rintro e w1 ⟨⟨v, rfl, T, rfl, hT, hTl, hTb⟩, k1⟩
 obtain ⟨ky, by', my, sy, ty, ay, ly, cy, kidy, rfl⟩ := hT.form
 dsimp only [VT.val] at *
 have O1 := O0.below k1
 have B1 := bstep b0 k1
 have z1 := k1.size
 rw [z0] at z1
 clear k1 O0 b0 q0 q1 q2 q3 q4 q5 q6 q7 q8 EH0
 have b2 := below1 w1 (Obj.cells #[.int .i64 ky, .bool by', .int .i64 my, .int .i64 sy, .string ty, .slice ay ly cy] 32)
 have O2 := O1.below b2
 have B2 := bstep B1 b2
 by_cases hE : RE = 0
 ·subst hE
  have hTR : trV RX = trB ky by' := by rw [← hTb]; rfl
  have HR := hide (show RES = if trB ky by' = true then R1 else R2 by rw [← unhide HRES, if_pos rfl, hTR])
  clear hTR hTb hTl hT HRES
  go_wp2_with fail
  refine (truth_any _ _ _ _ _ _ _ _ _).mono ?_
  rintro e w3 ⟨rfl, k3⟩
  have O3 := O2.below k3
  have B3 := bstep B2 k3
  have z3 := k3.size
  simp at z3
  clear k3 O2 B2 b2 O1 B1
  cases hc : trB ky by'
  ·have HRB := hide (show RES = R2 by rw [unhide HR, hc]; simp)
   obtain ⟨q0, q1, q2, q3, q4, q5, q6, q7, q8⟩ := XT.Eight.below E2 B3
   clear hc
   go_wp2_with fail
   refine (unhide EH2 _ B3).mono ?_
   rintro e w4 ⟨⟨v, rfl, T, rfl, hT, hTl, hTb⟩, k4⟩
   obtain ⟨kz, bz, mz, sz, tz, az, lz, cz, kidz, rfl⟩ := hT.form
   dsimp only [VT.val]
   have O4 := O3.below k4
   have B4 := bstep B3 k4
   have YI := hide hT
   have YL := hide hTl
   have YB := hide hTb
   clear k4 O3 q0 q1 q2 q3 q4 q5 q6 q7 q8 hT hTl hTb EH1 EH2
   obtain ⟨u0, t0, t1, t2, t3, t4, t5, f0, f1, f2, f3, f4, f5⟩ := Own.fl O4
   go_wp2_with fail
   refine bodyPost_ret (v := .tuple #[.agg #[.int .i64 kz, .bool bz, .int .i64 mz, .int .i64 sz, .string tz, .slice az lz cz], .int .i64 R2.2]) zR25t0t1t2t3t4t5 rfl ⟨?_, zBL⟩
   rw [unhide HRB]
   refine ⟨_, rfl, .mk kz bz mz sz tz az lz cz kidz, rfl, ?_, ?_, unhide YB⟩
   ·exact VT.In.kept (fun bl o _ hq => put_cell w4 w.heap.size 0 _ _ _ _ _ _ (by omega)) _ (unhide YI) (unhide YL)
   ·exact (unhide YL).weak (fun h hh => by omega)
  ·have HRB := hide (show RES = R1 by rw [unhide HR, hc]; simp)
   obtain ⟨q0, q1, q2, q3, q4, q5, q6, q7, q8⟩ := XT.Eight.below E1 B3
   clear hc
   go_wp2_with fail
   refine (unhide EH1 _ B3).mono ?_
   rintro e w4 ⟨⟨v, rfl, T, rfl, hT, hTl, hTb⟩, k4⟩
   obtain ⟨kz, bz, mz, sz, tz, az, lz, cz, kidz, rfl⟩ := hT.form
   dsimp only [VT.val]
   have O4 := O3.below k4
   have B4 := bstep B3 k4
   have YI := hide hT
   have YL := hide hTl
   have YB := hide hTb
   clear k4 O3 q0 q1 q2 q3 q4 q5 q6 q7 q8 hT hTl hTb EH1 EH2
   obtain ⟨u0, t0, t1, t2, t3, t4, t5, f0, f1, f2, f3, f4, f5⟩ := Own.fl O4
   go_wp2_with fail
   refine bodyPost_ret (v := .tuple #[.agg #[.int .i64 kz, .bool bz, .int .i64 mz, .int .i64 sz, .string tz, .slice az lz cz], .int .i64 R1.2]) zR25t0t1t2t3t4t5 rfl ⟨?_, zBL⟩
   rw [unhide HRB]
   refine ⟨_, rfl, .mk kz bz mz sz tz az lz cz kidz, rfl, ?_, ?_, unhide YB⟩
   ·exact VT.In.kept (fun bl o _ hq => put_cell w4 w.heap.size 0 _ _ _ _ _ _ (by omega)) _ (unhide YI) (unhide YL)
   ·exact (unhide YL).weak (fun h hh => by omega)
 ·have HRB := hide (show RES = (nilV, RE) by rw [← unhide HRES, if_neg hE])
  have e1 : (RE != 0) = true := by simpa using hE
  clear hE hT hTl hTb EH1 EH2
  obtain ⟨u0, t0, t1, t2, t3, t4, t5, f0, f1, f2, f3, f4, f5⟩ := Own.fl O1
  have hne : ¬ w.heap.size = w1.heap.size := by omega
  go_wp2_with fail
  exact bodyPost_ret (v := .tuple #[lfv 0 false 0 0 ⟨#[]⟩, .int .i64 RE]) (by simp [results, Tryz.results25, go_sem, lfv, t0, t1, t2, t3, t4, t5, u0, hne]) rfl ⟨by rw [unhide HRB]; exact nil_res _ _ _, zBL⟩
theorem eval_no (k : Int) (b : Bool) (m s : Int) (t : ByteArray) (lo hi : Bool) (a : Option Addr) (len cap : Nat) (a9 : Option Addr) (c9 n9 : Nat) (w : World) (ht : t.size ≤ maxLen) (hs : souB k m s t len = false) :
  Calls Tryz.prog 11 #[.agg #[.int .i64 k, .bool b, .int .i64 m, .int .i64 s, .string t, .bool lo, .bool hi, .slice a len cap], .slice a9 n9 c9] w fun e w' => EvRes w.heap.size (nilV, 1) e w' ∧ Below w.heap.size w w' := by
 have BT := boxesX w k b m s t lo hi a len cap
 have SO := hide (fun w => sound_any k b m s t lo hi a len cap w ht)
 have HS := hide hs
 clear ht hs
 go_enter Tryz.func11, Tryz.ntmps11
 go_wp2_with fail
 generalize ((w.alloc (Obj.cells #[.int .i64 k, .bool b, .int .i64 m, .int .i64 s, .string t, .bool lo, .bool hi, .slice a len cap] 26)).alloc (Obj.cells #[.int .i64 0, .bool false, .int .i64 0, .int .i64 0, .string ⟨#[]⟩, .slice none 0 0] 32)) = V at *
 obtain ⟨X0, O0, B0, z0⟩ := BT
 obtain ⟨x0, x1, x2, x3, x4, x5, x6, x7, x8⟩ := id X0
 simp only [Nat.zero_add] at x1 x2 x3 x4 x5 x6 x7 x8
 refine (unhide SO _).mono ?_
 rintro e w1 ⟨rfl, k1⟩
 rw [unhide HS]
 have X1 := XT.Eight.below X0 k1
 have O1 := O0.below k1
 have B1 := bstep B0 k1
 have z1 := k1.size
 rw [z0] at z1
 clear X0 O0 B0 k1 x0 x1 x2 x3 x4 x5 x6 x7 x8
 obtain ⟨x0, x1, x2, x3, x4, x5, x6, x7, x8⟩ := id X1
 simp only [Nat.zero_add] at x1 x2 x3 x4 x5 x6 x7 x8
 obtain ⟨u0, t0, t1, t2, t3, t4, t5, f0, f1, f2, f3, f4, f5⟩ := Own.fl O1
 try unfold lfv
 go_wp2_with fail
 refine bodyPost_ret (v := .tuple #[lfv 0 false 0 0 ⟨#[]⟩, .int .i64 1]) zR11lt0t1t2t3t4t5 rfl ⟨?_, zBL⟩
 exact nil_res _ _ _
theorem eval_1 (b : Bool) (m s : Int) (t : ByteArray) (lo hi : Bool) (a : Option Addr) (len cap : Nat) (a9 : Option Addr) (c9 n9 : Nat) (w : World) (ht : t.size ≤ maxLen) (hs : souB 1 m s t len = true) :
  Calls Tryz.prog 11 #[.agg #[.int .i64 1, .bool b, .int .i64 m, .int .i64 s, .string t, .bool lo, .bool hi, .slice a len cap], .slice a9 n9 c9] w fun e w' => EvRes w.heap.size (nilV, 0) e w' ∧ Below w.heap.size w w' := by
 have BT := boxesX w 1 b m s t lo hi a len cap
 have SO := hide (fun w => sound_any 1 b m s t lo hi a len cap w ht)
 have HS := hide hs
 clear ht hs
 have RES := hide (fun w' => lf_res (X := (nilV, 0)) (lf_nil) (ok_nil) w.heap.size w')
 go_enter Tryz.func11, Tryz.ntmps11
 go_wp2_with fail
 generalize ((w.alloc (Obj.cells #[.int .i64 1, .bool b, .int .i64 m, .int .i64 s, .string t, .bool lo, .bool hi, .slice a len cap] 26)).alloc (Obj.cells #[.int .i64 0, .bool false, .int .i64 0, .int .i64 0, .string ⟨#[]⟩, .slice none 0 0] 32)) = V at *
 obtain ⟨X0, O0, B0, z0⟩ := BT
 obtain ⟨x0, x1, x2, x3, x4, x5, x6, x7, x8⟩ := id X0
 simp only [Nat.zero_add] at x1 x2 x3 x4 x5 x6 x7 x8
 refine (unhide SO _).mono ?_
 rintro e w1 ⟨rfl, k1⟩
 rw [unhide HS]
 have X1 := XT.Eight.below X0 k1
 have O1 := O0.below k1
 have B1 := bstep B0 k1
 have z1 := k1.size
 rw [z0] at z1
 clear X0 O0 B0 k1 x0 x1 x2 x3 x4 x5 x6 x7 x8
 obtain ⟨x0, x1, x2, x3, x4, x5, x6, x7, x8⟩ := id X1
 simp only [Nat.zero_add] at x1 x2 x3 x4 x5 x6 x7 x8
 go_wp2_with fail
 refine (plain_1 _ _ _ _ _ _ _ _ _ _).mono ?_
 rintro e w2 ⟨rfl, k2⟩
 have O2 := O1.below k2
 have B2 := bstep B1 k2
 clear k2 O1 B1 x0 x1 x2 x3 x4 x5 x6 x7 x8 X1
 obtain ⟨u0, t0, t1, t2, t3, t4, t5, f0, f1, f2, f3, f4, f5⟩ := Own.fl O2
 try unfold lfv
 go_wp2_with fail
 refine bodyPost_ret (v := .tuple #[lfv 0 false 0 0 ⟨#[]⟩, .int .i64 0]) zR11lt0t1t2t3t4t5 rfl ⟨?_, zBL⟩
 exact unhide RES _
theorem eval_2 (b : Bool) (m s : Int) (t : ByteArray) (lo hi : Bool) (a : Option Addr) (len cap : Nat) (a9 : Option Addr) (c9 n9 : Nat) (w : World) (ht : t.size ≤ maxLen) (hs : souB 2 m s t len = true) :
  Calls Tryz.prog 11 #[.agg #[.int .i64 2, .bool b, .int .i64 m, .int .i64 s, .string t, .bool lo, .bool hi, .slice a len cap], .slice a9 n9 c9] w fun e w' => EvRes w.heap.size (booV b, 0) e w' ∧ Below w.heap.size w w' := by
 have BT := boxesX w 2 b m s t lo hi a len cap
 have SO := hide (fun w => sound_any 2 b m s t lo hi a len cap w ht)
 have HS := hide hs
 clear ht hs
 have RES := hide (fun w' => lf_res (X := (booV b, 0)) (lf_boo b) (ok_boo b) w.heap.size w')
 go_enter Tryz.func11, Tryz.ntmps11
 go_wp2_with fail
 generalize ((w.alloc (Obj.cells #[.int .i64 2, .bool b, .int .i64 m, .int .i64 s, .string t, .bool lo, .bool hi, .slice a len cap] 26)).alloc (Obj.cells #[.int .i64 0, .bool false, .int .i64 0, .int .i64 0, .string ⟨#[]⟩, .slice none 0 0] 32)) = V at *
 obtain ⟨X0, O0, B0, z0⟩ := BT
 obtain ⟨x0, x1, x2, x3, x4, x5, x6, x7, x8⟩ := id X0
 simp only [Nat.zero_add] at x1 x2 x3 x4 x5 x6 x7 x8
 refine (unhide SO _).mono ?_
 rintro e w1 ⟨rfl, k1⟩
 rw [unhide HS]
 have X1 := XT.Eight.below X0 k1
 have O1 := O0.below k1
 have B1 := bstep B0 k1
 have z1 := k1.size
 rw [z0] at z1
 clear X0 O0 B0 k1 x0 x1 x2 x3 x4 x5 x6 x7 x8
 obtain ⟨x0, x1, x2, x3, x4, x5, x6, x7, x8⟩ := id X1
 simp only [Nat.zero_add] at x1 x2 x3 x4 x5 x6 x7 x8
 go_wp2_with fail
 refine (plain_2 _ _ _ _ _ _ _ _ _ _).mono ?_
 rintro e w2 ⟨rfl, k2⟩
 have O2 := O1.below k2
 have B2 := bstep B1 k2
 clear k2 O1 B1 x0 x1 x2 x3 x4 x5 x6 x7 x8 X1
 obtain ⟨u0, t0, t1, t2, t3, t4, t5, f0, f1, f2, f3, f4, f5⟩ := Own.fl O2
 try unfold lfv
 go_wp2_with fail
 refine bodyPost_ret (v := .tuple #[lfv 1 b 0 0 ⟨#[]⟩, .int .i64 0]) zR11lt0t1t2t3t4t5 rfl ⟨?_, zBL⟩
 exact unhide RES _
theorem eval_3 (b : Bool) (m s : Int) (t : ByteArray) (lo hi : Bool) (a : Option Addr) (len cap : Nat) (a9 : Option Addr) (c9 n9 : Nat) (w : World) (ht : t.size ≤ maxLen) (hs : souB 3 m s t len = true) :
  Calls Tryz.prog 11 #[.agg #[.int .i64 3, .bool b, .int .i64 m, .int .i64 s, .string t, .bool lo, .bool hi, .slice a len cap], .slice a9 n9 c9] w fun e w' => EvRes w.heap.size (numV m s, 0) e w' ∧ Below w.heap.size w w' := by
 have BT := boxesX w 3 b m s t lo hi a len cap
 have SO := hide (fun w => sound_any 3 b m s t lo hi a len cap w ht)
 have HS := hide hs
 clear ht hs
 have RES := hide (fun w' => lf_res (X := (numV m s, 0)) (lf_num m s) (ok_num (by simpa [souB] using unhide HS)) w.heap.size w')
 go_enter Tryz.func11, Tryz.ntmps11
 go_wp2_with fail
 generalize ((w.alloc (Obj.cells #[.int .i64 3, .bool b, .int .i64 m, .int .i64 s, .string t, .bool lo, .bool hi, .slice a len cap] 26)).alloc (Obj.cells #[.int .i64 0, .bool false, .int .i64 0, .int .i64 0, .string ⟨#[]⟩, .slice none 0 0] 32)) = V at *
 obtain ⟨X0, O0, B0, z0⟩ := BT
 obtain ⟨x0, x1, x2, x3, x4, x5, x6, x7, x8⟩ := id X0
 simp only [Nat.zero_add] at x1 x2 x3 x4 x5 x6 x7 x8
 refine (unhide SO _).mono ?_
 rintro e w1 ⟨rfl, k1⟩
 rw [unhide HS]
 have X1 := XT.Eight.below X0 k1
 have O1 := O0.below k1
 have B1 := bstep B0 k1
 have z1 := k1.size
 rw [z0] at z1
 clear X0 O0 B0 k1 x0 x1 x2 x3 x4 x5 x6 x7 x8
 obtain ⟨x0, x1, x2, x3, x4, x5, x6, x7, x8⟩ := id X1
 simp only [Nat.zero_add] at x1 x2 x3 x4 x5 x6 x7 x8
 go_wp2_with fail
 refine (plain_3 _ _ _ _ _ _ _ _ _ _).mono ?_
 rintro e w2 ⟨rfl, k2⟩
 have O2 := O1.below k2
 have B2 := bstep B1 k2
 clear k2 O1 B1 x0 x1 x2 x3 x4 x5 x6 x7 x8 X1
 obtain ⟨u0, t0, t1, t2, t3, t4, t5, f0, f1, f2, f3, f4, f5⟩ := Own.fl O2
 try unfold lfv
 go_wp2_with fail
 refine bodyPost_ret (v := .tuple #[lfv 2 false m s ⟨#[]⟩, .int .i64 0]) zR11lt0t1t2t3t4t5 rfl ⟨?_, zBL⟩
 exact unhide RES _
theorem eval_4 (b : Bool) (m s : Int) (t : ByteArray) (lo hi : Bool) (a : Option Addr) (len cap : Nat) (a9 : Option Addr) (c9 n9 : Nat) (w : World) (ht : t.size ≤ maxLen) (hs : souB 4 m s t len = true) :
  Calls Tryz.prog 11 #[.agg #[.int .i64 4, .bool b, .int .i64 m, .int .i64 s, .string t, .bool lo, .bool hi, .slice a len cap], .slice a9 n9 c9] w fun e w' => EvRes w.heap.size (texV t, 0) e w' ∧ Below w.heap.size w w' := by
 have BT := boxesX w 4 b m s t lo hi a len cap
 have SO := hide (fun w => sound_any 4 b m s t lo hi a len cap w ht)
 have HS := hide hs
 clear ht hs
 have RES := hide (fun w' => lf_res (X := (texV t, 0)) (lf_tex t) ((by rw [tex_ok]; simpa [souB] using unhide HS)) w.heap.size w')
 go_enter Tryz.func11, Tryz.ntmps11
 go_wp2_with fail
 generalize ((w.alloc (Obj.cells #[.int .i64 4, .bool b, .int .i64 m, .int .i64 s, .string t, .bool lo, .bool hi, .slice a len cap] 26)).alloc (Obj.cells #[.int .i64 0, .bool false, .int .i64 0, .int .i64 0, .string ⟨#[]⟩, .slice none 0 0] 32)) = V at *
 obtain ⟨X0, O0, B0, z0⟩ := BT
 obtain ⟨x0, x1, x2, x3, x4, x5, x6, x7, x8⟩ := id X0
 simp only [Nat.zero_add] at x1 x2 x3 x4 x5 x6 x7 x8
 refine (unhide SO _).mono ?_
 rintro e w1 ⟨rfl, k1⟩
 rw [unhide HS]
 have X1 := XT.Eight.below X0 k1
 have O1 := O0.below k1
 have B1 := bstep B0 k1
 have z1 := k1.size
 rw [z0] at z1
 clear X0 O0 B0 k1 x0 x1 x2 x3 x4 x5 x6 x7 x8
 obtain ⟨x0, x1, x2, x3, x4, x5, x6, x7, x8⟩ := id X1
 simp only [Nat.zero_add] at x1 x2 x3 x4 x5 x6 x7 x8
 go_wp2_with fail
 refine (plain_4 _ _ _ _ _ _ _ _ _ _).mono ?_
 rintro e w2 ⟨rfl, k2⟩
 have O2 := O1.below k2
 have B2 := bstep B1 k2
 clear k2 O1 B1 x0 x1 x2 x3 x4 x5 x6 x7 x8 X1
 obtain ⟨u0, t0, t1, t2, t3, t4, t5, f0, f1, f2, f3, f4, f5⟩ := Own.fl O2
 try unfold lfv
 go_wp2_with fail
 refine bodyPost_ret (v := .tuple #[lfv 3 false 0 0 t, .int .i64 0]) zR11lt0t1t2t3t4t5 rfl ⟨?_, zBL⟩
 exact unhide RES _
theorem eval_5 (b : Bool) (m s : Int) (t : ByteArray) (lo hi : Bool) (a : Option Addr) (len cap : Nat) (a9 : Option Addr) (c9 n9 : Nat) (w : World) (ht : t.size ≤ maxLen) (hs : souB 5 m s t len = true) (es : List (ByteArray × VT)) (hn9 : n9 = es.length) (henv : EnvIn w a9 es) (hel : es.length ≤ maxLen) (hok : ∀ e ∈ es, e.2.okB 2 = true) :
  Calls Tryz.prog 11 #[.agg #[.int .i64 5, .bool b, .int .i64 m, .int .i64 s, .string t, .bool lo, .bool hi, .slice a len cap], .slice a9 n9 c9] w fun e w' => EvRes w.heap.size (lookT (envT es) (XT.tl t), 0) e w' ∧ Below w.heap.size w w' := by
 have BT := boxesX w 5 b m s t lo hi a len cap
 have SO := hide (fun w => sound_any 5 b m s t lo hi a len cap w ht)
 have HS := hide hs
 clear ht hs
 subst hn9
 have LK := hide (fun w' (kk : Below w.heap.size w w') => look_any t a9 c9 es w' (henv.below kk) hel hok)
 clear henv hel hok
 generalize lookT (envT es) (XT.tl t) = R at *
 go_enter Tryz.func11, Tryz.ntmps11
 go_wp2_with fail
 generalize ((w.alloc (Obj.cells #[.int .i64 5, .bool b, .int .i64 m, .int .i64 s, .string t, .bool lo, .bool hi, .slice a len cap] 26)).alloc (Obj.cells #[.int .i64 0, .bool false, .int .i64 0, .int .i64 0, .string ⟨#[]⟩, .slice none 0 0] 32)) = V at *
 obtain ⟨X0, O0, B0, z0⟩ := BT
 obtain ⟨x0, x1, x2, x3, x4, x5, x6, x7, x8⟩ := id X0
 simp only [Nat.zero_add] at x1 x2 x3 x4 x5 x6 x7 x8
 refine (unhide SO _).mono ?_
 rintro e w1 ⟨rfl, k1⟩
 rw [unhide HS]
 have X1 := XT.Eight.below X0 k1
 have O1 := O0.below k1
 have B1 := bstep B0 k1
 have z1 := k1.size
 rw [z0] at z1
 clear X0 O0 B0 k1 x0 x1 x2 x3 x4 x5 x6 x7 x8
 obtain ⟨x0, x1, x2, x3, x4, x5, x6, x7, x8⟩ := id X1
 simp only [Nat.zero_add] at x1 x2 x3 x4 x5 x6 x7 x8
 go_wp2_with fail
 refine (unhide LK _ B1).mono ?_
 rintro e w2 ⟨⟨v, rfl, T, rfl, hT, hTl, hTb⟩, k2⟩
 have O2 := O1.below k2
 have B2 := bstep B1 k2
 clear k2 O1 x0 x1 x2 x3 x4 x5 x6 x7 x8 X1
 obtain ⟨kz, bz, mz, sz, tz, az, lz, cz, kidz, rfl⟩ := hT.form
 dsimp only [VT.val]
 have YI := hide hT
 have YL := hide hTl
 have YB := hide hTb
 clear hT hTl hTb
 obtain ⟨u0, t0, t1, t2, t3, t4, t5, f0, f1, f2, f3, f4, f5⟩ := Own.fl O2
 go_wp2_with fail
 refine bodyPost_ret (v := .tuple #[.agg #[.int .i64 kz, .bool bz, .int .i64 mz, .int .i64 sz, .string tz, .slice az lz cz], .int .i64 0]) zR11t0t1t2t3t4t5 rfl ⟨?_, zBL⟩
 try rw [unhide HRB]
 refine ⟨_, rfl, .mk kz bz mz sz tz az lz cz kidz, rfl, ?_, ?_, unhide YB⟩
 ·exact VT.In.kept (fun bl o _ hq => put_cell w2 (w.heap.size + 1) 0 _ _ _ _ _ _ (by omega)) _ (unhide YI) (unhide YL)
 ·exact (unhide YL).weak (fun h hh => by omega)
theorem eval_8 (b : Bool) (m s : Int) (t : ByteArray) (lo hi : Bool) (a : Option Addr) (len cap : Nat) (a9 : Option Addr) (c9 n9 : Nat) (w : World) (ht : t.size ≤ maxLen) (hs : souB 8 m s t len = true) (es : List (ByteArray × VT)) (hn9 : n9 = es.length) (henv : EnvIn w a9 es) (hel : es.length ≤ maxLen) (hok : ∀ e ∈ es, e.2.okB 2 = true) (kid : Nat → XT) (ih : ∀ i, EvOf (kid i)) (hin : (XT.mk 8 b m s t lo hi a len cap kid).In (fun _ => True) w) (hfit : fitX (XT.mk 8 b m s t lo hi a len cap kid)) :
  Calls Tryz.prog 11 #[.agg #[.int .i64 8, .bool b, .int .i64 m, .int .i64 s, .string t, .bool lo, .bool hi, .slice a len cap], .slice a9 n9 c9] w fun e w' => EvRes w.heap.size (if (evT (envT es) (kid 0)).2 = 0 then (if trV (evT (envT es) (kid 0)).1 = true then evT (envT es) (kid 1) else evT (envT es) (kid 2)) else (nilV, (evT (envT es) (kid 0)).2)) e w' ∧ Below w.heap.size w w' := by
 have BT := boxesX w 8 b m s t lo hi a len cap
 have SO := hide (fun w => sound_any 8 b m s t lo hi a len cap w ht)
 have HS := hide hs
 clear ht hs
 subst hn9
 obtain rfl : len = 3 := by simpa [souB] using unhide HS
 have CH := hide (fun w' (kk : Below w.heap.size w w') => choose_any 8 b m s t lo hi a cap kid ih es a9 c9 w' (hin.below kk) hfit (henv.below kk) hel hok)
 clear henv hel hok hin hfit
 generalize (if (evT (envT es) (kid 0)).2 = 0 then (if trV (evT (envT es) (kid 0)).1 = true then evT (envT es) (kid 1) else evT (envT es) (kid 2)) else (nilV, (evT (envT es) (kid 0)).2)) = R at *
 go_enter Tryz.func11, Tryz.ntmps11
 go_wp2_with fail
 generalize ((w.alloc (Obj.cells #[.int .i64 8, .bool b, .int .i64 m, .int .i64 s, .string t, .bool lo, .bool hi, .slice a 3 cap] 26)).alloc (Obj.cells #[.int .i64 0, .bool false, .int .i64 0, .int .i64 0, .string ⟨#[]⟩, .slice none 0 0] 32)) = V at *
 obtain ⟨X0, O0, B0, z0⟩ := BT
 obtain ⟨x0, x1, x2, x3, x4, x5, x6, x7, x8⟩ := id X0
 simp only [Nat.zero_add] at x1 x2 x3 x4 x5 x6 x7 x8
 refine (unhide SO _).mono ?_
 rintro e w1 ⟨rfl, k1⟩
 rw [unhide HS]
 have X1 := XT.Eight.below X0 k1
 have O1 := O0.below k1
 have B1 := bstep B0 k1
 have z1 := k1.size
 rw [z0] at z1
 clear X0 O0 B0 k1 x0 x1 x2 x3 x4 x5 x6 x7 x8
 obtain ⟨x0, x1, x2, x3, x4, x5, x6, x7, x8⟩ := id X1
 simp only [Nat.zero_add] at x1 x2 x3 x4 x5 x6 x7 x8
 go_wp2_with fail
 refine (unhide CH _ B1).mono ?_
 rintro e w2 ⟨⟨v, rfl, T, rfl, hT, hTl, hTb⟩, k2⟩
 have O2 := O1.below k2
 have B2 := bstep B1 k2
 clear k2 O1 x0 x1 x2 x3 x4 x5 x6 x7 x8 X1
 obtain ⟨kz, bz, mz, sz, tz, az, lz, cz, kidz, rfl⟩ := hT.form
 dsimp only [VT.val]
 have YI := hide hT
 have YL := hide hTl
 have YB := hide hTb
 clear hT hTl hTb
 obtain ⟨u0, t0, t1, t2, t3, t4, t5, f0, f1, f2, f3, f4, f5⟩ := Own.fl O2
 go_wp2_with fail
 refine bodyPost_ret (v := .tuple #[.agg #[.int .i64 kz, .bool bz, .int .i64 mz, .int .i64 sz, .string tz, .slice az lz cz], .int .i64 R.2]) zR11t0t1t2t3t4t5 rfl ⟨?_, zBL⟩
 try rw [unhide HRB]
 refine ⟨_, rfl, .mk kz bz mz sz tz az lz cz kidz, rfl, ?_, ?_, unhide YB⟩
 ·exact VT.In.kept (fun bl o _ hq => put_cell w2 (w.heap.size + 1) 0 _ _ _ _ _ _ (by omega)) _ (unhide YI) (unhide YL)
 ·exact (unhide YL).weak (fun h hh => by omega)
theorem eval_6 (b : Bool) (m s : Int) (t : ByteArray) (lo hi : Bool) (a : Option Addr) (len cap : Nat) (a9 : Option Addr) (c9 n9 : Nat) (w : World) (ht : t.size ≤ maxLen) (hs : souB 6 m s t len = true) (es : List (ByteArray × VT)) (hn9 : n9 = es.length) (henv : EnvIn w a9 es) (hel : es.length ≤ maxLen) (hok : ∀ e ∈ es, e.2.okB 2 = true) (kid : Nat → XT) (ih : ∀ i, EvOf (kid i)) (hin : (XT.mk 6 b m s t lo hi a len cap kid).In (fun _ => True) w) (hfit : fitX (XT.mk 6 b m s t lo hi a len cap kid)) :
  Calls Tryz.prog 11 #[.agg #[.int .i64 6, .bool b, .int .i64 m, .int .i64 s, .string t, .bool lo, .bool hi, .slice a len cap], .slice a9 n9 c9] w fun e w' => EvRes w.heap.size (if (kidsT (fun i => evT (envT es) (kid i)) len).2 = 0 then joinT 6 t lo hi (kidsT (fun i => evT (envT es) (kid i)) len).1 else (nilV, (kidsT (fun i => evT (envT es) (kid i)) len).2)) e w' ∧ Below w.heap.size w w' := by
 have BT := boxesX w 6 b m s t lo hi a len cap
 have SO := hide (fun w => sound_any 6 b m s t lo hi a len cap w ht)
 have HS := hide hs
 clear ht hs
 subst hn9
 obtain rfl : len = 2 := by simpa [souB] using unhide HS
 have EC := hide (fun w' (kk : Below w.heap.size w w') => each_any 6 b m s t lo hi a 2 cap kid ih es a9 c9 w' (hin.below kk) hfit (henv.below kk) hel hok)
 have HKO := hide (kids_ok (f := fun i => evT (envT es) (kid i)) (n := 2) (fun i _ => ok_ev (env_ok hok) (kid i)))
 have HKL := hide (fun h => kids_len (f := fun i => evT (envT es) (kid i)) (n := 2) h)
 clear henv hel hok hin hfit ih
 generalize kidsT (fun i => evT (envT es) (kid i)) 2 = R at *
 obtain ⟨RL, RE⟩ := R
 dsimp only at *
 generalize hRES : (if RE = 0 then joinT 6 t lo hi RL else ((nilV, RE) : VT × Int)) = RES
 have HRES := hide hRES
 clear hRES
 go_enter Tryz.func11, Tryz.ntmps11
 go_wp2_with fail
 generalize ((w.alloc (Obj.cells #[.int .i64 6, .bool b, .int .i64 m, .int .i64 s, .string t, .bool lo, .bool hi, .slice a 2 cap] 26)).alloc (Obj.cells #[.int .i64 0, .bool false, .int .i64 0, .int .i64 0, .string ⟨#[]⟩, .slice none 0 0] 32)) = V at *
 obtain ⟨X0, O0, B0, z0⟩ := BT
 obtain ⟨x0, x1, x2, x3, x4, x5, x6, x7, x8⟩ := id X0
 simp only [Nat.zero_add] at x1 x2 x3 x4 x5 x6 x7 x8
 refine (unhide SO _).mono ?_
 rintro e w1 ⟨rfl, k1⟩
 rw [unhide HS]
 have X1 := XT.Eight.below X0 k1
 have O1 := O0.below k1
 have B1 := bstep B0 k1
 have z1 := k1.size
 rw [z0] at z1
 clear X0 O0 B0 k1 x0 x1 x2 x3 x4 x5 x6 x7 x8
 obtain ⟨x0, x1, x2, x3, x4, x5, x6, x7, x8⟩ := id X1
 simp only [Nat.zero_add] at x1 x2 x3 x4 x5 x6 x7 x8
 go_wp2_with fail
 refine (unhide EC _ B1).mono ?_
 rintro e w2 ⟨hres, k2⟩
 have O2 := O1.below k2
 have B2 := bstep B1 k2
 have X2 := XT.Eight.below X1 k2
 have z2 := k2.size
 clear k2 O1 x0 x1 x2 x3 x4 x5 x6 x7 x8 X1 EC
 obtain ⟨x0, x1, x2, x3, x4, x5, x6, x7, x8⟩ := id X2
 simp only [Nat.zero_add] at x1 x2 x3 x4 x5 x6 x7 x8
 rcases hres with ⟨hE, rfl⟩ | ⟨hE, g, c, l, rfl, hrow, hlies, hmap⟩
 ·dsimp only at hE
  have HRB := hide (show RES = (nilV, RE) by rw [← unhide HRES, if_neg hE])
  have e1 : (RE != 0) = true := by simpa using hE
  clear hE
  obtain ⟨u0, t0, t1, t2, t3, t4, t5, f0, f1, f2, f3, f4, f5⟩ := Own.fl O2
  try unfold lfv
  go_wp2_with fail
  refine bodyPost_ret (v := .tuple #[lfv 0 false 0 0 ⟨#[]⟩, .int .i64 RE]) zR11lt0t1t2t3t4t5 rfl ⟨?_, zBL⟩
  rw [unhide HRB]
  exact nil_res _ _ _
 ·dsimp only at hE hmap
  subst hE
  have hll : l.length = 2 := by have h := congrArg List.length hmap; rw [List.length_map] at h; rw [h]; exact unhide HKL (by first | rfl | trivial)
  have hokl : ∀ v ∈ l, v.okB 2 = true := fun v hv => by
   rw [← VT.okB_bare]
   exact unhide HKO _ (by rw [← hmap]; exact List.mem_map_of_mem hv)
  clear HKO HKL
  match l, hll, hokl, hrow, hmap with
  | [x, y], _, hokl, hrow, hmap =>
   have hJ : joinT 6 t lo hi RL = binT (XT.tl t) x y := by rw [← hmap]; exact bin_bare (XT.tl t) x y
   have HRB := hide (show RES = binT (XT.tl t) x y by rw [← unhide HRES, if_pos rfl]; exact hJ)
   have JN := hide (join_6 g c x y b m s t lo hi a 2 cap w2 (w.heap.size + 2) (hokl x (by simp)) (hokl y (by simp)) hrow)
   clear hJ hmap hrow hokl hlies
   generalize binT (XT.tl t) x y = R at *
   go_wp2_with fail
   refine (unhide JN).mono ?_
   rintro e w3 ⟨⟨v, rfl, T, rfl, hT, hTl, hTb⟩, k3⟩
   have O3 := O2.below k3
   have B3 := bstep B2 k3
   clear k3 O2 x0 x1 x2 x3 x4 x5 x6 x7 x8 X2 JN
   obtain ⟨kz, bz, mz, sz, tz, az, lz, cz, kidz, rfl⟩ := hT.form
   dsimp only [VT.val]
   have YI := hide hT
   have YL := hide hTl
   have YB := hide hTb
   clear hT hTl hTb
   obtain ⟨u0, t0, t1, t2, t3, t4, t5, f0, f1, f2, f3, f4, f5⟩ := Own.fl O3
   go_wp2_with fail
   refine bodyPost_ret (v := .tuple #[.agg #[.int .i64 kz, .bool bz, .int .i64 mz, .int .i64 sz, .string tz, .slice az lz cz], .int .i64 R.2]) zR11t0t1t2t3t4t5 rfl ⟨?_, zBL⟩
   try rw [unhide HRB]
   refine ⟨_, rfl, .mk kz bz mz sz tz az lz cz kidz, rfl, ?_, ?_, unhide YB⟩
   ·exact VT.In.kept (fun bl o _ hq => put_cell w3 (w.heap.size + 1) 0 _ _ _ _ _ _ (by omega)) _ (unhide YI) (unhide YL)
   ·exact (unhide YL).weak (fun h hh => by omega)
theorem eval_7 (b : Bool) (m s : Int) (t : ByteArray) (lo hi : Bool) (a : Option Addr) (len cap : Nat) (a9 : Option Addr) (c9 n9 : Nat) (w : World) (ht : t.size ≤ maxLen) (hs : souB 7 m s t len = true) (es : List (ByteArray × VT)) (hn9 : n9 = es.length) (henv : EnvIn w a9 es) (hel : es.length ≤ maxLen) (hok : ∀ e ∈ es, e.2.okB 2 = true) (kid : Nat → XT) (ih : ∀ i, EvOf (kid i)) (hin : (XT.mk 7 b m s t lo hi a len cap kid).In (fun _ => True) w) (hfit : fitX (XT.mk 7 b m s t lo hi a len cap kid)) :
  Calls Tryz.prog 11 #[.agg #[.int .i64 7, .bool b, .int .i64 m, .int .i64 s, .string t, .bool lo, .bool hi, .slice a len cap], .slice a9 n9 c9] w fun e w' => EvRes w.heap.size (if (kidsT (fun i => evT (envT es) (kid i)) len).2 = 0 then joinT 7 t lo hi (kidsT (fun i => evT (envT es) (kid i)) len).1 else (nilV, (kidsT (fun i => evT (envT es) (kid i)) len).2)) e w' ∧ Below w.heap.size w w' := by
 have BT := boxesX w 7 b m s t lo hi a len cap
 have SO := hide (fun w => sound_any 7 b m s t lo hi a len cap w ht)
 have HS := hide hs
 clear ht hs
 subst hn9
 obtain rfl : len = 1 := by simpa [souB] using unhide HS
 have EC := hide (fun w' (kk : Below w.heap.size w w') => each_any 7 b m s t lo hi a 1 cap kid ih es a9 c9 w' (hin.below kk) hfit (henv.below kk) hel hok)
 have HKO := hide (kids_ok (f := fun i => evT (envT es) (kid i)) (n := 1) (fun i _ => ok_ev (env_ok hok) (kid i)))
 have HKL := hide (fun h => kids_len (f := fun i => evT (envT es) (kid i)) (n := 1) h)
 clear henv hel hok hin hfit ih
 generalize kidsT (fun i => evT (envT es) (kid i)) 1 = R at *
 obtain ⟨RL, RE⟩ := R
 dsimp only at *
 generalize hRES : (if RE = 0 then joinT 7 t lo hi RL else ((nilV, RE) : VT × Int)) = RES
 have HRES := hide hRES
 clear hRES
 go_enter Tryz.func11, Tryz.ntmps11
 go_wp2_with fail
 generalize ((w.alloc (Obj.cells #[.int .i64 7, .bool b, .int .i64 m, .int .i64 s, .string t, .bool lo, .bool hi, .slice a 1 cap] 26)).alloc (Obj.cells #[.int .i64 0, .bool false, .int .i64 0, .int .i64 0, .string ⟨#[]⟩, .slice none 0 0] 32)) = V at *
 obtain ⟨X0, O0, B0, z0⟩ := BT
 obtain ⟨x0, x1, x2, x3, x4, x5, x6, x7, x8⟩ := id X0
 simp only [Nat.zero_add] at x1 x2 x3 x4 x5 x6 x7 x8
 refine (unhide SO _).mono ?_
 rintro e w1 ⟨rfl, k1⟩
 rw [unhide HS]
 have X1 := XT.Eight.below X0 k1
 have O1 := O0.below k1
 have B1 := bstep B0 k1
 have z1 := k1.size
 rw [z0] at z1
 clear X0 O0 B0 k1 x0 x1 x2 x3 x4 x5 x6 x7 x8
 obtain ⟨x0, x1, x2, x3, x4, x5, x6, x7, x8⟩ := id X1
 simp only [Nat.zero_add] at x1 x2 x3 x4 x5 x6 x7 x8
 go_wp2_with fail
 refine (unhide EC _ B1).mono ?_
 rintro e w2 ⟨hres, k2⟩
 have O2 := O1.below k2
 have B2 := bstep B1 k2
 have X2 := XT.Eight.below X1 k2
 have z2 := k2.size
 clear k2 O1 x0 x1 x2 x3 x4 x5 x6 x7 x8 X1 EC
 obtain ⟨x0, x1, x2, x3, x4, x5, x6, x7, x8⟩ := id X2
 simp only [Nat.zero_add] at x1 x2 x3 x4 x5 x6 x7 x8
 rcases hres with ⟨hE, rfl⟩ | ⟨hE, g, c, l, rfl, hrow, hlies, hmap⟩
 ·dsimp only at hE
  have HRB := hide (show RES = (nilV, RE) by rw [← unhide HRES, if_neg hE])
  have e1 : (RE != 0) = true := by simpa using hE
  clear hE
  obtain ⟨u0, t0, t1, t2, t3, t4, t5, f0, f1, f2, f3, f4, f5⟩ := Own.fl O2
  try unfold lfv
  go_wp2_with fail
  refine bodyPost_ret (v := .tuple #[lfv 0 false 0 0 ⟨#[]⟩, .int .i64 RE]) zR11lt0t1t2t3t4t5 rfl ⟨?_, zBL⟩
  rw [unhide HRB]
  exact nil_res _ _ _
 ·dsimp only at hE hmap
  subst hE
  have hll : l.length = 1 := by have h := congrArg List.length hmap; rw [List.length_map] at h; rw [h]; exact unhide HKL (by first | rfl | trivial)
  have hokl : ∀ v ∈ l, v.okB 2 = true := fun v hv => by
   rw [← VT.okB_bare]
   exact unhide HKO _ (by rw [← hmap]; exact List.mem_map_of_mem hv)
  clear HKO HKL
  match l, hll, hokl, hrow, hmap with
  | [x], _, hokl, hrow, hmap =>
   have hJ : joinT 7 t lo hi RL = negT x := by rw [← hmap]; exact neg_bare x
   have HRB := hide (show RES = negT x by rw [← unhide HRES, if_pos rfl]; exact hJ)
   have JN := hide (join_7 g c x b m s t lo hi a 1 cap w2 (w.heap.size + 2) (hokl x (by simp)) hrow)
   clear hJ hmap hrow hokl hlies
   generalize negT x = R at *
   go_wp2_with fail
   refine (unhide JN).mono ?_
   rintro e w3 ⟨⟨v, rfl, T, rfl, hT, hTl, hTb⟩, k3⟩
   have O3 := O2.below k3
   have B3 := bstep B2 k3
   clear k3 O2 x0 x1 x2 x3 x4 x5 x6 x7 x8 X2 JN
   obtain ⟨kz, bz, mz, sz, tz, az, lz, cz, kidz, rfl⟩ := hT.form
   dsimp only [VT.val]
   have YI := hide hT
   have YL := hide hTl
   have YB := hide hTb
   clear hT hTl hTb
   obtain ⟨u0, t0, t1, t2, t3, t4, t5, f0, f1, f2, f3, f4, f5⟩ := Own.fl O3
   go_wp2_with fail
   refine bodyPost_ret (v := .tuple #[.agg #[.int .i64 kz, .bool bz, .int .i64 mz, .int .i64 sz, .string tz, .slice az lz cz], .int .i64 R.2]) zR11t0t1t2t3t4t5 rfl ⟨?_, zBL⟩
   try rw [unhide HRB]
   refine ⟨_, rfl, .mk kz bz mz sz tz az lz cz kidz, rfl, ?_, ?_, unhide YB⟩
   ·exact VT.In.kept (fun bl o _ hq => put_cell w3 (w.heap.size + 1) 0 _ _ _ _ _ _ (by omega)) _ (unhide YI) (unhide YL)
   ·exact (unhide YL).weak (fun h hh => by omega)
theorem eval_9 (b : Bool) (m s : Int) (t : ByteArray) (lo hi : Bool) (a : Option Addr) (len cap : Nat) (a9 : Option Addr) (c9 n9 : Nat) (w : World) (ht : t.size ≤ maxLen) (hs : souB 9 m s t len = true) (es : List (ByteArray × VT)) (hn9 : n9 = es.length) (henv : EnvIn w a9 es) (hel : es.length ≤ maxLen) (hok : ∀ e ∈ es, e.2.okB 2 = true) (kid : Nat → XT) (ih : ∀ i, EvOf (kid i)) (hin : (XT.mk 9 b m s t lo hi a len cap kid).In (fun _ => True) w) (hfit : fitX (XT.mk 9 b m s t lo hi a len cap kid)) :
  Calls Tryz.prog 11 #[.agg #[.int .i64 9, .bool b, .int .i64 m, .int .i64 s, .string t, .bool lo, .bool hi, .slice a len cap], .slice a9 n9 c9] w fun e w' => EvRes w.heap.size (if (kidsT (fun i => evT (envT es) (kid i)) len).2 = 0 then joinT 9 t lo hi (kidsT (fun i => evT (envT es) (kid i)) len).1 else (nilV, (kidsT (fun i => evT (envT es) (kid i)) len).2)) e w' ∧ Below w.heap.size w w' := by
 have BT := boxesX w 9 b m s t lo hi a len cap
 have SO := hide (fun w => sound_any 9 b m s t lo hi a len cap w ht)
 have HS := hide hs
 clear ht hs
 subst hn9
 have EC := hide (fun w' (kk : Below w.heap.size w w') => each_any 9 b m s t lo hi a len cap kid ih es a9 c9 w' (hin.below kk) hfit (henv.below kk) hel hok)
 have HKO := hide (kids_ok (f := fun i => evT (envT es) (kid i)) (n := len) (fun i _ => ok_ev (env_ok hok) (kid i)))
 have HKL := hide (fun h => kids_len (f := fun i => evT (envT es) (kid i)) (n := len) h)
 clear henv hel hok hin hfit ih
 generalize kidsT (fun i => evT (envT es) (kid i)) len = R at *
 obtain ⟨RL, RE⟩ := R
 dsimp only at *
 generalize hRES : (if RE = 0 then joinT 9 t lo hi RL else ((nilV, RE) : VT × Int)) = RES
 have HRES := hide hRES
 clear hRES
 go_enter Tryz.func11, Tryz.ntmps11
 go_wp2_with fail
 generalize ((w.alloc (Obj.cells #[.int .i64 9, .bool b, .int .i64 m, .int .i64 s, .string t, .bool lo, .bool hi, .slice a len cap] 26)).alloc (Obj.cells #[.int .i64 0, .bool false, .int .i64 0, .int .i64 0, .string ⟨#[]⟩, .slice none 0 0] 32)) = V at *
 obtain ⟨X0, O0, B0, z0⟩ := BT
 obtain ⟨x0, x1, x2, x3, x4, x5, x6, x7, x8⟩ := id X0
 simp only [Nat.zero_add] at x1 x2 x3 x4 x5 x6 x7 x8
 refine (unhide SO _).mono ?_
 rintro e w1 ⟨rfl, k1⟩
 rw [unhide HS]
 have X1 := XT.Eight.below X0 k1
 have O1 := O0.below k1
 have B1 := bstep B0 k1
 have z1 := k1.size
 rw [z0] at z1
 clear X0 O0 B0 k1 x0 x1 x2 x3 x4 x5 x6 x7 x8
 obtain ⟨x0, x1, x2, x3, x4, x5, x6, x7, x8⟩ := id X1
 simp only [Nat.zero_add] at x1 x2 x3 x4 x5 x6 x7 x8
 go_wp2_with fail
 refine (unhide EC _ B1).mono ?_
 rintro e w2 ⟨hres, k2⟩
 have O2 := O1.below k2
 have B2 := bstep B1 k2
 have X2 := XT.Eight.below X1 k2
 have z2 := k2.size
 clear k2 O1 x0 x1 x2 x3 x4 x5 x6 x7 x8 X1 EC
 obtain ⟨x0, x1, x2, x3, x4, x5, x6, x7, x8⟩ := id X2
 simp only [Nat.zero_add] at x1 x2 x3 x4 x5 x6 x7 x8
 rcases hres with ⟨hE, rfl⟩ | ⟨hE, g, c, l, rfl, hrow, hlies, hmap⟩
 ·dsimp only at hE
  have HRB := hide (show RES = (nilV, RE) by rw [← unhide HRES, if_neg hE])
  have e1 : (RE != 0) = true := by simpa using hE
  clear hE
  obtain ⟨u0, t0, t1, t2, t3, t4, t5, f0, f1, f2, f3, f4, f5⟩ := Own.fl O2
  try unfold lfv
  go_wp2_with fail
  refine bodyPost_ret (v := .tuple #[lfv 0 false 0 0 ⟨#[]⟩, .int .i64 RE]) zR11lt0t1t2t3t4t5 rfl ⟨?_, zBL⟩
  rw [unhide HRB]
  exact nil_res _ _ _
 ·dsimp only at hE hmap
  subst hE
  have hll : l.length = len := by have h := congrArg List.length hmap; rw [List.length_map] at h; rw [h]; exact unhide HKL (by first | rfl | trivial)
  have hokl : ∀ v ∈ l, v.okB 2 = true := fun v hv => by
   rw [← VT.okB_bare]
   exact unhide HKO _ (by rw [← hmap]; exact List.mem_map_of_mem hv)
  clear HKO HKL
  have hJ : joinT 9 t lo hi RL = lisT (l.map VT.bare) := by rw [← hmap]; exact rfl
  have HRB := hide (show RES = lisT (l.map VT.bare) by rw [← unhide HRES, if_pos rfl]; exact hJ)
  have JN := hide (join_9 g c l b m s t lo hi a len cap w2 (w.heap.size + 2) hrow (hlies.weak (fun h hh => by omega)) (by omega))
  clear hJ hmap hrow hokl hlies hll
  generalize lisT (l.map VT.bare) = R at *
  go_wp2_with fail
  refine (unhide JN).mono ?_
  rintro e w3 ⟨⟨v, rfl, T, rfl, hT, hTl, hTb⟩, k3⟩
  have O3 := O2.below k3
  have B3 := bstep B2 k3
  clear k3 O2 x0 x1 x2 x3 x4 x5 x6 x7 x8 X2 JN
  obtain ⟨kz, bz, mz, sz, tz, az, lz, cz, kidz, rfl⟩ := hT.form
  dsimp only [VT.val]
  have YI := hide hT
  have YL := hide hTl
  have YB := hide hTb
  clear hT hTl hTb
  obtain ⟨u0, t0, t1, t2, t3, t4, t5, f0, f1, f2, f3, f4, f5⟩ := Own.fl O3
  go_wp2_with fail
  refine bodyPost_ret (v := .tuple #[.agg #[.int .i64 kz, .bool bz, .int .i64 mz, .int .i64 sz, .string tz, .slice az lz cz], .int .i64 R.2]) zR11t0t1t2t3t4t5 rfl ⟨?_, zBL⟩
  try rw [unhide HRB]
  refine ⟨_, rfl, .mk kz bz mz sz tz az lz cz kidz, rfl, ?_, ?_, unhide YB⟩
  ·exact VT.In.kept (fun bl o _ hq => put_cell w3 (w.heap.size + 1) 0 _ _ _ _ _ _ (by omega)) _ (unhide YI) (unhide YL)
  ·exact (unhide YL).weak (fun h hh => by omega)
theorem eval_10 (b : Bool) (m s : Int) (t : ByteArray) (lo hi : Bool) (a : Option Addr) (len cap : Nat) (a9 : Option Addr) (c9 n9 : Nat) (w : World) (ht : t.size ≤ maxLen) (hs : souB 10 m s t len = true) (es : List (ByteArray × VT)) (hn9 : n9 = es.length) (henv : EnvIn w a9 es) (hel : es.length ≤ maxLen) (hok : ∀ e ∈ es, e.2.okB 2 = true) (kid : Nat → XT) (ih : ∀ i, EvOf (kid i)) (hin : (XT.mk 10 b m s t lo hi a len cap kid).In (fun _ => True) w) (hfit : fitX (XT.mk 10 b m s t lo hi a len cap kid)) :
  Calls Tryz.prog 11 #[.agg #[.int .i64 10, .bool b, .int .i64 m, .int .i64 s, .string t, .bool lo, .bool hi, .slice a len cap], .slice a9 n9 c9] w fun e w' => EvRes w.heap.size (if (kidsT (fun i => evT (envT es) (kid i)) len).2 = 0 then joinT 10 t lo hi (kidsT (fun i => evT (envT es) (kid i)) len).1 else (nilV, (kidsT (fun i => evT (envT es) (kid i)) len).2)) e w' ∧ Below w.heap.size w w' := by
 have BT := boxesX w 10 b m s t lo hi a len cap
 have SO := hide (fun w => sound_any 10 b m s t lo hi a len cap w ht)
 have HS := hide hs
 clear ht hs
 subst hn9
 have EC := hide (fun w' (kk : Below w.heap.size w w') => each_any 10 b m s t lo hi a len cap kid ih es a9 c9 w' (hin.below kk) hfit (henv.below kk) hel hok)
 have HKO := hide (kids_ok (f := fun i => evT (envT es) (kid i)) (n := len) (fun i _ => ok_ev (env_ok hok) (kid i)))
 have HKL := hide (fun h => kids_len (f := fun i => evT (envT es) (kid i)) (n := len) h)
 clear henv hel hok hin hfit ih
 generalize kidsT (fun i => evT (envT es) (kid i)) len = R at *
 obtain ⟨RL, RE⟩ := R
 dsimp only at *
 generalize hRES : (if RE = 0 then joinT 10 t lo hi RL else ((nilV, RE) : VT × Int)) = RES
 have HRES := hide hRES
 clear hRES
 go_enter Tryz.func11, Tryz.ntmps11
 go_wp2_with fail
 generalize ((w.alloc (Obj.cells #[.int .i64 10, .bool b, .int .i64 m, .int .i64 s, .string t, .bool lo, .bool hi, .slice a len cap] 26)).alloc (Obj.cells #[.int .i64 0, .bool false, .int .i64 0, .int .i64 0, .string ⟨#[]⟩, .slice none 0 0] 32)) = V at *
 obtain ⟨X0, O0, B0, z0⟩ := BT
 obtain ⟨x0, x1, x2, x3, x4, x5, x6, x7, x8⟩ := id X0
 simp only [Nat.zero_add] at x1 x2 x3 x4 x5 x6 x7 x8
 refine (unhide SO _).mono ?_
 rintro e w1 ⟨rfl, k1⟩
 rw [unhide HS]
 have X1 := XT.Eight.below X0 k1
 have O1 := O0.below k1
 have B1 := bstep B0 k1
 have z1 := k1.size
 rw [z0] at z1
 clear X0 O0 B0 k1 x0 x1 x2 x3 x4 x5 x6 x7 x8
 obtain ⟨x0, x1, x2, x3, x4, x5, x6, x7, x8⟩ := id X1
 simp only [Nat.zero_add] at x1 x2 x3 x4 x5 x6 x7 x8
 go_wp2_with fail
 refine (unhide EC _ B1).mono ?_
 rintro e w2 ⟨hres, k2⟩
 have O2 := O1.below k2
 have B2 := bstep B1 k2
 have X2 := XT.Eight.below X1 k2
 have z2 := k2.size
 clear k2 O1 x0 x1 x2 x3 x4 x5 x6 x7 x8 X1 EC
 obtain ⟨x0, x1, x2, x3, x4, x5, x6, x7, x8⟩ := id X2
 simp only [Nat.zero_add] at x1 x2 x3 x4 x5 x6 x7 x8
 rcases hres with ⟨hE, rfl⟩ | ⟨hE, g, c, l, rfl, hrow, hlies, hmap⟩
 ·dsimp only at hE
  have HRB := hide (show RES = (nilV, RE) by rw [← unhide HRES, if_neg hE])
  have e1 : (RE != 0) = true := by simpa using hE
  clear hE
  obtain ⟨u0, t0, t1, t2, t3, t4, t5, f0, f1, f2, f3, f4, f5⟩ := Own.fl O2
  try unfold lfv
  go_wp2_with fail
  refine bodyPost_ret (v := .tuple #[lfv 0 false 0 0 ⟨#[]⟩, .int .i64 RE]) zR11lt0t1t2t3t4t5 rfl ⟨?_, zBL⟩
  rw [unhide HRB]
  exact nil_res _ _ _
 ·dsimp only at hE hmap
  subst hE
  have hll : l.length = len := by have h := congrArg List.length hmap; rw [List.length_map] at h; rw [h]; exact unhide HKL (by first | rfl | trivial)
  have hokl : ∀ v ∈ l, v.okB 2 = true := fun v hv => by
   rw [← VT.okB_bare]
   exact unhide HKO _ (by rw [← hmap]; exact List.mem_map_of_mem hv)
  clear HKO HKL
  have hJ : joinT 10 t lo hi RL = callT (XT.tl t) l := by rw [← hmap]; exact call_bare (XT.tl t) l
  have HRB := hide (show RES = callT (XT.tl t) l by rw [← unhide HRES, if_pos rfl]; exact hJ)
  have JN := hide (join_10 g c l b m s t lo hi a len cap w2 (w.heap.size + 2) hokl hrow)
  clear hJ hmap hrow hokl hlies hll
  generalize callT (XT.tl t) l = R at *
  go_wp2_with fail
  refine (unhide JN).mono ?_
  rintro e w3 ⟨⟨v, rfl, T, rfl, hT, hTl, hTb⟩, k3⟩
  have O3 := O2.below k3
  have B3 := bstep B2 k3
  clear k3 O2 x0 x1 x2 x3 x4 x5 x6 x7 x8 X2 JN
  obtain ⟨kz, bz, mz, sz, tz, az, lz, cz, kidz, rfl⟩ := hT.form
  dsimp only [VT.val]
  have YI := hide hT
  have YL := hide hTl
  have YB := hide hTb
  clear hT hTl hTb
  obtain ⟨u0, t0, t1, t2, t3, t4, t5, f0, f1, f2, f3, f4, f5⟩ := Own.fl O3
  go_wp2_with fail
  refine bodyPost_ret (v := .tuple #[.agg #[.int .i64 kz, .bool bz, .int .i64 mz, .int .i64 sz, .string tz, .slice az lz cz], .int .i64 R.2]) zR11t0t1t2t3t4t5 rfl ⟨?_, zBL⟩
  try rw [unhide HRB]
  refine ⟨_, rfl, .mk kz bz mz sz tz az lz cz kidz, rfl, ?_, ?_, unhide YB⟩
  ·exact VT.In.kept (fun bl o _ hq => put_cell w3 (w.heap.size + 1) 0 _ _ _ _ _ _ (by omega)) _ (unhide YI) (unhide YL)
  ·exact (unhide YL).weak (fun h hh => by omega)
theorem eval_11 (b : Bool) (m s : Int) (t : ByteArray) (lo hi : Bool) (a : Option Addr) (len cap : Nat) (a9 : Option Addr) (c9 n9 : Nat) (w : World) (ht : t.size ≤ maxLen) (hs : souB 11 m s t len = true) (es : List (ByteArray × VT)) (hn9 : n9 = es.length) (henv : EnvIn w a9 es) (hel : es.length ≤ maxLen) (hok : ∀ e ∈ es, e.2.okB 2 = true) (kid : Nat → XT) (ih : ∀ i, EvOf (kid i)) (hin : (XT.mk 11 b m s t lo hi a len cap kid).In (fun _ => True) w) (hfit : fitX (XT.mk 11 b m s t lo hi a len cap kid)) :
  Calls Tryz.prog 11 #[.agg #[.int .i64 11, .bool b, .int .i64 m, .int .i64 s, .string t, .bool lo, .bool hi, .slice a len cap], .slice a9 n9 c9] w fun e w' => EvRes w.heap.size (if (kidsT (fun i => evT (envT es) (kid i)) len).2 = 0 then joinT 11 t lo hi (kidsT (fun i => evT (envT es) (kid i)) len).1 else (nilV, (kidsT (fun i => evT (envT es) (kid i)) len).2)) e w' ∧ Below w.heap.size w w' := by
 have BT := boxesX w 11 b m s t lo hi a len cap
 have SO := hide (fun w => sound_any 11 b m s t lo hi a len cap w ht)
 have HS := hide hs
 clear ht hs
 subst hn9
 obtain rfl : len = 3 := by simpa [souB] using unhide HS
 have EC := hide (fun w' (kk : Below w.heap.size w w') => each_any 11 b m s t lo hi a 3 cap kid ih es a9 c9 w' (hin.below kk) hfit (henv.below kk) hel hok)
 have HKO := hide (kids_ok (f := fun i => evT (envT es) (kid i)) (n := 3) (fun i _ => ok_ev (env_ok hok) (kid i)))
 have HKL := hide (fun h => kids_len (f := fun i => evT (envT es) (kid i)) (n := 3) h)
 clear henv hel hok hin hfit ih
 generalize kidsT (fun i => evT (envT es) (kid i)) 3 = R at *
 obtain ⟨RL, RE⟩ := R
 dsimp only at *
 generalize hRES : (if RE = 0 then joinT 11 t lo hi RL else ((nilV, RE) : VT × Int)) = RES
 have HRES := hide hRES
 clear hRES
 go_enter Tryz.func11, Tryz.ntmps11
 go_wp2_with fail
 generalize ((w.alloc (Obj.cells #[.int .i64 11, .bool b, .int .i64 m, .int .i64 s, .string t, .bool lo, .bool hi, .slice a 3 cap] 26)).alloc (Obj.cells #[.int .i64 0, .bool false, .int .i64 0, .int .i64 0, .string ⟨#[]⟩, .slice none 0 0] 32)) = V at *
 obtain ⟨X0, O0, B0, z0⟩ := BT
 obtain ⟨x0, x1, x2, x3, x4, x5, x6, x7, x8⟩ := id X0
 simp only [Nat.zero_add] at x1 x2 x3 x4 x5 x6 x7 x8
 refine (unhide SO _).mono ?_
 rintro e w1 ⟨rfl, k1⟩
 rw [unhide HS]
 have X1 := XT.Eight.below X0 k1
 have O1 := O0.below k1
 have B1 := bstep B0 k1
 have z1 := k1.size
 rw [z0] at z1
 clear X0 O0 B0 k1 x0 x1 x2 x3 x4 x5 x6 x7 x8
 obtain ⟨x0, x1, x2, x3, x4, x5, x6, x7, x8⟩ := id X1
 simp only [Nat.zero_add] at x1 x2 x3 x4 x5 x6 x7 x8
 go_wp2_with fail
 refine (unhide EC _ B1).mono ?_
 rintro e w2 ⟨hres, k2⟩
 have O2 := O1.below k2
 have B2 := bstep B1 k2
 have X2 := XT.Eight.below X1 k2
 have z2 := k2.size
 clear k2 O1 x0 x1 x2 x3 x4 x5 x6 x7 x8 X1 EC
 obtain ⟨x0, x1, x2, x3, x4, x5, x6, x7, x8⟩ := id X2
 simp only [Nat.zero_add] at x1 x2 x3 x4 x5 x6 x7 x8
 rcases hres with ⟨hE, rfl⟩ | ⟨hE, g, c, l, rfl, hrow, hlies, hmap⟩
 ·dsimp only at hE
  have HRB := hide (show RES = (nilV, RE) by rw [← unhide HRES, if_neg hE])
  have e1 : (RE != 0) = true := by simpa using hE
  clear hE
  obtain ⟨u0, t0, t1, t2, t3, t4, t5, f0, f1, f2, f3, f4, f5⟩ := Own.fl O2
  try unfold lfv
  go_wp2_with fail
  refine bodyPost_ret (v := .tuple #[lfv 0 false 0 0 ⟨#[]⟩, .int .i64 RE]) zR11lt0t1t2t3t4t5 rfl ⟨?_, zBL⟩
  rw [unhide HRB]
  exact nil_res _ _ _
 ·dsimp only at hE hmap
  subst hE
  have hll : l.length = 3 := by have h := congrArg List.length hmap; rw [List.length_map] at h; rw [h]; exact unhide HKL (by first | rfl | trivial)
  have hokl : ∀ v ∈ l, v.okB 2 = true := fun v hv => by
   rw [← VT.okB_bare]
   exact unhide HKO _ (by rw [← hmap]; exact List.mem_map_of_mem hv)
  clear HKO HKL
  match l, hll, hokl, hrow, hmap with
  | [x, y, z], _, hokl, hrow, hmap =>
   have hJ : joinT 11 t lo hi RL = (inT lo hi x y z, 0) := by rw [← hmap]; exact by show (inT lo hi x.bare y.bare z.bare, (0 : Int)) = _; rw [in_bare]
   have HRB := hide (show RES = (inT lo hi x y z, 0) by rw [← unhide HRES, if_pos rfl]; exact hJ)
   have JN := hide (join_11 g c x y z b m s t lo hi a 3 cap w2 (w.heap.size + 2) (hokl x (by simp)) (hokl y (by simp)) (hokl z (by simp)) hrow)
   clear hJ hmap hrow hokl hlies
   go_wp2_with fail
   refine (unhide JN).mono ?_
   rintro e w3 ⟨⟨v, rfl, T, rfl, hT, hTl, hTb⟩, k3⟩
   have O3 := O2.below k3
   have B3 := bstep B2 k3
   clear k3 O2 x0 x1 x2 x3 x4 x5 x6 x7 x8 X2 JN
   obtain ⟨kz, bz, mz, sz, tz, az, lz, cz, kidz, rfl⟩ := hT.form
   dsimp only [VT.val]
   have YI := hide hT
   have YL := hide hTl
   have YB := hide hTb
   clear hT hTl hTb
   obtain ⟨u0, t0, t1, t2, t3, t4, t5, f0, f1, f2, f3, f4, f5⟩ := Own.fl O3
   go_wp2_with fail
   refine bodyPost_ret (v := .tuple #[.agg #[.int .i64 kz, .bool bz, .int .i64 mz, .int .i64 sz, .string tz, .slice az lz cz], .int .i64 0]) zR11t0t1t2t3t4t5 rfl ⟨?_, zBL⟩
   try rw [unhide HRB]
   refine ⟨_, rfl, .mk kz bz mz sz tz az lz cz kidz, rfl, ?_, ?_, unhide YB⟩
   ·exact VT.In.kept (fun bl o _ hq => put_cell w3 (w.heap.size + 1) 0 _ _ _ _ _ _ (by omega)) _ (unhide YI) (unhide YL)
   ·exact (unhide YL).weak (fun h hh => by omega)
theorem eval_any (x : XT) : EvOf x := by
 induction x with
 | none => intro es a9 c9 w h; exact absurd h (by simp [XT.In])
 | mk k b m s t lo hi a len cap kid ih =>
  intro es a9 c9 w hin hfit henv hel hok
  have ht := hfit.1
  show Calls Tryz.prog 11 #[.agg #[.int .i64 k, .bool b, .int .i64 m, .int .i64 s, .string t, .bool lo, .bool hi, .slice a len cap], .slice a9 es.length c9] w _
  unfold evT
  cases hs : souB k m s t len
  ·rw [if_pos rfl]; exact eval_no k b m s t lo hi a len cap a9 c9 _ w ht hs
  rw [if_neg (by simp)]
  by_cases h1 : k = 1
  ·subst h1; rw [if_pos rfl]; exact eval_1 b m s t lo hi a len cap a9 c9 _ w ht hs
  rw [if_neg h1]
  by_cases h2 : k = 2
  ·subst h2; rw [if_pos rfl]; exact eval_2 b m s t lo hi a len cap a9 c9 _ w ht hs
  rw [if_neg h2]
  by_cases h3 : k = 3
  ·subst h3; rw [if_pos rfl]; exact eval_3 b m s t lo hi a len cap a9 c9 _ w ht hs
  rw [if_neg h3]
  by_cases h4 : k = 4
  ·subst h4; rw [if_pos rfl]; exact eval_4 b m s t lo hi a len cap a9 c9 _ w ht hs
  rw [if_neg h4]
  by_cases h5 : k = 5
  ·subst h5; rw [if_pos rfl]; exact eval_5 b m s t lo hi a len cap a9 c9 _ w ht hs es rfl henv hel hok
  rw [if_neg h5]
  by_cases h8 : k = 8
  ·subst h8; rw [if_pos rfl]; exact eval_8 b m s t lo hi a len cap a9 c9 _ w ht hs es rfl henv hel hok kid ih hin hfit
  rw [if_neg h8]
  by_cases h6 : k = 6
  ·subst h6; exact eval_6 b m s t lo hi a len cap a9 c9 _ w ht hs es rfl henv hel hok kid ih hin hfit
  by_cases h7 : k = 7
  ·subst h7; exact eval_7 b m s t lo hi a len cap a9 c9 _ w ht hs es rfl henv hel hok kid ih hin hfit
  by_cases h9 : k = 9
  ·subst h9; exact eval_9 b m s t lo hi a len cap a9 c9 _ w ht hs es rfl henv hel hok kid ih hin hfit
  by_cases h10 : k = 10
  ·subst h10; exact eval_10 b m s t lo hi a len cap a9 c9 _ w ht hs es rfl henv hel hok kid ih hin hfit
  by_cases h11 : k = 11
  ·subst h11; exact eval_11 b m s t lo hi a len cap a9 c9 _ w ht hs es rfl henv hel hok kid ih hin hfit
  ·exfalso
   unfold souB at hs
   rw [if_neg (by omega), if_neg h3, if_neg h4, if_neg h6, if_neg h7, if_neg (by omega)] at hs
   cases hs
end Go.Proofs.YtfdimdjmnfdecaaGreat
