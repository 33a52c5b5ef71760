/- The walk of EvalTexts: any text's value, if it is an expression. -/
import Derived.Test.YtfdimdjmnfdecaaGreatKBN
set_option linter.unusedVariables false
set_option linter.unusedSimpArgs false
set_option maxHeartbeats 8000000
namespace Go.Proofs.YtfdimdjmnfdecaaGreat
open Go.RowKit
open VT (leaf mkV)
theorem env_lo {w : World} {a : Option Addr} {es : List (ByteArray × VT)} (h : EnvIn w a es) (hok : ∀ e ∈ es, e.2.okB 2 = true) : EnvLo w.heap.size es := fun e he => by
 obtain ⟨i, hi, rfl⟩ := List.getElem_of_mem he
 exact ⟨hok _ he, (h i hi).2.lies⟩
theorem ev_same {T : XT} {es : List (ByteArray × VT)} {X Y : VT} {w w' : World} (hx : X.In w) (hy : Y.In w') (bx : X.bare = (evT (envT es) T).1) (by' : Y.bare = (evT (envT es) T).1) (hok : ∀ e ∈ es, e.2.okB 2 = true) : X.same Y = true ∧ X.okB 2 = true :=
 ⟨VT.same_of_bare X Y hx hy (bx.trans by'.symm), by rw [← VT.okB_bare, bx]; exact ok_ev (env_ok hok) T⟩
set_option maxRecDepth 10000 in
theorem evalTexts_walk (l : ByteArray) (hl : l.size ≤ maxLen) (a9 : Option Addr) (c9 : Nat) (es : List (ByteArray × VT)) (w : World) (henv : EnvIn w a9 es) (hlen : es.length ≤ maxLen) (hnm : ∀ e ∈ es, e.1.size ≤ maxLen) :
  Calls Tryz.prog 4 #[.string l, .slice a9 es.length c9] w fun e w' => e = .returned (.bool true) ∧ Below w.heap.size w w' := by
 have MY := hide (emay_any a9 c9 es w henv hlen hnm)
 have hlm := hlen
 unfold maxLen at hlm hl
 have HEL := hide hlen
 clear hnm hlen
 by_cases h250 : 250 < (l.size : Int)
 ·go_enter Tryz.func4, Tryz.ntmps4
  go_wp2_with fail
  go_ret
  exact ⟨rfl, Below.refl _ _⟩
 have hl2 : (XT.tl l).length ≤ 900 := by rw [tl_size]; omega
 have P := hide (fun w => qparse_any (XT.tl l) (by omega) w)
 rw [ba_tl] at P
 have HSM := hide (sma_parse (XT.tl l) hl2)
 clear hl2
 generalize parseT (XT.tl l) = PT at *
 obtain ⟨X, n, E⟩ := PT
 dsimp only at HSM
 go_enter Tryz.func4, Tryz.ntmps4
 go_wp2_with fail
 refine (unhide MY).mono ?_
 rintro e w1 ⟨⟨r, rfl, hr⟩, b1⟩
 cases r
 ·go_wp2_with fail
  go_ret
  exact ⟨rfl, b1⟩
 have HOK := hide (hr rfl)
 have HLO := hide (env_lo henv (hr rfl))
 clear hr MY
 go_wp2_with fail
 refine (unhide P _).mono ?_
 rintro e w2 ⟨⟨T, rfl, hin, hbr⟩, b2⟩
 dsimp only at hbr ⊢
 obtain ⟨k, b, m, s, t, lo, hi, a, len, cap, kid, rfl⟩ := hin.form
 dsimp only [XT.val]
 have B2 := bstep b1 b2
 have b3 := below1 w2 (Obj.cells #[.int .i64 k, .bool b, .int .i64 m, .int .i64 s, .string t, .bool lo, .bool hi, .slice a len cap] 26)
 have B3 := bstep B2 b3
 by_cases hE : E = 0
 ·subst hE
  have hfz := fitZ_of_sma (XT.mk k b m s t lo hi a len cap kid) (by rw [hbr]; exact unhide HSM)
  have hin3 := (hin.weak (Q' := fun _ => True) (fun _ _ _ => trivial)).below b3
  have EV := hide (fun w' (kk : Below (w2.alloc (Obj.cells #[.int .i64 k, .bool b, .int .i64 m, .int .i64 s, .string t, .bool lo, .bool hi, .slice a len cap] 26)).heap.size (w2.alloc (Obj.cells #[.int .i64 k, .bool b, .int .i64 m, .int .i64 s, .string t, .bool lo, .bool hi, .slice a len cap] 26)) w') => eval_any (XT.mk k b m s t lo hi a len cap kid) es a9 c9 w' (hin3.below kk) (fitZ_fit _ hfz) (henv.below (bstep B3 kk)) (unhide HEL) (unhide HOK))
  have RV := hide (fun w' (kk : Below (w2.alloc (Obj.cells #[.int .i64 k, .bool b, .int .i64 m, .int .i64 s, .string t, .bool lo, .bool hi, .slice a len cap] 26)).heap.size (w2.alloc (Obj.cells #[.int .i64 k, .bool b, .int .i64 m, .int .i64 s, .string t, .bool lo, .bool hi, .slice a len cap] 26)) w') => reval_any (XT.mk k b m s t lo hi a len cap kid) w.heap.size es a9 c9 w' (hin3.below kk) hfz (henv.below (bstep B3 kk)) (unhide HEL) (unhide HLO) (bstep B3 kk).size)
  have SM := hide (fun (V1 V2 : VT) (u u' : World) (h1 : V1.In u) (h2 : V2.In u') e1 e2 => ev_same (T := XT.mk k b m s t lo hi a len cap kid) (es := es) h1 h2 e1 e2 (unhide HOK))
  have XX : XT.Eight (w2.alloc (Obj.cells #[.int .i64 k, .bool b, .int .i64 m, .int .i64 s, .string t, .bool lo, .bool hi, .slice a len cap] 26)) w2.heap.size 0 k b m s t lo hi a len cap := ⟨by simp, by go_simp, by go_simp, by go_simp, by go_simp, by go_simp, by go_simp, by go_simp, by go_simp⟩
  generalize evT (envT es) (XT.mk k b m s t lo hi a len cap kid) = R at *
  obtain ⟨RX, RE⟩ := R
  clear hfz hin3 hin hbr HSM HOK HLO HEL henv b1 b2 B2 P b3
  go_wp2_with fail
  generalize w2.alloc (Obj.cells #[.int .i64 k, .bool b, .int .i64 m, .int .i64 s, .string t, .bool lo, .bool hi, .slice a len cap] 26) = V at *
  generalize w2.heap.size = G at *
  refine (unhide EV _ (Below.refl _ _)).mono ?_
  rintro e w4 ⟨⟨v, rfl, T1, rfl, hT, -, hTb⟩, b4⟩
  obtain ⟨kz, bz, mz, sz, tz, az, lz, cz, kidz, rfl⟩ := hT.form
  dsimp only [VT.val] at *
  have X4 := (XT.Eight.below XX b4).below (below1 w4 (Obj.cells #[.int .i64 kz, .bool bz, .int .i64 mz, .int .i64 sz, .string tz, .slice az lz cz] 32))
  have B4 := bstep (bstep B3 b4) (below1 w4 (Obj.cells #[.int .i64 kz, .bool bz, .int .i64 mz, .int .i64 sz, .string tz, .slice az lz cz] 32))
  have D4 := bstep b4 (below1 w4 (Obj.cells #[.int .i64 kz, .bool bz, .int .i64 mz, .int .i64 sz, .string tz, .slice az lz cz] 32))
  have A4 := six_new w4 kz bz mz sz tz az lz cz
  have YI := hide (hT.below (below1 w4 (Obj.cells #[.int .i64 kz, .bool bz, .int .i64 mz, .int .i64 sz, .string tz, .slice az lz cz] 32)))
  have YB := hide hTb
  obtain ⟨x0, x1, x2, x3, x4, x5, x6, x7, x8⟩ := id X4
  simp only [Nat.zero_add] at x1 x2 x3 x4 x5 x6 x7 x8
  clear hT hTb b4 XX EV B3
  go_wp2_with fail
  generalize w4.alloc (Obj.cells #[.int .i64 kz, .bool bz, .int .i64 mz, .int .i64 sz, .string tz, .slice az lz cz] 32) = V2 at *
  generalize w4.heap.size = G2 at *
  refine (unhide RV _ D4).mono ?_
  rintro e w5 ⟨⟨T2, rfl, hT, -, hTb⟩, b5⟩
  obtain ⟨kq, bq, mq, sq, tq, aq, lq, cq, kidq, rfl⟩ := hT.form
  dsimp only [VT.val] at *
  have b6 := below1 w5 (Obj.cells #[.int .i64 kq, .bool bq, .int .i64 mq, .int .i64 sq, .string tq, .slice aq lq cq] 32)
  have B6 := bstep (bstep B4 b5) b6
  have A5 := VT.Six.below A4 b5
  have A6 := A5.below b6
  have YI6 := hide (((unhide YI).below b5).below b6)
  have ZI6 := hide (hT.below b6)
  obtain ⟨hsm, hokb⟩ := unhide SM _ _ _ _ (unhide YI) hT (unhide YB) hTb
  have SA := hide (fun w h h' => same_any (VT.mk kz bz mz sz tz az lz cz kidz) (VT.mk kq bq mq sq tq aq lq cq kidq) w h h')
  rw [hsm] at SA
  have IA := hide (fun w h => rIs_any (VT.mk kz bz mz sz tz az lz cz kidz) w h)
  rw [hokb] at IA
  clear hT hTb b5 b6 B4 A4 YI YB RV SM hsm hokb x0 x1 x2 x3 x4 x5 x6 x7 x8 X4 D4
  obtain ⟨y0, y1, y2, y3, y4, y5, y6⟩ := id A5
  simp only [Nat.zero_add] at y1 y2 y3 y4 y5 y6
  go_wp2_with fail
  refine (unhide SA _ (unhide YI6) (unhide ZI6)).mono ?_
  rintro e w7 ⟨rfl, b7⟩
  have B7 := bstep B6 b7
  have A7 := VT.Six.below A6 b7
  have YI7 := hide ((unhide YI6).below b7)
  clear b7 B6 y0 y1 y2 y3 y4 y5 y6 ZI6 A6 A5
  obtain ⟨y0, y1, y2, y3, y4, y5, y6⟩ := id A7
  simp only [Nat.zero_add] at y1 y2 y3 y4 y5 y6
  go_wp2_with fail
  refine (unhide IA _ (unhide YI7)).mono ?_
  rintro e w8 ⟨rfl, b8⟩
  have B8 := bstep B7 b8
  go_wp2_with fail
  refine (eknown_any _).mono ?_
  rintro e w9 ⟨rfl, b9⟩
  go_wp2_with fail
  go_ret
  exact ⟨rfl, bstep B8 b9⟩
 ·have e1 : (E != 0) = true := by simpa using hE
  clear hE hin hbr HSM
  go_wp2_with fail
  refine (eknown_any _).mono ?_
  rintro e w9 ⟨rfl, b9⟩
  go_wp2_with fail
  go_ret
  exact ⟨rfl, bstep B3 b9⟩
end Go.Proofs.YtfdimdjmnfdecaaGreat
