/- The walk of EvalTells: any expression's value, in any environment, or the error; it may be. -/
import Derived.Test.YtfdimdjmnfdecaaGreatKBN
set_option linter.unusedVariables false
set_option linter.unusedSimpArgs false
set_option maxHeartbeats 8000000
namespace Go.Proofs.YtfdimdjmnfdecaaGreat
open Go.RowKit
open VT (leaf mkV)
theorem fitZ_of_rch (x : XT) : rchX x → fitZ x := by
 induction x with
 | none => intro _; trivial
 | mk k b m s t lo hi a len cap kid ih =>
  rintro ⟨h1, h2, h3⟩
  unfold reachBytes at h1 h2
  exact ⟨by omega, by omega, fun i hi => ih i (h3 i hi)⟩
theorem esize_any (x : XT) : ∀ (w : World) (Q : Nat → Prop), x.In Q w →
  Calls Tryz.prog 9 #[x.val] w fun e w' => (∃ n, e = .returned (.int .i64 n)) ∧ Below w.heap.size w w' := by
 induction x with
 | none => intro w Q h; exact absurd h (by simp [XT.In])
 | mk k b m s t lo hi a len cap kid ih =>
  intro w Q hin
  have hlm := hin.1
  unfold maxLen at hlm
  show Calls Tryz.prog 9 #[.agg #[.int .i64 k, .bool b, .int .i64 m, .int .i64 s, .string t, .bool lo, .bool hi, .slice a len cap]] w _
  go_enter Tryz.func9, Tryz.ntmps9
  go_wp2_with fail
  have b0 := below1 w (Obj.cells #[.int .i64 k, .bool b, .int .i64 m, .int .i64 s, .string t, .bool lo, .bool hi, .slice a len cap] 26)
  have hin1 := hin.below b0
  have hz : (w.alloc (Obj.cells #[.int .i64 k, .bool b, .int .i64 m, .int .i64 s, .string t, .bool lo, .bool hi, .slice a len cap] 26)).heap.size = w.heap.size + 1 := by simp
  have hbox : (w.alloc (Obj.cells #[.int .i64 k, .bool b, .int .i64 m, .int .i64 s, .string t, .bool lo, .bool hi, .slice a len cap] 26)).cell? ⟨w.heap.size, 7, none⟩ = some (.slice a len cap) := by go_simp
  generalize hW : w.alloc (Obj.cells #[.int .i64 k, .bool b, .int .i64 m, .int .i64 s, .string t, .bool lo, .bool hi, .slice a len cap] 26) = W at *
  clear hW
  go_loopw [3, 4] (fun n i wr => ∃ (j : Nat) (z : Int), j ≤ len ∧ i = .int .i64 j ∧ n = .int .i64 z ∧ Below W.heap.size W wr) (fun _ i _ => len - (intOf i).toNat)
  case atStart => exact ⟨0, _, Nat.zero_le _, rfl, rfl, Below.refl _ _⟩
  case round =>
   obtain ⟨j, z, hj, rfl, rfl, bel⟩ := hrel
   have hb := (bcell bel).1 w.heap.size 7 (by omega)
   rw [hbox] at hb
   by_cases hlt : j < len
   ·by_cases h5 : z < 400
    ·obtain ⟨bl, o, k', b', m', s', t', lo', hi', a', len', cap', kid', rfl, hx, six, hk⟩ := hin1.kid hlt
     have ihj := ih j wr Q
     rw [hx] at ihj
     have ihj := ihj (hk.below bel)
     obtain ⟨s0, s1, s2, s3, s4, s5, s6, s7, s8⟩ := six.below bel
     clear hx six hk ih hin hin1
     have IH := hide ihj
     clear ihj
     go_wp2_with fail
     refine (unhide IH).mono ?_
     rintro e w2 ⟨⟨n, rfl⟩, k2⟩
     go_wp2_with fail
     go_roundw
     case rel => exact ⟨j + 1, _, by omega, by go_num, rfl, bstep bel k2⟩
     case measure => simp [intOf]; omega
    ·go_wp2_with fail
     go_ret
     exact ⟨⟨_, rfl⟩, bstep b0 bel⟩
   ·go_wp2_with fail
    go_ret
    exact ⟨⟨_, rfl⟩, bstep b0 bel⟩
set_option maxRecDepth 10000 in
theorem evalTells_walk (T : XT) (hfr : rchX T) (a9 : Option Addr) (c9 : Nat) (es : List (ByteArray × VT)) (w : World) (hin : T.In (fun _ => True) w) (henv : EnvIn w a9 es) (hlen : es.length ≤ maxLen) (hnm : ∀ e ∈ es, e.1.size ≤ maxLen) :
  Calls Tryz.prog 3 #[T.val, .slice a9 es.length c9] w fun e w' => e = .returned (.bool true) ∧ Below w.heap.size w w' := by
 obtain ⟨k, b, m, s, t, lo, hi, a, len, cap, kid, rfl⟩ := hin.form
 show Calls Tryz.prog 3 #[.agg #[.int .i64 k, .bool b, .int .i64 m, .int .i64 s, .string t, .bool lo, .bool hi, .slice a len cap], .slice a9 es.length c9] w _
 have hfz := fitZ_of_rch _ hfr
 have hlm := hlen
 unfold maxLen at hlm
 have HEL := hide hlen
 have b3 := below1 w (Obj.cells #[.int .i64 k, .bool b, .int .i64 m, .int .i64 s, .string t, .bool lo, .bool hi, .slice a len cap] 26)
 have XX : XT.Eight (w.alloc (Obj.cells #[.int .i64 k, .bool b, .int .i64 m, .int .i64 s, .string t, .bool lo, .bool hi, .slice a len cap] 26)) w.heap.size 0 k b m s t lo hi a len cap := ⟨by simp, by go_simp, by go_simp, by go_simp, by go_simp, by go_simp, by go_simp, by go_simp, by go_simp⟩
 have hin3 := hin.below b3
 have env3 := henv.below b3
 have SZ := hide (esize_any (XT.mk k b m s t lo hi a len cap kid) _ _ hin3)
 have MY := hide (fun w' (kk : Below w.heap.size w w') => emay_any a9 c9 es w' (henv.below kk) hlen hnm)
 have HENV := hide henv
 clear hin hlen hnm hfr henv
 go_enter Tryz.func3, Tryz.ntmps3
 go_wp2_with fail
 generalize w.alloc (Obj.cells #[.int .i64 k, .bool b, .int .i64 m, .int .i64 s, .string t, .bool lo, .bool hi, .slice a len cap] 26) = V0 at *
 refine (unhide SZ).mono ?_
 rintro e w1 ⟨⟨n, rfl⟩, b1⟩
 have B1 := bstep b3 b1
 have X1 := XT.Eight.below XX b1
 have hin4 := hin3.below b1
 have env4 := env3.below b1
 clear SZ b1 XX hin3 env3 b3
 by_cases hn : 400 ≤ n
 ·go_wp2_with fail
  go_ret
  exact ⟨rfl, B1⟩
 go_wp2_with fail
 refine (unhide MY _ B1).mono ?_
 rintro e w2 ⟨⟨r, rfl, hr⟩, b2⟩
 have B2 := bstep B1 b2
 cases r
 ·go_wp2_with fail
  go_ret
  exact ⟨rfl, B2⟩
 have HOK := hide (hr rfl)
 have HLO := hide (env_lo (unhide HENV) (hr rfl))
 have XX := XT.Eight.below X1 b2
 have hin3 := hin4.below b2
 have env3 := env4.below b2
 clear hr MY b2 B1 X1 hin4 env4
 have EV := hide (fun w' (kk : Below w2.heap.size w2 w') => eval_any (XT.mk k b m s t lo hi a len cap kid) es a9 c9 w' (hin3.below kk) (fitZ_fit _ hfz) (env3.below kk) (unhide HEL) (unhide HOK))
 have RV := hide (fun w' (kk : Below w2.heap.size w2 w') => reval_any (XT.mk k b m s t lo hi a len cap kid) w.heap.size es a9 c9 w' (hin3.below kk) hfz (env3.below kk) (unhide HEL) (unhide HLO) (bstep B2 kk).size)
 have SM := hide (fun (V1 V2 : VT) (u u' : World) (h1 : V1.In u) (h2 : V2.In u') e1 e2 => ev_same (T := XT.mk k b m s t lo hi a len cap kid) (es := es) h1 h2 e1 e2 (unhide HOK))
 generalize evT (envT es) (XT.mk k b m s t lo hi a len cap kid) = R at *
 obtain ⟨RX, RE⟩ := R
 clear hfz hin3 HOK HLO HEL HENV env3
 obtain ⟨x0, x1, x2, x3, x4, x5, x6, x7, x8⟩ := id XX
 simp only [Nat.zero_add] at x1 x2 x3 x4 x5 x6 x7 x8
 go_wp2_with fail
 refine (unhide EV _ (Below.refl _ _)).mono ?_
 rintro e w4 ⟨⟨v, rfl, T1, rfl, hT, -, hTb⟩, b4⟩
 obtain ⟨kz, bz, mz, sz, tz, az, lz, cz, kidz, rfl⟩ := hT.form
 dsimp only [VT.val] at *
 have X4 := (XT.Eight.below XX b4).below (below1 w4 (Obj.cells #[.int .i64 kz, .bool bz, .int .i64 mz, .int .i64 sz, .string tz, .slice az lz cz] 32))
 have B4 := bstep (bstep B2 b4) (below1 w4 (Obj.cells #[.int .i64 kz, .bool bz, .int .i64 mz, .int .i64 sz, .string tz, .slice az lz cz] 32))
 have D4 := bstep b4 (below1 w4 (Obj.cells #[.int .i64 kz, .bool bz, .int .i64 mz, .int .i64 sz, .string tz, .slice az lz cz] 32))
 have A4 := six_new w4 kz bz mz sz tz az lz cz
 have YI := hide (hT.below (below1 w4 (Obj.cells #[.int .i64 kz, .bool bz, .int .i64 mz, .int .i64 sz, .string tz, .slice az lz cz] 32)))
 have YB := hide hTb
 clear hT hTb b4 XX EV B2 x0 x1 x2 x3 x4 x5 x6 x7 x8
 obtain ⟨x0, x1, x2, x3, x4, x5, x6, x7, x8⟩ := id X4
 simp only [Nat.zero_add] at x1 x2 x3 x4 x5 x6 x7 x8
 go_wp2_with fail
 generalize w4.alloc (Obj.cells #[.int .i64 kz, .bool bz, .int .i64 mz, .int .i64 sz, .string tz, .slice az lz cz] 32) = V2 at *
 generalize w4.heap.size = G2 at *
 refine (unhide RV _ D4).mono ?_
 rintro e w5 ⟨⟨T2, rfl, hT, -, hTb⟩, b5⟩
 obtain ⟨kq, bq, mq, sq, tq, aq, lq, cq, kidq, rfl⟩ := hT.form
 dsimp only [VT.val] at *
 have b6 := below1 w5 (Obj.cells #[.int .i64 kq, .bool bq, .int .i64 mq, .int .i64 sq, .string tq, .slice aq lq cq] 32)
 have B6 := bstep (bstep B4 b5) b6
 have A5 := VT.Six.below A4 b5
 have A6 := A5.below b6
 have YI6 := hide (((unhide YI).below b5).below b6)
 have ZI6 := hide (hT.below b6)
 obtain ⟨hsm, hokb⟩ := unhide SM _ _ _ _ (unhide YI) hT (unhide YB) hTb
 have SA := hide (fun w h h' => same_any (VT.mk kz bz mz sz tz az lz cz kidz) (VT.mk kq bq mq sq tq aq lq cq kidq) w h h')
 rw [hsm] at SA
 have IA := hide (fun w h => rIs_any (VT.mk kz bz mz sz tz az lz cz kidz) w h)
 rw [hokb] at IA
 clear hT hTb b5 b6 B4 A4 YI YB RV SM hsm hokb x0 x1 x2 x3 x4 x5 x6 x7 x8 X4 D4
 obtain ⟨y0, y1, y2, y3, y4, y5, y6⟩ := id A5
 simp only [Nat.zero_add] at y1 y2 y3 y4 y5 y6
 go_wp2_with fail
 refine (unhide SA _ (unhide YI6) (unhide ZI6)).mono ?_
 rintro e w7 ⟨rfl, b7⟩
 have B7 := bstep B6 b7
 have A7 := VT.Six.below A6 b7
 have YI7 := hide ((unhide YI6).below b7)
 clear b7 B6 y0 y1 y2 y3 y4 y5 y6 ZI6 A6 A5
 obtain ⟨y0, y1, y2, y3, y4, y5, y6⟩ := id A7
 simp only [Nat.zero_add] at y1 y2 y3 y4 y5 y6
 go_wp2_with fail
 refine (unhide IA _ (unhide YI7)).mono ?_
 rintro e w8 ⟨rfl, b8⟩
 have B8 := bstep B7 b8
 go_wp2_with fail
 refine (eknown_any _).mono ?_
 rintro e w9 ⟨rfl, b9⟩
 go_wp2_with fail
 go_ret
 exact ⟨rfl, bstep B8 b9⟩
end Go.Proofs.YtfdimdjmnfdecaaGreat
