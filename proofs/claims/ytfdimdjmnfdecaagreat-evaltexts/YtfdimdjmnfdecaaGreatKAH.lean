/- ECat: laid together. -/
import Derived.Test.YtfdimdjmnfdecaaGreatKAG
import Derived.BigQuiet
import Derived.Deep.QuietTactic
set_option linter.unusedVariables false
set_option linter.unusedSimpArgs false
set_option maxHeartbeats 8000000
namespace Go.Proofs.YtfdimdjmnfdecaaGreat
open Go.RowKit
open VT (leaf mkV)
theorem catV_app (l l' : List VT) : catV (l ++ l') = catV l ++ catV l' := by simp [catV]
theorem catV_snoc {l : List VT} {j : Nat} (h : j < l.length) : catV (l.take (j + 1)) = catV (l.take j) ++ XT.tl (tOf (l.getD j .none)) := by
 rw [List.take_succ_eq_append_getElem h, catV_app, getD_eq h]
 simp [catV]
theorem catV_le {l : List VT} {j : Nat} (h : j ≤ l.length) : (catV (l.take j)).length ≤ (catV l).length := by
 have e : catV l = catV (l.take j) ++ catV (l.drop j) := by rw [← catV_app, List.take_append_drop]
 rw [e, List.length_append]
 omega
theorem okB_txt {b : Bool} {m s : Int} {t : ByteArray} {a : Option Addr} {len cap : Nat} {kid : Nat → VT} {n : Nat} (h : (VT.mk 3 b m s t a len cap kid).okB n = true) : textB t = true := by
 have al := (okB_kind h).1
 rw [okB_yes n al] at h
 simpa using h
theorem ba_tl (t : ByteArray) : (⟨(XT.tl t).toArray⟩ : ByteArray) = t := by
 unfold XT.tl
 rfl
theorem tl_len (t : ByteArray) : (XT.tl t).length = t.size := by
 unfold XT.tl ByteArray.size
 simp
theorem cat_any (a : Option Addr) (cap : Nat) (l : List VT) (w : World) (hin : (rowT a cap l).In w) (hok : ∀ v ∈ l, v.okB 2 = true) :
  Calls Tryz.prog 86 #[.slice a l.length cap] w fun e w' => e = .returned (Tup (catT l)) ∧ Below w.heap.size w w' := by
 have hlm : l.length ≤ maxLen := by have := hin.1; omega
 unfold maxLen at hlm
 unfold catT
 have b0 := bZ w
 have O0 := Own.new w 32
 have z0 : (w.alloc (Obj.cells #[.int .i64 0, .bool false, .int .i64 0, .int .i64 0, .string ⟨#[]⟩, .slice none 0 0] 32)).heap.size = w.heap.size + 1 := by simp
 have hin1 := hin.below b0
 have AL := hide (fun w h => all_any 3 a cap l w h)
 by_cases h0 : l = []
 ·rw [if_pos (.inl h0)]
  subst h0
  clear AL hin hin1 hok
  go_enter Tryz.func86, Tryz.ntmps86
  go_wp2_with fail
  exact bodyPost_ret (v := .tuple #[lfv 0 false 0 0 ⟨#[]⟩, .int .i64 0]) (by simp [results, Tryz.results86, go_sem, lfv]) rfl ⟨rfl, zBL⟩
 have hl0 : 0 < l.length := List.length_pos_iff.2 h0
 have e0 : ((l.length : Int) == 0) = false := by simp; omega
 cases hall : (l.all fun v => kdV v == 3)
 ·rw [if_pos (.inr rfl)]
  rw [hall] at AL
  clear h0 hall hok
  go_enter Tryz.func86, Tryz.ntmps86
  go_wp2_with fail
  refine (unhide AL _ hin1).mono ?_
  rintro e w1 ⟨rfl, k1⟩
  have O1 := O0.below k1
  have B1 := bstep b0 k1
  obtain ⟨u0, t0, t1, t2, t3, t4, t5, f0, f1, f2, f3, f4, f5⟩ := Own.fl O1
  go_wp2_with fail
  exact bodyPost_ret (v := .tuple #[lfv 0 false 0 0 ⟨#[]⟩, .int .i64 0]) zR86lt0t1t2t3t4t5 rfl ⟨rfl, zBL⟩
 ·rw [if_neg (by simp [h0])]
  rw [hall] at AL
  have HOK := hide hok
  have HALL := hide hall
  clear h0 hall hok
  generalize hRES : (if 16 < (catV l).length then ((nilV, 3) : VT × Int) else (texV ⟨(catV l).toArray⟩, 0)) = RES
  have HRES := hide hRES
  clear hRES
  go_enter Tryz.func86, Tryz.ntmps86
  go_wp2_with fail
  refine (unhide AL _ hin1).mono ?_
  rintro e w1 ⟨rfl, k1⟩
  have O1 := O0.below k1
  have B1 := bstep b0 k1
  have z1 := k1.size
  rw [z0] at z1
  have hin2 := hin1.below k1
  clear k1 O0 b0 hin1 AL z0
  go_wp2_with fail
  have BA0 : BA w1.heap.size w1.heap.size [] (w1.alloc (.cells #[.pointer none, .slice none 0 0] 131)) := BA.new (Nat.le_refl _)
  have bb := below1 w1 (.cells #[.pointer none, .slice none 0 0] 131)
  have O2 := O1.below bb
  have B2 := bstep B1 bb
  generalize w1.alloc (.cells #[.pointer none, .slice none 0 0] 131) = V at *
  generalize hg : w1.heap.size = G at *
  have HG := hide hg
  clear hg O2 B2
  go_loopw [18] (fun i wr => ∃ (j : Nat), j ≤ l.length ∧ i = .int .i64 j ∧ (catV (l.take j)).length ≤ 16 ∧ BA G G (catV (l.take j)) wr ∧ Below G w1 wr) (fun i _ => l.length - (intOf i).toNat)
  case atStart => exact ⟨0, Nat.zero_le _, rfl, Nat.zero_le _, BA0, bb⟩
  case round =>
   obtain ⟨j, hj, rfl, hc16, BA1, bel⟩ := hrel
   have zz := BA1.le.2
   have bel' : Below w1.heap.size w1 wr := by rw [unhide HG]; exact bel
   have O3 := O1.below bel'
   have B3 := bstep B1 bel'
   by_cases hlt : j < l.length
   ·obtain ⟨bl, o, k', b', m', s', t', a', len', cap', kid', rfl, hx, six, hk⟩ := (hin2.below bel').kid hlt
    try dsimp only at hx
    have hk3 : k' = 3 := by
     have := List.all_eq_true.1 (unhide HALL) _ (List.getElem_mem hlt)
     rw [← getD_eq hlt, hx] at this
     simpa [kdV] using this
    subst hk3
    have ht16 : t'.size ≤ 16 := by
     have h1 := unhide HOK _ (List.getElem_mem hlt)
     rw [← getD_eq hlt, hx] at h1
     have h2 : textB t' = true := okB_txt h1
     simp only [textB, Bool.and_eq_true, decide_eq_true_eq] at h2
     exact h2.1
    have HSN := hide (show catV (l.take (j + 1)) = catV (l.take j) ++ XT.tl t' by rw [catV_snoc hlt, hx]; rfl)
    have htl := tl_len t'
    have HTB := hide (ba_tl t')
    obtain ⟨s0, s1, s2, s3, s4, s5, s6⟩ := six
    have b1 := below1 wr (Obj.cells #[.int .i64 3, .bool b', .int .i64 m', .int .i64 s', .string t', .slice a' len' cap'] 32)
    have BA2 := BA1.alloc (Obj.cells #[.int .i64 3, .bool b', .int .i64 m', .int .i64 s', .string t', .slice a' len' cap'] 32)
    have O4 := O3.below b1
    have B4 := bstep B3 b1
    have X4 := six_new wr 3 b' m' s' t' a' len' cap'
    have bel4 : Below G w1 (wr.alloc (Obj.cells #[.int .i64 3, .bool b', .int .i64 m', .int .i64 s', .string t', .slice a' len' cap'] 32)) := bel.trans (b1.mono (by omega))
    have LN := hide (fun n => Tryz.Builder_Len_f G G _ ((wr.alloc (Obj.cells #[.int .i64 3, .bool b', .int .i64 m', .int .i64 s', .string t', .slice a' len' cap'] 32)).drewN n) BA2)
    have WS := hide (fun w h => ws_any G G (catV (l.take j)) (XT.tl t') w h (by omega))
    rw [byteCells_len] at LN
    have HLE := hide (catV_le (l := l) (j := j + 1) (by omega))
    generalize hCV : catV (l.take j) = cv at *
    clear hk hx hCV O3 B3 BA1 bel' hin2
    generalize hLT : XT.tl t' = lt at *
    rw [unhide HTB] at WS
    by_cases hbig : 16 < cv.length + t'.size
    ·have HB2 := hide (show RES = (nilV, 3) by
      have h1 := unhide HLE
      rw [unhide HSN, List.length_append, htl] at h1
      rw [← unhide HRES, if_pos (by omega)])
     have hbig' : 16 < (cv.length : Int) + (t'.size : Int) := by omega
     go_wp2_with fail
     go_quiet ((go_at_call 122; exact Calls.quiet_of_same (unhide LN _)))
     have bq : Below (wr.alloc (Obj.cells #[.int .i64 3, .bool b', .int .i64 m', .int .i64 s', .string t', .slice a' len' cap'] 32)).heap.size (wr.alloc (Obj.cells #[.int .i64 3, .bool b', .int .i64 m', .int .i64 s', .string t', .slice a' len' cap'] 32)) ((wr.alloc (Obj.cells #[.int .i64 3, .bool b', .int .i64 m', .int .i64 s', .string t', .slice a' len' cap'] 32)).drewN nq) := below_drewN (Below.refl _ _) _
     have O5 := O4.below bq
     have B5 := bstep B4 bq
     have X5 := X4.below bq
     have BA5 : BA G G cv ((wr.alloc (Obj.cells #[.int .i64 3, .bool b', .int .i64 m', .int .i64 s', .string t', .slice a' len' cap'] 32)).drewN nq) := BA2
     have bel5 : Below G w1 ((wr.alloc (Obj.cells #[.int .i64 3, .bool b', .int .i64 m', .int .i64 s', .string t', .slice a' len' cap'] 32)).drewN nq) := bel4.trans (bq.mono (by simp; omega))
     generalize (wr.alloc (Obj.cells #[.int .i64 3, .bool b', .int .i64 m', .int .i64 s', .string t', .slice a' len' cap'] 32)).drewN nq = V5 at *
     clear bq O4 B4 X4 BA2 bel4 LN s0 s1 s2 s3 s4 s5 s6 b1
     obtain ⟨u0, t0, t1, t2, t3, t4, t5, f0, f1, f2, f3, f4, f5⟩ := Own.fl O5
     go_wp2_with fail
     exact bodyPost_ret (v := .tuple #[lfv 0 false 0 0 ⟨#[]⟩, .int .i64 3]) zR86lt0t1t2t3t4t5 rfl ⟨by rw [unhide HB2]; rfl, zBL⟩
    ·have hbig' : ¬ 16 < (cv.length : Int) + (t'.size : Int) := by omega
     go_wp2_with fail
     go_quiet ((go_at_call 122; exact Calls.quiet_of_same (unhide LN _)))
     have bq : Below (wr.alloc (Obj.cells #[.int .i64 3, .bool b', .int .i64 m', .int .i64 s', .string t', .slice a' len' cap'] 32)).heap.size (wr.alloc (Obj.cells #[.int .i64 3, .bool b', .int .i64 m', .int .i64 s', .string t', .slice a' len' cap'] 32)) ((wr.alloc (Obj.cells #[.int .i64 3, .bool b', .int .i64 m', .int .i64 s', .string t', .slice a' len' cap'] 32)).drewN nq) := below_drewN (Below.refl _ _) _
     have O5 := O4.below bq
     have B5 := bstep B4 bq
     have X5 := X4.below bq
     have BA5 : BA G G cv ((wr.alloc (Obj.cells #[.int .i64 3, .bool b', .int .i64 m', .int .i64 s', .string t', .slice a' len' cap'] 32)).drewN nq) := BA2
     have bel5 : Below G w1 ((wr.alloc (Obj.cells #[.int .i64 3, .bool b', .int .i64 m', .int .i64 s', .string t', .slice a' len' cap'] 32)).drewN nq) := bel4.trans (bq.mono (by simp; omega))
     generalize (wr.alloc (Obj.cells #[.int .i64 3, .bool b', .int .i64 m', .int .i64 s', .string t', .slice a' len' cap'] 32)).drewN nq = V5 at *
     clear bq O4 B4 X4 BA2 bel4 LN s0 s1 s2 s3 s4 s5 s6 b1
     obtain ⟨x0, x1, x2, x3, x4, x5, x6⟩ := sixfl X5
     go_wp2_with fail
     refine (unhide WS _ BA5).mono ?_
     rintro e w6 ⟨rfl, BA6, bel6, -⟩
     go_wp2_with fail
     go_roundw
     case rel => exact ⟨j + 1, by omega, by go_num, by rw [unhide HSN, List.length_append, htl]; omega, by rw [unhide HSN]; exact BA6, bel5.trans bel6⟩
     case measure => simp [intOf]; omega
   ·obtain rfl : j = l.length := by omega
    rw [List.take_length] at hc16 BA1
    have HB2 := hide (show RES = (texV ⟨(catV l).toArray⟩, 0) by rw [← unhide HRES, if_neg (by omega)])
    have ST := hide (bstr_any G G (catV l) wr BA1)
    clear hin2 BA1
    generalize catV l = cv at *
    go_wp2_with fail
    refine (unhide ST).mono ?_
    rintro e w6 ⟨rfl, bel6⟩
    have b6 : Below w1.heap.size w1 w6 := by rw [unhide HG]; exact bel.trans bel6
    have O6 := O1.below b6
    have B6 := bstep B1 b6
    clear O3 B3 bel6 bel' bel b6
    go_wp2_with fail
    refine (etext_any _ _).mono ?_
    rintro e w7 ⟨rfl, k7⟩
    have O7 := O6.below k7
    have B7 := bstep B6 k7
    clear k7 O6 B6
    obtain ⟨u0, t0, t1, t2, t3, t4, t5, f0, f1, f2, f3, f4, f5⟩ := Own.fl O7
    unfold lfv
    go_wp2_with fail
    exact bodyPost_ret (v := .tuple #[lfv 3 false 0 0 ⟨cv.toArray⟩, .int .i64 0]) zR86lt0t1t2t3t4t5 rfl ⟨by rw [unhide HB2]; rfl, zBL⟩
end Go.Proofs.YtfdimdjmnfdecaaGreat
