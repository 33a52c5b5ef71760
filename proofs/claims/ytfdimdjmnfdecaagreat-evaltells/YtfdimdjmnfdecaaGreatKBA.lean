/- QSignM QT1 QT2 QT3 QT4: laid together. -/
import Derived.Test.YtfdimdjmnfdecaaGreatKAZ
set_option linter.unusedVariables false
set_option linter.unusedSimpArgs false
set_option maxHeartbeats 8000000
namespace Go.Proofs.YtfdimdjmnfdecaaGreat
open Go.RowKit
section
variable {b : Nat} {a : Option Addr} {cap : Nat} {ts : List Tk} {en : Int}
theorem mkB_uniq {k : Nat} {m m' : Mk} (h : mkB ts k m = true) (h' : mkB ts k m' = true) : m = m' := by
 rw [mkB_tok] at h h'
 simp only [Bool.and_eq_true, beq_iff_eq] at h h'
 exact h.2.symm.trans h'.2
def six : List Mk := [mTrue, mFalse, mNull, [40], [91], mIf]
theorem fnd_mk {k : Nat} {l : List Mk} {m : Mk} (h : fnd ts k l = some m) : mkB ts k m = true := by
 induction l with
 | nil => cases h
 | cons x l ih =>
  rw [fnd] at h
  split at h
  ·cases h; assumption
  ·exact ih h
theorem fnd_none {k : Nat} {l : List Mk} (h : fnd ts k l = none) : ∀ m ∈ l, mkB ts k m = false := by
 induction l with
 | nil => intro m hm; exact absurd hm List.not_mem_nil
 | cons x l ih =>
  rw [fnd] at h
  split at h
  ·cases h
  ·rename_i hx
   intro m hm
   rcases List.mem_cons.1 hm with rfl | hm
   ·simpa using hx
   ·exact ih h m hm
theorem mk_other {k : Nat} {m m' : Mk} (h : mkB ts k m = true) (hn : m ≠ m') : mkB ts k m' = false := by
 cases h' : mkB ts k m' with
 | false => rfl
 | true => exact absurd (mkB_uniq h h') hn
theorem sign_list {e1 : Nat → RX} {k : Nat} (h : mkB ts k [91] = true) : signP ts e1 k = listedP ts e1 (k + 1) := by unfold signP; rw [if_pos h]
theorem sign_brack {e1 : Nat → RX} {k : Nat} (h : mkB ts k [40] = true) : signP ts e1 k = brackP ts e1 (k + 1) := by
 unfold signP; rw [mk_other h (by decide : ([40] : Mk) ≠ [91]), if_neg (by decide), if_pos h]
theorem sign_if {e1 : Nat → RX} {k : Nat} (h : mkB ts k mIf = true) : signP ts e1 k = choiceP ts e1 k := by
 unfold signP; rw [mk_other h (by decide : mIf ≠ [91]), if_neg (by decide), mk_other h (by decide : mIf ≠ [40]), if_neg (by decide), if_pos h]
theorem sign_null {e1 : Nat → RX} {k : Nat} (h : mkB ts k mNull = true) : signP ts e1 k = .ok nullX (k + 1) := by
 unfold signP constP; rw [mk_other h (by decide : mNull ≠ [91]), if_neg (by decide), mk_other h (by decide : mNull ≠ [40]), if_neg (by decide), mk_other h (by decide : mNull ≠ mIf), if_neg (by decide), if_pos h]
theorem sign_true {e1 : Nat → RX} {k : Nat} (h : mkB ts k mTrue = true) : signP ts e1 k = .ok (boolX true) (k + 1) := by
 unfold signP constP; rw [mk_other h (by decide : mTrue ≠ [91]), if_neg (by decide), mk_other h (by decide : mTrue ≠ [40]), if_neg (by decide), mk_other h (by decide : mTrue ≠ mIf), if_neg (by decide), mk_other h (by decide : mTrue ≠ mNull), if_neg (by decide), if_pos h]
theorem sign_false {e1 : Nat → RX} {k : Nat} (h : mkB ts k mFalse = true) : signP ts e1 k = .ok (boolX false) (k + 1) := by
 unfold signP constP; rw [mk_other h (by decide : mFalse ≠ [91]), if_neg (by decide), mk_other h (by decide : mFalse ≠ [40]), if_neg (by decide), mk_other h (by decide : mFalse ≠ mIf), if_neg (by decide), mk_other h (by decide : mFalse ≠ mNull), if_neg (by decide), mk_other h (by decide : mFalse ≠ mTrue), if_neg (by decide), if_pos h]
theorem sign_no {e1 : Nat → RX} {k : Nat} (h : fnd ts k six = none) : signP ts e1 k = .er 2 k := by
 have a := fnd_none h
 unfold signP constP
 rw [a [91] (by decide), a [40] (by decide), a mIf (by decide), a mNull (by decide), a mTrue (by decide), a mFalse (by decide)]
 rfl
theorem brack_s (e1 : Nat → RX) (k : Nat) : brackP ts e1 k = resOf (mustS ts [[41]] (exprS e1 (.inl k))) (exprX e1 (.inl k)) := by
 unfold brackP
 cases h : e1 k with
 | er c k' => simp [mustS, exprS, resOf, h]
 | ok x k' =>
  cases h2 : mkB ts k' [41] with
  | true => simp [mustS, exprS, exprX, resOf, h, fnd, h2]
  | false => simp [mustS, exprS, exprX, resOf, h, fnd, h2]
theorem listed_s (e1 : Nat → RX) (k : Nat) : listedP ts e1 k = resOf (rowS (restP ts e1 [93] k)) (listX (rowX (restP ts e1 [93] k))) := by
 unfold listedP
 cases restP ts e1 [93] k <;> rfl
theorem choice_s (e1 : Nat → RX) (k : Nat) (h : mkB ts k mIf = true) : choiceP ts e1 k = resOf (exprS e1 (mustS ts [mElse] (exprS e1 (mustS ts [mThen] (exprS e1 (.inl (k + 1)))))))
  (ifX (exprX e1 (.inl (k + 1))) (exprX e1 (mustS ts [mThen] (exprS e1 (.inl (k + 1))))) (exprX e1 (mustS ts [mElse] (exprS e1 (mustS ts [mThen] (exprS e1 (.inl (k + 1)))))))) := by
 unfold choiceP behP
 rw [fnd_one, if_pos h]
 cases h1 : e1 (k + 1) with
 | er c k1 => simp [mustS, exprS, resOf, h1]
 | ok x k1 =>
  cases h2 : fnd ts k1 [mThen] with
  | none => simp [mustS, exprS, resOf, h1, h2]
  | some m2 =>
   cases h3 : e1 (k1 + 1) with
   | er c k2 => simp [mustS, exprS, resOf, h1, h2, h3]
   | ok y k2 =>
    cases h4 : fnd ts k2 [mElse] with
    | none => simp [mustS, exprS, resOf, h1, h2, h3, h4]
    | some m4 =>
     cases h5 : e1 (k2 + 1) with
     | er c k3 => simp [mustS, exprS, resOf, h1, h2, h3, h4, h5]
     | ok z k3 => simp [mustS, exprS, exprX, resOf, h1, h2, h3, h4, h5]
end
section
variable {b : Nat} {a : Option Addr} {cap : Nat} {ts : List Tk} {en : Int}
set_option maxRecDepth 10000 in
theorem qsign_tok_true (d : Nat) (e1 : Nat → RX) (hp : QPartOf b a cap ts en 72 (d + 1) e1) (hts : GoodTs ts) (h9 : ts.length ≤ 900) (hd : d ≤ 8) (w : World) (k : Nat) (R0 : Qd b a cap ts en w k 0 0) (hk : k < ts.length) (tk : Nat) (tt : List UInt8) (tp : Nat) (hTK : ts[k] = (tk, tt, tp)) (hl : tt.length ≤ 1000) (e2 : ((tk : Int) == 2) = false) (e3 : ((tk : Int) == 3) = false) (e1' : ((tk : Int) == 1) = false) (hF : fnd ts k six = some mTrue) :
  Calls Tryz.prog 154 #[.pointer (some ⟨b, 0, none⟩), .int .i64 (d : Int)] w fun e w' => QPost b a cap ts en (signP ts e1 k) k w e w' := by
 have hlt := R0.lt
 have hn := hts.1
 have HT := hide hts
 have HP := hide hp
 clear hts hp
 generalize hRES : signP ts e1 k = RES at *
 have HR := hide hRES.symm
 clear hRES
 obtain ⟨g, rfl, hgb, h0, h1, h2, h3⟩ := R0.row k hk
 have hkl : ¬ (ts.length : Int) ≤ (k : Int) := by omega
 have ez := ZB.new w 26
 have RA := R0.alloc (zO 26)
 obtain ⟨ra, rb, hc0, hc1, hc2, hc3, hc4, hfr, -⟩ := RA
 obtain ⟨ta, tb, tc, td⟩ := (show Tok3 w g (k * 3) ts[k] from ⟨h0, h1, h2, h3⟩).below (below1 w (zO 26))
 rw [hTK] at tb tc td
 dsimp only at tb tc td
 have RH := hide R0
 have b0 := below1 w (zO 26)
 clear h0 h1 h2 h3
 go_enter Tryz.func154, Tryz.ntmps154
 go_wp2_with fail
 go_quiet (fail)
 go_wp2_with fail
 have BV : Below w.heap.size w ((w.alloc (zO 26)).drewN nq) := below_dN b0 nq
 have zV : w.heap.size + 1 ≤ ((w.alloc (zO 26)).drewN nq).heap.size := by show _ ≤ (w.alloc (zO 26)).heap.size; simp
 have lV : b < ((w.alloc (zO 26)).drewN nq).heap.size := ra
 have gV : g < ((w.alloc (zO 26)).drewN nq).heap.size := ta
 have u0 : ((w.alloc (zO 26)).drewN nq).cell? ⟨b, 0, none⟩ = _ := hc0
 have u1 : ((w.alloc (zO 26)).drewN nq).cell? ⟨b, 1, none⟩ = _ := hc1
 have v1 : ((w.alloc (zO 26)).drewN nq).cell? ⟨g, k * 3, none⟩ = _ := tb
 have v2 : ((w.alloc (zO 26)).drewN nq).cell? ⟨g, k * 3 + 1, none⟩ = _ := tc
 have v3 : ((w.alloc (zO 26)).drewN nq).cell? ⟨g, k * 3 + 2, none⟩ = _ := td
 have fV : ∀ o, ((w.alloc (zO 26)).drewN nq).frozen? ⟨b, o, none⟩ = false := hfr
 have ZV := hide (ez.below (below_dN (Below.refl _ _) nq))
 have RV := hide ((R0.alloc (zO 26)).drewN nq)
 generalize (w.alloc (zO 26)).drewN nq = V at *
 clear hc0 hc1 hc2 hc3 hc4 hfr ra rb ta tb tc td ez b0
 go_region
 all_goals
  have MV := Mv.of_below (b := b) BV
  have M2 := (MV.alloc (Obj.cells #[.int .i64 (tk : Int), .string ⟨tt.toArray⟩, .int .i64 (tp : Int)] 77)).drew
  have R2 := ((unhide RV).alloc (Obj.cells #[.int .i64 (tk : Int), .string ⟨tt.toArray⟩, .int .i64 (tp : Int)] 77)).drew
  have Z2 := hide (((unhide ZV).alloc (Obj.cells #[.int .i64 (tk : Int), .string ⟨tt.toArray⟩, .int .i64 (tp : Int)] 77)).below (Below.refl _ _).drew)
  clear u0 u1 v1 v2 v3 fV ZV RV MV
  go_wp2_with fail
  refine (must_any _ k _ six _ (R2.alloc _) (unhide HT) (Marks.at (by simp) (by simp; omega) (by decide) (by decide)) (by decide)).mono ?_
  rw [hF]
  have hmk := fnd_mk hF
  clear hF
  have HE := hide ((unhide HR).trans (sign_true hmk))
  clear HR hmk
  rintro e w3 ⟨n3, rfl, R3⟩
  have M3 := (M2.alloc _).trans n3
  obtain ⟨y0, y1, y2, y3, y4, y5, y6, y7, y8, y9⟩ := ((unhide Z2).alloc _).mv n3 (by omega)
  clear n3 Z2
  dsimp only [mTrue, mFalse, mNull]
  go_wp2_with fail
  refine bodyPost_ret (v := .agg #[.int .i64 2, .bool true, .int .i64 0, .int .i64 0, .string ⟨#[]⟩, .bool false, .bool false, .slice none 0 0]) zR154y0y1y2y3y4y5y6y7y8 rfl ?_
  rw [unhide HE]
  exact qpost_ok (B := w.heap.size + 1) M3 R3 R0 (by omega) (Nat.le_refl _) (by omega) (in_leaf _ _ _ _ _ _ _) (leaf_bare _ _ _ _ _ _ _) _ _ _ _ _ _ _ _
set_option maxRecDepth 10000 in
theorem qsign_tok_false (d : Nat) (e1 : Nat → RX) (hp : QPartOf b a cap ts en 72 (d + 1) e1) (hts : GoodTs ts) (h9 : ts.length ≤ 900) (hd : d ≤ 8) (w : World) (k : Nat) (R0 : Qd b a cap ts en w k 0 0) (hk : k < ts.length) (tk : Nat) (tt : List UInt8) (tp : Nat) (hTK : ts[k] = (tk, tt, tp)) (hl : tt.length ≤ 1000) (e2 : ((tk : Int) == 2) = false) (e3 : ((tk : Int) == 3) = false) (e1' : ((tk : Int) == 1) = false) (hF : fnd ts k six = some mFalse) :
  Calls Tryz.prog 154 #[.pointer (some ⟨b, 0, none⟩), .int .i64 (d : Int)] w fun e w' => QPost b a cap ts en (signP ts e1 k) k w e w' := by
 have hlt := R0.lt
 have hn := hts.1
 have HT := hide hts
 have HP := hide hp
 clear hts hp
 generalize hRES : signP ts e1 k = RES at *
 have HR := hide hRES.symm
 clear hRES
 obtain ⟨g, rfl, hgb, h0, h1, h2, h3⟩ := R0.row k hk
 have hkl : ¬ (ts.length : Int) ≤ (k : Int) := by omega
 have ez := ZB.new w 26
 have RA := R0.alloc (zO 26)
 obtain ⟨ra, rb, hc0, hc1, hc2, hc3, hc4, hfr, -⟩ := RA
 obtain ⟨ta, tb, tc, td⟩ := (show Tok3 w g (k * 3) ts[k] from ⟨h0, h1, h2, h3⟩).below (below1 w (zO 26))
 rw [hTK] at tb tc td
 dsimp only at tb tc td
 have RH := hide R0
 have b0 := below1 w (zO 26)
 clear h0 h1 h2 h3
 go_enter Tryz.func154, Tryz.ntmps154
 go_wp2_with fail
 go_quiet (fail)
 go_wp2_with fail
 have BV : Below w.heap.size w ((w.alloc (zO 26)).drewN nq) := below_dN b0 nq
 have zV : w.heap.size + 1 ≤ ((w.alloc (zO 26)).drewN nq).heap.size := by show _ ≤ (w.alloc (zO 26)).heap.size; simp
 have lV : b < ((w.alloc (zO 26)).drewN nq).heap.size := ra
 have gV : g < ((w.alloc (zO 26)).drewN nq).heap.size := ta
 have u0 : ((w.alloc (zO 26)).drewN nq).cell? ⟨b, 0, none⟩ = _ := hc0
 have u1 : ((w.alloc (zO 26)).drewN nq).cell? ⟨b, 1, none⟩ = _ := hc1
 have v1 : ((w.alloc (zO 26)).drewN nq).cell? ⟨g, k * 3, none⟩ = _ := tb
 have v2 : ((w.alloc (zO 26)).drewN nq).cell? ⟨g, k * 3 + 1, none⟩ = _ := tc
 have v3 : ((w.alloc (zO 26)).drewN nq).cell? ⟨g, k * 3 + 2, none⟩ = _ := td
 have fV : ∀ o, ((w.alloc (zO 26)).drewN nq).frozen? ⟨b, o, none⟩ = false := hfr
 have ZV := hide (ez.below (below_dN (Below.refl _ _) nq))
 have RV := hide ((R0.alloc (zO 26)).drewN nq)
 generalize (w.alloc (zO 26)).drewN nq = V at *
 clear hc0 hc1 hc2 hc3 hc4 hfr ra rb ta tb tc td ez b0
 go_region
 all_goals
  have MV := Mv.of_below (b := b) BV
  have M2 := (MV.alloc (Obj.cells #[.int .i64 (tk : Int), .string ⟨tt.toArray⟩, .int .i64 (tp : Int)] 77)).drew
  have R2 := ((unhide RV).alloc (Obj.cells #[.int .i64 (tk : Int), .string ⟨tt.toArray⟩, .int .i64 (tp : Int)] 77)).drew
  have Z2 := hide (((unhide ZV).alloc (Obj.cells #[.int .i64 (tk : Int), .string ⟨tt.toArray⟩, .int .i64 (tp : Int)] 77)).below (Below.refl _ _).drew)
  clear u0 u1 v1 v2 v3 fV ZV RV MV
  go_wp2_with fail
  refine (must_any _ k _ six _ (R2.alloc _) (unhide HT) (Marks.at (by simp) (by simp; omega) (by decide) (by decide)) (by decide)).mono ?_
  rw [hF]
  have hmk := fnd_mk hF
  clear hF
  have HE := hide ((unhide HR).trans (sign_false hmk))
  clear HR hmk
  rintro e w3 ⟨n3, rfl, R3⟩
  have M3 := (M2.alloc _).trans n3
  obtain ⟨y0, y1, y2, y3, y4, y5, y6, y7, y8, y9⟩ := ((unhide Z2).alloc _).mv n3 (by omega)
  clear n3 Z2
  dsimp only [mTrue, mFalse, mNull]
  go_wp2_with fail
  refine bodyPost_ret (v := .agg #[.int .i64 2, .bool false, .int .i64 0, .int .i64 0, .string ⟨#[]⟩, .bool false, .bool false, .slice none 0 0]) zR154y0y1y2y3y4y5y6y7y8 rfl ?_
  rw [unhide HE]
  exact qpost_ok (B := w.heap.size + 1) M3 R3 R0 (by omega) (Nat.le_refl _) (by omega) (in_leaf _ _ _ _ _ _ _) (leaf_bare _ _ _ _ _ _ _) _ _ _ _ _ _ _ _
set_option maxRecDepth 10000 in
theorem qsign_tok_null (d : Nat) (e1 : Nat → RX) (hp : QPartOf b a cap ts en 72 (d + 1) e1) (hts : GoodTs ts) (h9 : ts.length ≤ 900) (hd : d ≤ 8) (w : World) (k : Nat) (R0 : Qd b a cap ts en w k 0 0) (hk : k < ts.length) (tk : Nat) (tt : List UInt8) (tp : Nat) (hTK : ts[k] = (tk, tt, tp)) (hl : tt.length ≤ 1000) (e2 : ((tk : Int) == 2) = false) (e3 : ((tk : Int) == 3) = false) (e1' : ((tk : Int) == 1) = false) (hF : fnd ts k six = some mNull) :
  Calls Tryz.prog 154 #[.pointer (some ⟨b, 0, none⟩), .int .i64 (d : Int)] w fun e w' => QPost b a cap ts en (signP ts e1 k) k w e w' := by
 have hlt := R0.lt
 have hn := hts.1
 have HT := hide hts
 have HP := hide hp
 clear hts hp
 generalize hRES : signP ts e1 k = RES at *
 have HR := hide hRES.symm
 clear hRES
 obtain ⟨g, rfl, hgb, h0, h1, h2, h3⟩ := R0.row k hk
 have hkl : ¬ (ts.length : Int) ≤ (k : Int) := by omega
 have ez := ZB.new w 26
 have RA := R0.alloc (zO 26)
 obtain ⟨ra, rb, hc0, hc1, hc2, hc3, hc4, hfr, -⟩ := RA
 obtain ⟨ta, tb, tc, td⟩ := (show Tok3 w g (k * 3) ts[k] from ⟨h0, h1, h2, h3⟩).below (below1 w (zO 26))
 rw [hTK] at tb tc td
 dsimp only at tb tc td
 have RH := hide R0
 have b0 := below1 w (zO 26)
 clear h0 h1 h2 h3
 go_enter Tryz.func154, Tryz.ntmps154
 go_wp2_with fail
 go_quiet (fail)
 go_wp2_with fail
 have BV : Below w.heap.size w ((w.alloc (zO 26)).drewN nq) := below_dN b0 nq
 have zV : w.heap.size + 1 ≤ ((w.alloc (zO 26)).drewN nq).heap.size := by show _ ≤ (w.alloc (zO 26)).heap.size; simp
 have lV : b < ((w.alloc (zO 26)).drewN nq).heap.size := ra
 have gV : g < ((w.alloc (zO 26)).drewN nq).heap.size := ta
 have u0 : ((w.alloc (zO 26)).drewN nq).cell? ⟨b, 0, none⟩ = _ := hc0
 have u1 : ((w.alloc (zO 26)).drewN nq).cell? ⟨b, 1, none⟩ = _ := hc1
 have v1 : ((w.alloc (zO 26)).drewN nq).cell? ⟨g, k * 3, none⟩ = _ := tb
 have v2 : ((w.alloc (zO 26)).drewN nq).cell? ⟨g, k * 3 + 1, none⟩ = _ := tc
 have v3 : ((w.alloc (zO 26)).drewN nq).cell? ⟨g, k * 3 + 2, none⟩ = _ := td
 have fV : ∀ o, ((w.alloc (zO 26)).drewN nq).frozen? ⟨b, o, none⟩ = false := hfr
 have ZV := hide (ez.below (below_dN (Below.refl _ _) nq))
 have RV := hide ((R0.alloc (zO 26)).drewN nq)
 generalize (w.alloc (zO 26)).drewN nq = V at *
 clear hc0 hc1 hc2 hc3 hc4 hfr ra rb ta tb tc td ez b0
 go_region
 all_goals
  have MV := Mv.of_below (b := b) BV
  have M2 := (MV.alloc (Obj.cells #[.int .i64 (tk : Int), .string ⟨tt.toArray⟩, .int .i64 (tp : Int)] 77)).drew
  have R2 := ((unhide RV).alloc (Obj.cells #[.int .i64 (tk : Int), .string ⟨tt.toArray⟩, .int .i64 (tp : Int)] 77)).drew
  have Z2 := hide (((unhide ZV).alloc (Obj.cells #[.int .i64 (tk : Int), .string ⟨tt.toArray⟩, .int .i64 (tp : Int)] 77)).below (Below.refl _ _).drew)
  clear u0 u1 v1 v2 v3 fV ZV RV MV
  go_wp2_with fail
  refine (must_any _ k _ six _ (R2.alloc _) (unhide HT) (Marks.at (by simp) (by simp; omega) (by decide) (by decide)) (by decide)).mono ?_
  rw [hF]
  have hmk := fnd_mk hF
  clear hF
  have HE := hide ((unhide HR).trans (sign_null hmk))
  clear HR hmk
  rintro e w3 ⟨n3, rfl, R3⟩
  have M3 := (M2.alloc _).trans n3
  obtain ⟨y0, y1, y2, y3, y4, y5, y6, y7, y8, y9⟩ := ((unhide Z2).alloc _).mv n3 (by omega)
  clear n3 Z2
  dsimp only [mTrue, mFalse, mNull]
  go_wp2_with fail
  refine bodyPost_ret (v := .agg #[.int .i64 1, .bool false, .int .i64 0, .int .i64 0, .string ⟨#[]⟩, .bool false, .bool false, .slice none 0 0]) zR154y0y1y2y3y4y5y6y7y8 rfl ?_
  rw [unhide HE]
  exact qpost_ok (B := w.heap.size + 1) M3 R3 R0 (by omega) (Nat.le_refl _) (by omega) (in_leaf _ _ _ _ _ _ _) (leaf_bare _ _ _ _ _ _ _) _ _ _ _ _ _ _ _
set_option maxRecDepth 10000 in
theorem qsign_tok_none (d : Nat) (e1 : Nat → RX) (hp : QPartOf b a cap ts en 72 (d + 1) e1) (hts : GoodTs ts) (h9 : ts.length ≤ 900) (hd : d ≤ 8) (w : World) (k : Nat) (R0 : Qd b a cap ts en w k 0 0) (hk : k < ts.length) (tk : Nat) (tt : List UInt8) (tp : Nat) (hTK : ts[k] = (tk, tt, tp)) (hl : tt.length ≤ 1000) (e2 : ((tk : Int) == 2) = false) (e3 : ((tk : Int) == 3) = false) (e1' : ((tk : Int) == 1) = false) (hF : fnd ts k six = none) :
  Calls Tryz.prog 154 #[.pointer (some ⟨b, 0, none⟩), .int .i64 (d : Int)] w fun e w' => QPost b a cap ts en (signP ts e1 k) k w e w' := by
 have hlt := R0.lt
 have hn := hts.1
 have HT := hide hts
 have HP := hide hp
 clear hts hp
 generalize hRES : signP ts e1 k = RES at *
 have HR := hide hRES.symm
 clear hRES
 obtain ⟨g, rfl, hgb, h0, h1, h2, h3⟩ := R0.row k hk
 have hkl : ¬ (ts.length : Int) ≤ (k : Int) := by omega
 have ez := ZB.new w 26
 have RA := R0.alloc (zO 26)
 obtain ⟨ra, rb, hc0, hc1, hc2, hc3, hc4, hfr, -⟩ := RA
 obtain ⟨ta, tb, tc, td⟩ := (show Tok3 w g (k * 3) ts[k] from ⟨h0, h1, h2, h3⟩).below (below1 w (zO 26))
 rw [hTK] at tb tc td
 dsimp only at tb tc td
 have RH := hide R0
 have b0 := below1 w (zO 26)
 clear h0 h1 h2 h3
 go_enter Tryz.func154, Tryz.ntmps154
 go_wp2_with fail
 go_quiet (fail)
 go_wp2_with fail
 have BV : Below w.heap.size w ((w.alloc (zO 26)).drewN nq) := below_dN b0 nq
 have zV : w.heap.size + 1 ≤ ((w.alloc (zO 26)).drewN nq).heap.size := by show _ ≤ (w.alloc (zO 26)).heap.size; simp
 have lV : b < ((w.alloc (zO 26)).drewN nq).heap.size := ra
 have gV : g < ((w.alloc (zO 26)).drewN nq).heap.size := ta
 have u0 : ((w.alloc (zO 26)).drewN nq).cell? ⟨b, 0, none⟩ = _ := hc0
 have u1 : ((w.alloc (zO 26)).drewN nq).cell? ⟨b, 1, none⟩ = _ := hc1
 have v1 : ((w.alloc (zO 26)).drewN nq).cell? ⟨g, k * 3, none⟩ = _ := tb
 have v2 : ((w.alloc (zO 26)).drewN nq).cell? ⟨g, k * 3 + 1, none⟩ = _ := tc
 have v3 : ((w.alloc (zO 26)).drewN nq).cell? ⟨g, k * 3 + 2, none⟩ = _ := td
 have fV : ∀ o, ((w.alloc (zO 26)).drewN nq).frozen? ⟨b, o, none⟩ = false := hfr
 have ZV := hide (ez.below (below_dN (Below.refl _ _) nq))
 have RV := hide ((R0.alloc (zO 26)).drewN nq)
 generalize (w.alloc (zO 26)).drewN nq = V at *
 clear hc0 hc1 hc2 hc3 hc4 hfr ra rb ta tb tc td ez b0
 go_region
 all_goals
  have MV := Mv.of_below (b := b) BV
  have M2 := (MV.alloc (Obj.cells #[.int .i64 (tk : Int), .string ⟨tt.toArray⟩, .int .i64 (tp : Int)] 77)).drew
  have R2 := ((unhide RV).alloc (Obj.cells #[.int .i64 (tk : Int), .string ⟨tt.toArray⟩, .int .i64 (tp : Int)] 77)).drew
  have Z2 := hide (((unhide ZV).alloc (Obj.cells #[.int .i64 (tk : Int), .string ⟨tt.toArray⟩, .int .i64 (tp : Int)] 77)).below (Below.refl _ _).drew)
  clear u0 u1 v1 v2 v3 fV ZV RV MV
  go_wp2_with fail
  refine (must_any _ k _ six _ (R2.alloc _) (unhide HT) (Marks.at (by simp) (by simp; omega) (by decide) (by decide)) (by decide)).mono ?_
  rw [hF]
  have HE := hide ((unhide HR).trans (sign_no hF))
  clear HR hF
  rintro e w3 ⟨n3, rfl, R3⟩
  have M3 := (M2.alloc _).trans n3
  obtain ⟨y0, y1, y2, y3, y4, y5, y6, y7, y8, y9⟩ := ((unhide Z2).alloc _).mv n3 (by omega)
  clear n3 Z2
  go_wp2_with fail
  refine bodyPost_ret (v := .agg #[.int .i64 0, .bool false, .int .i64 0, .int .i64 0, .string ⟨#[]⟩, .bool false, .bool false, .slice none 0 0]) zR154y0y1y2y3y4y5y6y7y8 rfl ?_
  rw [unhide HE]
  exact qpost_er (B := w.heap.size + 1) (k' := k) (k2 := k) M3 rfl (Nat.le_refl _) R3 R0 (Nat.le_refl _) (by omega) (zX_in _ _) _ _ _ _ _ _ _ _
end
section
variable {b : Nat} {a : Option Addr} {cap : Nat} {ts : List Tk} {en : Int}
set_option maxRecDepth 10000 in
theorem qsign_tok_brack (d : Nat) (e1 : Nat → RX) (hp : QPartOf b a cap ts en 72 (d + 1) e1) (hts : GoodTs ts) (h9 : ts.length ≤ 900) (hd : d ≤ 8) (w : World) (k : Nat) (R0 : Qd b a cap ts en w k 0 0) (hk : k < ts.length) (tk : Nat) (tt : List UInt8) (tp : Nat) (hTK : ts[k] = (tk, tt, tp)) (hl : tt.length ≤ 1000) (e2 : ((tk : Int) == 2) = false) (e3 : ((tk : Int) == 3) = false) (e1' : ((tk : Int) == 1) = false) (hF : fnd ts k six = some ([40] : Mk)) :
  Calls Tryz.prog 154 #[.pointer (some ⟨b, 0, none⟩), .int .i64 (d : Int)] w fun e w' => QPost b a cap ts en (signP ts e1 k) k w e w' := by
 have hlt := R0.lt
 have hn := hts.1
 have HT := hide hts
 have HP := hide hp
 clear hts hp
 generalize hRES : signP ts e1 k = RES at *
 have HR := hide hRES.symm
 clear hRES
 obtain ⟨g, rfl, hgb, h0, h1, h2, h3⟩ := R0.row k hk
 have hkl : ¬ (ts.length : Int) ≤ (k : Int) := by omega
 have ez := ZB.new w 26
 have RA := R0.alloc (zO 26)
 obtain ⟨ra, rb, hc0, hc1, hc2, hc3, hc4, hfr, -⟩ := RA
 obtain ⟨ta, tb, tc, td⟩ := (show Tok3 w g (k * 3) ts[k] from ⟨h0, h1, h2, h3⟩).below (below1 w (zO 26))
 rw [hTK] at tb tc td
 dsimp only at tb tc td
 have RH := hide R0
 have b0 := below1 w (zO 26)
 clear h0 h1 h2 h3
 go_enter Tryz.func154, Tryz.ntmps154
 go_wp2_with fail
 go_quiet (fail)
 go_wp2_with fail
 have BV : Below w.heap.size w ((w.alloc (zO 26)).drewN nq) := below_dN b0 nq
 have zV : w.heap.size + 1 ≤ ((w.alloc (zO 26)).drewN nq).heap.size := by show _ ≤ (w.alloc (zO 26)).heap.size; simp
 have lV : b < ((w.alloc (zO 26)).drewN nq).heap.size := ra
 have gV : g < ((w.alloc (zO 26)).drewN nq).heap.size := ta
 have u0 : ((w.alloc (zO 26)).drewN nq).cell? ⟨b, 0, none⟩ = _ := hc0
 have u1 : ((w.alloc (zO 26)).drewN nq).cell? ⟨b, 1, none⟩ = _ := hc1
 have v1 : ((w.alloc (zO 26)).drewN nq).cell? ⟨g, k * 3, none⟩ = _ := tb
 have v2 : ((w.alloc (zO 26)).drewN nq).cell? ⟨g, k * 3 + 1, none⟩ = _ := tc
 have v3 : ((w.alloc (zO 26)).drewN nq).cell? ⟨g, k * 3 + 2, none⟩ = _ := td
 have fV : ∀ o, ((w.alloc (zO 26)).drewN nq).frozen? ⟨b, o, none⟩ = false := hfr
 have ZV := hide (ez.below (below_dN (Below.refl _ _) nq))
 have RV := hide ((R0.alloc (zO 26)).drewN nq)
 generalize (w.alloc (zO 26)).drewN nq = V at *
 clear hc0 hc1 hc2 hc3 hc4 hfr ra rb ta tb tc td ez b0
 go_region
 all_goals
  have MV := Mv.of_below (b := b) BV
  have M2 := (MV.alloc (Obj.cells #[.int .i64 (tk : Int), .string ⟨tt.toArray⟩, .int .i64 (tp : Int)] 77)).drew
  have R2 := ((unhide RV).alloc (Obj.cells #[.int .i64 (tk : Int), .string ⟨tt.toArray⟩, .int .i64 (tp : Int)] 77)).drew
  have Z2 := hide (((unhide ZV).alloc (Obj.cells #[.int .i64 (tk : Int), .string ⟨tt.toArray⟩, .int .i64 (tp : Int)] 77)).below (Below.refl _ _).drew)
  clear u0 u1 v1 v2 v3 fV ZV RV MV
  go_wp2_with fail
  refine (must_any _ k _ six _ (R2.alloc _) (unhide HT) (Marks.at (by simp) (by simp; omega) (by decide) (by decide)) (by decide)).mono ?_
  rw [hF]
  have hmk := fnd_mk hF
  clear hF
  have HE := hide ((unhide HR).trans ((sign_brack hmk).trans (brack_s e1 (k + 1))))
  clear HR hmk
  rintro e w3 ⟨n3, rfl, R3⟩
  have M3 := (M2.alloc _).trans n3
  have Z3 := hide (((unhide Z2).alloc _).mv n3 (by omega))
  have z3 : w.heap.size + 1 ≤ w3.heap.size := by have h := n3.size; simp at h; omega
  have Q3 : QS b (some ⟨g, 0, none⟩) cap ts en w3 k (.inl (k + 1)) := ⟨by omega, R3⟩
  clear n3 Z2
  clear R3
  generalize (Sum.inl (k + 1) : St) = s0 at *
  go_wp2_with fail
  refine (expr_s (d + 1) e1 (unhide HP) _ k s0 Q3).mono ?_
  generalize exprX e1 s0 = x1 at *
  generalize exprS e1 s0 = s1 at *
  rintro e w4 ⟨A, rfl, hinA, hbA, Q4, n4⟩
  have Z4 := hide ((unhide Z3).mv n4 (by omega))
  have M4 := M3.trans n4
  have z4 := n4.size
  have HA4 := hide (hinA.weak (Q' := fun g => w.heap.size + 1 ≤ g ∧ g < w4.heap.size) (fun g h1 h2 => by unfold Fr at h2; omega))
  clear Z3 n4 Q3
  obtain ⟨fk, fb, fm, fs, ft, flo, fhi, fa, fl, fc, fkid, rfl⟩ := hinA.form
  clear hinA
  dsimp only [XT.val]
  have XA := hide (XB.new w4 fk fb fm fs ft flo fhi fa fl fc 26)
  go_wp2_with fail
  refine (must_s _ k s1 _ [[41]] _ ((Q4.alloc _).alloc _) (unhide HT) (Marks.at (by simp) (Q4.alloc _).lt (by decide) (by decide)) (by decide)).mono ?_
  have O2 := hide (fun h => must_ok (ts := ts) (ms := [[41]]) (s := s1) h)
  generalize mustM ts [[41]] s1 = m2 at *
  generalize mustS ts [[41]] s1 = s2 at *
  rintro e w5 ⟨rfl, Q5, n5⟩
  have Z5 := (((unhide Z4).alloc _).alloc _).mv n5 (by omega)
  have A5 := ((unhide XA).alloc _).mv n5 (by omega)
  have HA5 := (((unhide HA4).alloc _).alloc _).mv n5 (fun g hg => by omega)
  have M5 := ((M4.alloc _).alloc _).trans n5
  clear Z4 XA HA4 n5 Q4
  obtain ⟨y0, y1, y2, y3, y4, y5, y6, y7, y8, y9⟩ := Z5
  obtain ⟨q0, q1, q2, q3, q4, q5, q6, q7, q8, q9⟩ := A5
  go_wp2_with fail
  refine bodyPost_ret (v := .agg #[.int .i64 fk, .bool fb, .int .i64 fm, .int .i64 fs, .string ft, .bool flo, .bool fhi, .slice fa fl fc]) zR154y0y1y2y3y4y5y6y7y8 rfl ?_
  rw [unhide HE]
  refine QS.post (T := XT.mk fk fb fm fs ft flo fhi fa fl fc fkid) (zMV) (Q5.own8 R0 (Nat.le_refl _) _ _ _ _ _ _ _ _) ?_ (fun ho => hbA (unhide O2 ho))
  refine XT.In.weak (Q := fun g => w.heap.size + 1 ≤ g ∧ g < w4.heap.size) ?_ (fun g _ hg => by unfold Fr; omega)
  exact zIN
end
section
variable {b : Nat} {a : Option Addr} {cap : Nat} {ts : List Tk} {en : Int}
set_option maxRecDepth 10000 in
theorem qsign_tok_list (d : Nat) (e1 : Nat → RX) (hp : QPartOf b a cap ts en 72 (d + 1) e1) (hts : GoodTs ts) (h9 : ts.length ≤ 900) (hd : d ≤ 8) (w : World) (k : Nat) (R0 : Qd b a cap ts en w k 0 0) (hk : k < ts.length) (tk : Nat) (tt : List UInt8) (tp : Nat) (hTK : ts[k] = (tk, tt, tp)) (hl : tt.length ≤ 1000) (e2 : ((tk : Int) == 2) = false) (e3 : ((tk : Int) == 3) = false) (e1' : ((tk : Int) == 1) = false) (hF : fnd ts k six = some ([91] : Mk)) :
  Calls Tryz.prog 154 #[.pointer (some ⟨b, 0, none⟩), .int .i64 (d : Int)] w fun e w' => QPost b a cap ts en (signP ts e1 k) k w e w' := by
 have hlt := R0.lt
 have hn := hts.1
 have HT := hide hts
 have HP := hide hp
 clear hts hp
 generalize hRES : signP ts e1 k = RES at *
 have HR := hide hRES.symm
 clear hRES
 obtain ⟨g, rfl, hgb, h0, h1, h2, h3⟩ := R0.row k hk
 have hkl : ¬ (ts.length : Int) ≤ (k : Int) := by omega
 have ez := ZB.new w 26
 have RA := R0.alloc (zO 26)
 obtain ⟨ra, rb, hc0, hc1, hc2, hc3, hc4, hfr, -⟩ := RA
 obtain ⟨ta, tb, tc, td⟩ := (show Tok3 w g (k * 3) ts[k] from ⟨h0, h1, h2, h3⟩).below (below1 w (zO 26))
 rw [hTK] at tb tc td
 dsimp only at tb tc td
 have RH := hide R0
 have b0 := below1 w (zO 26)
 clear h0 h1 h2 h3
 go_enter Tryz.func154, Tryz.ntmps154
 go_wp2_with fail
 go_quiet (fail)
 go_wp2_with fail
 have BV : Below w.heap.size w ((w.alloc (zO 26)).drewN nq) := below_dN b0 nq
 have zV : w.heap.size + 1 ≤ ((w.alloc (zO 26)).drewN nq).heap.size := by show _ ≤ (w.alloc (zO 26)).heap.size; simp
 have lV : b < ((w.alloc (zO 26)).drewN nq).heap.size := ra
 have gV : g < ((w.alloc (zO 26)).drewN nq).heap.size := ta
 have u0 : ((w.alloc (zO 26)).drewN nq).cell? ⟨b, 0, none⟩ = _ := hc0
 have u1 : ((w.alloc (zO 26)).drewN nq).cell? ⟨b, 1, none⟩ = _ := hc1
 have v1 : ((w.alloc (zO 26)).drewN nq).cell? ⟨g, k * 3, none⟩ = _ := tb
 have v2 : ((w.alloc (zO 26)).drewN nq).cell? ⟨g, k * 3 + 1, none⟩ = _ := tc
 have v3 : ((w.alloc (zO 26)).drewN nq).cell? ⟨g, k * 3 + 2, none⟩ = _ := td
 have fV : ∀ o, ((w.alloc (zO 26)).drewN nq).frozen? ⟨b, o, none⟩ = false := hfr
 have ZV := hide (ez.below (below_dN (Below.refl _ _) nq))
 have RV := hide ((R0.alloc (zO 26)).drewN nq)
 generalize (w.alloc (zO 26)).drewN nq = V at *
 clear hc0 hc1 hc2 hc3 hc4 hfr ra rb ta tb tc td ez b0
 go_region
 all_goals
  have MV := Mv.of_below (b := b) BV
  have M2 := (MV.alloc (Obj.cells #[.int .i64 (tk : Int), .string ⟨tt.toArray⟩, .int .i64 (tp : Int)] 77)).drew
  have R2 := ((unhide RV).alloc (Obj.cells #[.int .i64 (tk : Int), .string ⟨tt.toArray⟩, .int .i64 (tp : Int)] 77)).drew
  have Z2 := hide (((unhide ZV).alloc (Obj.cells #[.int .i64 (tk : Int), .string ⟨tt.toArray⟩, .int .i64 (tp : Int)] 77)).below (Below.refl _ _).drew)
  clear u0 u1 v1 v2 v3 fV ZV RV MV
  go_wp2_with fail
  refine (must_any _ k _ six _ (R2.alloc _) (unhide HT) (Marks.at (by simp) (by simp; omega) (by decide) (by decide)) (by decide)).mono ?_
  rw [hF]
  have hmk := fnd_mk hF
  clear hF
  have HE := hide ((unhide HR).trans ((sign_list hmk).trans (listed_s e1 (k + 1))))
  clear HR hmk
  rintro e w3 ⟨n3, rfl, R3⟩
  have M3 := (M2.alloc _).trans n3
  have Z3 := hide (((unhide Z2).alloc _).mv n3 (by omega))
  have z3 : w.heap.size + 1 ≤ w3.heap.size := by have h := n3.size; simp at h; omega
  have Q3 : QS b (some ⟨g, 0, none⟩) cap ts en w3 k (.inl (k + 1)) := ⟨by omega, R3⟩
  clear n3 Z2
  clear Q3
  go_wp2_with fail
  refine (qrow_any d e1 (unhide HP) (unhide HT) h9 (by omega) [93] rfl rfl (by decide) _ (k + 1) R3).mono ?_
  generalize restP ts e1 [93] (k + 1) = RL0 at *
  rintro e w4 ⟨n4, S4, Ts, v, rfl, HK, hTl, hbr⟩
  have M4 := M3.trans n4
  obtain ⟨y0, y1, y2, y3, y4, y5, y6, y7, y8, y9⟩ := (unhide Z3).mv n4 (by omega)
  obtain ⟨ka, kc, rfl⟩ := HK.form
  obtain ⟨-, HN⟩ := HK.node hTl rfl 9 false 0 0 ⟨#[]⟩ false false
  clear HK n4 Z3
  go_wp2_with fail
  refine bodyPost_ret (v := .agg #[.int .i64 9, .bool false, .int .i64 0, .int .i64 0, .string ⟨#[]⟩, .bool false, .bool false, .slice ka Ts.length kc]) zR154y0y1y2y3y4y5y6y7y8 rfl ?_
  rw [unhide HE]
  have S5 := S4.le (k0 := k) (by omega)
  refine QS.post (T := .mk 9 false 0 0 ⟨#[]⟩ false false ka Ts.length kc (fun i => Ts.getD i .none)) (zMV) (S5.own8 R0 (Nat.le_refl _) _ _ _ _ _ _ _ _) ?_ ?_
  ·have HN2 := HN.weak (Q' := fun g => w.heap.size < g) (fun g _ hg => by unfold Fr at hg; omega)
   refine XT.In.weak (Q := fun g => w.heap.size < g) ?_ (fun g _ hg => by unfold Fr; omega)
   exact zIN
  ·intro ho
   rw [XT.bare_mk, hbr ho]
   rfl
end
section
variable {b : Nat} {a : Option Addr} {cap : Nat} {ts : List Tk} {en : Int}
set_option maxRecDepth 10000 in
theorem qsign_tok_if (d : Nat) (e1 : Nat → RX) (hp : QPartOf b a cap ts en 72 (d + 1) e1) (hts : GoodTs ts) (h9 : ts.length ≤ 900) (hd : d ≤ 8) (w : World) (k : Nat) (R0 : Qd b a cap ts en w k 0 0) (hk : k < ts.length) (tk : Nat) (tt : List UInt8) (tp : Nat) (hTK : ts[k] = (tk, tt, tp)) (hl : tt.length ≤ 1000) (e2 : ((tk : Int) == 2) = false) (e3 : ((tk : Int) == 3) = false) (e1' : ((tk : Int) == 1) = false) (hF : fnd ts k six = some mIf) :
  Calls Tryz.prog 154 #[.pointer (some ⟨b, 0, none⟩), .int .i64 (d : Int)] w fun e w' => QPost b a cap ts en (signP ts e1 k) k w e w' := by
 have hlt := R0.lt
 have hn := hts.1
 have HT := hide hts
 have HP := hide hp
 clear hts hp
 generalize hRES : signP ts e1 k = RES at *
 have HR := hide hRES.symm
 clear hRES
 obtain ⟨g, rfl, hgb, h0, h1, h2, h3⟩ := R0.row k hk
 have hkl : ¬ (ts.length : Int) ≤ (k : Int) := by omega
 have ez := ZB.new w 26
 have RA := R0.alloc (zO 26)
 obtain ⟨ra, rb, hc0, hc1, hc2, hc3, hc4, hfr, -⟩ := RA
 obtain ⟨ta, tb, tc, td⟩ := (show Tok3 w g (k * 3) ts[k] from ⟨h0, h1, h2, h3⟩).below (below1 w (zO 26))
 rw [hTK] at tb tc td
 dsimp only at tb tc td
 have RH := hide R0
 have b0 := below1 w (zO 26)
 clear h0 h1 h2 h3
 go_enter Tryz.func154, Tryz.ntmps154
 go_wp2_with fail
 go_quiet (fail)
 go_wp2_with fail
 have BV : Below w.heap.size w ((w.alloc (zO 26)).drewN nq) := below_dN b0 nq
 have zV : w.heap.size + 1 ≤ ((w.alloc (zO 26)).drewN nq).heap.size := by show _ ≤ (w.alloc (zO 26)).heap.size; simp
 have lV : b < ((w.alloc (zO 26)).drewN nq).heap.size := ra
 have gV : g < ((w.alloc (zO 26)).drewN nq).heap.size := ta
 have u0 : ((w.alloc (zO 26)).drewN nq).cell? ⟨b, 0, none⟩ = _ := hc0
 have u1 : ((w.alloc (zO 26)).drewN nq).cell? ⟨b, 1, none⟩ = _ := hc1
 have v1 : ((w.alloc (zO 26)).drewN nq).cell? ⟨g, k * 3, none⟩ = _ := tb
 have v2 : ((w.alloc (zO 26)).drewN nq).cell? ⟨g, k * 3 + 1, none⟩ = _ := tc
 have v3 : ((w.alloc (zO 26)).drewN nq).cell? ⟨g, k * 3 + 2, none⟩ = _ := td
 have fV : ∀ o, ((w.alloc (zO 26)).drewN nq).frozen? ⟨b, o, none⟩ = false := hfr
 have ZV := hide (ez.below (below_dN (Below.refl _ _) nq))
 have RV := hide ((R0.alloc (zO 26)).drewN nq)
 generalize (w.alloc (zO 26)).drewN nq = V at *
 clear hc0 hc1 hc2 hc3 hc4 hfr ra rb ta tb tc td ez b0
 go_region
 all_goals
  have MV := Mv.of_below (b := b) BV
  have M2 := (MV.alloc (Obj.cells #[.int .i64 (tk : Int), .string ⟨tt.toArray⟩, .int .i64 (tp : Int)] 77)).drew
  have R2 := ((unhide RV).alloc (Obj.cells #[.int .i64 (tk : Int), .string ⟨tt.toArray⟩, .int .i64 (tp : Int)] 77)).drew
  have Z2 := hide (((unhide ZV).alloc (Obj.cells #[.int .i64 (tk : Int), .string ⟨tt.toArray⟩, .int .i64 (tp : Int)] 77)).below (Below.refl _ _).drew)
  clear u0 u1 v1 v2 v3 fV ZV RV MV
  go_wp2_with fail
  refine (must_any _ k _ six _ (R2.alloc _) (unhide HT) (Marks.at (by first | rfl | simp) (by first | omega | (simp; omega)) (by decide) (by decide)) (by decide)).mono ?_
  rw [hF]
  have hmk := fnd_mk hF
  clear hF
  have HE := hide ((unhide HR).trans ((sign_if hmk).trans (choice_s e1 k hmk)))
  clear HR hmk
  rintro e w3 ⟨n3, rfl, R3⟩
  have M3 := (M2.alloc _).trans n3
  have Z3 := hide (((unhide Z2).alloc _).mv n3 (by omega))
  have z3 : w.heap.size + 1 ≤ w3.heap.size := by have h := n3.size; simp at h; omega
  have Q3 : QS b (some ⟨g, 0, none⟩) cap ts en w3 k (.inl (k + 1)) := ⟨by omega, R3⟩
  clear n3 Z2
  clear R3
  generalize (Sum.inl (k + 1) : St) = s0 at *
  dsimp only [mIf]
  go_wp2_with fail
  refine (expr_s (d + 1) e1 (unhide HP) _ k s0 Q3).mono ?_
  generalize exprX e1 s0 = x1 at *
  generalize exprS e1 s0 = s1 at *
  rintro e w4 ⟨A, rfl, hinA, hbA, Q4, n4⟩
  have Z4 := hide ((unhide Z3).mv n4 (by omega))
  have M4 := M3.trans n4
  have z4 := n4.size
  have HA4 := hide (hinA.weak (Q' := fun g => w.heap.size + 1 ≤ g ∧ g < w4.heap.size) (fun g h1 h2 => by unfold Fr at h2; omega))
  clear Z3 n4 Q3
  obtain ⟨fk, fb, fm, fs, ft, flo, fhi, fa, fl, fc, fkid, rfl⟩ := hinA.form
  clear hinA
  dsimp only [XT.val]
  have XA := hide (XB.new w4 fk fb fm fs ft flo fhi fa fl fc 26)
  go_wp2_with fail
  refine (must_s _ k s1 _ [mThen] _ ((Q4.alloc _).alloc _) (unhide HT) (Marks.at (by simp) (Q4.alloc _).lt (by decide) (by decide)) (by decide)).mono ?_
  have O2 := hide (fun h => must_ok (ts := ts) (ms := [mThen]) (s := s1) h)
  generalize mustM ts [mThen] s1 = m2 at *
  generalize mustS ts [mThen] s1 = s2 at *
  rintro e w5 ⟨rfl, Q5, n5⟩
  have Z5 := hide ((((unhide Z4).alloc _).alloc _).mv n5 (by omega))
  have A5 := hide (((unhide XA).alloc _).mv n5 (by omega))
  have HA5 := hide ((((unhide HA4).alloc _).alloc _).mv n5 (fun g hg => by omega))
  have M5 := ((M4.alloc _).alloc _).trans n5
  have z5 : w4.heap.size + 2 ≤ w5.heap.size := by have := n5.size; simpa using this
  clear Z4 XA HA4 n5 Q4
  go_wp2_with fail
  refine (expr_s (d + 1) e1 (unhide HP) _ k s2 Q5).mono ?_
  have O3 := hide (fun h => expr_ok (e1 := e1) (s := s2) h)
  generalize exprX e1 s2 = x3 at *
  generalize exprS e1 s2 = s3 at *
  rintro e w6 ⟨C, rfl, hinC, hbC, Q6, n6⟩
  have Z6 := hide ((unhide Z5).mv n6 (by omega))
  have A6 := hide ((unhide A5).mv n6 (by omega))
  have HA6 := hide ((unhide HA5).mv n6 (fun g hg => by omega))
  have M6 := M5.trans n6
  have z6 := n6.size
  have HC6 := hide (hinC.weak (Q' := fun g => w5.heap.size ≤ g ∧ g < w6.heap.size) (fun g h1 h2 => by unfold Fr at h2; omega))
  clear Z5 A5 HA5 n6 Q5
  obtain ⟨hk, hb, hm, hs, ht, hlo, hhi, ha, hl, hc, hkid, rfl⟩ := hinC.form
  clear hinC
  dsimp only [XT.val]
  have XC := hide (XB.new w6 hk hb hm hs ht hlo hhi ha hl hc 26)
  go_wp2_with fail
  refine (must_s _ k s3 _ [mElse] _ ((Q6.alloc _).alloc _) (unhide HT) (Marks.at (by simp) (Q6.alloc _).lt (by decide) (by decide)) (by decide)).mono ?_
  have O4 := hide (fun h => must_ok (ts := ts) (ms := [mElse]) (s := s3) h)
  generalize mustM ts [mElse] s3 = m4 at *
  generalize mustS ts [mElse] s3 = s4 at *
  rintro e w7 ⟨rfl, Q7, n7⟩
  have Z7 := hide ((((unhide Z6).alloc _).alloc _).mv n7 (by omega))
  have A7 := hide ((((unhide A6).alloc _).alloc _).mv n7 (by omega))
  have C7 := hide (((unhide XC).alloc _).mv n7 (by omega))
  have HA7 := hide ((((unhide HA6).alloc _).alloc _).mv n7 (fun g hg => by omega))
  have HC7 := hide ((((unhide HC6).alloc _).alloc _).mv n7 (fun g hg => by omega))
  have M7 := ((M6.alloc _).alloc _).trans n7
  have z7 : w6.heap.size + 2 ≤ w7.heap.size := by have := n7.size; simpa using this
  clear Z6 A6 XC HA6 HC6 n7 Q6
  have PC := hide (expr_s (d + 1) e1 (unhide HP) w7.drew k s4 (Q7.below (Below.refl _ _).drew))
  have O5 := hide (fun h => expr_ok (e1 := e1) (s := s4) h)
  generalize exprX e1 s4 = x5 at *
  generalize exprS e1 s4 = s5 at *
  go_wp2_with fail
  refine wp_region_noPanic ?_
  refine wp_region_held_drew (S := fun w' => XB w' w4.heap.size fk fb fm fs ft flo fhi fa fl fc ∧ XB w' w6.heap.size hk hb hm hs ht hlo hhi ha hl hc) (by kernel_rfl) ⟨(unhide A7).below (Below.refl _ _).drew, (unhide C7).below (Below.refl _ _).drew⟩ (fun hHeld => ?_)
  refine takeAt 0 (some 153) (.agg #[.int .i64 fk, .bool fb, .int .i64 fm, .int .i64 fs, .string ft, .bool flo, .bool fhi, .slice fa fl fc]) ⟨_, rfl, rfl, rfl, ?_⟩ (by kernel_rfl) (by kernel_rfl) (by kernel_rfl) (fun _ _ _ h => h) (by assumption) ?_
  ·intro w0 hSw; obtain ⟨⟨p0, p1, p2, p3, p4, p5, p6, p7, p8, p9⟩, -⟩ := hSw; go_simp; try (with_reducible rfl)
  simp only [Act.put, List.setIfInBounds_toArray, List.set_cons_zero, List.set_cons_succ]
  refine takeAt 1 (some 154) (.agg #[.int .i64 hk, .bool hb, .int .i64 hm, .int .i64 hs, .string ht, .bool hlo, .bool hhi, .slice ha hl hc]) ⟨_, rfl, rfl, rfl, ?_⟩ (by kernel_rfl) (by kernel_rfl) (by kernel_rfl) (fun _ _ _ h => h) (by assumption) ?_
  ·intro w0 hSw; obtain ⟨-, ⟨p0, p1, p2, p3, p4, p5, p6, p7, p8, p9⟩⟩ := hSw; go_simp; try (with_reducible rfl)
  simp only [Act.put, List.setIfInBounds_toArray, List.set_cons_zero, List.set_cons_succ]
  refine takeAt 2 (some 155) (.pointer (some ⟨b, 0, none⟩)) ⟨_, rfl, rfl, rfl, ?_⟩ (by kernel_rfl) (by kernel_rfl) (by kernel_rfl) (fun _ _ _ h => h) (by assumption) ?_
  ·intro w0 hSw; clear hSw; go_simp; try (with_reducible rfl)
  simp only [Act.put, List.setIfInBounds_toArray, List.set_cons_zero, List.set_cons_succ]
  refine takeAt 3 (some 156) (.int .i64 (d : Int)) ⟨_, rfl, rfl, rfl, ?_⟩ (by kernel_rfl) (by kernel_rfl) (by kernel_rfl) (fun _ _ _ h => h) (by assumption) ?_
  ·intro w0 hSw; clear hSw; go_simp; try (with_reducible rfl)
  simp only [Act.put, List.setIfInBounds_toArray, List.set_cons_zero, List.set_cons_succ]
  refine takeAt 4 (some 157) (.int .i64 ((d : Int) + 1)) ⟨_, rfl, rfl, rfl, ?_⟩ (by kernel_rfl) (by kernel_rfl) (by kernel_rfl) (fun _ _ _ h => h) (by assumption) ?_
  ·intro w0 hSw; clear hSw; go_simp; exact i64_in (by omega) (by omega)
  simp only [Act.put, List.setIfInBounds_toArray, List.set_cons_zero, List.set_cons_succ]
  refine wpAnyH_ready (rs := [5]) (by kernel_rfl) (by simp) ?_
  refine AllReadyH.cons rfl (fun K0 hK0 => ?_) AllReadyH.nil
  go_simp
  refine (unhide PC).mono ?_
  rintro e w8 ⟨U, rfl, hinU, hbU, Q8, n8'⟩
  have n8 : Mv b w7 w8 := ⟨n8'.os, n8'.tape, n8'.output, n8'.size, n8'.block⟩
  have Z8 := hide ((unhide Z7).mv n8 (by omega))
  have A8 := hide ((unhide A7).mv n8 (by omega))
  have C8 := hide ((unhide C7).mv n8 (by omega))
  have HA8 := hide ((unhide HA7).mv n8 (fun g hg => by omega))
  have HC8 := hide ((unhide HC7).mv n8 (fun g hg => by omega))
  have M8 := M7.trans n8
  have z8 := n8.size
  have HU := hide (hinU.weak (Q' := fun g => w7.heap.size ≤ g ∧ g < w8.heap.size) (fun g h1 h2 => by unfold Fr at h2; exact ⟨h2, h1⟩))
  obtain ⟨uk, ub, um, us, ut, ulo, uhi, ua, ul, uc, ukid, rfl⟩ := hinU.form
  clear hinU n8 n8'
  dsimp only [XT.val]
  go_wp2_with fail
  refine hK0.out _ _ ⟨unhide A8, unhide C8⟩ (fun hHeld1 => ?_)
  clear hK0 K0 hHeld hHeld1
  try simp only [Act.put, List.setIfInBounds_toArray, List.set_cons_zero, List.set_cons_succ]
  refine wpAnyH_ready (rs := [6]) (by kernel_rfl) (by simp) ?_
  refine AllReadyH.cons rfl (fun K0 hK0 => ?_) AllReadyH.nil
  go_simp
  refine hK0.out _ _ ⟨(unhide A8).alloc _, (unhide C8).alloc _⟩ (fun hHeld => ?_)
  clear hK0 K0
  try simp only [Act.put, List.setIfInBounds_toArray, List.set_cons_zero, List.set_cons_succ]
  refine takeAt 7 (some 160) (.agg #[.int .i64 8, .bool false, .int .i64 0, .int .i64 0, .string ⟨#[]⟩, .bool false, .bool false, .slice (some ⟨w8.heap.size, 0, none⟩) 3 3]) ⟨_, rfl, rfl, rfl, ?_⟩ (by kernel_rfl) (by kernel_rfl) (by kernel_rfl) (fun _ _ _ h => h) (by assumption) ?_
  ·intro w0 hSw; clear hSw; go_simp; try (with_reducible rfl)
  simp only [Act.put, List.setIfInBounds_toArray, List.set_cons_zero, List.set_cons_succ]
  refine wpAnyH_ready (rs := [8]) (by kernel_rfl) (by simp) ?_
  refine AllReadyH.cons rfl (fun K0 hK0 => ?_) AllReadyH.nil
  obtain ⟨x0, x1, x2, x3, x4, x5, x6, x7, x8, x9⟩ := unhide Z8
  go_simp
  refine hK0.out _ _ ⟨((unhide A8).set8 (by omega) _ _ _ _ _ _ _ _).alloc _, ((unhide C8).set8 (by omega) _ _ _ _ _ _ _ _).alloc _⟩ (fun hHeld1 => ?_)
  clear hK0 K0 hHeld hHeld1
  try simp only [Act.put, List.setIfInBounds_toArray, List.set_cons_zero, List.set_cons_succ]
  refine wpAnyH_done (by kernel_rfl) ?_ _
  refine NoPanic.normal ?_
  all_goals
   go_wp2_with fail
   refine bodyPost_ret (v := .agg #[.int .i64 8, .bool false, .int .i64 0, .int .i64 0, .string ⟨#[]⟩, .bool false, .bool false, .slice (some ⟨w8.heap.size, 0, none⟩) 3 3]) (by simp [results, Tryz.results154, go_sem, x0, x1, x2, x3, x4, x5, x6, x7, x8]) rfl ?_
   rw [unhide HE]
   refine QS.post (T := .mk 8 false 0 0 ⟨#[]⟩ false false (some ⟨w8.heap.size, 0, none⟩) 3 3 (fun i => [XT.mk fk fb fm fs ft flo fhi fa fl fc fkid, XT.mk hk hb hm hs ht hlo hhi ha hl hc hkid, XT.mk uk ub um us ut ulo uhi ua ul uc ukid].getD i .none)) (zMV) ((Q8.own8 R0 (Nat.le_refl _) _ _ _ _ _ _ _ _).alloc _) ?_ ?_
   ·refine in_row (by show w.heap.size ≤ _; omega) [XT.mk fk fb fm fs ft flo fhi fa fl fc fkid, XT.mk hk hb hm hs ht hlo hhi ha hl hc hkid, XT.mk uk ub um us ut ulo uhi ua ul uc ukid] (by simp [maxLen]) (row_block (heap_at (by simp [World.setCell]) _) _ (by simp [mk_cells]) rfl) ?_ 8 false 0 0 ⟨#[]⟩ _ _ 3
    simp only [List.mem_cons, List.not_mem_nil, or_false, forall_eq_or_imp, forall_eq]
    have HA9 := unhide HA8
    have HC9 := unhide HC8
    have HU9 := unhide HU
    refine ⟨XT.In.weak (Q := fun g => w.heap.size + 1 ≤ g ∧ g < w4.heap.size) ?_ (fun g _ hg => by unfold Fr; omega), XT.In.weak (Q := fun g => w5.heap.size ≤ g ∧ g < w6.heap.size) ?_ (fun g _ hg => by unfold Fr; omega), XT.In.weak (Q := fun g => w7.heap.size ≤ g ∧ g < w8.heap.size) ?_ (fun g _ hg => by unfold Fr; omega)⟩
    ·exact zIN
    ·exact zIN
    ·exact zIN
   ·intro ho
    have h4 := unhide O5 ho
    have h3 := unhide O4 h4
    have h2 := unhide O3 h3
    rw [← hbA (unhide O2 h2), ← hbC h3, ← hbU ho]
    exact XT.bare_mk 8 false 0 0 ⟨#[]⟩ false false (some ⟨w8.heap.size, 0, none⟩) 3 [XT.mk fk fb fm fs ft flo fhi fa fl fc fkid, XT.mk hk hb hm hs ht hlo hhi ha hl hc hkid, XT.mk uk ub um us ut ulo uhi ua ul uc ukid]
end
end Go.Proofs.YtfdimdjmnfdecaaGreat
