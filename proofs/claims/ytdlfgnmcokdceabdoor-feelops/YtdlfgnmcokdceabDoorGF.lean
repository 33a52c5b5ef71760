/- FDec FConst FAtoms FChoice FCmp: laid together. -/
import Derived.Test.YtdlfgnmcokdceabDoorGB
import Derived.Test.YtdlfgnmcokdceabDoorGE
import Derived.Test.YtdlfgnmcokdceabDoorGC
/- dec's Parse and the document's, as a function of the text. -/
namespace Go.Proofs.YtdlfgnmcokdceabDoor
open Go.RowKit
set_option linter.unusedVariables false

theorem decR_bad {r : List UInt8} (neg : Bool) (h : Bad r) : decR neg r = (0, 0, 2) := by
  unfold decR
  split
  · rfl
  rename_i h0
  split
  · rename_i h1
    rcases h with h | ⟨h, _⟩ | ⟨h, _⟩ <;> omega
  rename_i h1
  split
  · rename_i h2
    obtain ⟨ha, hb, hc⟩ := h2
    rcases h with h | ⟨hl, hx⟩ | ⟨hl, _, _, hx⟩
    · exact absurd h h0
    · rw [drop_cons hl, List.head?_cons] at ha
      rw [Option.some.inj ha] at hx
      exact absurd rfl hx
    · omega
  · rfl
theorem decR_w {r : List UInt8} (neg : Bool) (ha : r.all isDig = true) (la : 1 ≤ r.length) : decR neg r = if 18 < r.length then (0, 0, 3) else fit3 neg (num r) 0 := by
  have := irun_self ha
  unfold decR
  rw [if_neg (by omega), if_pos this]
theorem decR_f {r : List UInt8} (neg : Bool) (a b : List UInt8) (hr : r = a ++ 46 :: b) (ha : a.all isDig = true) (hb : b.all isDig = true) (la : 1 ≤ a.length) (lb : 1 ≤ b.length) :
    decR neg r = if 18 < a.length + b.length ∨ 8 < b.length then (0, 0, 3) else fit3 neg (num (a ++ b)) b.length := by
  have h46 : run isDig (46 :: b) = 0 := by rw [run, if_neg (by decide)]
  have h1 : run isDig r = a.length := by rw [hr, irun_app ha, h46, Nat.add_zero]
  have e2 : r.drop (a.length + 1) = b := by rw [hr, ← List.drop_drop]; simp
  have e1 : r.take a.length = a := by rw [hr]; simp
  have e3 : r.drop a.length = 46 :: b := by rw [hr]; simp
  have h2 := irun_self hb
  have hl : r.length = a.length + 1 + b.length := by rw [hr]; simp; omega
  unfold decR
  rw [h1, e2, e3, e1, h2]
  rw [if_neg (by omega), if_neg (by omega), if_pos ⟨rfl, by omega, by omega⟩]
theorem decP_neg {l : List UInt8} (h0 : 0 < l.length) (h : l[0].toNat = 45) : decP l = decR true (l.drop 1) := by
  unfold decP
  cases l with
  | nil => exact absurd h0 (Nat.not_lt_zero _)
  | cons c t =>
    have : c = 45 := UInt8.toNat.inj (by simpa using h)
    simp [this]
theorem decP_pos {l : List UInt8} (h0 : 0 < l.length) (h : l[0].toNat ≠ 45) : decP l = decR false (l.drop 0) := by
  unfold decP
  cases l with
  | nil => exact absurd h0 (Nat.not_lt_zero _)
  | cons c t =>
    have : ¬ c = 45 := fun e => h (by simp [e])
    simp [this]
def PA3 (f : Nat) (l : List UInt8) (D : Int × Int × Int) : Prop := PA f l D.1 D.2.1 D.2.2
theorem dec_both (l : List UInt8) (hl : l.length ≤ 1000) : PA 71 l (decP l).1 (decP l).2.1 (decP l).2.2 ∧ PA 69 l (decP l).1 (decP l).2.1 (decP l).2.2 := by
  show PA3 _ l (decP l) ∧ PA3 _ l (decP l)
  cases hl0 : l with
  | nil => exact ⟨dp_bad (r := []) (neg := false) (fun w => cutp_nil w) (by simp) (Or.inl rfl), fun w => rparse_nil w⟩
  | cons c t =>
    rw [← hl0]
    have h0 : 0 < l.length := by rw [hl0]; simp
    have hg : l[0] = c := by simp [hl0]
    by_cases h45 : c.toNat = 45
    · have hc45 : c = 45 := UInt8.toNat.inj (by rw [h45]; rfl)
      have hdr : l.drop 1 = t := by rw [hl0]; rfl
      have hcp : CP l (l.drop 1) true := by
        rw [hdr, hl0, hc45]
        exact fun w => cutp_yes t w (by rw [hl0] at hl; simp at hl; omega)
      have hrl : (l.drop 1).length ≤ 1000 := by rw [List.length_drop]; omega
      have g45 : l[0].toNat = 45 := by rw [hg]; exact h45
      rw [decP_neg h0 g45]
      rcases shapes (l.drop 1) with hb | ⟨ha, la⟩ | ⟨a, b, hr, ha, hb, la, lb⟩
      · rw [decR_bad true hb]
        exact ⟨dp_bad hcp hrl hb, fun w => rparse_bad_neg l w hl h0 g45 hb⟩
      · rw [decR_w true ha la]
        by_cases h18 : 18 < (l.drop 1).length
        · rw [if_pos h18]
          exact ⟨(dp_w hcp hrl ha la).1 h18, fun w => rparse_over_negw l w hl h0 g45 ha la h18⟩
        · rw [if_neg h18]
          exact ⟨(dp_w hcp hrl ha la).2 (by omega), fun w => rparse_ok_negw l w hl h0 g45 ha la (by omega)⟩
      · rw [decR_f true a b hr ha hb la lb]
        by_cases ho : 18 < a.length + b.length ∨ 8 < b.length
        · rw [if_pos ho]
          exact ⟨(dp_f hcp hrl a b hr ha hb la lb).1 ho, fun w => rparse_over_negf l w hl h0 g45 a b hr ha hb la lb ho⟩
        · rw [if_neg ho]
          exact ⟨(dp_f hcp hrl a b hr ha hb la lb).2 (by omega) (by omega), fun w => rparse_ok_negf l w hl h0 g45 a b hr ha hb la lb (by omega) (by omega)⟩
    · have hcp : CP l (l.drop 0) false := by
        rw [List.drop_zero, hl0]
        exact fun w => cutp_no c t w (by rw [hl0] at hl; simp at hl; omega) (fun e => h45 (by rw [e]; rfl))
      have hrl : (l.drop 0).length ≤ 1000 := by rw [List.length_drop]; omega
      have g45 : l[0].toNat ≠ 45 := by rw [hg]; exact h45
      rw [decP_pos h0 g45]
      rcases shapes (l.drop 0) with hb | ⟨ha, la⟩ | ⟨a, b, hr, ha, hb, la, lb⟩
      · rw [decR_bad false hb]
        exact ⟨dp_bad hcp hrl hb, fun w => rparse_bad_pos l w hl h0 g45 hb⟩
      · rw [decR_w false ha la]
        by_cases h18 : 18 < (l.drop 0).length
        · rw [if_pos h18]
          exact ⟨(dp_w hcp hrl ha la).1 h18, fun w => rparse_over_posw l w hl h0 g45 ha la h18⟩
        · rw [if_neg h18]
          exact ⟨(dp_w hcp hrl ha la).2 (by omega), fun w => rparse_ok_posw l w hl h0 g45 ha la (by omega)⟩
      · rw [decR_f false a b hr ha hb la lb]
        by_cases ho : 18 < a.length + b.length ∨ 8 < b.length
        · rw [if_pos ho]
          exact ⟨(dp_f hcp hrl a b hr ha hb la lb).1 ho, fun w => rparse_over_posf l w hl h0 g45 a b hr ha hb la lb ho⟩
        · rw [if_neg ho]
          exact ⟨(dp_f hcp hrl a b hr ha hb la lb).2 (by omega) (by omega), fun w => rparse_ok_posf l w hl h0 g45 a b hr ha hb la lb (by omega) (by omega)⟩
end Go.Proofs.YtdlfgnmcokdceabDoor

/- The contracts of the reader's constant and number. -/
namespace Go.Proofs.YtdlfgnmcokdceabDoor
open Go.RowKit
set_option linter.unusedVariables false
set_option linter.unusedSimpArgs false
variable {b : Nat} {a : Option Addr} {cap : Nat} {ts : List Tk}

theorem leaf_bare (k : Int) (b : Bool) (m s : Int) (t : ByteArray) (lo hi : Bool) : (XT.mk k b m s t lo hi none 0 0 (fun i => [].getD i .none)).bare = .mkX k b m s t lo hi [] := XT.bare_mk k b m s t lo hi none 0 []

set_option maxHeartbeats 4000000 in
theorem constant_any (hts : GoodTs ts) (w : World) (k : Nat) (R : Rd b a cap ts w k) :
    Calls Tryd.prog 68 #[.pointer (some ⟨b, 0, none⟩)] w fun e w' => Post b a cap ts (constP ts k) k w e w' := by
  have R0 := R
  have hlt := R.lt
  have HT := hide hts
  clear R hts
  have HR := hide (constP.eq_1 ts k)
  generalize constP ts k = RES at *
  have z0 := hide (ZB.new w 28)
  go_enter Tryd.func68, Tryd.ntmps68
  go_wp2_with fail
  refine (pass_any _ k _ [mNull, mTrue, mFalse] _ ((R0.alloc _).alloc _) (unhide HT) (Marks.at (by simp) (by simp; omega) (by decide) (by decide))).mono ?_
  rw [show fnd ts k [mNull, mTrue, mFalse] = if mkB ts k mNull = true then some mNull else if mkB ts k mTrue = true then some mTrue else if mkB ts k mFalse = true then some mFalse else none from rfl]
  cases h1 : mkB ts k mNull with
  | true =>
    rw [if_pos rfl]
    rw [h1, if_pos rfl] at HR
    clear h1
    rintro e w1 ⟨n1, rfl, R1⟩
    have Z1 := ((unhide z0).alloc _).mv n1 (by omega)
    have M1 := (((Mv.refl b w).alloc _).alloc _).trans n1
    clear z0 n1
    obtain ⟨y0, y1, y2, y3, y4, y5, y6, y7, y8, y9⟩ := Z1
    dsimp only [mNull]
    go_wp2_with fail
    refine bodyPost_ret (v := .tuple #[.agg #[.int .i64 1, .bool false, .int .i64 0, .int .i64 0, .string ⟨#[]⟩, .bool false, .bool false, .slice none 0 0], .int .i64 0]) (by simp [results, Tryd.results68, go_sem, y0, y1, y2, y3, y4, y5, y6, y7, y8]) rfl ?_
    rw [unhide HR]
    exact post_ok (B := w.heap.size + 1) M1 R1 R0 (by omega) (Nat.le_refl _) (by omega) (in_leaf _ _ _ _ _ _ _) (leaf_bare _ _ _ _ _ _ _) _ _ _ _ _ _ _ _
  | false =>
    rw [if_neg (by decide)]
    rw [h1, if_neg (by decide)] at HR
    clear h1
    cases h2 : mkB ts k mTrue with
    | true =>
      rw [if_pos rfl]
      rw [h2, if_pos rfl] at HR
      clear h2
      rintro e w1 ⟨n1, rfl, R1⟩
      have Z1 := ((unhide z0).alloc _).mv n1 (by omega)
      have M1 := (((Mv.refl b w).alloc _).alloc _).trans n1
      clear z0 n1
      obtain ⟨y0, y1, y2, y3, y4, y5, y6, y7, y8, y9⟩ := Z1
      dsimp only [mTrue]
      go_wp2_with fail
      refine bodyPost_ret (v := .tuple #[.agg #[.int .i64 2, .bool true, .int .i64 0, .int .i64 0, .string ⟨#[]⟩, .bool false, .bool false, .slice none 0 0], .int .i64 0]) (by simp [results, Tryd.results68, go_sem, y0, y1, y2, y3, y4, y5, y6, y7, y8]) rfl ?_
      rw [unhide HR]
      exact post_ok (B := w.heap.size + 1) M1 R1 R0 (by omega) (Nat.le_refl _) (by omega) (in_leaf _ _ _ _ _ _ _) (leaf_bare _ _ _ _ _ _ _) _ _ _ _ _ _ _ _
    | false =>
      rw [if_neg (by decide)]
      rw [h2, if_neg (by decide)] at HR
      clear h2
      cases h3 : mkB ts k mFalse with
      | true =>
        rw [if_pos rfl]
        rw [h3, if_pos rfl] at HR
        clear h3
        rintro e w1 ⟨n1, rfl, R1⟩
        have Z1 := ((unhide z0).alloc _).mv n1 (by omega)
        have M1 := (((Mv.refl b w).alloc _).alloc _).trans n1
        clear z0 n1
        obtain ⟨y0, y1, y2, y3, y4, y5, y6, y7, y8, y9⟩ := Z1
        dsimp only [mFalse]
        go_wp2_with fail
        refine bodyPost_ret (v := .tuple #[.agg #[.int .i64 2, .bool false, .int .i64 0, .int .i64 0, .string ⟨#[]⟩, .bool false, .bool false, .slice none 0 0], .int .i64 0]) (by simp [results, Tryd.results68, go_sem, y0, y1, y2, y3, y4, y5, y6, y7, y8]) rfl ?_
        rw [unhide HR]
        exact post_ok (B := w.heap.size + 1) M1 R1 R0 (by omega) (Nat.le_refl _) (by omega) (in_leaf _ _ _ _ _ _ _) (leaf_bare _ _ _ _ _ _ _) _ _ _ _ _ _ _ _
      | false =>
        rw [if_neg (by decide)]
        rw [h3, if_neg (by decide)] at HR
        clear h3
        rintro e w1 ⟨n1, rfl, R1⟩
        have Z1 := ((unhide z0).alloc _).mv n1 (by omega)
        have M1 := (((Mv.refl b w).alloc _).alloc _).trans n1
        clear z0 n1
        obtain ⟨y0, y1, y2, y3, y4, y5, y6, y7, y8, y9⟩ := Z1
        go_wp2_with fail
        refine bodyPost_ret (v := .tuple #[.agg #[.int .i64 0, .bool false, .int .i64 0, .int .i64 0, .string ⟨#[]⟩, .bool false, .bool false, .slice none 0 0], .int .i64 2]) (by simp [results, Tryd.results68, go_sem, y0, y1, y2, y3, y4, y5, y6, y7, y8]) rfl ?_
        rw [unhide HR]
        exact ⟨by (repeat (first | with_reducible assumption | with_reducible exact Mv.refl _ _ | with_reducible refine Mv.alloc ?_ _ | (with_reducible refine Mv.own ?_ ?_ _; rotate_left; (focus (first | omega | (simp; done) | (simp; omega) | (dsimp only; omega)))) | with_reducible refine Mv.put ?_ _ _ | with_reducible refine Mv.drewN ?_ _ | with_reducible refine Mv.drew ?_)), by omega, by (repeat (first | with_reducible assumption | with_reducible refine Rd.alloc ?_ _ | (with_reducible refine Rd.own ?_ R0 ?_ _; rotate_left; (focus (first | omega | (simp; done) | (simp; omega) | (dsimp only; omega)))) | with_reducible refine Rd.drewN ?_ _ | with_reducible refine Rd.drew ?_)), rfl, rfl⟩

set_option maxHeartbeats 4000000 in
theorem fnumber_any (t : Mk) (w : World) (k : Nat) (R : Rd b a cap ts w k) (hk : k < ts.length) (hl : t.length ≤ 1000) (hn : ts.length ≤ 1000) :
    Calls Tryd.prog 63 #[.pointer (some ⟨b, 0, none⟩), .string ⟨t.toArray⟩] w fun e w' => Post b a cap ts (numP t k) k w e w' := by
  have R0 := R
  have hlt := R.lt
  clear R
  have HR := hide (numP.eq_1 t k)
  generalize numP t k = RES at *
  have z0 := hide (ZB.new w 28)
  have P := hide ((dec_both t hl).1 (w.alloc (zO 28)))
  generalize decP t = D at *
  obtain ⟨dm, ds, de⟩ := D
  dsimp only at P HR
  go_enter Tryd.func63, Tryd.ntmps63
  go_wp2_with fail
  refine (unhide P).mono ?_
  rintro e w1 ⟨rfl, b1⟩
  have Z1 := (unhide z0).below b1
  have R1 := (R0.alloc _).below b1
  have M1 := ((Mv.refl b w).alloc _).below b1
  clear z0 b1 P
  obtain ⟨y0, y1, y2, y3, y4, y5, y6, y7, y8, y9⟩ := Z1
  by_cases hde : de = 0
  · subst hde
    rw [if_pos rfl] at HR
    have R1' := hide R1
    obtain ⟨r1, r2, r3, r4, r5, -⟩ := R1
    go_wp2_with fail
    refine bodyPost_ret (v := .tuple #[.agg #[.int .i64 3, .bool false, .int .i64 dm, .int .i64 ds, .string ⟨#[]⟩, .bool false, .bool false, .slice none 0 0], .int .i64 0]) (by simp [results, Tryd.results63, go_sem, y0, y1, y2, y3, y4, y5, y6, y7, y8]) rfl ?_
    rw [unhide HR]
    have hP := (unhide R1').put (k' := k + 1) (by omega)
    rw [show (((k + 1 : Nat)) : Int) = (k : Int) + 1 by omega] at hP
    refine ⟨by (repeat (first | with_reducible assumption | with_reducible exact Mv.refl _ _ | with_reducible refine Mv.alloc ?_ _ | (with_reducible refine Mv.own ?_ ?_ _; rotate_left; (focus (first | omega | (simp; done) | (simp; omega) | (dsimp only; omega)))) | with_reducible refine Mv.put ?_ _ _ | with_reducible refine Mv.drewN ?_ _ | with_reducible refine Mv.drew ?_)), by omega, by (repeat (first | with_reducible assumption | with_reducible refine Rd.alloc ?_ _ | (with_reducible refine Rd.own ?_ R0 ?_ _; rotate_left; (focus (first | omega | (simp; done) | (simp; omega) | (dsimp only; omega)))) | with_reducible refine Rd.drewN ?_ _ | with_reducible refine Rd.drew ?_)), _, rfl, in_leaf _ _ _ _ _ _ _, leaf_bare _ _ _ _ _ _ _⟩
  · rw [if_neg hde] at HR
    have hde' : (de != 0) = true := by simpa using hde
    clear hde
    go_wp2_with fail
    refine bodyPost_ret (v := .tuple #[.agg #[.int .i64 0, .bool false, .int .i64 0, .int .i64 0, .string ⟨#[]⟩, .bool false, .bool false, .slice none 0 0], .int .i64 de]) (by simp [results, Tryd.results63, go_sem, y0, y1, y2, y3, y4, y5, y6, y7, y8]) rfl ?_
    rw [unhide HR]
    exact ⟨by (repeat (first | with_reducible assumption | with_reducible exact Mv.refl _ _ | with_reducible refine Mv.alloc ?_ _ | (with_reducible refine Mv.own ?_ ?_ _; rotate_left; (focus (first | omega | (simp; done) | (simp; omega) | (dsimp only; omega)))) | with_reducible refine Mv.put ?_ _ _ | with_reducible refine Mv.drewN ?_ _ | with_reducible refine Mv.drew ?_)), by omega, by (repeat (first | with_reducible assumption | with_reducible refine Rd.alloc ?_ _ | (with_reducible refine Rd.own ?_ R0 ?_ _; rotate_left; (focus (first | omega | (simp; done) | (simp; omega) | (dsimp only; omega)))) | with_reducible refine Rd.drewN ?_ _ | with_reducible refine Rd.drew ?_)), hde', rfl⟩
end Go.Proofs.YtdlfgnmcokdceabDoor

/- The contracts of the reader's listed, named, bracketed. -/
namespace Go.Proofs.YtdlfgnmcokdceabDoor
open Go.RowKit
set_option linter.unusedVariables false
set_option linter.unusedSimpArgs false
variable {b : Nat} {a : Option Addr} {cap : Nat} {ts : List Tk}

set_option maxHeartbeats 4000000 in
theorem listed_any (d : Nat) (e1 : Nat → RX) (hp : PartOf b a cap ts 21 d e1) (hts : GoodTs ts) : PartOf b a cap ts 65 d (listedP ts e1) := by
  intro w k R
  have R0 := R
  have hlt := R.lt
  have HP := hide hp
  have HT := hide hts
  clear R hp hts
  have HR := hide (listedP.eq_1 ts e1 k)
  generalize listedP ts e1 k = RES at *
  have z0 := hide (ZB.new w 28)
  go_enter Tryd.func65, Tryd.ntmps65
  go_wp2_with fail
  refine (rest_any d e1 (unhide HP) (unhide HT) [93] rfl rfl (by decide) _ k (R0.alloc _)).mono ?_
  cases hE : restP ts e1 [93] k with
  | er c1 k1 =>
    rw [hE] at HR
    clear hE
    rintro e w1 ⟨n1, hk1, R1, hc1, rfl⟩
    have Z1 := (unhide z0).mv n1 (by omega)
    have M1 := ((Mv.refl b w).alloc _).trans n1
    clear z0 n1
    obtain ⟨y0, y1, y2, y3, y4, y5, y6, y7, y8, y9⟩ := Z1
    go_wp2_with fail
    refine bodyPost_ret (v := .tuple #[.agg #[.int .i64 0, .bool false, .int .i64 0, .int .i64 0, .string ⟨#[]⟩, .bool false, .bool false, .slice none 0 0], .int .i64 c1]) (by simp [results, Tryd.results65, go_sem, y0, y1, y2, y3, y4, y5, y6, y7, y8]) rfl ?_
    rw [unhide HR]
    exact ⟨by (repeat (first | with_reducible assumption | with_reducible exact Mv.refl _ _ | with_reducible refine Mv.alloc ?_ _ | (with_reducible refine Mv.own ?_ ?_ _; rotate_left; (focus (first | omega | (simp; done) | (simp; omega) | (dsimp only; omega)))) | with_reducible refine Mv.put ?_ _ _ | with_reducible refine Mv.drewN ?_ _ | with_reducible refine Mv.drew ?_)), hk1, by (repeat (first | with_reducible assumption | with_reducible refine Rd.alloc ?_ _ | (with_reducible refine Rd.own ?_ R0 ?_ _; rotate_left; (focus (first | omega | (simp; done) | (simp; omega) | (dsimp only; omega)))) | with_reducible refine Rd.drewN ?_ _ | with_reducible refine Rd.drew ?_)), hc1, rfl⟩
  | ok l k1 =>
    rw [hE] at HR
    clear hE
    rintro e w1 ⟨n1, hk1, R1, Ts, v, rfl, HK, hTl, hbr⟩
    have Z1 := (unhide z0).mv n1 (by omega)
    have M1 := ((Mv.refl b w).alloc _).trans n1
    clear z0 n1
    obtain ⟨ka, kc, rfl⟩ := HK.form
    obtain ⟨-, HN⟩ := HK.node hTl rfl 9 false 0 0 ⟨#[]⟩ false false
    obtain ⟨y0, y1, y2, y3, y4, y5, y6, y7, y8, y9⟩ := Z1
    clear HK
    go_wp2_with fail
    refine bodyPost_ret (v := .tuple #[.agg #[.int .i64 9, .bool false, .int .i64 0, .int .i64 0, .string ⟨#[]⟩, .bool false, .bool false, .slice ka Ts.length kc], .int .i64 0]) (by simp [results, Tryd.results65, go_sem, y0, y1, y2, y3, y4, y5, y6, y7, y8]) rfl ?_
    rw [unhide HR]
    exact post_ok (B := w.heap.size + 1) M1 R1 R0 hk1 (Nat.le_refl _) (by omega) (HN.weak (fun g _ hg => by unfold Fr at hg ⊢; simp at hg; omega)) (by rw [XT.bare_mk, hbr]; rfl) _ _ _ _ _ _ _ _

set_option maxHeartbeats 4000000 in
theorem named_any (d : Nat) (e1 : Nat → RX) (hp : PartOf b a cap ts 21 d e1) (hts : GoodTs ts) (t : Mk) (w : World) (k : Nat) (R : Rd b a cap ts w k) :
    Calls Tryd.prog 64 #[.pointer (some ⟨b, 0, none⟩), .string ⟨t.toArray⟩, .int .i64 (d : Int)] w fun e w' => Post b a cap ts (namedP ts e1 t k) k w e w' := by
  have R0 := R
  have hlt := R.lt
  have HP := hide hp
  have HT := hide hts
  clear R hp hts
  have HR := hide (namedP.eq_1 ts e1 t k)
  generalize namedP ts e1 t k = RES at *
  have z0 := hide (ZB.new w 28)
  go_enter Tryd.func64, Tryd.ntmps64
  go_wp2_with fail
  refine (pass_any _ k _ [[40]] _ ((R0.alloc _).alloc _) (unhide HT) (Marks.at (by simp) (by simp; omega) (by decide) (by decide))).mono ?_
  rw [fnd_one]
  cases hF : mkB ts k [40] with
  | false =>
    rw [if_neg (by decide)]
    rw [hF, if_neg (by decide)] at HR
    clear hF
    rintro e w1 ⟨n1, rfl, R1⟩
    have Z1 := ((unhide z0).alloc _).mv n1 (by omega)
    have M1 := (((Mv.refl b w).alloc _).alloc _).trans n1
    clear z0 n1
    obtain ⟨y0, y1, y2, y3, y4, y5, y6, y7, y8, y9⟩ := Z1
    go_wp2_with fail
    refine bodyPost_ret (v := .tuple #[.agg #[.int .i64 5, .bool false, .int .i64 0, .int .i64 0, .string ⟨t.toArray⟩, .bool false, .bool false, .slice none 0 0], .int .i64 0]) (by simp [results, Tryd.results64, go_sem, y0, y1, y2, y3, y4, y5, y6, y7, y8]) rfl ?_
    rw [unhide HR]
    exact post_ok (B := w.heap.size + 1) M1 R1 R0 (by omega) (Nat.le_refl _) (by omega) (in_leaf _ _ _ _ _ _ _) (leaf_bare _ _ _ _ _ _ _) _ _ _ _ _ _ _ _
  | true =>
    rw [if_pos rfl]
    rw [hF, if_pos rfl] at HR
    clear hF
    rintro e w1 ⟨n1, rfl, R1⟩
    have Z1 := hide (((unhide z0).alloc _).mv n1 (by omega))
    have M1 := (((Mv.refl b w).alloc _).alloc _).trans n1
    have z1 : w.heap.size + 2 ≤ w1.heap.size := by have := n1.size; simpa using this
    clear z0 n1
    go_wp2_with fail
    refine (rest_any d e1 (unhide HP) (unhide HT) [41] rfl rfl (by decide) _ (k + 1) R1).mono ?_
    cases hE : restP ts e1 [41] (k + 1) with
    | er c2 k2 =>
      rw [hE] at HR
      clear hE
      rintro e w2 ⟨n2, hk2, R2, hc2, rfl⟩
      have Z2 := (unhide Z1).mv n2 (by omega)
      have M2 := M1.trans n2
      clear Z1 n2
      obtain ⟨y0, y1, y2, y3, y4, y5, y6, y7, y8, y9⟩ := Z2
      go_wp2_with fail
      refine bodyPost_ret (v := .tuple #[.agg #[.int .i64 0, .bool false, .int .i64 0, .int .i64 0, .string ⟨#[]⟩, .bool false, .bool false, .slice none 0 0], .int .i64 c2]) (by simp [results, Tryd.results64, go_sem, y0, y1, y2, y3, y4, y5, y6, y7, y8]) rfl ?_
      rw [unhide HR]
      exact ⟨by (repeat (first | with_reducible assumption | with_reducible exact Mv.refl _ _ | with_reducible refine Mv.alloc ?_ _ | (with_reducible refine Mv.own ?_ ?_ _; rotate_left; (focus (first | omega | (simp; done) | (simp; omega) | (dsimp only; omega)))) | with_reducible refine Mv.put ?_ _ _ | with_reducible refine Mv.drewN ?_ _ | with_reducible refine Mv.drew ?_)), by omega, by (repeat (first | with_reducible assumption | with_reducible refine Rd.alloc ?_ _ | (with_reducible refine Rd.own ?_ R0 ?_ _; rotate_left; (focus (first | omega | (simp; done) | (simp; omega) | (dsimp only; omega)))) | with_reducible refine Rd.drewN ?_ _ | with_reducible refine Rd.drew ?_)), hc2, rfl⟩
    | ok l k2 =>
      rw [hE] at HR
      clear hE
      rintro e w2 ⟨n2, hk2, R2, Ts, v, rfl, HK, hTl, hbr⟩
      have Z2 := (unhide Z1).mv n2 (by omega)
      have M2 := M1.trans n2
      clear Z1 n2
      obtain ⟨ka, kc, rfl⟩ := HK.form
      obtain ⟨-, HN⟩ := HK.node hTl rfl 10 false 0 0 ⟨t.toArray⟩ false false
      obtain ⟨y0, y1, y2, y3, y4, y5, y6, y7, y8, y9⟩ := Z2
      clear HK
      go_wp2_with fail
      refine bodyPost_ret (v := .tuple #[.agg #[.int .i64 10, .bool false, .int .i64 0, .int .i64 0, .string ⟨t.toArray⟩, .bool false, .bool false, .slice ka Ts.length kc], .int .i64 0]) (by simp [results, Tryd.results64, go_sem, y0, y1, y2, y3, y4, y5, y6, y7, y8]) rfl ?_
      rw [unhide HR]
      exact post_ok (B := w.heap.size + 1) M2 R2 R0 (by omega) (Nat.le_refl _) (by omega) (HN.weak (fun g _ hg => by unfold Fr at hg ⊢; omega)) (by rw [XT.bare_mk, hbr]; rfl) _ _ _ _ _ _ _ _

set_option maxHeartbeats 4000000 in
theorem bracketed_any (d : Nat) (e1 : Nat → RX) (hp : PartOf b a cap ts 21 d e1) (hts : GoodTs ts) (w : World) (k : Nat) (R : Rd b a cap ts w k) (hF : mkB ts k [40] = true) :
    Calls Tryd.prog 66 #[.pointer (some ⟨b, 0, none⟩), .int .i64 (d : Int)] w fun e w' => Post b a cap ts (brackP ts e1 (k + 1)) k w e w' := by
  have R0 := R
  have hlt := R.lt
  have HP := hide hp
  have HT := hide hts
  clear R hp hts
  have HR := hide (brackP.eq_1 ts e1 (k + 1))
  generalize brackP ts e1 (k + 1) = RES at *
  have z0 := hide (ZB.new w 28)
  have HB := hide (show behP ts e1 [[40]] k = match e1 (k + 1) with | .er e k' => .er [40] e k' | .ok x k' => .ok [40] x k' by unfold behP; rw [fnd_one, if_pos hF]; cases e1 (k + 1) <;> rfl)
  clear hF
  go_enter Tryd.func66, Tryd.ntmps66
  go_wp2_with fail
  refine (behind_any d e1 (unhide HP) (unhide HT) _ [[40]] _ _ k ((R0.alloc _).alloc _) (Marks.at (by simp) (by simp; omega) (by decide) (by decide)) (by decide)).mono ?_
  rw [unhide HB]
  cases hE : e1 (k + 1) with
  | er c1 k1 =>
    rw [hE] at HR
    clear hE
    rintro e w1 ⟨n1, hk1, R1, hc1, rfl⟩
    have Z1 := ((unhide z0).alloc _).mv n1 (by omega)
    have M1 := (((Mv.refl b w).alloc _).alloc _).trans n1
    clear z0 n1
    obtain ⟨y0, y1, y2, y3, y4, y5, y6, y7, y8, y9⟩ := Z1
    unfold zV
    go_wp2_with fail
    refine bodyPost_ret (v := .tuple #[.agg #[.int .i64 0, .bool false, .int .i64 0, .int .i64 0, .string ⟨#[]⟩, .bool false, .bool false, .slice none 0 0], .int .i64 c1]) (by simp [results, Tryd.results66, go_sem, y0, y1, y2, y3, y4, y5, y6, y7, y8]) rfl ?_
    rw [unhide HR]
    exact ⟨by (repeat (first | with_reducible assumption | with_reducible exact Mv.refl _ _ | with_reducible refine Mv.alloc ?_ _ | (with_reducible refine Mv.own ?_ ?_ _; rotate_left; (focus (first | omega | (simp; done) | (simp; omega) | (dsimp only; omega)))) | with_reducible refine Mv.put ?_ _ _ | with_reducible refine Mv.drewN ?_ _ | with_reducible refine Mv.drew ?_)), hk1, by (repeat (first | with_reducible assumption | with_reducible refine Rd.alloc ?_ _ | (with_reducible refine Rd.own ?_ R0 ?_ _; rotate_left; (focus (first | omega | (simp; done) | (simp; omega) | (dsimp only; omega)))) | with_reducible refine Rd.drewN ?_ _ | with_reducible refine Rd.drew ?_)), hc1, rfl⟩
  | ok x1 k1 =>
    rw [hE] at HR
    clear hE
    rintro e w1 ⟨n1, hk1, R1, T, rfl, hin, hbr⟩
    have Z1 := hide (((unhide z0).alloc _).mv n1 (by omega))
    have M1 := (((Mv.refl b w).alloc _).alloc _).trans n1
    have z1 : w.heap.size + 2 ≤ w1.heap.size := by have := n1.size; simpa using this
    have HI1 := hide (hin.weak (Q' := fun g => w.heap.size + 1 ≤ g ∧ g < w1.heap.size) (fun g h1 h2 => by unfold Fr at h2; simp at h2; omega))
    clear z0 n1
    obtain ⟨lk, lb, lm, ls, lt, llo, lhi, la, ll, lc, lkid, rfl⟩ := hin.form
    clear hin
    dsimp only [XT.val]
    have XL := hide (XB.new w1 lk lb lm ls lt llo lhi la ll lc 28)
    go_wp2_with fail
    refine (pass_any _ k1 _ [[41]] _ ((R1.alloc _).alloc _) (unhide HT) (Marks.at (by simp) (by simp; omega) (by decide) (by decide))).mono ?_
    rw [fnd_one]
    cases hF : mkB ts k1 [41] with
    | false =>
      rw [if_neg (by decide)]
      try dsimp only at HR
      rw [hF, if_neg (by decide)] at HR
      clear hF
      rintro e w2 ⟨n2, rfl, R2⟩
      have Z2 := (((unhide Z1).alloc _).alloc _).mv n2 (by omega)
      have M2 := ((M1.alloc _).alloc _).trans n2
      clear Z1 XL HI1 n2
      obtain ⟨y0, y1, y2, y3, y4, y5, y6, y7, y8, y9⟩ := Z2
      go_wp2_with fail
      refine bodyPost_ret (v := .tuple #[.agg #[.int .i64 0, .bool false, .int .i64 0, .int .i64 0, .string ⟨#[]⟩, .bool false, .bool false, .slice none 0 0], .int .i64 2]) (by simp [results, Tryd.results66, go_sem, y0, y1, y2, y3, y4, y5, y6, y7, y8]) rfl ?_
      rw [unhide HR]
      exact ⟨by (repeat (first | with_reducible assumption | with_reducible exact Mv.refl _ _ | with_reducible refine Mv.alloc ?_ _ | (with_reducible refine Mv.own ?_ ?_ _; rotate_left; (focus (first | omega | (simp; done) | (simp; omega) | (dsimp only; omega)))) | with_reducible refine Mv.put ?_ _ _ | with_reducible refine Mv.drewN ?_ _ | with_reducible refine Mv.drew ?_)), by omega, by (repeat (first | with_reducible assumption | with_reducible refine Rd.alloc ?_ _ | (with_reducible refine Rd.own ?_ R0 ?_ _; rotate_left; (focus (first | omega | (simp; done) | (simp; omega) | (dsimp only; omega)))) | with_reducible refine Rd.drewN ?_ _ | with_reducible refine Rd.drew ?_)), rfl, rfl⟩
    | true =>
      rw [if_pos rfl]
      try dsimp only at HR
      rw [hF, if_pos rfl] at HR
      clear hF
      rintro e w2 ⟨n2, rfl, R2⟩
      have Z2 := (((unhide Z1).alloc _).alloc _).mv n2 (by omega)
      have L2 := ((unhide XL).alloc _).mv n2 (by omega)
      have HL2 := (((unhide HI1).alloc _).alloc _).mv n2 (fun g hg => by omega)
      have M2 := ((M1.alloc _).alloc _).trans n2
      clear Z1 XL HI1 n2
      obtain ⟨y0, y1, y2, y3, y4, y5, y6, y7, y8, y9⟩ := Z2
      obtain ⟨q0, q1, q2, q3, q4, q5, q6, q7, q8, q9⟩ := L2
      go_wp2_with fail
      refine bodyPost_ret (v := .tuple #[.agg #[.int .i64 lk, .bool lb, .int .i64 lm, .int .i64 ls, .string lt, .bool llo, .bool lhi, .slice la ll lc], .int .i64 0]) (by simp [results, Tryd.results66, go_sem, y0, y1, y2, y3, y4, y5, y6, y7, y8]) rfl ?_
      rw [unhide HR]
      exact post_ok (B := w.heap.size + 1) M2 R2 R0 (by omega) (Nat.le_refl _) (by omega) (HL2.weak (fun g _ hg => by unfold Fr; omega)) hbr _ _ _ _ _ _ _ _
end Go.Proofs.YtdlfgnmcokdceabDoor

/- The contract of the reader's choice. -/
namespace Go.Proofs.YtdlfgnmcokdceabDoor
open Go.RowKit
set_option linter.unusedVariables false
set_option linter.unusedSimpArgs false
variable {b : Nat} {a : Option Addr} {cap : Nat} {ts : List Tk}

def choL (ts : List Tk) (e1 : Nat → RX) : List Mk → List XT → Nat → RX
  | [], acc, k => .ok (.mkX 8 false 0 0 (strB []) false false acc) k
  | m :: ms, acc, k => match behP ts e1 [m] k with
    | .er _ e k' => .er e k'
    | .ok _ x k' => choL ts e1 ms (acc ++ [x]) k'
theorem choL_er {e1 : Nat → RX} {m m' : Mk} {ms : List Mk} {acc : List XT} {k k' : Nat} {c : Int} (h : behP ts e1 [m] k = .er m' c k') : choL ts e1 (m :: ms) acc k = .er c k' := by rw [choL, h]
theorem choL_ok {e1 : Nat → RX} {m m' : Mk} {ms : List Mk} {acc : List XT} {x : XT} {k k' : Nat} (h : behP ts e1 [m] k = .ok m' x k') : choL ts e1 (m :: ms) acc k = choL ts e1 ms (acc ++ [x]) k' := by rw [choL, h]
theorem choiceP_L (e1 : Nat → RX) (k : Nat) : choiceP ts e1 k = choL ts e1 [mIf, mThen, mElse] [] k := by
  unfold choiceP
  cases h1 : behP ts e1 [mIf] k with
  | er m c k1 => rw [choL_er h1]
  | ok m x k1 =>
    rw [choL_ok h1]
    dsimp only
    cases h2 : behP ts e1 [mThen] k1 with
    | er m c k2 => rw [choL_er h2]
    | ok m y k2 =>
      rw [choL_ok h2]
      dsimp only
      cases h3 : behP ts e1 [mElse] k2 with
      | er m c k3 => rw [choL_er h3]
      | ok m z k3 => rw [choL_ok h3]; rfl
/- the words that are left. -/
def wds3 : Nat → List Mk
  | 0 => [mIf, mThen, mElse]
  | 1 => [mThen, mElse]
  | 2 => [mElse]
  | _ => []

def w3 : List Mk := [mIf, mThen, mElse]
theorem w3_facts {i : Nat} (h : i < 3) : (w3.getD i []).length ≤ 1000 ∧ w3.getD i [] ≠ [] ∧ wds3 i = w3.getD i [] :: wds3 (i + 1) := by
  have all : ∀ i, i < 3 → (w3.getD i []).length ≤ 1000 ∧ w3.getD i [] ≠ [] ∧ wds3 i = w3.getD i [] :: wds3 (i + 1) := by decide
  exact all i h
theorem cho_index (k : Nat) (hk : k < 3) (w : World) : (Instr.index 95 (.agg #[.string ⟨#[105, 102]⟩, .string ⟨#[116, 104, 101, 110]⟩, .string ⟨#[101, 108, 115, 101]⟩]) (.int .i64 (k : Int))).run Tryd.prog w = .ok (.string ⟨(w3.getD k []).toArray⟩) w := by
  have h1 : (#[.string ⟨#[105, 102]⟩, .string ⟨#[116, 104, 101, 110]⟩, .string ⟨#[101, 108, 115, 101]⟩] : Array Value)[k]? = some (.string ⟨(w3.getD k []).toArray⟩) := by
    have e : (w3.map sV).toArray = (#[.string ⟨#[105, 102]⟩, .string ⟨#[116, 104, 101, 110]⟩, .string ⟨#[101, 108, 115, 101]⟩] : Array Value) := rfl
    rw [← e]
    have : w3.getD k [] = w3[k]'(show k < w3.length from hk) := by simp [show k < w3.length from hk]
    rw [this]
    simp [sV, show k < w3.length from hk]
  have hp := run_part_plain (P := Tryd.prog) (w := w) (e := 9) (by kernel_rfl) h1
  generalize (#[.string ⟨#[105, 102]⟩, .string ⟨#[116, 104, 101, 110]⟩, .string ⟨#[101, 108, 115, 101]⟩] : Array Value) = cs at *
  generalize w3.getD k [] = g at *
  have h2 : (0 : Int) ≤ k ∧ (k : Int) < 3 := by omega
  simp [Instr.index, run_underlying Tryd.underlying95, asIntOf, hp, hk]

set_option maxHeartbeats 4000000 in
set_option maxRecDepth 10000 in
theorem choice_any (d : Nat) (e1 : Nat → RX) (hp : PartOf b a cap ts 21 d e1) (hts : GoodTs ts) : PartOf b a cap ts 67 d (choiceP ts e1) := by
  intro w k R
  have R0 := R
  have hlt := R.lt
  have HP := hide hp
  have HT := hide hts
  clear R hp hts
  have HR := hide (choiceP_L (ts := ts) e1 k)
  generalize choiceP ts e1 k = RES at *
  have z0 := hide (ZB.new w 28)
  go_enter Tryd.func67, Tryd.ntmps67
  go_wp2_with fail
  go_loopw [6, 13] (fun v iv wr => ∃ (i kk : Nat) (Ts : List XT), i ≤ 3 ∧ iv = .int .i64 i ∧ Ts.length = i ∧ k ≤ kk ∧ w.heap.size + 1 ≤ wr.heap.size ∧ Rd b a cap ts wr kk ∧ Mv b w wr ∧ Hid (Kids (w.heap.size + 1) wr v Ts) ∧ Hid (ZB wr w.heap.size) ∧ Hid (RES = choL ts e1 (wds3 i) (Ts.map XT.bare) kk)) (fun _ iv _ => 3 - (intOf iv).toNat)
  case atStart => exact ⟨0, k, [], by omega, rfl, rfl, Nat.le_refl _, by simp, R0.alloc _, (Mv.refl b w).alloc _, hide (Kids.nil _ _), z0, HR⟩
  case round =>
    clear HR z0
    obtain ⟨i, kk, Ts, hi, rfl, hTl, hkk, hzr, R2, M2, HK, HZ, HR⟩ := hrel
    obtain ⟨ka, kc, rfl⟩ := (unhide HK).form
    by_cases hlt3 : i < 3
    · have hix := cho_index i hlt3 wr
      obtain ⟨hml, hm0, hws⟩ := w3_facts hlt3
      rw [hws] at HR
      generalize w3.getD i [] = m at *
      clear hws
      go_wp2_with fail
      refine (behind_any d e1 (unhide HP) (unhide HT) _ [m] _ _ kk (R2.alloc _) (Marks.at rfl R2.lt (by simp) (by simpa using hml)) (by simpa using hm0)).mono ?_
      cases hE : behP ts e1 [m] kk with
      | er m3 c3 k3 =>
        have HE := hide ((unhide HR).trans (choL_er hE))
        clear hE HR
        rintro e w3 ⟨n3, hk3, R3, hc3, rfl⟩
        have M3 := (M2.alloc _).trans n3
        have Z3 := ((unhide HZ).alloc _).mv n3 (by omega)
        clear n3 HZ HK
        obtain ⟨y0, y1, y2, y3, y4, y5, y6, y7, y8, y9⟩ := Z3
        unfold zV
        go_wp2_with fail
        refine bodyPost_ret (v := .tuple #[.agg #[.int .i64 0, .bool false, .int .i64 0, .int .i64 0, .string ⟨#[]⟩, .bool false, .bool false, .slice none 0 0], .int .i64 c3]) (by simp [results, Tryd.results67, go_sem, y0, y1, y2, y3, y4, y5, y6, y7, y8]) rfl ?_
        rw [unhide HE]
        exact ⟨by (repeat (first | with_reducible assumption | with_reducible exact Mv.refl _ _ | with_reducible refine Mv.alloc ?_ _ | (with_reducible refine Mv.own ?_ ?_ _; rotate_left; (focus (first | omega | (simp; done) | (simp; omega) | (dsimp only; omega)))) | with_reducible refine Mv.put ?_ _ _ | with_reducible refine Mv.drewN ?_ _ | with_reducible refine Mv.drew ?_)), by omega, by (repeat (first | with_reducible assumption | with_reducible refine Rd.alloc ?_ _ | (with_reducible refine Rd.own ?_ R0 ?_ _; rotate_left; (focus (first | omega | (simp; done) | (simp; omega) | (dsimp only; omega)))) | with_reducible refine Rd.drewN ?_ _ | with_reducible refine Rd.drew ?_)), hc3, rfl⟩
      | ok m3 x3 k3 =>
        have HE := hide ((unhide HR).trans (choL_ok hE))
        clear hE HR
        rintro e w3 ⟨n3, hk3, R3, T, rfl, hin, hbr⟩
        have M3 := (M2.alloc _).trans n3
        have Z3 := hide (((unhide HZ).alloc _).mv n3 (by omega))
        have z3 : wr.heap.size + 1 ≤ w3.heap.size := by have := n3.size; simpa using this
        have HK3 := hide (((unhide HK).alloc _).mv n3 (by omega))
        have HI3 := hide (hin.weak (Q' := fun h => w.heap.size + 1 ≤ h ∧ some h ≠ (Value.slice ka Ts.length kc).ownBlock) (fun g h1 h2 => by
          unfold Fr at h2
          simp at h2
          refine ⟨by omega, fun e => ?_⟩
          have := (unhide HK).lt g e.symm
          omega))
        clear n3 HZ HK
        obtain ⟨xk, xb, xm, xs, xt, xlo, xhi, xa, xl, xc, xkid, rfl⟩ := hin.form
        clear hin
        dsimp only [XT.val]
        go_wp2_with (at_builtin; go_must (refine wpList_x rfl _ _ rfl (w.heap.size + 1) _ Ts rfl (((unhide HK3).alloc _).alloc _) (w3.heap.size + 1) (((unhide HI3).alloc _).alloc _) rfl (XB.at (by simp)) (by omega) (by simp; omega) ?_); intro v' w4 K4 gr4)
        have hown : ∀ g, (Value.slice ka Ts.length kc).ownBlock = some g → w.heap.size + 1 ≤ g := fun g hg => ((unhide HK3).lt g hg).1
        have M4 := ((M3.alloc _).alloc _).grown gr4 (fun g hg => by have := hown g hg; omega)
        have R4 := ((R3.alloc _).alloc _).grown R0 gr4 (fun g hg => by have := hown g hg; omega)
        have Z4 := hide ((((unhide Z3).alloc _).alloc _).grown gr4 (fun g hg => by have := hown g hg; omega))
        have z4 := gr4.size
        simp at z4
        have K4' := hide K4
        clear K4 gr4 HK3 HI3 hown M3 R3 Z3
        go_roundw
        case rel => exact ⟨i + 1, k3, Ts ++ [XT.mk xk xb xm xs xt xlo xhi xa xl xc xkid], by omega, by go_num, by simp; omega, by omega, by omega, R4, M4, K4', Z4, hide (by rw [unhide HE, List.map_append]; simp [hbr])⟩
        case measure => simp [intOf]; omega
    · obtain rfl : i = 3 := by omega
      obtain ⟨-, HN⟩ := (unhide HK).node (by omega) rfl 8 false 0 0 ⟨#[]⟩ false false
      rw [hTl] at HN
      have HE := hide (show RES = .ok (.mkX 8 false 0 0 (strB []) false false (Ts.map XT.bare)) kk from unhide HR)
      have hbr := XT.bare_mk 8 false 0 0 ⟨#[]⟩ false false ka kc Ts
      rw [hTl] at hbr ⊢
      obtain ⟨y0, y1, y2, y3, y4, y5, y6, y7, y8, y9⟩ := unhide HZ
      clear HK HR
      go_wp2_with fail
      refine bodyPost_ret (v := .tuple #[.agg #[.int .i64 8, .bool false, .int .i64 0, .int .i64 0, .string ⟨#[]⟩, .bool false, .bool false, .slice ka 3 kc], .int .i64 0]) (by simp [results, Tryd.results67, go_sem, y0, y1, y2, y3, y4, y5, y6, y7, y8]) rfl ?_
      rw [unhide HE]
      exact post_ok (B := w.heap.size + 1) M2 R2 R0 (by omega) (Nat.le_refl _) (by omega) HN hbr _ _ _ _ _ _ _ _
end Go.Proofs.YtdlfgnmcokdceabDoor

/- The contract of the reader's cmp. -/
namespace Go.Proofs.YtdlfgnmcokdceabDoor
open Go.RowKit
set_option linter.unusedVariables false
set_option linter.unusedSimpArgs false
variable {b : Nat} {a : Option Addr} {cap : Nat} {ts : List Tk}

set_option maxHeartbeats 4000000 in
theorem cmp_any (d : Nat) (ad e1 : Nat → RX) (ha : PartOf b a cap ts 50 d ad) (hp : PartOf b a cap ts 21 (d + 1) e1) (hts : GoodTs ts) (hd : d ≤ 100) : PartOf b a cap ts 45 d (cmpP ts ad e1) := by
  intro w k R
  have R0 := R
  have hlt := R.lt
  have HA := hide ha
  have HP := hide hp
  have HT := hide hts
  clear R ha hp hts
  have HR := hide (cmpP.eq_1 ts ad e1 k)
  generalize cmpP ts ad e1 k = RES at *
  have z0 := hide (ZB.new w 28)
  go_enter Tryd.func45, Tryd.ntmps45
  go_wp2_with fail
  refine (unhide HA _ k (R0.alloc _)).mono ?_
  cases hA1 : ad k with
  | er c1 k1 =>
    rw [hA1] at HR
    clear hA1
    rintro e w1 ⟨n1, hk1, R1, hc1, rfl⟩
    have Z1 := (unhide z0).mv n1 (by omega)
    have M1 := ((Mv.refl b w).alloc _).trans n1
    clear z0 n1
    obtain ⟨y0, y1, y2, y3, y4, y5, y6, y7, y8, y9⟩ := Z1
    unfold zV
    go_wp2_with fail
    refine bodyPost_ret (v := .tuple #[.agg #[.int .i64 0, .bool false, .int .i64 0, .int .i64 0, .string ⟨#[]⟩, .bool false, .bool false, .slice none 0 0], .int .i64 c1]) (by simp [results, Tryd.results45, go_sem, y0, y1, y2, y3, y4, y5, y6, y7, y8]) rfl ?_
    rw [unhide HR]
    exact ⟨by (repeat (first | with_reducible assumption | with_reducible exact Mv.refl _ _ | with_reducible refine Mv.alloc ?_ _ | (with_reducible refine Mv.own ?_ ?_ _; rotate_left; (focus (first | omega | (simp; done) | (simp; omega) | (dsimp only; omega)))) | with_reducible refine Mv.put ?_ _ _ | with_reducible refine Mv.drewN ?_ _ | with_reducible refine Mv.drew ?_)), hk1, by (repeat (first | with_reducible assumption | with_reducible refine Rd.alloc ?_ _ | (with_reducible refine Rd.own ?_ R0 ?_ _; rotate_left; (focus (first | omega | (simp; done) | (simp; omega) | (dsimp only; omega)))) | with_reducible refine Rd.drewN ?_ _ | with_reducible refine Rd.drew ?_)), hc1, rfl⟩
  | ok x1 k1 =>
    rw [hA1] at HR
    clear hA1
    rintro e w1 ⟨n1, hk1, R1, T, rfl, hin, hbr1⟩
    have Z1 := hide ((unhide z0).mv n1 (by omega))
    have M1 := ((Mv.refl b w).alloc _).trans n1
    have z1 : w.heap.size + 1 ≤ w1.heap.size := by have := n1.size; simpa using this
    have HI1 := hide (hin.weak (Q' := fun g => w.heap.size + 1 ≤ g ∧ g < w1.heap.size) (fun g h1 h2 => by unfold Fr at h2; simp at h2; omega))
    clear z0 n1
    obtain ⟨lk, lb, lm, ls, lt, llo, lhi, la, ll, lc, lkid, rfl⟩ := hin.form
    clear hin
    dsimp only [XT.val]
    go_wp2_with fail
    have XL := hide (XB.new w1 lk lb lm ls lt llo lhi la ll lc 28)
    refine (pass_any _ k1 _ [mIn] _ ((R1.alloc _).alloc _) (unhide HT) (Marks.at (by simp) (by simp; omega) (by decide) (by decide))).mono ?_
    rw [fnd_one]
    cases hF : mkB ts k1 mIn with
    | true =>
      rw [if_pos rfl]
      try dsimp only at HR
      rw [hF, if_pos rfl] at HR
      clear hF
      rintro e w2 ⟨n2, rfl, R2⟩
      have Z2 := hide ((((unhide Z1).alloc _).alloc _).mv n2 (by omega))
      have L2 := hide (((unhide XL).alloc _).mv n2 (by omega))
      have HL2 := hide ((((unhide HI1).alloc _).alloc _).mv n2 (fun g hg => by omega))
      have M2 := ((M1.alloc _).alloc _).trans n2
      have z2 : w1.heap.size + 2 ≤ w2.heap.size := by have := n2.size; simpa using this
      clear Z1 XL HI1 n2
      obtain ⟨q0, q1, q2, q3, q4, q5, q6, q7, q8, q9⟩ := unhide L2
      dsimp only [mIn]
      go_wp2_with fail
      refine (within_any (d + 1) e1 (unhide HP) (unhide HT) (Fr (w.heap.size + 1)) (XT.mk lk lb lm ls lt llo lhi la ll lc lkid) _ (k1 + 1) R2 ((unhide HL2).weak (fun g _ hg => by unfold Fr; omega)) (fun g hg => by unfold Fr; omega) (fun g hg => by unfold Fr at hg; omega)).mono ?_
      rw [hbr1]
      cases hW : withinP ts e1 x1 (k1 + 1) with
      | er c3 k3 =>
        rw [hW] at HR
        clear hW
        rintro e w3 ⟨n3, hk3, R3, hc3, rfl⟩
        have Z3 := (unhide Z2).mv n3 (by omega)
        have M3 := M2.trans n3
        clear Z2 n3
        obtain ⟨y0, y1, y2, y3, y4, y5, y6, y7, y8, y9⟩ := Z3
        unfold zV
        go_wp2_with fail
        refine bodyPost_ret (v := .tuple #[.agg #[.int .i64 0, .bool false, .int .i64 0, .int .i64 0, .string ⟨#[]⟩, .bool false, .bool false, .slice none 0 0], .int .i64 c3]) (by simp [results, Tryd.results45, go_sem, y0, y1, y2, y3, y4, y5, y6, y7, y8]) rfl ?_
        rw [unhide HR]
        exact ⟨by (repeat (first | with_reducible assumption | with_reducible exact Mv.refl _ _ | with_reducible refine Mv.alloc ?_ _ | (with_reducible refine Mv.own ?_ ?_ _; rotate_left; (focus (first | omega | (simp; done) | (simp; omega) | (dsimp only; omega)))) | with_reducible refine Mv.put ?_ _ _ | with_reducible refine Mv.drewN ?_ _ | with_reducible refine Mv.drew ?_)), by omega, by (repeat (first | with_reducible assumption | with_reducible refine Rd.alloc ?_ _ | (with_reducible refine Rd.own ?_ R0 ?_ _; rotate_left; (focus (first | omega | (simp; done) | (simp; omega) | (dsimp only; omega)))) | with_reducible refine Rd.drewN ?_ _ | with_reducible refine Rd.drew ?_)), hc3, rfl⟩
      | ok x3 k3 =>
        rw [hW] at HR
        clear hW
        rintro e w3 ⟨n3, hk3, R3, V, rfl, hinV, hbr3⟩
        have Z3 := (unhide Z2).mv n3 (by omega)
        have M3 := M2.trans n3
        clear Z2 n3
        have HV := hinV
        obtain ⟨vk, vb, vm, vs, vt, vlo, vhi, va, vl, vc, vkid, rfl⟩ := hinV.form
        clear hinV
        obtain ⟨y0, y1, y2, y3, y4, y5, y6, y7, y8, y9⟩ := Z3
        dsimp only [XT.val]
        go_wp2_with fail
        refine bodyPost_ret (v := .tuple #[.agg #[.int .i64 vk, .bool vb, .int .i64 vm, .int .i64 vs, .string vt, .bool vlo, .bool vhi, .slice va vl vc], .int .i64 0]) (by simp [results, Tryd.results45, go_sem, y0, y1, y2, y3, y4, y5, y6, y7, y8]) rfl ?_
        rw [unhide HR]
        exact post_ok (B := w.heap.size + 1) M3 R3 R0 (by omega) (Nat.le_refl _) (by omega) HV hbr3 _ _ _ _ _ _ _ _
    | false =>
      rw [if_neg (by decide)]
      try dsimp only at HR
      rw [hF, if_neg (by decide)] at HR
      clear hF
      rintro e w2 ⟨n2, rfl, R2⟩
      have Z2 := hide ((((unhide Z1).alloc _).alloc _).mv n2 (by omega))
      have L2 := hide (((unhide XL).alloc _).mv n2 (by omega))
      have HL2 := hide ((((unhide HI1).alloc _).alloc _).mv n2 (fun g hg => by omega))
      have M2 := ((M1.alloc _).alloc _).trans n2
      have z2 : w1.heap.size + 2 ≤ w2.heap.size := by have := n2.size; simpa using this
      clear Z1 XL HI1 n2
      go_wp2_with fail
      refine (pass_any _ k1 _ mRels _ (R2.alloc _) (unhide HT) (Marks.at (by simp) (by omega) (by decide) (by decide))).mono ?_
      cases hF : fnd ts k1 mRels with
      | none =>
        rw [hF] at HR
        clear hF
        rintro e w3 ⟨n3, rfl, R3⟩
        have Z3 := ((unhide Z2).alloc _).mv n3 (by omega)
        have L3 := ((unhide L2).alloc _).mv n3 (by omega)
        have HL3 := ((unhide HL2).alloc _).mv n3 (fun g hg => by omega)
        have M3 := (M2.alloc _).trans n3
        clear Z2 L2 HL2 n3
        obtain ⟨y0, y1, y2, y3, y4, y5, y6, y7, y8, y9⟩ := Z3
        obtain ⟨q0, q1, q2, q3, q4, q5, q6, q7, q8, q9⟩ := L3
        go_wp2_with fail
        refine bodyPost_ret (v := .tuple #[.agg #[.int .i64 lk, .bool lb, .int .i64 lm, .int .i64 ls, .string lt, .bool llo, .bool lhi, .slice la ll lc], .int .i64 0]) (by simp [results, Tryd.results45, go_sem, y0, y1, y2, y3, y4, y5, y6, y7, y8]) rfl ?_
        rw [unhide HR]
        exact post_ok (B := w.heap.size + 1) M3 R3 R0 (by omega) (Nat.le_refl _) (by omega) (HL3.weak (fun g _ hg => by unfold Fr; omega)) hbr1 _ _ _ _ _ _ _ _
      | some op =>
        rw [hF] at HR
        have hop := (fnd_lt hF).2
        have hne : (op == []) = false := by simp [mRels] at hop; rcases hop with rfl | rfl | rfl | rfl | rfl | rfl <;> rfl
        clear hF hop
        rintro e w3 ⟨n3, rfl, R3⟩
        have Z3 := hide (((unhide Z2).alloc _).mv n3 (by omega))
        have L3 := hide (((unhide L2).alloc _).mv n3 (by omega))
        have HL3 := hide (((unhide HL2).alloc _).mv n3 (fun g hg => by omega))
        have M3 := (M2.alloc _).trans n3
        have z3 : w2.heap.size + 1 ≤ w3.heap.size := by have := n3.size; simpa using this
        clear Z2 L2 HL2 n3
        go_wp2_with fail
        refine (unhide HA _ (k1 + 1) R3).mono ?_
        cases hA2 : ad (k1 + 1) with
        | er c4 k4 =>
          try dsimp only at HR
          rw [hA2] at HR
          clear hA2
          rintro e w4 ⟨n4, hk4, R4, hc4, rfl⟩
          have Z4 := (unhide Z3).mv n4 (by omega)
          have M4 := M3.trans n4
          clear Z3 n4
          obtain ⟨y0, y1, y2, y3, y4, y5, y6, y7, y8, y9⟩ := Z4
          unfold zV
          go_wp2_with fail
          refine bodyPost_ret (v := .tuple #[.agg #[.int .i64 0, .bool false, .int .i64 0, .int .i64 0, .string ⟨#[]⟩, .bool false, .bool false, .slice none 0 0], .int .i64 c4]) (by simp [results, Tryd.results45, go_sem, y0, y1, y2, y3, y4, y5, y6, y7, y8]) rfl ?_
          rw [unhide HR]
          exact ⟨by (repeat (first | with_reducible assumption | with_reducible exact Mv.refl _ _ | with_reducible refine Mv.alloc ?_ _ | (with_reducible refine Mv.own ?_ ?_ _; rotate_left; (focus (first | omega | (simp; done) | (simp; omega) | (dsimp only; omega)))) | with_reducible refine Mv.put ?_ _ _ | with_reducible refine Mv.drewN ?_ _ | with_reducible refine Mv.drew ?_)), by omega, by (repeat (first | with_reducible assumption | with_reducible refine Rd.alloc ?_ _ | (with_reducible refine Rd.own ?_ R0 ?_ _; rotate_left; (focus (first | omega | (simp; done) | (simp; omega) | (dsimp only; omega)))) | with_reducible refine Rd.drewN ?_ _ | with_reducible refine Rd.drew ?_)), hc4, rfl⟩
        | ok x4 k4 =>
          try dsimp only at HR
          rw [hA2] at HR
          clear hA2
          rintro e w4 ⟨n4, hk4, R4, U, rfl, hinU, hbr4⟩
          have Z4 := hide ((unhide Z3).mv n4 (by omega))
          have L4 := (unhide L3).mv n4 (by omega)
          have HL4 := hide ((unhide HL3).mv n4 (fun g hg => by omega))
          have M4 := M3.trans n4
          have z4 := n4.size
          have HU := hide (hinU.weak (Q' := fun g => w3.heap.size ≤ g ∧ g < w4.heap.size) (fun g h1 h2 => by unfold Fr at h2; omega))
          clear Z3 L3 HL3 n4
          obtain ⟨uk, ub, um, us, ut, ulo, uhi, ua, ul, uc, ukid, rfl⟩ := hinU.form
          clear hinU
          obtain ⟨q0, q1, q2, q3, q4, q5, q6, q7, q8, q9⟩ := L4
          dsimp only [XT.val]
          go_wp2_with fail
          refine (binary_any (Fr (w.heap.size + 1)) (XT.mk lk lb lm ls lt llo lhi la ll lc lkid) (XT.mk uk ub um us ut ulo uhi ua ul uc ukid) op _ (((unhide HL4).alloc _).weak (fun g _ hg => by unfold Fr; omega)) (((unhide HU).alloc _).weak (fun g _ hg => by unfold Fr; omega)) (fun g hg => by unfold Fr; simp at hg; omega)).mono ?_
          rintro e w5 ⟨V, rfl, hinV, hbV, b5⟩
          have Z5 := ((unhide Z4).alloc _).below b5
          have M5 := (M4.alloc _).below b5
          have R5 := (R4.alloc _).below b5
          clear Z4 b5 HL4 HU
          have HV := hinV
          obtain ⟨vk, vb, vm, vs, vt, vlo, vhi, va, vl, vc, vkid, rfl⟩ := hinV.form
          clear hinV
          obtain ⟨y0, y1, y2, y3, y4, y5, y6, y7, y8, y9⟩ := Z5
          dsimp only [XT.val]
          go_wp2_with fail
          refine bodyPost_ret (v := .tuple #[.agg #[.int .i64 vk, .bool vb, .int .i64 vm, .int .i64 vs, .string vt, .bool vlo, .bool vhi, .slice va vl vc], .int .i64 0]) (by simp [results, Tryd.results45, go_sem, y0, y1, y2, y3, y4, y5, y6, y7, y8]) rfl ?_
          rw [unhide HR]
          exact post_ok (B := w.heap.size + 1) M5 R5 R0 (by omega) (Nat.le_refl _) (by omega) HV (by rw [hbV, hbr1, hbr4]) _ _ _ _ _ _ _ _
end Go.Proofs.YtdlfgnmcokdceabDoor
