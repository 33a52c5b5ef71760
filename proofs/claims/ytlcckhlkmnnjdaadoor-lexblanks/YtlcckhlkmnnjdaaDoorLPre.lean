/- The contracts of strings.HasPrefix, lex's number, text, said. -/
import Derived.Test.YtlcckhlkmnnjdaaDoorLPast
import Derived.Lib.Bytealg
namespace Go.Proofs.YtlcckhlkmnnjdaaDoor
open Go.RowKit
set_option linter.unusedVariables false

theorem lext_eq (l : List UInt8) (a b : Nat) : (ByteArray.mk l.toArray).extract a b = ByteArray.mk ((l.drop a).take (b - a)).toArray := Lib.extract_eq ⟨l.toArray⟩ a b

set_option maxHeartbeats 800000 in
theorem hasp_any (g r : List UInt8) (w : World) (hg : g.length ≤ 1000) (hr : r.length ≤ 1000) :
    Calls Tryd.prog 27 #[.string ⟨r.toArray⟩, .string ⟨g.toArray⟩] w fun e w' => e = .returned (.bool (preB g r)) ∧ w' = w := by
  have h31 : Calls Tryd.prog 31 #[.string ⟨r.toArray⟩, .string ⟨g.toArray⟩] w fun e w' => e = .returned (.bool (preB g r)) ∧ w' = w := by
    by_cases hle : g.length ≤ r.length
    · have e1 : (ByteArray.mk r.toArray).extract 0 g.length = ByteArray.mk (r.take g.length).toArray := by rw [lext_eq]; simp
      have H := hide (show preB g r = (r.take g.length == g) by unfold preB; simp [hle])
      go_enter Tryd.func31, Tryd.ntmps31
      go_wp2
      go_ret
      exact ⟨ret_bool (by rw [unhide H]), rfl⟩
    · have H := hide (show preB g r = false by unfold preB; simp [hle])
      go_enter Tryd.func31, Tryd.ntmps31
      go_wp2
      go_ret
      exact ⟨ret_bool (by rw [unhide H]), rfl⟩
  go_enter Tryd.func27, Tryd.ntmps27
  go_wp2_with fail
  refine h31.mono ?_
  clear h31
  rintro e w' ⟨rfl, rfl⟩
  go_wp2_with fail
  go_ret
  exact ⟨rfl, rfl⟩

theorem pre_one (c : UInt8) (r : List UInt8) : preB [c] r = (r.head? == some c) := by
  cases r with
  | nil => rfl
  | cons d r => unfold preB; simp

set_option maxHeartbeats 1600000 in
theorem lnumber_any (l : List UInt8) (at0 : Nat) (w : World) (hl : l.length ≤ 1000) (ha : at0 ≤ l.length) :
    Calls Tryd.prog 25 #[.string ⟨l.toArray⟩, .int .i64 at0] w fun e w' => e = .returned (.int .i64 ((at0 + numN (l.drop at0) : Nat) : Int)) ∧ w' = w := by
  have h1 := run_le dgB (l.drop at0)
  rw [List.length_drop] at h1
  have hd : (l.drop at0).drop (run dgB (l.drop at0)) = l.drop (at0 + run dgB (l.drop at0)) := List.drop_drop
  have hd1 : (l.drop at0).drop (run dgB (l.drop at0) + 1) = l.drop (at0 + run dgB (l.drop at0) + 1) := by rw [List.drop_drop]; congr 1
  have hN : numN (l.drop at0) = if (l.drop (at0 + run dgB (l.drop at0))).head? = some 46 then
      if run dgB (l.drop (at0 + run dgB (l.drop at0) + 1)) = 0 then run dgB (l.drop at0) else run dgB (l.drop at0) + 1 + run dgB (l.drop (at0 + run dgB (l.drop at0) + 1))
      else run dgB (l.drop at0) := by
    unfold numN; rw [hd, hd1]
  have P1 := hide (fun w => past_any 24 dgB e_digit digit_any l at0 w hl ha)
  generalize hD : at0 + run dgB (l.drop at0) = D at *
  have hr : run dgB (l.drop at0) = D - at0 := by omega
  have hDl : D ≤ l.length := by omega
  have haD : at0 ≤ D := by omega
  rw [hr] at hN
  generalize numN (l.drop at0) = N at *
  clear hd hd1 hr hD h1
  have e1 : (ByteArray.mk l.toArray).extract D l.length = ByteArray.mk (l.drop D).toArray := by
    rw [lext_eq, List.take_of_length_le (by simp)]
  have HP := hide (hasp_any [46] (l.drop D))
  have hpre := pre_one 46 (l.drop D)
  have hdl : (l.drop D).length ≤ 1000 := by simp; omega
  by_cases hh : (l.drop D).head? = some 46
  · have hlt : D < l.length := by
      apply Classical.byContradiction
      intro hn
      rw [List.drop_of_length_le (by omega)] at hh
      cases hh
    rw [if_pos hh] at hN
    have HT := hide (show preB [46] (l.drop D) = true by rw [hpre, hh]; rfl)
    have P2 := hide (fun w => past_any 24 dgB e_digit digit_any l (D + 1) w hl hlt)
    have h2 := run_le dgB (l.drop (D + 1))
    rw [List.length_drop] at h2
    generalize run dgB (l.drop (D + 1)) = R at *
    generalize l.drop D = r at *
    clear hh hpre
    by_cases hR : R = 0
    · subst hR
      rw [if_pos rfl] at hN
      have HN := hide (show D = at0 + N by omega)
      clear hN h2
      go_enter Tryd.func25, Tryd.ntmps25
      go_wp2_with fail
      refine (unhide P1 _).mono ?_
      rintro e w' ⟨rfl, rfl⟩
      go_wp2_with fail
      refine (unhide HP _ (by simp) hdl).mono ?_
      rintro e w' ⟨rfl, rfl⟩
      rw [unhide HT]
      go_wp2_with fail
      refine (unhide P2 _).mono ?_
      rintro e w' ⟨rfl, rfl⟩
      go_wp2_with fail
      go_ret
      exact ⟨ret_nat (unhide HN), rfl⟩
    · rw [if_neg hR] at hN
      have HN := hide (show D + 1 + R = at0 + N by omega)
      have hR1 : 1 ≤ R := by omega
      clear hN hR
      go_enter Tryd.func25, Tryd.ntmps25
      go_wp2_with fail
      refine (unhide P1 _).mono ?_
      rintro e w' ⟨rfl, rfl⟩
      go_wp2_with fail
      refine (unhide HP _ (by simp) hdl).mono ?_
      rintro e w' ⟨rfl, rfl⟩
      rw [unhide HT]
      go_wp2_with fail
      refine (unhide P2 _).mono ?_
      rintro e w' ⟨rfl, rfl⟩
      go_wp2_with fail
      go_ret
      exact ⟨ret_nat (unhide HN), rfl⟩
  · rw [if_neg hh] at hN
    have HT := hide (show preB [46] (l.drop D) = false by rw [hpre]; simpa using hh)
    have HN := hide (show D = at0 + N by omega)
    generalize l.drop D = r at *
    clear hN hh hpre
    go_enter Tryd.func25, Tryd.ntmps25
    go_wp2_with fail
    refine (unhide P1 _).mono ?_
    rintro e w' ⟨rfl, rfl⟩
    go_wp2_with fail
    refine (unhide HP _ (by simp) hdl).mono ?_
    rintro e w' ⟨rfl, rfl⟩
    rw [unhide HT]
    go_wp2_with fail
    go_ret
    exact ⟨ret_nat (unhide HN), rfl⟩

theorem ret_two {a b c d : Nat} (h1 : a = b) (h2 : c = d) : Ending.returned (.tuple #[.int .i64 (a : Int), .int .i64 (c : Int)]) = .returned (.tuple #[.int .i64 (b : Int), .int .i64 (d : Int)]) := by rw [h1, h2]

set_option maxHeartbeats 1600000 in
theorem ltext_any (l : List UInt8) (at0 : Nat) (w : World) (hl : l.length ≤ 1000) (ha : at0 < l.length) :
    Calls Tryd.prog 26 #[.string ⟨l.toArray⟩, .int .i64 at0] w fun e w' => e = .returned (.tuple #[.int .i64 ((if endB (l.drop at0) = true then 3 else 0 : Nat) : Int), .int .i64 ((at0 + (if endB (l.drop at0) = true then 1 + run txB ((l.drop at0).drop 1) + 1 else 0) : Nat) : Int)]) ∧ w' = w := by
  have hdd : (l.drop at0).drop 1 = l.drop (at0 + 1) := List.drop_drop
  have h1 := run_le txB (l.drop (at0 + 1))
  rw [List.length_drop] at h1
  have P1 := hide (fun w => past_any 30 txB e_inText inText_any l (at0 + 1) w hl ha)
  have hE : endB (l.drop at0) = ((l.drop (at0 + 1 + run txB (l.drop (at0 + 1)))).head? == some 34) := by
    unfold endB
    rw [hdd, List.drop_drop, show at0 + (1 + run txB (l.drop (at0 + 1))) = at0 + 1 + run txB (l.drop (at0 + 1)) by omega]
  rw [hdd]
  generalize hR : run txB (l.drop (at0 + 1)) = R at *
  clear hR hdd
  generalize hD : at0 + 1 + R = D at *
  have hDl : D ≤ l.length := by omega
  generalize hK : (if endB (l.drop at0) = true then 3 else 0) = K
  generalize hN : at0 + (if endB (l.drop at0) = true then 1 + R + 1 else 0) = N
  by_cases hend : D = l.length
  · have hE' : endB (l.drop at0) = false := by rw [hE, List.drop_of_length_le (by omega)]; rfl
    rw [hE'] at hK hN
    have HK := hide (show 0 = K from hK)
    have HN := hide (show at0 = N from hN)
    have e0 : ((D : Int) == (l.length : Int)) = true := by simp; omega
    clear hE hend hD hE' hK hN
    go_enter Tryd.func26, Tryd.ntmps26
    go_wp2_with fail
    refine (unhide P1 _).mono ?_
    rintro e w' ⟨rfl, rfl⟩
    go_wp2_with fail
    go_ret2
    exact ⟨ret_two (unhide HK) (unhide HN), rfl⟩
  · have hlt : D < l.length := by omega
    have hge : (⟨l.toArray⟩ : ByteArray)[D]'(by simpa [ByteArray.size] using hlt) = l[D] := rfl
    have e0 : ((D : Int) == (l.length : Int)) = false := by simp; omega
    by_cases hq : l[D].toNat = 34
    · have hE' : endB (l.drop at0) = true := by
        rw [hE, drop_cons hlt]
        have : l[D] = 34 := UInt8.toNat.inj (by rw [hq]; rfl)
        rw [this]; rfl
      rw [hE'] at hK hN
      have HK := hide (show 3 = K from hK)
      have HN := hide (show D + 1 = N by rw [if_pos rfl] at hN; omega)
      have e1 : ((l[D].toNat : Int) != 34) = false := by simp; omega
      clear hE hend hD hE' hK hN hq
      go_enter Tryd.func26, Tryd.ntmps26
      go_wp2_with fail
      refine (unhide P1 _).mono ?_
      rintro e w' ⟨rfl, rfl⟩
      go_wp2_with fail
      go_ret2
      exact ⟨ret_two (unhide HK) (unhide HN), rfl⟩
    · have hE' : endB (l.drop at0) = false := by
        rw [hE, drop_cons hlt]
        have : l[D] ≠ 34 := by intro h; rw [h] at hq; exact hq rfl
        rw [List.head?_cons]
        exact beq_eq_false_iff_ne.2 (fun h => this (Option.some.inj h))
      rw [hE'] at hK hN
      have HK := hide (show 0 = K from hK)
      have HN := hide (show at0 = N from hN)
      have e1 : ((l[D].toNat : Int) != 34) = true := by simp; omega
      clear hE hend hD hE' hK hN hq
      go_enter Tryd.func26, Tryd.ntmps26
      go_wp2_with fail
      refine (unhide P1 _).mono ?_
      rintro e w' ⟨rfl, rfl⟩
      go_wp2_with fail
      go_ret2
      exact ⟨ret_two (unhide HK) (unhide HN), rfl⟩

theorem ret_lst {a b : List UInt8} (h : a = b) : Ending.returned (.string ⟨a.toArray⟩) = .returned (.string ⟨b.toArray⟩) := by rw [h]

set_option maxHeartbeats 800000 in
theorem said_any (k : Nat) (t : List UInt8) (w : World) (hk : k ≤ 4) (ht : t.length ≤ 1000) (h3 : k = 3 → 2 ≤ t.length) :
    Calls Tryd.prog 19 #[.int .i64 k, .string ⟨t.toArray⟩] w fun e w' => e = .returned (.string ⟨(saidL k t).toArray⟩) ∧ w' = w := by
  by_cases e3 : k = 3
  · have ht2 := h3 e3
    subst e3
    have e1 : (ByteArray.mk t.toArray).extract 1 (t.length - 1) = ByteArray.mk ((t.drop 1).take (t.length - 1 - 1)).toArray := by rw [lext_eq]
    have H := hide (show saidL 3 t = (t.drop 1).take (t.length - 1 - 1) by unfold saidL; rw [if_pos rfl])
    clear h3
    generalize saidL 3 t = X at *
    go_enter Tryd.func19, Tryd.ntmps19
    go_wp2_with fail
    go_ret
    exact ⟨ret_lst (by rw [unhide H, List.drop_one]), rfl⟩
  · have H := hide (show saidL k t = t by unfold saidL; rw [if_neg e3])
    have e0 : ((k : Int) == 3) = false := by simp; omega
    clear h3 e3
    generalize saidL k t = X at *
    go_enter Tryd.func19, Tryd.ntmps19
    go_wp2_with fail
    go_ret
    exact ⟨ret_lst (unhide H).symm, rfl⟩
end Go.Proofs.YtlcckhlkmnnjdaaDoor
