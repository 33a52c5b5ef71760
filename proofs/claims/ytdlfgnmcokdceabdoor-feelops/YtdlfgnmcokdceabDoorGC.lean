/- LBytes LPast LPre LWord LFault LTok LLex LAt: laid together. -/
import Derived.Test.YtdlfgnmcokdceabDoorGA
import Derived.Lib.Bytealg
import Derived.Deep.AppendLies
import Derived.ChangeKeysEq
import Derived.Deep.QuietTactic
import Derived.BigQuiet
import Derived.Laws.OwnMore
/- The contracts of lex's tests of a byte, and of past. -/
namespace Go.Proofs.YtdlfgnmcokdceabDoor
open Go.RowKit

theorem sm_yes {c : UInt8} (h1 : 97 ≤ (c.toNat : Int)) (h2 : (c.toNat : Int) ≤ 122) : smB c = true := by unfold smB; simp; omega
theorem sm_no {c : UInt8} (h : (c.toNat : Int) < 97 ∨ 122 < (c.toNat : Int)) : smB c = false := by
  unfold smB; rcases h with h | h <;> simp <;> omega
theorem dg_yes {c : UInt8} (h1 : 48 ≤ (c.toNat : Int)) (h2 : (c.toNat : Int) ≤ 57) : dgB c = true := by unfold dgB; simp; omega
theorem dg_no {c : UInt8} (h : (c.toNat : Int) < 48 ∨ 57 < (c.toNat : Int)) : dgB c = false := by
  unfold dgB; rcases h with h | h <;> simp <;> omega
theorem bl_eq (c : UInt8) : ((c.toNat : Int) == 32) = blB c := by
  unfold blB; rw [Bool.eq_iff_iff]; simp; omega

set_option maxHeartbeats 400000 in
theorem blank_any (c : UInt8) (w : World) : Calls Tryd.prog 17 #[.int .u8 c.toNat] w fun e w' => e = .returned (.bool (blB c)) ∧ w' = w := by
  have H := hide (bl_eq c)
  go_enter Tryd.func17, Tryd.ntmps17
  go_wp2
  go_ret
  exact ⟨ret_bool (unhide H), rfl⟩

set_option maxHeartbeats 400000 in
theorem small_any (c : UInt8) (w : World) : Calls Tryd.prog 25 #[.int .u8 c.toNat] w fun e w' => e = .returned (.bool (smB c)) ∧ w' = w := by
  by_cases h1 : 97 ≤ (c.toNat : Int)
  · by_cases h2 : (c.toNat : Int) ≤ 122
    · have H := hide (sm_yes h1 h2)
      go_enter Tryd.func25, Tryd.ntmps25
      go_wp2
      go_ret
      exact ⟨ret_bool (unhide H).symm, rfl⟩
    · have H := hide (sm_no (c := c) (Or.inr (by omega)))
      go_enter Tryd.func25, Tryd.ntmps25
      go_wp2
      go_ret
      exact ⟨ret_bool (unhide H).symm, rfl⟩
  · have H := hide (sm_no (c := c) (Or.inl (by omega)))
    go_enter Tryd.func25, Tryd.ntmps25
    go_wp2
    go_ret
    exact ⟨ret_bool (unhide H).symm, rfl⟩

set_option maxHeartbeats 400000 in
theorem digit_any (c : UInt8) (w : World) : Calls Tryd.prog 27 #[.int .u8 c.toNat] w fun e w' => e = .returned (.bool (dgB c)) ∧ w' = w := by
  by_cases h1 : 48 ≤ (c.toNat : Int)
  · by_cases h2 : (c.toNat : Int) ≤ 57
    · have H := hide (dg_yes h1 h2)
      go_enter Tryd.func27, Tryd.ntmps27
      go_wp2
      go_ret
      exact ⟨ret_bool (unhide H).symm, rfl⟩
    · have H := hide (dg_no (c := c) (Or.inr (by omega)))
      go_enter Tryd.func27, Tryd.ntmps27
      go_wp2
      go_ret
      exact ⟨ret_bool (unhide H).symm, rfl⟩
  · have H := hide (dg_no (c := c) (Or.inl (by omega)))
    go_enter Tryd.func27, Tryd.ntmps27
    go_wp2
    go_ret
    exact ⟨ret_bool (unhide H).symm, rfl⟩

set_option maxHeartbeats 400000 in
theorem inName_any (c : UInt8) (w : World) : Calls Tryd.prog 26 #[.int .u8 c.toNat] w fun e w' => e = .returned (.bool (nmB c)) ∧ w' = w := by
  cases hs : smB c
  · have HS := hide hs
    have H := hide (show nmB c = dgB c by unfold nmB; rw [hs]; rfl)
    clear hs
    go_enter Tryd.func26, Tryd.ntmps26
    go_wp2_with fail
    refine (small_any c _).mono ?_
    rintro e w' ⟨rfl, rfl⟩
    rw [unhide HS]
    go_wp2_with fail
    refine (digit_any c _).mono ?_
    rintro e w' ⟨rfl, rfl⟩
    go_wp2_with fail
    go_ret
    exact ⟨ret_bool (unhide H).symm, rfl⟩
  · have HS := hide hs
    have H := hide (show nmB c = true by unfold nmB; rw [hs]; rfl)
    clear hs
    go_enter Tryd.func26, Tryd.ntmps26
    go_wp2_with fail
    refine (small_any c _).mono ?_
    rintro e w' ⟨rfl, rfl⟩
    rw [unhide HS]
    go_wp2_with fail
    go_ret
    exact ⟨ret_bool (unhide H).symm, rfl⟩

theorem tx_no {c : UInt8} (h : (c.toNat : Int) < 32 ∨ 126 < (c.toNat : Int)) : txB c = false := by
  unfold txB; rcases h with h | h <;> simp <;> omega
theorem tx_eq {c : UInt8} (h1 : 32 ≤ (c.toNat : Int)) (h2 : (c.toNat : Int) ≤ 126) : ((c.toNat : Int) != 34) = txB c := by
  unfold txB; rw [Bool.eq_iff_iff]; simp; omega

set_option maxHeartbeats 400000 in
theorem inText_any (c : UInt8) (w : World) : Calls Tryd.prog 41 #[.int .u8 c.toNat] w fun e w' => e = .returned (.bool (txB c)) ∧ w' = w := by
  by_cases h1 : 32 ≤ (c.toNat : Int)
  · by_cases h2 : (c.toNat : Int) ≤ 126
    · have H := hide (tx_eq h1 h2)
      go_enter Tryd.func41, Tryd.ntmps41
      go_wp2
      go_ret
      exact ⟨ret_bool (unhide H), rfl⟩
    · have H := hide (tx_no (c := c) (Or.inr (by omega)))
      go_enter Tryd.func41, Tryd.ntmps41
      go_wp2
      go_ret
      exact ⟨ret_bool (unhide H).symm, rfl⟩
  · have H := hide (tx_no (c := c) (Or.inl (by omega)))
    go_enter Tryd.func41, Tryd.ntmps41
    go_wp2
    go_ret
    exact ⟨ret_bool (unhide H).symm, rfl⟩
end Go.Proofs.YtdlfgnmcokdceabDoor

/- The contract of lex's past. -/
namespace Go.Proofs.YtdlfgnmcokdceabDoor
open Go.RowKit

theorem ret_nat {a b : Nat} (h : a = b) : Ending.returned (.int .i64 (a : Int)) = .returned (.int .i64 (b : Int)) := by rw [h]

def Enters (f : Nat) : Prop := ∀ (args : Array Value) (w : World), (callFunc f args).run Tryd.prog w = .ok (.enter f args) w
theorem enters {f : Nat} {fn : Func} {c : Code} (hf : Tryd.prog.funcs[f]? = some fn) (hname : (fn.name == "runtime.NumGoroutine") = false) (hb : fn.body = some c) : Enters f := fun args w => by
  have h1 : fn.name ≠ "runtime.NumGoroutine" := by simpa using hname
  simp [callFunc, hf, h1, hb]
def Tests (f : Nat) (p : UInt8 → Bool) : Prop := ∀ (c : UInt8) (w : World), Calls Tryd.prog f #[.int .u8 c.toNat] w fun e w' => e = .returned (.bool (p c)) ∧ w' = w

set_option maxHeartbeats 800000 in
theorem past_any (f : Nat) (p : UInt8 → Bool) (he : Enters f) (hf : Tests f p) (l : List UInt8) (at0 : Nat) (w : World) (hl : l.length ≤ 1000) (ha : at0 ≤ l.length) :
    Calls Tryd.prog 16 #[.string ⟨l.toArray⟩, .int .i64 at0, .func (Fn.func f) #[] #[]] w fun e w' => e = .returned (.int .i64 ((at0 + run p (l.drop at0) : Nat) : Int)) ∧ w' = w := by
  have HF := hide hf
  clear hf
  unfold Enters at he
  generalize hR : at0 + run p (l.drop at0) = R
  have HR := hide hR
  clear hR
  go_enter Tryd.func16, Tryd.ntmps16
  go_wp2_with fail
  go_loop [1] (fun i => ∃ k : Nat, k ≤ l.length ∧ i = .int .i64 k ∧ Hid (k + run p (l.drop k) = R)) (fun i => l.length - (intOf i).toNat)
  case atStart => exact ⟨at0, ha, rfl, HR⟩
  case round =>
    clear HR
    obtain ⟨k, hk, rfl, HR⟩ := hrel
    by_cases hlt : k < l.length
    · have hge : (⟨l.toArray⟩ : ByteArray)[k]'(by simpa [ByteArray.size] using hlt) = l[k] := rfl
      cases hp : p l[k]
      · have HP := hide hp
        have HE := hide (show k = R by rw [← unhide HR, run_no hlt hp]; rfl)
        clear hp
        go_wp2_with fail
        refine (unhide HF l[k] _).mono ?_
        rintro e w' ⟨rfl, rfl⟩
        rw [unhide HP]
        go_wp2_with fail
        go_ret
        exact ⟨ret_nat (unhide HE), rfl⟩
      · have HP := hide hp
        have HE := hide (show k + 1 + run p (l.drop (k + 1)) = R by rw [← unhide HR, run_yes hlt hp])
        clear hp
        go_wp2_with fail
        refine (unhide HF l[k] _).mono ?_
        rintro e w' ⟨rfl, rfl⟩
        rw [unhide HP]
        go_wp2_with fail
        go_round
        case rel => exact ⟨k + 1, by omega, by go_num, HE⟩
        case measure => simp [intOf]; omega
    · have HE := hide (show k = R by rw [← unhide HR, run_end (by omega)]; rfl)
      go_wp2_with fail
      go_ret
      exact ⟨ret_nat (unhide HE), rfl⟩
theorem e_blank : Enters 17 := enters Tryd.func17 (by kernel_rfl) rfl
theorem e_inName : Enters 26 := enters Tryd.func26 (by kernel_rfl) rfl
theorem e_digit : Enters 27 := enters Tryd.func27 (by kernel_rfl) rfl
theorem e_inText : Enters 41 := enters Tryd.func41 (by kernel_rfl) rfl
end Go.Proofs.YtdlfgnmcokdceabDoor

/- The contracts of strings.HasPrefix, lex's number, text, said. -/
namespace Go.Proofs.YtdlfgnmcokdceabDoor
open Go.RowKit
set_option linter.unusedVariables false

theorem lext_eq (l : List UInt8) (a b : Nat) : (ByteArray.mk l.toArray).extract a b = ByteArray.mk ((l.drop a).take (b - a)).toArray := Lib.extract_eq ⟨l.toArray⟩ a b

set_option maxHeartbeats 800000 in
theorem hasp_any (g r : List UInt8) (w : World) (hg : g.length ≤ 1000) (hr : r.length ≤ 1000) :
    Calls Tryd.prog 30 #[.string ⟨r.toArray⟩, .string ⟨g.toArray⟩] w fun e w' => e = .returned (.bool (preB g r)) ∧ w' = w := by
  have h31 : Calls Tryd.prog 42 #[.string ⟨r.toArray⟩, .string ⟨g.toArray⟩] w fun e w' => e = .returned (.bool (preB g r)) ∧ w' = w := by
    by_cases hle : g.length ≤ r.length
    · have e1 : (ByteArray.mk r.toArray).extract 0 g.length = ByteArray.mk (r.take g.length).toArray := by rw [lext_eq]; simp
      have H := hide (show preB g r = (r.take g.length == g) by unfold preB; simp [hle])
      go_enter Tryd.func42, Tryd.ntmps42
      go_wp2
      go_ret
      exact ⟨ret_bool (by rw [unhide H]), rfl⟩
    · have H := hide (show preB g r = false by unfold preB; simp [hle])
      go_enter Tryd.func42, Tryd.ntmps42
      go_wp2
      go_ret
      exact ⟨ret_bool (by rw [unhide H]), rfl⟩
  go_enter Tryd.func30, Tryd.ntmps30
  go_wp2_with fail
  refine h31.mono ?_
  clear h31
  rintro e w' ⟨rfl, rfl⟩
  go_wp2_with fail
  go_ret
  exact ⟨rfl, rfl⟩

theorem pre_one (c : UInt8) (r : List UInt8) : preB [c] r = (r.head? == some c) := by
  cases r with
  | nil => rfl
  | cons d r => unfold preB; simp

set_option maxHeartbeats 1600000 in
theorem lnumber_any (l : List UInt8) (at0 : Nat) (w : World) (hl : l.length ≤ 1000) (ha : at0 ≤ l.length) :
    Calls Tryd.prog 28 #[.string ⟨l.toArray⟩, .int .i64 at0] w fun e w' => e = .returned (.int .i64 ((at0 + numN (l.drop at0) : Nat) : Int)) ∧ w' = w := by
  have h1 := run_le dgB (l.drop at0)
  rw [List.length_drop] at h1
  have hd : (l.drop at0).drop (run dgB (l.drop at0)) = l.drop (at0 + run dgB (l.drop at0)) := List.drop_drop
  have hd1 : (l.drop at0).drop (run dgB (l.drop at0) + 1) = l.drop (at0 + run dgB (l.drop at0) + 1) := by rw [List.drop_drop]; congr 1
  have hN : numN (l.drop at0) = if (l.drop (at0 + run dgB (l.drop at0))).head? = some 46 then
      if run dgB (l.drop (at0 + run dgB (l.drop at0) + 1)) = 0 then run dgB (l.drop at0) else run dgB (l.drop at0) + 1 + run dgB (l.drop (at0 + run dgB (l.drop at0) + 1))
      else run dgB (l.drop at0) := by
    unfold numN; rw [hd, hd1]
  have P1 := hide (fun w => past_any 27 dgB e_digit digit_any l at0 w hl ha)
  generalize hD : at0 + run dgB (l.drop at0) = D at *
  have hr : run dgB (l.drop at0) = D - at0 := by omega
  have hDl : D ≤ l.length := by omega
  have haD : at0 ≤ D := by omega
  rw [hr] at hN
  generalize numN (l.drop at0) = N at *
  clear hd hd1 hr hD h1
  have e1 : (ByteArray.mk l.toArray).extract D l.length = ByteArray.mk (l.drop D).toArray := by
    rw [lext_eq, List.take_of_length_le (by simp)]
  have HP := hide (hasp_any [46] (l.drop D))
  have hpre := pre_one 46 (l.drop D)
  have hdl : (l.drop D).length ≤ 1000 := by simp; omega
  by_cases hh : (l.drop D).head? = some 46
  · have hlt : D < l.length := by
      apply Classical.byContradiction
      intro hn
      rw [List.drop_of_length_le (by omega)] at hh
      cases hh
    rw [if_pos hh] at hN
    have HT := hide (show preB [46] (l.drop D) = true by rw [hpre, hh]; rfl)
    have P2 := hide (fun w => past_any 27 dgB e_digit digit_any l (D + 1) w hl hlt)
    have h2 := run_le dgB (l.drop (D + 1))
    rw [List.length_drop] at h2
    generalize run dgB (l.drop (D + 1)) = R at *
    generalize l.drop D = r at *
    clear hh hpre
    by_cases hR : R = 0
    · subst hR
      rw [if_pos rfl] at hN
      have HN := hide (show D = at0 + N by omega)
      clear hN h2
      go_enter Tryd.func28, Tryd.ntmps28
      go_wp2_with fail
      refine (unhide P1 _).mono ?_
      rintro e w' ⟨rfl, rfl⟩
      go_wp2_with fail
      refine (unhide HP _ (by simp) hdl).mono ?_
      rintro e w' ⟨rfl, rfl⟩
      rw [unhide HT]
      go_wp2_with fail
      refine (unhide P2 _).mono ?_
      rintro e w' ⟨rfl, rfl⟩
      go_wp2_with fail
      go_ret
      exact ⟨ret_nat (unhide HN), rfl⟩
    · rw [if_neg hR] at hN
      have HN := hide (show D + 1 + R = at0 + N by omega)
      have hR1 : 1 ≤ R := by omega
      clear hN hR
      go_enter Tryd.func28, Tryd.ntmps28
      go_wp2_with fail
      refine (unhide P1 _).mono ?_
      rintro e w' ⟨rfl, rfl⟩
      go_wp2_with fail
      refine (unhide HP _ (by simp) hdl).mono ?_
      rintro e w' ⟨rfl, rfl⟩
      rw [unhide HT]
      go_wp2_with fail
      refine (unhide P2 _).mono ?_
      rintro e w' ⟨rfl, rfl⟩
      go_wp2_with fail
      go_ret
      exact ⟨ret_nat (unhide HN), rfl⟩
  · rw [if_neg hh] at hN
    have HT := hide (show preB [46] (l.drop D) = false by rw [hpre]; simpa using hh)
    have HN := hide (show D = at0 + N by omega)
    generalize l.drop D = r at *
    clear hN hh hpre
    go_enter Tryd.func28, Tryd.ntmps28
    go_wp2_with fail
    refine (unhide P1 _).mono ?_
    rintro e w' ⟨rfl, rfl⟩
    go_wp2_with fail
    refine (unhide HP _ (by simp) hdl).mono ?_
    rintro e w' ⟨rfl, rfl⟩
    rw [unhide HT]
    go_wp2_with fail
    go_ret
    exact ⟨ret_nat (unhide HN), rfl⟩

theorem ret_two {a b c d : Nat} (h1 : a = b) (h2 : c = d) : Ending.returned (.tuple #[.int .i64 (a : Int), .int .i64 (c : Int)]) = .returned (.tuple #[.int .i64 (b : Int), .int .i64 (d : Int)]) := by rw [h1, h2]

set_option maxHeartbeats 1600000 in
theorem ltext_any (l : List UInt8) (at0 : Nat) (w : World) (hl : l.length ≤ 1000) (ha : at0 < l.length) :
    Calls Tryd.prog 29 #[.string ⟨l.toArray⟩, .int .i64 at0] w fun e w' => e = .returned (.tuple #[.int .i64 ((if endB (l.drop at0) = true then 3 else 0 : Nat) : Int), .int .i64 ((at0 + (if endB (l.drop at0) = true then 1 + run txB ((l.drop at0).drop 1) + 1 else 0) : Nat) : Int)]) ∧ w' = w := by
  have hdd : (l.drop at0).drop 1 = l.drop (at0 + 1) := List.drop_drop
  have h1 := run_le txB (l.drop (at0 + 1))
  rw [List.length_drop] at h1
  have P1 := hide (fun w => past_any 41 txB e_inText inText_any l (at0 + 1) w hl ha)
  have hE : endB (l.drop at0) = ((l.drop (at0 + 1 + run txB (l.drop (at0 + 1)))).head? == some 34) := by
    unfold endB
    rw [hdd, List.drop_drop, show at0 + (1 + run txB (l.drop (at0 + 1))) = at0 + 1 + run txB (l.drop (at0 + 1)) by omega]
  rw [hdd]
  generalize hR : run txB (l.drop (at0 + 1)) = R at *
  clear hR hdd
  generalize hD : at0 + 1 + R = D at *
  have hDl : D ≤ l.length := by omega
  generalize hK : (if endB (l.drop at0) = true then 3 else 0) = K
  generalize hN : at0 + (if endB (l.drop at0) = true then 1 + R + 1 else 0) = N
  by_cases hend : D = l.length
  · have hE' : endB (l.drop at0) = false := by rw [hE, List.drop_of_length_le (by omega)]; rfl
    rw [hE'] at hK hN
    have HK := hide (show 0 = K from hK)
    have HN := hide (show at0 = N from hN)
    have e0 : ((D : Int) == (l.length : Int)) = true := by simp; omega
    clear hE hend hD hE' hK hN
    go_enter Tryd.func29, Tryd.ntmps29
    go_wp2_with fail
    refine (unhide P1 _).mono ?_
    rintro e w' ⟨rfl, rfl⟩
    go_wp2_with fail
    go_ret2
    exact ⟨ret_two (unhide HK) (unhide HN), rfl⟩
  · have hlt : D < l.length := by omega
    have hge : (⟨l.toArray⟩ : ByteArray)[D]'(by simpa [ByteArray.size] using hlt) = l[D] := rfl
    have e0 : ((D : Int) == (l.length : Int)) = false := by simp; omega
    by_cases hq : l[D].toNat = 34
    · have hE' : endB (l.drop at0) = true := by
        rw [hE, drop_cons hlt]
        have : l[D] = 34 := UInt8.toNat.inj (by rw [hq]; rfl)
        rw [this]; rfl
      rw [hE'] at hK hN
      have HK := hide (show 3 = K from hK)
      have HN := hide (show D + 1 = N by rw [if_pos rfl] at hN; omega)
      have e1 : ((l[D].toNat : Int) != 34) = false := by simp; omega
      clear hE hend hD hE' hK hN hq
      go_enter Tryd.func29, Tryd.ntmps29
      go_wp2_with fail
      refine (unhide P1 _).mono ?_
      rintro e w' ⟨rfl, rfl⟩
      go_wp2_with fail
      go_ret2
      exact ⟨ret_two (unhide HK) (unhide HN), rfl⟩
    · have hE' : endB (l.drop at0) = false := by
        rw [hE, drop_cons hlt]
        have : l[D] ≠ 34 := by intro h; rw [h] at hq; exact hq rfl
        rw [List.head?_cons]
        exact beq_eq_false_iff_ne.2 (fun h => this (Option.some.inj h))
      rw [hE'] at hK hN
      have HK := hide (show 0 = K from hK)
      have HN := hide (show at0 = N from hN)
      have e1 : ((l[D].toNat : Int) != 34) = true := by simp; omega
      clear hE hend hD hE' hK hN hq
      go_enter Tryd.func29, Tryd.ntmps29
      go_wp2_with fail
      refine (unhide P1 _).mono ?_
      rintro e w' ⟨rfl, rfl⟩
      go_wp2_with fail
      go_ret2
      exact ⟨ret_two (unhide HK) (unhide HN), rfl⟩

theorem ret_lst {a b : List UInt8} (h : a = b) : Ending.returned (.string ⟨a.toArray⟩) = .returned (.string ⟨b.toArray⟩) := by rw [h]

set_option maxHeartbeats 800000 in
theorem said_any (k : Nat) (t : List UInt8) (w : World) (hk : k ≤ 4) (ht : t.length ≤ 1000) (h3 : k = 3 → 2 ≤ t.length) :
    Calls Tryd.prog 19 #[.int .i64 k, .string ⟨t.toArray⟩] w fun e w' => e = .returned (.string ⟨(saidL k t).toArray⟩) ∧ w' = w := by
  by_cases e3 : k = 3
  · have ht2 := h3 e3
    subst e3
    have e1 : (ByteArray.mk t.toArray).extract 1 (t.length - 1) = ByteArray.mk ((t.drop 1).take (t.length - 1 - 1)).toArray := by rw [lext_eq]
    have H := hide (show saidL 3 t = (t.drop 1).take (t.length - 1 - 1) by unfold saidL; rw [if_pos rfl])
    clear h3
    generalize saidL 3 t = X at *
    go_enter Tryd.func19, Tryd.ntmps19
    go_wp2_with fail
    go_ret
    exact ⟨ret_lst (by rw [unhide H, List.drop_one]), rfl⟩
  · have H := hide (show saidL k t = t by unfold saidL; rw [if_neg e3])
    have e0 : ((k : Int) == 3) = false := by simp; omega
    clear h3 e3
    generalize saidL k t = X at *
    go_enter Tryd.func19, Tryd.ntmps19
    go_wp2_with fail
    go_ret
    exact ⟨ret_lst (unhide H).symm, rfl⟩
end Go.Proofs.YtdlfgnmcokdceabDoor

/- The contracts of lex's Word and of the document's. -/
namespace Go.Proofs.YtdlfgnmcokdceabDoor
open Go.RowKit
set_option linter.unusedVariables false

def sV (l : List UInt8) : Value := .string ⟨l.toArray⟩
theorem row_strs (w : World) (gs : List (List UInt8)) (t : TypeId) (j : Nat) : (w.alloc (.cells (gs.map sV).toArray t)).cell? ⟨w.heap.size, j, none⟩ = (gs[j]?).map sV := by
  rw [cell_of_row _ _ j _ _ _ (heap_alloc_new w _)]
  simp
theorem wordB_eq (t : List UInt8) : wordB t = ((t == [116, 114, 117, 101]) || ((t == [102, 97, 108, 115, 101]) || ((t == [110, 117, 108, 108]) || ((t == [105, 102]) || ((t == [116, 104, 101, 110]) || ((t == [101, 108, 115, 101]) || ((t == [97, 110, 100]) || ((t == [111, 114]) || ((t == [105, 110]) || false))))))))) := rfl

set_option maxHeartbeats 1600000 in
theorem word_any (t : List UInt8) (w : World) (ht : t.length ≤ 1000) :
    Calls Tryd.prog 31 #[.string ⟨t.toArray⟩] w fun e w' => e = .returned (.bool (wordB t)) ∧ w' = w := by
  generalize hR : wordB t = R
  have HR := hide hR
  clear hR
  cases h0 : (t == [116, 114, 117, 101])
  case true =>
    have HE := hide (show true = R by rw [← unhide HR, wordB_eq, h0]; rfl)
    go_enter Tryd.func31, Tryd.ntmps31
    go_wp2
    go_ret
    exact ⟨ret_bool (unhide HE), rfl⟩
  cases h1 : (t == [102, 97, 108, 115, 101])
  case true =>
    have HE := hide (show true = R by rw [← unhide HR, wordB_eq, h0, h1]; rfl)
    go_enter Tryd.func31, Tryd.ntmps31
    go_wp2
    go_ret
    exact ⟨ret_bool (unhide HE), rfl⟩
  cases h2 : (t == [110, 117, 108, 108])
  case true =>
    have HE := hide (show true = R by rw [← unhide HR, wordB_eq, h0, h1, h2]; rfl)
    go_enter Tryd.func31, Tryd.ntmps31
    go_wp2
    go_ret
    exact ⟨ret_bool (unhide HE), rfl⟩
  cases h3 : (t == [105, 102])
  case true =>
    have HE := hide (show true = R by rw [← unhide HR, wordB_eq, h0, h1, h2, h3]; rfl)
    go_enter Tryd.func31, Tryd.ntmps31
    go_wp2
    go_ret
    exact ⟨ret_bool (unhide HE), rfl⟩
  cases h4 : (t == [116, 104, 101, 110])
  case true =>
    have HE := hide (show true = R by rw [← unhide HR, wordB_eq, h0, h1, h2, h3, h4]; rfl)
    go_enter Tryd.func31, Tryd.ntmps31
    go_wp2
    go_ret
    exact ⟨ret_bool (unhide HE), rfl⟩
  cases h5 : (t == [101, 108, 115, 101])
  case true =>
    have HE := hide (show true = R by rw [← unhide HR, wordB_eq, h0, h1, h2, h3, h4, h5]; rfl)
    go_enter Tryd.func31, Tryd.ntmps31
    go_wp2
    go_ret
    exact ⟨ret_bool (unhide HE), rfl⟩
  cases h6 : (t == [97, 110, 100])
  case true =>
    have HE := hide (show true = R by rw [← unhide HR, wordB_eq, h0, h1, h2, h3, h4, h5, h6]; rfl)
    go_enter Tryd.func31, Tryd.ntmps31
    go_wp2
    go_ret
    exact ⟨ret_bool (unhide HE), rfl⟩
  cases h7 : (t == [111, 114])
  case true =>
    have HE := hide (show true = R by rw [← unhide HR, wordB_eq, h0, h1, h2, h3, h4, h5, h6, h7]; rfl)
    go_enter Tryd.func31, Tryd.ntmps31
    go_wp2
    go_ret
    exact ⟨ret_bool (unhide HE), rfl⟩
  cases h8 : (t == [105, 110])
  case true =>
    have HE := hide (show true = R by rw [← unhide HR, wordB_eq, h0, h1, h2, h3, h4, h5, h6, h7, h8]; rfl)
    go_enter Tryd.func31, Tryd.ntmps31
    go_wp2
    go_ret
    exact ⟨ret_bool (unhide HE), rfl⟩
  have HE := hide (show false = R by rw [← unhide HR, wordB_eq, h0, h1, h2, h3, h4, h5, h6, h7, h8]; rfl)
  go_enter Tryd.func31, Tryd.ntmps31
  go_wp2
  go_ret
  exact ⟨ret_bool (unhide HE), rfl⟩

theorem word_step {t : List UInt8} {k : Nat} (h : k < 9) : ((wds.drop k).any fun x => t == x) = ((t == wds.getD k []) || ((wds.drop (k + 1)).any fun x => t == x)) := by
  rw [List.drop_eq_getElem_cons (show k < wds.length from h), List.any_cons]
  simp [show k < wds.length from h]
theorem wds_len {k : Nat} : (wds.getD k []).length ≤ 5 := by
  by_cases h : k < 9
  · match k, h with
    | 0, _ | 1, _ | 2, _ | 3, _ | 4, _ | 5, _ | 6, _ | 7, _ | 8, _ => decide
  · rw [List.getD_eq_getElem?_getD, List.getElem?_eq_none (show wds.length ≤ k from Nat.le_of_not_lt h)]; decide

set_option maxHeartbeats 1600000 in
theorem rword_any (t : List UInt8) (w : World) (ht : t.length ≤ 1000) :
    Calls Tryd.prog 36 #[.string ⟨t.toArray⟩] w fun e w' => e = .returned (.bool (wordB t)) ∧ Below w.heap.size w w' := by
  have row : ∀ k, k < 9 → (w.alloc (.cells #[.string ⟨#[116, 114, 117, 101]⟩, .string ⟨#[102, 97, 108, 115, 101]⟩, .string ⟨#[110, 117, 108, 108]⟩, .string ⟨#[105, 102]⟩, .string ⟨#[116, 104, 101, 110]⟩, .string ⟨#[101, 108, 115, 101]⟩, .string ⟨#[97, 110, 100]⟩, .string ⟨#[111, 114]⟩, .string ⟨#[105, 110]⟩] 9)).cell? ⟨w.heap.size, k, none⟩ = some (.string ⟨(wds.getD k []).toArray⟩) := by
    intro k hk
    have h := row_strs w wds 9 k
    rw [List.getElem?_eq_getElem (show k < wds.length from hk)] at h
    have e : wds.getD k [] = wds[k]'(show k < wds.length from hk) := by simp [show k < wds.length from hk]
    rw [e]
    exact h
  have bel := below1 w (.cells #[.string ⟨#[116, 114, 117, 101]⟩, .string ⟨#[102, 97, 108, 115, 101]⟩, .string ⟨#[110, 117, 108, 108]⟩, .string ⟨#[105, 102]⟩, .string ⟨#[116, 104, 101, 110]⟩, .string ⟨#[101, 108, 115, 101]⟩, .string ⟨#[97, 110, 100]⟩, .string ⟨#[111, 114]⟩, .string ⟨#[105, 110]⟩] 9)
  have hsz : w.heap.size < (w.alloc (.cells #[.string ⟨#[116, 114, 117, 101]⟩, .string ⟨#[102, 97, 108, 115, 101]⟩, .string ⟨#[110, 117, 108, 108]⟩, .string ⟨#[105, 102]⟩, .string ⟨#[116, 104, 101, 110]⟩, .string ⟨#[101, 108, 115, 101]⟩, .string ⟨#[97, 110, 100]⟩, .string ⟨#[111, 114]⟩, .string ⟨#[105, 110]⟩] 9)).heap.size := by simp
  generalize hR : wordB t = R
  have HR := hide hR
  clear hR
  go_enter Tryd.func36, Tryd.ntmps36
  go_wp2_with fail
  generalize w.alloc (.cells #[.string ⟨#[116, 114, 117, 101]⟩, .string ⟨#[102, 97, 108, 115, 101]⟩, .string ⟨#[110, 117, 108, 108]⟩, .string ⟨#[105, 102]⟩, .string ⟨#[116, 104, 101, 110]⟩, .string ⟨#[101, 108, 115, 101]⟩, .string ⟨#[97, 110, 100]⟩, .string ⟨#[111, 114]⟩, .string ⟨#[105, 110]⟩] 9) = W at *
  have ROW := hide row
  have BEL := hide bel
  clear row bel
  go_loop [4] (fun i => ∃ k : Nat, k ≤ 9 ∧ i = .int .i64 k ∧ Hid (((wds.drop k).any fun x => t == x) = R)) (fun i => 9 - (intOf i).toNat)
  case atStart => exact ⟨0, by omega, rfl, HR⟩
  case round =>
    clear HR
    obtain ⟨k, hk, rfl, HR⟩ := hrel
    by_cases hlt : k < 9
    · have row := unhide ROW k hlt
      have ST := hide (word_step (t := t) hlt)
      have hz := wds_len (k := k)
      generalize wds.getD k [] = g at *
      cases hg : (g == t)
      · have HE := hide (show ((wds.drop (k + 1)).any fun x => t == x) = R by rw [← unhide HR, unhide ST, BEq.comm, hg]; rfl)
        go_wp2_with fail
        go_round
        case rel => exact ⟨k + 1, by omega, by go_num, HE⟩
        case measure => simp [intOf]; omega
      · have HE := hide (show true = R by rw [← unhide HR, unhide ST, BEq.comm, hg]; rfl)
        go_wp2_with fail
        go_ret
        exact ⟨ret_bool (unhide HE), unhide BEL⟩
    · have HE := hide (show false = R by rw [← unhide HR, show k = 9 by omega]; rfl)
      go_wp2_with fail
      go_ret
      exact ⟨ret_bool (unhide HE), unhide BEL⟩
end Go.Proofs.YtdlfgnmcokdceabDoor

/- The contracts of lex's fault, and of token over the table of signs. -/
namespace Go.Proofs.YtdlfgnmcokdceabDoor
open Go.RowKit
set_option linter.unusedVariables false
set_option linter.unusedSimpArgs false

set_option maxHeartbeats 1600000 in
theorem fault_any (k : Nat) (t : List UInt8) (pos n : Nat) (w : World) (hk : k ≤ 4) (ht : t.length ≤ 1000) (hn : n ≤ 1000) :
    Calls Tryd.prog 20 #[.agg #[.int .i64 k, .string ⟨t.toArray⟩, .int .i64 pos], .int .i64 n] w fun e w' => e = .returned (.int .i64 ((fltN k t n : Nat) : Int)) ∧ Below w.heap.size w w' := by
  generalize hR : fltN k t n = R
  have HR := hide hR
  clear hR
  have HC : True := trivial
  by_cases k0 : k = 0
  · have HE := hide (show 2 = R by rw [← unhide HR]; simp [fltN, flt, k0])
    have e0 : ((k : Int) == 0) = true := by simp; omega
    clear HR k0
    go_enter Tryd.func20, Tryd.ntmps20
    go_wp2_with fail
    go_ret
    exact ⟨ret_nat (unhide HE), below1 _ _⟩
  have e0 : ((k : Int) == 0) = false := by simp; omega
  by_cases k1 : k = 1
  · have e1 : ((k : Int) == 1) = true := by simp; omega
    have e3 : ((k : Int) == 3) = false := by simp; omega
    have k3 : ¬ k = 3 := by omega
    by_cases h8 : 8 < t.length
    · cases hw : wordB t
      · have HE := hide (show 13 = R by rw [← unhide HR]; simp [fltN, flt, k0, k1, k3, h8, hw])
        have HW := hide hw
        clear HR hw k0 k1 k3
        go_enter Tryd.func20, Tryd.ntmps20
        go_wp2_with fail
        refine (word_any t _ ht).mono ?_
        rintro e w' ⟨rfl, rfl⟩
        rw [unhide HW]
        go_wp2_with fail
        go_ret
        exact ⟨ret_nat (unhide HE), below1 _ _⟩
      · have HW := hide hw
        by_cases hn6 : 60 ≤ n
        · have HE := hide (show 13 = R by rw [← unhide HR]; simp [fltN, flt, hn6, k0, k1, k3, h8, hw])
          clear HR HC hw k0 k1 k3
          go_enter Tryd.func20, Tryd.ntmps20
          go_wp2_with fail
          refine (word_any t _ ht).mono ?_
          rintro e w' ⟨rfl, rfl⟩
          rw [unhide HW]
          go_wp2_with fail
          go_ret
          exact ⟨ret_nat (unhide HE), below1 _ _⟩
        · have HE := hide (show 0 = R by rw [← unhide HR]; simp [fltN, flt, hn6, k0, k1, k3, h8, hw])
          clear HR HC hw k0 k1 k3
          go_enter Tryd.func20, Tryd.ntmps20
          go_wp2_with fail
          refine (word_any t _ ht).mono ?_
          rintro e w' ⟨rfl, rfl⟩
          rw [unhide HW]
          go_wp2_with fail
          go_ret
          exact ⟨ret_nat (unhide HE), below1 _ _⟩
    · have h8' : t.length ≤ 8 := by omega
      by_cases hn6 : 60 ≤ n
      · have HE := hide (show 13 = R by rw [← unhide HR]; simp [fltN, flt, hn6, k0, k1, k3, h8])
        clear HR HC k0 k1 k3 h8
        go_enter Tryd.func20, Tryd.ntmps20
        go_wp2_with fail
        go_ret
        exact ⟨ret_nat (unhide HE), below1 _ _⟩
      · have HE := hide (show 0 = R by rw [← unhide HR]; simp [fltN, flt, hn6, k0, k1, k3, h8])
        clear HR HC k0 k1 k3 h8
        go_enter Tryd.func20, Tryd.ntmps20
        go_wp2_with fail
        go_ret
        exact ⟨ret_nat (unhide HE), below1 _ _⟩
  have e1 : ((k : Int) == 1) = false := by simp; omega
  by_cases k3 : k = 3
  · have e3 : ((k : Int) == 3) = true := by simp; omega
    by_cases h16 : 16 < t.length
    · have HE := hide (show 13 = R by rw [← unhide HR]; simp [fltN, flt, k0, k1, k3, h16])
      clear HR k0 k1 k3
      go_enter Tryd.func20, Tryd.ntmps20
      go_wp2_with fail
      go_ret
      exact ⟨ret_nat (unhide HE), below1 _ _⟩
    · have h16' : t.length ≤ 16 := by omega
      by_cases hn6 : 60 ≤ n
      · have HE := hide (show 13 = R by rw [← unhide HR]; simp [fltN, flt, hn6, k0, k1, k3, h16])
        clear HR HC k0 k1 k3 h16
        go_enter Tryd.func20, Tryd.ntmps20
        go_wp2_with fail
        go_ret
        exact ⟨ret_nat (unhide HE), below1 _ _⟩
      · have HE := hide (show 0 = R by rw [← unhide HR]; simp [fltN, flt, hn6, k0, k1, k3, h16])
        clear HR HC k0 k1 k3 h16
        go_enter Tryd.func20, Tryd.ntmps20
        go_wp2_with fail
        go_ret
        exact ⟨ret_nat (unhide HE), below1 _ _⟩
  have e3 : ((k : Int) == 3) = false := by simp; omega
  by_cases hn6 : 60 ≤ n
  · have HE := hide (show 13 = R by rw [← unhide HR]; simp [fltN, flt, hn6, k0, k1, k3])
    clear HR HC k0 k1 k3
    go_enter Tryd.func20, Tryd.ntmps20
    go_wp2_with fail
    go_ret
    exact ⟨ret_nat (unhide HE), below1 _ _⟩
  · have HE := hide (show 0 = R by rw [← unhide HR]; simp [fltN, flt, hn6, k0, k1, k3])
    clear HR HC k0 k1 k3
    go_enter Tryd.func20, Tryd.ntmps20
    go_wp2_with fail
    go_ret
    exact ⟨ret_nat (unhide HE), below1 _ _⟩
end Go.Proofs.YtdlfgnmcokdceabDoor

/- The contract of lex's token, over the table of signs. -/
namespace Go.Proofs.YtdlfgnmcokdceabDoor
open Go.RowKit
set_option linter.unusedVariables false

/- the table of signs, as the program's text lays it. -/
def Sig (w : World) : Prop := 0 < w.heap.size ∧ ∀ i, i < 16 → w.cell? ⟨0, i, none⟩ = some (sV (sgs.getD i []))
theorem Sig.below {w w' : World} (h : Sig w) (k : Below w.heap.size w w') : Sig w' := ⟨Nat.lt_of_lt_of_le h.1 k.size, fun i hi => ((bcell k).1 _ _ h.1).trans (h.2 i hi)⟩

theorem sig_index (k : Nat) (hk : k < 16) (w : World) : (Instr.index 70 (.agg #[.string ⟨#[60, 61]⟩, .string ⟨#[62, 61]⟩, .string ⟨#[33, 61]⟩, .string ⟨#[46, 46]⟩, .string ⟨#[60]⟩, .string ⟨#[62]⟩, .string ⟨#[61]⟩, .string ⟨#[43]⟩, .string ⟨#[45]⟩, .string ⟨#[42]⟩, .string ⟨#[47]⟩, .string ⟨#[40]⟩, .string ⟨#[41]⟩, .string ⟨#[91]⟩, .string ⟨#[93]⟩, .string ⟨#[44]⟩]) (.int .i64 (k : Int))).run Tryd.prog w = .ok (.string ⟨(sgs.getD k []).toArray⟩) w := by
  have h1 : (#[.string ⟨#[60, 61]⟩, .string ⟨#[62, 61]⟩, .string ⟨#[33, 61]⟩, .string ⟨#[46, 46]⟩, .string ⟨#[60]⟩, .string ⟨#[62]⟩, .string ⟨#[61]⟩, .string ⟨#[43]⟩, .string ⟨#[45]⟩, .string ⟨#[42]⟩, .string ⟨#[47]⟩, .string ⟨#[40]⟩, .string ⟨#[41]⟩, .string ⟨#[91]⟩, .string ⟨#[93]⟩, .string ⟨#[44]⟩] : Array Value)[k]? = some (.string ⟨(sgs.getD k []).toArray⟩) := by
    have e : (sgs.map sV).toArray = (#[.string ⟨#[60, 61]⟩, .string ⟨#[62, 61]⟩, .string ⟨#[33, 61]⟩, .string ⟨#[46, 46]⟩, .string ⟨#[60]⟩, .string ⟨#[62]⟩, .string ⟨#[61]⟩, .string ⟨#[43]⟩, .string ⟨#[45]⟩, .string ⟨#[42]⟩, .string ⟨#[47]⟩, .string ⟨#[40]⟩, .string ⟨#[41]⟩, .string ⟨#[91]⟩, .string ⟨#[93]⟩, .string ⟨#[44]⟩] : Array Value) := rfl
    rw [← e]
    have : sgs.getD k [] = sgs[k]'(show k < sgs.length from hk) := by simp [show k < sgs.length from hk]
    rw [this]
    simp [sV, show k < sgs.length from hk]
  have hp := run_part_plain (P := Tryd.prog) (w := w) (e := 9) (by kernel_rfl) h1
  generalize (#[.string ⟨#[60, 61]⟩, .string ⟨#[62, 61]⟩, .string ⟨#[33, 61]⟩, .string ⟨#[46, 46]⟩, .string ⟨#[60]⟩, .string ⟨#[62]⟩, .string ⟨#[61]⟩, .string ⟨#[43]⟩, .string ⟨#[45]⟩, .string ⟨#[42]⟩, .string ⟨#[47]⟩, .string ⟨#[40]⟩, .string ⟨#[41]⟩, .string ⟨#[91]⟩, .string ⟨#[93]⟩, .string ⟨#[44]⟩] : Array Value) = cs at *
  generalize sgs.getD k [] = g at *
  have h2 : (0 : Int) ≤ k ∧ (k : Int) < 16 := by omega
  simp [Instr.index, run_underlying Tryd.underlying70, asIntOf, hp, hk]

theorem sgn_step {k : Nat} (r : List UInt8) (h : k < 16) : sgn (sgs.drop k) r = if preB (sgs.getD k []) r = true then (sgs.getD k []).length else sgn (sgs.drop (k + 1)) r := by
  rw [List.drop_eq_getElem_cons (show k < sgs.length from h), sgn]
  simp [show k < sgs.length from h]
theorem sgs_len {k : Nat} (h : k < 16) : 1 ≤ (sgs.getD k []).length ∧ (sgs.getD k []).length ≤ 2 := by
  have all : ∀ k, k < 16 → 1 ≤ (sgs.getD k []).length ∧ (sgs.getD k []).length ≤ 2 := by decide
  exact all k h

set_option maxHeartbeats 1600000 in
theorem token_sign (l : List UInt8) (at0 : Nat) (w : World) (hl : l.length ≤ 1000) (ha : at0 < l.length) (hs : smB l[at0] = false) (hd : dgB l[at0] = false) (hq : ((l[at0].toNat : Int) == 34) = false) (sig : Sig w) :
    Calls Tryd.prog 18 #[.string ⟨l.toArray⟩, .int .i64 at0] w fun e w' => e = .returned (.tuple #[.int .i64 ((if sgn sgs (l.drop at0) = 0 then 0 else 4 : Nat) : Int), .int .i64 ((at0 + sgn sgs (l.drop at0) : Nat) : Int)]) ∧ w' = w := by
  have hge : (⟨l.toArray⟩ : ByteArray)[at0]'(by simpa [ByteArray.size] using ha) = l[at0] := rfl
  obtain ⟨g0, g⟩ := sig
  have c0 : w.cell? ⟨0, 0, none⟩ = some (.string ⟨#[60, 61]⟩) := g 0 (by omega)
  have c1 : w.cell? ⟨0, 1, none⟩ = some (.string ⟨#[62, 61]⟩) := g 1 (by omega)
  have c2 : w.cell? ⟨0, 2, none⟩ = some (.string ⟨#[33, 61]⟩) := g 2 (by omega)
  have c3 : w.cell? ⟨0, 3, none⟩ = some (.string ⟨#[46, 46]⟩) := g 3 (by omega)
  have c4 : w.cell? ⟨0, 4, none⟩ = some (.string ⟨#[60]⟩) := g 4 (by omega)
  have c5 : w.cell? ⟨0, 5, none⟩ = some (.string ⟨#[62]⟩) := g 5 (by omega)
  have c6 : w.cell? ⟨0, 6, none⟩ = some (.string ⟨#[61]⟩) := g 6 (by omega)
  have c7 : w.cell? ⟨0, 7, none⟩ = some (.string ⟨#[43]⟩) := g 7 (by omega)
  have c8 : w.cell? ⟨0, 8, none⟩ = some (.string ⟨#[45]⟩) := g 8 (by omega)
  have c9 : w.cell? ⟨0, 9, none⟩ = some (.string ⟨#[42]⟩) := g 9 (by omega)
  have c10 : w.cell? ⟨0, 10, none⟩ = some (.string ⟨#[47]⟩) := g 10 (by omega)
  have c11 : w.cell? ⟨0, 11, none⟩ = some (.string ⟨#[40]⟩) := g 11 (by omega)
  have c12 : w.cell? ⟨0, 12, none⟩ = some (.string ⟨#[41]⟩) := g 12 (by omega)
  have c13 : w.cell? ⟨0, 13, none⟩ = some (.string ⟨#[91]⟩) := g 13 (by omega)
  have c14 : w.cell? ⟨0, 14, none⟩ = some (.string ⟨#[93]⟩) := g 14 (by omega)
  have c15 : w.cell? ⟨0, 15, none⟩ = some (.string ⟨#[44]⟩) := g 15 (by omega)
  clear g
  generalize hK : (if sgn sgs (l.drop at0) = 0 then 0 else 4) = K
  generalize hN : at0 + sgn sgs (l.drop at0) = N
  have HK := hide hK
  have HN := hide hN
  have HS := hide hs
  have HD := hide hd
  clear hK hN hs hd
  go_enter Tryd.func18, Tryd.ntmps18
  go_wp2_with fail
  refine (small_any l[at0] _).mono ?_
  rintro e w' ⟨rfl, rfl⟩
  rw [unhide HS]
  go_wp2_with fail
  refine (digit_any l[at0] _).mono ?_
  rintro e w' ⟨rfl, rfl⟩
  rw [unhide HD]
  go_wp2_with fail
  clear c0 c1 c2 c3 c4 c5 c6 c7 c8 c9 c10 c11 c12 c13 c14 c15
  have SI := hide sig_index
  generalize (#[.string ⟨#[60, 61]⟩, .string ⟨#[62, 61]⟩, .string ⟨#[33, 61]⟩, .string ⟨#[46, 46]⟩, .string ⟨#[60]⟩, .string ⟨#[62]⟩, .string ⟨#[61]⟩, .string ⟨#[43]⟩, .string ⟨#[45]⟩, .string ⟨#[42]⟩, .string ⟨#[47]⟩, .string ⟨#[40]⟩, .string ⟨#[41]⟩, .string ⟨#[91]⟩, .string ⟨#[93]⟩, .string ⟨#[44]⟩] : Array Value) = SA at *
  have e1 : (ByteArray.mk l.toArray).extract at0 l.length = ByteArray.mk (l.drop at0).toArray := by
    rw [lext_eq, List.take_of_length_le (by simp)]
  have hrl : (l.drop at0).length ≤ 1000 := by simp; omega
  generalize l.drop at0 = r at *
  go_loop [33] (fun i => ∃ k : Nat, k ≤ 16 ∧ i = .int .i64 k ∧ Hid (sgn (sgs.drop k) r = sgn sgs r)) (fun i => 16 - (intOf i).toNat)
  case atStart => exact ⟨0, by omega, rfl, hide rfl⟩
  case round =>
    obtain ⟨k, hk, rfl, HR⟩ := hrel
    by_cases hlt : k < 16
    · have ST := hide (sgn_step r hlt)
      have hg := sgs_len hlt
      have si := unhide SI k hlt
      generalize sgs.getD k [] = g at *
      cases hp : preB g r
      · have HP := hide hp
        have HE := hide (show sgn (sgs.drop (k + 1)) r = sgn sgs r by rw [← unhide HR, unhide ST, hp]; rfl)
        clear hp
        go_wp2_with fail
        refine (hasp_any g r _ (by omega) hrl).mono ?_
        rintro e w2 ⟨rfl, rfl⟩
        rw [unhide HP]
        go_wp2_with fail
        go_round
        case rel => exact ⟨k + 1, by omega, by go_num, HE⟩
        case measure => simp [intOf]; omega
      · have HP := hide hp
        have hs : g.length = sgn sgs r := by rw [← unhide HR, unhide ST, hp]; rfl
        have HK' := hide (show 4 = K by rw [← unhide HK, if_neg (by omega)])
        have HN' := hide (show at0 + g.length = N by rw [← unhide HN, hs])
        clear hp hs
        go_wp2_with fail
        refine (hasp_any g r _ (by omega) hrl).mono ?_
        rintro e w2 ⟨rfl, rfl⟩
        rw [unhide HP]
        go_wp2_with fail
        go_ret2
        exact ⟨ret_two (unhide HK') (unhide HN'), rfl⟩
    · have hs : sgn sgs r = 0 := by rw [← unhide HR, show k = 16 by omega]; rfl
      have HK' := hide (show 0 = K by rw [← unhide HK, if_pos hs])
      have HN' := hide (show at0 = N by rw [← unhide HN, hs]; rfl)
      clear hs
      go_wp2_with fail
      go_ret2
      exact ⟨ret_two (unhide HK') (unhide HN'), rfl⟩

theorem tok_cons {l : List UInt8} {at0 : Nat} (ha : at0 < l.length) :
    tokK (l.drop at0) = (if smB l[at0] = true then 1 else if dgB l[at0] = true then 2 else if l[at0].toNat = 34 then (if endB (l.drop at0) = true then 3 else 0) else if sgn sgs (l.drop at0) = 0 then 0 else 4)
    ∧ tokN (l.drop at0) = (if smB l[at0] = true then run nmB (l.drop at0) else if dgB l[at0] = true then numN (l.drop at0) else if l[at0].toNat = 34 then (if endB (l.drop at0) = true then 1 + run txB ((l.drop at0).drop 1) + 1 else 0) else sgn sgs (l.drop at0)) := by
  rw [drop_cons ha]
  exact ⟨rfl, rfl⟩

set_option maxHeartbeats 1600000 in
theorem token_any (l : List UInt8) (at0 : Nat) (w : World) (hl : l.length ≤ 1000) (ha : at0 < l.length) (sig : Sig w) :
    Calls Tryd.prog 18 #[.string ⟨l.toArray⟩, .int .i64 at0] w fun e w' => e = .returned (.tuple #[.int .i64 ((tokK (l.drop at0) : Nat) : Int), .int .i64 ((at0 + tokN (l.drop at0) : Nat) : Int)]) ∧ w' = w := by
  obtain ⟨tk, tn⟩ := tok_cons ha
  have hge : (⟨l.toArray⟩ : ByteArray)[at0]'(by simpa [ByteArray.size] using ha) = l[at0] := rfl
  cases hs : smB l[at0]
  · rw [hs, if_neg (by simp)] at tk tn
    cases hd : dgB l[at0]
    · rw [hd, if_neg (by simp)] at tk tn
      by_cases hq : l[at0].toNat = 34
      · rw [if_pos hq] at tk tn
        have T := hide (fun w => ltext_any l at0 w hl ha)
        rw [← tk, ← tn] at T
        generalize tokK (l.drop at0) = K at *
        generalize tokN (l.drop at0) = N at *
        have HS := hide hs
        have HD := hide hd
        have e34 : ((l[at0].toNat : Int) == 34) = true := by simp; omega
        clear hs hd tk tn hq sig
        go_enter Tryd.func18, Tryd.ntmps18
        go_wp2_with fail
        refine (small_any l[at0] _).mono ?_
        rintro e w' ⟨rfl, rfl⟩
        rw [unhide HS]
        go_wp2_with fail
        refine (digit_any l[at0] _).mono ?_
        rintro e w' ⟨rfl, rfl⟩
        rw [unhide HD]
        go_wp2_with fail
        refine (unhide T _).mono ?_
        rintro e w' ⟨rfl, rfl⟩
        go_wp2_with fail
        go_ret2
        exact ⟨rfl, rfl⟩
      · rw [if_neg hq] at tk tn
        have h := token_sign l at0 w hl ha hs hd (by simp; omega) sig
        rw [← tk, ← tn] at h
        exact h
    · rw [hd, if_pos rfl] at tk tn
      have T := hide (fun w => lnumber_any l at0 w hl (Nat.le_of_lt ha))
      rw [← tn] at T
      generalize tokK (l.drop at0) = K at *
      generalize tokN (l.drop at0) = N at *
      have HS := hide hs
      have HD := hide hd
      have HK := hide (show 2 = K from tk.symm)
      clear hs hd tk tn sig
      go_enter Tryd.func18, Tryd.ntmps18
      go_wp2_with fail
      refine (small_any l[at0] _).mono ?_
      rintro e w' ⟨rfl, rfl⟩
      rw [unhide HS]
      go_wp2_with fail
      refine (digit_any l[at0] _).mono ?_
      rintro e w' ⟨rfl, rfl⟩
      rw [unhide HD]
      go_wp2_with fail
      refine (unhide T _).mono ?_
      rintro e w' ⟨rfl, rfl⟩
      go_wp2_with fail
      go_ret2
      exact ⟨ret_two (unhide HK) rfl, rfl⟩
  · rw [hs, if_pos rfl] at tk tn
    have T := hide (fun w => past_any 26 nmB e_inName inName_any l at0 w hl (Nat.le_of_lt ha))
    rw [← tn] at T
    generalize tokK (l.drop at0) = K at *
    generalize tokN (l.drop at0) = N at *
    have HS := hide hs
    have HK := hide (show 1 = K from tk.symm)
    clear hs tk tn sig
    go_enter Tryd.func18, Tryd.ntmps18
    go_wp2_with fail
    refine (small_any l[at0] _).mono ?_
    rintro e w' ⟨rfl, rfl⟩
    rw [unhide HS]
    go_wp2_with fail
    refine (unhide T _).mono ?_
    rintro e w' ⟨rfl, rfl⟩
    go_wp2_with fail
    go_ret2
    exact ⟨ret_two (unhide HK) rfl, rfl⟩
end Go.Proofs.YtdlfgnmcokdceabDoor

/- The contract of lex's Lex: a text's tokens, in new memory. -/
namespace Go.Proofs.YtdlfgnmcokdceabDoor
open Go.RowKit
set_option linter.unusedVariables false

/- the cells of a token, of a row of them. -/
def tkC (t : Tk) : List Value := [.int .i64 (t.1 : Int), .string ⟨t.2.1.toArray⟩, .int .i64 (t.2.2 : Int)]
def tksC (ts : List Tk) : List Value := ts.flatMap tkC
theorem tksC_len (ts : List Tk) : (tksC ts).length = ts.length * 3 := by
  induction ts with
  | nil => rfl
  | cons t ts ih => rw [tksC, List.flatMap_cons, List.length_append, ← tksC, ih]; simp [tkC]; omega
theorem tksC_snoc (ts : List Tk) (t : Tk) : tksC (ts ++ [t]) = tksC ts ++ tkC t := by simp [tksC]
theorem infoTok : (Tryd.prog.info? 47).map (fun i => (i.zero, i.size, i.bytes)) = some (some (.agg #[.int .i64 0, .string ⟨#[]⟩, .int .i64 0]), 3, 32) := by kernel_rfl
theorem owns_form {w : World} {B : Nat} {v : Value} {n : Nat} {xs : List Value} (h : w.ownsRow B 47 3 v n xs) : ∃ a cap, v = .slice a n cap := by
  rcases h.2 with ⟨rfl, rfl⟩ | ⟨g, cap, cur, rfl, -⟩
  · exact ⟨none, 0, rfl⟩
  · exact ⟨_, cap, rfl⟩

theorem owns_below {w w' : World} {B : Nat} {e : TypeId} {sz : Nat} {v : Value} {n : Nat} {xs : List Value} (h : w.ownsRow B e sz v n xs) (k : Below w.heap.size w w') : w'.ownsRow B e sz v n xs := by
  refine ⟨h.1, ?_⟩
  rcases h.2 with h0 | ⟨g, cap, cur, hv, hb, hg, hr⟩
  · exact Or.inl h0
  · refine Or.inr ⟨g, cap, cur, hv, hb, ?_, hr⟩
    rw [k.block g (Array.getElem?_eq_some_iff.1 hg).1]
    exact hg

theorem tokE_n {r : List UInt8} {n : Nat} (h : tokE r n = 0) : n < 60 := by
  apply Classical.byContradiction
  intro hn
  unfold tokE fltN at h
  by_cases hf : flt (tokK r) (tokT r) = 0
  · rw [if_pos ⟨hf, by omega⟩] at h; cases h
  · rw [if_neg (fun x => hf x.1)] at h; exact hf h
theorem past_bd (l : List UInt8) (k : Nat) (h : k ≤ l.length) : k + run blB (l.drop k) ≤ l.length := by
  have := run_le blB (l.drop k)
  rw [List.length_drop] at this
  omega
theorem past_stop (l : List UInt8) (k : Nat) : ∀ h : k + run blB (l.drop k) < l.length, blB l[k + run blB (l.drop k)] = false := by
  intro h
  have := run_stop (p := blB) (l.drop k) (by rw [List.length_drop]; omega)
  simpa using this

/- append of one token. -/
theorem wpList_tok {w : World} {ops : Array Oper} {rest : List Oper} {o : Oper} {a : Act} {Q : Exit → Act → World → Prop} (hgd : o.guard = none) (s x : Operand)
    (ho : o.op = .call { callee := .builtin .append, args := #[s, x], argTypes := #[41, 41] }) (B : Nat) (v : Value) (ts : List Tk) (hs : a.eval s = v) (own : w.ownsRow B 47 3 v ts.length (tksC ts))
    (b : Nat) (t : Tk) (hx : a.eval x = .slice (some ⟨b, 0, none⟩) 1 1) (hc : w.cell? ⟨b, 0, none⟩ = some (.int .i64 (t.1 : Int)) ∧ w.cell? ⟨b, 1, none⟩ = some (.string ⟨t.2.1.toArray⟩) ∧ w.cell? ⟨b, 2, none⟩ = some (.int .i64 (t.2.2 : Int)))
    (hn : ts.length ≤ 1000) (hB : B ≤ w.heap.size)
    (h : ∀ v' w', w'.ownsRow B 47 3 v' (ts ++ [t]).length (tksC (ts ++ [t])) → w.grownBy w' v.ownBlock → (∀ W0, Below B W0 w → Below B W0 w') → wpList Tryd.prog ops Q rest (a.put o.dst v') w') : wpList Tryd.prog ops Q (o :: rest) a w := by
  obtain ⟨i, hi, hzz⟩ := Option.map_eq_some_iff.1 infoTok
  simp only [Prod.mk.injEq] at hzz
  obtain ⟨hz, hz1, hz2⟩ := hzz
  refine wpList_append_lies w hgd s x 41 ho B 47 i _ 3 32 Tryd.underlying41 hi hz hz1 hz2 rfl (by omega) v ts.length (tksC ts) hs own ⟨b, 0, none⟩ 1 1 (tkC t) hx rfl ?_ ?_ (by omega) (by unfold maxLen; omega) (by omega) hB _ rfl ?_
  · intro j u hu
    have hadd : (⟨b, 0, none⟩ : Addr).add j = ⟨b, j, none⟩ := by unfold Addr.add; split <;> simp_all
    rw [hadd]
    obtain ⟨h0, h1, h2⟩ := hc
    match j, hu with
    | 0, hu => exact h0.trans hu
    | 1, hu => exact h1.trans hu
    | 2, hu => exact h2.trans hu
    | j + 3, hu => simp [tkC] at hu
  · intro u hu
    simp [tkC] at hu
    rcases hu with rfl | rfl | rfl <;> rfl
  · intro g cap w' own' gr _ _
    refine h _ w' ?_ gr (fun W0 hb => hb.grown gr hB (fun k hk => (own.lt k hk).1))
    rw [tksC_snoc, List.length_append]
    exact own'

/- what Lex answers. -/
def LexRes (B : Nat) (R : List Tk × Nat × Nat) (e : Ending) (w' : World) : Prop :=
  ∃ v, e = .returned (.tuple #[v, .int .i64 (R.2.1 : Int), .int .i64 (R.2.2 : Int)]) ∧ w'.ownsRow B 47 3 v R.1.length (tksC R.1)

theorem lexRes_mk {B : Nat} {R : List Tk × Nat × Nat} {acc : List Tk} {p e0 : Nat} {v : Value} {w' : World} (hR : R = (acc, p, e0)) (ho : w'.ownsRow B 47 3 v acc.length (tksC acc)) :
    LexRes B R (.returned (.tuple #[v, .int .i64 (p : Int), .int .i64 (e0 : Int)])) w' := by
  subst hR
  exact ⟨v, rfl, ho⟩

set_option maxHeartbeats 3200000 in
theorem lex_long (l : List UInt8) (w : World) (hl : l.length ≤ 1000) (h2 : 200 < l.length) :
    Calls Tryd.prog 12 #[.string ⟨l.toArray⟩] w fun e w' => LexRes w.heap.size (lexT l) e w' ∧ w' = w := by
  have HR := hide (show lexT l = ([], 0, 13) by unfold lexT; rw [if_pos h2])
  generalize lexT l = R at *
  go_enter Tryd.func12, Tryd.ntmps12
  go_wp2_with fail
  go_ret3
  rw [unhide HR]
  exact ⟨⟨_, rfl, World.ownsRow_nil _ _ _ _⟩, rfl⟩

set_option maxHeartbeats 3200000 in
theorem lex_any (l : List UInt8) (w : World) (h2 : l.length ≤ 200) (sig : Sig w) :
    Calls Tryd.prog 12 #[.string ⟨l.toArray⟩] w fun e w' => LexRes w.heap.size (lexT l) e w' ∧ Below w.heap.size w w' := by
  have hl : l.length ≤ 1000 := by omega
  have hR0 := lexT_glue h2
  rw [lex_past (l := l) (at0 := 0) 0 _ rfl] at hR0
  have hp0 : (blB : UInt8 → Bool) = blB := rfl
  have P0 := hide (fun w => past_any 17 blB e_blank blank_any l 0 w hl (Nat.zero_le _))
  have hk0 := run_le blB (l.drop 0)
  rw [List.length_drop] at hk0
  have hs0 : ∀ h : 0 + run blB (l.drop 0) < l.length, blB l[0 + run blB (l.drop 0)] = false := by
    intro h
    have := run_stop (p := blB) (l.drop 0) (by simpa using h)
    simpa using this
  generalize hK0 : 0 + run blB (l.drop 0) = k0 at *
  have hk0' : k0 ≤ l.length := by omega
  have HS0 := hide hs0
  have HR0 := hide hR0.symm
  have SG := hide sig
  have PB := hide (fun (k : Nat) (h : k ≤ l.length) w => past_any 17 blB e_blank blank_any l k w hl h)
  clear hs0 hR0 sig hK0 hk0 hp0
  generalize lexT l = R at *
  generalize hB : w.heap.size = B at *
  have HB := hide hB
  clear hB
  go_enter Tryd.func12, Tryd.ntmps12
  go_wp2_with fail
  refine (unhide P0 _).mono ?_
  rintro e w' ⟨rfl, rfl⟩
  go_wp2_with fail
  go_loopw [5, 6] (fun v i wr => ∃ (acc : List Tk) (k : Nat), k ≤ l.length ∧ i = .int .i64 k ∧ acc.length ≤ 60 ∧ Below B w' wr ∧ Hid (wr.ownsRow B 47 3 v acc.length (tksC acc)) ∧ Hid (∀ h : k < l.length, blB l[k] = false) ∧ Hid (glue acc (lexS (l.drop k) 0 k acc.length) = R)) (fun _ i _ => l.length - (intOf i).toNat)
  case atStart => exact ⟨[], k0, hk0', rfl, by simp, Below.refl _ _, hide (World.ownsRow_nil _ _ _ _), HS0, HR0⟩
  case round =>
    clear HS0 HR0 P0
    obtain ⟨acc, k, hk, rfl, hacc, bel, OWN, HS, HR⟩ := hrel
    by_cases hlt : k < l.length
    · have hsg : Sig wr := (unhide SG).below (by rw [unhide HB]; exact bel)
      have T := hide (fun w => token_any l k w hl hlt)
      have tb := tokN_bd (l.drop k)
      rw [List.length_drop] at tb
      have hK4 : tokK (l.drop k) ≤ 4 := by
        rw [(tok_cons hlt).1]
        split
        · omega
        split
        · omega
        split
        · split <;> omega
        · split <;> omega
      have F := hide (show tokE (l.drop k) acc.length = fltN (tokK (l.drop k)) (saidL (tokK (l.drop k)) ((l.drop k).take (tokN (l.drop k)))) acc.length from rfl)
      have e1 : (ByteArray.mk l.toArray).extract k (k + tokN (l.drop k)) = ByteArray.mk ((l.drop k).take (tokN (l.drop k))).toArray := by rw [lext_eq, Nat.add_sub_cancel_left]
      have htl : ((l.drop k).take (tokN (l.drop k))).length = tokN (l.drop k) := by rw [List.length_take, List.length_drop]; omega
      have S := hide (said_any (tokK (l.drop k)) ((l.drop k).take (tokN (l.drop k))))
      have hsl : (saidL (tokK (l.drop k)) ((l.drop k).take (tokN (l.drop k)))).length ≤ 1000 := by
        unfold saidL
        split
        · simp only [List.length_take, List.length_drop]; omega
        · omega
      have ER := hide (fun he => lex_err (n := acc.length) hlt (unhide HS hlt) he)
      have OK := hide (fun he => lex_tok (n := acc.length) hlt (unhide HS hlt) he)
      have KD := hide (fun he => tokE_kind (r := l.drop k) (n := acc.length) he)
      have PP := hide (past_bd l)
      have PS := hide (past_stop l)
      have TT := hide (show tokT (l.drop k) = saidL (tokK (l.drop k)) ((l.drop k).take (tokN (l.drop k))) from rfl)
      generalize saidL (tokK (l.drop k)) ((l.drop k).take (tokN (l.drop k))) = tT at *
      generalize (l.drop k).take (tokN (l.drop k)) = t0 at *
      generalize tokK (l.drop k) = K at *
      have hEl : k + tokN (l.drop k) ≤ l.length := by omega
      have hEk : k ≤ k + tokN (l.drop k) := by omega
      have hE1 : K ≠ 0 → k < k + tokN (l.drop k) := by omega
      generalize tokN (l.drop k) = N at *
      generalize k + N = E at *
      go_wp2_with fail
      refine (unhide T _ hsg).mono ?_
      rintro e w1 ⟨rfl, rfl⟩
      go_wp2_with fail
      obtain ⟨a, cap, rfl⟩ := owns_form (unhide OWN)
      refine (unhide S _ hK4 (by omega) (by intro h; have := tb.2.2.1 h; omega)).mono ?_
      rintro e w1 ⟨rfl, rfl⟩
      go_wp2_with fail
      refine (fault_any K tT k acc.length _ hK4 hsl (by omega)).mono ?_
      rintro e w2 ⟨rfl, b2⟩
      have b2' := bstep (below1 w1 _) b2
      have own2 := hide (owns_below (unhide OWN) b2')
      have bel2 : Below B w' w2 := bel.trans (b2'.mono (by have := bel.size; rw [unhide HB] at this; exact this))
      have q0 : w2.cell? ⟨w1.heap.size, 0, none⟩ = some (.int .i64 (K : Int)) := (((bcell b2).1 _ _ (by simp)).trans (by go_simp))
      have q1 : w2.cell? ⟨w1.heap.size, 1, none⟩ = some (.string ⟨tT.toArray⟩) := (((bcell b2).1 _ _ (by simp)).trans (by go_simp))
      have q2 : w2.cell? ⟨w1.heap.size, 2, none⟩ = some (.int .i64 (k : Int)) := (((bcell b2).1 _ _ (by simp)).trans (by go_simp))
      have z2 : w1.heap.size < w2.heap.size := by have := b2.size; simp at this; omega
      have zB : B ≤ w2.heap.size := by have := bel2.size; rw [unhide HB] at this; exact this
      clear b2 b2' OWN bel hsg
      rw [← unhide F]
      by_cases hf : tokE (l.drop k) acc.length = 0
      · have hE2 := hE1 (unhide KD hf)
        have hn6 := tokE_n hf
        have pb := unhide PP E hEl
        have HE := hide (show glue (acc ++ [(K, tT, k)]) (lexS (l.drop (E + run blB (l.drop E))) 0 (E + run blB (l.drop E)) (acc ++ [(K, tT, k)]).length) = R by
          rw [List.length_append, ← lex_past (l := l) (at0 := E) _ _ rfl, ← glue_cons, ← unhide HR, unhide OK hf, unhide TT]; rfl)
        have HS2 := hide (unhide PS E)
        rw [hf]
        clear hf tb e1
        go_wp2_with (at_builtin; go_must (refine wpList_tok rfl _ _ rfl B _ acc rfl ((unhide own2).alloc _) w2.heap.size (K, tT, k) rfl ⟨by go_simp, by go_simp, by go_simp⟩ (by omega) (by simp; omega) ?_); intro v' w3 own3 gr3 bel3)
        have bel3' : Below B w' w3 := bel3 _ (bel2.alloc zB _)
        clear bel3 gr3 bel2 own2 q0 q1 q2
        have OWN3 := hide own3
        clear own3
        refine (unhide PB E hEl _).mono ?_
        rintro e w4 ⟨rfl, rfl⟩
        go_wp2_with fail
        go_roundw
        case rel => exact ⟨acc ++ [(K, tT, k)], E + run blB (l.drop E), pb, rfl, by simp; omega, bel3', OWN3, HS2, HE⟩
        case measure => simp [intOf]; omega
      · have HE := hide (show R = ([], k, tokE (l.drop k) acc.length) by rw [← unhide HR, unhide ER hf, glue_err _ _ _ hf])
        generalize tokE (l.drop k) acc.length = F0 at *
        have e0 : ((F0 : Int) != 0) = true := by simp; omega
        clear hf
        go_wp2_with fail
        go_ret3
        exact ⟨lexRes_mk (unhide HE) (World.ownsRow_nil _ _ _ _), bel2⟩
    · have HE := hide (show R = (acc, l.length, 0) by rw [← unhide HR, lex_end (by omega), glue_ok, show k = l.length by omega])
      go_wp2_with fail
      go_ret3
      exact ⟨lexRes_mk (unhide HE) (unhide OWN), bel⟩
end Go.Proofs.YtdlfgnmcokdceabDoor

/- Rows of tokens are read. -/
namespace Go.Proofs.YtdlfgnmcokdceabDoor
open Go.RowKit
set_option linter.unusedVariables false

theorem tksC_get (ts : List Tk) : ∀ (i : Nat) (h : i < ts.length) (q : Nat), q < 3 → (tksC ts)[i * 3 + q]? = (tkC ts[i])[q]? := by
  induction ts with
  | nil => intro i h; exact absurd h (Nat.not_lt_zero _)
  | cons t ts ih =>
    intro i h q hq
    rw [tksC, List.flatMap_cons, ← tksC]
    cases i with
    | zero => rw [List.getElem?_append_left (by simp [tkC]; omega)]; simp
    | succ i =>
      rw [List.getElem?_append_right (by simp [tkC]; omega)]
      have e : (i + 1) * 3 + q - (tkC t).length = i * 3 + q := by simp [tkC]; omega
      rw [e, ih i (by simpa using h) q hq]
      simp

/- the token's three cells. -/
def Tok3 (w : World) (g o : Nat) (t : Tk) : Prop := g < w.heap.size ∧ w.cell? ⟨g, o, none⟩ = some (.int .i64 (t.1 : Int)) ∧ w.cell? ⟨g, o + 1, none⟩ = some (.string ⟨t.2.1.toArray⟩) ∧ w.cell? ⟨g, o + 2, none⟩ = some (.int .i64 (t.2.2 : Int))
theorem own_at {w : World} {B : Nat} {v : Value} {ts : List Tk} (h : w.ownsRow B 47 3 v ts.length (tksC ts)) (hl : 0 < ts.length) :
    ∃ g cap, v = .slice (some ⟨g, 0, none⟩) ts.length cap ∧ B ≤ g ∧ ∀ i (hi : i < ts.length), Tok3 w g (i * 3) ts[i] := by
  obtain ⟨g, cap, rfl, hb, hg⟩ := h.form hl
  refine ⟨g, cap, rfl, hb, fun i hi => ⟨hg, ?_, ?_, ?_⟩⟩
  · have := h.cellAt (i * 3) (by omega)
    rw [this, show i * 3 = i * 3 + 0 by omega, tksC_get ts i hi 0 (by omega)]; rfl
  · have := h.cellAt (i * 3 + 1) (by omega)
    rw [this, tksC_get ts i hi 1 (by omega)]; rfl
  · have := h.cellAt (i * 3 + 2) (by omega)
    rw [this, tksC_get ts i hi 2 (by omega)]; rfl

end Go.Proofs.YtdlfgnmcokdceabDoor
