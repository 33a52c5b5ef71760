/- FAtom RLName RLText: laid together. -/
import Derived.Test.YtfdimdjmnfdecaaGreatKAV
import Derived.Deep.QuietTactic
import Derived.BigQuiet
set_option linter.unusedVariables false
set_option linter.unusedSimpArgs false
set_option maxHeartbeats 8000000
namespace Go.Proofs.YtfdimdjmnfdecaaGreat
open Go.RowKit
section
variable {b : Nat} {a : Option Addr} {cap : Nat} {ts : List Tk}
theorem atom_num {e1 : Nat → RX} {k : Nat} (h : k < ts.length) (h2 : (tokAt ts k).1 = 2) : atomP ts e1 k = numP (tokAt ts k).2.1 k := by
 rw [tokAt_in h] at *
 unfold atomP
 rw [List.getElem?_eq_getElem h]
 dsimp only
 rw [if_pos h2]
theorem atom_text {e1 : Nat → RX} {k : Nat} (h : k < ts.length) (h2 : (tokAt ts k).1 = 3) : atomP ts e1 k = .ok (textX (tokAt ts k).2.1) (k + 1) := by
 rw [tokAt_in h] at *
 unfold atomP
 rw [List.getElem?_eq_getElem h]
 dsimp only
 rw [if_neg (by omega), if_pos h2]
theorem atom_name {e1 : Nat → RX} {k : Nat} (h : k < ts.length) (h2 : (tokAt ts k).1 = 1) (hw : wordB (tokAt ts k).2.1 = false) : atomP ts e1 k = namedP ts e1 (tokAt ts k).2.1 (k + 1) := by
 rw [tokAt_in h] at *
 unfold atomP
 rw [List.getElem?_eq_getElem h]
 dsimp only
 rw [if_neg (by omega), if_neg (by omega), if_pos ⟨h2, hw⟩]
theorem sign_end {e1 : Nat → RX} {k : Nat} (h : ts.length ≤ k) : signP ts e1 k = .er 2 k := by
 have e : ∀ m, mkB ts k m = false := by
  intro m
  cases hm : mkB ts k m with
  | false => rfl
  | true => have := mkB_lt hm; omega
 unfold signP constP
 simp [e]
theorem atom_sign {e1 : Nat → RX} {k : Nat} (h2 : (tokAt ts k).1 ≠ 2) (h3 : (tokAt ts k).1 ≠ 3) (h1 : (tokAt ts k).1 = 1 → wordB (tokAt ts k).2.1 = true) : atomP ts e1 k = signP ts e1 k := by
 by_cases h : k < ts.length
 ·rw [tokAt_in h] at *
  unfold atomP
  rw [List.getElem?_eq_getElem h]
  dsimp only
  rw [if_neg h2, if_neg h3, if_neg (fun x => by have := h1 x.1; rw [x.2] at this; cases this)]
 ·rw [sign_end (by omega)]
  unfold atomP
  rw [List.getElem?_eq_none (by omega)]
end
section
theorem rletter_any (c : UInt8) (w : World) : Calls Tryz.prog 99 #[.int .u8 c.toNat] w fun e w' => e = .returned (.bool (smB c)) ∧ w' = w := by
 by_cases h1 : 97 ≤ (c.toNat : Int)
 ·by_cases h2 : (c.toNat : Int) ≤ 122
  ·have H := hide (sm_yes h1 h2)
   go_enter Tryz.func99, Tryz.ntmps99
   go_wp2
   go_ret
   exact ⟨ret_bool (unhide H).symm, rfl⟩
  ·have H := hide (sm_no (c := c) (Or.inr (by omega)))
   go_enter Tryz.func99, Tryz.ntmps99
   go_wp2
   go_ret
   exact ⟨ret_bool (unhide H).symm, rfl⟩
 ·have H := hide (sm_no (c := c) (Or.inl (by omega)))
  go_enter Tryz.func99, Tryz.ntmps99
  go_wp2
  go_ret
  exact ⟨ret_bool (unhide H).symm, rfl⟩
theorem rdigit_any (c : UInt8) (w : World) : Calls Tryz.prog 100 #[.int .u8 c.toNat] w fun e w' => e = .returned (.bool (dgB c)) ∧ w' = w := by
 by_cases h1 : 48 ≤ (c.toNat : Int)
 ·by_cases h2 : (c.toNat : Int) ≤ 57
  ·have H := hide (dg_yes h1 h2)
   go_enter Tryz.func100, Tryz.ntmps100
   go_wp2
   go_ret
   exact ⟨ret_bool (unhide H).symm, rfl⟩
  ·have H := hide (dg_no (c := c) (Or.inr (by omega)))
   go_enter Tryz.func100, Tryz.ntmps100
   go_wp2
   go_ret
   exact ⟨ret_bool (unhide H).symm, rfl⟩
 ·have H := hide (dg_no (c := c) (Or.inl (by omega)))
  go_enter Tryz.func100, Tryz.ntmps100
  go_wp2
  go_ret
  exact ⟨ret_bool (unhide H).symm, rfl⟩
def nxtV (K N : Nat) (T : List UInt8) (at0 F : Nat) : Value := if F = 0 then .tuple #[.agg #[.int .i64 (K : Int), .string ⟨T.toArray⟩, .int .i64 (at0 : Int)], .int .i64 ((at0 + N : Nat) : Int), .int .i64 0] else .tuple #[.agg #[.int .i64 0, .string ⟨#[]⟩, .int .i64 0], .int .i64 (at0 : Int), .int .i64 (F : Int)]
theorem nxt_ok {K N : Nat} {T : List UInt8} {at0 F E : Nat} (h : F = 0) (hE : at0 + N = E) : nxtV K N T at0 F = .tuple #[.agg #[.int .i64 (K : Int), .string ⟨T.toArray⟩, .int .i64 (at0 : Int)], .int .i64 (E : Int), .int .i64 0] := by unfold nxtV; rw [if_pos h, hE]
theorem nxt_err {K N : Nat} {T : List UInt8} {at0 F : Nat} (h : F ≠ 0) : nxtV K N T at0 F = .tuple #[.agg #[.int .i64 0, .string ⟨#[]⟩, .int .i64 0], .int .i64 (at0 : Int), .int .i64 (F : Int)] := by unfold nxtV; rw [if_neg h]
theorem ret_val {a b : Value} (h : a = b) : Ending.returned a = .returned b := by rw [h]
theorem below4 {w w2 : World} {v0 v1 v2 : Value} {b : Nat} (k : Below w.heap.size w w2) (hb : w.heap.size ≤ b) : Below w.heap.size w (((w2.setCell ⟨b, 0, none⟩ v0).setCell ⟨b, 1, none⟩ v1).setCell ⟨b, 2, none⟩ v2) := ((k.setCell hb v0).setCell hb v1).setCell hb v2
set_option maxRecDepth 10000 in
theorem rname_any (l : List UInt8) (at0 : Nat) (w : World) (hl : l.length ≤ 1000) (ha : at0 < l.length) (hs : smB l[at0] = true) :
  Calls Tryz.prog 71 #[.string ⟨l.toArray⟩, .int .i64 at0] w fun e w' => e = .returned (nxtV 1 (run nmB (l.drop at0)) ((l.drop at0).take (run nmB (l.drop at0))) at0 (flt 1 ((l.drop at0).take (run nmB (l.drop at0))))) ∧ Below w.heap.size w w' := by
 have hge : (⟨l.toArray⟩ : ByteArray)[at0]'(by simpa [ByteArray.size] using ha) = l[at0] := rfl
 have h1 := run_le nmB (l.drop at0)
 have htl : ((l.drop at0).take (run nmB (l.drop at0))).length = run nmB (l.drop at0) := by rw [List.length_take]; omega
 rw [List.length_drop] at h1
 have e1 : (ByteArray.mk l.toArray).extract at0 (at0 + run nmB (l.drop at0)) = ByteArray.mk ((l.drop at0).take (run nmB (l.drop at0))).toArray := by rw [lext_eq, Nat.add_sub_cancel_left]
 generalize (l.drop at0).take (run nmB (l.drop at0)) = t at *
 generalize hV0 : nxtV 1 (run nmB (l.drop at0)) t at0 (flt 1 t) = V
 have HV0 := hide hV0
 have hEl : at0 + run nmB (l.drop at0) ≤ l.length := by omega
 have htE : at0 + t.length = at0 + run nmB (l.drop at0) := by omega
 rw [← htl] at HV0
 clear hV0 htl h1
 generalize hEE : at0 + run nmB (l.drop at0) = E at e1 hEl htE
 have HE0 := hide hEE
 have HTE := hide htE
 clear hEE htE
 have HS := hide hs
 clear hs
 go_enter Tryz.func71, Tryz.ntmps71
 go_wp2_with fail
 refine (rletter_any l[at0] _).mono ?_
 rintro e w1 ⟨rfl, rfl⟩
 rw [unhide HS]
 go_wp2_with fail
 go_loop [7] (fun i => ∃ k : Nat, at0 ≤ k ∧ k ≤ l.length ∧ i = .int .i64 k ∧ Hid (k + run nmB (l.drop k) = E)) (fun i => l.length - (intOf i).toNat)
 case atStart => exact ⟨at0, by omega, by omega, rfl, HE0⟩
 case round =>
  clear HE0
  obtain ⟨k, hk1, hk2, rfl, HR⟩ := hrel
  by_cases hlt : k < l.length
  ·have hgk : (⟨l.toArray⟩ : ByteArray)[k]'(by simpa [ByteArray.size] using hlt) = l[k] := rfl
   cases hsk : smB l[k]
   ·have HSK := hide hsk
    cases hdk : dgB l[k]
    ·have HDK := hide hdk
     have HN := hide (show run nmB (l.drop k) = 0 from run_no hlt (by unfold nmB; rw [hsk, hdk]; rfl))
     clear hsk hdk
     go_wp2_with fail
     refine (rletter_any l[k] _).mono ?_
     rintro e w1 ⟨rfl, rfl⟩
     rw [unhide HSK]
     go_wp2_with fail
     refine (rdigit_any l[k] _).mono ?_
     rintro e w1 ⟨rfl, rfl⟩
     rw [unhide HDK]
     have e : k = E := by have := unhide HR; rw [unhide HN] at this; exact this
     have htE := unhide HTE
     subst e
     by_cases h8 : 8 < t.length
     ·have h8' : (8 : Int) < (k : Int) - at0 := by omega
      have ht1 : t.length ≤ 1000 := by omega
      cases hw : wordB t
      ·have HW := hide hw
       have HV := hide (show .tuple #[.agg #[.int .i64 0, .string ⟨#[]⟩, .int .i64 0], .int .i64 (at0 : Int), .int .i64 13] = V by
        rw [← unhide HV0]; have : flt 1 t = 13 := by simp [flt, h8, hw]
        rw [this]; exact (nxt_err (F := 13) (by omega)).symm)
       clear hw h8 htE
       go_wp2_with fail
       refine (rword_any t _ ht1).mono ?_
       rintro e w2 ⟨rfl, b2⟩
       rw [unhide HW]
       have c0 : w2.cell? ⟨w.heap.size, 0, none⟩ = some (.int .i64 0) := ((bcell b2).1 _ _ (by simp)).trans (by go_simp)
       have c1 : w2.cell? ⟨w.heap.size, 1, none⟩ = some (.string ⟨#[]⟩) := ((bcell b2).1 _ _ (by simp)).trans (by go_simp)
       have c2 : w2.cell? ⟨w.heap.size, 2, none⟩ = some (.int .i64 0) := ((bcell b2).1 _ _ (by simp)).trans (by go_simp)
       have f0 : w2.frozen? ⟨w.heap.size, 0, none⟩ = false := ((bcell b2).2 _ _ (by simp)).trans (by go_simp)
       have f1 : w2.frozen? ⟨w.heap.size, 1, none⟩ = false := ((bcell b2).2 _ _ (by simp)).trans (by go_simp)
       have f2 : w2.frozen? ⟨w.heap.size, 2, none⟩ = false := ((bcell b2).2 _ _ (by simp)).trans (by go_simp)
       have z2 : w.heap.size < w2.heap.size := by have := b2.size; simp at this; omega
       have b3 := bstep (below1 w _) b2
       clear b2
       go_wp2_with fail
       refine bodyPost_ret (v := .tuple #[.agg #[.int .i64 0, .string ⟨#[]⟩, .int .i64 0], .int .i64 (at0 : Int), .int .i64 13]) zR71c0c1c2 rfl ⟨ret_val (unhide HV), ?_⟩
       exact below4 b3 (Nat.le_refl _)
      ·have HW := hide hw
       have HV := hide (show .tuple #[.agg #[.int .i64 1, .string ⟨t.toArray⟩, .int .i64 (at0 : Int)], .int .i64 (k : Int), .int .i64 0] = V by
        rw [← unhide HV0]; have : flt 1 t = 0 := by simp [flt, hw]
        exact (nxt_ok this (by omega)).symm)
       clear hw h8 htE
       go_wp2_with fail
       refine (rword_any t _ ht1).mono ?_
       rintro e w2 ⟨rfl, b2⟩
       rw [unhide HW]
       have c0 : w2.cell? ⟨w.heap.size, 0, none⟩ = some (.int .i64 0) := ((bcell b2).1 _ _ (by simp)).trans (by go_simp)
       have c1 : w2.cell? ⟨w.heap.size, 1, none⟩ = some (.string ⟨#[]⟩) := ((bcell b2).1 _ _ (by simp)).trans (by go_simp)
       have c2 : w2.cell? ⟨w.heap.size, 2, none⟩ = some (.int .i64 0) := ((bcell b2).1 _ _ (by simp)).trans (by go_simp)
       have f0 : w2.frozen? ⟨w.heap.size, 0, none⟩ = false := ((bcell b2).2 _ _ (by simp)).trans (by go_simp)
       have f1 : w2.frozen? ⟨w.heap.size, 1, none⟩ = false := ((bcell b2).2 _ _ (by simp)).trans (by go_simp)
       have f2 : w2.frozen? ⟨w.heap.size, 2, none⟩ = false := ((bcell b2).2 _ _ (by simp)).trans (by go_simp)
       have z2 : w.heap.size < w2.heap.size := by have := b2.size; simp at this; omega
       have b3 := bstep (below1 w _) b2
       clear b2
       go_wp2_with fail
       refine bodyPost_ret (v := .tuple #[.agg #[.int .i64 1, .string ⟨t.toArray⟩, .int .i64 (at0 : Int)], .int .i64 (k : Int), .int .i64 0]) zR71c0c1c2 rfl ⟨ret_val (unhide HV), ?_⟩
       exact below4 b3 (Nat.le_refl _)
     ·have h8' : (k : Int) - at0 ≤ 8 := by omega
      have HV := hide (show .tuple #[.agg #[.int .i64 1, .string ⟨t.toArray⟩, .int .i64 (at0 : Int)], .int .i64 (k : Int), .int .i64 0] = V by
       rw [← unhide HV0]; have : flt 1 t = 0 := by simp [flt, h8]
       exact (nxt_ok this (by omega)).symm)
      clear h8 htE
      go_wp2_with fail
      refine bodyPost_ret (v := .tuple #[.agg #[.int .i64 1, .string ⟨t.toArray⟩, .int .i64 (at0 : Int)], .int .i64 (k : Int), .int .i64 0]) zR71 rfl ⟨ret_val (unhide HV), ?_⟩
      exact below1 w _
    ·have HDK := hide hdk
     have HE := hide (show k + 1 + run nmB (l.drop (k + 1)) = E by rw [← unhide HR]; exact (run_yes hlt (by unfold nmB; rw [hsk, hdk]; rfl)).symm)
     clear hsk hdk
     go_wp2_with fail
     refine (rletter_any l[k] _).mono ?_
     rintro e w1 ⟨rfl, rfl⟩
     rw [unhide HSK]
     go_wp2_with fail
     refine (rdigit_any l[k] _).mono ?_
     rintro e w1 ⟨rfl, rfl⟩
     rw [unhide HDK]
     go_wp2_with fail
     go_round
     case rel => exact ⟨k + 1, by omega, by omega, by go_num, HE⟩
     case measure => simp [intOf]; omega
   ·have HSK := hide hsk
    have HE := hide (show k + 1 + run nmB (l.drop (k + 1)) = E by rw [← unhide HR]; exact (run_yes hlt (by unfold nmB; rw [hsk]; rfl)).symm)
    clear hsk
    go_wp2_with fail
    refine (rletter_any l[k] _).mono ?_
    rintro e w1 ⟨rfl, rfl⟩
    rw [unhide HSK]
    go_wp2_with fail
    go_round
    case rel => exact ⟨k + 1, by omega, by omega, by go_num, HE⟩
    case measure => simp [intOf]; omega
  ·have hke : k = E := by have := unhide HR; rw [run_end (by omega)] at this; exact this
   have HKE := hide hke
   clear hke
   have e : k = E := unhide HKE
   have htE := unhide HTE
   subst e
   by_cases h8 : 8 < t.length
   ·have h8' : (8 : Int) < (k : Int) - at0 := by omega
    have ht1 : t.length ≤ 1000 := by omega
    cases hw : wordB t
    ·have HW := hide hw
     have HV := hide (show .tuple #[.agg #[.int .i64 0, .string ⟨#[]⟩, .int .i64 0], .int .i64 (at0 : Int), .int .i64 13] = V by
      rw [← unhide HV0]; have : flt 1 t = 13 := by simp [flt, h8, hw]
      rw [this]; exact (nxt_err (F := 13) (by omega)).symm)
     clear hw h8 htE
     go_wp2_with fail
     refine (rword_any t _ ht1).mono ?_
     rintro e w2 ⟨rfl, b2⟩
     rw [unhide HW]
     have c0 : w2.cell? ⟨w.heap.size, 0, none⟩ = some (.int .i64 0) := ((bcell b2).1 _ _ (by simp)).trans (by go_simp)
     have c1 : w2.cell? ⟨w.heap.size, 1, none⟩ = some (.string ⟨#[]⟩) := ((bcell b2).1 _ _ (by simp)).trans (by go_simp)
     have c2 : w2.cell? ⟨w.heap.size, 2, none⟩ = some (.int .i64 0) := ((bcell b2).1 _ _ (by simp)).trans (by go_simp)
     have f0 : w2.frozen? ⟨w.heap.size, 0, none⟩ = false := ((bcell b2).2 _ _ (by simp)).trans (by go_simp)
     have f1 : w2.frozen? ⟨w.heap.size, 1, none⟩ = false := ((bcell b2).2 _ _ (by simp)).trans (by go_simp)
     have f2 : w2.frozen? ⟨w.heap.size, 2, none⟩ = false := ((bcell b2).2 _ _ (by simp)).trans (by go_simp)
     have z2 : w.heap.size < w2.heap.size := by have := b2.size; simp at this; omega
     have b3 := bstep (below1 w _) b2
     clear b2
     go_wp2_with fail
     refine bodyPost_ret (v := .tuple #[.agg #[.int .i64 0, .string ⟨#[]⟩, .int .i64 0], .int .i64 (at0 : Int), .int .i64 13]) zR71c0c1c2 rfl ⟨ret_val (unhide HV), ?_⟩
     exact below4 b3 (Nat.le_refl _)
    ·have HW := hide hw
     have HV := hide (show .tuple #[.agg #[.int .i64 1, .string ⟨t.toArray⟩, .int .i64 (at0 : Int)], .int .i64 (k : Int), .int .i64 0] = V by
      rw [← unhide HV0]; have : flt 1 t = 0 := by simp [flt, hw]
      exact (nxt_ok this (by omega)).symm)
     clear hw h8 htE
     go_wp2_with fail
     refine (rword_any t _ ht1).mono ?_
     rintro e w2 ⟨rfl, b2⟩
     rw [unhide HW]
     have c0 : w2.cell? ⟨w.heap.size, 0, none⟩ = some (.int .i64 0) := ((bcell b2).1 _ _ (by simp)).trans (by go_simp)
     have c1 : w2.cell? ⟨w.heap.size, 1, none⟩ = some (.string ⟨#[]⟩) := ((bcell b2).1 _ _ (by simp)).trans (by go_simp)
     have c2 : w2.cell? ⟨w.heap.size, 2, none⟩ = some (.int .i64 0) := ((bcell b2).1 _ _ (by simp)).trans (by go_simp)
     have f0 : w2.frozen? ⟨w.heap.size, 0, none⟩ = false := ((bcell b2).2 _ _ (by simp)).trans (by go_simp)
     have f1 : w2.frozen? ⟨w.heap.size, 1, none⟩ = false := ((bcell b2).2 _ _ (by simp)).trans (by go_simp)
     have f2 : w2.frozen? ⟨w.heap.size, 2, none⟩ = false := ((bcell b2).2 _ _ (by simp)).trans (by go_simp)
     have z2 : w.heap.size < w2.heap.size := by have := b2.size; simp at this; omega
     have b3 := bstep (below1 w _) b2
     clear b2
     go_wp2_with fail
     refine bodyPost_ret (v := .tuple #[.agg #[.int .i64 1, .string ⟨t.toArray⟩, .int .i64 (at0 : Int)], .int .i64 (k : Int), .int .i64 0]) zR71c0c1c2 rfl ⟨ret_val (unhide HV), ?_⟩
     exact below4 b3 (Nat.le_refl _)
   ·have h8' : (k : Int) - at0 ≤ 8 := by omega
    have HV := hide (show .tuple #[.agg #[.int .i64 1, .string ⟨t.toArray⟩, .int .i64 (at0 : Int)], .int .i64 (k : Int), .int .i64 0] = V by
     rw [← unhide HV0]; have : flt 1 t = 0 := by simp [flt, h8]
     exact (nxt_ok this (by omega)).symm)
    clear h8 htE
    go_wp2_with fail
    refine bodyPost_ret (v := .tuple #[.agg #[.int .i64 1, .string ⟨t.toArray⟩, .int .i64 (at0 : Int)], .int .i64 (k : Int), .int .i64 0]) zR71 rfl ⟨ret_val (unhide HV), ?_⟩
    exact below1 w _
end
section
section
variable {l : List UInt8} {at0 D : Nat}
theorem saidL_three {r : List UInt8} {R : Nat} (h : R + 2 ≤ r.length) : saidL 3 (r.take (1 + R + 1)) = (r.drop 1).take R := by
 unfold saidL
 rw [if_pos rfl, List.length_take, List.drop_take, List.take_take]
 congr 1
 omega
def nxtAt (l : List UInt8) (at0 : Nat) : Value := nxtV (tokK (l.drop at0)) (tokN (l.drop at0)) (tokT (l.drop at0)) at0 (flt (tokK (l.drop at0)) (tokT (l.drop at0)))
theorem end_yes (ha : at0 < l.length) (hD : at0 + 1 + run txB (l.drop (at0 + 1)) = D) (h : D < l.length) (hq : l[D].toNat = 34) : endB (l.drop at0) = true := by
 unfold endB
 rw [List.drop_drop, List.drop_drop, show at0 + (1 + run txB (l.drop (at0 + 1))) = D by omega, drop_cons h, List.head?_cons]
 have : l[D] = 34 := UInt8.toNat.inj (by rw [hq]; rfl)
 rw [this]; rfl
theorem end_no (ha : at0 < l.length) (hD : at0 + 1 + run txB (l.drop (at0 + 1)) = D) (hq : ∀ h : D < l.length, l[D].toNat ≠ 34) : endB (l.drop at0) = false := by
 unfold endB
 rw [List.drop_drop, List.drop_drop, show at0 + (1 + run txB (l.drop (at0 + 1))) = D by omega]
 by_cases h : D < l.length
 ·rw [drop_cons h, List.head?_cons]
  exact beq_eq_false_iff_ne.2 (fun e => hq h (by rw [Option.some.inj e]; rfl))
 ·rw [List.drop_of_length_le (by omega)]; rfl
theorem tx_none (ha : at0 < l.length) (hs : smB l[at0] = false) (hd : dgB l[at0] = false) (h34 : l[at0].toNat = 34) (hD : at0 + 1 + run txB (l.drop (at0 + 1)) = D) (hq : ∀ h : D < l.length, l[D].toNat ≠ 34) :
  nxtAt l at0 = .tuple #[.agg #[.int .i64 0, .string ⟨#[]⟩, .int .i64 0], .int .i64 (at0 : Int), .int .i64 2] := by
 have hK : tokK (l.drop at0) = 0 := by rw [(tok_cons ha).1, hs, hd, h34, end_no ha hD hq]; rfl
 unfold nxtAt
 have hF : flt (tokK (l.drop at0)) (tokT (l.drop at0)) = 2 := by unfold flt; rw [if_pos hK]
 rw [hF]; exact nxt_err (F := 2) (by omega)
theorem tx_facts (ha : at0 < l.length) (hs : smB l[at0] = false) (hd : dgB l[at0] = false) (h34 : l[at0].toNat = 34) (hD : at0 + 1 + run txB (l.drop (at0 + 1)) = D) (h : D < l.length) (hq : l[D].toNat = 34) :
  tokK (l.drop at0) = 3 ∧ tokN (l.drop at0) = D + 1 - at0 ∧ tokT (l.drop at0) = (l.drop (at0 + 1)).take (D - (at0 + 1)) ∧ (tokT (l.drop at0)).length = D - (at0 + 1) := by
 have he := end_yes ha hD h hq
 have hK : tokK (l.drop at0) = 3 := by rw [(tok_cons ha).1, hs, hd, h34, he]; rfl
 have hN : tokN (l.drop at0) = 1 + (D - (at0 + 1)) + 1 := by
  rw [(tok_cons ha).2, hs, hd, h34, he]
  rw [if_neg (by simp), if_neg (by simp), if_pos rfl, if_pos rfl, List.drop_drop]
  omega
 have hT : tokT (l.drop at0) = (l.drop (at0 + 1)).take (D - (at0 + 1)) := by
  unfold tokT
  rw [hK, hN, saidL_three (by rw [List.length_drop]; omega), List.drop_drop]
 refine ⟨hK, by omega, hT, ?_⟩
 rw [hT, List.length_take, List.length_drop]; omega
theorem tx_long (ha : at0 < l.length) (hs : smB l[at0] = false) (hd : dgB l[at0] = false) (h34 : l[at0].toNat = 34) (hD : at0 + 1 + run txB (l.drop (at0 + 1)) = D) (h : D < l.length) (hq : l[D].toNat = 34) (h16 : 16 < D - (at0 + 1)) :
  nxtAt l at0 = .tuple #[.agg #[.int .i64 0, .string ⟨#[]⟩, .int .i64 0], .int .i64 (at0 : Int), .int .i64 13] := by
 obtain ⟨hK, hN, hT, hTl⟩ := tx_facts ha hs hd h34 hD h hq
 have hF : flt (tokK (l.drop at0)) (tokT (l.drop at0)) = 13 := by
  unfold flt; rw [hK, hTl]; simp [h16]
 unfold nxtAt
 rw [hF]; exact nxt_err (F := 13) (by omega)
theorem tx_ok (ha : at0 < l.length) (hs : smB l[at0] = false) (hd : dgB l[at0] = false) (h34 : l[at0].toNat = 34) (hD : at0 + 1 + run txB (l.drop (at0 + 1)) = D) (h : D < l.length) (hq : l[D].toNat = 34) (h16 : D - (at0 + 1) ≤ 16) :
  nxtAt l at0 = .tuple #[.agg #[.int .i64 3, .string ⟨((l.drop (at0 + 1)).take (D - (at0 + 1))).toArray⟩, .int .i64 (at0 : Int)], .int .i64 ((D : Int) + 1), .int .i64 0] := by
 obtain ⟨hK, hN, hT, hTl⟩ := tx_facts ha hs hd h34 hD h hq
 have hF : flt (tokK (l.drop at0)) (tokT (l.drop at0)) = 0 := by
  unfold flt; rw [hK, hTl]
  rw [if_neg (by omega), if_neg (by omega), if_neg (by omega)]
 unfold nxtAt
 rw [nxt_ok hF (show at0 + tokN (l.drop at0) = D + 1 by omega), hK, hT]
 rfl
end
set_option maxRecDepth 10000 in
theorem rtok_text (l : List UInt8) (at0 : Nat) (w : World) (hl : l.length ≤ 1000) (ha : at0 < l.length) (hs : smB l[at0] = false) (hd : dgB l[at0] = false) (h34 : l[at0].toNat = 34) :
  Calls Tryz.prog 71 #[.string ⟨l.toArray⟩, .int .i64 at0] w fun e w' => e = .returned (nxtAt l at0) ∧ Below w.heap.size w w' := by
 have hge : (⟨l.toArray⟩ : ByteArray)[at0]'(by simpa [ByteArray.size] using ha) = l[at0] := rfl
 have e34 : ((l[at0].toNat : Int) == 34) = true := by simp; omega
 generalize hD : at0 + 1 + run txB (l.drop (at0 + 1)) = D
 have VN := hide (tx_none ha hs hd h34 hD)
 have VL := hide (tx_long ha hs hd h34 hD)
 have VO := hide (tx_ok ha hs hd h34 hD)
 have e1 : (ByteArray.mk l.toArray).extract (at0 + 1) D = ByteArray.mk ((l.drop (at0 + 1)).take (D - (at0 + 1))).toArray := lext_eq _ _ _
 generalize (l.drop (at0 + 1)).take (D - (at0 + 1)) = t at *
 generalize nxtAt l at0 = V at *
 have HD0 := hide hD
 have HS := hide hs
 have HD := hide hd
 clear hs hd h34 hD
 go_enter Tryz.func71, Tryz.ntmps71
 go_wp2_with fail
 refine (rletter_any l[at0] _).mono ?_
 rintro e w1 ⟨rfl, rfl⟩
 rw [unhide HS]
 go_wp2_with fail
 refine (rdigit_any l[at0] _).mono ?_
 rintro e w1 ⟨rfl, rfl⟩
 rw [unhide HD]
 go_wp2_with fail
 go_loop [7] (fun i => ∃ k : Nat, at0 + 1 ≤ k ∧ k ≤ l.length ∧ i = .int .i64 k ∧ Hid (k + run txB (l.drop k) = D)) (fun i => l.length - (intOf i).toNat)
 case atStart => exact ⟨at0 + 1, by omega, by omega, by go_num, HD0⟩
 case round =>
  clear HD0
  obtain ⟨k, hk1, hk2, rfl, HR⟩ := hrel
  by_cases hlt : k < l.length
  ·have hgk : (⟨l.toArray⟩ : ByteArray)[k]'(by simpa [ByteArray.size] using hlt) = l[k] := rfl
   have ekl : ((k : Int) == (l.length : Int)) = false := by simp; omega
   by_cases hq : l[k].toNat = 34
   ·have hkD : k = D := by have := unhide HR; rw [run_no hlt (by unfold txB; rw [hq]; rfl)] at this; exact this
    subst hkD
    have eq : ((l[k].toNat : Int) != 34) = false := by simp; omega
    by_cases h16 : 16 < k - (at0 + 1)
    ·have HV := hide (unhide VL hlt hq h16).symm
     have h16' : (16 : Int) < (k : Int) - at0 - 1 := by omega
     clear hq h16 HR
     go_wp2_with fail
     refine bodyPost_ret (v := .tuple #[.agg #[.int .i64 0, .string ⟨#[]⟩, .int .i64 0], .int .i64 (at0 : Int), .int .i64 13]) zR71 rfl ⟨ret_val (unhide HV), ?_⟩
     exact below1 w _
    ·have HV := hide (unhide VO hlt hq (by omega)).symm
     have h16' : (k : Int) - at0 - 1 ≤ 16 := by omega
     clear hq h16 HR
     go_wp2_with fail
     refine bodyPost_ret (v := .tuple #[.agg #[.int .i64 3, .string ⟨t.toArray⟩, .int .i64 (at0 : Int)], .int .i64 ((k : Int) + 1), .int .i64 0]) zR71 rfl ⟨ret_val (unhide HV), ?_⟩
     exact below1 w _
   ·have eq : ((l[k].toNat : Int) != 34) = true := by simp; omega
    by_cases h32 : 32 ≤ (l[k].toNat : Int)
    ·by_cases h126 : (l[k].toNat : Int) ≤ 126
     ·have HE := hide (show k + 1 + run txB (l.drop (k + 1)) = D by rw [← unhide HR]; exact (run_yes hlt (by rw [← tx_eq h32 h126]; exact eq)).symm)
      clear hq
      go_wp2_with fail
      go_round
      case rel => exact ⟨k + 1, by omega, by omega, by go_num, HE⟩
      case measure => simp [intOf]; omega
     ·have hkD : k = D := by have := unhide HR; rw [run_no hlt (tx_no (Or.inr (by omega)))] at this; exact this
      subst hkD
      have HV := hide (unhide VN (fun _ => hq)).symm
      clear hq HR
      go_wp2_with fail
      refine bodyPost_ret (v := .tuple #[.agg #[.int .i64 0, .string ⟨#[]⟩, .int .i64 0], .int .i64 (at0 : Int), .int .i64 2]) zR71 rfl ⟨ret_val (unhide HV), ?_⟩
      exact below1 w _
    ·have hkD : k = D := by have := unhide HR; rw [run_no hlt (tx_no (Or.inl (by omega)))] at this; exact this
     subst hkD
     have HV := hide (unhide VN (fun _ => hq)).symm
     clear hq HR
     go_wp2_with fail
     refine bodyPost_ret (v := .tuple #[.agg #[.int .i64 0, .string ⟨#[]⟩, .int .i64 0], .int .i64 (at0 : Int), .int .i64 2]) zR71 rfl ⟨ret_val (unhide HV), ?_⟩
     exact below1 w _
  ·have hkD : k = D := by have := unhide HR; rw [run_end (by omega)] at this; exact this
   subst hkD
   have ekl : ((k : Int) == (l.length : Int)) = true := by simp; omega
   have HV := hide (unhide VN (fun h => absurd h hlt)).symm
   clear HR
   go_wp2_with fail
   refine bodyPost_ret (v := .tuple #[.agg #[.int .i64 0, .string ⟨#[]⟩, .int .i64 0], .int .i64 (at0 : Int), .int .i64 2]) zR71 rfl ⟨ret_val (unhide HV), ?_⟩
   exact below1 w _
end
end Go.Proofs.YtfdimdjmnfdecaaGreat
