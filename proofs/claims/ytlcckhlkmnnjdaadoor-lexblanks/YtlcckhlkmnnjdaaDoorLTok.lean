/- The contract of lex's token, over the table of signs. -/
import Derived.Test.YtlcckhlkmnnjdaaDoorLFault
import Derived.ChangeKeysEq
namespace Go.Proofs.YtlcckhlkmnnjdaaDoor
open Go.RowKit
set_option linter.unusedVariables false

/- the table of signs, as the program's text lays it. -/
def Sig (w : World) : Prop := 0 < w.heap.size ∧ ∀ i, i < 16 → w.cell? ⟨0, i, none⟩ = some (sV (sgs.getD i []))
theorem Sig.below {w w' : World} (h : Sig w) (k : Below w.heap.size w w') : Sig w' := ⟨Nat.lt_of_lt_of_le h.1 k.size, fun i hi => ((bcell k).1 _ _ h.1).trans (h.2 i hi)⟩

theorem sig_index (k : Nat) (hk : k < 16) (w : World) : (Instr.index 51 (.agg #[.string ⟨#[60, 61]⟩, .string ⟨#[62, 61]⟩, .string ⟨#[33, 61]⟩, .string ⟨#[46, 46]⟩, .string ⟨#[60]⟩, .string ⟨#[62]⟩, .string ⟨#[61]⟩, .string ⟨#[43]⟩, .string ⟨#[45]⟩, .string ⟨#[42]⟩, .string ⟨#[47]⟩, .string ⟨#[40]⟩, .string ⟨#[41]⟩, .string ⟨#[91]⟩, .string ⟨#[93]⟩, .string ⟨#[44]⟩]) (.int .i64 (k : Int))).run Tryd.prog w = .ok (.string ⟨(sgs.getD k []).toArray⟩) w := by
  have h1 : (#[.string ⟨#[60, 61]⟩, .string ⟨#[62, 61]⟩, .string ⟨#[33, 61]⟩, .string ⟨#[46, 46]⟩, .string ⟨#[60]⟩, .string ⟨#[62]⟩, .string ⟨#[61]⟩, .string ⟨#[43]⟩, .string ⟨#[45]⟩, .string ⟨#[42]⟩, .string ⟨#[47]⟩, .string ⟨#[40]⟩, .string ⟨#[41]⟩, .string ⟨#[91]⟩, .string ⟨#[93]⟩, .string ⟨#[44]⟩] : Array Value)[k]? = some (.string ⟨(sgs.getD k []).toArray⟩) := by
    have e : (sgs.map sV).toArray = (#[.string ⟨#[60, 61]⟩, .string ⟨#[62, 61]⟩, .string ⟨#[33, 61]⟩, .string ⟨#[46, 46]⟩, .string ⟨#[60]⟩, .string ⟨#[62]⟩, .string ⟨#[61]⟩, .string ⟨#[43]⟩, .string ⟨#[45]⟩, .string ⟨#[42]⟩, .string ⟨#[47]⟩, .string ⟨#[40]⟩, .string ⟨#[41]⟩, .string ⟨#[91]⟩, .string ⟨#[93]⟩, .string ⟨#[44]⟩] : Array Value) := rfl
    rw [← e]
    have : sgs.getD k [] = sgs[k]'(show k < sgs.length from hk) := by simp [show k < sgs.length from hk]
    rw [this]
    simp [sV, show k < sgs.length from hk]
  have hp := run_part_plain (P := Tryd.prog) (w := w) (e := 9) (by kernel_rfl) h1
  generalize (#[.string ⟨#[60, 61]⟩, .string ⟨#[62, 61]⟩, .string ⟨#[33, 61]⟩, .string ⟨#[46, 46]⟩, .string ⟨#[60]⟩, .string ⟨#[62]⟩, .string ⟨#[61]⟩, .string ⟨#[43]⟩, .string ⟨#[45]⟩, .string ⟨#[42]⟩, .string ⟨#[47]⟩, .string ⟨#[40]⟩, .string ⟨#[41]⟩, .string ⟨#[91]⟩, .string ⟨#[93]⟩, .string ⟨#[44]⟩] : Array Value) = cs at *
  generalize sgs.getD k [] = g at *
  have h2 : (0 : Int) ≤ k ∧ (k : Int) < 16 := by omega
  simp [Instr.index, run_underlying Tryd.underlying51, asIntOf, hp, hk]

theorem sgn_step {k : Nat} (r : List UInt8) (h : k < 16) : sgn (sgs.drop k) r = if preB (sgs.getD k []) r = true then (sgs.getD k []).length else sgn (sgs.drop (k + 1)) r := by
  rw [List.drop_eq_getElem_cons (show k < sgs.length from h), sgn]
  simp [show k < sgs.length from h]
theorem sgs_len {k : Nat} (h : k < 16) : 1 ≤ (sgs.getD k []).length ∧ (sgs.getD k []).length ≤ 2 := by
  have all : ∀ k, k < 16 → 1 ≤ (sgs.getD k []).length ∧ (sgs.getD k []).length ≤ 2 := by decide
  exact all k h

set_option maxHeartbeats 1600000 in
theorem token_sign (l : List UInt8) (at0 : Nat) (w : World) (hl : l.length ≤ 1000) (ha : at0 < l.length) (hs : smB l[at0] = false) (hd : dgB l[at0] = false) (hq : ((l[at0].toNat : Int) == 34) = false) (sig : Sig w) :
    Calls Tryd.prog 18 #[.string ⟨l.toArray⟩, .int .i64 at0] w fun e w' => e = .returned (.tuple #[.int .i64 ((if sgn sgs (l.drop at0) = 0 then 0 else 4 : Nat) : Int), .int .i64 ((at0 + sgn sgs (l.drop at0) : Nat) : Int)]) ∧ w' = w := by
  have hge : (⟨l.toArray⟩ : ByteArray)[at0]'(by simpa [ByteArray.size] using ha) = l[at0] := rfl
  obtain ⟨g0, g⟩ := sig
  have c0 : w.cell? ⟨0, 0, none⟩ = some (.string ⟨#[60, 61]⟩) := g 0 (by omega)
  have c1 : w.cell? ⟨0, 1, none⟩ = some (.string ⟨#[62, 61]⟩) := g 1 (by omega)
  have c2 : w.cell? ⟨0, 2, none⟩ = some (.string ⟨#[33, 61]⟩) := g 2 (by omega)
  have c3 : w.cell? ⟨0, 3, none⟩ = some (.string ⟨#[46, 46]⟩) := g 3 (by omega)
  have c4 : w.cell? ⟨0, 4, none⟩ = some (.string ⟨#[60]⟩) := g 4 (by omega)
  have c5 : w.cell? ⟨0, 5, none⟩ = some (.string ⟨#[62]⟩) := g 5 (by omega)
  have c6 : w.cell? ⟨0, 6, none⟩ = some (.string ⟨#[61]⟩) := g 6 (by omega)
  have c7 : w.cell? ⟨0, 7, none⟩ = some (.string ⟨#[43]⟩) := g 7 (by omega)
  have c8 : w.cell? ⟨0, 8, none⟩ = some (.string ⟨#[45]⟩) := g 8 (by omega)
  have c9 : w.cell? ⟨0, 9, none⟩ = some (.string ⟨#[42]⟩) := g 9 (by omega)
  have c10 : w.cell? ⟨0, 10, none⟩ = some (.string ⟨#[47]⟩) := g 10 (by omega)
  have c11 : w.cell? ⟨0, 11, none⟩ = some (.string ⟨#[40]⟩) := g 11 (by omega)
  have c12 : w.cell? ⟨0, 12, none⟩ = some (.string ⟨#[41]⟩) := g 12 (by omega)
  have c13 : w.cell? ⟨0, 13, none⟩ = some (.string ⟨#[91]⟩) := g 13 (by omega)
  have c14 : w.cell? ⟨0, 14, none⟩ = some (.string ⟨#[93]⟩) := g 14 (by omega)
  have c15 : w.cell? ⟨0, 15, none⟩ = some (.string ⟨#[44]⟩) := g 15 (by omega)
  clear g
  generalize hK : (if sgn sgs (l.drop at0) = 0 then 0 else 4) = K
  generalize hN : at0 + sgn sgs (l.drop at0) = N
  have HK := hide hK
  have HN := hide hN
  have HS := hide hs
  have HD := hide hd
  clear hK hN hs hd
  go_enter Tryd.func18, Tryd.ntmps18
  go_wp2_with fail
  refine (small_any l[at0] _).mono ?_
  rintro e w' ⟨rfl, rfl⟩
  rw [unhide HS]
  go_wp2_with fail
  refine (digit_any l[at0] _).mono ?_
  rintro e w' ⟨rfl, rfl⟩
  rw [unhide HD]
  go_wp2_with fail
  clear c0 c1 c2 c3 c4 c5 c6 c7 c8 c9 c10 c11 c12 c13 c14 c15
  have SI := hide sig_index
  generalize (#[.string ⟨#[60, 61]⟩, .string ⟨#[62, 61]⟩, .string ⟨#[33, 61]⟩, .string ⟨#[46, 46]⟩, .string ⟨#[60]⟩, .string ⟨#[62]⟩, .string ⟨#[61]⟩, .string ⟨#[43]⟩, .string ⟨#[45]⟩, .string ⟨#[42]⟩, .string ⟨#[47]⟩, .string ⟨#[40]⟩, .string ⟨#[41]⟩, .string ⟨#[91]⟩, .string ⟨#[93]⟩, .string ⟨#[44]⟩] : Array Value) = SA at *
  have e1 : (ByteArray.mk l.toArray).extract at0 l.length = ByteArray.mk (l.drop at0).toArray := by
    rw [lext_eq, List.take_of_length_le (by simp)]
  have hrl : (l.drop at0).length ≤ 1000 := by simp; omega
  generalize l.drop at0 = r at *
  go_loop [33] (fun i => ∃ k : Nat, k ≤ 16 ∧ i = .int .i64 k ∧ Hid (sgn (sgs.drop k) r = sgn sgs r)) (fun i => 16 - (intOf i).toNat)
  case atStart => exact ⟨0, by omega, rfl, hide rfl⟩
  case round =>
    obtain ⟨k, hk, rfl, HR⟩ := hrel
    by_cases hlt : k < 16
    · have ST := hide (sgn_step r hlt)
      have hg := sgs_len hlt
      have si := unhide SI k hlt
      generalize sgs.getD k [] = g at *
      cases hp : preB g r
      · have HP := hide hp
        have HE := hide (show sgn (sgs.drop (k + 1)) r = sgn sgs r by rw [← unhide HR, unhide ST, hp]; rfl)
        clear hp
        go_wp2_with fail
        refine (hasp_any g r _ (by omega) hrl).mono ?_
        rintro e w2 ⟨rfl, rfl⟩
        rw [unhide HP]
        go_wp2_with fail
        go_round
        case rel => exact ⟨k + 1, by omega, by go_num, HE⟩
        case measure => simp [intOf]; omega
      · have HP := hide hp
        have hs : g.length = sgn sgs r := by rw [← unhide HR, unhide ST, hp]; rfl
        have HK' := hide (show 4 = K by rw [← unhide HK, if_neg (by omega)])
        have HN' := hide (show at0 + g.length = N by rw [← unhide HN, hs])
        clear hp hs
        go_wp2_with fail
        refine (hasp_any g r _ (by omega) hrl).mono ?_
        rintro e w2 ⟨rfl, rfl⟩
        rw [unhide HP]
        go_wp2_with fail
        go_ret2
        exact ⟨ret_two (unhide HK') (unhide HN'), rfl⟩
    · have hs : sgn sgs r = 0 := by rw [← unhide HR, show k = 16 by omega]; rfl
      have HK' := hide (show 0 = K by rw [← unhide HK, if_pos hs])
      have HN' := hide (show at0 = N by rw [← unhide HN, hs]; rfl)
      clear hs
      go_wp2_with fail
      go_ret2
      exact ⟨ret_two (unhide HK') (unhide HN'), rfl⟩

theorem tok_cons {l : List UInt8} {at0 : Nat} (ha : at0 < l.length) :
    tokK (l.drop at0) = (if smB l[at0] = true then 1 else if dgB l[at0] = true then 2 else if l[at0].toNat = 34 then (if endB (l.drop at0) = true then 3 else 0) else if sgn sgs (l.drop at0) = 0 then 0 else 4)
    ∧ tokN (l.drop at0) = (if smB l[at0] = true then run nmB (l.drop at0) else if dgB l[at0] = true then numN (l.drop at0) else if l[at0].toNat = 34 then (if endB (l.drop at0) = true then 1 + run txB ((l.drop at0).drop 1) + 1 else 0) else sgn sgs (l.drop at0)) := by
  rw [drop_cons ha]
  exact ⟨rfl, rfl⟩

set_option maxHeartbeats 1600000 in
theorem token_any (l : List UInt8) (at0 : Nat) (w : World) (hl : l.length ≤ 1000) (ha : at0 < l.length) (sig : Sig w) :
    Calls Tryd.prog 18 #[.string ⟨l.toArray⟩, .int .i64 at0] w fun e w' => e = .returned (.tuple #[.int .i64 ((tokK (l.drop at0) : Nat) : Int), .int .i64 ((at0 + tokN (l.drop at0) : Nat) : Int)]) ∧ w' = w := by
  obtain ⟨tk, tn⟩ := tok_cons ha
  have hge : (⟨l.toArray⟩ : ByteArray)[at0]'(by simpa [ByteArray.size] using ha) = l[at0] := rfl
  cases hs : smB l[at0]
  · rw [hs, if_neg (by simp)] at tk tn
    cases hd : dgB l[at0]
    · rw [hd, if_neg (by simp)] at tk tn
      by_cases hq : l[at0].toNat = 34
      · rw [if_pos hq] at tk tn
        have T := hide (fun w => ltext_any l at0 w hl ha)
        rw [← tk, ← tn] at T
        generalize tokK (l.drop at0) = K at *
        generalize tokN (l.drop at0) = N at *
        have HS := hide hs
        have HD := hide hd
        have e34 : ((l[at0].toNat : Int) == 34) = true := by simp; omega
        clear hs hd tk tn hq sig
        go_enter Tryd.func18, Tryd.ntmps18
        go_wp2_with fail
        refine (small_any l[at0] _).mono ?_
        rintro e w' ⟨rfl, rfl⟩
        rw [unhide HS]
        go_wp2_with fail
        refine (digit_any l[at0] _).mono ?_
        rintro e w' ⟨rfl, rfl⟩
        rw [unhide HD]
        go_wp2_with fail
        refine (unhide T _).mono ?_
        rintro e w' ⟨rfl, rfl⟩
        go_wp2_with fail
        go_ret2
        exact ⟨rfl, rfl⟩
      · rw [if_neg hq] at tk tn
        have h := token_sign l at0 w hl ha hs hd (by simp; omega) sig
        rw [← tk, ← tn] at h
        exact h
    · rw [hd, if_pos rfl] at tk tn
      have T := hide (fun w => lnumber_any l at0 w hl (Nat.le_of_lt ha))
      rw [← tn] at T
      generalize tokK (l.drop at0) = K at *
      generalize tokN (l.drop at0) = N at *
      have HS := hide hs
      have HD := hide hd
      have HK := hide (show 2 = K from tk.symm)
      clear hs hd tk tn sig
      go_enter Tryd.func18, Tryd.ntmps18
      go_wp2_with fail
      refine (small_any l[at0] _).mono ?_
      rintro e w' ⟨rfl, rfl⟩
      rw [unhide HS]
      go_wp2_with fail
      refine (digit_any l[at0] _).mono ?_
      rintro e w' ⟨rfl, rfl⟩
      rw [unhide HD]
      go_wp2_with fail
      refine (unhide T _).mono ?_
      rintro e w' ⟨rfl, rfl⟩
      go_wp2_with fail
      go_ret2
      exact ⟨ret_two (unhide HK) rfl, rfl⟩
  · rw [hs, if_pos rfl] at tk tn
    have T := hide (fun w => past_any 23 nmB e_inName inName_any l at0 w hl (Nat.le_of_lt ha))
    rw [← tn] at T
    generalize tokK (l.drop at0) = K at *
    generalize tokN (l.drop at0) = N at *
    have HS := hide hs
    have HK := hide (show 1 = K from tk.symm)
    clear hs tk tn sig
    go_enter Tryd.func18, Tryd.ntmps18
    go_wp2_with fail
    refine (small_any l[at0] _).mono ?_
    rintro e w' ⟨rfl, rfl⟩
    rw [unhide HS]
    go_wp2_with fail
    refine (unhide T _).mono ?_
    rintro e w' ⟨rfl, rfl⟩
    go_wp2_with fail
    go_ret2
    exact ⟨ret_two (unhide HK) rfl, rfl⟩
end Go.Proofs.YtlcckhlkmnnjdaaDoor
