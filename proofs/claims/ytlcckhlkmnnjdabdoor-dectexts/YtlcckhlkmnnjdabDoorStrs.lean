/- The contracts of the string functions that Parse goes through. -/
import Derived.Test.YtlcckhlkmnnjdabDoorBase
import Derived.Lib.Bytealg
import Derived.Deep.QuietTactic
import Derived.BigQuiet
namespace Go.Proofs.YtlcckhlkmnnjdabDoor
open Go.RowKit

theorem ext_eq (l : List UInt8) (a b : Nat) : (ByteArray.mk l.toArray).extract a b = ByteArray.mk ((l.drop a).take (b - a)).toArray := Lib.extract_eq ⟨l.toArray⟩ a b

set_option maxHeartbeats 400000 in
theorem cutp_nil (w : World) :
    Calls Tryd.prog 10 #[.string ⟨([] : List UInt8).toArray⟩, .string ⟨#[45]⟩] w fun e w' => e = .returned (.tuple #[.string ⟨([] : List UInt8).toArray⟩, .bool false]) ∧ w' = w := by
  go_enter Tryd.func10, Tryd.ntmps10
  go_wp2
  go_ret2
  exact ⟨rfl, rfl⟩

set_option maxHeartbeats 400000 in
theorem cutp_yes (l : List UInt8) (w : World) (hl : l.length ≤ 1000) :
    Calls Tryd.prog 10 #[.string ⟨(45 :: l).toArray⟩, .string ⟨#[45]⟩] w fun e w' => e = .returned (.tuple #[.string ⟨l.toArray⟩, .bool true]) ∧ w' = w := by
  have e1 : (ByteArray.mk (45 :: l).toArray).extract 0 1 = ByteArray.mk #[45] := by rw [ext_eq]; simp
  have e2 : (ByteArray.mk (45 :: l).toArray).extract 1 (l.length + 1) = ByteArray.mk l.toArray := by rw [ext_eq]; simp
  go_enter Tryd.func10, Tryd.ntmps10
  go_wp2
  go_ret2
  exact ⟨rfl, rfl⟩

set_option maxHeartbeats 400000 in
theorem cutp_no (c : UInt8) (l : List UInt8) (w : World) (hl : l.length ≤ 1000) (hc : c ≠ 45) :
    Calls Tryd.prog 10 #[.string ⟨(c :: l).toArray⟩, .string ⟨#[45]⟩] w fun e w' => e = .returned (.tuple #[.string ⟨(c :: l).toArray⟩, .bool false]) ∧ w' = w := by
  have e1 : (ByteArray.mk (c :: l).toArray).extract 0 1 = ByteArray.mk [c].toArray := by rw [ext_eq]; simp
  have e2 : (c == 45) = false := by simpa using hc
  clear hc
  go_enter Tryd.func10, Tryd.ntmps10
  go_wp2
  go_ret2
  exact ⟨rfl, rfl⟩

theorem idx_run (l : List UInt8) (c : Int) (w : World) : (callFunc 56 #[.string ⟨l.toArray⟩, .int .u8 c]).run Tryd.prog w = .ok (.value (.int .i64 (Lib.indexByte l c.toNat.toUInt8))) w := by
  rw [run_callFunc_extern (f := 56) (fn := Tryd.f56) (by kernel_rfl) (by kernel_rfl) (by kernel_rfl) (by kernel_rfl) (e := Extern.BytealgIndexByte.indexByte) (by kernel_rfl), Lib.run_indexByteString]
  rfl

set_option maxRecDepth 10000 in
set_option maxHeartbeats 400000 in
theorem index_any (l : List UInt8) (w : World) (hl : l.length ≤ 1000) :
    Calls Tryd.prog 39 #[.string ⟨l.toArray⟩, .string ⟨#[46]⟩] w fun e w' => e = .returned (.int .i64 (Lib.indexByte l 46)) ∧ w' = w := by
  by_cases h : l = [46]
  · subst h
    clear hl
    go_enter Tryd.func39, Tryd.ntmps39
    go_wp2
    go_ret
    exact ⟨ret_int (by decide), rfl⟩
  · have e1 : ([46] == l) = false := by simpa using Ne.symm h
    clear h
    have hr := idx_run l 46
    have hb : ((ByteArray.mk #[46])[0]'(by decide)).toNat = 46 := rfl
    go_enter Tryd.func39, Tryd.ntmps39
    go_wp2
    go_ret
    exact ⟨rfl, rfl⟩

theorem idx_facts (l : List UInt8) (c : UInt8) : Lib.indexByte l c = -1 ∨ ∃ k : Nat, Lib.indexByte l c = k ∧ k < l.length := by
  induction l with
  | nil => exact Or.inl rfl
  | cons b l ih =>
    unfold Lib.indexByte
    split
    · exact Or.inr ⟨0, rfl, by simp⟩
    · rcases ih with h | ⟨k, h, hk⟩
      · rw [h]; exact Or.inl rfl
      · rw [h]
        refine Or.inr ⟨k + 1, ?_, by simpa using hk⟩
        rw [if_neg (by intro h; have := eq_of_beq h; omega)]; rfl

set_option maxHeartbeats 400000 in
theorem cut_no (l : List UInt8) (w : World) (hl : l.length ≤ 1000) (hi : Lib.indexByte l 46 = -1) :
    Calls Tryd.prog 11 #[.string ⟨l.toArray⟩, .string ⟨#[46]⟩] w fun e w' => e = .returned (.tuple #[.string ⟨l.toArray⟩, .string ⟨#[]⟩, .bool false]) ∧ Below w.heap.size w w' := by
  have h42 : Calls Tryd.prog 26 #[.string ⟨l.toArray⟩, .string ⟨#[46]⟩] w fun e w' => e = .returned (.tuple #[.string ⟨l.toArray⟩, .string ⟨#[]⟩, .bool false]) ∧ w' = w := by
    have HI := hide hi
    clear hi
    go_enter Tryd.func26, Tryd.ntmps26
    go_wp2_with fail
    refine (index_any _ _ hl).mono ?_
    rintro e w' ⟨rfl, rfl⟩
    rw [unhide HI]
    go_wp2
    go_ret3
    exact ⟨rfl, rfl⟩
  clear hi
  go_enter Tryd.func11, Tryd.ntmps11
  go_wp2_with fail
  refine h42.mono ?_
  clear h42
  rintro e w' ⟨rfl, rfl⟩
  go_wp2
  go_ret3
  exact ⟨rfl, Below.refl _ _⟩

set_option maxHeartbeats 400000 in
theorem cut_yes (l : List UInt8) (k : Nat) (w : World) (hl : l.length ≤ 1000) (hi : Lib.indexByte l 46 = k) (hk : k < l.length) :
    Calls Tryd.prog 11 #[.string ⟨l.toArray⟩, .string ⟨#[46]⟩] w fun e w' => e = .returned (.tuple #[.string ⟨(l.take k).toArray⟩, .string ⟨(l.drop (k + 1)).toArray⟩, .bool true]) ∧ Below w.heap.size w w' := by
  have h42 : Calls Tryd.prog 26 #[.string ⟨l.toArray⟩, .string ⟨#[46]⟩] w fun e w' => e = .returned (.tuple #[.string ⟨(l.take k).toArray⟩, .string ⟨(l.drop (k + 1)).toArray⟩, .bool true]) ∧ Below w.heap.size w w' := by
    have HI := hide hi
    clear hi
    have e1 : (ByteArray.mk l.toArray).extract 0 k = ByteArray.mk (l.take k).toArray := by rw [ext_eq]; simp
    have e2 : (ByteArray.mk l.toArray).extract (k + 1) l.length = ByteArray.mk (l.drop (k + 1)).toArray := by rw [ext_eq, List.take_of_length_le (by simp)]
    go_enter Tryd.func26, Tryd.ntmps26
    go_wp2_with fail
    refine (index_any _ _ hl).mono ?_
    rintro e w' ⟨rfl, rfl⟩
    rw [unhide HI]
    go_wp2_with fail
    go_quiet (fail)
    go_wp2
    go_ret3
    exact ⟨rfl, below_drewN (Below.refl _ _) _⟩
  clear hi
  generalize l.take k = a at *
  generalize l.drop (k + 1) = b at *
  go_enter Tryd.func11, Tryd.ntmps11
  go_wp2_with fail
  refine h42.mono ?_
  clear h42
  rintro e w' ⟨rfl, hb⟩
  go_wp2
  go_ret3
  exact ⟨rfl, hb⟩

def isDig (c : UInt8) : Bool := decide (48 ≤ c.toNat) && decide (c.toNat ≤ 57)

theorem take_all (l : List UInt8) (k : Nat) (h : k < l.length) : (l.take (k + 1)).all isDig = (isDig l[k] && (l.take k).all isDig) := by
  rw [List.take_succ_eq_append_getElem h, List.all_append, Bool.and_comm]
  simp

theorem all_false (l : List UInt8) (k : Nat) (h : k < l.length) (hd : isDig l[k] = false) : l.all isDig = false := by
  rw [List.all_eq_false]
  exact ⟨l[k], List.getElem_mem h, by simp [hd]⟩

set_option maxHeartbeats 400000 in
theorem digits_any (l : List UInt8) (w : World) (hl : l.length ≤ 1000) :
    Calls Tryd.prog 12 #[.string ⟨l.toArray⟩] w fun e w' => e = .returned (.bool (l.all isDig && !l.isEmpty)) ∧ w' = w := by
  go_enter Tryd.func12, Tryd.ntmps12
  go_wp2
  go_loop [6] (fun i => ∃ k : Nat, k ≤ l.length ∧ i = .int .i64 k ∧ (l.take k).all isDig = true) (fun i => l.length - (intOf i).toNat)
  case atStart => exact ⟨0, Nat.zero_le _, rfl, by simp⟩
  case round =>
    obtain ⟨k, hk, rfl, hd⟩ := hrel
    by_cases hlt : k < l.length
    · have hg : (ByteArray.mk l.toArray)[k]'hlt = l[k] := rfl
      have ht := take_all l k hlt
      have HT := hide ht
      have HD := hide hd
      clear ht hd
      by_cases h48 : (48 : Int) ≤ (l[k].toNat : Int)
      · by_cases h57 : (l[k].toNat : Int) ≤ 57
        · have hdig : isDig l[k] = true := by unfold isDig; simp; omega
          have HDIG := hide hdig
          clear hdig
          go_wp2
          go_round
          case rel => exact ⟨k + 1, by omega, by go_num, by rw [unhide HT, unhide HDIG, unhide HD]; rfl⟩
          case measure => simp [intOf]; omega
        · have hdig : isDig l[k] = false := by unfold isDig; simp; omega
          have HA := hide (all_false l k hlt hdig)
          clear hdig
          go_wp2
          go_ret
          exact ⟨ret_bool (by rw [unhide HA]; rfl), rfl⟩
      · have hdig : isDig l[k] = false := by unfold isDig; simp; omega
        have HA := hide (all_false l k hlt hdig)
        clear hdig
        go_wp2
        go_ret
        exact ⟨ret_bool (by rw [unhide HA]; rfl), rfl⟩
    · have HA := hide (show l.all isDig = true by rw [List.take_of_length_le (by omega)] at hd; exact hd)
      have e : k = l.length := by omega
      subst e
      clear hd
      go_wp2
      go_ret
      exact ⟨ret_bool (by rw [unhide HA]; rfl), rfl⟩

/- one or more digits. -/
def digs (l : List UInt8) : Bool := l.all isDig && !l.isEmpty

theorem digs_any (l : List UInt8) (w : World) (hl : l.length ≤ 1000) :
    Calls Tryd.prog 12 #[.string ⟨l.toArray⟩] w fun e w' => e = .returned (.bool (digs l)) ∧ w' = w := digits_any l w hl

/- what digits say. -/
def num (l : List UInt8) : Int := l.foldl (fun n c => n * 10 + ((c.toNat : Int) - 48)) 0

theorem num_snoc (l : List UInt8) (c : UInt8) : num (l ++ [c]) = num l * 10 + ((c.toNat : Int) - 48) := by
  unfold num; rw [List.foldl_append]; rfl

theorem num_take (l : List UInt8) (k : Nat) (h : k < l.length) : num (l.take (k + 1)) = num (l.take k) * 10 + ((l[k].toNat : Int) - 48) := by
  rw [List.take_succ_eq_append_getElem h, num_snoc]

theorem isDig_bd {c : UInt8} (h : isDig c = true) : 48 ≤ (c.toNat : Int) ∧ (c.toNat : Int) ≤ 57 := by
  unfold isDig at h; simp at h; omega

theorem dig_get (l : List UInt8) (h : l.all isDig = true) (k : Nat) (hk : k < l.length) : isDig l[k] = true :=
  List.all_eq_true.1 h _ (List.getElem_mem hk)

theorem num_bd (l : List UInt8) (h : l.all isDig = true) (k : Nat) (hk : k ≤ l.length) : 0 ≤ num (l.take k) ∧ num (l.take k) + 1 ≤ p10 k := by
  induction k with
  | zero => simp [num, p10]
  | succ k ih =>
    have ⟨a, b⟩ := ih (by omega)
    have d := isDig_bd (dig_get l h k (by omega))
    rw [num_take l k (by omega), p10_succ]
    omega

theorem p10_18 {k : Nat} (h : k ≤ 18) : p10 k ≤ 1000000000000000000 := by
  have := p10_mono h
  have e : p10 18 = 1000000000000000000 := by decide
  omega

theorem num_join (a b : List UInt8) (ha : a.all isDig = true) (hb : b.all isDig = true) (hl : a.length + b.length ≤ 18) :
    0 ≤ num a ∧ num a ≤ 1000000000000000000 ∧ 0 ≤ num b ∧ num b ≤ 1000000000000000000 ∧ 0 ≤ num a * p10 b.length ∧ num a * p10 b.length ≤ 1000000000000000000 ∧ num a * p10 b.length + num b ≤ 1000000000000000000 := by
  have a1 := num_bd a ha a.length (Nat.le_refl _)
  have b1 := num_bd b hb b.length (Nat.le_refl _)
  rw [List.take_length] at a1 b1
  have pa := p10_18 (k := a.length) (by omega)
  have pb := p10_18 (k := b.length) (by omega)
  have pc := p10_18 (k := a.length + b.length) hl
  rw [p10_add] at pc
  have p0 := p10_pos b.length
  have h1 := Int.mul_le_mul_of_nonneg_right a1.2 (show 0 ≤ p10 b.length by omega)
  have h2 := Int.mul_nonneg a1.1 (show 0 ≤ p10 b.length by omega)
  rw [Int.add_mul] at h1
  omega

set_option maxHeartbeats 400000 in
theorem number_any (l : List UInt8) (w : World) (hl : l.length ≤ 18) (hd : l.all isDig = true) :
    Calls Tryd.prog 13 #[.string ⟨l.toArray⟩] w fun e w' => e = .returned (.int .i64 (num l)) ∧ w' = w := by
  have HD := hide hd
  clear hd
  go_enter Tryd.func13, Tryd.ntmps13
  go_wp2
  go_loop [3, 7] (fun n i => ∃ k : Nat, k ≤ l.length ∧ i = .int .i64 k ∧ n = .int .i64 (num (l.take k))) (fun _ i => l.length - (intOf i).toNat)
  case atStart => exact ⟨0, Nat.zero_le _, rfl, rfl⟩
  case round =>
    obtain ⟨k, hk, rfl, rfl⟩ := hrel
    by_cases hlt : k < l.length
    · have hg : (ByteArray.mk l.toArray)[k]'hlt = l[k] := rfl
      have b1 := num_bd l (unhide HD) k hk
      have b2 := p10_18 (k := k) (by omega)
      have b3 : num (l.take k) * 10 + ((l[k].toNat : Int) - 48) + 1 ≤ 1000000000000000000 := by
        have := num_bd l (unhide HD) (k + 1) hlt
        have := p10_18 (k := k + 1) (by omega)
        rw [num_take l k hlt] at *
        omega
      have d := isDig_bd (dig_get l (unhide HD) k hlt)
      have NT := hide (num_take l k hlt)
      go_wp2
      go_round
      case rel => exact ⟨k + 1, by omega, by go_num, by rw [unhide NT]⟩
      case measure => simp [intOf]; omega
    · have e : k = l.length := by omega
      subst e
      have HT := hide (show num (l.take l.length) = num l by rw [List.take_length])
      go_wp2
      go_ret
      exact ⟨ret_int (by first | exact unhide HT | rfl), rfl⟩

end Go.Proofs.YtlcckhlkmnnjdabDoor
