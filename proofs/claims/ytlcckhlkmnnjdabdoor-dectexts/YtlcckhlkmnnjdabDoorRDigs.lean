/- The contract of the document's own digits: how many stand at a place. -/
import Derived.Test.YtlcckhlkmnnjdabDoorStrs
namespace Go.Proofs.YtlcckhlkmnnjdabDoor
open Go.RowKit

/- from 'at0' on k digits stand, and no more. -/
def Runs (l : List UInt8) (at0 k : Nat) : Prop := at0 + k ≤ l.length ∧ (∀ j (hj : at0 + j < l.length), j < k → isDig l[at0 + j] = true) ∧ (∀ hlt : at0 + k < l.length, isDig l[at0 + k] = false)

theorem isDig_yes {c : UInt8} (h1 : 48 ≤ (c.toNat : Int)) (h2 : (c.toNat : Int) ≤ 57) : isDig c = true := by unfold isDig; simp; omega
theorem isDig_no {c : UInt8} (h : (c.toNat : Int) < 48 ∨ 57 < (c.toNat : Int)) : isDig c = false := by
  unfold isDig
  rcases h with h | h
  · simp; omega
  · simp; omega

set_option maxHeartbeats 800000 in
theorem rdigs_any (l : List UInt8) (at0 : Nat) (w : World) (hl : l.length ≤ 1000) (ha : at0 ≤ l.length) :
    Calls Tryd.prog 16 #[.string ⟨l.toArray⟩, .int .i64 at0] w fun e w' => (∃ k : Nat, e = .returned (.int .i64 k) ∧ Runs l at0 k) ∧ w' = w := by
  go_enter Tryd.func16, Tryd.ntmps16
  go_wp2_with fail
  go_loop [5] (fun n => ∃ k : Nat, at0 + k ≤ l.length ∧ n = .int .i64 k ∧ Hid (∀ j (hj : at0 + j < l.length), j < k → isDig l[at0 + j] = true)) (fun n => l.length - (intOf n).toNat)
  case atStart => exact ⟨0, by omega, rfl, hide (fun j _ h => absurd h (Nat.not_lt_zero _))⟩
  case round =>
    obtain ⟨k, hk, rfl, H⟩ := hrel
    by_cases hlt : at0 + k < l.length
    · have hge : (⟨l.toArray⟩ : ByteArray)[at0 + k]'(by simpa [ByteArray.size] using hlt) = l[at0 + k] := rfl
      by_cases c1 : (l[at0 + k].toNat : Int) < 48
      · have D := hide (isDig_no (c := l[at0 + k]) (Or.inl c1))
        go_wp2_with fail
        go_ret
        exact ⟨⟨k, rfl, hk, unhide H, fun _ => unhide D⟩, rfl⟩
      · by_cases c2 : 57 < (l[at0 + k].toNat : Int)
        · have D := hide (isDig_no (c := l[at0 + k]) (Or.inr c2))
          go_wp2_with fail
          go_ret
          exact ⟨⟨k, rfl, hk, unhide H, fun _ => unhide D⟩, rfl⟩
        · have D := hide (isDig_yes (c := l[at0 + k]) (by omega) (by omega))
          go_wp2_with fail
          go_round
          case rel =>
            refine ⟨k + 1, by omega, by go_num, hide (fun j hj h => ?_)⟩
            by_cases e : j = k
            · subst e; exact unhide D
            · exact unhide H j hj (by omega)
          case measure => simp [intOf]; omega
    · go_wp2_with fail
      go_ret
      exact ⟨⟨k, rfl, hk, unhide H, fun h => absurd h hlt⟩, rfl⟩
end Go.Proofs.YtlcckhlkmnnjdabDoor
