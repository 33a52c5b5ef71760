/- Whether a function holds of one of the boxes: slices.IndexFunc, slices.ContainsFunc; whether boxes may be asked together; whether a point is in one. -/
import Derived.Test.YtpoejhdkgfikdaaBxIn
import Derived.Shelf.Abstract
namespace Go.Proofs.Ytpoejhdkgfikdaa
open Go.RowKit
set_option linter.unusedVariables false
set_option linter.unusedSimpArgs false

def AnsI (P : Prop) (e : Ending) : Prop := ∃ r : Int, e = .returned (.int .i64 r) ∧ (0 ≤ r ↔ P)
theorem ansI_no {P : Prop} (h : ¬ P) : AnsI P (.returned (.int .i64 (-1))) := ⟨-1, rfl, by simp [h]⟩
theorem ansI_yes {P : Prop} (i : Nat) (h : P) : AnsI P (.returned (.int .i64 i)) := ⟨i, rfl, by simp [h]⟩

set_option maxHeartbeats 2000000 in
theorem idx_any (Q : Nat → Prop) (K : FuncId) (eg : ∀ args w, (callFunc K args).run Try.prog w = .ok (.enter K args) w) (C : Value) (a : Option Addr) (cap : Nat) (l : List Bx) (P : Nat → Prop) (w : World) (h : BxsI Q w a l) (hl : l.length ≤ maxLen)
    (HC : ∀ (i : Nat) v1 v2 w', i < l.length → Below w.heap.size w w' → BoxI Q w' v1 v2 (bx l i) → Calls Try.prog K #[.agg #[v1, v2], C] w' fun e w'' => Ans (P i) e ∧ Below w'.heap.size w' w'') :
    Calls Try.prog 29 #[.slice a l.length cap, .func (.func K) #[] #[C]] w fun e w' => AnsI (∃ i, i < l.length ∧ P i) e ∧ Below w.heap.size w w' := by
  unfold maxLen at hl
  have HC := hide HC
  have HB := hide h
  have NO : Hid ((∀ i, i < l.length → ¬ P i) → ¬ ∃ i, i < l.length ∧ P i) := hide (fun hn ⟨i, hi, hp⟩ => hn i hi hp)
  have YES : Hid (∀ i, i < l.length → P i → ∃ i, i < l.length ∧ P i) := hide (fun i hi hp => ⟨i, hi, hp⟩)
  generalize (∃ i, i < l.length ∧ P i) = R at *
  clear h
  go_enter Try.func29, Try.ntmps29
  go_wp2_with fail
  go_loopw [8] (fun i wr => ∃ j : Nat, j ≤ l.length ∧ i = .int .i64 j ∧ Below w.heap.size w wr ∧ Hid (∀ i, i < j → ¬ P i)) (fun i _ => l.length - (intOf i).toNat)
  case atStart => exact ⟨0, Nat.zero_le _, rfl, Below.refl _ _, hide (fun i hi => absurd hi (Nat.not_lt_zero _))⟩
  case round =>
    obtain ⟨j, hj, rfl, bel, H⟩ := hrel
    by_cases hlt : j < l.length
    · obtain ⟨bl, o, v1, v2, rfl, hq, hb, k1, k2, k3⟩ := (unhide HB).below bel j hlt
      obtain ⟨a1, c1, rfl⟩ := k3.1.form
      obtain ⟨a2, c2, rfl⟩ := k3.2.form
      have CC := hide (unhide HC j _ _ wr hlt bel k3)
      clear HC HB k3
      go_wp2_with (go_at_fn K; refine (unhide CC).mono ?_)
      rintro e w2 ⟨⟨r, rfl, hr⟩, b2⟩
      have b3 := bstep bel b2
      cases r
      · have hno : Hid (¬ P j) := hide (fun hp => by have h := hr.2 hp; cases h)
        clear hr
        go_wp2_with fail
        go_roundw
        case rel => exact ⟨j + 1, by omega, by go_num, b3, hide (fun i hi => if e : i = j then e ▸ unhide hno else unhide H i (by omega))⟩
        case measure => simp [intOf]; omega
      · have hyes := hide (unhide YES j hlt (hr.1 rfl))
        clear hr
        go_wp2_with fail
        go_ret
        exact ⟨ansI_yes j (unhide hyes), b3⟩
    · go_wp2_with fail
      go_ret
      exact ⟨ansI_no (unhide NO (fun i hi => unhide H i (by omega))), bel⟩
end Go.Proofs.Ytpoejhdkgfikdaa
