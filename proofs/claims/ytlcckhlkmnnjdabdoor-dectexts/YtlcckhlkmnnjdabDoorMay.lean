/- The contract of the statements' own 'may': may all of these decimals be? -/
import Derived.Test.YtlcckhlkmnnjdabDoorRIs
namespace Go.Proofs.YtlcckhlkmnnjdabDoor
open Go.RowKit

set_option maxHeartbeats 800000 in
theorem may1_any (m s : Int) (B : Nat) (w : World) (hB : B < w.heap.size) (h0 : w.cell? ⟨B, 0, none⟩ = some (.int .i64 m)) (h1 : w.cell? ⟨B, 1, none⟩ = some (.int .i64 s)) :
    Calls Tryd.prog 6 #[.slice (some ⟨B, 0, none⟩) 1 1] w fun e w' => e = .returned (.bool (isB m s)) ∧ Below w.heap.size w w' := by
  go_enter Tryd.func6, Tryd.ntmps6
  go_wp2
  go_loopw [3] (fun x wr => ∃ k : Nat, x = .int .i64 k ∧ k ≤ 1 ∧ Hid ((1 ≤ k → isB m s = true)) ∧ Below w.heap.size w wr) (fun x _ => 1 - (intOf x).toNat)
  case atStart => exact ⟨0, rfl, by omega, fun h => absurd h (by omega), Below.refl _ _⟩
  case round =>
    obtain ⟨k, rfl, hk, hh, b0⟩ := hrel
    obtain ⟨c0, f0⟩ := bcell b0
    match k, hk, hh with
    | 0, _, hh =>
      go_wp2_with fail
      refine (ris_any m s _).mono ?_
      rintro e w1 ⟨rfl, k1⟩
      have b1 := bstep b0 k1
      clear b0 k1 c0 f0
      cases hb : isB m s
      · have HF := hide (show (isB m s) = false by simp [hb])
        clear hb
        go_wp2
        go_ret
        exact ⟨ret_bool (unhide HF).symm, b1⟩
      · have HT := hide hb
        clear hb
        go_wp2
        go_roundw
        case rel => exact ⟨1, by go_num, by omega, fun _ => unhide HT, b1⟩
        case measure => simp [intOf]
    | 1, _, hh =>
      have HT := hide (show (isB m s) = true by rw [unhide hh (by omega)])
      go_wp2
      go_ret
      exact ⟨ret_bool (unhide HT).symm, b0⟩

set_option maxHeartbeats 800000 in
theorem may2_any (m s n t : Int) (B : Nat) (w : World) (hB : B < w.heap.size) (h0 : w.cell? ⟨B, 0, none⟩ = some (.int .i64 m)) (h1 : w.cell? ⟨B, 1, none⟩ = some (.int .i64 s)) (h2 : w.cell? ⟨B, 2, none⟩ = some (.int .i64 n)) (h3 : w.cell? ⟨B, 3, none⟩ = some (.int .i64 t)) :
    Calls Tryd.prog 6 #[.slice (some ⟨B, 0, none⟩) 2 2] w fun e w' => e = .returned (.bool (isB m s && isB n t)) ∧ Below w.heap.size w w' := by
  go_enter Tryd.func6, Tryd.ntmps6
  go_wp2
  go_loopw [3] (fun x wr => ∃ k : Nat, x = .int .i64 k ∧ k ≤ 2 ∧ Hid ((1 ≤ k → isB m s = true) ∧ (2 ≤ k → isB n t = true)) ∧ Below w.heap.size w wr) (fun x _ => 2 - (intOf x).toNat)
  case atStart => exact ⟨0, rfl, by omega, ⟨fun h => absurd h (by omega), fun h => absurd h (by omega)⟩, Below.refl _ _⟩
  case round =>
    obtain ⟨k, rfl, hk, hh, b0⟩ := hrel
    obtain ⟨c0, f0⟩ := bcell b0
    match k, hk, hh with
    | 0, _, hh =>
      go_wp2_with fail
      refine (ris_any m s _).mono ?_
      rintro e w1 ⟨rfl, k1⟩
      have b1 := bstep b0 k1
      clear b0 k1 c0 f0
      cases hb : isB m s
      · have HF := hide (show (isB m s && isB n t) = false by simp [hb])
        clear hb
        go_wp2
        go_ret
        exact ⟨ret_bool (unhide HF).symm, b1⟩
      · have HT := hide hb
        clear hb
        go_wp2
        go_roundw
        case rel => exact ⟨1, by go_num, by omega, ⟨fun _ => unhide HT, fun h => absurd h (by omega)⟩, b1⟩
        case measure => simp [intOf]
    | 1, _, hh =>
      go_wp2_with fail
      refine (ris_any n t _).mono ?_
      rintro e w1 ⟨rfl, k1⟩
      have b1 := bstep b0 k1
      clear b0 k1 c0 f0
      cases hb : isB n t
      · have HF := hide (show (isB m s && isB n t) = false by simp [hb])
        clear hb
        go_wp2
        go_ret
        exact ⟨ret_bool (unhide HF).symm, b1⟩
      · have HT := hide hb
        clear hb
        go_wp2
        go_roundw
        case rel => exact ⟨2, by go_num, by omega, ⟨fun _ => (unhide hh).1 (by omega), fun _ => unhide HT⟩, b1⟩
        case measure => simp [intOf]
    | 2, _, hh =>
      have HT := hide (show (isB m s && isB n t) = true by rw [(unhide hh).1 (by omega), (unhide hh).2 (by omega)]; rfl)
      go_wp2
      go_ret
      exact ⟨ret_bool (unhide HT).symm, b0⟩

end Go.Proofs.YtlcckhlkmnnjdabDoor
