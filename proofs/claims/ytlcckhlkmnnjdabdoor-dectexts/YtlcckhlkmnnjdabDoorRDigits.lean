/- The contract of the document's own Digits. -/
import Derived.Test.YtlcckhlkmnnjdabDoorDTMath
namespace Go.Proofs.YtlcckhlkmnnjdabDoor
open Go.RowKit

def strLen : Value → Nat
  | .string s => s.size
  | _ => 0

theorem pad_len (n k : Nat) (h : n ≤ 1000000000000000000) (hk : k ≤ 8) : (padL n k).length ≤ 28 := by
  unfold padL
  by_cases h0 : n = 0
  · rw [if_pos h0, List.length_replicate]; omega
  · have := (dlen n (by omega)).2
    rw [Int.toNat_natCast] at this
    rw [if_neg h0, List.length_append, List.length_replicate]
    omega

theorem conv_one (u : World) (b k : Nat) (h : u.cell? ⟨b, 0, none⟩ = some (.int .u8 (48 + (k : Int) % 10))) :
    (convert 57 9 (.slice (some ⟨b, 0, none⟩) 1 1)).run Tryd.prog u = .ok (.string ⟨#[UInt8.ofNat (48 + k % 10)]⟩) u := by
  have e : ((UInt8.ofNat (48 + k % 10)).toNat : Int) = 48 + (k : Int) % 10 := by
    rw [UInt8.toNat_ofNat']
    omega
  refine (run_convert_bytes_back (P := Tryd.prog) u 57 9 5 ⟨b, 0, none⟩ 1 [UInt8.ofNat (48 + k % 10)] Tryd.underlying57 Tryd.underlying5 Tryd.underlying9 ?_).trans rfl
  intro j hj
  have hj0 : j = 0 := by simp at hj; omega
  subst hj0
  show u.cell? ⟨b, 0, none⟩ = some (.int .u8 ((UInt8.ofNat (48 + k % 10)).toNat : Int))
  rw [e]; exact h

set_option maxHeartbeats 800000 in
theorem rdig_any (N L : Nat) (w : World) (hN : N ≤ 1000000000) (hL : L ≤ 8) :
    Calls Tryd.prog 24 #[.int .i64 N, .int .i64 L] w fun e w' => e = .returned (.string ⟨(padL N L).toArray⟩) ∧ Below w.heap.size w w' := by
  have PL := pad_len N L (by omega) hL
  go_enter Tryd.func24, Tryd.ntmps24
  go_wp2_with fail
  go_loopw [0, 5] (fun n s wr => ∃ (k : Nat) (l : List UInt8), k ≤ 1000000000 ∧ n = .int .i64 k ∧ s = .string ⟨l.toArray⟩ ∧ Hid (padL k (L - l.length) ++ l = padL N L) ∧ Below w.heap.size w wr) (fun n s _ => (intOf n).toNat + (L - strLen s))
  case atStart => exact ⟨N, [], hN, rfl, rfl, hide (by simp), Below.refl _ _⟩
  case round =>
    obtain ⟨k, l, hk, rfl, rfl, H, bel⟩ := hrel
    have ll : l.length ≤ 28 := by
      have h := congrArg List.length (unhide H)
      rw [List.length_append] at h
      omega
    by_cases h0 : 0 < k
    · skip
      have ST := pad_step k (L - l.length) (Or.inl (by omega))
      have hcell : (wr.alloc (Obj.cells #[.int .u8 (48 + (k : Int) % 10)] 5)).cell? ⟨wr.heap.size, 0, none⟩ = some (.int .u8 (48 + (k : Int) % 10)) := by go_simp
      have hcv := conv_one _ wr.heap.size k hcell
      generalize UInt8.ofNat (48 + k % 10) = c at *
      have BA := hide (ba_app [c] l)
      have SH := hide ST
      clear ST
      go_wp2_with fail
      go_roundw
      case rel =>
        refine ⟨k / 10, c :: l, by omega, by go_num, congrArg Value.string (unhide BA), hide ?_, bstep bel (below1 _ _)⟩
        have h := unhide H
        rw [unhide SH, List.append_assoc] at h
        rw [List.length_cons, ← Nat.sub_sub]
        exact h
      case measure => simp [intOf, strLen, ByteArray.size]; omega
    · by_cases h1 : l.length < L
      · skip
        have ST := pad_step k (L - l.length) (Or.inr (by omega))
        have hcell : (wr.alloc (Obj.cells #[.int .u8 (48 + (k : Int) % 10)] 5)).cell? ⟨wr.heap.size, 0, none⟩ = some (.int .u8 (48 + (k : Int) % 10)) := by go_simp
        have hcv := conv_one _ wr.heap.size k hcell
        generalize UInt8.ofNat (48 + k % 10) = c at *
        have BA := hide (ba_app [c] l)
        have SH := hide ST
        clear ST
        go_wp2_with fail
        go_roundw
        case rel =>
          refine ⟨k / 10, c :: l, by omega, by go_num, congrArg Value.string (unhide BA), hide ?_, bstep bel (below1 _ _)⟩
          have h := unhide H
          rw [unhide SH, List.append_assoc] at h
          rw [List.length_cons, ← Nat.sub_sub]
          exact h
        case measure => simp [intOf, strLen, ByteArray.size]; omega
      · have F : Hid (l = padL N L) := by
          have h := unhide H
          rw [show L - l.length = 0 by omega, show k = 0 by omega, pad_done, List.nil_append] at h
          exact h
        go_wp2_with fail
        go_ret
        exact ⟨ret_str (by rw [unhide F]), bel⟩
end Go.Proofs.YtlcckhlkmnnjdabDoor
