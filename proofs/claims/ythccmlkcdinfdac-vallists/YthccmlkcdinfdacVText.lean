/- The contracts of the two texts' tests, and of 'alone'. -/
import Derived.Test.YthccmlkcdinfdacVMath
namespace Go.Proofs.Ythccmlkcdinfdac
open Go.RowKit

set_option maxHeartbeats 400000 in
theorem rtext_any (s : ByteArray) (w : World) (hs : s.size ≤ maxLen) :
    Calls Try.prog 40 #[.string s] w fun e w' => e = .returned (.bool (textB s)) ∧ w' = w := by
  unfold maxLen at hs
  go_enter Try.func40, Try.ntmps40
  go_wp2
  go_loop [3] (fun i => ∃ k : Nat, k ≤ s.size ∧ i = .int .i64 k ∧ Hid ((s.data.toList.take k).all okC = true)) (fun i => s.size - (intOf i).toNat)
  case atStart => exact ⟨0, Nat.zero_le _, rfl, hide (by simp)⟩
  case round =>
    obtain ⟨k, hk, rfl, H⟩ := hrel
    by_cases hlt : k < s.size
    · by_cases c1 : (s[k].toNat : Int) < 32
      · go_wp2
        go_ret
        exact ⟨ret_bool (by unfold textB; rw [all_bad hlt (okC_no (Or.inl c1))]; simp), rfl⟩
      · by_cases c2 : 126 < (s[k].toNat : Int)
        · go_wp2
          go_ret
          exact ⟨ret_bool (by unfold textB; rw [all_bad hlt (okC_no (Or.inr (Or.inl c2)))]; simp), rfl⟩
        · by_cases c3 : (s[k].toNat : Int) = 34
          · have C3 := hide c3
            have c3' : ((s[k].toNat : Int) == 34) = true := by simpa using c3
            clear c3
            go_wp2
            go_ret
            exact ⟨ret_bool (by unfold textB; rw [all_bad hlt (okC_no (Or.inr (Or.inr (unhide C3))))]; simp), rfl⟩
          · have C := hide (okC_mk (by omega) (by omega) c3)
            have c3' : ((s[k].toNat : Int) == 34) = false := by simpa using c3
            clear c3
            go_wp2
            go_round
            case rel => exact ⟨k + 1, by omega, by go_num, hide (all_snoc hlt (unhide H) (unhide C))⟩
            case measure => simp [intOf]; omega
    · have A := hide (all_full hlt (unhide H))
      go_wp2
      go_ret
      exact ⟨ret_bool (by unfold textB; rw [unhide A, Bool.and_true]; exact decide_eq_decide.2 (by omega)), rfl⟩

set_option maxHeartbeats 400000 in
theorem text_any (s : ByteArray) (w : World) (hs : s.size ≤ maxLen) :
    Calls Try.prog 43 #[.string s] w fun e w' => e = .returned (.bool (textB s)) ∧ w' = w := by
  unfold maxLen at hs
  by_cases h16 : s.size ≤ 16
  · go_enter Try.func43, Try.ntmps43
    go_wp2
    go_loop [9] (fun i => ∃ k : Nat, k ≤ s.size ∧ i = .int .i64 k ∧ Hid ((s.data.toList.take k).all okC = true)) (fun i => s.size - (intOf i).toNat)
    case atStart => exact ⟨0, Nat.zero_le _, rfl, hide (by simp)⟩
    case round =>
      obtain ⟨k, hk, rfl, H⟩ := hrel
      by_cases hlt : k < s.size
      · by_cases c1 : (s[k].toNat : Int) < 32
        · go_wp2
          go_ret
          exact ⟨ret_bool (by unfold textB; rw [all_bad hlt (okC_no (Or.inl c1))]; simp), rfl⟩
        · by_cases c2 : 126 < (s[k].toNat : Int)
          · go_wp2
            go_ret
            exact ⟨ret_bool (by unfold textB; rw [all_bad hlt (okC_no (Or.inr (Or.inl c2)))]; simp), rfl⟩
          · by_cases c3 : (s[k].toNat : Int) = 34
            · have C3 := hide c3
              have c3' : ((s[k].toNat : Int) == 34) = true := by simpa using c3
              clear c3
              go_wp2
              go_ret
              exact ⟨ret_bool (by unfold textB; rw [all_bad hlt (okC_no (Or.inr (Or.inr (unhide C3))))]; simp), rfl⟩
            · have C := hide (okC_mk (by omega) (by omega) c3)
              have c3' : ((s[k].toNat : Int) == 34) = false := by simpa using c3
              clear c3
              go_wp2
              go_round
              case rel => exact ⟨k + 1, by omega, by go_num, hide (all_snoc hlt (unhide H) (unhide C))⟩
              case measure => simp [intOf]; omega
      · have A := hide (all_full hlt (unhide H))
        go_wp2
        go_ret
        exact ⟨ret_bool (by unfold textB; rw [unhide A]; simp [h16]), rfl⟩
  · go_enter Try.func43, Try.ntmps43
    go_wp2
    go_ret
    exact ⟨ret_bool (by unfold textB; have : ¬ s.size ≤ 16 := by omega
                        simp [this]), rfl⟩
end Go.Proofs.Ythccmlkcdinfdac
