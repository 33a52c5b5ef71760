/- The contract of the law's own 'size': some number. -/
import Derived.Test.YthccmlkcdinfdacVMath
namespace Go.Proofs.Ythccmlkcdinfdac
open Go.RowKit

set_option maxHeartbeats 1000000 in
theorem size_any (x : VT) : ∀ w : World, x.In w →
    Calls Try.prog 18 #[x.val] w fun e w' => (∃ n, e = .returned (.int .i64 n)) ∧ Below w.heap.size w w' := by
  induction x with
  | none => intro w h; exact absurd h (by simp [VT.In])
  | mk k b m s t a len cap kid ih =>
    intro w hin
    obtain ⟨wk, wm, ws, ht, hlc, hcm⟩ := hin.1
    have hlm : len ≤ maxLen := by omega
    unfold maxLen at ht hcm hlm
    show Calls Try.prog 18 #[.agg #[.int .i64 k, .bool b, .int .i64 m, .int .i64 s, .string t, .slice a len cap]] w _
    clear wk wm ws
    go_enter Try.func18, Try.ntmps18
    go_wp2_with fail
    have b0 := below1 w (Obj.cells #[.int .i64 k, .bool b, .int .i64 m, .int .i64 s, .string t, .slice a len cap] 26)
    have hin1 := hin.below b0
    have hz : (w.alloc (Obj.cells #[.int .i64 k, .bool b, .int .i64 m, .int .i64 s, .string t, .slice a len cap] 26)).heap.size = w.heap.size + 1 := by simp
    have hbox : (w.alloc (Obj.cells #[.int .i64 k, .bool b, .int .i64 m, .int .i64 s, .string t, .slice a len cap] 26)).cell? ⟨w.heap.size, 5, none⟩ = some (.slice a len cap) := by go_simp
    generalize hW : w.alloc (Obj.cells #[.int .i64 k, .bool b, .int .i64 m, .int .i64 s, .string t, .slice a len cap] 26) = W at *
    clear hW
    go_loopw [3, 4] (fun n i wr => ∃ (j : Nat) (z : Int), j ≤ len ∧ i = .int .i64 j ∧ n = .int .i64 z ∧ Below W.heap.size W wr) (fun _ i _ => len - (intOf i).toNat)
    case atStart => exact ⟨0, _, Nat.zero_le _, rfl, rfl, Below.refl _ _⟩
    case round =>
      obtain ⟨j, z, hj, rfl, rfl, bel⟩ := hrel
      have hb := (bcell bel).1 w.heap.size 5 (by omega)
      rw [hbox] at hb
      by_cases hlt : j < len
      · by_cases h5 : z < 500
        · obtain ⟨bl, o, k', b', m', s', t', a', len', cap', kid', rfl, hx, six, hk⟩ := hin1.kid hlt
          have ihj := ih j wr
          rw [hx] at ihj
          have ihj := ihj (hk.below bel)
          obtain ⟨s0, s1, s2, s3, s4, s5, s6⟩ := six.below bel
          clear hx six hk ih hin hin1
          have IH := hide ihj
          clear ihj
          go_wp2_with fail
          refine (unhide IH).mono ?_
          rintro e w2 ⟨⟨n, rfl⟩, k2⟩
          go_wp2_with fail
          go_roundw
          case rel => exact ⟨j + 1, _, by omega, by go_num, rfl, bstep bel k2⟩
          case measure => simp [intOf]; omega
        · go_wp2_with fail
          go_ret
          exact ⟨⟨_, rfl⟩, bstep b0 bel⟩
      · go_wp2_with fail
        go_ret
        exact ⟨⟨_, rfl⟩, bstep b0 bel⟩
end Go.Proofs.Ythccmlkcdinfdac
