/- The contract of 'alone'. -/
import Derived.Test.YthccmlkcdinfdacVMath
namespace Go.Proofs.Ythccmlkcdinfdac
open Go.RowKit

set_option maxHeartbeats 1000000 in
theorem alone_any (k : Int) (b : Bool) (m s : Int) (t : ByteArray) (a : Option Addr) (len cap : Nat) (w : World) :
    Calls Try.prog 41 #[.agg #[.int .i64 k, .bool b, .int .i64 m, .int .i64 s, .string t, .slice a len cap]] w fun e w' => e = .returned (.bool (aloneB k b m s t len)) ∧ Below w.heap.size w w' := by
  by_cases k1 : k = 1
  · subst k1
    go_enter Try.func41, Try.ntmps41
    go_wp2
    all_goals go_ret
    all_goals exact ⟨ret_bool (by simp [aloneB, len0, *]), below1 _ _⟩
  by_cases k2 : k = 2
  · subst k2
    go_enter Try.func41, Try.ntmps41
    go_wp2
    all_goals go_ret
    all_goals exact ⟨ret_bool (by simp [aloneB, len0, *]), below1 _ _⟩
  by_cases k3 : k = 3
  · subst k3
    go_enter Try.func41, Try.ntmps41
    go_wp2
    all_goals go_ret
    all_goals exact ⟨ret_bool (by simp [aloneB, len0, *]), below1 _ _⟩
  by_cases k4 : k = 4
  · subst k4
    go_enter Try.func41, Try.ntmps41
    go_wp2
    all_goals go_ret
    all_goals exact ⟨ret_bool (by simp [aloneB, *]), below1 _ _⟩
  have e1 : (k == 1) = false := by simpa using k1
  have e2 : (k == 2) = false := by simpa using k2
  have e3 : (k == 3) = false := by simpa using k3
  have e4 : (k == 4) = false := by simpa using k4
  have K1 := hide k1
  have K2 := hide k2
  have K3 := hide k3
  have K4 := hide k4
  clear k1 k2 k3 k4
  go_enter Try.func41, Try.ntmps41
  go_wp2
  all_goals go_ret
  all_goals (have k1 := unhide K1; have k2 := unhide K2; have k3 := unhide K3; have k4 := unhide K4; exact ⟨ret_bool (by simp [aloneB, len0, *]), below1 _ _⟩)
end Go.Proofs.Ythccmlkcdinfdac
