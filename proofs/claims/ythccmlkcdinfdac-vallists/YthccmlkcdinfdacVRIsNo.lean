/- The document's own Is: of a value in which more is set than its kind names. -/
import Derived.Test.YthccmlkcdinfdacVMath
namespace Go.Proofs.Ythccmlkcdinfdac
open Go.RowKit

set_option maxHeartbeats 2000000 in
theorem ris_no (k : Int) (b : Bool) (m s : Int) (t : ByteArray) (a : Option Addr) (len cap : Nat) (q : Int) (w : World) (h : aloneB k b m s t len = false) :
    Calls Try.prog 30 #[.agg #[.int .i64 k, .bool b, .int .i64 m, .int .i64 s, .string t, .slice a len cap], .int .i64 q] w fun e w' => e = .returned (.bool false) ∧ Below w.heap.size w w' := by
  rcases alone_f h with ⟨h1, rfl⟩ | ⟨h1, h2⟩ | ⟨h1, h2⟩ | ⟨h1, h2⟩
  · have e1 : (k == 1) = false := by simpa using h1
    have n1 : (k != 1) = true := by simpa using h1
    clear h h1
    go_enter Try.func30, Try.ntmps30
    go_wp2_with fail
    all_goals go_ret
    all_goals exact ⟨rfl, below1 _ _⟩
  · have e1 : (k == 2) = false := by simpa using h1
    have n1 : (k != 2) = true := by simpa using h1
    clear h h1
    rcases h2 with h2 | h2
    · go_enter Try.func30, Try.ntmps30
      go_wp2_with fail
      all_goals go_ret
      all_goals exact ⟨rfl, below1 _ _⟩
    · go_enter Try.func30, Try.ntmps30
      go_wp2_with fail
      all_goals go_ret
      all_goals exact ⟨rfl, below1 _ _⟩
  · have e1 : (k == 3) = false := by simpa using h1
    have n1 : (k != 3) = true := by simpa using h1
    clear h h1
    go_enter Try.func30, Try.ntmps30
    go_wp2_with fail
    all_goals go_ret
    all_goals exact ⟨rfl, below1 _ _⟩
  · have e1 : (k == 4) = false := by simpa using h1
    have n1 : (k != 4) = true := by simpa using h1
    clear h h1
    have h3 : 0 < len := by omega
    clear h2
    go_enter Try.func30, Try.ntmps30
    go_wp2_with fail
    all_goals go_ret
    all_goals exact ⟨rfl, below1 _ _⟩
end Go.Proofs.Ythccmlkcdinfdac
