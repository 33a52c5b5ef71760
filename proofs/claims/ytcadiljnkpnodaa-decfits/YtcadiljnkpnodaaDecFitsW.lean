/- The walk of DecFits: it returns true. -/
import Derived.Test.YtcadiljnkpnodaaKnown
import Derived.Test.YtcadiljnkpnodaaRef2
import Derived.Test.YtcadiljnkpnodaaMath2
namespace Go.Proofs.Ytcadiljnkpnodaa
open Go.RowKit

set_option maxHeartbeats 800000 in
theorem decFits_walk (m s : Int) (_ : (Lit.int .i64 m).wf = true) (_ : (Lit.int .i64 s).wf = true) (w : World) :
    Calls Try.prog 3 #[.int .i64 m, .int .i64 s] w fun e w' => e = .returned (.bool true) ∧ Below w.heap.size w w' := by
  have hi := fit_is m s
  have h1 : ∀ w, Calls Try.prog 8 #[.int .i64 m, .int .i64 s] w fun e w' => e = .returned (.tuple #[.agg #[.int .i64 (fitM m s), .int .i64 (fitS m s)], .int .i64 (fitE m s)]) ∧ Below w.heap.size w w' := fit_any m s
  have h2 : ∀ w, Calls Try.prog 9 #[.int .i64 m, .int .i64 s] w fun e w' => e = .returned (.tuple #[.agg #[.int .i64 (fitM m s), .int .i64 (fitS m s)], .int .i64 (fitE m s)]) ∧ Below w.heap.size w w' := rfit_any m s
  generalize fitM m s = M at *
  generalize fitS m s = S at *
  generalize fitE m s = E at *
  have H1 := hide h1; have H2 := hide h2; have HI := hide hi
  clear h1 h2 hi
  by_cases hE : E = 0
  · subst hE
    have HI2 := hide (unhide HI rfl)
    clear HI
    go_enter Try.func3, Try.ntmps3
    go_wp2_with fail
    refine (unhide H1 _).mono ?_
    rintro e w1 ⟨rfl, b1⟩
    have z1 := b1.size
    go_wp2_with fail
    refine (unhide H2 _).mono ?_
    rintro e w2 ⟨rfl, b2⟩
    obtain ⟨c2, f2⟩ := bcell b2
    have z2 : w1.heap.size < w2.heap.size := by have := b2.size; simp at this; omega
    go_wp2_with fail
    refine (is_any _ _ _).mono ?_
    rintro e w3 ⟨rfl, b3⟩
    rw [unhide HI2]
    have z3 := b3.size
    go_wp2_with fail
    refine (known_any _).mono ?_
    rintro e w4 ⟨rfl, b4⟩
    go_wp2
    go_ret
    exact ⟨rfl, bstep (bstep ((bstep (b1.alloc z1 _) b2).alloc (by omega) _) b3) b4⟩
  · have hE1 : (E != 0) = true := by simpa using hE
    clear hE
    go_enter Try.func3, Try.ntmps3
    go_wp2_with fail
    refine (unhide H1 _).mono ?_
    rintro e w1 ⟨rfl, b1⟩
    have z1 := b1.size
    go_wp2_with fail
    refine (unhide H2 _).mono ?_
    rintro e w2 ⟨rfl, b2⟩
    obtain ⟨c2, f2⟩ := bcell b2
    have z2 : w1.heap.size < w2.heap.size := by have := b2.size; simp at this; omega
    go_wp2_with fail
    refine (known_any _).mono ?_
    rintro e w4 ⟨rfl, b4⟩
    go_wp2
    go_ret
    exact ⟨rfl, bstep ((bstep (b1.alloc z1 _) b2).alloc (by omega) _) b4⟩

end Go.Proofs.Ytcadiljnkpnodaa
