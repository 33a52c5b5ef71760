/- More of the plain reckoning: whole numbers as decimals. -/
import Derived.Test.YtlcckhlkmnnjdabDoorMath2
import GoSem.Claim
namespace Go.Proofs.YtlcckhlkmnnjdabDoor

theorem fit0 (x : Int) (h1 : -1000000000 ≤ x) (h2 : x ≤ 1000000000) : fitM x 0 = x ∧ fitS x 0 = 0 ∧ fitE x 0 = 0 := by
  have ha : argB x 0 = false := by unfold argB; simp; omega
  have hk : okM (half x (p10 (0 - 0))) = true := by
    rw [show p10 (0 - 0) = 1 from rfl, half_one, okM_iff]; exact ⟨h1, h2⟩
  have e : half x (p10 (0 - 0)) = x := by rw [show p10 (0 - 0) = 1 from rfl, half_one]
  refine ⟨?_, ?_, ?_⟩
  · unfold fitM
    rw [ha]
    show fitTM x 0 (0 + 1) = x
    unfold fitTM
    rw [if_pos hk, e]; rfl
  · unfold fitS
    rw [ha]
    show ((fitTS x 0 (0 + 1) : Nat) : Int) = 0
    unfold fitTS
    rw [if_pos hk]; rfl
  · unfold fitE
    rw [ha]
    show fitTE x 0 (0 + 1) = 0
    unfold fitTE
    rw [if_pos hk]

theorem isB0 (x : Int) (h1 : -1000000000 ≤ x) (h2 : x ≤ 1000000000) : isB x 0 = true := by
  unfold isB
  rw [(okM_iff x).2 ⟨h1, h2⟩]; rfl

theorem up0 (x : Int) : upM x 0 (max 0 0) = x := by
  unfold upM
  rw [show p10 (max (0 : Int) 0 - 0).toNat = 1 from rfl]; omega

theorem wf64 {n : Int} (h : (Go.Lit.int .i64 n).wf = true) : -9223372036854775808 ≤ n ∧ n ≤ 9223372036854775807 := by
  simp [Go.Lit.wf, Go.IntKind.min, Go.IntKind.max, Go.IntKind.signed, Go.IntKind.bits] at h
  omega

end Go.Proofs.YtlcckhlkmnnjdabDoor
