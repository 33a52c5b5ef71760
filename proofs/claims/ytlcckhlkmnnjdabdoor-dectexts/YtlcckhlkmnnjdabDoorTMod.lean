/- Go's quotient and rest against the floor's; a number's last bit. -/
import Derived.Test.YtlcckhlkmnnjdabDoorBase
namespace Go.Proofs.YtlcckhlkmnnjdabDoor
open Go.RowKit

theorem i64_and1 (n : Int) : bits .and .i64 n 1 = n % 2 := by
  have h1 : (BitVec.ofInt 64 1).toNat = 2 ^ 1 - 1 := by decide
  have key : (BitVec.ofInt 64 n &&& BitVec.ofInt 64 1).toNat = (n % ((2 ^ 64 : Nat) : Int)).toNat % 2 ^ 1 := by
    rw [BitVec.toNat_and, BitVec.toNat_ofInt, h1, Nat.and_two_pow_sub_one_eq_mod]
  show IntKind.i64.wrap ((BitVec.ofInt 64 n &&& BitVec.ofInt 64 1).toNat : Nat) = n % 2
  rw [key, IntKind.wrap_i64]
  omega

theorem tmod_facts (n d : Int) (hd : 1 ≤ d) : (n.tmod d < 0 → n.tdiv d - 1 = n / d ∧ n.tmod d + d = n % d) ∧ (¬ n.tmod d < 0 → n.tdiv d = n / d ∧ n.tmod d = n % d) := by
  have ⟨a, b⟩ := tdiv_floor n d hd
  have he := Int.mul_tdiv_add_tmod n d
  have h3 := Int.mul_ediv_add_emod n d
  constructor
  · intro h
    refine ⟨a h, ?_⟩
    rw [← a h, Int.mul_sub] at h3
    omega
  · intro h
    refine ⟨b h, ?_⟩
    rw [← b h] at h3
    omega

end Go.Proofs.YtlcckhlkmnnjdabDoor
