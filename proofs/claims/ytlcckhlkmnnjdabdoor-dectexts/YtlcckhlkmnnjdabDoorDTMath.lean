/- Digits with noughts ahead: plain reckoning. -/
import Derived.Test.YtlcckhlkmnnjdabDoorDText
namespace Go.Proofs.YtlcckhlkmnnjdabDoor

/- a number in digits, at least so many. -/
def padL (n k : Nat) : List UInt8 := if n = 0 then List.replicate k 48 else List.replicate (k - (Lib.decDigits n).length) 48 ++ Lib.decDigits n

theorem repeat_replicate (c : Nat) : Lib.repeatL [48] c = List.replicate c 48 := by
  induction c with
  | zero => rfl
  | succ c ih => unfold Lib.repeatL; rw [ih]; rfl

theorem pad_body (n k : Nat) (hk : 1 ≤ k) : padL n k = Lib.repeatL [48] (k - (Lib.decDigits n).length) ++ Lib.decDigits n := by
  unfold padL
  rw [repeat_replicate]
  by_cases h : n = 0
  · subst h
    rw [if_pos rfl, Lib.decDigits_one (by omega)]
    show List.replicate k 48 = List.replicate (k - 1) 48 ++ [48]
    rw [← List.replicate_succ', show k - 1 + 1 = k by omega]
  · rw [if_neg h]

theorem pad_step (n k : Nat) (h : n ≠ 0 ∨ k ≠ 0) : padL n k = padL (n / 10) (k - 1) ++ [UInt8.ofNat (48 + n % 10)] := by
  by_cases h0 : n = 0
  · subst h0
    have hk : k ≠ 0 := by omega
    unfold padL
    rw [if_pos rfl, if_pos rfl]
    show List.replicate k 48 = List.replicate (k - 1) 48 ++ [48]
    rw [← List.replicate_succ', show k - 1 + 1 = k by omega]
  · by_cases h1 : n < 10
    · have e0 : n / 10 = 0 := by omega
      unfold padL
      rw [if_neg h0, if_pos e0, Lib.decDigits_one h1, show n % 10 = n by omega]
      rfl
    · unfold padL
      rw [if_neg h0, if_neg (by omega)]
      have e : Lib.decDigits n = Lib.decDigits (n / 10) ++ [UInt8.ofNat (48 + n % 10)] := by
        rw [Lib.decDigits, dif_neg h1]
      rw [e, List.length_append, List.append_assoc, show k - ((Lib.decDigits (n / 10)).length + [UInt8.ofNat (48 + n % 10)].length) = k - 1 - (Lib.decDigits (n / 10)).length by simp; omega]

theorem pad_done : padL 0 0 = [] := rfl
end Go.Proofs.YtlcckhlkmnnjdabDoor
