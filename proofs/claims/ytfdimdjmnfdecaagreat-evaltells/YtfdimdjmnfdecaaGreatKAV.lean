/- FDec FConst FAtoms FChoice FCmp: laid together. -/
import Derived.Test.YtfdimdjmnfdecaaGreatKAU
set_option linter.unusedVariables false
set_option linter.unusedSimpArgs false
set_option maxHeartbeats 8000000
namespace Go.Proofs.YtfdimdjmnfdecaaGreat
open Go.RowKit
section
theorem decR_bad {r : List UInt8} (neg : Bool) (h : Bad r) : decR neg r = (0, 0, 2) := by
 unfold decR
 split
 ·rfl
 rename_i h0
 split
 ·rename_i h1
  rcases h with h | ⟨h, _⟩ | ⟨h, _⟩ <;> omega
 rename_i h1
 split
 ·rename_i h2
  obtain ⟨ha, hb, hc⟩ := h2
  rcases h with h | ⟨hl, hx⟩ | ⟨hl, _, _, hx⟩
  ·exact absurd h h0
  ·rw [drop_cons hl, List.head?_cons] at ha
   rw [Option.some.inj ha] at hx
   exact absurd rfl hx
  ·omega
 ·rfl
theorem decR_w {r : List UInt8} (neg : Bool) (ha : r.all isDig = true) (la : 1 ≤ r.length) : decR neg r = if 18 < r.length then (0, 0, 3) else fit3 neg (num r) 0 := by
 have := irun_self ha
 unfold decR
 rw [if_neg (by omega), if_pos this]
theorem decR_f {r : List UInt8} (neg : Bool) (a b : List UInt8) (hr : r = a ++ 46 :: b) (ha : a.all isDig = true) (hb : b.all isDig = true) (la : 1 ≤ a.length) (lb : 1 ≤ b.length) :
  decR neg r = if 18 < a.length + b.length ∨ 8 < b.length then (0, 0, 3) else fit3 neg (num (a ++ b)) b.length := by
 have h46 : run isDig (46 :: b) = 0 := by rw [run, if_neg (by decide)]
 have h1 : run isDig r = a.length := by rw [hr, irun_app ha, h46, Nat.add_zero]
 have e2 : r.drop (a.length + 1) = b := by rw [hr, ← List.drop_drop]; simp
 have e1 : r.take a.length = a := by rw [hr]; simp
 have e3 : r.drop a.length = 46 :: b := by rw [hr]; simp
 have h2 := irun_self hb
 have hl : r.length = a.length + 1 + b.length := by rw [hr]; simp; omega
 unfold decR
 rw [h1, e2, e3, e1, h2]
 rw [if_neg (by omega), if_neg (by omega), if_pos ⟨rfl, by omega, by omega⟩]
theorem decP_neg {l : List UInt8} (h0 : 0 < l.length) (h : l[0].toNat = 45) : decP l = decR true (l.drop 1) := by
 unfold decP
 cases l with
 | nil => exact absurd h0 (Nat.not_lt_zero _)
 | cons c t =>
  have : c = 45 := UInt8.toNat.inj (by simpa using h)
  simp [this]
theorem decP_pos {l : List UInt8} (h0 : 0 < l.length) (h : l[0].toNat ≠ 45) : decP l = decR false (l.drop 0) := by
 unfold decP
 cases l with
 | nil => exact absurd h0 (Nat.not_lt_zero _)
 | cons c t =>
  have : ¬ c = 45 := fun e => h (by simp [e])
  simp [this]
def PA3 (f : Nat) (l : List UInt8) (D : Int × Int × Int) : Prop := PA f l D.1 D.2.1 D.2.2
theorem rdec_any (l : List UInt8) (hl : l.length ≤ 1000) : PA 155 l (decP l).1 (decP l).2.1 (decP l).2.2 := by
 show PA3 _ l (decP l)
 cases hl0 : l with
 | nil => exact fun w => rparse_nil w
 | cons c t =>
  rw [← hl0]
  have h0 : 0 < l.length := by rw [hl0]; simp
  have hg : l[0] = c := by simp [hl0]
  by_cases h45 : c.toNat = 45
  ·have hc45 : c = 45 := UInt8.toNat.inj (by rw [h45]; rfl)
   have hdr : l.drop 1 = t := by rw [hl0]; rfl
   have hrl : (l.drop 1).length ≤ 1000 := by rw [List.length_drop]; omega
   have g45 : l[0].toNat = 45 := by rw [hg]; exact h45
   rw [decP_neg h0 g45]
   rcases shapes (l.drop 1) with hb | ⟨ha, la⟩ | ⟨a, b, hr, ha, hb, la, lb⟩
   ·rw [decR_bad true hb]
    exact fun w => rparse_bad_neg l w hl h0 g45 hb
   ·rw [decR_w true ha la]
    by_cases h18 : 18 < (l.drop 1).length
    ·rw [if_pos h18]
     exact fun w => rparse_over_negw l w hl h0 g45 ha la h18
    ·rw [if_neg h18]
     exact fun w => rparse_ok_negw l w hl h0 g45 ha la (by omega)
   ·rw [decR_f true a b hr ha hb la lb]
    by_cases ho : 18 < a.length + b.length ∨ 8 < b.length
    ·rw [if_pos ho]
     exact fun w => rparse_over_negf l w hl h0 g45 a b hr ha hb la lb ho
    ·rw [if_neg ho]
     exact fun w => rparse_ok_negf l w hl h0 g45 a b hr ha hb la lb (by omega) (by omega)
  ·have hrl : (l.drop 0).length ≤ 1000 := by rw [List.length_drop]; omega
   have g45 : l[0].toNat ≠ 45 := by rw [hg]; exact h45
   rw [decP_pos h0 g45]
   rcases shapes (l.drop 0) with hb | ⟨ha, la⟩ | ⟨a, b, hr, ha, hb, la, lb⟩
   ·rw [decR_bad false hb]
    exact fun w => rparse_bad_pos l w hl h0 g45 hb
   ·rw [decR_w false ha la]
    by_cases h18 : 18 < (l.drop 0).length
    ·rw [if_pos h18]
     exact fun w => rparse_over_posw l w hl h0 g45 ha la h18
    ·rw [if_neg h18]
     exact fun w => rparse_ok_posw l w hl h0 g45 ha la (by omega)
   ·rw [decR_f false a b hr ha hb la lb]
    by_cases ho : 18 < a.length + b.length ∨ 8 < b.length
    ·rw [if_pos ho]
     exact fun w => rparse_over_posf l w hl h0 g45 a b hr ha hb la lb ho
    ·rw [if_neg ho]
     exact fun w => rparse_ok_posf l w hl h0 g45 a b hr ha hb la lb (by omega) (by omega)
end
section
variable {b : Nat} {a : Option Addr} {cap : Nat} {ts : List Tk}
theorem leaf_bare (k : Int) (b : Bool) (m s : Int) (t : ByteArray) (lo hi : Bool) : (XT.mk k b m s t lo hi none 0 0 (fun i => [].getD i .none)).bare = .mkX k b m s t lo hi [] := XT.bare_mk k b m s t lo hi none 0 []
end
section
variable {b : Nat} {a : Option Addr} {cap : Nat} {ts : List Tk}
end
section
variable {b : Nat} {a : Option Addr} {cap : Nat} {ts : List Tk}
def w3 : List Mk := [mIf, mThen, mElse]
end
section
variable {b : Nat} {a : Option Addr} {cap : Nat} {ts : List Tk}
end
end Go.Proofs.YtfdimdjmnfdecaaGreat
