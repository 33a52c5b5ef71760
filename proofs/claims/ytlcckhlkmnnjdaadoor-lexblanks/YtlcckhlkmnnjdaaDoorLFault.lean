/- The contracts of lex's fault, and of token over the table of signs. -/
import Derived.Test.YtlcckhlkmnnjdaaDoorLWord
namespace Go.Proofs.YtlcckhlkmnnjdaaDoor
open Go.RowKit
set_option linter.unusedVariables false
set_option linter.unusedSimpArgs false

set_option maxHeartbeats 1600000 in
theorem fault_any (k : Nat) (t : List UInt8) (pos n : Nat) (w : World) (hk : k ≤ 4) (ht : t.length ≤ 1000) (hn : n ≤ 1000) :
    Calls Tryd.prog 20 #[.agg #[.int .i64 k, .string ⟨t.toArray⟩, .int .i64 pos], .int .i64 n] w fun e w' => e = .returned (.int .i64 ((fltN k t n : Nat) : Int)) ∧ Below w.heap.size w w' := by
  generalize hR : fltN k t n = R
  have HR := hide hR
  clear hR
  have HC : True := trivial
  by_cases k0 : k = 0
  · have HE := hide (show 2 = R by rw [← unhide HR]; simp [fltN, flt, k0])
    have e0 : ((k : Int) == 0) = true := by simp; omega
    clear HR k0
    go_enter Tryd.func20, Tryd.ntmps20
    go_wp2_with fail
    go_ret
    exact ⟨ret_nat (unhide HE), below1 _ _⟩
  have e0 : ((k : Int) == 0) = false := by simp; omega
  by_cases k1 : k = 1
  · have e1 : ((k : Int) == 1) = true := by simp; omega
    have e3 : ((k : Int) == 3) = false := by simp; omega
    have k3 : ¬ k = 3 := by omega
    by_cases h8 : 8 < t.length
    · cases hw : wordB t
      · have HE := hide (show 13 = R by rw [← unhide HR]; simp [fltN, flt, k0, k1, k3, h8, hw])
        have HW := hide hw
        clear HR hw k0 k1 k3
        go_enter Tryd.func20, Tryd.ntmps20
        go_wp2_with fail
        refine (word_any t _ ht).mono ?_
        rintro e w' ⟨rfl, rfl⟩
        rw [unhide HW]
        go_wp2_with fail
        go_ret
        exact ⟨ret_nat (unhide HE), below1 _ _⟩
      · have HW := hide hw
        by_cases hn6 : 60 ≤ n
        · have HE := hide (show 13 = R by rw [← unhide HR]; simp [fltN, flt, hn6, k0, k1, k3, h8, hw])
          clear HR HC hw k0 k1 k3
          go_enter Tryd.func20, Tryd.ntmps20
          go_wp2_with fail
          refine (word_any t _ ht).mono ?_
          rintro e w' ⟨rfl, rfl⟩
          rw [unhide HW]
          go_wp2_with fail
          go_ret
          exact ⟨ret_nat (unhide HE), below1 _ _⟩
        · have HE := hide (show 0 = R by rw [← unhide HR]; simp [fltN, flt, hn6, k0, k1, k3, h8, hw])
          clear HR HC hw k0 k1 k3
          go_enter Tryd.func20, Tryd.ntmps20
          go_wp2_with fail
          refine (word_any t _ ht).mono ?_
          rintro e w' ⟨rfl, rfl⟩
          rw [unhide HW]
          go_wp2_with fail
          go_ret
          exact ⟨ret_nat (unhide HE), below1 _ _⟩
    · have h8' : t.length ≤ 8 := by omega
      by_cases hn6 : 60 ≤ n
      · have HE := hide (show 13 = R by rw [← unhide HR]; simp [fltN, flt, hn6, k0, k1, k3, h8])
        clear HR HC k0 k1 k3 h8
        go_enter Tryd.func20, Tryd.ntmps20
        go_wp2_with fail
        go_ret
        exact ⟨ret_nat (unhide HE), below1 _ _⟩
      · have HE := hide (show 0 = R by rw [← unhide HR]; simp [fltN, flt, hn6, k0, k1, k3, h8])
        clear HR HC k0 k1 k3 h8
        go_enter Tryd.func20, Tryd.ntmps20
        go_wp2_with fail
        go_ret
        exact ⟨ret_nat (unhide HE), below1 _ _⟩
  have e1 : ((k : Int) == 1) = false := by simp; omega
  by_cases k3 : k = 3
  · have e3 : ((k : Int) == 3) = true := by simp; omega
    by_cases h16 : 16 < t.length
    · have HE := hide (show 13 = R by rw [← unhide HR]; simp [fltN, flt, k0, k1, k3, h16])
      clear HR k0 k1 k3
      go_enter Tryd.func20, Tryd.ntmps20
      go_wp2_with fail
      go_ret
      exact ⟨ret_nat (unhide HE), below1 _ _⟩
    · have h16' : t.length ≤ 16 := by omega
      by_cases hn6 : 60 ≤ n
      · have HE := hide (show 13 = R by rw [← unhide HR]; simp [fltN, flt, hn6, k0, k1, k3, h16])
        clear HR HC k0 k1 k3 h16
        go_enter Tryd.func20, Tryd.ntmps20
        go_wp2_with fail
        go_ret
        exact ⟨ret_nat (unhide HE), below1 _ _⟩
      · have HE := hide (show 0 = R by rw [← unhide HR]; simp [fltN, flt, hn6, k0, k1, k3, h16])
        clear HR HC k0 k1 k3 h16
        go_enter Tryd.func20, Tryd.ntmps20
        go_wp2_with fail
        go_ret
        exact ⟨ret_nat (unhide HE), below1 _ _⟩
  have e3 : ((k : Int) == 3) = false := by simp; omega
  by_cases hn6 : 60 ≤ n
  · have HE := hide (show 13 = R by rw [← unhide HR]; simp [fltN, flt, hn6, k0, k1, k3])
    clear HR HC k0 k1 k3
    go_enter Tryd.func20, Tryd.ntmps20
    go_wp2_with fail
    go_ret
    exact ⟨ret_nat (unhide HE), below1 _ _⟩
  · have HE := hide (show 0 = R by rw [← unhide HR]; simp [fltN, flt, hn6, k0, k1, k3])
    clear HR HC k0 k1 k3
    go_enter Tryd.func20, Tryd.ntmps20
    go_wp2_with fail
    go_ret
    exact ⟨ret_nat (unhide HE), below1 _ _⟩
end Go.Proofs.YtlcckhlkmnnjdaaDoor
