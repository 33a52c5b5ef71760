/- The contract of the document's own Parse. -/
import Derived.Test.YtlcckhlkmnnjdabDoorPMath
import Derived.Test.YtlcckhlkmnnjdabDoorRef2
import Derived.Test.YtlcckhlkmnnjdabDoorKeep
namespace Go.Proofs.YtlcckhlkmnnjdabDoor
open Go.RowKit
set_option linter.unusedVariables false

theorem rdigs_run (l : List UInt8) (at0 : Nat) (w : World) (hl : l.length ≤ 1000) (ha : at0 ≤ l.length) :
    Calls Tryd.prog 16 #[.string ⟨l.toArray⟩, .int .i64 at0] w fun e w' => e = .returned (.int .i64 ((run isDig (l.drop at0) : Nat) : Int)) ∧ w' = w :=
  (rdigs_any l at0 w hl ha).mono fun e w' ⟨⟨k, h1, h2⟩, h3⟩ => ⟨by rw [h1, runs_eq h2], h3⟩

set_option maxHeartbeats 1600000 in
theorem rparse_nil (w : World) : Calls Tryd.prog 5 #[.string ⟨([] : List UInt8).toArray⟩] w fun e w' => e = .returned (.tuple #[.agg #[.int .i64 0, .int .i64 0], .int .i64 2]) ∧ Below w.heap.size w w' := by
  have D1 := hide (fun w => rdigs_run [] 0 w (by simp) (by simp))
  rw [show run isDig (([] : List UInt8).drop 0) = 0 from rfl] at D1
  go_enter Tryd.func5, Tryd.ntmps5
  go_wp2_with fail
  refine (unhide D1 _).mono ?_
  rintro e w1 ⟨rfl, rfl⟩
  go_wp2_with fail
  refine bodyPost_ret (v := .tuple #[.agg #[.int .i64 0, .int .i64 0], .int .i64 2]) (by simp [results, Tryd.results5, go_sem]) rfl ⟨rfl, ?_⟩
  exact below1 _ _

set_option maxHeartbeats 3200000 in
theorem rparse_bad_neg (l : List UInt8) (w : World) (hl : l.length ≤ 1000) (h0 : 0 < l.length) (h45 : l[0].toNat = 45) (hb : Bad (l.drop 1)) :
    Calls Tryd.prog 5 #[.string ⟨l.toArray⟩] w fun e w' => e = .returned (.tuple #[.agg #[.int .i64 0, .int .i64 0], .int .i64 2]) ∧ Below w.heap.size w w' := by
  have hg0 : (⟨l.toArray⟩ : ByteArray)[0]'(by simpa [ByteArray.size] using h0) = l[0] := rfl
  have e45 : ((l[0].toNat : Int) == 45) = true := by simp; omega
  have D1 := hide (fun w => rdigs_run l 1 w hl (by omega))
  have D2 := hide (fun (j : Nat) w (h : j ≤ l.length) => rdigs_run l j w hl h)
  have hle := run_le isDig (l.drop 1)
  rw [List.length_drop] at hle
  unfold Bad at hb
  simp only [List.getElem_drop, List.drop_drop, List.length_drop] at hb
  generalize run isDig (l.drop 1) = A at *
  clear h45
  by_cases hA : A = 0
  · subst hA
    go_enter Tryd.func5, Tryd.ntmps5
    go_wp2_with fail
    refine (unhide D1 _).mono ?_
    rintro e w1 ⟨rfl, rfl⟩
    go_wp2_with fail
    refine bodyPost_ret (v := .tuple #[.agg #[.int .i64 0, .int .i64 0], .int .i64 2]) (by simp [results, Tryd.results5, go_sem]) rfl ⟨rfl, ?_⟩
    exact below1 _ _
  have hA0 : (0 : Int) < (A : Int) := by omega
  have eA : ((A : Int) == 0) = false := by simp; omega
  rcases hb with hb | ⟨hlt, h46⟩ | ⟨hlt, -, h46, hb⟩
  · exact absurd hb hA
  · have hlt' : 1 + A < l.length := by omega
    have hgA : (⟨l.toArray⟩ : ByteArray)[1 + A]'(by simpa [ByteArray.size] using hlt') = l[1 + A] := rfl
    have e46 : ((l[1 + A].toNat : Int) == 46) = false := by
      have : l[1 + A].toNat ≠ 46 := by simpa using h46
      simp; omega
    have ene : ((1 : Int) + A != (l.length : Int)) = true := by simp; omega
    clear h46 hlt
    go_enter Tryd.func5, Tryd.ntmps5
    go_wp2_with fail
    refine (unhide D1 _).mono ?_
    rintro e w1 ⟨rfl, rfl⟩
    go_wp2_with fail
    refine bodyPost_ret (v := .tuple #[.agg #[.int .i64 0, .int .i64 0], .int .i64 2]) (by simp [results, Tryd.results5, go_sem]) rfl ⟨rfl, ?_⟩
    exact below1 _ _
  · have hlt' : 1 + A < l.length := by omega
    have hgA : (⟨l.toArray⟩ : ByteArray)[1 + A]'(by simpa [ByteArray.size] using hlt') = l[1 + A] := rfl
    have e46 : ((l[1 + A].toNat : Int) == 46) = true := by
      have : l[1 + A].toNat = 46 := by simpa using h46
      simp; omega
    have D2' := hide (fun w => unhide D2 (1 + A + 1) w (by omega))
    rw [show ((1 + A + 1 : Nat) : Int) = (1 : Int) + A + 1 by omega] at D2'
    have hle2 := run_le isDig (l.drop (1 + A + 1))
    rw [List.length_drop] at hle2
    have hb' : run isDig (l.drop (1 + A + 1)) = 0 ∨ 1 + A + 1 + run isDig (l.drop (1 + A + 1)) < l.length := by
      rcases hb with hb | hb
      · exact Or.inl (by simpa [Nat.add_assoc] using hb)
      · refine Or.inr ?_
        have e : 1 + (A + 1) = 1 + A + 1 := by omega
        rw [e] at hb
        omega
    clear D2 hb h46 hlt
    have D2 := D2'
    clear D2'
    generalize run isDig (l.drop (1 + A + 1)) = B at *
    by_cases hend : 1 + A + 1 + B = l.length
    · have hB : B = 0 := by omega
      subst hB
      have ene : ((1 : Int) + A + 1 != (l.length : Int)) = false := by simp; omega
      clear hb'
      go_enter Tryd.func5, Tryd.ntmps5
      go_wp2_with fail
      refine (unhide D1 _).mono ?_
      rintro e w1 ⟨rfl, rfl⟩
      go_wp2_with fail
      refine (unhide D2 _).mono ?_
      rintro e w1 ⟨rfl, rfl⟩
      go_wp2_with fail
      refine bodyPost_ret (v := .tuple #[.agg #[.int .i64 0, .int .i64 0], .int .i64 2]) (by simp [results, Tryd.results5, go_sem]) rfl ⟨rfl, ?_⟩
      exact below1 _ _
    · have ene : ((1 : Int) + A + 1 + B != (l.length : Int)) = true := by simp; omega
      clear hb'
      go_enter Tryd.func5, Tryd.ntmps5
      go_wp2_with fail
      refine (unhide D1 _).mono ?_
      rintro e w1 ⟨rfl, rfl⟩
      go_wp2_with fail
      refine (unhide D2 _).mono ?_
      rintro e w1 ⟨rfl, rfl⟩
      go_wp2_with fail
      refine bodyPost_ret (v := .tuple #[.agg #[.int .i64 0, .int .i64 0], .int .i64 2]) (by simp [results, Tryd.results5, go_sem]) rfl ⟨rfl, ?_⟩
      exact below1 _ _

set_option maxHeartbeats 3200000 in
theorem rparse_bad_pos (l : List UInt8) (w : World) (hl : l.length ≤ 1000) (h0 : 0 < l.length) (h45 : l[0].toNat ≠ 45) (hb : Bad (l.drop 0)) :
    Calls Tryd.prog 5 #[.string ⟨l.toArray⟩] w fun e w' => e = .returned (.tuple #[.agg #[.int .i64 0, .int .i64 0], .int .i64 2]) ∧ Below w.heap.size w w' := by
  have hg0 : (⟨l.toArray⟩ : ByteArray)[0]'(by simpa [ByteArray.size] using h0) = l[0] := rfl
  have e45 : ((l[0].toNat : Int) == 45) = false := by simp; omega
  have D1 := hide (fun w => rdigs_run l 0 w hl (by omega))
  have D2 := hide (fun (j : Nat) w (h : j ≤ l.length) => rdigs_run l j w hl h)
  have hle := run_le isDig (l.drop 0)
  rw [List.length_drop] at hle
  unfold Bad at hb
  simp only [List.getElem_drop, List.drop_drop, List.length_drop] at hb
  generalize run isDig (l.drop 0) = A at *
  clear h45
  by_cases hA : A = 0
  · subst hA
    go_enter Tryd.func5, Tryd.ntmps5
    go_wp2_with fail
    refine (unhide D1 _).mono ?_
    rintro e w1 ⟨rfl, rfl⟩
    go_wp2_with fail
    refine bodyPost_ret (v := .tuple #[.agg #[.int .i64 0, .int .i64 0], .int .i64 2]) (by simp [results, Tryd.results5, go_sem]) rfl ⟨rfl, ?_⟩
    exact below1 _ _
  have hA0 : (0 : Int) < (A : Int) := by omega
  have eA : ((A : Int) == 0) = false := by simp; omega
  rcases hb with hb | ⟨hlt, h46⟩ | ⟨hlt, -, h46, hb⟩
  · exact absurd hb hA
  · have hlt' : A < l.length := by omega
    have hgA : (⟨l.toArray⟩ : ByteArray)[A]'(by simpa [ByteArray.size] using hlt') = l[A] := rfl
    have e46 : ((l[A].toNat : Int) == 46) = false := by
      have : l[A].toNat ≠ 46 := by simpa using h46
      simp; omega
    have ene : ((A : Int) != (l.length : Int)) = true := by simp; omega
    clear h46 hlt
    go_enter Tryd.func5, Tryd.ntmps5
    go_wp2_with fail
    refine (unhide D1 _).mono ?_
    rintro e w1 ⟨rfl, rfl⟩
    go_wp2_with fail
    refine bodyPost_ret (v := .tuple #[.agg #[.int .i64 0, .int .i64 0], .int .i64 2]) (by simp [results, Tryd.results5, go_sem]) rfl ⟨rfl, ?_⟩
    exact below1 _ _
  · have hlt' : A < l.length := by omega
    have hgA : (⟨l.toArray⟩ : ByteArray)[A]'(by simpa [ByteArray.size] using hlt') = l[A] := rfl
    have e46 : ((l[A].toNat : Int) == 46) = true := by
      have : l[A].toNat = 46 := by simpa using h46
      simp; omega
    have D2' := hide (fun w => unhide D2 (A + 1) w (by omega))
    rw [show ((A + 1 : Nat) : Int) = (A : Int) + 1 by omega] at D2'
    have hle2 := run_le isDig (l.drop (A + 1))
    rw [List.length_drop] at hle2
    have hb' : run isDig (l.drop (A + 1)) = 0 ∨ A + 1 + run isDig (l.drop (A + 1)) < l.length := by
      rcases hb with hb | hb
      · exact Or.inl (by simpa [Nat.add_assoc] using hb)
      · refine Or.inr ?_
        have e : 0 + (A + 1) = A + 1 := by omega
        rw [e] at hb
        omega
    clear D2 hb h46 hlt
    have D2 := D2'
    clear D2'
    generalize run isDig (l.drop (A + 1)) = B at *
    by_cases hend : A + 1 + B = l.length
    · have hB : B = 0 := by omega
      subst hB
      have ene : ((A : Int) + 1 != (l.length : Int)) = false := by simp; omega
      clear hb'
      go_enter Tryd.func5, Tryd.ntmps5
      go_wp2_with fail
      refine (unhide D1 _).mono ?_
      rintro e w1 ⟨rfl, rfl⟩
      go_wp2_with fail
      refine (unhide D2 _).mono ?_
      rintro e w1 ⟨rfl, rfl⟩
      go_wp2_with fail
      refine bodyPost_ret (v := .tuple #[.agg #[.int .i64 0, .int .i64 0], .int .i64 2]) (by simp [results, Tryd.results5, go_sem]) rfl ⟨rfl, ?_⟩
      exact below1 _ _
    · have ene : ((A : Int) + 1 + B != (l.length : Int)) = true := by simp; omega
      clear hb'
      go_enter Tryd.func5, Tryd.ntmps5
      go_wp2_with fail
      refine (unhide D1 _).mono ?_
      rintro e w1 ⟨rfl, rfl⟩
      go_wp2_with fail
      refine (unhide D2 _).mono ?_
      rintro e w1 ⟨rfl, rfl⟩
      go_wp2_with fail
      refine bodyPost_ret (v := .tuple #[.agg #[.int .i64 0, .int .i64 0], .int .i64 2]) (by simp [results, Tryd.results5, go_sem]) rfl ⟨rfl, ?_⟩
      exact below1 _ _

end Go.Proofs.YtlcckhlkmnnjdabDoor
