/- Texts of one byte over and over: what they are. -/
import Derived.Test.YtlcckhlkmnnjdaaDoorLMath
namespace Go.Proofs.YtlcckhlkmnnjdaaDoor

def repL (c : UInt8) (n : Nat) : List UInt8 := List.replicate n c
theorem repL_len (c : UInt8) (n : Nat) : (repL c n).length = n := by simp [repL]
theorem repL_snoc (c : UInt8) (n : Nat) : repL c n ++ [c] = repL c (n + 1) := by
  unfold repL; rw [List.replicate_succ']
def quL (n : Nat) : List UInt8 := 34 :: (repL 97 n ++ [34])
theorem quL_len (n : Nat) : (quL n).length = n + 2 := by simp [quL, repL_len]

def okBd (l : List UInt8) (n most : Nat) : Bool :=
  (decide ((lexT l).2.2 = 0) && decide (n ≤ most) && decide (l.length ≤ 200)) || (decide ((lexT l).2.2 = 13) && !(decide (n ≤ most) && decide (l.length ≤ 200)))
set_option maxRecDepth 100000 in
theorem bd0 : ((List.range 251).all fun n => okBd (repL 97 n) n 8) = true := by decide +kernel
set_option maxRecDepth 100000 in
theorem bd1 : ((List.range 251).all fun n => okBd (quL n) n 16) = true := by decide +kernel
set_option maxRecDepth 100000 in
theorem bd2 : ((List.range 251).all fun n => okBd (repL 43 n) n 60) = true := by decide +kernel
set_option maxRecDepth 100000 in
theorem bd3 : ((List.range 251).all fun n => okBd (repL 32 n) n 200) = true := by decide +kernel
theorem bd_parts {l : List UInt8} {n most : Nat} (h : okBd l n most = true) : ((lexT l).2.2 = 0 ∧ n ≤ most ∧ l.length ≤ 200) ∨ ((lexT l).2.2 = 13 ∧ (n ≤ most → 200 < l.length)) := by
  unfold okBd at h
  simp only [Bool.or_eq_true, Bool.and_eq_true, Bool.not_eq_true', Bool.and_eq_false_iff, decide_eq_true_eq, decide_eq_false_iff_not] at h
  rcases h with ⟨⟨a, b⟩, c⟩ | ⟨a, b⟩
  · exact Or.inl ⟨a, b, c⟩
  · refine Or.inr ⟨a, fun h => ?_⟩
    rcases b with b | b
    · exact absurd h b
    · omega
theorem bd_get {f : Nat → Bool} (h : ((List.range 251).all f) = true) {n : Nat} (hn : n ≤ 250) : f n = true := List.all_eq_true.1 h n (List.mem_range.2 (by omega))
end Go.Proofs.YtlcckhlkmnnjdaaDoor
