/- The walk of LexTells: both ways of lexing tell the same. -/
import Derived.Test.YtlcckhlkmnnjdaaDoorLKnown
import Derived.Test.YtlcckhlkmnnjdaaDoorRLLex
namespace Go.Proofs.YtlcckhlkmnnjdaaDoor
open Go.RowKit
set_option linter.unusedVariables false

theorem lexS_len (r : List UInt8) : ∀ k pos n, n ≤ 60 → (lexS r k pos n).1.length + n ≤ 60 := by
  induction r with
  | nil => intro k pos n h; simp only [lexS, List.length_nil]; omega
  | cons c r ih =>
    intro k pos n h
    cases k with
    | succ k => rw [lexS]; exact ih k _ _ h
    | zero =>
      rw [lexS]
      split
      · exact ih 0 _ _ h
      · split
        · have hn := tokE_n (by assumption : tokE (c :: r) n = 0)
          have h1 := ih (tokN (c :: r) - 1) (pos + 1) (n + 1) (by omega)
          unfold consR
          split
          · simp only [List.length_cons]; omega
          · simp only [List.length_nil]; omega
        · simp only [List.length_nil]; omega
theorem lexT_len (l : List UInt8) : (lexT l).1.length ≤ 60 := by
  unfold lexT
  split
  · exact Nat.zero_le _
  · have := lexS_len l 0 0 0 (by omega); omega
theorem bytes_of (s : ByteArray) : ∃ l : List UInt8, s = ⟨l.toArray⟩ := ⟨s.data.toList, by simp⟩
theorem lex_all (l : List UInt8) (w : World) (hl : l.length ≤ 1000) (sig : Sig w) :
    Calls Tryd.prog 9 #[.string ⟨l.toArray⟩] w fun e w' => LexRes w.heap.size (lexT l) e w' ∧ Below w.heap.size w w' := by
  by_cases h : 200 < l.length
  · exact (lex_long l w hl h).mono fun e w' ⟨h1, h2⟩ => ⟨h1, h2 ▸ Below.refl _ _⟩
  · exact lex_any l w (by omega) sig
theorem rlex_all (l : List UInt8) (w : World) (hl : l.length ≤ 1000) :
    Calls Tryd.prog 10 #[.string ⟨l.toArray⟩] w fun e w' => LexRes w.heap.size (lexT l) e w' ∧ Below w.heap.size w w' := by
  by_cases h : 200 < l.length
  · exact (rlex_long l w hl h).mono fun e w' ⟨h1, h2⟩ => ⟨h1, h2 ▸ Below.refl _ _⟩
  · exact rlex_any l w (by omega)

set_option maxHeartbeats 3200000 in
theorem lexTells_walk (s t : ByteArray) (hs : s.size ≤ maxLen) (ht : t.size ≤ maxLen) (w : World) (sig : Sig w) :
    Calls Tryd.prog 3 #[.string s, .string t] w fun e w' => e = .returned (.bool true) ∧ Below w.heap.size w w' := by
  obtain ⟨l, rfl⟩ := bytes_of s
  obtain ⟨u, rfl⟩ := bytes_of t
  have hs' : l.length ≤ maxLen := hs
  have ht' : u.length ≤ maxLen := ht
  unfold maxLen at hs' ht'
  have SG := hide sig
  clear hs ht sig
  by_cases h4 : 400 < l.length
  · go_enter Tryd.func3, Tryd.ntmps3
    go_wp2_with fail
    go_ret
    exact ⟨rfl, Below.refl _ _⟩
  by_cases h5 : 50 < u.length
  · go_enter Tryd.func3, Tryd.ntmps3
    go_wp2_with fail
    go_ret
    exact ⟨rfl, Below.refl _ _⟩
  have h60 := lexT_len l
  have L1 := hide (fun w => lex_all l w (by omega))
  have L2 := hide (fun w => rlex_all l w (by omega))
  have W1 := hide (fun w => word_any u w (by omega))
  have W2 := hide (fun w => rword_any u w (by omega))
  generalize lexT l = R at *
  generalize wordB u = B at *
  obtain ⟨ts, p, er⟩ := R
  dsimp only at h60
  go_enter Tryd.func3, Tryd.ntmps3
  go_wp2_with fail
  refine (unhide L1 _ (unhide SG)).mono ?_
  rintro e w1 ⟨⟨v1, rfl, own1⟩, b1⟩
  have OWN1 := hide own1
  clear own1
  go_wp2_with fail
  refine (unhide L2 _).mono ?_
  rintro e w2 ⟨⟨v2, rfl, own2⟩, b2⟩
  have OWN1' := hide (owns_below (unhide OWN1) b2)
  have OWN2 := hide own2
  have b12 := bstep b1 b2
  clear own2 OWN1 b1 b2
  go_wp2_with fail
  refine (lsame_any ts v1 v2 _ _ _ (by omega) (unhide OWN1') (unhide OWN2)).mono ?_
  rintro e w3 ⟨rfl, n, rfl⟩
  have b3 := below_drewN b12 n
  clear OWN1' OWN2 b12
  generalize w2.drewN n = V at *
  go_wp2_with fail
  refine (unhide W1 _).mono ?_
  rintro e w4 ⟨rfl, rfl⟩
  go_wp2_with fail
  refine (unhide W2 _).mono ?_
  rintro e w5 ⟨rfl, b5⟩
  have b6 := bstep b3 b5
  go_wp2_with fail
  refine (lknown_any _ ((unhide SG).below b6)).mono ?_
  rintro e w7 ⟨rfl, b7⟩
  go_wp2_with fail
  go_ret
  exact ⟨rfl, bstep b6 b7⟩
end Go.Proofs.YtlcckhlkmnnjdaaDoor
