/- The walk of LexBlanks: tokens with more blanks between are the same ones, elsewhere. -/
import Derived.Test.YtlcckhlkmnnjdaaDoorLexSignsW
import Derived.Test.YtlcckhlkmnnjdaaDoorLBlankM
namespace Go.Proofs.YtlcckhlkmnnjdaaDoor
open Go.RowKit
set_option linter.unusedVariables false

theorem Tok3.below {w w' : World} {g o : Nat} {t : Tk} (h : Tok3 w g o t) (k : Below w.heap.size w w') : Tok3 w' g o t :=
  ⟨Nat.lt_of_lt_of_le h.1 k.size, kcell k h.1 h.2.1, kcell k h.1 h.2.2.1, kcell k h.1 h.2.2.2⟩

set_option maxHeartbeats 1600000 in
theorem blanks_err (l : List UInt8) (n : Int) (w : World) (hl : l.length ≤ 60) (n1 : 1 ≤ n) (n3 : n ≤ 3) (sig : Sig w) (he : (lexT l).2.2 ≠ 0) :
    Calls Tryd.prog 4 #[.string ⟨l.toArray⟩, .int .i64 n] w fun e w' => e = .returned (.bool true) ∧ Below w.heap.size w w' := by
  have SG := hide sig
  have L1 := hide (fun w => rlex_all l w (by omega))
  generalize lexT l = R at *
  obtain ⟨ts, p, er⟩ := R
  dsimp only at he
  have e0 : ((er : Int) != 0) = true := by simp; omega
  clear sig he
  go_enter Tryd.func4, Tryd.ntmps4
  go_wp2_with fail
  refine (unhide L1 _).mono ?_
  rintro e V ⟨⟨v, rfl, own⟩, b1⟩
  clear own
  dsimp only
  go_wp2_with fail
  refine (lknown_any _ ((unhide SG).below b1)).mono ?_
  rintro e w7 ⟨rfl, b7⟩
  go_wp2_with fail
  go_ret
  exact ⟨rfl, bstep b1 b7⟩

set_option maxHeartbeats 3200000 in
set_option maxRecDepth 10000 in
theorem blanks_ok (l : List UInt8) (n : Nat) (w : World) (hl : l.length ≤ 60) (n1 : 1 ≤ n) (n3 : n ≤ 3) (sig : Sig w) (he : (lexT l).2.2 = 0) :
    Calls Tryd.prog 4 #[.string ⟨l.toArray⟩, .int .i64 n] w fun e w' => e = .returned (.bool true) ∧ Below w.heap.size w w' := by
  have SG := hide sig
  have L1 := hide (fun w => rlex_all l w (by omega))
  have hg := lexT_good l
  have h60 := lexT_len l
  have hpl := (lexT_pl l (by omega)).1
  generalize lexT l = R at *
  obtain ⟨ts, p, er⟩ := R
  dsimp only at he hg h60 hpl
  subst he
  have htl : ∀ t ∈ ts, t.2.1.length ≤ 60 := fun t ht => Nat.le_trans (pl_len ts 0 hpl t ht) hl
  have OL : Hid (∀ k, (outL n (ts.take k)).length ≤ 3900) := by
    intro k
    have := outL_len n n3 (ts.take k) (fun t ht => htl t (List.mem_of_mem_take ht))
    have h2 := List.length_take_le k ts
    have h3 : (ts.take k).length ≤ 60 := by rw [List.length_take]; omega
    omega
  have OS := hide (outL_take n ts)
  have O0 : Hid (outL n (ts.take 0) = []) := by simp [Hid, outL]
  have OE : Hid (outL n (ts.take ts.length) = outL n ts) := by rw [List.take_length]; rfl
  have LO := hide (lexT_out n n1 ts hg h60)
  have TL := hide htl
  have L2 := hide (fun w (h : (outL n ts).length ≤ 200) => lex_all (outL n ts) w (by omega))
  have HLO := hide (unhide OL ts.length)
  rw [unhide OE] at HLO
  have RA := hide (fun (X : List UInt8) (j : Nat) => (lba_app (X ++ repL 32 j) [32]).trans (by rw [List.append_assoc, repL_snoc]))
  clear sig hg hpl htl
  go_enter Tryd.func4, Tryd.ntmps4
  go_wp2_with fail
  refine (unhide L1 _).mono ?_
  rintro e V ⟨⟨v, rfl, own⟩, b1⟩
  dsimp only at own ⊢
  have OWN := hide own
  obtain ⟨a, cap, rfl⟩ := owns_form own
  have TT : Hid (∀ i (hi : i < ts.length), ∃ g, a = some ⟨g, 0, none⟩ ∧ Tok3 V g (i * 3) ts[i]) := by
    intro i hi
    obtain ⟨g, c', ev, -, tt⟩ := own_at own (by omega)
    simp only [Value.slice.injEq, true_and] at ev
    exact ⟨g, ev.1, tt i hi⟩
  clear own
  go_wp2_with fail
  go_loop [8, 9] (fun s i => ∃ k : Nat, k ≤ ts.length ∧ i = .int .i64 k ∧ s = .string ⟨(outL n (ts.take k)).toArray⟩) (fun _ i => ts.length - (intOf i).toNat)
  case atStart => exact ⟨0, by omega, rfl, by rw [unhide O0]⟩
  case round =>
    clear O0
    obtain ⟨k, hk, rfl, rfl⟩ := hrel
    by_cases hlt : k < ts.length
    · have os := unhide OS k hlt
      have ol := unhide OL k
      have ol1 := unhide OL (k + 1)
      obtain ⟨g, rfl, z, c0, c1, c2⟩ := unhide TT k hlt
      have tl := unhide TL _ (List.getElem_mem hlt)
      have NXT := hide os
      clear os
      generalize outL n (ts.take k) = X at *
      generalize hYe : outL n (ts.take (k + 1)) = Y at *
      have HYE := hide hYe
      clear hYe
      generalize ts[k] = t at *
      obtain ⟨K, tT, P⟩ := t
      dsimp only at c0 c1 c2 tl
      go_wp2_with fail
      go_loop [8, 10] (fun s i => ∃ j : Nat, j ≤ n ∧ i = .int .i64 j ∧ s = .string ⟨(X ++ repL 32 j).toArray⟩) (fun _ i => n - (intOf i).toNat)
      case atStart => exact ⟨0, by omega, rfl, by simp [repL]⟩
      case round =>
        obtain ⟨j, hj, rfl, rfl⟩ := hrel
        have xl : (X ++ repL 32 j).length = X.length + j := by rw [List.length_append, repL_len]
        by_cases hjt : j < n
        · have ra := unhide RA X j
          generalize X ++ repL 32 j = Z at *
          go_wp2_with fail
          go_round
          case rel => exact ⟨j + 1, by omega, by go_num, rfl⟩
          case measure => simp [intOf]; omega
        have hjn : j = n := by omega
        subst hjn
        by_cases h3 : K = 3
        · have e3 : ((K : Int) == 3) = true := by simp; omega
          have hrd : rd (K, tT, P) = 34 :: (tT ++ [34]) := by unfold rd; rw [if_pos h3]
          have HY := hide (show X ++ repL 32 j ++ [34] ++ tT ++ [34] = Y by rw [unhide NXT, hrd]; simp)
          generalize X ++ repL 32 j = Z at *
          have q1 := lba_app Z [34]
          have q2 := lba_app (Z ++ [34]) tT
          have q3 := (lba_app (Z ++ [34] ++ tT) [34]).trans (by rw [unhide HY])
          have l1 : (Z ++ [34]).length = Z.length + 1 := by simp
          have l2 : (Z ++ [34] ++ tT).length = Z.length + 1 + tT.length := by simp; omega
          generalize Z ++ [34] ++ tT = Z2 at *
          generalize Z ++ [34] = Z1 at *
          clear h3 hrd HY
          go_wp2_with fail
          go_round
          case rel => exact ⟨k + 1, by omega, by go_num, by rw [unhide HYE]⟩
          case measure => simp [intOf]; omega
        · have e3 : ((K : Int) == 3) = false := by simp; omega
          have hrd : rd (K, tT, P) = tT := by unfold rd; rw [if_neg h3]
          have HY := hide (show X ++ repL 32 j ++ tT = Y by rw [unhide NXT, hrd])
          generalize X ++ repL 32 j = Z at *
          have q1 := (lba_app Z tT).trans (by rw [unhide HY])
          clear h3 hrd HY
          go_wp2_with fail
          go_round
          case rel => exact ⟨k + 1, by omega, by go_num, by rw [unhide HYE]⟩
          case measure => simp [intOf]; omega
    have hkn : k = ts.length := by omega
    subst hkn
    rw [unhide OE]
    have hlo := unhide HLO
    clear OS OL RA L1 TL
    by_cases h2 : (outL n ts).length ≤ 200
    · obtain ⟨o1, o2, o3⟩ := unhide LO h2
      have L2' := hide (fun w => unhide L2 w h2)
      clear L2 LO HLO OE
      generalize lexT (outL n ts) = R2 at *
      obtain ⟨ts2, p2, er2⟩ := R2
      dsimp only at o1 o2 o3
      subst o1
      have O3 := hide o3
      clear o3
      generalize outL n ts = Z at *
      go_wp2_with fail
      refine (unhide L2' _ ((unhide SG).below b1)).mono ?_
      rintro e V2 ⟨⟨v2, rfl, own2⟩, b2⟩
      dsimp only at own2 ⊢
      obtain ⟨a2, cap2, rfl⟩ := owns_form own2
      have TT2 : Hid (∀ i (hi : i < ts2.length), ∃ g, a2 = some ⟨g, 0, none⟩ ∧ Tok3 V2 g (i * 3) ts2[i]) := by
        intro i hi
        obtain ⟨g, c', ev, -, tt⟩ := own_at own2 (by omega)
        simp only [Value.slice.injEq, true_and] at ev
        exact ⟨g, ev.1, tt i hi⟩
      have TT1 : Hid (∀ i (hi : i < ts.length), ∃ g, a = some ⟨g, 0, none⟩ ∧ Tok3 V2 g (i * 3) ts[i]) := by
        intro i hi
        obtain ⟨g, e, t3⟩ := unhide TT i hi
        exact ⟨g, e, t3.below b2⟩
      have b12 := bstep b1 b2
      clear own2 TT OWN b1 b2 L2'
      have e2 : ((ts.length : Int) != (ts2.length : Int)) = false := by simp; omega
      go_wp2_with fail
      clear e2
      go_loopw [14] (fun i wr => ∃ (k m : Nat), k ≤ ts.length ∧ i = .int .i64 k ∧ wr = V2.drewN m) (fun i _ => ts.length - (intOf i).toNat)
      case atStart => exact ⟨0, 0, by omega, rfl, rfl⟩
      case round =>
        obtain ⟨k, m, hk2, rfl, rfl⟩ := hrel
        by_cases hlt2 : k < ts.length
        · obtain ⟨g1, rfl, z1, c0, c1, c2⟩ := unhide TT1 k hlt2
          obtain ⟨g2, rfl, z2, d0, d1, d2⟩ := unhide TT2 k (by omega)
          obtain ⟨k1, k2⟩ := unhide O3 k hlt2 (by omega)
          rw [k1] at d0
          rw [k2] at d1
          have lt2 : (k : Int) < (ts2.length : Int) := by omega
          clear k1 k2 c2 d2
          generalize ts[k] = t at *
          obtain ⟨K, tT, P⟩ := t
          dsimp only at c0 c1 d0 d1
          have ek : ((K : Int) != (K : Int)) = false := by simp
          go_wp2_with fail
          go_quiet (fail)
          go_wp2_with fail
          go_roundw
          case rel => exact ⟨k + 1, _, by omega, by go_num, (by first | rfl | exact World.drewN_drewN _ _ _)⟩
          case measure => simp [intOf]; omega
        · have b3 := below_drewN b12 m
          generalize V2.drewN m = V3 at *
          go_wp2_with fail
          refine (lknown_any _ ((unhide SG).below b3)).mono ?_
          rintro e w7 ⟨rfl, b7⟩
          go_wp2_with fail
          go_ret
          exact ⟨rfl, bstep b3 b7⟩
    · have h2' : 200 < (outL n ts).length := by omega
      clear L2 LO h2 HLO OE
      generalize outL n ts = Z at *
      go_wp2_with fail
      refine (lknown_any _ ((unhide SG).below b1)).mono ?_
      rintro e w7 ⟨rfl, b7⟩
      go_wp2_with fail
      go_ret
      exact ⟨rfl, bstep b1 b7⟩

set_option maxHeartbeats 1600000 in
theorem lexBlanks_walk (s : ByteArray) (n : Int) (hs : s.size ≤ maxLen) (_ : (Lit.int .i64 n).wf = true) (w : World) (sig : Sig w) :
    Calls Tryd.prog 4 #[.string s, .int .i64 n] w fun e w' => e = .returned (.bool true) ∧ Below w.heap.size w w' := by
  obtain ⟨l, rfl⟩ := bytes_of s
  have hs' : l.length ≤ maxLen := hs
  unfold maxLen at hs'
  clear hs
  by_cases h6 : 60 < l.length
  · clear sig
    go_enter Tryd.func4, Tryd.ntmps4
    go_wp2_with fail
    go_ret
    exact ⟨rfl, Below.refl _ _⟩
  by_cases h1 : n < 1
  · clear sig
    go_enter Tryd.func4, Tryd.ntmps4
    go_wp2_with fail
    go_ret
    exact ⟨rfl, Below.refl _ _⟩
  by_cases h3 : 3 < n
  · clear sig
    go_enter Tryd.func4, Tryd.ntmps4
    go_wp2_with fail
    go_ret
    exact ⟨rfl, Below.refl _ _⟩
  by_cases he : (lexT l).2.2 = 0
  · obtain ⟨m, rfl⟩ : ∃ m : Nat, n = m := ⟨n.toNat, by omega⟩
    exact blanks_ok l m w (by omega) (by omega) (by omega) sig he
  · exact blanks_err l n w (by omega) (by omega) (by omega) sig he
end Go.Proofs.YtlcckhlkmnnjdaaDoor
