/- The walk of LexPlaces: each token stands where its first byte is. -/
import Derived.Test.YtlcckhlkmnnjdaaDoorLexTellsW
import Derived.Test.YtlcckhlkmnnjdaaDoorLMath2
namespace Go.Proofs.YtlcckhlkmnnjdaaDoor
open Go.RowKit
set_option linter.unusedVariables false

set_option maxHeartbeats 3200000 in
set_option maxRecDepth 10000 in
theorem lexPlaces_walk (s : ByteArray) (hs : s.size ≤ maxLen) (w : World) (sig : Sig w) :
    Calls Tryd.prog 5 #[.string s] w fun e w' => e = .returned (.bool true) ∧ Below w.heap.size w w' := by
  obtain ⟨l, rfl⟩ := bytes_of s
  have hs' : l.length ≤ maxLen := hs
  unfold maxLen at hs'
  have SG := hide sig
  clear hs sig
  by_cases h2 : 200 < l.length
  · go_enter Tryd.func5, Tryd.ntmps5
    go_wp2_with fail
    go_ret
    exact ⟨rfl, Below.refl _ _⟩
  have hl : l.length ≤ 200 := by omega
  clear hs' h2
  have h60 := lexT_len l
  have L1 := hide (fun w => lex_all l w (by omega))
  obtain ⟨p1, p2, p3⟩ := lexT_pl l hl
  have pn := lexT_none l
  generalize lexT l = R at *
  obtain ⟨ts, p, er⟩ := R
  dsimp only at h60 p1 p2 p3 pn
  by_cases he : er = 0
  · have hp := p2 he
    subst he hp
    have P1 := hide p1
    clear p1 p2 p3 pn
    go_enter Tryd.func5, Tryd.ntmps5
    go_wp2_with fail
    refine (unhide L1 _ (unhide SG)).mono ?_
    rintro e V ⟨⟨v, rfl, own⟩, b1⟩
    dsimp only at own
    by_cases h0 : ts.length = 0
    · obtain ⟨a, c, rfl⟩ := owns_form own
      rw [h0]
      clear own
      go_wp2_with fail
      go_loop [7] (fun i => i = .int .i64 0) (fun _ => 0)
      case atStart => rfl
      case round =>
        subst hrel
        go_wp2_with fail
        refine (lknown_any _ ((unhide SG).below b1)).mono ?_
        rintro e w7 ⟨rfl, b7⟩
        go_wp2_with fail
        go_ret
        exact ⟨rfl, bstep b1 b7⟩
    · obtain ⟨g, c, rfl, -, tt⟩ := own_at own (by omega)
      have TT := hide tt
      clear own tt
      go_wp2_with fail
      go_loopw [6, 7] (fun a i wr => ∃ (k n a0 : Nat), k ≤ ts.length ∧ a0 ≤ l.length ∧ i = .int .i64 k ∧ a = .int .i64 a0 ∧ wr = V.drewN n ∧ Hid (Pl l a0 (ts.drop k))) (fun _ i _ => ts.length - (intOf i).toNat)
      case atStart => exact ⟨0, 0, 0, by omega, by omega, rfl, rfl, rfl, P1⟩
      case round =>
        clear P1
        obtain ⟨k, n, a0, hk, ha, rfl, rfl, rfl, HP⟩ := hrel
        by_cases hlt : k < ts.length
        · obtain ⟨z, c0, c1, c2⟩ := unhide TT k hlt
          obtain ⟨q1, q2, q3, q4⟩ := Pl.at k hlt (unhide HP)
          have NX := hide q4
          clear q4 HP
          generalize ts[k] = t at *
          obtain ⟨K, tT, P⟩ := t
          dsimp only at c0 c1 c2 q1 q2 q3
          by_cases h3 : K = 3
          · have htp : tp (K, tT, P) = P + 1 := by unfold tp; simp [h3]
            rw [htp] at q2 q3 NX
            have e3 : ((K : Int) == 3) = true := by simp; omega
            have ex : (ByteArray.mk l.toArray).extract (P + 1) (P + 1 + tT.length) = ByteArray.mk tT.toArray := by rw [lext_eq, Nat.add_sub_cancel_left, q3]
            have d1 : decide ((P : Int) < (a0 : Int)) = false := decide_eq_false (by omega)
            have d2 : decide ((l.length : Int) < (P : Int) + 1 + tT.length) = false := decide_eq_false (by omega)
            have hw : IntKind.i64.wrap ((P : Int) + 1 + tT.length) = (P : Int) + 1 + tT.length := i64_in (by omega) (by omega)
            have s1 : (P : Int) + 1 + tT.length ≤ (l.length : Int) := by omega
            have s2 : 0 ≤ (P : Int) + 1 + (tT.length : Int) := by omega
            have s3 : (P : Int) + 1 ≤ (P : Int) + 1 + (tT.length : Int) := by omega
            have s4 : ((P : Int) + 1 + (tT.length : Int)).toNat = P + 1 + tT.length := by omega
            have s5 : ((P : Int) + 1).toNat = P + 1 := by omega
            have s6 : 0 ≤ (P : Int) + 1 := by omega
            clear htp h3 q3
            go_wp2_with fail
            go_quiet (fail)
            clear hw s1 s2 s3 s4 s5 s6 ex d1 d2
            go_wp2_with fail
            go_roundw
            case rel => exact ⟨k + 1, _, P + 1 + tT.length, by omega, by omega, by go_num, by go_num, (by first | rfl | exact World.drewN_drewN _ _ _), NX⟩
            case measure => simp [intOf]; omega
          · have htp : tp (K, tT, P) = P := by unfold tp; simp [h3]
            rw [htp] at q2 q3 NX
            have e3 : ((K : Int) == 3) = false := by simp; omega
            have ex : (ByteArray.mk l.toArray).extract P (P + tT.length) = ByteArray.mk tT.toArray := by rw [lext_eq, Nat.add_sub_cancel_left, q3]
            have d1 : decide ((P : Int) < (a0 : Int)) = false := decide_eq_false (by omega)
            have d2 : decide ((l.length : Int) < (P : Int) + tT.length) = false := decide_eq_false (by omega)
            have hw : IntKind.i64.wrap ((P : Int) + tT.length) = (P : Int) + tT.length := i64_in (by omega) (by omega)
            have s1 : (P : Int) + tT.length ≤ (l.length : Int) := by omega
            have s2 : 0 ≤ (P : Int) + (tT.length : Int) := by omega
            have s3 : (P : Int) ≤ (P : Int) + (tT.length : Int) := by omega
            have s4 : ((P : Int) + (tT.length : Int)).toNat = P + tT.length := by omega
            clear htp h3 q3
            go_wp2_with fail
            go_quiet (fail)
            clear hw s1 s2 s3 s4 ex d1 d2
            go_wp2_with fail
            go_roundw
            case rel => exact ⟨k + 1, _, P + tT.length, by omega, by omega, by go_num, by go_num, (by first | rfl | exact World.drewN_drewN _ _ _), NX⟩
            case measure => simp [intOf]; omega
        · have b2 := below_drewN b1 n
          generalize V.drewN n = V2 at *
          go_wp2_with fail
          refine (lknown_any _ ((unhide SG).below b2)).mono ?_
          rintro e w7 ⟨rfl, b7⟩
          go_wp2_with fail
          go_ret
          exact ⟨rfl, bstep b2 b7⟩
  · have hts := pn he
    subst hts
    have e0 : ((er : Int) != 0) = true := by simp; omega
    clear p1 p2 pn he
    go_enter Tryd.func5, Tryd.ntmps5
    go_wp2_with fail
    refine (unhide L1 _ (unhide SG)).mono ?_
    rintro e V ⟨⟨v, rfl, own⟩, b1⟩
    dsimp only at own
    obtain ⟨a, c, rfl⟩ := owns_form own
    clear own
    go_wp2_with fail
    refine (lknown_any _ ((unhide SG).below b1)).mono ?_
    rintro e w7 ⟨rfl, b7⟩
    go_wp2_with fail
    go_ret
    exact ⟨rfl, bstep b1 b7⟩
end Go.Proofs.YtlcckhlkmnnjdaaDoor
