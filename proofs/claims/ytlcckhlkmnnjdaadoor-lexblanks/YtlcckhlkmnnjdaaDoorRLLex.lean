/- The contract of the document's Lex: the same tokens, in new memory. -/
import Derived.Test.YtlcckhlkmnnjdaaDoorRLSign
namespace Go.Proofs.YtlcckhlkmnnjdaaDoor
open Go.RowKit
set_option linter.unusedVariables false

set_option maxHeartbeats 3200000 in
theorem rlex_long (l : List UInt8) (w : World) (hl : l.length ≤ 1000) (h2 : 200 < l.length) :
    Calls Tryd.prog 10 #[.string ⟨l.toArray⟩] w fun e w' => LexRes w.heap.size (lexT l) e w' ∧ w' = w := by
  have HR := hide (show lexT l = ([], 0, 13) by unfold lexT; rw [if_pos h2])
  generalize lexT l = R at *
  go_enter Tryd.func10, Tryd.ntmps10
  go_wp2_with fail
  go_ret3
  rw [unhide HR]
  exact ⟨⟨_, rfl, World.ownsRow_nil _ _ _ _⟩, rfl⟩

theorem tokE_flt {r : List UInt8} {n : Nat} : tokE r n = (if flt (tokK r) (tokT r) = 0 ∧ 60 ≤ n then 13 else flt (tokK r) (tokT r)) := rfl
theorem nxtAt_ok {l : List UInt8} {k : Nat} (h : flt (tokK (l.drop k)) (tokT (l.drop k)) = 0) : nxtAt l k = .tuple #[.agg #[.int .i64 ((tokK (l.drop k) : Nat) : Int), .string ⟨(tokT (l.drop k)).toArray⟩, .int .i64 (k : Int)], .int .i64 ((k + tokN (l.drop k) : Nat) : Int), .int .i64 0] := nxt_ok h rfl
theorem nxtAt_err {l : List UInt8} {k : Nat} (h : flt (tokK (l.drop k)) (tokT (l.drop k)) ≠ 0) : nxtAt l k = .tuple #[.agg #[.int .i64 0, .string ⟨#[]⟩, .int .i64 0], .int .i64 (k : Int), .int .i64 ((flt (tokK (l.drop k)) (tokT (l.drop k)) : Nat) : Int)] := nxt_err h

set_option maxHeartbeats 3200000 in
theorem rlex_any (l : List UInt8) (w : World) (h2 : l.length ≤ 200) :
    Calls Tryd.prog 10 #[.string ⟨l.toArray⟩] w fun e w' => LexRes w.heap.size (lexT l) e w' ∧ Below w.heap.size w w' := by
  have hl : l.length ≤ 1000 := by omega
  have HR0 := hide (lexT_glue h2).symm
  generalize lexT l = R at *
  generalize hB : w.heap.size = B at *
  have HB := hide hB
  clear hB
  go_enter Tryd.func10, Tryd.ntmps10
  go_wp2_with fail
  go_loopw [5, 6] (fun v i wr => ∃ (acc : List Tk) (k : Nat), k ≤ l.length ∧ i = .int .i64 k ∧ acc.length ≤ 60 ∧ Below B w wr ∧ Hid (wr.ownsRow B 33 3 v acc.length (tksC acc)) ∧ Hid (glue acc (lexS (l.drop k) 0 k acc.length) = R)) (fun _ i _ => l.length - (intOf i).toNat)
  case atStart => exact ⟨[], 0, Nat.zero_le _, rfl, by simp, Below.refl _ _, hide (World.ownsRow_nil _ _ _ _), HR0⟩
  case round =>
    clear HR0
    obtain ⟨acc, k, hk, rfl, hacc, bel, OWN, HR⟩ := hrel
    have zB : B ≤ wr.heap.size := by have := bel.size; rw [unhide HB] at this; exact this
    by_cases hlt : k < l.length
    · have hgk : (⟨l.toArray⟩ : ByteArray)[k]'(by simpa [ByteArray.size] using hlt) = l[k] := rfl
      have HBL := hide (bl_eq l[k])
      cases hb : blB l[k]
      · have ebl : ((l[k].toNat : Int) == 32) = false := by rw [unhide HBL, hb]
        have T := hide (fun w => rnext_any l k w hl hlt)
        have tb := tokN_bd (l.drop k)
        rw [List.length_drop] at tb
        obtain ⟨a, cap, rfl⟩ := owns_form (unhide OWN)
        have ER := hide (fun he => lex_err (n := acc.length) hlt hb he)
        have OK := hide (fun he => lex_tok (n := acc.length) hlt hb he)
        have KD := hide (fun he => tokE_kind (r := l.drop k) (n := acc.length) he)
        have EF := hide (tokE_flt (r := l.drop k) (n := acc.length))
        clear hb
        by_cases hf : flt (tokK (l.drop k)) (tokT (l.drop k)) = 0
        · rw [nxtAt_ok hf] at T
          rw [hf] at EF
          have hEl : k + tokN (l.drop k) ≤ l.length := by omega
          have hE1 : tokK (l.drop k) ≠ 0 → k < k + tokN (l.drop k) := by omega
          clear hf tb
          generalize tokK (l.drop k) = K at *
          generalize tokT (l.drop k) = tT at *
          generalize k + tokN (l.drop k) = E at *
          go_wp2_with fail
          refine (unhide T _).mono ?_
          rintro e w2 ⟨rfl, b2⟩
          have own2 := hide (owns_below (unhide OWN) b2)
          have bel2 : Below B w w2 := bel.trans (b2.mono zB)
          have zB2 : B ≤ w2.heap.size := by have := bel2.size; rw [unhide HB] at this; exact this
          clear b2 OWN bel
          by_cases h60 : 60 ≤ acc.length
          · have hE : tokE (l.drop k) acc.length = 13 := by rw [unhide EF, if_pos ⟨by first | rfl | trivial, h60⟩]
            have HE := hide (show R = ([], k, 13) by rw [← unhide HR, unhide ER (by omega), hE, glue_err _ _ _ (by omega)])
            clear hE
            go_wp2_with fail
            go_ret3
            exact ⟨lexRes_mk (unhide HE) (World.ownsRow_nil _ _ _ _), bel2.alloc zB2 _⟩
          · have hE : tokE (l.drop k) acc.length = 0 := by rw [unhide EF, if_neg (fun h => h60 h.2)]
            have hE2 := hE1 (unhide KD hE)
            have HE := hide (show glue (acc ++ [(K, tT, k)]) (lexS (l.drop E) 0 E (acc ++ [(K, tT, k)]).length) = R by
              rw [List.length_append, ← glue_cons, ← unhide HR, unhide OK hE]; rfl)
            clear hE
            go_wp2_with (at_builtin; go_must (refine wpList_tok rfl _ _ rfl B _ acc rfl (((unhide own2).alloc _).alloc _) (w2.heap.size + 1) (K, tT, k) rfl ⟨by go_simp, by go_simp, by go_simp⟩ (by omega) (by simp; omega) ?_); intro v' w3 own3 gr3 bel3)
            have bel3' : Below B w w3 := bel3 _ ((bel2.alloc zB2 _).alloc (by simp; omega) _)
            have OWN3 := hide own3
            clear bel3 gr3 bel2 own2 own3
            go_roundw
            case rel => exact ⟨acc ++ [(K, tT, k)], E, hEl, rfl, by simp; omega, bel3', OWN3, HE⟩
            case measure => simp [intOf]; omega
        · rw [nxtAt_err hf] at T
          have hE : tokE (l.drop k) acc.length = flt (tokK (l.drop k)) (tokT (l.drop k)) := by rw [unhide EF, if_neg (fun h => hf h.1)]
          have HE := hide (show R = ([], k, flt (tokK (l.drop k)) (tokT (l.drop k))) by rw [← unhide HR, unhide ER (by rw [hE]; exact hf), hE, glue_err _ _ _ hf])
          generalize flt (tokK (l.drop k)) (tokT (l.drop k)) = F0 at *
          have e0 : ((F0 : Int) != 0) = true := by simp; omega
          have e0' : ((F0 : Int) == 0) = false := by simp; omega
          clear hE hf tb
          by_cases h60 : 60 ≤ acc.length
          all_goals
            go_wp2_with fail
            refine (unhide T _).mono ?_
            rintro e w2 ⟨rfl, b2⟩
            have bel2 : Below B w w2 := bel.trans (b2.mono zB)
            have zB2 : B ≤ w2.heap.size := by have := bel2.size; rw [unhide HB] at this; exact this
            clear b2 OWN bel
            go_wp2_with fail
            go_ret3
            exact ⟨lexRes_mk (unhide HE) (World.ownsRow_nil _ _ _ _), bel2.alloc zB2 _⟩
      · have ebl : ((l[k].toNat : Int) == 32) = true := by rw [unhide HBL, hb]
        have HE := hide (show glue acc (lexS (l.drop (k + 1)) 0 (k + 1) acc.length) = R by rw [← unhide HR, lex_blank hlt hb])
        clear hb
        go_wp2_with fail
        go_roundw
        case rel => exact ⟨acc, k + 1, by omega, by go_num, hacc, bel, OWN, HE⟩
        case measure => simp [intOf]; omega
    · have HE := hide (show R = (acc, l.length, 0) by rw [← unhide HR, lex_end (by omega), glue_ok, show k = l.length by omega])
      go_wp2_with fail
      go_ret3
      exact ⟨lexRes_mk (unhide HE) (unhide OWN), bel⟩
end Go.Proofs.YtlcckhlkmnnjdaaDoor
