/- The contract of lex's Lex: a text's tokens, in new memory. -/
import Derived.Test.YtlcckhlkmnnjdaaDoorLTok
import Derived.Deep.AppendLies
namespace Go.Proofs.YtlcckhlkmnnjdaaDoor
open Go.RowKit
set_option linter.unusedVariables false

/- the cells of a token, of a row of them. -/
def tkC (t : Tk) : List Value := [.int .i64 (t.1 : Int), .string ⟨t.2.1.toArray⟩, .int .i64 (t.2.2 : Int)]
def tksC (ts : List Tk) : List Value := ts.flatMap tkC
theorem tksC_len (ts : List Tk) : (tksC ts).length = ts.length * 3 := by
  induction ts with
  | nil => rfl
  | cons t ts ih => rw [tksC, List.flatMap_cons, List.length_append, ← tksC, ih]; simp [tkC]; omega
theorem tksC_snoc (ts : List Tk) (t : Tk) : tksC (ts ++ [t]) = tksC ts ++ tkC t := by simp [tksC]
theorem infoTok : (Tryd.prog.info? 33).map (fun i => (i.zero, i.size, i.bytes)) = some (some (.agg #[.int .i64 0, .string ⟨#[]⟩, .int .i64 0]), 3, 32) := by kernel_rfl
theorem owns_form {w : World} {B : Nat} {v : Value} {n : Nat} {xs : List Value} (h : w.ownsRow B 33 3 v n xs) : ∃ a cap, v = .slice a n cap := by
  rcases h.2 with ⟨rfl, rfl⟩ | ⟨g, cap, cur, rfl, -⟩
  · exact ⟨none, 0, rfl⟩
  · exact ⟨_, cap, rfl⟩

theorem owns_below {w w' : World} {B : Nat} {e : TypeId} {sz : Nat} {v : Value} {n : Nat} {xs : List Value} (h : w.ownsRow B e sz v n xs) (k : Below w.heap.size w w') : w'.ownsRow B e sz v n xs := by
  refine ⟨h.1, ?_⟩
  rcases h.2 with h0 | ⟨g, cap, cur, hv, hb, hg, hr⟩
  · exact Or.inl h0
  · refine Or.inr ⟨g, cap, cur, hv, hb, ?_, hr⟩
    rw [k.block g (Array.getElem?_eq_some_iff.1 hg).1]
    exact hg

theorem tokE_n {r : List UInt8} {n : Nat} (h : tokE r n = 0) : n < 60 := by
  apply Classical.byContradiction
  intro hn
  unfold tokE fltN at h
  by_cases hf : flt (tokK r) (tokT r) = 0
  · rw [if_pos ⟨hf, by omega⟩] at h; cases h
  · rw [if_neg (fun x => hf x.1)] at h; exact hf h
theorem past_bd (l : List UInt8) (k : Nat) (h : k ≤ l.length) : k + run blB (l.drop k) ≤ l.length := by
  have := run_le blB (l.drop k)
  rw [List.length_drop] at this
  omega
theorem past_stop (l : List UInt8) (k : Nat) : ∀ h : k + run blB (l.drop k) < l.length, blB l[k + run blB (l.drop k)] = false := by
  intro h
  have := run_stop (p := blB) (l.drop k) (by rw [List.length_drop]; omega)
  simpa using this

/- append of one token. -/
theorem wpList_tok {w : World} {ops : Array Oper} {rest : List Oper} {o : Oper} {a : Act} {Q : Exit → Act → World → Prop} (hgd : o.guard = none) (s x : Operand)
    (ho : o.op = .call { callee := .builtin .append, args := #[s, x], argTypes := #[22, 22] }) (B : Nat) (v : Value) (ts : List Tk) (hs : a.eval s = v) (own : w.ownsRow B 33 3 v ts.length (tksC ts))
    (b : Nat) (t : Tk) (hx : a.eval x = .slice (some ⟨b, 0, none⟩) 1 1) (hc : w.cell? ⟨b, 0, none⟩ = some (.int .i64 (t.1 : Int)) ∧ w.cell? ⟨b, 1, none⟩ = some (.string ⟨t.2.1.toArray⟩) ∧ w.cell? ⟨b, 2, none⟩ = some (.int .i64 (t.2.2 : Int)))
    (hn : ts.length ≤ 1000) (hB : B ≤ w.heap.size)
    (h : ∀ v' w', w'.ownsRow B 33 3 v' (ts ++ [t]).length (tksC (ts ++ [t])) → w.grownBy w' v.ownBlock → (∀ W0, Below B W0 w → Below B W0 w') → wpList Tryd.prog ops Q rest (a.put o.dst v') w') : wpList Tryd.prog ops Q (o :: rest) a w := by
  obtain ⟨i, hi, hzz⟩ := Option.map_eq_some_iff.1 infoTok
  simp only [Prod.mk.injEq] at hzz
  obtain ⟨hz, hz1, hz2⟩ := hzz
  refine wpList_append_lies w hgd s x 22 ho B 33 i _ 3 32 Tryd.underlying22 hi hz hz1 hz2 rfl (by omega) v ts.length (tksC ts) hs own ⟨b, 0, none⟩ 1 1 (tkC t) hx rfl ?_ ?_ (by omega) (by unfold maxLen; omega) (by omega) hB _ rfl ?_
  · intro j u hu
    have hadd : (⟨b, 0, none⟩ : Addr).add j = ⟨b, j, none⟩ := by unfold Addr.add; split <;> simp_all
    rw [hadd]
    obtain ⟨h0, h1, h2⟩ := hc
    match j, hu with
    | 0, hu => exact h0.trans hu
    | 1, hu => exact h1.trans hu
    | 2, hu => exact h2.trans hu
    | j + 3, hu => simp [tkC] at hu
  · intro u hu
    simp [tkC] at hu
    rcases hu with rfl | rfl | rfl <;> rfl
  · intro g cap w' own' gr _ _
    refine h _ w' ?_ gr (fun W0 hb => hb.grown gr hB (fun k hk => (own.lt k hk).1))
    rw [tksC_snoc, List.length_append]
    exact own'

/- what Lex answers. -/
def LexRes (B : Nat) (R : List Tk × Nat × Nat) (e : Ending) (w' : World) : Prop :=
  ∃ v, e = .returned (.tuple #[v, .int .i64 (R.2.1 : Int), .int .i64 (R.2.2 : Int)]) ∧ w'.ownsRow B 33 3 v R.1.length (tksC R.1)

theorem lexRes_mk {B : Nat} {R : List Tk × Nat × Nat} {acc : List Tk} {p e0 : Nat} {v : Value} {w' : World} (hR : R = (acc, p, e0)) (ho : w'.ownsRow B 33 3 v acc.length (tksC acc)) :
    LexRes B R (.returned (.tuple #[v, .int .i64 (p : Int), .int .i64 (e0 : Int)])) w' := by
  subst hR
  exact ⟨v, rfl, ho⟩

set_option maxHeartbeats 3200000 in
theorem lex_long (l : List UInt8) (w : World) (hl : l.length ≤ 1000) (h2 : 200 < l.length) :
    Calls Tryd.prog 9 #[.string ⟨l.toArray⟩] w fun e w' => LexRes w.heap.size (lexT l) e w' ∧ w' = w := by
  have HR := hide (show lexT l = ([], 0, 13) by unfold lexT; rw [if_pos h2])
  generalize lexT l = R at *
  go_enter Tryd.func9, Tryd.ntmps9
  go_wp2_with fail
  go_ret3
  rw [unhide HR]
  exact ⟨⟨_, rfl, World.ownsRow_nil _ _ _ _⟩, rfl⟩

set_option maxHeartbeats 3200000 in
theorem lex_any (l : List UInt8) (w : World) (h2 : l.length ≤ 200) (sig : Sig w) :
    Calls Tryd.prog 9 #[.string ⟨l.toArray⟩] w fun e w' => LexRes w.heap.size (lexT l) e w' ∧ Below w.heap.size w w' := by
  have hl : l.length ≤ 1000 := by omega
  have hR0 := lexT_glue h2
  rw [lex_past (l := l) (at0 := 0) 0 _ rfl] at hR0
  have hp0 : (blB : UInt8 → Bool) = blB := rfl
  have P0 := hide (fun w => past_any 17 blB e_blank blank_any l 0 w hl (Nat.zero_le _))
  have hk0 := run_le blB (l.drop 0)
  rw [List.length_drop] at hk0
  have hs0 : ∀ h : 0 + run blB (l.drop 0) < l.length, blB l[0 + run blB (l.drop 0)] = false := by
    intro h
    have := run_stop (p := blB) (l.drop 0) (by simpa using h)
    simpa using this
  generalize hK0 : 0 + run blB (l.drop 0) = k0 at *
  have hk0' : k0 ≤ l.length := by omega
  have HS0 := hide hs0
  have HR0 := hide hR0.symm
  have SG := hide sig
  have PB := hide (fun (k : Nat) (h : k ≤ l.length) w => past_any 17 blB e_blank blank_any l k w hl h)
  clear hs0 hR0 sig hK0 hk0 hp0
  generalize lexT l = R at *
  generalize hB : w.heap.size = B at *
  have HB := hide hB
  clear hB
  go_enter Tryd.func9, Tryd.ntmps9
  go_wp2_with fail
  refine (unhide P0 _).mono ?_
  rintro e w' ⟨rfl, rfl⟩
  go_wp2_with fail
  go_loopw [5, 6] (fun v i wr => ∃ (acc : List Tk) (k : Nat), k ≤ l.length ∧ i = .int .i64 k ∧ acc.length ≤ 60 ∧ Below B w' wr ∧ Hid (wr.ownsRow B 33 3 v acc.length (tksC acc)) ∧ Hid (∀ h : k < l.length, blB l[k] = false) ∧ Hid (glue acc (lexS (l.drop k) 0 k acc.length) = R)) (fun _ i _ => l.length - (intOf i).toNat)
  case atStart => exact ⟨[], k0, hk0', rfl, by simp, Below.refl _ _, hide (World.ownsRow_nil _ _ _ _), HS0, HR0⟩
  case round =>
    clear HS0 HR0 P0
    obtain ⟨acc, k, hk, rfl, hacc, bel, OWN, HS, HR⟩ := hrel
    by_cases hlt : k < l.length
    · have hsg : Sig wr := (unhide SG).below (by rw [unhide HB]; exact bel)
      have T := hide (fun w => token_any l k w hl hlt)
      have tb := tokN_bd (l.drop k)
      rw [List.length_drop] at tb
      have hK4 : tokK (l.drop k) ≤ 4 := by
        rw [(tok_cons hlt).1]
        split
        · omega
        split
        · omega
        split
        · split <;> omega
        · split <;> omega
      have F := hide (show tokE (l.drop k) acc.length = fltN (tokK (l.drop k)) (saidL (tokK (l.drop k)) ((l.drop k).take (tokN (l.drop k)))) acc.length from rfl)
      have e1 : (ByteArray.mk l.toArray).extract k (k + tokN (l.drop k)) = ByteArray.mk ((l.drop k).take (tokN (l.drop k))).toArray := by rw [lext_eq, Nat.add_sub_cancel_left]
      have htl : ((l.drop k).take (tokN (l.drop k))).length = tokN (l.drop k) := by rw [List.length_take, List.length_drop]; omega
      have S := hide (said_any (tokK (l.drop k)) ((l.drop k).take (tokN (l.drop k))))
      have hsl : (saidL (tokK (l.drop k)) ((l.drop k).take (tokN (l.drop k)))).length ≤ 1000 := by
        unfold saidL
        split
        · simp only [List.length_take, List.length_drop]; omega
        · omega
      have ER := hide (fun he => lex_err (n := acc.length) hlt (unhide HS hlt) he)
      have OK := hide (fun he => lex_tok (n := acc.length) hlt (unhide HS hlt) he)
      have KD := hide (fun he => tokE_kind (r := l.drop k) (n := acc.length) he)
      have PP := hide (past_bd l)
      have PS := hide (past_stop l)
      have TT := hide (show tokT (l.drop k) = saidL (tokK (l.drop k)) ((l.drop k).take (tokN (l.drop k))) from rfl)
      generalize saidL (tokK (l.drop k)) ((l.drop k).take (tokN (l.drop k))) = tT at *
      generalize (l.drop k).take (tokN (l.drop k)) = t0 at *
      generalize tokK (l.drop k) = K at *
      have hEl : k + tokN (l.drop k) ≤ l.length := by omega
      have hEk : k ≤ k + tokN (l.drop k) := by omega
      have hE1 : K ≠ 0 → k < k + tokN (l.drop k) := by omega
      generalize tokN (l.drop k) = N at *
      generalize k + N = E at *
      go_wp2_with fail
      refine (unhide T _ hsg).mono ?_
      rintro e w1 ⟨rfl, rfl⟩
      go_wp2_with fail
      obtain ⟨a, cap, rfl⟩ := owns_form (unhide OWN)
      refine (unhide S _ hK4 (by omega) (by intro h; have := tb.2.2.1 h; omega)).mono ?_
      rintro e w1 ⟨rfl, rfl⟩
      go_wp2_with fail
      refine (fault_any K tT k acc.length _ hK4 hsl (by omega)).mono ?_
      rintro e w2 ⟨rfl, b2⟩
      have b2' := bstep (below1 w1 _) b2
      have own2 := hide (owns_below (unhide OWN) b2')
      have bel2 : Below B w' w2 := bel.trans (b2'.mono (by have := bel.size; rw [unhide HB] at this; exact this))
      have q0 : w2.cell? ⟨w1.heap.size, 0, none⟩ = some (.int .i64 (K : Int)) := (((bcell b2).1 _ _ (by simp)).trans (by go_simp))
      have q1 : w2.cell? ⟨w1.heap.size, 1, none⟩ = some (.string ⟨tT.toArray⟩) := (((bcell b2).1 _ _ (by simp)).trans (by go_simp))
      have q2 : w2.cell? ⟨w1.heap.size, 2, none⟩ = some (.int .i64 (k : Int)) := (((bcell b2).1 _ _ (by simp)).trans (by go_simp))
      have z2 : w1.heap.size < w2.heap.size := by have := b2.size; simp at this; omega
      have zB : B ≤ w2.heap.size := by have := bel2.size; rw [unhide HB] at this; exact this
      clear b2 b2' OWN bel hsg
      rw [← unhide F]
      by_cases hf : tokE (l.drop k) acc.length = 0
      · have hE2 := hE1 (unhide KD hf)
        have hn6 := tokE_n hf
        have pb := unhide PP E hEl
        have HE := hide (show glue (acc ++ [(K, tT, k)]) (lexS (l.drop (E + run blB (l.drop E))) 0 (E + run blB (l.drop E)) (acc ++ [(K, tT, k)]).length) = R by
          rw [List.length_append, ← lex_past (l := l) (at0 := E) _ _ rfl, ← glue_cons, ← unhide HR, unhide OK hf, unhide TT]; rfl)
        have HS2 := hide (unhide PS E)
        rw [hf]
        clear hf tb e1
        go_wp2_with (at_builtin; go_must (refine wpList_tok rfl _ _ rfl B _ acc rfl ((unhide own2).alloc _) w2.heap.size (K, tT, k) rfl ⟨by go_simp, by go_simp, by go_simp⟩ (by omega) (by simp; omega) ?_); intro v' w3 own3 gr3 bel3)
        have bel3' : Below B w' w3 := bel3 _ (bel2.alloc zB _)
        clear bel3 gr3 bel2 own2 q0 q1 q2
        have OWN3 := hide own3
        clear own3
        refine (unhide PB E hEl _).mono ?_
        rintro e w4 ⟨rfl, rfl⟩
        go_wp2_with fail
        go_roundw
        case rel => exact ⟨acc ++ [(K, tT, k)], E + run blB (l.drop E), pb, rfl, by simp; omega, bel3', OWN3, HS2, HE⟩
        case measure => simp [intOf]; omega
      · have HE := hide (show R = ([], k, tokE (l.drop k) acc.length) by rw [← unhide HR, unhide ER hf, glue_err _ _ _ hf])
        generalize tokE (l.drop k) acc.length = F0 at *
        have e0 : ((F0 : Int) != 0) = true := by simp; omega
        clear hf
        go_wp2_with fail
        go_ret3
        exact ⟨lexRes_mk (unhide HE) (World.ownsRow_nil _ _ _ _), bel2⟩
    · have HE := hide (show R = (acc, l.length, 0) by rw [← unhide HR, lex_end (by omega), glue_ok, show k = l.length by omega])
      go_wp2_with fail
      go_ret3
      exact ⟨lexRes_mk (unhide HE) (unhide OWN), bel⟩
end Go.Proofs.YtlcckhlkmnnjdaaDoor
