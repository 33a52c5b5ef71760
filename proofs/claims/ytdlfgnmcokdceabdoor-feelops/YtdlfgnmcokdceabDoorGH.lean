/- FTake FGood FParse FKnown: laid together. -/
import Derived.Test.YtdlfgnmcokdceabDoorGG
import Derived.Test.YtdlfgnmcokdceabDoorGD
import Derived.Test.YtdlfgnmcokdceabDoorGE
/- The reader as a whole: expr at every depth; the contracts of feel's Take and Parse. -/
namespace Go.Proofs.YtdlfgnmcokdceabDoor
open Go.RowKit
set_option linter.unusedVariables false
set_option linter.unusedSimpArgs false
variable {b : Nat} {a : Option Addr} {cap : Nat} {ts : List Tk}

/- expr out of unary. -/
theorem expr_of (d : Nat) (u e1 : Nat → RX) (hu : PartOf b a cap ts 59 d u) (hp : PartOf b a cap ts 21 (d + 1) e1) (hts : GoodTs ts) (hd : d ≤ 100) : PartOf b a cap ts 21 d (exprP ts u e1) :=
  expr_any d _ (and_any d _ (cmp_any d _ e1 (add_any d _ (mul_any d u hu hts) hts) hp hts hd) hts) hts
/- where unary errs at once nothing else is asked. -/
theorem cmp_deep (d : Nat) (ad e1 : Nat → RX) (h : ∀ k, ∃ c k', ad k = .er c k') (ha : PartOf b a cap ts 50 d ad) : PartOf b a cap ts 45 d (cmpP ts ad e1) := by
  intro w k R
  have R0 := R
  have hlt := R.lt
  have HA := hide ha
  clear R ha
  have HR := hide (cmpP.eq_1 ts ad e1 k)
  generalize cmpP ts ad e1 k = RES at *
  have z0 := hide (ZB.new w 28)
  obtain ⟨c1, k1, hA1⟩ := h k
  have C := unhide HA (w.alloc (zO 28)) k (R0.alloc _)
  rw [hA1] at HR C
  have CC := hide C
  clear hA1 h HA C
  go_enter Tryd.func45, Tryd.ntmps45
  go_wp2_with fail
  refine (unhide CC).mono ?_
  rintro e w1 ⟨n1, hk1, R1, hc1, rfl⟩
  have Z1 := (unhide z0).mv n1 (by omega)
  have M1 := ((Mv.refl b w).alloc _).trans n1
  clear z0 n1
  obtain ⟨y0, y1, y2, y3, y4, y5, y6, y7, y8, y9⟩ := Z1
  unfold zV
  go_wp2_with fail
  refine bodyPost_ret (v := .tuple #[.agg #[.int .i64 0, .bool false, .int .i64 0, .int .i64 0, .string ⟨#[]⟩, .bool false, .bool false, .slice none 0 0], .int .i64 c1]) (by simp [results, Tryd.results45, go_sem, y0, y1, y2, y3, y4, y5, y6, y7, y8]) rfl ?_
  rw [unhide HR]
  exact ⟨by (repeat (first | with_reducible assumption | with_reducible exact Mv.refl _ _ | with_reducible refine Mv.alloc ?_ _ | (with_reducible refine Mv.own ?_ ?_ _; rotate_left; (focus (first | omega | (simp; done) | (simp; omega) | (dsimp only; omega)))) | with_reducible refine Mv.put ?_ _ _ | with_reducible refine Mv.drewN ?_ _ | with_reducible refine Mv.drew ?_)), hk1, by (repeat (first | with_reducible assumption | with_reducible refine Rd.alloc ?_ _ | (with_reducible refine Rd.own ?_ R0 ?_ _; rotate_left; (focus (first | omega | (simp; done) | (simp; omega) | (dsimp only; omega)))) | with_reducible refine Rd.drewN ?_ _ | with_reducible refine Rd.drew ?_)), hc1, rfl⟩
theorem expr_deep (d : Nat) (hts : GoodTs ts) (hd : 8 < d) (hd2 : d ≤ 100) (e1 : Nat → RX) : PartOf b a cap ts 21 d (exprP ts (fun k => .er 12 k) e1) :=
  expr_any d _ (and_any d _ (cmp_deep d _ e1 (fun k => ⟨12, k, rfl⟩) (add_any d _ (mul_any d _ (unary_deep d hd hd2) hts) hts)) hts) hts
/- the whole. -/
theorem reader_all (hts : GoodTs ts) : ∀ f d, d + f = 9 → PartOf b a cap ts 59 d (UE ts f).1 ∧ PartOf b a cap ts 21 d (UE ts f).2 := by
  intro f
  induction f with
  | zero => intro d h; exact ⟨unary_deep d (by omega) (by omega), expr_deep d hts (by omega) (by omega) (fun k => .er 12 k)⟩
  | succ f ih =>
    intro d h
    obtain ⟨hu, he⟩ := ih (d + 1) (by omega)
    have hu' := unary_any d _ _ hu he hts (by omega)
    exact ⟨hu', expr_of d _ _ hu' he hts (by omega)⟩

/- what Take answers. -/
def TakeRes (B : Nat) (X : XT × Int × Int × Int) (e : Ending) (w' : World) : Prop :=
  ∃ T : XT, e = .returned (.tuple #[T.val, .int .i64 X.2.1, .int .i64 X.2.2.1, .int .i64 X.2.2.2]) ∧ T.In (Fr B) w' ∧ T.bare = X.1
/- a row of tokens lies in the world. -/
def Row (w : World) (a : Option Addr) (ts : List Tk) : Prop := ∀ i (h : i < ts.length), ∃ g, a = some ⟨g, 0, none⟩ ∧ Tok3 w g (i * 3) ts[i]
theorem Tok3.below {w w' : World} {g o : Nat} {t : Tk} (h : Tok3 w g o t) (k : Below w.heap.size w w') : Tok3 w' g o t := by
  obtain ⟨h0, h1, h2, h3⟩ := h
  exact ⟨Nat.lt_of_lt_of_le h0 k.size, kcell k h0 h1, kcell k h0 h2, kcell k h0 h3⟩
theorem Row.below {w w' : World} (h : Row w a ts) (k : Below w.heap.size w w') : Row w' a ts := fun i hi => by
  obtain ⟨g, h1, h2⟩ := h i hi
  exact ⟨g, h1, h2.below k⟩
theorem Rd.new {w : World} {k : Nat} (h : Row w a ts) (hk : k ≤ ts.length) : Rd w.heap.size a cap ts (w.alloc (.cells #[.slice a ts.length cap, .int .i64 (k : Int)] 59)) k := by
  refine ⟨by simp, hk, by go_simp, by go_simp, by go_simp, fun i hi => ?_⟩
  obtain ⟨g, h1, h2⟩ := h i hi
  exact ⟨g, h1, by have := h2.1; omega, h2.below (below1 _ _)⟩
theorem zX_bare : zX.bare = zX := by
  unfold zX XT.bare
  congr 1

set_option maxHeartbeats 4000000 in
theorem take_any (hts : GoodTs ts) (w : World) (k : Nat) (en : Int) (hr : Row w a ts) (hk : k ≤ ts.length) :
    Calls Tryd.prog 13 #[.slice a ts.length cap, .int .i64 (k : Int), .int .i64 en] w fun e w' => TakeRes w.heap.size (takeT ts k en) e w' ∧ (∀ c k', (UE ts 9).2 k = .er c k' → (c != 0) = true) ∧ Below w.heap.size w w' := by
  have hn := hts.1
  have HT := hide hts
  have HRow := hide hr
  have HR := hide (takeT.eq_1 ts k en)
  generalize takeT ts k en = RES at *
  clear hts hr
  have z0 := hide (ZB.new w 28)
  go_enter Tryd.func13, Tryd.ntmps13
  go_wp2_with fail
  have RN := Rd.new (cap := cap) ((unhide HRow).below (below1 w (zO 28))) hk
  have eB : (w.alloc (zO 28)).heap.size = w.heap.size + 1 := by simp
  rw [eB] at RN
  refine ((reader_all (unhide HT) 9 0 rfl).2 _ k RN).mono ?_
  have M0 := below2 w (zO 28) (.cells #[.slice a ts.length cap, .int .i64 (k : Int)] 59)
  cases hE : (UE ts 9).2 k with
  | er c1 k1 =>
    rw [hE] at HR
    have HE0 := hide hE
    clear hE
    rintro e w1 ⟨n1, hk1, R1, hc1, rfl⟩
    have Z1 := hide (((unhide z0).alloc _).mv n1 (by omega))
    have z1 : w.heap.size + 2 ≤ w1.heap.size := by have := n1.size; simpa using this
    have b1 := n1.toBelow M0 (by omega)
    clear n1 z0
    unfold zV
    go_wp2_with fail
    refine (place_any _ k1 en (R1.alloc _) (unhide HT)).mono ?_
    rintro e w2 ⟨rfl, b2⟩
    have Z2 := ((unhide Z1).alloc _).below b2
    have b2' := bstep (b1.alloc b1.size _) b2
    clear b2 b1 Z1
    obtain ⟨y0, y1, y2, y3, y4, y5, y6, y7, y8, y9⟩ := Z2
    have HR2 := hide (show RES = (zX, (k : Int), posT ts k1 en, c1) from unhide HR)
    clear HR
    generalize posT ts k1 en = pp at *
    go_wp2_with fail
    refine bodyPost_ret (v := .tuple #[.agg #[.int .i64 0, .bool false, .int .i64 0, .int .i64 0, .string ⟨#[]⟩, .bool false, .bool false, .slice none 0 0], .int .i64 (k : Int), .int .i64 pp, .int .i64 c1]) (by simp [results, Tryd.results13, go_sem, y0, y1, y2, y3, y4, y5, y6, y7, y8]) rfl ?_
    rw [unhide HR2]
    exact ⟨⟨zX, rfl, zX_in _ _, zX_bare⟩, fun c k' h => by rw [unhide HE0] at h; cases h; exact hc1, by (repeat (first | with_reducible assumption | with_reducible exact Below.refl _ _ | (with_reducible refine Below.setCell ?_ ?_ _; rotate_left; (focus (first | omega | (simp; done) | (simp; omega) | (dsimp only; omega)))) | (with_reducible refine Below.alloc ?_ ?_ _; rotate_left; (focus (first | omega | (simp; done) | (simp; omega) | (dsimp only; omega)))) | with_reducible refine Below.drew ?_ | with_reducible refine below_dN ?_ _))⟩
  | ok x1 k1 =>
    rw [hE] at HR
    have HE0 := hide hE
    clear hE
    rintro e w1 ⟨n1, hk1, R1, T, rfl, hin, hbr⟩
    have Z1 := ((unhide z0).alloc _).mv n1 (by omega)
    have z1 : w.heap.size + 2 ≤ w1.heap.size := by have := n1.size; simpa using this
    have b1 := n1.toBelow M0 (by omega)
    have HI := hin.weak (Q' := fun g => w.heap.size + 1 ≤ g) (fun g _ hg => by unfold Fr at hg; simp at hg; omega)
    clear n1 z0
    have HR2 := hide (show RES = (x1, (k1 : Int), 0, 0) from unhide HR)
    clear HR
    obtain ⟨ek, eb, em, es, et, elo, ehi, ea, el, ec, ekid, rfl⟩ := hin.form
    clear hin
    obtain ⟨r1, r2, r3, r4, r5, -⟩ := R1
    obtain ⟨y0, y1, y2, y3, y4, y5, y6, y7, y8, y9⟩ := Z1
    dsimp only [XT.val]
    go_wp2_with fail
    go_region
    go_wp2_with fail
    refine bodyPost_ret (v := .tuple #[.agg #[.int .i64 ek, .bool eb, .int .i64 em, .int .i64 es, .string et, .bool elo, .bool ehi, .slice ea el ec], .int .i64 (k1 : Int), .int .i64 0, .int .i64 0]) (by simp [results, Tryd.results13, go_sem, y0, y1, y2, y3, y4, y5, y6, y7, y8]) rfl ?_
    rw [unhide HR2]
    refine ⟨⟨_, rfl, ?_, hbr⟩, (fun c k' h => by rw [unhide HE0] at h; cases h), by (repeat (first | with_reducible assumption | with_reducible exact Below.refl _ _ | (with_reducible refine Below.setCell ?_ ?_ _; rotate_left; (focus (first | omega | (simp; done) | (simp; omega) | (dsimp only; omega)))) | (with_reducible refine Below.alloc ?_ ?_ _; rotate_left; (focus (first | omega | (simp; done) | (simp; omega) | (dsimp only; omega)))) | with_reducible refine Below.drew ?_ | with_reducible refine below_dN ?_ _))⟩
    refine XT.In.weak (Q := fun g => w.heap.size + 1 ≤ g) ?_ (fun g _ hg => by unfold Fr; omega)
    (repeat (first | with_reducible assumption | with_reducible refine XT.In.alloc ?_ _ | with_reducible refine XT.In.drew ?_ | with_reducible refine XT.In.drewN ?_ _ | (with_reducible refine XT.In.set ?_ ?_ _; rotate_left; (intro g hg; (focus (first | omega | (simp; done) | (simp; omega) | (dsimp only; omega)))))))
end Go.Proofs.YtdlfgnmcokdceabDoor

/- The tokens of a text are such as may be. -/
namespace Go.Proofs.YtdlfgnmcokdceabDoor
set_option linter.unusedVariables false

theorem sgn_word (gs : List (List UInt8)) (hgs : ∀ g ∈ gs, wordB g = false) (r : List UInt8) : wordB (r.take (sgn gs r)) = false := by
  induction gs with
  | nil => rw [sgn]; rfl
  | cons g gs ih =>
    rw [sgn]
    split
    · rename_i h
      unfold preB at h
      simp only [Bool.and_eq_true, beq_iff_eq] at h
      rw [h.2]
      exact hgs g (by simp)
    · exact ih (fun x hx => hgs x (by simp [hx]))
theorem tok_good (r : List UInt8) : (tokT r).length ≤ r.length ∧ tokK r ≤ 4 ∧ (tokK r = 4 → wordB (tokT r) = false) := by
  refine ⟨?_, ?_, ?_⟩
  · unfold tokT saidL
    split
    · simp only [List.length_take, List.length_drop]; omega
    · simp only [List.length_take]; omega
  · unfold tokK
    split
    · omega
    · split
      · omega
      split
      · omega
      split
      · split <;> omega
      · split <;> omega
  · intro h4
    have e : tokT r = r.take (sgn sgs r) := by
      unfold tokT saidL
      rw [h4, if_neg (by decide)]
      congr 1
      unfold tokK at h4
      unfold tokN
      cases r with
      | nil => cases h4
      | cons c r =>
        dsimp only at h4 ⊢
        split at h4
        · cases h4
        rename_i h1
        rw [if_neg h1]
        split at h4
        · cases h4
        rename_i h2
        rw [if_neg h2]
        split at h4
        · split at h4 <;> cases h4
        rename_i h3
        rw [if_neg h3]
    rw [e]
    exact sgn_word sgs (by decide) r
theorem lexS_good (r : List UInt8) : ∀ k pos n, ∀ t ∈ (lexS r k pos n).1, t.2.1.length ≤ r.length ∧ t.1 ≤ 4 ∧ (t.1 = 4 → wordB t.2.1 = false) := by
  induction r with
  | nil => intro k pos n t ht; simp [lexS] at ht
  | cons c r ih =>
    intro k pos n t ht
    cases k with
    | succ k =>
      rw [lexS] at ht
      obtain ⟨h1, h2⟩ := ih k _ _ t ht
      exact ⟨by simp; omega, h2⟩
    | zero =>
      rw [lexS] at ht
      split at ht
      · obtain ⟨h1, h2⟩ := ih 0 _ _ t ht
        exact ⟨by simp; omega, h2⟩
      · split at ht
        · unfold consR at ht
          split at ht
          · rcases List.mem_cons.1 ht with rfl | ht
            · dsimp only
              exact tok_good (c :: r)
            · obtain ⟨h1, h2⟩ := ih _ _ _ t ht
              exact ⟨by simp; omega, h2⟩
          · simp at ht
        · simp at ht
theorem good_lex (l : List UInt8) (hl : l.length ≤ 1000) : GoodTs (lexT l).1 := by
  have h60 := lexT_len l
  refine ⟨by omega, fun k hk => ?_⟩
  have hm := List.getElem_mem hk
  have key : ∀ t ∈ (lexT l).1, GoodT t := by
    intro t ht
    unfold lexT at ht
    split at ht
    · exact absurd ht List.not_mem_nil
    · obtain ⟨h1, h3⟩ := lexS_good l 0 0 0 _ ht
      exact ⟨by omega, h3⟩
  exact key _ hm
end Go.Proofs.YtdlfgnmcokdceabDoor

/- The contract of feel's Parse. -/
namespace Go.Proofs.YtdlfgnmcokdceabDoor
open Go.RowKit
set_option linter.unusedVariables false
set_option linter.unusedSimpArgs false

/- what Parse answers. -/
def ParseRes (B : Nat) (X : XT × Int × Int) (e : Ending) (w' : World) : Prop :=
  ∃ T : XT, e = .returned (.tuple #[T.val, .int .i64 X.2.1, .int .i64 X.2.2]) ∧ T.In (Fr B) w' ∧ T.bare = X.1
theorem row_of {w : World} {B : Nat} {v : Value} {ts : List Tk} (h : w.ownsRow B 47 3 v ts.length (tksC ts)) : ∃ a cap, v = .slice a ts.length cap ∧ Row w a ts ∧ ∀ g o s, a = some ⟨g, o, s⟩ → 0 < ts.length → B ≤ g := by
  by_cases h0 : 0 < ts.length
  · obtain ⟨g, cap, rfl, hB, ht⟩ := own_at h h0
    exact ⟨_, _, rfl, fun i hi => ⟨g, rfl, ht i hi⟩, fun g' o s e _ => by cases e; exact hB⟩
  · obtain ⟨a, cap, rfl⟩ := owns_form h
    exact ⟨a, cap, rfl, fun i hi => by omega, fun _ _ _ _ h => absurd h h0⟩

set_option maxHeartbeats 4000000 in
theorem parse_any (l : List UInt8) (hl : l.length ≤ 1000) (w : World) (sig : Sig w) :
    Calls Tryd.prog 9 #[.string ⟨l.toArray⟩] w fun e w' => ParseRes w.heap.size (parseT l) e w' ∧ Below w.heap.size w w' := by
  have L := hide (lex_all l (w.alloc (zO 28)) hl (sig.below (below1 _ _)))
  have HG := hide (good_lex l hl)
  have HR := hide (parseT.eq_1 l)
  generalize parseT l = RES at *
  generalize lexT l = LX at *
  obtain ⟨ts, n, e0⟩ := LX
  have z0 := hide (ZB.new w 28)
  clear sig
  go_enter Tryd.func9, Tryd.ntmps9
  go_wp2_with fail
  refine (unhide L).mono ?_
  rintro e w1 ⟨⟨v, rfl, own⟩, b1⟩
  have Z1 := hide ((unhide z0).below b1)
  have z1 : w.heap.size + 1 ≤ w1.heap.size := by have := b1.size; simpa using this
  have B1 := bstep (below1 w _) b1
  clear b1 z0 L
  obtain ⟨a, cap, rfl, row, hrg⟩ := row_of own
  clear own
  dsimp only at HR HG row hrg
  have HRG := hide hrg
  clear hrg
  have hn := (unhide HG).1
  by_cases he0 : e0 = 0
  · subst he0
    have HR2 := hide (show RES = match (UE ts 9).2 0 with | .er c k' => (zX, posT ts k' n, c) | .ok x k' => if k' < ts.length then (zX, posT ts k' n, 2) else (x, (n : Int), 0) from unhide HR)
    clear HR
    have HRow := hide row
    have TK := hide (take_any (cap := cap) (unhide HG) w1 0 (n : Int) row (Nat.zero_le _))
    have TE := takeT.eq_1 ts 0 (n : Int)
    clear row
    go_wp2_with fail
    refine (unhide TK).mono ?_
    rintro e w2 ⟨⟨T, rfl, hin, hbr⟩, hce, b2⟩
    have Z2 := (unhide Z1).below b2
    have B2 := bstep B1 b2
    have z2 := b2.size
    have HI := hin.weak (Q' := fun g => w.heap.size + 1 ≤ g) (fun g _ hg => by unfold Fr at hg; omega)
    have row2 := (unhide HRow).below b2
    clear b2 Z1 TK HRow
    cases hE : (UE ts 9).2 0 with
    | er c3 k3 =>
      have hc3 := hce c3 k3 hE
      rw [hE] at HR2 TE
      clear hE hce
      rw [TE] at hbr ⊢
      dsimp only at hbr ⊢
      clear TE
      have HR3 := hide (show RES = (zX, posT ts k3 n, c3) from unhide HR2)
      clear HR2
      obtain ⟨ek, eb, em, es, et, elo, ehi, ea, el, ec, ekid, rfl⟩ := hin.form
      clear hin
      obtain ⟨y0, y1, y2, y3, y4, y5, y6, y7, y8, y9⟩ := Z2
      generalize posT ts k3 n = pp at *
      dsimp only [XT.val]
      go_wp2_with fail
      refine bodyPost_ret (v := .tuple #[.agg #[.int .i64 0, .bool false, .int .i64 0, .int .i64 0, .string ⟨#[]⟩, .bool false, .bool false, .slice none 0 0], .int .i64 pp, .int .i64 c3]) (by simp [results, Tryd.results9, go_sem, y0, y1, y2, y3, y4, y5, y6, y7, y8]) rfl ?_
      rw [unhide HR3]
      exact ⟨⟨zX, rfl, zX_in _ _, zX_bare⟩, by (repeat (first | with_reducible assumption | with_reducible exact Below.refl _ _ | (with_reducible refine Below.setCell ?_ ?_ _; rotate_left; (focus (first | omega | (simp; done) | (simp; omega) | (dsimp only; omega)))) | (with_reducible refine Below.alloc ?_ ?_ _; rotate_left; (focus (first | omega | (simp; done) | (simp; omega) | (dsimp only; omega)))) | with_reducible refine Below.drew ?_ | with_reducible refine below_dN ?_ _))⟩
    | ok x3 k3 =>
      rw [hE] at HR2 TE
      clear hE
      rw [TE] at hbr ⊢
      dsimp only at hbr ⊢
      clear TE
      have HR3 := hide (show RES = if k3 < ts.length then (zX, posT ts k3 n, 2) else (x3, (n : Int), 0) from unhide HR2)
      clear HR2
      obtain ⟨ek, eb, em, es, et, elo, ehi, ea, el, ec, ekid, rfl⟩ := hin.form
      clear hin
      obtain ⟨y0, y1, y2, y3, y4, y5, y6, y7, y8, y9⟩ := Z2
      dsimp only [XT.val]
      by_cases hk3 : k3 < ts.length
      · rw [if_pos hk3] at HR3
        obtain ⟨g, rfl, t0, t1, t2, t3⟩ := row2 k3 hk3
        clear row2
        have hgr : w.heap.size + 1 ≤ g := by have := unhide HRG g 0 none rfl (by omega); simpa using this
        have hgn : g ≠ w.heap.size := by omega
        have hgn' : ¬ w.heap.size = g := by omega
        have HP := hide (show ((ts[k3].2.2 : Nat) : Int) = posT ts k3 n by simp [posT, hk3])
        generalize posT ts k3 n = pp at *
        generalize ts[k3] = tt at *
        obtain ⟨q1, q2, q3⟩ := tt
        dsimp only at t1 t2 t3 HP
        go_wp2_with fail
        go_region
        go_wp2_with fail
        refine bodyPost_ret (v := .tuple #[.agg #[.int .i64 0, .bool false, .int .i64 0, .int .i64 0, .string ⟨#[]⟩, .bool false, .bool false, .slice none 0 0], .int .i64 (q3 : Int), .int .i64 2]) (by simp [results, Tryd.results9, go_sem, y0, y1, y2, y3, y4, y5, y6, y7, y8]) rfl ?_
        rw [unhide HR3, unhide HP]
        exact ⟨⟨zX, rfl, zX_in _ _, zX_bare⟩, by (repeat (first | with_reducible assumption | with_reducible exact Below.refl _ _ | (with_reducible refine Below.setCell ?_ ?_ _; rotate_left; (focus (first | omega | (simp; done) | (simp; omega) | (dsimp only; omega)))) | (with_reducible refine Below.alloc ?_ ?_ _; rotate_left; (focus (first | omega | (simp; done) | (simp; omega) | (dsimp only; omega)))) | with_reducible refine Below.drew ?_ | with_reducible refine below_dN ?_ _))⟩
      · rw [if_neg hk3] at HR3
        clear row2
        go_wp2_with fail
        refine bodyPost_ret (v := .tuple #[.agg #[.int .i64 ek, .bool eb, .int .i64 em, .int .i64 es, .string et, .bool elo, .bool ehi, .slice ea el ec], .int .i64 (n : Int), .int .i64 0]) (by simp [results, Tryd.results9, go_sem, y0, y1, y2, y3, y4, y5, y6, y7, y8]) rfl ?_
        rw [unhide HR3]
        refine ⟨⟨_, rfl, ?_, hbr⟩, by (repeat (first | with_reducible assumption | with_reducible exact Below.refl _ _ | (with_reducible refine Below.setCell ?_ ?_ _; rotate_left; (focus (first | omega | (simp; done) | (simp; omega) | (dsimp only; omega)))) | (with_reducible refine Below.alloc ?_ ?_ _; rotate_left; (focus (first | omega | (simp; done) | (simp; omega) | (dsimp only; omega)))) | with_reducible refine Below.drew ?_ | with_reducible refine below_dN ?_ _))⟩
        refine XT.In.weak (Q := fun g => w.heap.size + 1 ≤ g) ?_ (fun g _ hg => by unfold Fr; omega)
        (repeat (first | with_reducible assumption | with_reducible refine XT.In.alloc ?_ _ | with_reducible refine XT.In.drew ?_ | with_reducible refine XT.In.drewN ?_ _ | (with_reducible refine XT.In.set ?_ ?_ _; rotate_left; (intro g hg; (focus (first | omega | (simp; done) | (simp; omega) | (dsimp only; omega)))))))
  · have e1 : ((e0 : Int) != 0) = true := by simp; omega
    have HR2 := hide (show RES = (zX, (n : Int), (e0 : Int)) by rw [unhide HR, if_pos he0])
    clear he0 HR row
    obtain ⟨y0, y1, y2, y3, y4, y5, y6, y7, y8, y9⟩ := unhide Z1
    go_wp2_with fail
    refine bodyPost_ret (v := .tuple #[.agg #[.int .i64 0, .bool false, .int .i64 0, .int .i64 0, .string ⟨#[]⟩, .bool false, .bool false, .slice none 0 0], .int .i64 (n : Int), .int .i64 (e0 : Int)]) (by simp [results, Tryd.results9, go_sem, y0, y1, y2, y3, y4, y5, y6, y7, y8]) rfl ?_
    rw [unhide HR2]
    exact ⟨⟨zX, rfl, zX_in _ _, zX_bare⟩, by (repeat (first | with_reducible assumption | with_reducible exact Below.refl _ _ | (with_reducible refine Below.setCell ?_ ?_ _; rotate_left; (focus (first | omega | (simp; done) | (simp; omega) | (dsimp only; omega)))) | (with_reducible refine Below.alloc ?_ ?_ _; rotate_left; (focus (first | omega | (simp; done) | (simp; omega) | (dsimp only; omega)))) | with_reducible refine Below.drew ?_ | with_reducible refine below_dN ?_ _))⟩
end Go.Proofs.YtdlfgnmcokdceabDoor

/- The contract of the law's own 'known'. -/
namespace Go.Proofs.YtdlfgnmcokdceabDoor
open Go.RowKit
set_option linter.unusedVariables false
set_option linter.unusedSimpArgs false

/- what a text's Parse answers, where its tree is a Bin with a Bin at its right. -/
def knownB (X : XT × Int × Int) : Bool := match X with
  | (.mk k _ _ _ t _ _ _ len _ kid, n, e) => decide (k = 6) && (decide (XT.tl t = [43]) && (decide (len = 2) && (decide (n = 9) && (decide (e = 0) && match kid 1 with | .mk _ _ _ _ t' _ _ _ _ _ _ => decide (XT.tl t' = [42]) | .none => false))))
  | _ => false
theorem tl_inj {s : ByteArray} {l : List UInt8} (h : XT.tl s = l) : s = ⟨l.toArray⟩ := by
  unfold XT.tl at h
  cases s
  subst h
  rfl
theorem known_calc : knownB (parseT [49, 32, 43, 32, 50, 32, 42, 32, 120]) = true := by decide +kernel

set_option maxHeartbeats 4000000 in
theorem fknown_any (w : World) (sig : Sig w) : Calls Tryd.prog 8 #[] w fun e w' => e = .returned (.bool true) ∧ Below w.heap.size w w' := by
  have P := hide (parse_any [49, 32, 43, 32, 50, 32, 42, 32, 120] (by decide) w sig)
  have K := known_calc
  generalize parseT [49, 32, 43, 32, 50, 32, 42, 32, 120] = X at *
  obtain ⟨xt, n, e0⟩ := X
  cases xt with
  | none => simp [knownB] at K
  | mk xk xb xm xs xt xlo xhi xa xl xc xkid =>
    unfold knownB at K
    simp only [Bool.and_eq_true, decide_eq_true_eq] at K
    obtain ⟨rfl, ht, rfl, rfl, rfl, hkid⟩ := K
    go_enter Tryd.func8, Tryd.ntmps8
    go_wp2_with fail
    refine (unhide P).mono ?_
    rintro e w1 ⟨⟨T, rfl, hin, hbr⟩, b1⟩
    obtain ⟨tk, tb, tm, ts, tt, tlo, thi, ta, tl, tc, tkid, rfl⟩ := hin.form
    unfold XT.bare at hbr
    simp only [XT.mk.injEq] at hbr
    obtain ⟨rfl, rfl, rfl, rfl, rfl, rfl, rfl, rfl, rfl, rfl, hk⟩ := hbr
    obtain ⟨bl, o, k', b', m', s', t', lo', hi', a', len', cap', kid', ha, hx, six, -⟩ := hin.kid (i := 1) (by omega)
    subst ha
    rw [← hk] at hkid
    simp only [show (1 : Nat) < 2 by omega, if_true, hx, XT.bare, decide_eq_true_eq] at hkid
    obtain ⟨s0, s1, s2, s3, s4, s5, s6, s7, s8⟩ := six
    obtain rfl : tt = ⟨#[43]⟩ := tl_inj ht
    obtain rfl : t' = ⟨#[42]⟩ := tl_inj hkid
    clear hin hx hk hkid ht
    dsimp only [XT.val]
    go_wp2_with fail
    go_ret
    exact ⟨rfl, b1.alloc b1.size _⟩
end Go.Proofs.YtdlfgnmcokdceabDoor
