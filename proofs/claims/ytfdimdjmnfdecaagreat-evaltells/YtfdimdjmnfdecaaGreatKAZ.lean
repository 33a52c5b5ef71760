/- QSt QCmp QRow QAtom: laid together. -/
import Derived.Test.YtfdimdjmnfdecaaGreatKAY
set_option linter.unusedVariables false
set_option linter.unusedSimpArgs false
set_option maxHeartbeats 8000000
namespace Go.Proofs.YtfdimdjmnfdecaaGreat
open Go.RowKit
section
variable {b : Nat} {a : Option Addr} {cap : Nat} {ts : List Tk} {en : Int}
abbrev St := Nat ⊕ (Int × Nat)
def QS (b : Nat) (a : Option Addr) (cap : Nat) (ts : List Tk) (en : Int) (w : World) (k : Nat) (s : St) : Prop :=
 match s with
 | .inl kk => k ≤ kk ∧ Qd b a cap ts en w kk 0 0
 | .inr (c, kc) => (c != 0) = true ∧ ∃ k2, k ≤ k2 ∧ Qd b a cap ts en w k2 c (posT ts kc en)
def mustS (ts : List Tk) (ms : List Mk) : St → St
 | .inl k => match fnd ts k ms with
  | some _ => .inl (k + 1)
  | none => .inr (2, k)
 | .inr x => .inr x
def mustM (ts : List Tk) (ms : List Mk) : St → Mk
 | .inl k => (fnd ts k ms).getD []
 | .inr _ => []
def exprS (e1 : Nat → RX) : St → St
 | .inl k => match e1 k with
  | .ok _ k' => .inl k'
  | .er c k' => .inr (c, k')
 | .inr x => .inr x
def exprX (e1 : Nat → RX) : St → XT
 | .inl k => match e1 k with
  | .ok x _ => x
  | .er _ _ => zX
 | .inr _ => zX
def isOk : St → Prop
 | .inl _ => True
 | .inr _ => False
theorem QS.below {w w' : World} {k : Nat} {s : St} (h : QS b a cap ts en w k s) (hb : Below w.heap.size w w') : QS b a cap ts en w' k s := by
 cases s with
 | inl kk => exact ⟨h.1, h.2.below hb⟩
 | inr x => obtain ⟨hc, k2, hk, hq⟩ := h; exact ⟨hc, k2, hk, hq.below hb⟩
theorem QS.alloc {w : World} {k : Nat} {s : St} (h : QS b a cap ts en w k s) (o : Obj) : QS b a cap ts en (w.alloc o) k s := h.below (below1 w o)
theorem QS.own8 {w w0 : World} {k k0 : Nat} {e0 p0 : Int} {s : St} (h : QS b a cap ts en w k s) (h0 : Qd b a cap ts en w0 k0 e0 p0) {r : Nat} (hr : w0.heap.size ≤ r) (v0 v1 v2 v3 v4 v5 v6 v7 : Value) : QS b a cap ts en ((((((((w.setCell ⟨r, 0, none⟩ v0).setCell ⟨r, 1, none⟩ v1).setCell ⟨r, 2, none⟩ v2).setCell ⟨r, 3, none⟩ v3).setCell ⟨r, 4, none⟩ v4).setCell ⟨r, 5, none⟩ v5).setCell ⟨r, 6, none⟩ v6).setCell ⟨r, 7, none⟩ v7) k s := by
 cases s with
 | inl kk => exact ⟨h.1, h.2.own8 h0 hr _ _ _ _ _ _ _ _⟩
 | inr x => obtain ⟨hc, k2, hk, hq⟩ := h; exact ⟨hc, k2, hk, hq.own8 h0 hr _ _ _ _ _ _ _ _⟩
theorem QS.lt {w : World} {k : Nat} {s : St} (h : QS b a cap ts en w k s) : b < w.heap.size := by
 cases s with
 | inl kk => exact h.2.lt
 | inr x => obtain ⟨hc, k2, hk, hq⟩ := h; exact hq.lt
def resOf (s : St) (x : XT) : RX := match s with
 | .inl k => .ok x k
 | .inr (c, k) => .er c k
theorem QS.post {w w' : World} {k : Nat} {s : St} {x T : XT} (m : Mv b w w') (h : QS b a cap ts en w' k s) (hin : T.In (Fr w.heap.size) w') (hb : isOk s → T.bare = x) : QPost b a cap ts en (resOf s x) k w (.returned T.val) w' := by
 cases s with
 | inl kk => exact ⟨m, h.1, h.2, T, rfl, hin, hb trivial⟩
 | inr y => obtain ⟨hc, k2, hk, hq⟩ := h; exact ⟨m, hc, k2, hk, hq, T, rfl, hin⟩
theorem must_ok {ms : List Mk} {s : St} (h : isOk (mustS ts ms s)) : isOk s := by
 cases s with
 | inl _ => trivial
 | inr _ => exact h
theorem expr_ok {e1 : Nat → RX} {s : St} (h : isOk (exprS e1 s)) : isOk s := by
 cases s with
 | inl _ => trivial
 | inr _ => exact h
theorem must_s (w : World) (k : Nat) (s : St) (g : Nat) (ms : List Mk) (c : Nat) (R : QS b a cap ts en w k s) (hts : GoodTs ts) (hg : Marks b w g ms) (hne : ∀ m ∈ ms, m ≠ []) :
  Calls Tryz.prog 148 #[.pointer (some ⟨b, 0, none⟩), .slice (some ⟨g, 0, none⟩) ms.length c] w fun e w' => e = .returned (.string ⟨(mustM ts ms s).toArray⟩) ∧ QS b a cap ts en w' k (mustS ts ms s) ∧ Mv b w w' := by
 cases s with
 | inl kk =>
  refine (must_any w kk g ms c R.2 hts hg hne).mono ?_
  intro e w' h
  cases hF : fnd ts kk ms with
  | none =>
   rw [hF] at h
   rw [show mustS ts ms (.inl kk) = .inr (2, kk) by simp [mustS, hF], show mustM ts ms (.inl kk) = [] by simp [mustM, hF]]
   obtain ⟨m, rfl, q⟩ := h
   exact ⟨rfl, ⟨rfl, kk, R.1, q⟩, m⟩
  | some x =>
   rw [hF] at h
   rw [show mustS ts ms (.inl kk) = .inl (kk + 1) by simp [mustS, hF], show mustM ts ms (.inl kk) = x by simp [mustM, hF]]
   obtain ⟨m, rfl, q⟩ := h
   exact ⟨rfl, ⟨by have := R.1; omega, q⟩, m⟩
 | inr y =>
  obtain ⟨c0, kc⟩ := y
  obtain ⟨hc, k2, hk, hq⟩ := R
  refine (must_no w k2 c0 _ g ms c hq hc hts hg).mono ?_
  rintro e w' ⟨rfl, b1⟩
  exact ⟨rfl, ⟨hc, k2, hk, hq.below b1⟩, Mv.of_below b1⟩
theorem expr_old (w : World) (k d : Nat) (x p : Int) (R : Qd b a cap ts en w k x p) (hx : (x != 0) = true) :
  Calls Tryz.prog 72 #[.pointer (some ⟨b, 0, none⟩), .int .i64 (d : Int)] w fun e w' => e = .returned zX.val ∧ Below w.heap.size w w' := by
 have D := hide (deep_old (w.alloc (zO 26)) k d x p (R.alloc _) hx)
 clear R hx
 go_enter Tryz.func72, Tryz.ntmps72
 go_wp2_with fail
 refine (unhide D).mono ?_
 rintro e w1 ⟨rfl, rfl⟩
 go_wp2_with fail
 refine bodyPost_ret (v := .agg #[.int .i64 0, .bool false, .int .i64 0, .int .i64 0, .string ⟨#[]⟩, .bool false, .bool false, .slice none 0 0]) (by simp [results, Tryz.results72, go_sem]) rfl ?_
 exact ⟨rfl, zBL⟩
theorem qexpr_deep (d : Nat) (hts : GoodTs ts) (hd : 8 < d) : QPartOf b a cap ts en 72 d (fun k => .er 12 k) := by
 intro w k R
 have D := hide (deep_er (w.alloc (zO 26)) k d (R.alloc _) hts hd)
 have hlt := R.lt
 have R0 := R
 clear R hts
 go_enter Tryz.func72, Tryz.ntmps72
 go_wp2_with fail
 refine (unhide D).mono ?_
 rintro e w1 ⟨rfl, R1, n1⟩
 obtain ⟨y0, y1, y2, y3, y4, y5, y6, y7, y8, y9⟩ := (ZB.new w 26).mv n1 (by omega)
 have M1 := ((Mv.refl b w).alloc _).trans n1
 clear n1
 go_wp2_with fail
 refine bodyPost_ret (v := .agg #[.int .i64 0, .bool false, .int .i64 0, .int .i64 0, .string ⟨#[]⟩, .bool false, .bool false, .slice none 0 0]) (by simp [results, Tryz.results72, go_sem, y0, y1, y2, y3, y4, y5, y6, y7, y8]) rfl ?_
 exact qpost_er (B := w.heap.size + 1) (k' := k) (k2 := k) M1 rfl (Nat.le_refl _) R1 R0 (Nat.le_refl _) (by omega) (zX_in _ _) _ _ _ _ _ _ _ _
theorem qunary_deep (d : Nat) (hts : GoodTs ts) (hd : 8 < d) : QPartOf b a cap ts en 153 d (fun k => .er 12 k) := by
 intro w k R
 have D := hide (deep_er (w.alloc (zO 26)) k d (R.alloc _) hts hd)
 have hlt := R.lt
 have R0 := R
 clear R hts
 go_enter Tryz.func153, Tryz.ntmps153
 go_wp2_with fail
 refine (unhide D).mono ?_
 rintro e w1 ⟨rfl, R1, n1⟩
 obtain ⟨y0, y1, y2, y3, y4, y5, y6, y7, y8, y9⟩ := (ZB.new w 26).mv n1 (by omega)
 have M1 := ((Mv.refl b w).alloc _).trans n1
 clear n1
 go_wp2_with fail
 refine bodyPost_ret (v := .agg #[.int .i64 0, .bool false, .int .i64 0, .int .i64 0, .string ⟨#[]⟩, .bool false, .bool false, .slice none 0 0]) zR153y0y1y2y3y4y5y6y7y8 rfl ?_
 exact qpost_er (B := w.heap.size + 1) (k' := k) (k2 := k) M1 rfl (Nat.le_refl _) R1 R0 (Nat.le_refl _) (by omega) (zX_in _ _) _ _ _ _ _ _ _ _
theorem expr_s (d : Nat) (e1 : Nat → RX) (hp : QPartOf b a cap ts en 72 d e1) (w : World) (k : Nat) (s : St) (R : QS b a cap ts en w k s) :
  Calls Tryz.prog 72 #[.pointer (some ⟨b, 0, none⟩), .int .i64 (d : Int)] w fun e w' => ∃ T : XT, e = .returned T.val ∧ T.In (Fr w.heap.size) w' ∧ (isOk (exprS e1 s) → T.bare = exprX e1 s) ∧ QS b a cap ts en w' k (exprS e1 s) ∧ Mv b w w' := by
 cases s with
 | inl kk =>
  refine (hp w kk R.2).mono ?_
  intro e w' h
  cases hE : e1 kk with
  | ok x k' =>
   rw [hE] at h
   rw [show exprS e1 (.inl kk) = .inl k' by simp [exprS, hE], show exprX e1 (.inl kk) = x by simp [exprX, hE]]
   obtain ⟨m, hk, q, T, rfl, hin, hbr⟩ := h
   exact ⟨T, rfl, hin, fun _ => hbr, ⟨Nat.le_trans R.1 hk, q⟩, m⟩
  | er c k' =>
   rw [hE] at h
   rw [show exprS e1 (.inl kk) = .inr (c, k') by simp [exprS, hE]]
   obtain ⟨m, hc, k2, hk, q, T, rfl, hin⟩ := h
   exact ⟨T, rfl, hin, (fun h => absurd h (by simp [isOk, exprS])), ⟨hc, k2, Nat.le_trans R.1 hk, q⟩, m⟩
 | inr y =>
  obtain ⟨c0, kc⟩ := y
  obtain ⟨hc, k2, hk, hq⟩ := R
  refine (expr_old w k2 d c0 _ hq hc).mono ?_
  rintro e w' ⟨rfl, b1⟩
  exact ⟨zX, rfl, zX_in _ _, (fun h => absurd h (by simp [isOk, exprS])), ⟨hc, k2, hk, hq.below b1⟩, Mv.of_below b1⟩
end
section
variable {b : Nat} {a : Option Addr} {cap : Nat} {ts : List Tk} {en : Int}
theorem rel_in {k : Nat} {op : Mk} (h : fnd ts k mRels = some op) : mkB ts k mIn = false := by
 have h1 : mkB ts k op = true := by
  have key : ∀ l : List Mk, fnd ts k l = some op → mkB ts k op = true := by
   intro l
   induction l with
   | nil => intro h; cases h
   | cons m l ih =>
    intro h
    rw [fnd] at h
    split at h
    ·cases h; assumption
    ·exact ih h
  exact key _ h
 have h2 := (fnd_lt h).2
 have hw : wordB op = false := by simp [mRels] at h2; rcases h2 with rfl | rfl | rfl | rfl | rfl | rfl <;> rfl
 rw [mkB_tok, hw] at h1
 rw [mkB_tok, show wordB mIn = true by rfl]
 simp at h1 ⊢
 intro h3
 omega
theorem within_s (e1 : Nat → RX) (x : XT) (k : Nat) :
  withinP ts e1 x k = resOf (mustS ts [[93], [41]] (exprS e1 (mustS ts [mDots] (exprS e1 (mustS ts [[91], [40]] (.inl k))))))
   (inX (mustM ts [[91], [40]] (.inl k) == [91]) (mustM ts [[93], [41]] (exprS e1 (mustS ts [mDots] (exprS e1 (mustS ts [[91], [40]] (.inl k))))) == [93]) x (exprX e1 (mustS ts [[91], [40]] (.inl k))) (exprX e1 (mustS ts [mDots] (exprS e1 (mustS ts [[91], [40]] (.inl k)))))) := by
 unfold withinP behP
 cases h1 : fnd ts k [[91], [40]] with
 | none => simp [mustS, exprS, resOf, h1]
 | some o =>
  cases h2 : e1 (k + 1) with
  | er c k2 => simp [mustS, exprS, resOf, h1, h2]
  | ok x2 k2 =>
   cases h3 : fnd ts k2 [mDots] with
   | none => simp [mustS, exprS, resOf, h1, h2, h3]
   | some m3 =>
    cases h4 : e1 (k2 + 1) with
    | er c k4 => simp [mustS, exprS, resOf, h1, h2, h3, h4]
    | ok x4 k4 =>
     cases h5 : fnd ts k4 [[93], [41]] with
     | none => simp [mustS, exprS, resOf, h1, h2, h3, h4, h5]
     | some c5 => simp [mustS, mustM, exprS, exprX, resOf, h1, h2, h3, h4, h5]
theorem part_s (f d : Nat) (part : Nat → RX) (hp : QPartOf b a cap ts en f d part) (w : World) (k : Nat) (R : Qd b a cap ts en w k 0 0) :
  Calls Tryz.prog f #[.pointer (some ⟨b, 0, none⟩), .int .i64 (d : Int)] w fun e w' => ∃ T : XT, e = .returned T.val ∧ T.In (Fr w.heap.size) w' ∧ (isOk (exprS part (.inl k)) → T.bare = exprX part (.inl k)) ∧ QS b a cap ts en w' k (exprS part (.inl k)) ∧ Mv b w w' := by
 refine (hp w k R).mono ?_
 intro e w' h
 cases hE : part k with
 | ok x k' =>
  rw [hE] at h
  rw [show exprS part (.inl k) = .inl k' by simp [exprS, hE], show exprX part (.inl k) = x by simp [exprX, hE]]
  obtain ⟨m, hk, q, T, rfl, hin, hbr⟩ := h
  exact ⟨T, rfl, hin, fun _ => hbr, ⟨hk, q⟩, m⟩
 | er c k' =>
  rw [hE] at h
  rw [show exprS part (.inl k) = .inr (c, k') by simp [exprS, hE]]
  obtain ⟨m, hc, k2, hk, q, T, rfl, hin⟩ := h
  exact ⟨T, rfl, hin, (fun h => absurd h (by simp [isOk])), ⟨hc, k2, hk, q⟩, m⟩
theorem cmp_er {ad e1 : Nat → RX} {k k' : Nat} {c : Int} (h : ad k = .er c k') : cmpP ts ad e1 k = .er c k' := by unfold cmpP; rw [h]
theorem cmp_rel {ad e1 : Nat → RX} {k k1 : Nat} {x : XT} {op : Mk} (h : ad k = .ok x k1) (hf : fnd ts k1 mRels = some op) : cmpP ts ad e1 k = resOf (exprS ad (.inl (k1 + 1))) (binX op x (exprX ad (.inl (k1 + 1)))) := by
 unfold cmpP
 rw [h]
 dsimp only
 rw [rel_in hf, if_neg (by decide), hf]
 dsimp only
 cases h2 : ad (k1 + 1) with
 | er c k2 => simp [exprS, resOf, h2]
 | ok y k2 => simp [exprS, exprX, resOf, h2]
theorem cmp_x {ad e1 : Nat → RX} {k k1 : Nat} {x : XT} (h : ad k = .ok x k1) (hf : fnd ts k1 mRels = none) (hi : mkB ts k1 mIn = false) : cmpP ts ad e1 k = .ok x k1 := by
 unfold cmpP
 rw [h]
 dsimp only
 rw [hi, if_neg (by decide), hf]
theorem cmp_in {ad e1 : Nat → RX} {k k1 : Nat} {x : XT} (h : ad k = .ok x k1) (hi : mkB ts k1 mIn = true) : cmpP ts ad e1 k = withinP ts e1 x (k1 + 1) := by
 unfold cmpP
 rw [h]
 dsimp only
 rw [hi, if_pos rfl]
theorem qcmp_any (d : Nat) (ad e1 : Nat → RX) (ha : QPartOf b a cap ts en 147 d ad) (hp : QPartOf b a cap ts en 72 (d + 1) e1) (hts : GoodTs ts) (hd : d ≤ 100) : QPartOf b a cap ts en 132 d (cmpP ts ad e1) := by
 intro w k R
 have R0 := R
 have hlt := R.lt
 have HA := hide ha
 have HP := hide hp
 have HT := hide hts
 clear R ha hp hts
 generalize hRES : cmpP ts ad e1 k = RES
 have HR := hide hRES.symm
 clear hRES
 have z0 := hide (ZB.new w 26)
 go_enter Tryz.func132, Tryz.ntmps132
 go_wp2_with fail
 refine (part_s _ d ad (unhide HA) _ k (R0.alloc _)).mono ?_
 rintro e w1 ⟨T, rfl, hin, hbr, S1, n1⟩
 have Z1 := hide ((unhide z0).mv n1 (by omega))
 have M1 := ((Mv.refl b w).alloc _).trans n1
 have z1 : w.heap.size + 1 ≤ w1.heap.size := by have := n1.size; simpa using this
 have HI1 := hide (hin.weak (Q' := fun g => w.heap.size + 1 ≤ g ∧ g < w1.heap.size) (fun g h1 h2 => by unfold Fr at h2; simp at h2; omega))
 clear z0 n1
 obtain ⟨lk, lb, lm, ls, lt, llo, lhi, la, ll, lc, lkid, rfl⟩ := hin.form
 clear hin
 dsimp only [XT.val]
 have XL := hide (XB.new w1 lk lb lm ls lt llo lhi la ll lc 26)
 cases hA1 : ad k with
 | er c1 k1 =>
  rw [show exprS ad (.inl k) = .inr (c1, k1) by simp [exprS, hA1]] at S1
  have HE := hide ((unhide HR).trans (cmp_er hA1))
  clear HR
  clear hbr hA1
  obtain ⟨hc1, k2, hk2, R1⟩ := S1
  go_wp2_with fail
  refine (tak_no _ k2 c1 _ _ mRels _ ((R1.alloc _).alloc _) hc1 (unhide HT) (Marks.at (by simp) (by simp; omega) (by decide) (by decide))).mono ?_
  rintro e w2 ⟨rfl, b2⟩
  have R2 := ((R1.alloc _).alloc _).below b2
  have M2 := ((M1.alloc _).alloc _).below b2
  have Z2 := hide ((((unhide Z1).alloc _).alloc _).below b2)
  have L2 := hide (((unhide XL).alloc _).below b2)
  have HL2 := hide ((((unhide HI1).alloc _).alloc _).below b2)
  have z2 : w1.heap.size + 2 ≤ w2.heap.size := by have := b2.size; simpa using this
  clear Z1 XL HI1 b2
  go_wp2_with fail
  refine (tak_no _ k2 c1 _ _ [mIn] _ (R2.alloc _) hc1 (unhide HT) (Marks.at rfl R2.lt (by decide) (by decide))).mono ?_
  rintro e w3 ⟨rfl, b3⟩
  have R3 := (R2.alloc _).below b3
  have M3 := (M2.alloc _).below b3
  obtain ⟨y0, y1, y2, y3, y4, y5, y6, y7, y8, y9⟩ := ((unhide Z2).alloc _).below b3
  obtain ⟨q0, q1, q2, q3, q4, q5, q6, q7, q8, q9⟩ := ((unhide L2).alloc _).below b3
  have HL3 := ((unhide HL2).alloc _).below b3
  clear Z2 L2 HL2 b3
  go_wp2_with fail
  refine bodyPost_ret (v := .agg #[.int .i64 lk, .bool lb, .int .i64 lm, .int .i64 ls, .string lt, .bool llo, .bool lhi, .slice la ll lc]) zR132y0y1y2y3y4y5y6y7y8 rfl ?_
  rw [unhide HE]
  exact qpost_er (B := w.heap.size + 1) M3 hc1 hk2 R3 R0 (Nat.le_refl _) (by omega) (HL3.weak (fun g _ hg => by unfold Fr; omega)) _ _ _ _ _ _ _ _
 | ok x1 k1 =>
  rw [show exprS ad (.inl k) = .inl k1 by simp [exprS, hA1]] at S1 hbr
  rw [show exprX ad (.inl k) = x1 by simp [exprX, hA1]] at hbr
  replace hbr := hbr trivial
  obtain ⟨hk1, R1⟩ := S1
  go_wp2_with fail
  refine (tak_any _ k1 _ mRels _ ((R1.alloc _).alloc _) (unhide HT) (Marks.at (by simp) (by simp; omega) (by decide) (by decide))).mono ?_
  cases hF : fnd ts k1 mRels with
  | some op =>
   have HE := hide ((unhide HR).trans (cmp_rel hA1 hF))
   clear HR
   have hop := (fnd_lt hF).2
   have hne : (op == []) = false := by simp [mRels] at hop; rcases hop with rfl | rfl | rfl | rfl | rfl | rfl <;> rfl
   have hne2 : (op != []) = true := by simpa using hne
   clear hF hop hA1
   rintro e w2 ⟨n2, rfl, R2⟩
   have Z2 := hide ((((unhide Z1).alloc _).alloc _).mv n2 (by omega))
   have L2 := hide (((unhide XL).alloc _).mv n2 (by omega))
   have HL2 := hide ((((unhide HI1).alloc _).alloc _).mv n2 (fun g hg => by omega))
   have M2 := ((M1.alloc _).alloc _).trans n2
   have z2 : w1.heap.size + 2 ≤ w2.heap.size := by have := n2.size; simpa using this
   clear Z1 XL HI1 n2
   have PC := hide (part_s _ d ad (unhide HA) _ (k1 + 1) R2.drew)
   obtain ⟨q0, q1, q2, q3, q4, q5, q6, q7, q8, q9⟩ := unhide L2
   generalize exprS ad (.inl (k1 + 1)) = s5 at *
   generalize exprX ad (.inl (k1 + 1)) = x5 at *
   go_wp2_with fail
   go_region_with (first
    | (go_at_call 147; refine (unhide PC).mono ?_; rintro e w4 ⟨U, rfl, hinU, hbU, S4, n4'⟩; have n4 : Mv b w2 w4 := ⟨n4'.os, n4'.tape, n4'.output, n4'.size, n4'.block⟩; have L4 := hide ((unhide L2).mv n4 (by omega)); have Z4 := hide ((unhide Z2).mv n4 (by omega)); have HL4 := hide ((unhide HL2).mv n4 (fun g hg => by omega)); have M4 := M2.trans n4; have z4 := n4.size; have HU := hide hinU; have S4' := hide S4; obtain ⟨uk, ub, um, us, ut, ulo, uhi, ua, ul, uc, ukid, rfl⟩ := hinU.form; clear hinU n4 n4' S4; obtain ⟨v0, v1, v2, v3, v4, v5, v6, v7, v8, v9⟩ := unhide L4; dsimp only [XT.val])
    | (go_at_call 105; refine (qbin_any (Fr (w.heap.size + 1)) (XT.mk lk lb lm ls lt llo lhi la ll lc lkid) (XT.mk uk ub um us ut ulo uhi ua ul uc ukid) _ _ ((unhide HL4).weak (fun g _ hg => by unfold Fr; omega)) ((unhide HU).weak (fun g _ hg => by unfold Fr at hg ⊢; simp at hg; omega)) (fun g hg => by unfold Fr; omega)).mono ?_; rintro e w5 ⟨V, rfl, hinV, hbV, b5⟩; have HV := hide hinV; have Z5 := hide ((unhide Z4).below b5); have M5 := M4.below b5; have S5 := hide ((unhide S4').below b5); obtain ⟨pk, pb, pm, ps, pt, plo, phi, pa, pl, pc, pkid, rfl⟩ := hinV.form; clear hinV; obtain ⟨y0, y1, y2, y3, y4, y5, y6, y7, y8, y9⟩ := unhide Z5; dsimp only [XT.val]))
   all_goals
    go_wp2_with fail
    refine bodyPost_ret (v := .agg #[.int .i64 pk, .bool pb, .int .i64 pm, .int .i64 ps, .string pt, .bool plo, .bool phi, .slice pa pl pc]) zR132y0y1y2y3y4y5y6y7y8 rfl ?_
    rw [unhide HE]
    have S6 := unhide S5
    have hin6 := unhide HV
    cases s5 with
    | inl k5 => exact qpost_ok (B := w.heap.size + 1) M5 S6.2 R0 (by have := S6.1; omega) (Nat.le_refl _) (by omega) hin6 (by rw [hbV, hbr, hbU trivial]) _ _ _ _ _ _ _ _
    | inr y5 =>
     obtain ⟨hc5, k52, hk5, R5⟩ := S6
     exact qpost_er (B := w.heap.size + 1) M5 hc5 (by omega) R5 R0 (Nat.le_refl _) (by omega) hin6 _ _ _ _ _ _ _ _
  | none =>
   rintro e w2 ⟨n2, rfl, R2⟩
   have Z2 := hide ((((unhide Z1).alloc _).alloc _).mv n2 (by omega))
   have L2 := hide (((unhide XL).alloc _).mv n2 (by omega))
   have HL2 := hide ((((unhide HI1).alloc _).alloc _).mv n2 (fun g hg => by omega))
   have M2 := ((M1.alloc _).alloc _).trans n2
   have z2 : w1.heap.size + 2 ≤ w2.heap.size := by have := n2.size; simpa using this
   clear Z1 XL HI1 n2
   go_wp2_with fail
   refine (tak_any _ k1 _ [mIn] _ (R2.alloc _) (unhide HT) (Marks.at rfl R2.lt (by decide) (by decide))).mono ?_
   rw [fnd_one]
   cases hI : mkB ts k1 mIn with
   | false =>
    rw [if_neg (by decide)]
    have HE := hide ((unhide HR).trans (cmp_x hA1 hF hI))
    clear HR
    clear hF hI hA1
    rintro e w3 ⟨n3, rfl, R3⟩
    obtain ⟨y0, y1, y2, y3, y4, y5, y6, y7, y8, y9⟩ := ((unhide Z2).alloc _).mv n3 (by omega)
    obtain ⟨q0, q1, q2, q3, q4, q5, q6, q7, q8, q9⟩ := ((unhide L2).alloc _).mv n3 (by omega)
    have HL3 := ((unhide HL2).alloc _).mv n3 (fun g hg => by omega)
    have M3 := (M2.alloc _).trans n3
    clear Z2 L2 HL2 n3
    go_wp2_with fail
    refine bodyPost_ret (v := .agg #[.int .i64 lk, .bool lb, .int .i64 lm, .int .i64 ls, .string lt, .bool llo, .bool lhi, .slice la ll lc]) zR132y0y1y2y3y4y5y6y7y8 rfl ?_
    rw [unhide HE]
    exact qpost_ok (B := w.heap.size + 1) M3 R3 R0 hk1 (Nat.le_refl _) (by omega) (HL3.weak (fun g _ hg => by unfold Fr; omega)) hbr _ _ _ _ _ _ _ _
   | true =>
    rw [if_pos rfl]
    have HE := hide ((unhide HR).trans ((cmp_in hA1 hI).trans (within_s e1 x1 (k1 + 1))))
    clear HR
    clear hF hI hA1
    rintro e w3 ⟨n3, rfl, R3⟩
    have Z3 := hide (((unhide Z2).alloc _).mv n3 (by omega))
    have L3 := hide (((unhide L2).alloc _).mv n3 (by omega))
    have HL3 := hide (((unhide HL2).alloc _).mv n3 (fun g hg => by omega))
    have M3 := (M2.alloc _).trans n3
    have z3 : w2.heap.size + 1 ≤ w3.heap.size := by have := n3.size; simpa using this
    have Q3 : QS b a cap ts en w3 k (.inl (k1 + 1)) := ⟨by omega, R3⟩
    clear Z2 L2 HL2 n3 R3
    generalize hs0 : (Sum.inl (k1 + 1) : St) = s0 at *
    clear hs0
    dsimp only [mIn]
    go_wp2_with fail
    refine (must_s _ k s0 _ [[91], [40]] _ (Q3.alloc _) (unhide HT) (Marks.at rfl Q3.lt (by decide) (by decide)) (by decide)).mono ?_
    generalize mustM ts [[91], [40]] s0 = m1 at *
    generalize mustS ts [[91], [40]] s0 = s1 at *
    rintro e w4 ⟨rfl, Q4, n4⟩
    have Z4 := hide (((unhide Z3).alloc _).mv n4 (by omega))
    have L4 := hide (((unhide L3).alloc _).mv n4 (by omega))
    have HL4 := hide (((unhide HL3).alloc _).mv n4 (fun g hg => by omega))
    have M4 := (M3.alloc _).trans n4
    have z4 : w3.heap.size + 1 ≤ w4.heap.size := by have := n4.size; simpa using this
    clear Z3 L3 HL3 n4 Q3
    go_wp2_with fail
    refine (expr_s (d + 1) e1 (unhide HP) _ k s1 Q4).mono ?_
    generalize exprX e1 s1 = x2 at *
    generalize exprS e1 s1 = s2 at *
    rintro e w5 ⟨A, rfl, hinA, hbA, Q5, n5⟩
    have Z5 := hide ((unhide Z4).mv n5 (by omega))
    have L5 := hide ((unhide L4).mv n5 (by omega))
    have HL5 := hide ((unhide HL4).mv n5 (fun g hg => by omega))
    have M5 := M4.trans n5
    have z5 := n5.size
    have HA5 := hide (hinA.weak (Q' := fun g => w4.heap.size ≤ g ∧ g < w5.heap.size) (fun g h1 h2 => by unfold Fr at h2; omega))
    clear Z4 L4 HL4 n5 Q4
    obtain ⟨fk, fb, fm, fs, ft, flo, fhi, fa, fl, fc, fkid, rfl⟩ := hinA.form
    clear hinA
    dsimp only [XT.val]
    have XA := hide (XB.new w5 fk fb fm fs ft flo fhi fa fl fc 26)
    go_wp2_with fail
    refine (must_s _ k s2 _ [mDots] _ ((Q5.alloc _).alloc _) (unhide HT) (Marks.at (by simp) (Q5.alloc _).lt (by decide) (by decide)) (by decide)).mono ?_
    have O3 := hide (fun h => must_ok (ts := ts) (ms := [mDots]) (s := s2) h)
    generalize mustM ts [mDots] s2 = m3 at *
    generalize mustS ts [mDots] s2 = s3 at *
    rintro e w6 ⟨rfl, Q6, n6⟩
    have Z6 := hide ((((unhide Z5).alloc _).alloc _).mv n6 (by omega))
    have L6 := hide ((((unhide L5).alloc _).alloc _).mv n6 (by omega))
    have A6 := hide (((unhide XA).alloc _).mv n6 (by omega))
    have HL6 := hide ((((unhide HL5).alloc _).alloc _).mv n6 (fun g hg => by omega))
    have HA6 := hide ((((unhide HA5).alloc _).alloc _).mv n6 (fun g hg => by omega))
    have M6 := ((M5.alloc _).alloc _).trans n6
    have z6 : w5.heap.size + 2 ≤ w6.heap.size := by have := n6.size; simpa using this
    clear Z5 L5 HL5 XA HA5 n6 Q5
    go_wp2_with fail
    refine (expr_s (d + 1) e1 (unhide HP) _ k s3 Q6).mono ?_
    have O4 := hide (fun h => expr_ok (e1 := e1) (s := s3) h)
    generalize exprX e1 s3 = x4 at *
    generalize exprS e1 s3 = s4 at *
    rintro e w7 ⟨C, rfl, hinC, hbC, Q7, n7⟩
    have Z7 := hide ((unhide Z6).mv n7 (by omega))
    have L7 := hide ((unhide L6).mv n7 (by omega))
    have A7 := hide ((unhide A6).mv n7 (by omega))
    have HL7 := hide ((unhide HL6).mv n7 (fun g hg => by omega))
    have HA7 := hide ((unhide HA6).mv n7 (fun g hg => by omega))
    have M7 := M6.trans n7
    have z7 := n7.size
    have HC7 := hide (hinC.weak (Q' := fun g => w6.heap.size ≤ g ∧ g < w7.heap.size) (fun g h1 h2 => by unfold Fr at h2; omega))
    clear Z6 L6 A6 HL6 HA6 n7 Q6
    obtain ⟨hk, hb, hm, hs, ht, hlo, hhi, ha, hl, hc, hkid, rfl⟩ := hinC.form
    clear hinC
    dsimp only [XT.val]
    have XC := hide (XB.new w7 hk hb hm hs ht hlo hhi ha hl hc 26)
    go_wp2_with fail
    refine (must_s _ k s4 _ [[93], [41]] _ ((Q7.alloc _).alloc _) (unhide HT) (Marks.at (by simp) (Q7.alloc _).lt (by decide) (by decide)) (by decide)).mono ?_
    have O5 := hide (fun h => must_ok (ts := ts) (ms := [[93], [41]]) (s := s4) h)
    generalize mustM ts [[93], [41]] s4 = m5 at *
    generalize mustS ts [[93], [41]] s4 = s5 at *
    rintro e w8 ⟨rfl, Q8, n8⟩
    have Z8 := (((unhide Z7).alloc _).alloc _).mv n8 (by omega)
    have L8 := (((unhide L7).alloc _).alloc _).mv n8 (by omega)
    have A8 := (((unhide A7).alloc _).alloc _).mv n8 (by omega)
    have C8 := ((unhide XC).alloc _).mv n8 (by omega)
    have HL8 := (((unhide HL7).alloc _).alloc _).mv n8 (fun g hg => by omega)
    have HA8 := (((unhide HA7).alloc _).alloc _).mv n8 (fun g hg => by omega)
    have HC8 := (((unhide HC7).alloc _).alloc _).mv n8 (fun g hg => by omega)
    have M8 := ((M7.alloc _).alloc _).trans n8
    have z8 : w7.heap.size + 2 ≤ w8.heap.size := by have := n8.size; simpa using this
    clear Z7 L7 A7 XC HL7 HA7 HC7 n8 Q7
    obtain ⟨y0, y1, y2, y3, y4, y5, y6, y7, y8, y9⟩ := Z8
    obtain ⟨p0, p1, p2, p3, p4, p5, p6, p7, p8, p9⟩ := L8
    obtain ⟨q0, q1, q2, q3, q4, q5, q6, q7, q8, q9⟩ := A8
    obtain ⟨r0, r1, r2, r3, r4, r5, r6, r7, r8, r9⟩ := C8
    go_wp2_with fail
    refine bodyPost_ret (v := .agg #[.int .i64 11, .bool false, .int .i64 0, .int .i64 0, .string ⟨#[]⟩, .bool (m1 == [91]), .bool (m5 == [93]), .slice (some ⟨w8.heap.size, 0, none⟩) 3 3]) zR132y0y1y2y3y4y5y6y7y8 rfl ?_
    rw [unhide HE]
    refine QS.post (T := .mk 11 false 0 0 ⟨#[]⟩ (m1 == [91]) (m5 == [93]) (some ⟨w8.heap.size, 0, none⟩) 3 3 (fun i => [XT.mk lk lb lm ls lt llo lhi la ll lc lkid, XT.mk fk fb fm fs ft flo fhi fa fl fc fkid, XT.mk hk hb hm hs ht hlo hhi ha hl hc hkid].getD i .none)) (zMV) ((Q8.own8 R0 (Nat.le_refl _) _ _ _ _ _ _ _ _).alloc _) ?_ ?_
    ·refine in_row (by show w.heap.size ≤ _; omega) [XT.mk lk lb lm ls lt llo lhi la ll lc lkid, XT.mk fk fb fm fs ft flo fhi fa fl fc fkid, XT.mk hk hb hm hs ht hlo hhi ha hl hc hkid] (by simp [maxLen]) (row_block (heap_at (by simp [World.setCell]) _) _ (by simp [mk_cells]) rfl) ?_ 11 false 0 0 ⟨#[]⟩ _ _ 3
     simp only [List.mem_cons, List.not_mem_nil, or_false, forall_eq_or_imp, forall_eq]
     refine ⟨XT.In.weak (Q := fun g => w.heap.size + 1 ≤ g ∧ g < w1.heap.size) ?_ (fun g _ hg => by unfold Fr; omega), XT.In.weak (Q := fun g => w4.heap.size ≤ g ∧ g < w5.heap.size) ?_ (fun g _ hg => by unfold Fr; omega), XT.In.weak (Q := fun g => w6.heap.size ≤ g ∧ g < w7.heap.size) ?_ (fun g _ hg => by unfold Fr; omega)⟩
     ·exact zIN
     ·exact zIN
     ·exact zIN
    ·intro ho
     have h4 := unhide O5 ho
     rw [← hbr, ← hbA (unhide O3 (unhide O4 h4)), ← hbC h4]
     exact XT.bare_mk 11 false 0 0 ⟨#[]⟩ (m1 == [91]) (m5 == [93]) (some ⟨w8.heap.size, 0, none⟩) 3 [XT.mk lk lb lm ls lt llo lhi la ll lc lkid, XT.mk fk fb fm fs ft flo fhi fa fl fc fkid, XT.mk hk hb hm hs ht hlo hhi ha hl hc hkid]
end
section
variable {b : Nat} {a : Option Addr} {cap : Nat} {ts : List Tk} {en : Int}
theorem Qd.grown {w w' w0 : World} {k k0 : Nat} {e p e0 p0 : Int} {row : Option Nat} (h : Qd b a cap ts en w k e p) (h0 : Qd b a cap ts en w0 k0 e0 p0) (hg : w.grownBy w' row) (hr : ∀ k, row = some k → w0.heap.size ≤ k) : Qd b a cap ts en w' k e p := by
 have ee : ∀ g, g < w.heap.size → g < w0.heap.size → w'.heap[g]? = w.heap[g]? := fun g h1 h2 => hg.block g h1 (fun e => by have := hr g e.symm; omega)
 have ec : ∀ g o, g < w.heap.size → g < w0.heap.size → w'.cell? ⟨g, o, none⟩ = w.cell? ⟨g, o, none⟩ := fun g o h1 h2 => World.cell?_of_block (w := w) (ee g h1 h2)
 have hb := h0.lt
 have hb1 := h.lt
 refine ⟨Nat.lt_of_lt_of_le hb1 hg.size, h.le, (ec b 0 hb1 hb).trans h.c0, (ec b 1 hb1 hb).trans h.c1, (ec b 2 hb1 hb).trans h.c2, (ec b 3 hb1 hb).trans h.c3, (ec b 4 hb1 hb).trans h.c4, fun o => (World.frozen?_of_block (w := w) (ee b hb1 hb)).trans (h.fr o), fun i hi => ?_⟩
 obtain ⟨g, hga, hgb, t0, t1, t2, t3⟩ := h.row i hi
 obtain ⟨g', hg', -, s0, -⟩ := h0.row i hi
 obtain rfl : g = g' := by rw [hga] at hg'; simpa using hg'
 exact ⟨g, hga, hgb, Nat.lt_of_lt_of_le t0 hg.size, (ec g _ t0 s0).trans t1, (ec g _ t0 s0).trans t2, (ec g _ t0 s0).trans t3⟩
theorem QS.grown {w w' w0 : World} {k k0 : Nat} {e0 p0 : Int} {s : St} {row : Option Nat} (h : QS b a cap ts en w k s) (h0 : Qd b a cap ts en w0 k0 e0 p0) (hg : w.grownBy w' row) (hr : ∀ k, row = some k → w0.heap.size ≤ k) : QS b a cap ts en w' k s := by
 cases s with
 | inl kk => exact ⟨h.1, h.2.grown h0 hg hr⟩
 | inr x => obtain ⟨hc, k2, hk, hq⟩ := h; exact ⟨hc, k2, hk, hq.grown h0 hg hr⟩
def rowS : RL → St
 | .ok _ k => .inl k
 | .er c k => .inr (c, k)
def rowX : RL → List XT
 | .ok l _ => l
 | .er _ _ => []
def RowPost (b : Nat) (a : Option Addr) (cap : Nat) (ts : List Tk) (en : Int) (R : RL) (k : Nat) (w : World) (e : Ending) (w' : World) : Prop :=
 Mv b w w' ∧ QS b a cap ts en w' k (rowS R) ∧ ∃ (Ts : List XT) (v : Value), e = .returned v ∧ Kids w.heap.size w' v Ts ∧ Ts.length ≤ 1000 ∧ (isOk (rowS R) → Ts.map XT.bare = rowX R)
theorem qrow_any (d : Nat) (e1 : Nat → RX) (hp : QPartOf b a cap ts en 72 (d + 1) e1) (hts : GoodTs ts) (h9 : ts.length ≤ 900) (hd : d ≤ 100) (sh : Mk) (hs0 : (sh == []) = false) (hs1 : ((([44] : Mk)) == sh) = false) (hsl : sh.length ≤ 1000) (w : World) (k : Nat) (R : Qd b a cap ts en w k 0 0) :
  Calls Tryz.prog 156 #[.pointer (some ⟨b, 0, none⟩), .int .i64 (d : Int), .string ⟨sh.toArray⟩] w fun e w' => RowPost b a cap ts en (restP ts e1 sh k) k w e w' := by
 have R0 := R
 have hlt := R.lt
 have HP := hide hp
 have HT := hide hts
 have hn := hts.1
 have hsne : sh ≠ [] := by simpa using hs0
 clear R hp hts
 have HR := hide (restP.eq_1 ts e1 sh k)
 generalize restP ts e1 sh k = RES at *
 go_enter Tryz.func156, Tryz.ntmps156
 go_wp2_with fail
 refine (tak_any _ k _ [sh] _ (R0.alloc _) (unhide HT) (Marks.at (by simp) hlt (by simp) (by simpa using hsl))).mono ?_
 rw [fnd_one]
 cases hF : mkB ts k sh with
 | true =>
  rw [if_pos rfl]
  rw [hF, if_pos rfl] at HR
  clear hF
  rintro e w1 ⟨n1, rfl, R1⟩
  have M1 := ((Mv.refl b w).alloc _).trans n1
  have e0 : (sh != []) = true := by simpa using hs0
  go_wp2_with fail
  go_ret
  rw [unhide HR]
  exact ⟨M1, ⟨by omega, R1⟩, [], _, rfl, Kids.nil _ _, by simp, fun _ => rfl⟩
 | false =>
  rw [if_neg (by decide)]
  rw [hF, if_neg (by decide)] at HR
  clear hF
  rintro e w1 ⟨n1, rfl, R1⟩
  have M1 := ((Mv.refl b w).alloc _).trans n1
  clear n1
  go_wp2_with fail
  go_loopw [7] (fun v wr => ∃ (kk f : Nat) (Ts : List XT), k ≤ kk ∧ Ts.length ≤ kk ∧ ts.length - kk + 1 ≤ f ∧ Qd b a cap ts en wr kk 0 0 ∧ Mv b w wr ∧ Hid (Kids w.heap.size wr v Ts) ∧ Hid (RES = restL ts e1 sh f (Ts.map XT.bare) kk)) (fun _ wr => ts.length - (intOf ((wr.cell? ⟨b, 1, none⟩).getD (.int .i64 0))).toNat)
  case atStart => exact ⟨k, ts.length + 1, [], Nat.le_refl _, Nat.zero_le _, by omega, R1, M1, hide (Kids.nil _ _), HR⟩
  case round =>
   clear HR M1 R1
   obtain ⟨kk, f, Ts, hkk, hTl, hf, R2, M2, HK, HR⟩ := hrel
   obtain ⟨f, rfl⟩ : ∃ f', f = f' + 1 := ⟨f - 1, by omega⟩
   have hkn := R2.le
   have hz2 := M2.size
   obtain ⟨ka, kc, rfl⟩ := (unhide HK).form
   go_wp2_with fail
   refine (part_s _ (d + 1) e1 (unhide HP) _ kk R2).mono ?_
   rintro e w3 ⟨T, rfl, hin, hbr, S3, n3⟩
   have M3 := M2.trans n3
   have hz3 := n3.size
   have HK3 := hide ((unhide HK).mv n3 hlt)
   have HI3 := hide (hin.weak (Q' := fun h => w.heap.size ≤ h ∧ some h ≠ (Value.slice ka Ts.length kc).ownBlock) (fun g h1 h2 => by
    unfold Fr at h2
    refine ⟨by omega, fun e => ?_⟩
    have := (unhide HK).lt g e.symm
    omega))
   clear n3 HK
   obtain ⟨xk, xb, xm, xs, xt, xlo, xhi, xa, xl, xc, xkid, rfl⟩ := hin.form
   clear hin
   dsimp only [XT.val]
   go_wp2_with (at_builtin; go_must (refine wpList_x rfl _ _ rfl w.heap.size _ Ts rfl ((unhide HK3).alloc _) w3.heap.size ((unhide HI3).alloc _) rfl (XB.at (by simp)) (by omega) (by simp; omega) ?_); intro v' w4 K4 gr4)
   have hown : ∀ g, (Value.slice ka Ts.length kc).ownBlock = some g → w.heap.size ≤ g := fun g hg => ((unhide HK3).lt g hg).1
   have M4 := (M3.alloc _).grown gr4 hown
   have S4 := (S3.alloc _).grown R0 gr4 hown
   have K4' := hide K4
   have z4 := M4.size
   clear K4 gr4 HK3 HI3 hown M3 S3
   refine (must_s _ kk (exprS e1 (.inl kk)) _ [[44], sh] _ (S4.alloc _) (unhide HT) (Marks.at rfl S4.lt (by simp) (by simpa using hsl)) (by simp; exact hsne)).mono ?_
   rintro e w5 ⟨rfl, S5, n5⟩
   have M5 := (M4.alloc _).trans n5
   have K5 := hide (((unhide K4').alloc _).mv n5 hlt)
   have HS4 := hide S4
   clear n5 S4 K4'
   cases hE : e1 kk with
   | er c6 k6 =>
    have HE := hide ((unhide HR).trans (restL_er hE))
    rw [show exprS e1 (.inl kk) = .inr (c6, k6) by simp [exprS, hE]] at S5 ⊢
    rw [show mustS ts [[44], sh] (.inr (c6, k6)) = .inr (c6, k6) by rfl] at S5
    rw [show mustM ts [[44], sh] (.inr (c6, k6)) = [] by rfl]
    clear hE hbr HR
    have S6 := hide S5
    clear S5
    go_wp2_with fail
    go_ret
    rw [unhide HE]
    obtain ⟨hc6, k62, hk62, R6⟩ := unhide S6
    exact ⟨M5, ⟨hc6, k62, by omega, R6⟩, Ts ++ [XT.mk xk xb xm xs xt xlo xhi xa xl xc xkid], _, rfl, unhide K5, by simp; omega, fun h => absurd h (by simp [isOk, rowS])⟩
   | ok x6 k6 =>
    rw [show exprS e1 (.inl kk) = .inl k6 by simp [exprS, hE]] at S5 hbr ⊢
    rw [show exprX e1 (.inl kk) = x6 by simp [exprX, hE]] at hbr
    replace hbr := hbr trivial
    have hk66 : kk ≤ k6 := by
     have h := unhide HS4
     rw [show exprS e1 (.inl kk) = .inl k6 by simp [exprS, hE]] at h
     exact h.1
    clear HS4
    cases hF : fnd ts k6 [[44], sh] with
    | none =>
     have HE := hide ((unhide HR).trans (restL_no hE hF))
     rw [show mustS ts [[44], sh] (.inl k6) = .inr (2, k6) by simp [mustS, hF]] at S5
     rw [show mustM ts [[44], sh] (.inl k6) = [] by simp [mustM, hF]]
     clear hE hF HR
     have S6 := hide S5
     clear S5
     go_wp2_with fail
     go_ret
     rw [unhide HE]
     obtain ⟨hc6, k62, hk62, R6⟩ := unhide S6
     exact ⟨M5, ⟨hc6, k62, by omega, R6⟩, Ts ++ [XT.mk xk xb xm xs xt xlo xhi xa xl xc xkid], _, rfl, unhide K5, by simp; omega, fun h => absurd h (by simp [isOk, rowS])⟩
    | some m =>
     have HE := hide ((unhide HR).trans (restL_go hE hF))
     have hm := (fnd_lt hF).2
     have hkl := (fnd_lt hF).1
     rw [show mustS ts [[44], sh] (.inl k6) = .inl (k6 + 1) by simp [mustS, hF]] at S5
     rw [show mustM ts [[44], sh] (.inl k6) = m by simp [mustM, hF]]
     clear hE hF HR
     obtain ⟨hk6, R6⟩ := S5
     simp only [List.mem_cons, List.not_mem_nil, or_false] at hm
     rcases hm with rfl | rfl
     ·have HE2 := hide (show RES = restL ts e1 sh f ((Ts ++ [XT.mk xk xb xm xs xt xlo xhi xa xl xc xkid]).map XT.bare) (k6 + 1) by
       rw [unhide HE, if_neg (by simpa using hs1), List.map_append]
       simp [hbr])
      clear HE
      go_wp2_with fail
      go_roundw
      case rel => exact ⟨k6 + 1, f, Ts ++ [XT.mk xk xb xm xs xt xlo xhi xa xl xc xkid], by omega, by simp; omega, by omega, R6, M5, K5, HE2⟩
      case measure =>
       rw [R6.c1, R2.c1]
       simp [intOf]
       omega
     ·have HE2 := hide (show RES = .ok ((Ts ++ [XT.mk xk xb xm xs xt xlo xhi xa xl xc xkid]).map XT.bare) (k6 + 1) by
       rw [unhide HE, if_pos rfl, List.map_append]
       simp [hbr])
      clear HE
      have e9 : (m == [44]) = false := by cases hq : (m == [44]) with
       | false => rfl
       | true => rw [eq_of_beq hq] at hs1; cases hs1
      go_wp2_with fail
      go_ret
      rw [unhide HE2]
      exact ⟨M5, ⟨by omega, R6⟩, Ts ++ [XT.mk xk xb xm xs xt xlo xhi xa xl xc xkid], _, rfl, unhide K5, by simp; omega, fun _ => rfl⟩
theorem qunary_any (d : Nat) (u1 e1 : Nat → RX) (hu : QPartOf b a cap ts en 153 (d + 1) u1) (ha : QPartOf b a cap ts en 154 d (atomP ts e1)) (hts : GoodTs ts) (hd : d ≤ 8) : QPartOf b a cap ts en 153 d (unaryP ts u1 e1) := by
 intro w k R
 have R0 := R
 have hlt := R.lt
 have HU := hide hu
 have HA := hide ha
 have HT := hide hts
 clear R ha hts hu
 have HR := hide (unaryP.eq_1 ts u1 e1 k)
 generalize unaryP ts u1 e1 k = RES at *
 have z0 := hide (ZB.new w 26)
 go_enter Tryz.func153, Tryz.ntmps153
 go_wp2_with fail
 refine (deep_ok _ k d (R0.alloc _) hd).mono ?_
 rintro e w0 ⟨rfl, rfl⟩
 go_wp2_with fail
 refine (tak_any _ k _ [[45]] _ ((R0.alloc _).alloc _) (unhide HT) (Marks.at (by simp) (by simp; omega) (by decide) (by decide))).mono ?_
 rw [fnd_one]
 cases hF : mkB ts k [45] with
 | false =>
  rw [if_neg (by decide)]
  rw [hF, if_neg (by decide)] at HR
  clear hF
  rintro e w1 ⟨n1, rfl, R1⟩
  have Z1 := hide (((unhide z0).alloc _).mv n1 (by omega))
  have M1 := (((Mv.refl b w).alloc _).alloc _).trans n1
  have z1 : w.heap.size + 2 ≤ w1.heap.size := by have := n1.size; simpa using this
  clear n1 z0
  go_wp2_with fail
  refine (unhide HA _ k R1).mono ?_
  rw [← unhide HR]
  clear HR
  cases RES with
  | er c9 k9 =>
   rintro e w9 ⟨n9, hc9, k92, hk9, R9, T, rfl, hin⟩
   have M9 := M1.trans n9
   have HIN := hin.weak (Q' := Fr (w.heap.size + 1)) (fun g _ hg => by unfold Fr at hg ⊢; omega)
   obtain ⟨ek, eb, em, es, et, elo, ehi, ea, el, ec, ekid, rfl⟩ := hin.form
   clear hin
   obtain ⟨y0, y1, y2, y3, y4, y5, y6, y7, y8, y9⟩ := (unhide Z1).mv n9 (by omega)
   dsimp only [XT.val]
   go_wp2_with fail
   refine bodyPost_ret (v := .agg #[.int .i64 ek, .bool eb, .int .i64 em, .int .i64 es, .string et, .bool elo, .bool ehi, .slice ea el ec]) zR153y0y1y2y3y4y5y6y7y8 rfl ?_
   exact qpost_er (B := w.heap.size + 1) M9 hc9 hk9 R9 R0 (Nat.le_refl _) (by omega) HIN _ _ _ _ _ _ _ _
  | ok x9 k9 =>
   rintro e w9 ⟨n9, hk9, R9, T, rfl, hin, hbr⟩
   have M9 := M1.trans n9
   have HIN := hin.weak (Q' := Fr (w.heap.size + 1)) (fun g _ hg => by unfold Fr at hg ⊢; omega)
   obtain ⟨ek, eb, em, es, et, elo, ehi, ea, el, ec, ekid, rfl⟩ := hin.form
   clear hin
   obtain ⟨y0, y1, y2, y3, y4, y5, y6, y7, y8, y9⟩ := (unhide Z1).mv n9 (by omega)
   dsimp only [XT.val]
   go_wp2_with fail
   refine bodyPost_ret (v := .agg #[.int .i64 ek, .bool eb, .int .i64 em, .int .i64 es, .string et, .bool elo, .bool ehi, .slice ea el ec]) zR153y0y1y2y3y4y5y6y7y8 rfl ?_
   exact qpost_ok (B := w.heap.size + 1) M9 R9 R0 hk9 (Nat.le_refl _) (by omega) HIN hbr _ _ _ _ _ _ _ _
 | true =>
  rw [if_pos rfl]
  rw [hF, if_pos rfl] at HR
  clear hF
  rintro e w1 ⟨n1, rfl, R1⟩
  have Z1 := hide (((unhide z0).alloc _).mv n1 (by omega))
  have M1 := (((Mv.refl b w).alloc _).alloc _).trans n1
  have z1 : w.heap.size + 2 ≤ w1.heap.size := by have := n1.size; simpa using this
  clear n1 z0
  have HE := hide (show RES = resOf (exprS u1 (.inl (k + 1))) (negX (exprX u1 (.inl (k + 1)))) by
   rw [unhide HR]
   cases h2 : u1 (k + 1) with
   | er c k2 => simp [exprS, resOf, h2]
   | ok y k2 => simp [exprS, exprX, resOf, h2])
  clear HR
  go_wp2_with fail
  refine (part_s _ (d + 1) u1 (unhide HU) _ (k + 1) R1).mono ?_
  generalize exprS u1 (.inl (k + 1)) = s2 at *
  generalize exprX u1 (.inl (k + 1)) = x2 at *
  rintro e w2 ⟨T, rfl, hin, hbr, S2, n2⟩
  have Z2 := (unhide Z1).mv n2 (by omega)
  have M2 := M1.trans n2
  have z2 := n2.size
  have HI := hin.weak (Q' := fun g => w.heap.size + 1 ≤ g) (fun g _ hg => by unfold Fr at hg; omega)
  clear n2 Z1
  obtain ⟨xk, xb, xm, xs, xt, xlo, xhi, xa, xl, xc, xkid, rfl⟩ := hin.form
  clear hin
  obtain ⟨y0, y1, y2, y3, y4, y5, y6, y7, y8, y9⟩ := Z2
  have S2' : QS b a cap ts en w2 k s2 := by
   cases s2 with
   | inl kk => exact ⟨by have := S2.1; omega, S2.2⟩
   | inr q => obtain ⟨hc, k3, hk3, hq⟩ := S2; exact ⟨hc, k3, by omega, hq⟩
  clear S2
  dsimp only [XT.val]
  go_wp2_with fail
  refine bodyPost_ret (v := .agg #[.int .i64 7, .bool false, .int .i64 0, .int .i64 0, .string ⟨#[]⟩, .bool false, .bool false, .slice (some ⟨w2.heap.size, 0, none⟩) 1 1]) zR153y0y1y2y3y4y5y6y7y8 rfl ?_
  rw [unhide HE]
  refine QS.post (T := .mk 7 false 0 0 ⟨#[]⟩ false false (some ⟨w2.heap.size, 0, none⟩) 1 1 (fun i => [XT.mk xk xb xm xs xt xlo xhi xa xl xc xkid].getD i .none)) (zMV) ((S2'.own8 R0 (Nat.le_refl _) _ _ _ _ _ _ _ _).alloc _) ?_ ?_
  ·refine XT.In.weak (Q := fun g => w.heap.size + 1 ≤ g) ?_ (fun g _ hg => by unfold Fr; omega)
   refine in_row (by show w.heap.size + 1 ≤ _; omega) [XT.mk xk xb xm xs xt xlo xhi xa xl xc xkid] (by simp [maxLen]) (row_block (heap_at (by simp [World.setCell]) _) _ (by simp [mk_cells]) rfl) ?_ 7 false 0 0 ⟨#[]⟩ _ _ 1
   simp only [List.mem_cons, List.not_mem_nil, or_false, forall_eq]
   exact zIN
  ·intro ho
   rw [← hbr ho]
   exact XT.bare_mk 7 false 0 0 ⟨#[]⟩ false false (some ⟨w2.heap.size, 0, none⟩) 1 [XT.mk xk xb xm xs xt xlo xhi xa xl xc xkid]
end
section
variable {b : Nat} {a : Option Addr} {cap : Nat} {ts : List Tk} {en : Int}
def XD (w : World) (g : Nat) (m s : Int) : Prop := g < w.heap.size ∧ w.cell? ⟨g, 0, none⟩ = some (.int .i64 m) ∧ w.cell? ⟨g, 1, none⟩ = some (.int .i64 s)
theorem QS.le {w : World} {k k0 : Nat} {s : St} (h : QS b a cap ts en w k s) (hk : k0 ≤ k) : QS b a cap ts en w k0 s := by
 cases s with
 | inl kk => exact ⟨Nat.le_trans hk h.1, h.2⟩
 | inr x => obtain ⟨hc, k2, hk2, hq⟩ := h; exact ⟨hc, k2, Nat.le_trans hk hk2, hq⟩
set_option maxRecDepth 10000 in
theorem qatom_text (d : Nat) (e1 : Nat → RX) (hp : QPartOf b a cap ts en 72 (d + 1) e1) (hts : GoodTs ts) (h9 : ts.length ≤ 900) (hd : d ≤ 8) (w : World) (k : Nat) (R0 : Qd b a cap ts en w k 0 0) (hk : k < ts.length) (tt : List UInt8) (tp : Nat) (hTK : ts[k] = (3, tt, tp)) (hl : tt.length ≤ 1000) :
  Calls Tryz.prog 154 #[.pointer (some ⟨b, 0, none⟩), .int .i64 (d : Int)] w fun e w' => QPost b a cap ts en (.ok (textX tt) (k + 1)) k w e w' := by
 have hlt := R0.lt
 have hn := hts.1
 have HT := hide hts
 have HP := hide hp
 clear hts hp
 obtain ⟨g, rfl, hgb, h0, h1, h2, h3⟩ := R0.row k hk
 have hkl : ¬ (ts.length : Int) ≤ (k : Int) := by omega
 have ez := ZB.new w 26
 have RA := R0.alloc (zO 26)
 obtain ⟨ra, rb, hc0, hc1, hc2, hc3, hc4, hfr, -⟩ := RA
 obtain ⟨ta, tb, tc, td⟩ := (show Tok3 w g (k * 3) ts[k] from ⟨h0, h1, h2, h3⟩).below (below1 w (zO 26))
 rw [hTK] at tb tc td
 dsimp only at tb tc td
 have RH := hide R0
 have b0 := below1 w (zO 26)
 clear h0 h1 h2 h3
 go_enter Tryz.func154, Tryz.ntmps154
 go_wp2_with fail
 go_quiet (fail)
 go_wp2_with fail
 have BV : Below w.heap.size w ((w.alloc (zO 26)).drewN nq) := below_dN b0 nq
 have zV : w.heap.size + 1 ≤ ((w.alloc (zO 26)).drewN nq).heap.size := by show _ ≤ (w.alloc (zO 26)).heap.size; simp
 have lV : b < ((w.alloc (zO 26)).drewN nq).heap.size := ra
 have gV : g < ((w.alloc (zO 26)).drewN nq).heap.size := ta
 have u0 : ((w.alloc (zO 26)).drewN nq).cell? ⟨b, 0, none⟩ = _ := hc0
 have u1 : ((w.alloc (zO 26)).drewN nq).cell? ⟨b, 1, none⟩ = _ := hc1
 have v1 : ((w.alloc (zO 26)).drewN nq).cell? ⟨g, k * 3, none⟩ = _ := tb
 have v2 : ((w.alloc (zO 26)).drewN nq).cell? ⟨g, k * 3 + 1, none⟩ = _ := tc
 have v3 : ((w.alloc (zO 26)).drewN nq).cell? ⟨g, k * 3 + 2, none⟩ = _ := td
 have fV : ∀ o, ((w.alloc (zO 26)).drewN nq).frozen? ⟨b, o, none⟩ = false := hfr
 have ZV := hide (ez.below (below_dN (Below.refl _ _) nq))
 have RV := hide ((R0.alloc (zO 26)).drewN nq)
 generalize (w.alloc (zO 26)).drewN nq = V at *
 clear hc0 hc1 hc2 hc3 hc4 hfr ra rb ta tb tc td ez b0
 go_region
 all_goals
  obtain ⟨y0, y1, y2, y3, y4, y5, y6, y7, y8, y9⟩ := unhide ZV
  go_wp2_with fail
  refine bodyPost_ret (v := .agg #[.int .i64 4, .bool false, .int .i64 0, .int .i64 0, .string ⟨tt.toArray⟩, .bool false, .bool false, .slice none 0 0]) zR154y0y1y2y3y4y5y6y7y8 rfl ?_
  have hP := (unhide RV).put (k' := k + 1) (by omega)
  rw [show (((k + 1 : Nat)) : Int) = (k : Int) + 1 by omega] at hP
  have MV := Mv.of_below (b := b) BV
  exact ⟨zMV, by omega, zQDR0, _, rfl, in_leaf _ _ _ _ _ _ _, leaf_bare _ _ _ _ _ _ _⟩
set_option maxRecDepth 10000 in
theorem qatom_num (d : Nat) (e1 : Nat → RX) (hp : QPartOf b a cap ts en 72 (d + 1) e1) (hts : GoodTs ts) (h9 : ts.length ≤ 900) (hd : d ≤ 8) (w : World) (k : Nat) (R0 : Qd b a cap ts en w k 0 0) (hk : k < ts.length) (tt : List UInt8) (tp : Nat) (hTK : ts[k] = (2, tt, tp)) (hl : tt.length ≤ 1000) :
  Calls Tryz.prog 154 #[.pointer (some ⟨b, 0, none⟩), .int .i64 (d : Int)] w fun e w' => QPost b a cap ts en (numP tt k) k w e w' := by
 have hlt := R0.lt
 have hn := hts.1
 have HT := hide hts
 have HP := hide hp
 clear hts hp
 have HR := hide (numP.eq_1 tt k)
 generalize numP tt k = RES at *
 have P := hide (fun w => rdec_any tt hl w)
 generalize decP tt = D at *
 obtain ⟨dm, ds, de⟩ := D
 dsimp only at P HR
 obtain ⟨g, rfl, hgb, h0, h1, h2, h3⟩ := R0.row k hk
 have hkl : ¬ (ts.length : Int) ≤ (k : Int) := by omega
 have ez := ZB.new w 26
 have RA := R0.alloc (zO 26)
 obtain ⟨ra, rb, hc0, hc1, hc2, hc3, hc4, hfr, -⟩ := RA
 obtain ⟨ta, tb, tc, td⟩ := (show Tok3 w g (k * 3) ts[k] from ⟨h0, h1, h2, h3⟩).below (below1 w (zO 26))
 rw [hTK] at tb tc td
 dsimp only at tb tc td
 have RH := hide R0
 have b0 := below1 w (zO 26)
 clear h0 h1 h2 h3
 go_enter Tryz.func154, Tryz.ntmps154
 go_wp2_with fail
 go_quiet (fail)
 go_wp2_with fail
 have BV : Below w.heap.size w ((w.alloc (zO 26)).drewN nq) := below_dN b0 nq
 have zV : w.heap.size + 1 ≤ ((w.alloc (zO 26)).drewN nq).heap.size := by show _ ≤ (w.alloc (zO 26)).heap.size; simp
 have lV : b < ((w.alloc (zO 26)).drewN nq).heap.size := ra
 have gV : g < ((w.alloc (zO 26)).drewN nq).heap.size := ta
 have u0 : ((w.alloc (zO 26)).drewN nq).cell? ⟨b, 0, none⟩ = _ := hc0
 have u1 : ((w.alloc (zO 26)).drewN nq).cell? ⟨b, 1, none⟩ = _ := hc1
 have v1 : ((w.alloc (zO 26)).drewN nq).cell? ⟨g, k * 3, none⟩ = _ := tb
 have v2 : ((w.alloc (zO 26)).drewN nq).cell? ⟨g, k * 3 + 1, none⟩ = _ := tc
 have v3 : ((w.alloc (zO 26)).drewN nq).cell? ⟨g, k * 3 + 2, none⟩ = _ := td
 have fV : ∀ o, ((w.alloc (zO 26)).drewN nq).frozen? ⟨b, o, none⟩ = false := hfr
 have ZV := hide (ez.below (below_dN (Below.refl _ _) nq))
 have RV := hide ((R0.alloc (zO 26)).drewN nq)
 generalize (w.alloc (zO 26)).drewN nq = V at *
 clear hc0 hc1 hc2 hc3 hc4 hfr ra rb ta tb tc td ez b0
 go_region
 all_goals
  go_wp2_with fail
  refine (unhide P _).mono ?_
  rintro e w2 ⟨rfl, b2⟩
  have MV := Mv.of_below (b := b) BV
  have M2 := (MV.alloc _).drew.below b2
  have R2 := ((unhide RV).alloc _).drew.below b2
  have Z2 := hide ((((unhide ZV).alloc _).below (Below.refl _ _).drew).below b2)
  have z2 : V.heap.size + 1 ≤ w2.heap.size := by have := b2.size; simpa using this
  clear b2 u0 u1 v1 v2 v3 fV ZV RV MV
  by_cases hde : de = 0
  ·subst hde
   rw [if_pos rfl] at HR
   have R2' := hide R2
   obtain ⟨y0, y1, y2, y3, y4, y5, y6, y7, y8, y9⟩ := unhide Z2
   obtain ⟨q1, q2, q3, q4, q5, q6, q7, q8, -⟩ := R2
   go_wp2_with fail
   refine bodyPost_ret (v := .agg #[.int .i64 3, .bool false, .int .i64 dm, .int .i64 ds, .string ⟨#[]⟩, .bool false, .bool false, .slice none 0 0]) zR154y0y1y2y3y4y5y6y7y8 rfl ?_
   rw [unhide HR]
   have hP := (unhide R2').put (k' := k + 1) (by omega)
   rw [show (((k + 1 : Nat)) : Int) = (k : Int) + 1 by omega] at hP
   exact ⟨zMV, by omega, zQDR0, _, rfl, in_leaf _ _ _ _ _ _ _, leaf_bare _ _ _ _ _ _ _⟩
  ·rw [if_neg hde] at HR
   have hde' : (de != 0) = true := by simpa using hde
   clear hde
   have DB : XD (w2.alloc (Obj.cells #[.int .i64 dm, .int .i64 ds] 23)) w2.heap.size dm ds := ⟨by simp, by go_simp, by go_simp⟩
   go_wp2_with fail
   refine (fail_new _ k de (R2.alloc _) (unhide HT)).mono ?_
   rintro e w3 ⟨⟨v, rfl⟩, R3, n3⟩
   have M3 := (M2.alloc _).trans n3
   obtain ⟨y0, y1, y2, y3, y4, y5, y6, y7, y8, y9⟩ := ((unhide Z2).alloc _).mv n3 (by omega)
   obtain ⟨d0, d1, d2⟩ := DB
   have d1' := n3.kc d0 (by omega) d1
   have d2' := n3.kc d0 (by omega) d2
   have z3 : w2.heap.size + 1 ≤ w3.heap.size := by have := n3.size; simpa using this
   have hne : w2.heap.size ≠ b := by omega
   have hne' : ¬ b = w2.heap.size := by omega
   clear d0 d1 d2 Z2 n3
   have R3' := hide R3
   obtain ⟨q1, q2, q3, q4, q5, q6, q7, q8, -⟩ := R3
   go_wp2_with fail
   refine bodyPost_ret (v := .agg #[.int .i64 3, .bool false, .int .i64 dm, .int .i64 ds, .string ⟨#[]⟩, .bool false, .bool false, .slice none 0 0]) zR154y0y1y2y3y4y5y6y7y8 rfl ?_
   rw [unhide HR]
   have hP := (unhide R3').put (k' := k + 1) (by omega)
   rw [show (((k + 1 : Nat)) : Int) = (k : Int) + 1 by omega] at hP
   exact ⟨zMV, hde', k + 1, by omega, zQDR0, _, rfl, in_leaf _ _ _ _ _ _ _⟩
set_option maxRecDepth 10000 in
theorem qatom_name (d : Nat) (e1 : Nat → RX) (hp : QPartOf b a cap ts en 72 (d + 1) e1) (hts : GoodTs ts) (h9 : ts.length ≤ 900) (hd : d ≤ 8) (w : World) (k : Nat) (R0 : Qd b a cap ts en w k 0 0) (hk : k < ts.length) (tt : List UInt8) (tp : Nat) (hTK : ts[k] = (1, tt, tp)) (hl : tt.length ≤ 1000) (hw : wordB tt = false) :
  Calls Tryz.prog 154 #[.pointer (some ⟨b, 0, none⟩), .int .i64 (d : Int)] w fun e w' => QPost b a cap ts en (namedP ts e1 tt (k + 1)) k w e w' := by
 have hlt := R0.lt
 have hn := hts.1
 have HT := hide hts
 have HP := hide hp
 clear hts hp
 have HR := hide (namedP.eq_1 ts e1 tt (k + 1))
 generalize namedP ts e1 tt (k + 1) = RES at *
 have WD := hide (fun w => rword_any tt w hl)
 rw [hw] at WD
 clear hw
 obtain ⟨g, rfl, hgb, h0, h1, h2, h3⟩ := R0.row k hk
 have hkl : ¬ (ts.length : Int) ≤ (k : Int) := by omega
 have ez := ZB.new w 26
 have RA := R0.alloc (zO 26)
 obtain ⟨ra, rb, hc0, hc1, hc2, hc3, hc4, hfr, -⟩ := RA
 obtain ⟨ta, tb, tc, td⟩ := (show Tok3 w g (k * 3) ts[k] from ⟨h0, h1, h2, h3⟩).below (below1 w (zO 26))
 rw [hTK] at tb tc td
 dsimp only at tb tc td
 have RH := hide R0
 have b0 := below1 w (zO 26)
 clear h0 h1 h2 h3
 go_enter Tryz.func154, Tryz.ntmps154
 go_wp2_with fail
 go_quiet (fail)
 go_wp2_with fail
 have BV : Below w.heap.size w ((w.alloc (zO 26)).drewN nq) := below_dN b0 nq
 have zV : w.heap.size + 1 ≤ ((w.alloc (zO 26)).drewN nq).heap.size := by show _ ≤ (w.alloc (zO 26)).heap.size; simp
 have lV : b < ((w.alloc (zO 26)).drewN nq).heap.size := ra
 have gV : g < ((w.alloc (zO 26)).drewN nq).heap.size := ta
 have u0 : ((w.alloc (zO 26)).drewN nq).cell? ⟨b, 0, none⟩ = _ := hc0
 have u1 : ((w.alloc (zO 26)).drewN nq).cell? ⟨b, 1, none⟩ = _ := hc1
 have v1 : ((w.alloc (zO 26)).drewN nq).cell? ⟨g, k * 3, none⟩ = _ := tb
 have v2 : ((w.alloc (zO 26)).drewN nq).cell? ⟨g, k * 3 + 1, none⟩ = _ := tc
 have v3 : ((w.alloc (zO 26)).drewN nq).cell? ⟨g, k * 3 + 2, none⟩ = _ := td
 have fV : ∀ o, ((w.alloc (zO 26)).drewN nq).frozen? ⟨b, o, none⟩ = false := hfr
 have ZV := hide (ez.below (below_dN (Below.refl _ _) nq))
 have RV := hide ((R0.alloc (zO 26)).drewN nq)
 generalize (w.alloc (zO 26)).drewN nq = V at *
 clear hc0 hc1 hc2 hc3 hc4 hfr ra rb ta tb tc td ez b0
 go_region
 all_goals
  go_wp2_with fail
  refine (unhide WD _).mono ?_
  rintro e w2 ⟨rfl, b2⟩
  have MV := Mv.of_below (b := b) BV
  have M2 := (MV.alloc _).drew.below b2
  have R2 := ((unhide RV).alloc _).drew.below b2
  have Z2 := hide ((((unhide ZV).alloc _).below (Below.refl _ _).drew).below b2)
  have z2 : V.heap.size + 1 ≤ w2.heap.size := by have := b2.size; simpa using this
  have t1 : w2.cell? ⟨V.heap.size, 1, none⟩ = some (.string ⟨tt.toArray⟩) := ((bcell b2).1 _ _ (by simp)).trans (by go_simp)
  clear b2 u0 u1 v1 v2 v3 fV ZV RV MV
  have R2' := hide R2
  obtain ⟨q1, q2, q3, q4, q5, q6, q7, q8, -⟩ := R2
  go_wp2_with fail
  have hP := (unhide R2').put (k' := k + 1) (by omega)
  rw [show (((k + 1 : Nat)) : Int) = (k : Int) + 1 by omega] at hP
  have zP : (w2.setCell ⟨b, 1, none⟩ (.int .i64 ((k : Int) + 1))).heap.size = w2.heap.size := by simp [World.setCell]
  refine (tak_any _ (k + 1) _ [[40]] _ (hP.alloc _) (unhide HT) (Marks.at (by simp [World.setCell]) (by simp [World.setCell]; omega) (by decide) (by decide))).mono ?_
  have m2 := (Mv.refl b w2).put 1 (.int .i64 ((k : Int) + 1))
  rw [fnd_one]
  cases hF : mkB ts (k + 1) [40] with
  | false =>
   rw [if_neg (by decide)]
   rw [hF, if_neg (by decide)] at HR
   clear hF
   rintro e w3 ⟨n3, rfl, R3⟩
   have m3 := (m2.alloc _).trans n3
   have M3 := M2.trans m3
   obtain ⟨y0, y1, y2, y3, y4, y5, y6, y7, y8, y9⟩ := (unhide Z2).mv m3 (by omega)
   have t3 := m3.kc (by omega) (by omega) t1
   clear n3 m3 Z2 t1 q1 q2 q3 q4 q5 q6 q7 q8
   go_wp2_with fail
   refine bodyPost_ret (v := .agg #[.int .i64 5, .bool false, .int .i64 0, .int .i64 0, .string ⟨tt.toArray⟩, .bool false, .bool false, .slice none 0 0]) zR154y0y1y2y3y4y5y6y7y8 rfl ?_
   rw [unhide HR]
   exact ⟨zMV, by omega, zQDR0, _, rfl, in_leaf _ _ _ _ _ _ _, leaf_bare _ _ _ _ _ _ _⟩
  | true =>
   rw [if_pos rfl]
   rw [hF, if_pos rfl] at HR
   clear hF
   rintro e w3 ⟨n3, rfl, R3⟩
   have m3 := (m2.alloc _).trans n3
   have M3 := M2.trans m3
   have Z3 := hide ((unhide Z2).mv m3 (by omega))
   have t3 := m3.kc (by omega) (by omega) t1
   have z3 := m3.size
   clear n3 m3 Z2 t1 q1 q2 q3 q4 q5 q6 q7 q8
   have HE := hide (show RES = resOf (rowS (restP ts e1 [41] (k + 2))) (callX tt (rowX (restP ts e1 [41] (k + 2)))) by
    rw [unhide HR]
    cases restP ts e1 [41] (k + 1 + 1) <;> rfl)
   clear HR
   have RW := hide (qrow_any d e1 (unhide HP) (unhide HT) h9 (by omega) [41] rfl rfl (by decide) w3.drew (k + 2) R3.drew)
   generalize restP ts e1 [41] (k + 2) = RL0 at *
   go_wp2_with fail
   go_region_with ((go_at_call 156; refine (unhide RW).mono ?_; rintro e w4 ⟨n4', S4, Ts, v, rfl, HK, hTl, hbr⟩; have n4 : Mv b w3 w4 := ⟨n4'.os, n4'.tape, n4'.output, n4'.size, n4'.block⟩; have M4 := M3.trans n4; have Z4 := hide ((unhide Z3).mv n4 (by omega)); have t4 := n4.kc (by omega) (by omega) t3; have z4 := n4.size; have S4' := hide S4; have HK4 := hide HK; obtain ⟨ka, kc, rfl⟩ := HK.form; clear HK S4 n4 n4'; obtain ⟨y0, y1, y2, y3, y4, y5, y6, y7, y8, y9⟩ := unhide Z4))
   all_goals
    go_wp2_with fail
    refine bodyPost_ret (v := .agg #[.int .i64 10, .bool false, .int .i64 0, .int .i64 0, .string ⟨tt.toArray⟩, .bool false, .bool false, .slice ka Ts.length kc]) zR154y0y1y2y3y4y5y6y7y8 rfl ?_
    rw [unhide HE]
    obtain ⟨-, HN⟩ := (unhide HK4).node hTl rfl 10 false 0 0 ⟨tt.toArray⟩ false false
    have S5 := (unhide S4').le (k0 := k) (by omega)
    refine QS.post (T := .mk 10 false 0 0 ⟨tt.toArray⟩ false false ka Ts.length kc (fun i => Ts.getD i .none)) (zMV) (S5.own8 R0 (Nat.le_refl _) _ _ _ _ _ _ _ _) ?_ ?_
    ·have HN2 := HN.weak (Q' := fun g => w.heap.size < g) (fun g _ hg => by unfold Fr at hg; simp at hg; omega)
     refine XT.In.weak (Q := fun g => w.heap.size < g) ?_ (fun g _ hg => by unfold Fr; omega)
     exact zIN
    ·intro ho
     rw [XT.bare_mk, hbr ho]
     rfl
set_option maxRecDepth 10000 in
theorem qatom_end (d : Nat) (hts : GoodTs ts) (w : World) (k : Nat) (R0 : Qd b a cap ts en w k 0 0) (hk : ts.length ≤ k) :
  Calls Tryz.prog 154 #[.pointer (some ⟨b, 0, none⟩), .int .i64 (d : Int)] w fun e w' => QPost b a cap ts en (.er 2 k) k w e w' := by
 have hlt := R0.lt
 have hkl : (ts.length : Int) ≤ (k : Int) := by omega
 have HT := hide hts
 have RA := R0.alloc (zO 26)
 have RA' := hide RA
 have ez := ZB.new w 26
 obtain ⟨ra, rb, hc0, hc1, hc2, hc3, hc4, hfr, -⟩ := RA
 have hn := hts.1
 clear hts
 go_enter Tryz.func154, Tryz.ntmps154
 go_wp2_with fail
 go_quiet (fail)
 go_wp2_with fail
 refine (fail_new _ k 2 ((unhide RA').drewN nq) (unhide HT)).mono ?_
 rintro e w3 ⟨⟨v, rfl⟩, R3, n3⟩
 have M3 := (((Mv.refl b w).alloc _).drewN nq).trans n3
 obtain ⟨y0, y1, y2, y3, y4, y5, y6, y7, y8, y9⟩ := (ez.below (below_dN (Below.refl _ _) nq)).mv n3 (by omega)
 clear ra rb hc0 hc1 hc2 hc3 hc4 hfr n3 ez
 go_wp2_with fail
 refine bodyPost_ret (v := .agg #[.int .i64 0, .bool false, .int .i64 0, .int .i64 0, .string ⟨#[]⟩, .bool false, .bool false, .slice none 0 0]) zR154y0y1y2y3y4y5y6y7y8 rfl ?_
 exact qpost_er (B := w.heap.size + 1) (k' := k) (k2 := k) M3 rfl (Nat.le_refl _) R3 R0 (Nat.le_refl _) (by omega) (zX_in _ _) _ _ _ _ _ _ _ _
end
end Go.Proofs.YtfdimdjmnfdecaaGreat
