/- QTak QChain: laid together. -/
import Derived.Test.YtfdimdjmnfdecaaGreatKAX
import Derived.Deep.RegionWith
set_option linter.unusedVariables false
set_option linter.unusedSimpArgs false
set_option maxHeartbeats 8000000
namespace Go.Proofs.YtfdimdjmnfdecaaGreat
open Go.RowKit
section
variable {b : Nat} {a : Option Addr} {cap : Nat} {ts : List Tk} {en : Int}
def TakPost (b : Nat) (a : Option Addr) (cap : Nat) (ts : List Tk) (en : Int) (F : Option Mk) (k : Nat) (w : World) (e : Ending) (w' : World) : Prop :=
 Mv b w w' ∧ match F with
 | none => e = .returned (.string ⟨#[]⟩) ∧ Qd b a cap ts en w' k 0 0
 | some m => e = .returned (.string ⟨m.toArray⟩) ∧ Qd b a cap ts en w' (k + 1) 0 0
theorem tak_any (w : World) (k : Nat) (g : Nat) (ms : List Mk) (c : Nat) (R : Qd b a cap ts en w k 0 0) (hts : GoodTs ts) (hg : Marks b w g ms) :
  Calls Tryz.prog 104 #[.pointer (some ⟨b, 0, none⟩), .slice (some ⟨g, 0, none⟩) ms.length c] w fun e w' => TakPost b a cap ts en (fnd ts k ms) k w e w' := by
 have hn := hg.2.2.1
 have hlt := R.lt
 have RR := hide R
 have HG := hide hg
 have N := hide (fun w m (R : Qd b a cap ts en w k 0 0) hm => qis_any w k m R hts hm)
 have hts' := hts.1
 clear R hg hts
 have HF := hide (show fnd ts k (ms.drop 0) = fnd ts k ms by rw [List.drop_zero])
 generalize fnd ts k ms = F at *
 go_enter Tryz.func104, Tryz.ntmps104
 go_wp2_with fail
 go_loopw [5] (fun v wr => ∃ (i : Nat), i ≤ ms.length ∧ v = .int .i64 i ∧ Below w.heap.size w wr ∧ Hid (fnd ts k (ms.drop i) = F)) (fun v _ => ms.length - (intOf v).toNat)
 case atStart => exact ⟨0, by omega, rfl, Below.refl _ _, HF⟩
 case round =>
  clear HF
  obtain ⟨i, hi, rfl, bel, HF⟩ := hrel
  have R1 := (unhide RR).below bel
  by_cases hil : i < ms.length
  ·obtain ⟨hm, hc⟩ := ((unhide HG).mv (Mv.of_below bel)).2.2.2 i hil
   have G1 := hide ((unhide HG).mv (Mv.of_below (b := b) bel))
   have NX := hide (fun w R => unhide N w _ R hm)
   have HS := hide (fnd_step (ts := ts) (k := k) hil)
   have HL := hide (fun (h : mkB ts k (ms[i]'hil) = true) => mkB_lt h)
   have HC2 := hide (fun (w' : World) (k : Mv b wr w') => (((unhide G1).mv k).2.2.2 i hil).2)
   generalize ms[i] = m at *
   cases hM : mkB ts k m
   ·rw [hM] at NX HS
    have HE := hide (show fnd ts k (ms.drop (i + 1)) = F by rw [← unhide HF, unhide HS]; rfl)
    go_wp2_with fail
    refine (unhide NX _ R1).mono ?_
    rintro e w2 ⟨rfl, b2⟩
    go_wp2_with fail
    go_roundw
    case rel => exact ⟨i + 1, by omega, by go_num, bstep bel b2, HE⟩
    case measure => simp [intOf]; omega
   ·have hkt := unhide HL hM
    rw [hM] at NX HS
    have HE := hide (show some m = F by rw [← unhide HF, unhide HS]; rfl)
    have R0 := hide R1
    go_wp2_with fail
    refine (unhide NX _ R1).mono ?_
    rintro e w2 ⟨rfl, b2⟩
    have R2 := (unhide R0).below b2
    have R2' := hide R2
    have hc2 := unhide HC2 w2 (Mv.of_below b2)
    have hgb := (unhide HG).2.1
    obtain ⟨r1, r2, r3, r4, r5, r6, r7, r8, -⟩ := R2
    clear R1 hc
    have bel2 := bstep bel b2
    go_wp2_with fail
    go_ret
    rw [← unhide HE]
    have hP := (unhide R2').put (k' := k + 1) (by omega)
    rw [show (((k + 1 : Nat)) : Int) = (k : Int) + 1 by omega] at hP
    exact ⟨(Mv.of_below bel2).put 1 _, rfl, hP⟩
  ·have HE := hide (show none = F by rw [← unhide HF, List.drop_eq_nil_of_le (by omega)]; rfl)
   go_wp2_with fail
   go_ret
   rw [← unhide HE]
   exact ⟨Mv.of_below bel, rfl, R1⟩
theorem tak_no (w : World) (k : Nat) (x p : Int) (g : Nat) (ms : List Mk) (c : Nat) (R : Qd b a cap ts en w k x p) (hx : (x != 0) = true) (hts : GoodTs ts) (hg : Marks b w g ms) :
  Calls Tryz.prog 104 #[.pointer (some ⟨b, 0, none⟩), .slice (some ⟨g, 0, none⟩) ms.length c] w fun e w' => e = .returned (.string ⟨#[]⟩) ∧ Below w.heap.size w w' := by
 have hn := hg.2.2.1
 have RR := hide R
 have HG := hide hg
 have N := hide (fun w m (R : Qd b a cap ts en w k x p) => qis_no w k x p m R hts hx)
 clear R hg hts
 go_enter Tryz.func104, Tryz.ntmps104
 go_wp2_with fail
 go_loopw [5] (fun v wr => ∃ (i : Nat), i ≤ ms.length ∧ v = .int .i64 i ∧ Below w.heap.size w wr) (fun v _ => ms.length - (intOf v).toNat)
 case atStart => exact ⟨0, by omega, rfl, Below.refl _ _⟩
 case round =>
  obtain ⟨i, hi, rfl, bel⟩ := hrel
  have R1 := (unhide RR).below bel
  by_cases hil : i < ms.length
  ·obtain ⟨hm, hc⟩ := ((unhide HG).mv (Mv.of_below bel)).2.2.2 i hil
   generalize ms[i] = m at *
   go_wp2_with fail
   refine (unhide N _ _ R1).mono ?_
   rintro e w2 ⟨rfl, b2⟩
   go_wp2_with fail
   go_roundw
   case rel => exact ⟨i + 1, by omega, by go_num, bstep bel b2⟩
   case measure => simp [intOf]; omega
  ·go_wp2_with fail
   go_ret
   exact ⟨rfl, bel⟩
def MustPost (b : Nat) (a : Option Addr) (cap : Nat) (ts : List Tk) (en : Int) (F : Option Mk) (k : Nat) (w : World) (e : Ending) (w' : World) : Prop :=
 Mv b w w' ∧ match F with
 | none => e = .returned (.string ⟨#[]⟩) ∧ Qd b a cap ts en w' k 2 (posT ts k en)
 | some m => e = .returned (.string ⟨m.toArray⟩) ∧ Qd b a cap ts en w' (k + 1) 0 0
theorem must_any (w : World) (k : Nat) (g : Nat) (ms : List Mk) (c : Nat) (R : Qd b a cap ts en w k 0 0) (hts : GoodTs ts) (hg : Marks b w g ms) (hne : ∀ m ∈ ms, m ≠ []) :
  Calls Tryz.prog 148 #[.pointer (some ⟨b, 0, none⟩), .slice (some ⟨g, 0, none⟩) ms.length c] w fun e w' => MustPost b a cap ts en (fnd ts k ms) k w e w' := by
 have P := hide (tak_any w k g ms c R hts hg)
 have HT := hide hts
 have HN := hide hne
 clear R hg hts hne
 cases hF : fnd ts k ms with
 | none =>
  rw [hF] at P
  clear hF
  go_enter Tryz.func148, Tryz.ntmps148
  go_wp2_with fail
  refine (unhide P).mono ?_
  rintro e w1 ⟨n1, rfl, R1⟩
  go_wp2_with fail
  refine (fail_new w1 k 2 R1 (unhide HT)).mono ?_
  rintro e w2 ⟨⟨v, rfl⟩, R2, n2⟩
  go_wp2_with fail
  go_ret
  exact ⟨n1.trans n2, rfl, R2⟩
 | some m =>
  rw [hF] at P
  have hm := unhide HN m (fnd_lt hF).2
  have hmne : (m == []) = false := by simpa using hm
  clear hF hm
  go_enter Tryz.func148, Tryz.ntmps148
  go_wp2_with fail
  refine (unhide P).mono ?_
  rintro e w1 ⟨n1, rfl, R1⟩
  go_wp2_with fail
  go_ret
  exact ⟨n1, rfl, R1⟩
theorem must_no (w : World) (k : Nat) (x p : Int) (g : Nat) (ms : List Mk) (c : Nat) (R : Qd b a cap ts en w k x p) (hx : (x != 0) = true) (hts : GoodTs ts) (hg : Marks b w g ms) :
  Calls Tryz.prog 148 #[.pointer (some ⟨b, 0, none⟩), .slice (some ⟨g, 0, none⟩) ms.length c] w fun e w' => e = .returned (.string ⟨#[]⟩) ∧ Below w.heap.size w w' := by
 have P := hide (tak_no w k x p g ms c R hx hts hg)
 have RR := hide R
 have HX := hide hx
 clear R hg hts hx
 go_enter Tryz.func148, Tryz.ntmps148
 go_wp2_with fail
 refine (unhide P).mono ?_
 rintro e w1 ⟨rfl, b1⟩
 go_wp2_with fail
 refine (fail_old w1 k 2 x p (unhide HX) ((unhide RR).below b1)).mono ?_
 rintro e w2 ⟨⟨v, rfl⟩, rfl⟩
 go_wp2_with fail
 go_ret
 exact ⟨rfl, b1⟩
theorem deep_ok (w : World) (k d : Nat) (R : Qd b a cap ts en w k 0 0) (hd : d ≤ 8) :
  Calls Tryz.prog 102 #[.pointer (some ⟨b, 0, none⟩), .int .i64 (d : Int)] w fun e w' => e = .returned (.bool false) ∧ w' = w := by
 obtain ⟨hlt, hle, hc0, hc1, hc2, hc3, hc4, hfr, -⟩ := R
 go_enter Tryz.func102, Tryz.ntmps102
 go_wp2_with fail
 go_ret
 exact ⟨rfl, rfl⟩
theorem deep_er (w : World) (k d : Nat) (R : Qd b a cap ts en w k 0 0) (hts : GoodTs ts) (hd : 8 < d) :
  Calls Tryz.prog 102 #[.pointer (some ⟨b, 0, none⟩), .int .i64 (d : Int)] w fun e w' => e = .returned (.bool true) ∧ Qd b a cap ts en w' k 12 (posT ts k en) ∧ Mv b w w' := by
 have FN := hide (fail_new w k 12 R hts)
 clear R
 go_enter Tryz.func102, Tryz.ntmps102
 go_wp2_with fail
 refine (unhide FN).mono ?_
 rintro e w1 ⟨⟨v, rfl⟩, R1, n1⟩
 have R1' := hide R1
 obtain ⟨hlt, hle, hc0, hc1, hc2, hc3, hc4, hfr, -⟩ := R1
 go_wp2_with fail
 go_ret
 exact ⟨rfl, unhide R1', n1⟩
theorem deep_old (w : World) (k d : Nat) (x p : Int) (R : Qd b a cap ts en w k x p) (hx : (x != 0) = true) :
  Calls Tryz.prog 102 #[.pointer (some ⟨b, 0, none⟩), .int .i64 (d : Int)] w fun e w' => e = .returned (.bool true) ∧ w' = w := by
 have FO := hide (fail_old w k 12 x p hx R)
 obtain ⟨hlt, hle, hc0, hc1, hc2, hc3, hc4, hfr, -⟩ := R
 by_cases hd : 8 < d
 ·go_enter Tryz.func102, Tryz.ntmps102
  go_wp2_with fail
  refine (unhide FO).mono ?_
  rintro e w1 ⟨⟨v, rfl⟩, rfl⟩
  go_wp2_with fail
  go_ret
  exact ⟨rfl, rfl⟩
 ·go_enter Tryz.func102, Tryz.ntmps102
  go_wp2_with fail
  go_ret
  exact ⟨rfl, rfl⟩
theorem qbin_any (Q : Nat → Prop) (x y : XT) (op : Mk) (w : World) (hx : x.In Q w) (hy : y.In Q w) (hQ : ∀ g, w.heap.size ≤ g → Q g) :
  Calls Tryz.prog 105 #[.string ⟨op.toArray⟩, x.val, y.val] w fun e w' => ∃ T : XT, e = .returned T.val ∧ T.In Q w' ∧ T.bare = binX op x.bare y.bare ∧ Below w.heap.size w w' := by
 have HX := hide hx
 have HY := hide hy
 obtain ⟨k, b, m, s, t, lo, hi, a, len, cap, kid, rfl⟩ := hx.form
 obtain ⟨k', b', m', s', t', lo', hi', a', len', cap', kid', rfl⟩ := hy.form
 clear hx hy
 have HQ := hide hQ
 clear hQ
 show Calls Tryz.prog 105 #[.string ⟨op.toArray⟩, .agg #[.int .i64 k, .bool b, .int .i64 m, .int .i64 s, .string t, .bool lo, .bool hi, .slice a len cap], .agg #[.int .i64 k', .bool b', .int .i64 m', .int .i64 s', .string t', .bool lo', .bool hi', .slice a' len' cap']] w _
 go_enter Tryz.func105, Tryz.ntmps105
 go_wp2_with fail
 refine bodyPost_ret (v := .agg #[.int .i64 6, .bool false, .int .i64 0, .int .i64 0, .string ⟨op.toArray⟩, .bool false, .bool false, .slice (some ⟨w.heap.size + 3, 0, none⟩) 2 2]) (by simp [results, Tryz.results105, go_sem]) rfl ⟨.mk 6 false 0 0 ⟨op.toArray⟩ false false (some ⟨w.heap.size + 3, 0, none⟩) 2 2 (fun i => [XT.mk k b m s t lo hi a len cap kid, XT.mk k' b' m' s' t' lo' hi' a' len' cap' kid'].getD i .none), rfl, ?_, XT.bare_mk 6 false 0 0 ⟨op.toArray⟩ false false (some ⟨w.heap.size + 3, 0, none⟩) 2 [XT.mk k b m s t lo hi a len cap kid, XT.mk k' b' m' s' t' lo' hi' a' len' cap' kid'], ?_⟩
 ·refine in_row (unhide HQ _ (by omega)) [XT.mk k b m s t lo hi a len cap kid, XT.mk k' b' m' s' t' lo' hi' a' len' cap' kid'] (by simp [maxLen]) (row_block (heap_at (by simp) _) _ (by simp [mk_cells]) rfl) (by simp only [List.mem_cons, List.not_mem_nil, or_false, forall_eq_or_imp, forall_eq]; exact ⟨(unhide HX).below (zBL), (unhide HY).below (zBL)⟩) 6 false 0 0 ⟨op.toArray⟩ false false 2
 ·exact zBL
end
section
variable {b : Nat} {a : Option Addr} {cap : Nat} {ts : List Tk} {en : Int}
def QPost (b : Nat) (a : Option Addr) (cap : Nat) (ts : List Tk) (en : Int) (R : RX) (k : Nat) (w : World) (e : Ending) (w' : World) : Prop :=
 Mv b w w' ∧ match R with
 | .ok x k' => k ≤ k' ∧ Qd b a cap ts en w' k' 0 0 ∧ ∃ T : XT, e = .returned T.val ∧ T.In (Fr w.heap.size) w' ∧ T.bare = x
 | .er c k' => (c != 0) = true ∧ ∃ k2, k ≤ k2 ∧ Qd b a cap ts en w' k2 c (posT ts k' en) ∧ ∃ T : XT, e = .returned T.val ∧ T.In (Fr w.heap.size) w'
def QPartOf (b : Nat) (a : Option Addr) (cap : Nat) (ts : List Tk) (en : Int) (f : Nat) (d : Nat) (part : Nat → RX) : Prop :=
 ∀ (w : World) (k : Nat), Qd b a cap ts en w k 0 0 → Calls Tryz.prog f #[.pointer (some ⟨b, 0, none⟩), .int .i64 (d : Int)] w fun e w' => QPost b a cap ts en (part k) k w e w'
theorem qpost_ok {w W : World} {k k' r B : Nat} {x : XT} (m : Mv b w W) (R : Qd b a cap ts en W k' 0 0) {k0 : Nat} {e0 p0 : Int} (R0 : Qd b a cap ts en w k0 e0 p0) (hk : k ≤ k') (hr : w.heap.size ≤ r) (hB : r < B) {ek : Int} {eb : Bool} {em es : Int} {et : ByteArray} {elo ehi : Bool} {ea : Option Addr} {el ec : Nat} {ekid : Nat → XT}
  (hT : (XT.mk ek eb em es et elo ehi ea el ec ekid).In (Fr B) W) (hx : (XT.mk ek eb em es et elo ehi ea el ec ekid).bare = x) (v0 v1 v2 v3 v4 v5 v6 v7 : Value) :
  QPost b a cap ts en (.ok x k') k w (.returned (.agg #[.int .i64 ek, .bool eb, .int .i64 em, .int .i64 es, .string et, .bool elo, .bool ehi, .slice ea el ec]))
   ((((((((W.setCell ⟨r, 0, none⟩ v0).setCell ⟨r, 1, none⟩ v1).setCell ⟨r, 2, none⟩ v2).setCell ⟨r, 3, none⟩ v3).setCell ⟨r, 4, none⟩ v4).setCell ⟨r, 5, none⟩ v5).setCell ⟨r, 6, none⟩ v6).setCell ⟨r, 7, none⟩ v7) :=
 ⟨m.own8 hr _ _ _ _ _ _ _ _, hk, R.own8 R0 hr _ _ _ _ _ _ _ _, _, rfl, (hT.set8 (fun g hg => by unfold Fr at hg; omega) _ _ _ _ _ _ _ _).weak (fun g _ hg => by unfold Fr at hg ⊢; omega), hx⟩
theorem qpost_er {w W : World} {k k' k2 r B : Nat} {c : Int} (m : Mv b w W) (hc : (c != 0) = true) (hk : k ≤ k2) (R : Qd b a cap ts en W k2 c (posT ts k' en)) {k0 : Nat} {e0 p0 : Int} (R0 : Qd b a cap ts en w k0 e0 p0) (hr : w.heap.size ≤ r) (hB : r < B) {ek : Int} {eb : Bool} {em es : Int} {et : ByteArray} {elo ehi : Bool} {ea : Option Addr} {el ec : Nat} {ekid : Nat → XT}
  (hT : (XT.mk ek eb em es et elo ehi ea el ec ekid).In (Fr B) W) (v0 v1 v2 v3 v4 v5 v6 v7 : Value) :
  QPost b a cap ts en (.er c k') k w (.returned (.agg #[.int .i64 ek, .bool eb, .int .i64 em, .int .i64 es, .string et, .bool elo, .bool ehi, .slice ea el ec]))
   ((((((((W.setCell ⟨r, 0, none⟩ v0).setCell ⟨r, 1, none⟩ v1).setCell ⟨r, 2, none⟩ v2).setCell ⟨r, 3, none⟩ v3).setCell ⟨r, 4, none⟩ v4).setCell ⟨r, 5, none⟩ v5).setCell ⟨r, 6, none⟩ v6).setCell ⟨r, 7, none⟩ v7) :=
 ⟨m.own8 hr _ _ _ _ _ _ _ _, hc, k2, hk, R.own8 R0 hr _ _ _ _ _ _ _ _, _, rfl, (hT.set8 (fun g hg => by unfold Fr at hg; omega) _ _ _ _ _ _ _ _).weak (fun g _ hg => by unfold Fr at hg ⊢; omega)⟩
def QAt (b : Nat) (a : Option Addr) (cap : Nat) (ts : List Tk) (en : Int) (part : Nat → RX) (ops : List Mk) (RES : RX) (k B g : Nat) (w : World) : Prop :=
 ∃ T, ∃ ek eb em es et elo ehi ea el ec ekid, T = XT.mk ek eb em es et elo ehi ea el ec ekid ∧ XB w g ek eb em es et elo ehi ea el ec ∧ T.In (fun h => B < h ∧ h ≠ g) w ∧
 ((∃ kk f, k ≤ kk ∧ Qd b a cap ts en w kk 0 0 ∧ ts.length - kk ≤ f ∧ chainP ts part ops f T.bare kk = RES) ∨
  (∃ kk c kc, k ≤ kk ∧ (c != 0) = true ∧ Qd b a cap ts en w kk c (posT ts kc en) ∧ RES = .er c kc))
theorem qand_any (d : Nat) (part : Nat → RX) (hp : QPartOf b a cap ts en 132 d part) (hts : GoodTs ts) : QPartOf b a cap ts en 103 d (chP ts part [mAnd]) := by
 intro w k R
 have R0 := R
 have hlt := R.lt
 have HP := hide hp
 have HT := hide hts
 clear R hp hts
 have HC := hide (chP.eq_1 ts part [mAnd] k)
 generalize chP ts part [mAnd] k = RES at *
 have z0 := hide (ZB.new w 26)
 go_enter Tryz.func103, Tryz.ntmps103
 go_wp2_with fail
 have C1 := unhide HP _ k (R0.alloc (zO 26))
 refine C1.mono ?_
 clear C1
 have key : ∀ e w1, QPost b a cap ts en (part k) k (w.alloc (zO 26)) e w1 → ∃ T : XT, e = .returned T.val ∧ T.In (Fr (w.heap.size + 1)) w1 ∧ Mv b (w.alloc (zO 26)) w1 ∧
   ((∃ kk f, k ≤ kk ∧ Qd b a cap ts en w1 kk 0 0 ∧ ts.length - kk ≤ f ∧ chainP ts part [mAnd] f T.bare kk = RES) ∨ (∃ kk c kc, k ≤ kk ∧ (c != 0) = true ∧ Qd b a cap ts en w1 kk c (posT ts kc en) ∧ RES = .er c kc)) := by
  intro e w1 h
  rw [unhide HC]
  cases hpk : part k with
  | er c1 k1 =>
   rw [hpk] at h
   obtain ⟨m1, hc1, k2, hk2, R1, T, rfl, hin⟩ := h
   exact ⟨T, rfl, hin.weak (fun g _ hg => by unfold Fr at hg ⊢; simp at hg; omega), m1, Or.inr ⟨k2, c1, k1, hk2, hc1, R1, rfl⟩⟩
  | ok x1 k1 =>
   rw [hpk] at h
   obtain ⟨m1, hk1, R1, T, rfl, hin, hbr⟩ := h
   exact ⟨T, rfl, hin.weak (fun g _ hg => by unfold Fr at hg ⊢; simp at hg; omega), m1, Or.inl ⟨k1, ts.length, hk1, R1, by omega, by rw [hbr]⟩⟩
 intro e w1 hpost
 obtain ⟨T, rfl, hin, m1, hst⟩ := key e w1 hpost
 clear hpost key HC
 have Z1 := hide ((unhide z0).mv m1 (by omega))
 have M1 := ((Mv.refl b w).alloc _).trans m1
 have z1 : w.heap.size + 1 ≤ w1.heap.size := by have := m1.size; simpa using this
 clear z0 m1
 have HIN := hide hin
 have HST := hide hst
 clear hst
 obtain ⟨ek, eb, em, es, et, elo, ehi, ea, el, ec, ekid, rfl⟩ := hin.form
 clear hin
 dsimp only [XT.val]
 go_wp2_with fail
 go_loopw [11] (fun _ wr => Hid (QAt b a cap ts en part [mAnd] RES k w.heap.size w1.heap.size wr) ∧ Hid (ZB wr w.heap.size) ∧ Mv b w wr ∧ w1.heap.size < wr.heap.size) (fun _ wr => ts.length - (intOf ((wr.cell? ⟨b, 1, none⟩).getD (.int .i64 0))).toNat)
 case atStart =>
  refine ⟨hide ⟨XT.mk ek eb em es et elo ehi ea el ec ekid, ek, eb, em, es, et, elo, ehi, ea, el, ec, ekid, rfl, XB.new _ _ _ _ _ _ _ _ _ _ _ _, ?_, ?_⟩, hide ((unhide Z1).alloc _), M1.alloc _, by simp⟩
  ·exact ((unhide HIN).weak (Q' := fun h => w.heap.size < h ∧ h ≠ w1.heap.size) (fun g h1 h2 => by unfold Fr at h2; omega)).alloc _
  ·rcases unhide HST with ⟨kk, f, h1, h2, h3, h4⟩ | ⟨kk, c, kc, h1, h2, h3, h4⟩
   ·exact Or.inl ⟨kk, f, h1, h2.alloc _, h3, h4⟩
   ·exact Or.inr ⟨kk, c, kc, h1, h2, h3.alloc _, h4⟩
 case round =>
  clear HIN HST Z1 M1
  obtain ⟨HA, HZ, M2, hz2⟩ := hrel
  obtain ⟨T, ek, eb, em, es, et, elo, ehi, ea, el, ec, ekid, rfl, HX, hin, hst⟩ := unhide HA
  clear HA
  have HIN := hide hin
  have HXX := hide HX
  clear hin HX
  rcases hst with ⟨kk, ff, hkk, R2, hf, hch⟩ | ⟨kk, c2, kc, hkk, hc2, R2, hres⟩
  ·have HF := hide hf
   have HCH := hide hch
   clear hf hch
   have hb2 := R2.lt
   cases hfd : fnd ts kk [mAnd] with
   | none =>
    have HE := hide (chainP_end (part := part) (f := ff) (x := (XT.mk ek eb em es et elo ehi ea el ec ekid).bare) hfd)
    go_wp2_with fail
    refine (tak_any _ kk _ [mAnd] _ (R2.alloc _) (unhide HT) (Marks.at rfl hb2 (by decide) (by decide))).mono ?_
    rw [hfd]
    clear hfd
    rintro e w3 ⟨m3, rfl, R3⟩
    obtain ⟨x0, x1, x2, x3, x4, x5, x6, x7, x8, x9⟩ := ((unhide HXX).alloc _).mv m3 (by omega)
    obtain ⟨y0, y1, y2, y3, y4, y5, y6, y7, y8, y9⟩ := ((unhide HZ).alloc _).mv m3 (by omega)
    have HIN3 := hide (((unhide HIN).alloc _).mv m3 (fun g hg => by omega))
    have M3 := (M2.alloc _).trans m3
    clear HXX HZ HIN m3 R2
    go_wp2_with fail
    refine bodyPost_ret (v := .agg #[.int .i64 ek, .bool eb, .int .i64 em, .int .i64 es, .string et, .bool elo, .bool ehi, .slice ea el ec]) zR103y0y1y2y3y4y5y6y7y8 rfl ?_
    rw [← unhide HCH, unhide HE]
    exact qpost_ok (B := w.heap.size + 1) M3 R3 R0 hkk (Nat.le_refl _) (Nat.lt_succ_self _) ((unhide HIN3).weak (fun g _ hg => by unfold Fr; omega)) rfl _ _ _ _ _ _ _ _
   | some op =>
    obtain ⟨hkt, hop⟩ := fnd_lt hfd
    have hne : (op == []) = false := by simp at hop; subst hop; rfl
    have hne2 : (op != []) = true := by simpa using hne
    obtain rfl : op = mAnd := by simpa using hop
    go_wp2_with fail
    refine (tak_any _ kk _ [mAnd] _ (R2.alloc _) (unhide HT) (Marks.at rfl hb2 (by decide) (by decide))).mono ?_
    rw [hfd]
    rintro e w3 ⟨m3, rfl, R3⟩
    have HX3 := hide (((unhide HXX).alloc _).mv m3 (by omega))
    have HZ3 := hide (((unhide HZ).alloc _).mv m3 (by omega))
    have HIN3 := hide (((unhide HIN).alloc _).mv m3 (fun g hg => by omega))
    have M3 := (M2.alloc _).trans m3
    have z3 : wr.heap.size + 1 ≤ w3.heap.size := by have := m3.size; simpa using this
    clear HXX HZ HIN m3 M2
    have C2 := hide (fun e w4 (h : QPost b a cap ts en (part (kk + 1)) (kk + 1) w3.drew e w4) => (show ∃ U : XT, e = .returned U.val ∧ U.In (Fr w3.heap.size) w4 ∧ Mv b w3 w4 ∧
      ((∃ kk2 f2, kk + 1 ≤ kk2 ∧ Qd b a cap ts en w4 kk2 0 0 ∧ ts.length - kk2 ≤ f2 ∧ chainP ts part [mAnd] f2 (binX mAnd (XT.mk ek eb em es et elo ehi ea el ec ekid).bare U.bare) kk2 = RES) ∨ (∃ kk2 c kc, kk + 1 ≤ kk2 ∧ (c != 0) = true ∧ Qd b a cap ts en w4 kk2 c (posT ts kc en) ∧ RES = .er c kc)) by
     cases hp2 : part (kk + 1) with
     | er c4 k4 =>
      rw [hp2] at h
      obtain ⟨m4, hc4, k42, hk4, R4, U, rfl, hinU⟩ := h
      exact ⟨U, rfl, hinU, ⟨m4.os, m4.tape, m4.output, m4.size, m4.block⟩, Or.inr ⟨k42, c4, k4, hk4, hc4, R4, by rw [← unhide HCH]; exact chainP_er (unhide HF) hfd hp2⟩⟩
     | ok x4 k4 =>
      rw [hp2] at h
      obtain ⟨m4, hk4, R4, U, rfl, hinU, hbU⟩ := h
      obtain ⟨f2, hf2, hch2⟩ := chainP_ok (x := (XT.mk ek eb em es et elo ehi ea el ec ekid).bare) (unhide HF) hfd hp2 (by omega)
      exact ⟨U, rfl, hinU, ⟨m4.os, m4.tape, m4.output, m4.size, m4.block⟩, Or.inl ⟨k4, f2, hk4, R4, hf2, by rw [hbU, ← hch2]; exact unhide HCH⟩⟩))
    have PC := hide (unhide HP _ (kk + 1) R3.drew)
    obtain ⟨x0, x1, x2, x3, x4, x5, x6, x7, x8, x9⟩ := unhide HX3
    go_wp2_with fail
    go_region_with (first
     | (go_at_call 132; refine (unhide PC).mono ?_; intro e w4 hq; obtain ⟨U, rfl, hinU, m4, hst4⟩ := unhide C2 e w4 hq; have HX4 := hide ((unhide HX3).mv m4 (by omega)); have HZ4 := hide ((unhide HZ3).mv m4 (by omega)); have HIN4 := hide ((unhide HIN3).mv m4 (fun g hg => by omega)); have M4 := M3.trans m4; have z4 := m4.size; have HU := hide hinU; have HST4 := hide hst4; obtain ⟨uk, ub, um, us, ut, ulo, uhi, ua, ul, uc, ukid, rfl⟩ := hinU.form; clear hinU hst4 hq m4; obtain ⟨v0, v1, v2, v3, v4, v5, v6, v7, v8, v9⟩ := unhide HX4; dsimp only [XT.val])
     | (go_at_call 105; refine (qbin_any (fun h => w.heap.size < h ∧ h ≠ w1.heap.size) (XT.mk ek eb em es et elo ehi ea el ec ekid) (XT.mk uk ub um us ut ulo uhi ua ul uc ukid) _ _ (unhide HIN4) ((unhide HU).weak (fun g _ hg => by unfold Fr at hg; omega)) (fun g hg => by omega)).mono ?_; rintro e w5 ⟨V, rfl, hinV, hbV, b5⟩; have HV := hide hinV; have HX6 := hide ((unhide HX4).below b5); have HZ6 := hide ((unhide HZ4).below b5); have M6 := M4.below b5; obtain ⟨pk, pb, pm, ps, pt, plo, phi, pa, pl, pc, pkid, rfl⟩ := hinV.form; clear hinV; obtain ⟨s0, s1, s2, s3, s4, s5, s6, s7, s8, s9⟩ := unhide HX6; dsimp only [XT.val]))
    all_goals
     go_wp2_with fail
     go_roundw
     case rel =>
      refine ⟨hide ⟨XT.mk pk pb pm ps pt plo phi pa pl pc pkid, pk, pb, pm, ps, pt, plo, phi, pa, pl, pc, pkid, rfl, (unhide HX6).put _ _ _ _ _ _ _ _ _ _, (unhide HV).set8 (fun g hg => hg.2) _ _ _ _ _ _ _ _, ?_⟩, hide ((unhide HZ6).set8 (by omega) _ _ _ _ _ _ _ _), M6.own8 (by omega) _ _ _ _ _ _ _ _, by simpa [World.setCell] using s0⟩
      rcases unhide HST4 with ⟨kk2, f2, h1, h2, h3, h4⟩ | ⟨kk2, c, kc, h1, h2, h3, h4⟩
      ·exact Or.inl ⟨kk2, f2, by omega, (h2.below b5).own8 R0 (by omega) _ _ _ _ _ _ _ _, h3, by rw [hbV]; exact h4⟩
      ·exact Or.inr ⟨kk2, c, kc, by omega, h2, (h3.below b5).own8 R0 (by omega) _ _ _ _ _ _ _ _, h4⟩
     case measure =>
      rcases unhide HST4 with ⟨kk2, f2, h1, h2, h3, h4⟩ | ⟨kk2, c, kc, h1, h2, h3, h4⟩
      ·rw [((h2.below b5).own8 R0 (r := w1.heap.size) (by omega) _ _ _ _ _ _ _ _).c1, R2.c1]
       have := h2.le
       simp [intOf]
       omega
      ·rw [((h3.below b5).own8 R0 (r := w1.heap.size) (by omega) _ _ _ _ _ _ _ _).c1, R2.c1]
       have := h3.le
       simp [intOf]
       omega
  ·go_wp2_with fail
   refine (tak_no _ kk c2 _ _ [mAnd] _ (R2.alloc _) hc2 (unhide HT) (Marks.at rfl R2.lt (by decide) (by decide))).mono ?_
   rintro e w3 ⟨rfl, b3⟩
   obtain ⟨x0, x1, x2, x3, x4, x5, x6, x7, x8, x9⟩ := ((unhide HXX).alloc _).below b3
   obtain ⟨y0, y1, y2, y3, y4, y5, y6, y7, y8, y9⟩ := ((unhide HZ).alloc _).below b3
   have HIN3 := hide (((unhide HIN).alloc _).below b3)
   have M3 := (M2.alloc _).below b3
   have R3 := (R2.alloc _).below b3
   clear HXX HZ HIN b3 R2
   go_wp2_with fail
   refine bodyPost_ret (v := .agg #[.int .i64 ek, .bool eb, .int .i64 em, .int .i64 es, .string et, .bool elo, .bool ehi, .slice ea el ec]) zR103y0y1y2y3y4y5y6y7y8 rfl ?_
   rw [hres]
   exact qpost_er (B := w.heap.size + 1) M3 hc2 hkk R3 R0 (Nat.le_refl _) (Nat.lt_succ_self _) ((unhide HIN3).weak (fun g _ hg => by unfold Fr; omega)) _ _ _ _ _ _ _ _
theorem qexpr_any (d : Nat) (part : Nat → RX) (hp : QPartOf b a cap ts en 103 d part) (hts : GoodTs ts) (hd : d ≤ 8) : QPartOf b a cap ts en 72 d (chP ts part [mOr]) := by
 intro w k R
 have R0 := R
 have hlt := R.lt
 have HP := hide hp
 have HT := hide hts
 clear R hp hts
 have HC := hide (chP.eq_1 ts part [mOr] k)
 generalize chP ts part [mOr] k = RES at *
 have z0 := hide (ZB.new w 26)
 go_enter Tryz.func72, Tryz.ntmps72
 go_wp2_with fail
 refine (deep_ok _ k d (R0.alloc _) hd).mono ?_
 rintro e w0 ⟨rfl, rfl⟩
 go_wp2_with fail
 have C1 := unhide HP _ k (R0.alloc (zO 26))
 refine C1.mono ?_
 clear C1
 have key : ∀ e w1, QPost b a cap ts en (part k) k (w.alloc (zO 26)) e w1 → ∃ T : XT, e = .returned T.val ∧ T.In (Fr (w.heap.size + 1)) w1 ∧ Mv b (w.alloc (zO 26)) w1 ∧
   ((∃ kk f, k ≤ kk ∧ Qd b a cap ts en w1 kk 0 0 ∧ ts.length - kk ≤ f ∧ chainP ts part [mOr] f T.bare kk = RES) ∨ (∃ kk c kc, k ≤ kk ∧ (c != 0) = true ∧ Qd b a cap ts en w1 kk c (posT ts kc en) ∧ RES = .er c kc)) := by
  intro e w1 h
  rw [unhide HC]
  cases hpk : part k with
  | er c1 k1 =>
   rw [hpk] at h
   obtain ⟨m1, hc1, k2, hk2, R1, T, rfl, hin⟩ := h
   exact ⟨T, rfl, hin.weak (fun g _ hg => by unfold Fr at hg ⊢; simp at hg; omega), m1, Or.inr ⟨k2, c1, k1, hk2, hc1, R1, rfl⟩⟩
  | ok x1 k1 =>
   rw [hpk] at h
   obtain ⟨m1, hk1, R1, T, rfl, hin, hbr⟩ := h
   exact ⟨T, rfl, hin.weak (fun g _ hg => by unfold Fr at hg ⊢; simp at hg; omega), m1, Or.inl ⟨k1, ts.length, hk1, R1, by omega, by rw [hbr]⟩⟩
 intro e w1 hpost
 obtain ⟨T, rfl, hin, m1, hst⟩ := key e w1 hpost
 clear hpost key HC
 have Z1 := hide ((unhide z0).mv m1 (by omega))
 have M1 := ((Mv.refl b w).alloc _).trans m1
 have z1 : w.heap.size + 1 ≤ w1.heap.size := by have := m1.size; simpa using this
 clear z0 m1
 have HIN := hide hin
 have HST := hide hst
 clear hst
 obtain ⟨ek, eb, em, es, et, elo, ehi, ea, el, ec, ekid, rfl⟩ := hin.form
 clear hin
 dsimp only [XT.val]
 go_wp2_with fail
 go_loopw [15] (fun _ wr => Hid (QAt b a cap ts en part [mOr] RES k w.heap.size w1.heap.size wr) ∧ Hid (ZB wr w.heap.size) ∧ Mv b w wr ∧ w1.heap.size < wr.heap.size) (fun _ wr => ts.length - (intOf ((wr.cell? ⟨b, 1, none⟩).getD (.int .i64 0))).toNat)
 case atStart =>
  refine ⟨hide ⟨XT.mk ek eb em es et elo ehi ea el ec ekid, ek, eb, em, es, et, elo, ehi, ea, el, ec, ekid, rfl, XB.new _ _ _ _ _ _ _ _ _ _ _ _, ?_, ?_⟩, hide ((unhide Z1).alloc _), M1.alloc _, by simp⟩
  ·exact ((unhide HIN).weak (Q' := fun h => w.heap.size < h ∧ h ≠ w1.heap.size) (fun g h1 h2 => by unfold Fr at h2; omega)).alloc _
  ·rcases unhide HST with ⟨kk, f, h1, h2, h3, h4⟩ | ⟨kk, c, kc, h1, h2, h3, h4⟩
   ·exact Or.inl ⟨kk, f, h1, h2.alloc _, h3, h4⟩
   ·exact Or.inr ⟨kk, c, kc, h1, h2, h3.alloc _, h4⟩
 case round =>
  clear HIN HST Z1 M1
  obtain ⟨HA, HZ, M2, hz2⟩ := hrel
  obtain ⟨T, ek, eb, em, es, et, elo, ehi, ea, el, ec, ekid, rfl, HX, hin, hst⟩ := unhide HA
  clear HA
  have HIN := hide hin
  have HXX := hide HX
  clear hin HX
  rcases hst with ⟨kk, ff, hkk, R2, hf, hch⟩ | ⟨kk, c2, kc, hkk, hc2, R2, hres⟩
  ·have HF := hide hf
   have HCH := hide hch
   clear hf hch
   have hb2 := R2.lt
   cases hfd : fnd ts kk [mOr] with
   | none =>
    have HE := hide (chainP_end (part := part) (f := ff) (x := (XT.mk ek eb em es et elo ehi ea el ec ekid).bare) hfd)
    go_wp2_with fail
    refine (tak_any _ kk _ [mOr] _ (R2.alloc _) (unhide HT) (Marks.at rfl hb2 (by decide) (by decide))).mono ?_
    rw [hfd]
    clear hfd
    rintro e w3 ⟨m3, rfl, R3⟩
    obtain ⟨x0, x1, x2, x3, x4, x5, x6, x7, x8, x9⟩ := ((unhide HXX).alloc _).mv m3 (by omega)
    obtain ⟨y0, y1, y2, y3, y4, y5, y6, y7, y8, y9⟩ := ((unhide HZ).alloc _).mv m3 (by omega)
    have HIN3 := hide (((unhide HIN).alloc _).mv m3 (fun g hg => by omega))
    have M3 := (M2.alloc _).trans m3
    clear HXX HZ HIN m3 R2
    go_wp2_with fail
    refine bodyPost_ret (v := .agg #[.int .i64 ek, .bool eb, .int .i64 em, .int .i64 es, .string et, .bool elo, .bool ehi, .slice ea el ec]) zR72y0y1y2y3y4y5y6y7y8 rfl ?_
    rw [← unhide HCH, unhide HE]
    exact qpost_ok (B := w.heap.size + 1) M3 R3 R0 hkk (Nat.le_refl _) (Nat.lt_succ_self _) ((unhide HIN3).weak (fun g _ hg => by unfold Fr; omega)) rfl _ _ _ _ _ _ _ _
   | some op =>
    obtain ⟨hkt, hop⟩ := fnd_lt hfd
    have hne : (op == []) = false := by simp at hop; subst hop; rfl
    have hne2 : (op != []) = true := by simpa using hne
    obtain rfl : op = mOr := by simpa using hop
    go_wp2_with fail
    refine (tak_any _ kk _ [mOr] _ (R2.alloc _) (unhide HT) (Marks.at rfl hb2 (by decide) (by decide))).mono ?_
    rw [hfd]
    rintro e w3 ⟨m3, rfl, R3⟩
    have HX3 := hide (((unhide HXX).alloc _).mv m3 (by omega))
    have HZ3 := hide (((unhide HZ).alloc _).mv m3 (by omega))
    have HIN3 := hide (((unhide HIN).alloc _).mv m3 (fun g hg => by omega))
    have M3 := (M2.alloc _).trans m3
    have z3 : wr.heap.size + 1 ≤ w3.heap.size := by have := m3.size; simpa using this
    clear HXX HZ HIN m3 M2
    have C2 := hide (fun e w4 (h : QPost b a cap ts en (part (kk + 1)) (kk + 1) w3.drew e w4) => (show ∃ U : XT, e = .returned U.val ∧ U.In (Fr w3.heap.size) w4 ∧ Mv b w3 w4 ∧
      ((∃ kk2 f2, kk + 1 ≤ kk2 ∧ Qd b a cap ts en w4 kk2 0 0 ∧ ts.length - kk2 ≤ f2 ∧ chainP ts part [mOr] f2 (binX mOr (XT.mk ek eb em es et elo ehi ea el ec ekid).bare U.bare) kk2 = RES) ∨ (∃ kk2 c kc, kk + 1 ≤ kk2 ∧ (c != 0) = true ∧ Qd b a cap ts en w4 kk2 c (posT ts kc en) ∧ RES = .er c kc)) by
     cases hp2 : part (kk + 1) with
     | er c4 k4 =>
      rw [hp2] at h
      obtain ⟨m4, hc4, k42, hk4, R4, U, rfl, hinU⟩ := h
      exact ⟨U, rfl, hinU, ⟨m4.os, m4.tape, m4.output, m4.size, m4.block⟩, Or.inr ⟨k42, c4, k4, hk4, hc4, R4, by rw [← unhide HCH]; exact chainP_er (unhide HF) hfd hp2⟩⟩
     | ok x4 k4 =>
      rw [hp2] at h
      obtain ⟨m4, hk4, R4, U, rfl, hinU, hbU⟩ := h
      obtain ⟨f2, hf2, hch2⟩ := chainP_ok (x := (XT.mk ek eb em es et elo ehi ea el ec ekid).bare) (unhide HF) hfd hp2 (by omega)
      exact ⟨U, rfl, hinU, ⟨m4.os, m4.tape, m4.output, m4.size, m4.block⟩, Or.inl ⟨k4, f2, hk4, R4, hf2, by rw [hbU, ← hch2]; exact unhide HCH⟩⟩))
    have PC := hide (unhide HP _ (kk + 1) R3.drew)
    obtain ⟨x0, x1, x2, x3, x4, x5, x6, x7, x8, x9⟩ := unhide HX3
    go_wp2_with fail
    go_region_with (first
     | (go_at_call 103; refine (unhide PC).mono ?_; intro e w4 hq; obtain ⟨U, rfl, hinU, m4, hst4⟩ := unhide C2 e w4 hq; have HX4 := hide ((unhide HX3).mv m4 (by omega)); have HZ4 := hide ((unhide HZ3).mv m4 (by omega)); have HIN4 := hide ((unhide HIN3).mv m4 (fun g hg => by omega)); have M4 := M3.trans m4; have z4 := m4.size; have HU := hide hinU; have HST4 := hide hst4; obtain ⟨uk, ub, um, us, ut, ulo, uhi, ua, ul, uc, ukid, rfl⟩ := hinU.form; clear hinU hst4 hq m4; obtain ⟨v0, v1, v2, v3, v4, v5, v6, v7, v8, v9⟩ := unhide HX4; dsimp only [XT.val])
     | (go_at_call 105; refine (qbin_any (fun h => w.heap.size < h ∧ h ≠ w1.heap.size) (XT.mk ek eb em es et elo ehi ea el ec ekid) (XT.mk uk ub um us ut ulo uhi ua ul uc ukid) _ _ (unhide HIN4) ((unhide HU).weak (fun g _ hg => by unfold Fr at hg; omega)) (fun g hg => by omega)).mono ?_; rintro e w5 ⟨V, rfl, hinV, hbV, b5⟩; have HV := hide hinV; have HX6 := hide ((unhide HX4).below b5); have HZ6 := hide ((unhide HZ4).below b5); have M6 := M4.below b5; obtain ⟨pk, pb, pm, ps, pt, plo, phi, pa, pl, pc, pkid, rfl⟩ := hinV.form; clear hinV; obtain ⟨s0, s1, s2, s3, s4, s5, s6, s7, s8, s9⟩ := unhide HX6; dsimp only [XT.val]))
    all_goals
     go_wp2_with fail
     go_roundw
     case rel =>
      refine ⟨hide ⟨XT.mk pk pb pm ps pt plo phi pa pl pc pkid, pk, pb, pm, ps, pt, plo, phi, pa, pl, pc, pkid, rfl, (unhide HX6).put _ _ _ _ _ _ _ _ _ _, (unhide HV).set8 (fun g hg => hg.2) _ _ _ _ _ _ _ _, ?_⟩, hide ((unhide HZ6).set8 (by omega) _ _ _ _ _ _ _ _), M6.own8 (by omega) _ _ _ _ _ _ _ _, by simpa [World.setCell] using s0⟩
      rcases unhide HST4 with ⟨kk2, f2, h1, h2, h3, h4⟩ | ⟨kk2, c, kc, h1, h2, h3, h4⟩
      ·exact Or.inl ⟨kk2, f2, by omega, (h2.below b5).own8 R0 (by omega) _ _ _ _ _ _ _ _, h3, by rw [hbV]; exact h4⟩
      ·exact Or.inr ⟨kk2, c, kc, by omega, h2, (h3.below b5).own8 R0 (by omega) _ _ _ _ _ _ _ _, h4⟩
     case measure =>
      rcases unhide HST4 with ⟨kk2, f2, h1, h2, h3, h4⟩ | ⟨kk2, c, kc, h1, h2, h3, h4⟩
      ·rw [((h2.below b5).own8 R0 (r := w1.heap.size) (by omega) _ _ _ _ _ _ _ _).c1, R2.c1]
       have := h2.le
       simp [intOf]
       omega
      ·rw [((h3.below b5).own8 R0 (r := w1.heap.size) (by omega) _ _ _ _ _ _ _ _).c1, R2.c1]
       have := h3.le
       simp [intOf]
       omega
  ·go_wp2_with fail
   refine (tak_no _ kk c2 _ _ [mOr] _ (R2.alloc _) hc2 (unhide HT) (Marks.at rfl R2.lt (by decide) (by decide))).mono ?_
   rintro e w3 ⟨rfl, b3⟩
   obtain ⟨x0, x1, x2, x3, x4, x5, x6, x7, x8, x9⟩ := ((unhide HXX).alloc _).below b3
   obtain ⟨y0, y1, y2, y3, y4, y5, y6, y7, y8, y9⟩ := ((unhide HZ).alloc _).below b3
   have HIN3 := hide (((unhide HIN).alloc _).below b3)
   have M3 := (M2.alloc _).below b3
   have R3 := (R2.alloc _).below b3
   clear HXX HZ HIN b3 R2
   go_wp2_with fail
   refine bodyPost_ret (v := .agg #[.int .i64 ek, .bool eb, .int .i64 em, .int .i64 es, .string et, .bool elo, .bool ehi, .slice ea el ec]) zR72y0y1y2y3y4y5y6y7y8 rfl ?_
   rw [hres]
   exact qpost_er (B := w.heap.size + 1) M3 hc2 hkk R3 R0 (Nat.le_refl _) (Nat.lt_succ_self _) ((unhide HIN3).weak (fun g _ hg => by unfold Fr; omega)) _ _ _ _ _ _ _ _
theorem qadd_any (d : Nat) (part : Nat → RX) (hp : QPartOf b a cap ts en 152 d part) (hts : GoodTs ts) : QPartOf b a cap ts en 147 d (chP ts part [[43], [45]]) := by
 intro w k R
 have R0 := R
 have hlt := R.lt
 have HP := hide hp
 have HT := hide hts
 clear R hp hts
 have HC := hide (chP.eq_1 ts part [[43], [45]] k)
 generalize chP ts part [[43], [45]] k = RES at *
 have z0 := hide (ZB.new w 26)
 go_enter Tryz.func147, Tryz.ntmps147
 go_wp2_with fail
 have C1 := unhide HP _ k (R0.alloc (zO 26))
 refine C1.mono ?_
 clear C1
 have key : ∀ e w1, QPost b a cap ts en (part k) k (w.alloc (zO 26)) e w1 → ∃ T : XT, e = .returned T.val ∧ T.In (Fr (w.heap.size + 1)) w1 ∧ Mv b (w.alloc (zO 26)) w1 ∧
   ((∃ kk f, k ≤ kk ∧ Qd b a cap ts en w1 kk 0 0 ∧ ts.length - kk ≤ f ∧ chainP ts part [[43], [45]] f T.bare kk = RES) ∨ (∃ kk c kc, k ≤ kk ∧ (c != 0) = true ∧ Qd b a cap ts en w1 kk c (posT ts kc en) ∧ RES = .er c kc)) := by
  intro e w1 h
  rw [unhide HC]
  cases hpk : part k with
  | er c1 k1 =>
   rw [hpk] at h
   obtain ⟨m1, hc1, k2, hk2, R1, T, rfl, hin⟩ := h
   exact ⟨T, rfl, hin.weak (fun g _ hg => by unfold Fr at hg ⊢; simp at hg; omega), m1, Or.inr ⟨k2, c1, k1, hk2, hc1, R1, rfl⟩⟩
  | ok x1 k1 =>
   rw [hpk] at h
   obtain ⟨m1, hk1, R1, T, rfl, hin, hbr⟩ := h
   exact ⟨T, rfl, hin.weak (fun g _ hg => by unfold Fr at hg ⊢; simp at hg; omega), m1, Or.inl ⟨k1, ts.length, hk1, R1, by omega, by rw [hbr]⟩⟩
 intro e w1 hpost
 obtain ⟨T, rfl, hin, m1, hst⟩ := key e w1 hpost
 clear hpost key HC
 have Z1 := hide ((unhide z0).mv m1 (by omega))
 have M1 := ((Mv.refl b w).alloc _).trans m1
 have z1 : w.heap.size + 1 ≤ w1.heap.size := by have := m1.size; simpa using this
 clear z0 m1
 have HIN := hide hin
 have HST := hide hst
 clear hst
 obtain ⟨ek, eb, em, es, et, elo, ehi, ea, el, ec, ekid, rfl⟩ := hin.form
 clear hin
 dsimp only [XT.val]
 go_wp2_with fail
 go_loopw [6] (fun _ wr => Hid (QAt b a cap ts en part [[43], [45]] RES k w.heap.size w1.heap.size wr) ∧ Hid (ZB wr w.heap.size) ∧ Mv b w wr ∧ w1.heap.size < wr.heap.size) (fun _ wr => ts.length - (intOf ((wr.cell? ⟨b, 1, none⟩).getD (.int .i64 0))).toNat)
 case atStart =>
  refine ⟨hide ⟨XT.mk ek eb em es et elo ehi ea el ec ekid, ek, eb, em, es, et, elo, ehi, ea, el, ec, ekid, rfl, XB.new _ _ _ _ _ _ _ _ _ _ _ _, ?_, ?_⟩, hide ((unhide Z1).alloc _), M1.alloc _, by simp⟩
  ·exact ((unhide HIN).weak (Q' := fun h => w.heap.size < h ∧ h ≠ w1.heap.size) (fun g h1 h2 => by unfold Fr at h2; omega)).alloc _
  ·rcases unhide HST with ⟨kk, f, h1, h2, h3, h4⟩ | ⟨kk, c, kc, h1, h2, h3, h4⟩
   ·exact Or.inl ⟨kk, f, h1, h2.alloc _, h3, h4⟩
   ·exact Or.inr ⟨kk, c, kc, h1, h2, h3.alloc _, h4⟩
 case round =>
  clear HIN HST Z1 M1
  obtain ⟨HA, HZ, M2, hz2⟩ := hrel
  obtain ⟨T, ek, eb, em, es, et, elo, ehi, ea, el, ec, ekid, rfl, HX, hin, hst⟩ := unhide HA
  clear HA
  have HIN := hide hin
  have HXX := hide HX
  clear hin HX
  rcases hst with ⟨kk, ff, hkk, R2, hf, hch⟩ | ⟨kk, c2, kc, hkk, hc2, R2, hres⟩
  ·have HF := hide hf
   have HCH := hide hch
   clear hf hch
   have hb2 := R2.lt
   cases hfd : fnd ts kk [[43], [45]] with
   | none =>
    have HE := hide (chainP_end (part := part) (f := ff) (x := (XT.mk ek eb em es et elo ehi ea el ec ekid).bare) hfd)
    go_wp2_with fail
    refine (tak_any _ kk _ [[43], [45]] _ (R2.alloc _) (unhide HT) (Marks.at rfl hb2 (by decide) (by decide))).mono ?_
    rw [hfd]
    clear hfd
    rintro e w3 ⟨m3, rfl, R3⟩
    obtain ⟨x0, x1, x2, x3, x4, x5, x6, x7, x8, x9⟩ := ((unhide HXX).alloc _).mv m3 (by omega)
    obtain ⟨y0, y1, y2, y3, y4, y5, y6, y7, y8, y9⟩ := ((unhide HZ).alloc _).mv m3 (by omega)
    have HIN3 := hide (((unhide HIN).alloc _).mv m3 (fun g hg => by omega))
    have M3 := (M2.alloc _).trans m3
    clear HXX HZ HIN m3 R2
    go_wp2_with fail
    refine bodyPost_ret (v := .agg #[.int .i64 ek, .bool eb, .int .i64 em, .int .i64 es, .string et, .bool elo, .bool ehi, .slice ea el ec]) zR147y0y1y2y3y4y5y6y7y8 rfl ?_
    rw [← unhide HCH, unhide HE]
    exact qpost_ok (B := w.heap.size + 1) M3 R3 R0 hkk (Nat.le_refl _) (Nat.lt_succ_self _) ((unhide HIN3).weak (fun g _ hg => by unfold Fr; omega)) rfl _ _ _ _ _ _ _ _
   | some op =>
    obtain ⟨hkt, hop⟩ := fnd_lt hfd
    have hne : (op == []) = false := by simp at hop; rcases hop with rfl | rfl <;> rfl
    have hne2 : (op != []) = true := by simpa using hne
    clear hop
    go_wp2_with fail
    refine (tak_any _ kk _ [[43], [45]] _ (R2.alloc _) (unhide HT) (Marks.at rfl hb2 (by decide) (by decide))).mono ?_
    rw [hfd]
    rintro e w3 ⟨m3, rfl, R3⟩
    have HX3 := hide (((unhide HXX).alloc _).mv m3 (by omega))
    have HZ3 := hide (((unhide HZ).alloc _).mv m3 (by omega))
    have HIN3 := hide (((unhide HIN).alloc _).mv m3 (fun g hg => by omega))
    have M3 := (M2.alloc _).trans m3
    have z3 : wr.heap.size + 1 ≤ w3.heap.size := by have := m3.size; simpa using this
    clear HXX HZ HIN m3 M2
    have C2 := hide (fun e w4 (h : QPost b a cap ts en (part (kk + 1)) (kk + 1) w3.drew e w4) => (show ∃ U : XT, e = .returned U.val ∧ U.In (Fr w3.heap.size) w4 ∧ Mv b w3 w4 ∧
      ((∃ kk2 f2, kk + 1 ≤ kk2 ∧ Qd b a cap ts en w4 kk2 0 0 ∧ ts.length - kk2 ≤ f2 ∧ chainP ts part [[43], [45]] f2 (binX op (XT.mk ek eb em es et elo ehi ea el ec ekid).bare U.bare) kk2 = RES) ∨ (∃ kk2 c kc, kk + 1 ≤ kk2 ∧ (c != 0) = true ∧ Qd b a cap ts en w4 kk2 c (posT ts kc en) ∧ RES = .er c kc)) by
     cases hp2 : part (kk + 1) with
     | er c4 k4 =>
      rw [hp2] at h
      obtain ⟨m4, hc4, k42, hk4, R4, U, rfl, hinU⟩ := h
      exact ⟨U, rfl, hinU, ⟨m4.os, m4.tape, m4.output, m4.size, m4.block⟩, Or.inr ⟨k42, c4, k4, hk4, hc4, R4, by rw [← unhide HCH]; exact chainP_er (unhide HF) hfd hp2⟩⟩
     | ok x4 k4 =>
      rw [hp2] at h
      obtain ⟨m4, hk4, R4, U, rfl, hinU, hbU⟩ := h
      obtain ⟨f2, hf2, hch2⟩ := chainP_ok (x := (XT.mk ek eb em es et elo ehi ea el ec ekid).bare) (unhide HF) hfd hp2 (by omega)
      exact ⟨U, rfl, hinU, ⟨m4.os, m4.tape, m4.output, m4.size, m4.block⟩, Or.inl ⟨k4, f2, hk4, R4, hf2, by rw [hbU, ← hch2]; exact unhide HCH⟩⟩))
    have PC := hide (unhide HP _ (kk + 1) R3.drew)
    obtain ⟨x0, x1, x2, x3, x4, x5, x6, x7, x8, x9⟩ := unhide HX3
    go_wp2_with fail
    go_region_with (first
     | (go_at_call 152; refine (unhide PC).mono ?_; intro e w4 hq; obtain ⟨U, rfl, hinU, m4, hst4⟩ := unhide C2 e w4 hq; have HX4 := hide ((unhide HX3).mv m4 (by omega)); have HZ4 := hide ((unhide HZ3).mv m4 (by omega)); have HIN4 := hide ((unhide HIN3).mv m4 (fun g hg => by omega)); have M4 := M3.trans m4; have z4 := m4.size; have HU := hide hinU; have HST4 := hide hst4; obtain ⟨uk, ub, um, us, ut, ulo, uhi, ua, ul, uc, ukid, rfl⟩ := hinU.form; clear hinU hst4 hq m4; obtain ⟨v0, v1, v2, v3, v4, v5, v6, v7, v8, v9⟩ := unhide HX4; dsimp only [XT.val])
     | (go_at_call 105; refine (qbin_any (fun h => w.heap.size < h ∧ h ≠ w1.heap.size) (XT.mk ek eb em es et elo ehi ea el ec ekid) (XT.mk uk ub um us ut ulo uhi ua ul uc ukid) _ _ (unhide HIN4) ((unhide HU).weak (fun g _ hg => by unfold Fr at hg; omega)) (fun g hg => by omega)).mono ?_; rintro e w5 ⟨V, rfl, hinV, hbV, b5⟩; have HV := hide hinV; have HX6 := hide ((unhide HX4).below b5); have HZ6 := hide ((unhide HZ4).below b5); have M6 := M4.below b5; obtain ⟨pk, pb, pm, ps, pt, plo, phi, pa, pl, pc, pkid, rfl⟩ := hinV.form; clear hinV; obtain ⟨s0, s1, s2, s3, s4, s5, s6, s7, s8, s9⟩ := unhide HX6; dsimp only [XT.val]))
    all_goals
     go_wp2_with fail
     go_roundw
     case rel =>
      refine ⟨hide ⟨XT.mk pk pb pm ps pt plo phi pa pl pc pkid, pk, pb, pm, ps, pt, plo, phi, pa, pl, pc, pkid, rfl, (unhide HX6).put _ _ _ _ _ _ _ _ _ _, (unhide HV).set8 (fun g hg => hg.2) _ _ _ _ _ _ _ _, ?_⟩, hide ((unhide HZ6).set8 (by omega) _ _ _ _ _ _ _ _), M6.own8 (by omega) _ _ _ _ _ _ _ _, by simpa [World.setCell] using s0⟩
      rcases unhide HST4 with ⟨kk2, f2, h1, h2, h3, h4⟩ | ⟨kk2, c, kc, h1, h2, h3, h4⟩
      ·exact Or.inl ⟨kk2, f2, by omega, (h2.below b5).own8 R0 (by omega) _ _ _ _ _ _ _ _, h3, by rw [hbV]; exact h4⟩
      ·exact Or.inr ⟨kk2, c, kc, by omega, h2, (h3.below b5).own8 R0 (by omega) _ _ _ _ _ _ _ _, h4⟩
     case measure =>
      rcases unhide HST4 with ⟨kk2, f2, h1, h2, h3, h4⟩ | ⟨kk2, c, kc, h1, h2, h3, h4⟩
      ·rw [((h2.below b5).own8 R0 (r := w1.heap.size) (by omega) _ _ _ _ _ _ _ _).c1, R2.c1]
       have := h2.le
       simp [intOf]
       omega
      ·rw [((h3.below b5).own8 R0 (r := w1.heap.size) (by omega) _ _ _ _ _ _ _ _).c1, R2.c1]
       have := h3.le
       simp [intOf]
       omega
  ·go_wp2_with fail
   refine (tak_no _ kk c2 _ _ [[43], [45]] _ (R2.alloc _) hc2 (unhide HT) (Marks.at rfl R2.lt (by decide) (by decide))).mono ?_
   rintro e w3 ⟨rfl, b3⟩
   obtain ⟨x0, x1, x2, x3, x4, x5, x6, x7, x8, x9⟩ := ((unhide HXX).alloc _).below b3
   obtain ⟨y0, y1, y2, y3, y4, y5, y6, y7, y8, y9⟩ := ((unhide HZ).alloc _).below b3
   have HIN3 := hide (((unhide HIN).alloc _).below b3)
   have M3 := (M2.alloc _).below b3
   have R3 := (R2.alloc _).below b3
   clear HXX HZ HIN b3 R2
   go_wp2_with fail
   refine bodyPost_ret (v := .agg #[.int .i64 ek, .bool eb, .int .i64 em, .int .i64 es, .string et, .bool elo, .bool ehi, .slice ea el ec]) zR147y0y1y2y3y4y5y6y7y8 rfl ?_
   rw [hres]
   exact qpost_er (B := w.heap.size + 1) M3 hc2 hkk R3 R0 (Nat.le_refl _) (Nat.lt_succ_self _) ((unhide HIN3).weak (fun g _ hg => by unfold Fr; omega)) _ _ _ _ _ _ _ _
theorem qmul_any (d : Nat) (part : Nat → RX) (hp : QPartOf b a cap ts en 153 d part) (hts : GoodTs ts) : QPartOf b a cap ts en 152 d (chP ts part [[42], [47]]) := by
 intro w k R
 have R0 := R
 have hlt := R.lt
 have HP := hide hp
 have HT := hide hts
 clear R hp hts
 have HC := hide (chP.eq_1 ts part [[42], [47]] k)
 generalize chP ts part [[42], [47]] k = RES at *
 have z0 := hide (ZB.new w 26)
 go_enter Tryz.func152, Tryz.ntmps152
 go_wp2_with fail
 have C1 := unhide HP _ k (R0.alloc (zO 26))
 refine C1.mono ?_
 clear C1
 have key : ∀ e w1, QPost b a cap ts en (part k) k (w.alloc (zO 26)) e w1 → ∃ T : XT, e = .returned T.val ∧ T.In (Fr (w.heap.size + 1)) w1 ∧ Mv b (w.alloc (zO 26)) w1 ∧
   ((∃ kk f, k ≤ kk ∧ Qd b a cap ts en w1 kk 0 0 ∧ ts.length - kk ≤ f ∧ chainP ts part [[42], [47]] f T.bare kk = RES) ∨ (∃ kk c kc, k ≤ kk ∧ (c != 0) = true ∧ Qd b a cap ts en w1 kk c (posT ts kc en) ∧ RES = .er c kc)) := by
  intro e w1 h
  rw [unhide HC]
  cases hpk : part k with
  | er c1 k1 =>
   rw [hpk] at h
   obtain ⟨m1, hc1, k2, hk2, R1, T, rfl, hin⟩ := h
   exact ⟨T, rfl, hin.weak (fun g _ hg => by unfold Fr at hg ⊢; simp at hg; omega), m1, Or.inr ⟨k2, c1, k1, hk2, hc1, R1, rfl⟩⟩
  | ok x1 k1 =>
   rw [hpk] at h
   obtain ⟨m1, hk1, R1, T, rfl, hin, hbr⟩ := h
   exact ⟨T, rfl, hin.weak (fun g _ hg => by unfold Fr at hg ⊢; simp at hg; omega), m1, Or.inl ⟨k1, ts.length, hk1, R1, by omega, by rw [hbr]⟩⟩
 intro e w1 hpost
 obtain ⟨T, rfl, hin, m1, hst⟩ := key e w1 hpost
 clear hpost key HC
 have Z1 := hide ((unhide z0).mv m1 (by omega))
 have M1 := ((Mv.refl b w).alloc _).trans m1
 have z1 : w.heap.size + 1 ≤ w1.heap.size := by have := m1.size; simpa using this
 clear z0 m1
 have HIN := hide hin
 have HST := hide hst
 clear hst
 obtain ⟨ek, eb, em, es, et, elo, ehi, ea, el, ec, ekid, rfl⟩ := hin.form
 clear hin
 dsimp only [XT.val]
 go_wp2_with fail
 go_loopw [6] (fun _ wr => Hid (QAt b a cap ts en part [[42], [47]] RES k w.heap.size w1.heap.size wr) ∧ Hid (ZB wr w.heap.size) ∧ Mv b w wr ∧ w1.heap.size < wr.heap.size) (fun _ wr => ts.length - (intOf ((wr.cell? ⟨b, 1, none⟩).getD (.int .i64 0))).toNat)
 case atStart =>
  refine ⟨hide ⟨XT.mk ek eb em es et elo ehi ea el ec ekid, ek, eb, em, es, et, elo, ehi, ea, el, ec, ekid, rfl, XB.new _ _ _ _ _ _ _ _ _ _ _ _, ?_, ?_⟩, hide ((unhide Z1).alloc _), M1.alloc _, by simp⟩
  ·exact ((unhide HIN).weak (Q' := fun h => w.heap.size < h ∧ h ≠ w1.heap.size) (fun g h1 h2 => by unfold Fr at h2; omega)).alloc _
  ·rcases unhide HST with ⟨kk, f, h1, h2, h3, h4⟩ | ⟨kk, c, kc, h1, h2, h3, h4⟩
   ·exact Or.inl ⟨kk, f, h1, h2.alloc _, h3, h4⟩
   ·exact Or.inr ⟨kk, c, kc, h1, h2, h3.alloc _, h4⟩
 case round =>
  clear HIN HST Z1 M1
  obtain ⟨HA, HZ, M2, hz2⟩ := hrel
  obtain ⟨T, ek, eb, em, es, et, elo, ehi, ea, el, ec, ekid, rfl, HX, hin, hst⟩ := unhide HA
  clear HA
  have HIN := hide hin
  have HXX := hide HX
  clear hin HX
  rcases hst with ⟨kk, ff, hkk, R2, hf, hch⟩ | ⟨kk, c2, kc, hkk, hc2, R2, hres⟩
  ·have HF := hide hf
   have HCH := hide hch
   clear hf hch
   have hb2 := R2.lt
   cases hfd : fnd ts kk [[42], [47]] with
   | none =>
    have HE := hide (chainP_end (part := part) (f := ff) (x := (XT.mk ek eb em es et elo ehi ea el ec ekid).bare) hfd)
    go_wp2_with fail
    refine (tak_any _ kk _ [[42], [47]] _ (R2.alloc _) (unhide HT) (Marks.at rfl hb2 (by decide) (by decide))).mono ?_
    rw [hfd]
    clear hfd
    rintro e w3 ⟨m3, rfl, R3⟩
    obtain ⟨x0, x1, x2, x3, x4, x5, x6, x7, x8, x9⟩ := ((unhide HXX).alloc _).mv m3 (by omega)
    obtain ⟨y0, y1, y2, y3, y4, y5, y6, y7, y8, y9⟩ := ((unhide HZ).alloc _).mv m3 (by omega)
    have HIN3 := hide (((unhide HIN).alloc _).mv m3 (fun g hg => by omega))
    have M3 := (M2.alloc _).trans m3
    clear HXX HZ HIN m3 R2
    go_wp2_with fail
    refine bodyPost_ret (v := .agg #[.int .i64 ek, .bool eb, .int .i64 em, .int .i64 es, .string et, .bool elo, .bool ehi, .slice ea el ec]) zR152y0y1y2y3y4y5y6y7y8 rfl ?_
    rw [← unhide HCH, unhide HE]
    exact qpost_ok (B := w.heap.size + 1) M3 R3 R0 hkk (Nat.le_refl _) (Nat.lt_succ_self _) ((unhide HIN3).weak (fun g _ hg => by unfold Fr; omega)) rfl _ _ _ _ _ _ _ _
   | some op =>
    obtain ⟨hkt, hop⟩ := fnd_lt hfd
    have hne : (op == []) = false := by simp at hop; rcases hop with rfl | rfl <;> rfl
    have hne2 : (op != []) = true := by simpa using hne
    clear hop
    go_wp2_with fail
    refine (tak_any _ kk _ [[42], [47]] _ (R2.alloc _) (unhide HT) (Marks.at rfl hb2 (by decide) (by decide))).mono ?_
    rw [hfd]
    rintro e w3 ⟨m3, rfl, R3⟩
    have HX3 := hide (((unhide HXX).alloc _).mv m3 (by omega))
    have HZ3 := hide (((unhide HZ).alloc _).mv m3 (by omega))
    have HIN3 := hide (((unhide HIN).alloc _).mv m3 (fun g hg => by omega))
    have M3 := (M2.alloc _).trans m3
    have z3 : wr.heap.size + 1 ≤ w3.heap.size := by have := m3.size; simpa using this
    clear HXX HZ HIN m3 M2
    have C2 := hide (fun e w4 (h : QPost b a cap ts en (part (kk + 1)) (kk + 1) w3.drew e w4) => (show ∃ U : XT, e = .returned U.val ∧ U.In (Fr w3.heap.size) w4 ∧ Mv b w3 w4 ∧
      ((∃ kk2 f2, kk + 1 ≤ kk2 ∧ Qd b a cap ts en w4 kk2 0 0 ∧ ts.length - kk2 ≤ f2 ∧ chainP ts part [[42], [47]] f2 (binX op (XT.mk ek eb em es et elo ehi ea el ec ekid).bare U.bare) kk2 = RES) ∨ (∃ kk2 c kc, kk + 1 ≤ kk2 ∧ (c != 0) = true ∧ Qd b a cap ts en w4 kk2 c (posT ts kc en) ∧ RES = .er c kc)) by
     cases hp2 : part (kk + 1) with
     | er c4 k4 =>
      rw [hp2] at h
      obtain ⟨m4, hc4, k42, hk4, R4, U, rfl, hinU⟩ := h
      exact ⟨U, rfl, hinU, ⟨m4.os, m4.tape, m4.output, m4.size, m4.block⟩, Or.inr ⟨k42, c4, k4, hk4, hc4, R4, by rw [← unhide HCH]; exact chainP_er (unhide HF) hfd hp2⟩⟩
     | ok x4 k4 =>
      rw [hp2] at h
      obtain ⟨m4, hk4, R4, U, rfl, hinU, hbU⟩ := h
      obtain ⟨f2, hf2, hch2⟩ := chainP_ok (x := (XT.mk ek eb em es et elo ehi ea el ec ekid).bare) (unhide HF) hfd hp2 (by omega)
      exact ⟨U, rfl, hinU, ⟨m4.os, m4.tape, m4.output, m4.size, m4.block⟩, Or.inl ⟨k4, f2, hk4, R4, hf2, by rw [hbU, ← hch2]; exact unhide HCH⟩⟩))
    have PC := hide (unhide HP _ (kk + 1) R3.drew)
    obtain ⟨x0, x1, x2, x3, x4, x5, x6, x7, x8, x9⟩ := unhide HX3
    go_wp2_with fail
    go_region_with (first
     | (go_at_call 153; refine (unhide PC).mono ?_; intro e w4 hq; obtain ⟨U, rfl, hinU, m4, hst4⟩ := unhide C2 e w4 hq; have HX4 := hide ((unhide HX3).mv m4 (by omega)); have HZ4 := hide ((unhide HZ3).mv m4 (by omega)); have HIN4 := hide ((unhide HIN3).mv m4 (fun g hg => by omega)); have M4 := M3.trans m4; have z4 := m4.size; have HU := hide hinU; have HST4 := hide hst4; obtain ⟨uk, ub, um, us, ut, ulo, uhi, ua, ul, uc, ukid, rfl⟩ := hinU.form; clear hinU hst4 hq m4; obtain ⟨v0, v1, v2, v3, v4, v5, v6, v7, v8, v9⟩ := unhide HX4; dsimp only [XT.val])
     | (go_at_call 105; refine (qbin_any (fun h => w.heap.size < h ∧ h ≠ w1.heap.size) (XT.mk ek eb em es et elo ehi ea el ec ekid) (XT.mk uk ub um us ut ulo uhi ua ul uc ukid) _ _ (unhide HIN4) ((unhide HU).weak (fun g _ hg => by unfold Fr at hg; omega)) (fun g hg => by omega)).mono ?_; rintro e w5 ⟨V, rfl, hinV, hbV, b5⟩; have HV := hide hinV; have HX6 := hide ((unhide HX4).below b5); have HZ6 := hide ((unhide HZ4).below b5); have M6 := M4.below b5; obtain ⟨pk, pb, pm, ps, pt, plo, phi, pa, pl, pc, pkid, rfl⟩ := hinV.form; clear hinV; obtain ⟨s0, s1, s2, s3, s4, s5, s6, s7, s8, s9⟩ := unhide HX6; dsimp only [XT.val]))
    all_goals
     go_wp2_with fail
     go_roundw
     case rel =>
      refine ⟨hide ⟨XT.mk pk pb pm ps pt plo phi pa pl pc pkid, pk, pb, pm, ps, pt, plo, phi, pa, pl, pc, pkid, rfl, (unhide HX6).put _ _ _ _ _ _ _ _ _ _, (unhide HV).set8 (fun g hg => hg.2) _ _ _ _ _ _ _ _, ?_⟩, hide ((unhide HZ6).set8 (by omega) _ _ _ _ _ _ _ _), M6.own8 (by omega) _ _ _ _ _ _ _ _, by simpa [World.setCell] using s0⟩
      rcases unhide HST4 with ⟨kk2, f2, h1, h2, h3, h4⟩ | ⟨kk2, c, kc, h1, h2, h3, h4⟩
      ·exact Or.inl ⟨kk2, f2, by omega, (h2.below b5).own8 R0 (by omega) _ _ _ _ _ _ _ _, h3, by rw [hbV]; exact h4⟩
      ·exact Or.inr ⟨kk2, c, kc, by omega, h2, (h3.below b5).own8 R0 (by omega) _ _ _ _ _ _ _ _, h4⟩
     case measure =>
      rcases unhide HST4 with ⟨kk2, f2, h1, h2, h3, h4⟩ | ⟨kk2, c, kc, h1, h2, h3, h4⟩
      ·rw [((h2.below b5).own8 R0 (r := w1.heap.size) (by omega) _ _ _ _ _ _ _ _).c1, R2.c1]
       have := h2.le
       simp [intOf]
       omega
      ·rw [((h3.below b5).own8 R0 (r := w1.heap.size) (by omega) _ _ _ _ _ _ _ _).c1, R2.c1]
       have := h3.le
       simp [intOf]
       omega
  ·go_wp2_with fail
   refine (tak_no _ kk c2 _ _ [[42], [47]] _ (R2.alloc _) hc2 (unhide HT) (Marks.at rfl R2.lt (by decide) (by decide))).mono ?_
   rintro e w3 ⟨rfl, b3⟩
   obtain ⟨x0, x1, x2, x3, x4, x5, x6, x7, x8, x9⟩ := ((unhide HXX).alloc _).below b3
   obtain ⟨y0, y1, y2, y3, y4, y5, y6, y7, y8, y9⟩ := ((unhide HZ).alloc _).below b3
   have HIN3 := hide (((unhide HIN).alloc _).below b3)
   have M3 := (M2.alloc _).below b3
   have R3 := (R2.alloc _).below b3
   clear HXX HZ HIN b3 R2
   go_wp2_with fail
   refine bodyPost_ret (v := .agg #[.int .i64 ek, .bool eb, .int .i64 em, .int .i64 es, .string et, .bool elo, .bool ehi, .slice ea el ec]) zR152y0y1y2y3y4y5y6y7y8 rfl ?_
   rw [hres]
   exact qpost_er (B := w.heap.size + 1) M3 hc2 hkk R3 R0 (Nat.le_refl _) (Nat.lt_succ_self _) ((unhide HIN3).weak (fun g _ hg => by unfold Fr; omega)) _ _ _ _ _ _ _ _
end
end Go.Proofs.YtfdimdjmnfdecaaGreat
