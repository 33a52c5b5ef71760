/- RE10: laid together. -/
import Derived.Test.YtfdimdjmnfdecaaGreatKBI
set_option linter.unusedVariables false
set_option linter.unusedSimpArgs false
set_option maxHeartbeats 8000000
namespace Go.Proofs.YtfdimdjmnfdecaaGreat
open Go.RowKit
open VT (leaf mkV)
def LfRes (X : VT × Int) (e : Ending) : Prop := ∃ (k : Int) (b : Bool) (m s : Int) (t : ByteArray) (a : Option Addr) (cap : Nat), e = .returned (.tuple #[.agg #[.int .i64 k, .bool b, .int .i64 m, .int .i64 s, .string t, .slice a 0 cap], .int .i64 X.2]) ∧ X.1 = leaf k b m s t ∧ cap ≤ maxLen
theorem lfr_tup {X : VT × Int} (h : LF X.1) : LfRes X (.returned (Tup X)) := by
 obtain ⟨k, b, m, s, t, h⟩ := h
 exact ⟨k, b, m, s, t, none, 0, by unfold Tup; rw [h]; rfl, h, Nat.zero_le _⟩
theorem lfr_of {X : VT × Int} {k : Int} {b : Bool} {m s : Int} {t : ByteArray} {E : Int} (h : X = (leaf k b m s t, E)) : LfRes X (.returned (.tuple #[lfv k b m s t, .int .i64 E])) := by
 subst h; exact ⟨k, b, m, s, t, none, 0, rfl, rfl, Nat.zero_le _⟩
theorem mem_skip {y x v : VT} {l : List VT} (h : y ∈ x :: l) : y ∈ x :: v :: l := by
 rcases List.mem_cons.1 h with h | h
 ·exact List.mem_cons.2 (.inl h)
 ·exact List.mem_cons_of_mem _ (List.mem_cons_of_mem _ h)
theorem lst_num (sg : Int) (hsg : sg = 1 ∨ sg = -1) (l : List VT) : ∀ x : VT, (∀ v ∈ x :: l, kdV v = 2 ∧ v.okB 2 = true) → lstV sg l x ∈ x :: l ∧ (mOf (lstV sg l x), sOf (lstV sg l x)) = furD (-sg) l (mOf x, sOf x) := by
 induction l with
 | nil => intro x h; exact ⟨by simp [lstV], rfl⟩
 | cons v l ih =>
  intro x h
  obtain ⟨kx, ox⟩ := h x (by simp)
  obtain ⟨kv, ov⟩ := h v (by simp)
  have ix := num_of_ok ox kx
  have iv := num_of_ok ov kv
  have hc : v.cmp x = cmD (mOf v) (sOf v) (mOf x) (sOf x) := by
   obtain ⟨k, b, m, s, t, a, len, cap, kid, rfl⟩ : ∃ k b m s t a len cap kid, v = .mk k b m s t a len cap kid := by
    cases v with
    | none => exact absurd kv (by simp [kdV])
    | mk k b m s t a len cap kid => exact ⟨k, b, m, s, t, a, len, cap, kid, rfl⟩
   obtain ⟨k', b', m', s', t', a', len', cap', kid', rfl⟩ : ∃ k b m s t a len cap kid, x = .mk k b m s t a len cap kid := by
    cases x with
    | none => exact absurd kx (by simp [kdV])
    | mk k b m s t a len cap kid => exact ⟨k, b, m, s, t, a, len, cap, kid, rfl⟩
   obtain rfl : k = 2 := kv
   obtain rfl : k' = 2 := kx
   have e := cmp_dec m s m' s' iv ix
   show VT.cmp _ _ = cmpI (upM m s (max s s')) (upM m' s' (max s s'))
   rw [e]
   unfold VT.cmp
   rw [if_neg (by simp), if_neg (by decide), if_pos rfl]
  have hb := cmpI_bd (upM (mOf v) (sOf v) (max (sOf v) (sOf x))) (upM (mOf x) (sOf x) (max (sOf v) (sOf x)))
  have hd : v.cmp x * sg < 0 ↔ cmD (mOf v) (sOf v) (mOf x) (sOf x) = -sg := by
   rw [hc]
   unfold cmD
   rcases hsg with rfl | rfl <;> omega
  unfold lstV furD
  by_cases hq : v.cmp x * sg < 0
  ·rw [if_pos hq, if_pos (hd.1 hq)]
   obtain ⟨i1, i2⟩ := ih v (fun y hy => h y (List.mem_cons_of_mem _ hy))
   exact ⟨List.mem_cons_of_mem _ i1, i2⟩
  ·rw [if_neg hq, if_neg (fun hh => hq (hd.2 hh))]
   obtain ⟨i1, i2⟩ := ih x (fun y hy => h y (mem_skip hy))
   exact ⟨mem_skip i1, i2⟩
theorem okB_numF {b : Bool} {m s : Int} {t : ByteArray} {a : Option Addr} {len cap : Nat} {kid : Nat → VT} (h : (VT.mk 2 b m s t a len cap kid).okB 2 = true) : b = false ∧ t = ⟨#[]⟩ ∧ len = 0 := by
 obtain ⟨a1, -, a3, a4⟩ := alone_t (okB_kind h).1
 exact ⟨a1 (by decide), nil_of (a3 (by decide)), a4 (by decide)⟩
theorem lst_val (sg : Int) (hsg : sg = 1 ∨ sg = -1) (l : List VT) (hall : (l.all fun v => kdV v == 2) = true) (hok : ∀ v ∈ l, v.okB 2 = true) (hcap : ∀ v ∈ l, ∃ k b m s t a len cap kid, v = VT.mk k b m s t a len cap kid ∧ cap ≤ maxLen) :
  LfRes (furV (-sg) l, 0) (.returned (.tuple #[(lstR sg l).val, .int .i64 0])) := by
 cases l with
 | nil => exact lfr_tup lf_nil
 | cons x l =>
  have hk : ∀ v ∈ x :: l, kdV v = 2 ∧ v.okB 2 = true := fun v hv => ⟨by simpa using List.all_eq_true.1 hall v hv, hok v hv⟩
  obtain ⟨h1, h2⟩ := lst_num sg hsg l x hk
  obtain ⟨k, b, m, s, t, a, len, cap, kid, e, hc⟩ := hcap _ h1
  obtain ⟨g1, g2⟩ := hk _ h1
  show LfRes (numV (furD (-sg) l (mOf x, sOf x)).1 (furD (-sg) l (mOf x, sOf x)).2, 0) (.returned (.tuple #[(lstV sg l x).val, .int .i64 0]))
  rw [← h2]
  rw [e] at g1 g2 ⊢
  obtain rfl : k = 2 := g1
  obtain ⟨rfl, rfl, rfl⟩ := okB_numF g2
  exact ⟨2, false, m, s, ⟨#[]⟩, a, cap, rfl, rfl, hc⟩
theorem row_caps {a : Option Addr} {cap : Nat} {l : List VT} {w : World} (h : (rowT a cap l).In w) : ∀ v ∈ l, ∃ k b m s t a len cap kid, v = VT.mk k b m s t a len cap kid ∧ cap ≤ maxLen := by
 intro v hv
 obtain ⟨i, hi, rfl⟩ := List.getElem_of_mem hv
 obtain ⟨-, -, k', b', m', s', t', a', len', cap', kid', -, hx, -, hk⟩ := h.kid hi
 refine ⟨k', b', m', s', t', a', len', cap', kid', ?_, hk.1.2.2.2.2.2⟩
 rw [← hx]
 exact (getD_eq hi).symm
theorem lst_mk (sg : Int) (l : List VT) (h : ∀ v ∈ l, ∃ k b m s t a len cap kid, v = VT.mk k b m s t a len cap kid ∧ cap ≤ maxLen) : ∃ k b m s t a len cap kid, lstR sg l = VT.mk k b m s t a len cap kid := by
 cases l with
 | nil => exact ⟨_, _, _, _, _, _, _, _, _, rfl⟩
 | cons x l =>
  have key : ∀ (l : List VT) (x : VT), lstV sg l x ∈ x :: l := by
   intro l
   induction l with
   | nil => intro x; simp [lstV]
   | cons v l ih =>
    intro x
    unfold lstV
    by_cases hq : v.cmp x * sg < 0
    ·rw [if_pos hq]; exact List.mem_cons_of_mem _ (ih v)
    ·rw [if_neg hq]; exact mem_skip (ih x)
  obtain ⟨k, b, m, s, t, a, len, cap, kid, e, -⟩ := h _ (key l x)
  exact ⟨k, b, m, s, t, a, len, cap, kid, e⟩
theorem moverL_no (nm : List UInt8) (q0 : (nm == [99, 97, 116]) = false) (bl o cap : Nat) (b : Bool) (m s : Int) (t : ByteArray) (a1 : Option Addr) (cap1 : Nat) (l : List VT) (w : World) (six : VT.Six w bl o 4 b m s t a1 l.length cap1) (hr : (rowT a1 cap1 l).In w) (hall : (l.all fun v => kdV v == 2) = false) :
  Calls Tryz.prog 63 #[.string ⟨(nm).toArray⟩, .slice (some ⟨bl, o, none⟩) 1 cap] w fun e w' => e = .returned (.tuple #[lfv 0 false 0 0 ⟨#[]⟩, .int .i64 0]) ∧ Below w.heap.size w w' := by
 have b0 := bZ w
 have O0 := Own.new w 32
 have AL := hide (fun w h => rallE_any 2 a1 cap1 l w h)
 rw [hall] at AL
 clear hall
 obtain ⟨s0, s1, s2, s3, s4, s5, s6⟩ := six
 have hr1 := hide (hr.below b0)
 clear hr
 go_enter Tryz.func63, Tryz.ntmps63
 go_wp2_with fail
 refine (unhide AL _ (unhide hr1)).mono ?_
 rintro e w1 ⟨rfl, k1⟩
 have O1 := O0.below k1
 have B1 := bstep b0 k1
 have hr2 := hide ((unhide hr1).below k1)
 clear k1 O0 b0 hr1
 obtain ⟨u0, t0, t1, t2, t3, t4, t5, f0, f1, f2, f3, f4, f5⟩ := Own.fl O1
 try unfold lfv
 go_wp2_with fail
 exact bodyPost_ret (v := .tuple #[lfv 0 false 0 0 ⟨#[]⟩, .int .i64 0]) zR63lt0t1t2t3t4t5 rfl ⟨rfl, zBL⟩
theorem moverL_min (bl o cap : Nat) (b : Bool) (m s : Int) (t : ByteArray) (a1 : Option Addr) (cap1 : Nat) (l : List VT) (w : World) (six : VT.Six w bl o 4 b m s t a1 l.length cap1) (hr : (rowT a1 cap1 l).In w) (hall : (l.all fun v => kdV v == 2) = true) (hok : ∀ v ∈ l, v.okB 2 = true) :
  Calls Tryz.prog 63 #[.string ⟨([109, 105, 110]).toArray⟩, .slice (some ⟨bl, o, none⟩) 1 cap] w fun e w' => LfRes (furV (-1) l, 0) e ∧ Below w.heap.size w w' := by
 have b0 := bZ w
 have O0 := Own.new w 32
 have AL := hide (fun w h => rallE_any 2 a1 cap1 l w h)
 rw [hall] at AL
 have FU := hide (fun w h => rleast_any a1 cap1 l 1 w h hok (by decide))
 have RR := hide (lst_val 1 (by decide) l hall hok (row_caps hr))
 obtain ⟨K, BB, M', SS, TT, AA, LL, CC, KK, eV⟩ := lst_mk 1 l (row_caps hr)
 have EV := hide eV
 rw [eV] at RR
 dsimp only [VT.val] at RR
 clear eV hall hok
 obtain ⟨s0, s1, s2, s3, s4, s5, s6⟩ := six
 have hr1 := hide (hr.below b0)
 clear hr
 go_enter Tryz.func63, Tryz.ntmps63
 go_wp2_with fail
 refine (unhide AL _ (unhide hr1)).mono ?_
 rintro e w1 ⟨rfl, k1⟩
 have O1 := O0.below k1
 have B1 := bstep b0 k1
 have hr2 := hide ((unhide hr1).below k1)
 clear k1 O0 b0 hr1
 go_wp2_with fail
 refine (unhide FU _ (unhide hr2)).mono ?_
 rintro e w2 ⟨rfl, k2⟩
 have O2 := O1.below k2
 have B2 := bstep B1 k2
 clear k2 O1 B1 hr2
 rw [unhide EV]
 dsimp only [VT.val]
 obtain ⟨u0, t0, t1, t2, t3, t4, t5, f0, f1, f2, f3, f4, f5⟩ := Own.fl O2
 try unfold lfv
 go_wp2_with fail
 exact bodyPost_ret (v := .tuple #[.agg #[.int .i64 K, .bool BB, .int .i64 M', .int .i64 SS, .string TT, .slice AA LL CC], .int .i64 0]) zR63lt0t1t2t3t4t5 rfl ⟨unhide RR, zBL⟩
theorem moverL_max (bl o cap : Nat) (b : Bool) (m s : Int) (t : ByteArray) (a1 : Option Addr) (cap1 : Nat) (l : List VT) (w : World) (six : VT.Six w bl o 4 b m s t a1 l.length cap1) (hr : (rowT a1 cap1 l).In w) (hall : (l.all fun v => kdV v == 2) = true) (hok : ∀ v ∈ l, v.okB 2 = true) :
  Calls Tryz.prog 63 #[.string ⟨([109, 97, 120]).toArray⟩, .slice (some ⟨bl, o, none⟩) 1 cap] w fun e w' => LfRes (furV (-(-1)) l, 0) e ∧ Below w.heap.size w w' := by
 have b0 := bZ w
 have O0 := Own.new w 32
 have AL := hide (fun w h => rallE_any 2 a1 cap1 l w h)
 rw [hall] at AL
 have FU := hide (fun w h => rleast_any a1 cap1 l (-1) w h hok (by decide))
 have RR := hide (lst_val (-1) (by decide) l hall hok (row_caps hr))
 obtain ⟨K, BB, M', SS, TT, AA, LL, CC, KK, eV⟩ := lst_mk (-1) l (row_caps hr)
 have EV := hide eV
 rw [eV] at RR
 dsimp only [VT.val] at RR
 clear eV hall hok
 obtain ⟨s0, s1, s2, s3, s4, s5, s6⟩ := six
 have hr1 := hide (hr.below b0)
 clear hr
 go_enter Tryz.func63, Tryz.ntmps63
 go_wp2_with fail
 refine (unhide AL _ (unhide hr1)).mono ?_
 rintro e w1 ⟨rfl, k1⟩
 have O1 := O0.below k1
 have B1 := bstep b0 k1
 have hr2 := hide ((unhide hr1).below k1)
 clear k1 O0 b0 hr1
 go_wp2_with fail
 refine (unhide FU _ (unhide hr2)).mono ?_
 rintro e w2 ⟨rfl, k2⟩
 have O2 := O1.below k2
 have B2 := bstep B1 k2
 clear k2 O1 B1 hr2
 rw [unhide EV]
 dsimp only [VT.val]
 obtain ⟨u0, t0, t1, t2, t3, t4, t5, f0, f1, f2, f3, f4, f5⟩ := Own.fl O2
 try unfold lfv
 go_wp2_with fail
 exact bodyPost_ret (v := .tuple #[.agg #[.int .i64 K, .bool BB, .int .i64 M', .int .i64 SS, .string TT, .slice AA LL CC], .int .i64 0]) zR63lt0t1t2t3t4t5 rfl ⟨unhide RR, zBL⟩
theorem moverL_sum (nm : List UInt8) (q0 : (nm == [99, 97, 116]) = false) (q1 : (nm == [109, 105, 110]) = false) (q2 : (nm == [109, 97, 120]) = false) (bl o cap : Nat) (b : Bool) (m s : Int) (t : ByteArray) (a1 : Option Addr) (cap1 : Nat) (l : List VT) (w : World) (six : VT.Six w bl o 4 b m s t a1 l.length cap1) (hr : (rowT a1 cap1 l).In w) (hall : (l.all fun v => kdV v == 2) = true) (hok : ∀ v ∈ l, v.okB 2 = true) :
  Calls Tryz.prog 63 #[.string ⟨(nm).toArray⟩, .slice (some ⟨bl, o, none⟩) 1 cap] w fun e w' => e = .returned (Tup (sumT l (0, 0))) ∧ Below w.heap.size w w' := by
 have b0 := bZ w
 have O0 := Own.new w 32
 have AL := hide (fun w h => rallE_any 2 a1 cap1 l w h)
 rw [hall] at AL
 have FU := hide (fun w h => rsum_any a1 cap1 l w h (isB_all hall hok))
 obtain ⟨K, BB, M', SS, TT, eV⟩ := tup_lf (lf_sum l (0, 0))
 have EV := hide eV
 rw [eV]
 generalize hE2 : (sumT l (0, 0)).2 = E2 at *
 clear eV hall hok hE2
 obtain ⟨s0, s1, s2, s3, s4, s5, s6⟩ := six
 have hr1 := hide (hr.below b0)
 clear hr
 go_enter Tryz.func63, Tryz.ntmps63
 go_wp2_with fail
 refine (unhide AL _ (unhide hr1)).mono ?_
 rintro e w1 ⟨rfl, k1⟩
 have O1 := O0.below k1
 have B1 := bstep b0 k1
 have hr2 := hide ((unhide hr1).below k1)
 clear k1 O0 b0 hr1
 go_wp2_with fail
 refine (unhide FU _ (unhide hr2)).mono ?_
 rintro e w2 ⟨rfl, k2⟩
 have O2 := O1.below k2
 have B2 := bstep B1 k2
 clear k2 O1 B1 hr2
 rw [unhide EV]
 obtain ⟨u0, t0, t1, t2, t3, t4, t5, f0, f1, f2, f3, f4, f5⟩ := Own.fl O2
 try unfold lfv
 go_wp2_with fail
 exact bodyPost_ret (v := .tuple #[lfv K BB M' SS TT, .int .i64 E2]) zR63lt0t1t2t3t4t5 rfl ⟨rfl, zBL⟩
theorem moverR_no (nm : List UInt8) (q0 : (nm == [99, 97, 116]) = false) (a : Option Addr) (cap : Nat) (l : List VT) (w : World) (e0 : ((l.length : Int) == 0) = false) (h1 : ((l.length : Int) == 1) = false ∨ ∃ bl o k b m s t a1 len1 cap1, a = some ⟨bl, o, none⟩ ∧ VT.Six w bl o k b m s t a1 len1 cap1 ∧ (k == 4) = false ∧ l.length = 1) (hr : (rowT a cap l).In w) (hall : (l.all fun v => kdV v == 2) = false) :
  Calls Tryz.prog 63 #[.string ⟨(nm).toArray⟩, .slice a l.length cap] w fun e w' => e = .returned (.tuple #[lfv 0 false 0 0 ⟨#[]⟩, .int .i64 0]) ∧ Below w.heap.size w w' := by
 have b0 := bZ w
 have O0 := Own.new w 32
 have AL := hide (fun w h => rallE_any 2 a cap l w h)
 rw [hall] at AL
 clear hall
 have hr1 := hide (hr.below b0)
 clear hr
 rcases h1 with e1 | ⟨bl, o, k, b, m, s, t, a1, len1, cap1, rfl, ⟨s0, s1, s2, s3, s4, s5, s6⟩, hk, hl1⟩
 ·go_enter Tryz.func63, Tryz.ntmps63
  go_wp2_with fail
  refine (unhide AL _ (unhide hr1)).mono ?_
  rintro e w1 ⟨rfl, k1⟩
  have O1 := O0.below k1
  have B1 := bstep b0 k1
  have hr2 := hide ((unhide hr1).below k1)
  clear k1 O0 b0 hr1
  obtain ⟨u0, t0, t1, t2, t3, t4, t5, f0, f1, f2, f3, f4, f5⟩ := Own.fl O1
  try unfold lfv
  go_wp2_with fail
  exact bodyPost_ret (v := .tuple #[lfv 0 false 0 0 ⟨#[]⟩, .int .i64 0]) zR63lt0t1t2t3t4t5 rfl ⟨rfl, zBL⟩
 ·have e1 : ((l.length : Int) == 1) = true := by simp; omega
  have hl0 : 0 < l.length := by omega
  clear hl1
  go_enter Tryz.func63, Tryz.ntmps63
  go_wp2_with fail
  refine (unhide AL _ (unhide hr1)).mono ?_
  rintro e w1 ⟨rfl, k1⟩
  have O1 := O0.below k1
  have B1 := bstep b0 k1
  have hr2 := hide ((unhide hr1).below k1)
  clear k1 O0 b0 hr1
  obtain ⟨u0, t0, t1, t2, t3, t4, t5, f0, f1, f2, f3, f4, f5⟩ := Own.fl O1
  try unfold lfv
  go_wp2_with fail
  exact bodyPost_ret (v := .tuple #[lfv 0 false 0 0 ⟨#[]⟩, .int .i64 0]) zR63lt0t1t2t3t4t5 rfl ⟨rfl, zBL⟩
theorem moverR_min (a : Option Addr) (cap : Nat) (l : List VT) (w : World) (e0 : ((l.length : Int) == 0) = false) (h1 : ((l.length : Int) == 1) = false ∨ ∃ bl o k b m s t a1 len1 cap1, a = some ⟨bl, o, none⟩ ∧ VT.Six w bl o k b m s t a1 len1 cap1 ∧ (k == 4) = false ∧ l.length = 1) (hr : (rowT a cap l).In w) (hall : (l.all fun v => kdV v == 2) = true) (hok : ∀ v ∈ l, v.okB 2 = true) :
  Calls Tryz.prog 63 #[.string ⟨([109, 105, 110]).toArray⟩, .slice a l.length cap] w fun e w' => LfRes (furV (-1) l, 0) e ∧ Below w.heap.size w w' := by
 have b0 := bZ w
 have O0 := Own.new w 32
 have AL := hide (fun w h => rallE_any 2 a cap l w h)
 rw [hall] at AL
 have FU := hide (fun w h => rleast_any a cap l 1 w h hok (by decide))
 have RR := hide (lst_val 1 (by decide) l hall hok (row_caps hr))
 obtain ⟨K, BB, M', SS, TT, AA, LL, CC, KK, eV⟩ := lst_mk 1 l (row_caps hr)
 have EV := hide eV
 rw [eV] at RR
 dsimp only [VT.val] at RR
 clear eV hall hok
 have hr1 := hide (hr.below b0)
 clear hr
 rcases h1 with e1 | ⟨bl, o, k, b, m, s, t, a1, len1, cap1, rfl, ⟨s0, s1, s2, s3, s4, s5, s6⟩, hk, hl1⟩
 ·go_enter Tryz.func63, Tryz.ntmps63
  go_wp2_with fail
  refine (unhide AL _ (unhide hr1)).mono ?_
  rintro e w1 ⟨rfl, k1⟩
  have O1 := O0.below k1
  have B1 := bstep b0 k1
  have hr2 := hide ((unhide hr1).below k1)
  clear k1 O0 b0 hr1
  go_wp2_with fail
  refine (unhide FU _ (unhide hr2)).mono ?_
  rintro e w2 ⟨rfl, k2⟩
  have O2 := O1.below k2
  have B2 := bstep B1 k2
  clear k2 O1 B1 hr2
  rw [unhide EV]
  dsimp only [VT.val]
  obtain ⟨u0, t0, t1, t2, t3, t4, t5, f0, f1, f2, f3, f4, f5⟩ := Own.fl O2
  try unfold lfv
  go_wp2_with fail
  exact bodyPost_ret (v := .tuple #[.agg #[.int .i64 K, .bool BB, .int .i64 M', .int .i64 SS, .string TT, .slice AA LL CC], .int .i64 0]) zR63lt0t1t2t3t4t5 rfl ⟨unhide RR, zBL⟩
 ·have e1 : ((l.length : Int) == 1) = true := by simp; omega
  have hl0 : 0 < l.length := by omega
  clear hl1
  go_enter Tryz.func63, Tryz.ntmps63
  go_wp2_with fail
  refine (unhide AL _ (unhide hr1)).mono ?_
  rintro e w1 ⟨rfl, k1⟩
  have O1 := O0.below k1
  have B1 := bstep b0 k1
  have hr2 := hide ((unhide hr1).below k1)
  clear k1 O0 b0 hr1
  go_wp2_with fail
  refine (unhide FU _ (unhide hr2)).mono ?_
  rintro e w2 ⟨rfl, k2⟩
  have O2 := O1.below k2
  have B2 := bstep B1 k2
  clear k2 O1 B1 hr2
  rw [unhide EV]
  dsimp only [VT.val]
  obtain ⟨u0, t0, t1, t2, t3, t4, t5, f0, f1, f2, f3, f4, f5⟩ := Own.fl O2
  try unfold lfv
  go_wp2_with fail
  exact bodyPost_ret (v := .tuple #[.agg #[.int .i64 K, .bool BB, .int .i64 M', .int .i64 SS, .string TT, .slice AA LL CC], .int .i64 0]) zR63lt0t1t2t3t4t5 rfl ⟨unhide RR, zBL⟩
theorem moverR_max (a : Option Addr) (cap : Nat) (l : List VT) (w : World) (e0 : ((l.length : Int) == 0) = false) (h1 : ((l.length : Int) == 1) = false ∨ ∃ bl o k b m s t a1 len1 cap1, a = some ⟨bl, o, none⟩ ∧ VT.Six w bl o k b m s t a1 len1 cap1 ∧ (k == 4) = false ∧ l.length = 1) (hr : (rowT a cap l).In w) (hall : (l.all fun v => kdV v == 2) = true) (hok : ∀ v ∈ l, v.okB 2 = true) :
  Calls Tryz.prog 63 #[.string ⟨([109, 97, 120]).toArray⟩, .slice a l.length cap] w fun e w' => LfRes (furV (-(-1)) l, 0) e ∧ Below w.heap.size w w' := by
 have b0 := bZ w
 have O0 := Own.new w 32
 have AL := hide (fun w h => rallE_any 2 a cap l w h)
 rw [hall] at AL
 have FU := hide (fun w h => rleast_any a cap l (-1) w h hok (by decide))
 have RR := hide (lst_val (-1) (by decide) l hall hok (row_caps hr))
 obtain ⟨K, BB, M', SS, TT, AA, LL, CC, KK, eV⟩ := lst_mk (-1) l (row_caps hr)
 have EV := hide eV
 rw [eV] at RR
 dsimp only [VT.val] at RR
 clear eV hall hok
 have hr1 := hide (hr.below b0)
 clear hr
 rcases h1 with e1 | ⟨bl, o, k, b, m, s, t, a1, len1, cap1, rfl, ⟨s0, s1, s2, s3, s4, s5, s6⟩, hk, hl1⟩
 ·go_enter Tryz.func63, Tryz.ntmps63
  go_wp2_with fail
  refine (unhide AL _ (unhide hr1)).mono ?_
  rintro e w1 ⟨rfl, k1⟩
  have O1 := O0.below k1
  have B1 := bstep b0 k1
  have hr2 := hide ((unhide hr1).below k1)
  clear k1 O0 b0 hr1
  go_wp2_with fail
  refine (unhide FU _ (unhide hr2)).mono ?_
  rintro e w2 ⟨rfl, k2⟩
  have O2 := O1.below k2
  have B2 := bstep B1 k2
  clear k2 O1 B1 hr2
  rw [unhide EV]
  dsimp only [VT.val]
  obtain ⟨u0, t0, t1, t2, t3, t4, t5, f0, f1, f2, f3, f4, f5⟩ := Own.fl O2
  try unfold lfv
  go_wp2_with fail
  exact bodyPost_ret (v := .tuple #[.agg #[.int .i64 K, .bool BB, .int .i64 M', .int .i64 SS, .string TT, .slice AA LL CC], .int .i64 0]) zR63lt0t1t2t3t4t5 rfl ⟨unhide RR, zBL⟩
 ·have e1 : ((l.length : Int) == 1) = true := by simp; omega
  have hl0 : 0 < l.length := by omega
  clear hl1
  go_enter Tryz.func63, Tryz.ntmps63
  go_wp2_with fail
  refine (unhide AL _ (unhide hr1)).mono ?_
  rintro e w1 ⟨rfl, k1⟩
  have O1 := O0.below k1
  have B1 := bstep b0 k1
  have hr2 := hide ((unhide hr1).below k1)
  clear k1 O0 b0 hr1
  go_wp2_with fail
  refine (unhide FU _ (unhide hr2)).mono ?_
  rintro e w2 ⟨rfl, k2⟩
  have O2 := O1.below k2
  have B2 := bstep B1 k2
  clear k2 O1 B1 hr2
  rw [unhide EV]
  dsimp only [VT.val]
  obtain ⟨u0, t0, t1, t2, t3, t4, t5, f0, f1, f2, f3, f4, f5⟩ := Own.fl O2
  try unfold lfv
  go_wp2_with fail
  exact bodyPost_ret (v := .tuple #[.agg #[.int .i64 K, .bool BB, .int .i64 M', .int .i64 SS, .string TT, .slice AA LL CC], .int .i64 0]) zR63lt0t1t2t3t4t5 rfl ⟨unhide RR, zBL⟩
theorem moverR_sum (nm : List UInt8) (q0 : (nm == [99, 97, 116]) = false) (q1 : (nm == [109, 105, 110]) = false) (q2 : (nm == [109, 97, 120]) = false) (a : Option Addr) (cap : Nat) (l : List VT) (w : World) (e0 : ((l.length : Int) == 0) = false) (h1 : ((l.length : Int) == 1) = false ∨ ∃ bl o k b m s t a1 len1 cap1, a = some ⟨bl, o, none⟩ ∧ VT.Six w bl o k b m s t a1 len1 cap1 ∧ (k == 4) = false ∧ l.length = 1) (hr : (rowT a cap l).In w) (hall : (l.all fun v => kdV v == 2) = true) (hok : ∀ v ∈ l, v.okB 2 = true) :
  Calls Tryz.prog 63 #[.string ⟨(nm).toArray⟩, .slice a l.length cap] w fun e w' => e = .returned (Tup (sumT l (0, 0))) ∧ Below w.heap.size w w' := by
 have b0 := bZ w
 have O0 := Own.new w 32
 have AL := hide (fun w h => rallE_any 2 a cap l w h)
 rw [hall] at AL
 have FU := hide (fun w h => rsum_any a cap l w h (isB_all hall hok))
 obtain ⟨K, BB, M', SS, TT, eV⟩ := tup_lf (lf_sum l (0, 0))
 have EV := hide eV
 rw [eV]
 generalize hE2 : (sumT l (0, 0)).2 = E2 at *
 clear eV hall hok hE2
 have hr1 := hide (hr.below b0)
 clear hr
 rcases h1 with e1 | ⟨bl, o, k, b, m, s, t, a1, len1, cap1, rfl, ⟨s0, s1, s2, s3, s4, s5, s6⟩, hk, hl1⟩
 ·go_enter Tryz.func63, Tryz.ntmps63
  go_wp2_with fail
  refine (unhide AL _ (unhide hr1)).mono ?_
  rintro e w1 ⟨rfl, k1⟩
  have O1 := O0.below k1
  have B1 := bstep b0 k1
  have hr2 := hide ((unhide hr1).below k1)
  clear k1 O0 b0 hr1
  go_wp2_with fail
  refine (unhide FU _ (unhide hr2)).mono ?_
  rintro e w2 ⟨rfl, k2⟩
  have O2 := O1.below k2
  have B2 := bstep B1 k2
  clear k2 O1 B1 hr2
  rw [unhide EV]
  obtain ⟨u0, t0, t1, t2, t3, t4, t5, f0, f1, f2, f3, f4, f5⟩ := Own.fl O2
  try unfold lfv
  go_wp2_with fail
  exact bodyPost_ret (v := .tuple #[lfv K BB M' SS TT, .int .i64 E2]) zR63lt0t1t2t3t4t5 rfl ⟨rfl, zBL⟩
 ·have e1 : ((l.length : Int) == 1) = true := by simp; omega
  have hl0 : 0 < l.length := by omega
  clear hl1
  go_enter Tryz.func63, Tryz.ntmps63
  go_wp2_with fail
  refine (unhide AL _ (unhide hr1)).mono ?_
  rintro e w1 ⟨rfl, k1⟩
  have O1 := O0.below k1
  have B1 := bstep b0 k1
  have hr2 := hide ((unhide hr1).below k1)
  clear k1 O0 b0 hr1
  go_wp2_with fail
  refine (unhide FU _ (unhide hr2)).mono ?_
  rintro e w2 ⟨rfl, k2⟩
  have O2 := O1.below k2
  have B2 := bstep B1 k2
  clear k2 O1 B1 hr2
  rw [unhide EV]
  obtain ⟨u0, t0, t1, t2, t3, t4, t5, f0, f1, f2, f3, f4, f5⟩ := Own.fl O2
  try unfold lfv
  go_wp2_with fail
  exact bodyPost_ret (v := .tuple #[lfv K BB M' SS TT, .int .i64 E2]) zR63lt0t1t2t3t4t5 rfl ⟨rfl, zBL⟩
theorem mover_row (nm : List UInt8) (P : Array Value) (l : List VT) (w : World) (hok : ∀ v ∈ l, v.okB 2 = true)
  (h1 : (l.all fun v => kdV v == 2) = false → Calls Tryz.prog 63 P w fun e w' => e = .returned (.tuple #[lfv 0 false 0 0 ⟨#[]⟩, .int .i64 0]) ∧ Below w.heap.size w w')
  (h2 : (l.all fun v => kdV v == 2) = true → nm = [109, 105, 110] → Calls Tryz.prog 63 P w fun e w' => LfRes (furV (-1) l, 0) e ∧ Below w.heap.size w w')
  (h3 : (l.all fun v => kdV v == 2) = true → nm = [109, 97, 120] → Calls Tryz.prog 63 P w fun e w' => LfRes (furV 1 l, 0) e ∧ Below w.heap.size w w')
  (h4 : (l.all fun v => kdV v == 2) = true → (nm == [109, 105, 110]) = false → (nm == [109, 97, 120]) = false → Calls Tryz.prog 63 P w fun e w' => e = .returned (Tup (sumT l (0, 0))) ∧ Below w.heap.size w w') :
  Calls Tryz.prog 63 P w fun e w' => LfRes (ovT nm l) e ∧ Below w.heap.size w w' := by
 unfold ovT
 cases hall : (l.all fun v => kdV v == 2)
 ·rw [if_pos rfl]; exact (h1 hall).mono (fun e w h => ⟨h.1 ▸ lfr_tup lf_nil, h.2⟩)
 rw [if_neg (by simp)]
 by_cases e1 : nm = [109, 105, 110]
 ·rw [if_pos e1]; exact h2 hall e1
 rw [if_neg e1]
 by_cases e2 : nm = [109, 97, 120]
 ·rw [if_pos e2]; exact h3 hall e2
 rw [if_neg e2]
 exact (h4 hall (by simpa using e1) (by simpa using e2)).mono (fun e w h => ⟨h.1 ▸ lfr_tup (lf_sum _ _), h.2⟩)
theorem rnums_any (nm : List UInt8) (q0 : (nm == [99, 97, 116]) = false) (a : Option Addr) (cap : Nat) (l : List VT) (w : World) (hin : (rowT a cap l).In w) (hok : ∀ v ∈ l, v.okB 2 = true) :
  Calls Tryz.prog 63 #[.string ⟨nm.toArray⟩, .slice a l.length cap] w fun e w' => LfRes (overT nm l) e ∧ Below w.heap.size w w' := by
 unfold overT
 by_cases h0 : l = []
 ·rw [if_pos h0]
  subst h0
  go_enter Tryz.func63, Tryz.ntmps63
  go_wp2_with fail
  exact bodyPost_ret (v := .tuple #[lfv 0 false 0 0 ⟨#[]⟩, .int .i64 0]) (by simp [results, Tryz.results63, go_sem, lfv]) rfl ⟨lfr_tup lf_nil, zBL⟩
 rw [if_neg h0]
 have e0 : ((l.length : Int) == 0) = false := by have := List.length_pos_iff.2 h0; simp; omega
 have hlm : l.length ≤ maxLen := by have := hin.1; omega
 by_cases hl : l.length = 1
 ·obtain ⟨x, rfl⟩ := List.length_eq_one_iff.1 hl
  obtain ⟨bl, o, k, b, m, s, t, a1, len, cap1, kid, rfl, hx, six, hk⟩ := hin.kid (i := 0) (by simp)
  obtain rfl : x = .mk k b m s t a1 len cap1 kid := by simpa using hx
  rw [show o + 0 * 6 = o by omega] at six
  by_cases h4 : k = 4
  ·subst h4
   have e : oneL [VT.mk 4 b m s t a1 len cap1 kid] = some ((List.range len).map kid) := rfl
   rw [e, Option.getD_some]
   have hl2 := okB_list (hok _ (by simp : VT.mk 4 b m s t a1 len cap1 kid ∈ [VT.mk 4 b m s t a1 len cap1 kid]))
   have hok2 : ∀ v ∈ (List.range len).map kid, v.okB 2 = true := fun v hv => by
    simp only [List.mem_map, List.mem_range] at hv
    obtain ⟨i, hi, rfl⟩ := hv
    exact okB_up (hl2.2 i hi)
   have hr := rowT_of hk
   have eL : ((List.range len).map kid).length = len := by simp
   have six' : VT.Six w bl o 4 b m s t a1 ((List.range len).map kid).length cap1 := by rw [eL]; exact six
   generalize (List.range len).map kid = l2 at *
   refine mover_row nm _ l2 w hok2 (fun h => ?_) (fun h e => ?_) (fun h e => ?_) (fun h q1 q2 => ?_)
   ·exact moverL_no nm q0 bl o cap b m s t a1 cap1 l2 w six' hr h
   ·subst e; exact moverL_min bl o cap b m s t a1 cap1 l2 w six' hr h hok2
   ·subst e; exact moverL_max bl o cap b m s t a1 cap1 l2 w six' hr h hok2
   ·exact moverL_sum nm q0 q1 q2 bl o cap b m s t a1 cap1 l2 w six' hr h hok2
  ·have e : oneL [VT.mk k b m s t a1 len cap1 kid] = none := by show (if k = 4 then _ else _) = _; rw [if_neg h4]
   rw [e, Option.getD_none]
   have H1 : (((([VT.mk k b m s t a1 len cap1 kid] : List VT).length : Int) == 1) = false ∨ ∃ bl' o' k b m s t a1 len1 cap1, some (⟨bl, o, none⟩ : Addr) = some ⟨bl', o', none⟩ ∧ VT.Six w bl' o' k b m s t a1 len1 cap1 ∧ (k == 4) = false ∧ ([VT.mk k b m s t a1 len cap1 kid] : List VT).length = 1) := .inr ⟨bl, o, k, b, m, s, t, a1, len, cap1, rfl, six, by simpa using h4, rfl⟩
   refine mover_row nm _ _ w hok (fun h => ?_) (fun h e => ?_) (fun h e => ?_) (fun h q1 q2 => ?_)
   ·exact moverR_no nm q0 _ cap _ w e0 H1 hin h
   ·subst e; exact moverR_min _ cap _ w e0 H1 hin h hok
   ·subst e; exact moverR_max _ cap _ w e0 H1 hin h hok
   ·exact moverR_sum nm q0 q1 q2 _ cap _ w e0 H1 hin h hok
 ·have e : oneL l = none := by
   match l, hl with
   | [], _ => rfl
   | [x], h => exact absurd rfl h
   | x :: y :: l, _ => rfl
  rw [e, Option.getD_none]
  have H1 : ((l.length : Int) == 1) = false := by simp; omega
  refine mover_row nm _ _ w hok (fun h => ?_) (fun h e => ?_) (fun h e => ?_) (fun h q1 q2 => ?_)
  ·exact moverR_no nm q0 _ cap _ w e0 (.inl H1) hin h
  ·subst e; exact moverR_min _ cap _ w e0 (.inl H1) hin h hok
  ·subst e; exact moverR_max _ cap _ w e0 (.inl H1) hin h hok
  ·exact moverR_sum nm q0 q1 q2 _ cap _ w e0 (.inl H1) hin h hok
end Go.Proofs.YtfdimdjmnfdecaaGreat
