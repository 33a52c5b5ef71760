/- RCmp VRCmp: laid together. -/
import Derived.Test.YtfdimdjmnfdecaaGreatHZ
import Derived.Test.YtfdimdjmnfdecaaGreatHAT
import Derived.Deep.QuietTactic
import Derived.BigQuiet
import Derived.Test.YtfdimdjmnfdecaaGreatHAD
import Derived.Test.YtfdimdjmnfdecaaGreatHAA
import Derived.Deep.RegionHeld3
import Derived.Deep.DrawnRows
/- The contract of the document's own Cmp of decimals. -/
namespace Go.Proofs.YtfdimdjmnfdecaaGreat
open Go.RowKit

set_option maxHeartbeats 800000 in
theorem rcmp_any (m s n t : Int) (w : World) (m1 : -1000000000 ≤ m) (m2 : m ≤ 1000000000) (n1 : -1000000000 ≤ n) (n2 : n ≤ 1000000000) (s1 : 0 ≤ s) (s2 : s ≤ 4) (t1 : 0 ≤ t) (t2 : t ≤ 4) :
  Calls Tryz.prog 77 #[.agg #[.int .i64 m, .int .i64 s], .agg #[.int .i64 n, .int .i64 t]] w fun e w' => e = .returned (.int .i64 (cmpI (upM m s 4) (upM n t 4))) ∧ Below w.heap.size w w' := by
 have ub1 := upM_bd (m := m) (s := s) (t := 4) m1 m2 (by omega)
 have ub2 := upM_bd (m := n) (s := t) (t := 4) n1 n2 (by omega)
 unfold upM at *
 generalize hf : cmpI (m * p10 (4 - s).toNat) (n * p10 (4 - t).toNat) = f
 by_cases c1 : m * p10 (4 - s).toNat < n * p10 (4 - t).toNat
 ·have FIN := hide (show f = -1 by rw [← hf]; exact if_pos c1)
  clear hf
  go_enter Tryz.func77, Tryz.ntmps77
  go_wp2_with fail
  go_quiet ((go_at_call 110; exact Calls.quiet_of_same (rpower_any _ _ (by omega) (by omega))))
  go_wp2
  go_ret
  exact ⟨ret_int (unhide FIN).symm, below_drewN (below2 w _ _) _⟩
 ·by_cases c2 : n * p10 (4 - t).toNat < m * p10 (4 - s).toNat
  ·have FIN := hide (show f = 1 by rw [← hf]; unfold cmpI; rw [if_neg c1, if_pos c2])
   clear hf
   go_enter Tryz.func77, Tryz.ntmps77
   go_wp2_with fail
   go_quiet ((go_at_call 110; exact Calls.quiet_of_same (rpower_any _ _ (by omega) (by omega))))
   go_wp2
   go_ret
   exact ⟨ret_int (unhide FIN).symm, below_drewN (below2 w _ _) _⟩
  ·have FIN := hide (show f = 0 by rw [← hf]; unfold cmpI; rw [if_neg c1, if_neg c2])
   clear hf
   go_enter Tryz.func77, Tryz.ntmps77
   go_wp2_with fail
   go_quiet ((go_at_call 110; exact Calls.quiet_of_same (rpower_any _ _ (by omega) (by omega))))
   go_wp2
   go_ret
   exact ⟨ret_int (unhide FIN).symm, below_drewN (below2 w _ _) _⟩

end Go.Proofs.YtfdimdjmnfdecaaGreat

/- The contracts of the document's own Cmp and Equal of values that may be. -/
namespace Go.Proofs.YtfdimdjmnfdecaaGreat
open Go.RowKit
attribute [local go_sem ↓] Go.wp_at_zero Go.wp_at_succ

set_option maxHeartbeats 400000 in
theorem rord_any (x y : Int) (w : World) :
  Calls Tryz.prog 75 #[.int .i64 x, .int .i64 y] w fun e w' => e = .returned (.int .i64 (cmpI x y)) ∧ w' = w := by
 unfold cmpI
 by_cases h1 : x < y
 ·rw [if_pos h1]
  go_enter Tryz.func75, Tryz.ntmps75
  go_wp2
  go_ret
  exact ⟨rfl, rfl⟩
 ·rw [if_neg h1]
  by_cases h2 : y < x
  ·rw [if_pos h2]
   go_enter Tryz.func75, Tryz.ntmps75
   go_wp2
   go_ret
   exact ⟨rfl, rfl⟩
  ·rw [if_neg h2]
   go_enter Tryz.func75, Tryz.ntmps75
   go_wp2
   go_ret
   exact ⟨rfl, rfl⟩

def oneI (b : Bool) : Int := if b = true then 1 else 0
set_option maxHeartbeats 400000 in
theorem rone_any (b : Bool) (w : World) :
  Calls Tryz.prog 76 #[.bool b] w fun e w' => e = .returned (.int .i64 (oneI b)) ∧ w' = w := by
 cases b
 all_goals
  go_enter Tryz.func76, Tryz.ntmps76
  go_wp2
  go_ret
  exact ⟨rfl, rfl⟩
theorem one_cmp (b b' : Bool) : cmpI (oneI b) (oneI b') = cmpB b b' := by cases b <;> cases b' <;> rfl

def RCmpOf (x : VT) : Prop := ∀ (y : VT) (n n' : Nat) (w : World), x.okB n = true → y.okB n' = true → x.In w → y.In w →
  Calls Tryz.prog 43 #[x.val, y.val] w fun e w' => e = .returned (.int .i64 (x.cmp y)) ∧ Below w.heap.size w w'

theorem text_cmp (t t' : ByteArray) : (Op.bytesLess t.toList t'.toList = true ∧ cmpS t t' = -1) ∨ (Op.bytesLess t.toList t'.toList = false ∧ cmpS t t' = oneI !(Op.bytesLess t.toList t'.toList || t.toList == t'.toList)) := by
 have e := cb_less t.data.toList t'.data.toList
 rw [← ByteArray.toList_eq, ← ByteArray.toList_eq] at e
 have e2 : cmpS t t' = Lib.compareBytes t.toList t'.toList := by unfold cmpS; rw [ByteArray.toList_eq, ByteArray.toList_eq]
 rw [e2]
 have bd := cb_bd t.toList t'.toList
 by_cases h : Lib.compareBytes t.toList t'.toList = -1
 ·exact Or.inl ⟨by rw [e]; simpa using h, h⟩
 ·refine Or.inr ⟨by rw [e]; simpa using h, ?_⟩
  rw [e, decide_eq_false h]
  by_cases h2 : t.toList = t'.toList
  ·rw [h2, cb_self]; simp [oneI]
  ·have h3 : Lib.compareBytes t.toList t'.toList ≠ 0 := fun h => h2 (cb_zero _ _ h)
   have : (t.toList == t'.toList) = false := by simpa using h2
   rw [this]
   simp [oneI]; omega

set_option maxHeartbeats 4000000 in
theorem rCmp_any (x : VT) : RCmpOf x := by
 induction x with
 | none => intro y n n' w hx; exact absurd hx (by simp [VT.okB])
 | mk k b m s t a len cap kid ih =>
  intro y n n' w hx hy hin hin'
  cases y with
  | none => exact absurd hy (by simp [VT.okB])
  | mk k' b' m' s' t' a' len' cap' kid' =>
   show Calls Tryz.prog 43 #[.agg #[.int .i64 k, .bool b, .int .i64 m, .int .i64 s, .string t, .slice a len cap], .agg #[.int .i64 k', .bool b', .int .i64 m', .int .i64 s', .string t', .slice a' len' cap']] w _
   have b0 := below2 w (Obj.cells #[.int .i64 k, .bool b, .int .i64 m, .int .i64 s, .string t, .slice a len cap] 32) (Obj.cells #[.int .i64 k', .bool b', .int .i64 m', .int .i64 s', .string t', .slice a' len' cap'] 32)
   unfold VT.cmp
   by_cases hk : k = k'
   ·subst hk
    rw [if_neg (fun h => h rfl)]
    obtain ⟨al, hkk⟩ := okB_kind hx
    obtain ⟨al', hkk'⟩ := okB_kind hy
    by_cases k1 : k = 1
    ·subst k1
     rw [if_pos rfl, ← one_cmp]
     clear ih hin hin' al al' hx hy hkk hkk'
     go_enter Tryz.func43, Tryz.ntmps43
     go_wp2_with fail
     go_quiet (first | (go_at_call_of 76 ([.bool b] : List Value); exact Calls.quiet_of_same (rone_any b _)) | (go_at_call_of 76 ([.bool b'] : List Value); exact Calls.quiet_of_same (rone_any b' _)) | (go_at_call 75; exact Calls.quiet_of_same (rord_any _ _ _)))
     go_wp2_with fail
     go_ret
     exact ⟨rfl, below_drewN b0 _⟩
    by_cases k2 : k = 2
    ·subst k2
     have hd : isB m s = true := by
      rcases hkk with h | h | ⟨_, h⟩ | h | h
      ·omega
      ·omega
      ·exact h
      ·omega
      ·omega
     have hd' : isB m' s' = true := by
      rcases hkk' with h | h | ⟨_, h⟩ | h | h
      ·omega
      ·omega
      ·exact h
      ·omega
      ·omega
     rw [if_neg (by omega), if_pos rfl]
     have ⟨m1, m2, s1, s2⟩ := isB_bd hd
     have ⟨n1, n2, t1, t2⟩ := isB_bd hd'
     have C := hide (fun w => rcmp_any m s m' s' w m1 m2 n1 n2 s1 s2 t1 t2)
     clear ih hin hin' al al' hx hy hkk hkk' hd hd' m1 m2 s1 s2 n1 n2 t1 t2
     go_enter Tryz.func43, Tryz.ntmps43
     go_wp2_with fail
     refine (unhide C _).mono ?_
     rintro e w1 ⟨rfl, k1⟩
     go_wp2_with fail
     go_ret
     exact ⟨rfl, bstep b0 k1⟩
    by_cases k3 : k = 3
    ·subst k3
     rw [if_neg (by omega), if_neg (by omega), if_pos rfl]
     clear ih hin hin' al al' hx hy hkk hkk' k1 k2
     rcases text_cmp t t' with ⟨hl, hc⟩ | ⟨hl, hc⟩
     ·rw [hc]
      clear hc
      go_enter Tryz.func43, Tryz.ntmps43
      go_wp2_with fail
      go_ret
      exact ⟨rfl, b0⟩
     ·have HC := hide hc
      clear hc
      go_enter Tryz.func43, Tryz.ntmps43
      go_wp2_with fail
      refine (rone_any _ _).mono ?_
      rintro e w1 ⟨rfl, rfl⟩
      go_wp2_with fail
      go_ret
      exact ⟨ret_int (by rw [unhide HC, hl]; simp), b0⟩
    rw [if_neg k1, if_neg k2, if_neg k3]
    have okl : len ≤ 8 ∧ ∀ i, i < len → (kid i).okB (n - 1) = true := by
     by_cases k4 : k = 4
     ·subst k4; exact okB_list hx
     ·have l0 := (alone_t al).2.2.2 k4
      exact ⟨by omega, fun i hi => absurd hi (by omega)⟩
    have okl' : len' ≤ 8 ∧ ∀ i, i < len' → (kid' i).okB (n' - 1) = true := by
     by_cases k4 : k = 4
     ·subst k4; exact okB_list hy
     ·have l0 := (alone_t al').2.2.2 k4
      exact ⟨by omega, fun i hi => absurd hi (by omega)⟩
    obtain ⟨hl8, ok⟩ := okl
    obtain ⟨hl8', ok'⟩ := okl'
    have e1 : (k == 1) = false := by simpa using k1
    have e2 : (k == 2) = false := by simpa using k2
    have e3 : (k == 3) = false := by simpa using k3
    clear k1 k2 k3 hkk hkk' al al' hx hy
    generalize hR : lexF (fun i => (kid i).cmp (kid' i)) (cmpI len len') (min len len') = R
    have HR := hide hR
    clear hR
    go_enter Tryz.func43, Tryz.ntmps43
    go_wp2_with fail
    have hin1 := hin.below b0
    have hin1' := hin'.below b0
    have hz : w.heap.size + 1 < ((w.alloc (Obj.cells #[.int .i64 k, .bool b, .int .i64 m, .int .i64 s, .string t, .slice a len cap] 32)).alloc (Obj.cells #[.int .i64 k, .bool b', .int .i64 m', .int .i64 s', .string t', .slice a' len' cap'] 32)).heap.size := by simp
    have hbox : ((w.alloc (Obj.cells #[.int .i64 k, .bool b, .int .i64 m, .int .i64 s, .string t, .slice a len cap] 32)).alloc (Obj.cells #[.int .i64 k, .bool b', .int .i64 m', .int .i64 s', .string t', .slice a' len' cap'] 32)).cell? ⟨w.heap.size, 5, none⟩ = some (.slice a len cap) := by go_simp
    have hbox' : ((w.alloc (Obj.cells #[.int .i64 k, .bool b, .int .i64 m, .int .i64 s, .string t, .slice a len cap] 32)).alloc (Obj.cells #[.int .i64 k, .bool b', .int .i64 m', .int .i64 s', .string t', .slice a' len' cap'] 32)).cell? ⟨w.heap.size + 1, 5, none⟩ = some (.slice a' len' cap') := by go_simp
    generalize hW : ((w.alloc (Obj.cells #[.int .i64 k, .bool b, .int .i64 m, .int .i64 s, .string t, .slice a len cap] 32)).alloc (Obj.cells #[.int .i64 k, .bool b', .int .i64 m', .int .i64 s', .string t', .slice a' len' cap'] 32)) = W at *
    clear hW hin hin'
    have B0 := hide b0
    clear b0
    generalize hB : w.heap.size = B at *
    have HB := hide hB
    clear hB
    go_loopw [5] (fun i wr => ∃ (j : Nat), j ≤ len ∧ j ≤ len' ∧ i = .int .i64 j ∧ Hid (∀ i, i < j → (kid i).cmp (kid' i) = 0) ∧ Below W.heap.size W wr) (fun i _ => len - (intOf i).toNat)
    case atStart => exact ⟨0, Nat.zero_le _, Nat.zero_le _, rfl, hide (fun i hi => absurd hi (Nat.not_lt_zero _)), Below.refl _ _⟩
    case round =>
     obtain ⟨j, hj, hj', rfl, HA, bel⟩ := hrel
     have zz := bel.size
     have hb := ((bcell bel).1 B 5 (by omega)).trans hbox
     have hb' := ((bcell bel).1 (B + 1) 5 (by omega)).trans hbox'
     by_cases hboth : j < len ∧ j < len'
     ·obtain ⟨hlt, hlt'⟩ := hboth
      obtain ⟨bl, o, kp, bp, mp, sp, tp, ap, lenp, capp, kidp, rfl, hx, six, hk⟩ := hin1.kid hlt
      obtain ⟨bl', o', kq, bq, mq, sq, tq, aq, lenq, capq, kidq, rfl, hy, six', hk'⟩ := hin1'.kid hlt'
      have ihj := fun w => ih j (kid' j) (n - 1) (n' - 1) w (ok j hlt) (ok' j hlt')
      rw [hx, hy] at ihj
      obtain ⟨s0, s1, s2, s3, s4, s5, s6⟩ := six.below bel
      obtain ⟨r0, r1, r2, r3, r4, r5, r6⟩ := six'.below bel
      have HK := hide (hk.below bel)
      have HK' := hide (hk'.below bel)
      have IH := hide ihj
      have HX := hide hx
      have HY := hide hy
      clear six six' hk hk' ih ihj hin1 hin1' hx hy ok ok'
      have S0 : Hid (Below wr.heap.size wr wr.drew ∧ wr.drew.cell? ⟨B, 5, none⟩ = some (.slice (some ⟨bl, o, none⟩) len cap) ∧ wr.drew.cell? ⟨B + 1, 5, none⟩ = some (.slice (some ⟨bl', o', none⟩) len' cap') ∧ wr.drew.cell? ⟨bl, o + j * 6, none⟩ = some (.int .i64 kp) ∧ wr.drew.cell? ⟨bl, o + j * 6 + 1, none⟩ = some (.bool bp) ∧ wr.drew.cell? ⟨bl, o + j * 6 + 2, none⟩ = some (.int .i64 mp) ∧ wr.drew.cell? ⟨bl, o + j * 6 + 3, none⟩ = some (.int .i64 sp) ∧ wr.drew.cell? ⟨bl, o + j * 6 + 4, none⟩ = some (.string tp) ∧ wr.drew.cell? ⟨bl, o + j * 6 + 5, none⟩ = some (.slice ap lenp capp) ∧ wr.drew.cell? ⟨bl', o' + j * 6, none⟩ = some (.int .i64 kq) ∧ wr.drew.cell? ⟨bl', o' + j * 6 + 1, none⟩ = some (.bool bq) ∧ wr.drew.cell? ⟨bl', o' + j * 6 + 2, none⟩ = some (.int .i64 mq) ∧ wr.drew.cell? ⟨bl', o' + j * 6 + 3, none⟩ = some (.int .i64 sq) ∧ wr.drew.cell? ⟨bl', o' + j * 6 + 4, none⟩ = some (.string tq) ∧ wr.drew.cell? ⟨bl', o' + j * 6 + 5, none⟩ = some (.slice aq lenq capq)) := ⟨(Below.refl _ _).drew, hb, hb', s1, s2, s3, s4, s5, s6, r1, r2, r3, r4, r5, r6⟩
      have SK : Hid (∀ x w', (Below wr.heap.size wr x ∧ x.cell? ⟨B, 5, none⟩ = some (.slice (some ⟨bl, o, none⟩) len cap) ∧ x.cell? ⟨B + 1, 5, none⟩ = some (.slice (some ⟨bl', o', none⟩) len' cap') ∧ x.cell? ⟨bl, o + j * 6, none⟩ = some (.int .i64 kp) ∧ x.cell? ⟨bl, o + j * 6 + 1, none⟩ = some (.bool bp) ∧ x.cell? ⟨bl, o + j * 6 + 2, none⟩ = some (.int .i64 mp) ∧ x.cell? ⟨bl, o + j * 6 + 3, none⟩ = some (.int .i64 sp) ∧ x.cell? ⟨bl, o + j * 6 + 4, none⟩ = some (.string tp) ∧ x.cell? ⟨bl, o + j * 6 + 5, none⟩ = some (.slice ap lenp capp) ∧ x.cell? ⟨bl', o' + j * 6, none⟩ = some (.int .i64 kq) ∧ x.cell? ⟨bl', o' + j * 6 + 1, none⟩ = some (.bool bq) ∧ x.cell? ⟨bl', o' + j * 6 + 2, none⟩ = some (.int .i64 mq) ∧ x.cell? ⟨bl', o' + j * 6 + 3, none⟩ = some (.int .i64 sq) ∧ x.cell? ⟨bl', o' + j * 6 + 4, none⟩ = some (.string tq) ∧ x.cell? ⟨bl', o' + j * 6 + 5, none⟩ = some (.slice aq lenq capq)) → Below x.heap.size x w' → (Below wr.heap.size wr w' ∧ w'.cell? ⟨B, 5, none⟩ = some (.slice (some ⟨bl, o, none⟩) len cap) ∧ w'.cell? ⟨B + 1, 5, none⟩ = some (.slice (some ⟨bl', o', none⟩) len' cap') ∧ w'.cell? ⟨bl, o + j * 6, none⟩ = some (.int .i64 kp) ∧ w'.cell? ⟨bl, o + j * 6 + 1, none⟩ = some (.bool bp) ∧ w'.cell? ⟨bl, o + j * 6 + 2, none⟩ = some (.int .i64 mp) ∧ w'.cell? ⟨bl, o + j * 6 + 3, none⟩ = some (.int .i64 sp) ∧ w'.cell? ⟨bl, o + j * 6 + 4, none⟩ = some (.string tp) ∧ w'.cell? ⟨bl, o + j * 6 + 5, none⟩ = some (.slice ap lenp capp) ∧ w'.cell? ⟨bl', o' + j * 6, none⟩ = some (.int .i64 kq) ∧ w'.cell? ⟨bl', o' + j * 6 + 1, none⟩ = some (.bool bq) ∧ w'.cell? ⟨bl', o' + j * 6 + 2, none⟩ = some (.int .i64 mq) ∧ w'.cell? ⟨bl', o' + j * 6 + 3, none⟩ = some (.int .i64 sq) ∧ w'.cell? ⟨bl', o' + j * 6 + 4, none⟩ = some (.string tq) ∧ w'.cell? ⟨bl', o' + j * 6 + 5, none⟩ = some (.slice aq lenq capq))) := by
       rintro x w' ⟨h0, h1, h2, h3, h4, h5, h6, h7, h8, h9, h10, h11, h12, h13, h14⟩ kk
       have z0 := h0.size
       exact ⟨bstep h0 kk, kcell kk (by omega) h1, kcell kk (by omega) h2, kcell kk (by omega) h3, kcell kk (by omega) h4, kcell kk (by omega) h5, kcell kk (by omega) h6, kcell kk (by omega) h7, kcell kk (by omega) h8, kcell kk (by omega) h9, kcell kk (by omega) h10, kcell kk (by omega) h11, kcell kk (by omega) h12, kcell kk (by omega) h13, kcell kk (by omega) h14⟩
      by_cases hc : (kid j).cmp (kid' j) = 0
      ·have HC := hide hc
       rw [unhide HX, unhide HY] at hc
       have HOK := hide hc
       clear hc
       go_wp2_with fail
       go_region_held3 (fun w' => Below wr.heap.size wr w' ∧ w'.cell? ⟨B, 5, none⟩ = some (.slice (some ⟨bl, o, none⟩) len cap) ∧ w'.cell? ⟨B + 1, 5, none⟩ = some (.slice (some ⟨bl', o', none⟩) len' cap') ∧ w'.cell? ⟨bl, o + j * 6, none⟩ = some (.int .i64 kp) ∧ w'.cell? ⟨bl, o + j * 6 + 1, none⟩ = some (.bool bp) ∧ w'.cell? ⟨bl, o + j * 6 + 2, none⟩ = some (.int .i64 mp) ∧ w'.cell? ⟨bl, o + j * 6 + 3, none⟩ = some (.int .i64 sp) ∧ w'.cell? ⟨bl, o + j * 6 + 4, none⟩ = some (.string tp) ∧ w'.cell? ⟨bl, o + j * 6 + 5, none⟩ = some (.slice ap lenp capp) ∧ w'.cell? ⟨bl', o' + j * 6, none⟩ = some (.int .i64 kq) ∧ w'.cell? ⟨bl', o' + j * 6 + 1, none⟩ = some (.bool bq) ∧ w'.cell? ⟨bl', o' + j * 6 + 2, none⟩ = some (.int .i64 mq) ∧ w'.cell? ⟨bl', o' + j * 6 + 3, none⟩ = some (.int .i64 sq) ∧ w'.cell? ⟨bl', o' + j * 6 + 4, none⟩ = some (.string tq) ∧ w'.cell? ⟨bl', o' + j * 6 + 5, none⟩ = some (.slice aq lenq capq))
        (first | exact unhide S0 | assumption | exact unhide SK _ _ (by assumption) k4)
        ((go_at_call 43; refine (unhide IH _ ?_ ?_).mono ?_; exact (unhide HK).below (And.left (by assumption)); exact (unhide HK').below (And.left (by assumption)); rintro e w4 ⟨rfl, k4⟩; rw [unhide HOK]))
       all_goals
        go_wp2_with fail
        go_roundw
        case rel =>
         refine ⟨j + 1, by omega, by omega, by go_num, hide (fun i hi => ?_), bstep bel (And.left (by assumption))⟩
         by_cases hij : i = j
         ·subst hij; exact unhide HC
         ·exact unhide HA i (by omega)
        case measure => simp [intOf]; omega
      ·have FIN := hide (lex_hit (f := fun i => (kid i).cmp (kid' i)) (cmpI len len') (n := min len len') (by omega) (unhide HA) hc)
       rw [unhide HX, unhide HY] at hc
       generalize hq : (VT.mk kp bp mp sp tp ap lenp capp kidp).cmp (VT.mk kq bq mq sq tq aq lenq capq kidq) = c at hc IH
       have HQ := hide hq
       have hc' : (c == 0) = false := by simpa using hc
       have hc2 : (c != 0) = true := by simpa using hc
       clear hc hq
       go_wp2_with fail
       go_region_held3 (fun w' => Below wr.heap.size wr w' ∧ w'.cell? ⟨B, 5, none⟩ = some (.slice (some ⟨bl, o, none⟩) len cap) ∧ w'.cell? ⟨B + 1, 5, none⟩ = some (.slice (some ⟨bl', o', none⟩) len' cap') ∧ w'.cell? ⟨bl, o + j * 6, none⟩ = some (.int .i64 kp) ∧ w'.cell? ⟨bl, o + j * 6 + 1, none⟩ = some (.bool bp) ∧ w'.cell? ⟨bl, o + j * 6 + 2, none⟩ = some (.int .i64 mp) ∧ w'.cell? ⟨bl, o + j * 6 + 3, none⟩ = some (.int .i64 sp) ∧ w'.cell? ⟨bl, o + j * 6 + 4, none⟩ = some (.string tp) ∧ w'.cell? ⟨bl, o + j * 6 + 5, none⟩ = some (.slice ap lenp capp) ∧ w'.cell? ⟨bl', o' + j * 6, none⟩ = some (.int .i64 kq) ∧ w'.cell? ⟨bl', o' + j * 6 + 1, none⟩ = some (.bool bq) ∧ w'.cell? ⟨bl', o' + j * 6 + 2, none⟩ = some (.int .i64 mq) ∧ w'.cell? ⟨bl', o' + j * 6 + 3, none⟩ = some (.int .i64 sq) ∧ w'.cell? ⟨bl', o' + j * 6 + 4, none⟩ = some (.string tq) ∧ w'.cell? ⟨bl', o' + j * 6 + 5, none⟩ = some (.slice aq lenq capq))
        (first | exact unhide S0 | assumption | exact unhide SK _ _ (by assumption) k4)
        ((go_at_call 43; refine (unhide IH _ ?_ ?_).mono ?_; exact (unhide HK).below (And.left (by assumption)); exact (unhide HK').below (And.left (by assumption)); rintro e w4 ⟨rfl, k4⟩))
       all_goals
        go_wp2_with fail
        go_ret
        refine ⟨ret_int ?_, ?_⟩
        ·have f := unhide FIN
         rw [unhide HR] at f
         rw [f]
         show c = (kid j).cmp (kid' j)
         rw [unhide HX, unhide HY, unhide HQ]
        ·have b := unhide B0
         rw [← unhide HB] at b
         exact bstep b (bstep bel (And.left (by assumption)))
     ·have FIN := hide (lex_none (f := fun i => (kid i).cmp (kid' i)) (cmpI len len') (n := min len len') (fun i hi => unhide HA i (by omega)))
      clear ih hin1 hin1' ok ok'
      by_cases hlt : j < len
      ·have hlt' : ¬ j < len' := fun h => hboth ⟨hlt, h⟩
       clear hboth
       go_wp2_with fail
       refine (rord_any _ _ _).mono ?_
       rintro e w1 ⟨rfl, rfl⟩
       go_wp2_with fail
       go_ret
       refine ⟨ret_int (by rw [← unhide HR, unhide FIN]), ?_⟩
       have b := unhide B0
       rw [← unhide HB] at b
       exact bstep b bel
      ·clear hboth
       go_wp2_with fail
       refine (rord_any _ _ _).mono ?_
       rintro e w1 ⟨rfl, rfl⟩
       go_wp2_with fail
       go_ret
       refine ⟨ret_int (by rw [← unhide HR, unhide FIN]), ?_⟩
       have b := unhide B0
       rw [← unhide HB] at b
       exact bstep b bel
   ·rw [if_pos hk]
    have e1 : (k != k') = true := by simpa using hk
    clear ih hin hin' hx hy hk
    go_enter Tryz.func43, Tryz.ntmps43
    go_wp2_with fail
    refine (rord_any _ _ _).mono ?_
    rintro e w1 ⟨rfl, rfl⟩
    go_wp2_with fail
    go_ret
    exact ⟨rfl, b0⟩

end Go.Proofs.YtfdimdjmnfdecaaGreat
