/- XMath XR2 XR3 XR4 XR5 XR6 XR10 XR11 XRk XRSame: laid together. -/
import Derived.Test.YtdlfgnmcokdceabDoorGE
import Derived.Test.YtdlfgnmcokdceabDoorGA
import Derived.Deep.RegionHeld3
import Derived.Deep.DrawnRows
/- Small steps for Same of expressions. -/
namespace Go.Proofs.YtdlfgnmcokdceabDoor
open Go.RowKit
set_option linter.unusedVariables false

theorem xall_range {n : Nat} {f : Nat → Bool} (h : ∀ i, i < n → f i = true) : (List.range n).all f = true := by
  rw [List.all_eq_true]
  intro i hi
  exact h i (by simpa using hi)
theorem xall_range_no {n : Nat} {f : Nat → Bool} {j : Nat} (hj : j < n) (h : f j = false) : (List.range n).all f = false := by
  cases hh : (List.range n).all f with
  | false => rfl
  | true =>
    rw [List.all_eq_true] at hh
    have := hh j (by simpa using hj)
    rw [h] at this
    cases this
theorem tl_ext {s t : ByteArray} (h : XT.tl s = XT.tl t) : s = t := by
  unfold XT.tl at h
  cases s; cases t
  simpa using h
/- the document's Same answers as the trees do. -/
def RSameOf (x : XT) : Prop := ∀ (y : XT) (w : World) (Q Q' : Nat → Prop), x.In Q w → y.In Q' w →
    Calls Tryd.prog 7 #[x.val, y.val] w fun e w' => e = .returned (.bool (x.same y)) ∧ Below w.heap.size w w'
end Go.Proofs.YtdlfgnmcokdceabDoor

/- The document's Same, a Kind's way. (Printed by mkxsame.py.) -/
namespace Go.Proofs.YtdlfgnmcokdceabDoor
open Go.RowKit
set_option linter.unusedVariables false
attribute [local go_sem ↓] Go.wp_at_zero Go.wp_at_succ

set_option maxHeartbeats 4000000 in
theorem rsame_2 (b : Bool) (m s : Int) (t : ByteArray) (lo hi : Bool) (a : Option Addr) (len cap : Nat) (kid : Nat → XT) (b' : Bool) (m' s' : Int) (t' : ByteArray) (lo' hi' : Bool) (a' : Option Addr) (cap' : Nat) (kid' : Nat → XT) (Q Q' : Nat → Prop) (w : World) (ih : ∀ i, RSameOf (kid i)) (hlm : len ≤ 9223372036854775807) (hin : (XT.mk 2 b m s t lo hi a len cap kid).In Q w) (hin' : (XT.mk 2 b m' s' t' lo' hi' a' len cap' kid').In Q' w) :
    Calls Tryd.prog 7 #[.agg #[.int .i64 2, .bool b, .int .i64 m, .int .i64 s, .string t, .bool lo, .bool hi, .slice a len cap], .agg #[.int .i64 2, .bool b, .int .i64 m', .int .i64 s', .string t', .bool lo', .bool hi', .slice a' len cap']] w fun e w' => e = .returned (.bool ((List.range len).all fun i => (kid i).same (kid' i))) ∧ Below w.heap.size w w' := by
  unfold RSameOf at ih
  go_enter Tryd.func7, Tryd.ntmps7
  go_wp2_with fail
  have b0 := below2 w (Obj.cells #[.int .i64 2, .bool b, .int .i64 m, .int .i64 s, .string t, .bool lo, .bool hi, .slice a len cap] 28) (Obj.cells #[.int .i64 2, .bool b, .int .i64 m', .int .i64 s', .string t', .bool lo', .bool hi', .slice a' len cap'] 28)
  have hin1 := hin.below b0
  have hin1' := hin'.below b0
  have hz : w.heap.size + 1 < ((w.alloc (Obj.cells #[.int .i64 2, .bool b, .int .i64 m, .int .i64 s, .string t, .bool lo, .bool hi, .slice a len cap] 28)).alloc (Obj.cells #[.int .i64 2, .bool b, .int .i64 m', .int .i64 s', .string t', .bool lo', .bool hi', .slice a' len cap'] 28)).heap.size := by simp
  have hbox : ((w.alloc (Obj.cells #[.int .i64 2, .bool b, .int .i64 m, .int .i64 s, .string t, .bool lo, .bool hi, .slice a len cap] 28)).alloc (Obj.cells #[.int .i64 2, .bool b, .int .i64 m', .int .i64 s', .string t', .bool lo', .bool hi', .slice a' len cap'] 28)).cell? ⟨w.heap.size, 7, none⟩ = some (.slice a len cap) := by go_simp
  have hbox' : ((w.alloc (Obj.cells #[.int .i64 2, .bool b, .int .i64 m, .int .i64 s, .string t, .bool lo, .bool hi, .slice a len cap] 28)).alloc (Obj.cells #[.int .i64 2, .bool b, .int .i64 m', .int .i64 s', .string t', .bool lo', .bool hi', .slice a' len cap'] 28)).cell? ⟨w.heap.size + 1, 7, none⟩ = some (.slice a' len cap') := by go_simp
  generalize hW : ((w.alloc (Obj.cells #[.int .i64 2, .bool b, .int .i64 m, .int .i64 s, .string t, .bool lo, .bool hi, .slice a len cap] 28)).alloc (Obj.cells #[.int .i64 2, .bool b, .int .i64 m', .int .i64 s', .string t', .bool lo', .bool hi', .slice a' len cap'] 28)) = W at *
  clear hW hin hin'
  have B0 := hide b0
  clear b0
  generalize hB : w.heap.size = B at *
  have HB := hide hB
  clear hB
  go_loopw [5] (fun i wr => ∃ (j : Nat), j ≤ len ∧ i = .int .i64 j ∧ Hid (∀ i, i < j → (kid i).same (kid' i) = true) ∧ Below W.heap.size W wr) (fun i _ => len - (intOf i).toNat)
  case atStart => exact ⟨0, Nat.zero_le _, rfl, hide (fun i hi => absurd hi (Nat.not_lt_zero _)), Below.refl _ _⟩
  case round =>
    obtain ⟨j, hj, rfl, HA, bel⟩ := hrel
    have zz := bel.size
    have hb := ((bcell bel).1 B 7 (by omega)).trans hbox
    have hb' := ((bcell bel).1 (B + 1) 7 (by omega)).trans hbox'
    by_cases hlt : j < len
    · obtain ⟨bl, o, pk, pb, pm, ps, pt, plo, phi, pa, pl, pc, pkid, rfl, hx, six, hk⟩ := hin1.kid hlt
      obtain ⟨bl', o', qk, qb, qm, qs, qt, qlo, qhi, qa, ql, qc, qkid, rfl, hy, six', hk'⟩ := hin1'.kid hlt
      have ihj := ih j (kid' j)
      rw [hx, hy] at ihj
      obtain ⟨s0, s1, s2, s3, s4, s5, s6, s7, s8⟩ := six.below bel
      obtain ⟨r0, r1, r2, r3, r4, r5, r6, r7, r8⟩ := six'.below bel
      have HK := hide (hk.below bel)
      have HK' := hide (hk'.below bel)
      have IH := hide ihj
      have HX := hide hx
      have HY := hide hy
      clear six six' hk hk' ih ihj hin1 hin1' hx hy
      have S0 : Hid (Below wr.heap.size wr wr.drew ∧ wr.drew.cell? ⟨B, 7, none⟩ = some (.slice (some ⟨bl, o, none⟩) len cap) ∧ wr.drew.cell? ⟨B + 1, 7, none⟩ = some (.slice (some ⟨bl', o', none⟩) len cap') ∧ wr.drew.cell? ⟨bl, o + j * 8, none⟩ = some (.int .i64 pk) ∧ wr.drew.cell? ⟨bl, o + j * 8 + 1, none⟩ = some (.bool pb) ∧ wr.drew.cell? ⟨bl, o + j * 8 + 2, none⟩ = some (.int .i64 pm) ∧ wr.drew.cell? ⟨bl, o + j * 8 + 3, none⟩ = some (.int .i64 ps) ∧ wr.drew.cell? ⟨bl, o + j * 8 + 4, none⟩ = some (.string pt) ∧ wr.drew.cell? ⟨bl, o + j * 8 + 5, none⟩ = some (.bool plo) ∧ wr.drew.cell? ⟨bl, o + j * 8 + 6, none⟩ = some (.bool phi) ∧ wr.drew.cell? ⟨bl, o + j * 8 + 7, none⟩ = some (.slice pa pl pc) ∧ wr.drew.cell? ⟨bl', o' + j * 8, none⟩ = some (.int .i64 qk) ∧ wr.drew.cell? ⟨bl', o' + j * 8 + 1, none⟩ = some (.bool qb) ∧ wr.drew.cell? ⟨bl', o' + j * 8 + 2, none⟩ = some (.int .i64 qm) ∧ wr.drew.cell? ⟨bl', o' + j * 8 + 3, none⟩ = some (.int .i64 qs) ∧ wr.drew.cell? ⟨bl', o' + j * 8 + 4, none⟩ = some (.string qt) ∧ wr.drew.cell? ⟨bl', o' + j * 8 + 5, none⟩ = some (.bool qlo) ∧ wr.drew.cell? ⟨bl', o' + j * 8 + 6, none⟩ = some (.bool qhi) ∧ wr.drew.cell? ⟨bl', o' + j * 8 + 7, none⟩ = some (.slice qa ql qc)) := ⟨(Below.refl _ _).drew, hb, hb', s1, s2, s3, s4, s5, s6, s7, s8, r1, r2, r3, r4, r5, r6, r7, r8⟩
      have SK : Hid (∀ x w', (Below wr.heap.size wr x ∧ x.cell? ⟨B, 7, none⟩ = some (.slice (some ⟨bl, o, none⟩) len cap) ∧ x.cell? ⟨B + 1, 7, none⟩ = some (.slice (some ⟨bl', o', none⟩) len cap') ∧ x.cell? ⟨bl, o + j * 8, none⟩ = some (.int .i64 pk) ∧ x.cell? ⟨bl, o + j * 8 + 1, none⟩ = some (.bool pb) ∧ x.cell? ⟨bl, o + j * 8 + 2, none⟩ = some (.int .i64 pm) ∧ x.cell? ⟨bl, o + j * 8 + 3, none⟩ = some (.int .i64 ps) ∧ x.cell? ⟨bl, o + j * 8 + 4, none⟩ = some (.string pt) ∧ x.cell? ⟨bl, o + j * 8 + 5, none⟩ = some (.bool plo) ∧ x.cell? ⟨bl, o + j * 8 + 6, none⟩ = some (.bool phi) ∧ x.cell? ⟨bl, o + j * 8 + 7, none⟩ = some (.slice pa pl pc) ∧ x.cell? ⟨bl', o' + j * 8, none⟩ = some (.int .i64 qk) ∧ x.cell? ⟨bl', o' + j * 8 + 1, none⟩ = some (.bool qb) ∧ x.cell? ⟨bl', o' + j * 8 + 2, none⟩ = some (.int .i64 qm) ∧ x.cell? ⟨bl', o' + j * 8 + 3, none⟩ = some (.int .i64 qs) ∧ x.cell? ⟨bl', o' + j * 8 + 4, none⟩ = some (.string qt) ∧ x.cell? ⟨bl', o' + j * 8 + 5, none⟩ = some (.bool qlo) ∧ x.cell? ⟨bl', o' + j * 8 + 6, none⟩ = some (.bool qhi) ∧ x.cell? ⟨bl', o' + j * 8 + 7, none⟩ = some (.slice qa ql qc)) → Below x.heap.size x w' → (Below wr.heap.size wr w' ∧ w'.cell? ⟨B, 7, none⟩ = some (.slice (some ⟨bl, o, none⟩) len cap) ∧ w'.cell? ⟨B + 1, 7, none⟩ = some (.slice (some ⟨bl', o', none⟩) len cap') ∧ w'.cell? ⟨bl, o + j * 8, none⟩ = some (.int .i64 pk) ∧ w'.cell? ⟨bl, o + j * 8 + 1, none⟩ = some (.bool pb) ∧ w'.cell? ⟨bl, o + j * 8 + 2, none⟩ = some (.int .i64 pm) ∧ w'.cell? ⟨bl, o + j * 8 + 3, none⟩ = some (.int .i64 ps) ∧ w'.cell? ⟨bl, o + j * 8 + 4, none⟩ = some (.string pt) ∧ w'.cell? ⟨bl, o + j * 8 + 5, none⟩ = some (.bool plo) ∧ w'.cell? ⟨bl, o + j * 8 + 6, none⟩ = some (.bool phi) ∧ w'.cell? ⟨bl, o + j * 8 + 7, none⟩ = some (.slice pa pl pc) ∧ w'.cell? ⟨bl', o' + j * 8, none⟩ = some (.int .i64 qk) ∧ w'.cell? ⟨bl', o' + j * 8 + 1, none⟩ = some (.bool qb) ∧ w'.cell? ⟨bl', o' + j * 8 + 2, none⟩ = some (.int .i64 qm) ∧ w'.cell? ⟨bl', o' + j * 8 + 3, none⟩ = some (.int .i64 qs) ∧ w'.cell? ⟨bl', o' + j * 8 + 4, none⟩ = some (.string qt) ∧ w'.cell? ⟨bl', o' + j * 8 + 5, none⟩ = some (.bool qlo) ∧ w'.cell? ⟨bl', o' + j * 8 + 6, none⟩ = some (.bool qhi) ∧ w'.cell? ⟨bl', o' + j * 8 + 7, none⟩ = some (.slice qa ql qc))) := by
        rintro x w' ⟨h0, h1, h2, h3, h4, h5, h6, h7, h8, h9, h10, h11, h12, h13, h14, h15, h16, h17, h18⟩ kk
        have z0 := h0.size
        exact ⟨bstep h0 kk, kcell kk (by omega) h1, kcell kk (by omega) h2, kcell kk (by omega) h3, kcell kk (by omega) h4, kcell kk (by omega) h5, kcell kk (by omega) h6, kcell kk (by omega) h7, kcell kk (by omega) h8, kcell kk (by omega) h9, kcell kk (by omega) h10, kcell kk (by omega) h11, kcell kk (by omega) h12, kcell kk (by omega) h13, kcell kk (by omega) h14, kcell kk (by omega) h15, kcell kk (by omega) h16, kcell kk (by omega) h17, kcell kk (by omega) h18⟩
      cases hok : (kid j).same (kid' j)
      · have FIN := hide (xall_range_no (n := len) (f := fun i => (kid i).same (kid' i)) hlt hok)
        rw [unhide HX, unhide HY] at hok
        have HOK := hide hok
        clear hok
        go_wp2_with fail
        go_region_held3 (fun w' => Below wr.heap.size wr w' ∧ w'.cell? ⟨B, 7, none⟩ = some (.slice (some ⟨bl, o, none⟩) len cap) ∧ w'.cell? ⟨B + 1, 7, none⟩ = some (.slice (some ⟨bl', o', none⟩) len cap') ∧ w'.cell? ⟨bl, o + j * 8, none⟩ = some (.int .i64 pk) ∧ w'.cell? ⟨bl, o + j * 8 + 1, none⟩ = some (.bool pb) ∧ w'.cell? ⟨bl, o + j * 8 + 2, none⟩ = some (.int .i64 pm) ∧ w'.cell? ⟨bl, o + j * 8 + 3, none⟩ = some (.int .i64 ps) ∧ w'.cell? ⟨bl, o + j * 8 + 4, none⟩ = some (.string pt) ∧ w'.cell? ⟨bl, o + j * 8 + 5, none⟩ = some (.bool plo) ∧ w'.cell? ⟨bl, o + j * 8 + 6, none⟩ = some (.bool phi) ∧ w'.cell? ⟨bl, o + j * 8 + 7, none⟩ = some (.slice pa pl pc) ∧ w'.cell? ⟨bl', o' + j * 8, none⟩ = some (.int .i64 qk) ∧ w'.cell? ⟨bl', o' + j * 8 + 1, none⟩ = some (.bool qb) ∧ w'.cell? ⟨bl', o' + j * 8 + 2, none⟩ = some (.int .i64 qm) ∧ w'.cell? ⟨bl', o' + j * 8 + 3, none⟩ = some (.int .i64 qs) ∧ w'.cell? ⟨bl', o' + j * 8 + 4, none⟩ = some (.string qt) ∧ w'.cell? ⟨bl', o' + j * 8 + 5, none⟩ = some (.bool qlo) ∧ w'.cell? ⟨bl', o' + j * 8 + 6, none⟩ = some (.bool qhi) ∧ w'.cell? ⟨bl', o' + j * 8 + 7, none⟩ = some (.slice qa ql qc))
          (first | exact unhide S0 | assumption | exact unhide SK _ _ (by assumption) k4)
          ((go_at_call 7; refine (unhide IH _ Q Q' ?_ ?_).mono ?_; exact (unhide HK).below (And.left (by assumption)); exact (unhide HK').below (And.left (by assumption)); rintro e w4 ⟨rfl, k4⟩; rw [unhide HOK]))
        all_goals
          go_wp2_with fail
          go_ret
          refine ⟨ret_bool (unhide FIN).symm, ?_⟩
          have b := unhide B0
          rw [← unhide HB] at b
          exact bstep b (bstep bel (And.left (by assumption)))
      · have HN := hide hok
        rw [unhide HX, unhide HY] at hok
        have HOK := hide hok
        clear hok
        go_wp2_with fail
        go_region_held3 (fun w' => Below wr.heap.size wr w' ∧ w'.cell? ⟨B, 7, none⟩ = some (.slice (some ⟨bl, o, none⟩) len cap) ∧ w'.cell? ⟨B + 1, 7, none⟩ = some (.slice (some ⟨bl', o', none⟩) len cap') ∧ w'.cell? ⟨bl, o + j * 8, none⟩ = some (.int .i64 pk) ∧ w'.cell? ⟨bl, o + j * 8 + 1, none⟩ = some (.bool pb) ∧ w'.cell? ⟨bl, o + j * 8 + 2, none⟩ = some (.int .i64 pm) ∧ w'.cell? ⟨bl, o + j * 8 + 3, none⟩ = some (.int .i64 ps) ∧ w'.cell? ⟨bl, o + j * 8 + 4, none⟩ = some (.string pt) ∧ w'.cell? ⟨bl, o + j * 8 + 5, none⟩ = some (.bool plo) ∧ w'.cell? ⟨bl, o + j * 8 + 6, none⟩ = some (.bool phi) ∧ w'.cell? ⟨bl, o + j * 8 + 7, none⟩ = some (.slice pa pl pc) ∧ w'.cell? ⟨bl', o' + j * 8, none⟩ = some (.int .i64 qk) ∧ w'.cell? ⟨bl', o' + j * 8 + 1, none⟩ = some (.bool qb) ∧ w'.cell? ⟨bl', o' + j * 8 + 2, none⟩ = some (.int .i64 qm) ∧ w'.cell? ⟨bl', o' + j * 8 + 3, none⟩ = some (.int .i64 qs) ∧ w'.cell? ⟨bl', o' + j * 8 + 4, none⟩ = some (.string qt) ∧ w'.cell? ⟨bl', o' + j * 8 + 5, none⟩ = some (.bool qlo) ∧ w'.cell? ⟨bl', o' + j * 8 + 6, none⟩ = some (.bool qhi) ∧ w'.cell? ⟨bl', o' + j * 8 + 7, none⟩ = some (.slice qa ql qc))
          (first | exact unhide S0 | assumption | exact unhide SK _ _ (by assumption) k4)
          ((go_at_call 7; refine (unhide IH _ Q Q' ?_ ?_).mono ?_; exact (unhide HK).below (And.left (by assumption)); exact (unhide HK').below (And.left (by assumption)); rintro e w4 ⟨rfl, k4⟩; rw [unhide HOK]))
        all_goals
          go_wp2_with fail
          go_roundw
          case rel =>
            refine ⟨j + 1, by omega, by go_num, hide (fun i hi => ?_), bstep bel (And.left (by assumption))⟩
            by_cases hij : i = j
            · subst hij; exact unhide HN
            · exact unhide HA i (by omega)
          case measure => simp [intOf]; omega
    · have FIN := hide (xall_range (n := len) (f := fun i => (kid i).same (kid' i)) (fun i hi => unhide HA i (by omega)))
      go_wp2_with fail
      go_ret
      refine ⟨ret_bool (unhide FIN).symm, ?_⟩
      have b := unhide B0
      rw [← unhide HB] at b
      exact bstep b bel
end Go.Proofs.YtdlfgnmcokdceabDoor

/- The document's Same, a Kind's way. (Printed by mkxsame.py.) -/
namespace Go.Proofs.YtdlfgnmcokdceabDoor
open Go.RowKit
set_option linter.unusedVariables false
attribute [local go_sem ↓] Go.wp_at_zero Go.wp_at_succ

set_option maxHeartbeats 4000000 in
theorem rsame_3 (b : Bool) (m s : Int) (t : ByteArray) (lo hi : Bool) (a : Option Addr) (len cap : Nat) (kid : Nat → XT) (b' : Bool) (m' s' : Int) (t' : ByteArray) (lo' hi' : Bool) (a' : Option Addr) (cap' : Nat) (kid' : Nat → XT) (Q Q' : Nat → Prop) (w : World) (ih : ∀ i, RSameOf (kid i)) (hlm : len ≤ 9223372036854775807) (hin : (XT.mk 3 b m s t lo hi a len cap kid).In Q w) (hin' : (XT.mk 3 b' m s t' lo' hi' a' len cap' kid').In Q' w) :
    Calls Tryd.prog 7 #[.agg #[.int .i64 3, .bool b, .int .i64 m, .int .i64 s, .string t, .bool lo, .bool hi, .slice a len cap], .agg #[.int .i64 3, .bool b', .int .i64 m, .int .i64 s, .string t', .bool lo', .bool hi', .slice a' len cap']] w fun e w' => e = .returned (.bool ((List.range len).all fun i => (kid i).same (kid' i))) ∧ Below w.heap.size w w' := by
  unfold RSameOf at ih
  go_enter Tryd.func7, Tryd.ntmps7
  go_wp2_with fail
  have b0 := below2 w (Obj.cells #[.int .i64 3, .bool b, .int .i64 m, .int .i64 s, .string t, .bool lo, .bool hi, .slice a len cap] 28) (Obj.cells #[.int .i64 3, .bool b', .int .i64 m, .int .i64 s, .string t', .bool lo', .bool hi', .slice a' len cap'] 28)
  have hin1 := hin.below b0
  have hin1' := hin'.below b0
  have hz : w.heap.size + 1 < ((w.alloc (Obj.cells #[.int .i64 3, .bool b, .int .i64 m, .int .i64 s, .string t, .bool lo, .bool hi, .slice a len cap] 28)).alloc (Obj.cells #[.int .i64 3, .bool b', .int .i64 m, .int .i64 s, .string t', .bool lo', .bool hi', .slice a' len cap'] 28)).heap.size := by simp
  have hbox : ((w.alloc (Obj.cells #[.int .i64 3, .bool b, .int .i64 m, .int .i64 s, .string t, .bool lo, .bool hi, .slice a len cap] 28)).alloc (Obj.cells #[.int .i64 3, .bool b', .int .i64 m, .int .i64 s, .string t', .bool lo', .bool hi', .slice a' len cap'] 28)).cell? ⟨w.heap.size, 7, none⟩ = some (.slice a len cap) := by go_simp
  have hbox' : ((w.alloc (Obj.cells #[.int .i64 3, .bool b, .int .i64 m, .int .i64 s, .string t, .bool lo, .bool hi, .slice a len cap] 28)).alloc (Obj.cells #[.int .i64 3, .bool b', .int .i64 m, .int .i64 s, .string t', .bool lo', .bool hi', .slice a' len cap'] 28)).cell? ⟨w.heap.size + 1, 7, none⟩ = some (.slice a' len cap') := by go_simp
  generalize hW : ((w.alloc (Obj.cells #[.int .i64 3, .bool b, .int .i64 m, .int .i64 s, .string t, .bool lo, .bool hi, .slice a len cap] 28)).alloc (Obj.cells #[.int .i64 3, .bool b', .int .i64 m, .int .i64 s, .string t', .bool lo', .bool hi', .slice a' len cap'] 28)) = W at *
  clear hW hin hin'
  have B0 := hide b0
  clear b0
  generalize hB : w.heap.size = B at *
  have HB := hide hB
  clear hB
  go_loopw [5] (fun i wr => ∃ (j : Nat), j ≤ len ∧ i = .int .i64 j ∧ Hid (∀ i, i < j → (kid i).same (kid' i) = true) ∧ Below W.heap.size W wr) (fun i _ => len - (intOf i).toNat)
  case atStart => exact ⟨0, Nat.zero_le _, rfl, hide (fun i hi => absurd hi (Nat.not_lt_zero _)), Below.refl _ _⟩
  case round =>
    obtain ⟨j, hj, rfl, HA, bel⟩ := hrel
    have zz := bel.size
    have hb := ((bcell bel).1 B 7 (by omega)).trans hbox
    have hb' := ((bcell bel).1 (B + 1) 7 (by omega)).trans hbox'
    by_cases hlt : j < len
    · obtain ⟨bl, o, pk, pb, pm, ps, pt, plo, phi, pa, pl, pc, pkid, rfl, hx, six, hk⟩ := hin1.kid hlt
      obtain ⟨bl', o', qk, qb, qm, qs, qt, qlo, qhi, qa, ql, qc, qkid, rfl, hy, six', hk'⟩ := hin1'.kid hlt
      have ihj := ih j (kid' j)
      rw [hx, hy] at ihj
      obtain ⟨s0, s1, s2, s3, s4, s5, s6, s7, s8⟩ := six.below bel
      obtain ⟨r0, r1, r2, r3, r4, r5, r6, r7, r8⟩ := six'.below bel
      have HK := hide (hk.below bel)
      have HK' := hide (hk'.below bel)
      have IH := hide ihj
      have HX := hide hx
      have HY := hide hy
      clear six six' hk hk' ih ihj hin1 hin1' hx hy
      have S0 : Hid (Below wr.heap.size wr wr.drew ∧ wr.drew.cell? ⟨B, 7, none⟩ = some (.slice (some ⟨bl, o, none⟩) len cap) ∧ wr.drew.cell? ⟨B + 1, 7, none⟩ = some (.slice (some ⟨bl', o', none⟩) len cap') ∧ wr.drew.cell? ⟨bl, o + j * 8, none⟩ = some (.int .i64 pk) ∧ wr.drew.cell? ⟨bl, o + j * 8 + 1, none⟩ = some (.bool pb) ∧ wr.drew.cell? ⟨bl, o + j * 8 + 2, none⟩ = some (.int .i64 pm) ∧ wr.drew.cell? ⟨bl, o + j * 8 + 3, none⟩ = some (.int .i64 ps) ∧ wr.drew.cell? ⟨bl, o + j * 8 + 4, none⟩ = some (.string pt) ∧ wr.drew.cell? ⟨bl, o + j * 8 + 5, none⟩ = some (.bool plo) ∧ wr.drew.cell? ⟨bl, o + j * 8 + 6, none⟩ = some (.bool phi) ∧ wr.drew.cell? ⟨bl, o + j * 8 + 7, none⟩ = some (.slice pa pl pc) ∧ wr.drew.cell? ⟨bl', o' + j * 8, none⟩ = some (.int .i64 qk) ∧ wr.drew.cell? ⟨bl', o' + j * 8 + 1, none⟩ = some (.bool qb) ∧ wr.drew.cell? ⟨bl', o' + j * 8 + 2, none⟩ = some (.int .i64 qm) ∧ wr.drew.cell? ⟨bl', o' + j * 8 + 3, none⟩ = some (.int .i64 qs) ∧ wr.drew.cell? ⟨bl', o' + j * 8 + 4, none⟩ = some (.string qt) ∧ wr.drew.cell? ⟨bl', o' + j * 8 + 5, none⟩ = some (.bool qlo) ∧ wr.drew.cell? ⟨bl', o' + j * 8 + 6, none⟩ = some (.bool qhi) ∧ wr.drew.cell? ⟨bl', o' + j * 8 + 7, none⟩ = some (.slice qa ql qc)) := ⟨(Below.refl _ _).drew, hb, hb', s1, s2, s3, s4, s5, s6, s7, s8, r1, r2, r3, r4, r5, r6, r7, r8⟩
      have SK : Hid (∀ x w', (Below wr.heap.size wr x ∧ x.cell? ⟨B, 7, none⟩ = some (.slice (some ⟨bl, o, none⟩) len cap) ∧ x.cell? ⟨B + 1, 7, none⟩ = some (.slice (some ⟨bl', o', none⟩) len cap') ∧ x.cell? ⟨bl, o + j * 8, none⟩ = some (.int .i64 pk) ∧ x.cell? ⟨bl, o + j * 8 + 1, none⟩ = some (.bool pb) ∧ x.cell? ⟨bl, o + j * 8 + 2, none⟩ = some (.int .i64 pm) ∧ x.cell? ⟨bl, o + j * 8 + 3, none⟩ = some (.int .i64 ps) ∧ x.cell? ⟨bl, o + j * 8 + 4, none⟩ = some (.string pt) ∧ x.cell? ⟨bl, o + j * 8 + 5, none⟩ = some (.bool plo) ∧ x.cell? ⟨bl, o + j * 8 + 6, none⟩ = some (.bool phi) ∧ x.cell? ⟨bl, o + j * 8 + 7, none⟩ = some (.slice pa pl pc) ∧ x.cell? ⟨bl', o' + j * 8, none⟩ = some (.int .i64 qk) ∧ x.cell? ⟨bl', o' + j * 8 + 1, none⟩ = some (.bool qb) ∧ x.cell? ⟨bl', o' + j * 8 + 2, none⟩ = some (.int .i64 qm) ∧ x.cell? ⟨bl', o' + j * 8 + 3, none⟩ = some (.int .i64 qs) ∧ x.cell? ⟨bl', o' + j * 8 + 4, none⟩ = some (.string qt) ∧ x.cell? ⟨bl', o' + j * 8 + 5, none⟩ = some (.bool qlo) ∧ x.cell? ⟨bl', o' + j * 8 + 6, none⟩ = some (.bool qhi) ∧ x.cell? ⟨bl', o' + j * 8 + 7, none⟩ = some (.slice qa ql qc)) → Below x.heap.size x w' → (Below wr.heap.size wr w' ∧ w'.cell? ⟨B, 7, none⟩ = some (.slice (some ⟨bl, o, none⟩) len cap) ∧ w'.cell? ⟨B + 1, 7, none⟩ = some (.slice (some ⟨bl', o', none⟩) len cap') ∧ w'.cell? ⟨bl, o + j * 8, none⟩ = some (.int .i64 pk) ∧ w'.cell? ⟨bl, o + j * 8 + 1, none⟩ = some (.bool pb) ∧ w'.cell? ⟨bl, o + j * 8 + 2, none⟩ = some (.int .i64 pm) ∧ w'.cell? ⟨bl, o + j * 8 + 3, none⟩ = some (.int .i64 ps) ∧ w'.cell? ⟨bl, o + j * 8 + 4, none⟩ = some (.string pt) ∧ w'.cell? ⟨bl, o + j * 8 + 5, none⟩ = some (.bool plo) ∧ w'.cell? ⟨bl, o + j * 8 + 6, none⟩ = some (.bool phi) ∧ w'.cell? ⟨bl, o + j * 8 + 7, none⟩ = some (.slice pa pl pc) ∧ w'.cell? ⟨bl', o' + j * 8, none⟩ = some (.int .i64 qk) ∧ w'.cell? ⟨bl', o' + j * 8 + 1, none⟩ = some (.bool qb) ∧ w'.cell? ⟨bl', o' + j * 8 + 2, none⟩ = some (.int .i64 qm) ∧ w'.cell? ⟨bl', o' + j * 8 + 3, none⟩ = some (.int .i64 qs) ∧ w'.cell? ⟨bl', o' + j * 8 + 4, none⟩ = some (.string qt) ∧ w'.cell? ⟨bl', o' + j * 8 + 5, none⟩ = some (.bool qlo) ∧ w'.cell? ⟨bl', o' + j * 8 + 6, none⟩ = some (.bool qhi) ∧ w'.cell? ⟨bl', o' + j * 8 + 7, none⟩ = some (.slice qa ql qc))) := by
        rintro x w' ⟨h0, h1, h2, h3, h4, h5, h6, h7, h8, h9, h10, h11, h12, h13, h14, h15, h16, h17, h18⟩ kk
        have z0 := h0.size
        exact ⟨bstep h0 kk, kcell kk (by omega) h1, kcell kk (by omega) h2, kcell kk (by omega) h3, kcell kk (by omega) h4, kcell kk (by omega) h5, kcell kk (by omega) h6, kcell kk (by omega) h7, kcell kk (by omega) h8, kcell kk (by omega) h9, kcell kk (by omega) h10, kcell kk (by omega) h11, kcell kk (by omega) h12, kcell kk (by omega) h13, kcell kk (by omega) h14, kcell kk (by omega) h15, kcell kk (by omega) h16, kcell kk (by omega) h17, kcell kk (by omega) h18⟩
      cases hok : (kid j).same (kid' j)
      · have FIN := hide (xall_range_no (n := len) (f := fun i => (kid i).same (kid' i)) hlt hok)
        rw [unhide HX, unhide HY] at hok
        have HOK := hide hok
        clear hok
        go_wp2_with fail
        go_region_held3 (fun w' => Below wr.heap.size wr w' ∧ w'.cell? ⟨B, 7, none⟩ = some (.slice (some ⟨bl, o, none⟩) len cap) ∧ w'.cell? ⟨B + 1, 7, none⟩ = some (.slice (some ⟨bl', o', none⟩) len cap') ∧ w'.cell? ⟨bl, o + j * 8, none⟩ = some (.int .i64 pk) ∧ w'.cell? ⟨bl, o + j * 8 + 1, none⟩ = some (.bool pb) ∧ w'.cell? ⟨bl, o + j * 8 + 2, none⟩ = some (.int .i64 pm) ∧ w'.cell? ⟨bl, o + j * 8 + 3, none⟩ = some (.int .i64 ps) ∧ w'.cell? ⟨bl, o + j * 8 + 4, none⟩ = some (.string pt) ∧ w'.cell? ⟨bl, o + j * 8 + 5, none⟩ = some (.bool plo) ∧ w'.cell? ⟨bl, o + j * 8 + 6, none⟩ = some (.bool phi) ∧ w'.cell? ⟨bl, o + j * 8 + 7, none⟩ = some (.slice pa pl pc) ∧ w'.cell? ⟨bl', o' + j * 8, none⟩ = some (.int .i64 qk) ∧ w'.cell? ⟨bl', o' + j * 8 + 1, none⟩ = some (.bool qb) ∧ w'.cell? ⟨bl', o' + j * 8 + 2, none⟩ = some (.int .i64 qm) ∧ w'.cell? ⟨bl', o' + j * 8 + 3, none⟩ = some (.int .i64 qs) ∧ w'.cell? ⟨bl', o' + j * 8 + 4, none⟩ = some (.string qt) ∧ w'.cell? ⟨bl', o' + j * 8 + 5, none⟩ = some (.bool qlo) ∧ w'.cell? ⟨bl', o' + j * 8 + 6, none⟩ = some (.bool qhi) ∧ w'.cell? ⟨bl', o' + j * 8 + 7, none⟩ = some (.slice qa ql qc))
          (first | exact unhide S0 | assumption | exact unhide SK _ _ (by assumption) k4)
          ((go_at_call 7; refine (unhide IH _ Q Q' ?_ ?_).mono ?_; exact (unhide HK).below (And.left (by assumption)); exact (unhide HK').below (And.left (by assumption)); rintro e w4 ⟨rfl, k4⟩; rw [unhide HOK]))
        all_goals
          go_wp2_with fail
          go_ret
          refine ⟨ret_bool (unhide FIN).symm, ?_⟩
          have b := unhide B0
          rw [← unhide HB] at b
          exact bstep b (bstep bel (And.left (by assumption)))
      · have HN := hide hok
        rw [unhide HX, unhide HY] at hok
        have HOK := hide hok
        clear hok
        go_wp2_with fail
        go_region_held3 (fun w' => Below wr.heap.size wr w' ∧ w'.cell? ⟨B, 7, none⟩ = some (.slice (some ⟨bl, o, none⟩) len cap) ∧ w'.cell? ⟨B + 1, 7, none⟩ = some (.slice (some ⟨bl', o', none⟩) len cap') ∧ w'.cell? ⟨bl, o + j * 8, none⟩ = some (.int .i64 pk) ∧ w'.cell? ⟨bl, o + j * 8 + 1, none⟩ = some (.bool pb) ∧ w'.cell? ⟨bl, o + j * 8 + 2, none⟩ = some (.int .i64 pm) ∧ w'.cell? ⟨bl, o + j * 8 + 3, none⟩ = some (.int .i64 ps) ∧ w'.cell? ⟨bl, o + j * 8 + 4, none⟩ = some (.string pt) ∧ w'.cell? ⟨bl, o + j * 8 + 5, none⟩ = some (.bool plo) ∧ w'.cell? ⟨bl, o + j * 8 + 6, none⟩ = some (.bool phi) ∧ w'.cell? ⟨bl, o + j * 8 + 7, none⟩ = some (.slice pa pl pc) ∧ w'.cell? ⟨bl', o' + j * 8, none⟩ = some (.int .i64 qk) ∧ w'.cell? ⟨bl', o' + j * 8 + 1, none⟩ = some (.bool qb) ∧ w'.cell? ⟨bl', o' + j * 8 + 2, none⟩ = some (.int .i64 qm) ∧ w'.cell? ⟨bl', o' + j * 8 + 3, none⟩ = some (.int .i64 qs) ∧ w'.cell? ⟨bl', o' + j * 8 + 4, none⟩ = some (.string qt) ∧ w'.cell? ⟨bl', o' + j * 8 + 5, none⟩ = some (.bool qlo) ∧ w'.cell? ⟨bl', o' + j * 8 + 6, none⟩ = some (.bool qhi) ∧ w'.cell? ⟨bl', o' + j * 8 + 7, none⟩ = some (.slice qa ql qc))
          (first | exact unhide S0 | assumption | exact unhide SK _ _ (by assumption) k4)
          ((go_at_call 7; refine (unhide IH _ Q Q' ?_ ?_).mono ?_; exact (unhide HK).below (And.left (by assumption)); exact (unhide HK').below (And.left (by assumption)); rintro e w4 ⟨rfl, k4⟩; rw [unhide HOK]))
        all_goals
          go_wp2_with fail
          go_roundw
          case rel =>
            refine ⟨j + 1, by omega, by go_num, hide (fun i hi => ?_), bstep bel (And.left (by assumption))⟩
            by_cases hij : i = j
            · subst hij; exact unhide HN
            · exact unhide HA i (by omega)
          case measure => simp [intOf]; omega
    · have FIN := hide (xall_range (n := len) (f := fun i => (kid i).same (kid' i)) (fun i hi => unhide HA i (by omega)))
      go_wp2_with fail
      go_ret
      refine ⟨ret_bool (unhide FIN).symm, ?_⟩
      have b := unhide B0
      rw [← unhide HB] at b
      exact bstep b bel
end Go.Proofs.YtdlfgnmcokdceabDoor

/- The document's Same, a Kind's way. (Printed by mkxsame.py.) -/
namespace Go.Proofs.YtdlfgnmcokdceabDoor
open Go.RowKit
set_option linter.unusedVariables false
attribute [local go_sem ↓] Go.wp_at_zero Go.wp_at_succ

set_option maxHeartbeats 4000000 in
theorem rsame_4 (b : Bool) (m s : Int) (t : ByteArray) (lo hi : Bool) (a : Option Addr) (len cap : Nat) (kid : Nat → XT) (b' : Bool) (m' s' : Int) (t' : ByteArray) (lo' hi' : Bool) (a' : Option Addr) (cap' : Nat) (kid' : Nat → XT) (Q Q' : Nat → Prop) (w : World) (ih : ∀ i, RSameOf (kid i)) (hlm : len ≤ 9223372036854775807) (hin : (XT.mk 4 b m s t lo hi a len cap kid).In Q w) (hin' : (XT.mk 4 b' m' s' t lo' hi' a' len cap' kid').In Q' w) :
    Calls Tryd.prog 7 #[.agg #[.int .i64 4, .bool b, .int .i64 m, .int .i64 s, .string t, .bool lo, .bool hi, .slice a len cap], .agg #[.int .i64 4, .bool b', .int .i64 m', .int .i64 s', .string t, .bool lo', .bool hi', .slice a' len cap']] w fun e w' => e = .returned (.bool ((List.range len).all fun i => (kid i).same (kid' i))) ∧ Below w.heap.size w w' := by
  unfold RSameOf at ih
  go_enter Tryd.func7, Tryd.ntmps7
  go_wp2_with fail
  have b0 := below2 w (Obj.cells #[.int .i64 4, .bool b, .int .i64 m, .int .i64 s, .string t, .bool lo, .bool hi, .slice a len cap] 28) (Obj.cells #[.int .i64 4, .bool b', .int .i64 m', .int .i64 s', .string t, .bool lo', .bool hi', .slice a' len cap'] 28)
  have hin1 := hin.below b0
  have hin1' := hin'.below b0
  have hz : w.heap.size + 1 < ((w.alloc (Obj.cells #[.int .i64 4, .bool b, .int .i64 m, .int .i64 s, .string t, .bool lo, .bool hi, .slice a len cap] 28)).alloc (Obj.cells #[.int .i64 4, .bool b', .int .i64 m', .int .i64 s', .string t, .bool lo', .bool hi', .slice a' len cap'] 28)).heap.size := by simp
  have hbox : ((w.alloc (Obj.cells #[.int .i64 4, .bool b, .int .i64 m, .int .i64 s, .string t, .bool lo, .bool hi, .slice a len cap] 28)).alloc (Obj.cells #[.int .i64 4, .bool b', .int .i64 m', .int .i64 s', .string t, .bool lo', .bool hi', .slice a' len cap'] 28)).cell? ⟨w.heap.size, 7, none⟩ = some (.slice a len cap) := by go_simp
  have hbox' : ((w.alloc (Obj.cells #[.int .i64 4, .bool b, .int .i64 m, .int .i64 s, .string t, .bool lo, .bool hi, .slice a len cap] 28)).alloc (Obj.cells #[.int .i64 4, .bool b', .int .i64 m', .int .i64 s', .string t, .bool lo', .bool hi', .slice a' len cap'] 28)).cell? ⟨w.heap.size + 1, 7, none⟩ = some (.slice a' len cap') := by go_simp
  generalize hW : ((w.alloc (Obj.cells #[.int .i64 4, .bool b, .int .i64 m, .int .i64 s, .string t, .bool lo, .bool hi, .slice a len cap] 28)).alloc (Obj.cells #[.int .i64 4, .bool b', .int .i64 m', .int .i64 s', .string t, .bool lo', .bool hi', .slice a' len cap'] 28)) = W at *
  clear hW hin hin'
  have B0 := hide b0
  clear b0
  generalize hB : w.heap.size = B at *
  have HB := hide hB
  clear hB
  go_loopw [5] (fun i wr => ∃ (j : Nat), j ≤ len ∧ i = .int .i64 j ∧ Hid (∀ i, i < j → (kid i).same (kid' i) = true) ∧ Below W.heap.size W wr) (fun i _ => len - (intOf i).toNat)
  case atStart => exact ⟨0, Nat.zero_le _, rfl, hide (fun i hi => absurd hi (Nat.not_lt_zero _)), Below.refl _ _⟩
  case round =>
    obtain ⟨j, hj, rfl, HA, bel⟩ := hrel
    have zz := bel.size
    have hb := ((bcell bel).1 B 7 (by omega)).trans hbox
    have hb' := ((bcell bel).1 (B + 1) 7 (by omega)).trans hbox'
    by_cases hlt : j < len
    · obtain ⟨bl, o, pk, pb, pm, ps, pt, plo, phi, pa, pl, pc, pkid, rfl, hx, six, hk⟩ := hin1.kid hlt
      obtain ⟨bl', o', qk, qb, qm, qs, qt, qlo, qhi, qa, ql, qc, qkid, rfl, hy, six', hk'⟩ := hin1'.kid hlt
      have ihj := ih j (kid' j)
      rw [hx, hy] at ihj
      obtain ⟨s0, s1, s2, s3, s4, s5, s6, s7, s8⟩ := six.below bel
      obtain ⟨r0, r1, r2, r3, r4, r5, r6, r7, r8⟩ := six'.below bel
      have HK := hide (hk.below bel)
      have HK' := hide (hk'.below bel)
      have IH := hide ihj
      have HX := hide hx
      have HY := hide hy
      clear six six' hk hk' ih ihj hin1 hin1' hx hy
      have S0 : Hid (Below wr.heap.size wr wr.drew ∧ wr.drew.cell? ⟨B, 7, none⟩ = some (.slice (some ⟨bl, o, none⟩) len cap) ∧ wr.drew.cell? ⟨B + 1, 7, none⟩ = some (.slice (some ⟨bl', o', none⟩) len cap') ∧ wr.drew.cell? ⟨bl, o + j * 8, none⟩ = some (.int .i64 pk) ∧ wr.drew.cell? ⟨bl, o + j * 8 + 1, none⟩ = some (.bool pb) ∧ wr.drew.cell? ⟨bl, o + j * 8 + 2, none⟩ = some (.int .i64 pm) ∧ wr.drew.cell? ⟨bl, o + j * 8 + 3, none⟩ = some (.int .i64 ps) ∧ wr.drew.cell? ⟨bl, o + j * 8 + 4, none⟩ = some (.string pt) ∧ wr.drew.cell? ⟨bl, o + j * 8 + 5, none⟩ = some (.bool plo) ∧ wr.drew.cell? ⟨bl, o + j * 8 + 6, none⟩ = some (.bool phi) ∧ wr.drew.cell? ⟨bl, o + j * 8 + 7, none⟩ = some (.slice pa pl pc) ∧ wr.drew.cell? ⟨bl', o' + j * 8, none⟩ = some (.int .i64 qk) ∧ wr.drew.cell? ⟨bl', o' + j * 8 + 1, none⟩ = some (.bool qb) ∧ wr.drew.cell? ⟨bl', o' + j * 8 + 2, none⟩ = some (.int .i64 qm) ∧ wr.drew.cell? ⟨bl', o' + j * 8 + 3, none⟩ = some (.int .i64 qs) ∧ wr.drew.cell? ⟨bl', o' + j * 8 + 4, none⟩ = some (.string qt) ∧ wr.drew.cell? ⟨bl', o' + j * 8 + 5, none⟩ = some (.bool qlo) ∧ wr.drew.cell? ⟨bl', o' + j * 8 + 6, none⟩ = some (.bool qhi) ∧ wr.drew.cell? ⟨bl', o' + j * 8 + 7, none⟩ = some (.slice qa ql qc)) := ⟨(Below.refl _ _).drew, hb, hb', s1, s2, s3, s4, s5, s6, s7, s8, r1, r2, r3, r4, r5, r6, r7, r8⟩
      have SK : Hid (∀ x w', (Below wr.heap.size wr x ∧ x.cell? ⟨B, 7, none⟩ = some (.slice (some ⟨bl, o, none⟩) len cap) ∧ x.cell? ⟨B + 1, 7, none⟩ = some (.slice (some ⟨bl', o', none⟩) len cap') ∧ x.cell? ⟨bl, o + j * 8, none⟩ = some (.int .i64 pk) ∧ x.cell? ⟨bl, o + j * 8 + 1, none⟩ = some (.bool pb) ∧ x.cell? ⟨bl, o + j * 8 + 2, none⟩ = some (.int .i64 pm) ∧ x.cell? ⟨bl, o + j * 8 + 3, none⟩ = some (.int .i64 ps) ∧ x.cell? ⟨bl, o + j * 8 + 4, none⟩ = some (.string pt) ∧ x.cell? ⟨bl, o + j * 8 + 5, none⟩ = some (.bool plo) ∧ x.cell? ⟨bl, o + j * 8 + 6, none⟩ = some (.bool phi) ∧ x.cell? ⟨bl, o + j * 8 + 7, none⟩ = some (.slice pa pl pc) ∧ x.cell? ⟨bl', o' + j * 8, none⟩ = some (.int .i64 qk) ∧ x.cell? ⟨bl', o' + j * 8 + 1, none⟩ = some (.bool qb) ∧ x.cell? ⟨bl', o' + j * 8 + 2, none⟩ = some (.int .i64 qm) ∧ x.cell? ⟨bl', o' + j * 8 + 3, none⟩ = some (.int .i64 qs) ∧ x.cell? ⟨bl', o' + j * 8 + 4, none⟩ = some (.string qt) ∧ x.cell? ⟨bl', o' + j * 8 + 5, none⟩ = some (.bool qlo) ∧ x.cell? ⟨bl', o' + j * 8 + 6, none⟩ = some (.bool qhi) ∧ x.cell? ⟨bl', o' + j * 8 + 7, none⟩ = some (.slice qa ql qc)) → Below x.heap.size x w' → (Below wr.heap.size wr w' ∧ w'.cell? ⟨B, 7, none⟩ = some (.slice (some ⟨bl, o, none⟩) len cap) ∧ w'.cell? ⟨B + 1, 7, none⟩ = some (.slice (some ⟨bl', o', none⟩) len cap') ∧ w'.cell? ⟨bl, o + j * 8, none⟩ = some (.int .i64 pk) ∧ w'.cell? ⟨bl, o + j * 8 + 1, none⟩ = some (.bool pb) ∧ w'.cell? ⟨bl, o + j * 8 + 2, none⟩ = some (.int .i64 pm) ∧ w'.cell? ⟨bl, o + j * 8 + 3, none⟩ = some (.int .i64 ps) ∧ w'.cell? ⟨bl, o + j * 8 + 4, none⟩ = some (.string pt) ∧ w'.cell? ⟨bl, o + j * 8 + 5, none⟩ = some (.bool plo) ∧ w'.cell? ⟨bl, o + j * 8 + 6, none⟩ = some (.bool phi) ∧ w'.cell? ⟨bl, o + j * 8 + 7, none⟩ = some (.slice pa pl pc) ∧ w'.cell? ⟨bl', o' + j * 8, none⟩ = some (.int .i64 qk) ∧ w'.cell? ⟨bl', o' + j * 8 + 1, none⟩ = some (.bool qb) ∧ w'.cell? ⟨bl', o' + j * 8 + 2, none⟩ = some (.int .i64 qm) ∧ w'.cell? ⟨bl', o' + j * 8 + 3, none⟩ = some (.int .i64 qs) ∧ w'.cell? ⟨bl', o' + j * 8 + 4, none⟩ = some (.string qt) ∧ w'.cell? ⟨bl', o' + j * 8 + 5, none⟩ = some (.bool qlo) ∧ w'.cell? ⟨bl', o' + j * 8 + 6, none⟩ = some (.bool qhi) ∧ w'.cell? ⟨bl', o' + j * 8 + 7, none⟩ = some (.slice qa ql qc))) := by
        rintro x w' ⟨h0, h1, h2, h3, h4, h5, h6, h7, h8, h9, h10, h11, h12, h13, h14, h15, h16, h17, h18⟩ kk
        have z0 := h0.size
        exact ⟨bstep h0 kk, kcell kk (by omega) h1, kcell kk (by omega) h2, kcell kk (by omega) h3, kcell kk (by omega) h4, kcell kk (by omega) h5, kcell kk (by omega) h6, kcell kk (by omega) h7, kcell kk (by omega) h8, kcell kk (by omega) h9, kcell kk (by omega) h10, kcell kk (by omega) h11, kcell kk (by omega) h12, kcell kk (by omega) h13, kcell kk (by omega) h14, kcell kk (by omega) h15, kcell kk (by omega) h16, kcell kk (by omega) h17, kcell kk (by omega) h18⟩
      cases hok : (kid j).same (kid' j)
      · have FIN := hide (xall_range_no (n := len) (f := fun i => (kid i).same (kid' i)) hlt hok)
        rw [unhide HX, unhide HY] at hok
        have HOK := hide hok
        clear hok
        go_wp2_with fail
        go_region_held3 (fun w' => Below wr.heap.size wr w' ∧ w'.cell? ⟨B, 7, none⟩ = some (.slice (some ⟨bl, o, none⟩) len cap) ∧ w'.cell? ⟨B + 1, 7, none⟩ = some (.slice (some ⟨bl', o', none⟩) len cap') ∧ w'.cell? ⟨bl, o + j * 8, none⟩ = some (.int .i64 pk) ∧ w'.cell? ⟨bl, o + j * 8 + 1, none⟩ = some (.bool pb) ∧ w'.cell? ⟨bl, o + j * 8 + 2, none⟩ = some (.int .i64 pm) ∧ w'.cell? ⟨bl, o + j * 8 + 3, none⟩ = some (.int .i64 ps) ∧ w'.cell? ⟨bl, o + j * 8 + 4, none⟩ = some (.string pt) ∧ w'.cell? ⟨bl, o + j * 8 + 5, none⟩ = some (.bool plo) ∧ w'.cell? ⟨bl, o + j * 8 + 6, none⟩ = some (.bool phi) ∧ w'.cell? ⟨bl, o + j * 8 + 7, none⟩ = some (.slice pa pl pc) ∧ w'.cell? ⟨bl', o' + j * 8, none⟩ = some (.int .i64 qk) ∧ w'.cell? ⟨bl', o' + j * 8 + 1, none⟩ = some (.bool qb) ∧ w'.cell? ⟨bl', o' + j * 8 + 2, none⟩ = some (.int .i64 qm) ∧ w'.cell? ⟨bl', o' + j * 8 + 3, none⟩ = some (.int .i64 qs) ∧ w'.cell? ⟨bl', o' + j * 8 + 4, none⟩ = some (.string qt) ∧ w'.cell? ⟨bl', o' + j * 8 + 5, none⟩ = some (.bool qlo) ∧ w'.cell? ⟨bl', o' + j * 8 + 6, none⟩ = some (.bool qhi) ∧ w'.cell? ⟨bl', o' + j * 8 + 7, none⟩ = some (.slice qa ql qc))
          (first | exact unhide S0 | assumption | exact unhide SK _ _ (by assumption) k4)
          ((go_at_call 7; refine (unhide IH _ Q Q' ?_ ?_).mono ?_; exact (unhide HK).below (And.left (by assumption)); exact (unhide HK').below (And.left (by assumption)); rintro e w4 ⟨rfl, k4⟩; rw [unhide HOK]))
        all_goals
          go_wp2_with fail
          go_ret
          refine ⟨ret_bool (unhide FIN).symm, ?_⟩
          have b := unhide B0
          rw [← unhide HB] at b
          exact bstep b (bstep bel (And.left (by assumption)))
      · have HN := hide hok
        rw [unhide HX, unhide HY] at hok
        have HOK := hide hok
        clear hok
        go_wp2_with fail
        go_region_held3 (fun w' => Below wr.heap.size wr w' ∧ w'.cell? ⟨B, 7, none⟩ = some (.slice (some ⟨bl, o, none⟩) len cap) ∧ w'.cell? ⟨B + 1, 7, none⟩ = some (.slice (some ⟨bl', o', none⟩) len cap') ∧ w'.cell? ⟨bl, o + j * 8, none⟩ = some (.int .i64 pk) ∧ w'.cell? ⟨bl, o + j * 8 + 1, none⟩ = some (.bool pb) ∧ w'.cell? ⟨bl, o + j * 8 + 2, none⟩ = some (.int .i64 pm) ∧ w'.cell? ⟨bl, o + j * 8 + 3, none⟩ = some (.int .i64 ps) ∧ w'.cell? ⟨bl, o + j * 8 + 4, none⟩ = some (.string pt) ∧ w'.cell? ⟨bl, o + j * 8 + 5, none⟩ = some (.bool plo) ∧ w'.cell? ⟨bl, o + j * 8 + 6, none⟩ = some (.bool phi) ∧ w'.cell? ⟨bl, o + j * 8 + 7, none⟩ = some (.slice pa pl pc) ∧ w'.cell? ⟨bl', o' + j * 8, none⟩ = some (.int .i64 qk) ∧ w'.cell? ⟨bl', o' + j * 8 + 1, none⟩ = some (.bool qb) ∧ w'.cell? ⟨bl', o' + j * 8 + 2, none⟩ = some (.int .i64 qm) ∧ w'.cell? ⟨bl', o' + j * 8 + 3, none⟩ = some (.int .i64 qs) ∧ w'.cell? ⟨bl', o' + j * 8 + 4, none⟩ = some (.string qt) ∧ w'.cell? ⟨bl', o' + j * 8 + 5, none⟩ = some (.bool qlo) ∧ w'.cell? ⟨bl', o' + j * 8 + 6, none⟩ = some (.bool qhi) ∧ w'.cell? ⟨bl', o' + j * 8 + 7, none⟩ = some (.slice qa ql qc))
          (first | exact unhide S0 | assumption | exact unhide SK _ _ (by assumption) k4)
          ((go_at_call 7; refine (unhide IH _ Q Q' ?_ ?_).mono ?_; exact (unhide HK).below (And.left (by assumption)); exact (unhide HK').below (And.left (by assumption)); rintro e w4 ⟨rfl, k4⟩; rw [unhide HOK]))
        all_goals
          go_wp2_with fail
          go_roundw
          case rel =>
            refine ⟨j + 1, by omega, by go_num, hide (fun i hi => ?_), bstep bel (And.left (by assumption))⟩
            by_cases hij : i = j
            · subst hij; exact unhide HN
            · exact unhide HA i (by omega)
          case measure => simp [intOf]; omega
    · have FIN := hide (xall_range (n := len) (f := fun i => (kid i).same (kid' i)) (fun i hi => unhide HA i (by omega)))
      go_wp2_with fail
      go_ret
      refine ⟨ret_bool (unhide FIN).symm, ?_⟩
      have b := unhide B0
      rw [← unhide HB] at b
      exact bstep b bel
end Go.Proofs.YtdlfgnmcokdceabDoor

/- The document's Same, a Kind's way. (Printed by mkxsame.py.) -/
namespace Go.Proofs.YtdlfgnmcokdceabDoor
open Go.RowKit
set_option linter.unusedVariables false
attribute [local go_sem ↓] Go.wp_at_zero Go.wp_at_succ

set_option maxHeartbeats 4000000 in
theorem rsame_5 (b : Bool) (m s : Int) (t : ByteArray) (lo hi : Bool) (a : Option Addr) (len cap : Nat) (kid : Nat → XT) (b' : Bool) (m' s' : Int) (t' : ByteArray) (lo' hi' : Bool) (a' : Option Addr) (cap' : Nat) (kid' : Nat → XT) (Q Q' : Nat → Prop) (w : World) (ih : ∀ i, RSameOf (kid i)) (hlm : len ≤ 9223372036854775807) (hin : (XT.mk 5 b m s t lo hi a len cap kid).In Q w) (hin' : (XT.mk 5 b' m' s' t lo' hi' a' len cap' kid').In Q' w) :
    Calls Tryd.prog 7 #[.agg #[.int .i64 5, .bool b, .int .i64 m, .int .i64 s, .string t, .bool lo, .bool hi, .slice a len cap], .agg #[.int .i64 5, .bool b', .int .i64 m', .int .i64 s', .string t, .bool lo', .bool hi', .slice a' len cap']] w fun e w' => e = .returned (.bool ((List.range len).all fun i => (kid i).same (kid' i))) ∧ Below w.heap.size w w' := by
  unfold RSameOf at ih
  go_enter Tryd.func7, Tryd.ntmps7
  go_wp2_with fail
  have b0 := below2 w (Obj.cells #[.int .i64 5, .bool b, .int .i64 m, .int .i64 s, .string t, .bool lo, .bool hi, .slice a len cap] 28) (Obj.cells #[.int .i64 5, .bool b', .int .i64 m', .int .i64 s', .string t, .bool lo', .bool hi', .slice a' len cap'] 28)
  have hin1 := hin.below b0
  have hin1' := hin'.below b0
  have hz : w.heap.size + 1 < ((w.alloc (Obj.cells #[.int .i64 5, .bool b, .int .i64 m, .int .i64 s, .string t, .bool lo, .bool hi, .slice a len cap] 28)).alloc (Obj.cells #[.int .i64 5, .bool b', .int .i64 m', .int .i64 s', .string t, .bool lo', .bool hi', .slice a' len cap'] 28)).heap.size := by simp
  have hbox : ((w.alloc (Obj.cells #[.int .i64 5, .bool b, .int .i64 m, .int .i64 s, .string t, .bool lo, .bool hi, .slice a len cap] 28)).alloc (Obj.cells #[.int .i64 5, .bool b', .int .i64 m', .int .i64 s', .string t, .bool lo', .bool hi', .slice a' len cap'] 28)).cell? ⟨w.heap.size, 7, none⟩ = some (.slice a len cap) := by go_simp
  have hbox' : ((w.alloc (Obj.cells #[.int .i64 5, .bool b, .int .i64 m, .int .i64 s, .string t, .bool lo, .bool hi, .slice a len cap] 28)).alloc (Obj.cells #[.int .i64 5, .bool b', .int .i64 m', .int .i64 s', .string t, .bool lo', .bool hi', .slice a' len cap'] 28)).cell? ⟨w.heap.size + 1, 7, none⟩ = some (.slice a' len cap') := by go_simp
  generalize hW : ((w.alloc (Obj.cells #[.int .i64 5, .bool b, .int .i64 m, .int .i64 s, .string t, .bool lo, .bool hi, .slice a len cap] 28)).alloc (Obj.cells #[.int .i64 5, .bool b', .int .i64 m', .int .i64 s', .string t, .bool lo', .bool hi', .slice a' len cap'] 28)) = W at *
  clear hW hin hin'
  have B0 := hide b0
  clear b0
  generalize hB : w.heap.size = B at *
  have HB := hide hB
  clear hB
  go_loopw [5] (fun i wr => ∃ (j : Nat), j ≤ len ∧ i = .int .i64 j ∧ Hid (∀ i, i < j → (kid i).same (kid' i) = true) ∧ Below W.heap.size W wr) (fun i _ => len - (intOf i).toNat)
  case atStart => exact ⟨0, Nat.zero_le _, rfl, hide (fun i hi => absurd hi (Nat.not_lt_zero _)), Below.refl _ _⟩
  case round =>
    obtain ⟨j, hj, rfl, HA, bel⟩ := hrel
    have zz := bel.size
    have hb := ((bcell bel).1 B 7 (by omega)).trans hbox
    have hb' := ((bcell bel).1 (B + 1) 7 (by omega)).trans hbox'
    by_cases hlt : j < len
    · obtain ⟨bl, o, pk, pb, pm, ps, pt, plo, phi, pa, pl, pc, pkid, rfl, hx, six, hk⟩ := hin1.kid hlt
      obtain ⟨bl', o', qk, qb, qm, qs, qt, qlo, qhi, qa, ql, qc, qkid, rfl, hy, six', hk'⟩ := hin1'.kid hlt
      have ihj := ih j (kid' j)
      rw [hx, hy] at ihj
      obtain ⟨s0, s1, s2, s3, s4, s5, s6, s7, s8⟩ := six.below bel
      obtain ⟨r0, r1, r2, r3, r4, r5, r6, r7, r8⟩ := six'.below bel
      have HK := hide (hk.below bel)
      have HK' := hide (hk'.below bel)
      have IH := hide ihj
      have HX := hide hx
      have HY := hide hy
      clear six six' hk hk' ih ihj hin1 hin1' hx hy
      have S0 : Hid (Below wr.heap.size wr wr.drew ∧ wr.drew.cell? ⟨B, 7, none⟩ = some (.slice (some ⟨bl, o, none⟩) len cap) ∧ wr.drew.cell? ⟨B + 1, 7, none⟩ = some (.slice (some ⟨bl', o', none⟩) len cap') ∧ wr.drew.cell? ⟨bl, o + j * 8, none⟩ = some (.int .i64 pk) ∧ wr.drew.cell? ⟨bl, o + j * 8 + 1, none⟩ = some (.bool pb) ∧ wr.drew.cell? ⟨bl, o + j * 8 + 2, none⟩ = some (.int .i64 pm) ∧ wr.drew.cell? ⟨bl, o + j * 8 + 3, none⟩ = some (.int .i64 ps) ∧ wr.drew.cell? ⟨bl, o + j * 8 + 4, none⟩ = some (.string pt) ∧ wr.drew.cell? ⟨bl, o + j * 8 + 5, none⟩ = some (.bool plo) ∧ wr.drew.cell? ⟨bl, o + j * 8 + 6, none⟩ = some (.bool phi) ∧ wr.drew.cell? ⟨bl, o + j * 8 + 7, none⟩ = some (.slice pa pl pc) ∧ wr.drew.cell? ⟨bl', o' + j * 8, none⟩ = some (.int .i64 qk) ∧ wr.drew.cell? ⟨bl', o' + j * 8 + 1, none⟩ = some (.bool qb) ∧ wr.drew.cell? ⟨bl', o' + j * 8 + 2, none⟩ = some (.int .i64 qm) ∧ wr.drew.cell? ⟨bl', o' + j * 8 + 3, none⟩ = some (.int .i64 qs) ∧ wr.drew.cell? ⟨bl', o' + j * 8 + 4, none⟩ = some (.string qt) ∧ wr.drew.cell? ⟨bl', o' + j * 8 + 5, none⟩ = some (.bool qlo) ∧ wr.drew.cell? ⟨bl', o' + j * 8 + 6, none⟩ = some (.bool qhi) ∧ wr.drew.cell? ⟨bl', o' + j * 8 + 7, none⟩ = some (.slice qa ql qc)) := ⟨(Below.refl _ _).drew, hb, hb', s1, s2, s3, s4, s5, s6, s7, s8, r1, r2, r3, r4, r5, r6, r7, r8⟩
      have SK : Hid (∀ x w', (Below wr.heap.size wr x ∧ x.cell? ⟨B, 7, none⟩ = some (.slice (some ⟨bl, o, none⟩) len cap) ∧ x.cell? ⟨B + 1, 7, none⟩ = some (.slice (some ⟨bl', o', none⟩) len cap') ∧ x.cell? ⟨bl, o + j * 8, none⟩ = some (.int .i64 pk) ∧ x.cell? ⟨bl, o + j * 8 + 1, none⟩ = some (.bool pb) ∧ x.cell? ⟨bl, o + j * 8 + 2, none⟩ = some (.int .i64 pm) ∧ x.cell? ⟨bl, o + j * 8 + 3, none⟩ = some (.int .i64 ps) ∧ x.cell? ⟨bl, o + j * 8 + 4, none⟩ = some (.string pt) ∧ x.cell? ⟨bl, o + j * 8 + 5, none⟩ = some (.bool plo) ∧ x.cell? ⟨bl, o + j * 8 + 6, none⟩ = some (.bool phi) ∧ x.cell? ⟨bl, o + j * 8 + 7, none⟩ = some (.slice pa pl pc) ∧ x.cell? ⟨bl', o' + j * 8, none⟩ = some (.int .i64 qk) ∧ x.cell? ⟨bl', o' + j * 8 + 1, none⟩ = some (.bool qb) ∧ x.cell? ⟨bl', o' + j * 8 + 2, none⟩ = some (.int .i64 qm) ∧ x.cell? ⟨bl', o' + j * 8 + 3, none⟩ = some (.int .i64 qs) ∧ x.cell? ⟨bl', o' + j * 8 + 4, none⟩ = some (.string qt) ∧ x.cell? ⟨bl', o' + j * 8 + 5, none⟩ = some (.bool qlo) ∧ x.cell? ⟨bl', o' + j * 8 + 6, none⟩ = some (.bool qhi) ∧ x.cell? ⟨bl', o' + j * 8 + 7, none⟩ = some (.slice qa ql qc)) → Below x.heap.size x w' → (Below wr.heap.size wr w' ∧ w'.cell? ⟨B, 7, none⟩ = some (.slice (some ⟨bl, o, none⟩) len cap) ∧ w'.cell? ⟨B + 1, 7, none⟩ = some (.slice (some ⟨bl', o', none⟩) len cap') ∧ w'.cell? ⟨bl, o + j * 8, none⟩ = some (.int .i64 pk) ∧ w'.cell? ⟨bl, o + j * 8 + 1, none⟩ = some (.bool pb) ∧ w'.cell? ⟨bl, o + j * 8 + 2, none⟩ = some (.int .i64 pm) ∧ w'.cell? ⟨bl, o + j * 8 + 3, none⟩ = some (.int .i64 ps) ∧ w'.cell? ⟨bl, o + j * 8 + 4, none⟩ = some (.string pt) ∧ w'.cell? ⟨bl, o + j * 8 + 5, none⟩ = some (.bool plo) ∧ w'.cell? ⟨bl, o + j * 8 + 6, none⟩ = some (.bool phi) ∧ w'.cell? ⟨bl, o + j * 8 + 7, none⟩ = some (.slice pa pl pc) ∧ w'.cell? ⟨bl', o' + j * 8, none⟩ = some (.int .i64 qk) ∧ w'.cell? ⟨bl', o' + j * 8 + 1, none⟩ = some (.bool qb) ∧ w'.cell? ⟨bl', o' + j * 8 + 2, none⟩ = some (.int .i64 qm) ∧ w'.cell? ⟨bl', o' + j * 8 + 3, none⟩ = some (.int .i64 qs) ∧ w'.cell? ⟨bl', o' + j * 8 + 4, none⟩ = some (.string qt) ∧ w'.cell? ⟨bl', o' + j * 8 + 5, none⟩ = some (.bool qlo) ∧ w'.cell? ⟨bl', o' + j * 8 + 6, none⟩ = some (.bool qhi) ∧ w'.cell? ⟨bl', o' + j * 8 + 7, none⟩ = some (.slice qa ql qc))) := by
        rintro x w' ⟨h0, h1, h2, h3, h4, h5, h6, h7, h8, h9, h10, h11, h12, h13, h14, h15, h16, h17, h18⟩ kk
        have z0 := h0.size
        exact ⟨bstep h0 kk, kcell kk (by omega) h1, kcell kk (by omega) h2, kcell kk (by omega) h3, kcell kk (by omega) h4, kcell kk (by omega) h5, kcell kk (by omega) h6, kcell kk (by omega) h7, kcell kk (by omega) h8, kcell kk (by omega) h9, kcell kk (by omega) h10, kcell kk (by omega) h11, kcell kk (by omega) h12, kcell kk (by omega) h13, kcell kk (by omega) h14, kcell kk (by omega) h15, kcell kk (by omega) h16, kcell kk (by omega) h17, kcell kk (by omega) h18⟩
      cases hok : (kid j).same (kid' j)
      · have FIN := hide (xall_range_no (n := len) (f := fun i => (kid i).same (kid' i)) hlt hok)
        rw [unhide HX, unhide HY] at hok
        have HOK := hide hok
        clear hok
        go_wp2_with fail
        go_region_held3 (fun w' => Below wr.heap.size wr w' ∧ w'.cell? ⟨B, 7, none⟩ = some (.slice (some ⟨bl, o, none⟩) len cap) ∧ w'.cell? ⟨B + 1, 7, none⟩ = some (.slice (some ⟨bl', o', none⟩) len cap') ∧ w'.cell? ⟨bl, o + j * 8, none⟩ = some (.int .i64 pk) ∧ w'.cell? ⟨bl, o + j * 8 + 1, none⟩ = some (.bool pb) ∧ w'.cell? ⟨bl, o + j * 8 + 2, none⟩ = some (.int .i64 pm) ∧ w'.cell? ⟨bl, o + j * 8 + 3, none⟩ = some (.int .i64 ps) ∧ w'.cell? ⟨bl, o + j * 8 + 4, none⟩ = some (.string pt) ∧ w'.cell? ⟨bl, o + j * 8 + 5, none⟩ = some (.bool plo) ∧ w'.cell? ⟨bl, o + j * 8 + 6, none⟩ = some (.bool phi) ∧ w'.cell? ⟨bl, o + j * 8 + 7, none⟩ = some (.slice pa pl pc) ∧ w'.cell? ⟨bl', o' + j * 8, none⟩ = some (.int .i64 qk) ∧ w'.cell? ⟨bl', o' + j * 8 + 1, none⟩ = some (.bool qb) ∧ w'.cell? ⟨bl', o' + j * 8 + 2, none⟩ = some (.int .i64 qm) ∧ w'.cell? ⟨bl', o' + j * 8 + 3, none⟩ = some (.int .i64 qs) ∧ w'.cell? ⟨bl', o' + j * 8 + 4, none⟩ = some (.string qt) ∧ w'.cell? ⟨bl', o' + j * 8 + 5, none⟩ = some (.bool qlo) ∧ w'.cell? ⟨bl', o' + j * 8 + 6, none⟩ = some (.bool qhi) ∧ w'.cell? ⟨bl', o' + j * 8 + 7, none⟩ = some (.slice qa ql qc))
          (first | exact unhide S0 | assumption | exact unhide SK _ _ (by assumption) k4)
          ((go_at_call 7; refine (unhide IH _ Q Q' ?_ ?_).mono ?_; exact (unhide HK).below (And.left (by assumption)); exact (unhide HK').below (And.left (by assumption)); rintro e w4 ⟨rfl, k4⟩; rw [unhide HOK]))
        all_goals
          go_wp2_with fail
          go_ret
          refine ⟨ret_bool (unhide FIN).symm, ?_⟩
          have b := unhide B0
          rw [← unhide HB] at b
          exact bstep b (bstep bel (And.left (by assumption)))
      · have HN := hide hok
        rw [unhide HX, unhide HY] at hok
        have HOK := hide hok
        clear hok
        go_wp2_with fail
        go_region_held3 (fun w' => Below wr.heap.size wr w' ∧ w'.cell? ⟨B, 7, none⟩ = some (.slice (some ⟨bl, o, none⟩) len cap) ∧ w'.cell? ⟨B + 1, 7, none⟩ = some (.slice (some ⟨bl', o', none⟩) len cap') ∧ w'.cell? ⟨bl, o + j * 8, none⟩ = some (.int .i64 pk) ∧ w'.cell? ⟨bl, o + j * 8 + 1, none⟩ = some (.bool pb) ∧ w'.cell? ⟨bl, o + j * 8 + 2, none⟩ = some (.int .i64 pm) ∧ w'.cell? ⟨bl, o + j * 8 + 3, none⟩ = some (.int .i64 ps) ∧ w'.cell? ⟨bl, o + j * 8 + 4, none⟩ = some (.string pt) ∧ w'.cell? ⟨bl, o + j * 8 + 5, none⟩ = some (.bool plo) ∧ w'.cell? ⟨bl, o + j * 8 + 6, none⟩ = some (.bool phi) ∧ w'.cell? ⟨bl, o + j * 8 + 7, none⟩ = some (.slice pa pl pc) ∧ w'.cell? ⟨bl', o' + j * 8, none⟩ = some (.int .i64 qk) ∧ w'.cell? ⟨bl', o' + j * 8 + 1, none⟩ = some (.bool qb) ∧ w'.cell? ⟨bl', o' + j * 8 + 2, none⟩ = some (.int .i64 qm) ∧ w'.cell? ⟨bl', o' + j * 8 + 3, none⟩ = some (.int .i64 qs) ∧ w'.cell? ⟨bl', o' + j * 8 + 4, none⟩ = some (.string qt) ∧ w'.cell? ⟨bl', o' + j * 8 + 5, none⟩ = some (.bool qlo) ∧ w'.cell? ⟨bl', o' + j * 8 + 6, none⟩ = some (.bool qhi) ∧ w'.cell? ⟨bl', o' + j * 8 + 7, none⟩ = some (.slice qa ql qc))
          (first | exact unhide S0 | assumption | exact unhide SK _ _ (by assumption) k4)
          ((go_at_call 7; refine (unhide IH _ Q Q' ?_ ?_).mono ?_; exact (unhide HK).below (And.left (by assumption)); exact (unhide HK').below (And.left (by assumption)); rintro e w4 ⟨rfl, k4⟩; rw [unhide HOK]))
        all_goals
          go_wp2_with fail
          go_roundw
          case rel =>
            refine ⟨j + 1, by omega, by go_num, hide (fun i hi => ?_), bstep bel (And.left (by assumption))⟩
            by_cases hij : i = j
            · subst hij; exact unhide HN
            · exact unhide HA i (by omega)
          case measure => simp [intOf]; omega
    · have FIN := hide (xall_range (n := len) (f := fun i => (kid i).same (kid' i)) (fun i hi => unhide HA i (by omega)))
      go_wp2_with fail
      go_ret
      refine ⟨ret_bool (unhide FIN).symm, ?_⟩
      have b := unhide B0
      rw [← unhide HB] at b
      exact bstep b bel
end Go.Proofs.YtdlfgnmcokdceabDoor

/- The document's Same, a Kind's way. (Printed by mkxsame.py.) -/
namespace Go.Proofs.YtdlfgnmcokdceabDoor
open Go.RowKit
set_option linter.unusedVariables false
attribute [local go_sem ↓] Go.wp_at_zero Go.wp_at_succ

set_option maxHeartbeats 4000000 in
theorem rsame_6 (b : Bool) (m s : Int) (t : ByteArray) (lo hi : Bool) (a : Option Addr) (len cap : Nat) (kid : Nat → XT) (b' : Bool) (m' s' : Int) (t' : ByteArray) (lo' hi' : Bool) (a' : Option Addr) (cap' : Nat) (kid' : Nat → XT) (Q Q' : Nat → Prop) (w : World) (ih : ∀ i, RSameOf (kid i)) (hlm : len ≤ 9223372036854775807) (hin : (XT.mk 6 b m s t lo hi a len cap kid).In Q w) (hin' : (XT.mk 6 b' m' s' t lo' hi' a' len cap' kid').In Q' w) :
    Calls Tryd.prog 7 #[.agg #[.int .i64 6, .bool b, .int .i64 m, .int .i64 s, .string t, .bool lo, .bool hi, .slice a len cap], .agg #[.int .i64 6, .bool b', .int .i64 m', .int .i64 s', .string t, .bool lo', .bool hi', .slice a' len cap']] w fun e w' => e = .returned (.bool ((List.range len).all fun i => (kid i).same (kid' i))) ∧ Below w.heap.size w w' := by
  unfold RSameOf at ih
  go_enter Tryd.func7, Tryd.ntmps7
  go_wp2_with fail
  have b0 := below2 w (Obj.cells #[.int .i64 6, .bool b, .int .i64 m, .int .i64 s, .string t, .bool lo, .bool hi, .slice a len cap] 28) (Obj.cells #[.int .i64 6, .bool b', .int .i64 m', .int .i64 s', .string t, .bool lo', .bool hi', .slice a' len cap'] 28)
  have hin1 := hin.below b0
  have hin1' := hin'.below b0
  have hz : w.heap.size + 1 < ((w.alloc (Obj.cells #[.int .i64 6, .bool b, .int .i64 m, .int .i64 s, .string t, .bool lo, .bool hi, .slice a len cap] 28)).alloc (Obj.cells #[.int .i64 6, .bool b', .int .i64 m', .int .i64 s', .string t, .bool lo', .bool hi', .slice a' len cap'] 28)).heap.size := by simp
  have hbox : ((w.alloc (Obj.cells #[.int .i64 6, .bool b, .int .i64 m, .int .i64 s, .string t, .bool lo, .bool hi, .slice a len cap] 28)).alloc (Obj.cells #[.int .i64 6, .bool b', .int .i64 m', .int .i64 s', .string t, .bool lo', .bool hi', .slice a' len cap'] 28)).cell? ⟨w.heap.size, 7, none⟩ = some (.slice a len cap) := by go_simp
  have hbox' : ((w.alloc (Obj.cells #[.int .i64 6, .bool b, .int .i64 m, .int .i64 s, .string t, .bool lo, .bool hi, .slice a len cap] 28)).alloc (Obj.cells #[.int .i64 6, .bool b', .int .i64 m', .int .i64 s', .string t, .bool lo', .bool hi', .slice a' len cap'] 28)).cell? ⟨w.heap.size + 1, 7, none⟩ = some (.slice a' len cap') := by go_simp
  generalize hW : ((w.alloc (Obj.cells #[.int .i64 6, .bool b, .int .i64 m, .int .i64 s, .string t, .bool lo, .bool hi, .slice a len cap] 28)).alloc (Obj.cells #[.int .i64 6, .bool b', .int .i64 m', .int .i64 s', .string t, .bool lo', .bool hi', .slice a' len cap'] 28)) = W at *
  clear hW hin hin'
  have B0 := hide b0
  clear b0
  generalize hB : w.heap.size = B at *
  have HB := hide hB
  clear hB
  go_loopw [5] (fun i wr => ∃ (j : Nat), j ≤ len ∧ i = .int .i64 j ∧ Hid (∀ i, i < j → (kid i).same (kid' i) = true) ∧ Below W.heap.size W wr) (fun i _ => len - (intOf i).toNat)
  case atStart => exact ⟨0, Nat.zero_le _, rfl, hide (fun i hi => absurd hi (Nat.not_lt_zero _)), Below.refl _ _⟩
  case round =>
    obtain ⟨j, hj, rfl, HA, bel⟩ := hrel
    have zz := bel.size
    have hb := ((bcell bel).1 B 7 (by omega)).trans hbox
    have hb' := ((bcell bel).1 (B + 1) 7 (by omega)).trans hbox'
    by_cases hlt : j < len
    · obtain ⟨bl, o, pk, pb, pm, ps, pt, plo, phi, pa, pl, pc, pkid, rfl, hx, six, hk⟩ := hin1.kid hlt
      obtain ⟨bl', o', qk, qb, qm, qs, qt, qlo, qhi, qa, ql, qc, qkid, rfl, hy, six', hk'⟩ := hin1'.kid hlt
      have ihj := ih j (kid' j)
      rw [hx, hy] at ihj
      obtain ⟨s0, s1, s2, s3, s4, s5, s6, s7, s8⟩ := six.below bel
      obtain ⟨r0, r1, r2, r3, r4, r5, r6, r7, r8⟩ := six'.below bel
      have HK := hide (hk.below bel)
      have HK' := hide (hk'.below bel)
      have IH := hide ihj
      have HX := hide hx
      have HY := hide hy
      clear six six' hk hk' ih ihj hin1 hin1' hx hy
      have S0 : Hid (Below wr.heap.size wr wr.drew ∧ wr.drew.cell? ⟨B, 7, none⟩ = some (.slice (some ⟨bl, o, none⟩) len cap) ∧ wr.drew.cell? ⟨B + 1, 7, none⟩ = some (.slice (some ⟨bl', o', none⟩) len cap') ∧ wr.drew.cell? ⟨bl, o + j * 8, none⟩ = some (.int .i64 pk) ∧ wr.drew.cell? ⟨bl, o + j * 8 + 1, none⟩ = some (.bool pb) ∧ wr.drew.cell? ⟨bl, o + j * 8 + 2, none⟩ = some (.int .i64 pm) ∧ wr.drew.cell? ⟨bl, o + j * 8 + 3, none⟩ = some (.int .i64 ps) ∧ wr.drew.cell? ⟨bl, o + j * 8 + 4, none⟩ = some (.string pt) ∧ wr.drew.cell? ⟨bl, o + j * 8 + 5, none⟩ = some (.bool plo) ∧ wr.drew.cell? ⟨bl, o + j * 8 + 6, none⟩ = some (.bool phi) ∧ wr.drew.cell? ⟨bl, o + j * 8 + 7, none⟩ = some (.slice pa pl pc) ∧ wr.drew.cell? ⟨bl', o' + j * 8, none⟩ = some (.int .i64 qk) ∧ wr.drew.cell? ⟨bl', o' + j * 8 + 1, none⟩ = some (.bool qb) ∧ wr.drew.cell? ⟨bl', o' + j * 8 + 2, none⟩ = some (.int .i64 qm) ∧ wr.drew.cell? ⟨bl', o' + j * 8 + 3, none⟩ = some (.int .i64 qs) ∧ wr.drew.cell? ⟨bl', o' + j * 8 + 4, none⟩ = some (.string qt) ∧ wr.drew.cell? ⟨bl', o' + j * 8 + 5, none⟩ = some (.bool qlo) ∧ wr.drew.cell? ⟨bl', o' + j * 8 + 6, none⟩ = some (.bool qhi) ∧ wr.drew.cell? ⟨bl', o' + j * 8 + 7, none⟩ = some (.slice qa ql qc)) := ⟨(Below.refl _ _).drew, hb, hb', s1, s2, s3, s4, s5, s6, s7, s8, r1, r2, r3, r4, r5, r6, r7, r8⟩
      have SK : Hid (∀ x w', (Below wr.heap.size wr x ∧ x.cell? ⟨B, 7, none⟩ = some (.slice (some ⟨bl, o, none⟩) len cap) ∧ x.cell? ⟨B + 1, 7, none⟩ = some (.slice (some ⟨bl', o', none⟩) len cap') ∧ x.cell? ⟨bl, o + j * 8, none⟩ = some (.int .i64 pk) ∧ x.cell? ⟨bl, o + j * 8 + 1, none⟩ = some (.bool pb) ∧ x.cell? ⟨bl, o + j * 8 + 2, none⟩ = some (.int .i64 pm) ∧ x.cell? ⟨bl, o + j * 8 + 3, none⟩ = some (.int .i64 ps) ∧ x.cell? ⟨bl, o + j * 8 + 4, none⟩ = some (.string pt) ∧ x.cell? ⟨bl, o + j * 8 + 5, none⟩ = some (.bool plo) ∧ x.cell? ⟨bl, o + j * 8 + 6, none⟩ = some (.bool phi) ∧ x.cell? ⟨bl, o + j * 8 + 7, none⟩ = some (.slice pa pl pc) ∧ x.cell? ⟨bl', o' + j * 8, none⟩ = some (.int .i64 qk) ∧ x.cell? ⟨bl', o' + j * 8 + 1, none⟩ = some (.bool qb) ∧ x.cell? ⟨bl', o' + j * 8 + 2, none⟩ = some (.int .i64 qm) ∧ x.cell? ⟨bl', o' + j * 8 + 3, none⟩ = some (.int .i64 qs) ∧ x.cell? ⟨bl', o' + j * 8 + 4, none⟩ = some (.string qt) ∧ x.cell? ⟨bl', o' + j * 8 + 5, none⟩ = some (.bool qlo) ∧ x.cell? ⟨bl', o' + j * 8 + 6, none⟩ = some (.bool qhi) ∧ x.cell? ⟨bl', o' + j * 8 + 7, none⟩ = some (.slice qa ql qc)) → Below x.heap.size x w' → (Below wr.heap.size wr w' ∧ w'.cell? ⟨B, 7, none⟩ = some (.slice (some ⟨bl, o, none⟩) len cap) ∧ w'.cell? ⟨B + 1, 7, none⟩ = some (.slice (some ⟨bl', o', none⟩) len cap') ∧ w'.cell? ⟨bl, o + j * 8, none⟩ = some (.int .i64 pk) ∧ w'.cell? ⟨bl, o + j * 8 + 1, none⟩ = some (.bool pb) ∧ w'.cell? ⟨bl, o + j * 8 + 2, none⟩ = some (.int .i64 pm) ∧ w'.cell? ⟨bl, o + j * 8 + 3, none⟩ = some (.int .i64 ps) ∧ w'.cell? ⟨bl, o + j * 8 + 4, none⟩ = some (.string pt) ∧ w'.cell? ⟨bl, o + j * 8 + 5, none⟩ = some (.bool plo) ∧ w'.cell? ⟨bl, o + j * 8 + 6, none⟩ = some (.bool phi) ∧ w'.cell? ⟨bl, o + j * 8 + 7, none⟩ = some (.slice pa pl pc) ∧ w'.cell? ⟨bl', o' + j * 8, none⟩ = some (.int .i64 qk) ∧ w'.cell? ⟨bl', o' + j * 8 + 1, none⟩ = some (.bool qb) ∧ w'.cell? ⟨bl', o' + j * 8 + 2, none⟩ = some (.int .i64 qm) ∧ w'.cell? ⟨bl', o' + j * 8 + 3, none⟩ = some (.int .i64 qs) ∧ w'.cell? ⟨bl', o' + j * 8 + 4, none⟩ = some (.string qt) ∧ w'.cell? ⟨bl', o' + j * 8 + 5, none⟩ = some (.bool qlo) ∧ w'.cell? ⟨bl', o' + j * 8 + 6, none⟩ = some (.bool qhi) ∧ w'.cell? ⟨bl', o' + j * 8 + 7, none⟩ = some (.slice qa ql qc))) := by
        rintro x w' ⟨h0, h1, h2, h3, h4, h5, h6, h7, h8, h9, h10, h11, h12, h13, h14, h15, h16, h17, h18⟩ kk
        have z0 := h0.size
        exact ⟨bstep h0 kk, kcell kk (by omega) h1, kcell kk (by omega) h2, kcell kk (by omega) h3, kcell kk (by omega) h4, kcell kk (by omega) h5, kcell kk (by omega) h6, kcell kk (by omega) h7, kcell kk (by omega) h8, kcell kk (by omega) h9, kcell kk (by omega) h10, kcell kk (by omega) h11, kcell kk (by omega) h12, kcell kk (by omega) h13, kcell kk (by omega) h14, kcell kk (by omega) h15, kcell kk (by omega) h16, kcell kk (by omega) h17, kcell kk (by omega) h18⟩
      cases hok : (kid j).same (kid' j)
      · have FIN := hide (xall_range_no (n := len) (f := fun i => (kid i).same (kid' i)) hlt hok)
        rw [unhide HX, unhide HY] at hok
        have HOK := hide hok
        clear hok
        go_wp2_with fail
        go_region_held3 (fun w' => Below wr.heap.size wr w' ∧ w'.cell? ⟨B, 7, none⟩ = some (.slice (some ⟨bl, o, none⟩) len cap) ∧ w'.cell? ⟨B + 1, 7, none⟩ = some (.slice (some ⟨bl', o', none⟩) len cap') ∧ w'.cell? ⟨bl, o + j * 8, none⟩ = some (.int .i64 pk) ∧ w'.cell? ⟨bl, o + j * 8 + 1, none⟩ = some (.bool pb) ∧ w'.cell? ⟨bl, o + j * 8 + 2, none⟩ = some (.int .i64 pm) ∧ w'.cell? ⟨bl, o + j * 8 + 3, none⟩ = some (.int .i64 ps) ∧ w'.cell? ⟨bl, o + j * 8 + 4, none⟩ = some (.string pt) ∧ w'.cell? ⟨bl, o + j * 8 + 5, none⟩ = some (.bool plo) ∧ w'.cell? ⟨bl, o + j * 8 + 6, none⟩ = some (.bool phi) ∧ w'.cell? ⟨bl, o + j * 8 + 7, none⟩ = some (.slice pa pl pc) ∧ w'.cell? ⟨bl', o' + j * 8, none⟩ = some (.int .i64 qk) ∧ w'.cell? ⟨bl', o' + j * 8 + 1, none⟩ = some (.bool qb) ∧ w'.cell? ⟨bl', o' + j * 8 + 2, none⟩ = some (.int .i64 qm) ∧ w'.cell? ⟨bl', o' + j * 8 + 3, none⟩ = some (.int .i64 qs) ∧ w'.cell? ⟨bl', o' + j * 8 + 4, none⟩ = some (.string qt) ∧ w'.cell? ⟨bl', o' + j * 8 + 5, none⟩ = some (.bool qlo) ∧ w'.cell? ⟨bl', o' + j * 8 + 6, none⟩ = some (.bool qhi) ∧ w'.cell? ⟨bl', o' + j * 8 + 7, none⟩ = some (.slice qa ql qc))
          (first | exact unhide S0 | assumption | exact unhide SK _ _ (by assumption) k4)
          ((go_at_call 7; refine (unhide IH _ Q Q' ?_ ?_).mono ?_; exact (unhide HK).below (And.left (by assumption)); exact (unhide HK').below (And.left (by assumption)); rintro e w4 ⟨rfl, k4⟩; rw [unhide HOK]))
        all_goals
          go_wp2_with fail
          go_ret
          refine ⟨ret_bool (unhide FIN).symm, ?_⟩
          have b := unhide B0
          rw [← unhide HB] at b
          exact bstep b (bstep bel (And.left (by assumption)))
      · have HN := hide hok
        rw [unhide HX, unhide HY] at hok
        have HOK := hide hok
        clear hok
        go_wp2_with fail
        go_region_held3 (fun w' => Below wr.heap.size wr w' ∧ w'.cell? ⟨B, 7, none⟩ = some (.slice (some ⟨bl, o, none⟩) len cap) ∧ w'.cell? ⟨B + 1, 7, none⟩ = some (.slice (some ⟨bl', o', none⟩) len cap') ∧ w'.cell? ⟨bl, o + j * 8, none⟩ = some (.int .i64 pk) ∧ w'.cell? ⟨bl, o + j * 8 + 1, none⟩ = some (.bool pb) ∧ w'.cell? ⟨bl, o + j * 8 + 2, none⟩ = some (.int .i64 pm) ∧ w'.cell? ⟨bl, o + j * 8 + 3, none⟩ = some (.int .i64 ps) ∧ w'.cell? ⟨bl, o + j * 8 + 4, none⟩ = some (.string pt) ∧ w'.cell? ⟨bl, o + j * 8 + 5, none⟩ = some (.bool plo) ∧ w'.cell? ⟨bl, o + j * 8 + 6, none⟩ = some (.bool phi) ∧ w'.cell? ⟨bl, o + j * 8 + 7, none⟩ = some (.slice pa pl pc) ∧ w'.cell? ⟨bl', o' + j * 8, none⟩ = some (.int .i64 qk) ∧ w'.cell? ⟨bl', o' + j * 8 + 1, none⟩ = some (.bool qb) ∧ w'.cell? ⟨bl', o' + j * 8 + 2, none⟩ = some (.int .i64 qm) ∧ w'.cell? ⟨bl', o' + j * 8 + 3, none⟩ = some (.int .i64 qs) ∧ w'.cell? ⟨bl', o' + j * 8 + 4, none⟩ = some (.string qt) ∧ w'.cell? ⟨bl', o' + j * 8 + 5, none⟩ = some (.bool qlo) ∧ w'.cell? ⟨bl', o' + j * 8 + 6, none⟩ = some (.bool qhi) ∧ w'.cell? ⟨bl', o' + j * 8 + 7, none⟩ = some (.slice qa ql qc))
          (first | exact unhide S0 | assumption | exact unhide SK _ _ (by assumption) k4)
          ((go_at_call 7; refine (unhide IH _ Q Q' ?_ ?_).mono ?_; exact (unhide HK).below (And.left (by assumption)); exact (unhide HK').below (And.left (by assumption)); rintro e w4 ⟨rfl, k4⟩; rw [unhide HOK]))
        all_goals
          go_wp2_with fail
          go_roundw
          case rel =>
            refine ⟨j + 1, by omega, by go_num, hide (fun i hi => ?_), bstep bel (And.left (by assumption))⟩
            by_cases hij : i = j
            · subst hij; exact unhide HN
            · exact unhide HA i (by omega)
          case measure => simp [intOf]; omega
    · have FIN := hide (xall_range (n := len) (f := fun i => (kid i).same (kid' i)) (fun i hi => unhide HA i (by omega)))
      go_wp2_with fail
      go_ret
      refine ⟨ret_bool (unhide FIN).symm, ?_⟩
      have b := unhide B0
      rw [← unhide HB] at b
      exact bstep b bel
end Go.Proofs.YtdlfgnmcokdceabDoor

/- The document's Same, a Kind's way. (Printed by mkxsame.py.) -/
namespace Go.Proofs.YtdlfgnmcokdceabDoor
open Go.RowKit
set_option linter.unusedVariables false
attribute [local go_sem ↓] Go.wp_at_zero Go.wp_at_succ

set_option maxHeartbeats 4000000 in
theorem rsame_10 (b : Bool) (m s : Int) (t : ByteArray) (lo hi : Bool) (a : Option Addr) (len cap : Nat) (kid : Nat → XT) (b' : Bool) (m' s' : Int) (t' : ByteArray) (lo' hi' : Bool) (a' : Option Addr) (cap' : Nat) (kid' : Nat → XT) (Q Q' : Nat → Prop) (w : World) (ih : ∀ i, RSameOf (kid i)) (hlm : len ≤ 9223372036854775807) (hin : (XT.mk 10 b m s t lo hi a len cap kid).In Q w) (hin' : (XT.mk 10 b' m' s' t lo' hi' a' len cap' kid').In Q' w) :
    Calls Tryd.prog 7 #[.agg #[.int .i64 10, .bool b, .int .i64 m, .int .i64 s, .string t, .bool lo, .bool hi, .slice a len cap], .agg #[.int .i64 10, .bool b', .int .i64 m', .int .i64 s', .string t, .bool lo', .bool hi', .slice a' len cap']] w fun e w' => e = .returned (.bool ((List.range len).all fun i => (kid i).same (kid' i))) ∧ Below w.heap.size w w' := by
  unfold RSameOf at ih
  go_enter Tryd.func7, Tryd.ntmps7
  go_wp2_with fail
  have b0 := below2 w (Obj.cells #[.int .i64 10, .bool b, .int .i64 m, .int .i64 s, .string t, .bool lo, .bool hi, .slice a len cap] 28) (Obj.cells #[.int .i64 10, .bool b', .int .i64 m', .int .i64 s', .string t, .bool lo', .bool hi', .slice a' len cap'] 28)
  have hin1 := hin.below b0
  have hin1' := hin'.below b0
  have hz : w.heap.size + 1 < ((w.alloc (Obj.cells #[.int .i64 10, .bool b, .int .i64 m, .int .i64 s, .string t, .bool lo, .bool hi, .slice a len cap] 28)).alloc (Obj.cells #[.int .i64 10, .bool b', .int .i64 m', .int .i64 s', .string t, .bool lo', .bool hi', .slice a' len cap'] 28)).heap.size := by simp
  have hbox : ((w.alloc (Obj.cells #[.int .i64 10, .bool b, .int .i64 m, .int .i64 s, .string t, .bool lo, .bool hi, .slice a len cap] 28)).alloc (Obj.cells #[.int .i64 10, .bool b', .int .i64 m', .int .i64 s', .string t, .bool lo', .bool hi', .slice a' len cap'] 28)).cell? ⟨w.heap.size, 7, none⟩ = some (.slice a len cap) := by go_simp
  have hbox' : ((w.alloc (Obj.cells #[.int .i64 10, .bool b, .int .i64 m, .int .i64 s, .string t, .bool lo, .bool hi, .slice a len cap] 28)).alloc (Obj.cells #[.int .i64 10, .bool b', .int .i64 m', .int .i64 s', .string t, .bool lo', .bool hi', .slice a' len cap'] 28)).cell? ⟨w.heap.size + 1, 7, none⟩ = some (.slice a' len cap') := by go_simp
  generalize hW : ((w.alloc (Obj.cells #[.int .i64 10, .bool b, .int .i64 m, .int .i64 s, .string t, .bool lo, .bool hi, .slice a len cap] 28)).alloc (Obj.cells #[.int .i64 10, .bool b', .int .i64 m', .int .i64 s', .string t, .bool lo', .bool hi', .slice a' len cap'] 28)) = W at *
  clear hW hin hin'
  have B0 := hide b0
  clear b0
  generalize hB : w.heap.size = B at *
  have HB := hide hB
  clear hB
  go_loopw [5] (fun i wr => ∃ (j : Nat), j ≤ len ∧ i = .int .i64 j ∧ Hid (∀ i, i < j → (kid i).same (kid' i) = true) ∧ Below W.heap.size W wr) (fun i _ => len - (intOf i).toNat)
  case atStart => exact ⟨0, Nat.zero_le _, rfl, hide (fun i hi => absurd hi (Nat.not_lt_zero _)), Below.refl _ _⟩
  case round =>
    obtain ⟨j, hj, rfl, HA, bel⟩ := hrel
    have zz := bel.size
    have hb := ((bcell bel).1 B 7 (by omega)).trans hbox
    have hb' := ((bcell bel).1 (B + 1) 7 (by omega)).trans hbox'
    by_cases hlt : j < len
    · obtain ⟨bl, o, pk, pb, pm, ps, pt, plo, phi, pa, pl, pc, pkid, rfl, hx, six, hk⟩ := hin1.kid hlt
      obtain ⟨bl', o', qk, qb, qm, qs, qt, qlo, qhi, qa, ql, qc, qkid, rfl, hy, six', hk'⟩ := hin1'.kid hlt
      have ihj := ih j (kid' j)
      rw [hx, hy] at ihj
      obtain ⟨s0, s1, s2, s3, s4, s5, s6, s7, s8⟩ := six.below bel
      obtain ⟨r0, r1, r2, r3, r4, r5, r6, r7, r8⟩ := six'.below bel
      have HK := hide (hk.below bel)
      have HK' := hide (hk'.below bel)
      have IH := hide ihj
      have HX := hide hx
      have HY := hide hy
      clear six six' hk hk' ih ihj hin1 hin1' hx hy
      have S0 : Hid (Below wr.heap.size wr wr.drew ∧ wr.drew.cell? ⟨B, 7, none⟩ = some (.slice (some ⟨bl, o, none⟩) len cap) ∧ wr.drew.cell? ⟨B + 1, 7, none⟩ = some (.slice (some ⟨bl', o', none⟩) len cap') ∧ wr.drew.cell? ⟨bl, o + j * 8, none⟩ = some (.int .i64 pk) ∧ wr.drew.cell? ⟨bl, o + j * 8 + 1, none⟩ = some (.bool pb) ∧ wr.drew.cell? ⟨bl, o + j * 8 + 2, none⟩ = some (.int .i64 pm) ∧ wr.drew.cell? ⟨bl, o + j * 8 + 3, none⟩ = some (.int .i64 ps) ∧ wr.drew.cell? ⟨bl, o + j * 8 + 4, none⟩ = some (.string pt) ∧ wr.drew.cell? ⟨bl, o + j * 8 + 5, none⟩ = some (.bool plo) ∧ wr.drew.cell? ⟨bl, o + j * 8 + 6, none⟩ = some (.bool phi) ∧ wr.drew.cell? ⟨bl, o + j * 8 + 7, none⟩ = some (.slice pa pl pc) ∧ wr.drew.cell? ⟨bl', o' + j * 8, none⟩ = some (.int .i64 qk) ∧ wr.drew.cell? ⟨bl', o' + j * 8 + 1, none⟩ = some (.bool qb) ∧ wr.drew.cell? ⟨bl', o' + j * 8 + 2, none⟩ = some (.int .i64 qm) ∧ wr.drew.cell? ⟨bl', o' + j * 8 + 3, none⟩ = some (.int .i64 qs) ∧ wr.drew.cell? ⟨bl', o' + j * 8 + 4, none⟩ = some (.string qt) ∧ wr.drew.cell? ⟨bl', o' + j * 8 + 5, none⟩ = some (.bool qlo) ∧ wr.drew.cell? ⟨bl', o' + j * 8 + 6, none⟩ = some (.bool qhi) ∧ wr.drew.cell? ⟨bl', o' + j * 8 + 7, none⟩ = some (.slice qa ql qc)) := ⟨(Below.refl _ _).drew, hb, hb', s1, s2, s3, s4, s5, s6, s7, s8, r1, r2, r3, r4, r5, r6, r7, r8⟩
      have SK : Hid (∀ x w', (Below wr.heap.size wr x ∧ x.cell? ⟨B, 7, none⟩ = some (.slice (some ⟨bl, o, none⟩) len cap) ∧ x.cell? ⟨B + 1, 7, none⟩ = some (.slice (some ⟨bl', o', none⟩) len cap') ∧ x.cell? ⟨bl, o + j * 8, none⟩ = some (.int .i64 pk) ∧ x.cell? ⟨bl, o + j * 8 + 1, none⟩ = some (.bool pb) ∧ x.cell? ⟨bl, o + j * 8 + 2, none⟩ = some (.int .i64 pm) ∧ x.cell? ⟨bl, o + j * 8 + 3, none⟩ = some (.int .i64 ps) ∧ x.cell? ⟨bl, o + j * 8 + 4, none⟩ = some (.string pt) ∧ x.cell? ⟨bl, o + j * 8 + 5, none⟩ = some (.bool plo) ∧ x.cell? ⟨bl, o + j * 8 + 6, none⟩ = some (.bool phi) ∧ x.cell? ⟨bl, o + j * 8 + 7, none⟩ = some (.slice pa pl pc) ∧ x.cell? ⟨bl', o' + j * 8, none⟩ = some (.int .i64 qk) ∧ x.cell? ⟨bl', o' + j * 8 + 1, none⟩ = some (.bool qb) ∧ x.cell? ⟨bl', o' + j * 8 + 2, none⟩ = some (.int .i64 qm) ∧ x.cell? ⟨bl', o' + j * 8 + 3, none⟩ = some (.int .i64 qs) ∧ x.cell? ⟨bl', o' + j * 8 + 4, none⟩ = some (.string qt) ∧ x.cell? ⟨bl', o' + j * 8 + 5, none⟩ = some (.bool qlo) ∧ x.cell? ⟨bl', o' + j * 8 + 6, none⟩ = some (.bool qhi) ∧ x.cell? ⟨bl', o' + j * 8 + 7, none⟩ = some (.slice qa ql qc)) → Below x.heap.size x w' → (Below wr.heap.size wr w' ∧ w'.cell? ⟨B, 7, none⟩ = some (.slice (some ⟨bl, o, none⟩) len cap) ∧ w'.cell? ⟨B + 1, 7, none⟩ = some (.slice (some ⟨bl', o', none⟩) len cap') ∧ w'.cell? ⟨bl, o + j * 8, none⟩ = some (.int .i64 pk) ∧ w'.cell? ⟨bl, o + j * 8 + 1, none⟩ = some (.bool pb) ∧ w'.cell? ⟨bl, o + j * 8 + 2, none⟩ = some (.int .i64 pm) ∧ w'.cell? ⟨bl, o + j * 8 + 3, none⟩ = some (.int .i64 ps) ∧ w'.cell? ⟨bl, o + j * 8 + 4, none⟩ = some (.string pt) ∧ w'.cell? ⟨bl, o + j * 8 + 5, none⟩ = some (.bool plo) ∧ w'.cell? ⟨bl, o + j * 8 + 6, none⟩ = some (.bool phi) ∧ w'.cell? ⟨bl, o + j * 8 + 7, none⟩ = some (.slice pa pl pc) ∧ w'.cell? ⟨bl', o' + j * 8, none⟩ = some (.int .i64 qk) ∧ w'.cell? ⟨bl', o' + j * 8 + 1, none⟩ = some (.bool qb) ∧ w'.cell? ⟨bl', o' + j * 8 + 2, none⟩ = some (.int .i64 qm) ∧ w'.cell? ⟨bl', o' + j * 8 + 3, none⟩ = some (.int .i64 qs) ∧ w'.cell? ⟨bl', o' + j * 8 + 4, none⟩ = some (.string qt) ∧ w'.cell? ⟨bl', o' + j * 8 + 5, none⟩ = some (.bool qlo) ∧ w'.cell? ⟨bl', o' + j * 8 + 6, none⟩ = some (.bool qhi) ∧ w'.cell? ⟨bl', o' + j * 8 + 7, none⟩ = some (.slice qa ql qc))) := by
        rintro x w' ⟨h0, h1, h2, h3, h4, h5, h6, h7, h8, h9, h10, h11, h12, h13, h14, h15, h16, h17, h18⟩ kk
        have z0 := h0.size
        exact ⟨bstep h0 kk, kcell kk (by omega) h1, kcell kk (by omega) h2, kcell kk (by omega) h3, kcell kk (by omega) h4, kcell kk (by omega) h5, kcell kk (by omega) h6, kcell kk (by omega) h7, kcell kk (by omega) h8, kcell kk (by omega) h9, kcell kk (by omega) h10, kcell kk (by omega) h11, kcell kk (by omega) h12, kcell kk (by omega) h13, kcell kk (by omega) h14, kcell kk (by omega) h15, kcell kk (by omega) h16, kcell kk (by omega) h17, kcell kk (by omega) h18⟩
      cases hok : (kid j).same (kid' j)
      · have FIN := hide (xall_range_no (n := len) (f := fun i => (kid i).same (kid' i)) hlt hok)
        rw [unhide HX, unhide HY] at hok
        have HOK := hide hok
        clear hok
        go_wp2_with fail
        go_region_held3 (fun w' => Below wr.heap.size wr w' ∧ w'.cell? ⟨B, 7, none⟩ = some (.slice (some ⟨bl, o, none⟩) len cap) ∧ w'.cell? ⟨B + 1, 7, none⟩ = some (.slice (some ⟨bl', o', none⟩) len cap') ∧ w'.cell? ⟨bl, o + j * 8, none⟩ = some (.int .i64 pk) ∧ w'.cell? ⟨bl, o + j * 8 + 1, none⟩ = some (.bool pb) ∧ w'.cell? ⟨bl, o + j * 8 + 2, none⟩ = some (.int .i64 pm) ∧ w'.cell? ⟨bl, o + j * 8 + 3, none⟩ = some (.int .i64 ps) ∧ w'.cell? ⟨bl, o + j * 8 + 4, none⟩ = some (.string pt) ∧ w'.cell? ⟨bl, o + j * 8 + 5, none⟩ = some (.bool plo) ∧ w'.cell? ⟨bl, o + j * 8 + 6, none⟩ = some (.bool phi) ∧ w'.cell? ⟨bl, o + j * 8 + 7, none⟩ = some (.slice pa pl pc) ∧ w'.cell? ⟨bl', o' + j * 8, none⟩ = some (.int .i64 qk) ∧ w'.cell? ⟨bl', o' + j * 8 + 1, none⟩ = some (.bool qb) ∧ w'.cell? ⟨bl', o' + j * 8 + 2, none⟩ = some (.int .i64 qm) ∧ w'.cell? ⟨bl', o' + j * 8 + 3, none⟩ = some (.int .i64 qs) ∧ w'.cell? ⟨bl', o' + j * 8 + 4, none⟩ = some (.string qt) ∧ w'.cell? ⟨bl', o' + j * 8 + 5, none⟩ = some (.bool qlo) ∧ w'.cell? ⟨bl', o' + j * 8 + 6, none⟩ = some (.bool qhi) ∧ w'.cell? ⟨bl', o' + j * 8 + 7, none⟩ = some (.slice qa ql qc))
          (first | exact unhide S0 | assumption | exact unhide SK _ _ (by assumption) k4)
          ((go_at_call 7; refine (unhide IH _ Q Q' ?_ ?_).mono ?_; exact (unhide HK).below (And.left (by assumption)); exact (unhide HK').below (And.left (by assumption)); rintro e w4 ⟨rfl, k4⟩; rw [unhide HOK]))
        all_goals
          go_wp2_with fail
          go_ret
          refine ⟨ret_bool (unhide FIN).symm, ?_⟩
          have b := unhide B0
          rw [← unhide HB] at b
          exact bstep b (bstep bel (And.left (by assumption)))
      · have HN := hide hok
        rw [unhide HX, unhide HY] at hok
        have HOK := hide hok
        clear hok
        go_wp2_with fail
        go_region_held3 (fun w' => Below wr.heap.size wr w' ∧ w'.cell? ⟨B, 7, none⟩ = some (.slice (some ⟨bl, o, none⟩) len cap) ∧ w'.cell? ⟨B + 1, 7, none⟩ = some (.slice (some ⟨bl', o', none⟩) len cap') ∧ w'.cell? ⟨bl, o + j * 8, none⟩ = some (.int .i64 pk) ∧ w'.cell? ⟨bl, o + j * 8 + 1, none⟩ = some (.bool pb) ∧ w'.cell? ⟨bl, o + j * 8 + 2, none⟩ = some (.int .i64 pm) ∧ w'.cell? ⟨bl, o + j * 8 + 3, none⟩ = some (.int .i64 ps) ∧ w'.cell? ⟨bl, o + j * 8 + 4, none⟩ = some (.string pt) ∧ w'.cell? ⟨bl, o + j * 8 + 5, none⟩ = some (.bool plo) ∧ w'.cell? ⟨bl, o + j * 8 + 6, none⟩ = some (.bool phi) ∧ w'.cell? ⟨bl, o + j * 8 + 7, none⟩ = some (.slice pa pl pc) ∧ w'.cell? ⟨bl', o' + j * 8, none⟩ = some (.int .i64 qk) ∧ w'.cell? ⟨bl', o' + j * 8 + 1, none⟩ = some (.bool qb) ∧ w'.cell? ⟨bl', o' + j * 8 + 2, none⟩ = some (.int .i64 qm) ∧ w'.cell? ⟨bl', o' + j * 8 + 3, none⟩ = some (.int .i64 qs) ∧ w'.cell? ⟨bl', o' + j * 8 + 4, none⟩ = some (.string qt) ∧ w'.cell? ⟨bl', o' + j * 8 + 5, none⟩ = some (.bool qlo) ∧ w'.cell? ⟨bl', o' + j * 8 + 6, none⟩ = some (.bool qhi) ∧ w'.cell? ⟨bl', o' + j * 8 + 7, none⟩ = some (.slice qa ql qc))
          (first | exact unhide S0 | assumption | exact unhide SK _ _ (by assumption) k4)
          ((go_at_call 7; refine (unhide IH _ Q Q' ?_ ?_).mono ?_; exact (unhide HK).below (And.left (by assumption)); exact (unhide HK').below (And.left (by assumption)); rintro e w4 ⟨rfl, k4⟩; rw [unhide HOK]))
        all_goals
          go_wp2_with fail
          go_roundw
          case rel =>
            refine ⟨j + 1, by omega, by go_num, hide (fun i hi => ?_), bstep bel (And.left (by assumption))⟩
            by_cases hij : i = j
            · subst hij; exact unhide HN
            · exact unhide HA i (by omega)
          case measure => simp [intOf]; omega
    · have FIN := hide (xall_range (n := len) (f := fun i => (kid i).same (kid' i)) (fun i hi => unhide HA i (by omega)))
      go_wp2_with fail
      go_ret
      refine ⟨ret_bool (unhide FIN).symm, ?_⟩
      have b := unhide B0
      rw [← unhide HB] at b
      exact bstep b bel
end Go.Proofs.YtdlfgnmcokdceabDoor

/- The document's Same, a Kind's way. (Printed by mkxsame.py.) -/
namespace Go.Proofs.YtdlfgnmcokdceabDoor
open Go.RowKit
set_option linter.unusedVariables false
attribute [local go_sem ↓] Go.wp_at_zero Go.wp_at_succ

set_option maxHeartbeats 4000000 in
theorem rsame_11 (b : Bool) (m s : Int) (t : ByteArray) (lo hi : Bool) (a : Option Addr) (len cap : Nat) (kid : Nat → XT) (b' : Bool) (m' s' : Int) (t' : ByteArray) (lo' hi' : Bool) (a' : Option Addr) (cap' : Nat) (kid' : Nat → XT) (Q Q' : Nat → Prop) (w : World) (ih : ∀ i, RSameOf (kid i)) (hlm : len ≤ 9223372036854775807) (hin : (XT.mk 11 b m s t lo hi a len cap kid).In Q w) (hin' : (XT.mk 11 b' m' s' t' lo hi a' len cap' kid').In Q' w) :
    Calls Tryd.prog 7 #[.agg #[.int .i64 11, .bool b, .int .i64 m, .int .i64 s, .string t, .bool lo, .bool hi, .slice a len cap], .agg #[.int .i64 11, .bool b', .int .i64 m', .int .i64 s', .string t', .bool lo, .bool hi, .slice a' len cap']] w fun e w' => e = .returned (.bool ((List.range len).all fun i => (kid i).same (kid' i))) ∧ Below w.heap.size w w' := by
  unfold RSameOf at ih
  go_enter Tryd.func7, Tryd.ntmps7
  go_wp2_with fail
  have b0 := below2 w (Obj.cells #[.int .i64 11, .bool b, .int .i64 m, .int .i64 s, .string t, .bool lo, .bool hi, .slice a len cap] 28) (Obj.cells #[.int .i64 11, .bool b', .int .i64 m', .int .i64 s', .string t', .bool lo, .bool hi, .slice a' len cap'] 28)
  have hin1 := hin.below b0
  have hin1' := hin'.below b0
  have hz : w.heap.size + 1 < ((w.alloc (Obj.cells #[.int .i64 11, .bool b, .int .i64 m, .int .i64 s, .string t, .bool lo, .bool hi, .slice a len cap] 28)).alloc (Obj.cells #[.int .i64 11, .bool b', .int .i64 m', .int .i64 s', .string t', .bool lo, .bool hi, .slice a' len cap'] 28)).heap.size := by simp
  have hbox : ((w.alloc (Obj.cells #[.int .i64 11, .bool b, .int .i64 m, .int .i64 s, .string t, .bool lo, .bool hi, .slice a len cap] 28)).alloc (Obj.cells #[.int .i64 11, .bool b', .int .i64 m', .int .i64 s', .string t', .bool lo, .bool hi, .slice a' len cap'] 28)).cell? ⟨w.heap.size, 7, none⟩ = some (.slice a len cap) := by go_simp
  have hbox' : ((w.alloc (Obj.cells #[.int .i64 11, .bool b, .int .i64 m, .int .i64 s, .string t, .bool lo, .bool hi, .slice a len cap] 28)).alloc (Obj.cells #[.int .i64 11, .bool b', .int .i64 m', .int .i64 s', .string t', .bool lo, .bool hi, .slice a' len cap'] 28)).cell? ⟨w.heap.size + 1, 7, none⟩ = some (.slice a' len cap') := by go_simp
  generalize hW : ((w.alloc (Obj.cells #[.int .i64 11, .bool b, .int .i64 m, .int .i64 s, .string t, .bool lo, .bool hi, .slice a len cap] 28)).alloc (Obj.cells #[.int .i64 11, .bool b', .int .i64 m', .int .i64 s', .string t', .bool lo, .bool hi, .slice a' len cap'] 28)) = W at *
  clear hW hin hin'
  have B0 := hide b0
  clear b0
  generalize hB : w.heap.size = B at *
  have HB := hide hB
  clear hB
  go_loopw [5] (fun i wr => ∃ (j : Nat), j ≤ len ∧ i = .int .i64 j ∧ Hid (∀ i, i < j → (kid i).same (kid' i) = true) ∧ Below W.heap.size W wr) (fun i _ => len - (intOf i).toNat)
  case atStart => exact ⟨0, Nat.zero_le _, rfl, hide (fun i hi => absurd hi (Nat.not_lt_zero _)), Below.refl _ _⟩
  case round =>
    obtain ⟨j, hj, rfl, HA, bel⟩ := hrel
    have zz := bel.size
    have hb := ((bcell bel).1 B 7 (by omega)).trans hbox
    have hb' := ((bcell bel).1 (B + 1) 7 (by omega)).trans hbox'
    by_cases hlt : j < len
    · obtain ⟨bl, o, pk, pb, pm, ps, pt, plo, phi, pa, pl, pc, pkid, rfl, hx, six, hk⟩ := hin1.kid hlt
      obtain ⟨bl', o', qk, qb, qm, qs, qt, qlo, qhi, qa, ql, qc, qkid, rfl, hy, six', hk'⟩ := hin1'.kid hlt
      have ihj := ih j (kid' j)
      rw [hx, hy] at ihj
      obtain ⟨s0, s1, s2, s3, s4, s5, s6, s7, s8⟩ := six.below bel
      obtain ⟨r0, r1, r2, r3, r4, r5, r6, r7, r8⟩ := six'.below bel
      have HK := hide (hk.below bel)
      have HK' := hide (hk'.below bel)
      have IH := hide ihj
      have HX := hide hx
      have HY := hide hy
      clear six six' hk hk' ih ihj hin1 hin1' hx hy
      have S0 : Hid (Below wr.heap.size wr wr.drew ∧ wr.drew.cell? ⟨B, 7, none⟩ = some (.slice (some ⟨bl, o, none⟩) len cap) ∧ wr.drew.cell? ⟨B + 1, 7, none⟩ = some (.slice (some ⟨bl', o', none⟩) len cap') ∧ wr.drew.cell? ⟨bl, o + j * 8, none⟩ = some (.int .i64 pk) ∧ wr.drew.cell? ⟨bl, o + j * 8 + 1, none⟩ = some (.bool pb) ∧ wr.drew.cell? ⟨bl, o + j * 8 + 2, none⟩ = some (.int .i64 pm) ∧ wr.drew.cell? ⟨bl, o + j * 8 + 3, none⟩ = some (.int .i64 ps) ∧ wr.drew.cell? ⟨bl, o + j * 8 + 4, none⟩ = some (.string pt) ∧ wr.drew.cell? ⟨bl, o + j * 8 + 5, none⟩ = some (.bool plo) ∧ wr.drew.cell? ⟨bl, o + j * 8 + 6, none⟩ = some (.bool phi) ∧ wr.drew.cell? ⟨bl, o + j * 8 + 7, none⟩ = some (.slice pa pl pc) ∧ wr.drew.cell? ⟨bl', o' + j * 8, none⟩ = some (.int .i64 qk) ∧ wr.drew.cell? ⟨bl', o' + j * 8 + 1, none⟩ = some (.bool qb) ∧ wr.drew.cell? ⟨bl', o' + j * 8 + 2, none⟩ = some (.int .i64 qm) ∧ wr.drew.cell? ⟨bl', o' + j * 8 + 3, none⟩ = some (.int .i64 qs) ∧ wr.drew.cell? ⟨bl', o' + j * 8 + 4, none⟩ = some (.string qt) ∧ wr.drew.cell? ⟨bl', o' + j * 8 + 5, none⟩ = some (.bool qlo) ∧ wr.drew.cell? ⟨bl', o' + j * 8 + 6, none⟩ = some (.bool qhi) ∧ wr.drew.cell? ⟨bl', o' + j * 8 + 7, none⟩ = some (.slice qa ql qc)) := ⟨(Below.refl _ _).drew, hb, hb', s1, s2, s3, s4, s5, s6, s7, s8, r1, r2, r3, r4, r5, r6, r7, r8⟩
      have SK : Hid (∀ x w', (Below wr.heap.size wr x ∧ x.cell? ⟨B, 7, none⟩ = some (.slice (some ⟨bl, o, none⟩) len cap) ∧ x.cell? ⟨B + 1, 7, none⟩ = some (.slice (some ⟨bl', o', none⟩) len cap') ∧ x.cell? ⟨bl, o + j * 8, none⟩ = some (.int .i64 pk) ∧ x.cell? ⟨bl, o + j * 8 + 1, none⟩ = some (.bool pb) ∧ x.cell? ⟨bl, o + j * 8 + 2, none⟩ = some (.int .i64 pm) ∧ x.cell? ⟨bl, o + j * 8 + 3, none⟩ = some (.int .i64 ps) ∧ x.cell? ⟨bl, o + j * 8 + 4, none⟩ = some (.string pt) ∧ x.cell? ⟨bl, o + j * 8 + 5, none⟩ = some (.bool plo) ∧ x.cell? ⟨bl, o + j * 8 + 6, none⟩ = some (.bool phi) ∧ x.cell? ⟨bl, o + j * 8 + 7, none⟩ = some (.slice pa pl pc) ∧ x.cell? ⟨bl', o' + j * 8, none⟩ = some (.int .i64 qk) ∧ x.cell? ⟨bl', o' + j * 8 + 1, none⟩ = some (.bool qb) ∧ x.cell? ⟨bl', o' + j * 8 + 2, none⟩ = some (.int .i64 qm) ∧ x.cell? ⟨bl', o' + j * 8 + 3, none⟩ = some (.int .i64 qs) ∧ x.cell? ⟨bl', o' + j * 8 + 4, none⟩ = some (.string qt) ∧ x.cell? ⟨bl', o' + j * 8 + 5, none⟩ = some (.bool qlo) ∧ x.cell? ⟨bl', o' + j * 8 + 6, none⟩ = some (.bool qhi) ∧ x.cell? ⟨bl', o' + j * 8 + 7, none⟩ = some (.slice qa ql qc)) → Below x.heap.size x w' → (Below wr.heap.size wr w' ∧ w'.cell? ⟨B, 7, none⟩ = some (.slice (some ⟨bl, o, none⟩) len cap) ∧ w'.cell? ⟨B + 1, 7, none⟩ = some (.slice (some ⟨bl', o', none⟩) len cap') ∧ w'.cell? ⟨bl, o + j * 8, none⟩ = some (.int .i64 pk) ∧ w'.cell? ⟨bl, o + j * 8 + 1, none⟩ = some (.bool pb) ∧ w'.cell? ⟨bl, o + j * 8 + 2, none⟩ = some (.int .i64 pm) ∧ w'.cell? ⟨bl, o + j * 8 + 3, none⟩ = some (.int .i64 ps) ∧ w'.cell? ⟨bl, o + j * 8 + 4, none⟩ = some (.string pt) ∧ w'.cell? ⟨bl, o + j * 8 + 5, none⟩ = some (.bool plo) ∧ w'.cell? ⟨bl, o + j * 8 + 6, none⟩ = some (.bool phi) ∧ w'.cell? ⟨bl, o + j * 8 + 7, none⟩ = some (.slice pa pl pc) ∧ w'.cell? ⟨bl', o' + j * 8, none⟩ = some (.int .i64 qk) ∧ w'.cell? ⟨bl', o' + j * 8 + 1, none⟩ = some (.bool qb) ∧ w'.cell? ⟨bl', o' + j * 8 + 2, none⟩ = some (.int .i64 qm) ∧ w'.cell? ⟨bl', o' + j * 8 + 3, none⟩ = some (.int .i64 qs) ∧ w'.cell? ⟨bl', o' + j * 8 + 4, none⟩ = some (.string qt) ∧ w'.cell? ⟨bl', o' + j * 8 + 5, none⟩ = some (.bool qlo) ∧ w'.cell? ⟨bl', o' + j * 8 + 6, none⟩ = some (.bool qhi) ∧ w'.cell? ⟨bl', o' + j * 8 + 7, none⟩ = some (.slice qa ql qc))) := by
        rintro x w' ⟨h0, h1, h2, h3, h4, h5, h6, h7, h8, h9, h10, h11, h12, h13, h14, h15, h16, h17, h18⟩ kk
        have z0 := h0.size
        exact ⟨bstep h0 kk, kcell kk (by omega) h1, kcell kk (by omega) h2, kcell kk (by omega) h3, kcell kk (by omega) h4, kcell kk (by omega) h5, kcell kk (by omega) h6, kcell kk (by omega) h7, kcell kk (by omega) h8, kcell kk (by omega) h9, kcell kk (by omega) h10, kcell kk (by omega) h11, kcell kk (by omega) h12, kcell kk (by omega) h13, kcell kk (by omega) h14, kcell kk (by omega) h15, kcell kk (by omega) h16, kcell kk (by omega) h17, kcell kk (by omega) h18⟩
      cases hok : (kid j).same (kid' j)
      · have FIN := hide (xall_range_no (n := len) (f := fun i => (kid i).same (kid' i)) hlt hok)
        rw [unhide HX, unhide HY] at hok
        have HOK := hide hok
        clear hok
        go_wp2_with fail
        go_region_held3 (fun w' => Below wr.heap.size wr w' ∧ w'.cell? ⟨B, 7, none⟩ = some (.slice (some ⟨bl, o, none⟩) len cap) ∧ w'.cell? ⟨B + 1, 7, none⟩ = some (.slice (some ⟨bl', o', none⟩) len cap') ∧ w'.cell? ⟨bl, o + j * 8, none⟩ = some (.int .i64 pk) ∧ w'.cell? ⟨bl, o + j * 8 + 1, none⟩ = some (.bool pb) ∧ w'.cell? ⟨bl, o + j * 8 + 2, none⟩ = some (.int .i64 pm) ∧ w'.cell? ⟨bl, o + j * 8 + 3, none⟩ = some (.int .i64 ps) ∧ w'.cell? ⟨bl, o + j * 8 + 4, none⟩ = some (.string pt) ∧ w'.cell? ⟨bl, o + j * 8 + 5, none⟩ = some (.bool plo) ∧ w'.cell? ⟨bl, o + j * 8 + 6, none⟩ = some (.bool phi) ∧ w'.cell? ⟨bl, o + j * 8 + 7, none⟩ = some (.slice pa pl pc) ∧ w'.cell? ⟨bl', o' + j * 8, none⟩ = some (.int .i64 qk) ∧ w'.cell? ⟨bl', o' + j * 8 + 1, none⟩ = some (.bool qb) ∧ w'.cell? ⟨bl', o' + j * 8 + 2, none⟩ = some (.int .i64 qm) ∧ w'.cell? ⟨bl', o' + j * 8 + 3, none⟩ = some (.int .i64 qs) ∧ w'.cell? ⟨bl', o' + j * 8 + 4, none⟩ = some (.string qt) ∧ w'.cell? ⟨bl', o' + j * 8 + 5, none⟩ = some (.bool qlo) ∧ w'.cell? ⟨bl', o' + j * 8 + 6, none⟩ = some (.bool qhi) ∧ w'.cell? ⟨bl', o' + j * 8 + 7, none⟩ = some (.slice qa ql qc))
          (first | exact unhide S0 | assumption | exact unhide SK _ _ (by assumption) k4)
          ((go_at_call 7; refine (unhide IH _ Q Q' ?_ ?_).mono ?_; exact (unhide HK).below (And.left (by assumption)); exact (unhide HK').below (And.left (by assumption)); rintro e w4 ⟨rfl, k4⟩; rw [unhide HOK]))
        all_goals
          go_wp2_with fail
          go_ret
          refine ⟨ret_bool (unhide FIN).symm, ?_⟩
          have b := unhide B0
          rw [← unhide HB] at b
          exact bstep b (bstep bel (And.left (by assumption)))
      · have HN := hide hok
        rw [unhide HX, unhide HY] at hok
        have HOK := hide hok
        clear hok
        go_wp2_with fail
        go_region_held3 (fun w' => Below wr.heap.size wr w' ∧ w'.cell? ⟨B, 7, none⟩ = some (.slice (some ⟨bl, o, none⟩) len cap) ∧ w'.cell? ⟨B + 1, 7, none⟩ = some (.slice (some ⟨bl', o', none⟩) len cap') ∧ w'.cell? ⟨bl, o + j * 8, none⟩ = some (.int .i64 pk) ∧ w'.cell? ⟨bl, o + j * 8 + 1, none⟩ = some (.bool pb) ∧ w'.cell? ⟨bl, o + j * 8 + 2, none⟩ = some (.int .i64 pm) ∧ w'.cell? ⟨bl, o + j * 8 + 3, none⟩ = some (.int .i64 ps) ∧ w'.cell? ⟨bl, o + j * 8 + 4, none⟩ = some (.string pt) ∧ w'.cell? ⟨bl, o + j * 8 + 5, none⟩ = some (.bool plo) ∧ w'.cell? ⟨bl, o + j * 8 + 6, none⟩ = some (.bool phi) ∧ w'.cell? ⟨bl, o + j * 8 + 7, none⟩ = some (.slice pa pl pc) ∧ w'.cell? ⟨bl', o' + j * 8, none⟩ = some (.int .i64 qk) ∧ w'.cell? ⟨bl', o' + j * 8 + 1, none⟩ = some (.bool qb) ∧ w'.cell? ⟨bl', o' + j * 8 + 2, none⟩ = some (.int .i64 qm) ∧ w'.cell? ⟨bl', o' + j * 8 + 3, none⟩ = some (.int .i64 qs) ∧ w'.cell? ⟨bl', o' + j * 8 + 4, none⟩ = some (.string qt) ∧ w'.cell? ⟨bl', o' + j * 8 + 5, none⟩ = some (.bool qlo) ∧ w'.cell? ⟨bl', o' + j * 8 + 6, none⟩ = some (.bool qhi) ∧ w'.cell? ⟨bl', o' + j * 8 + 7, none⟩ = some (.slice qa ql qc))
          (first | exact unhide S0 | assumption | exact unhide SK _ _ (by assumption) k4)
          ((go_at_call 7; refine (unhide IH _ Q Q' ?_ ?_).mono ?_; exact (unhide HK).below (And.left (by assumption)); exact (unhide HK').below (And.left (by assumption)); rintro e w4 ⟨rfl, k4⟩; rw [unhide HOK]))
        all_goals
          go_wp2_with fail
          go_roundw
          case rel =>
            refine ⟨j + 1, by omega, by go_num, hide (fun i hi => ?_), bstep bel (And.left (by assumption))⟩
            by_cases hij : i = j
            · subst hij; exact unhide HN
            · exact unhide HA i (by omega)
          case measure => simp [intOf]; omega
    · have FIN := hide (xall_range (n := len) (f := fun i => (kid i).same (kid' i)) (fun i hi => unhide HA i (by omega)))
      go_wp2_with fail
      go_ret
      refine ⟨ret_bool (unhide FIN).symm, ?_⟩
      have b := unhide B0
      rw [← unhide HB] at b
      exact bstep b bel
end Go.Proofs.YtdlfgnmcokdceabDoor

/- The document's Same, a Kind's way. (Printed by mkxsame.py.) -/
namespace Go.Proofs.YtdlfgnmcokdceabDoor
open Go.RowKit
set_option linter.unusedVariables false
attribute [local go_sem ↓] Go.wp_at_zero Go.wp_at_succ

set_option maxHeartbeats 4000000 in
theorem rsame_k (k : Int) (b : Bool) (m s : Int) (t : ByteArray) (lo hi : Bool) (a : Option Addr) (len cap : Nat) (kid : Nat → XT) (b' : Bool) (m' s' : Int) (t' : ByteArray) (lo' hi' : Bool) (a' : Option Addr) (cap' : Nat) (kid' : Nat → XT) (Q Q' : Nat → Prop) (w : World) (ih : ∀ i, RSameOf (kid i)) (hlm : len ≤ 9223372036854775807) (e2 : (k == 2) = false) (e3 : (k == 3) = false) (e4 : (k == 4) = false) (e5 : (k == 5) = false) (e6 : (k == 6) = false) (e10 : (k == 10) = false) (e11 : (k == 11) = false) (hin : (XT.mk k b m s t lo hi a len cap kid).In Q w) (hin' : (XT.mk k b' m' s' t' lo' hi' a' len cap' kid').In Q' w) :
    Calls Tryd.prog 7 #[.agg #[.int .i64 k, .bool b, .int .i64 m, .int .i64 s, .string t, .bool lo, .bool hi, .slice a len cap], .agg #[.int .i64 k, .bool b', .int .i64 m', .int .i64 s', .string t', .bool lo', .bool hi', .slice a' len cap']] w fun e w' => e = .returned (.bool ((List.range len).all fun i => (kid i).same (kid' i))) ∧ Below w.heap.size w w' := by
  unfold RSameOf at ih
  go_enter Tryd.func7, Tryd.ntmps7
  go_wp2_with fail
  have b0 := below2 w (Obj.cells #[.int .i64 k, .bool b, .int .i64 m, .int .i64 s, .string t, .bool lo, .bool hi, .slice a len cap] 28) (Obj.cells #[.int .i64 k, .bool b', .int .i64 m', .int .i64 s', .string t', .bool lo', .bool hi', .slice a' len cap'] 28)
  have hin1 := hin.below b0
  have hin1' := hin'.below b0
  have hz : w.heap.size + 1 < ((w.alloc (Obj.cells #[.int .i64 k, .bool b, .int .i64 m, .int .i64 s, .string t, .bool lo, .bool hi, .slice a len cap] 28)).alloc (Obj.cells #[.int .i64 k, .bool b', .int .i64 m', .int .i64 s', .string t', .bool lo', .bool hi', .slice a' len cap'] 28)).heap.size := by simp
  have hbox : ((w.alloc (Obj.cells #[.int .i64 k, .bool b, .int .i64 m, .int .i64 s, .string t, .bool lo, .bool hi, .slice a len cap] 28)).alloc (Obj.cells #[.int .i64 k, .bool b', .int .i64 m', .int .i64 s', .string t', .bool lo', .bool hi', .slice a' len cap'] 28)).cell? ⟨w.heap.size, 7, none⟩ = some (.slice a len cap) := by go_simp
  have hbox' : ((w.alloc (Obj.cells #[.int .i64 k, .bool b, .int .i64 m, .int .i64 s, .string t, .bool lo, .bool hi, .slice a len cap] 28)).alloc (Obj.cells #[.int .i64 k, .bool b', .int .i64 m', .int .i64 s', .string t', .bool lo', .bool hi', .slice a' len cap'] 28)).cell? ⟨w.heap.size + 1, 7, none⟩ = some (.slice a' len cap') := by go_simp
  generalize hW : ((w.alloc (Obj.cells #[.int .i64 k, .bool b, .int .i64 m, .int .i64 s, .string t, .bool lo, .bool hi, .slice a len cap] 28)).alloc (Obj.cells #[.int .i64 k, .bool b', .int .i64 m', .int .i64 s', .string t', .bool lo', .bool hi', .slice a' len cap'] 28)) = W at *
  clear hW hin hin'
  have B0 := hide b0
  clear b0
  generalize hB : w.heap.size = B at *
  have HB := hide hB
  clear hB
  go_loopw [5] (fun i wr => ∃ (j : Nat), j ≤ len ∧ i = .int .i64 j ∧ Hid (∀ i, i < j → (kid i).same (kid' i) = true) ∧ Below W.heap.size W wr) (fun i _ => len - (intOf i).toNat)
  case atStart => exact ⟨0, Nat.zero_le _, rfl, hide (fun i hi => absurd hi (Nat.not_lt_zero _)), Below.refl _ _⟩
  case round =>
    obtain ⟨j, hj, rfl, HA, bel⟩ := hrel
    have zz := bel.size
    have hb := ((bcell bel).1 B 7 (by omega)).trans hbox
    have hb' := ((bcell bel).1 (B + 1) 7 (by omega)).trans hbox'
    by_cases hlt : j < len
    · obtain ⟨bl, o, pk, pb, pm, ps, pt, plo, phi, pa, pl, pc, pkid, rfl, hx, six, hk⟩ := hin1.kid hlt
      obtain ⟨bl', o', qk, qb, qm, qs, qt, qlo, qhi, qa, ql, qc, qkid, rfl, hy, six', hk'⟩ := hin1'.kid hlt
      have ihj := ih j (kid' j)
      rw [hx, hy] at ihj
      obtain ⟨s0, s1, s2, s3, s4, s5, s6, s7, s8⟩ := six.below bel
      obtain ⟨r0, r1, r2, r3, r4, r5, r6, r7, r8⟩ := six'.below bel
      have HK := hide (hk.below bel)
      have HK' := hide (hk'.below bel)
      have IH := hide ihj
      have HX := hide hx
      have HY := hide hy
      clear six six' hk hk' ih ihj hin1 hin1' hx hy
      have S0 : Hid (Below wr.heap.size wr wr.drew ∧ wr.drew.cell? ⟨B, 7, none⟩ = some (.slice (some ⟨bl, o, none⟩) len cap) ∧ wr.drew.cell? ⟨B + 1, 7, none⟩ = some (.slice (some ⟨bl', o', none⟩) len cap') ∧ wr.drew.cell? ⟨bl, o + j * 8, none⟩ = some (.int .i64 pk) ∧ wr.drew.cell? ⟨bl, o + j * 8 + 1, none⟩ = some (.bool pb) ∧ wr.drew.cell? ⟨bl, o + j * 8 + 2, none⟩ = some (.int .i64 pm) ∧ wr.drew.cell? ⟨bl, o + j * 8 + 3, none⟩ = some (.int .i64 ps) ∧ wr.drew.cell? ⟨bl, o + j * 8 + 4, none⟩ = some (.string pt) ∧ wr.drew.cell? ⟨bl, o + j * 8 + 5, none⟩ = some (.bool plo) ∧ wr.drew.cell? ⟨bl, o + j * 8 + 6, none⟩ = some (.bool phi) ∧ wr.drew.cell? ⟨bl, o + j * 8 + 7, none⟩ = some (.slice pa pl pc) ∧ wr.drew.cell? ⟨bl', o' + j * 8, none⟩ = some (.int .i64 qk) ∧ wr.drew.cell? ⟨bl', o' + j * 8 + 1, none⟩ = some (.bool qb) ∧ wr.drew.cell? ⟨bl', o' + j * 8 + 2, none⟩ = some (.int .i64 qm) ∧ wr.drew.cell? ⟨bl', o' + j * 8 + 3, none⟩ = some (.int .i64 qs) ∧ wr.drew.cell? ⟨bl', o' + j * 8 + 4, none⟩ = some (.string qt) ∧ wr.drew.cell? ⟨bl', o' + j * 8 + 5, none⟩ = some (.bool qlo) ∧ wr.drew.cell? ⟨bl', o' + j * 8 + 6, none⟩ = some (.bool qhi) ∧ wr.drew.cell? ⟨bl', o' + j * 8 + 7, none⟩ = some (.slice qa ql qc)) := ⟨(Below.refl _ _).drew, hb, hb', s1, s2, s3, s4, s5, s6, s7, s8, r1, r2, r3, r4, r5, r6, r7, r8⟩
      have SK : Hid (∀ x w', (Below wr.heap.size wr x ∧ x.cell? ⟨B, 7, none⟩ = some (.slice (some ⟨bl, o, none⟩) len cap) ∧ x.cell? ⟨B + 1, 7, none⟩ = some (.slice (some ⟨bl', o', none⟩) len cap') ∧ x.cell? ⟨bl, o + j * 8, none⟩ = some (.int .i64 pk) ∧ x.cell? ⟨bl, o + j * 8 + 1, none⟩ = some (.bool pb) ∧ x.cell? ⟨bl, o + j * 8 + 2, none⟩ = some (.int .i64 pm) ∧ x.cell? ⟨bl, o + j * 8 + 3, none⟩ = some (.int .i64 ps) ∧ x.cell? ⟨bl, o + j * 8 + 4, none⟩ = some (.string pt) ∧ x.cell? ⟨bl, o + j * 8 + 5, none⟩ = some (.bool plo) ∧ x.cell? ⟨bl, o + j * 8 + 6, none⟩ = some (.bool phi) ∧ x.cell? ⟨bl, o + j * 8 + 7, none⟩ = some (.slice pa pl pc) ∧ x.cell? ⟨bl', o' + j * 8, none⟩ = some (.int .i64 qk) ∧ x.cell? ⟨bl', o' + j * 8 + 1, none⟩ = some (.bool qb) ∧ x.cell? ⟨bl', o' + j * 8 + 2, none⟩ = some (.int .i64 qm) ∧ x.cell? ⟨bl', o' + j * 8 + 3, none⟩ = some (.int .i64 qs) ∧ x.cell? ⟨bl', o' + j * 8 + 4, none⟩ = some (.string qt) ∧ x.cell? ⟨bl', o' + j * 8 + 5, none⟩ = some (.bool qlo) ∧ x.cell? ⟨bl', o' + j * 8 + 6, none⟩ = some (.bool qhi) ∧ x.cell? ⟨bl', o' + j * 8 + 7, none⟩ = some (.slice qa ql qc)) → Below x.heap.size x w' → (Below wr.heap.size wr w' ∧ w'.cell? ⟨B, 7, none⟩ = some (.slice (some ⟨bl, o, none⟩) len cap) ∧ w'.cell? ⟨B + 1, 7, none⟩ = some (.slice (some ⟨bl', o', none⟩) len cap') ∧ w'.cell? ⟨bl, o + j * 8, none⟩ = some (.int .i64 pk) ∧ w'.cell? ⟨bl, o + j * 8 + 1, none⟩ = some (.bool pb) ∧ w'.cell? ⟨bl, o + j * 8 + 2, none⟩ = some (.int .i64 pm) ∧ w'.cell? ⟨bl, o + j * 8 + 3, none⟩ = some (.int .i64 ps) ∧ w'.cell? ⟨bl, o + j * 8 + 4, none⟩ = some (.string pt) ∧ w'.cell? ⟨bl, o + j * 8 + 5, none⟩ = some (.bool plo) ∧ w'.cell? ⟨bl, o + j * 8 + 6, none⟩ = some (.bool phi) ∧ w'.cell? ⟨bl, o + j * 8 + 7, none⟩ = some (.slice pa pl pc) ∧ w'.cell? ⟨bl', o' + j * 8, none⟩ = some (.int .i64 qk) ∧ w'.cell? ⟨bl', o' + j * 8 + 1, none⟩ = some (.bool qb) ∧ w'.cell? ⟨bl', o' + j * 8 + 2, none⟩ = some (.int .i64 qm) ∧ w'.cell? ⟨bl', o' + j * 8 + 3, none⟩ = some (.int .i64 qs) ∧ w'.cell? ⟨bl', o' + j * 8 + 4, none⟩ = some (.string qt) ∧ w'.cell? ⟨bl', o' + j * 8 + 5, none⟩ = some (.bool qlo) ∧ w'.cell? ⟨bl', o' + j * 8 + 6, none⟩ = some (.bool qhi) ∧ w'.cell? ⟨bl', o' + j * 8 + 7, none⟩ = some (.slice qa ql qc))) := by
        rintro x w' ⟨h0, h1, h2, h3, h4, h5, h6, h7, h8, h9, h10, h11, h12, h13, h14, h15, h16, h17, h18⟩ kk
        have z0 := h0.size
        exact ⟨bstep h0 kk, kcell kk (by omega) h1, kcell kk (by omega) h2, kcell kk (by omega) h3, kcell kk (by omega) h4, kcell kk (by omega) h5, kcell kk (by omega) h6, kcell kk (by omega) h7, kcell kk (by omega) h8, kcell kk (by omega) h9, kcell kk (by omega) h10, kcell kk (by omega) h11, kcell kk (by omega) h12, kcell kk (by omega) h13, kcell kk (by omega) h14, kcell kk (by omega) h15, kcell kk (by omega) h16, kcell kk (by omega) h17, kcell kk (by omega) h18⟩
      cases hok : (kid j).same (kid' j)
      · have FIN := hide (xall_range_no (n := len) (f := fun i => (kid i).same (kid' i)) hlt hok)
        rw [unhide HX, unhide HY] at hok
        have HOK := hide hok
        clear hok
        go_wp2_with fail
        go_region_held3 (fun w' => Below wr.heap.size wr w' ∧ w'.cell? ⟨B, 7, none⟩ = some (.slice (some ⟨bl, o, none⟩) len cap) ∧ w'.cell? ⟨B + 1, 7, none⟩ = some (.slice (some ⟨bl', o', none⟩) len cap') ∧ w'.cell? ⟨bl, o + j * 8, none⟩ = some (.int .i64 pk) ∧ w'.cell? ⟨bl, o + j * 8 + 1, none⟩ = some (.bool pb) ∧ w'.cell? ⟨bl, o + j * 8 + 2, none⟩ = some (.int .i64 pm) ∧ w'.cell? ⟨bl, o + j * 8 + 3, none⟩ = some (.int .i64 ps) ∧ w'.cell? ⟨bl, o + j * 8 + 4, none⟩ = some (.string pt) ∧ w'.cell? ⟨bl, o + j * 8 + 5, none⟩ = some (.bool plo) ∧ w'.cell? ⟨bl, o + j * 8 + 6, none⟩ = some (.bool phi) ∧ w'.cell? ⟨bl, o + j * 8 + 7, none⟩ = some (.slice pa pl pc) ∧ w'.cell? ⟨bl', o' + j * 8, none⟩ = some (.int .i64 qk) ∧ w'.cell? ⟨bl', o' + j * 8 + 1, none⟩ = some (.bool qb) ∧ w'.cell? ⟨bl', o' + j * 8 + 2, none⟩ = some (.int .i64 qm) ∧ w'.cell? ⟨bl', o' + j * 8 + 3, none⟩ = some (.int .i64 qs) ∧ w'.cell? ⟨bl', o' + j * 8 + 4, none⟩ = some (.string qt) ∧ w'.cell? ⟨bl', o' + j * 8 + 5, none⟩ = some (.bool qlo) ∧ w'.cell? ⟨bl', o' + j * 8 + 6, none⟩ = some (.bool qhi) ∧ w'.cell? ⟨bl', o' + j * 8 + 7, none⟩ = some (.slice qa ql qc))
          (first | exact unhide S0 | assumption | exact unhide SK _ _ (by assumption) k4)
          ((go_at_call 7; refine (unhide IH _ Q Q' ?_ ?_).mono ?_; exact (unhide HK).below (And.left (by assumption)); exact (unhide HK').below (And.left (by assumption)); rintro e w4 ⟨rfl, k4⟩; rw [unhide HOK]))
        all_goals
          go_wp2_with fail
          go_ret
          refine ⟨ret_bool (unhide FIN).symm, ?_⟩
          have b := unhide B0
          rw [← unhide HB] at b
          exact bstep b (bstep bel (And.left (by assumption)))
      · have HN := hide hok
        rw [unhide HX, unhide HY] at hok
        have HOK := hide hok
        clear hok
        go_wp2_with fail
        go_region_held3 (fun w' => Below wr.heap.size wr w' ∧ w'.cell? ⟨B, 7, none⟩ = some (.slice (some ⟨bl, o, none⟩) len cap) ∧ w'.cell? ⟨B + 1, 7, none⟩ = some (.slice (some ⟨bl', o', none⟩) len cap') ∧ w'.cell? ⟨bl, o + j * 8, none⟩ = some (.int .i64 pk) ∧ w'.cell? ⟨bl, o + j * 8 + 1, none⟩ = some (.bool pb) ∧ w'.cell? ⟨bl, o + j * 8 + 2, none⟩ = some (.int .i64 pm) ∧ w'.cell? ⟨bl, o + j * 8 + 3, none⟩ = some (.int .i64 ps) ∧ w'.cell? ⟨bl, o + j * 8 + 4, none⟩ = some (.string pt) ∧ w'.cell? ⟨bl, o + j * 8 + 5, none⟩ = some (.bool plo) ∧ w'.cell? ⟨bl, o + j * 8 + 6, none⟩ = some (.bool phi) ∧ w'.cell? ⟨bl, o + j * 8 + 7, none⟩ = some (.slice pa pl pc) ∧ w'.cell? ⟨bl', o' + j * 8, none⟩ = some (.int .i64 qk) ∧ w'.cell? ⟨bl', o' + j * 8 + 1, none⟩ = some (.bool qb) ∧ w'.cell? ⟨bl', o' + j * 8 + 2, none⟩ = some (.int .i64 qm) ∧ w'.cell? ⟨bl', o' + j * 8 + 3, none⟩ = some (.int .i64 qs) ∧ w'.cell? ⟨bl', o' + j * 8 + 4, none⟩ = some (.string qt) ∧ w'.cell? ⟨bl', o' + j * 8 + 5, none⟩ = some (.bool qlo) ∧ w'.cell? ⟨bl', o' + j * 8 + 6, none⟩ = some (.bool qhi) ∧ w'.cell? ⟨bl', o' + j * 8 + 7, none⟩ = some (.slice qa ql qc))
          (first | exact unhide S0 | assumption | exact unhide SK _ _ (by assumption) k4)
          ((go_at_call 7; refine (unhide IH _ Q Q' ?_ ?_).mono ?_; exact (unhide HK).below (And.left (by assumption)); exact (unhide HK').below (And.left (by assumption)); rintro e w4 ⟨rfl, k4⟩; rw [unhide HOK]))
        all_goals
          go_wp2_with fail
          go_roundw
          case rel =>
            refine ⟨j + 1, by omega, by go_num, hide (fun i hi => ?_), bstep bel (And.left (by assumption))⟩
            by_cases hij : i = j
            · subst hij; exact unhide HN
            · exact unhide HA i (by omega)
          case measure => simp [intOf]; omega
    · have FIN := hide (xall_range (n := len) (f := fun i => (kid i).same (kid' i)) (fun i hi => unhide HA i (by omega)))
      go_wp2_with fail
      go_ret
      refine ⟨ret_bool (unhide FIN).symm, ?_⟩
      have b := unhide B0
      rw [← unhide HB] at b
      exact bstep b bel
end Go.Proofs.YtdlfgnmcokdceabDoor

/- The contract of the document's Same of expressions. -/
namespace Go.Proofs.YtdlfgnmcokdceabDoor
open Go.RowKit
set_option linter.unusedVariables false

theorem same_kind {k k' : Int} (h : ¬ k = k') (b : Bool) (m s : Int) (t : ByteArray) (lo hi : Bool) (a : Option Addr) (len cap : Nat) (kid : Nat → XT) (b' : Bool) (m' s' : Int) (t' : ByteArray) (lo' hi' : Bool) (a' : Option Addr) (len' cap' : Nat) (kid' : Nat → XT) : (XT.mk k b m s t lo hi a len cap kid).same (XT.mk k' b' m' s' t' lo' hi' a' len' cap' kid') = false := by
  unfold XT.same; simp [h]
theorem same_len {k k' : Int} {len len' : Nat} (h : ¬ len = len') (b : Bool) (m s : Int) (t : ByteArray) (lo hi : Bool) (a : Option Addr) (cap : Nat) (kid : Nat → XT) (b' : Bool) (m' s' : Int) (t' : ByteArray) (lo' hi' : Bool) (a' : Option Addr) (cap' : Nat) (kid' : Nat → XT) : (XT.mk k b m s t lo hi a len cap kid).same (XT.mk k' b' m' s' t' lo' hi' a' len' cap' kid') = false := by
  unfold XT.same; simp [h]
theorem same_fld {k : Int} {len : Nat} (b : Bool) (m s : Int) (t : ByteArray) (lo hi : Bool) (a : Option Addr) (cap : Nat) (kid : Nat → XT) (b' : Bool) (m' s' : Int) (t' : ByteArray) (lo' hi' : Bool) (a' : Option Addr) (cap' : Nat) (kid' : Nat → XT) : (XT.mk k b m s t lo hi a len cap kid).same (XT.mk k b' m' s' t' lo' hi' a' len cap' kid') = (XT.fld k b b' m m' s s' t t' lo lo' hi hi' && (List.range len).all fun i => (kid i).same (kid' i)) := by
  rw [XT.same]; simp

set_option maxHeartbeats 4000000 in
theorem rsame_any (x : XT) : RSameOf x := by
  induction x with
  | none => intro y w Q Q' h; exact absurd h (by simp [XT.In])
  | mk k b m s t lo hi a len cap kid ih =>
    intro y w Q Q' hin hin'
    cases y with
    | none => exact absurd hin' (by simp [XT.In])
    | mk k' b' m' s' t' lo' hi' a' len' cap' kid' =>
      have hlm : len ≤ 9223372036854775807 := by have := hin.1; unfold maxLen at this; omega
      show Calls Tryd.prog 7 #[.agg #[.int .i64 k, .bool b, .int .i64 m, .int .i64 s, .string t, .bool lo, .bool hi, .slice a len cap], .agg #[.int .i64 k', .bool b', .int .i64 m', .int .i64 s', .string t', .bool lo', .bool hi', .slice a' len' cap']] w _
      by_cases hk : k = k'
      · subst hk
        by_cases hl : len = len'
        · subst hl
          rw [same_fld]
          by_cases k2 : k = 2
          · subst k2
            by_cases hb : b = b'
            · subst hb
              rw [show XT.fld 2 b b m m' s s' t t' lo lo' hi hi' = true by simp [XT.fld], Bool.true_and]
              exact rsame_2 b m s t lo hi a len cap kid b m' s' t' lo' hi' a' cap' kid' Q Q' w ih hlm hin hin'
            · rw [show XT.fld 2 b b' m m' s s' t t' lo lo' hi hi' = false by simp [XT.fld, hb], Bool.false_and]
              have e1 : (b == b') = false := by simpa using hb
              clear hb
              clear ih hin hin'
              go_enter Tryd.func7, Tryd.ntmps7
              go_wp2_with fail
              go_ret
              exact ⟨rfl, below2 _ _ _⟩
          by_cases k3 : k = 3
          · subst k3
            by_cases hd : m = m' ∧ s = s'
            · obtain ⟨rfl, rfl⟩ := hd
              rw [show XT.fld 3 b b' m m s s t t' lo lo' hi hi' = true by simp [XT.fld], Bool.true_and]
              exact rsame_3 b m s t lo hi a len cap kid b' m s t' lo' hi' a' cap' kid' Q Q' w ih hlm hin hin'
            · rw [show XT.fld 3 b b' m m' s s' t t' lo lo' hi hi' = false by simp [XT.fld]; intro h1 h2; exact hd ⟨h1, h2⟩, Bool.false_and]
              clear ih hin hin'
              by_cases hm : m = m'
              · have hs : ¬ s = s' := fun h => hd ⟨hm, h⟩
                clear hd
                go_enter Tryd.func7, Tryd.ntmps7
                go_wp2_with fail
                go_ret
                exact ⟨rfl, below2 _ _ _⟩
              · clear hd
                go_enter Tryd.func7, Tryd.ntmps7
                go_wp2_with fail
                go_ret
                exact ⟨rfl, below2 _ _ _⟩
          by_cases k4 : k = 4
          · subst k4
            by_cases ht : t.toList = t'.toList
            · obtain rfl : t = t' := tl_ext (by rw [ByteArray.toList_eq, ByteArray.toList_eq] at ht; exact ht)
              rw [show XT.fld 4 b b' m m' s s' t t lo lo' hi hi' = true by simp [XT.fld], Bool.true_and]
              exact rsame_4 b m s t lo hi a len cap kid b' m' s' t lo' hi' a' cap' kid' Q Q' w ih hlm hin hin'
            · have ht' : ¬ XT.tl t = XT.tl t' := by rw [ByteArray.toList_eq, ByteArray.toList_eq] at ht; exact ht
              rw [show XT.fld 4 b b' m m' s s' t t' lo lo' hi hi' = false by simp [XT.fld, ht'], Bool.false_and]
              have e1 : (t.toList == t'.toList) = false := by simpa using ht
              clear ih hin hin' ht' ht
              go_enter Tryd.func7, Tryd.ntmps7
              go_wp2_with fail
              go_ret
              exact ⟨rfl, below2 _ _ _⟩
          by_cases k5 : k = 5
          · subst k5
            by_cases ht : t.toList = t'.toList
            · obtain rfl : t = t' := tl_ext (by rw [ByteArray.toList_eq, ByteArray.toList_eq] at ht; exact ht)
              rw [show XT.fld 5 b b' m m' s s' t t lo lo' hi hi' = true by simp [XT.fld], Bool.true_and]
              exact rsame_5 b m s t lo hi a len cap kid b' m' s' t lo' hi' a' cap' kid' Q Q' w ih hlm hin hin'
            · have ht' : ¬ XT.tl t = XT.tl t' := by rw [ByteArray.toList_eq, ByteArray.toList_eq] at ht; exact ht
              rw [show XT.fld 5 b b' m m' s s' t t' lo lo' hi hi' = false by simp [XT.fld, ht'], Bool.false_and]
              have e1 : (t.toList == t'.toList) = false := by simpa using ht
              clear ih hin hin' ht' ht
              go_enter Tryd.func7, Tryd.ntmps7
              go_wp2_with fail
              go_ret
              exact ⟨rfl, below2 _ _ _⟩
          by_cases k6 : k = 6
          · subst k6
            by_cases ht : t.toList = t'.toList
            · obtain rfl : t = t' := tl_ext (by rw [ByteArray.toList_eq, ByteArray.toList_eq] at ht; exact ht)
              rw [show XT.fld 6 b b' m m' s s' t t lo lo' hi hi' = true by simp [XT.fld], Bool.true_and]
              exact rsame_6 b m s t lo hi a len cap kid b' m' s' t lo' hi' a' cap' kid' Q Q' w ih hlm hin hin'
            · have ht' : ¬ XT.tl t = XT.tl t' := by rw [ByteArray.toList_eq, ByteArray.toList_eq] at ht; exact ht
              rw [show XT.fld 6 b b' m m' s s' t t' lo lo' hi hi' = false by simp [XT.fld, ht'], Bool.false_and]
              have e1 : (t.toList == t'.toList) = false := by simpa using ht
              clear ih hin hin' ht' ht
              go_enter Tryd.func7, Tryd.ntmps7
              go_wp2_with fail
              go_ret
              exact ⟨rfl, below2 _ _ _⟩
          by_cases k10 : k = 10
          · subst k10
            by_cases ht : t.toList = t'.toList
            · obtain rfl : t = t' := tl_ext (by rw [ByteArray.toList_eq, ByteArray.toList_eq] at ht; exact ht)
              rw [show XT.fld 10 b b' m m' s s' t t lo lo' hi hi' = true by simp [XT.fld], Bool.true_and]
              exact rsame_10 b m s t lo hi a len cap kid b' m' s' t lo' hi' a' cap' kid' Q Q' w ih hlm hin hin'
            · have ht' : ¬ XT.tl t = XT.tl t' := by rw [ByteArray.toList_eq, ByteArray.toList_eq] at ht; exact ht
              rw [show XT.fld 10 b b' m m' s s' t t' lo lo' hi hi' = false by simp [XT.fld, ht'], Bool.false_and]
              have e1 : (t.toList == t'.toList) = false := by simpa using ht
              clear ih hin hin' ht' ht
              go_enter Tryd.func7, Tryd.ntmps7
              go_wp2_with fail
              go_ret
              exact ⟨rfl, below2 _ _ _⟩
          by_cases k11 : k = 11
          · subst k11
            by_cases h1 : lo = lo'
            · subst h1
              by_cases h2 : hi = hi'
              · subst h2
                rw [show XT.fld 11 b b' m m' s s' t t' lo lo hi hi = true by simp [XT.fld], Bool.true_and]
                exact rsame_11 b m s t lo hi a len cap kid b' m' s' t' lo hi a' cap' kid' Q Q' w ih hlm hin hin'
              · rw [show XT.fld 11 b b' m m' s s' t t' lo lo hi hi' = false by simp [XT.fld, h2], Bool.false_and]
                have e2 : (hi == hi') = false := by simpa using h2
                clear h2
                clear ih hin hin'
                go_enter Tryd.func7, Tryd.ntmps7
                go_wp2_with fail
                go_ret
                exact ⟨rfl, below2 _ _ _⟩
            · rw [show XT.fld 11 b b' m m' s s' t t' lo lo' hi hi' = false by simp [XT.fld, h1], Bool.false_and]
              have e1 : (lo == lo') = false := by simpa using h1
              clear h1
              clear ih hin hin'
              go_enter Tryd.func7, Tryd.ntmps7
              go_wp2_with fail
              go_ret
              exact ⟨rfl, below2 _ _ _⟩
          rw [show XT.fld k b b' m m' s s' t t' lo lo' hi hi' = true by simp [XT.fld, k2, k3, k4, k5, k6, k10, k11], Bool.true_and]
          exact rsame_k k b m s t lo hi a len cap kid b' m' s' t' lo' hi' a' cap' kid' Q Q' w ih hlm (by simpa using k2) (by simpa using k3) (by simpa using k4) (by simpa using k5) (by simpa using k6) (by simpa using k10) (by simpa using k11) hin hin'
        · rw [same_len hl]
          have e1 : ((len : Int) != len') = true := by simp; omega
          clear ih hin hin' hl
          go_enter Tryd.func7, Tryd.ntmps7
          go_wp2_with fail
          go_ret
          exact ⟨rfl, below2 _ _ _⟩
      · rw [same_kind hk]
        have e1 : (k != k') = true := by simpa using hk
        clear ih hin hin' hk
        go_enter Tryd.func7, Tryd.ntmps7
        go_wp2_with fail
        go_ret
        exact ⟨rfl, below2 _ _ _⟩
end Go.Proofs.YtdlfgnmcokdceabDoor
