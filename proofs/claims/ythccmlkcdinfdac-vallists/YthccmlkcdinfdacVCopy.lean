/- The contracts of val's again and Copy: it, in new memory. -/
import Derived.Test.YthccmlkcdinfdacVRow
import Derived.Test.YthccmlkcdinfdacVLogMath
import Derived.Test.YthccmlkcdinfdacVSame
import Derived.Test.YthccmlkcdinfdacVIs
import Derived.Test.YthccmlkcdinfdacVOrd
import Derived.Test.YthccmlkcdinfdacRegMan
import Derived.Deep.DrawnRows
namespace Go.Proofs.Ythccmlkcdinfdac
open Go.RowKit
attribute [local go_sem ↓] Go.wp_at_zero Go.wp_at_succ

theorem infoVal : (Try.prog.info? 26).map (fun i => (i.zero, i.size, i.bytes)) = some (some (.agg #[.int .i64 0, .bool false, .int .i64 0, .int .i64 0, .string ⟨#[]⟩, .slice none 0 0]), 6, 72) := by kernel_rfl

theorem make_val (n : Nat) (hn : n ≤ 8) (w : World) :
    (Instr.makeSlice 24 (.int .i64 (n : Int)) (.int .i64 (n : Int))).run Try.prog w = .ok (.slice (some ⟨w.heap.size, 0, none⟩) n n) (w.alloc (.cells (madeCells #[.int .i64 0, .bool false, .int .i64 0, .int .i64 0, .string ⟨#[]⟩, .slice none 0 0] (n * 6)) 26)) := by
  obtain ⟨i, hi, hzz⟩ := Option.map_eq_some_iff.1 infoVal
  simp only [Prod.mk.injEq] at hzz
  obtain ⟨hz, hs, hb⟩ := hzz
  have hr := run_make (P := Try.prog) w 24 26 i _ Try.underlying24 hi hz .i64 .i64 n n (by omega) (by omega) (by rw [hb]; omega) (by omega)
  simp only [Int.toNat_natCast, hs] at hr
  exact hr

/- the made row: its cells. -/
def zeroAt (q : Nat) : Value := (#[.int .i64 0, .bool false, .int .i64 0, .int .i64 0, .string ⟨#[]⟩, .slice none 0 0] : Array Value)[q % 6]!
theorem made_row (w : World) (n : Nat) (t : TypeId) : (w.alloc (.cells (madeCells #[.int .i64 0, .bool false, .int .i64 0, .int .i64 0, .string ⟨#[]⟩, .slice none 0 0] (n * 6)) t)).rowIs w.heap.size t (n * 6) zeroAt :=
  ⟨_, Deep.blk_alloc_new _ _, size_madeCells _ _, fun i hi => by simp [madeCells, hi, zeroAt]⟩

def CopyOf (x : VT) : Prop := ∀ (n : Nat) (w : World), x.okB n = true → x.In w →
    Calls Try.prog 28 #[x.val] w fun e w' => (∃ y : VT, e = .returned y.val ∧ y.In w' ∧ y.Fresh w.heap.size w' ∧ y.same x = true) ∧ Below w.heap.size w w'

set_option maxHeartbeats 4000000 in
theorem again_any (x : VT) : CopyOf x := by
  induction x with
  | none => intro n w h; exact absurd h (by simp [VT.okB])
  | mk k b m s t a len cap kid ih =>
    intro n w hok hin
    obtain ⟨wk, wm, ws, ht, hlc, hcm⟩ := hin.1
    show Calls Try.prog 28 #[.agg #[.int .i64 k, .bool b, .int .i64 m, .int .i64 s, .string t, .slice a len cap]] w _
    by_cases hl : len = 0
    · subst hl
      have Y : Hid (∀ w', (VT.mk k b m s t none 0 0 (fun _ => .none)).In w') := fun w' => ⟨⟨wk, wm, ws, ht, Nat.le_refl _, Nat.zero_le _⟩, fun i hi => absurd hi (Nat.not_lt_zero _)⟩
      clear ih wk wm ws ht hlc hcm hok hin
      go_enter Try.func28, Try.ntmps28
      go_wp2_with fail
      exact bodyPost_ret (v := .agg #[.int .i64 k, .bool b, .int .i64 m, .int .i64 s, .string t, .slice none 0 0]) (by simp [results, Try.results28, go_sem]) rfl ⟨⟨.mk k b m s t none 0 0 (fun _ => .none), rfl, unhide Y _, fun i hi => absurd hi (Nat.not_lt_zero _), by unfold VT.same; simp⟩, below3 _ _ _ _⟩
    · have hl8 : len ≤ 8 := by
        by_cases k4 : k = 4
        · subst k4; exact (okB_list hok).1
        · have := (alone_t (okB_kind hok).1).2.2.2 k4; omega
      have okk : ∀ i, i < len → (kid i).okB (n - 1) = true := by
        by_cases k4 : k = 4
        · subst k4; exact (okB_list hok).2
        · have := (alone_t (okB_kind hok).1).2.2.2 k4; omega
      have hmk := make_val len hl8
      have e0 : ((len : Int) == 0) = false := by simp; omega
      have WF := hide (And.intro wk (And.intro wm (And.intro ws ht)))
      clear wk wm ws ht hlc hcm hok
      go_enter Try.func28, Try.ntmps28
      go_wp2_with fail
      clear hmk
      have bW : Below w.heap.size w ((((w.alloc (Obj.cells #[.int .i64 k, .bool b, .int .i64 m, .int .i64 s, .string t, .slice a len cap] 26)).alloc (Obj.cells #[.int .i64 0, .bool false, .int .i64 0, .int .i64 0, .string ⟨#[]⟩, .slice none 0 0] 26)).alloc (Obj.cells #[.int .i64 k, .bool b, .int .i64 m, .int .i64 s, .string t, .slice (some ⟨w.heap.size + 1 + 1 + 1, 0, none⟩) len len] 26)).alloc (Obj.cells (madeCells #[.int .i64 0, .bool false, .int .i64 0, .int .i64 0, .string ⟨#[]⟩, .slice none 0 0] (len * 6)) 26)) := (below3 w _ _ _).alloc (by first | (simp; done) | (simp; omega)) _
      have o1 : Own ((((w.alloc (Obj.cells #[.int .i64 k, .bool b, .int .i64 m, .int .i64 s, .string t, .slice a len cap] 26)).alloc (Obj.cells #[.int .i64 0, .bool false, .int .i64 0, .int .i64 0, .string ⟨#[]⟩, .slice none 0 0] 26)).alloc (Obj.cells #[.int .i64 k, .bool b, .int .i64 m, .int .i64 s, .string t, .slice (some ⟨w.heap.size + 1 + 1 + 1, 0, none⟩) len len] 26)).alloc (Obj.cells (madeCells #[.int .i64 0, .bool false, .int .i64 0, .int .i64 0, .string ⟨#[]⟩, .slice none 0 0] (len * 6)) 26)) (w.heap.size + 1) := ⟨⟨by first | (simp; done) | (simp; omega), by go_simp, by go_simp, by go_simp, by go_simp, by go_simp, by go_simp⟩, by go_simp, by go_simp, by go_simp, by go_simp, by go_simp, by go_simp⟩
      have s2 : VT.Six ((((w.alloc (Obj.cells #[.int .i64 k, .bool b, .int .i64 m, .int .i64 s, .string t, .slice a len cap] 26)).alloc (Obj.cells #[.int .i64 0, .bool false, .int .i64 0, .int .i64 0, .string ⟨#[]⟩, .slice none 0 0] 26)).alloc (Obj.cells #[.int .i64 k, .bool b, .int .i64 m, .int .i64 s, .string t, .slice (some ⟨w.heap.size + 1 + 1 + 1, 0, none⟩) len len] 26)).alloc (Obj.cells (madeCells #[.int .i64 0, .bool false, .int .i64 0, .int .i64 0, .string ⟨#[]⟩, .slice none 0 0] (len * 6)) 26)) (w.heap.size + 1 + 1) 0 k b m s t (some ⟨w.heap.size + 1 + 1 + 1, 0, none⟩) len len := ⟨by simp, by go_simp, by go_simp, by go_simp, by go_simp, by go_simp, by go_simp⟩
      have row : ((((w.alloc (Obj.cells #[.int .i64 k, .bool b, .int .i64 m, .int .i64 s, .string t, .slice a len cap] 26)).alloc (Obj.cells #[.int .i64 0, .bool false, .int .i64 0, .int .i64 0, .string ⟨#[]⟩, .slice none 0 0] 26)).alloc (Obj.cells #[.int .i64 k, .bool b, .int .i64 m, .int .i64 s, .string t, .slice (some ⟨w.heap.size + 1 + 1 + 1, 0, none⟩) len len] 26)).alloc (Obj.cells (madeCells #[.int .i64 0, .bool false, .int .i64 0, .int .i64 0, .string ⟨#[]⟩, .slice none 0 0] (len * 6)) 26)).rowIs (w.heap.size + 1 + 1 + 1) 26 (len * 6) zeroAt := by
        have h := made_row (((w.alloc (Obj.cells #[.int .i64 k, .bool b, .int .i64 m, .int .i64 s, .string t, .slice a len cap] 26)).alloc (Obj.cells #[.int .i64 0, .bool false, .int .i64 0, .int .i64 0, .string ⟨#[]⟩, .slice none 0 0] 26)).alloc (Obj.cells #[.int .i64 k, .bool b, .int .i64 m, .int .i64 s, .string t, .slice (some ⟨w.heap.size + 1 + 1 + 1, 0, none⟩) len len] 26)) len 26
        simpa using h
      have zW : w.heap.size + 4 ≤ ((((w.alloc (Obj.cells #[.int .i64 k, .bool b, .int .i64 m, .int .i64 s, .string t, .slice a len cap] 26)).alloc (Obj.cells #[.int .i64 0, .bool false, .int .i64 0, .int .i64 0, .string ⟨#[]⟩, .slice none 0 0] 26)).alloc (Obj.cells #[.int .i64 k, .bool b, .int .i64 m, .int .i64 s, .string t, .slice (some ⟨w.heap.size + 1 + 1 + 1, 0, none⟩) len len] 26)).alloc (Obj.cells (madeCells #[.int .i64 0, .bool false, .int .i64 0, .int .i64 0, .string ⟨#[]⟩, .slice none 0 0] (len * 6)) 26)).heap.size := by simp
      generalize ((((w.alloc (Obj.cells #[.int .i64 k, .bool b, .int .i64 m, .int .i64 s, .string t, .slice a len cap] 26)).alloc (Obj.cells #[.int .i64 0, .bool false, .int .i64 0, .int .i64 0, .string ⟨#[]⟩, .slice none 0 0] 26)).alloc (Obj.cells #[.int .i64 k, .bool b, .int .i64 m, .int .i64 s, .string t, .slice (some ⟨w.heap.size + 1 + 1 + 1, 0, none⟩) len len] 26)).alloc (Obj.cells (madeCells #[.int .i64 0, .bool false, .int .i64 0, .int .i64 0, .string ⟨#[]⟩, .slice none 0 0] (len * 6)) 26)) = W at *
      have BW := hide bW
      have HIN := hide hin
      clear bW hin
      generalize hB : w.heap.size = B at *
      have HB := hide hB
      clear hB
      go_loopw [28] (fun i wr => ∃ (j : Nat) (F : Nat → Value) (y : Nat → VT), j ≤ len ∧ i = .int .i64 j ∧ Below B w wr ∧ Own wr (B + 1) ∧ VT.Six wr (B + 1 + 1) 0 k b m s t (some ⟨B + 1 + 1 + 1, 0, none⟩) len len ∧ wr.rowIs (B + 1 + 1 + 1) 26 (len * 6) F ∧ Hid (∀ i, i < j → (∀ q, q < 6 → (y i).cells[q]? = some (F (i * 6 + q))) ∧ (y i).In wr ∧ (y i).Fresh (B + 4) wr ∧ (y i).same (kid i) = true)) (fun i _ => len - (intOf i).toNat)
      case atStart => exact ⟨0, zeroAt, fun _ => .none, Nat.zero_le _, rfl, unhide BW, o1, s2, row, hide (fun i hi => absurd hi (Nat.not_lt_zero _))⟩
      case round =>
        clear o1 s2 row BW
        obtain ⟨j, F, y, hj, rfl, bel, o1, s2, row, HA⟩ := hrel
        have BEL : Below w.heap.size w wr := by rw [unhide HB]; exact bel
        by_cases hlt : j < len
        · obtain ⟨bl, o, kp, bp, mp, sp, tp, ap, lenp, capp, kidp, rfl, hx, six, hk⟩ := (unhide HIN).kid hlt
          obtain ⟨g0, g1, g2, g3, g4, g5, g6⟩ := six.below BEL
          have ihj := fun w => ih j (n - 1) w (okk j hlt)
          rw [hx] at ihj
          have IH := hide ihj
          have HX := hide hx
          have b1 := below1 wr (Obj.cells #[.int .i64 kp, .bool bp, .int .i64 mp, .int .i64 sp, .string tp, .slice ap lenp capp] 26)
          have HK := hide ((hk.below BEL).below b1)
          have o1' := o1.below b1
          have s2' := VT.Six.below s2 b1
          have row' := row_below row b1
          have HA' := hide (fun i hi => And.intro ((unhide HA i hi).2.1.below b1) (And.intro (VT.Fresh.below b1 _ (unhide HA i hi).2.1 (unhide HA i hi).2.2.1) (And.intro (unhide HA i hi).1 (unhide HA i hi).2.2.2)))
          have bel' : Hid (Below B w (wr.alloc (Obj.cells #[.int .i64 kp, .bool bp, .int .i64 mp, .int .i64 sp, .string tp, .slice ap lenp capp] 26))) := by
            have := bstep BEL b1
            rw [unhide HB] at this
            exact this
          clear ihj hx six hk BEL bel HA
          have zr : B + 4 ≤ wr.heap.size := by have := row.lt; omega
          go_wp2_with fail
          have v0 : (wr.alloc (Obj.cells #[.int .i64 kp, .bool bp, .int .i64 mp, .int .i64 sp, .string tp, .slice ap lenp capp] 26)).cell? ⟨wr.heap.size, 0, none⟩ = some (.int .i64 kp) := by go_simp
          have v1 : (wr.alloc (Obj.cells #[.int .i64 kp, .bool bp, .int .i64 mp, .int .i64 sp, .string tp, .slice ap lenp capp] 26)).cell? ⟨wr.heap.size, 1, none⟩ = some (.bool bp) := by go_simp
          have v2 : (wr.alloc (Obj.cells #[.int .i64 kp, .bool bp, .int .i64 mp, .int .i64 sp, .string tp, .slice ap lenp capp] 26)).cell? ⟨wr.heap.size, 2, none⟩ = some (.int .i64 mp) := by go_simp
          have v3 : (wr.alloc (Obj.cells #[.int .i64 kp, .bool bp, .int .i64 mp, .int .i64 sp, .string tp, .slice ap lenp capp] 26)).cell? ⟨wr.heap.size, 3, none⟩ = some (.int .i64 sp) := by go_simp
          have v4 : (wr.alloc (Obj.cells #[.int .i64 kp, .bool bp, .int .i64 mp, .int .i64 sp, .string tp, .slice ap lenp capp] 26)).cell? ⟨wr.heap.size, 4, none⟩ = some (.string tp) := by go_simp
          have v5 : (wr.alloc (Obj.cells #[.int .i64 kp, .bool bp, .int .i64 mp, .int .i64 sp, .string tp, .slice ap lenp capp] 26)).cell? ⟨wr.heap.size, 5, none⟩ = some (.slice ap lenp capp) := by go_simp
          have zv : wr.heap.size < (wr.alloc (Obj.cells #[.int .i64 kp, .bool bp, .int .i64 mp, .int .i64 sp, .string tp, .slice ap lenp capp] 26)).heap.size := by simp
          clear g0 g1 g2 g3 g4 g5 g6 b1 o1 s2 row
          generalize wr.alloc (Obj.cells #[.int .i64 kp, .bool bp, .int .i64 mp, .int .i64 sp, .string tp, .slice ap lenp capp] 26) = V1 at *
          generalize wr.heap.size = vb at *
          have c5 := s2'.2.2.2.2.2.2
          simp only [Nat.zero_add] at c5
          have SK : Hid (∀ w', Below V1.heap.size V1 w' → (Below B w w' ∧ w'.cell? ⟨B + 1 + 1, 5, none⟩ = some (.slice (some ⟨B + 1 + 1 + 1, 0, none⟩) len len) ∧ w'.cell? ⟨vb, 0, none⟩ = some (.int .i64 kp) ∧ w'.cell? ⟨vb, 1, none⟩ = some (.bool bp) ∧ w'.cell? ⟨vb, 2, none⟩ = some (.int .i64 mp) ∧ w'.cell? ⟨vb, 3, none⟩ = some (.int .i64 sp) ∧ w'.cell? ⟨vb, 4, none⟩ = some (.string tp) ∧ w'.cell? ⟨vb, 5, none⟩ = some (.slice ap lenp capp))) := by
            intro w' kk
            exact ⟨(unhide bel').trans (kk.mono (by omega)), kcell kk (by omega) c5, kcell kk zv v0, kcell kk zv v1, kcell kk zv v2, kcell kk zv v3, kcell kk zv v4, kcell kk zv v5⟩
          refine wp_region_noPanic ?_
          refine wp_region_held_drew (S := fun w' => Below B w w' ∧ w'.cell? ⟨B + 1 + 1, 5, none⟩ = some (.slice (some ⟨B + 1 + 1 + 1, 0, none⟩) len len) ∧ w'.cell? ⟨vb, 0, none⟩ = some (.int .i64 kp) ∧ w'.cell? ⟨vb, 1, none⟩ = some (.bool bp) ∧ w'.cell? ⟨vb, 2, none⟩ = some (.int .i64 mp) ∧ w'.cell? ⟨vb, 3, none⟩ = some (.int .i64 sp) ∧ w'.cell? ⟨vb, 4, none⟩ = some (.string tp) ∧ w'.cell? ⟨vb, 5, none⟩ = some (.slice ap lenp capp)) (by kernel_rfl) ?hS0 (fun hHeld => ?_)
          case hS0 => exact unhide SK _ (Below.refl _ _).drew
          refine takeAt 0 (some 33) ?v0 ⟨_, rfl, rfl, rfl, ?hy0⟩ (by kernel_rfl) (by kernel_rfl) (by kernel_rfl) (fun _ _ _ h => h) (by assumption) ?_
          case hy0 => (intro w0 hSw; (try dsimp only at hSw); go_simp; try (with_reducible rfl))
          simp only [Act.put, List.setIfInBounds_toArray, List.set_cons_zero, List.set_cons_succ]
          refine takeAt 1 (some 34) ?v1 ⟨_, rfl, rfl, rfl, ?hy1⟩ (by kernel_rfl) (by kernel_rfl) (by kernel_rfl) (fun _ _ _ h => h) (by assumption) ?_
          case hy1 => (intro w0 hSw; (try dsimp only at hSw); go_simp; try (with_reducible rfl))
          simp only [Act.put, List.setIfInBounds_toArray, List.set_cons_zero, List.set_cons_succ]
          refine takeAt 2 (some 35) ?v2 ⟨_, rfl, rfl, rfl, ?hy2⟩ (by kernel_rfl) (by kernel_rfl) (by kernel_rfl) (fun _ _ _ h => h) (by assumption) ?_
          case hy2 => (intro w0 hSw; (try dsimp only at hSw); go_simp; try (with_reducible rfl))
          simp only [Act.put, List.setIfInBounds_toArray, List.set_cons_zero, List.set_cons_succ]
          refine takeAt 3 (some 36) ?v3 ⟨_, rfl, rfl, rfl, ?hy3⟩ (by kernel_rfl) (by kernel_rfl) (by kernel_rfl) (fun _ _ _ h => h) (by assumption) ?_
          case hy3 => (intro w0 hSw; (try dsimp only at hSw); go_simp; try (with_reducible rfl))
          simp only [Act.put, List.setIfInBounds_toArray, List.set_cons_zero, List.set_cons_succ]
          refine wpAnyH_ready (rs := [4]) (by kernel_rfl) (by simp) ?_
          refine AllReadyH.cons rfl (fun K0 hK0 => ?_) AllReadyH.nil
          go_simp
          refine (unhide IH _ ((unhide HK).below (Below.refl _ _).drew)).mono ?_
          rintro e w2 ⟨⟨yj, rfl, yin, yfr, ysm⟩, k2⟩
          cases yj with
          | none => exact absurd yin (by simp [VT.In])
          | mk kq bq mq sq tq aq lenq capq kidq =>
          show _
          dsimp only [VT.val]
          go_wp2_with fail
          refine hK0.out _ _ ?hS4 (fun hHeld1 => ?_)
          case hS4 => exact unhide SK _ (bstep (Below.refl _ _).drew k2)
          have k1w : Below V1.heap.size V1 w2 := bstep (Below.refl _ _).drew k2
          clear hK0 K0 hHeld
          have hHeld := hHeld1
          clear hHeld1
          try simp only [Act.put, List.setIfInBounds_toArray, List.set_cons_zero, List.set_cons_succ]
          refine takeAt 5 (some 38) ?v5 ⟨_, rfl, rfl, rfl, ?hy5⟩ (by kernel_rfl) (by kernel_rfl) (by kernel_rfl) (fun _ _ _ h => h) (by assumption) ?_
          case hy5 => (intro w0 hSw; (try dsimp only at hSw); go_simp; try (with_reducible rfl))
          simp only [Act.put, List.setIfInBounds_toArray, List.set_cons_zero, List.set_cons_succ]
          have row2 := row_below row' k1w
          have o12 := o1'.below k1w
          have s22 := VT.Six.below s2' k1w
          have HA2 := hide (fun i hi => And.intro ((unhide HA' i hi).1.below k1w) (And.intro (VT.Fresh.below k1w _ (unhide HA' i hi).1 (unhide HA' i hi).2.1) (unhide HA' i hi).2.2))
          have e0' := row2.cell (i := j * 6) (by omega)
          have e1' := row2.cell (i := j * 6 + 1) (by omega)
          have e2' := row2.cell (i := j * 6 + 2) (by omega)
          have e3' := row2.cell (i := j * 6 + 3) (by omega)
          have e4' := row2.cell (i := j * 6 + 4) (by omega)
          have e5' := row2.cell (i := j * 6 + 5) (by omega)
          have f0' := row2.frozen (j * 6)
          have f1' := row2.frozen (j * 6 + 1)
          have f2' := row2.frozen (j * 6 + 2)
          have f3' := row2.frozen (j * 6 + 3)
          have f4' := row2.frozen (j * 6 + 4)
          have f5' := row2.frozen (j * 6 + 5)
          have YIN := hide yin
          have YFR := hide (VT.Fresh.mono (n' := B + 4) (show B + 4 ≤ V1.heap.size by omega) _ yfr)
          have YSM := hide ysm
          clear yin yfr ysm row' o1' s2' HA' bel' IH HK SK k2 k1w
          refine wpAnyH_ready (rs := [6]) (by kernel_rfl) (by simp) ?_
          refine AllReadyH.cons rfl (fun K0 hK0 => ?_) AllReadyH.nil
          go_simp
          clear e0' e1' e2' e3' e4' e5' f0' f1' f2' f3' f4' f5'
          obtain ⟨hb0, hc0, hv0, hv1, hv2, hv3, hv4, hv5⟩ := hHeld
          refine hK0.out _ _ ?hS6 (fun hHeld1 => ?_)
          case hS6 => exact ⟨put_below w2 (B + 1 + 1 + 1) (j * 6) (.int .i64 kq) (.bool bq) (.int .i64 mq) (.int .i64 sq) (.string tq) (.slice aq lenq capq) hb0 (by omega), (put_cell w2 (B + 1 + 1 + 1) (j * 6) (.int .i64 kq) (.bool bq) (.int .i64 mq) (.int .i64 sq) (.string tq) (.slice aq lenq capq) (by omega)).trans hc0, (put_cell w2 (B + 1 + 1 + 1) (j * 6) (.int .i64 kq) (.bool bq) (.int .i64 mq) (.int .i64 sq) (.string tq) (.slice aq lenq capq) (by omega)).trans hv0, (put_cell w2 (B + 1 + 1 + 1) (j * 6) (.int .i64 kq) (.bool bq) (.int .i64 mq) (.int .i64 sq) (.string tq) (.slice aq lenq capq) (by omega)).trans hv1, (put_cell w2 (B + 1 + 1 + 1) (j * 6) (.int .i64 kq) (.bool bq) (.int .i64 mq) (.int .i64 sq) (.string tq) (.slice aq lenq capq) (by omega)).trans hv2, (put_cell w2 (B + 1 + 1 + 1) (j * 6) (.int .i64 kq) (.bool bq) (.int .i64 mq) (.int .i64 sq) (.string tq) (.slice aq lenq capq) (by omega)).trans hv3, (put_cell w2 (B + 1 + 1 + 1) (j * 6) (.int .i64 kq) (.bool bq) (.int .i64 mq) (.int .i64 sq) (.string tq) (.slice aq lenq capq) (by omega)).trans hv4, (put_cell w2 (B + 1 + 1 + 1) (j * 6) (.int .i64 kq) (.bool bq) (.int .i64 mq) (.int .i64 sq) (.string tq) (.slice aq lenq capq) (by omega)).trans hv5⟩
          clear hK0 K0
          have q1 := put_below w2 (B + 1 + 1 + 1) (j * 6) (.int .i64 kq) (.bool bq) (.int .i64 mq) (.int .i64 sq) (.string tq) (.slice aq lenq capq) hb0 (by omega)
          have q2 := put_own w2 (B + 1 + 1 + 1) (j * 6) (.int .i64 kq) (.bool bq) (.int .i64 mq) (.int .i64 sq) (.string tq) (.slice aq lenq capq) o12 (by omega)
          have q3 := put_six w2 (B + 1 + 1 + 1) (j * 6) (.int .i64 kq) (.bool bq) (.int .i64 mq) (.int .i64 sq) (.string tq) (.slice aq lenq capq) s22 (by omega)
          have q4 := put_row w2 (B + 1 + 1 + 1) (j * 6) (.int .i64 kq) (.bool bq) (.int .i64 mq) (.int .i64 sq) (.string tq) (.slice aq lenq capq) row2
          have q5 := hide (put_away w2 (B + 1 + 1 + 1) (j * 6) (.int .i64 kq) (.bool bq) (.int .i64 mq) (.int .i64 sq) (.string tq) (.slice aq lenq capq) (n := B + 4) (by omega) (unhide YIN) (unhide YFR))
          have q6 := hide (fun i hi => put_away w2 (B + 1 + 1 + 1) (j * 6) (.int .i64 kq) (.bool bq) (.int .i64 mq) (.int .i64 sq) (.string tq) (.slice aq lenq capq) (n := B + 4) (by omega) (unhide HA2 i hi).1 (unhide HA2 i hi).2.1)
          generalize ((((((w2.setCell ⟨B + 1 + 1 + 1, j * 6, none⟩ (.int .i64 kq)).setCell ⟨B + 1 + 1 + 1, j * 6 + 1, none⟩ (.bool bq)).setCell ⟨B + 1 + 1 + 1, j * 6 + 2, none⟩ (.int .i64 mq)).setCell ⟨B + 1 + 1 + 1, j * 6 + 3, none⟩ (.int .i64 sq)).setCell ⟨B + 1 + 1 + 1, j * 6 + 4, none⟩ (.string tq)).setCell ⟨B + 1 + 1 + 1, j * 6 + 5, none⟩ (.slice aq lenq capq)) = w3 at *
          clear hHeld1 hb0 hc0 hv0 hv1 hv2 hv3 hv4 hv5 o12 s22 row2 YIN YFR
          refine wpAnyH_done (by kernel_rfl) ?_ _
          refine NoPanic.normal ?_
          go_wp2_with fail
          go_roundw
          case rel =>
            refine ⟨j + 1, _, fun i => if i = j then VT.mk kq bq mq sq tq aq lenq capq kidq else y i, by omega, by go_num, q1, q2, q3, q4, hide (fun i hi => ?_)⟩
            by_cases hij : i = j
            · subst hij
              dsimp only
              rw [if_pos rfl]
              refine ⟨fun q hq => ?_, (unhide q5).1, (unhide q5).2, by rw [unhide HX]; exact unhide YSM⟩
              obtain ⟨p0, p1, p2, p3, p4, p5⟩ := putF_in (i * 6) (.int .i64 kq) (.bool bq) (.int .i64 mq) (.int .i64 sq) (.string tq) (.slice aq lenq capq) F
              match q, hq with
              | 0, _ => exact congrArg some p0.symm
              | 1, _ => exact congrArg some p1.symm
              | 2, _ => exact congrArg some p2.symm
              | 3, _ => exact congrArg some p3.symm
              | 4, _ => exact congrArg some p4.symm
              | 5, _ => exact congrArg some p5.symm
            · dsimp only
              rw [if_neg hij]
              have hi' : i < j := by omega
              refine ⟨fun q hq => ?_, (unhide q6 i hi').1, (unhide q6 i hi').2, (unhide HA2 i hi').2.2.2⟩
              rw [putF_out (by omega)]
              exact (unhide HA2 i hi').2.2.1 q hq
          case measure => simp [intOf]; omega
        · have hjl : j = len := by omega
          subst hjl
          obtain ⟨⟨u0, t0, t1, t2, t3, t4, t5⟩, f0, f1, f2, f3, f4, f5⟩ := id o1
          obtain ⟨r0, r1, r2, r3, r4, r5, r6⟩ := id s2
          simp only [Nat.zero_add] at t0 t1 t2 t3 t4 t5 r1 r2 r3 r4 r5 r6
          go_wp2_with fail
          have q1 : Below B w ((((((wr.setCell ⟨B + 1, 0, none⟩ (.int .i64 k)).setCell ⟨B + 1, 1, none⟩ (.bool b)).setCell ⟨B + 1, 2, none⟩ (.int .i64 m)).setCell ⟨B + 1, 3, none⟩ (.int .i64 s)).setCell ⟨B + 1, 4, none⟩ (.string t)).setCell ⟨B + 1, 5, none⟩ (.slice (some ⟨B + 1 + 1 + 1, 0, none⟩) j j)) := put_below wr (B + 1) 0 (.int .i64 k) (.bool b) (.int .i64 m) (.int .i64 s) (.string t) (.slice (some ⟨B + 1 + 1 + 1, 0, none⟩) j j) bel (by omega)
          have q6 : Hid (∀ i, i < j → (y i).In ((((((wr.setCell ⟨B + 1, 0, none⟩ (.int .i64 k)).setCell ⟨B + 1, 1, none⟩ (.bool b)).setCell ⟨B + 1, 2, none⟩ (.int .i64 m)).setCell ⟨B + 1, 3, none⟩ (.int .i64 s)).setCell ⟨B + 1, 4, none⟩ (.string t)).setCell ⟨B + 1, 5, none⟩ (.slice (some ⟨B + 1 + 1 + 1, 0, none⟩) j j)) ∧ (y i).Fresh (B + 4) ((((((wr.setCell ⟨B + 1, 0, none⟩ (.int .i64 k)).setCell ⟨B + 1, 1, none⟩ (.bool b)).setCell ⟨B + 1, 2, none⟩ (.int .i64 m)).setCell ⟨B + 1, 3, none⟩ (.int .i64 s)).setCell ⟨B + 1, 4, none⟩ (.string t)).setCell ⟨B + 1, 5, none⟩ (.slice (some ⟨B + 1 + 1 + 1, 0, none⟩) j j))) := hide (fun i hi => put_away wr (B + 1) 0 (.int .i64 k) (.bool b) (.int .i64 m) (.int .i64 s) (.string t) (.slice (some ⟨B + 1 + 1 + 1, 0, none⟩) j j) (n := B + 4) (by omega) (unhide HA i hi).2.1 (unhide HA i hi).2.2.1)
          have q7 : ∀ i, i < j * 6 → ((((((wr.setCell ⟨B + 1, 0, none⟩ (.int .i64 k)).setCell ⟨B + 1, 1, none⟩ (.bool b)).setCell ⟨B + 1, 2, none⟩ (.int .i64 m)).setCell ⟨B + 1, 3, none⟩ (.int .i64 s)).setCell ⟨B + 1, 4, none⟩ (.string t)).setCell ⟨B + 1, 5, none⟩ (.slice (some ⟨B + 1 + 1 + 1, 0, none⟩) j j)).cell? ⟨B + 1 + 1 + 1, i, none⟩ = some (F i) := fun i hi => (put_cell wr (B + 1) 0 (.int .i64 k) (.bool b) (.int .i64 m) (.int .i64 s) (.string t) (.slice (some ⟨B + 1 + 1 + 1, 0, none⟩) j j) (by omega)).trans (row.cell hi)
          have q8 : ∀ i, ((((((wr.setCell ⟨B + 1, 0, none⟩ (.int .i64 k)).setCell ⟨B + 1, 1, none⟩ (.bool b)).setCell ⟨B + 1, 2, none⟩ (.int .i64 m)).setCell ⟨B + 1, 3, none⟩ (.int .i64 s)).setCell ⟨B + 1, 4, none⟩ (.string t)).setCell ⟨B + 1, 5, none⟩ (.slice (some ⟨B + 1 + 1 + 1, 0, none⟩) j j)).frozen? ⟨B + 1 + 1 + 1, i, none⟩ = false := fun i => (put_froz wr (B + 1) 0 (.int .i64 k) (.bool b) (.int .i64 m) (.int .i64 s) (.string t) (.slice (some ⟨B + 1 + 1 + 1, 0, none⟩) j j) _ i).trans (row.frozen i)
          refine bodyPost_ret (v := .agg #[.int .i64 k, .bool b, .int .i64 m, .int .i64 s, .string t, .slice (some ⟨B + 1 + 1 + 1, 0, none⟩) j j]) (by simp [results, Try.results28, go_sem, t0, t1, t2, t3, t4, t5]) rfl ⟨⟨.mk k b m s t (some ⟨B + 1 + 1 + 1, 0, none⟩) j j y, rfl, ?_, ?_, ?_⟩, ?_⟩
          · obtain ⟨wk, wm, ws, ht⟩ := unhide WF
            refine ⟨⟨wk, wm, ws, ht, Nat.le_refl _, by unfold maxLen; omega⟩, fun i hi => ⟨⟨_, _, rfl, fun q hq => ?_⟩, (unhide q6 i hi).1⟩⟩
            rw [Nat.zero_add, q7 _ (by omega)]
            exact ((unhide HA i hi).1 q hq).symm
          · intro i hi
            rw [unhide HB]
            exact ⟨⟨_, _, rfl, by omega, fun q _ => q8 _⟩, VT.Fresh.mono (by omega) _ (unhide q6 i hi).2⟩
          · unfold VT.same
            simp only [decide_true, Bool.true_and]
            exact all_range (f := fun i => (y i).same (kid i)) (fun i hi => (unhide HA i hi).2.2.2)
          · rw [unhide HB]; exact q1

set_option maxHeartbeats 1000000 in
theorem copy_any (x : VT) (w : World) (hok : x.okB 2 = true) (hin : x.In w) :
    Calls Try.prog 15 #[x.val] w fun e w' => (∃ y : VT, e = .returned y.val ∧ y.In w' ∧ y.Fresh w.heap.size w' ∧ y.same x = true) ∧ Below w.heap.size w w' := by
  cases x with
  | none => exact absurd hin (by simp [VT.In])
  | mk k b m s t a len cap kid =>
    show Calls Try.prog 15 #[.agg #[.int .i64 k, .bool b, .int .i64 m, .int .i64 s, .string t, .slice a len cap]] w _
    have b0 := below2 w (Obj.cells #[.int .i64 k, .bool b, .int .i64 m, .int .i64 s, .string t, .slice a len cap] 26) (Obj.cells #[.int .i64 0, .bool false, .int .i64 0, .int .i64 0, .string ⟨#[]⟩, .slice none 0 0] 26)
    have H1 := vis_any _ _ (hin.below b0)
    rw [hok] at H1
    have HH1 := hide H1
    have HH2 := hide (fun w h => again_any _ 2 w hok h)
    have HI := hide (hin.below b0)
    clear H1 hin hok
    go_enter Try.func15, Try.ntmps15
    go_wp2_with fail
    refine (unhide HH1).mono ?_
    rintro e w1 ⟨rfl, k1⟩
    have oo : Own ((w.alloc (Obj.cells #[.int .i64 k, .bool b, .int .i64 m, .int .i64 s, .string t, .slice a len cap] 26)).alloc (Obj.cells #[.int .i64 0, .bool false, .int .i64 0, .int .i64 0, .string ⟨#[]⟩, .slice none 0 0] 26)) (w.heap.size + 1) := by
      have h := Own.new (w.alloc (Obj.cells #[.int .i64 k, .bool b, .int .i64 m, .int .i64 s, .string t, .slice a len cap] 26)) 26
      simpa using h
    have o1 := oo.below k1
    obtain ⟨c1, -⟩ := bcell k1
    go_wp2_with fail
    refine (unhide HH2 _ ((unhide HI).below k1)).mono ?_
    rintro e w2 ⟨⟨y, rfl, yin, yfr, ysm⟩, k2⟩
    have o2 := o1.below k2
    have bb := bstep b0 (bstep k1 k2)
    have z1 : w.heap.size + 2 ≤ w1.heap.size := by have := k1.size; simp at this; omega
    cases y with
    | none => exact absurd yin (by simp [VT.In])
    | mk kq bq mq sq tq aq lenq capq kidq =>
      dsimp only [VT.val]
      obtain ⟨⟨u0, t0, t1, t2, t3, t4, t5⟩, f0, f1, f2, f3, f4, f5⟩ := id o2
      simp only [Nat.zero_add] at t0 t1 t2 t3 t4 t5
      have Y := hide (put_away w2 (w.heap.size + 1) 0 (.int .i64 kq) (.bool bq) (.int .i64 mq) (.int .i64 sq) (.string tq) (.slice aq lenq capq) (n := w1.heap.size) (by omega) yin yfr)
      have YS := hide ysm
      have QB : Hid (Below w.heap.size w ((((((w2.setCell ⟨w.heap.size + 1, 0, none⟩ (.int .i64 kq)).setCell ⟨w.heap.size + 1, 1, none⟩ (.bool bq)).setCell ⟨w.heap.size + 1, 2, none⟩ (.int .i64 mq)).setCell ⟨w.heap.size + 1, 3, none⟩ (.int .i64 sq)).setCell ⟨w.heap.size + 1, 4, none⟩ (.string tq)).setCell ⟨w.heap.size + 1, 5, none⟩ (.slice aq lenq capq))) := hide (put_below w2 (w.heap.size + 1) 0 (.int .i64 kq) (.bool bq) (.int .i64 mq) (.int .i64 sq) (.string tq) (.slice aq lenq capq) bb (by omega))
      clear oo o1 o2 c1 k1 k2 b0 yin yfr ysm bb HI HH1 HH2
      go_wp2_with fail
      exact bodyPost_ret (v := .agg #[.int .i64 kq, .bool bq, .int .i64 mq, .int .i64 sq, .string tq, .slice aq lenq capq]) (by simp [results, Try.results15, go_sem, t0, t1, t2, t3, t4, t5]) rfl ⟨⟨.mk kq bq mq sq tq aq lenq capq kidq, rfl, (unhide Y).1, VT.Fresh.mono (by omega) _ (unhide Y).2, unhide YS⟩, unhide QB⟩
end Go.Proofs.Ythccmlkcdinfdac
