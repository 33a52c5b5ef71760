/- Hole: the first point of the whole that is in none of the boxes. -/
import Derived.Test.YtpoejhdkgfikdaaBxSeek
import Derived.Deep.OwnRows
namespace Go.Proofs.Ytpoejhdkgfikdaa
open Go.RowKit
set_option linter.unusedVariables false
set_option linter.unusedSimpArgs false

theorem infoInts : (Try.prog.info? 23).map (fun i => (i.zero, i.size, i.bytes)) = some (some (.slice none 0 0), 1, 24) := by kernel_rfl
theorem make_rows (n : Nat) (hn : n ≤ 8) (w : World) :
    (Instr.makeSlice 38 (.int .i64 (n : Int)) (.int .i64 (n : Int))).run Try.prog w = .ok (.slice (some ⟨w.heap.size, 0, none⟩) n n) (w.alloc (.cells (madeCells #[Value.slice none 0 0] n) 23)) := by
  obtain ⟨i, hi, hzz⟩ := Option.map_eq_some_iff.1 infoInts
  simp only [Prod.mk.injEq] at hzz
  obtain ⟨hz, hs, hb⟩ := hzz
  have hr := run_make (P := Try.prog) w 38 23 i _ Try.underlying38 hi hz .i64 .i64 n n (by omega) (by omega) (by rw [hb]; omega) (by omega)
  simp only [Int.toNat_natCast, hs, Nat.mul_one] at hr
  exact hr
theorem made_rows (w : World) (n : Nat) (t : TypeId) : (w.alloc (.cells (madeCells #[Value.slice none 0 0] n) t)).rowIs w.heap.size t n (fun _ => .slice none 0 0) :=
  ⟨_, Deep.blk_alloc_new _ _, by rw [size_madeCells], fun i hi => by simp [madeCells, hi, Nat.mod_one]⟩
theorem row_below {w w' : World} {b : Nat} {t : TypeId} {n : Nat} {F : Nat → Value} (h : w.rowIs b t n F) (k : Below w.heap.size w w') : w'.rowIs b t n F := h.of_block (k.block b h.lt)
/- the answer, when the boxes and the whole may be. -/
theorem gr_none {a b : World} (h : a.grownBy b none) : Below a.heap.size a b := ⟨h.os, h.tape, h.output, h.size, fun k hk => h.block k hk (by simp)⟩
def within (W : Bx) : Nat → Int → Prop := fun i x => ix W.1 i ≤ x ∧ x ≤ ix W.2 i
def HR (W : Bx) (l : List Bx) (B : Nat) (e : Ending) (w' : World) : Prop :=
  ∃ r g, LF W.1.length (within W) (cov l) [] r ∧ e = Ret g W.1.length r ∧ ∀ q, r = some q → Own1 B w' (.slice (some ⟨g, 0, none⟩) W.1.length W.1.length) q

set_option maxHeartbeats 4000000 in
theorem ghole_any (Q : Nat → Prop) (a : Option Addr) (cap : Nat) (l : List Bx) (W : Bx) (v1 v2 : Value) (w : World) (h : BxsI Q w a l) (hW : BoxI Q w v1 v2 W) (hok : okB W) (hf : fel l W.1.length) :
    Calls Try.prog 11 #[.slice a l.length cap, .agg #[v1, v2]] w fun e w' => HR W l w.heap.size e w' ∧ Below w.heap.size w w' := by
  have h8 := hf.1
  have IS := hide (fun w' (k : Below w.heap.size w w') => gis_any Q W v1 v2 w' (hW.below k))
  have FE := hide (fun w' (k : Below w.heap.size w w') => fel_any Q a cap W.1.length l w' (h.below k) (by unfold maxLen; omega))
  have MK := hide (fun (i : Nat) (hi : i < W.1.length) w' (k : Below w.heap.size w w') => marks_any Q a cap l W v1 v2 i w' (h.below k) (hW.below k) h8 hok hi hf.2)
  have HB := hide (fun g w' (k : Below w.heap.size w w') (hg : w.heap.size ≤ g) => ((h.weak (Q' := fun x => Q x ∧ x < w.heap.size) (fun x hx hq => ⟨hq, hx⟩)).below k).weak (Q' := fun x => x ≠ g) (fun x _ hq => by omega))
  have HOK := hide hok
  have HF := hide hf
  have hn1 := hok.1
  have hn3 := hok.2.1
  obtain ⟨a1, c1, rfl⟩ := hW.1.form
  obtain ⟨a2, c2, rfl⟩ := hW.2.form
  have FINAL : Hid (∀ (Ms : List (List Int)) r, Ms.length = W.1.length → (∀ i, i < W.1.length → isM l i (ix W.1 i) (ix W.2 i) (rw' Ms i)) → LF W.1.length (fun i x => x ∈ rw' Ms i) (cov l) [] r → LF W.1.length (within W) (cov l) [] r) := hide (fun Ms r _ hM hr =>
    LF_marks (fun i hi x hx => (hM i hi).2.2.1 x hx) (fun i hi => (hM i hi).2.1) (fun i hi b hb h1 h2 => (hM i hi).2.2.2.1 b hb h1 h2) hr)
  clear h hW hok hf
  obtain ⟨xl, xh⟩ := W
  dsimp only at *
  generalize hn : xl.length = n at *
  have hn' := hide hn
  generalize xh.length = n2 at *
  clear hn
  have b0 := below1 w (Obj.cells #[.slice a1 n c1, .slice a2 n2 c2] 25)
  have x0 : (w.alloc (Obj.cells #[.slice a1 n c1, .slice a2 n2 c2] 25)).cell? ⟨w.heap.size, 0, none⟩ = some (.slice a1 n c1) := by go_simp
  have x1 : (w.alloc (Obj.cells #[.slice a1 n c1, .slice a2 n2 c2] 25)).cell? ⟨w.heap.size, 1, none⟩ = some (.slice a2 n2 c2) := by go_simp
  have hz : w.heap.size < (w.alloc (Obj.cells #[.slice a1 n c1, .slice a2 n2 c2] 25)).heap.size := by simp
  go_enter Try.func11, Try.ntmps11
  go_wp2_with fail
  generalize w.alloc (Obj.cells #[.slice a1 n c1, .slice a2 n2 c2] 25) = W0 at *
  refine (unhide IS _ b0).mono ?_
  rintro e W1 ⟨⟨r, rfl, hr⟩, b1⟩
  obtain rfl : r = true := hr.2 (unhide HOK)
  have x0 := ((bcell b1).1 _ _ hz).trans x0
  have x1 := ((bcell b1).1 _ _ hz).trans x1
  have b2 := bstep b0 b1
  have hz := Nat.lt_of_lt_of_le hz b1.size
  clear b0 b1 IS hr
  go_wp2_with fail
  refine (unhide FE _ b2).mono ?_
  rintro e W2 ⟨⟨r, rfl, hr⟩, b3⟩
  obtain rfl : r = true := hr.2 (unhide HF)
  have x0 := ((bcell b3).1 _ _ hz).trans x0
  have x1 := ((bcell b3).1 _ _ hz).trans x1
  have b4 := bstep b2 b3
  have hz := Nat.lt_of_lt_of_le hz b3.size
  clear b2 b3 FE hr
  have hmk := make_rows n (by omega) W2
  have row0 := made_rows W2 n 23
  have b5 := below1 W2 (.cells (madeCells #[Value.slice none 0 0] n) 23)
  have hz5 : (W2.alloc (.cells (madeCells #[Value.slice none 0 0] n) 23)).heap.size = W2.heap.size + 1 := by simp
  go_wp2_with fail
  generalize W2.alloc (.cells (madeCells #[Value.slice none 0 0] n) 23) = V0 at *
  clear hmk
  have x0 := ((bcell b5).1 _ _ hz).trans x0
  have x1 := ((bcell b5).1 _ _ hz).trans x1
  have b6 := bstep b4 b5
  go_loopw [25] (fun i wr => ∃ (j : Nat) (F : Nat → Value) (M : Nat → List Int), j ≤ n ∧ i = .int .i64 j ∧ Below W2.heap.size V0 wr ∧ wr.rowIs W2.heap.size 23 n F ∧ Hid (∀ i, i < j → RowI (fun x => x ≠ W2.heap.size) wr (F i) (M i) ∧ isM l i (ix xl i) (ix xh i) (M i))) (fun i _ => n - (intOf i).toNat)
  case atStart => exact ⟨0, _, fun _ => [], Nat.zero_le _, rfl, Below.refl _ _, row0, hide (fun i hi => absurd hi (Nat.not_lt_zero _))⟩
  case round =>
    obtain ⟨j, F, M, hj, rfl, bel, row, HM⟩ := hrel
    clear row0
    have belw : Below w.heap.size w wr := b6.trans (bel.mono (by omega))
    have k0 : wr.cell? ⟨w.heap.size, 0, none⟩ = some (.slice a1 n c1) := (bel.cell (p := ⟨w.heap.size, 0, none⟩) hz).trans x0
    have k1 : wr.cell? ⟨w.heap.size, 1, none⟩ = some (.slice a2 n2 c2) := (bel.cell (p := ⟨w.heap.size, 1, none⟩) hz).trans x1
    have hzr : W2.heap.size < wr.heap.size := row.lt
    by_cases hlt : j < n
    · have MJ := hide (unhide MK j hlt wr belw)
      go_wp2_with fail
      refine (unhide MJ).mono ?_
      rintro e w5 ⟨⟨Mj, g, c, rfl, own5, hM5⟩, b7⟩
      have row5 := row_below row b7
      have hrow := hide (own_row (Q := fun x => x ≠ W2.heap.size) own5 (by simp) (fun x hx _ => by omega)).1
      have hM5 := hide hM5
      have f5 := row5.frozen j
      have k5 := row5.cell hlt
      have hz6 : W2.heap.size < w5.heap.size := row5.lt
      have row6 := row5.set j (.slice (some ⟨g, 0, none⟩) Mj.length c)
      have b8 : Below W2.heap.size V0 (w5.setCell ⟨W2.heap.size, j, none⟩ (.slice (some ⟨g, 0, none⟩) Mj.length c)) := (bel.trans (b7.mono (by omega))).setCell (Nat.le_refl _) _
      have HM6 : Hid (∀ i, i < j + 1 → RowI (fun x => x ≠ W2.heap.size) (w5.setCell ⟨W2.heap.size, j, none⟩ (.slice (some ⟨g, 0, none⟩) Mj.length c)) (if i = j then .slice (some ⟨g, 0, none⟩) Mj.length c else F i) (if i = j then Mj else M i) ∧ isM l i (ix xl i) (ix xh i) (if i = j then Mj else M i)) := hide (fun i hi => by
        have hkeep : ∀ v xs, RowI (fun x => x ≠ W2.heap.size) w5 v xs → RowI (fun x => x ≠ W2.heap.size) (w5.setCell ⟨W2.heap.size, j, none⟩ (.slice (some ⟨g, 0, none⟩) Mj.length c)) v xs := fun v xs hv => hv.keep (by simp [World.setCell]) (fun bl o hl hq => World.cell?_of_block (w := w5) (Below.heap_setCell _ _ _ _ hq)) (fun _ _ h => h)
        by_cases e : i = j
        · subst e
          rw [if_pos rfl, if_pos rfl]
          exact ⟨hkeep _ _ (unhide hrow), unhide hM5⟩
        · rw [if_neg e, if_neg e]
          have := unhide HM i (by omega)
          exact ⟨hkeep _ _ (this.1.below b7), this.2⟩)
      clear HM MJ own5 hM5 hrow MK row row5
      go_wp2_with fail
      go_roundw
      case rel => exact ⟨j + 1, _, _, by omega, by go_num, b8, row6, HM6⟩
      case measure => simp [intOf]; omega
    · obtain rfl : j = n := by omega
      have hB7 := hide (unhide HB wr.heap.size)
      obtain ⟨i0, hi0, hz0, hz1, hz2⟩ := info_parts infoInt
      clear MK
      go_wp2_with (at_make; refine wpList_make_own _ rfl _ _ 23 rfl w.heap.size 3 i0 (.int .i64 0) 1 Try.underlying23 hi0 hz0 hz1 .i64 .i64 _ j rfl rfl rfl (by rw [hz2]; omega) (by unfold maxLen; omega) (by omega) ?_)
      intro w7 own7 gr7
      have b9 := gr_none gr7
      have belw7 := bstep belw b9
      have hgg : w.heap.size ≤ wr.heap.size := by omega
      have hB7' := unhide hB7 w7 belw7 hgg
      have row7 := row_below row b9
      have hMs : ∀ i, i < j → rw' ((List.range j).map M) i = M i := fun i hi => by
        unfold rw'
        rw [List.getD_eq_getElem?_getD, List.getElem?_map, List.getElem?_range hi]
        rfl
      have hR : RowsI (fun x => x ≠ wr.heap.size) w7 (some ⟨W2.heap.size, 0, none⟩) ((List.range j).map M) := by
        intro i hi
        have hi' : i < j := by simpa using hi
        refine ⟨W2.heap.size, 0, F i, rfl, by omega, row7.lt, by rw [Nat.zero_add]; exact row7.cell hi', ?_⟩
        rw [hMs i hi']
        exact ((unhide HM i hi').1.weak (fun x hx _ => by omega)).below b9
      have SK := hide (seek_any w.heap.size wr.heap.size j cap j a (some ⟨W2.heap.size, 0, none⟩) l ((List.range j).map M) (by simp) h8 (fun i hi => ((unhide HF).2 i hi).1) hn3 (fun i hi => by rw [hMs i hi]; exact (unhide HM i hi).2.2.2.2.2) j [] w7 (by simp) hB7' hR own7 (fun i hi => absurd hi (Nat.not_lt_zero _)))
      have FIN := hide (fun r => unhide FINAL ((List.range j).map M) r (by simp) (fun i hi => by rw [hMs i hi]; exact (unhide HM i hi).2))
      clear hR hB7' hB7 HB HM FINAL own7 gr7 row7 hMs HF HOK
      generalize (List.range j).map M = Ms at *
      simp only [List.length_nil] at SK
      go_wp2_with fail
      refine (unhide SK).mono ?_
      rintro e w8 ⟨⟨r, hr, rfl, own8⟩, gr8⟩
      have B8 : Below w.heap.size w w8 := belw7.grown gr8 (by have := belw7.size; omega) (fun k hk => by cases hk; exact hgg)
      have RES : Hid (HR (xl, xh) l w.heap.size (Ret wr.heap.size xl.length r) w8) := hide ⟨r, wr.heap.size, by rw [unhide hn']; exact unhide FIN r hr, rfl, fun q hq => by
        subst hq
        have hql := LF_len hr
        have := own8
        simp only [Option.getD_some] at this
        rw [hql] at this
        rw [unhide hn']
        exact this⟩
      rw [unhide hn'] at RES
      clear SK FIN own8 gr8 hr
      cases r with
      | none =>
        unfold Ret at RES ⊢
        go_wp2_with fail
        go_ret2
        exact ⟨unhide RES, B8⟩
      | some q =>
        unfold Ret at RES ⊢
        go_wp2_with fail
        go_ret2
        exact ⟨unhide RES, B8⟩
end Go.Proofs.Ytpoejhdkgfikdaa
