/- marksOf: the numbers at a side where the first hole can stand, rising. -/
import Derived.Test.YtpoejhdkgfikdaaBxMarkM
import Derived.Test.YtpoejhdkgfikdaaBxFell
import Derived.Test.YtpoejhdkgfikdaaShelf
import Derived.OwnWalk
import Derived.Sort.OwnSortedInts
namespace Go.Proofs.Ytpoejhdkgfikdaa
open Go.RowKit
set_option linter.unusedVariables false
set_option linter.unusedSimpArgs false

theorem infoInt : (Try.prog.info? 3).map (fun i => (i.zero, i.size, i.bytes)) = some (some (.int .i64 0), 1, 8) := by kernel_rfl
/- a row of the call's own, of numbers; behind it nothing below B has turned. -/
def Own1 (B : Nat) (w : World) (v : Value) (ms : List Int) : Prop := w.ownsRow B 3 1 v ms.length (ms.map (Value.int .i64))

/- append of one number. -/
theorem wpList_n {w : World} {ops : Array Oper} {rest : List Oper} {o : Oper} {ac : Act} {P : Exit → Act → World → Prop} (hgd : o.guard = none) (s x : Operand)
    (ho : o.op = .call { callee := .builtin .append, args := #[s, x], argTypes := #[23, 23] }) (B : Nat) (v : Value) (ms : List Int) (hs : ac.eval s = v) (own : Own1 B w v ms)
    (g : Nat) (y : Int) (hx : ac.eval x = .slice (some ⟨g, 0, none⟩) 1 1) (hc : w.cell? ⟨g, 0, none⟩ = some (.int .i64 y)) (hn : ms.length ≤ 1000) (hB : B ≤ w.heap.size)
    (h : ∀ v' w', Own1 B w' v' (ms ++ [y]) → v' ≠ .slice none 0 0 → w.grownBy w' v.ownBlock → wpList Try.prog ops P rest (ac.put o.dst v') w') : wpList Try.prog ops P (o :: rest) ac w := by
  obtain ⟨i, hi, hz, hz1, hz2⟩ := info_parts infoInt
  refine wpList_append_own w hgd s x 23 ho B 3 i _ 1 8 Try.underlying23 hi hz hz1 hz2 rfl (by decide) v ms.length _ hs own ⟨g, 0, none⟩ 1 1 [.int .i64 y] hx rfl ?_ ?_ (by unfold maxLen; omega) (by omega) hB ?_
  · intro j u hj
    match j, hj with
    | 0, hj => simp at hj; subst hj; simpa [Addr.add] using hc
  · intro u hu
    simp at hu
    subst hu
    rfl
  · intro v' w' h1 h2 h3
    refine h v' w' ?_ (fun e => by have := (h3.1 e).2; omega) h2
    unfold Own1
    simpa using h1

/- the same, at a step of a region whose order is drawn. -/
theorem step_n {w : World} {ops : Array Oper} {o : Oper} {ac : Act} {K : Act → World → Prop} {P : Exit → Act → World → Prop} {E : Prop} (hgd : o.guard = none) (s x : Operand)
    (ho : o.op = .call { callee := .builtin .append, args := #[s, x], argTypes := #[23, 23] }) (B : Nat) (v : Value) (ms : List Int) (hs : ac.eval s = v) (own : Own1 B w v ms)
    (g : Nat) (y : Int) (hx : ac.eval x = .slice (some ⟨g, 0, none⟩) 1 1) (hc : w.cell? ⟨g, 0, none⟩ = some (.int .i64 y)) (hn : ms.length ≤ 1000) (hB : B ≤ w.heap.size)
    (h : ∀ v' w', Own1 B w' v' (ms ++ [y]) → v' ≠ .slice none 0 0 → w.grownBy w' v.ownBlock → K (ac.put o.dst v') w') : if Region.wanted o (yielded ops ac.tmps) = true then Oper.wp Try.prog o ac w K P else E := by
  rw [if_pos (by simp [Region.wanted, hgd])]
  obtain ⟨i, hi, hz, hz1, hz2⟩ := info_parts infoInt
  refine wp_append_own w s x 23 ho B 3 i _ 1 8 Try.underlying23 hi hz hz1 hz2 rfl (by decide) v ms.length _ hs own ⟨g, 0, none⟩ 1 1 [.int .i64 y] hx rfl ?_ ?_ (by unfold maxLen; omega) (by omega) hB ?_
  · intro j u hj
    match j, hj with
    | 0, hj => simp at hj; subst hj; simpa [Addr.add] using hc
  · intro u hu
    simp at hu
    subst hu
    rfl
  · intro v' w' h1 h2 h3
    refine h v' w' ?_ (fun e => by have := (h3.1 e).2; omega) h2
    unfold Own1
    simpa using h1
theorem below_grown {B : Nat} {a w w' : World} {row : Option Nat} (h : Below B a w) (hg : w.grownBy w' row) (hB : B ≤ w.heap.size) (hr : ∀ k, row = some k → B ≤ k) : Below B a w' := h.grown hg hB hr
theorem own_ge {B n : Nat} {e : TypeId} {v : Value} {xs : List Value} {w : World} (h : w.ownsRow B e 1 v n xs) : ∀ k, v.ownBlock = some k → B ≤ k := by
  intro k hk
  rcases h.2 with ⟨rfl, _⟩ | ⟨g', cap, cur, rfl, hB, hh, hr⟩
  · cases hk
  · simp only [Value.ownBlock, Option.some.injEq] at hk
    subst hk
    exact hB
theorem own_weak {B B' n : Nat} {e : TypeId} {v : Value} {xs : List Value} {w : World} (h : w.ownsRow B e 1 v n xs) (hb : B' ≤ B) : w.ownsRow B' e 1 v n xs := by
  refine ⟨h.1, ?_⟩
  rcases h.2 with h0 | ⟨g', cap, cur, hv, hB, hr⟩
  · exact .inl h0
  · exact .inr ⟨g', cap, cur, hv, Nat.le_trans hb hB, hr⟩
theorem own_new {B : Nat} {w : World} (hB : B ≤ w.heap.size) (x : Int) : Own1 B (w.alloc (Obj.cells #[.int .i64 x] 3)) (.slice (some ⟨w.heap.size, 0, none⟩) 1 1) [x] := by
  refine ⟨rfl, .inr ⟨w.heap.size, 1, #[.int .i64 x], rfl, hB, Deep.blk_alloc_new _ _, by simp, by unfold maxLen; omega, rfl, rfl⟩⟩
theorem own_pos {B : Nat} {v : Value} {ms : List Int} {w : World} (h : Own1 B w v ms) (h0 : 0 < ms.length) : ∃ g cap, v = .slice (some ⟨g, 0, none⟩) ms.length cap ∧ RowI (fun _ => True) w v ms := by
  have hv : v ≠ .slice none 0 0 := by
    rintro rfl
    rcases h.2 with ⟨_, e⟩ | ⟨g, cap, cur, e, _⟩
    · omega
    · cases e
  obtain ⟨g, cap, rfl, _⟩ := Lib.holds_of_ownsRow h hv
  exact ⟨g, cap, rfl, (own_row h hv (fun _ _ _ => trivial)).1⟩
/- the sort of a row, then each once. -/
theorem sort_any (B : Nat) (ms : List Int) (v : Value) (w : World) (h : Own1 B w v ms) (hv : v ≠ .slice none 0 0) (hn : ms.length ≤ 9) (hB : B ≤ w.heap.size) :
    Calls Try.prog 26 #[v] w fun e w' => e = .returned (.tuple #[]) ∧ Own1 B w' v (ms.mergeSort fun x y => decide (x ≤ y)) ∧ Below B w w' := by
  obtain ⟨g, cap, rfl, hb, hg, hnc, hm, hl, hH⟩ := Lib.holds_of_ownsRow h hv
  rw [← hl] at *
  refine (Try.slices_Sort_int g 0 cap ms w hH hg (by omega)).mono ?_
  rintro e w' ⟨he, n, os, rfl⟩
  have hlen : (ms.mergeSort fun x y => decide (x ≤ y)).length = ms.length := List.length_mergeSort _
  have h1 := Lib.ownsRow_putRow (q := n) (k := ms.length) (ys := ms.mergeSort fun x y => decide (x ≤ y)) h hlen (Nat.le_refl _)
  have h2 := Lib.below_putRow (enc := Value.int .i64) (q := n) (d := (ms.mergeSort fun x y => decide (x ≤ y)).toArray) (Below.refl B w) hb
  have hsz : (Sort.putRow (Value.int .i64) (Sort.ahead w n) g 0 (ms.mergeSort fun x y => decide (x ≤ y)).toArray).heap.size = w.heap.size := by simp [Sort.putRow, Sort.mapBlock, Sort.ahead]
  have hgr : ∀ (W : World) (os : Array Obj) (C : Nat), C ≤ W.heap.size → Below C W (Sort.grow W os) := fun W os C hC => ⟨rfl, rfl, rfl, by simp [Sort.grow], fun k hk => by simp [Sort.grow, Array.getElem?_append, show k < W.heap.size by omega]⟩
  refine ⟨he, ?_, h2.trans (hgr _ os B (by rw [hsz]; exact hB))⟩
  have h3 := own_below h1 (hgr _ os _ (Nat.le_refl _))
  unfold Own1
  rw [hlen]
  rw [List.take_of_length_le (by rw [hlen]; exact Nat.le_refl _)] at h3
  exact h3
theorem compact_any (B : Nat) (ms : List Int) (v : Value) (w : World) (h : Own1 B w v ms) (hv : v ≠ .slice none 0 0) (hn : ms.length ≤ 9) :
    Calls Try.prog 27 #[v] w fun e w' => (∃ g cap, e = .returned (.slice (some ⟨g, 0, none⟩) (Lib.compact ms).length cap) ∧ Own1 B w' (.slice (some ⟨g, 0, none⟩) (Lib.compact ms).length cap) (Lib.compact ms)) ∧ Below B w w' := by
  obtain ⟨g, cap, rfl, hb, hg, hnc, hm, hl, hH⟩ := Lib.holds_of_ownsRow h hv
  rw [← hl] at *
  refine (Try.slices_Compact_int g 0 cap ms w hH (by omega) hnc).mono ?_
  rintro e w' ⟨he, n, rfl⟩
  have hle := (compact_sub ms).length_le
  have h1 := Lib.ownsRow_putRow (q := n) (k := (Lib.compact ms).length) (ys := Lib.compact ms ++ List.replicate (ms.length - (Lib.compact ms).length) 0) h (by simp; omega) hle
  have h2 := Lib.below_putRow (enc := Value.int .i64) (q := n) (d := (Lib.compact ms ++ List.replicate (ms.length - (Lib.compact ms).length) 0).toArray) (Below.refl B w) hb
  refine ⟨⟨g, cap, he, ?_⟩, h2⟩
  unfold Own1
  rw [List.take_left'] at h1
  · exact h1
  · rfl

set_option maxHeartbeats 1000000 in
theorem marks_any (Q : Nat → Prop) (a : Option Addr) (cap : Nat) (l : List Bx) (W : Bx) (v1 v2 : Value) (s : Nat) (w : World) (h : BxsI Q w a l) (hW : BoxI Q w v1 v2 W) (h8 : l.length ≤ 8) (hok : okB W) (hs : s < W.1.length)
    (hl : ∀ i, i < l.length → okB (bx l i) ∧ (bx l i).1.length = W.1.length) :
    Calls Try.prog 19 #[.slice a l.length cap, .agg #[v1, v2], .int .i64 s] w fun e w' => (∃ M g c, e = .returned (.slice (some ⟨g, 0, none⟩) (M : List Int).length c) ∧ Own1 w.heap.size w' (.slice (some ⟨g, 0, none⟩) M.length c) M ∧ isM l s (ix W.1 s) (ix W.2 s) M) ∧ Below w.heap.size w w' := by
  have hw4 := hok.2.2.2 s hs
  have hwl := hok.2.2.1
  have hbx : Hid (∀ i, i < l.length → s < (bx l i).2.length ∧ 0 ≤ ix (bx l i).2 s ∧ ix (bx l i).2 s ≤ 1000) := hide (fun i hi => by
    obtain ⟨o, hn⟩ := hl i hi
    have := o.2.2.2 s (by omega)
    have := o.2.2.1
    omega)
  obtain ⟨xl, xh⟩ := W
  obtain ⟨h1, h2⟩ := hW
  dsimp only at h1 h2 hs hw4 hwl ⊢
  obtain ⟨a1, c1, rfl⟩ := h1.form
  obtain ⟨a2, c2, rfl⟩ := h2.form
  have m1 := h1.at.2.1
  have m2 := h2.at.2.1
  unfold maxLen at m1 m2
  rw [hwl] at h2 m2 ⊢
  have HB := hide h
  clear hok hl h
  have K1 := hide (fun w' (k : Below w.heap.size w w') => (h1.below k).at.2.2 s hs)
  have K2 := hide (fun w' (k : Below w.heap.size w w') => (h2.below k).at.2.2 s hs)
  clear h1 h2
  have SM : Hid (∀ ms : List Int, ms.length ≤ 9 → ix xl s ∈ ms → (∀ x, x ∈ ms → ix xl s ≤ x ∧ x ≤ ix xh s) → (∀ i, i < l.length → ix xl s < ix (bx l i).2 s + 1 → ix (bx l i).2 s + 1 ≤ ix xh s → ix (bx l i).2 s + 1 ∈ ms) → isM l s (ix xl s) (ix xh s) (Lib.compact (ms.mergeSort fun x y => decide (x ≤ y)))) :=
    hide (fun ms h1 h2 h3 h4 => isM_sorted h1 h2 h3 (fun b hb => by obtain ⟨i, hi, rfl⟩ := bx_of hb; exact h4 i hi))
  generalize isM l s (ix xl s) (ix xh s) = IM at *
  generalize ix xl s = lo at *
  generalize ix xh s = hi at *
  generalize xl.length = n1 at *
  clear hwl
  have b0 := below1 w (Obj.cells #[.slice a1 n1 c1, .slice a2 n1 c2] 25)
  have x0 : (w.alloc (Obj.cells #[.slice a1 n1 c1, .slice a2 n1 c2] 25)).cell? ⟨w.heap.size, 0, none⟩ = some (.slice a1 n1 c1) := by go_simp
  have x1 : (w.alloc (Obj.cells #[.slice a1 n1 c1, .slice a2 n1 c2] 25)).cell? ⟨w.heap.size, 1, none⟩ = some (.slice a2 n1 c2) := by go_simp
  have hz : (w.alloc (Obj.cells #[.slice a1 n1 c1, .slice a2 n1 c2] 25)).heap.size = w.heap.size + 1 := by simp
  obtain ⟨bl1, o1, rfl, t1, y1⟩ := unhide K1 _ b0
  go_enter Try.func19, Try.ntmps19
  go_wp2_with fail
  have hold0 : Own1 (w.heap.size + 1) ((w.alloc (Obj.cells #[.slice (some ⟨bl1, o1, none⟩) n1 c1, .slice a2 n1 c2] 25)).alloc (Obj.cells #[.int .i64 lo] 3)) (.slice (some ⟨w.heap.size + 1, 0, none⟩) 1 1) [lo] := by
    have := own_new (B := w.heap.size + 1) (w := w.alloc (Obj.cells #[.slice (some ⟨bl1, o1, none⟩) n1 c1, .slice a2 n1 c2] 25)) (by rw [hz]; exact Nat.le_refl _) lo
    rwa [hz] at this
  have bel0 : Below (w.heap.size + 1) (w.alloc (Obj.cells #[.slice (some ⟨bl1, o1, none⟩) n1 c1, .slice a2 n1 c2] 25)) ((w.alloc (Obj.cells #[.slice (some ⟨bl1, o1, none⟩) n1 c1, .slice a2 n1 c2] 25)).alloc (Obj.cells #[.int .i64 lo] 3)) := by
    have := below1 (w.alloc (Obj.cells #[.slice (some ⟨bl1, o1, none⟩) n1 c1, .slice a2 n1 c2] 25)) (Obj.cells #[.int .i64 lo] 3)
    rwa [hz] at this
  generalize w.alloc (Obj.cells #[.slice (some ⟨bl1, o1, none⟩) n1 c1, .slice a2 n1 c2] 25) = W0 at *
  clear y1
  go_loopw [7, 19] (fun v i wr => ∃ (j : Nat) (ms : List Int), j ≤ l.length ∧ i = .int .i64 j ∧ Below (w.heap.size + 1) W0 wr ∧ Own1 (w.heap.size + 1) wr v ms ∧ v ≠ .slice none 0 0 ∧ Hid (ms.length ≤ j + 1 ∧ lo ∈ ms ∧ (∀ x, x ∈ ms → lo ≤ x ∧ x ≤ hi) ∧ ∀ i, i < j → lo < ix (bx l i).2 s + 1 → ix (bx l i).2 s + 1 ≤ hi → ix (bx l i).2 s + 1 ∈ ms)) (fun _ i _ => l.length - (intOf i).toNat)
  case atStart => exact ⟨0, [lo], Nat.zero_le _, rfl, bel0, hold0, (by simp), hide ⟨by simp, by simp, by simp; omega, fun i hi => absurd hi (Nat.not_lt_zero _)⟩⟩
  case round =>
    obtain ⟨j, ms, hj, rfl, bel, own, hv, HM⟩ := hrel
    clear hold0 bel0
    have belw : Below w.heap.size w wr := b0.trans (bel.mono (by omega))
    have hzw : w.heap.size < wr.heap.size := by have := bel.size; omega
    have c0 : wr.cell? ⟨w.heap.size, 0, none⟩ = some (.slice (some ⟨bl1, o1, none⟩) n1 c1) := (bel.cell (p := ⟨w.heap.size, 0, none⟩) (by show w.heap.size < w.heap.size + 1; omega)).trans x0
    have c1' : wr.cell? ⟨w.heap.size, 1, none⟩ = some (.slice a2 n1 c2) := (bel.cell (p := ⟨w.heap.size, 1, none⟩) (by show w.heap.size < w.heap.size + 1; omega)).trans x1
    by_cases hlt : j < l.length
    · obtain ⟨blA, oA, r1, r2, rfl, hqA, hbA, kA, kB, kC⟩ := (unhide HB).below belw j hlt
      obtain ⟨a3, c3, rfl⟩ := kC.1.form
      obtain ⟨a4, c4, rfl⟩ := kC.2.form
      obtain ⟨hs4, hp0, hp1⟩ := unhide hbx j hlt
      obtain ⟨bl4, o4, rfl, t4, y4⟩ := kC.2.at.2.2 s hs4
      obtain ⟨bl1', o1', e1, t1', y1⟩ := unhide K1 _ belw
      obtain ⟨bl2, o2, rfl, t2, y2⟩ := unhide K2 _ belw
      simp only [Option.some.injEq, Addr.mk.injEq] at e1
      obtain ⟨rfl, rfl, -⟩ := e1
      have m4 := kC.2.at.2.1
      unfold maxLen at m4
      have KEEP := hide (fun (v' : Value) (w' : World) (ms' : List Int) (k : Below (w.heap.size + 1) wr w') => bel.trans k)
      have HM' : Hid (∀ ms' : List Int, ms'.length ≤ ms.length + 1 → (∀ x, x ∈ ms → x ∈ ms') → (∀ x, x ∈ ms' → x ∈ ms ∨ (x = ix (bx l j).2 s + 1 ∧ lo < ix (bx l j).2 s + 1 ∧ ix (bx l j).2 s + 1 ≤ hi)) → (lo < ix (bx l j).2 s + 1 → ix (bx l j).2 s + 1 ≤ hi → ix (bx l j).2 s + 1 ∈ ms') → ms'.length ≤ j + 1 + 1 ∧ lo ∈ ms' ∧ (∀ x, x ∈ ms' → lo ≤ x ∧ x ≤ hi) ∧ ∀ i, i < j + 1 → lo < ix (bx l i).2 s + 1 → ix (bx l i).2 s + 1 ≤ hi → ix (bx l i).2 s + 1 ∈ ms') := hide (fun ms' d1 d2 d3 d4 => by
        obtain ⟨q1, q2, q3, q4⟩ := unhide HM
        refine ⟨by omega, d2 _ q2, fun x hx => ?_, fun i hi hc1 hc2 => ?_⟩
        · rcases d3 x hx with h | ⟨rfl, h1, h2⟩
          · exact q3 x h
          · omega
        · by_cases e : i = j
          · subst e; exact d4 hc1 hc2
          · exact d2 _ (q4 i (by omega) hc1 hc2))
      have hml : ms.length ≤ 9 := by have := (unhide HM).1; omega
      clear HM HB hbx kC K1 K2 SM
      generalize ix (bx l j).2 s = p at *
      generalize (bx l j).2.length = n4 at *
      generalize (bx l j).1.length = n3 at *
      by_cases g1 : lo < p + 1
      · by_cases g2 : p + 1 ≤ hi
        · have bk : Below (w.heap.size + 1) wr ((wr.alloc (Obj.cells #[.slice a3 n3 c3, .slice (some ⟨bl4, o4, none⟩) n4 c4] 25)).alloc (Obj.cells #[.int .i64 (p + 1)] 3)) := (below2 wr _ _).mono (by omega)
          have own2 : Own1 (w.heap.size + 1) ((wr.alloc (Obj.cells #[.slice a3 n3 c3, .slice (some ⟨bl4, o4, none⟩) n4 c4] 25)).alloc (Obj.cells #[.int .i64 (p + 1)] 3)) _ ms := own_below own (below2 wr _ _)
          have hc2 : ((wr.alloc (Obj.cells #[.slice a3 n3 c3, .slice (some ⟨bl4, o4, none⟩) n4 c4] 25)).alloc (Obj.cells #[.int .i64 (p + 1)] 3)).cell? ⟨wr.heap.size + 1, 0, none⟩ = some (.int .i64 (p + 1)) := by go_simp
          have hs2 : w.heap.size + 1 ≤ ((wr.alloc (Obj.cells #[.slice a3 n3 c3, .slice (some ⟨bl4, o4, none⟩) n4 c4] 25)).alloc (Obj.cells #[.int .i64 (p + 1)] 3)).heap.size := by simp; omega
          go_wp2_with (at_builtin; go_must (refine wpList_n rfl _ _ rfl (w.heap.size + 1) _ ms rfl own2 (wr.heap.size + 1) (p + 1) rfl hc2 (by omega) hs2 ?_))
          intro v' w2 own' hv' gr
          have B2 := unhide KEEP v' w2 ms (bk.grown gr hs2 (fun k hk => own_ge own k hk))
          have NEW := hide (unhide HM' (ms ++ [p + 1]) (by simp) (fun x hx => List.mem_append_left _ hx) (fun x hx => by
            rcases List.mem_append.1 hx with h | h
            · exact .inl h
            · exact .inr ⟨by simpa using h, g1, g2⟩) (fun _ _ => by simp))
          clear HM' KEEP own own2 bk hv
          go_wp2_with fail
          go_roundw
          case rel => exact ⟨j + 1, _, by omega, by go_num, B2, own', hv', NEW⟩
          case measure => simp [intOf]; omega
        · have bk : Below (w.heap.size + 1) wr (wr.alloc (Obj.cells #[.slice a3 n3 c3, .slice (some ⟨bl4, o4, none⟩) n4 c4] 25)) := (below1 wr _).mono (by omega)
          have own2 : Own1 (w.heap.size + 1) (wr.alloc (Obj.cells #[.slice a3 n3 c3, .slice (some ⟨bl4, o4, none⟩) n4 c4] 25)) _ ms := own_below own (below1 wr _)
          have B2 := unhide KEEP (.slice none 0 0) _ ms bk
          have NEW := hide (unhide HM' ms (by omega) (fun x hx => hx) (fun x hx => .inl hx) (fun _ h => absurd h g2))
          clear HM' KEEP own bk
          go_wp2_with fail
          go_roundw
          case rel => exact ⟨j + 1, _, by omega, by go_num, B2, own2, hv, NEW⟩
          case measure => simp [intOf]; omega
      · have bk : Below (w.heap.size + 1) wr (wr.alloc (Obj.cells #[.slice a3 n3 c3, .slice (some ⟨bl4, o4, none⟩) n4 c4] 25)) := (below1 wr _).mono (by omega)
        have own2 : Own1 (w.heap.size + 1) (wr.alloc (Obj.cells #[.slice a3 n3 c3, .slice (some ⟨bl4, o4, none⟩) n4 c4] 25)) _ ms := own_below own (below1 wr _)
        have B2 := unhide KEEP (.slice none 0 0) _ ms bk
        have NEW := hide (unhide HM' ms (by omega) (fun x hx => hx) (fun x hx => .inl hx) (fun h _ => absurd h g1))
        clear HM' KEEP own bk
        go_wp2_with fail
        go_roundw
        case rel => exact ⟨j + 1, _, by omega, by go_num, B2, own2, hv, NEW⟩
        case measure => simp [intOf]; omega
    · obtain ⟨q1, q2, q3, q4⟩ := unhide HM
      have ST := hide (sort_any (w.heap.size + 1) ms _ wr own hv (by omega) (by have := bel.size; omega))
      have FIN := hide (unhide SM ms (by omega) q2 q3 (fun i hi c1 c2 => q4 i (by omega) c1 c2))
      have hl9 : (ms.mergeSort fun x y => decide (x ≤ y)).length ≤ 9 := by rw [List.length_mergeSort]; omega
      generalize (ms.mergeSort fun x y => decide (x ≤ y)) = ns at *
      clear HM HB hbx K1 K2 SM q1 q2 q3 q4 own
      go_wp2_with fail
      refine (unhide ST).mono ?_
      rintro e w2 ⟨rfl, own2, b2⟩
      have CM := hide (compact_any (w.heap.size + 1) ns _ w2 own2 hv hl9)
      clear ST own2
      go_wp2_with fail
      refine (unhide CM).mono ?_
      rintro e w3 ⟨⟨g, c, rfl, own3⟩, b3⟩
      have own4 := own_weak (B' := w.heap.size) own3 (by omega)
      have B3 : Below w.heap.size w w3 := (belw.trans (b2.mono (by omega))).trans (b3.mono (by omega))
      have RES := hide (show ∃ M g' c', (Ending.returned (.slice (some ⟨g, 0, none⟩) (Lib.compact ns).length c) = Ending.returned (.slice (some ⟨g', 0, none⟩) (M : List Int).length c')) ∧ Own1 w.heap.size w3 (.slice (some ⟨g', 0, none⟩) M.length c') M ∧ IM M from ⟨_, g, c, rfl, own4, unhide FIN⟩)
      generalize Lib.compact ns = M at *
      clear CM own3 own4 FIN
      go_wp2_with fail
      go_ret
      exact ⟨unhide RES, B3⟩
end Go.Proofs.Ytpoejhdkgfikdaa
