/- Whether a point is in a box, whether two boxes meet, whether two rows are one: printed by mkbx.py. -/
import Derived.Test.YtpoejhdkgfikdaaBxIs
namespace Go.Proofs.Ytpoejhdkgfikdaa
open Go.RowKit
set_option linter.unusedVariables false
set_option linter.unusedSimpArgs false

set_option maxHeartbeats 2000000 in
theorem gin_any (Q : Nat → Prop) (b : Bx) (p : List Int) (v1 v2 v3 : Value) (w : World) (h : BoxI Q w v1 v2 b) (h3 : RowI Q w v3 p) :
    Calls Try.prog 16 #[.agg #[v1, v2], v3] w fun e w' => Ans (okB b ∧ inB b p) e ∧ Below w.heap.size w w' := by
  have IS := hide (fun w' (k : Below w.heap.size w w') => gis_any Q b v1 v2 w' (h.below k))
  obtain ⟨xl, xh⟩ := b
  obtain ⟨h1, h2⟩ := h
  dsimp only at h1 h2
  obtain ⟨a1, c1, rfl⟩ := h1.form
  have m1 := h1.at.2.1
  obtain ⟨a2, c2, rfl⟩ := h2.form
  have m2 := h2.at.2.1
  obtain ⟨a3, c3, rfl⟩ := h3.form
  have m3 := h3.at.2.1
  unfold maxLen at m1 m2 m3
  have NOT : Hid (∀ i, i < p.length → (ix p i < ix xl i ∨ ix xh i < ix p i) → ¬ (okB (xl, xh) ∧ inB (xl, xh) p)) := hide (fun i hi h => by rintro ⟨-, -, hk⟩; have := hk i hi; dsimp only at this; omega)
  have NLN : Hid (p.length ≠ xl.length → ¬ (okB (xl, xh) ∧ inB (xl, xh) p)) := hide (fun hne => by rintro ⟨-, hk, -⟩; exact hne hk)
  have YES0 : Hid (okB (xl, xh) → p.length = xl.length → (∀ i, i < p.length → ix xl i ≤ ix p i ∧ ix p i ≤ ix xh i) → okB (xl, xh) ∧ inB (xl, xh) p) := hide (fun ho hl h => ⟨ho, hl, h⟩)
  have NOK : Hid (¬ okB (xl, xh) → ¬ (okB (xl, xh) ∧ inB (xl, xh) p)) := hide (fun hn hh => hn hh.1)
  have HLN : Hid (okB (xl, xh) → xh.length = xl.length) := hide (fun ho => ho.2.2.1)
  generalize (okB (xl, xh) ∧ inB (xl, xh) p) = P at *
  generalize okB (xl, xh) = O at *
  go_enter Try.func16, Try.ntmps16
  go_wp2_with fail
  have b0 := below1 w (Obj.cells #[.slice a1 xl.length c1, .slice a2 xh.length c2] 25)
  have x0 : (w.alloc (Obj.cells #[.slice a1 xl.length c1, .slice a2 xh.length c2] 25)).cell? ⟨w.heap.size, 0, none⟩ = some (.slice a1 xl.length c1) := by go_simp
  have x1 : (w.alloc (Obj.cells #[.slice a1 xl.length c1, .slice a2 xh.length c2] 25)).cell? ⟨w.heap.size, 1, none⟩ = some (.slice a2 xh.length c2) := by go_simp
  have hz : w.heap.size < (w.alloc (Obj.cells #[.slice a1 xl.length c1, .slice a2 xh.length c2] 25)).heap.size := by simp
  generalize w.alloc (Obj.cells #[.slice a1 xl.length c1, .slice a2 xh.length c2] 25) = W0 at *
  refine (unhide IS _ b0).mono ?_
  rintro e W ⟨⟨r, rfl, hr⟩, b1⟩
  have x0 := ((bcell b1).1 _ _ hz).trans x0
  have x1 := ((bcell b1).1 _ _ hz).trans x1
  have b2 := bstep b0 b1
  have hz := Nat.lt_of_lt_of_le hz b1.size
  clear b0 b1 IS
  cases r
  · have hno : ¬ O := fun h => by have := hr.2 h; cases this
    go_wp2_with fail
    go_ret
    exact ⟨ans_no (unhide NOK hno), b2⟩
  have hyes : O := hr.1 rfl
  have hn2 := unhide HLN hyes
  have L1 := (h1.below b2).at.2.2
  have L2 := (h2.below b2).at.2.2
  have L3 := (h3.below b2).at.2.2
  clear hr h1 h2 h3 HLN NOK
  rw [hn2] at m2 x1 L2
  have L1 := hide L1
  have L2 := hide L2
  have L3 := hide L3
  have YES1 := hide (unhide YES0 hyes)
  clear YES0
  generalize xl.length = n1 at *
  generalize p.length = n3 at *
  clear hn2
  by_cases hln : n3 = n1
  · subst hln
    have z : ((n3 : Int) != n3) = false := by simp
    have YES := hide (unhide YES1 rfl)
    clear YES1
    go_wp2_with fail
    go_loop [20] (fun i => ∃ j : Nat, j ≤ n3 ∧ i = .int .i64 j ∧ Hid (∀ i, i < j → ix xl i ≤ ix p i ∧ ix p i ≤ ix xh i)) (fun i => n3 - (intOf i).toNat)
    case atStart => exact ⟨0, Nat.zero_le _, rfl, hide (fun i hi => absurd hi (Nat.not_lt_zero _))⟩
    case round =>
      obtain ⟨j, hj, rfl, H⟩ := hrel
      have bb := b2
      by_cases hlt : j < n3
      · have NO := hide (unhide NOT j hlt)
        have GO := hide (fun (h : ix xl j ≤ ix p j ∧ ix p j ≤ ix xh j) i (hi : i < j + 1) => (if e : i = j then e ▸ h else unhide H i (by omega) : ix xl i ≤ ix p i ∧ ix p i ≤ ix xh i))
        obtain ⟨bl0, o0, rfl, t0, y0⟩ := unhide L1 j (by omega)
        obtain ⟨bl1, o1, rfl, t1, y1⟩ := unhide L2 j (by omega)
        obtain ⟨bl2, o2, rfl, t2, y2⟩ := unhide L3 j (by omega)
        clear H NOT
        generalize ix xl j = p1 at *
        generalize ix xh j = p2 at *
        generalize ix p j = p3 at *
        by_cases g0 : p3 < p1
        · go_wp2_with fail
          go_ret
          exact ⟨ans_no (unhide NO (.inl g0)), bb⟩
        by_cases g1 : p2 < p3
        · go_wp2_with fail
          go_ret
          exact ⟨ans_no (unhide NO (.inr g1)), bb⟩
        go_wp2_with fail
        go_round
        case rel => exact ⟨j + 1, by omega, by go_num, hide (unhide GO (by omega))⟩
        case measure => simp [intOf]; omega
      · go_wp2_with fail
        go_ret
        exact ⟨ans_yes (unhide YES (fun i hi => unhide H i (by omega))), bb⟩
  · have z : ((n3 : Int) != n1) = true := by simp; omega
    go_wp2_with fail
    go_ret
    exact ⟨ans_no (unhide NLN hln), b2⟩

set_option maxHeartbeats 2000000 in
theorem rin_any (Q : Nat → Prop) (b : Bx) (p : List Int) (v1 v2 v3 : Value) (w : World) (h : BoxI Q w v1 v2 b) (h3 : RowI Q w v3 p) (hn2 : b.2.length = b.1.length) :
    Calls Try.prog 17 #[.agg #[v1, v2], v3] w fun e w' => Ans (inB b p) e ∧ Below w.heap.size w w' := by
  obtain ⟨xl, xh⟩ := b
  obtain ⟨h1, h2⟩ := h
  dsimp only at h1 h2 hn2
  obtain ⟨a1, c1, rfl⟩ := h1.form
  have m1 := h1.at.2.1
  obtain ⟨a2, c2, rfl⟩ := h2.form
  have m2 := h2.at.2.1
  obtain ⟨a3, c3, rfl⟩ := h3.form
  have m3 := h3.at.2.1
  unfold maxLen at m1 m2 m3
  have NOT : Hid (∀ i, i < p.length → (ix p i < ix xl i ∨ ix xh i < ix p i) → ¬ inB (xl, xh) p) := hide (fun i hi h => by rintro ⟨-, hk⟩; have := hk i hi; dsimp only at this; omega)
  have NLN : Hid (p.length ≠ xl.length → ¬ inB (xl, xh) p) := hide (fun hne => by rintro ⟨hk, -⟩; exact hne hk)
  have YES1 : Hid (p.length = xl.length → (∀ i, i < p.length → ix xl i ≤ ix p i ∧ ix p i ≤ ix xh i) → inB (xl, xh) p) := hide (fun hl h => ⟨hl, h⟩)
  generalize inB (xl, xh) p = P at *
  have b0 := below1 w (Obj.cells #[.slice a1 xl.length c1, .slice a2 xh.length c2] 25)
  have L1 := (h1.below b0).at.2.2
  have L2 := (h2.below b0).at.2.2
  have L3 := (h3.below b0).at.2.2
  clear h1 h2 h3
  rw [hn2] at m2 L1 L2 L3 b0 ⊢
  have L1 := hide L1
  have L2 := hide L2
  have L3 := hide L3
  generalize xl.length = n1 at *
  generalize p.length = n3 at *
  clear hn2
  by_cases hln : n3 = n1
  · subst hln
    have z : ((n3 : Int) != n3) = false := by simp
    have YES := hide (unhide YES1 rfl)
    clear YES1
    go_enter Try.func17, Try.ntmps17
    go_wp2_with fail
    have x0 : (w.alloc (Obj.cells #[.slice a1 n3 c1, .slice a2 n3 c2] 25)).cell? ⟨w.heap.size, 0, none⟩ = some (.slice a1 n3 c1) := by go_simp
    have x1 : (w.alloc (Obj.cells #[.slice a1 n3 c1, .slice a2 n3 c2] 25)).cell? ⟨w.heap.size, 1, none⟩ = some (.slice a2 n3 c2) := by go_simp
    generalize w.alloc (Obj.cells #[.slice a1 n3 c1, .slice a2 n3 c2] 25) = W at *
    go_loopw [5] (fun i wr => ∃ j m : Nat, j ≤ n3 ∧ i = .int .i64 j ∧ wr = W.drewN m ∧ Hid (∀ i, i < j → ix xl i ≤ ix p i ∧ ix p i ≤ ix xh i)) (fun i _ => n3 - (intOf i).toNat)
    case atStart => exact ⟨0, 0, Nat.zero_le _, rfl, rfl, hide (fun i hi => absurd hi (Nat.not_lt_zero _))⟩
    case round =>
      obtain ⟨j, m, hj, rfl, rfl, H⟩ := hrel
      have bb : Below w.heap.size w (W.drewN m) := below_drewN b0 _
      by_cases hlt : j < n3
      · have NO := hide (unhide NOT j hlt)
        have GO := hide (fun (h : ix xl j ≤ ix p j ∧ ix p j ≤ ix xh j) i (hi : i < j + 1) => (if e : i = j then e ▸ h else unhide H i (by omega) : ix xl i ≤ ix p i ∧ ix p i ≤ ix xh i))
        obtain ⟨bl0, o0, rfl, t0, y0⟩ := unhide L1 j (by omega)
        obtain ⟨bl1, o1, rfl, t1, y1⟩ := unhide L2 j (by omega)
        obtain ⟨bl2, o2, rfl, t2, y2⟩ := unhide L3 j (by omega)
        clear H NOT
        generalize ix xl j = p1 at *
        generalize ix xh j = p2 at *
        generalize ix p j = p3 at *
        by_cases g0 : p3 < p1
        · go_wp2_with fail
          go_quiet (fail)
          go_wp2_with fail
          go_ret
          exact ⟨ans_no (unhide NO (.inl g0)), below_drewN bb _⟩
        by_cases g1 : p2 < p3
        · go_wp2_with fail
          go_quiet (fail)
          go_wp2_with fail
          go_ret
          exact ⟨ans_no (unhide NO (.inr g1)), below_drewN bb _⟩
        go_wp2_with fail
        go_quiet (fail)
        go_wp2_with fail
        go_roundw
        case rel => exact ⟨j + 1, _, by omega, by go_num, (by first | rfl | exact World.drewN_drewN _ _ _), hide (unhide GO (by omega))⟩
        case measure => simp [intOf]; omega
      · go_wp2_with fail
        go_ret
        exact ⟨ans_yes (unhide YES (fun i hi => unhide H i (by omega))), bb⟩
  · have z : ((n3 : Int) != n1) = true := by simp; omega
    go_enter Try.func17, Try.ntmps17
    go_wp2_with fail
    go_ret
    exact ⟨ans_no (unhide NLN hln), b0⟩

set_option maxHeartbeats 2000000 in
theorem ints_any (Q Q' : Nat → Prop) (p q : List Int) (v1 v2 : Value) (w : World) (h1 : RowI Q w v1 p) (h2 : RowI Q' w v2 q) :
    Calls Try.prog 15 #[v1, v2] w fun e w' => Ans (p = q) e ∧ Below w.heap.size w w' := by
  obtain ⟨a1, c1, rfl⟩ := h1.form
  have m1 := h1.at.2.1
  obtain ⟨a2, c2, rfl⟩ := h2.form
  have m2 := h2.at.2.1
  unfold maxLen at m1 m2
  have NOT : Hid (∀ i, i < p.length → (ix p i ≠ ix q i) → ¬ p = q) := hide (fun i hi h e => h (by rw [e]))
  have NLN : Hid (p.length ≠ q.length → ¬ p = q) := hide (fun hne e => hne (by rw [e]))
  have YES1 : Hid (p.length = q.length → (∀ i, i < p.length → ix p i = ix q i) → p = q) := hide (fun hl h => ix_ext hl h)
  have b0 := Below.refl w.heap.size w
  have L1 := hide (h1.at.2.2)
  have L2 := hide (h2.at.2.2)
  clear h1 h2
  generalize (p = q) = P at *
  generalize p.length = n1 at *
  generalize q.length = n2 at *
  by_cases hln : n1 = n2
  · subst hln
    have z : ((n1 : Int) != n1) = false := by simp
    have YES := hide (unhide YES1 rfl)
    clear YES1
    go_enter Try.func15, Try.ntmps15
    go_wp2_with fail
    go_loopw [5] (fun i wr => ∃ j m : Nat, j ≤ n1 ∧ i = .int .i64 j ∧ wr = w.drewN m ∧ Hid (∀ i, i < j → ix p i = ix q i)) (fun i _ => n1 - (intOf i).toNat)
    case atStart => exact ⟨0, 0, Nat.zero_le _, rfl, rfl, hide (fun i hi => absurd hi (Nat.not_lt_zero _))⟩
    case round =>
      obtain ⟨j, m, hj, rfl, rfl, H⟩ := hrel
      have bb : Below w.heap.size w (w.drewN m) := below_drewN b0 _
      by_cases hlt : j < n1
      · have NO := hide (unhide NOT j hlt)
        have GO := hide (fun (h : ix p j = ix q j) i (hi : i < j + 1) => (if e : i = j then e ▸ h else unhide H i (by omega) : ix p i = ix q i))
        obtain ⟨bl0, o0, rfl, t0, y0⟩ := unhide L1 j (by omega)
        obtain ⟨bl1, o1, rfl, t1, y1⟩ := unhide L2 j (by omega)
        clear H NOT
        generalize ix p j = p1 at *
        generalize ix q j = p2 at *
        by_cases g0 : ¬ p1 = p2
        · go_wp2_with fail
          go_quiet (fail)
          go_wp2_with fail
          go_ret
          exact ⟨ans_no (unhide NO (g0)), below_drewN bb _⟩
        go_wp2_with fail
        go_quiet (fail)
        go_wp2_with fail
        go_roundw
        case rel => exact ⟨j + 1, _, by omega, by go_num, (by first | rfl | exact World.drewN_drewN _ _ _), hide (unhide GO (by omega))⟩
        case measure => simp [intOf]; omega
      · go_wp2_with fail
        go_ret
        exact ⟨ans_yes (unhide YES (fun i hi => unhide H i (by omega))), bb⟩
  · have z : ((n1 : Int) != n2) = true := by simp; omega
    go_enter Try.func15, Try.ntmps15
    go_wp2_with fail
    go_ret
    exact ⟨ans_no (unhide NLN hln), b0⟩

set_option maxHeartbeats 2000000 in
theorem gmeet_any (Q : Nat → Prop) (a b : Bx) (v1 v2 v3 v4 : Value) (w : World) (h : BoxI Q w v1 v2 a) (h' : BoxI Q w v3 v4 b) (hn : a.2.length = a.1.length) (hm : b.1.length = a.1.length) (hk : b.2.length = a.1.length) :
    Calls Try.prog 22 #[.agg #[v1, v2], .agg #[v3, v4]] w fun e w' => Ans (meets a b) e ∧ Below w.heap.size w w' := by
  obtain ⟨xl, xh⟩ := a
  obtain ⟨yl, yh⟩ := b
  obtain ⟨h1, h2⟩ := h
  obtain ⟨h3, h4⟩ := h'
  dsimp only at h1 h2 h3 h4 hn hm hk
  obtain ⟨a1, c1, rfl⟩ := h1.form
  have m1 := h1.at.2.1
  obtain ⟨a2, c2, rfl⟩ := h2.form
  have m2 := h2.at.2.1
  obtain ⟨a3, c3, rfl⟩ := h3.form
  have m3 := h3.at.2.1
  obtain ⟨a4, c4, rfl⟩ := h4.form
  have m4 := h4.at.2.1
  unfold maxLen at m1 m2 m3 m4
  have NOT : Hid (∀ i, i < xl.length → (ix yh i < ix xl i ∨ ix xh i < ix yl i) → ¬ meets (xl, xh) (yl, yh)) := hide (fun i hi h hc => by have := hc i hi; dsimp only at this; omega)
  have YES : Hid ((∀ i, i < xl.length → ix xl i ≤ ix yh i ∧ ix yl i ≤ ix xh i) → meets (xl, xh) (yl, yh)) := hide (fun h => h)
  generalize meets (xl, xh) (yl, yh) = P at *
  rw [hn, hm, hk] at *
  have b0 := below2 w (Obj.cells #[.slice a1 xl.length c1, .slice a2 xl.length c2] 25) (Obj.cells #[.slice a3 xl.length c3, .slice a4 xl.length c4] 25)
  have L1 := hide (h1.below b0).at.2.2
  have L2 := (h2.below b0).at.2.2
  have L3 := (h3.below b0).at.2.2
  have L4 := (h4.below b0).at.2.2
  clear h1 h2 h3 h4
  rw [hn] at L2
  rw [hm] at L3
  rw [hk] at L4
  have L2 := hide L2
  have L3 := hide L3
  have L4 := hide L4
  generalize xl.length = n1 at *
  clear hn hm hk
  go_enter Try.func22, Try.ntmps22
  go_wp2_with fail
  have x0 : ((w.alloc (Obj.cells #[.slice a1 n1 c1, .slice a2 n1 c2] 25)).alloc (Obj.cells #[.slice a3 n1 c3, .slice a4 n1 c4] 25)).cell? ⟨w.heap.size, 0, none⟩ = some (.slice a1 n1 c1) := by go_simp
  have x1 : ((w.alloc (Obj.cells #[.slice a1 n1 c1, .slice a2 n1 c2] 25)).alloc (Obj.cells #[.slice a3 n1 c3, .slice a4 n1 c4] 25)).cell? ⟨w.heap.size, 1, none⟩ = some (.slice a2 n1 c2) := by go_simp
  have x2 : ((w.alloc (Obj.cells #[.slice a1 n1 c1, .slice a2 n1 c2] 25)).alloc (Obj.cells #[.slice a3 n1 c3, .slice a4 n1 c4] 25)).cell? ⟨w.heap.size + 1, 0, none⟩ = some (.slice a3 n1 c3) := by go_simp
  have x3 : ((w.alloc (Obj.cells #[.slice a1 n1 c1, .slice a2 n1 c2] 25)).alloc (Obj.cells #[.slice a3 n1 c3, .slice a4 n1 c4] 25)).cell? ⟨w.heap.size + 1, 1, none⟩ = some (.slice a4 n1 c4) := by go_simp
  generalize (w.alloc (Obj.cells #[.slice a1 n1 c1, .slice a2 n1 c2] 25)).alloc (Obj.cells #[.slice a3 n1 c3, .slice a4 n1 c4] 25) = W at *
  go_loopw [9] (fun i wr => ∃ j m : Nat, j ≤ n1 ∧ i = .int .i64 j ∧ wr = W.drewN m ∧ Hid (∀ i, i < j → ix xl i ≤ ix yh i ∧ ix yl i ≤ ix xh i)) (fun i _ => n1 - (intOf i).toNat)
  case atStart => exact ⟨0, 0, Nat.zero_le _, rfl, rfl, hide (fun i hi => absurd hi (Nat.not_lt_zero _))⟩
  case round =>
    obtain ⟨j, m, hj, rfl, rfl, H⟩ := hrel
    have bb : Below w.heap.size w (W.drewN m) := below_drewN b0 _
    by_cases hlt : j < n1
    · have NO := hide (unhide NOT j hlt)
      have GO := hide (fun (h : ix xl j ≤ ix yh j ∧ ix yl j ≤ ix xh j) i (hi : i < j + 1) => (if e : i = j then e ▸ h else unhide H i (by omega) : ix xl i ≤ ix yh i ∧ ix yl i ≤ ix xh i))
      obtain ⟨bl0, o0, rfl, t0, y0⟩ := unhide L1 j (by omega)
      obtain ⟨bl1, o1, rfl, t1, y1⟩ := unhide L2 j (by omega)
      obtain ⟨bl2, o2, rfl, t2, y2⟩ := unhide L3 j (by omega)
      obtain ⟨bl3, o3, rfl, t3, y3⟩ := unhide L4 j (by omega)
      clear H NOT
      generalize ix xl j = p1 at *
      generalize ix xh j = p2 at *
      generalize ix yl j = p3 at *
      generalize ix yh j = p4 at *
      by_cases g0 : p4 < p1
      · go_wp2_with fail
        go_quiet (fail)
        go_wp2_with fail
        go_ret
        exact ⟨ans_no (unhide NO (.inl g0)), below_drewN bb _⟩
      by_cases g1 : p2 < p3
      · go_wp2_with fail
        go_quiet (fail)
        go_wp2_with fail
        go_ret
        exact ⟨ans_no (unhide NO (.inr g1)), below_drewN bb _⟩
      go_wp2_with fail
      go_quiet (fail)
      go_wp2_with fail
      go_roundw
      case rel => exact ⟨j + 1, _, by omega, by go_num, (by first | rfl | exact World.drewN_drewN _ _ _), hide (unhide GO (by omega))⟩
      case measure => simp [intOf]; omega
    · go_wp2_with fail
      go_ret
      exact ⟨ans_yes (unhide YES (fun i hi => unhide H i (by omega))), bb⟩

set_option maxHeartbeats 2000000 in
theorem rmeet_any (Q : Nat → Prop) (a b : Bx) (v1 v2 v3 v4 : Value) (w : World) (h : BoxI Q w v1 v2 a) (h' : BoxI Q w v3 v4 b) (hn : a.2.length = a.1.length) (hm : b.1.length = a.1.length) (hk : b.2.length = a.1.length) :
    Calls Try.prog 23 #[.agg #[v1, v2], .agg #[v3, v4]] w fun e w' => Ans (meets a b) e ∧ Below w.heap.size w w' := by
  obtain ⟨xl, xh⟩ := a
  obtain ⟨yl, yh⟩ := b
  obtain ⟨h1, h2⟩ := h
  obtain ⟨h3, h4⟩ := h'
  dsimp only at h1 h2 h3 h4 hn hm hk
  obtain ⟨a1, c1, rfl⟩ := h1.form
  have m1 := h1.at.2.1
  obtain ⟨a2, c2, rfl⟩ := h2.form
  have m2 := h2.at.2.1
  obtain ⟨a3, c3, rfl⟩ := h3.form
  have m3 := h3.at.2.1
  obtain ⟨a4, c4, rfl⟩ := h4.form
  have m4 := h4.at.2.1
  unfold maxLen at m1 m2 m3 m4
  have NOT : Hid (∀ i, i < xl.length → (ix yh i < ix xl i ∨ ix xh i < ix yl i) → ¬ meets (xl, xh) (yl, yh)) := hide (fun i hi h hc => by have := hc i hi; dsimp only at this; omega)
  have YES : Hid ((∀ i, i < xl.length → ix xl i ≤ ix yh i ∧ ix yl i ≤ ix xh i) → meets (xl, xh) (yl, yh)) := hide (fun h => h)
  generalize meets (xl, xh) (yl, yh) = P at *
  rw [hn, hm, hk] at *
  have b0 := below2 w (Obj.cells #[.slice a1 xl.length c1, .slice a2 xl.length c2] 25) (Obj.cells #[.slice a3 xl.length c3, .slice a4 xl.length c4] 25)
  have L1 := hide (h1.below b0).at.2.2
  have L2 := (h2.below b0).at.2.2
  have L3 := (h3.below b0).at.2.2
  have L4 := (h4.below b0).at.2.2
  clear h1 h2 h3 h4
  rw [hn] at L2
  rw [hm] at L3
  rw [hk] at L4
  have L2 := hide L2
  have L3 := hide L3
  have L4 := hide L4
  generalize xl.length = n1 at *
  clear hn hm hk
  go_enter Try.func23, Try.ntmps23
  go_wp2_with fail
  have x0 : ((w.alloc (Obj.cells #[.slice a1 n1 c1, .slice a2 n1 c2] 25)).alloc (Obj.cells #[.slice a3 n1 c3, .slice a4 n1 c4] 25)).cell? ⟨w.heap.size, 0, none⟩ = some (.slice a1 n1 c1) := by go_simp
  have x1 : ((w.alloc (Obj.cells #[.slice a1 n1 c1, .slice a2 n1 c2] 25)).alloc (Obj.cells #[.slice a3 n1 c3, .slice a4 n1 c4] 25)).cell? ⟨w.heap.size, 1, none⟩ = some (.slice a2 n1 c2) := by go_simp
  have x2 : ((w.alloc (Obj.cells #[.slice a1 n1 c1, .slice a2 n1 c2] 25)).alloc (Obj.cells #[.slice a3 n1 c3, .slice a4 n1 c4] 25)).cell? ⟨w.heap.size + 1, 0, none⟩ = some (.slice a3 n1 c3) := by go_simp
  have x3 : ((w.alloc (Obj.cells #[.slice a1 n1 c1, .slice a2 n1 c2] 25)).alloc (Obj.cells #[.slice a3 n1 c3, .slice a4 n1 c4] 25)).cell? ⟨w.heap.size + 1, 1, none⟩ = some (.slice a4 n1 c4) := by go_simp
  generalize (w.alloc (Obj.cells #[.slice a1 n1 c1, .slice a2 n1 c2] 25)).alloc (Obj.cells #[.slice a3 n1 c3, .slice a4 n1 c4] 25) = W at *
  go_loopw [5] (fun i wr => ∃ j m : Nat, j ≤ n1 ∧ i = .int .i64 j ∧ wr = W.drewN m ∧ Hid (∀ i, i < j → ix xl i ≤ ix yh i ∧ ix yl i ≤ ix xh i)) (fun i _ => n1 - (intOf i).toNat)
  case atStart => exact ⟨0, 0, Nat.zero_le _, rfl, rfl, hide (fun i hi => absurd hi (Nat.not_lt_zero _))⟩
  case round =>
    obtain ⟨j, m, hj, rfl, rfl, H⟩ := hrel
    have bb : Below w.heap.size w (W.drewN m) := below_drewN b0 _
    by_cases hlt : j < n1
    · have NO := hide (unhide NOT j hlt)
      have GO := hide (fun (h : ix xl j ≤ ix yh j ∧ ix yl j ≤ ix xh j) i (hi : i < j + 1) => (if e : i = j then e ▸ h else unhide H i (by omega) : ix xl i ≤ ix yh i ∧ ix yl i ≤ ix xh i))
      obtain ⟨bl0, o0, rfl, t0, y0⟩ := unhide L1 j (by omega)
      obtain ⟨bl1, o1, rfl, t1, y1⟩ := unhide L2 j (by omega)
      obtain ⟨bl2, o2, rfl, t2, y2⟩ := unhide L3 j (by omega)
      obtain ⟨bl3, o3, rfl, t3, y3⟩ := unhide L4 j (by omega)
      clear H NOT
      generalize ix xl j = p1 at *
      generalize ix xh j = p2 at *
      generalize ix yl j = p3 at *
      generalize ix yh j = p4 at *
      by_cases g0 : p4 < p1
      · go_wp2_with fail
        go_quiet (fail)
        go_wp2_with fail
        go_ret
        exact ⟨ans_no (unhide NO (.inl g0)), below_drewN bb _⟩
      by_cases g1 : p2 < p3
      · go_wp2_with fail
        go_quiet (fail)
        go_wp2_with fail
        go_ret
        exact ⟨ans_no (unhide NO (.inr g1)), below_drewN bb _⟩
      go_wp2_with fail
      go_quiet (fail)
      go_wp2_with fail
      go_roundw
      case rel => exact ⟨j + 1, _, by omega, by go_num, (by first | rfl | exact World.drewN_drewN _ _ _), hide (unhide GO (by omega))⟩
      case measure => simp [intOf]; omega
    · go_wp2_with fail
      go_ret
      exact ⟨ans_yes (unhide YES (fun i hi => unhide H i (by omega))), bb⟩

end Go.Proofs.Ytpoejhdkgfikdaa

