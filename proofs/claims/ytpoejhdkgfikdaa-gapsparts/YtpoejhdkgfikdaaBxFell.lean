/- Whether boxes may be asked together; whether a point is in one of them. -/
import Derived.Test.YtpoejhdkgfikdaaBxFind
namespace Go.Proofs.Ytpoejhdkgfikdaa
open Go.RowKit
set_option linter.unusedVariables false
set_option linter.unusedSimpArgs false

set_option maxHeartbeats 2000000 in
theorem cont_any (Q : Nat → Prop) (K : FuncId) (eg : ∀ args w, (callFunc K args).run Try.prog w = .ok (.enter K args) w) (C : Value) (a : Option Addr) (cap : Nat) (l : List Bx) (P : Nat → Prop) (w : World) (h : BxsI Q w a l) (hl : l.length ≤ maxLen)
    (HC : ∀ (i : Nat) v1 v2 w', i < l.length → Below w.heap.size w w' → BoxI Q w' v1 v2 (bx l i) → Calls Try.prog K #[.agg #[v1, v2], C] w' fun e w'' => Ans (P i) e ∧ Below w'.heap.size w' w'') :
    Calls Try.prog 24 #[.slice a l.length cap, .func (.func K) #[] #[C]] w fun e w' => Ans (∃ i, i < l.length ∧ P i) e ∧ Below w.heap.size w w' := by
  have IX := hide (idx_any Q K eg C a cap l P w h hl HC)
  generalize (∃ i, i < l.length ∧ P i) = R at *
  clear HC h
  go_enter Try.func24, Try.ntmps24
  go_wp2_with fail
  refine (unhide IX).mono ?_
  rintro e w2 ⟨⟨r, rfl, hr⟩, b2⟩
  by_cases hz : 0 ≤ r
  · have Y := hide (hr.1 hz)
    clear hr
    go_wp2_with fail
    go_ret
    exact ⟨ans_yes (unhide Y), b2⟩
  · have N := hide (fun hp => hz (hr.2 hp) : ¬ R)
    have hd : decide (0 ≤ r) = false := decide_eq_false hz
    clear hr
    go_wp2_with fail
    go_ret
    exact ⟨ans_no (unhide N), b2⟩

set_option maxHeartbeats 2000000 in
theorem fel1_any (Q : Nat → Prop) (b : Bx) (v1 v2 : Value) (g n : Nat) (w : World) (h : BoxI Q w v1 v2 b) (hn : w.cell? ⟨g, 0, none⟩ = some (.int .i64 n)) :
    Calls Try.prog 25 #[.agg #[v1, v2], .pointer (some ⟨g, 0, none⟩)] w fun e w' => Ans (¬ (okB b ∧ b.1.length = n)) e ∧ Below w.heap.size w w' := by
  have hg : g < w.heap.size := World.block_lt_of_cell? _ _ hn
  have IS := hide (fun w' (k : Below w.heap.size w w') => gis_any Q b v1 v2 w' (h.below k))
  obtain ⟨xl, xh⟩ := b
  obtain ⟨h1, h2⟩ := h
  dsimp only at h1 h2
  obtain ⟨a1, c1, rfl⟩ := h1.form
  have m1 := h1.at.2.1
  obtain ⟨a2, c2, rfl⟩ := h2.form
  have m2 := h2.at.2.1
  unfold maxLen at m1 m2
  clear h1 h2
  have N1 : Hid (¬ okB (xl, xh) → ¬ (okB (xl, xh) ∧ xl.length = n)) := hide (fun h hc => h hc.1)
  have N2 : Hid (¬ xl.length = n → ¬ (okB (xl, xh) ∧ xl.length = n)) := hide (fun h hc => h hc.2)
  have Y1 : Hid (okB (xl, xh) → xl.length = n → okB (xl, xh) ∧ xl.length = n) := hide (fun h hc => ⟨h, hc⟩)
  dsimp only
  generalize (okB (xl, xh) ∧ xl.length = n) = P at *
  generalize okB (xl, xh) = O at *
  generalize xl.length = n1 at *
  generalize xh.length = n2 at *
  go_enter Try.func25, Try.ntmps25
  go_wp2_with fail
  have b0 := below1 w (Obj.cells #[.slice a1 n1 c1, .slice a2 n2 c2] 25)
  have x0 : (w.alloc (Obj.cells #[.slice a1 n1 c1, .slice a2 n2 c2] 25)).cell? ⟨w.heap.size, 0, none⟩ = some (.slice a1 n1 c1) := by go_simp
  have x1 : (w.alloc (Obj.cells #[.slice a1 n1 c1, .slice a2 n2 c2] 25)).cell? ⟨w.heap.size, 1, none⟩ = some (.slice a2 n2 c2) := by go_simp
  have hz : w.heap.size < (w.alloc (Obj.cells #[.slice a1 n1 c1, .slice a2 n2 c2] 25)).heap.size := by simp
  generalize w.alloc (Obj.cells #[.slice a1 n1 c1, .slice a2 n2 c2] 25) = W0 at *
  refine (unhide IS _ b0).mono ?_
  rintro e W ⟨⟨r, rfl, hr⟩, b1⟩
  have x0 := ((bcell b1).1 _ _ hz).trans x0
  have x1 := ((bcell b1).1 _ _ hz).trans x1
  have b2 := bstep b0 b1
  have hn := ((bcell b2).1 _ _ hg).trans hn
  clear b0 b1 IS
  cases r
  · have hno : ¬ O := fun h => by have := hr.2 h; cases this
    have F := hide (unhide N1 hno)
    clear hr hno N1 N2 Y1
    go_wp2_with fail
    go_ret
    exact ⟨ans_yes (unhide F), b2⟩
  have hyes := hide (hr.1 rfl)
  clear hr
  by_cases e : n1 = n
  · have F := hide (unhide Y1 (unhide hyes) e)
    clear N1 N2 Y1
    subst e
    have z : ((n1 : Int) != n1) = false := by simp
    go_wp2_with fail
    go_ret
    exact ⟨ans_no (fun h => h (unhide F)), b2⟩
  · have F := hide (unhide N2 e)
    clear N1 N2 Y1
    have z : ((n1 : Int) != n) = true := by simp; omega
    go_wp2_with fail
    go_ret
    exact ⟨ans_yes (unhide F), b2⟩

def fel (l : List Bx) (n : Nat) : Prop := l.length ≤ 8 ∧ ∀ i, i < l.length → okB (bx l i) ∧ (bx l i).1.length = n
set_option maxHeartbeats 2000000 in
theorem fel_any (Q : Nat → Prop) (a : Option Addr) (cap n : Nat) (l : List Bx) (w : World) (h : BxsI Q w a l) (hl : l.length ≤ maxLen) :
    Calls Try.prog 18 #[.slice a l.length cap, .int .i64 n] w fun e w' => Ans (fel l n) e ∧ Below w.heap.size w w' := by
  have b0 := below1 w (Obj.cells #[.int .i64 n] 3)
  have x0 : (w.alloc (Obj.cells #[.int .i64 n] 3)).cell? ⟨w.heap.size, 0, none⟩ = some (.int .i64 n) := by go_simp
  have hz : w.heap.size < (w.alloc (Obj.cells #[.int .i64 n] 3)).heap.size := by simp
  have CF := hide (cont_any Q 25 (fun _ _ => rfl) (.pointer (some ⟨w.heap.size, 0, none⟩)) a cap l (fun i => ¬ (okB (bx l i) ∧ (bx l i).1.length = n)) _ (h.below b0) hl (fun i v1 v2 w' hi hb hx => fel1_any Q _ v1 v2 _ n w' hx (((bcell hb).1 _ _ hz).trans x0)))
  have N1 : Hid (8 < l.length → ¬ fel l n) := hide (fun hlt hf => by have := hf.1; omega)
  have N2 : Hid ((∃ i, i < l.length ∧ ¬ (okB (bx l i) ∧ (bx l i).1.length = n)) → ¬ fel l n) := hide (fun ⟨i, hi, hp⟩ hf => hp (hf.2 i hi))
  have Y : Hid (¬ 8 < l.length → (¬ ∃ i, i < l.length ∧ ¬ (okB (bx l i) ∧ (bx l i).1.length = n)) → fel l n) := hide (fun h8 hn => ⟨by omega, fun i hi => Classical.byContradiction fun hc => hn ⟨i, hi, hc⟩⟩)
  generalize fel l n = P at *
  generalize (∃ i, i < l.length ∧ ¬ (okB (bx l i) ∧ (bx l i).1.length = n)) = R at *
  clear h
  unfold maxLen at hl
  by_cases h8 : 8 < l.length
  · have F := hide (unhide N1 h8)
    clear N1 N2 Y CF
    go_enter Try.func18, Try.ntmps18
    go_wp2_with fail
    go_ret
    exact ⟨ans_no (unhide F), b0⟩
  have Y := hide (unhide Y h8)
  clear N1
  go_enter Try.func18, Try.ntmps18
  go_wp2_with fail
  refine (unhide CF).mono ?_
  rintro e w2 ⟨⟨r, rfl, hr⟩, b2⟩
  cases r
  · have F := hide (unhide Y (fun h => by have := hr.2 h; cases this))
    clear hr N2 Y
    go_wp2_with fail
    go_ret
    exact ⟨ans_yes (unhide F), bstep b0 b2⟩
  · have F := hide (unhide N2 (hr.1 rfl))
    clear hr N2 Y
    go_wp2_with fail
    go_ret
    exact ⟨ans_no (unhide F), bstep b0 b2⟩

set_option maxHeartbeats 2000000 in
theorem hole1_any (Q : Nat → Prop) (b : Bx) (p : List Int) (v1 v2 v3 : Value) (g : Nat) (w : World) (h : BoxI Q w v1 v2 b) (h3 : RowI (fun _ => True) w v3 p) (hn : w.cell? ⟨g, 0, none⟩ = some v3) :
    Calls Try.prog 32 #[.agg #[v1, v2], .pointer (some ⟨g, 0, none⟩)] w fun e w' => Ans (okB b ∧ inB b p) e ∧ Below w.heap.size w w' := by
  have hg : g < w.heap.size := World.block_lt_of_cell? _ _ hn
  have IS := hide (fun w' (k : Below w.heap.size w w') => gin_any (fun _ => True) b p v1 v2 v3 w' ((h.weak (fun _ _ _ => trivial)).below k) (h3.below k))
  obtain ⟨xl, xh⟩ := b
  obtain ⟨h1, h2⟩ := h
  dsimp only at h1 h2
  obtain ⟨a1, c1, rfl⟩ := h1.form
  obtain ⟨a2, c2, rfl⟩ := h2.form
  obtain ⟨a3, c3, rfl⟩ := h3.form
  clear h1 h2 h3
  generalize (okB (xl, xh) ∧ inB (xl, xh) p) = P at *
  generalize xl.length = n1 at *
  generalize xh.length = n2 at *
  generalize p.length = n3 at *
  go_enter Try.func32, Try.ntmps32
  go_wp2_with fail
  have b0 := below1 w (Obj.cells #[.slice a1 n1 c1, .slice a2 n2 c2] 25)
  refine (unhide IS _ b0).mono ?_
  rintro e W ⟨⟨r, rfl, hr⟩, b1⟩
  have hr := hide hr
  go_wp2_with fail
  go_ret
  exact ⟨⟨r, rfl, unhide hr⟩, bstep b0 b1⟩

def HolA (P : Prop) (v : Value) (e : Ending) : Prop := (P ∧ e = .returned (.tuple #[.slice none 0 0, .bool false])) ∨ (¬ P ∧ e = .returned (.tuple #[v, .bool true]))
set_option maxHeartbeats 2000000 in
theorem hole_any (Q : Nat → Prop) (a : Option Addr) (cap : Nat) (l : List Bx) (p : List Int) (v3 : Value) (w : World) (h : BxsI Q w a l) (hl : l.length ≤ maxLen) (hok : ∀ i, i < l.length → okB (bx l i)) (h3 : RowI (fun _ => True) w v3 p) :
    Calls Try.prog 28 #[.slice a l.length cap, v3] w fun e w' => HolA (cov l p) v3 e ∧ Below w.heap.size w w' := by
  obtain ⟨a3, c3, rfl⟩ := h3.form
  have b0 := below1 w (Obj.cells #[.slice a3 p.length c3] 23)
  have x0 : (w.alloc (Obj.cells #[.slice a3 p.length c3] 23)).cell? ⟨w.heap.size, 0, none⟩ = some (.slice a3 p.length c3) := by go_simp
  have hz : w.heap.size < (w.alloc (Obj.cells #[.slice a3 p.length c3] 23)).heap.size := by simp
  have CF := hide (cont_any Q 32 (fun _ _ => rfl) (.pointer (some ⟨w.heap.size, 0, none⟩)) a cap l (fun i => okB (bx l i) ∧ inB (bx l i) p) _ (h.below b0) hl (fun i v1 v2 w' hi hb hx => hole1_any Q _ p v1 v2 _ _ w' hx ((h3.below b0).below hb) (((bcell hb).1 _ _ hz).trans x0)))
  have Y : Hid ((∃ i, i < l.length ∧ okB (bx l i) ∧ inB (bx l i) p) → cov l p) := hide (fun ⟨i, hi, _, hp⟩ => ⟨bx l i, bx_mem hi, hp⟩)
  have N : Hid ((¬ ∃ i, i < l.length ∧ okB (bx l i) ∧ inB (bx l i) p) → ¬ cov l p) := hide (fun hn ⟨b, hb, hp⟩ => by obtain ⟨i, hi, rfl⟩ := bx_of hb; exact hn ⟨i, hi, hok i hi, hp⟩)
  generalize cov l p = P at *
  generalize (∃ i, i < l.length ∧ okB (bx l i) ∧ inB (bx l i) p) = R at *
  clear h h3
  unfold maxLen at hl
  have F1 : Hid (P → HolA P (.slice a3 p.length c3) (.returned (.tuple #[.slice none 0 0, .bool false]))) := hide (fun hp => .inl ⟨hp, rfl⟩)
  have F2 : Hid (¬ P → HolA P (.slice a3 p.length c3) (.returned (.tuple #[.slice a3 p.length c3, .bool true]))) := hide (fun hp => .inr ⟨hp, rfl⟩)
  generalize p.length = n3 at *
  go_enter Try.func28, Try.ntmps28
  go_wp2_with fail
  refine (unhide CF).mono ?_
  rintro e w2 ⟨⟨r, rfl, hr⟩, b2⟩
  have x1 := ((bcell b2).1 _ _ hz).trans x0
  cases r
  · have F := hide (unhide F2 (unhide N (fun h => by have := hr.2 h; cases this)))
    clear hr F1 F2 N Y CF
    go_wp2_with fail
    go_ret2
    exact ⟨unhide F, bstep b0 b2⟩
  · have F := hide (unhide F1 (unhide Y (hr.1 rfl)))
    clear hr F1 F2 N Y CF
    go_wp2_with fail
    go_ret2
    exact ⟨unhide F, bstep b0 b2⟩
end Go.Proofs.Ytpoejhdkgfikdaa
