/- A row of boxes of the call's own: parts of a whole. -/
import Derived.Test.YtpoejhdkgfikdaaBxPartM
import Derived.Test.YtpoejhdkgfikdaaBxMarks
namespace Go.Proofs.Ytpoejhdkgfikdaa
open Go.ChangeShapes Go.WideShapes Go.RowKit
set_option linter.unusedVariables false
set_option linter.unusedSimpArgs false

def ptC (l : List Pt) : List Value := l.flatMap fun p => [.slice (some ⟨p.2.2.1, 0, none⟩) 2 2, .slice (some ⟨p.2.2.2, 0, none⟩) 2 2]
def NB (w : World) (g : Nat) (x y : Int) : Prop := w.heap[g]? = some (.cells #[.int .i64 x, .int .i64 y] 3 (0, 0))
def NBs (w : World) (l : List Pt) : Prop := ∀ p, p ∈ l → NB w p.2.2.1 p.1 0 ∧ NB w p.2.2.2 p.2.1 5
def PR (B : Nat) (w : World) (v : Value) (l : List Pt) : Prop := w.ownsRow B 25 2 v l.length (ptC l) ∧ NBs w l
theorem ptC_len (l : List Pt) : (ptC l).length = l.length * 2 := by
  induction l with
  | nil => rfl
  | cons p l ih => rw [ptC, List.flatMap_cons, List.length_append, ← ptC, ih]; simp; omega
theorem ptC_get (l : List Pt) : ∀ i (h : i < l.length), (ptC l)[i * 2]? = some (.slice (some ⟨l[i].2.2.1, 0, none⟩) 2 2) ∧ (ptC l)[i * 2 + 1]? = some (.slice (some ⟨l[i].2.2.2, 0, none⟩) 2 2) := by
  induction l with
  | nil => intro i h; exact absurd h (Nat.not_lt_zero _)
  | cons p l ih =>
    intro i h
    rw [ptC, List.flatMap_cons, ← ptC]
    cases i with
    | zero => exact ⟨rfl, rfl⟩
    | succ i =>
      have := ih i (by simpa using h)
      rw [List.getElem?_append_right (by simp; omega), List.getElem?_append_right (by simp; omega)]
      simp only [List.length_cons, List.length_nil, List.getElem_cons_succ]
      rw [show (i + 1) * 2 - (0 + 1 + 1) = i * 2 by omega, show (i + 1) * 2 + 1 - (0 + 1 + 1) = i * 2 + 1 by omega]
      exact this
theorem ptC_app (l r : List Pt) : ptC (l ++ r) = ptC l ++ ptC r := by simp [ptC]
theorem NB.lt {w : World} {g : Nat} {x y : Int} (h : NB w g x y) : g < w.heap.size := (Array.getElem?_eq_some_iff.1 h).1
theorem NB.below {w w' : World} {g : Nat} {x y : Int} (h : NB w g x y) (k : Below w.heap.size w w') : NB w' g x y := (k.block g h.lt).trans h
theorem NBs.below {w w' : World} {l : List Pt} (h : NBs w l) (k : Below w.heap.size w w') : NBs w' l := fun p hp => ⟨(h p hp).1.below k, (h p hp).2.below k⟩
theorem NB.row {w : World} {g : Nat} {x y : Int} (h : NB w g x y) : RowI (fun _ => True) w (.slice (some ⟨g, 0, none⟩) 2 2) [x, y] := by
  refine ⟨some ⟨g, 0, none⟩, 2, rfl, by simp [maxLen], fun i hi => ⟨g, 0, rfl, trivial, h.lt, ?_⟩⟩
  have hi' : i < 2 := hi
  unfold NB at h
  match i, hi' with
  | 0, _ => simp [World.cell?, h, ix]
  | 1, _ => simp [World.cell?, h, ix]
theorem NB.grown {B n : Nat} {w w' : World} {v : Value} {xs : List Value} {g : Nat} {x y : Int} (h : NB w g x y) (own : w.ownsRow B 25 2 v n xs) (gr : w.grownBy w' v.ownBlock) : NB w' g x y := by
  refine (gr.block g h.lt (fun e => ?_)).trans h
  rcases own.2 with ⟨rfl, _⟩ | ⟨g', cap, cur, rfl, hB, hh, hr⟩
  · cases e
  · simp only [Value.ownBlock, Option.some.injEq] at e
    subst e
    unfold NB at h
    rw [hh] at h
    injection h with h
    injection h with _ h2 _
    exact absurd h2 (by decide)
theorem PR.below {B : Nat} {w w' : World} {v : Value} {l : List Pt} (h : PR B w v l) (k : Below w.heap.size w w') : PR B w' v l := ⟨own_below h.1 k, h.2.below k⟩
/- boxes whose cells lie in a row. -/
theorem bxs_of {w : World} {g : Nat} {l : List Pt} (hg : g < w.heap.size) (hc : ∀ j, j < l.length * 2 → w.cell? ⟨g, j, none⟩ = (ptC l)[j]?) (hn : NBs w l) : BxsI (fun _ => True) w (some ⟨g, 0, none⟩) (l.map partB) := by
  intro i hi
  have hi' : i < l.length := by simpa using hi
  obtain ⟨h0, h1⟩ := ptC_get l i hi'
  obtain ⟨n1, n2⟩ := hn l[i] (List.getElem_mem hi')
  refine ⟨g, 0, _, _, rfl, trivial, hg, by rw [Nat.zero_add, hc _ (by omega)]; exact h0, by rw [Nat.zero_add, hc _ (by omega)]; exact h1, ?_⟩
  rw [parts_bx hi']
  exact ⟨n1.row, n2.row⟩
theorem PR.form {B : Nat} {w : World} {v : Value} {l : List Pt} (h : PR B w v l) (hl : 0 < l.length) : ∃ g cap, v = .slice (some ⟨g, 0, none⟩) l.length cap ∧ B ≤ g ∧ g < w.heap.size ∧ l.length ≤ cap ∧ ∀ j, j < l.length * 2 → w.cell? ⟨g, j, none⟩ = (ptC l)[j]? := by
  rcases h.1.2 with ⟨_, e⟩ | ⟨g, cap, cur, e, hB, hg, hn, hm, hs, ht⟩
  · omega
  · subst e
    exact ⟨g, cap, rfl, hB, (Array.getElem?_eq_some_iff.1 hg).1, hn, fun j hj => h.1.cellAt j hj⟩
theorem PR.bxs {B : Nat} {w : World} {v : Value} {l : List Pt} (h : PR B w v l) (hl : 0 < l.length) : ∃ g cap, v = .slice (some ⟨g, 0, none⟩) l.length cap ∧ BxsI (fun _ => True) w (some ⟨g, 0, none⟩) (l.map partB) := by
  obtain ⟨g, cap, e, _, hg, _, hc⟩ := h.form hl
  exact ⟨g, cap, e, bxs_of hg hc h.2⟩
theorem infoBox : (Try.prog.info? 25).map (fun i => (i.zero, i.size, i.bytes)) = some (some (.agg #[.slice none 0 0, .slice none 0 0]), 2, 48) := by kernel_rfl
/- append of one part. -/
theorem wpList_b {w : World} {ops : Array Oper} {rest : List Oper} {o : Oper} {ac : Act} {P : Exit → Act → World → Prop} (hgd : o.guard = none) (s x : Operand)
    (ho : o.op = .call { callee := .builtin .append, args := #[s, x], argTypes := #[22, 22] }) (B : Nat) (v : Value) (l : List Pt) (hs : ac.eval s = v) (own : PR B w v l)
    (g : Nat) (p : Pt) (hx : ac.eval x = .slice (some ⟨g, 0, none⟩) 1 1) (hc0 : w.cell? ⟨g, 0, none⟩ = some (.slice (some ⟨p.2.2.1, 0, none⟩) 2 2)) (hc1 : w.cell? ⟨g, 1, none⟩ = some (.slice (some ⟨p.2.2.2, 0, none⟩) 2 2)) (n1 : NB w p.2.2.1 p.1 0) (n2 : NB w p.2.2.2 p.2.1 5) (hn : l.length ≤ 1000) (hB : B ≤ w.heap.size)
    (h : ∀ v' w', PR B w' v' (l ++ [p]) → w.grownBy w' v.ownBlock → wpList Try.prog ops P rest (ac.put o.dst v') w') : wpList Try.prog ops P (o :: rest) ac w := by
  obtain ⟨i, hi, hz, hz1, hz2⟩ := info_parts infoBox
  refine wpList_append_own w hgd s x 22 ho B 25 i _ 2 48 Try.underlying22 hi hz hz1 hz2 rfl (by decide) v l.length _ hs own.1 ⟨g, 0, none⟩ 1 1 (ptC [p]) hx rfl ?_ ?_ (by unfold maxLen; omega) (by omega) hB ?_
  · intro j u hj
    rw [add_plain, Nat.zero_add]
    match j, hj with
    | 0, hj => exact hc0.trans hj
    | 1, hj => exact hc1.trans hj
    | j + 2, hj => simp [ptC] at hj
  · intro u hu
    simp [ptC] at hu
    rcases hu with rfl | rfl <;> rfl
  · intro v' w' h1 h2 h3
    refine h v' w' ⟨?_, fun q hq => ?_⟩ h2
    · rw [ptC_app, List.length_append]
      exact h1
    · rcases List.mem_append.1 hq with hq | hq
      · exact ⟨(own.2 q hq).1.grown own.1 h2, (own.2 q hq).2.grown own.1 h2⟩
      · obtain rfl : q = p := by simpa using hq
        exact ⟨n1.grown own.1 h2, n2.grown own.1 h2⟩
theorem parts_sub {l r : List Pt} {b : Int} (h : chain 0 l b) (hb : b ≤ 1001) (hs : ∀ p, p ∈ r → p ∈ l) (hl : r.length ≤ 8) : fel (r.map partB) 2 := by
  refine ⟨by simpa using hl, fun i hi => ?_⟩
  have hi' : i < r.length := by simpa using hi
  rw [parts_bx hi']
  obtain ⟨h1, h2, h3⟩ := (chain_bd h).2 r[i] (hs _ (List.getElem_mem hi'))
  exact ⟨okPart h1 h2 (by omega), rfl⟩
theorem ptC_take {l : List Pt} {n : Nat} (hn : n ≤ l.length) {j : Nat} (hj : j < n * 2) : (ptC (l.take n))[j]? = (ptC l)[j]? := by
  have e : ptC l = ptC (l.take n) ++ ptC (l.drop n) := by rw [← ptC_app, List.take_append_drop]
  rw [e, List.getElem?_append_left (by rw [ptC_len, List.length_take]; omega)]
theorem ptC_drop {l : List Pt} {n : Nat} (hn : n ≤ l.length) (j : Nat) : (ptC (l.drop n))[j]? = (ptC l)[n * 2 + j]? := by
  have e : ptC l = ptC (l.take n) ++ ptC (l.drop n) := by rw [← ptC_app, List.take_append_drop]
  rw [e, List.getElem?_append_right (by rw [ptC_len, List.length_take]; omega), ptC_len, List.length_take, Nat.min_eq_left hn]
  congr 1
  omega
theorem ptC_one (l : List Pt) : ∀ u, u ∈ ptC l → u.oneCell' = true := by
  intro u hu
  simp only [ptC, List.mem_flatMap] at hu
  obtain ⟨p, _, hp⟩ := hu
  simp at hp
  rcases hp with rfl | rfl <;> rfl
/- append of a row of boxes, at a step of a region whose order is drawn. -/
theorem step_bs {w : World} {ops : Array Oper} {o : Oper} {ac : Act} {K : Act → World → Prop} {P : Exit → Act → World → Prop} {E : Prop} (hgd : o.guard = none) (s x : Operand)
    (ho : o.op = .call { callee := .builtin .append, args := #[s, x], argTypes := #[22, 22] }) (B : Nat) (v : Value) (n : Nat) (cs : List Value) (hs : ac.eval s = v) (own : w.ownsRow B 25 2 v n cs) (hv : v ≠ .slice none 0 0)
    (ad : Addr) (m c : Nat) (r : List Pt) (hx : ac.eval x = .slice (some ad) m c) (hm : r.length = m) (hc : ∀ j u, (ptC r)[j]? = some u → w.cell? (ad.add j) = some u) (hn : n + m ≤ 1000) (hB : B ≤ w.heap.size)
    (h : ∀ v' w', w'.ownsRow B 25 2 v' (n + m) (cs ++ ptC r) → v' ≠ .slice none 0 0 → w.grownBy w' v.ownBlock → K (ac.put o.dst v') w') : if Region.wanted o (yielded ops ac.tmps) = true then Oper.wp Try.prog o ac w K P else E := by
  rw [if_pos (by simp [Region.wanted, hgd])]
  obtain ⟨i, hi, hz, hz1, hz2⟩ := info_parts infoBox
  exact wp_append_own w s x 22 ho B 25 i _ 2 48 Try.underlying22 hi hz hz1 hz2 rfl (by decide) v n _ hs own ad m c (ptC r) hx (by rw [ptC_len, hm]) hc (ptC_one r) (by unfold maxLen; omega) (by omega) hB (fun v' w' h1 h2 h3 => h v' w' h1 (fun e => hv (h3.1 e).1) h2)
theorem ownB_ge {B n : Nat} {e : TypeId} {v : Value} {xs : List Value} {w : World} (h : w.ownsRow B e 2 v n xs) : ∀ k, v.ownBlock = some k → B ≤ k := by
  intro k hk
  rcases h.2 with ⟨rfl, _⟩ | ⟨g', cap, cur, rfl, hB, hh, hr⟩
  · cases hk
  · simp only [Value.ownBlock, Option.some.injEq] at hk
    subst hk
    exact hB
end Go.Proofs.Ytpoejhdkgfikdaa
