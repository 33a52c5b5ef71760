/- LTok LLex LAt FRd FHere FPass FBin: laid together. -/
import Derived.Test.YtejnmkhdnhggcaaDoorSAF
import Derived.ChangeKeysEq
import Derived.Deep.AppendLies
import Derived.Deep.QuietTactic
import Derived.BigQuiet
import Derived.Laws.OwnMore
import Derived.Test.YtejnmkhdnhggcaaDoorSAB
/- The contract of lex's token, over the table of signs. -/
namespace Go.Proofs.YtejnmkhdnhggcaaDoor
open Go.RowKit
set_option linter.unusedVariables false

/- the table of signs, as the program's text lays it. -/
theorem sgn_step {k : Nat} (r : List UInt8) (h : k < 16) : sgn (sgs.drop k) r = if preB (sgs.getD k []) r = true then (sgs.getD k []).length else sgn (sgs.drop (k + 1)) r := by
  rw [List.drop_eq_getElem_cons (show k < sgs.length from h), sgn]
  simp [show k < sgs.length from h]
theorem sgs_len {k : Nat} (h : k < 16) : 1 ≤ (sgs.getD k []).length ∧ (sgs.getD k []).length ≤ 2 := by
  have all : ∀ k, k < 16 → 1 ≤ (sgs.getD k []).length ∧ (sgs.getD k []).length ≤ 2 := by decide
  exact all k h

theorem tok_cons {l : List UInt8} {at0 : Nat} (ha : at0 < l.length) :
    tokK (l.drop at0) = (if smB l[at0] = true then 1 else if dgB l[at0] = true then 2 else if l[at0].toNat = 34 then (if endB (l.drop at0) = true then 3 else 0) else if sgn sgs (l.drop at0) = 0 then 0 else 4)
    ∧ tokN (l.drop at0) = (if smB l[at0] = true then run nmB (l.drop at0) else if dgB l[at0] = true then numN (l.drop at0) else if l[at0].toNat = 34 then (if endB (l.drop at0) = true then 1 + run txB ((l.drop at0).drop 1) + 1 else 0) else sgn sgs (l.drop at0)) := by
  rw [drop_cons ha]
  exact ⟨rfl, rfl⟩

end Go.Proofs.YtejnmkhdnhggcaaDoor

/- The contract of lex's Lex: a text's tokens, in new memory. -/
namespace Go.Proofs.YtejnmkhdnhggcaaDoor
open Go.RowKit
set_option linter.unusedVariables false

/- the cells of a token, of a row of them. -/
def tkC (t : Tk) : List Value := [.int .i64 (t.1 : Int), .string ⟨t.2.1.toArray⟩, .int .i64 (t.2.2 : Int)]
def tksC (ts : List Tk) : List Value := ts.flatMap tkC
theorem tksC_len (ts : List Tk) : (tksC ts).length = ts.length * 3 := by
  induction ts with
  | nil => rfl
  | cons t ts ih => rw [tksC, List.flatMap_cons, List.length_append, ← tksC, ih]; simp [tkC]; omega
theorem tksC_snoc (ts : List Tk) (t : Tk) : tksC (ts ++ [t]) = tksC ts ++ tkC t := by simp [tksC]
theorem infoTok : (Tryd.prog.info? 61).map (fun i => (i.zero, i.size, i.bytes)) = some (some (.agg #[.int .i64 0, .string ⟨#[]⟩, .int .i64 0]), 3, 32) := by kernel_rfl
theorem owns_form {w : World} {B : Nat} {v : Value} {n : Nat} {xs : List Value} (h : w.ownsRow B 61 3 v n xs) : ∃ a cap, v = .slice a n cap := by
  rcases h.2 with ⟨rfl, rfl⟩ | ⟨g, cap, cur, rfl, -⟩
  · exact ⟨none, 0, rfl⟩
  · exact ⟨_, cap, rfl⟩

theorem owns_below {w w' : World} {B : Nat} {e : TypeId} {sz : Nat} {v : Value} {n : Nat} {xs : List Value} (h : w.ownsRow B e sz v n xs) (k : Below w.heap.size w w') : w'.ownsRow B e sz v n xs := by
  refine ⟨h.1, ?_⟩
  rcases h.2 with h0 | ⟨g, cap, cur, hv, hb, hg, hr⟩
  · exact Or.inl h0
  · refine Or.inr ⟨g, cap, cur, hv, hb, ?_, hr⟩
    rw [k.block g (Array.getElem?_eq_some_iff.1 hg).1]
    exact hg

theorem tokE_n {r : List UInt8} {n : Nat} (h : tokE r n = 0) : n < 60 := by
  apply Classical.byContradiction
  intro hn
  unfold tokE fltN at h
  by_cases hf : flt (tokK r) (tokT r) = 0
  · rw [if_pos ⟨hf, by omega⟩] at h; cases h
  · rw [if_neg (fun x => hf x.1)] at h; exact hf h
theorem past_bd (l : List UInt8) (k : Nat) (h : k ≤ l.length) : k + run blB (l.drop k) ≤ l.length := by
  have := run_le blB (l.drop k)
  rw [List.length_drop] at this
  omega
theorem past_stop (l : List UInt8) (k : Nat) : ∀ h : k + run blB (l.drop k) < l.length, blB l[k + run blB (l.drop k)] = false := by
  intro h
  have := run_stop (p := blB) (l.drop k) (by rw [List.length_drop]; omega)
  simpa using this

/- append of one token. -/
theorem wpList_tok {w : World} {ops : Array Oper} {rest : List Oper} {o : Oper} {a : Act} {Q : Exit → Act → World → Prop} (hgd : o.guard = none) (s x : Operand)
    (ho : o.op = .call { callee := .builtin .append, args := #[s, x], argTypes := #[55, 55] }) (B : Nat) (v : Value) (ts : List Tk) (hs : a.eval s = v) (own : w.ownsRow B 61 3 v ts.length (tksC ts))
    (b : Nat) (t : Tk) (hx : a.eval x = .slice (some ⟨b, 0, none⟩) 1 1) (hc : w.cell? ⟨b, 0, none⟩ = some (.int .i64 (t.1 : Int)) ∧ w.cell? ⟨b, 1, none⟩ = some (.string ⟨t.2.1.toArray⟩) ∧ w.cell? ⟨b, 2, none⟩ = some (.int .i64 (t.2.2 : Int)))
    (hn : ts.length ≤ 1000) (hB : B ≤ w.heap.size)
    (h : ∀ v' w', w'.ownsRow B 61 3 v' (ts ++ [t]).length (tksC (ts ++ [t])) → w.grownBy w' v.ownBlock → (∀ W0, Below B W0 w → Below B W0 w') → wpList Tryd.prog ops Q rest (a.put o.dst v') w') : wpList Tryd.prog ops Q (o :: rest) a w := by
  obtain ⟨i, hi, hzz⟩ := Option.map_eq_some_iff.1 infoTok
  simp only [Prod.mk.injEq] at hzz
  obtain ⟨hz, hz1, hz2⟩ := hzz
  refine wpList_append_lies w hgd s x 55 ho B 61 i _ 3 32 Tryd.underlying55 hi hz hz1 hz2 rfl (by omega) v ts.length (tksC ts) hs own ⟨b, 0, none⟩ 1 1 (tkC t) hx rfl ?_ ?_ (by omega) (by unfold maxLen; omega) (by omega) hB _ rfl ?_
  · intro j u hu
    have hadd : (⟨b, 0, none⟩ : Addr).add j = ⟨b, j, none⟩ := by unfold Addr.add; split <;> simp_all
    rw [hadd]
    obtain ⟨h0, h1, h2⟩ := hc
    match j, hu with
    | 0, hu => exact h0.trans hu
    | 1, hu => exact h1.trans hu
    | 2, hu => exact h2.trans hu
    | j + 3, hu => simp [tkC] at hu
  · intro u hu
    simp [tkC] at hu
    rcases hu with rfl | rfl | rfl <;> rfl
  · intro g cap w' own' gr _ _
    refine h _ w' ?_ gr (fun W0 hb => hb.grown gr hB (fun k hk => (own.lt k hk).1))
    rw [tksC_snoc, List.length_append]
    exact own'

/- what Lex answers. -/
def LexRes (B : Nat) (R : List Tk × Nat × Nat) (e : Ending) (w' : World) : Prop :=
  ∃ v, e = .returned (.tuple #[v, .int .i64 (R.2.1 : Int), .int .i64 (R.2.2 : Int)]) ∧ w'.ownsRow B 61 3 v R.1.length (tksC R.1)

theorem lexRes_mk {B : Nat} {R : List Tk × Nat × Nat} {acc : List Tk} {p e0 : Nat} {v : Value} {w' : World} (hR : R = (acc, p, e0)) (ho : w'.ownsRow B 61 3 v acc.length (tksC acc)) :
    LexRes B R (.returned (.tuple #[v, .int .i64 (p : Int), .int .i64 (e0 : Int)])) w' := by
  subst hR
  exact ⟨v, rfl, ho⟩

end Go.Proofs.YtejnmkhdnhggcaaDoor

/- Rows of tokens are read. -/
namespace Go.Proofs.YtejnmkhdnhggcaaDoor
open Go.RowKit
set_option linter.unusedVariables false

theorem tksC_get (ts : List Tk) : ∀ (i : Nat) (h : i < ts.length) (q : Nat), q < 3 → (tksC ts)[i * 3 + q]? = (tkC ts[i])[q]? := by
  induction ts with
  | nil => intro i h; exact absurd h (Nat.not_lt_zero _)
  | cons t ts ih =>
    intro i h q hq
    rw [tksC, List.flatMap_cons, ← tksC]
    cases i with
    | zero => rw [List.getElem?_append_left (by simp [tkC]; omega)]; simp
    | succ i =>
      rw [List.getElem?_append_right (by simp [tkC]; omega)]
      have e : (i + 1) * 3 + q - (tkC t).length = i * 3 + q := by simp [tkC]; omega
      rw [e, ih i (by simpa using h) q hq]
      simp

/- the token's three cells. -/
def Tok3 (w : World) (g o : Nat) (t : Tk) : Prop := g < w.heap.size ∧ w.cell? ⟨g, o, none⟩ = some (.int .i64 (t.1 : Int)) ∧ w.cell? ⟨g, o + 1, none⟩ = some (.string ⟨t.2.1.toArray⟩) ∧ w.cell? ⟨g, o + 2, none⟩ = some (.int .i64 (t.2.2 : Int))
theorem own_at {w : World} {B : Nat} {v : Value} {ts : List Tk} (h : w.ownsRow B 61 3 v ts.length (tksC ts)) (hl : 0 < ts.length) :
    ∃ g cap, v = .slice (some ⟨g, 0, none⟩) ts.length cap ∧ B ≤ g ∧ ∀ i (hi : i < ts.length), Tok3 w g (i * 3) ts[i] := by
  obtain ⟨g, cap, rfl, hb, hg⟩ := h.form hl
  refine ⟨g, cap, rfl, hb, fun i hi => ⟨hg, ?_, ?_, ?_⟩⟩
  · have := h.cellAt (i * 3) (by omega)
    rw [this, show i * 3 = i * 3 + 0 by omega, tksC_get ts i hi 0 (by omega)]; rfl
  · have := h.cellAt (i * 3 + 1) (by omega)
    rw [this, tksC_get ts i hi 1 (by omega)]; rfl
  · have := h.cellAt (i * 3 + 2) (by omega)
    rw [this, tksC_get ts i hi 2 (by omega)]; rfl

end Go.Proofs.YtejnmkhdnhggcaaDoor

/- A reader in memory: where it stands; what a call may turn: the reader's place, and nothing else that was there. -/
namespace Go.Proofs.YtejnmkhdnhggcaaDoor
open Go.RowKit
set_option linter.unusedVariables false

theorem below_dN {B : Nat} {a w : World} (h : Below B a w) (n : Nat) : Below B a (w.drewN n) := ⟨h.os, h.tape, h.output, h.size, h.block⟩
/- of what was there only the block b has turned. -/
structure Mv (b : Nat) (w w' : World) : Prop where
  os : w'.os = w.os
  tape : w'.tape = w.tape
  output : w'.output = w.output
  size : w.heap.size ≤ w'.heap.size
  block : ∀ k, k < w.heap.size → k ≠ b → w'.heap[k]? = w.heap[k]?
theorem Mv.refl (b : Nat) (w : World) : Mv b w w := ⟨rfl, rfl, rfl, Nat.le_refl _, fun _ _ _ => rfl⟩
theorem Mv.trans {b : Nat} {w0 w1 w2 : World} (h : Mv b w0 w1) (k : Mv b w1 w2) : Mv b w0 w2 :=
  ⟨k.os.trans h.os, k.tape.trans h.tape, k.output.trans h.output, Nat.le_trans h.size k.size, fun i hi hb => (k.block i (Nat.lt_of_lt_of_le hi h.size) hb).trans (h.block i hi hb)⟩
theorem Mv.of_below {b : Nat} {w w' : World} (h : Below w.heap.size w w') : Mv b w w' := ⟨h.os, h.tape, h.output, h.size, fun k hk _ => h.block k hk⟩
theorem Mv.below {b : Nat} {w0 w1 w2 : World} (h : Mv b w0 w1) (k : Below w1.heap.size w1 w2) : Mv b w0 w2 := h.trans (Mv.of_below k)
theorem Mv.alloc {b : Nat} {w0 w1 : World} (h : Mv b w0 w1) (o : Obj) : Mv b w0 (w1.alloc o) := h.below (below1 w1 o)
theorem Mv.drew {b : Nat} {w0 w1 : World} (h : Mv b w0 w1) : Mv b w0 w1.drew := ⟨h.os, h.tape, h.output, h.size, h.block⟩
theorem Mv.drewN {b : Nat} {w0 w1 : World} (h : Mv b w0 w1) (n : Nat) : Mv b w0 (w1.drewN n) := by
  exact ⟨h.os, h.tape, h.output, h.size, h.block⟩
theorem Mv.put {b : Nat} {w0 w1 : World} (h : Mv b w0 w1) (o : Nat) (v : Value) : Mv b w0 (w1.setCell ⟨b, o, none⟩ v) :=
  h.trans ⟨rfl, rfl, rfl, by simp [World.setCell], fun k hk hb => Below.heap_setCell _ _ _ _ hb⟩
theorem Mv.own {b : Nat} {w0 w1 : World} (h : Mv b w0 w1) {p : Addr} (hp : w0.heap.size ≤ p.block) (v : Value) : Mv b w0 (w1.setCell p v) :=
  ⟨h.os, h.tape, h.output, by simpa [World.setCell] using h.size, fun k hk hb => (Below.heap_setCell _ _ _ _ (by omega)).trans (h.block k hk hb)⟩
theorem Mv.cell {b : Nat} {w w' : World} (h : Mv b w w') {g o : Nat} (hg : g < w.heap.size) (hb : g ≠ b) : w'.cell? ⟨g, o, none⟩ = w.cell? ⟨g, o, none⟩ := World.cell?_of_block (w := w) (h.block g hg hb)
theorem Mv.frozen {b : Nat} {w w' : World} (h : Mv b w w') {g o : Nat} (hg : g < w.heap.size) (hb : g ≠ b) : w'.frozen? ⟨g, o, none⟩ = w.frozen? ⟨g, o, none⟩ := World.frozen?_of_block (w := w) (h.block g hg hb)
theorem Mv.kc {b : Nat} {w w' : World} (h : Mv b w w') {g o : Nat} {v : Value} (hg : g < w.heap.size) (hb : g ≠ b) (hc : w.cell? ⟨g, o, none⟩ = some v) : w'.cell? ⟨g, o, none⟩ = some v := (h.cell hg hb).trans hc
theorem Mv.kf {b : Nat} {w w' : World} (h : Mv b w w') {g o : Nat} (hg : g < w.heap.size) (hb : g ≠ b) (hc : w.frozen? ⟨g, o, none⟩ = false) : w'.frozen? ⟨g, o, none⟩ = false := (h.frozen hg hb).trans hc
theorem XT.In.mv {b : Nat} {Q : Nat → Prop} {w w' : World} {x : XT} (h : x.In Q w) (k : Mv b w w') (hQ : ∀ g, Q g → g ≠ b) : x.In Q w' := h.keep (fun bl o hl hq => k.cell hl (hQ bl hq))
theorem XT.In.drew {Q : Nat → Prop} {w : World} {x : XT} (h : x.In Q w) : x.In Q w.drew := h.below (Below.refl _ _).drew
theorem XT.In.drewN {Q : Nat → Prop} {w : World} {x : XT} (h : x.In Q w) (n : Nat) : x.In Q (w.drewN n) := h.below (below_dN (Below.refl _ _) n)
theorem Mv.at {b : Nat} {w w' : World} (h : Mv b w w') (g : Nat) (hg : g < w.heap.size) (hb : g ≠ b) : (∀ o, w'.cell? ⟨g, o, none⟩ = w.cell? ⟨g, o, none⟩) ∧ (∀ o, w'.frozen? ⟨g, o, none⟩ = w.frozen? ⟨g, o, none⟩) := ⟨fun o => h.cell hg hb, fun o => h.frozen hg hb⟩
theorem Mv.own8 {b : Nat} {w0 w1 : World} (h : Mv b w0 w1) {r : Nat} (hr : w0.heap.size ≤ r) (v0 v1 v2 v3 v4 v5 v6 v7 : Value) : Mv b w0 ((((((((w1.setCell ⟨r, 0, none⟩ v0).setCell ⟨r, 1, none⟩ v1).setCell ⟨r, 2, none⟩ v2).setCell ⟨r, 3, none⟩ v3).setCell ⟨r, 4, none⟩ v4).setCell ⟨r, 5, none⟩ v5).setCell ⟨r, 6, none⟩ v6).setCell ⟨r, 7, none⟩ v7) :=
  (((((((h.own hr v0).own hr v1).own hr v2).own hr v3).own hr v4).own hr v5).own hr v6).own hr v7
/- a block of which nothing below is a part goes its own way. -/
theorem Mv.toBelow {b : Nat} {w w0 w' : World} (h : Mv b w0 w') (hb : Below w.heap.size w w0) (hn : w.heap.size ≤ b) : Below w.heap.size w w' :=
  hb.trans ⟨h.os, h.tape, h.output, h.size, fun k hk => h.block k (Nat.lt_of_lt_of_le hk hb.size) (by omega)⟩

/- what a token may be. -/
def GoodT (t : Tk) : Prop := t.2.1.length ≤ 1000 ∧ t.1 ≤ 4 ∧ (t.1 = 4 → wordB t.2.1 = false)
def GoodTs (ts : List Tk) : Prop := ts.length ≤ 1000 ∧ ∀ k (h : k < ts.length), GoodT ts[k]

/- the reader lies in the block b, its row at a, and it stands at k. -/
structure Rd (b : Nat) (a : Option Addr) (cap : Nat) (ts : List Tk) (w : World) (k : Nat) : Prop where
  lt : b < w.heap.size
  le : k ≤ ts.length
  c0 : w.cell? ⟨b, 0, none⟩ = some (.slice a ts.length cap)
  c1 : w.cell? ⟨b, 1, none⟩ = some (.int .i64 (k : Int))
  fr : w.frozen? ⟨b, 1, none⟩ = false
  row : ∀ i (h : i < ts.length), ∃ g, a = some ⟨g, 0, none⟩ ∧ g ≠ b ∧ Tok3 w g (i * 3) ts[i]

variable {b : Nat} {a : Option Addr} {cap : Nat} {ts : List Tk}
theorem Tok3.mv {b : Nat} {w w' : World} {g o : Nat} {t : Tk} (h : Tok3 w g o t) (hb : g ≠ b) (k : Mv b w w') : Tok3 w' g o t := by
  obtain ⟨h0, h1, h2, h3⟩ := h
  exact ⟨Nat.lt_of_lt_of_le h0 k.size, k.kc h0 hb h1, k.kc h0 hb h2, k.kc h0 hb h3⟩
theorem Rd.below {w w' : World} {k : Nat} (h : Rd b a cap ts w k) (hb : Below w.heap.size w w') : Rd b a cap ts w' k :=
  ⟨Nat.lt_of_lt_of_le h.lt hb.size, h.le, kcell hb h.lt h.c0, kcell hb h.lt h.c1, kfroz hb h.lt h.fr, fun i hi => by
    obtain ⟨g, ha, hg, ht⟩ := h.row i hi
    exact ⟨g, ha, hg, ht.mv hg (Mv.of_below hb)⟩⟩
theorem Rd.alloc {w : World} {k : Nat} (h : Rd b a cap ts w k) (o : Obj) : Rd b a cap ts (w.alloc o) k := h.below (below1 w o)
theorem Rd.drew {w : World} {k : Nat} (h : Rd b a cap ts w k) : Rd b a cap ts w.drew k := ⟨h.lt, h.le, h.c0, h.c1, h.fr, h.row⟩
theorem Rd.drewN {w : World} {k : Nat} (h : Rd b a cap ts w k) (n : Nat) : Rd b a cap ts (w.drewN n) k := by
  exact ⟨h.lt, h.le, h.c0, h.c1, h.fr, h.row⟩
/- a store into a block that is newer than a world in which the reader lay. -/
theorem Rd.own {w w0 : World} {k k0 : Nat} (h : Rd b a cap ts w k) (h0 : Rd b a cap ts w0 k0) {p : Addr} (hp : w0.heap.size ≤ p.block) (v : Value) : Rd b a cap ts (w.setCell p v) k := by
  have e : ∀ g, g ≠ p.block → (w.setCell p v).heap[g]? = w.heap[g]? := fun g hg => Below.heap_setCell _ _ _ _ hg
  have ec : ∀ g o, g ≠ p.block → (w.setCell p v).cell? ⟨g, o, none⟩ = w.cell? ⟨g, o, none⟩ := fun g o hg => World.cell?_of_block (w := w) (e g hg)
  have hb := h0.lt
  refine ⟨by simpa [World.setCell] using h.lt, h.le, (ec b 0 (by omega)).trans h.c0, (ec b 1 (by omega)).trans h.c1, (World.frozen?_of_block (w := w) (e b (by omega))).trans h.fr, fun i hi => ?_⟩
  obtain ⟨g, hg, hb, t0, t1, t2, t3⟩ := h.row i hi
  obtain ⟨g', hg', -, s0, -⟩ := h0.row i hi
  obtain rfl : g = g' := by rw [hg] at hg'; simpa using hg'
  have hn : g ≠ p.block := by omega
  exact ⟨g, hg, hb, by simpa [World.setCell] using t0, (ec g _ hn).trans t1, (ec g _ hn).trans t2, (ec g _ hn).trans t3⟩
theorem Rd.own8 {w w0 : World} {k k0 : Nat} (h : Rd b a cap ts w k) (h0 : Rd b a cap ts w0 k0) {r : Nat} (hr : w0.heap.size ≤ r) (v0 v1 v2 v3 v4 v5 v6 v7 : Value) : Rd b a cap ts ((((((((w.setCell ⟨r, 0, none⟩ v0).setCell ⟨r, 1, none⟩ v1).setCell ⟨r, 2, none⟩ v2).setCell ⟨r, 3, none⟩ v3).setCell ⟨r, 4, none⟩ v4).setCell ⟨r, 5, none⟩ v5).setCell ⟨r, 6, none⟩ v6).setCell ⟨r, 7, none⟩ v7) k :=
  (((((((h.own h0 hr v0).own h0 hr v1).own h0 hr v2).own h0 hr v3).own h0 hr v4).own h0 hr v5).own h0 hr v6).own h0 hr v7
/- the reader goes on. -/
theorem Rd.put {w : World} {k k' : Nat} (h : Rd b a cap ts w k) (hk : k' ≤ ts.length) : Rd b a cap ts (w.setCell ⟨b, 1, none⟩ (.int .i64 (k' : Int))) k' := by
  have m : Mv b w (w.setCell ⟨b, 1, none⟩ (.int .i64 (k' : Int))) := (Mv.refl b w).put 1 _
  obtain ⟨h0, h1, h2, h3, h4, h5⟩ := h
  refine ⟨by simpa [World.setCell] using h0, hk, ?_, ?_, ?_, fun i hi => ?_⟩
  · go_simp
  · go_simp
  · go_simp
  · obtain ⟨g, ha, hg, ht⟩ := h5 i hi
    exact ⟨g, ha, hg, ht.mv hg m⟩

/- what a part of the reader answers. -/
def Post (b : Nat) (a : Option Addr) (cap : Nat) (ts : List Tk) (R : RX) (k : Nat) (w : World) (e : Ending) (w' : World) : Prop :=
  Mv b w w' ∧ match R with
  | .ok x k' => k ≤ k' ∧ Rd b a cap ts w' k' ∧ ∃ T : XT, e = .returned (.tuple #[T.val, .int .i64 0]) ∧ T.In (Fr w.heap.size) w' ∧ T.bare = x
  | .er c k' => k ≤ k' ∧ Rd b a cap ts w' k' ∧ (c != 0) = true ∧ e = .returned (.tuple #[zV, .int .i64 c])
theorem post_ok {w W : World} {k k' r B : Nat} {x : XT} (m : Mv b w W) (R : Rd b a cap ts W k') (R0 : Rd b a cap ts w k) (hk : k ≤ k') (hr : w.heap.size ≤ r) (hB : r < B) {ek : Int} {eb : Bool} {em es : Int} {et : ByteArray} {elo ehi : Bool} {ea : Option Addr} {el ec : Nat} {ekid : Nat → XT}
    (hT : (XT.mk ek eb em es et elo ehi ea el ec ekid).In (Fr B) W) (hx : (XT.mk ek eb em es et elo ehi ea el ec ekid).bare = x) (v0 v1 v2 v3 v4 v5 v6 v7 : Value) :
    Post b a cap ts (.ok x k') k w (.returned (.tuple #[.agg #[.int .i64 ek, .bool eb, .int .i64 em, .int .i64 es, .string et, .bool elo, .bool ehi, .slice ea el ec], .int .i64 0]))
      ((((((((W.setCell ⟨r, 0, none⟩ v0).setCell ⟨r, 1, none⟩ v1).setCell ⟨r, 2, none⟩ v2).setCell ⟨r, 3, none⟩ v3).setCell ⟨r, 4, none⟩ v4).setCell ⟨r, 5, none⟩ v5).setCell ⟨r, 6, none⟩ v6).setCell ⟨r, 7, none⟩ v7) :=
  ⟨m.own8 hr _ _ _ _ _ _ _ _, hk, R.own8 R0 hr _ _ _ _ _ _ _ _, _, rfl, (hT.set8 (fun g hg => by unfold Fr at hg; omega) _ _ _ _ _ _ _ _).weak (fun g _ hg => by unfold Fr at hg ⊢; omega), hx⟩
theorem post_er {w W : World} {k k' r : Nat} {c : Int} (m : Mv b w W) (R : Rd b a cap ts W k') (R0 : Rd b a cap ts w k) (hk : k ≤ k') (hr : w.heap.size ≤ r) (hc : (c != 0) = true) (v0 v1 v2 v3 v4 v5 v6 v7 : Value) :
    Post b a cap ts (.er c k') k w (.returned (.tuple #[.agg #[.int .i64 0, .bool false, .int .i64 0, .int .i64 0, .string ⟨#[]⟩, .bool false, .bool false, .slice none 0 0], .int .i64 c]))
      ((((((((W.setCell ⟨r, 0, none⟩ v0).setCell ⟨r, 1, none⟩ v1).setCell ⟨r, 2, none⟩ v2).setCell ⟨r, 3, none⟩ v3).setCell ⟨r, 4, none⟩ v4).setCell ⟨r, 5, none⟩ v5).setCell ⟨r, 6, none⟩ v6).setCell ⟨r, 7, none⟩ v7) :=
  ⟨m.own8 hr _ _ _ _ _ _ _ _, hk, R.own8 R0 hr _ _ _ _ _ _ _ _, hc, rfl⟩
/- a part of the reader, at a depth. -/
def PartOf (b : Nat) (a : Option Addr) (cap : Nat) (ts : List Tk) (f : Nat) (d : Nat) (part : Nat → RX) : Prop :=
  ∀ (w : World) (k : Nat), Rd b a cap ts w k → Calls Tryd.prog f #[.pointer (some ⟨b, 0, none⟩), .int .i64 (d : Int)] w fun e w' => Post b a cap ts (part k) k w e w'
end Go.Proofs.YtejnmkhdnhggcaaDoor

/- The contracts of the reader's here and place. -/
namespace Go.Proofs.YtejnmkhdnhggcaaDoor
open Go.RowKit
set_option linter.unusedVariables false
variable {b : Nat} {a : Option Addr} {cap : Nat} {ts : List Tk}

def tkV (t : Tk) : Value := .agg #[.int .i64 (t.1 : Int), .string ⟨t.2.1.toArray⟩, .int .i64 (t.2.2 : Int)]
/- the token at a place; behind the row's end one of no kind. -/
def tokAt (ts : List Tk) (k : Nat) : Tk := (ts[k]?).getD (0, [], 0)
theorem tokAt_in {ts : List Tk} {k : Nat} (h : k < ts.length) : tokAt ts k = ts[k] := by simp [tokAt, h]
theorem tokAt_end {ts : List Tk} {k : Nat} (h : ts.length ≤ k) : tokAt ts k = (0, [], 0) := by simp [tokAt, h]

end Go.Proofs.YtejnmkhdnhggcaaDoor

/- The contracts of the reader's next and pass. -/
namespace Go.Proofs.YtejnmkhdnhggcaaDoor
open Go.RowKit
set_option linter.unusedVariables false
variable {b : Nat} {a : Option Addr} {cap : Nat} {ts : List Tk}

theorem mkB_tok (ts : List Tk) (k : Nat) (m : Mk) : mkB ts k m = (((tokAt ts k).1 == (if wordB m = true then 1 else 4)) && ((tokAt ts k).2.1 == m)) := by
  unfold mkB tokAt
  cases ts[k]? with
  | some t => rfl
  | none => by_cases h : wordB m = true <;> simp [h]
theorem mkB_lt {ts : List Tk} {k : Nat} {m : Mk} (h : mkB ts k m = true) : k < ts.length := by
  unfold mkB at h
  split at h
  · rename_i t ht
    exact (List.getElem?_eq_some_iff.1 ht).1
  · cases h
theorem good_at {ts : List Tk} (h : GoodTs ts) (k : Nat) : GoodT (tokAt ts k) := by
  by_cases hk : k < ts.length
  · rw [tokAt_in hk]; exact h.2 k hk
  · rw [tokAt_end (by omega)]; exact ⟨by simp, by simp, by simp⟩

theorem nx_no {tk c : Nat} {x : Bool} (h : ((tk : Int) == (c : Int)) = false) : false = ((tk == c) && x) := by
  have : (tk == c) = false := by simp at h ⊢; omega
  rw [this]; rfl
theorem nx_yes {tk c : Nat} {x : Bool} (h : ((tk : Int) == (c : Int)) = true) : x = ((tk == c) && x) := by
  have : (tk == c) = true := by simp at h ⊢; omega
  rw [this]; rfl
/- some marks lie in a row of their own. -/
def Marks (b : Nat) (w : World) (g : Nat) (ms : List Mk) : Prop := g < w.heap.size ∧ g ≠ b ∧ ms.length ≤ 1000 ∧ ∀ i (h : i < ms.length), ms[i].length ≤ 1000 ∧ w.cell? ⟨g, i, none⟩ = some (.string ⟨ms[i].toArray⟩)
theorem Marks.mv {b : Nat} {w w' : World} {g : Nat} {ms : List Mk} (h : Marks b w g ms) (k : Mv b w w') : Marks b w' g ms :=
  ⟨Nat.lt_of_lt_of_le h.1 k.size, h.2.1, h.2.2.1, fun i hi => ⟨(h.2.2.2 i hi).1, k.kc h.1 h.2.1 (h.2.2.2 i hi).2⟩⟩
theorem Marks.new (w : World) (b : Nat) (ms : List Mk) (t : TypeId) (hb : b < w.heap.size) (hl : ms.length ≤ 1000) (hm : ∀ m ∈ ms, m.length ≤ 1000) : Marks b (w.alloc (.cells (ms.map sV).toArray t)) w.heap.size ms := by
  refine ⟨by simp, by omega, hl, fun i hi => ⟨hm _ (List.getElem_mem hi), ?_⟩⟩
  rw [row_strs]
  simp [hi, sV]

theorem Marks.at {w : World} {b g : Nat} {ms : List Mk} {t : TypeId} (hg : g = w.heap.size) (hb : b < w.heap.size) (hl : ms.length ≤ 1000) (hm : ∀ m ∈ ms, m.length ≤ 1000) : Marks b (w.alloc (.cells (ms.map sV).toArray t)) g ms := hg ▸ Marks.new w b ms t hb hl hm

/- what pass answers. -/
def PassPost (b : Nat) (a : Option Addr) (cap : Nat) (ts : List Tk) (F : Option Mk) (k : Nat) (w : World) (e : Ending) (w' : World) : Prop :=
  Mv b w w' ∧ match F with
  | none => e = .returned (.string ⟨#[]⟩) ∧ Rd b a cap ts w' k
  | some m => e = .returned (.string ⟨m.toArray⟩) ∧ Rd b a cap ts w' (k + 1)

theorem fnd_step {ts : List Tk} {k i : Nat} {ms : List Mk} (h : i < ms.length) : fnd ts k (ms.drop i) = if mkB ts k ms[i] = true then some ms[i] else fnd ts k (ms.drop (i + 1)) := by
  rw [List.drop_eq_getElem_cons h, fnd]

end Go.Proofs.YtejnmkhdnhggcaaDoor

/- The contract of feel's binary. -/
namespace Go.Proofs.YtejnmkhdnhggcaaDoor
open Go.RowKit
set_option linter.unusedVariables false

/- a row's cells, out of the block. -/
theorem row_block {w : World} {g : Nat} {cs : Array Value} {t : TypeId} {fr : Nat × Nat} (h : w.heap[g]? = some (.cells cs t fr)) (l : List XT) (hl : ∀ x ∈ l, x.cells.length = 8) (hcs : cs.toList = xsC l) :
    ∀ i (h : i < l.length) j, j < 8 → w.cell? ⟨g, i * 8 + j, none⟩ = l[i].cells[j]? := by
  intro i hi j hj
  rw [cell_of_row _ _ _ _ _ _ h, ← Array.getElem?_toList, hcs]
  clear h hcs
  induction l generalizing i with
  | nil => exact absurd hi (Nat.not_lt_zero _)
  | cons x l ih =>
    have hx := hl x (by simp)
    rw [xsC, List.flatMap_cons]
    cases i with
    | zero => rw [List.getElem?_append_left (by omega)]; simp
    | succ i =>
      rw [List.getElem?_append_right (by omega)]
      have e : (i + 1) * 8 + j - x.cells.length = i * 8 + j := by omega
      rw [e]
      have := ih (fun y hy => hl y (by simp [hy])) i (by simpa using hi)
      rw [xsC] at this
      rw [this]
      simp
theorem hset {w : World} {p : Addr} {v : Value} {g : Nat} {o : Obj} (h : w.heap[g]? = some o) (hp : g ≠ p.block) : (w.setCell p v).heap[g]? = some o := (Below.heap_setCell _ _ _ _ hp).trans h
theorem hset8 {w : World} {r g : Nat} {o : Obj} (h : w.heap[g]? = some o) (hp : g ≠ r) (v0 v1 v2 v3 v4 v5 v6 v7 : Value) : ((((((((w.setCell ⟨r, 0, none⟩ v0).setCell ⟨r, 1, none⟩ v1).setCell ⟨r, 2, none⟩ v2).setCell ⟨r, 3, none⟩ v3).setCell ⟨r, 4, none⟩ v4).setCell ⟨r, 5, none⟩ v5).setCell ⟨r, 6, none⟩ v6).setCell ⟨r, 7, none⟩ v7).heap[g]? = some o :=
  hset (hset (hset (hset (hset (hset (hset (hset h hp) hp) hp) hp) hp) hp) hp) hp
theorem heap_at {w : World} {g : Nat} (h : g = w.heap.size) (o : Obj) : (w.alloc o).heap[g]? = some o := by rw [h]; exact heap_alloc_new w o
theorem mk_cells (k : Int) (b : Bool) (m s : Int) (t : ByteArray) (lo hi : Bool) (a : Option Addr) (len cap : Nat) (kid : Nat → XT) : (XT.mk k b m s t lo hi a len cap kid).cells.length = 8 := rfl
theorem below8 {w w1 : World} {r : Nat} (h : Below w.heap.size w w1) (hr : w.heap.size ≤ r) (v0 v1 v2 v3 v4 v5 v6 v7 : Value) : Below w.heap.size w ((((((((w1.setCell ⟨r, 0, none⟩ v0).setCell ⟨r, 1, none⟩ v1).setCell ⟨r, 2, none⟩ v2).setCell ⟨r, 3, none⟩ v3).setCell ⟨r, 4, none⟩ v4).setCell ⟨r, 5, none⟩ v5).setCell ⟨r, 6, none⟩ v6).setCell ⟨r, 7, none⟩ v7) :=
  (((((((h.setCell hr v0).setCell hr v1).setCell hr v2).setCell hr v3).setCell hr v4).setCell hr v5).setCell hr v6).setCell hr v7

end Go.Proofs.YtejnmkhdnhggcaaDoor
