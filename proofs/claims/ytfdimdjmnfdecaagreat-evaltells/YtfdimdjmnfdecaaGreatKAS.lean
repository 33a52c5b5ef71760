/- FRd FHere FPass FBin FBox FChain: laid together. -/
import Derived.Test.YtfdimdjmnfdecaaGreatKAR
set_option linter.unusedVariables false
set_option linter.unusedSimpArgs false
set_option maxHeartbeats 8000000
namespace Go.Proofs.YtfdimdjmnfdecaaGreat
open Go.RowKit
section
theorem below_dN {B : Nat} {a w : World} (h : Below B a w) (n : Nat) : Below B a (w.drewN n) := ⟨h.os, h.tape, h.output, h.size, h.block⟩
structure Mv (b : Nat) (w w' : World) : Prop where
 os : w'.os = w.os
 tape : w'.tape = w.tape
 output : w'.output = w.output
 size : w.heap.size ≤ w'.heap.size
 block : ∀ k, k < w.heap.size → k ≠ b → w'.heap[k]? = w.heap[k]?
theorem Mv.refl (b : Nat) (w : World) : Mv b w w := ⟨rfl, rfl, rfl, Nat.le_refl _, fun _ _ _ => rfl⟩
theorem Mv.trans {b : Nat} {w0 w1 w2 : World} (h : Mv b w0 w1) (k : Mv b w1 w2) : Mv b w0 w2 :=
 ⟨k.os.trans h.os, k.tape.trans h.tape, k.output.trans h.output, Nat.le_trans h.size k.size, fun i hi hb => (k.block i (Nat.lt_of_lt_of_le hi h.size) hb).trans (h.block i hi hb)⟩
theorem Mv.of_below {b : Nat} {w w' : World} (h : Below w.heap.size w w') : Mv b w w' := ⟨h.os, h.tape, h.output, h.size, fun k hk _ => h.block k hk⟩
theorem Mv.below {b : Nat} {w0 w1 w2 : World} (h : Mv b w0 w1) (k : Below w1.heap.size w1 w2) : Mv b w0 w2 := h.trans (Mv.of_below k)
theorem Mv.alloc {b : Nat} {w0 w1 : World} (h : Mv b w0 w1) (o : Obj) : Mv b w0 (w1.alloc o) := h.below (below1 w1 o)
theorem Mv.drew {b : Nat} {w0 w1 : World} (h : Mv b w0 w1) : Mv b w0 w1.drew := ⟨h.os, h.tape, h.output, h.size, h.block⟩
theorem Mv.drewN {b : Nat} {w0 w1 : World} (h : Mv b w0 w1) (n : Nat) : Mv b w0 (w1.drewN n) := by
 exact ⟨h.os, h.tape, h.output, h.size, h.block⟩
theorem Mv.put {b : Nat} {w0 w1 : World} (h : Mv b w0 w1) (o : Nat) (v : Value) : Mv b w0 (w1.setCell ⟨b, o, none⟩ v) :=
 h.trans ⟨rfl, rfl, rfl, by simp [World.setCell], fun k hk hb => Below.heap_setCell _ _ _ _ hb⟩
theorem Mv.own {b : Nat} {w0 w1 : World} (h : Mv b w0 w1) {p : Addr} (hp : w0.heap.size ≤ p.block) (v : Value) : Mv b w0 (w1.setCell p v) :=
 ⟨h.os, h.tape, h.output, by simpa [World.setCell] using h.size, fun k hk hb => (Below.heap_setCell _ _ _ _ (by omega)).trans (h.block k hk hb)⟩
theorem Mv.cell {b : Nat} {w w' : World} (h : Mv b w w') {g o : Nat} (hg : g < w.heap.size) (hb : g ≠ b) : w'.cell? ⟨g, o, none⟩ = w.cell? ⟨g, o, none⟩ := World.cell?_of_block (w := w) (h.block g hg hb)
theorem Mv.frozen {b : Nat} {w w' : World} (h : Mv b w w') {g o : Nat} (hg : g < w.heap.size) (hb : g ≠ b) : w'.frozen? ⟨g, o, none⟩ = w.frozen? ⟨g, o, none⟩ := World.frozen?_of_block (w := w) (h.block g hg hb)
theorem Mv.kc {b : Nat} {w w' : World} (h : Mv b w w') {g o : Nat} {v : Value} (hg : g < w.heap.size) (hb : g ≠ b) (hc : w.cell? ⟨g, o, none⟩ = some v) : w'.cell? ⟨g, o, none⟩ = some v := (h.cell hg hb).trans hc
theorem XT.In.mv {b : Nat} {Q : Nat → Prop} {w w' : World} {x : XT} (h : x.In Q w) (k : Mv b w w') (hQ : ∀ g, Q g → g ≠ b) : x.In Q w' := h.keep (fun bl o hl hq => k.cell hl (hQ bl hq))
theorem XT.In.drew {Q : Nat → Prop} {w : World} {x : XT} (h : x.In Q w) : x.In Q w.drew := h.below (Below.refl _ _).drew
theorem XT.In.drewN {Q : Nat → Prop} {w : World} {x : XT} (h : x.In Q w) (n : Nat) : x.In Q (w.drewN n) := h.below (below_dN (Below.refl _ _) n)
theorem Mv.at {b : Nat} {w w' : World} (h : Mv b w w') (g : Nat) (hg : g < w.heap.size) (hb : g ≠ b) : (∀ o, w'.cell? ⟨g, o, none⟩ = w.cell? ⟨g, o, none⟩) ∧ (∀ o, w'.frozen? ⟨g, o, none⟩ = w.frozen? ⟨g, o, none⟩) := ⟨fun o => h.cell hg hb, fun o => h.frozen hg hb⟩
theorem Mv.own8 {b : Nat} {w0 w1 : World} (h : Mv b w0 w1) {r : Nat} (hr : w0.heap.size ≤ r) (v0 v1 v2 v3 v4 v5 v6 v7 : Value) : Mv b w0 ((((((((w1.setCell ⟨r, 0, none⟩ v0).setCell ⟨r, 1, none⟩ v1).setCell ⟨r, 2, none⟩ v2).setCell ⟨r, 3, none⟩ v3).setCell ⟨r, 4, none⟩ v4).setCell ⟨r, 5, none⟩ v5).setCell ⟨r, 6, none⟩ v6).setCell ⟨r, 7, none⟩ v7) :=
 (((((((h.own hr v0).own hr v1).own hr v2).own hr v3).own hr v4).own hr v5).own hr v6).own hr v7
theorem Mv.toBelow {b : Nat} {w w0 w' : World} (h : Mv b w0 w') (hb : Below w.heap.size w w0) (hn : w.heap.size ≤ b) : Below w.heap.size w w' :=
 hb.trans ⟨h.os, h.tape, h.output, h.size, fun k hk => h.block k (Nat.lt_of_lt_of_le hk hb.size) (by omega)⟩
def GoodT (t : Tk) : Prop := t.2.1.length ≤ 1000 ∧ t.1 ≤ 4 ∧ (t.1 = 4 → wordB t.2.1 = false)
def GoodTs (ts : List Tk) : Prop := ts.length ≤ 1000 ∧ ∀ k (h : k < ts.length), GoodT ts[k]
structure Rd (b : Nat) (a : Option Addr) (cap : Nat) (ts : List Tk) (w : World) (k : Nat) : Prop where
 lt : b < w.heap.size
 le : k ≤ ts.length
 c0 : w.cell? ⟨b, 0, none⟩ = some (.slice a ts.length cap)
 c1 : w.cell? ⟨b, 1, none⟩ = some (.int .i64 (k : Int))
 fr : w.frozen? ⟨b, 1, none⟩ = false
 row : ∀ i (h : i < ts.length), ∃ g, a = some ⟨g, 0, none⟩ ∧ g ≠ b ∧ Tok3 w g (i * 3) ts[i]
variable {b : Nat} {a : Option Addr} {cap : Nat} {ts : List Tk}
theorem Tok3.mv {b : Nat} {w w' : World} {g o : Nat} {t : Tk} (h : Tok3 w g o t) (hb : g ≠ b) (k : Mv b w w') : Tok3 w' g o t := by
 obtain ⟨h0, h1, h2, h3⟩ := h
 exact ⟨Nat.lt_of_lt_of_le h0 k.size, k.kc h0 hb h1, k.kc h0 hb h2, k.kc h0 hb h3⟩
theorem Rd.below {w w' : World} {k : Nat} (h : Rd b a cap ts w k) (hb : Below w.heap.size w w') : Rd b a cap ts w' k :=
 ⟨Nat.lt_of_lt_of_le h.lt hb.size, h.le, kcell hb h.lt h.c0, kcell hb h.lt h.c1, kfroz hb h.lt h.fr, fun i hi => by
  obtain ⟨g, ha, hg, ht⟩ := h.row i hi
  exact ⟨g, ha, hg, ht.mv hg (Mv.of_below hb)⟩⟩
theorem Rd.alloc {w : World} {k : Nat} (h : Rd b a cap ts w k) (o : Obj) : Rd b a cap ts (w.alloc o) k := h.below (below1 w o)
theorem Rd.drew {w : World} {k : Nat} (h : Rd b a cap ts w k) : Rd b a cap ts w.drew k := ⟨h.lt, h.le, h.c0, h.c1, h.fr, h.row⟩
theorem Rd.drewN {w : World} {k : Nat} (h : Rd b a cap ts w k) (n : Nat) : Rd b a cap ts (w.drewN n) k := by
 exact ⟨h.lt, h.le, h.c0, h.c1, h.fr, h.row⟩
theorem Rd.own {w w0 : World} {k k0 : Nat} (h : Rd b a cap ts w k) (h0 : Rd b a cap ts w0 k0) {p : Addr} (hp : w0.heap.size ≤ p.block) (v : Value) : Rd b a cap ts (w.setCell p v) k := by
 have e : ∀ g, g ≠ p.block → (w.setCell p v).heap[g]? = w.heap[g]? := fun g hg => Below.heap_setCell _ _ _ _ hg
 have ec : ∀ g o, g ≠ p.block → (w.setCell p v).cell? ⟨g, o, none⟩ = w.cell? ⟨g, o, none⟩ := fun g o hg => World.cell?_of_block (w := w) (e g hg)
 have hb := h0.lt
 refine ⟨by simpa [World.setCell] using h.lt, h.le, (ec b 0 (by omega)).trans h.c0, (ec b 1 (by omega)).trans h.c1, (World.frozen?_of_block (w := w) (e b (by omega))).trans h.fr, fun i hi => ?_⟩
 obtain ⟨g, hg, hb, t0, t1, t2, t3⟩ := h.row i hi
 obtain ⟨g', hg', -, s0, -⟩ := h0.row i hi
 obtain rfl : g = g' := by rw [hg] at hg'; simpa using hg'
 have hn : g ≠ p.block := by omega
 exact ⟨g, hg, hb, by simpa [World.setCell] using t0, (ec g _ hn).trans t1, (ec g _ hn).trans t2, (ec g _ hn).trans t3⟩
theorem Rd.own8 {w w0 : World} {k k0 : Nat} (h : Rd b a cap ts w k) (h0 : Rd b a cap ts w0 k0) {r : Nat} (hr : w0.heap.size ≤ r) (v0 v1 v2 v3 v4 v5 v6 v7 : Value) : Rd b a cap ts ((((((((w.setCell ⟨r, 0, none⟩ v0).setCell ⟨r, 1, none⟩ v1).setCell ⟨r, 2, none⟩ v2).setCell ⟨r, 3, none⟩ v3).setCell ⟨r, 4, none⟩ v4).setCell ⟨r, 5, none⟩ v5).setCell ⟨r, 6, none⟩ v6).setCell ⟨r, 7, none⟩ v7) k :=
 (((((((h.own h0 hr v0).own h0 hr v1).own h0 hr v2).own h0 hr v3).own h0 hr v4).own h0 hr v5).own h0 hr v6).own h0 hr v7
theorem Rd.put {w : World} {k k' : Nat} (h : Rd b a cap ts w k) (hk : k' ≤ ts.length) : Rd b a cap ts (w.setCell ⟨b, 1, none⟩ (.int .i64 (k' : Int))) k' := by
 have m : Mv b w (w.setCell ⟨b, 1, none⟩ (.int .i64 (k' : Int))) := (Mv.refl b w).put 1 _
 obtain ⟨h0, h1, h2, h3, h4, h5⟩ := h
 refine ⟨by simpa [World.setCell] using h0, hk, ?_, ?_, ?_, fun i hi => ?_⟩
 ·go_simp
 ·go_simp
 ·go_simp
 ·obtain ⟨g, ha, hg, ht⟩ := h5 i hi
  exact ⟨g, ha, hg, ht.mv hg m⟩
end
section
variable {b : Nat} {a : Option Addr} {cap : Nat} {ts : List Tk}
def tokAt (ts : List Tk) (k : Nat) : Tk := (ts[k]?).getD (0, [], 0)
theorem tokAt_in {ts : List Tk} {k : Nat} (h : k < ts.length) : tokAt ts k = ts[k] := by simp [tokAt, h]
theorem tokAt_end {ts : List Tk} {k : Nat} (h : ts.length ≤ k) : tokAt ts k = (0, [], 0) := by simp [tokAt, h]
end
section
variable {b : Nat} {a : Option Addr} {cap : Nat} {ts : List Tk}
theorem mkB_tok (ts : List Tk) (k : Nat) (m : Mk) : mkB ts k m = (((tokAt ts k).1 == (if wordB m = true then 1 else 4)) && ((tokAt ts k).2.1 == m)) := by
 unfold mkB tokAt
 cases ts[k]? with
 | some t => rfl
 | none => by_cases h : wordB m = true <;> simp [h]
theorem mkB_lt {ts : List Tk} {k : Nat} {m : Mk} (h : mkB ts k m = true) : k < ts.length := by
 unfold mkB at h
 split at h
 ·rename_i t ht
  exact (List.getElem?_eq_some_iff.1 ht).1
 ·cases h
theorem good_at {ts : List Tk} (h : GoodTs ts) (k : Nat) : GoodT (tokAt ts k) := by
 by_cases hk : k < ts.length
 ·rw [tokAt_in hk]; exact h.2 k hk
 ·rw [tokAt_end (by omega)]; exact ⟨by simp, by simp, by simp⟩
def Marks (b : Nat) (w : World) (g : Nat) (ms : List Mk) : Prop := g < w.heap.size ∧ g ≠ b ∧ ms.length ≤ 1000 ∧ ∀ i (h : i < ms.length), ms[i].length ≤ 1000 ∧ w.cell? ⟨g, i, none⟩ = some (.string ⟨ms[i].toArray⟩)
theorem Marks.mv {b : Nat} {w w' : World} {g : Nat} {ms : List Mk} (h : Marks b w g ms) (k : Mv b w w') : Marks b w' g ms :=
 ⟨Nat.lt_of_lt_of_le h.1 k.size, h.2.1, h.2.2.1, fun i hi => ⟨(h.2.2.2 i hi).1, k.kc h.1 h.2.1 (h.2.2.2 i hi).2⟩⟩
theorem Marks.new (w : World) (b : Nat) (ms : List Mk) (t : TypeId) (hb : b < w.heap.size) (hl : ms.length ≤ 1000) (hm : ∀ m ∈ ms, m.length ≤ 1000) : Marks b (w.alloc (.cells (ms.map sV).toArray t)) w.heap.size ms := by
 refine ⟨by simp, by omega, hl, fun i hi => ⟨hm _ (List.getElem_mem hi), ?_⟩⟩
 rw [row_strs]
 simp [hi, sV]
theorem Marks.at {w : World} {b g : Nat} {ms : List Mk} {t : TypeId} (hg : g = w.heap.size) (hb : b < w.heap.size) (hl : ms.length ≤ 1000) (hm : ∀ m ∈ ms, m.length ≤ 1000) : Marks b (w.alloc (.cells (ms.map sV).toArray t)) g ms := hg ▸ Marks.new w b ms t hb hl hm
theorem fnd_step {ts : List Tk} {k i : Nat} {ms : List Mk} (h : i < ms.length) : fnd ts k (ms.drop i) = if mkB ts k ms[i] = true then some ms[i] else fnd ts k (ms.drop (i + 1)) := by
 rw [List.drop_eq_getElem_cons h, fnd]
end
section
theorem row_block {w : World} {g : Nat} {cs : Array Value} {t : TypeId} {fr : Nat × Nat} (h : w.heap[g]? = some (.cells cs t fr)) (l : List XT) (hl : ∀ x ∈ l, x.cells.length = 8) (hcs : cs.toList = xsC l) :
  ∀ i (h : i < l.length) j, j < 8 → w.cell? ⟨g, i * 8 + j, none⟩ = l[i].cells[j]? := by
 intro i hi j hj
 rw [cell_of_row _ _ _ _ _ _ h, ← Array.getElem?_toList, hcs]
 clear h hcs
 induction l generalizing i with
 | nil => exact absurd hi (Nat.not_lt_zero _)
 | cons x l ih =>
  have hx := hl x (by simp)
  rw [xsC, List.flatMap_cons]
  cases i with
  | zero => rw [List.getElem?_append_left (by omega)]; simp
  | succ i =>
   rw [List.getElem?_append_right (by omega)]
   have e : (i + 1) * 8 + j - x.cells.length = i * 8 + j := by omega
   rw [e]
   have := ih (fun y hy => hl y (by simp [hy])) i (by simpa using hi)
   rw [xsC] at this
   rw [this]
   simp
theorem heap_at {w : World} {g : Nat} (h : g = w.heap.size) (o : Obj) : (w.alloc o).heap[g]? = some o := by rw [h]; exact heap_alloc_new w o
theorem mk_cells (k : Int) (b : Bool) (m s : Int) (t : ByteArray) (lo hi : Bool) (a : Option Addr) (len cap : Nat) (kid : Nat → XT) : (XT.mk k b m s t lo hi a len cap kid).cells.length = 8 := rfl
end
section
def XB (w : World) (g : Nat) (k : Int) (b : Bool) (m s : Int) (t : ByteArray) (lo hi : Bool) (a : Option Addr) (len cap : Nat) : Prop :=
 g < w.heap.size ∧ w.cell? ⟨g, 0, none⟩ = some (.int .i64 k) ∧ w.cell? ⟨g, 1, none⟩ = some (.bool b) ∧ w.cell? ⟨g, 2, none⟩ = some (.int .i64 m) ∧ w.cell? ⟨g, 3, none⟩ = some (.int .i64 s) ∧ w.cell? ⟨g, 4, none⟩ = some (.string t) ∧ w.cell? ⟨g, 5, none⟩ = some (.bool lo) ∧ w.cell? ⟨g, 6, none⟩ = some (.bool hi) ∧ w.cell? ⟨g, 7, none⟩ = some (.slice a len cap) ∧ ∀ o, w.frozen? ⟨g, o, none⟩ = false
theorem XB.by {w w' : World} {g : Nat} {k : Int} {b : Bool} {m s : Int} {t : ByteArray} {lo hi : Bool} {a : Option Addr} {len cap : Nat} (h : XB w g k b m s t lo hi a len cap) (hs : w.heap.size ≤ w'.heap.size) (hb : w'.heap[g]? = w.heap[g]?) : XB w' g k b m s t lo hi a len cap := by
 obtain ⟨h0, h1, h2, h3, h4, h5, h6, h7, h8, h9⟩ := h
 have hc : ∀ o, w'.cell? ⟨g, o, none⟩ = w.cell? ⟨g, o, none⟩ := fun o => World.cell?_of_block (w := w) hb
 have hf : ∀ o, w'.frozen? ⟨g, o, none⟩ = w.frozen? ⟨g, o, none⟩ := fun o => World.frozen?_of_block (w := w) hb
 exact ⟨Nat.lt_of_lt_of_le h0 hs, (hc _).trans h1, (hc _).trans h2, (hc _).trans h3, (hc _).trans h4, (hc _).trans h5, (hc _).trans h6, (hc _).trans h7, (hc _).trans h8, fun o => (hf o).trans (h9 o)⟩
section
variable {q : Nat} {w w' : World} {g : Nat} {k : Int} {b : Bool} {m s : Int} {t : ByteArray} {lo hi : Bool} {a : Option Addr} {len cap : Nat}
theorem XB.below (h : XB w g k b m s t lo hi a len cap) (hb : Below w.heap.size w w') : XB w' g k b m s t lo hi a len cap := h.by hb.size (hb.block g h.1)
theorem XB.mv (h : XB w g k b m s t lo hi a len cap) (hm : Mv q w w') (hq : g ≠ q) : XB w' g k b m s t lo hi a len cap := h.by hm.size (hm.block g h.1 hq)
theorem XB.alloc (h : XB w g k b m s t lo hi a len cap) (o : Obj) : XB (w.alloc o) g k b m s t lo hi a len cap := h.below (below1 w o)
theorem XB.set8 (h : XB w g k b m s t lo hi a len cap) {r : Nat} (hr : g ≠ r) (v0 v1 v2 v3 v4 v5 v6 v7 : Value) : XB ((((((((w.setCell ⟨r, 0, none⟩ v0).setCell ⟨r, 1, none⟩ v1).setCell ⟨r, 2, none⟩ v2).setCell ⟨r, 3, none⟩ v3).setCell ⟨r, 4, none⟩ v4).setCell ⟨r, 5, none⟩ v5).setCell ⟨r, 6, none⟩ v6).setCell ⟨r, 7, none⟩ v7) g k b m s t lo hi a len cap := by
 refine h.by (by simp [World.setCell]) ?_
 rw [Below.heap_setCell _ _ _ _ hr, Below.heap_setCell _ _ _ _ hr, Below.heap_setCell _ _ _ _ hr, Below.heap_setCell _ _ _ _ hr, Below.heap_setCell _ _ _ _ hr, Below.heap_setCell _ _ _ _ hr, Below.heap_setCell _ _ _ _ hr, Below.heap_setCell _ _ _ _ hr]
end
theorem XB.new (w : World) (k : Int) (b : Bool) (m s : Int) (t : ByteArray) (lo hi : Bool) (a : Option Addr) (len cap : Nat) (ty : TypeId) : XB (w.alloc (.cells #[.int .i64 k, .bool b, .int .i64 m, .int .i64 s, .string t, .bool lo, .bool hi, .slice a len cap] ty)) w.heap.size k b m s t lo hi a len cap :=
 ⟨by simp, by go_simp, by go_simp, by go_simp, by go_simp, by go_simp, by go_simp, by go_simp, by go_simp, fun o => by go_simp⟩
theorem XB.put {w : World} {g : Nat} {k : Int} {b : Bool} {m s : Int} {t : ByteArray} {lo hi : Bool} {a : Option Addr} {len cap : Nat} (h : XB w g k b m s t lo hi a len cap) (k' : Int) (b' : Bool) (m' s' : Int) (t' : ByteArray) (lo' hi' : Bool) (a' : Option Addr) (len' cap' : Nat) :
  XB ((((((((w.setCell ⟨g, 0, none⟩ (.int .i64 k')).setCell ⟨g, 1, none⟩ (.bool b')).setCell ⟨g, 2, none⟩ (.int .i64 m')).setCell ⟨g, 3, none⟩ (.int .i64 s')).setCell ⟨g, 4, none⟩ (.string t')).setCell ⟨g, 5, none⟩ (.bool lo')).setCell ⟨g, 6, none⟩ (.bool hi')).setCell ⟨g, 7, none⟩ (.slice a' len' cap')) g k' b' m' s' t' lo' hi' a' len' cap' := by
 obtain ⟨h0, h1, h2, h3, h4, h5, h6, h7, h8, h9⟩ := h
 exact ⟨by simpa [World.setCell] using h0, by go_simp, by go_simp, by go_simp, by go_simp, by go_simp, by go_simp, by go_simp, by go_simp, fun o => by go_simp⟩
theorem XB.at {w : World} {g : Nat} {k : Int} {b : Bool} {m s : Int} {t : ByteArray} {lo hi : Bool} {a : Option Addr} {len cap : Nat} {ty : TypeId} (hg : g = w.heap.size) : XB (w.alloc (.cells #[.int .i64 k, .bool b, .int .i64 m, .int .i64 s, .string t, .bool lo, .bool hi, .slice a len cap] ty)) g k b m s t lo hi a len cap := hg ▸ XB.new w k b m s t lo hi a len cap ty
abbrev ZB (w : World) (g : Nat) : Prop := XB w g 0 false 0 0 ⟨#[]⟩ false false none 0 0
abbrev zO (ty : TypeId) : Obj := .cells #[.int .i64 0, .bool false, .int .i64 0, .int .i64 0, .string ⟨#[]⟩, .bool false, .bool false, .slice none 0 0] ty
theorem ZB.new (w : World) (ty : TypeId) : ZB (w.alloc (zO ty)) w.heap.size := XB.new w 0 false 0 0 ⟨#[]⟩ false false none 0 0 ty
end
section
variable {b : Nat} {a : Option Addr} {cap : Nat} {ts : List Tk}
theorem chainP_end {part : Nat → RX} {ops : List Mk} {f : Nat} {x : XT} {k : Nat} (h : fnd ts k ops = none) : chainP ts part ops f x k = .ok x k := by
 cases f with
 | zero => rfl
 | succ f => rw [chainP, h]
theorem fnd_lt {k : Nat} {ops : List Mk} {m : Mk} (h : fnd ts k ops = some m) : k < ts.length ∧ m ∈ ops := by
 induction ops with
 | nil => cases h
 | cons o ops ih =>
  rw [fnd] at h
  split at h
  ·rename_i hm
   cases h
   exact ⟨mkB_lt hm, by simp⟩
  ·obtain ⟨h1, h2⟩ := ih h
   exact ⟨h1, by simp [h2]⟩
theorem chainP_er {part : Nat → RX} {ops : List Mk} {f : Nat} {x : XT} {k k' : Nat} {op : Mk} {c : Int} (hf : ts.length - k ≤ f) (h : fnd ts k ops = some op) (hp : part (k + 1) = .er c k') : chainP ts part ops f x k = .er c k' := by
 have := (fnd_lt h).1
 cases f with
 | zero => omega
 | succ f => rw [chainP, h]; dsimp only; rw [hp]
theorem chainP_ok {part : Nat → RX} {ops : List Mk} {f : Nat} {x y : XT} {k k' : Nat} {op : Mk} (hf : ts.length - k ≤ f) (h : fnd ts k ops = some op) (hp : part (k + 1) = .ok y k') (hk : k + 1 ≤ k') :
  ∃ f', ts.length - k' ≤ f' ∧ chainP ts part ops f x k = chainP ts part ops f' (binX op x y) k' := by
 have := (fnd_lt h).1
 cases f with
 | zero => omega
 | succ f => exact ⟨f, by omega, by rw [chainP, h]; dsimp only; rw [hp]⟩
end
end Go.Proofs.YtfdimdjmnfdecaaGreat
