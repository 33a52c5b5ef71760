/- Math6 VCmpMath VOwn VFresh VBare FTree VLogMath EMath: laid together. -/
import Derived.Test.YtfdimdjmnfdecaaGreatKAA
import Derived.Lib.Bytealg
import Derived.Deep.OwnRows
import Derived.Deep.Slices
import Derived.Lib.SmallJoins
set_option linter.unusedVariables false
set_option linter.unusedSimpArgs false
set_option maxHeartbeats 8000000
namespace Go.Proofs.YtfdimdjmnfdecaaGreat
open Go.RowKit
section
theorem isB_ten {m s : Int} (h : isB m s = true) (hs : s ≠ 0) : m % 10 ≠ 0 := by
 unfold isB at h
 simp at h
 omega
theorem cmp_bd (x y : Int) : -1 ≤ cmpI x y ∧ cmpI x y ≤ 1 := by
 unfold cmpI
 split
 ·omega
 ·split <;> omega
end
section
def cmpS (t t' : ByteArray) : Int := Lib.compareBytes t.data.toList t'.data.toList
def cmpB (b b' : Bool) : Int := if b = b' then 0 else if b' = true then -1 else 1
def lexF (f : Nat → Int) (z : Int) (n : Nat) : Int := match (List.range n).find? (fun i => f i != 0) with
 | some i => f i
 | none => z
theorem lex_hit {f : Nat → Int} (z : Int) {n j : Nat} (hj : j < n) (h0 : ∀ i, i < j → f i = 0) (h : f j ≠ 0) : lexF f z n = f j := by
 have : (List.range n).find? (fun i => f i != 0) = some j := List.find?_range_eq_some.2 ⟨by simpa using h, List.mem_range.2 hj, fun i hi => by simp [h0 i hi]⟩
 unfold lexF; rw [this]
theorem lex_none {f : Nat → Int} (z : Int) {n : Nat} (h0 : ∀ i, i < n → f i = 0) : lexF f z n = z := by
 have : (List.range n).find? (fun i => f i != 0) = none := List.find?_range_eq_none.2 (fun i hi => by simp [h0 i hi])
 unfold lexF; rw [this]
theorem lex_cases (f : Nat → Int) (z : Int) (n : Nat) : (∃ j, j < n ∧ (∀ i, i < j → f i = 0) ∧ f j ≠ 0 ∧ lexF f z n = f j) ∨ ((∀ i, i < n → f i = 0) ∧ lexF f z n = z) := by
 cases h : (List.range n).find? (fun i => f i != 0) with
 | none =>
  have h0 : ∀ i, i < n → f i = 0 := fun i hi => by simpa using List.find?_range_eq_none.1 h i hi
  exact Or.inr ⟨h0, lex_none z h0⟩
 | some j =>
  obtain ⟨h1, h2, h3⟩ := List.find?_range_eq_some.1 h
  have h0 : ∀ i, i < j → f i = 0 := fun i hi => by simpa using h3 i hi
  have h1 : f j ≠ 0 := by simpa using h1
  exact Or.inl ⟨j, List.mem_range.1 h2, h0, h1, lex_hit z (List.mem_range.1 h2) h0 h1⟩
def VT.cmp : VT → VT → Int
 | .mk k b m s t _ len _ kid, .mk k' b' m' s' t' _ len' _ kid' =>
  if k ≠ k' then cmpI k k' else if k = 1 then cmpB b b' else if k = 2 then cmpI (upM m s 4) (upM m' s' 4) else if k = 3 then cmpS t t' else
  lexF (fun i => (kid i).cmp (kid' i)) (cmpI len len') (min len len')
 | _, _ => 0
theorem cmp_dec (m s n t : Int) (ha : isB m s = true) (hb : isB n t = true) : cmpI (upM m s (max s t)) (upM n t (max s t)) = cmpI (upM m s 4) (upM n t 4) := by
 have ⟨m1, m2, s1, s2⟩ := isB_bd ha
 have ⟨n1, n2, t1, t2⟩ := isB_bd hb
 rw [up_scale m s (max s t) (by omega) (by omega), up_scale n t (max s t) (by omega) (by omega)]
 exact (cmp_scale _ _ _ (p10_pos _)).symm
theorem cb_self : ∀ a : List UInt8, Lib.compareBytes a a = 0
 | [] => rfl
 | x :: a => by unfold Lib.compareBytes; rw [if_neg (UInt8.lt_irrefl x), if_neg (UInt8.lt_irrefl x)]; exact cb_self a
theorem cb_zero : ∀ a b : List UInt8, Lib.compareBytes a b = 0 → a = b
 | [], [], _ => rfl
 | [], _ :: _, h => by simp [Lib.compareBytes] at h
 | _ :: _, [], h => by simp [Lib.compareBytes] at h
 | x :: a, y :: b, h => by
  unfold Lib.compareBytes at h
  by_cases h1 : x < y
  ·rw [if_pos h1] at h; omega
  ·by_cases h2 : y < x
   ·rw [if_neg h1, if_pos h2] at h; omega
   ·rw [if_neg h1, if_neg h2] at h
    rw [cb_zero a b h, UInt8.le_antisymm (UInt8.not_lt.1 h2) (UInt8.not_lt.1 h1)]
theorem cb_bd : ∀ a b : List UInt8, -1 ≤ Lib.compareBytes a b ∧ Lib.compareBytes a b ≤ 1
 | [], [] => by simp [Lib.compareBytes]
 | [], _ :: _ => by simp [Lib.compareBytes]
 | _ :: _, [] => by simp [Lib.compareBytes]
 | x :: a, y :: b => by
  unfold Lib.compareBytes
  by_cases h1 : x < y
  ·rw [if_pos h1]; omega
  ·by_cases h2 : y < x
   ·rw [if_neg h1, if_pos h2]; omega
   ·rw [if_neg h1, if_neg h2]; exact cb_bd a b
theorem cb_less : ∀ a b : List UInt8, Op.bytesLess a b = decide (Lib.compareBytes a b = -1)
 | [], [] => rfl
 | [], _ :: _ => rfl
 | _ :: _, [] => rfl
 | x :: a, y :: b => by
  unfold Lib.compareBytes Op.bytesLess
  by_cases h1 : x < y
  ·simp [h1]
  ·by_cases h2 : y < x
   ·have : ¬ x = y := by rintro rfl; exact UInt8.lt_irrefl x h2
    simp [h1, h2, this]
   ·have e : x = y := UInt8.le_antisymm (UInt8.not_lt.1 h2) (UInt8.not_lt.1 h1)
    subst e
    have ih := cb_less a b
    simp [ih]
end
section
def Own (w : World) (b : Nat) : Prop := VT.Six w b 0 0 false 0 0 ⟨#[]⟩ none 0 0 ∧ w.frozen? ⟨b, 0, none⟩ = false ∧ w.frozen? ⟨b, 1, none⟩ = false ∧ w.frozen? ⟨b, 2, none⟩ = false ∧ w.frozen? ⟨b, 3, none⟩ = false ∧ w.frozen? ⟨b, 4, none⟩ = false ∧ w.frozen? ⟨b, 5, none⟩ = false
theorem Own.below {w w' : World} {b : Nat} (h : Own w b) (k : Below w.heap.size w w') : Own w' b := by
 obtain ⟨s, f0, f1, f2, f3, f4, f5⟩ := h
 exact ⟨s.below k, kfroz k s.1 f0, kfroz k s.1 f1, kfroz k s.1 f2, kfroz k s.1 f3, kfroz k s.1 f4, kfroz k s.1 f5⟩
theorem sixfl {w : World} {b : Nat} {k : Int} {bb : Bool} {m s : Int} {t : ByteArray} {a : Option Addr} {len cap : Nat} (h : VT.Six w b 0 k bb m s t a len cap) : b < w.heap.size ∧ w.cell? ⟨b, 0, none⟩ = some (.int .i64 k) ∧ w.cell? ⟨b, 1, none⟩ = some (.bool bb) ∧ w.cell? ⟨b, 2, none⟩ = some (.int .i64 m) ∧ w.cell? ⟨b, 3, none⟩ = some (.int .i64 s) ∧ w.cell? ⟨b, 4, none⟩ = some (.string t) ∧ w.cell? ⟨b, 5, none⟩ = some (.slice a len cap) := by
 obtain ⟨h0, e0, e1, e2, e3, e4, e5⟩ := h
 simp only [Nat.zero_add] at e0 e1 e2 e3 e4 e5
 exact ⟨h0, e0, e1, e2, e3, e4, e5⟩
theorem bZ (w : World) : Below w.heap.size w (w.alloc (Obj.cells #[.int .i64 0, .bool false, .int .i64 0, .int .i64 0, .string ⟨#[]⟩, .slice none 0 0] 32)) := below1 w _
theorem Own.fl {w : World} {b : Nat} (h : Own w b) : b < w.heap.size ∧ w.cell? ⟨b, 0, none⟩ = some (.int .i64 0) ∧ w.cell? ⟨b, 1, none⟩ = some (.bool false) ∧ w.cell? ⟨b, 2, none⟩ = some (.int .i64 0) ∧ w.cell? ⟨b, 3, none⟩ = some (.int .i64 0) ∧ w.cell? ⟨b, 4, none⟩ = some (.string ⟨#[]⟩) ∧ w.cell? ⟨b, 5, none⟩ = some (.slice none 0 0) ∧ w.frozen? ⟨b, 0, none⟩ = false ∧ w.frozen? ⟨b, 1, none⟩ = false ∧ w.frozen? ⟨b, 2, none⟩ = false ∧ w.frozen? ⟨b, 3, none⟩ = false ∧ w.frozen? ⟨b, 4, none⟩ = false ∧ w.frozen? ⟨b, 5, none⟩ = false := by
 obtain ⟨⟨h0, e0, e1, e2, e3, e4, e5⟩, f0, f1, f2, f3, f4, f5⟩ := h
 simp only [Nat.zero_add] at e0 e1 e2 e3 e4 e5
 exact ⟨h0, e0, e1, e2, e3, e4, e5, f0, f1, f2, f3, f4, f5⟩
theorem Own.new (w : World) (t : TypeId) : Own (w.alloc (Obj.cells #[.int .i64 0, .bool false, .int .i64 0, .int .i64 0, .string ⟨#[]⟩, .slice none 0 0] t)) w.heap.size :=
 ⟨⟨by simp, by go_simp, by go_simp, by go_simp, by go_simp, by go_simp, by go_simp⟩, by go_simp, by go_simp, by go_simp, by go_simp, by go_simp, by go_simp⟩
theorem Own.put {w : World} {b : Nat} (h : Own w b) (K : Int) (B : Bool) (M S : Int) (T : ByteArray) (A : Option Addr) (L C : Nat) :
  VT.Six ((((((w.setCell ⟨b, 0, none⟩ (.int .i64 K)).setCell ⟨b, 1, none⟩ (.bool B)).setCell ⟨b, 2, none⟩ (.int .i64 M)).setCell ⟨b, 3, none⟩ (.int .i64 S)).setCell ⟨b, 4, none⟩ (.string T)).setCell ⟨b, 5, none⟩ (.slice A L C)) b 0 K B M S T A L C := by
 obtain ⟨⟨h0, e0, e1, e2, e3, e4, e5⟩, -⟩ := h
 simp only [Nat.zero_add] at e0 e1 e2 e3 e4 e5
 refine ⟨by simpa [World.setCell] using h0, ?_, ?_, ?_, ?_, ?_, ?_⟩ <;> (try simp only [Nat.zero_add]) <;> (first | (go_simp; done) | (go_simp; exact World.cell?_setCell_same' _ _ _ (by go_simp)) | exact World.cell?_setCell_same' _ _ _ (by go_simp))
theorem six_other {w : World} {b' o : Nat} {k : Int} {bb : Bool} {m s : Int} {t : ByteArray} {a : Option Addr} {len cap : Nat} (h : VT.Six w b' o k bb m s t a len cap) {b : Nat} (hne : b' ≠ b) (v0 v1 v2 v3 v4 v5 : Value) :
  VT.Six ((((((w.setCell ⟨b, 0, none⟩ v0).setCell ⟨b, 1, none⟩ v1).setCell ⟨b, 2, none⟩ v2).setCell ⟨b, 3, none⟩ v3).setCell ⟨b, 4, none⟩ v4).setCell ⟨b, 5, none⟩ v5) b' o k bb m s t a len cap := by
 obtain ⟨h0, e0, e1, e2, e3, e4, e5⟩ := h
 exact ⟨by simpa [World.setCell] using h0, by go_simp, by go_simp, by go_simp, by go_simp, by go_simp, by go_simp⟩
theorem Own.other {w : World} {b' : Nat} (h : Own w b') {b : Nat} (hne : b' ≠ b) (v0 v1 v2 v3 v4 v5 : Value) :
  Own ((((((w.setCell ⟨b, 0, none⟩ v0).setCell ⟨b, 1, none⟩ v1).setCell ⟨b, 2, none⟩ v2).setCell ⟨b, 3, none⟩ v3).setCell ⟨b, 4, none⟩ v4).setCell ⟨b, 5, none⟩ v5) b' := by
 obtain ⟨s, f0, f1, f2, f3, f4, f5⟩ := h
 exact ⟨six_other s hne _ _ _ _ _ _, by go_simp, by go_simp, by go_simp, by go_simp, by go_simp, by go_simp⟩
end
section
namespace VT
def Fresh (n : Nat) (w : World) : VT → Prop
 | .none => True
 | .mk _ _ _ _ _ a len _ kid => ∀ i, i < len → (∃ bl o, a = some ⟨bl, o, Option.none⟩ ∧ n ≤ bl ∧ ∀ j, j < 6 → w.frozen? ⟨bl, o + i * 6 + j, Option.none⟩ = false) ∧ (kid i).Fresh n w
theorem Fresh.mono {n n' : Nat} {w : World} (h : n' ≤ n) (x : VT) (f : x.Fresh n w) : x.Fresh n' w := by
 induction x with
 | none => trivial
 | mk k b m s t a len cap kid ih =>
  intro i hi
  obtain ⟨⟨bl, o, ha, hn, hf⟩, hk⟩ := f i hi
  exact ⟨⟨bl, o, ha, by omega, hf⟩, ih i hk⟩
theorem away {n : Nat} {w w' : World} (hc : ∀ bl o, n ≤ bl → w'.cell? ⟨bl, o, Option.none⟩ = w.cell? ⟨bl, o, Option.none⟩) (hf : ∀ bl o, n ≤ bl → w'.frozen? ⟨bl, o, Option.none⟩ = w.frozen? ⟨bl, o, Option.none⟩)
  (x : VT) (h : x.In w) (f : x.Fresh n w) : x.In w' ∧ x.Fresh n w' := by
 induction x with
 | none => exact absurd h (by simp [In])
 | mk k b m s t a len cap kid ih =>
  refine ⟨⟨h.1, fun i hi => ?_⟩, fun i hi => ?_⟩
  ·obtain ⟨⟨bl, o, ha, hcc⟩, hk⟩ := h.2 i hi
   obtain ⟨⟨bl', o', ha', hn, hff⟩, hk'⟩ := f i hi
   obtain ⟨rfl, rfl⟩ : bl = bl' ∧ o = o' := by rw [ha] at ha'; simpa using ha'
   exact ⟨⟨bl, o, ha, fun j hj => (hc _ _ hn).trans (hcc j hj)⟩, (ih i hk hk').1⟩
  ·obtain ⟨⟨bl, o, ha, hcc⟩, hk⟩ := h.2 i hi
   obtain ⟨⟨bl', o', ha', hn, hff⟩, hk'⟩ := f i hi
   exact ⟨⟨bl', o', ha', hn, fun j hj => (hf _ _ hn).trans (hff j hj)⟩, (ih i hk hk').2⟩
theorem Fresh.below {n : Nat} {w w' : World} (hb : Below w.heap.size w w') (x : VT) (h : x.In w) (f : x.Fresh n w) : x.Fresh n w' := by
 induction x with
 | none => trivial
 | mk k b m s t a len cap kid ih =>
  intro i hi
  obtain ⟨⟨bl, o, ha, hcc⟩, hk⟩ := h.2 i hi
  obtain ⟨⟨bl', o', ha', hn, hff⟩, hk'⟩ := f i hi
  obtain ⟨rfl, rfl⟩ : bl = bl' ∧ o = o' := by rw [ha] at ha'; simpa using ha'
  refine ⟨⟨bl, o, ha, hn, fun j hj => ?_⟩, ih i hk hk'⟩
  have hl : bl < w.heap.size := by
   have h0 := hcc 0 (by omega)
   cases hx : kid i with
   | none => rw [hx] at hk; exact absurd hk (by simp [In])
   | mk => rw [hx] at h0; exact World.block_lt_of_cell? _ _ h0
  exact ((bcell hb).2 bl _ hl).trans (hff j hj)
end VT
end
section
namespace VT
def bare : VT → VT
 | .none => .none
 | .mk k b m s t _ len _ kid => .mk k b m s t Option.none len 0 (fun i => if i < len then (kid i).bare else .none)
def Lies (Q : Nat → Prop) : VT → Prop
 | .none => True
 | .mk _ _ _ _ _ a len _ kid => ∀ i, i < len → (∃ bl o, a = some ⟨bl, o, Option.none⟩ ∧ Q bl) ∧ (kid i).Lies Q
theorem In.form {w : World} {x : VT} (h : x.In w) : ∃ k b m s t a len cap kid, x = .mk k b m s t a len cap kid := by
 cases x with
 | none => exact absurd h (by simp [In])
 | mk k b m s t a len cap kid => exact ⟨k, b, m, s, t, a, len, cap, kid, rfl⟩
theorem In.kept {Q : Nat → Prop} {w w' : World} (hh : ∀ bl o, bl < w.heap.size → Q bl → w'.cell? ⟨bl, o, Option.none⟩ = w.cell? ⟨bl, o, Option.none⟩) (x : VT) (h : x.In w) (f : x.Lies Q) : x.In w' := by
 induction x with
 | none => exact h
 | mk k b m s t a len cap kid ih =>
  refine ⟨h.1, fun i hi => ?_⟩
  obtain ⟨⟨bl, o, ha, hc⟩, hk⟩ := h.2 i hi
  obtain ⟨⟨bl', o', ha', hq⟩, hk'⟩ := f i hi
  obtain ⟨rfl, rfl⟩ : bl = bl' ∧ o = o' := by rw [ha] at ha'; simpa using ha'
  refine ⟨⟨bl, o, ha, fun j hj => ?_⟩, ih i hk hk'⟩
  have h0 := hc 0 (by omega)
  have hl : bl < w.heap.size := by
   obtain ⟨_, _, _, _, _, _, _, _, _, hx⟩ := hk.form
   rw [hx] at h0
   exact World.block_lt_of_cell? _ _ h0
  rw [hh bl _ hl hq]
  exact hc j hj
theorem Lies.weak {Q Q' : Nat → Prop} (hq : ∀ g, Q g → Q' g) {x : VT} (f : x.Lies Q) : x.Lies Q' := by
 induction x with
 | none => trivial
 | mk k b m s t a len cap kid ih =>
  intro i hi
  obtain ⟨⟨bl, o, ha, h⟩, hk⟩ := f i hi
  exact ⟨⟨bl, o, ha, hq bl h⟩, ih i hk⟩
theorem Lies.and {Q Q' : Nat → Prop} {x : VT} (f : x.Lies Q) (f' : x.Lies Q') : x.Lies (fun g => Q g ∧ Q' g) := by
 induction x with
 | none => trivial
 | mk k b m s t a len cap kid ih =>
  intro i hi
  obtain ⟨⟨bl, o, ha, h⟩, hk⟩ := f i hi
  obtain ⟨⟨bl', o', ha', h'⟩, hk'⟩ := f' i hi
  obtain ⟨rfl, rfl⟩ : bl = bl' ∧ o = o' := by rw [ha] at ha'; simpa using ha'
  exact ⟨⟨bl, o, ha, h, h'⟩, ih i hk hk'⟩
theorem In.lies {w : World} {x : VT} (h : x.In w) : x.Lies (fun g => g < w.heap.size) := by
 induction x with
 | none => trivial
 | mk k b m s t a len cap kid ih =>
  intro i hi
  obtain ⟨⟨bl, o, ha, hc⟩, hk⟩ := h.2 i hi
  refine ⟨⟨bl, o, ha, ?_⟩, ih i hk⟩
  have h0 := hc 0 (by omega)
  obtain ⟨_, _, _, _, _, _, _, _, _, hx⟩ := hk.form
  rw [hx] at h0
  exact World.block_lt_of_cell? _ _ h0
theorem Fresh.lies {n : Nat} {w : World} {x : VT} (f : x.Fresh n w) : x.Lies (fun g => n ≤ g) := by
 induction x with
 | none => trivial
 | mk k b m s t a len cap kid ih =>
  intro i hi
  obtain ⟨⟨bl, o, ha, hn, hff⟩, hk⟩ := f i hi
  exact ⟨⟨bl, o, ha, hn⟩, ih i hk⟩
theorem lies_leaf (Q : Nat → Prop) (k : Int) (b : Bool) (m s : Int) (t : ByteArray) (a : Option Addr) (cap : Nat) (kid : Nat → VT) : (VT.mk k b m s t a 0 cap kid).Lies Q := fun i hi => absurd hi (Nat.not_lt_zero _)
theorem in_leaf {w : World} {k : Int} {b : Bool} {m s : Int} {t : ByteArray} (wk : (Lit.int .i64 k).wf = true) (wm : (Lit.int .i64 m).wf = true) (ws : (Lit.int .i64 s).wf = true) (ht : t.size ≤ maxLen) : (VT.mk k b m s t Option.none 0 0 (fun _ => .none)).In w :=
 ⟨⟨wk, wm, ws, ht, Nat.le_refl _, Nat.zero_le _⟩, fun i hi => absurd hi (Nat.not_lt_zero _)⟩
def leaf (k : Int) (b : Bool) (m s : Int) (t : ByteArray) : VT := .mk k b m s t Option.none 0 0 (fun _ => .none)
theorem bare_leaf (k : Int) (b : Bool) (m s : Int) (t : ByteArray) (a : Option Addr) (cap : Nat) (kid : Nat → VT) : (VT.mk k b m s t a 0 cap kid).bare = leaf k b m s t := by
 unfold bare leaf; simp
def mkV (k : Int) (b : Bool) (m s : Int) (t : ByteArray) (l : List VT) : VT := .mk k b m s t Option.none l.length 0 (fun i => l.getD i .none)
theorem bare_mk (k : Int) (b : Bool) (m s : Int) (t : ByteArray) (a : Option Addr) (cap : Nat) (l : List VT) : (VT.mk k b m s t a l.length cap (fun i => l.getD i .none)).bare = mkV k b m s t (l.map bare) := by
 unfold bare mkV
 rw [List.length_map]
 congr 1
 funext i
 split
 ·rename_i h; simp [h]
 ·rename_i h; simp at h; simp [h]
theorem bare_of_same (x : VT) : ∀ y : VT, x.same y = true → x.bare = y.bare := by
 induction x with
 | none => intro y h; cases y <;> simp [same] at h
 | mk k b m s t a len cap kid ih =>
  intro y h
  cases y with
  | none => simp [same] at h
  | mk k' b' m' s' t' a' len' cap' kid' =>
   unfold same at h
   simp only [Bool.and_eq_true, decide_eq_true_eq] at h
   obtain ⟨rfl, rfl, rfl, rfl, rfl, rfl, hs⟩ := h
   unfold bare
   congr 1
   funext i
   split
   ·rename_i hi
    exact ih i _ (all_range_get (f := fun i => (kid i).same (kid' i)) hs hi)
   ·rfl
theorem same_of_bare {w w' : World} (x : VT) : ∀ y : VT, x.In w → y.In w' → x.bare = y.bare → x.same y = true := by
 induction x with
 | none => intro y h; exact absurd h (by simp [In])
 | mk k b m s t a len cap kid ih =>
  intro y h h' e
  cases y with
  | none => exact absurd h' (by simp [In])
  | mk k' b' m' s' t' a' len' cap' kid' =>
   unfold bare at e
   simp only [VT.mk.injEq, true_and] at e
   obtain ⟨rfl, rfl, rfl, rfl, rfl, rfl, e⟩ := e
   unfold same
   simp only [decide_true, Bool.true_and]
   refine all_range (f := fun i => (kid i).same (kid' i)) (fun i hi => ih i _ (h.2 i hi).2 (h'.2 i hi).2 ?_)
   have := congrFun e i
   rw [if_pos hi, if_pos hi] at this
   exact this
theorem okB_bare (x : VT) : ∀ n, x.bare.okB n = x.okB n := by
 induction x with
 | none => intro n; rfl
 | mk k b m s t a len cap kid ih =>
  intro n
  have e : ((List.range len).all fun i => (if i < len then (kid i).bare else VT.none).okB (n - 1)) = (List.range len).all fun i => (kid i).okB (n - 1) := by
   rw [Bool.eq_iff_iff, List.all_eq_true, List.all_eq_true]
   constructor
   ·intro h i hi
    have := h i hi
    rw [if_pos (List.mem_range.1 hi), ih i] at this
    exact this
   ·intro h i hi
    rw [if_pos (List.mem_range.1 hi), ih i]
    exact h i hi
  unfold bare okB
  rw [e]
theorem lexF_congr {f g : Nat → Int} {z : Int} {n : Nat} (h : ∀ i, i < n → f i = g i) : lexF f z n = lexF g z n := by
 rcases lex_cases g z n with ⟨j, hj, h0, h1, e⟩ | ⟨h0, e⟩
 ·rw [e, lex_hit z hj (fun i hi => (h i (by omega)).trans (h0 i hi)) (by rw [h j hj]; exact h1), h j hj]
 ·rw [e, lex_none z (fun i hi => (h i hi).trans (h0 i hi))]
theorem cmp_bare (x : VT) : ∀ y : VT, x.bare.cmp y.bare = x.cmp y := by
 induction x with
 | none => intro y; cases y <;> rfl
 | mk k b m s t a len cap kid ih =>
  intro y
  cases y with
  | none => rfl
  | mk k' b' m' s' t' a' len' cap' kid' =>
   unfold bare cmp
   congr 4
   exact lexF_congr (fun i hi => by dsimp only; rw [if_pos (by omega), if_pos (by omega)]; exact ih i _)
end VT
end
section
open Go.ChangeShapes Go.WideShapes Go.RowKit
inductive XT where
 | none
 | mk (k : Int) (b : Bool) (m s : Int) (t : ByteArray) (lo hi : Bool) (a : Option Addr) (len cap : Nat) (kid : Nat → XT)
instance : Inhabited XT := ⟨.none⟩
namespace XT
def cells : XT → List Value
 | .none => []
 | .mk k b m s t lo hi a len cap _ => [.int .i64 k, .bool b, .int .i64 m, .int .i64 s, .string t, .bool lo, .bool hi, .slice a len cap]
def val : XT → Value
 | .none => .agg #[]
 | .mk k b m s t lo hi a len cap _ => .agg #[.int .i64 k, .bool b, .int .i64 m, .int .i64 s, .string t, .bool lo, .bool hi, .slice a len cap]
def In (Q : Nat → Prop) (w : World) : XT → Prop
 | .none => False
 | .mk _ _ _ _ _ _ _ a len _ kid => len ≤ maxLen ∧
   ∀ i, i < len → (∃ bl o, a = some ⟨bl, o, Option.none⟩ ∧ Q bl ∧ ∀ j, j < 8 → w.cell? ⟨bl, o + i * 8 + j, Option.none⟩ = (kid i).cells[j]?) ∧ (kid i).In Q w
theorem In.form {Q : Nat → Prop} {w : World} {x : XT} (h : x.In Q w) : ∃ k b m s t lo hi a len cap kid, x = .mk k b m s t lo hi a len cap kid := by
 cases x with
 | none => exact absurd h (by simp [In])
 | mk k b m s t lo hi a len cap kid => exact ⟨k, b, m, s, t, lo, hi, a, len, cap, kid, rfl⟩
theorem In.keep {Q : Nat → Prop} {w w' : World} (hh : ∀ bl o, bl < w.heap.size → Q bl → w'.cell? ⟨bl, o, Option.none⟩ = w.cell? ⟨bl, o, Option.none⟩) (x : XT) (h : x.In Q w) : x.In Q w' := by
 induction x with
 | none => exact h
 | mk k b m s t lo hi a len cap kid ih =>
  refine ⟨h.1, fun i hi => ?_⟩
  obtain ⟨⟨bl, o, ha, hq, hc⟩, hk⟩ := h.2 i hi
  refine ⟨⟨bl, o, ha, hq, fun j hj => ?_⟩, ih i hk⟩
  have h0 := hc 0 (by omega)
  have hl : bl < w.heap.size := by
   obtain ⟨_, _, _, _, _, _, _, _, _, _, _, hx⟩ := hk.form
   rw [hx] at h0
   exact World.block_lt_of_cell? _ _ h0
  rw [hh bl _ hl hq]
  exact hc j hj
theorem In.below {Q : Nat → Prop} {w w' : World} {x : XT} (h : x.In Q w) (b : Below w.heap.size w w') : x.In Q w' := h.keep (fun bl o hl _ => (bcell b).1 bl o hl)
theorem In.alloc {Q : Nat → Prop} {w : World} {x : XT} (h : x.In Q w) (o : Obj) : x.In Q (w.alloc o) := h.below (below1 w o)
theorem In.weak {Q Q' : Nat → Prop} {w : World} {x : XT} (h : x.In Q w) (hq : ∀ g, g < w.heap.size → Q g → Q' g) : x.In Q' w := by
 induction x with
 | none => exact h
 | mk k b m s t lo hi a len cap kid ih =>
  refine ⟨h.1, fun i hi => ?_⟩
  obtain ⟨⟨bl, o, ha, hq1, hc⟩, hk⟩ := h.2 i hi
  refine ⟨⟨bl, o, ha, ?_, hc⟩, ih i hk⟩
  have h0 := hc 0 (by omega)
  obtain ⟨_, _, _, _, _, _, _, _, _, _, _, hx⟩ := hk.form
  rw [hx] at h0
  exact hq bl (World.block_lt_of_cell? _ _ h0) hq1
theorem In.set {Q : Nat → Prop} {w : World} {x : XT} (h : x.In Q w) {p : Addr} (hp : ∀ g, Q g → g ≠ p.block) (v : Value) : x.In Q (w.setCell p v) :=
 h.keep (fun bl o hl hq => World.cell?_of_block (w := w) (Below.heap_setCell _ _ _ _ (hp bl hq)))
theorem In.set8 {Q : Nat → Prop} {w : World} {x : XT} (h : x.In Q w) {r : Nat} (hp : ∀ g, Q g → g ≠ r) (v0 v1 v2 v3 v4 v5 v6 v7 : Value) : x.In Q ((((((((w.setCell ⟨r, 0, Option.none⟩ v0).setCell ⟨r, 1, Option.none⟩ v1).setCell ⟨r, 2, Option.none⟩ v2).setCell ⟨r, 3, Option.none⟩ v3).setCell ⟨r, 4, Option.none⟩ v4).setCell ⟨r, 5, Option.none⟩ v5).setCell ⟨r, 6, Option.none⟩ v6).setCell ⟨r, 7, Option.none⟩ v7) :=
 (((((((h.set hp v0).set hp v1).set hp v2).set hp v3).set hp v4).set hp v5).set hp v6).set hp v7
def Eight (w : World) (bl o : Nat) (k : Int) (b : Bool) (m s : Int) (t : ByteArray) (lo hi : Bool) (a : Option Addr) (len cap : Nat) : Prop :=
 bl < w.heap.size ∧ w.cell? ⟨bl, o, Option.none⟩ = some (.int .i64 k) ∧ w.cell? ⟨bl, o + 1, Option.none⟩ = some (.bool b) ∧ w.cell? ⟨bl, o + 2, Option.none⟩ = some (.int .i64 m) ∧ w.cell? ⟨bl, o + 3, Option.none⟩ = some (.int .i64 s) ∧ w.cell? ⟨bl, o + 4, Option.none⟩ = some (.string t) ∧ w.cell? ⟨bl, o + 5, Option.none⟩ = some (.bool lo) ∧ w.cell? ⟨bl, o + 6, Option.none⟩ = some (.bool hi) ∧ w.cell? ⟨bl, o + 7, Option.none⟩ = some (.slice a len cap)
theorem In.kid {Q : Nat → Prop} {w : World} {k : Int} {b : Bool} {m s : Int} {t : ByteArray} {lo hi : Bool} {a : Option Addr} {len cap : Nat} {kid : Nat → XT} (h : (XT.mk k b m s t lo hi a len cap kid).In Q w) {i : Nat} (hi' : i < len) :
  ∃ bl o k' b' m' s' t' lo' hi' a' len' cap' kid', a = some ⟨bl, o, Option.none⟩ ∧ kid i = .mk k' b' m' s' t' lo' hi' a' len' cap' kid' ∧ Eight w bl (o + i * 8) k' b' m' s' t' lo' hi' a' len' cap' ∧ (XT.mk k' b' m' s' t' lo' hi' a' len' cap' kid').In Q w := by
 obtain ⟨⟨bl, o, ha, hq, hc⟩, hk⟩ := h.2 i hi'
 obtain ⟨k', b', m', s', t', lo', hi', a', len', cap', kid', hx⟩ := hk.form
 rw [hx] at hc hk
 have h0 := hc 0 (by omega)
 exact ⟨bl, o, k', b', m', s', t', lo', hi', a', len', cap', kid', ha, hx, ⟨World.block_lt_of_cell? _ _ h0, h0, hc 1 (by omega), hc 2 (by omega), hc 3 (by omega), hc 4 (by omega), hc 5 (by omega), hc 6 (by omega), hc 7 (by omega)⟩, hk⟩
theorem Eight.below {w w' : World} {bl o : Nat} {k : Int} {b : Bool} {m s : Int} {t : ByteArray} {lo hi : Bool} {a : Option Addr} {len cap : Nat} (h : Eight w bl o k b m s t lo hi a len cap) (hb : Below w.heap.size w w') : Eight w' bl o k b m s t lo hi a len cap := by
 obtain ⟨h0, h1, h2, h3, h4, h5, h6, h7, h8⟩ := h
 have hc := (bcell hb).1
 exact ⟨Nat.lt_of_lt_of_le h0 hb.size, (hc bl _ h0).trans h1, (hc bl _ h0).trans h2, (hc bl _ h0).trans h3, (hc bl _ h0).trans h4, (hc bl _ h0).trans h5, (hc bl _ h0).trans h6, (hc bl _ h0).trans h7, (hc bl _ h0).trans h8⟩
def bare : XT → XT
 | .none => .none
 | .mk k b m s t lo hi _ len _ kid => .mk k b m s t lo hi Option.none len 0 (fun i => if i < len then (kid i).bare else .none)
def tl (t : ByteArray) : List UInt8 := t.data.toList
def fld (k : Int) (b b' : Bool) (m m' s s' : Int) (t t' : ByteArray) (lo lo' hi hi' : Bool) : Bool :=
 if k = 2 then b == b' else if k = 3 then decide (m = m') && decide (s = s') else if k = 4 ∨ k = 5 ∨ k = 6 ∨ k = 10 then tl t == tl t' else if k = 11 then lo == lo' && hi == hi' else true
def same : XT → XT → Bool
 | .mk k b m s t lo hi _ len _ kid, .mk k' b' m' s' t' lo' hi' _ len' _ kid' => decide (k = k') && (decide (len = len') && (fld k b b' m m' s s' t t' lo lo' hi hi' && (List.range len).all fun i => (kid i).same (kid' i)))
 | .none, .none => true
 | _, _ => false
def mkX (k : Int) (b : Bool) (m s : Int) (t : ByteArray) (lo hi : Bool) (l : List XT) : XT := .mk k b m s t lo hi Option.none l.length 0 (fun i => l.getD i .none)
theorem bare_mk (k : Int) (b : Bool) (m s : Int) (t : ByteArray) (lo hi : Bool) (a : Option Addr) (cap : Nat) (l : List XT) : (XT.mk k b m s t lo hi a l.length cap (fun i => l.getD i .none)).bare = mkX k b m s t lo hi (l.map bare) := by
 unfold bare mkX
 rw [List.length_map]
 congr 1
 funext i
 split
 ·rename_i h; simp [h]
 ·rename_i h; simp at h; simp [h]
end XT
def xsC (l : List XT) : List Value := l.flatMap XT.cells
def Fr (B : Nat) : Nat → Prop := fun g => B ≤ g
theorem in_row {Q : Nat → Prop} {w : World} {g : Nat} (hQ : Q g) (l : List XT) (hl : l.length ≤ maxLen) (hc : ∀ i (h : i < l.length) j, j < 8 → w.cell? ⟨g, i * 8 + j, none⟩ = l[i].cells[j]?) (hin : ∀ x ∈ l, x.In Q w) (k : Int) (b : Bool) (m s : Int) (t : ByteArray) (lo hi : Bool) (cap : Nat) :
  (XT.mk k b m s t lo hi (some ⟨g, 0, none⟩) l.length cap (fun i => l.getD i .none)).In Q w := by
 refine ⟨hl, fun i h => ?_⟩
 have e : l.getD i .none = l[i] := by simp [h]
 refine ⟨⟨g, 0, rfl, hQ, fun j hj => ?_⟩, ?_⟩
 ·dsimp only
  rw [Nat.zero_add, hc i h j hj, e]
 ·dsimp only
  rw [e]
  exact hin _ (List.getElem_mem h)
theorem in_leaf {Q : Nat → Prop} {w : World} (k : Int) (b : Bool) (m s : Int) (t : ByteArray) (lo hi : Bool) : (XT.mk k b m s t lo hi none 0 0 (fun i => [].getD i .none)).In Q w :=
 ⟨Nat.zero_le _, fun i hi => absurd hi (Nat.not_lt_zero _)⟩
def zX : XT := .mk 0 false 0 0 ⟨#[]⟩ false false none 0 0 (fun _ => .none)
def zV : Value := .agg #[.int .i64 0, .bool false, .int .i64 0, .int .i64 0, .string ⟨#[]⟩, .bool false, .bool false, .slice none 0 0]
theorem zX_in (Q : Nat → Prop) (w : World) : zX.In Q w := ⟨Nat.zero_le _, fun i hi => absurd hi (Nat.not_lt_zero _)⟩
end
section
def tval (k : Int) (b : Bool) : Value := .agg #[.int .i64 k, .bool b, .int .i64 0, .int .i64 0, .string ⟨#[]⟩, .slice none 0 0]
def trB (k : Int) (b : Bool) : Bool := decide (k = 1) && b
def unB (k : Int) (b : Bool) : Bool := decide (k = 1) && !b
def andK (u1 u2 y1 y2 : Bool) : Int := if u1 = true then 1 else if u2 = true then 1 else if y1 = true then if y2 = true then 1 else 0 else 0
def andB (u1 u2 y1 y2 : Bool) : Bool := if u1 = true then false else if u2 = true then false else if y1 = true then y2 else false
def orK (y1 y2 u1 u2 : Bool) : Int := if y1 = true then 1 else if y2 = true then 1 else if u1 = true then if u2 = true then 1 else 0 else 0
def orB (y1 y2 : Bool) : Bool := if y1 = true then true else y2
def notK (k : Int) : Int := if k = 1 then 1 else 0
def notB (k : Int) (b : Bool) : Bool := if k = 1 then !b else false
theorem set6 {n : Nat} {V x : World} (h : Below n V x) {bl : Nat} (hb : n ≤ bl) (v0 v1 v2 v3 v4 v5 : Value) :
  Below n V ((((((x.setCell ⟨bl, 0, none⟩ v0).setCell ⟨bl, 1, none⟩ v1).setCell ⟨bl, 2, none⟩ v2).setCell ⟨bl, 3, none⟩ v3).setCell ⟨bl, 4, none⟩ v4).setCell ⟨bl, 5, none⟩ v5) :=
 (((((h.setCell hb v0).setCell hb v1).setCell hb v2).setCell hb v3).setCell hb v4).setCell hb v5
end
section
open VT (leaf mkV)
def nilV : VT := leaf 0 false 0 0 ⟨#[]⟩
def booV (b : Bool) : VT := leaf 1 b 0 0 ⟨#[]⟩
def numV (m s : Int) : VT := leaf 2 false m s ⟨#[]⟩
def texV (t : ByteArray) : VT := leaf 3 false 0 0 t
def lisV (l : List VT) : VT := mkV 4 false 0 0 ⟨#[]⟩ l
def kdV : VT → Int
 | .none => 0
 | .mk k _ _ _ _ _ _ _ _ => k
def booOf : VT → Bool
 | .none => false
 | .mk _ b _ _ _ _ _ _ _ => b
def mOf : VT → Int
 | .none => 0
 | .mk _ _ m _ _ _ _ _ _ => m
def sOf : VT → Int
 | .none => 0
 | .mk _ _ _ s _ _ _ _ _ => s
def tOf : VT → ByteArray
 | .none => ⟨#[]⟩
 | .mk _ _ _ _ t _ _ _ _ => t
def lOf : VT → List VT
 | .none => []
 | .mk _ _ _ _ _ _ len _ kid => (List.range len).map kid
def trV (v : VT) : Bool := trB (kdV v) (booOf v)
def relT (op : List UInt8) (x y : VT) : VT :=
 if op = [61] then booV (x.cmp y == 0) else if op = [33, 61] then booV (!(x.cmp y == 0))
 else if (kdV x = 2 ∧ kdV y = 2) ∨ (kdV x = 3 ∧ kdV y = 3) then
  (if op = [60] then booV (decide (x.cmp y < 0)) else if op = [60, 61] then booV (decide (x.cmp y ≤ 0)) else if op = [62] then booV (decide (0 < x.cmp y)) else if op = [62, 61] then booV (decide (0 ≤ x.cmp y)) else nilV)
 else nilV
def andV (x y : VT) : VT := leaf (andK (unB (kdV x) (booOf x)) (unB (kdV y) (booOf y)) (trB (kdV x) (booOf x)) (trB (kdV y) (booOf y))) (andB (unB (kdV x) (booOf x)) (unB (kdV y) (booOf y)) (trB (kdV x) (booOf x)) (trB (kdV y) (booOf y))) 0 0 ⟨#[]⟩
def orV (x y : VT) : VT := leaf (orK (trB (kdV x) (booOf x)) (trB (kdV y) (booOf y)) (unB (kdV x) (booOf x)) (unB (kdV y) (booOf y))) (orB (trB (kdV x) (booOf x)) (trB (kdV y) (booOf y))) 0 0 ⟨#[]⟩
def notV (x : VT) : VT := leaf (notK (kdV x)) (notB (kdV x) (booOf x)) 0 0 ⟨#[]⟩
def recT (m s e : Int) : VT × Int := if e = 0 then (numV m s, 0) else (nilV, e)
def fitR (x z : Int) : VT × Int := recT (fitM x z) (fitS x z) (fitE x z)
def addR (m s n t : Int) : VT × Int := fitR (upM m s (max s t) + upM n t (max s t)) (max s t)
def subR (m s n t : Int) : VT × Int := fitR (upM m s (max s t) - upM n t (max s t)) (max s t)
def mulR (m s n t : Int) : VT × Int := fitR (m * n) (s + t)
def divR (m s n t : Int) : VT × Int := if n = 0 then (nilV, 0) else fitR (divQ m s n t) 4
def catV (l : List VT) : List UInt8 := l.flatMap (fun v => XT.tl (tOf v))
def catT (l : List VT) : VT × Int :=
 if l = [] ∨ (l.all fun v => kdV v == 3) = false then (nilV, 0) else if 16 < (catV l).length then (nilV, 3) else (texV ⟨(catV l).toArray⟩, 0)
def recoT (op : List UInt8) (x y : VT) : VT × Int :=
 if op = [43] ∧ kdV x = 3 ∧ kdV y = 3 then catT [x, y] else if kdV x = 2 ∧ kdV y = 2 then
  (if op = [43] then addR (mOf x) (sOf x) (mOf y) (sOf y) else if op = [45] then subR (mOf x) (sOf x) (mOf y) (sOf y) else if op = [42] then mulR (mOf x) (sOf x) (mOf y) (sOf y) else divR (mOf x) (sOf x) (mOf y) (sOf y))
 else (nilV, 0)
def binT (op : List UInt8) (x y : VT) : VT × Int :=
 if op = [97, 110, 100] then (andV x y, 0) else if op = [111, 114] then (orV x y, 0) else if op = [43] ∨ op = [45] ∨ op = [42] ∨ op = [47] then recoT op x y else (relT op x y, 0)
def negT (x : VT) : VT × Int := if kdV x = 2 then subR 0 0 (mOf x) (sOf x) else (nilV, 0)
def lisT (l : List VT) : VT × Int := if (lisV l).okB 2 = true then (lisV l, 0) else (nilV, 3)
def inT (lo hi : Bool) (x y z : VT) : VT := andV (relT (if lo = true then [62, 61] else [62]) x y) (relT (if hi = true then [60, 61] else [60]) x z)
def modV (m s n t : Int) : VT := if s ≠ 0 ∨ t ≠ 0 ∨ n = 0 then nilV else if m.tmod n ≠ 0 ∧ (decide (m.tmod n < 0) != decide (n < 0)) = true then numV (m.tmod n + n) 0 else numV (m.tmod n) 0
def oneT (nm : List UInt8) (x : VT) : VT :=
 if nm = [110, 111, 116] then notV x else if nm = [97, 98, 115] ∧ kdV x = 2 then numV (max (mOf x) (-(mOf x))) (sOf x) else if nm = [102, 108, 111, 111, 114] ∧ kdV x = 2 then numV (mOf x / p10 (sOf x).toNat) 0
 else if nm = [99, 101, 105, 108] ∧ kdV x = 2 then numV (-(-(mOf x) / p10 (sOf x).toNat)) 0 else if nm = [108, 101, 110] ∧ kdV x = 3 then numV (tOf x).size 0 else if nm = [99, 111, 117, 110, 116] ∧ kdV x = 4 then numV (lOf x).length 0 else nilV
def hasV (l : List VT) (y : VT) : VT := booV (l.any fun v => v.cmp y == 0)
def twoT (nm : List UInt8) (x y : VT) : VT :=
 if nm = [109, 111, 100] ∧ kdV x = 2 ∧ kdV y = 2 then modV (mOf x) (sOf x) (mOf y) (sOf y) else if nm = [104, 97, 115] ∧ kdV x = 4 then hasV (lOf x) y else nilV
def fixT (nm : List UInt8) : List VT → VT
 | [x] => oneT nm x
 | [x, y] => twoT nm x y
 | _ => nilV
def cmD (m s n t : Int) : Int := cmpI (upM m s (max s t)) (upM n t (max s t))
def furD (way : Int) : List VT → Int × Int → Int × Int
 | [], d => d
 | v :: l, d => furD way l (if cmD (mOf v) (sOf v) d.1 d.2 = way then (mOf v, sOf v) else d)
def furV (way : Int) : List VT → VT
 | [] => nilV
 | v :: l => numV (furD way l (mOf v, sOf v)).1 (furD way l (mOf v, sOf v)).2
def sumT : List VT → Int × Int → VT × Int
 | [], d => (numV d.1 d.2, 0)
 | v :: l, d => if fitE (upM d.1 d.2 (max d.2 (sOf v)) + upM (mOf v) (sOf v) (max d.2 (sOf v))) (max d.2 (sOf v)) = 0 then
   sumT l (fitM (upM d.1 d.2 (max d.2 (sOf v)) + upM (mOf v) (sOf v) (max d.2 (sOf v))) (max d.2 (sOf v)), fitS (upM d.1 d.2 (max d.2 (sOf v)) + upM (mOf v) (sOf v) (max d.2 (sOf v))) (max d.2 (sOf v)))
   else (nilV, fitE (upM d.1 d.2 (max d.2 (sOf v)) + upM (mOf v) (sOf v) (max d.2 (sOf v))) (max d.2 (sOf v)))
def ovT (nm : List UInt8) (l : List VT) : VT × Int :=
 if (l.all fun v => kdV v == 2) = false then (nilV, 0) else if nm = [109, 105, 110] then (furV (-1) l, 0) else if nm = [109, 97, 120] then (furV 1 l, 0) else sumT l (0, 0)
def oneL : List VT → Option (List VT)
 | [x] => if kdV x = 4 then some (lOf x) else none
 | _ => none
def overT (nm : List UInt8) (l : List VT) : VT × Int := if l = [] then (nilV, 0) else ovT nm ((oneL l).getD l)
def callT (nm : List UInt8) (l : List VT) : VT × Int :=
 if nm = [99, 97, 116] then catT l else if nm = [109, 105, 110] ∨ nm = [109, 97, 120] ∨ nm = [115, 117, 109] then overT nm l else (fixT nm l, 0)
def joinT (k : Int) (t : ByteArray) (lo hi : Bool) (l : List VT) : VT × Int :=
 if k = 6 then binT (XT.tl t) (l.getD 0 .none) (l.getD 1 .none) else if k = 7 then negT (l.getD 0 .none) else if k = 9 then lisT l else if k = 10 then callT (XT.tl t) l
 else (inT lo hi (l.getD 0 .none) (l.getD 1 .none) (l.getD 2 .none), 0)
def kidsT (f : Nat → VT × Int) : Nat → List VT × Int
 | 0 => ([], 0)
 | n + 1 => if (kidsT f n).2 = 0 then (if (f n).2 = 0 then ((kidsT f n).1 ++ [(f n).1], 0) else ([], (f n).2)) else ([], (kidsT f n).2)
def lookT : List (List UInt8 × VT) → List UInt8 → VT
 | [], _ => nilV
 | (n, v) :: l, t => if n = t then v else lookT l t
def souB (k : Int) (m s : Int) (t : ByteArray) (len : Nat) : Bool :=
 if k = 1 ∨ k = 2 ∨ k = 5 ∨ k = 9 ∨ k = 10 then true else if k = 3 then isB m s else if k = 4 then textB t else if k = 6 then decide (len = 2) else if k = 7 then decide (len = 1) else if k = 8 ∨ k = 11 then decide (len = 3) else false
def evT (env : List (List UInt8 × VT)) : XT → VT × Int
 | .none => (nilV, 1)
 | .mk k b m s t lo hi _ len _ kid =>
  if souB k m s t len = false then (nilV, 1) else if k = 1 then (nilV, 0) else if k = 2 then (booV b, 0) else if k = 3 then (numV m s, 0) else if k = 4 then (texV t, 0) else if k = 5 then (lookT env (XT.tl t), 0)
  else if k = 8 then (if (evT env (kid 0)).2 = 0 then (if trV (evT env (kid 0)).1 = true then evT env (kid 1) else evT env (kid 2)) else (nilV, (evT env (kid 0)).2))
  else if (kidsT (fun i => evT env (kid i)) len).2 = 0 then joinT k t lo hi (kidsT (fun i => evT env (kid i)) len).1 else (nilV, (kidsT (fun i => evT env (kid i)) len).2)
theorem kids_congr {f g : Nat → VT × Int} {n : Nat} (h : ∀ i, i < n → f i = g i) : kidsT f n = kidsT g n := by
 induction n with
 | zero => rfl
 | succ n ih =>
  unfold kidsT
  rw [ih (fun i hi => h i (by omega)), h n (by omega)]
theorem evT_bare (env : List (List UInt8 × VT)) (x : XT) : evT env x.bare = evT env x := by
 induction x with
 | none => rfl
 | mk k b m s t lo hi a len cap kid ih =>
  have e : ∀ i, i < len → evT env (if i < len then (kid i).bare else .none) = evT env (kid i) := fun i hi => by rw [if_pos hi]; exact ih i
  unfold XT.bare evT
  rw [kids_congr e]
  by_cases h8 : k = 8
  ·subst h8
   by_cases h3 : len = 3
   ·subst h3
    rw [e 0 (by omega), e 1 (by omega), e 2 (by omega)]
   ·have : souB 8 m s t len = false := by simp [souB, h3]
    rw [if_pos this, if_pos this]
  ·rw [if_neg h8, if_neg h8]
end
end Go.Proofs.YtfdimdjmnfdecaaGreat
