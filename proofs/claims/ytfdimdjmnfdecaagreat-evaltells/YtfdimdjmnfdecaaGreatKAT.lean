/- FExpr FBeh FWithin FKids FRest RPow TMod Ref Ref2: laid together. -/
import Derived.Test.YtfdimdjmnfdecaaGreatKAS
import Derived.Deep.AppendLies
set_option linter.unusedVariables false
set_option linter.unusedSimpArgs false
set_option maxHeartbeats 8000000
namespace Go.Proofs.YtfdimdjmnfdecaaGreat
open Go.RowKit
section
variable {b : Nat} {a : Option Addr} {cap : Nat} {ts : List Tk}
end
section
variable {b : Nat} {a : Option Addr} {cap : Nat} {ts : List Tk}
end
section
variable {b : Nat} {a : Option Addr} {cap : Nat} {ts : List Tk}
theorem fnd_one (k : Nat) (m : Mk) : fnd ts k [m] = if mkB ts k m = true then some m else none := rfl
end
section
variable {b : Nat} {a : Option Addr} {cap : Nat} {ts : List Tk}
def Kids (B : Nat) (w : World) (v : Value) (l : List XT) : Prop :=
 w.ownsRow B 26 8 v l.length (xsC l) ∧ ∀ x ∈ l, x.In (fun h => B ≤ h ∧ some h ≠ v.ownBlock) w
theorem Kids.nil (B : Nat) (w : World) : Kids B w (.slice none 0 0) [] := ⟨World.ownsRow_nil _ _ _ _, fun x hx => absurd hx List.not_mem_nil⟩
theorem Kids.by {B : Nat} {w w' : World} {v : Value} {l : List XT} (h : Kids B w v l) (hb : ∀ g, g < w.heap.size → B ≤ g → w'.heap[g]? = w.heap[g]?) : Kids B w' v l := by
 refine ⟨⟨h.1.1, ?_⟩, fun x hx => (h.2 x hx).keep (fun bl o hl hq => World.cell?_of_block (w := w) (hb bl hl hq.1))⟩
 rcases h.1.2 with h0 | ⟨g, cap, cur, hv, hB, hg, hr⟩
 ·exact Or.inl h0
 ·exact Or.inr ⟨g, cap, cur, hv, hB, (hb g (Array.getElem?_eq_some_iff.1 hg).1 hB).trans hg, hr⟩
theorem Kids.mv {B : Nat} {w w' : World} {v : Value} {l : List XT} (h : Kids B w v l) (m : Mv b w w') (hb : b < B) : Kids B w' v l := h.by (fun g hg hB => m.block g hg (by omega))
theorem Kids.below {B : Nat} {w w' : World} {v : Value} {l : List XT} (h : Kids B w v l) (m : Below w.heap.size w w') : Kids B w' v l := h.by (fun g hg _ => m.block g hg)
theorem Kids.alloc {B : Nat} {w : World} {v : Value} {l : List XT} (h : Kids B w v l) (o : Obj) : Kids B (w.alloc o) v l := h.below (below1 w o)
theorem Kids.lt {B : Nat} {w : World} {v : Value} {l : List XT} (h : Kids B w v l) : ∀ g, v.ownBlock = some g → B ≤ g ∧ g < w.heap.size := by
 intro g hg
 rcases h.1.2 with ⟨rfl, _⟩ | ⟨g', cap, cur, rfl, hB, hh, hr⟩
 ·cases hg
 ·simp only [Value.ownBlock, Option.some.injEq] at hg
  subst hg
  exact ⟨hB, (Array.getElem?_eq_some_iff.1 hh).1⟩
theorem Kids.form {B : Nat} {w : World} {v : Value} {l : List XT} (h : Kids B w v l) : ∃ ka kc, v = .slice ka l.length kc := by
 rcases h.1.2 with ⟨rfl, hn⟩ | ⟨g', cap, cur, rfl, hB, hh, hr⟩
 ·exact ⟨none, 0, by rw [hn]⟩
 ·exact ⟨_, _, rfl⟩
theorem xsC_get (l : List XT) (hl : ∀ x ∈ l, x.cells.length = 8) : ∀ i (h : i < l.length) j, j < 8 → (xsC l)[i * 8 + j]? = l[i].cells[j]? := by
 induction l with
 | nil => intro i h; exact absurd h (Nat.not_lt_zero _)
 | cons x l ih =>
  intro i hi j hj
  have hx := hl x (by simp)
  rw [xsC, List.flatMap_cons]
  cases i with
  | zero => rw [List.getElem?_append_left (by omega)]; simp
  | succ i =>
   rw [List.getElem?_append_right (by omega)]
   have e : (i + 1) * 8 + j - x.cells.length = i * 8 + j := by omega
   rw [e, ← xsC, ih (fun y hy => hl y (by simp [hy])) i (by simpa using hi) j hj]
   simp
theorem in_cells {Q : Nat → Prop} {w : World} {x : XT} (h : x.In Q w) : x.cells.length = 8 := by
 obtain ⟨k, b, m, s, t, lo, hi, a, len, cap, kid, rfl⟩ := h.form
 rfl
theorem Kids.node {B : Nat} {w : World} {v : Value} {l : List XT} (h : Kids B w v l) (hl : l.length ≤ 1000) {ka : Option Addr} {n kc : Nat} (hv : v = .slice ka n kc) (k : Int) (b : Bool) (m s : Int) (t : ByteArray) (lo hi : Bool) :
  n = l.length ∧ (XT.mk k b m s t lo hi ka n kc (fun i => l.getD i .none)).In (Fr B) w := by
 have hin : ∀ x ∈ l, x.In (Fr B) w := fun x hx => (h.2 x hx).weak (fun g _ hg => hg.1)
 obtain ⟨ka', kc', hv'⟩ := h.form
 rw [hv] at hv'
 cases hv'
 refine ⟨rfl, ?_⟩
 by_cases h0 : l.length = 0
 ·refine ⟨by simp [maxLen]; omega, fun i hi => ?_⟩
  rw [h0] at hi
  exact absurd hi (Nat.not_lt_zero _)
 ·obtain ⟨g, cap, hg, hB, hlt⟩ := h.1.form (by omega)
  rw [hv] at hg
  cases hg
  refine in_row hB l (by simp [maxLen]; omega) (fun i hi j hj => ?_) hin k b m s t lo hi _
  rw [hv] at h
  rw [h.1.cellAt (i * 8 + j) (by omega)]
  exact xsC_get l (fun x hx => in_cells (hin x hx)) i hi j hj
theorem infoExpr : (Tryz.prog.info? 26).map (fun i => (i.zero, i.size, i.bytes)) = some (some zV, 8, 80) := by kernel_rfl
theorem xsC_snoc (l : List XT) (x : XT) : xsC (l ++ [x]) = xsC l ++ x.cells := by simp [xsC]
theorem wpList_x {w : World} {ops : Array Oper} {rest : List Oper} {o : Oper} {ac : Act} {P : Exit → Act → World → Prop} (hgd : o.guard = none) (s x : Operand)
  (ho : o.op = .call { callee := .builtin .append, args := #[s, x], argTypes := #[24, 24] }) (B : Nat) (v : Value) (l : List XT) (hs : ac.eval s = v) (own : Kids B w v l)
  (g : Nat) {xk : Int} {xb : Bool} {xm xs : Int} {xt : ByteArray} {xlo xhi : Bool} {xa : Option Addr} {xl xc : Nat} {xkid : Nat → XT} (hT : (XT.mk xk xb xm xs xt xlo xhi xa xl xc xkid).In (fun h => B ≤ h ∧ some h ≠ v.ownBlock) w)
  (hx : ac.eval x = .slice (some ⟨g, 0, none⟩) 1 1) (hc : XB w g xk xb xm xs xt xlo xhi xa xl xc)
  (hn : l.length ≤ 1000) (hB : B ≤ w.heap.size)
  (h : ∀ v' w', Kids B w' v' (l ++ [XT.mk xk xb xm xs xt xlo xhi xa xl xc xkid]) → w.grownBy w' v.ownBlock → wpList Tryz.prog ops P rest (ac.put o.dst v') w') : wpList Tryz.prog ops P (o :: rest) ac w := by
 obtain ⟨i, hi, hzz⟩ := Option.map_eq_some_iff.1 infoExpr
 simp only [Prod.mk.injEq] at hzz
 obtain ⟨hz, hz1, hz2⟩ := hzz
 refine wpList_append_lies w hgd s x 24 ho B 26 i _ 8 80 Tryz.underlying24 hi hz hz1 hz2 rfl (by omega) v l.length (xsC l) hs own.1 ⟨g, 0, none⟩ 1 1 (XT.cells (XT.mk xk xb xm xs xt xlo xhi xa xl xc xkid)) hx rfl ?_ ?_ (by omega) (by unfold maxLen; omega) (by omega) hB _ rfl ?_
 ·intro j u hu
  have hadd : (⟨g, 0, none⟩ : Addr).add j = ⟨g, j, none⟩ := by unfold Addr.add; split <;> simp_all
  rw [hadd]
  obtain ⟨h0, h1, h2, h3, h4, h5, h6, h7, h8, h9⟩ := hc
  match j, hu with
  | 0, hu => exact h1.trans hu
  | 1, hu => exact h2.trans hu
  | 2, hu => exact h3.trans hu
  | 3, hu => exact h4.trans hu
  | 4, hu => exact h5.trans hu
  | 5, hu => exact h6.trans hu
  | 6, hu => exact h7.trans hu
  | 7, hu => exact h8.trans hu
  | j + 8, hu => simp [XT.cells] at hu
 ·intro u hu
  simp [XT.cells] at hu
  rcases hu with rfl | rfl | rfl | rfl | rfl | rfl | rfl | rfl <;> rfl
 ·intro g' cap' w' own' gr hg' hlt
  have key : ∀ y : XT, y.In (fun h => B ≤ h ∧ some h ≠ v.ownBlock) w → y.In (fun h => B ≤ h ∧ some h ≠ (Value.slice (some ⟨g', 0, none⟩) (l.length + 1) cap').ownBlock) w' := by
   intro y hy
   have hy2 := hy.weak (Q' := fun h => (B ≤ h ∧ some h ≠ v.ownBlock) ∧ h < w.heap.size) (fun g h1 h2 => ⟨h2, h1⟩)
   have hy3 : y.In (fun h => (B ≤ h ∧ some h ≠ v.ownBlock) ∧ h < w.heap.size) w' := hy2.keep (fun bl o hl hq => World.cell?_of_block (w := w) (gr.block bl hl hq.1.2))
   refine hy3.weak (fun h _ hh => ⟨hh.1.1, fun e => ?_⟩)
   simp only [Value.ownBlock, Option.some.injEq] at e
   subst e
   rcases hg' with e | e
   ·exact hh.1.2 e.symm
   ·have := hh.2; omega
  refine h _ w' ⟨?_, ?_⟩ gr
  ·rw [xsC_snoc, List.length_append]
   exact own'
  ·intro y hy
   rw [List.mem_append] at hy
   rcases hy with hy | hy
   ·exact key y (own.2 y hy)
   ·rw [List.mem_singleton] at hy
    subst hy
    exact key _ hT
theorem Mv.grown {b : Nat} {w0 w w' : World} {row : Option Nat} (h : Mv b w0 w) (hg : w.grownBy w' row) (hr : ∀ k, row = some k → w0.heap.size ≤ k) : Mv b w0 w' :=
 ⟨hg.os.trans h.os, hg.tape.trans h.tape, hg.output.trans h.output, Nat.le_trans h.size hg.size, fun k hk hb => (hg.block k (Nat.lt_of_lt_of_le hk h.size) (fun e => by have := hr k e.symm; omega)).trans (h.block k hk hb)⟩
theorem Rd.grown {w w' w0 : World} {k k0 : Nat} {row : Option Nat} (h : Rd b a cap ts w k) (h0 : Rd b a cap ts w0 k0) (hg : w.grownBy w' row) (hr : ∀ k, row = some k → w0.heap.size ≤ k) : Rd b a cap ts w' k := by
 have e : ∀ g, g < w.heap.size → g < w0.heap.size → w'.heap[g]? = w.heap[g]? := fun g h1 h2 => hg.block g h1 (fun e => by have := hr g e.symm; omega)
 have ec : ∀ g o, g < w.heap.size → g < w0.heap.size → w'.cell? ⟨g, o, none⟩ = w.cell? ⟨g, o, none⟩ := fun g o h1 h2 => World.cell?_of_block (w := w) (e g h1 h2)
 have hb := h0.lt
 have hb1 := h.lt
 refine ⟨Nat.lt_of_lt_of_le hb1 hg.size, h.le, (ec b 0 hb1 hb).trans h.c0, (ec b 1 hb1 hb).trans h.c1, (World.frozen?_of_block (w := w) (e b hb1 hb)).trans h.fr, fun i hi => ?_⟩
 obtain ⟨g, hga, hgb, t0, t1, t2, t3⟩ := h.row i hi
 obtain ⟨g', hg', -, s0, -⟩ := h0.row i hi
 obtain rfl : g = g' := by rw [hga] at hg'; simpa using hg'
 exact ⟨g, hga, hgb, Nat.lt_of_lt_of_le t0 hg.size, (ec g _ t0 s0).trans t1, (ec g _ t0 s0).trans t2, (ec g _ t0 s0).trans t3⟩
theorem XB.grown {w w' : World} {row : Option Nat} {g : Nat} {k : Int} {b : Bool} {m s : Int} {t : ByteArray} {lo hi : Bool} {a : Option Addr} {len cap : Nat} (h : XB w g k b m s t lo hi a len cap) (hg : w.grownBy w' row) (hr : ∀ k, row = some k → g ≠ k) : XB w' g k b m s t lo hi a len cap :=
 h.by hg.size (hg.block g h.1 (fun e => hr g e.symm rfl))
end
section
variable {b : Nat} {a : Option Addr} {cap : Nat} {ts : List Tk}
theorem restL_er {e1 : Nat → RX} {sh : Mk} {f : Nat} {acc : List XT} {k k' : Nat} {c : Int} (h : e1 k = .er c k') : restL ts e1 sh (f + 1) acc k = .er c k' := by rw [restL, h]
theorem restL_no {e1 : Nat → RX} {sh : Mk} {f : Nat} {acc : List XT} {x : XT} {k k' : Nat} (h : e1 k = .ok x k') (hf : fnd ts k' [[44], sh] = none) : restL ts e1 sh (f + 1) acc k = .er 2 k' := by rw [restL, h]; dsimp only; rw [hf]
theorem restL_go {e1 : Nat → RX} {sh : Mk} {f : Nat} {acc : List XT} {x : XT} {k k' : Nat} {m : Mk} (h : e1 k = .ok x k') (hf : fnd ts k' [[44], sh] = some m) : restL ts e1 sh (f + 1) acc k = if m = sh then .ok (acc ++ [x]) (k' + 1) else restL ts e1 sh f (acc ++ [x]) (k' + 1) := by rw [restL, h]; dsimp only; rw [hf]
end
section
theorem rpower_any (n : Int) (w : World) (h0 : 0 ≤ n) (h8 : n ≤ 8) :
  Calls Tryz.prog 110 #[.int .i64 n] w fun e w' => e = .returned (.int .i64 (p10 n.toNat)) ∧ w' = w := by
 obtain ⟨m, rfl⟩ := Int.eq_ofNat_of_zero_le h0
 rw [Int.toNat_natCast]
 go_enter Tryz.func110, Tryz.ntmps110
 go_wp2
 go_loop [3, 4] (fun p i => ∃ k : Nat, k ≤ m ∧ i = .int .i64 k ∧ p = .int .i64 (p10 k)) (fun _ i => m - (intOf i).toNat)
 case atStart => exact ⟨0, Nat.zero_le _, rfl, rfl⟩
 case round =>
  obtain ⟨k, hk, rfl, rfl⟩ := hrel
  have b1 := p10_pos k
  have b2 := p10_bd (n := k) (by omega)
  by_cases hlt : k < m
  ·go_wp2
   go_round
   case rel => exact ⟨k + 1, by omega, by go_num, by rw [p10_succ]⟩
   case measure => simp [intOf]; omega
  ·have e : k = m := by omega
   subst e
   go_wp2
   go_ret
   exact ⟨rfl, rfl⟩
end
section
theorem i64_and1 (n : Int) : bits .and .i64 n 1 = n % 2 := by
 have h1 : (BitVec.ofInt 64 1).toNat = 2 ^ 1 - 1 := by decide
 have key : (BitVec.ofInt 64 n &&& BitVec.ofInt 64 1).toNat = (n % ((2 ^ 64 : Nat) : Int)).toNat % 2 ^ 1 := by
  rw [BitVec.toNat_and, BitVec.toNat_ofInt, h1, Nat.and_two_pow_sub_one_eq_mod]
 show IntKind.i64.wrap ((BitVec.ofInt 64 n &&& BitVec.ofInt 64 1).toNat : Nat) = n % 2
 rw [key, IntKind.wrap_i64]
 omega
theorem tmod_facts (n d : Int) (hd : 1 ≤ d) : (n.tmod d < 0 → n.tdiv d - 1 = n / d ∧ n.tmod d + d = n % d) ∧ (¬ n.tmod d < 0 → n.tdiv d = n / d ∧ n.tmod d = n % d) := by
 have ⟨a, b⟩ := tdiv_floor n d hd
 have he := Int.mul_tdiv_add_tmod n d
 have h3 := Int.mul_ediv_add_emod n d
 constructor
 ·intro h
  refine ⟨a h, ?_⟩
  rw [← a h, Int.mul_sub] at h3
  omega
 ·intro h
  refine ⟨b h, ?_⟩
  rw [← b h] at h3
  omega
end
section
theorem rhalf_any (n d : Int) (w : World) (hd : 1 ≤ d) (hd2 : d ≤ 2000000000000000000) (h1 : -2000000000000000000 ≤ n) (h2 : n ≤ 2000000000000000000) :
  Calls Tryz.prog 130 #[.int .i64 n, .int .i64 d] w fun e w' => e = .returned (.int .i64 (half n d)) ∧ ∃ k, w' = w.drewN k := by
 have q1 := div_abs n d 2000000000000000000 hd (by omega) h1 h2
 have r1 := Int.emod_nonneg n (b := d) (by omega)
 have r2 := Int.emod_lt_of_pos n (b := d) (by omega)
 have tb := tdiv_bd n d 2000000000000000000 hd (by omega) h1 h2
 have ⟨fa, fb⟩ := tmod_facts n d hd
 have t2 := i64_and1 (n / d)
 unfold half
 generalize n / d = q at *
 generalize n % d = r at *
 by_cases hneg : n.tmod d < 0
 ·have ⟨e1, e2⟩ := fa hneg
  have tb2 : -2000000000000000000 ≤ n.tmod d := by omega
  clear fa fb
  by_cases c1 : d - r < r
  ·rw [if_pos (Or.inl (show d < 2 * r by omega))]
   clear t2
   go_enter Tryz.func130, Tryz.ntmps130
   go_wp2_with fail
   go_quiet (fail)
   go_wp2
   go_ret
   exact ⟨rfl, ⟨_, rfl⟩⟩
  ·by_cases c2 : r = d - r
   ·by_cases c3 : q % 2 ≠ 0
    ·rw [if_pos (Or.inr ⟨show 2 * r = d by omega, c3⟩)]
     have t3 : (bits .and .i64 q 1 == 1) = true := by rw [t2]; simp; omega
     have c4 : (r == d - r) = true := by simp [← c2]
     clear t2 c2 c3
     go_enter Tryz.func130, Tryz.ntmps130
     go_wp2_with fail
     go_quiet (fail)
     go_wp2
     go_ret
     exact ⟨rfl, ⟨_, rfl⟩⟩
    ·rw [if_neg (by omega)]
     have t3 : (bits .and .i64 q 1 == 1) = false := by rw [t2]; simp; omega
     have c4 : (r == d - r) = true := by simp [← c2]
     clear t2 c2 c3
     go_enter Tryz.func130, Tryz.ntmps130
     go_wp2_with fail
     go_quiet (fail)
     go_wp2
     go_ret
     exact ⟨rfl, ⟨_, rfl⟩⟩
   ·rw [if_neg (by omega)]
    have c4 : (r == d - r) = false := by simpa using c2
    clear t2
    go_enter Tryz.func130, Tryz.ntmps130
    go_wp2_with fail
    go_quiet (fail)
    go_wp2
    go_ret
    exact ⟨rfl, ⟨_, rfl⟩⟩
 ·have ⟨e1, e2⟩ := fb hneg
  clear fa fb
  rw [e1] at tb
  rw [e2] at hneg
  by_cases c1 : d - r < r
  ·rw [if_pos (Or.inl (show d < 2 * r by omega))]
   clear t2
   go_enter Tryz.func130, Tryz.ntmps130
   go_wp2_with fail
   go_quiet (fail)
   go_wp2
   go_ret
   exact ⟨rfl, ⟨_, rfl⟩⟩
  ·by_cases c2 : r = d - r
   ·by_cases c3 : q % 2 ≠ 0
    ·rw [if_pos (Or.inr ⟨show 2 * r = d by omega, c3⟩)]
     have t3 : (bits .and .i64 q 1 == 1) = true := by rw [t2]; simp; omega
     have c4 : (r == d - r) = true := by simp [← c2]
     clear t2 c2 c3
     go_enter Tryz.func130, Tryz.ntmps130
     go_wp2_with fail
     go_quiet (fail)
     go_wp2
     go_ret
     exact ⟨rfl, ⟨_, rfl⟩⟩
    ·rw [if_neg (by omega)]
     have t3 : (bits .and .i64 q 1 == 1) = false := by rw [t2]; simp; omega
     have c4 : (r == d - r) = true := by simp [← c2]
     clear t2 c2 c3
     go_enter Tryz.func130, Tryz.ntmps130
     go_wp2_with fail
     go_quiet (fail)
     go_wp2
     go_ret
     exact ⟨rfl, ⟨_, rfl⟩⟩
   ·rw [if_neg (by omega)]
    have c4 : (r == d - r) = false := by simpa using c2
    clear t2
    go_enter Tryz.func130, Tryz.ntmps130
    go_wp2_with fail
    go_quiet (fail)
    go_wp2
    go_ret
    exact ⟨rfl, ⟨_, rfl⟩⟩
theorem rhalf_below (n d : Int) (w : World) (hd : 1 ≤ d) (hd2 : d ≤ 2000000000000000000) (h1 : -2000000000000000000 ≤ n) (h2 : n ≤ 2000000000000000000) :
  Calls Tryz.prog 130 #[.int .i64 n, .int .i64 d] w fun e w' => e = .returned (.int .i64 (half n d)) ∧ Below w.heap.size w w' :=
 (rhalf_any n d w hd hd2 h1 h2).mono fun _ _ h => ⟨h.1, by obtain ⟨k, rfl⟩ := h.2; exact below_drewN (Below.refl _ _) _⟩
end
section
theorem rfit_arg (m s : Int) (w : World) (h : argB m s = true) :
  Calls Tryz.prog 129 #[.int .i64 m, .int .i64 s] w fun e w' => e = .returned (.tuple #[.agg #[.int .i64 0, .int .i64 0], .int .i64 1]) ∧ Below w.heap.size w w' := by
 unfold argB at h
 have h := of_decide_eq_true h
 by_cases c1 : m < -1000000000000000000
 ·clear h
  go_enter Tryz.func129, Tryz.ntmps129
  go_wp2
  exact bodyPost_ret (v := .tuple #[.agg #[.int .i64 0, .int .i64 0], .int .i64 1]) zR129 rfl ⟨rfl, (Below.refl _ _).alloc (Nat.le_refl _) _⟩
 ·by_cases c2 : 1000000000000000000 < m
  ·clear h
   go_enter Tryz.func129, Tryz.ntmps129
   go_wp2
   exact bodyPost_ret (v := .tuple #[.agg #[.int .i64 0, .int .i64 0], .int .i64 1]) zR129 rfl ⟨rfl, (Below.refl _ _).alloc (Nat.le_refl _) _⟩
  ·by_cases c3 : s < 0
   ·clear h
    go_enter Tryz.func129, Tryz.ntmps129
    go_wp2
    exact bodyPost_ret (v := .tuple #[.agg #[.int .i64 0, .int .i64 0], .int .i64 1]) zR129 rfl ⟨rfl, (Below.refl _ _).alloc (Nat.le_refl _) _⟩
   ·have c4 : 8 < s := by omega
    clear h
    go_enter Tryz.func129, Tryz.ntmps129
    go_wp2
    exact bodyPost_ret (v := .tuple #[.agg #[.int .i64 0, .int .i64 0], .int .i64 1]) zR129 rfl ⟨rfl, (Below.refl _ _).alloc (Nat.le_refl _) _⟩
theorem rfit_in (m s : Int) (w : World) (m1 : -1000000000000000000 ≤ m) (m2 : m ≤ 1000000000000000000) (s1 : 0 ≤ s) (s2 : s ≤ 8) :
  Calls Tryz.prog 129 #[.int .i64 m, .int .i64 s] w fun e w' => e = .returned (.tuple #[.agg #[.int .i64 (fitTM m s.toNat (min s.toNat 4 + 1)), .int .i64 (fitTS m s.toNat (min s.toNat 4 + 1) : Nat)], .int .i64 (fitTE m s.toNat (min s.toNat 4 + 1))]) ∧ Below w.heap.size w w' := by
 obtain ⟨n, rfl⟩ := Int.eq_ofNat_of_zero_le s1
 rw [Int.toNat_natCast]
 have d1 : decide (m < -1000000000000000000) = false := decide_eq_false (by omega)
 have d2 : decide (1000000000000000000 < m) = false := decide_eq_false (by omega)
 have d3 : decide ((n : Int) < 0) = false := decide_eq_false (by omega)
 have d4 : decide (8 < (n : Int)) = false := decide_eq_false (by omega)
 generalize hk0 : min n 4 + 1 = k0
 have hk1 : k0 ≤ 5 := by omega
 have hk2 : k0 ≤ n + 1 := by omega
 have HK := hide hk0
 clear hk0
 by_cases h4 : n ≤ 4
 all_goals
  go_enter Tryz.func129, Tryz.ntmps129
  go_wp2_with fail
  go_loopw [6] (fun x wr => ∃ k : Nat, x = .int .i64 ((k : Int) - 1) ∧ k ≤ k0 ∧ Hid (fitTM m n k = fitTM m n k0 ∧ fitTS m n k = fitTS m n k0 ∧ fitTE m n k = fitTE m n k0) ∧ Below (w.alloc (Obj.cells #[.int .i64 0, .int .i64 0] 23)).heap.size (w.alloc (Obj.cells #[.int .i64 0, .int .i64 0] 23)) wr) (fun x _ => (intOf x + 1).toNat)
  case atStart => exact ⟨k0, by have := unhide HK; congr 1; omega, Nat.le_refl _, ⟨rfl, rfl, rfl⟩, Below.refl _ _⟩
  case round =>
   obtain ⟨k, rfl, hk, hh, b0⟩ := hrel
   match k, hk, hh with
   | 0, _, hh =>
    obtain ⟨c0, f0⟩ := bcell b0
    have z0 : w.heap.size < wr.heap.size := by have := b0.size; simp at this; omega
    go_wp2
    have e := unhide hh
    rw [← e.1, ← e.2.1, ← e.2.2]
    exact bodyPost_ret (v := .tuple #[.agg #[.int .i64 0, .int .i64 0], .int .i64 3]) (by simp [results, Tryz.results129, go_sem, c0]) rfl ⟨rfl, ((bstep (below1 w _) b0).setCell (by simp) _).setCell (by simp) _⟩
   | k + 1, hk, hh =>
    have e0 : (((k + 1 : Nat) : Int) - 1) = (k : Int) := by omega
    rw [e0]
    have pb := p10_pos (n - k)
    have pb2 := p10_bd (n := n - k) (by omega)
    go_wp2_with fail
    refine (rpower_any _ _ (by omega) (by omega)).mono ?_
    rintro e w' ⟨rfl, rfl⟩
    rw [show ((n : Int) - k).toNat = n - k by omega]
    go_wp2_with fail
    refine (rhalf_below _ _ _ pb (by omega) (by omega) (by omega)).mono ?_
    rintro e w1 ⟨rfl, k1⟩
    have b1 := bstep b0 k1
    clear b0 k1
    have u1 : fitTM m n (k + 1) = if okM (half m (p10 (n - k))) = true then trimM (half m (p10 (n - k))) k else fitTM m n k := rfl
    have u2 : fitTS m n (k + 1) = if okM (half m (p10 (n - k))) = true then trimS (half m (p10 (n - k))) k else fitTS m n k := rfl
    have u3 : fitTE m n (k + 1) = if okM (half m (p10 (n - k))) = true then 0 else fitTE m n k := rfl
    generalize half m (p10 (n - k)) = x at u1 u2 u3 ⊢
    have U1 := hide u1; have U2 := hide u2; have U3 := hide u3
    clear u1 u2 u3
    by_cases hx1 : -1000000000 ≤ x
    ·by_cases hx2 : x ≤ 1000000000
     ·have HOK := hide ((okM_iff x).2 ⟨hx1, hx2⟩)
      have e1 := unhide hh
      rw [unhide U1, unhide U2, unhide U3, if_pos (unhide HOK), if_pos (unhide HOK), if_pos (unhide HOK)] at e1
      have E1 := hide e1
      clear e1 U1 U2 U3 HOK hh
      obtain ⟨c1, f1⟩ := bcell b1
      have z1 : w.heap.size < w1.heap.size := by have := b1.size; simp at this; omega
      go_wp2
      go_loop [6, 7] (fun y v => ∃ (j : Nat) (a : Int), y = .int .i64 j ∧ v = .int .i64 a ∧ j ≤ 4 ∧ -1000000000 ≤ a ∧ a ≤ 1000000000 ∧ Hid (trimM a j = trimM x k ∧ trimS a j = trimS x k)) (fun y _ => (intOf y).toNat)
      case atStart => exact ⟨k, x, rfl, rfl, by omega, hx1, hx2, ⟨rfl, rfl⟩⟩
      case round =>
       obtain ⟨j, a, rfl, rfl, hj, a1, a2, hh2⟩ := hrel
       have tm := tmod10 a
       match j, hj, hh2 with
       | 0, _, hh2 =>
        clear tm
        go_wp2
        have e1 := unhide E1
        have e2 := unhide hh2
        rw [← e1.1, ← e1.2.1, ← e1.2.2, ← e2.1, ← e2.2]
        exact bodyPost_ret (v := .tuple #[.agg #[.int .i64 a, .int .i64 0], .int .i64 0]) zR129c1 rfl ⟨rfl, ((bstep (below1 w _) b1).setCell (by simp) _).setCell (by simp) _⟩
       | j + 1, hj, hh2 =>
        by_cases h10 : a % 10 = 0
        ·have tm' : (a.tmod 10 == 0) = true := by rw [tm]; simp [h10]
         have td := tdiv10 a h10
         have H10 := hide h10
         clear tm h10
         go_wp2
         go_round
         case rel =>
          have e := unhide hh2
          have h := unhide H10
          exact ⟨j, a / 10, by go_num, rfl, by omega, by omega, by omega, by rw [← e.1, ← e.2]; simp [Hid, trimM, trimS, h]⟩
         case measure => simp [intOf]
        ·have tm' : (a.tmod 10 == 0) = false := by rw [tm]; simp [h10]
         have H10 := hide h10
         clear tm h10
         go_wp2
         have e1 := unhide E1
         have e2 := unhide hh2
         have h := unhide H10
         rw [← e1.1, ← e1.2.1, ← e1.2.2, ← e2.1, ← e2.2]
         exact bodyPost_ret (v := .tuple #[.agg #[.int .i64 a, .int .i64 ((j + 1 : Nat) : Int)], .int .i64 0]) zR129c1 rfl ⟨by simp [trimM, trimS, h], ((bstep (below1 w _) b1).setCell (by simp) _).setCell (by simp) _⟩
     ·have HOK := hide (mt (okM_iff x).1 (by omega))
      go_wp2
      go_roundw
      case rel =>
       have e1 := unhide hh
       rw [unhide U1, unhide U2, unhide U3, if_neg (unhide HOK), if_neg (unhide HOK), if_neg (unhide HOK)] at e1
       exact ⟨k, by go_num, by omega, e1, b1⟩
      case measure => simp [intOf]
    ·have HOK := hide (mt (okM_iff x).1 (by omega))
     go_wp2
     go_roundw
     case rel =>
      have e1 := unhide hh
      rw [unhide U1, unhide U2, unhide U3, if_neg (unhide HOK), if_neg (unhide HOK), if_neg (unhide HOK)] at e1
      exact ⟨k, by go_num, by omega, e1, b1⟩
     case measure => simp [intOf]
theorem rfit_any (m s : Int) (w : World) :
  Calls Tryz.prog 129 #[.int .i64 m, .int .i64 s] w fun e w' => e = .returned (.tuple #[.agg #[.int .i64 (fitM m s), .int .i64 (fitS m s)], .int .i64 (fitE m s)]) ∧ Below w.heap.size w w' := by
 by_cases h : argB m s = true
 ·have e1 : fitM m s = 0 := if_pos h
  have e2 : fitS m s = 0 := if_pos h
  have e3 : fitE m s = 1 := if_pos h
  rw [e1, e2, e3]
  exact rfit_arg m s w h
 ·have e1 : fitM m s = _ := if_neg h
  have e2 : fitS m s = _ := if_neg h
  have e3 : fitE m s = _ := if_neg h
  rw [e1, e2, e3]
  unfold argB at h
  have h := mt (decide_eq_true (p := _)) h
  exact rfit_in m s w (by omega) (by omega) (by omega) (by omega)
end
end Go.Proofs.YtfdimdjmnfdecaaGreat
