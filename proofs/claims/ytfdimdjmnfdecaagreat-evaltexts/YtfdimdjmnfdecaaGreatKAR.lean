/- LBytes LPast LPre LWord LFault LTok LLex LAt: laid together. -/
import Derived.Test.YtfdimdjmnfdecaaGreatKAQ
import Derived.Lib.Bytealg
import Derived.Deep.AppendLies
import Derived.ChangeKeysEq
import Derived.Deep.QuietTactic
import Derived.BigQuiet
import Derived.Laws.OwnMore
set_option linter.unusedVariables false
set_option linter.unusedSimpArgs false
set_option maxHeartbeats 8000000
namespace Go.Proofs.YtfdimdjmnfdecaaGreat
open Go.RowKit
section
theorem sm_yes {c : UInt8} (h1 : 97 ≤ (c.toNat : Int)) (h2 : (c.toNat : Int) ≤ 122) : smB c = true := by unfold smB; simp; omega
theorem sm_no {c : UInt8} (h : (c.toNat : Int) < 97 ∨ 122 < (c.toNat : Int)) : smB c = false := by
 unfold smB; rcases h with h | h <;> simp <;> omega
theorem dg_yes {c : UInt8} (h1 : 48 ≤ (c.toNat : Int)) (h2 : (c.toNat : Int) ≤ 57) : dgB c = true := by unfold dgB; simp; omega
theorem dg_no {c : UInt8} (h : (c.toNat : Int) < 48 ∨ 57 < (c.toNat : Int)) : dgB c = false := by
 unfold dgB; rcases h with h | h <;> simp <;> omega
theorem bl_eq (c : UInt8) : ((c.toNat : Int) == 32) = blB c := by
 unfold blB; rw [Bool.eq_iff_iff]; simp; omega
theorem tx_no {c : UInt8} (h : (c.toNat : Int) < 32 ∨ 126 < (c.toNat : Int)) : txB c = false := by
 unfold txB; rcases h with h | h <;> simp <;> omega
theorem tx_eq {c : UInt8} (h1 : 32 ≤ (c.toNat : Int)) (h2 : (c.toNat : Int) ≤ 126) : ((c.toNat : Int) != 34) = txB c := by
 unfold txB; rw [Bool.eq_iff_iff]; simp; omega
end
section
end
section
theorem lext_eq (l : List UInt8) (a b : Nat) : (ByteArray.mk l.toArray).extract a b = ByteArray.mk ((l.drop a).take (b - a)).toArray := Lib.extract_eq ⟨l.toArray⟩ a b
end
section
def sV (l : List UInt8) : Value := .string ⟨l.toArray⟩
theorem row_strs (w : World) (gs : List (List UInt8)) (t : TypeId) (j : Nat) : (w.alloc (.cells (gs.map sV).toArray t)).cell? ⟨w.heap.size, j, none⟩ = (gs[j]?).map sV := by
 rw [cell_of_row _ _ j _ _ _ (heap_alloc_new w _)]
 simp
theorem word_step {t : List UInt8} {k : Nat} (h : k < 9) : ((wds.drop k).any fun x => t == x) = ((t == wds.getD k []) || ((wds.drop (k + 1)).any fun x => t == x)) := by
 rw [List.drop_eq_getElem_cons (show k < wds.length from h), List.any_cons]
 simp [show k < wds.length from h]
theorem wds_len {k : Nat} : (wds.getD k []).length ≤ 5 := by
 by_cases h : k < 9
 ·match k, h with
  | 0, _ | 1, _ | 2, _ | 3, _ | 4, _ | 5, _ | 6, _ | 7, _ | 8, _ => decide
 ·rw [List.getD_eq_getElem?_getD, List.getElem?_eq_none (show wds.length ≤ k from Nat.le_of_not_lt h)]; decide
theorem rword_any (t : List UInt8) (w : World) (ht : t.length ≤ 1000) :
  Calls Tryz.prog 101 #[.string ⟨t.toArray⟩] w fun e w' => e = .returned (.bool (wordB t)) ∧ Below w.heap.size w w' := by
 have row : ∀ k, k < 9 → (w.alloc (.cells #[.string ⟨#[116, 114, 117, 101]⟩, .string ⟨#[102, 97, 108, 115, 101]⟩, .string ⟨#[110, 117, 108, 108]⟩, .string ⟨#[105, 102]⟩, .string ⟨#[116, 104, 101, 110]⟩, .string ⟨#[101, 108, 115, 101]⟩, .string ⟨#[97, 110, 100]⟩, .string ⟨#[111, 114]⟩, .string ⟨#[105, 110]⟩] 9)).cell? ⟨w.heap.size, k, none⟩ = some (.string ⟨(wds.getD k []).toArray⟩) := by
  intro k hk
  have h := row_strs w wds 9 k
  rw [List.getElem?_eq_getElem (show k < wds.length from hk)] at h
  have e : wds.getD k [] = wds[k]'(show k < wds.length from hk) := by simp [show k < wds.length from hk]
  rw [e]
  exact h
 have bel := below1 w (.cells #[.string ⟨#[116, 114, 117, 101]⟩, .string ⟨#[102, 97, 108, 115, 101]⟩, .string ⟨#[110, 117, 108, 108]⟩, .string ⟨#[105, 102]⟩, .string ⟨#[116, 104, 101, 110]⟩, .string ⟨#[101, 108, 115, 101]⟩, .string ⟨#[97, 110, 100]⟩, .string ⟨#[111, 114]⟩, .string ⟨#[105, 110]⟩] 9)
 have hsz : w.heap.size < (w.alloc (.cells #[.string ⟨#[116, 114, 117, 101]⟩, .string ⟨#[102, 97, 108, 115, 101]⟩, .string ⟨#[110, 117, 108, 108]⟩, .string ⟨#[105, 102]⟩, .string ⟨#[116, 104, 101, 110]⟩, .string ⟨#[101, 108, 115, 101]⟩, .string ⟨#[97, 110, 100]⟩, .string ⟨#[111, 114]⟩, .string ⟨#[105, 110]⟩] 9)).heap.size := by simp
 generalize hR : wordB t = R
 have HR := hide hR
 clear hR
 go_enter Tryz.func101, Tryz.ntmps101
 go_wp2_with fail
 generalize w.alloc (.cells #[.string ⟨#[116, 114, 117, 101]⟩, .string ⟨#[102, 97, 108, 115, 101]⟩, .string ⟨#[110, 117, 108, 108]⟩, .string ⟨#[105, 102]⟩, .string ⟨#[116, 104, 101, 110]⟩, .string ⟨#[101, 108, 115, 101]⟩, .string ⟨#[97, 110, 100]⟩, .string ⟨#[111, 114]⟩, .string ⟨#[105, 110]⟩] 9) = W at *
 have ROW := hide row
 have BEL := hide bel
 clear row bel
 go_loop [4] (fun i => ∃ k : Nat, k ≤ 9 ∧ i = .int .i64 k ∧ Hid (((wds.drop k).any fun x => t == x) = R)) (fun i => 9 - (intOf i).toNat)
 case atStart => exact ⟨0, by omega, rfl, HR⟩
 case round =>
  clear HR
  obtain ⟨k, hk, rfl, HR⟩ := hrel
  by_cases hlt : k < 9
  ·have row := unhide ROW k hlt
   have ST := hide (word_step (t := t) hlt)
   have hz := wds_len (k := k)
   generalize wds.getD k [] = g at *
   cases hg : (g == t)
   ·have HE := hide (show ((wds.drop (k + 1)).any fun x => t == x) = R by rw [← unhide HR, unhide ST, BEq.comm, hg]; rfl)
    go_wp2_with fail
    go_round
    case rel => exact ⟨k + 1, by omega, by go_num, HE⟩
    case measure => simp [intOf]; omega
   ·have HE := hide (show true = R by rw [← unhide HR, unhide ST, BEq.comm, hg]; rfl)
    go_wp2_with fail
    go_ret
    exact ⟨ret_bool (unhide HE), unhide BEL⟩
  ·have HE := hide (show false = R by rw [← unhide HR, show k = 9 by omega]; rfl)
   go_wp2_with fail
   go_ret
   exact ⟨ret_bool (unhide HE), unhide BEL⟩
end
section
end
section
theorem sgn_step {k : Nat} (r : List UInt8) (h : k < 16) : sgn (sgs.drop k) r = if preB (sgs.getD k []) r = true then (sgs.getD k []).length else sgn (sgs.drop (k + 1)) r := by
 rw [List.drop_eq_getElem_cons (show k < sgs.length from h), sgn]
 simp [show k < sgs.length from h]
theorem sgs_len {k : Nat} (h : k < 16) : 1 ≤ (sgs.getD k []).length ∧ (sgs.getD k []).length ≤ 2 := by
 have all : ∀ k, k < 16 → 1 ≤ (sgs.getD k []).length ∧ (sgs.getD k []).length ≤ 2 := by decide
 exact all k h
theorem tok_cons {l : List UInt8} {at0 : Nat} (ha : at0 < l.length) :
  tokK (l.drop at0) = (if smB l[at0] = true then 1 else if dgB l[at0] = true then 2 else if l[at0].toNat = 34 then (if endB (l.drop at0) = true then 3 else 0) else if sgn sgs (l.drop at0) = 0 then 0 else 4)
  ∧ tokN (l.drop at0) = (if smB l[at0] = true then run nmB (l.drop at0) else if dgB l[at0] = true then numN (l.drop at0) else if l[at0].toNat = 34 then (if endB (l.drop at0) = true then 1 + run txB ((l.drop at0).drop 1) + 1 else 0) else sgn sgs (l.drop at0)) := by
 rw [drop_cons ha]
 exact ⟨rfl, rfl⟩
end
section
def tkC (t : Tk) : List Value := [.int .i64 (t.1 : Int), .string ⟨t.2.1.toArray⟩, .int .i64 (t.2.2 : Int)]
def tksC (ts : List Tk) : List Value := ts.flatMap tkC
theorem tksC_snoc (ts : List Tk) (t : Tk) : tksC (ts ++ [t]) = tksC ts ++ tkC t := by simp [tksC]
theorem infoTok : (Tryz.prog.info? 77).map (fun i => (i.zero, i.size, i.bytes)) = some (some (.agg #[.int .i64 0, .string ⟨#[]⟩, .int .i64 0]), 3, 32) := by kernel_rfl
theorem owns_form {w : World} {B : Nat} {v : Value} {n : Nat} {xs : List Value} (h : w.ownsRow B 77 3 v n xs) : ∃ a cap, v = .slice a n cap := by
 rcases h.2 with ⟨rfl, rfl⟩ | ⟨g, cap, cur, rfl, -⟩
 ·exact ⟨none, 0, rfl⟩
 ·exact ⟨_, cap, rfl⟩
theorem owns_below {w w' : World} {B : Nat} {e : TypeId} {sz : Nat} {v : Value} {n : Nat} {xs : List Value} (h : w.ownsRow B e sz v n xs) (k : Below w.heap.size w w') : w'.ownsRow B e sz v n xs := by
 refine ⟨h.1, ?_⟩
 rcases h.2 with h0 | ⟨g, cap, cur, hv, hb, hg, hr⟩
 ·exact Or.inl h0
 ·refine Or.inr ⟨g, cap, cur, hv, hb, ?_, hr⟩
  rw [k.block g (Array.getElem?_eq_some_iff.1 hg).1]
  exact hg
theorem tokE_n {r : List UInt8} {n : Nat} (h : tokE r n = 0) : n < 60 := by
 apply Classical.byContradiction
 intro hn
 unfold tokE fltN at h
 by_cases hf : flt (tokK r) (tokT r) = 0
 ·rw [if_pos ⟨hf, by omega⟩] at h; cases h
 ·rw [if_neg (fun x => hf x.1)] at h; exact hf h
theorem wpList_tok {w : World} {ops : Array Oper} {rest : List Oper} {o : Oper} {a : Act} {Q : Exit → Act → World → Prop} (hgd : o.guard = none) (s x : Operand)
  (ho : o.op = .call { callee := .builtin .append, args := #[s, x], argTypes := #[71, 71] }) (B : Nat) (v : Value) (ts : List Tk) (hs : a.eval s = v) (own : w.ownsRow B 77 3 v ts.length (tksC ts))
  (b : Nat) (t : Tk) (hx : a.eval x = .slice (some ⟨b, 0, none⟩) 1 1) (hc : w.cell? ⟨b, 0, none⟩ = some (.int .i64 (t.1 : Int)) ∧ w.cell? ⟨b, 1, none⟩ = some (.string ⟨t.2.1.toArray⟩) ∧ w.cell? ⟨b, 2, none⟩ = some (.int .i64 (t.2.2 : Int)))
  (hn : ts.length ≤ 1000) (hB : B ≤ w.heap.size)
  (h : ∀ v' w', w'.ownsRow B 77 3 v' (ts ++ [t]).length (tksC (ts ++ [t])) → w.grownBy w' v.ownBlock → (∀ W0, Below B W0 w → Below B W0 w') → wpList Tryz.prog ops Q rest (a.put o.dst v') w') : wpList Tryz.prog ops Q (o :: rest) a w := by
 obtain ⟨i, hi, hzz⟩ := Option.map_eq_some_iff.1 infoTok
 simp only [Prod.mk.injEq] at hzz
 obtain ⟨hz, hz1, hz2⟩ := hzz
 refine wpList_append_lies w hgd s x 71 ho B 77 i _ 3 32 Tryz.underlying71 hi hz hz1 hz2 rfl (by omega) v ts.length (tksC ts) hs own ⟨b, 0, none⟩ 1 1 (tkC t) hx rfl ?_ ?_ (by omega) (by unfold maxLen; omega) (by omega) hB _ rfl ?_
 ·intro j u hu
  have hadd : (⟨b, 0, none⟩ : Addr).add j = ⟨b, j, none⟩ := by unfold Addr.add; split <;> simp_all
  rw [hadd]
  obtain ⟨h0, h1, h2⟩ := hc
  match j, hu with
  | 0, hu => exact h0.trans hu
  | 1, hu => exact h1.trans hu
  | 2, hu => exact h2.trans hu
  | j + 3, hu => simp [tkC] at hu
 ·intro u hu
  simp [tkC] at hu
  rcases hu with rfl | rfl | rfl <;> rfl
 ·intro g cap w' own' gr _ _
  refine h _ w' ?_ gr (fun W0 hb => hb.grown gr hB (fun k hk => (own.lt k hk).1))
  rw [tksC_snoc, List.length_append]
  exact own'
def LexRes (B : Nat) (R : List Tk × Nat × Nat) (e : Ending) (w' : World) : Prop :=
 ∃ v, e = .returned (.tuple #[v, .int .i64 (R.2.1 : Int), .int .i64 (R.2.2 : Int)]) ∧ w'.ownsRow B 77 3 v R.1.length (tksC R.1)
theorem lexRes_mk {B : Nat} {R : List Tk × Nat × Nat} {acc : List Tk} {p e0 : Nat} {v : Value} {w' : World} (hR : R = (acc, p, e0)) (ho : w'.ownsRow B 77 3 v acc.length (tksC acc)) :
  LexRes B R (.returned (.tuple #[v, .int .i64 (p : Int), .int .i64 (e0 : Int)])) w' := by
 subst hR
 exact ⟨v, rfl, ho⟩
end
section
theorem tksC_get (ts : List Tk) : ∀ (i : Nat) (h : i < ts.length) (q : Nat), q < 3 → (tksC ts)[i * 3 + q]? = (tkC ts[i])[q]? := by
 induction ts with
 | nil => intro i h; exact absurd h (Nat.not_lt_zero _)
 | cons t ts ih =>
  intro i h q hq
  rw [tksC, List.flatMap_cons, ← tksC]
  cases i with
  | zero => rw [List.getElem?_append_left (by simp [tkC]; omega)]; simp
  | succ i =>
   rw [List.getElem?_append_right (by simp [tkC]; omega)]
   have e : (i + 1) * 3 + q - (tkC t).length = i * 3 + q := by simp [tkC]; omega
   rw [e, ih i (by simpa using h) q hq]
   simp
def Tok3 (w : World) (g o : Nat) (t : Tk) : Prop := g < w.heap.size ∧ w.cell? ⟨g, o, none⟩ = some (.int .i64 (t.1 : Int)) ∧ w.cell? ⟨g, o + 1, none⟩ = some (.string ⟨t.2.1.toArray⟩) ∧ w.cell? ⟨g, o + 2, none⟩ = some (.int .i64 (t.2.2 : Int))
theorem own_at {w : World} {B : Nat} {v : Value} {ts : List Tk} (h : w.ownsRow B 77 3 v ts.length (tksC ts)) (hl : 0 < ts.length) :
  ∃ g cap, v = .slice (some ⟨g, 0, none⟩) ts.length cap ∧ B ≤ g ∧ ∀ i (hi : i < ts.length), Tok3 w g (i * 3) ts[i] := by
 obtain ⟨g, cap, rfl, hb, hg⟩ := h.form hl
 refine ⟨g, cap, rfl, hb, fun i hi => ⟨hg, ?_, ?_, ?_⟩⟩
 ·have := h.cellAt (i * 3) (by omega)
  rw [this, show i * 3 = i * 3 + 0 by omega, tksC_get ts i hi 0 (by omega)]; rfl
 ·have := h.cellAt (i * 3 + 1) (by omega)
  rw [this, tksC_get ts i hi 1 (by omega)]; rfl
 ·have := h.cellAt (i * 3 + 2) (by omega)
  rw [this, tksC_get ts i hi 2 (by omega)]; rfl
end
end Go.Proofs.YtfdimdjmnfdecaaGreat
