/- KSmall KNum KMark KDig KNumber KRef KRef2 KKnown: laid together. -/
import Derived.Test.YtamnndocbnbkiaaDoorHAA
import Derived.Lib.ConvBytes
import Derived.Lib.AtoiAllMem
import Derived.Laws.CopyRow
import Derived.Deep.RegionWith
import Derived.Lib.SlBytesConst
/- A short row laid behind what is there: nothing but the row that is written on has turned. -/
namespace Go.Proofs.YtamnndocbnbkiaaDoor
open Go.RowKit Go.Sort
set_option linter.unusedVariables false
set_option linter.unusedSimpArgs false

/- the row that is answered is the old one, or lies in new memory. -/
def Fresh (w : World) (v v' : Value) : Prop := v'.ownBlock = v.ownBlock ∨ ∀ g, v'.ownBlock = some g → w.heap.size ≤ g
theorem grown_trans {w w1 w2 : World} {v v1 : Value} (h : w.grownBy w1 v.ownBlock) (f : Fresh w v v1) (k : w1.grownBy w2 v1.ownBlock) : w.grownBy w2 v.ownBlock := by
  obtain ⟨a1, a2, a3, a4, a5⟩ := h
  obtain ⟨b1, b2, b3, b4, b5⟩ := k
  refine ⟨b1.trans a1, b2.trans a2, b3.trans a3, Nat.le_trans a4 b4, fun j hj hne => ?_⟩
  refine (b5 j (Nat.lt_of_lt_of_le hj a4) ?_).trans (a5 j hj hne)
  rcases f with f | f
  · rw [f]; exact hne
  · intro e
    have := f j (by simpa using e.symm)
    omega
theorem grown_alloc {w w1 : World} {row : Option Nat} (o : Obj) (k : (w.alloc o).grownBy w1 row) : w.grownBy w1 row := by
  obtain ⟨b1, b2, b3, b4, b5⟩ := k
  refine ⟨b1, b2, b3, by simp at b4; omega, fun j hj hne => (b5 j (by simp; omega) hne).trans ?_⟩
  exact Below.heap_alloc w o j hj
theorem fresh_trans {w w1 : World} {v v1 v2 : Value} (hs : w.heap.size ≤ w1.heap.size) (f : Fresh w v v1) (k : Fresh w1 v1 v2) : Fresh w v v2 := by
  rcases k with k | k
  · rcases f with f | f
    · exact .inl (k.trans f)
    · exact .inr (fun g hg => f g (by rw [← k]; exact hg))
  · exact .inr (fun g hg => Nat.le_trans hs (k g hg))
theorem fresh_alloc {w : World} {v v1 : Value} (o : Obj) (k : Fresh (w.alloc o) v v1) : Fresh w v v1 := by
  rcases k with k | k
  · exact .inl k
  · exact .inr (fun g hg => by have := k g hg; simp at this; omega)
theorem Row.grown {α : Type} {enc : α → Value} {d : α} {w w' : World} {v vr : Value} {r : List α} (h : Row enc d (fun g => v.ownBlock ≠ some g) w vr r) (k : w.grownBy w' v.ownBlock) : Row enc d (fun g => v.ownBlock ≠ some g) w' vr r := by
  obtain ⟨b1, b2, b3, b4, b5⟩ := k
  refine h.keep b4 (fun bl o hl hq => ?_) (fun _ _ h => h)
  have := b5 bl hl (fun e => hq e.symm)
  unfold World.cell?
  rw [this]
theorem app_str (base : Nat) (v : Value) (n : Nat) (xs : List Value) (ty : TypeId) (w : World) (hown : w.ownsRow base 5 1 v n xs) (s : ByteArray) (h0 : 0 < s.size) (hb : n + s.size ≤ 2199023255552) (hbase : base ≤ w.heap.size) :
    ∃ v' w', (Builtin.append_ #[22, 9] ty #[v, .string s]).run Tryd.prog w = .ok v' w' ∧ w'.ownsRow base 5 1 v' (n + s.size) (xs ++ Lib.strCells s) ∧ w.grownBy w' v.ownBlock ∧ Fresh w v v' := by
  obtain ⟨i, hi, hz, hz1, hz2⟩ := info_parts infoByte
  obtain ⟨v', w', hr, h1, h2, -⟩ := Lib.run_append_own_string (P := Tryd.prog) w base 22 9 ty 5 i Tryd.underlying22 Tryd.underlying9 hi hz hz1 hz2 v n xs hown s (by unfold maxLen; omega) (by omega) hbase
  refine ⟨v', w', hr, h1, h2, ?_⟩
  have hxl : xs.length = n := by simpa using hown.1
  rcases hown.2 with ⟨rfl, rfl⟩ | ⟨g, cap, cur, rfl, hbg, hg, hnc, hcm, hcs, htake⟩
  · have hr2 := run_append_nil_string (P := Tryd.prog) w 22 9 ty 5 i (.int .u8 0) Tryd.underlying22 Tryd.underlying9 hi hz s (by omega) (by omega) (by rw [hz2]; omega)
    rw [hr] at hr2
    injection hr2 with e1 e2
    subst e1
    exact .inr (fun g hg => by simp [Value.ownBlock] at hg; omega)
  · by_cases hroom : n + s.size ≤ cap
    · have hr2 := Lib.run_append_room_string (P := Tryd.prog) w 22 9 ty 5 i Tryd.underlying22 Tryd.underlying9 hi hz1 g n cap cur hg s hroom (by omega)
      rw [hr] at hr2
      injection hr2 with e1 e2
      subst e1
      exact .inl rfl
    · have hr2 := Lib.run_append_grow_string (P := Tryd.prog) w 22 9 ty 5 i (.int .u8 0) Tryd.underlying22 Tryd.underlying9 hi hz ⟨g, 0, none⟩ n cap xs (by rw [hz1]; simpa using hxl) (hown.cells (g := g) rfl) s (by omega) (by omega) (by rw [hz2]; exact growslice_fits (by omega) (by omega))
      rw [hr] at hr2
      injection hr2 with e1 e2
      subst e1
      exact .inr (fun g hg => by simp [Value.ownBlock] at hg; omega)
theorem wpList_str {w : World} {ops : Array Oper} {rest : List Oper} {o : Oper} {ac : Act} {P : Exit → Act → World → Prop} (hgd : o.guard = none) (sl x : Operand)
    (ho : o.op = .call { callee := .builtin .append, args := #[sl, x], argTypes := #[22, 9] }) (B : Nat) (v : Value) (l : List UInt8) (hs : ac.eval sl = v) (own : Own B w v l)
    (s : List UInt8) (hx : ac.eval x = .string ⟨s.toArray⟩) (h0 : 0 < s.length) (hn : l.length + s.length ≤ 2199023255552) (hB : B ≤ w.heap.size)
    (h : ∀ v' w', Own B w' v' (l ++ s) → w.grownBy w' v.ownBlock → Fresh w v v' → wpList Tryd.prog ops P rest (ac.put o.dst v') w') : wpList Tryd.prog ops P (o :: rest) ac w := by
  refine wpList_plain hgd fun K hK => ?_
  have hsz : (⟨s.toArray⟩ : ByteArray).size = s.length := by simp [ByteArray.size]
  obtain ⟨v', w', hr, h2, h3, h4⟩ := app_str B v l.length (Lib.byteCells l) o.type w own ⟨s.toArray⟩ (by omega) (by omega) hB
  unfold Oper.wp execOp
  simp only [ho, resolve, invoke, builtin, Sem.run_bind, Sem.run_pure, Result.andThen_ok, List.map_toArray, List.map_cons, List.map_nil, hs, hx, hr]
  refine hK _ _ (h v' w' ?_ h3 h4)
  unfold Own
  rw [List.length_append, byteCells_app]
  have : Lib.strCells ⟨s.toArray⟩ = Lib.byteCells s := by simp [Lib.strCells, Lib.byteCells]
  rw [this, hsz] at h2
  exact h2
/- append of one byte, of a row, and where what is answered lies. -/
theorem wpList_bL {w : World} {ops : Array Oper} {rest : List Oper} {o : Oper} {ac : Act} {P : Exit → Act → World → Prop} (hgd : o.guard = none) (s x : Operand)
    (ho : o.op = .call { callee := .builtin .append, args := #[s, x], argTypes := #[22, 22] }) (B : Nat) (v : Value) (l : List UInt8) (hs : ac.eval s = v) (own : Own B w v l)
    (ad : Addr) (r : List UInt8) (cap : Nat) (hx : ac.eval x = .slice (some ad) r.length cap) (hc : ∀ j, j < r.length → w.cell? (ad.add j) = some (encB (r.getD j 0))) (h0 : 0 < r.length) (hn : l.length + r.length ≤ 2199023255552) (hB : B ≤ w.heap.size)
    (h : ∀ v' w', Own B w' v' (l ++ r) → v' ≠ .slice none 0 0 → w.grownBy w' v.ownBlock → Fresh w v v' → wpList Tryd.prog ops P rest (ac.put o.dst v') w') : wpList Tryd.prog ops P (o :: rest) ac w := by
  obtain ⟨i, hi, hz, hz1, hz2⟩ := info_parts infoByte
  refine wpList_append_lies w hgd s x 22 ho B 5 i _ 1 1 Tryd.underlying22 hi hz hz1 hz2 rfl (by decide) v l.length _ hs own ad r.length cap (r.map encB) hx (by simp) ?_ ?_ h0 (by unfold maxLen; omega) (by omega) hB _ rfl ?_
  · intro j u hu
    have hj : j < r.length := by
      have := (List.getElem?_eq_some_iff.1 hu).1
      simpa using this
    rw [hc j hj, List.getD_eq_getElem?_getD, List.getElem?_eq_getElem hj]
    rw [List.getElem?_map, List.getElem?_eq_getElem hj] at hu
    exact hu
  · intro u hu
    simp only [List.mem_map] at hu
    obtain ⟨y, _, rfl⟩ := hu
    rfl
  · intro g c w' h1 h2 h3 h4
    refine h _ w' ?_ (by simp) h2 ?_
    · unfold Own
      rw [byteCells_app, byteCells_enc r, List.length_append]
      exact h1
    · rcases h3 with h3 | h3
      · exact .inl (by rw [h3]; rfl)
      · exact .inr (fun g' hg' => by simp [Value.ownBlock] at hg'; omega)
set_option maxHeartbeats 1000000 in
theorem appi_small (B : Nat) (v : Value) (l : List UInt8) (n : Nat) (w : World) (own : Own B w v l) (h : n < 100) (hl : l.length ≤ 1099511627776) (hB : B ≤ w.heap.size) :
    Calls Tryd.prog 26 #[v, .int .i64 n, .int .i64 10] w fun e w' => ∃ v', e = .returned v' ∧ Own B w' v' (l ++ Lib.decDigits n) ∧ w.grownBy w' v.ownBlock ∧ Fresh w v v' := by
  obtain ⟨c, r, hd, -⟩ := dec_head n
  have h0 : 0 < (Lib.decDigits n).length := by rw [hd]; simp
  clear hd
  have h20 := dec_len20 n (by omega)
  have C1 := hide (Tryd.internal_strconv_small n h)
  generalize Lib.decDigits n = D at *
  go_enter Tryd.func26, Tryd.ntmps26
  go_wp2_with fail
  go_enter Tryd.func32, Tryd.ntmps32
  go_wp2_with fail
  go_enter Tryd.func36, Tryd.ntmps36
  go_wp2_with fail
  refine (unhide C1 _).mono ?_
  rintro e w1 ⟨rfl, rfl⟩
  go_wp2_with (at_builtin; go_must (refine wpList_str rfl _ _ rfl B v l rfl own D rfl h0 (by omega) hB ?_))
  intro v' w' own' gr fr
  go_wp2_with fail
  go_ret
  exact ⟨v', rfl, own', gr, fr⟩
set_option maxHeartbeats 1000000 in
theorem lay_small (B : Nat) (v vr : Value) (l r : List UInt8) (w : World) (own : Own B w v l) (hr : RowB (fun g => v.ownBlock ≠ some g) w vr r) (h : r.length < 100) (h0 : 0 < r.length) (hl : l.length ≤ 274877906944) (hB : B ≤ w.heap.size) :
    Calls Tryd.prog 24 #[v, vr] w fun e w' => ∃ v', e = .returned v' ∧ Own B w' v' (l ++ rowT r) ∧ w.grownBy w' v.ownBlock ∧ Fresh w v v' := by
  obtain ⟨a, cap, rfl, hlc, hm, hnil⟩ := hr.form
  have hd := dec_len20 r.length (by omega)
  have C1 := hide (appi_small B v l r.length w own h (by omega) hB)
  have HR := hide hr
  have AP : Hid (l ++ Lib.decDigits r.length ++ [58] ++ r ++ [44] = l ++ rowT r) := hide (by unfold rowT; simp)
  generalize Lib.decDigits r.length = D at *
  clear own hr
  go_enter Tryd.func24, Tryd.ntmps24
  go_wp2_with fail
  refine (unhide C1).mono ?_
  rintro e w1 ⟨v1, rfl, own1, g1, f1⟩
  clear C1
  have n1 : (l ++ D).length ≤ 274877906944 + 21 := by rw [List.length_append]; omega
  generalize l ++ D = L1 at *
  have hB1 : B ≤ w1.heap.size := Nat.le_trans hB g1.size
  have own2 : Own B (w1.alloc (Obj.cells #[.int .u8 58] 5)) v1 L1 := own_below own1 (below1 w1 _)
  have hc2 : ∀ j, j < [(58 : UInt8)].length → (w1.alloc (Obj.cells #[.int .u8 58] 5)).cell? ((⟨w1.heap.size, 0, none⟩ : Addr).add j) = some (encB ([(58 : UInt8)].getD j 0)) := fun j hj => by
    obtain rfl : j = 0 := by simp at hj; omega
    unfold encB; go_simp
  have hz2 : B ≤ (w1.alloc (Obj.cells #[.int .u8 58] 5)).heap.size := by simp; omega
  have AP2 := hide AP
  go_wp2_with (at_builtin; go_must (refine wpList_bL rfl _ _ rfl B v1 L1 rfl own2 ⟨w1.heap.size, 0, none⟩ [58] 1 rfl hc2 (by simp) (by simp; omega) hz2 ?_))
  intro v2 w2 own3 hv2 gr2 f2
  have g2' := grown_trans g1 f1 (grown_alloc _ gr2)
  have f2' := fresh_trans g1.size f1 (fresh_alloc _ f2)
  have n2 : (L1 ++ [58]).length ≤ 274877906944 + 22 := by rw [List.length_append]; simp; omega
  generalize hL2 : L1 ++ [58] = L2 at *
  clear own1 own2 hc2 gr2 f2 g1 f1 hL2 hz2 hB1
  have hB2 : B ≤ w2.heap.size := Nat.le_trans hB g2'.size
  have hR2 := (unhide HR).grown g2'
  obtain ⟨bl, o, rfl, -, -, -⟩ := hR2.at.2 0 h0
  have hc3 : ∀ j, j < r.length → w2.cell? ((⟨bl, o, none⟩ : Addr).add j) = some (encB (r.getD j 0)) := fun j hj => by
    obtain ⟨bl', o', e, -, -, hc⟩ := hR2.at.2 j hj
    cases e
    rw [Go.WideShapes.add_plain]; exact hc
  clear hR2
  go_wp2_with (at_builtin; go_must (refine wpList_bL rfl _ _ rfl B _ L2 rfl own3 ⟨bl, o, none⟩ r cap rfl hc3 h0 (by omega) hB2 ?_))
  intro v3 w3 own4 hv3 gr3 f3
  have g3' := grown_trans g2' f2' gr3
  have f3' := fresh_trans g2'.size f2' f3
  have n3 : (L2 ++ r).length ≤ 549755813888 := by rw [List.length_append]; omega
  generalize hL3 : L2 ++ r = L3 at *
  clear own3 gr3 f3 g2' f2' hL3 hc3 hB2
  have hB3 : B ≤ w3.heap.size := Nat.le_trans hB g3'.size
  have own5 : Own B (w3.alloc (Obj.cells #[.int .u8 44] 5)) v3 L3 := own_below own4 (below1 w3 _)
  have hc5 : ∀ j, j < [(44 : UInt8)].length → (w3.alloc (Obj.cells #[.int .u8 44] 5)).cell? ((⟨w3.heap.size, 0, none⟩ : Addr).add j) = some (encB ([(44 : UInt8)].getD j 0)) := fun j hj => by
    obtain rfl : j = 0 := by simp at hj; omega
    unfold encB; go_simp
  have hz5 : B ≤ (w3.alloc (Obj.cells #[.int .u8 44] 5)).heap.size := by simp; omega
  go_wp2_with (at_builtin; go_must (refine wpList_bL rfl _ _ rfl B _ L3 rfl own5 ⟨w3.heap.size, 0, none⟩ [44] 1 rfl hc5 (by simp) (by simp; omega) hz5 ?_))
  intro v4 w4 own6 hv4 gr4 f4
  have g4' := grown_trans g3' f3' (grown_alloc _ gr4)
  have f4' := fresh_trans g3'.size f3' (fresh_alloc _ f4)
  go_wp2_with fail
  go_ret
  exact ⟨v4, rfl, by rw [← unhide AP]; exact own6, g4', f4'⟩
end Go.Proofs.YtamnndocbnbkiaaDoor

/- knot's Num: numbers laid as rows, one behind the other. -/
namespace Go.Proofs.YtamnndocbnbkiaaDoor
open Go.RowKit Go.Sort
set_option linter.unusedVariables false
set_option linter.unusedSimpArgs false

def numsT (ns : List Int) : List UInt8 := tieT (ns.map Lib.itoa)
def inI (n : Int) : Prop := -9223372036854775808 ≤ n ∧ n ≤ 9223372036854775807
theorem nums_take (ns : List Int) (j : Nat) (h : j < ns.length) : numsT (ns.take (j + 1)) = numsT (ns.take j) ++ rowT (Lib.itoa (ns.getD j 0)) := by
  unfold numsT
  rw [List.map_take, List.map_take, tie_take _ j (by simpa using h)]
  congr 2
  rw [List.getD_eq_getElem?_getD, List.getD_eq_getElem?_getD, List.getElem?_map, List.getElem?_eq_getElem h]
  rfl
theorem itoa_len (n : Int) (h : inI n) : 0 < (Lib.itoa n).length ∧ (Lib.itoa n).length ≤ 21 := by
  refine ⟨?_, Lib.itoa_length_le n h.1 h.2⟩
  unfold Lib.itoa
  split
  · simp
  · obtain ⟨c, r, e, -⟩ := dec_head n.toNat
    rw [e]; simp
theorem row_le (p : List UInt8) (h : p.length ≤ 9223372036854775807) : (rowT p).length ≤ p.length + 23 := by
  unfold rowT
  have := dec_len20 p.length h
  simp only [List.length_append, List.length_cons, List.length_nil]
  omega
theorem nums_le (ns : List Int) (h : ∀ n ∈ ns, inI n) : ∀ j, j ≤ ns.length → (numsT (ns.take j)).length ≤ 44 * j := by
  intro j
  induction j with
  | zero => intro _; simp [numsT, tieT]
  | succ j ih =>
    intro hj
    rw [nums_take ns j (by omega), List.length_append]
    have h1 := ih (by omega)
    have hin : inI (ns.getD j 0) := by
      rw [List.getD_eq_getElem?_getD, List.getElem?_eq_getElem (by omega)]
      exact h _ (by simp)
    have h2 := itoa_len _ hin
    have h3 := row_le (Lib.itoa (ns.getD j 0)) (by omega)
    omega
theorem own_lt {B n : Nat} {e : TypeId} {v : Value} {xs : List Value} {w : World} (h : w.ownsRow B e 1 v n xs) : ∀ g, v.ownBlock = some g → g < w.heap.size := by
  intro k hk
  rcases h.2 with ⟨rfl, _⟩ | ⟨g', cap, cur, rfl, hB, hh, hr⟩
  · cases hk
  · simp only [Value.ownBlock, Option.some.injEq] at hk
    subst hk
    exact (Array.getElem?_eq_some_iff.1 hh).1

set_option maxHeartbeats 1000000 in
theorem num_any (Q : Nat → Prop) (vb : Value) (b : List UInt8) (a : Option Addr) (cap : Nat) (ns : List Int) (w : World) (hb : RowB Q w vb b) (hl : RowI Q w (.slice a ns.length cap) ns) (hi : ∀ n ∈ ns, inI n) (hn : b.length ≤ 137438953472) (hln : ns.length ≤ 1000000) (ht : Tab w) :
    Calls Tryd.prog 12 #[vb, .slice a ns.length cap] w fun e w' => ∃ v', e = .returned v' ∧ Own w.heap.size w' v' (b ++ numsT ns) ∧ Below w.heap.size w w' := by
  have C1 := hide (clone_any Q vb b w hb (by omega))
  have HL := hide hl
  have HT := hide ht
  have HN := hide (nums_le ns hi)
  have HI := hide (fun j (h : j < ns.length) => (show inI (ns.getD j 0) by
    rw [List.getD_eq_getElem?_getD, List.getElem?_eq_getElem h]
    exact hi _ (by simp)))
  have HS := hide (nums_take ns)
  clear hb hl ht hi
  go_enter Tryd.func12, Tryd.ntmps12
  go_wp2_with fail
  refine (unhide C1).mono ?_
  rintro e w1 ⟨v1, rfl, own1, b1⟩
  clear C1
  have h0 : Own w.heap.size w1 v1 (b ++ numsT (ns.take 0)) := by unfold numsT tieT; simpa using own1
  clear own1
  go_wp2_with fail
  go_loopw [5, 12] (fun u i wr => ∃ (j : Nat) (v : Value), j ≤ ns.length ∧ v = u ∧ i = .int .i64 j ∧ Below w.heap.size w wr ∧ Own w.heap.size wr v (b ++ numsT (ns.take j))) (fun _ i _ => ns.length - (intOf i).toNat)
  case atStart => exact ⟨0, v1, Nat.zero_le _, rfl, rfl, b1, h0⟩
  case round =>
    obtain ⟨j, v, hj, rfl, rfl, bel, own⟩ := hrel
    clear h0 b1
    by_cases hlt : j < ns.length
    · have hz : w.heap.size ≤ wr.heap.size := bel.size
      obtain ⟨bl, o, rfl, hq, hbl, hc⟩ := ((unhide HL).below bel).at.2 j hlt
      have hx := unhide HI j hlt
      have hnj := unhide HN j hj
      have HSJ := hide (unhide HS j hlt)
      generalize ns.getD j 0 = x at *
      have hx1 := hx.1
      have hx2 := hx.2
      have hlx := itoa_len x hx
      have C2 := hide (Tryd.strconv_AppendInt_10 wr.heap.size 0 x hx1 hx2 (.slice none 0 0) [] wr (own_nil _ _) (Nat.le_refl _) (by omega) (tabB_of (tab_below (unhide HT) bel)))
      have HLA := hide (fun (w2 : World) (vr : Value) (k : Below wr.heap.size wr w2) (ow : Own wr.heap.size w2 vr (Lib.itoa x)) =>
        lay_small w.heap.size v vr (b ++ numsT (ns.take j)) (Lib.itoa x) w2 (own_below own k) (ow.row.weak (fun g _ h e => by have := own_lt own g e; omega)) (by omega) (by omega) (by rw [List.length_append]; omega) (Nat.le_trans hz k.size))
      have OG := hide (own_ge own)
      clear own hx
      go_wp2_with fail
      refine (unhide C2).mono ?_
      rintro e w2 ⟨vr, rfl, own2, b2, -⟩
      have own2' : Own wr.heap.size w2 vr (Lib.itoa x) := by simpa [Own] using own2
      have C3 := hide (unhide HLA w2 vr b2 own2')
      clear own2 C2 HLA
      go_wp2_with fail
      refine (unhide C3).mono ?_
      rintro e w3 ⟨v3, rfl, own3, g3, f3⟩
      have bel3 := below_grown (bel.trans (b2.mono hz)) g3 (Nat.le_trans hz b2.size) (unhide OG)
      rw [List.append_assoc, ← unhide HSJ] at own3
      clear C3 g3 f3 b2
      go_wp2_with fail
      go_roundw
      case rel => exact ⟨j + 1, _, hlt, rfl, by go_num, bel3, own3⟩
      case measure => simp [intOf]; omega
    · obtain rfl : j = ns.length := by omega
      rw [List.take_length] at own
      go_wp2_with fail
      go_ret
      exact ⟨_, rfl, own, bel⟩
end Go.Proofs.YtamnndocbnbkiaaDoor

/- A row that a text was turned into, and what is appended to it: of its block no cell is frozen, though a mark stands behind its end. -/
namespace Go.Proofs.YtamnndocbnbkiaaDoor
open Go.RowKit Go.Sort
set_option linter.unusedVariables false
set_option linter.unusedSimpArgs false

def NF (cur : Array Value) (fz : Nat × Nat) : Prop := ∀ o, o < cur.size → ¬ (fz.1 ≤ o ∧ o < fz.2)
theorem run_storeM (P : Program) (g o : Nat) (t : TypeId) (fz : Nat × Nat) : ∀ (vs : List Value) (i : Nat) (cur : Array Value) (w : World), w.heap[g]? = some (.cells cur t fz) → NF cur fz → o + i + vs.length ≤ cur.size → (∀ v ∈ vs, v.oneCell' = true) →
    (storeCells ⟨g, o, none⟩ vs i).run P w = .ok () (w.setRow g (cur.toList.take (o + i) ++ vs ++ cur.toList.drop (o + i + vs.length)).toArray)
  | [], i, cur, w, hg, _, _, _ => by
    simp only [storeCells, List.append_nil, List.length_nil, Nat.add_zero, List.take_append_drop, Array.toArray_toList]
    rw [setRow_self w g cur t fz hg]
    rfl
  | v :: rest, i, cur, w, hg, hfz, hl, h1 => by
    have hi : o + i < cur.size := by simp at hl; omega
    have hadd : (⟨g, o, none⟩ : Addr).add i = ⟨g, o + i, none⟩ := Go.WideShapes.add_plain g o i
    have hcell : w.cell? ⟨g, o + i, none⟩ = some cur[o + i] := by simp [World.cell?, hg, hi]
    have hfro : w.frozen? ⟨g, o + i, none⟩ = false := by
      have := hfz (o + i) hi
      obtain ⟨lo, hi'⟩ := fz
      simp only [World.frozen?, hg]
      simp only at this
      simpa using this
    have hst : (store ((⟨g, o, none⟩ : Addr).add i) v).run P w = .ok () (w.setRow g (cur.setIfInBounds (o + i) v)) := by
      rw [hadd, run_store P w _ v _ (h1 v (by simp)), hcell]
      simp [hfro, setCell_eq_setRow w g (o + i) cur t fz v hg]
    have ih := run_storeM P g o t fz rest (i + 1) (cur.setIfInBounds (o + i) v) (w.setRow g (cur.setIfInBounds (o + i) v)) (setRow_heap w g cur _ t _ hg) (fun j hj => hfz j (by simpa using hj)) (by simp at hl ⊢; omega) (fun x hx => h1 x (by simp [hx]))
    simp only [storeCells, Sem.run_bind, hst, Result.andThen_ok, ih, setRow_setRow]
    congr 3
    have e := list_seg_step cur.toList (o + i) v rest (by simp at hl ⊢; omega)
    simpa [Array.toList_setIfInBounds, Nat.add_assoc] using e
def OwnM (B : Nat) (w : World) (v : Value) (l : List UInt8) : Prop :=
  ∃ g cap cur fz, v = .slice (some ⟨g, 0, none⟩) l.length cap ∧ B ≤ g ∧ w.heap[g]? = some (.cells cur 5 fz) ∧ NF cur fz ∧ l.length ≤ cap ∧ cap ≤ maxLen ∧ cur.size = cap ∧ cur.toList.take l.length = l.map encB
theorem OwnM.below {B : Nat} {w w' : World} {v : Value} {l : List UInt8} (h : OwnM B w v l) (b : Below w.heap.size w w') : OwnM B w' v l := by
  obtain ⟨g, cap, cur, fz, rfl, hB, hg, hr⟩ := h
  exact ⟨g, cap, cur, fz, rfl, hB, (b.block g (Array.getElem?_eq_some_iff.1 hg).1).trans hg, hr⟩
theorem OwnM.ge {B : Nat} {w : World} {v : Value} {l : List UInt8} (h : OwnM B w v l) : ∀ k, v.ownBlock = some k → B ≤ k := by
  obtain ⟨g, cap, cur, fz, rfl, hB, -⟩ := h
  intro k hk
  simp only [Value.ownBlock, Option.some.injEq] at hk
  subst hk; exact hB
theorem OwnM.cells {B g : Nat} {w : World} {l : List UInt8} {n cap : Nat} (h : OwnM B w (.slice (some ⟨g, 0, none⟩) n cap) l) : ∀ j u, (l.map encB)[j]? = some u → w.cell? ((⟨g, 0, none⟩ : Addr).add j) = some u := by
  obtain ⟨g', cap', cur, fz, e, hB, hg, hf, hl, hm, hs, ht⟩ := h
  cases e
  intro j u hu
  rw [Go.WideShapes.add_plain, Nat.zero_add]
  rw [← ht, List.getElem?_take] at hu
  split at hu
  · simp only [World.cell?, hg]; simpa using hu
  · cases hu
theorem OwnM.row {B : Nat} {w : World} {v : Value} {l : List UInt8} (h : OwnM B w v l) : RowB (fun g => B ≤ g) w v l := by
  have h0 := h
  obtain ⟨g, cap, cur, fz, rfl, hB, hg, hf, hl, hm, hs, ht⟩ := h
  refine ⟨_, cap, rfl, hl, hm, (fun e => by cases e), fun i hi => ⟨g, 0, rfl, hB, (Array.getElem?_eq_some_iff.1 hg).1, ?_⟩⟩
  have := h0.cells i (encB (l.getD i 0)) (by rw [List.getElem?_map, List.getElem?_eq_getElem hi, List.getD_eq_getElem?_getD, List.getElem?_eq_getElem hi]; rfl)
  rwa [Go.WideShapes.add_plain] at this
/- a text as a row of bytes. -/
theorem convM (w : World) (s : List UInt8) (hs : s.length ≤ 1099511627776) : ∃ c, (convert 9 22 (.string ⟨s.toArray⟩)).run Tryd.prog w = .ok (.slice (some ⟨w.heap.size, 0, none⟩) s.length c) (Lib.bytesWorld w 5 ⟨s.toArray⟩) ∧
    OwnM w.heap.size (Lib.bytesWorld w 5 ⟨s.toArray⟩) (.slice (some ⟨w.heap.size, 0, none⟩) s.length c) s ∧ Below w.heap.size w (Lib.bytesWorld w 5 ⟨s.toArray⟩) := by
  have hsz : (⟨s.toArray⟩ : ByteArray).size = s.length := by simp [ByteArray.size]
  have h := Lib.run_convert_string_bytes (P := Tryd.prog) w 9 22 5 ⟨s.toArray⟩ Tryd.underlying9 Tryd.underlying22 Tryd.underlying5
  rw [hsz] at h
  have hge := grownCap_ge w s.length 0 5
  have hcm : grownCap w s.length 0 5 ≤ maxLen := grownCap_le_maxLen w s.length 0 5 (by unfold maxLen; omega)
  have hcs : (Lib.bytesCells w 5 ⟨s.toArray⟩).size = grownCap w s.length 0 5 := by
    unfold Lib.bytesCells
    rw [hsz]
    simp
    omega
  refine ⟨_, h, ⟨w.heap.size, _, _, _, rfl, Nat.le_refl _, Lib.bytesWorld_at_new w 5 ⟨s.toArray⟩, ?_, hge, hcm, hcs, ?_⟩, Lib.bytesWorld_below _ _ _⟩
  · intro o ho hh
    simp only at hh
    omega
  · unfold Lib.bytesCells
    rw [Array.toList_append, List.take_append_of_le_length (by simp), List.take_of_length_le (by simp)]
    simp
    exact fun _ _ => rfl
set_option maxHeartbeats 1000000 in
theorem wpList_rM {w : World} {ops : Array Oper} {rest : List Oper} {o : Oper} {ac : Act} {P : Exit → Act → World → Prop} (hgd : o.guard = none) (s x : Operand)
    (ho : o.op = .call { callee := .builtin .append, args := #[s, x], argTypes := #[22, 22] }) (B : Nat) (v : Value) (l : List UInt8) (hs : ac.eval s = v) (own : OwnM B w v l)
    (vr : Value) (r : List UInt8) (Q : Nat → Prop) (hx : ac.eval x = vr) (hr : RowB Q w vr r) (hn : l.length ≤ 1099511627776) (hn2 : r.length ≤ 1099511627776) (hB : B ≤ w.heap.size)
    (h : ∀ v' w', OwnM B w' v' (l ++ r) → w.grownBy w' v.ownBlock → wpList Tryd.prog ops P rest (ac.put o.dst v') w') : wpList Tryd.prog ops P (o :: rest) ac w := by
  obtain ⟨i, hi, hz, hz1, hz2⟩ := info_parts infoByte
  have ho' := own
  obtain ⟨g, cap, cur, fz, rfl, hBg, hg, hf, hl, hm, hsz, ht⟩ := own
  obtain ⟨a, rcap, rfl, hrl, hrm, hnil, hc⟩ := hr
  have key : ∃ v' w', (Builtin.append_ #[22, 22] o.type #[.slice (some ⟨g, 0, none⟩) l.length cap, .slice a r.length rcap]).run Tryd.prog w = .ok v' w' ∧ OwnM B w' v' (l ++ r) ∧ w.grownBy w' (some g) := by
    cases a with
    | none =>
      obtain rfl := hnil rfl
      obtain rfl : r = [] := List.eq_nil_of_length_eq_zero (by omega)
      refine ⟨_, w, ?_, by rw [List.append_nil]; exact ho', World.grownBy.refl _ _⟩
      simp [Builtin.append_, run_underlying Tryd.underlying22, sizeOf, typeInfo, hi, hz1, Builtin.lenOf, hl, Builtin.firstCells, storeCells]
    | some ad =>
      have hnews : ∀ j u, (r.map encB)[j]? = some u → w.cell? (ad.add j) = some u := by
        intro j u hu
        have hj : j < r.length := by
          have := (List.getElem?_eq_some_iff.1 hu).1
          simpa using this
        obtain ⟨bl', o', e, -, -, hcell⟩ := hc j hj
        cases e
        rw [Go.WideShapes.add_plain, hcell, List.getD_eq_getElem?_getD, List.getElem?_eq_getElem hj]
        rw [List.getElem?_map, List.getElem?_eq_getElem hj] at hu
        exact hu
      have h1 : ∀ u ∈ r.map encB, u.oneCell' = true := by
        intro u hu
        simp only [List.mem_map] at hu
        obtain ⟨y, _, rfl⟩ := hu
        rfl
      by_cases hroom : l.length + r.length ≤ cap
      · have hfc := run_firstCells_some (P := Tryd.prog) w 1 r.length ad r.length rcap (r.map encB) (by simp) hnews
        have hst := run_storeM Tryd.prog g l.length 5 fz (r.map encB) 0 cur w hg hf (by simp; omega) h1
        simp only [Nat.add_zero] at hst
        refine ⟨.slice (some ⟨g, 0, none⟩) (l.length + r.length) cap, w.setRow g (cur.toList.take l.length ++ r.map encB ++ cur.toList.drop (l.length + (r.map encB).length)).toArray, ?_, ?_, ⟨rfl, rfl, rfl, by simp, fun k _ hk => setRow_other w g k _ (fun e => hk (by rw [e]))⟩⟩
        · simp [Builtin.append_, run_underlying Tryd.underlying22, sizeOf, typeInfo, hi, hz1, Builtin.lenOf, hroom, hfc, Addr.add_lit, hst]
        · refine ⟨g, cap, _, fz, by rw [List.length_append], hBg, setRow_heap w g cur _ 5 _ hg, ?_, by rw [List.length_append]; exact hroom, hm, ?_, ?_⟩
          · intro o ho
            refine hf o ?_
            simp only [List.size_toArray, List.length_append, List.length_take, List.length_drop, Array.length_toList, List.length_map] at ho
            omega
          · simp only [List.size_toArray, List.length_append, List.length_take, List.length_drop, Array.length_toList, List.length_map]
            omega
          · rw [ht, List.map_append]
            have : (l ++ r).length = (l.map encB ++ r.map encB).length := by simp
            rw [this]
            exact List.take_left
      · have hr := run_append_grow (P := Tryd.prog) w 22 o.type 5 i (.int .u8 0) Tryd.underlying22 hi hz ⟨g, 0, none⟩ l.length cap (l.map encB) (by rw [hz1]; simp) ho'.cells ad r.length rcap (r.map encB) (by rw [hz1]; simp) hnews (by omega) (by omega) (by rw [hz2]; exact growslice_fits (by omega) (by omega))
        have hge := grownCap_ge w (l.length + r.length) cap 5
        have hcm2 : grownCap w (l.length + r.length) cap 5 ≤ maxLen := grownCap_le_maxLen w (l.length + r.length) cap 5 (by unfold maxLen; omega)
        refine ⟨_, _, hr, ⟨w.heap.size, _, _, (0, 0), by rw [List.length_append], hB, heap_alloc_new w.drew _, (fun o _ hh => by simp at hh), by rw [List.length_append]; exact hge, hcm2, ?_, ?_⟩, ⟨rfl, rfl, rfl, by simp, fun k hk _ => heap_alloc_old w.drew _ hk⟩⟩
        · have hz1' : (Value.int IntKind.u8 0).cells.size = 1 := rfl
          simp only [Array.size_append, List.size_toArray, size_zeroCells, hz1', List.length_map]
          omega
        · simp only [Array.toList_append, List.append_assoc]
          rw [← List.append_assoc, List.map_append]
          have : (l ++ r).length = (l.map encB ++ r.map encB).length := by simp
          rw [this]
          exact List.take_left
  obtain ⟨v', w', hrun, h2, h3⟩ := key
  refine wpList_plain hgd fun K hK => ?_
  unfold Oper.wp execOp
  simp only [ho, resolve, invoke, builtin, Sem.run_bind, Sem.run_pure, Result.andThen_ok, List.map_toArray, List.map_cons, List.map_nil, hs, hx, hrun]
  exact hK _ _ (h v' w' h2 h3)
end Go.Proofs.YtamnndocbnbkiaaDoor

/- The document's own Digits, at least one. -/
namespace Go.Proofs.YtamnndocbnbkiaaDoor
open Go.RowKit Go.Sort
set_option linter.unusedVariables false
set_option linter.unusedSimpArgs false

def strLen : Value → Nat
  | .string s => s.size
  | _ => 0
theorem ba_app (l l' : List UInt8) : (⟨l.toArray⟩ : ByteArray) ++ ⟨l'.toArray⟩ = ⟨(l ++ l').toArray⟩ := by
  apply ByteArray.ext
  simp
theorem ret_str {a b : ByteArray} (h : a = b) : Ending.returned (.string a) = .returned (.string b) := by rw [h]
/- a number in digits, at least so many (none or one). -/
def padL (n k : Nat) : List UInt8 := if n = 0 then List.replicate k 48 else Lib.decDigits n
theorem pad_step (n k : Nat) (hk : k ≤ 1) (h : n ≠ 0 ∨ k ≠ 0) : padL n k = padL (n / 10) (k - 1) ++ [UInt8.ofNat (48 + n % 10)] := by
  have e1 : k - 1 = 0 := by omega
  rw [e1]
  unfold padL
  by_cases h0 : n = 0
  · subst h0
    obtain rfl : k = 1 := by omega
    rfl
  · rw [if_neg h0]
    by_cases h1 : n < 10
    · rw [if_pos (by omega), dec_one h1, show n % 10 = n by omega]; rfl
    · rw [if_neg (by omega), dec_snoc h1]
theorem pad_len (n k : Nat) (h : n ≤ 9223372036854775807) (hk : k ≤ 1) : (padL n k).length ≤ 28 := by
  unfold padL
  have := dec_len20 n h
  split
  · simp; omega
  · omega
theorem pad_one (n : Nat) : padL n 1 = Lib.decDigits n := by
  unfold padL
  by_cases h : n = 0
  · subst h; rw [if_pos rfl, dec_one (by omega)]; rfl
  · rw [if_neg h]
theorem conv_one (u : World) (b k : Nat) (h : u.cell? ⟨b, 0, none⟩ = some (.int .u8 (48 + (k : Int) % 10))) :
    (convert 22 9 (.slice (some ⟨b, 0, none⟩) 1 1)).run Tryd.prog u = .ok (.string ⟨#[UInt8.ofNat (48 + k % 10)]⟩) u := by
  have e : ((UInt8.ofNat (48 + k % 10)).toNat : Int) = 48 + (k : Int) % 10 := by
    rw [UInt8.toNat_ofNat']
    omega
  refine (run_convert_bytes_back (P := Tryd.prog) u 22 9 5 ⟨b, 0, none⟩ 1 [UInt8.ofNat (48 + k % 10)] Tryd.underlying22 Tryd.underlying5 Tryd.underlying9 ?_).trans rfl
  intro j hj
  have hj0 : j = 0 := by simp at hj; omega
  subst hj0
  show u.cell? ⟨b, 0, none⟩ = some (.int .u8 ((UInt8.ofNat (48 + k % 10)).toNat : Int))
  rw [e]; exact h

set_option maxHeartbeats 800000 in
theorem rdig_any (N L : Nat) (w : World) (hN : N ≤ 9223372036854775807) (hL : L ≤ 1) :
    Calls Tryd.prog 31 #[.int .i64 N, .int .i64 L] w fun e w' => e = .returned (.string ⟨(padL N L).toArray⟩) ∧ Below w.heap.size w w' := by
  have PL := pad_len N L hN hL
  go_enter Tryd.func31, Tryd.ntmps31
  go_wp2_with fail
  go_loopw [0, 5] (fun n s wr => ∃ (k : Nat) (l : List UInt8), k ≤ 9223372036854775807 ∧ n = .int .i64 k ∧ s = .string ⟨l.toArray⟩ ∧ Hid (padL k (L - l.length) ++ l = padL N L) ∧ Below w.heap.size w wr) (fun n s _ => (intOf n).toNat + (L - strLen s))
  case atStart => exact ⟨N, [], hN, rfl, rfl, hide (by simp), Below.refl _ _⟩
  case round =>
    obtain ⟨k, l, hk, rfl, rfl, H, bel⟩ := hrel
    have ll : l.length ≤ 28 := by
      have h := congrArg List.length (unhide H)
      rw [List.length_append] at h
      omega
    by_cases h0 : 0 < k
    · skip
      have ST := pad_step k (L - l.length) (by omega) (Or.inl (by omega))
      have hcell : (wr.alloc (Obj.cells #[.int .u8 (48 + (k : Int) % 10)] 5)).cell? ⟨wr.heap.size, 0, none⟩ = some (.int .u8 (48 + (k : Int) % 10)) := by go_simp
      have hcv := conv_one _ wr.heap.size k hcell
      generalize UInt8.ofNat (48 + k % 10) = c at *
      have BA := hide (ba_app [c] l)
      have SH := hide ST
      clear ST
      go_wp2_with fail
      go_roundw
      case rel =>
        refine ⟨k / 10, c :: l, by omega, by go_num, congrArg Value.string (unhide BA), hide ?_, bstep bel (below1 _ _)⟩
        have h := unhide H
        rw [unhide SH, List.append_assoc] at h
        rw [List.length_cons, ← Nat.sub_sub]
        exact h
      case measure => simp [intOf, strLen, ByteArray.size]; omega
    · by_cases h1 : l.length < L
      · skip
        have ST := pad_step k (L - l.length) (by omega) (Or.inr (by omega))
        have hcell : (wr.alloc (Obj.cells #[.int .u8 (48 + (k : Int) % 10)] 5)).cell? ⟨wr.heap.size, 0, none⟩ = some (.int .u8 (48 + (k : Int) % 10)) := by go_simp
        have hcv := conv_one _ wr.heap.size k hcell
        generalize UInt8.ofNat (48 + k % 10) = c at *
        have BA := hide (ba_app [c] l)
        have SH := hide ST
        clear ST
        go_wp2_with fail
        go_roundw
        case rel =>
          refine ⟨k / 10, c :: l, by omega, by go_num, congrArg Value.string (unhide BA), hide ?_, bstep bel (below1 _ _)⟩
          have h := unhide H
          rw [unhide SH, List.append_assoc] at h
          rw [List.length_cons, ← Nat.sub_sub]
          exact h
        case measure => simp [intOf, strLen, ByteArray.size]; omega
      · have F : Hid (l = padL N L) := hide (by
          have h := unhide H
          rw [show L - l.length = 0 by omega, show k = 0 by omega] at h
          simpa [padL] using h)
        go_wp2_with fail
        go_ret
        exact ⟨ret_str (by rw [unhide F]), bel⟩
end Go.Proofs.YtamnndocbnbkiaaDoor

/- knot's number: what a row of digits is as a number, if it is told so. -/
namespace Go.Proofs.YtamnndocbnbkiaaDoor
open Go.RowKit Go.Sort
set_option linter.unusedVariables false
set_option linter.unusedSimpArgs false

/- the library's variables as the program's text lays them. -/
structure Lays (w : World) : Prop where
  tab : Tab w
  syn : ∃ tp p, w.var? Tryd.prog "strconv.ErrSyntax" = some #[.iface tp p]
  ran : ∃ tp p, w.var? Tryd.prog "strconv.ErrRange" = some #[.iface tp p]
theorem var_below {w w' : World} {name : String} {g : Nat} (hg : Tryd.prog.globalNamed name = some g) {cs : Array Value} (h : w.var? Tryd.prog name = some cs) (hb : Below w.heap.size w w') : w'.var? Tryd.prog name = some cs := by
  refine var?_below hb hg ?_ h
  refine Nat.lt_of_not_ge fun h' => ?_
  unfold World.var? at h
  rw [hg] at h
  simp only [Option.bind_some] at h
  rw [Array.getElem?_eq_none h'] at h
  cases h
theorem gSyn : Tryd.prog.globalNamed "strconv.ErrSyntax" = some 2 := by kernel_rfl
theorem gRan : Tryd.prog.globalNamed "strconv.ErrRange" = some 3 := by kernel_rfl
theorem Lays.below {w w' : World} (h : Lays w) (hb : Below w.heap.size w w') : Lays w' := by
  obtain ⟨h1, ⟨t2, p2, h2⟩, ⟨t3, p3, h3⟩⟩ := h
  exact ⟨tab_below h1 hb, ⟨t2, p2, var_below gSyn h2 hb⟩, ⟨t3, p3, var_below gRan h3 hb⟩⟩
def okN (o : Option Int) : Bool := o.isSome
def valN (o : Option Int) : Int := o.getD 0
set_option maxHeartbeats 1000000 in
set_option maxRecDepth 20000 in
theorem number_any (Q : Nat → Prop) (v : Value) (l : List UInt8) (w : World) (h : RowB Q w v l) (hl : l.length ≤ 1099511627776) (ht : Lays w) :
    Calls Tryd.prog 28 #[v] w fun e w' => e = .returned (.tuple #[.int .i64 (valN (numT l)), .bool (okN (numT l))]) ∧ Below w.heap.size w w' := by
  have HC := hide (fun (w' : World) (b : Below w.heap.size w w') => conv_row (h.below b))
  have cv := conv_row h
  have HT := hide ht
  have hsz : (⟨l.toArray⟩ : ByteArray).size = l.length := by simp [ByteArray.size]
  have C1 : Hid (∀ (w : World) (v : Int), Lib.atoiAll l = .ok v → Calls Tryd.prog 33 #[.string ⟨l.toArray⟩] w fun e w' => e = .returned (.tuple #[.int .i64 v, .nilIface]) ∧ Below w.heap.size w w') := hide (fun w v hv => (Tryd.strconv_Atoi_ok ⟨l.toArray⟩ (by omega) v hv w).mono (fun e w' ⟨he, hw⟩ => ⟨he, by
    rcases hw with rfl | ⟨t, rfl⟩
    · exact Below.refl _ _
    · exact Lib.bytesWorld_below _ _ _⟩))
  cases hA : Lib.atoiAll l with
  | ok n =>
    obtain ⟨n1, n2⟩ := Lib.atoiAll_bounds hA
    have hN : numT l = if Lib.itoa n = l then some n else none := by unfold numT; rw [hA]
    rw [hN]
    have C2 := hide (unhide C1 w n hA)
    have C3 : Hid (∀ w, Tab w → Calls Tryd.prog 34 #[.int .i64 n] w fun e w' => e = .returned (.string ⟨(Lib.itoa n).toArray⟩) ∧ Below w.heap.size w w') := hide (fun w ht => (Tryd.strconv_Itoa n n1 n2 w ht).mono (fun e w' ⟨he, k, os, hw⟩ => ⟨he, by rw [hw]; exact below_grow w k os⟩))
    generalize Lib.itoa n = T at *
    clear C1 hA hN h ht
    by_cases hT : T = l
    · subst hT
      rw [if_pos rfl]
      go_enter Tryd.func28, Tryd.ntmps28
      go_wp2_with fail
      refine (unhide C2).mono ?_
      rintro e w1 ⟨rfl, b1⟩
      have b1 : Below w.heap.size w w1.drew := Below.drew b1
      have cv1 := unhide HC w1.drew b1
      have HI := hide (unhide C3 w1.drew ((unhide HT).below b1).tab)
      go_wp2_with fail
      go_region_with (go_at_call 34; refine (unhide HI).mono ?_; rintro e w2 ⟨rfl, b2⟩; have cv2 := unhide HC w2 (bstep b1 b2))
      all_goals (go_wp2_with fail; go_ret2; exact ⟨rfl, bstep b1 b2⟩)
    · have hq : (T == l) = false := by simp [hT]
      rw [if_neg hT]
      go_enter Tryd.func28, Tryd.ntmps28
      go_wp2_with fail
      refine (unhide C2).mono ?_
      rintro e w1 ⟨rfl, b1⟩
      have b1 : Below w.heap.size w w1.drew := Below.drew b1
      have cv1 := unhide HC w1.drew b1
      have HI := hide (unhide C3 w1.drew ((unhide HT).below b1).tab)
      go_wp2_with fail
      go_region_with (go_at_call 34; refine (unhide HI).mono ?_; rintro e w2 ⟨rfl, b2⟩; have cv2 := unhide HC w2 (bstep b1 b2))
      all_goals (go_wp2_with fail; go_ret2; exact ⟨rfl, bstep b1 b2⟩)
  | «syntax» =>
    have hN : numT l = none := by unfold numT; rw [hA]
    rw [hN]
    obtain ⟨tp, pv, hv⟩ := ht.syn
    have C2 := hide (Tryd.strconv_Atoi_syntax_var ⟨l.toArray⟩ (by omega) hA tp pv w hv)
    clear C1 hA hN h ht hv
    go_enter Tryd.func28, Tryd.ntmps28
    go_wp2_with fail
    refine (unhide C2).mono ?_
    rintro e w1 ⟨N, rfl, hN1, hN2, b1⟩
    clear hN2
    have b1 : Below w.heap.size w w1.drew := Below.drew b1
    go_wp2_with fail
    go_region
    all_goals (go_wp2_with fail; go_ret2; exact ⟨rfl, b1⟩)
  | range =>
    have hN : numT l = none := by unfold numT; rw [hA]
    rw [hN]
    obtain ⟨tp, pv, hv⟩ := ht.ran
    have C2 := hide (Tryd.strconv_Atoi_range_var ⟨l.toArray⟩ (by omega) hA tp pv w hv)
    clear C1 hA hN h ht hv
    go_enter Tryd.func28, Tryd.ntmps28
    go_wp2_with fail
    refine (unhide C2).mono ?_
    rintro e w1 ⟨N, rfl, hN1, hN2, b1⟩
    clear hN2
    have b1 : Below w.heap.size w w1.drew := Below.drew b1
    go_wp2_with fail
    go_region
    all_goals (go_wp2_with fail; go_ret2; exact ⟨rfl, b1⟩)
end Go.Proofs.YtamnndocbnbkiaaDoor

/- The document's own Row, Tie, text, Num. -/
namespace Go.Proofs.YtamnndocbnbkiaaDoor
open Go.RowKit Go.Sort
set_option linter.unusedVariables false
set_option linter.unusedSimpArgs false

set_option maxHeartbeats 1000000 in
theorem rrow_any (Q : Nat → Prop) (v : Value) (p : List UInt8) (w : World) (h : RowB Q w v p) (hn : p.length ≤ 1000000) :
    Calls Tryd.prog 25 #[v] w fun e w' => ∃ v', e = .returned v' ∧ OwnM w.heap.size w' v' (rowT p) ∧ Below w.heap.size w w' := by
  obtain ⟨a, cap, rfl, hl, hm, hnil⟩ := h.form
  have C1 := hide (rdig_any p.length 1 w (by omega) (by omega))
  rw [pad_one] at C1
  have HR := hide h
  have AP : Hid (Lib.decDigits p.length ++ [58] ++ p ++ [44] = rowT p) := hide (by unfold rowT; simp)
  have h20 := dec_len20 p.length (by omega)
  generalize Lib.decDigits p.length = D at *
  clear h
  go_enter Tryd.func25, Tryd.ntmps25
  go_wp2_with fail
  refine (unhide C1).mono ?_
  rintro e w1 ⟨rfl, b1⟩
  obtain ⟨c, hcv, own2, b2⟩ := convM w1 D (by omega)
  have own2' := own2
  generalize Lib.bytesWorld w1 5 ⟨D.toArray⟩ = w2 at *
  have hB1 : w.heap.size ≤ w1.heap.size := b1.size
  have bb2 : Below w.heap.size w w2 := bstep b1 b2
  have hz2 : w.heap.size ≤ w2.heap.size := bb2.size
  have own3 : OwnM w.heap.size w2 (.slice (some ⟨w1.heap.size, 0, none⟩) D.length c) D := by
    obtain ⟨g, cap, cur, fz, hv, hB, hr⟩ := own2'
    exact ⟨g, cap, cur, fz, hv, Nat.le_trans hB1 hB, hr⟩
  clear own2 own2' C1
  have own4 : OwnM w.heap.size (w2.alloc (Obj.cells #[.int .u8 58] 5)) _ D := own3.below (below1 w2 _)
  have r4 : RowB (fun _ => True) (w2.alloc (Obj.cells #[.int .u8 58] 5)) (.slice (some ⟨w2.heap.size, 0, none⟩) 1 1) [58] := by
    refine ⟨_, 1, rfl, by simp, by unfold maxLen; omega, (fun e => by cases e), fun i hi => ⟨w2.heap.size, 0, rfl, trivial, by simp, ?_⟩⟩
    obtain rfl : i = 0 := by simp at hi; omega
    unfold encB; go_simp
  have hz4 : w.heap.size ≤ (w2.alloc (Obj.cells #[.int .u8 58] 5)).heap.size := by simp; omega
  have bb4 : Below w.heap.size w (w2.alloc (Obj.cells #[.int .u8 58] 5)) := bstep bb2 (below1 w2 _)
  have H3 := hide own3
  clear own3
  go_wp2_with (at_builtin; go_must (refine wpList_rM rfl _ _ rfl w.heap.size _ D rfl own4 _ [58] (fun _ => True) rfl r4 (by omega) (by simp) hz4 ?_))
  intro v5 w5 own5 gr5
  have bb5 := below_grown bb4 gr5 hz4 own4.ge
  have n5 : (D ++ [58]).length ≤ 22 := by rw [List.length_append]; simp; omega
  generalize hL5 : D ++ [58] = L5 at *
  clear H3 own4 r4 bb4 hz4 gr5 bb2 hz2 hB1 hcv b1 b2
  have hz5 : w.heap.size ≤ w5.heap.size := bb5.size
  have r5 : RowB Q w5 (.slice a p.length cap) p := (unhide HR).below bb5
  go_wp2_with (at_builtin; go_must (refine wpList_rM rfl _ _ rfl w.heap.size v5 L5 rfl own5 _ p Q rfl r5 (by omega) (by omega) hz5 ?_))
  intro v6 w6 own6 gr6
  have bb6 := below_grown bb5 gr6 hz5 own5.ge
  have n6 : (L5 ++ p).length ≤ 1000022 := by rw [List.length_append]; omega
  generalize hL6 : L5 ++ p = L6 at *
  clear own5 r5 gr6 bb5 hz5
  have hz6 : w.heap.size ≤ w6.heap.size := bb6.size
  have own7 : OwnM w.heap.size (w6.alloc (Obj.cells #[.int .u8 44] 5)) v6 L6 := own6.below (below1 w6 _)
  have r7 : RowB (fun _ => True) (w6.alloc (Obj.cells #[.int .u8 44] 5)) (.slice (some ⟨w6.heap.size, 0, none⟩) 1 1) [44] := by
    refine ⟨_, 1, rfl, by simp, by unfold maxLen; omega, (fun e => by cases e), fun i hi => ⟨w6.heap.size, 0, rfl, trivial, by simp, ?_⟩⟩
    obtain rfl : i = 0 := by simp at hi; omega
    unfold encB; go_simp
  have hz7 : w.heap.size ≤ (w6.alloc (Obj.cells #[.int .u8 44] 5)).heap.size := by simp; omega
  have bb7 : Below w.heap.size w (w6.alloc (Obj.cells #[.int .u8 44] 5)) := bstep bb6 (below1 w6 _)
  go_wp2_with (at_builtin; go_must (refine wpList_rM rfl _ _ rfl w.heap.size v6 L6 rfl own7 _ [44] (fun _ => True) rfl r7 (by omega) (by simp) hz7 ?_))
  intro v8 w8 own8 gr8
  have bb8 := below_grown bb7 gr8 hz7 own7.ge
  go_wp2_with fail
  go_ret
  exact ⟨v8, rfl, by rw [← unhide AP]; exact own8, bb8⟩
theorem neg_text (m : Nat) (h : 1 ≤ m) : Lib.itoa (-(m : Int)) = [45] ++ padL (m / 10) 0 ++ padL (m % 10) 1 := by
  rw [Lib.itoa_neg m h, pad_one]
  unfold padL
  by_cases h1 : m < 10
  · rw [if_pos (by omega), show m % 10 = m by omega]; simp
  · rw [if_neg (by omega), dec_snoc h1, dec_one (Nat.mod_lt m (by omega))]; simp
theorem quo_neg (m : Nat) : (-(m : Int)).tdiv 10 = -((m / 10 : Nat) : Int) := by rw [Int.neg_tdiv]; rfl
theorem rem_neg (m : Nat) : (-(m : Int)).tmod 10 = -((m % 10 : Nat) : Int) := by rw [Int.neg_tmod]; rfl
set_option maxHeartbeats 1000000 in
theorem rtext_any (n : Int) (w : World) (h : inI n) :
    Calls Tryd.prog 27 #[.int .i64 n] w fun e w' => e = .returned (.string ⟨(Lib.itoa n).toArray⟩) ∧ Below w.heap.size w w' := by
  obtain ⟨h1, h2⟩ := h
  by_cases hn : 0 ≤ n
  · obtain ⟨m, rfl⟩ : ∃ m : Nat, n = m := ⟨n.toNat, by omega⟩
    have C1 := hide (rdig_any m 1 w (by omega) (by omega))
    rw [pad_one] at C1
    rw [itoa_nat]
    generalize Lib.decDigits m = D at *
    go_enter Tryd.func27, Tryd.ntmps27
    go_wp2_with fail
    refine (unhide C1).mono ?_
    rintro e w1 ⟨rfl, b1⟩
    go_wp2_with fail
    go_ret
    exact ⟨rfl, b1⟩
  · obtain ⟨m, rfl⟩ : ∃ m : Nat, n = -m := ⟨(-n).toNat, by omega⟩
    have hm : 1 ≤ m := by omega
    have C1 := hide (fun w => rdig_any (m / 10) 0 w (by omega) (by omega))
    have C2 := hide (fun w => rdig_any (m % 10) 1 w (by omega) (by omega))
    have p1 := pad_len (m / 10) 0 (by omega) (by omega)
    have p2 := pad_len (m % 10) 1 (by omega) (by omega)
    have q1 := quo_neg m
    have q2 := rem_neg m
    rw [neg_text m hm]
    have B1 := hide (ba_app [45] (padL (m / 10) 0))
    have B2 := hide (ba_app ([45] ++ padL (m / 10) 0) (padL (m % 10) 1))
    have g1 : m / 10 ≤ 922337203685477580 := by omega
    have g2 : m % 10 ≤ 9 := by omega
    generalize padL (m / 10) 0 = D1 at *
    generalize padL (m % 10) 1 = D2 at *
    generalize m / 10 = a1 at *
    generalize m % 10 = a2 at *
    go_enter Tryd.func27, Tryd.ntmps27
    go_wp2_with fail
    refine (unhide C1 _).mono ?_
    rintro e w1 ⟨rfl, b1⟩
    go_wp2_with fail
    refine (unhide C2 _).mono ?_
    rintro e w2 ⟨rfl, b2⟩
    go_wp2_with fail
    go_ret
    exact ⟨ret_str (by apply ByteArray.ext; simp), bstep b1 b2⟩
end Go.Proofs.YtamnndocbnbkiaaDoor

/- The document's own Tie and Num. -/
namespace Go.Proofs.YtamnndocbnbkiaaDoor
open Go.RowKit Go.Sort
set_option linter.unusedVariables false
set_option linter.unusedSimpArgs false

set_option maxHeartbeats 1000000 in
theorem rtie_any (Q : Nat → Prop) (a : Option Addr) (cap : Nat) (ls : List (List UInt8)) (w : World) (hl : RowsB Q w a ls) (hn : (tieT ls).length ≤ 1000000) (hln : ls.length ≤ 1000000) :
    Calls Tryd.prog 11 #[.slice a ls.length cap] w fun e w' => ∃ v', e = .returned v' ∧ Own w.heap.size w' v' (tieT ls) ∧ Below w.heap.size w w' := by
  have HL := hide hl
  clear hl
  have h0 : Own w.heap.size w (.slice none 0 0) (tieT (ls.take 0)) := own_nil _ _
  have HLT := hide (tie_get ls)
  have HLE := hide (tie_le ls)
  have HLS := hide (tie_take ls)
  go_enter Tryd.func11, Tryd.ntmps11
  go_wp2_with fail
  go_loopw [3, 4] (fun u i wr => ∃ (j : Nat) (v : Value), j ≤ ls.length ∧ v = u ∧ i = .int .i64 j ∧ Below w.heap.size w wr ∧ Own w.heap.size wr v (tieT (ls.take j))) (fun _ i _ => ls.length - (intOf i).toNat)
  case atStart => exact ⟨0, _, Nat.zero_le _, rfl, rfl, Below.refl _ _, h0⟩
  case round =>
    obtain ⟨j, v, hj, rfl, rfl, bel, own⟩ := hrel
    clear h0
    by_cases hlt : j < ls.length
    · have hz : w.heap.size ≤ wr.heap.size := bel.size
      have h1 := unhide HLT j hlt
      have h2 := unhide HLE (j + 1)
      obtain ⟨bl, o, vr, rfl, hq, hbl, hc, hr⟩ := (unhide HL).below bel j hlt
      have HC := hide (rrow_any Q vr (ls.getD j []) wr hr (by omega))
      have HSJ := hide (unhide HLS j hlt)
      have hlj : (rowT (ls.getD j [])).length ≤ 1000000 := by rw [unhide HSJ, List.length_append] at h2; omega
      have hlk : (tieT (ls.take j)).length ≤ 1000000 := by omega
      have HOW := hide own
      clear hr h1 h2 own
      generalize ls.getD j [] = rj at *
      go_wp2_with fail
      refine (unhide HC).mono ?_
      rintro e w2 ⟨v2, rfl, own2, b2⟩
      have bel2 := bel.trans (b2.mono hz)
      have own3 : Own w.heap.size w2 v (tieT (ls.take j)) := own_below (unhide HOW) b2
      have r2 := own2.row
      have hz2 : w.heap.size ≤ w2.heap.size := bel2.size
      clear HC own2
      go_wp2_with (at_builtin; go_must (refine wpList_br rfl _ _ rfl w.heap.size v (tieT (ls.take j)) rfl own3 v2 (rowT rj) _ rfl r2 (by omega) (by omega) hz2 ?_))
      intro v4 w4 own4 _ gr4
      have bel4 := below_grown bel2 gr4 hz2 (own_ge own3)
      rw [← unhide HSJ] at own4
      clear b2 own3 r2 gr4 bel2 hz2
      go_wp2_with fail
      go_roundw
      case rel => exact ⟨j + 1, _, hlt, rfl, by go_num, bel4, own4⟩
      case measure => simp [intOf]; omega
    · obtain rfl : j = ls.length := by omega
      rw [List.take_length] at own
      go_wp2_with fail
      go_ret
      exact ⟨_, rfl, own, bel⟩

set_option maxHeartbeats 1000000 in
theorem rnum_any (Q : Nat → Prop) (a : Option Addr) (cap : Nat) (ns : List Int) (w : World) (hl : RowI Q w (.slice a ns.length cap) ns) (hi : ∀ n ∈ ns, inI n) (hln : ns.length ≤ 1000000) :
    Calls Tryd.prog 13 #[.slice a ns.length cap] w fun e w' => ∃ v', e = .returned v' ∧ Own w.heap.size w' v' (numsT ns) ∧ Below w.heap.size w w' := by
  have HL := hide hl
  have HN := hide (nums_le ns hi)
  have HI := hide (fun j (h : j < ns.length) => (show inI (ns.getD j 0) by
    rw [List.getD_eq_getElem?_getD, List.getElem?_eq_getElem h]
    exact hi _ (by simp)))
  have HS := hide (nums_take ns)
  clear hl hi
  have h0 : Own w.heap.size w (.slice none 0 0) (numsT (ns.take 0)) := own_nil _ _
  go_enter Tryd.func13, Tryd.ntmps13
  go_wp2_with fail
  go_loopw [3, 4] (fun u i wr => ∃ (j : Nat) (v : Value), j ≤ ns.length ∧ v = u ∧ i = .int .i64 j ∧ Below w.heap.size w wr ∧ Own w.heap.size wr v (numsT (ns.take j))) (fun _ i _ => ns.length - (intOf i).toNat)
  case atStart => exact ⟨0, _, Nat.zero_le _, rfl, rfl, Below.refl _ _, h0⟩
  case round =>
    obtain ⟨j, v, hj, rfl, rfl, bel, own⟩ := hrel
    clear h0
    by_cases hlt : j < ns.length
    · have hz : w.heap.size ≤ wr.heap.size := bel.size
      obtain ⟨bl, o, rfl, hq, hbl, hc⟩ := ((unhide HL).below bel).at.2 j hlt
      have hx := unhide HI j hlt
      have hnj := unhide HN j hj
      have HSJ := hide (unhide HS j hlt)
      generalize ns.getD j 0 = x at *
      have hlx := itoa_len x hx
      have C2 := hide (rtext_any x wr hx)
      have HOW := hide own
      have hrl := row_le (Lib.itoa x) (by omega)
      clear own hx
      generalize Lib.itoa x = D at *
      go_wp2_with fail
      refine (unhide C2).mono ?_
      rintro e w2 ⟨rfl, b2⟩
      obtain ⟨c, hcv, own2, b3⟩ := convM w2 D (by omega)
      have r3 := hide own2.row
      generalize Lib.bytesWorld w2 5 ⟨D.toArray⟩ = w3 at *
      have C3 := hide (rrow_any _ _ D w3 (unhide r3) (by omega))
      clear own2 C2
      go_wp2_with fail
      refine (unhide C3).mono ?_
      rintro e w4 ⟨v4, rfl, own4, b4⟩
      have b24 : Below wr.heap.size wr w4 := bstep (bstep b2 b3) b4
      have bel4 := bel.trans (b24.mono hz)
      have own3 : Own w.heap.size w4 v (numsT (ns.take j)) := own_below (unhide HOW) b24
      have r4 := own4.row
      have hz4 : w.heap.size ≤ w4.heap.size := bel4.size
      clear C3 own4 b2 b3 b4 hcv r3
      go_wp2_with (at_builtin; go_must (refine wpList_br rfl _ _ rfl w.heap.size v (numsT (ns.take j)) rfl own3 v4 (rowT D) _ rfl r4 (by omega) (by omega) hz4 ?_))
      intro v5 w5 own5 _ gr5
      have bel5 := below_grown bel4 gr5 hz4 (own_ge own3)
      rw [← unhide HSJ] at own5
      clear b24 own3 r4 gr5 bel4 hz4
      go_wp2_with fail
      go_roundw
      case rel => exact ⟨j + 1, _, hlt, rfl, by go_num, bel5, own5⟩
      case measure => simp [intOf]; omega
    · obtain rfl : j = ns.length := by omega
      rw [List.take_length] at own
      go_wp2_with fail
      go_ret
      exact ⟨_, rfl, own, bel⟩
end Go.Proofs.YtamnndocbnbkiaaDoor

/- The law's known: two rows. -/
namespace Go.Proofs.YtamnndocbnbkiaaDoor
open Go.RowKit Go.Sort
set_option linter.unusedVariables false
set_option linter.unusedSimpArgs false

theorem row_nil (Q : Nat → Prop) (w : World) : RowB Q w (.slice none 0 0) [] := ⟨none, 0, rfl, Nat.le_refl _, Nat.zero_le _, fun _ => rfl, fun i hi => absurd hi (Nat.not_lt_zero _)⟩
theorem hi_tie : tieT [[104, 105], []] = [50, 58, 104, 105, 44, 48, 58, 44] := by decide +kernel
set_option maxHeartbeats 1000000 in
theorem known_any (w : World) (ht : Tab w) : Calls Tryd.prog 14 #[] w fun e w' => e = .returned (.bool true) ∧ Below w.heap.size w w' := by
  have kc := Lib.run_convert_bytes_const (P := Tryd.prog) w 22 5 #[.int .u8 104, .int .u8 105] 2 2 Tryd.underlying22 Tryd.underlying5
  have b2 : Below w.heap.size w (w.alloc (Obj.cells #[.int .u8 104, .int .u8 105] 5 (2, 3))) := below1 w _
  have r2 : RowB (fun _ => True) (w.alloc (Obj.cells #[.int .u8 104, .int .u8 105] 5 (2, 3))) (.slice (some ⟨w.heap.size, 0, none⟩) 2 2) [104, 105] := by
    refine ⟨_, 2, rfl, by simp, by unfold maxLen; omega, (fun e => by cases e), fun i hi => ⟨w.heap.size, 0, rfl, trivial, by simp, ?_⟩⟩
    have hi : i < 2 := by simpa using hi
    rw [Nat.zero_add, World.cell?_alloc_mark]
    match i, hi with
    | 0, _ => rfl
    | 1, _ => rfl
  have hz2 : (w.alloc (Obj.cells #[.int .u8 104, .int .u8 105] 5 (2, 3))).heap.size = w.heap.size + 1 := by simp
  have kc : (convert 22 22 (.slice (some ⟨w.heap.size, 0, none⟩) 2 2)).run Tryd.prog (w.alloc (Obj.cells #[.int .u8 104, .int .u8 105] 5)) = .ok (.slice (some ⟨w.heap.size, 0, none⟩) 2 2) (w.alloc (Obj.cells #[.int .u8 104, .int .u8 105] 5 (2, 3))) := kc
  generalize w.alloc (Obj.cells #[.int .u8 104, .int .u8 105] 5 (2, 3)) = w2 at *
  have b3 : Below w.heap.size w (w2.alloc (Obj.cells #[.slice (some ⟨w.heap.size, 0, none⟩) 2 2, .slice none 0 0] 22)) := bstep b2 (below1 w2 _)
  have hR : RowsB (fun _ => True) (w2.alloc (Obj.cells #[.slice (some ⟨w.heap.size, 0, none⟩) 2 2, .slice none 0 0] 22)) (some ⟨w2.heap.size, 0, none⟩) [[104, 105], []] := by
    intro i hi
    have hi : i < 2 := by simpa using hi
    match i, hi with
    | 0, _ => exact ⟨w2.heap.size, 0, _, rfl, trivial, by simp, by go_simp, r2.below (below1 w2 _)⟩
    | 1, _ => exact ⟨w2.heap.size, 0, _, rfl, trivial, by simp, by go_simp, row_nil _ _⟩
  have hT := tab_below ht b3
  have C1 := hide (tie_any (fun _ => True) (.slice none 0 0) [] (some ⟨w2.heap.size, 0, none⟩) 2 [[104, 105], []] _ (row_nil _ _) hR (by rw [hi_tie]; simp) (by simp) hT)
  rw [hi_tie, hz2] at C1
  clear hT hR r2 ht
  go_enter Tryd.func14, Tryd.ntmps14
  go_wp2_with fail
  refine (unhide C1).mono ?_
  rintro e w4 ⟨v4, rfl, own4, b4⟩
  have cv := conv_row own4.row
  clear C1
  go_wp2_with fail
  go_ret
  exact ⟨rfl, bstep b3 b4⟩
end Go.Proofs.YtamnndocbnbkiaaDoor
