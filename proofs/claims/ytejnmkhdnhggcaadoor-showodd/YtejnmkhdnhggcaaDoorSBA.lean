/- SBld FTree Tree RegMan RegA: laid together. -/
import Derived.Test.YtejnmkhdnhggcaaDoorSAA
import Derived.Test.YtejnmkhdnhggcaaDoorShelf
import Derived.Shelf.Strings.BuilderK
import Derived.Lib.OthersKept
import Derived.Deep.OwnRows
import Derived.Deep.Slices
import Derived.Lib.SmallJoins
import Derived.Deep.RegionHeld3
/- A strings.Builder of the call's own, written on: what it holds behind a write, and what stands as it stood. -/
namespace Go.Proofs.YtejnmkhdnhggcaaDoor
open Go.Shelf Go.RowKit
set_option linter.unusedVariables false

/- the builder in block b holds the bytes l. -/
def BA (B b : Nat) (l : List UInt8) (w : World) : Prop := Lib.IsBuilderF 47 5 B b (Lib.byteCells l) w
/- written on: it holds l, and nothing but it and rows of bytes has turned. -/
def Wr (B b : Nat) (l : List UInt8) (w w' : World) : Prop := BA B b l w' ∧ Below B w w' ∧ Lib.OthersKept 5 (some b) w w'
theorem BA.alloc {B b : Nat} {l : List UInt8} {w : World} (h : BA B b l w) (o : Obj) : BA B b l (w.alloc o) := Lib.IsBuilderF.alloc h o
theorem BA.le {B b : Nat} {l : List UInt8} {w : World} (h : BA B b l w) : B ≤ b ∧ b < w.heap.size := by
  rcases h with h | h
  · exact ⟨h.1, h.lt⟩
  · exact ⟨h.1, h.lt⟩
theorem strCells_l (s : List UInt8) : Lib.strCells ⟨s.toArray⟩ = Lib.byteCells s := by
  simp [Lib.strCells, Lib.byteCells]
theorem byteCells_app (l s : List UInt8) : Lib.byteCells (l ++ s) = Lib.byteCells l ++ Lib.byteCells s := by simp [Lib.byteCells]
theorem byteCells_len (l : List UInt8) : (Lib.byteCells l).length = l.length := by simp [Lib.byteCells]

theorem bX : Builder.Extra Tryd.prog Tryd.lays169_ren := Tryd.Builder_Extra_169
theorem bInfo : ∃ j, Tryd.prog.info? 47 = some j ∧ j.size = 2 := by
  obtain ⟨j, hj, hjs⟩ := Option.map_eq_some_iff.1 bX.sizeBuilder
  exact ⟨j, hj, hjs⟩

set_option maxHeartbeats 2000000 in
set_option maxRecDepth 100000 in
theorem check_used (b : Nat) (w : World) (h0 : w.cell? ⟨b, 0, none⟩ = some (.pointer (some ⟨b, 0, none⟩))) :
    Calls Tryd.prog 38 #[.pointer (some ⟨b, 0, none⟩)] w fun e w' => e = .returned (.tuple #[]) ∧ w' = w := by
  obtain ⟨j, hj, hjs⟩ := bInfo
  go_enter Tryd.func38, Tryd.ntmps38
  go_wp2_with fail
  rw [Lib.run_neq_ptr_same w _ Tryd.underlying44 hj]
  go_wp2_with fail
  go_end0
  exact ⟨rfl, rfl⟩

set_option maxHeartbeats 2000000 in
set_option maxRecDepth 100000 in
theorem check_fresh (b : Nat) (w : World) (h0 : w.cell? ⟨b, 0, none⟩ = some (.pointer none)) (hsh : w.shape? b = some (47, 2)) (hfz : w.frozen? ⟨b, 0, none⟩ = false) :
    Calls Tryd.prog 38 #[.pointer (some ⟨b, 0, none⟩)] w fun e w' => e = .returned (.tuple #[]) ∧ w' = w.setCell ⟨b, 0, none⟩ (.pointer (some ⟨b, 0, none⟩)) := by
  obtain ⟨j, hj, hjs⟩ := bInfo
  go_enter Tryd.func38, Tryd.ntmps38
  go_wp2_with fail
  rw [Lib.run_to_unsafe w ⟨b, 0, none⟩ Tryd.underlying44 Tryd.underlying87 hj (by rw [hjs]; decide) hsh (Nat.zero_lt_succ 1)]
  simp only [Result.andThen]
  rw [Oper.upon_value]
  go_wp2_with fail
  rw [run_callFunc_extern Tryd.func54 (by kernel_rfl) (by kernel_rfl) (by kernel_rfl) (e := Extern.AbiNoEscape.same) (by kernel_rfl)]
  rw [Lib.run_noEscape]
  simp only [Result.andThen]
  rw [Oper.upon_value]
  go_wp2_with fail
  rw [Lib.run_from_unsafe w ⟨b, 0, none⟩ Tryd.underlying87 Tryd.underlying44 hj hsh bX.liesBuilder]
  simp only [Result.andThen]
  rw [Oper.upon_value]
  go_wp2_with fail
  go_end0
  exact ⟨rfl, rfl⟩

theorem check_any (B b : Nat) (bs : List Value) (w : World) (h : Lib.IsBuilderF 47 5 B b bs w) :
    Calls Tryd.prog 38 #[.pointer (some ⟨b, 0, none⟩)] w fun e w' => e = .returned (.tuple #[]) ∧ Lib.BuilderAtF 47 5 B b (.pointer (some ⟨b, 0, none⟩)) bs w' ∧ Below B w w' ∧ Lib.OthersKept 5 (some b) w w' := by
  rcases h with h | h
  · refine (check_fresh b w h.cell0 h.shape h.frozen0).mono ?_
    rintro e w' ⟨rfl, rfl⟩
    exact ⟨rfl, h.used _, (Below.refl B w).setCell (p := ⟨b, 0, none⟩) h.1 _, (Lib.OthersKept.refl _ _ w).setCell ⟨b, 0, none⟩ rfl _⟩
  · refine (check_used b w h.cell0).mono ?_
    rintro e w' ⟨rfl, rfl⟩
    exact ⟨rfl, h, Below.refl B _, Lib.OthersKept.refl _ _ _⟩

set_option maxHeartbeats 4000000 in
set_option maxRecDepth 100000 in
theorem ws_any (B b : Nat) (l s : List UInt8) (w : World) (h : BA B b l w) (hlen : l.length + s.length ≤ 1099511627776) :
    Calls Tryd.prog 26 #[.pointer (some ⟨b, 0, none⟩), .string ⟨s.toArray⟩] w fun e w' => e = .returned (.tuple #[.int .i64 s.length, .nilIface]) ∧ Wr B b (l ++ s) w w' := by
  obtain ⟨hBb, hbw⟩ := h.le
  obtain ⟨i0, hi, hz0, hz1, hz2⟩ := info_parts bX.infoByte
  have HC := hide (check_any B b _ w h)
  go_enter Tryd.func26, Tryd.ntmps26
  go_wp2_with fail
  refine (unhide HC).mono ?_
  rintro e w1 ⟨rfl, h1, hb1, hk1⟩
  obtain ⟨hB, v, hbk, hown, hne⟩ := h1
  have c0 : w1.cell? ⟨b, 0, none⟩ = some (.pointer (some ⟨b, 0, none⟩)) := by rw [Lib.cell_of_heap hbk]; rfl
  have c1 : w1.cell? ⟨b, 1, none⟩ = some v := by rw [Lib.cell_of_heap hbk]; rfl
  have hsz := hb1.size
  go_wp2_with (at_builtin; refine Lib.wpList_append_own_stringF _ rfl _ _ 45 9 rfl B 5 i0 Tryd.underlying45 Tryd.underlying9 hi hz0 hz1 hz2 _ _ _ rfl hown ⟨s.toArray⟩ rfl ?c3 ?c4 ?c5 ?_)
  case c3 => rw [byteCells_len]; show l.length + s.length ≤ maxLen; unfold maxLen; omega
  case c4 => rw [byteCells_len]; show l.length + s.length ≤ _; omega
  case c5 => omega
  intro v' w2 hown' hgrow _
  have hlt : b < w1.heap.size := by omega
  have hb2 : w2.heap[b]? = some (.cells #[.pointer (some ⟨b, 0, none⟩), v] 47 (0, 0)) := by
    rw [hgrow.block b hlt (fun e => hne e.symm)]
    exact hbk
  have d0 : w2.cell? ⟨b, 0, none⟩ = some (.pointer (some ⟨b, 0, none⟩)) := by rw [Lib.cell_of_heap hb2]; rfl
  have d1 : w2.cell? ⟨b, 1, none⟩ = some v := by rw [Lib.cell_of_heap hb2]; rfl
  have f1 : w2.frozen? ⟨b, 1, none⟩ = false := Lib.frozen_of_heap hb2 1
  obtain ⟨ao, n', cap, rfl⟩ : ∃ ao n' cap, v' = .slice ao n' cap := by
    rcases hown'.2 with ⟨hv, _⟩ | ⟨g, cap, cur, fz, hv, _⟩
    · exact ⟨_, _, _, hv⟩
    · exact ⟨_, _, _, hv⟩
  go_wp2_with fail
  go_ret2
  refine ⟨rfl, .inr ?_, ?_, (hk1.grown hgrow (Lib.ownsRowF_kind hown)).setCell ⟨b, 1, none⟩ rfl _⟩
  · rw [byteCells_app, ← strCells_l s]
    exact Lib.BuilderAtF.put (T := 47) (e := 5) hB hb2 (by rw [List.length_append, Lib.strCells_length]; exact hown') bX.neB5
  · exact (hb1.grown hgrow (by omega) (fun k hk => (hown.lt k hk).1)).setCell (p := ⟨b, 1, none⟩) hB _

set_option maxHeartbeats 4000000 in
set_option maxRecDepth 100000 in
theorem wb_any (B b : Nat) (l : List UInt8) (c : UInt8) (w : World) (h : BA B b l w) (hlen : l.length + 1 ≤ 1099511627776) :
    Calls Tryd.prog 41 #[.pointer (some ⟨b, 0, none⟩), .int .u8 c.toNat] w fun e w' => e = .returned .nilIface ∧ Wr B b (l ++ [c]) w w' := by
  obtain ⟨hBb, hbw⟩ := h.le
  obtain ⟨i0, hi, hz0, hz1, hz2⟩ := info_parts bX.infoByte
  have HC := hide (check_any B b _ w h)
  generalize hcv : (c.toNat : Int) = cv
  go_enter Tryd.func41, Tryd.ntmps41
  go_wp2_with fail
  refine (unhide HC).mono ?_
  rintro e w1 ⟨rfl, h1, hb1, hk1⟩
  obtain ⟨hB, v, hbk, hown, hne⟩ := h1
  have c0 : w1.cell? ⟨b, 0, none⟩ = some (.pointer (some ⟨b, 0, none⟩)) := by rw [Lib.cell_of_heap hbk]; rfl
  have c1 : w1.cell? ⟨b, 1, none⟩ = some v := by rw [Lib.cell_of_heap hbk]; rfl
  have hsz := hb1.size
  go_wp2_with (at_builtin; refine wpList_append_ownF _ rfl _ _ 45 rfl B 5 i0 (.int .u8 0) 1 1 Tryd.underlying45 hi hz0 hz1 hz2 rfl (by decide) _ _ _ rfl (hown.alloc _) ⟨w1.heap.size, 0, none⟩ 1 1 [.int .u8 cv] rfl rfl ?c1 ?c2 ?c3 ?c4 ?c5 ?_)
  case c1 =>
    intro j u hj
    match j, hj with
    | 0, hj => simp at hj; subst hj; simp [Addr.add]
  case c2 => intro u hu; simp at hu; subst hu; rfl
  case c3 => rw [byteCells_len]; unfold maxLen; omega
  case c4 => rw [byteCells_len]; omega
  case c5 => simp; omega
  intro v' w2 hown' hgrow _
  have hlt : b < w1.heap.size := by omega
  have hb2 : w2.heap[b]? = some (.cells #[.pointer (some ⟨b, 0, none⟩), v] 47 (0, 0)) := by
    rw [hgrow.block b (by simp; omega) (fun e => hne e.symm), Lib.alloc_old w1 _ b hlt]
    exact hbk
  have d0 : w2.cell? ⟨b, 0, none⟩ = some (.pointer (some ⟨b, 0, none⟩)) := by rw [Lib.cell_of_heap hb2]; rfl
  have d1 : w2.cell? ⟨b, 1, none⟩ = some v := by rw [Lib.cell_of_heap hb2]; rfl
  have f1 : w2.frozen? ⟨b, 1, none⟩ = false := Lib.frozen_of_heap hb2 1
  obtain ⟨ao, n', cap, rfl⟩ : ∃ ao n' cap, v' = .slice ao n' cap := by
    rcases hown'.2 with ⟨hv, _⟩ | ⟨g, cap, cur, fz, hv, _⟩
    · exact ⟨_, _, _, hv⟩
    · exact ⟨_, _, _, hv⟩
  go_wp2_with fail
  go_ret
  refine ⟨rfl, .inr ?_, ?_, ((hk1.alloc _).grown hgrow (Lib.ownsRowF_kind (hown.alloc _))).setCell ⟨b, 1, none⟩ rfl _⟩
  · rw [byteCells_app]
    exact Lib.BuilderAtF.put (T := 47) (e := 5) hB hb2 (by subst hcv; simpa [Lib.byteCells] using hown') bX.neB5
  · exact ((hb1.alloc (by omega) _).grown hgrow (by simp; omega) (fun k hk => (hown.lt k hk).1)).setCell (p := ⟨b, 1, none⟩) hB _

/- the text that it holds. -/
theorem bstr_any (B b : Nat) (l : List UInt8) (w : World) (h : BA B b l w) :
    Calls Tryd.prog 18 #[.pointer (some ⟨b, 0, none⟩)] w fun e w' => e = .returned (.string ⟨l.toArray⟩) ∧ Below B w w' := by
  refine (Tryd.Builder_String_any_k B b l w h (by have := h.le; omega)).mono ?_
  rintro e w' ⟨he, _, hb, _⟩
  exact ⟨he, hb⟩
/- a new one holds nothing. -/
theorem BA.new {B : Nat} {w : World} (hB : B ≤ w.heap.size) : BA B w.heap.size [] (w.alloc (.cells #[.pointer none, .slice none 0 0] 47)) := by
  refine .inl ⟨hB, .slice none 0 0, Deep.blk_alloc_new _ _, ?_, by simp [Value.ownBlock]⟩
  exact ⟨by simp [Lib.byteCells], .inl ⟨rfl, by simp [Lib.byteCells]⟩⟩
theorem Wr.trans {B b : Nat} {l l' : List UInt8} {w w1 w2 : World} (h : Wr B b l w w1) (k : Wr B b l' w1 w2) : Wr B b l' w w2 := ⟨k.1, h.2.1.trans k.2.1, h.2.2.trans k.2.2⟩
end Go.Proofs.YtejnmkhdnhggcaaDoor

/- An expression as a tree, with the places where its kids lie: kept from world to world. -/
namespace Go.Proofs.YtejnmkhdnhggcaaDoor
open Go.ChangeShapes Go.WideShapes Go.RowKit
set_option linter.unusedVariables false

/- kind, B, D, T, Lo, Hi, and Kids: where they lie, how many, how many there is room for, they ('none' stands behind them). -/
inductive XT where
  | none
  | mk (k : Int) (b : Bool) (m s : Int) (t : ByteArray) (lo hi : Bool) (a : Option Addr) (len cap : Nat) (kid : Nat → XT)

instance : Inhabited XT := ⟨.none⟩

namespace XT
def cells : XT → List Value
  | .none => []
  | .mk k b m s t lo hi a len cap _ => [.int .i64 k, .bool b, .int .i64 m, .int .i64 s, .string t, .bool lo, .bool hi, .slice a len cap]
def val : XT → Value
  | .none => .agg #[]
  | .mk k b m s t lo hi a len cap _ => .agg #[.int .i64 k, .bool b, .int .i64 m, .int .i64 s, .string t, .bool lo, .bool hi, .slice a len cap]

/- it lies in the world, its kids in blocks of which Q holds. -/
def In (Q : Nat → Prop) (w : World) : XT → Prop
  | .none => False
  | .mk _ _ _ _ _ _ _ a len _ kid => len ≤ maxLen ∧
      ∀ i, i < len → (∃ bl o, a = some ⟨bl, o, Option.none⟩ ∧ Q bl ∧ ∀ j, j < 8 → w.cell? ⟨bl, o + i * 8 + j, Option.none⟩ = (kid i).cells[j]?) ∧ (kid i).In Q w

theorem In.form {Q : Nat → Prop} {w : World} {x : XT} (h : x.In Q w) : ∃ k b m s t lo hi a len cap kid, x = .mk k b m s t lo hi a len cap kid := by
  cases x with
  | none => exact absurd h (by simp [In])
  | mk k b m s t lo hi a len cap kid => exact ⟨k, b, m, s, t, lo, hi, a, len, cap, kid, rfl⟩

theorem In.keep {Q : Nat → Prop} {w w' : World} (hh : ∀ bl o, bl < w.heap.size → Q bl → w'.cell? ⟨bl, o, Option.none⟩ = w.cell? ⟨bl, o, Option.none⟩) (x : XT) (h : x.In Q w) : x.In Q w' := by
  induction x with
  | none => exact h
  | mk k b m s t lo hi a len cap kid ih =>
    refine ⟨h.1, fun i hi => ?_⟩
    obtain ⟨⟨bl, o, ha, hq, hc⟩, hk⟩ := h.2 i hi
    refine ⟨⟨bl, o, ha, hq, fun j hj => ?_⟩, ih i hk⟩
    have h0 := hc 0 (by omega)
    have hl : bl < w.heap.size := by
      obtain ⟨_, _, _, _, _, _, _, _, _, _, _, hx⟩ := hk.form
      rw [hx] at h0
      exact World.block_lt_of_cell? _ _ h0
    rw [hh bl _ hl hq]
    exact hc j hj

theorem In.below {Q : Nat → Prop} {w w' : World} {x : XT} (h : x.In Q w) (b : Below w.heap.size w w') : x.In Q w' := h.keep (fun bl o hl _ => (bcell b).1 bl o hl)
theorem In.alloc {Q : Nat → Prop} {w : World} {x : XT} (h : x.In Q w) (o : Obj) : x.In Q (w.alloc o) := h.below (below1 w o)
/- of its blocks less is said, or that they are there. -/
theorem In.weak {Q Q' : Nat → Prop} {w : World} {x : XT} (h : x.In Q w) (hq : ∀ g, g < w.heap.size → Q g → Q' g) : x.In Q' w := by
  induction x with
  | none => exact h
  | mk k b m s t lo hi a len cap kid ih =>
    refine ⟨h.1, fun i hi => ?_⟩
    obtain ⟨⟨bl, o, ha, hq1, hc⟩, hk⟩ := h.2 i hi
    refine ⟨⟨bl, o, ha, ?_, hc⟩, ih i hk⟩
    have h0 := hc 0 (by omega)
    obtain ⟨_, _, _, _, _, _, _, _, _, _, _, hx⟩ := hk.form
    rw [hx] at h0
    exact hq bl (World.block_lt_of_cell? _ _ h0) hq1
theorem In.set {Q : Nat → Prop} {w : World} {x : XT} (h : x.In Q w) {p : Addr} (hp : ∀ g, Q g → g ≠ p.block) (v : Value) : x.In Q (w.setCell p v) :=
  h.keep (fun bl o hl hq => World.cell?_of_block (w := w) (Below.heap_setCell _ _ _ _ (hp bl hq)))
theorem In.set8 {Q : Nat → Prop} {w : World} {x : XT} (h : x.In Q w) {r : Nat} (hp : ∀ g, Q g → g ≠ r) (v0 v1 v2 v3 v4 v5 v6 v7 : Value) : x.In Q ((((((((w.setCell ⟨r, 0, Option.none⟩ v0).setCell ⟨r, 1, Option.none⟩ v1).setCell ⟨r, 2, Option.none⟩ v2).setCell ⟨r, 3, Option.none⟩ v3).setCell ⟨r, 4, Option.none⟩ v4).setCell ⟨r, 5, Option.none⟩ v5).setCell ⟨r, 6, Option.none⟩ v6).setCell ⟨r, 7, Option.none⟩ v7) :=
  (((((((h.set hp v0).set hp v1).set hp v2).set hp v3).set hp v4).set hp v5).set hp v6).set hp v7

/- the eight cells of an element, and that it lies there. -/
def Eight (w : World) (bl o : Nat) (k : Int) (b : Bool) (m s : Int) (t : ByteArray) (lo hi : Bool) (a : Option Addr) (len cap : Nat) : Prop :=
  bl < w.heap.size ∧ w.cell? ⟨bl, o, Option.none⟩ = some (.int .i64 k) ∧ w.cell? ⟨bl, o + 1, Option.none⟩ = some (.bool b) ∧ w.cell? ⟨bl, o + 2, Option.none⟩ = some (.int .i64 m) ∧ w.cell? ⟨bl, o + 3, Option.none⟩ = some (.int .i64 s) ∧ w.cell? ⟨bl, o + 4, Option.none⟩ = some (.string t) ∧ w.cell? ⟨bl, o + 5, Option.none⟩ = some (.bool lo) ∧ w.cell? ⟨bl, o + 6, Option.none⟩ = some (.bool hi) ∧ w.cell? ⟨bl, o + 7, Option.none⟩ = some (.slice a len cap)

theorem In.kid {Q : Nat → Prop} {w : World} {k : Int} {b : Bool} {m s : Int} {t : ByteArray} {lo hi : Bool} {a : Option Addr} {len cap : Nat} {kid : Nat → XT} (h : (XT.mk k b m s t lo hi a len cap kid).In Q w) {i : Nat} (hi' : i < len) :
    ∃ bl o k' b' m' s' t' lo' hi' a' len' cap' kid', a = some ⟨bl, o, Option.none⟩ ∧ kid i = .mk k' b' m' s' t' lo' hi' a' len' cap' kid' ∧ Eight w bl (o + i * 8) k' b' m' s' t' lo' hi' a' len' cap' ∧ (XT.mk k' b' m' s' t' lo' hi' a' len' cap' kid').In Q w := by
  obtain ⟨⟨bl, o, ha, hq, hc⟩, hk⟩ := h.2 i hi'
  obtain ⟨k', b', m', s', t', lo', hi', a', len', cap', kid', hx⟩ := hk.form
  rw [hx] at hc hk
  have h0 := hc 0 (by omega)
  exact ⟨bl, o, k', b', m', s', t', lo', hi', a', len', cap', kid', ha, hx, ⟨World.block_lt_of_cell? _ _ h0, h0, hc 1 (by omega), hc 2 (by omega), hc 3 (by omega), hc 4 (by omega), hc 5 (by omega), hc 6 (by omega), hc 7 (by omega)⟩, hk⟩

theorem Eight.below {w w' : World} {bl o : Nat} {k : Int} {b : Bool} {m s : Int} {t : ByteArray} {lo hi : Bool} {a : Option Addr} {len cap : Nat} (h : Eight w bl o k b m s t lo hi a len cap) (hb : Below w.heap.size w w') : Eight w' bl o k b m s t lo hi a len cap := by
  obtain ⟨h0, h1, h2, h3, h4, h5, h6, h7, h8⟩ := h
  have hc := (bcell hb).1
  exact ⟨Nat.lt_of_lt_of_le h0 hb.size, (hc bl _ h0).trans h1, (hc bl _ h0).trans h2, (hc bl _ h0).trans h3, (hc bl _ h0).trans h4, (hc bl _ h0).trans h5, (hc bl _ h0).trans h6, (hc bl _ h0).trans h7, (hc bl _ h0).trans h8⟩

/- the tree alone, without the places. -/
def bare : XT → XT
  | .none => .none
  | .mk k b m s t lo hi _ len _ kid => .mk k b m s t lo hi Option.none len 0 (fun i => if i < len then (kid i).bare else .none)

def tl (t : ByteArray) : List UInt8 := t.data.toList
/- what else a kind names. -/
def fld (k : Int) (b b' : Bool) (m m' s s' : Int) (t t' : ByteArray) (lo lo' hi hi' : Bool) : Bool :=
  if k = 2 then b == b' else if k = 3 then decide (m = m') && decide (s = s') else if k = 4 ∨ k = 5 ∨ k = 6 ∨ k = 10 then tl t == tl t' else if k = 11 then lo == lo' && hi == hi' else true
/- whether two are one. -/
def same : XT → XT → Bool
  | .mk k b m s t lo hi _ len _ kid, .mk k' b' m' s' t' lo' hi' _ len' _ kid' => decide (k = k') && (decide (len = len') && (fld k b b' m m' s s' t t' lo lo' hi hi' && (List.range len).all fun i => (kid i).same (kid' i)))
  | .none, .none => true
  | _, _ => false

theorem fld_self (k : Int) (b : Bool) (m s : Int) (t : ByteArray) (lo hi : Bool) : fld k b b m m s s t t lo lo hi hi = true := by
  unfold fld
  split
  · simp
  split
  · simp
  split
  · simp
  split <;> simp

theorem same_self (x : XT) : x.same x = true := by
  induction x with
  | none => rfl
  | mk k b m s t lo hi a len cap kid ih =>
    unfold same
    rw [fld_self]
    simp [ih]

theorem same_bare (x : XT) : ∀ y : XT, x.same y = x.bare.same y.bare := by
  induction x with
  | none => intro y; cases y <;> rfl
  | mk k b m s t lo hi a len cap kid ih =>
    intro y
    cases y with
    | none => rfl
    | mk k' b' m' s' t' lo' hi' a' len' cap' kid' =>
      unfold bare same
      by_cases hl : len = len'
      · subst hl
        congr 3
        rw [Bool.eq_iff_iff]
        simp only [List.all_eq_true, List.mem_range]
        constructor
        · intro h i hi
          rw [if_pos hi, if_pos hi, ← ih i]
          exact h i hi
        · intro h i hi
          have := h i hi
          rw [if_pos hi, if_pos hi, ← ih i] at this
          exact this
      · simp [hl]
theorem same_of {x y z : XT} (h1 : x.bare = z) (h2 : y.bare = z) : x.same y = true := by
  rw [same_bare, h1, h2, same_self]

/- an expression of kids. -/
def mkX (k : Int) (b : Bool) (m s : Int) (t : ByteArray) (lo hi : Bool) (l : List XT) : XT := .mk k b m s t lo hi Option.none l.length 0 (fun i => l.getD i .none)
theorem bare_mk (k : Int) (b : Bool) (m s : Int) (t : ByteArray) (lo hi : Bool) (a : Option Addr) (cap : Nat) (l : List XT) : (XT.mk k b m s t lo hi a l.length cap (fun i => l.getD i .none)).bare = mkX k b m s t lo hi (l.map bare) := by
  unfold bare mkX
  rw [List.length_map]
  congr 1
  funext i
  split
  · rename_i h; simp [h]
  · rename_i h; simp at h; simp [h]
end XT

/- a row of expressions as cells. -/
def xsC (l : List XT) : List Value := l.flatMap XT.cells
/- fresh: from the block B on. -/
def Fr (B : Nat) : Nat → Prop := fun g => B ≤ g
/- one whose kids lie in a block of their own. -/
theorem in_row {Q : Nat → Prop} {w : World} {g : Nat} (hQ : Q g) (l : List XT) (hl : l.length ≤ maxLen) (hc : ∀ i (h : i < l.length) j, j < 8 → w.cell? ⟨g, i * 8 + j, none⟩ = l[i].cells[j]?) (hin : ∀ x ∈ l, x.In Q w) (k : Int) (b : Bool) (m s : Int) (t : ByteArray) (lo hi : Bool) (cap : Nat) :
    (XT.mk k b m s t lo hi (some ⟨g, 0, none⟩) l.length cap (fun i => l.getD i .none)).In Q w := by
  refine ⟨hl, fun i h => ?_⟩
  have e : l.getD i .none = l[i] := by simp [h]
  refine ⟨⟨g, 0, rfl, hQ, fun j hj => ?_⟩, ?_⟩
  · dsimp only
    rw [Nat.zero_add, hc i h j hj, e]
  · dsimp only
    rw [e]
    exact hin _ (List.getElem_mem h)
theorem in_leaf {Q : Nat → Prop} {w : World} (k : Int) (b : Bool) (m s : Int) (t : ByteArray) (lo hi : Bool) : (XT.mk k b m s t lo hi none 0 0 (fun i => [].getD i .none)).In Q w :=
  ⟨Nat.zero_le _, fun i hi => absurd hi (Nat.not_lt_zero _)⟩

/- no expression. -/
def zX : XT := .mk 0 false 0 0 ⟨#[]⟩ false false none 0 0 (fun _ => .none)
def zV : Value := .agg #[.int .i64 0, .bool false, .int .i64 0, .int .i64 0, .string ⟨#[]⟩, .bool false, .bool false, .slice none 0 0]
theorem zX_val : zX.val = zV := rfl
theorem zX_in (Q : Nat → Prop) (w : World) : zX.In Q w := ⟨Nat.zero_le _, fun i hi => absurd hi (Nat.not_lt_zero _)⟩
end Go.Proofs.YtejnmkhdnhggcaaDoor

/- A value as a tree, with the places where its lists lie: opened out of a reading, kept from world to world. -/
namespace Go.Proofs.YtejnmkhdnhggcaaDoor
open Go.ChangeShapes Go.WideShapes Go.RowKit

/- kind, B, D, T, and L: where it lies, how long it is, how long it may be, its elements ('none' stands behind them). -/
inductive VT where
  | none
  | mk (k : Int) (b : Bool) (m s : Int) (t : ByteArray) (a : Option Addr) (len cap : Nat) (kid : Nat → VT)

instance : Inhabited VT := ⟨.none⟩

namespace VT
def cells : VT → List Value
  | .none => []
  | .mk k b m s t a len cap _ => [.int .i64 k, .bool b, .int .i64 m, .int .i64 s, .string t, .slice a len cap]
def val : VT → Value
  | .none => .agg #[]
  | .mk k b m s t a len cap _ => .agg #[.int .i64 k, .bool b, .int .i64 m, .int .i64 s, .string t, .slice a len cap]

/- it lies in the world. -/
def In (w : World) : VT → Prop
  | .none => False
  | .mk k _ m s t a len cap kid => ((Lit.int .i64 k).wf = true ∧ (Lit.int .i64 m).wf = true ∧ (Lit.int .i64 s).wf = true ∧ t.size ≤ maxLen ∧ len ≤ cap ∧ cap ≤ maxLen) ∧
      ∀ i, i < len → (∃ bl o, a = some ⟨bl, o, Option.none⟩ ∧ ∀ j, j < 6 → w.cell? ⟨bl, o + i * 6 + j, Option.none⟩ = (kid i).cells[j]?) ∧ (kid i).In w

theorem In.keep {w w' : World} (hh : ∀ bl o, bl < w.heap.size → w'.cell? ⟨bl, o, Option.none⟩ = w.cell? ⟨bl, o, Option.none⟩) (x : VT) (h : x.In w) : x.In w' := by
  induction x with
  | none => exact h
  | mk k b m s t a len cap kid ih =>
    refine ⟨h.1, fun i hi => ?_⟩
    obtain ⟨⟨bl, o, ha, hc⟩, hk⟩ := h.2 i hi
    refine ⟨⟨bl, o, ha, fun j hj => ?_⟩, ih i hk⟩
    have h0 := hc 0 (by omega)
    have hl : bl < w.heap.size := by
      cases hx : kid i with
      | none => rw [hx] at hk; exact absurd hk (by simp [In])
      | mk => rw [hx] at h0; exact World.block_lt_of_cell? _ _ h0
    rw [hh bl _ hl]
    exact hc j hj

theorem In.below {w w' : World} {x : VT} (h : x.In w) (b : Below w.heap.size w w') : x.In w' := h.keep (bcell b).1

/- the six cells of an element, and that it lies there. -/
def Six (w : World) (bl o : Nat) (k : Int) (b : Bool) (m s : Int) (t : ByteArray) (a : Option Addr) (len cap : Nat) : Prop :=
  bl < w.heap.size ∧ w.cell? ⟨bl, o, Option.none⟩ = some (.int .i64 k) ∧ w.cell? ⟨bl, o + 1, Option.none⟩ = some (.bool b) ∧ w.cell? ⟨bl, o + 2, Option.none⟩ = some (.int .i64 m) ∧ w.cell? ⟨bl, o + 3, Option.none⟩ = some (.int .i64 s) ∧ w.cell? ⟨bl, o + 4, Option.none⟩ = some (.string t) ∧ w.cell? ⟨bl, o + 5, Option.none⟩ = some (.slice a len cap)

theorem In.kid {w : World} {k : Int} {b : Bool} {m s : Int} {t : ByteArray} {a : Option Addr} {len cap : Nat} {kid : Nat → VT} (h : (VT.mk k b m s t a len cap kid).In w) {i : Nat} (hi : i < len) :
    ∃ bl o k' b' m' s' t' a' len' cap' kid', a = some ⟨bl, o, Option.none⟩ ∧ kid i = .mk k' b' m' s' t' a' len' cap' kid' ∧ Six w bl (o + i * 6) k' b' m' s' t' a' len' cap' ∧ (VT.mk k' b' m' s' t' a' len' cap' kid').In w := by
  obtain ⟨⟨bl, o, ha, hc⟩, hk⟩ := h.2 i hi
  cases hx : kid i with
  | none => rw [hx] at hk; exact absurd hk (by simp [In])
  | mk k' b' m' s' t' a' len' cap' kid' =>
    rw [hx] at hc hk
    have h0 := hc 0 (by omega)
    exact ⟨bl, o, k', b', m', s', t', a', len', cap', kid', ha, rfl, ⟨World.block_lt_of_cell? _ _ h0, h0, hc 1 (by omega), hc 2 (by omega), hc 3 (by omega), hc 4 (by omega), hc 5 (by omega)⟩, hk⟩

theorem Six.below {w w' : World} {bl o : Nat} {k : Int} {b : Bool} {m s : Int} {t : ByteArray} {a : Option Addr} {len cap : Nat} (h : Six w bl o k b m s t a len cap) (hb : Below w.heap.size w w') : Six w' bl o k b m s t a len cap := by
  obtain ⟨h0, h1, h2, h3, h4, h5, h6⟩ := h
  have hc := (bcell hb).1
  exact ⟨Nat.lt_of_lt_of_le h0 hb.size, (hc bl _ h0).trans h1, (hc bl _ h0).trans h2, (hc bl _ h0).trans h3, (hc bl _ h0).trans h4, (hc bl _ h0).trans h5, (hc bl _ h0).trans h6⟩
end VT

theorem cellsVal : Tryd.prog.cellsOf 29 = 6 := by kernel_rfl
theorem cellsD : Tryd.prog.cellsOf 23 = 2 := by kernel_rfl
theorem cellsI : Tryd.prog.cellsOf 3 = 1 := by kernel_rfl
theorem cellsB : Tryd.prog.cellsOf 4 = 1 := by kernel_rfl
theorem cellsS : Tryd.prog.cellsOf 9 = 1 := by kernel_rfl
theorem cellsL : Tryd.prog.cellsOf 27 = 1 := by kernel_rfl

section
variable {H : Type} {enc : TypeId × Value → H} {w : World} {base : Nat} {spare : Nat → Bool} {held : Bool}

set_option maxRecDepth 10000 in
theorem open_dec {fuel : Nat} {v0 v1 : Value} {x : DataW H × List MemPlace} (h : DataW.trod enc Tryd.prog w base spare held fuel 23 [v0, v1] = some x) :
    ∃ m s : Int, v0 = .int .i64 m ∧ v1 = .int .i64 s ∧ (Lit.int .i64 m).wf = true ∧ (Lit.int .i64 s).wf = true := by
  obtain ⟨xs, n, rfl, rfl, hl, hlen, hf⟩ := DataW.trod_struct Tryd.underlying23 h
  match xs, hlen with
  | [y0, y1], _ =>
    have g0 := hf 0 _ rfl
    have g1 := hf 1 _ rfl
    simp [cellsI] at g0 g1
    obtain ⟨m, e0, -, w0⟩ := DataW.trod_int Tryd.underlying3 g0
    obtain ⟨s, e1, -, w1⟩ := DataW.trod_int Tryd.underlying3 g1
    simp at e0 e1
    exact ⟨m, s, e0, e1, w0, w1⟩

set_option maxRecDepth 10000 in
theorem open_val (fuel : Nat) : ∀ {cs : List Value} {x : DataW H × List MemPlace}, DataW.trod enc Tryd.prog w base spare held fuel 29 cs = some x →
    ∃ T : VT, cs = T.cells ∧ T.In w := by
  induction fuel using Nat.strongRecOn with
  | _ fuel ih =>
    intro cs x h
    obtain ⟨xs, n, rfl, rfl, hl, hlen, hf⟩ := DataW.trod_struct Tryd.underlying29 h
    rw [cellsVal] at hl
    match xs, hlen, cs, hl with
    | [y0, y1, y2, y3, y4], _, [v0, v1, v2, v3, v4, v5], _ =>
      have g0 := hf 0 _ rfl
      have g1 := hf 1 _ rfl
      have g2 := hf 2 _ rfl
      have g3 := hf 3 _ rfl
      have g4 := hf 4 _ rfl
      simp [cellsI, cellsB, cellsD, cellsS, cellsL] at g0 g1 g2 g3 g4
      obtain ⟨k, e0, -, w0⟩ := DataW.trod_int Tryd.underlying3 g0
      obtain ⟨b, e1, -⟩ := DataW.trod_bool Tryd.underlying4 g1
      obtain ⟨m, s, rfl, rfl, w1, w2⟩ := open_dec g2
      obtain ⟨t, e3, -, w3⟩ := DataW.trod_string Tryd.underlying9 g3
      simp at e0 e1 e3
      subst e0 e1 e3
      rcases DataW.trod_slice Tryd.underlying27 g4 with ⟨e4, -⟩ | ⟨a, len, cap, elems, rest, n', hn, e4, -, hb, hlc, hcm, hel, hget, -, -⟩
      · simp at e4
        subst e4
        exact ⟨.mk k b m s t Option.none 0 0 (fun _ => .none), rfl, ⟨w0, w1, w2, w3, Nat.le_refl _, Nat.zero_le _⟩, fun i hi => absurd hi (Nat.not_lt_zero _)⟩
      · simp at e4
        subst e4
        rw [cellsVal] at hget
        have hspot : 0 < len → a.spot = Option.none := fun h0 => by
          have key := hget 0 h0
          rw [List.getElem?_eq_getElem (by omega)] at key
          obtain ⟨cs', h1, h2⟩ := Option.bind_eq_some_iff.1 key
          obtain ⟨T, rfl, hT⟩ := ih n' (by omega) h2
          obtain ⟨_, _, hcell⟩ := World.cells?_some h1
          have h0 := hcell 0 (by omega)
          cases T with
          | none => exact absurd hT (by simp [VT.In])
          | mk =>
            have h00 := World.cell?_spot h0
            simpa [Addr.add] using h00
        obtain ⟨kid, hkid⟩ := Deep.choose_lt (α := VT) (n := len) (p := fun i T => (∃ bl o, a = ⟨bl, o, Option.none⟩ ∧ ∀ j, j < 6 → w.cell? ⟨bl, o + i * 6 + j, Option.none⟩ = T.cells[j]?) ∧ T.In w) (fun i hi => by
          have key := hget i hi
          rw [List.getElem?_eq_getElem (by omega)] at key
          obtain ⟨cs', h1, h2⟩ := Option.bind_eq_some_iff.1 key
          obtain ⟨T, rfl, hT⟩ := ih n' (by omega) h2
          obtain ⟨_, _, hcell⟩ := World.cells?_some h1
          refine ⟨T, ?_, hT⟩
          obtain ⟨bl, o, spot⟩ := a
          have hsp : spot = Option.none := hspot (by omega)
          subst hsp
          refine ⟨bl, o, rfl, fun j hj => ?_⟩
          have := hcell j hj
          rwa [add_plain, add_plain] at this)
        refine ⟨.mk k b m s t (some a) len cap kid, rfl, ⟨w0, w1, w2, w3, hlc, hcm⟩, fun i hi => ?_⟩
        obtain ⟨⟨bl, o, ha, hc⟩, hk⟩ := hkid i hi
        exact ⟨⟨bl, o, by rw [ha], hc⟩, hk⟩

set_option maxRecDepth 10000 in
theorem open_arg {r : Reach} {b0 : Nat} {v : Value} {d : DataW H} {p : List MemPlace} (hv : Value.okWide Tryd.prog w r b0 29 v) (h : DataW.Trod enc Tryd.prog w base spare held 29 v d p) :
    ∃ T : VT, v = T.val ∧ T.In w := by
  obtain ⟨cs, rfl, hsz⟩ := okWide_struct Tryd.underlying29 hv
  obtain ⟨fuel, hf⟩ := h
  obtain ⟨T, hT, hin⟩ := open_val fuel hf
  refine ⟨T, ?_, hin⟩
  cases T with
  | none => exact absurd hin (by simp [VT.In])
  | mk =>
    simp [Value.cells] at hT
    show Value.agg cs = .agg _
    congr 1
    apply Array.ext'
    simpa [VT.cells] using hT
end
end Go.Proofs.YtejnmkhdnhggcaaDoor

/- Moves through a region whose order is drawn, an operation at a time: one that runs, one whose guard says no. -/
namespace Go.Proofs.YtejnmkhdnhggcaaDoor

theorem skipAt {P : Program} {ops : Array Oper} {Q : Exit → Act → World → Prop} {md : Region.Mode} {S : World → Prop} {fuel : Nat} {listed : Array Bool} {a : Act} {w : World} (i : Nat) (d : Option Tmp)
    (hi : ∃ oi, ops[i]? = some oi ∧ oi.dst = d ∧ Region.wanted oi (yielded ops a.tmps) = false)
    (hs : Region.noSelect ops = true) (hf : Region.free md ops listed i = true) (hr : (Region.ready md ops listed).contains i = true)
    (hQ : ∀ c a w, Q (.panic c) (a.put d undef) w → Q (.panic c) a w) (hS : S w)
    (h : wpAnyH P md ops Q S fuel (listed.setIfInBounds i true) (a.put d undef) w) : wpAnyH P md ops Q S (fuel + 1) listed a w := by
  obtain ⟨oi, h1, h2, h3⟩ := hi
  subst h2
  exact wpAnyH_take h1 hs hf hr hQ (Or.inr ⟨h3, rfl⟩) hS h

theorem takeAt {P : Program} {ops : Array Oper} {Q : Exit → Act → World → Prop} {md : Region.Mode} {S : World → Prop} {fuel : Nat} {listed : Array Bool} {a : Act} {w : World} (i : Nat) (d : Option Tmp) (v : Value)
    (hi : ∃ oi, ops[i]? = some oi ∧ oi.dst = d ∧ Region.wanted oi (yielded ops a.tmps) = true ∧ ∀ w, S w → (execOp a.eval oi).run P w = .ok (.value v) w)
    (hs : Region.noSelect ops = true) (hf : Region.free md ops listed i = true) (hr : (Region.ready md ops listed).contains i = true)
    (hQ : ∀ c a w, Q (.panic c) (a.put d v) w → Q (.panic c) a w) (hS : S w)
    (h : wpAnyH P md ops Q S fuel (listed.setIfInBounds i true) (a.put d v) w) : wpAnyH P md ops Q S (fuel + 1) listed a w := by
  obtain ⟨oi, h1, h2, h3, h4⟩ := hi
  subst h2
  exact wpAnyH_take h1 hs hf hr hQ (Or.inl ⟨h3, h4⟩) hS h

end Go.Proofs.YtejnmkhdnhggcaaDoor

/- A pure move through a region whose order is drawn, in few words. -/
namespace Go.Proofs.YtejnmkhdnhggcaaDoor

theorem takeA {P : Program} {ops : Array Oper} {Q : Exit → Act → World → Prop} {md : Region.Mode} {S : World → Prop} {fuel : Nat} {listed : Array Bool} {a : Act} {w : World} (i : Nat) (d : Option Tmp) (v : Value)
    (hi : ∃ oi, ops[i]? = some oi ∧ oi.dst = d ∧ Region.wanted oi (yielded ops a.tmps) = true ∧ ∀ w, S w → (execOp a.eval oi).run P w = .ok (.value v) w)
    (h : wpAnyH P md ops Q S fuel (listed.setIfInBounds i true) (a.put d v) w)
    (hs : Region.noSelect ops = true := by kernel_rfl) (hf : Region.free md ops listed i = true := by kernel_rfl) (hr : (Region.ready md ops listed).contains i = true := by kernel_rfl)
    (hQ : ∀ c a w, Q (.panic c) (a.put d v) w → Q (.panic c) a w := by exact fun _ _ _ h => h) (hS : S w := by assumption) : wpAnyH P md ops Q S (fuel + 1) listed a w := takeAt i d v hi hs hf hr hQ hS h
/- the same; what the move yields, and how the slots then stand, is found at the place of use. -/
theorem takeC {P : Program} {ops : Array Oper} {Q : Exit → Act → World → Prop} {md : Region.Mode} {S : World → Prop} {fuel : Nat} {listed : Array Bool} {a a' : Act} {w : World} (i : Nat) (d : Option Tmp) {v : Value}
    (h : wpAnyH P md ops Q S fuel (listed.setIfInBounds i true) a' w)
    (hi : ∃ oi, ops[i]? = some oi ∧ oi.dst = d ∧ Region.wanted oi (yielded ops a.tmps) = true ∧ ∀ w, S w → (execOp a.eval oi).run P w = .ok (.value v) w := by
      exact ⟨_, rfl, rfl, rfl, by (intro w0 hSw; (try rw [unhide HSS] at hSw); (try dsimp only at hSw); go_simp; try (with_reducible rfl))⟩)
    (hp : a.put d v = a' := by (simp only [Act.put, List.setIfInBounds_toArray, List.set_cons_zero, List.set_cons_succ]; rfl))
    (hs : Region.noSelect ops = true := by kernel_rfl) (hf : Region.free md ops listed i = true := by kernel_rfl) (hr : (Region.ready md ops listed).contains i = true := by kernel_rfl)
    (hQ : ∀ c a w, Q (.panic c) (a.put d v) w → Q (.panic c) a w := by exact fun _ _ _ h => h) (hS : S w := by assumption) : wpAnyH P md ops Q S (fuel + 1) listed a w := takeAt i d v hi hs hf hr hQ hS (hp ▸ h)
end Go.Proofs.YtejnmkhdnhggcaaDoor
