/- EEnv VCopy ENeg SBld: laid together. -/
import Derived.Deep.DrawnRows
import Derived.Test.YtfdimdjmnfdecaaGreatKAF
import Derived.Test.YtfdimdjmnfdecaaGreatShelf
import Derived.Shelf.Strings.BuilderK
import Derived.Lib.OthersKept
import Derived.Deep.OwnRows
set_option linter.unusedVariables false
set_option linter.unusedSimpArgs false
set_option maxHeartbeats 8000000
namespace Go.Proofs.YtfdimdjmnfdecaaGreat
open Go.RowKit
section
open Go.ChangeShapes Go.WideShapes Go.RowKit
def EnvIn (w : World) (a : Option Addr) (es : List (ByteArray × VT)) : Prop :=
 ∀ i (h : i < es.length), (∃ bl o, a = some ⟨bl, o, none⟩ ∧ w.cell? ⟨bl, o + i * 7, none⟩ = some (.string es[i].1) ∧ ∀ j, j < 6 → w.cell? ⟨bl, o + i * 7 + 1 + j, none⟩ = es[i].2.cells[j]?) ∧ es[i].2.In w
theorem EnvIn.below {w w' : World} {a : Option Addr} {es : List (ByteArray × VT)} (h : EnvIn w a es) (b : Below w.heap.size w w') : EnvIn w' a es := by
 intro i hi
 obtain ⟨⟨bl, o, ha, h0, hc⟩, hk⟩ := h i hi
 have hl : bl < w.heap.size := World.block_lt_of_cell? _ _ h0
 exact ⟨⟨bl, o, ha, ((bcell b).1 bl _ hl).trans h0, fun j hj => ((bcell b).1 bl _ hl).trans (hc j hj)⟩, hk.below b⟩
def envT (es : List (ByteArray × VT)) : List (List UInt8 × VT) := es.map fun e => (XT.tl e.1, e.2.bare)
def Seven (w : World) (bl o : Nat) (n : ByteArray) (k : Int) (b : Bool) (m s : Int) (t : ByteArray) (a : Option Addr) (len cap : Nat) : Prop :=
 bl < w.heap.size ∧ w.cell? ⟨bl, o, none⟩ = some (.string n) ∧ w.cell? ⟨bl, o + 1, none⟩ = some (.int .i64 k) ∧ w.cell? ⟨bl, o + 2, none⟩ = some (.bool b) ∧ w.cell? ⟨bl, o + 3, none⟩ = some (.int .i64 m) ∧ w.cell? ⟨bl, o + 4, none⟩ = some (.int .i64 s) ∧ w.cell? ⟨bl, o + 5, none⟩ = some (.string t) ∧ w.cell? ⟨bl, o + 6, none⟩ = some (.slice a len cap)
theorem EnvIn.at {w : World} {a : Option Addr} {es : List (ByteArray × VT)} (h : EnvIn w a es) {i : Nat} (hi : i < es.length) :
  ∃ bl o n k b m s t a' len cap kid, a = some ⟨bl, o, none⟩ ∧ es[i] = (n, .mk k b m s t a' len cap kid) ∧ Seven w bl (o + i * 7) n k b m s t a' len cap ∧ (VT.mk k b m s t a' len cap kid).In w := by
 obtain ⟨⟨bl, o, ha, h0, hc⟩, hk⟩ := h i hi
 obtain ⟨k, b, m, s, t, a', len, cap, kid, hx⟩ := hk.form
 rw [hx] at hc hk
 refine ⟨bl, o, es[i].1, k, b, m, s, t, a', len, cap, kid, ha, by rw [← hx], ⟨World.block_lt_of_cell? _ _ h0, h0, hc 0 (by omega), hc 1 (by omega), hc 2 (by omega), hc 3 (by omega), hc 4 (by omega), hc 5 (by omega)⟩, hk⟩
theorem Seven.below {w w' : World} {bl o : Nat} {n : ByteArray} {k : Int} {b : Bool} {m s : Int} {t : ByteArray} {a : Option Addr} {len cap : Nat} (h : Seven w bl o n k b m s t a len cap) (hb : Below w.heap.size w w') : Seven w' bl o n k b m s t a len cap := by
 obtain ⟨h0, h1, h2, h3, h4, h5, h6, h7⟩ := h
 have hc := (bcell hb).1
 exact ⟨Nat.lt_of_lt_of_le h0 hb.size, (hc bl _ h0).trans h1, (hc bl _ h0).trans h2, (hc bl _ h0).trans h3, (hc bl _ h0).trans h4, (hc bl _ h0).trans h5, (hc bl _ h0).trans h6, (hc bl _ h0).trans h7⟩
theorem cellsBind : Tryz.prog.cellsOf 48 = 7 := by kernel_rfl
section
variable {H : Type} {enc : TypeId × Value → H} {w : World} {base : Nat} {spare : Nat → Bool} {held : Bool}
set_option maxRecDepth 10000 in
theorem open_bind {fuel : Nat} {cs : List Value} {x : DataW H × List MemPlace} (h : DataW.trod enc Tryz.prog w base spare held fuel 48 cs = some x) :
  ∃ (n : ByteArray) (T : VT), cs = .string n :: T.cells ∧ T.In w ∧ n.size ≤ maxLen := by
 obtain ⟨xs, n, rfl, rfl, hl, hlen, hf⟩ := DataW.trod_struct Tryz.underlying48 h
 rw [cellsBind] at hl
 match xs, hlen, cs, hl with
 | [y0, y1], _, [v0, v1, v2, v3, v4, v5, v6], _ =>
  have g0 := hf 0 _ rfl
  have g1 := hf 1 _ rfl
  simp [cellsS, cellsVal] at g0 g1
  obtain ⟨t, e0, -, w0⟩ := DataW.trod_string Tryz.underlying9 g0
  obtain ⟨T, hT, hin⟩ := open_val _ g1
  simp at e0
  subst e0
  exact ⟨t, T, by rw [← hT], hin, w0⟩
set_option maxRecDepth 10000 in
theorem open_env {r : Reach} {b0 : Nat} {v : Value} {d : DataW H} {p : List MemPlace} (hv : Value.okWide Tryz.prog w r b0 27 v) (h : DataW.Trod enc Tryz.prog w base spare held 27 v d p) :
  ∃ (a : Option Addr) (cap : Nat) (es : List (ByteArray × VT)), v = .slice a es.length cap ∧ EnvIn w a es ∧ es.length ≤ maxLen ∧ ∀ e ∈ es, e.1.size ≤ maxLen := by
 obtain ⟨a0, len0, cap0, rfl⟩ := okWide_slice Tryz.underlying27 hv
 obtain ⟨fuel, hf⟩ := h
 rcases DataW.trod_slice Tryz.underlying27 hf with ⟨e4, -⟩ | ⟨a, len, cap, elems, rest, n', hn, e4, -, hb, hlc, hcm, hel, hget, -, -⟩
 ·simp [Value.cells] at e4
  obtain ⟨rfl, rfl, rfl⟩ := e4
  exact ⟨none, 0, [], rfl, fun i hi => absurd hi (Nat.not_lt_zero _), Nat.zero_le _, fun e he => by cases he⟩
 ·simp [Value.cells] at e4
  obtain ⟨rfl, rfl, rfl⟩ := e4
  rw [cellsBind] at hget
  have hspot : 0 < len0 → a.spot = Option.none := fun h0 => by
   have key := hget 0 h0
   rw [List.getElem?_eq_getElem (by omega)] at key
   obtain ⟨cs', h1, h2⟩ := Option.bind_eq_some_iff.1 key
   obtain ⟨n, T, rfl, hT, -⟩ := open_bind h2
   obtain ⟨_, _, hcell⟩ := World.cells?_some h1
   have h0 := hcell 0 (by omega)
   have h00 := World.cell?_spot h0
   simpa [Addr.add] using h00
  obtain ⟨kid, hkid⟩ := Deep.choose_lt (α := ByteArray × VT) (n := len0) (p := fun i T => ((∃ bl o, a = ⟨bl, o, Option.none⟩ ∧ w.cell? ⟨bl, o + i * 7, none⟩ = some (.string T.1) ∧ ∀ j, j < 6 → w.cell? ⟨bl, o + i * 7 + 1 + j, Option.none⟩ = T.2.cells[j]?) ∧ T.2.In w) ∧ T.1.size ≤ maxLen) (fun i hi => by
   have key := hget i hi
   rw [List.getElem?_eq_getElem (by omega)] at key
   obtain ⟨cs', h1, h2⟩ := Option.bind_eq_some_iff.1 key
   obtain ⟨n, T, rfl, hT, hs⟩ := open_bind h2
   obtain ⟨_, _, hcell⟩ := World.cells?_some h1
   refine ⟨(n, T), ⟨?_, hT⟩, hs⟩
   obtain ⟨bl, o, spot⟩ := a
   have hsp : spot = Option.none := hspot (by omega)
   subst hsp
   refine ⟨bl, o, rfl, ?_, fun j hj => ?_⟩
   ·have := hcell 0 (by omega)
    rwa [add_plain, add_plain] at this
   ·have := hcell (j + 1) (by omega)
    rw [add_plain, add_plain] at this
    rw [show o + i * 7 + 1 + j = o + i * 7 + (j + 1) by omega]
    simpa using this)
  refine ⟨some a, cap0, (List.range len0).map kid, by simp, fun i hi => ?_, by simp; omega, fun e he => ?_⟩
  ·have hi' : i < len0 := by simpa using hi
   obtain ⟨⟨⟨bl, o, ha, h0, hc⟩, hk⟩, -⟩ := hkid i hi'
   simp only [List.getElem_map, List.getElem_range]
   exact ⟨⟨bl, o, by rw [ha], h0, hc⟩, hk⟩
  ·simp only [List.mem_map, List.mem_range] at he
   obtain ⟨i, hi, rfl⟩ := he
   exact (hkid i hi).2
end
end
section
attribute [local go_sem ↓] Go.wp_at_zero Go.wp_at_succ
theorem infoVal : (Tryz.prog.info? 32).map (fun i => (i.zero, i.size, i.bytes)) = some (some (.agg #[.int .i64 0, .bool false, .int .i64 0, .int .i64 0, .string ⟨#[]⟩, .slice none 0 0]), 6, 72) := by kernel_rfl
theorem make_val (n : Nat) (hn : n ≤ 8) (w : World) :
  (Instr.makeSlice 30 (.int .i64 (n : Int)) (.int .i64 (n : Int))).run Tryz.prog w = .ok (.slice (some ⟨w.heap.size, 0, none⟩) n n) (w.alloc (.cells (madeCells #[.int .i64 0, .bool false, .int .i64 0, .int .i64 0, .string ⟨#[]⟩, .slice none 0 0] (n * 6)) 32)) := by
 obtain ⟨i, hi, hzz⟩ := Option.map_eq_some_iff.1 infoVal
 simp only [Prod.mk.injEq] at hzz
 obtain ⟨hz, hs, hb⟩ := hzz
 have hr := run_make (P := Tryz.prog) w 30 32 i _ Tryz.underlying30 hi hz .i64 .i64 n n (by omega) (by omega) (by rw [hb]; omega) (by omega)
 simp only [Int.toNat_natCast, hs] at hr
 exact hr
def zeroAt (q : Nat) : Value := (#[.int .i64 0, .bool false, .int .i64 0, .int .i64 0, .string ⟨#[]⟩, .slice none 0 0] : Array Value)[q % 6]!
theorem made_row (w : World) (n : Nat) (t : TypeId) : (w.alloc (.cells (madeCells #[.int .i64 0, .bool false, .int .i64 0, .int .i64 0, .string ⟨#[]⟩, .slice none 0 0] (n * 6)) t)).rowIs w.heap.size t (n * 6) zeroAt :=
 ⟨_, Deep.blk_alloc_new _ _, size_madeCells _ _, fun i hi => by simp [madeCells, hi, zeroAt]⟩
def CopyOf (x : VT) : Prop := ∀ (n : Nat) (w : World), x.okB n = true → x.In w →
  Calls Tryz.prog 80 #[x.val] w fun e w' => (∃ y : VT, e = .returned y.val ∧ y.In w' ∧ y.Fresh w.heap.size w' ∧ y.same x = true) ∧ Below w.heap.size w w'
theorem again_any (x : VT) : CopyOf x := by
 induction x with
 | none => intro n w h; exact absurd h (by simp [VT.okB])
 | mk k b m s t a len cap kid ih =>
  intro n w hok hin
  obtain ⟨wk, wm, ws, ht, hlc, hcm⟩ := hin.1
  show Calls Tryz.prog 80 #[.agg #[.int .i64 k, .bool b, .int .i64 m, .int .i64 s, .string t, .slice a len cap]] w _
  by_cases hl : len = 0
  ·subst hl
   have Y : Hid (∀ w', (VT.mk k b m s t none 0 0 (fun _ => .none)).In w') := fun w' => ⟨⟨wk, wm, ws, ht, Nat.le_refl _, Nat.zero_le _⟩, fun i hi => absurd hi (Nat.not_lt_zero _)⟩
   clear ih wk wm ws ht hlc hcm hok hin
   go_enter Tryz.func80, Tryz.ntmps80
   go_wp2_with fail
   exact bodyPost_ret (v := .agg #[.int .i64 k, .bool b, .int .i64 m, .int .i64 s, .string t, .slice none 0 0]) (by simp [results, Tryz.results80, go_sem]) rfl ⟨⟨.mk k b m s t none 0 0 (fun _ => .none), rfl, unhide Y _, fun i hi => absurd hi (Nat.not_lt_zero _), by unfold VT.same; simp⟩, below3 _ _ _ _⟩
  ·have hl8 : len ≤ 8 := by
    by_cases k4 : k = 4
    ·subst k4; exact (okB_list hok).1
    ·have := (alone_t (okB_kind hok).1).2.2.2 k4; omega
   have okk : ∀ i, i < len → (kid i).okB (n - 1) = true := by
    by_cases k4 : k = 4
    ·subst k4; exact (okB_list hok).2
    ·have := (alone_t (okB_kind hok).1).2.2.2 k4; omega
   have hmk := make_val len hl8
   have e0 : ((len : Int) == 0) = false := by simp; omega
   have WF := hide (And.intro wk (And.intro wm (And.intro ws ht)))
   clear wk wm ws ht hlc hcm hok
   go_enter Tryz.func80, Tryz.ntmps80
   go_wp2_with fail
   clear hmk
   have bW : Below w.heap.size w ((((w.alloc (Obj.cells #[.int .i64 k, .bool b, .int .i64 m, .int .i64 s, .string t, .slice a len cap] 32)).alloc (Obj.cells #[.int .i64 0, .bool false, .int .i64 0, .int .i64 0, .string ⟨#[]⟩, .slice none 0 0] 32)).alloc (Obj.cells #[.int .i64 k, .bool b, .int .i64 m, .int .i64 s, .string t, .slice (some ⟨w.heap.size + 1 + 1 + 1, 0, none⟩) len len] 32)).alloc (Obj.cells (madeCells #[.int .i64 0, .bool false, .int .i64 0, .int .i64 0, .string ⟨#[]⟩, .slice none 0 0] (len * 6)) 32)) := (below3 w _ _ _).alloc (by first | (simp; done) | (simp; omega)) _
   have o1 : Own ((((w.alloc (Obj.cells #[.int .i64 k, .bool b, .int .i64 m, .int .i64 s, .string t, .slice a len cap] 32)).alloc (Obj.cells #[.int .i64 0, .bool false, .int .i64 0, .int .i64 0, .string ⟨#[]⟩, .slice none 0 0] 32)).alloc (Obj.cells #[.int .i64 k, .bool b, .int .i64 m, .int .i64 s, .string t, .slice (some ⟨w.heap.size + 1 + 1 + 1, 0, none⟩) len len] 32)).alloc (Obj.cells (madeCells #[.int .i64 0, .bool false, .int .i64 0, .int .i64 0, .string ⟨#[]⟩, .slice none 0 0] (len * 6)) 32)) (w.heap.size + 1) := ⟨⟨by first | (simp; done) | (simp; omega), by go_simp, by go_simp, by go_simp, by go_simp, by go_simp, by go_simp⟩, by go_simp, by go_simp, by go_simp, by go_simp, by go_simp, by go_simp⟩
   have s2 : VT.Six ((((w.alloc (Obj.cells #[.int .i64 k, .bool b, .int .i64 m, .int .i64 s, .string t, .slice a len cap] 32)).alloc (Obj.cells #[.int .i64 0, .bool false, .int .i64 0, .int .i64 0, .string ⟨#[]⟩, .slice none 0 0] 32)).alloc (Obj.cells #[.int .i64 k, .bool b, .int .i64 m, .int .i64 s, .string t, .slice (some ⟨w.heap.size + 1 + 1 + 1, 0, none⟩) len len] 32)).alloc (Obj.cells (madeCells #[.int .i64 0, .bool false, .int .i64 0, .int .i64 0, .string ⟨#[]⟩, .slice none 0 0] (len * 6)) 32)) (w.heap.size + 1 + 1) 0 k b m s t (some ⟨w.heap.size + 1 + 1 + 1, 0, none⟩) len len := ⟨by simp, by go_simp, by go_simp, by go_simp, by go_simp, by go_simp, by go_simp⟩
   have row : ((((w.alloc (Obj.cells #[.int .i64 k, .bool b, .int .i64 m, .int .i64 s, .string t, .slice a len cap] 32)).alloc (Obj.cells #[.int .i64 0, .bool false, .int .i64 0, .int .i64 0, .string ⟨#[]⟩, .slice none 0 0] 32)).alloc (Obj.cells #[.int .i64 k, .bool b, .int .i64 m, .int .i64 s, .string t, .slice (some ⟨w.heap.size + 1 + 1 + 1, 0, none⟩) len len] 32)).alloc (Obj.cells (madeCells #[.int .i64 0, .bool false, .int .i64 0, .int .i64 0, .string ⟨#[]⟩, .slice none 0 0] (len * 6)) 32)).rowIs (w.heap.size + 1 + 1 + 1) 32 (len * 6) zeroAt := by
    have h := made_row (((w.alloc (Obj.cells #[.int .i64 k, .bool b, .int .i64 m, .int .i64 s, .string t, .slice a len cap] 32)).alloc (Obj.cells #[.int .i64 0, .bool false, .int .i64 0, .int .i64 0, .string ⟨#[]⟩, .slice none 0 0] 32)).alloc (Obj.cells #[.int .i64 k, .bool b, .int .i64 m, .int .i64 s, .string t, .slice (some ⟨w.heap.size + 1 + 1 + 1, 0, none⟩) len len] 32)) len 32
    simpa using h
   have zW : w.heap.size + 4 ≤ ((((w.alloc (Obj.cells #[.int .i64 k, .bool b, .int .i64 m, .int .i64 s, .string t, .slice a len cap] 32)).alloc (Obj.cells #[.int .i64 0, .bool false, .int .i64 0, .int .i64 0, .string ⟨#[]⟩, .slice none 0 0] 32)).alloc (Obj.cells #[.int .i64 k, .bool b, .int .i64 m, .int .i64 s, .string t, .slice (some ⟨w.heap.size + 1 + 1 + 1, 0, none⟩) len len] 32)).alloc (Obj.cells (madeCells #[.int .i64 0, .bool false, .int .i64 0, .int .i64 0, .string ⟨#[]⟩, .slice none 0 0] (len * 6)) 32)).heap.size := by simp
   generalize ((((w.alloc (Obj.cells #[.int .i64 k, .bool b, .int .i64 m, .int .i64 s, .string t, .slice a len cap] 32)).alloc (Obj.cells #[.int .i64 0, .bool false, .int .i64 0, .int .i64 0, .string ⟨#[]⟩, .slice none 0 0] 32)).alloc (Obj.cells #[.int .i64 k, .bool b, .int .i64 m, .int .i64 s, .string t, .slice (some ⟨w.heap.size + 1 + 1 + 1, 0, none⟩) len len] 32)).alloc (Obj.cells (madeCells #[.int .i64 0, .bool false, .int .i64 0, .int .i64 0, .string ⟨#[]⟩, .slice none 0 0] (len * 6)) 32)) = W at *
   have BW := hide bW
   have HIN := hide hin
   clear bW hin
   generalize hB : w.heap.size = B at *
   have HB := hide hB
   clear hB
   go_loopw [28] (fun i wr => ∃ (j : Nat) (F : Nat → Value) (y : Nat → VT), j ≤ len ∧ i = .int .i64 j ∧ Below B w wr ∧ Own wr (B + 1) ∧ VT.Six wr (B + 1 + 1) 0 k b m s t (some ⟨B + 1 + 1 + 1, 0, none⟩) len len ∧ wr.rowIs (B + 1 + 1 + 1) 32 (len * 6) F ∧ Hid (∀ i, i < j → (∀ q, q < 6 → (y i).cells[q]? = some (F (i * 6 + q))) ∧ (y i).In wr ∧ (y i).Fresh (B + 4) wr ∧ (y i).same (kid i) = true)) (fun i _ => len - (intOf i).toNat)
   case atStart => exact ⟨0, zeroAt, fun _ => .none, Nat.zero_le _, rfl, unhide BW, o1, s2, row, hide (fun i hi => absurd hi (Nat.not_lt_zero _))⟩
   case round =>
    clear o1 s2 row BW
    obtain ⟨j, F, y, hj, rfl, bel, o1, s2, row, HA⟩ := hrel
    have BEL : Below w.heap.size w wr := by rw [unhide HB]; exact bel
    by_cases hlt : j < len
    ·obtain ⟨bl, o, kp, bp, mp, sp, tp, ap, lenp, capp, kidp, rfl, hx, six, hk⟩ := (unhide HIN).kid hlt
     obtain ⟨g0, g1, g2, g3, g4, g5, g6⟩ := six.below BEL
     have ihj := fun w => ih j (n - 1) w (okk j hlt)
     rw [hx] at ihj
     have IH := hide ihj
     have HX := hide hx
     have b1 := below1 wr (Obj.cells #[.int .i64 kp, .bool bp, .int .i64 mp, .int .i64 sp, .string tp, .slice ap lenp capp] 32)
     have HK := hide ((hk.below BEL).below b1)
     have o1' := o1.below b1
     have s2' := VT.Six.below s2 b1
     have row' := row_below row b1
     have HA' := hide (fun i hi => And.intro ((unhide HA i hi).2.1.below b1) (And.intro (VT.Fresh.below b1 _ (unhide HA i hi).2.1 (unhide HA i hi).2.2.1) (And.intro (unhide HA i hi).1 (unhide HA i hi).2.2.2)))
     have bel' : Hid (Below B w (wr.alloc (Obj.cells #[.int .i64 kp, .bool bp, .int .i64 mp, .int .i64 sp, .string tp, .slice ap lenp capp] 32))) := by
      have := bstep BEL b1
      rw [unhide HB] at this
      exact this
     clear ihj hx six hk BEL bel HA
     have zr : B + 4 ≤ wr.heap.size := by have := row.lt; omega
     go_wp2_with fail
     have v0 : (wr.alloc (Obj.cells #[.int .i64 kp, .bool bp, .int .i64 mp, .int .i64 sp, .string tp, .slice ap lenp capp] 32)).cell? ⟨wr.heap.size, 0, none⟩ = some (.int .i64 kp) := by go_simp
     have v1 : (wr.alloc (Obj.cells #[.int .i64 kp, .bool bp, .int .i64 mp, .int .i64 sp, .string tp, .slice ap lenp capp] 32)).cell? ⟨wr.heap.size, 1, none⟩ = some (.bool bp) := by go_simp
     have v2 : (wr.alloc (Obj.cells #[.int .i64 kp, .bool bp, .int .i64 mp, .int .i64 sp, .string tp, .slice ap lenp capp] 32)).cell? ⟨wr.heap.size, 2, none⟩ = some (.int .i64 mp) := by go_simp
     have v3 : (wr.alloc (Obj.cells #[.int .i64 kp, .bool bp, .int .i64 mp, .int .i64 sp, .string tp, .slice ap lenp capp] 32)).cell? ⟨wr.heap.size, 3, none⟩ = some (.int .i64 sp) := by go_simp
     have v4 : (wr.alloc (Obj.cells #[.int .i64 kp, .bool bp, .int .i64 mp, .int .i64 sp, .string tp, .slice ap lenp capp] 32)).cell? ⟨wr.heap.size, 4, none⟩ = some (.string tp) := by go_simp
     have v5 : (wr.alloc (Obj.cells #[.int .i64 kp, .bool bp, .int .i64 mp, .int .i64 sp, .string tp, .slice ap lenp capp] 32)).cell? ⟨wr.heap.size, 5, none⟩ = some (.slice ap lenp capp) := by go_simp
     have zv : wr.heap.size < (wr.alloc (Obj.cells #[.int .i64 kp, .bool bp, .int .i64 mp, .int .i64 sp, .string tp, .slice ap lenp capp] 32)).heap.size := by simp
     clear g0 g1 g2 g3 g4 g5 g6 b1 o1 s2 row
     generalize wr.alloc (Obj.cells #[.int .i64 kp, .bool bp, .int .i64 mp, .int .i64 sp, .string tp, .slice ap lenp capp] 32) = V1 at *
     generalize wr.heap.size = vb at *
     have c5 := s2'.2.2.2.2.2.2
     simp only [Nat.zero_add] at c5
     have SK : Hid (∀ w', Below V1.heap.size V1 w' → (Below B w w' ∧ w'.cell? ⟨B + 1 + 1, 5, none⟩ = some (.slice (some ⟨B + 1 + 1 + 1, 0, none⟩) len len) ∧ w'.cell? ⟨vb, 0, none⟩ = some (.int .i64 kp) ∧ w'.cell? ⟨vb, 1, none⟩ = some (.bool bp) ∧ w'.cell? ⟨vb, 2, none⟩ = some (.int .i64 mp) ∧ w'.cell? ⟨vb, 3, none⟩ = some (.int .i64 sp) ∧ w'.cell? ⟨vb, 4, none⟩ = some (.string tp) ∧ w'.cell? ⟨vb, 5, none⟩ = some (.slice ap lenp capp))) := by
      intro w' kk
      exact ⟨(unhide bel').trans (kk.mono (by omega)), kcell kk (by omega) c5, kcell kk zv v0, kcell kk zv v1, kcell kk zv v2, kcell kk zv v3, kcell kk zv v4, kcell kk zv v5⟩
     refine wp_region_noPanic ?_
     refine wp_region_held_drew (S := fun w' => Below B w w' ∧ w'.cell? ⟨B + 1 + 1, 5, none⟩ = some (.slice (some ⟨B + 1 + 1 + 1, 0, none⟩) len len) ∧ w'.cell? ⟨vb, 0, none⟩ = some (.int .i64 kp) ∧ w'.cell? ⟨vb, 1, none⟩ = some (.bool bp) ∧ w'.cell? ⟨vb, 2, none⟩ = some (.int .i64 mp) ∧ w'.cell? ⟨vb, 3, none⟩ = some (.int .i64 sp) ∧ w'.cell? ⟨vb, 4, none⟩ = some (.string tp) ∧ w'.cell? ⟨vb, 5, none⟩ = some (.slice ap lenp capp)) (by kernel_rfl) ?hS0 (fun hHeld => ?_)
     case hS0 => exact unhide SK _ (Below.refl _ _).drew
     refine takeC 0 (some 33) ?_
     refine takeC 1 (some 34) ?_
     refine takeC 2 (some 35) ?_
     refine takeC 3 (some 36) ?_
     refine wpAnyH_ready (rs := [4]) (by kernel_rfl) (by simp) ?_
     refine AllReadyH.cons rfl (fun K0 hK0 => ?_) AllReadyH.nil
     go_simp
     refine (unhide IH _ ((unhide HK).below (Below.refl _ _).drew)).mono ?_
     rintro e w2 ⟨⟨yj, rfl, yin, yfr, ysm⟩, k2⟩
     cases yj with
     | none => exact absurd yin (by simp [VT.In])
     | mk kq bq mq sq tq aq lenq capq kidq =>
     show _
     dsimp only [VT.val]
     go_wp2_with fail
     refine hK0.out _ _ ?hS4 (fun hHeld1 => ?_)
     case hS4 => exact unhide SK _ (bstep (Below.refl _ _).drew k2)
     have k1w : Below V1.heap.size V1 w2 := bstep (Below.refl _ _).drew k2
     clear hK0 K0 hHeld
     have hHeld := hHeld1
     clear hHeld1
     try simp only [Act.put, List.setIfInBounds_toArray, List.set_cons_zero, List.set_cons_succ]
     refine takeC 5 (some 38) ?_
     have row2 := row_below row' k1w
     have o12 := o1'.below k1w
     have s22 := VT.Six.below s2' k1w
     have HA2 := hide (fun i hi => And.intro ((unhide HA' i hi).1.below k1w) (And.intro (VT.Fresh.below k1w _ (unhide HA' i hi).1 (unhide HA' i hi).2.1) (unhide HA' i hi).2.2))
     have e0' := row2.cell (i := j * 6) (by omega)
     have e1' := row2.cell (i := j * 6 + 1) (by omega)
     have e2' := row2.cell (i := j * 6 + 2) (by omega)
     have e3' := row2.cell (i := j * 6 + 3) (by omega)
     have e4' := row2.cell (i := j * 6 + 4) (by omega)
     have e5' := row2.cell (i := j * 6 + 5) (by omega)
     have f0' := row2.frozen (j * 6)
     have f1' := row2.frozen (j * 6 + 1)
     have f2' := row2.frozen (j * 6 + 2)
     have f3' := row2.frozen (j * 6 + 3)
     have f4' := row2.frozen (j * 6 + 4)
     have f5' := row2.frozen (j * 6 + 5)
     have YIN := hide yin
     have YFR := hide (VT.Fresh.mono (n' := B + 4) (show B + 4 ≤ V1.heap.size by omega) _ yfr)
     have YSM := hide ysm
     clear yin yfr ysm row' o1' s2' HA' bel' IH HK SK k2 k1w
     refine wpAnyH_ready (rs := [6]) (by kernel_rfl) (by simp) ?_
     refine AllReadyH.cons rfl (fun K0 hK0 => ?_) AllReadyH.nil
     go_simp
     clear e0' e1' e2' e3' e4' e5' f0' f1' f2' f3' f4' f5'
     obtain ⟨hb0, hc0, hv0, hv1, hv2, hv3, hv4, hv5⟩ := hHeld
     refine hK0.out _ _ ?hS6 (fun hHeld1 => ?_)
     case hS6 => exact ⟨put_below w2 (B + 1 + 1 + 1) (j * 6) (.int .i64 kq) (.bool bq) (.int .i64 mq) (.int .i64 sq) (.string tq) (.slice aq lenq capq) hb0 (by omega), (put_cell w2 (B + 1 + 1 + 1) (j * 6) (.int .i64 kq) (.bool bq) (.int .i64 mq) (.int .i64 sq) (.string tq) (.slice aq lenq capq) (by omega)).trans hc0, (put_cell w2 (B + 1 + 1 + 1) (j * 6) (.int .i64 kq) (.bool bq) (.int .i64 mq) (.int .i64 sq) (.string tq) (.slice aq lenq capq) (by omega)).trans hv0, (put_cell w2 (B + 1 + 1 + 1) (j * 6) (.int .i64 kq) (.bool bq) (.int .i64 mq) (.int .i64 sq) (.string tq) (.slice aq lenq capq) (by omega)).trans hv1, (put_cell w2 (B + 1 + 1 + 1) (j * 6) (.int .i64 kq) (.bool bq) (.int .i64 mq) (.int .i64 sq) (.string tq) (.slice aq lenq capq) (by omega)).trans hv2, (put_cell w2 (B + 1 + 1 + 1) (j * 6) (.int .i64 kq) (.bool bq) (.int .i64 mq) (.int .i64 sq) (.string tq) (.slice aq lenq capq) (by omega)).trans hv3, (put_cell w2 (B + 1 + 1 + 1) (j * 6) (.int .i64 kq) (.bool bq) (.int .i64 mq) (.int .i64 sq) (.string tq) (.slice aq lenq capq) (by omega)).trans hv4, (put_cell w2 (B + 1 + 1 + 1) (j * 6) (.int .i64 kq) (.bool bq) (.int .i64 mq) (.int .i64 sq) (.string tq) (.slice aq lenq capq) (by omega)).trans hv5⟩
     clear hK0 K0
     have q1 := put_below w2 (B + 1 + 1 + 1) (j * 6) (.int .i64 kq) (.bool bq) (.int .i64 mq) (.int .i64 sq) (.string tq) (.slice aq lenq capq) hb0 (by omega)
     have q2 := put_own w2 (B + 1 + 1 + 1) (j * 6) (.int .i64 kq) (.bool bq) (.int .i64 mq) (.int .i64 sq) (.string tq) (.slice aq lenq capq) o12 (by omega)
     have q3 := put_six w2 (B + 1 + 1 + 1) (j * 6) (.int .i64 kq) (.bool bq) (.int .i64 mq) (.int .i64 sq) (.string tq) (.slice aq lenq capq) s22 (by omega)
     have q4 := put_row w2 (B + 1 + 1 + 1) (j * 6) (.int .i64 kq) (.bool bq) (.int .i64 mq) (.int .i64 sq) (.string tq) (.slice aq lenq capq) row2
     have q5 := hide (put_away w2 (B + 1 + 1 + 1) (j * 6) (.int .i64 kq) (.bool bq) (.int .i64 mq) (.int .i64 sq) (.string tq) (.slice aq lenq capq) (n := B + 4) (by omega) (unhide YIN) (unhide YFR))
     have q6 := hide (fun i hi => put_away w2 (B + 1 + 1 + 1) (j * 6) (.int .i64 kq) (.bool bq) (.int .i64 mq) (.int .i64 sq) (.string tq) (.slice aq lenq capq) (n := B + 4) (by omega) (unhide HA2 i hi).1 (unhide HA2 i hi).2.1)
     generalize ((((((w2.setCell ⟨B + 1 + 1 + 1, j * 6, none⟩ (.int .i64 kq)).setCell ⟨B + 1 + 1 + 1, j * 6 + 1, none⟩ (.bool bq)).setCell ⟨B + 1 + 1 + 1, j * 6 + 2, none⟩ (.int .i64 mq)).setCell ⟨B + 1 + 1 + 1, j * 6 + 3, none⟩ (.int .i64 sq)).setCell ⟨B + 1 + 1 + 1, j * 6 + 4, none⟩ (.string tq)).setCell ⟨B + 1 + 1 + 1, j * 6 + 5, none⟩ (.slice aq lenq capq)) = w3 at *
     clear hHeld1 hb0 hc0 hv0 hv1 hv2 hv3 hv4 hv5 o12 s22 row2 YIN YFR
     refine wpAnyH_done (by kernel_rfl) ?_ _
     refine NoPanic.normal ?_
     go_wp2_with fail
     go_roundw
     case rel =>
      refine ⟨j + 1, _, fun i => if i = j then VT.mk kq bq mq sq tq aq lenq capq kidq else y i, by omega, by go_num, q1, q2, q3, q4, hide (fun i hi => ?_)⟩
      by_cases hij : i = j
      ·subst hij
       dsimp only
       rw [if_pos rfl]
       refine ⟨fun q hq => ?_, (unhide q5).1, (unhide q5).2, by rw [unhide HX]; exact unhide YSM⟩
       obtain ⟨p0, p1, p2, p3, p4, p5⟩ := putF_in (i * 6) (.int .i64 kq) (.bool bq) (.int .i64 mq) (.int .i64 sq) (.string tq) (.slice aq lenq capq) F
       match q, hq with
       | 0, _ => exact congrArg some p0.symm
       | 1, _ => exact congrArg some p1.symm
       | 2, _ => exact congrArg some p2.symm
       | 3, _ => exact congrArg some p3.symm
       | 4, _ => exact congrArg some p4.symm
       | 5, _ => exact congrArg some p5.symm
      ·dsimp only
       rw [if_neg hij]
       have hi' : i < j := by omega
       refine ⟨fun q hq => ?_, (unhide q6 i hi').1, (unhide q6 i hi').2, (unhide HA2 i hi').2.2.2⟩
       rw [putF_out (by omega)]
       exact (unhide HA2 i hi').2.2.1 q hq
     case measure => simp [intOf]; omega
    ·have hjl : j = len := by omega
     subst hjl
     obtain ⟨⟨u0, t0, t1, t2, t3, t4, t5⟩, f0, f1, f2, f3, f4, f5⟩ := id o1
     obtain ⟨r0, r1, r2, r3, r4, r5, r6⟩ := id s2
     simp only [Nat.zero_add] at t0 t1 t2 t3 t4 t5 r1 r2 r3 r4 r5 r6
     go_wp2_with fail
     have q1 : Below B w ((((((wr.setCell ⟨B + 1, 0, none⟩ (.int .i64 k)).setCell ⟨B + 1, 1, none⟩ (.bool b)).setCell ⟨B + 1, 2, none⟩ (.int .i64 m)).setCell ⟨B + 1, 3, none⟩ (.int .i64 s)).setCell ⟨B + 1, 4, none⟩ (.string t)).setCell ⟨B + 1, 5, none⟩ (.slice (some ⟨B + 1 + 1 + 1, 0, none⟩) j j)) := put_below wr (B + 1) 0 (.int .i64 k) (.bool b) (.int .i64 m) (.int .i64 s) (.string t) (.slice (some ⟨B + 1 + 1 + 1, 0, none⟩) j j) bel (by omega)
     have q6 : Hid (∀ i, i < j → (y i).In ((((((wr.setCell ⟨B + 1, 0, none⟩ (.int .i64 k)).setCell ⟨B + 1, 1, none⟩ (.bool b)).setCell ⟨B + 1, 2, none⟩ (.int .i64 m)).setCell ⟨B + 1, 3, none⟩ (.int .i64 s)).setCell ⟨B + 1, 4, none⟩ (.string t)).setCell ⟨B + 1, 5, none⟩ (.slice (some ⟨B + 1 + 1 + 1, 0, none⟩) j j)) ∧ (y i).Fresh (B + 4) ((((((wr.setCell ⟨B + 1, 0, none⟩ (.int .i64 k)).setCell ⟨B + 1, 1, none⟩ (.bool b)).setCell ⟨B + 1, 2, none⟩ (.int .i64 m)).setCell ⟨B + 1, 3, none⟩ (.int .i64 s)).setCell ⟨B + 1, 4, none⟩ (.string t)).setCell ⟨B + 1, 5, none⟩ (.slice (some ⟨B + 1 + 1 + 1, 0, none⟩) j j))) := hide (fun i hi => put_away wr (B + 1) 0 (.int .i64 k) (.bool b) (.int .i64 m) (.int .i64 s) (.string t) (.slice (some ⟨B + 1 + 1 + 1, 0, none⟩) j j) (n := B + 4) (by omega) (unhide HA i hi).2.1 (unhide HA i hi).2.2.1)
     have q7 : ∀ i, i < j * 6 → ((((((wr.setCell ⟨B + 1, 0, none⟩ (.int .i64 k)).setCell ⟨B + 1, 1, none⟩ (.bool b)).setCell ⟨B + 1, 2, none⟩ (.int .i64 m)).setCell ⟨B + 1, 3, none⟩ (.int .i64 s)).setCell ⟨B + 1, 4, none⟩ (.string t)).setCell ⟨B + 1, 5, none⟩ (.slice (some ⟨B + 1 + 1 + 1, 0, none⟩) j j)).cell? ⟨B + 1 + 1 + 1, i, none⟩ = some (F i) := fun i hi => (put_cell wr (B + 1) 0 (.int .i64 k) (.bool b) (.int .i64 m) (.int .i64 s) (.string t) (.slice (some ⟨B + 1 + 1 + 1, 0, none⟩) j j) (by omega)).trans (row.cell hi)
     have q8 : ∀ i, ((((((wr.setCell ⟨B + 1, 0, none⟩ (.int .i64 k)).setCell ⟨B + 1, 1, none⟩ (.bool b)).setCell ⟨B + 1, 2, none⟩ (.int .i64 m)).setCell ⟨B + 1, 3, none⟩ (.int .i64 s)).setCell ⟨B + 1, 4, none⟩ (.string t)).setCell ⟨B + 1, 5, none⟩ (.slice (some ⟨B + 1 + 1 + 1, 0, none⟩) j j)).frozen? ⟨B + 1 + 1 + 1, i, none⟩ = false := fun i => (put_froz wr (B + 1) 0 (.int .i64 k) (.bool b) (.int .i64 m) (.int .i64 s) (.string t) (.slice (some ⟨B + 1 + 1 + 1, 0, none⟩) j j) _ i).trans (row.frozen i)
     refine bodyPost_ret (v := .agg #[.int .i64 k, .bool b, .int .i64 m, .int .i64 s, .string t, .slice (some ⟨B + 1 + 1 + 1, 0, none⟩) j j]) (by simp [results, Tryz.results80, go_sem, t0, t1, t2, t3, t4, t5]) rfl ⟨⟨.mk k b m s t (some ⟨B + 1 + 1 + 1, 0, none⟩) j j y, rfl, ?_, ?_, ?_⟩, ?_⟩
     ·obtain ⟨wk, wm, ws, ht⟩ := unhide WF
      refine ⟨⟨wk, wm, ws, ht, Nat.le_refl _, by unfold maxLen; omega⟩, fun i hi => ⟨⟨_, _, rfl, fun q hq => ?_⟩, (unhide q6 i hi).1⟩⟩
      rw [Nat.zero_add, q7 _ (by omega)]
      exact ((unhide HA i hi).1 q hq).symm
     ·intro i hi
      rw [unhide HB]
      exact ⟨⟨_, _, rfl, by omega, fun q _ => q8 _⟩, VT.Fresh.mono (by omega) _ (unhide q6 i hi).2⟩
     ·unfold VT.same
      simp only [decide_true, Bool.true_and]
      exact all_range (f := fun i => (y i).same (kid i)) (fun i hi => (unhide HA i hi).2.2.2)
     ·rw [unhide HB]; exact q1
theorem copy_any (x : VT) (w : World) (hok : x.okB 2 = true) (hin : x.In w) :
  Calls Tryz.prog 49 #[x.val] w fun e w' => (∃ y : VT, e = .returned y.val ∧ y.In w' ∧ y.Fresh w.heap.size w' ∧ y.same x = true) ∧ Below w.heap.size w w' := by
 cases x with
 | none => exact absurd hin (by simp [VT.In])
 | mk k b m s t a len cap kid =>
  show Calls Tryz.prog 49 #[.agg #[.int .i64 k, .bool b, .int .i64 m, .int .i64 s, .string t, .slice a len cap]] w _
  have b0 := below2 w (Obj.cells #[.int .i64 k, .bool b, .int .i64 m, .int .i64 s, .string t, .slice a len cap] 32) (Obj.cells #[.int .i64 0, .bool false, .int .i64 0, .int .i64 0, .string ⟨#[]⟩, .slice none 0 0] 32)
  have H1 := vis_any _ _ (hin.below b0)
  rw [hok] at H1
  have HH1 := hide H1
  have HH2 := hide (fun w h => again_any _ 2 w hok h)
  have HI := hide (hin.below b0)
  clear H1 hin hok
  go_enter Tryz.func49, Tryz.ntmps49
  go_wp2_with fail
  refine (unhide HH1).mono ?_
  rintro e w1 ⟨rfl, k1⟩
  have oo : Own ((w.alloc (Obj.cells #[.int .i64 k, .bool b, .int .i64 m, .int .i64 s, .string t, .slice a len cap] 32)).alloc (Obj.cells #[.int .i64 0, .bool false, .int .i64 0, .int .i64 0, .string ⟨#[]⟩, .slice none 0 0] 32)) (w.heap.size + 1) := by
   have h := Own.new (w.alloc (Obj.cells #[.int .i64 k, .bool b, .int .i64 m, .int .i64 s, .string t, .slice a len cap] 32)) 32
   simpa using h
  have o1 := oo.below k1
  obtain ⟨c1, -⟩ := bcell k1
  go_wp2_with fail
  refine (unhide HH2 _ ((unhide HI).below k1)).mono ?_
  rintro e w2 ⟨⟨y, rfl, yin, yfr, ysm⟩, k2⟩
  have o2 := o1.below k2
  have bb := bstep b0 (bstep k1 k2)
  have z1 : w.heap.size + 2 ≤ w1.heap.size := by have := k1.size; simp at this; omega
  cases y with
  | none => exact absurd yin (by simp [VT.In])
  | mk kq bq mq sq tq aq lenq capq kidq =>
   dsimp only [VT.val]
   obtain ⟨⟨u0, t0, t1, t2, t3, t4, t5⟩, f0, f1, f2, f3, f4, f5⟩ := id o2
   simp only [Nat.zero_add] at t0 t1 t2 t3 t4 t5
   have Y := hide (put_away w2 (w.heap.size + 1) 0 (.int .i64 kq) (.bool bq) (.int .i64 mq) (.int .i64 sq) (.string tq) (.slice aq lenq capq) (n := w1.heap.size) (by omega) yin yfr)
   have YS := hide ysm
   have QB : Hid (Below w.heap.size w ((((((w2.setCell ⟨w.heap.size + 1, 0, none⟩ (.int .i64 kq)).setCell ⟨w.heap.size + 1, 1, none⟩ (.bool bq)).setCell ⟨w.heap.size + 1, 2, none⟩ (.int .i64 mq)).setCell ⟨w.heap.size + 1, 3, none⟩ (.int .i64 sq)).setCell ⟨w.heap.size + 1, 4, none⟩ (.string tq)).setCell ⟨w.heap.size + 1, 5, none⟩ (.slice aq lenq capq))) := hide (put_below w2 (w.heap.size + 1) 0 (.int .i64 kq) (.bool bq) (.int .i64 mq) (.int .i64 sq) (.string tq) (.slice aq lenq capq) bb (by omega))
   clear oo o1 o2 c1 k1 k2 b0 yin yfr ysm bb HI HH1 HH2
   go_wp2_with fail
   exact bodyPost_ret (v := .agg #[.int .i64 kq, .bool bq, .int .i64 mq, .int .i64 sq, .string tq, .slice aq lenq capq]) (by simp [results, Tryz.results49, go_sem, t0, t1, t2, t3, t4, t5]) rfl ⟨⟨.mk kq bq mq sq tq aq lenq capq kidq, rfl, (unhide Y).1, VT.Fresh.mono (by omega) _ (unhide Y).2, unhide YS⟩, unhide QB⟩
end
section
open VT (leaf mkV)
def VRes (N : Nat) (w' : World) (X : VT) (v : Value) : Prop := ∃ T : VT, v = T.val ∧ T.In w' ∧ T.Lies (fun g => N ≤ g) ∧ T.bare = X
theorem rec_val (m s e : Int) : ∃ K BB M SS TT, (recT m s e).1.val = lfv K BB M SS TT ∧ (recT m s e).1 = leaf K BB M SS TT := by
 unfold recT
 split
 ·exact ⟨_, _, _, _, _, rfl, rfl⟩
 ·exact ⟨_, _, _, _, _, rfl, rfl⟩
theorem neg_any (x : VT) (w : World) (hx : x.okB 2 = true) (hin : x.In w) :
  Calls Tryz.prog 52 #[x.val] w fun e w' => e = .returned (Tup (negT x)) ∧ Below w.heap.size w w' := by
 obtain ⟨k, b, m, s, t, a, len, cap, kid, rfl⟩ := hin.form
 have BT := boxes1 w k b m s t a len cap
 show Calls Tryz.prog 52 #[.agg #[.int .i64 k, .bool b, .int .i64 m, .int .i64 s, .string t, .slice a len cap]] w _
 unfold negT
 rw [show kdV (VT.mk k b m s t a len cap kid) = k from rfl]
 by_cases hk : k = 2
 ·subst hk
  rw [if_pos rfl]
  have SB := hide (fun w => sub_any 0 0 m s w rfl (okB_num hx))
  have ER : Hid (subR 0 0 (mOf (VT.mk 2 b m s t a len cap kid)) (sOf (VT.mk 2 b m s t a len cap kid)) = recT (fitM (upM 0 0 (max 0 s) - upM m s (max 0 s)) (max 0 s)) (fitS (upM 0 0 (max 0 s) - upM m s (max 0 s)) (max 0 s)) (fitE (upM 0 0 (max 0 s) - upM m s (max 0 s)) (max 0 s))) := hide rfl
  rw [unhide ER]
  generalize fitM (upM 0 0 (max 0 s) - upM m s (max 0 s)) (max 0 s) = M at *
  generalize fitS (upM 0 0 (max 0 s) - upM m s (max 0 s)) (max 0 s) = S at *
  generalize fitE (upM 0 0 (max 0 s) - upM m s (max 0 s)) (max 0 s) = E at *
  clear hx hin ER
  obtain ⟨K, BB, M', SS, TT, eV, -⟩ := rec_val M S E
  have EV := hide eV
  unfold Tup
  rw [eV]
  generalize hE2 : (recT M S E).2 = E2
  have HE2 := hide hE2
  clear hE2 eV
  go_enter Tryz.func52, Tryz.ntmps52
  go_wp2_with fail
  generalize ((w.alloc (Obj.cells #[.int .i64 2, .bool b, .int .i64 m, .int .i64 s, .string t, .slice a len cap] 32)).alloc (Obj.cells #[.int .i64 0, .bool false, .int .i64 0, .int .i64 0, .string ⟨#[]⟩, .slice none 0 0] 32)) = V at *
  obtain ⟨X0, O0, B0, z0⟩ := BT
  refine (unhide SB _).mono ?_
  rintro e w1 ⟨rfl, k1⟩
  have O1 := O0.below k1
  have B1 := bstep B0 k1
  clear k1 O0 B0 X0 z0
  go_wp2_with fail
  refine (reckoned_any _ _ _ _).mono ?_
  rintro e w2 ⟨rfl, k2⟩
  have O2 := O1.below k2
  have B2 := bstep B1 k2
  clear k2 O1 B1
  unfold Tup
  rw [unhide EV, unhide HE2]
  obtain ⟨u0, t0, t1, t2, t3, t4, t5, f0, f1, f2, f3, f4, f5⟩ := Own.fl O2
  unfold lfv
  go_wp2_with fail
  exact bodyPost_ret (v := .tuple #[lfv K BB M' SS TT, .int .i64 E2]) (by simp [results, Tryz.results52, go_sem, lfv, t0, t1, t2, t3, t4, t5]) rfl ⟨rfl, zBL⟩
 ·rw [if_neg hk]
  have e1 : (k != 2) = true := by simpa using hk
  clear hk hx hin
  go_enter Tryz.func52, Tryz.ntmps52
  go_wp2_with fail
  exact bodyPost_ret (v := .tuple #[lfv 0 false 0 0 ⟨#[]⟩, .int .i64 0]) (by simp [results, Tryz.results52, go_sem, lfv]) rfl ⟨rfl, zBL⟩
theorem elist_any (Q : Nat → Prop) (a : Option Addr) (cap : Nat) (l : List VT) (w : World) (hin : (rowT a cap l).In w) (hN : (rowT a cap l).Lies Q) :
  Calls Tryz.prog 53 #[.slice a l.length cap] w fun e w' => (∃ v, e = .returned (.tuple #[v, .int .i64 (lisT (l.map VT.bare)).2]) ∧ ∃ T : VT, v = T.val ∧ T.In w' ∧ T.Lies Q ∧ T.bare = (lisT (l.map VT.bare)).1) ∧ Below w.heap.size w w' := by
 have VI := fun w h => vis_any (rowT a cap l) w h
 rw [← VT.okB_bare, rowT_bare] at VI
 unfold lisT
 have h0 := hin.lies
 have b0 := below2 w (Obj.cells #[.int .i64 0, .bool false, .int .i64 0, .int .i64 0, .string ⟨#[]⟩, .slice none 0 0] 32) (Obj.cells #[.int .i64 4, .bool false, .int .i64 0, .int .i64 0, .string ⟨#[]⟩, .slice a l.length cap] 32)
 have O0 := (Own.new w 32).below (below1 _ (Obj.cells #[.int .i64 4, .bool false, .int .i64 0, .int .i64 0, .string ⟨#[]⟩, .slice a l.length cap] 32))
 have X0 := six_new (w.alloc (Obj.cells #[.int .i64 0, .bool false, .int .i64 0, .int .i64 0, .string ⟨#[]⟩, .slice none 0 0] 32)) 4 false 0 0 ⟨#[]⟩ a l.length cap
 rw [show (w.alloc (Obj.cells #[.int .i64 0, .bool false, .int .i64 0, .int .i64 0, .string ⟨#[]⟩, .slice none 0 0] 32)).heap.size = w.heap.size + 1 by simp] at X0
 have J0 := hide (hin.below b0)
 cases hb : (lisV (l.map VT.bare)).okB 2
 ·rw [if_neg (by simp)]
  rw [hb] at VI
  have VH := hide VI
  clear VI hb
  go_enter Tryz.func53, Tryz.ntmps53
  go_wp2_with fail
  refine (unhide VH _ (unhide J0)).mono ?_
  rintro e w1 ⟨rfl, k1⟩
  have O1 := O0.below k1
  have B1 := bstep b0 k1
  obtain ⟨u0, t0, t1, t2, t3, t4, t5, f0, f1, f2, f3, f4, f5⟩ := Own.fl O1
  go_wp2_with fail
  refine bodyPost_ret (v := .tuple #[lfv 0 false 0 0 ⟨#[]⟩, .int .i64 3]) (by simp [results, Tryz.results53, go_sem, lfv, t0, t1, t2, t3, t4, t5]) rfl ⟨⟨_, rfl, nilV, rfl, VT.in_leaf rfl rfl rfl (Nat.zero_le _), VT.lies_leaf _ _ _ _ _ _ _ _ _, VT.bare_leaf _ _ _ _ _ _ _ _⟩, zBL⟩
 ·rw [if_pos rfl]
  rw [hb] at VI
  have VH := hide VI
  clear VI hb
  go_enter Tryz.func53, Tryz.ntmps53
  go_wp2_with fail
  refine (unhide VH _ (unhide J0)).mono ?_
  rintro e w1 ⟨rfl, k1⟩
  have O1 := O0.below k1
  have B1 := bstep b0 k1
  have X1 := X0.below k1
  have J1 := hide ((unhide J0).below k1)
  obtain ⟨⟨u0, t0, t1, t2, t3, t4, t5⟩, f0, f1, f2, f3, f4, f5⟩ := id O1
  obtain ⟨x0, x1, x2, x3, x4, x5, x6⟩ := id X1
  simp only [Nat.zero_add] at t0 t1 t2 t3 t4 t5 x1 x2 x3 x4 x5 x6
  clear k1 X1 X0 J0 VH
  go_wp2_with fail
  refine bodyPost_ret (v := .tuple #[.agg #[.int .i64 4, .bool false, .int .i64 0, .int .i64 0, .string ⟨#[]⟩, .slice a l.length cap], .int .i64 0]) (by simp [results, Tryz.results53, go_sem, t0, t1, t2, t3, t4, t5]) rfl ⟨⟨_, rfl, rowT a cap l, rfl, ?_, hN, rowT_bare a cap l⟩, zBL⟩
  refine VT.In.kept (Q := fun g => g < w.heap.size) (fun bl o _ hq => ?_) _ (unhide J1) h0
  exact put_cell w1 w.heap.size 0 _ _ _ _ _ _ (by omega)
end
section
open Go.Shelf Go.RowKit
def BA (B b : Nat) (l : List UInt8) (w : World) : Prop := Lib.IsBuilderF 131 5 B b (Lib.byteCells l) w
def Wr (B b : Nat) (l : List UInt8) (w w' : World) : Prop := BA B b l w' ∧ Below B w w' ∧ Lib.OthersKept 5 (some b) w w'
theorem BA.alloc {B b : Nat} {l : List UInt8} {w : World} (h : BA B b l w) (o : Obj) : BA B b l (w.alloc o) := Lib.IsBuilderF.alloc h o
theorem BA.le {B b : Nat} {l : List UInt8} {w : World} (h : BA B b l w) : B ≤ b ∧ b < w.heap.size := by
 rcases h with h | h
 ·exact ⟨h.1, h.lt⟩
 ·exact ⟨h.1, h.lt⟩
theorem strCells_l (s : List UInt8) : Lib.strCells ⟨s.toArray⟩ = Lib.byteCells s := by
 simp [Lib.strCells, Lib.byteCells]
theorem byteCells_app (l s : List UInt8) : Lib.byteCells (l ++ s) = Lib.byteCells l ++ Lib.byteCells s := by simp [Lib.byteCells]
theorem byteCells_len (l : List UInt8) : (Lib.byteCells l).length = l.length := by simp [Lib.byteCells]
theorem bX : Builder.Extra Tryz.prog Tryz.lays169_ren := Tryz.Builder_Extra_169
theorem bInfo : ∃ j, Tryz.prog.info? 131 = some j ∧ j.size = 2 := by
 obtain ⟨j, hj, hjs⟩ := Option.map_eq_some_iff.1 bX.sizeBuilder
 exact ⟨j, hj, hjs⟩
set_option maxRecDepth 100000 in
theorem check_used (b : Nat) (w : World) (h0 : w.cell? ⟨b, 0, none⟩ = some (.pointer (some ⟨b, 0, none⟩))) :
  Calls Tryz.prog 139 #[.pointer (some ⟨b, 0, none⟩)] w fun e w' => e = .returned (.tuple #[]) ∧ w' = w := by
 obtain ⟨j, hj, hjs⟩ := bInfo
 go_enter Tryz.func139, Tryz.ntmps139
 go_wp2_with fail
 rw [Lib.run_neq_ptr_same w _ Tryz.underlying128 hj]
 go_wp2_with fail
 go_end0
 exact ⟨rfl, rfl⟩
set_option maxRecDepth 100000 in
theorem check_fresh (b : Nat) (w : World) (h0 : w.cell? ⟨b, 0, none⟩ = some (.pointer none)) (hsh : w.shape? b = some (131, 2)) (hfz : w.frozen? ⟨b, 0, none⟩ = false) :
  Calls Tryz.prog 139 #[.pointer (some ⟨b, 0, none⟩)] w fun e w' => e = .returned (.tuple #[]) ∧ w' = w.setCell ⟨b, 0, none⟩ (.pointer (some ⟨b, 0, none⟩)) := by
 obtain ⟨j, hj, hjs⟩ := bInfo
 go_enter Tryz.func139, Tryz.ntmps139
 go_wp2_with fail
 rw [Lib.run_to_unsafe w ⟨b, 0, none⟩ Tryz.underlying128 Tryz.underlying143 hj (by rw [hjs]; decide) hsh (Nat.zero_lt_succ 1)]
 simp only [Result.andThen]
 rw [Oper.upon_value]
 go_wp2_with fail
 rw [run_callFunc_extern Tryz.func151 (by kernel_rfl) (by kernel_rfl) (by kernel_rfl) (e := Extern.AbiNoEscape.same) (by kernel_rfl)]
 rw [Lib.run_noEscape]
 simp only [Result.andThen]
 rw [Oper.upon_value]
 go_wp2_with fail
 rw [Lib.run_from_unsafe w ⟨b, 0, none⟩ Tryz.underlying143 Tryz.underlying128 hj hsh bX.liesBuilder]
 simp only [Result.andThen]
 rw [Oper.upon_value]
 go_wp2_with fail
 go_end0
 exact ⟨rfl, rfl⟩
theorem check_any (B b : Nat) (bs : List Value) (w : World) (h : Lib.IsBuilderF 131 5 B b bs w) :
  Calls Tryz.prog 139 #[.pointer (some ⟨b, 0, none⟩)] w fun e w' => e = .returned (.tuple #[]) ∧ Lib.BuilderAtF 131 5 B b (.pointer (some ⟨b, 0, none⟩)) bs w' ∧ Below B w w' ∧ Lib.OthersKept 5 (some b) w w' := by
 rcases h with h | h
 ·refine (check_fresh b w h.cell0 h.shape h.frozen0).mono ?_
  rintro e w' ⟨rfl, rfl⟩
  exact ⟨rfl, h.used _, (Below.refl B w).setCell (p := ⟨b, 0, none⟩) h.1 _, (Lib.OthersKept.refl _ _ w).setCell ⟨b, 0, none⟩ rfl _⟩
 ·refine (check_used b w h.cell0).mono ?_
  rintro e w' ⟨rfl, rfl⟩
  exact ⟨rfl, h, Below.refl B _, Lib.OthersKept.refl _ _ _⟩
set_option maxRecDepth 100000 in
theorem ws_any (B b : Nat) (l s : List UInt8) (w : World) (h : BA B b l w) (hlen : l.length + s.length ≤ 1099511627776) :
  Calls Tryz.prog 123 #[.pointer (some ⟨b, 0, none⟩), .string ⟨s.toArray⟩] w fun e w' => e = .returned (.tuple #[.int .i64 s.length, .nilIface]) ∧ Wr B b (l ++ s) w w' := by
 obtain ⟨hBb, hbw⟩ := h.le
 obtain ⟨i0, hi, hz0, hz1, hz2⟩ := info_parts bX.infoByte
 have HC := hide (check_any B b _ w h)
 go_enter Tryz.func123, Tryz.ntmps123
 go_wp2_with fail
 refine (unhide HC).mono ?_
 rintro e w1 ⟨rfl, h1, hb1, hk1⟩
 obtain ⟨hB, v, hbk, hown, hne⟩ := h1
 have c0 : w1.cell? ⟨b, 0, none⟩ = some (.pointer (some ⟨b, 0, none⟩)) := by rw [Lib.cell_of_heap hbk]; rfl
 have c1 : w1.cell? ⟨b, 1, none⟩ = some v := by rw [Lib.cell_of_heap hbk]; rfl
 have hsz := hb1.size
 go_wp2_with (at_builtin; refine Lib.wpList_append_own_stringF _ rfl _ _ 129 9 rfl B 5 i0 Tryz.underlying129 Tryz.underlying9 hi hz0 hz1 hz2 _ _ _ rfl hown ⟨s.toArray⟩ rfl ?c3 ?c4 ?c5 ?_)
 case c3 => rw [byteCells_len]; show l.length + s.length ≤ maxLen; unfold maxLen; omega
 case c4 => rw [byteCells_len]; show l.length + s.length ≤ _; omega
 case c5 => omega
 intro v' w2 hown' hgrow _
 have hlt : b < w1.heap.size := by omega
 have hb2 : w2.heap[b]? = some (.cells #[.pointer (some ⟨b, 0, none⟩), v] 131 (0, 0)) := by
  rw [hgrow.block b hlt (fun e => hne e.symm)]
  exact hbk
 have d0 : w2.cell? ⟨b, 0, none⟩ = some (.pointer (some ⟨b, 0, none⟩)) := by rw [Lib.cell_of_heap hb2]; rfl
 have d1 : w2.cell? ⟨b, 1, none⟩ = some v := by rw [Lib.cell_of_heap hb2]; rfl
 have f1 : w2.frozen? ⟨b, 1, none⟩ = false := Lib.frozen_of_heap hb2 1
 obtain ⟨ao, n', cap, rfl⟩ : ∃ ao n' cap, v' = .slice ao n' cap := by
  rcases hown'.2 with ⟨hv, _⟩ | ⟨g, cap, cur, fz, hv, _⟩
  ·exact ⟨_, _, _, hv⟩
  ·exact ⟨_, _, _, hv⟩
 go_wp2_with fail
 go_ret2
 refine ⟨rfl, .inr ?_, ?_, (hk1.grown hgrow (Lib.ownsRowF_kind hown)).setCell ⟨b, 1, none⟩ rfl _⟩
 ·rw [byteCells_app, ← strCells_l s]
  exact Lib.BuilderAtF.put (T := 131) (e := 5) hB hb2 (by rw [List.length_append, Lib.strCells_length]; exact hown') bX.neB5
 ·exact (hb1.grown hgrow (by omega) (fun k hk => (hown.lt k hk).1)).setCell (p := ⟨b, 1, none⟩) hB _
theorem bstr_any (B b : Nat) (l : List UInt8) (w : World) (h : BA B b l w) :
  Calls Tryz.prog 124 #[.pointer (some ⟨b, 0, none⟩)] w fun e w' => e = .returned (.string ⟨l.toArray⟩) ∧ Below B w w' := by
 refine (Tryz.Builder_String_any_k B b l w h (by have := h.le; omega)).mono ?_
 rintro e w' ⟨he, _, hb, _⟩
 exact ⟨he, hb⟩
theorem BA.new {B : Nat} {w : World} (hB : B ≤ w.heap.size) : BA B w.heap.size [] (w.alloc (.cells #[.pointer none, .slice none 0 0] 131)) := by
 refine .inl ⟨hB, .slice none 0 0, Deep.blk_alloc_new _ _, ?_, by simp [Value.ownBlock]⟩
 exact ⟨by simp [Lib.byteCells], .inl ⟨rfl, by simp [Lib.byteCells]⟩⟩
theorem Wr.trans {B b : Nat} {l l' : List UInt8} {w w1 w2 : World} (h : Wr B b l w w1) (k : Wr B b l' w1 w2) : Wr B b l' w w2 := ⟨k.1, h.2.1.trans k.2.1, h.2.2.trans k.2.2⟩
end
end Go.Proofs.YtfdimdjmnfdecaaGreat
