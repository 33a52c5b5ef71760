/- KCut KCur KCur2 KNil KSen KOpen KUpto: laid together. -/
import Derived.Test.YtamnndocbnbkiaaDoorHAB
import Derived.Lib.Bytealg
import Derived.Lib.Bytes
import Derived.Test.YtamnndocbnbkiaaDoorRows
import Derived.Stop.LaidErr
import Derived.LaidMore
import Derived.Test.YtamnndocbnbkiaaDoorHAA
import Derived.Deep.Slices
import Derived.Lib.SmallJoins
/- knot's cut: the row that bytes begin with, and what is left behind it. -/
namespace Go.Proofs.YtamnndocbnbkiaaDoor
open Go.RowKit Go.Sort
set_option linter.unusedVariables false
set_option linter.unusedSimpArgs false

theorem idx_head (l : List UInt8) : Lib.indexByte l 58 = if (headT l).length < l.length then ((headT l).length : Int) else -1 := by
  induction l with
  | nil => simp [Lib.indexByte, headT]
  | cons c r ih =>
    by_cases hc : c = 58
    · subst hc
      simp [Lib.indexByte, headT]
    · have e : headT (c :: r) = c :: headT r := by unfold headT; rw [List.takeWhile_cons, if_pos (by simpa using hc)]
      have hle : (headT r).length ≤ r.length := by unfold headT; exact (List.takeWhile_sublist _).length_le
      rw [Lib.indexByte, if_neg (by simpa using hc), ih, e]
      by_cases h : (headT r).length < r.length
      · rw [if_pos h, if_neg (by simp <;> omega), if_pos (by simp <;> omega)]
        rfl
      · rw [if_neg h, if_pos (by simp), if_neg (by simp <;> omega)]
theorem bytesOf_enc (l : List UInt8) : Lib.bytesOf (l.map fun c => (c.toNat : Int)) = l := by
  unfold Lib.bytesOf
  rw [List.map_map]
  have h : ((fun n : Int => UInt8.ofNat n.toNat) ∘ fun c : UInt8 => (c.toNat : Int)) = id := by
    funext c
    simp
  rw [h, List.map_id]
/- a row's beginning, and what is behind it. -/
theorem Row.take {Q : Nat → Prop} {w : World} {a : Option Addr} {n cap : Nat} {l : List UInt8} (h : RowB Q w (.slice a n cap) l) (k : Nat) (hk : k ≤ l.length) : RowB Q w (.slice a k cap) (l.take k) := by
  obtain ⟨a', cap', e, hl, hm, hn, hc⟩ := h
  cases e
  have hlen : (l.take k).length = k := by rw [List.length_take]; omega
  refine ⟨a, cap, by rw [hlen], by omega, hm, hn, fun i hi => ?_⟩
  obtain ⟨bl, o, h1, h2, h3, h4⟩ := hc i (by omega)
  refine ⟨bl, o, h1, h2, h3, h4.trans ?_⟩
  rw [List.getD_eq_getElem?_getD, List.getD_eq_getElem?_getD, List.getElem?_take, if_pos (by omega)]
theorem Row.drop {Q : Nat → Prop} {w : World} {a : Option Addr} {n cap : Nat} {l : List UInt8} (h : RowB Q w (.slice a n cap) l) (k : Nat) (hk : k ≤ l.length) : RowB Q w (.slice (if cap = k then a else a.map (fun x => x.add k)) (n - k) (cap - k)) (l.drop k) := by
  obtain ⟨a', cap', e, hl, hm, hn, hc⟩ := h
  cases e
  refine ⟨_, cap - k, by rw [List.length_drop], by rw [List.length_drop]; omega, by omega, fun e => ?_, fun i hi => ?_⟩
  · split at e
    · omega
    · have := hn (by cases a <;> simp_all); omega
  · rw [List.length_drop] at hi
    obtain ⟨bl, o, h1, h2, h3, h4⟩ := hc (k + i) (by omega)
    refine ⟨bl, o + k, ?_, h2, h3, ?_⟩
    · rw [if_neg (by omega), h1]
      simp [Go.WideShapes.add_plain]
    · rw [List.getD_eq_getElem?_getD, List.getElem?_drop, show o + k + i = o + (k + i) by omega]
      rw [h4, List.getD_eq_getElem?_getD]
theorem head_le (l : List UInt8) : (headT l).length ≤ l.length := by unfold headT; exact (List.takeWhile_sublist _).length_le
theorem head_take (l : List UInt8) : l.take (headT l).length = headT l := by
  have h : headT l ++ l.dropWhile (fun c => c != 58) = l := List.takeWhile_append_dropWhile
  have h2 := congrArg (List.take (headT l).length) h
  rw [List.take_left] at h2
  exact h2.symm
set_option maxHeartbeats 1000000 in
set_option maxRecDepth 20000 in
theorem bcut_any (Q : Nat → Prop) (v : Value) (l : List UInt8) (g : Nat) (w : World) (h : RowB Q w v l) (hl : l.length ≤ 1099511627776) (hc : w.cell? ⟨g, 0, none⟩ = some (.int .u8 58)) :
    Calls Tryd.prog 35 #[v, .slice (some ⟨g, 0, none⟩) 1 1] w fun e w' => ∃ r : Value × Value × Value, e = .returned (.tuple #[r.1, r.2.1, r.2.2]) ∧ RowB Q w' r.1 (headT l) ∧ RowB Q w' r.2.1 (tailT l) ∧ Below w.heap.size w w' := by
  have HI := hide (idx_head l)
  have HL := hide (head_le l)
  have H := hide h
  obtain ⟨a, cap, rfl, hcap, hm, hnil⟩ := h.form
  have C1 : Hid (Calls Tryd.prog 40 #[.slice a l.length cap, .slice (some ⟨g, 0, none⟩) 1 1] w fun e w' => e = .returned (.int .i64 (Lib.indexByte l 58)) ∧ w' = w) := by
    cases a with
    | none =>
      obtain rfl := hnil rfl
      obtain rfl : l = [] := List.eq_nil_of_length_eq_zero (by omega)
      exact Tryd.bytes_Index_one_nil g 0 1 58 w hc
    | some ad =>
      have := Tryd.bytes_Index_one_at ad l.length cap g 0 1 (l.map fun c => (c.toNat : Int)) 58 w (by simp) ?_ hc
      · rw [bytesOf_enc] at this; exact this
      · intro i hi
        obtain ⟨bl', o', e, -, -, hcell⟩ := h.at.2 i hi
        cases e
        rw [Go.WideShapes.add_plain, hcell, List.getD_eq_getElem?_getD, List.getD_eq_getElem?_getD, List.getElem?_map, List.getElem?_eq_getElem hi]
        rfl
  rw [unhide HI] at C1
  unfold maxLen at hm
  by_cases hlt : (headT l).length < l.length
  · rw [if_pos hlt] at C1
    have R1 := hide (h.take (headT l).length (unhide HL))
    have R2 := hide (h.drop ((headT l).length + 1) hlt)
    rw [head_take] at R1
    have e2 : l.drop ((headT l).length + 1) = tailT l := rfl
    rw [e2] at R2
    clear h
    generalize (headT l).length = j at *
    by_cases hcj : cap = j + 1
    · subst hcj
      rw [if_pos rfl, Nat.sub_self, show l.length - (j + 1) = 0 by omega] at R2
      go_enter Tryd.func35, Tryd.ntmps35
      go_wp2_with fail
      refine (unhide C1).mono ?_
      rintro e w1 ⟨rfl, rfl⟩
      have D := hide (Below.drew (Below.refl w1.heap.size w1))
      go_wp2_with fail
      go_region
      all_goals (go_wp2_with fail; go_ret3; exact ⟨(_, _, _), rfl, (unhide R1).below (unhide D), (unhide R2).below (unhide D), unhide D⟩)
    · rw [if_neg hcj] at R2
      go_enter Tryd.func35, Tryd.ntmps35
      go_wp2_with fail
      refine (unhide C1).mono ?_
      rintro e w1 ⟨rfl, rfl⟩
      have D := hide (Below.drew (Below.refl w1.heap.size w1))
      go_wp2_with fail
      go_region
      all_goals (go_wp2_with fail; go_ret3; exact ⟨(_, _, _), rfl, (unhide R1).below (unhide D), (unhide R2).below (unhide D), unhide D⟩)
  · rw [if_neg hlt] at C1
    have e1 : headT l = l := by
      rw [← head_take]
      exact List.take_of_length_le (by omega)
    rw [tail_nil l hlt, e1]
    clear h
    go_enter Tryd.func35, Tryd.ntmps35
    go_wp2_with fail
    refine (unhide C1).mono ?_
    rintro e w1 ⟨rfl, rfl⟩
    go_wp2_with fail
    go_ret3
    exact ⟨(_, _, _), rfl, unhide H, ⟨none, 0, rfl, Nat.le_refl _, Nat.zero_le _, fun _ => rfl, fun i hi => absurd hi (Nat.not_lt_zero _)⟩, Below.refl _ _⟩
/- what cut answers: the row, the rest, and whether there is one. -/
def cutR (Q : Nat → Prop) (w : World) (r : Value × Value × Bool) (o : Option (List UInt8 × List UInt8)) : Prop :=
  match o with
  | some (p, t) => RowB Q w r.1 p ∧ RowB Q w r.2.1 t ∧ r.2.2 = true
  | none => r.2.2 = false
set_option maxHeartbeats 1000000 in
set_option maxRecDepth 20000 in
theorem cut_any (Q : Nat → Prop) (v : Value) (l : List UInt8) (w : World) (h : RowB Q w v l) (hl : l.length ≤ 1099511627776) (ht : Lays w) :
    Calls Tryd.prog 30 #[v] w fun e w' => ∃ r : Value × Value × Bool, e = .returned (.tuple #[r.1, r.2.1, .bool r.2.2]) ∧ cutR Q w' r (cutT l) ∧ Below w.heap.size w w' := by
  have k1 := below1 w (Obj.cells #[.int .u8 58] 5)
  have hc : (w.alloc (Obj.cells #[.int .u8 58] 5)).cell? ⟨w.heap.size, 0, none⟩ = some (.int .u8 58) := by go_simp
  have C1 := hide (bcut_any Q v l w.heap.size _ (h.below k1) hl hc)
  have HT := hide ht
  have hll := head_le l
  go_enter Tryd.func30, Tryd.ntmps30
  go_wp2_with fail
  refine (unhide C1).mono ?_
  rintro e w1 ⟨⟨v1, v2, vb⟩, rfl, r1, r2, b1⟩
  have b1' := bstep k1 b1
  have C2 := hide (number_any Q v1 (headT l) w1 r1 (by omega) ((unhide HT).below b1'))
  have R2 := hide r2
  clear r1 r2 C1 hc b1 k1 h ht
  dsimp only
  go_wp2_with fail
  refine (unhide C2).mono ?_
  rintro e w2 ⟨rfl, b2⟩
  have b2' := bstep b1' b2
  have R3 := hide ((unhide R2).below b2)
  clear R2 C2 b2
  have D := hide (fun w w' (b : Below w.heap.size w w') => (Below.drew b : Below w.heap.size w w'.drew))
  have b3' := unhide D _ _ b2'
  obtain ⟨a, cap, rfl, hcap, hm, hnil⟩ := (unhide R3).form
  unfold maxLen at hm
  have hnone : ∀ (w' : World) (x y : Value), cutT l = none → cutR Q w' (x, y, false) (cutT l) := fun w' x y e => by rw [e]; rfl
  have HNO := hide hnone
  clear hnone
  cases hN : numT (headT l) with
  | none =>
    have HO : Hid (cutT l = none) := hide (by unfold cutT; rw [hN])
    have h1 : okN none = false := rfl
    have h2 : valN none = 0 := rfl
    rw [h1, h2]
    clear hN
    go_wp2_with fail
    go_ret3
    exact ⟨(_, _, false), rfl, unhide HNO _ _ _ (unhide HO), b2'⟩
  | some n =>
    obtain ⟨-, n1, n2⟩ := numT_iff.1 hN
    have HO : Hid (cutT l = if 0 ≤ n ∧ n ≤ 9999 ∧ n < (tailT l).length ∧ (tailT l)[n.toNat]? = some 44 then some ((tailT l).take n.toNat, (tailT l).drop (n.toNat + 1)) else none) := hide (by unfold cutT; rw [hN])
    have h1 : okN (some n) = true := rfl
    have h2 : valN (some n) = n := rfl
    rw [h1, h2]
    clear hN
    by_cases g1 : n < 0
    · have HO2 := hide ((unhide HO).trans (if_neg (by omega)))
      clear HO
      go_wp2_with fail
      go_ret3
      exact ⟨(_, _, false), rfl, unhide HNO _ _ _ (unhide HO2), b2'⟩
    · by_cases g2 : 9999 < n
      · have HO2 := hide ((unhide HO).trans (if_neg (by omega)))
        clear HO
        go_wp2_with fail
        go_ret3
        exact ⟨(_, _, false), rfl, unhide HNO _ _ _ (unhide HO2), b2'⟩
      · obtain ⟨k, rfl⟩ : ∃ k : Nat, n = k := ⟨n.toNat, by omega⟩
        by_cases g3 : (tailT l).length ≤ k
        · have HO2 := hide ((unhide HO).trans (if_neg (by omega)))
          clear HO
          go_wp2_with fail
          go_ret3
          exact ⟨(_, _, false), rfl, unhide HNO _ _ _ (unhide HO2), b2'⟩
        · obtain ⟨bl, o, rfl, -, hbl, hc⟩ := (unhide R3).at.2 k (by omega)
          have hg : (tailT l)[k]? = some ((tailT l).getD k 0) := by rw [List.getD_eq_getElem?_getD, List.getElem?_eq_getElem (by omega)]; rfl
          rw [Int.toNat_natCast, hg] at HO
          have R4 := hide ((unhide R3).take k (by omega))
          have R5 := hide ((unhide R3).drop (k + 1) (by omega))
          unfold encB at hc
          by_cases g4 : (tailT l).getD k 0 = 44
          · have HO2 := hide ((unhide HO).trans (if_pos ⟨by omega, by omega, by omega, by rw [g4]⟩))
            rw [g4] at hc
            have hc : w2.cell? ⟨bl, o + k, none⟩ = some (.int .u8 44) := hc
            have hc' : w2.drew.cell? ⟨bl, o + k, none⟩ = some (.int .u8 44) := hc
            have HF : Hid (∀ x y, RowB Q w2 x ((tailT l).take k) → RowB Q w2 y ((tailT l).drop (k + 1)) → cutR Q w2.drew (x, y, true) (cutT l)) := hide (fun x y hx hy => by
              rw [unhide HO2]
              exact ⟨hx.below (Below.drew (Below.refl _ _)), hy.below (Below.drew (Below.refl _ _)), rfl⟩)
            clear HO R3
            by_cases hcj : cap = k + 1
            · subst hcj
              have hlk : (tailT l).length - (k + 1) = 0 := by omega
              rw [if_pos rfl, Nat.sub_self, hlk] at R5
              generalize tailT l = T at *
              go_wp2_with fail
              go_region
              all_goals (go_wp2_with fail; go_ret3; exact ⟨(_, _, true), rfl, unhide HF _ _ (unhide R4) (by first | exact unhide R5 | (rw [hlk]; exact unhide R5)), b3'⟩)
            · rw [if_neg hcj] at R5
              generalize tailT l = T at *
              go_wp2_with fail
              go_region
              all_goals (go_wp2_with fail; go_ret3; exact ⟨(_, _, true), rfl, unhide HF _ _ (unhide R4) (unhide R5), b3'⟩)
          · have HO2 := hide ((unhide HO).trans (if_neg (fun h => g4 (Option.some.inj h.2.2.2))))
            clear HO R3 R4 R5
            have hc' : w2.drew.cell? ⟨bl, o + k, none⟩ = some (.int .u8 (((tailT l).getD k 0).toNat : Int)) := hc
            generalize (tailT l).getD k 0 = c at *
            generalize tailT l = T at *
            have hne : ((c.toNat : Int) != 44) = true := by
              have : c.toNat ≠ 44 := fun e => g4 (UInt8.toNat_inj.1 e)
              rw [bne_iff_ne]; omega
            go_wp2_with fail
            go_ret3
            exact ⟨(_, _, false), rfl, unhide HNO _ _ _ (unhide HO2), b2'⟩
end Go.Proofs.YtamnndocbnbkiaaDoor

/- A cursor in memory: what is left, or that it erred; what its calls do. -/
namespace Go.Proofs.YtamnndocbnbkiaaDoor
open Go.RowKit Go.Sort
set_option linter.unusedVariables false
set_option linter.unusedSimpArgs false

/- of what was there only the block b has turned. -/
structure Mv (b : Nat) (w w' : World) : Prop where
  os : w'.os = w.os
  tape : w'.tape = w.tape
  output : w'.output = w.output
  size : w.heap.size ≤ w'.heap.size
  block : ∀ k, k < w.heap.size → k ≠ b → w'.heap[k]? = w.heap[k]?
theorem Mv.refl (b : Nat) (w : World) : Mv b w w := ⟨rfl, rfl, rfl, Nat.le_refl _, fun _ _ _ => rfl⟩
theorem Mv.trans {b : Nat} {w0 w1 w2 : World} (h : Mv b w0 w1) (k : Mv b w1 w2) : Mv b w0 w2 :=
  ⟨k.os.trans h.os, k.tape.trans h.tape, k.output.trans h.output, Nat.le_trans h.size k.size, fun i hi hb => (k.block i (Nat.lt_of_lt_of_le hi h.size) hb).trans (h.block i hi hb)⟩
theorem Mv.of_below {b : Nat} {w w' : World} (h : Below w.heap.size w w') : Mv b w w' := ⟨h.os, h.tape, h.output, h.size, fun k hk _ => h.block k hk⟩
theorem Mv.put {b : Nat} {w0 w1 : World} (h : Mv b w0 w1) (o : Nat) (v : Value) : Mv b w0 (w1.setCell ⟨b, o, none⟩ v) :=
  h.trans ⟨rfl, rfl, rfl, by simp [World.setCell], fun k hk hb => Below.heap_setCell _ _ _ _ hb⟩
theorem Mv.cell {b : Nat} {w w' : World} (h : Mv b w w') {g o : Nat} (hg : g < w.heap.size) (hb : g ≠ b) : w'.cell? ⟨g, o, none⟩ = w.cell? ⟨g, o, none⟩ := World.cell?_of_block (w := w) (h.block g hg hb)
/- a block of which nothing below is a part goes its own way. -/
theorem Mv.toBelow {b : Nat} {w w0 w' : World} (h : Mv b w0 w') (hb : Below w.heap.size w w0) (hn : w.heap.size ≤ b) : Below w.heap.size w w' :=
  hb.trans ⟨h.os, h.tape, h.output, h.size, fun k hk => h.block k (Nat.lt_of_lt_of_le hk hb.size) (by omega)⟩
theorem Row.mv {α : Type} {enc : α → Value} {d : α} {b : Nat} {Q : Nat → Prop} {w w' : World} {v : Value} {xs : List α} (h : Row enc d Q w v xs) (k : Mv b w w') (hq : ∀ g, Q g → g ≠ b) : Row enc d Q w' v xs :=
  h.keep k.size (fun bl o hl hQ => k.cell hl (hq bl hQ)) (fun _ _ h => h)
theorem own_mv {base : Nat} {e : TypeId} {size n : Nat} {v : Value} {xs : List Value} {b : Nat} {w w' : World} (h : w.ownsRow base e size v n xs) (k : Mv b w w') (hb : b < base) : w'.ownsRow base e size v n xs := by
  refine ⟨h.1, ?_⟩
  rcases h.2 with h0 | ⟨g, cap, cur, hv, hB, hg, hr⟩
  · exact Or.inl h0
  · exact Or.inr ⟨g, cap, cur, hv, hB, (k.block g (Array.getElem?_eq_some_iff.1 hg).1 (by omega)).trans hg, hr⟩

/- the cursor in block p: some of what is left, or none, if it erred. -/
structure Cu (p : Nat) (w : World) (s : Option (List UInt8)) : Prop where
  lt : p < w.heap.size
  f0 : w.frozen? ⟨p, 0, none⟩ = false
  f1 : w.frozen? ⟨p, 1, none⟩ = false
  c0 : ∃ v l, w.cell? ⟨p, 0, none⟩ = some v ∧ RowB (fun g => g ≠ p) w v l ∧ l.length ≤ 1099511627776 ∧ ∀ l', s = some l' → l' = l
  c1 : w.cell? ⟨p, 1, none⟩ = some (.bool s.isNone)
theorem Cu.below {p : Nat} {w w' : World} {s : Option (List UInt8)} (h : Cu p w s) (b : Below w.heap.size w w') : Cu p w' s := by
  obtain ⟨hl, f0, f1, ⟨v, l, h0, hr, hs⟩, h1⟩ := h
  exact ⟨Nat.lt_of_lt_of_le hl b.size, ((bcell b).2 p 0 hl).trans f0, ((bcell b).2 p 1 hl).trans f1, ⟨v, l, ((bcell b).1 p 0 hl).trans h0, hr.below b, hs⟩, ((bcell b).1 p 1 hl).trans h1⟩
theorem Cu.mv {p q : Nat} {w w' : World} {s : Option (List UInt8)} (h : Cu p w s) (k : Mv q w w') (hpq : p ≠ q) (hr : ∀ v l, w.cell? ⟨p, 0, none⟩ = some v → RowB (fun g => g ≠ p) w v l → RowB (fun g => g ≠ p ∧ g ≠ q) w v l) : Cu p w' s := by
  obtain ⟨hl, f0, f1, ⟨v, l, h0, hrow, hs⟩, h1⟩ := h
  refine ⟨Nat.lt_of_lt_of_le hl k.size, (World.frozen?_of_block (w := w) (k.block p hl hpq)).trans f0, (World.frozen?_of_block (w := w) (k.block p hl hpq)).trans f1, ⟨v, l, (k.cell hl hpq).trans h0, ?_, hs⟩, (k.cell hl hpq).trans h1⟩
  exact ((hr v l h0 hrow).mv k (fun g hg => hg.2)).weak (fun g _ hg => hg.1)

set_option maxHeartbeats 1000000 in
theorem good_any (p : Nat) (w : World) (s : Option (List UInt8)) (h : Cu p w s) :
    Calls Tryd.prog 20 #[.pointer (some ⟨p, 0, none⟩)] w fun e w' => e = .returned (.bool s.isSome) ∧ Below w.heap.size w w' := by
  obtain ⟨hl, f0, f1, hc0, h1⟩ := h
  have h1' : w.drew.cell? ⟨p, 1, none⟩ = some (.bool s.isNone) := h1
  have D := Below.drew (Below.refl w.heap.size w)
  have D0 := Below.refl w.heap.size w
  have E : Hid ((!s.isNone) = s.isSome) := hide (by cases s <;> rfl)
  generalize s.isNone = b at *
  go_enter Tryd.func20, Tryd.ntmps20
  go_wp2_with fail
  go_ret
  exact ⟨ret_bool (unhide E), by first | exact D0 | exact D⟩
set_option maxHeartbeats 1000000 in
theorem whole_any (p : Nat) (w : World) (s : Option (List UInt8)) (h : Cu p w s) :
    Calls Tryd.prog 21 #[.pointer (some ⟨p, 0, none⟩)] w fun e w' => e = .returned (.bool (decide (s = some []))) ∧ Below w.heap.size w w' := by
  have C1 := hide (good_any p w s h)
  have H := hide h
  go_enter Tryd.func21, Tryd.ntmps21
  go_wp2_with fail
  refine (unhide C1).mono ?_
  rintro e w1 ⟨rfl, b1⟩
  have H1 := hide ((unhide H).below b1)
  clear H C1 h
  cases s with
  | none =>
    have hE : Hid (decide ((none : Option (List UInt8)) = some []) = false) := hide (by simp)
    go_wp2_with fail
    go_ret
    exact ⟨ret_bool (by rw [unhide hE]), b1⟩
  | some l0 =>
    obtain ⟨hl, f0, f1, ⟨v, l, h0, hr, hln, hs⟩, h1⟩ := unhide H1
    obtain rfl : l0 = l := hs l0 rfl
    obtain ⟨a, cap, rfl, hc, hm, hnil⟩ := hr.form
    have hE : Hid (decide (some l0 = some ([] : List UInt8)) = decide (l0.length = 0)) := hide (by simp)
    have h0' : w1.drew.cell? ⟨p, 0, none⟩ = some (.slice a l0.length cap) := h0
    have b1' : Below w.heap.size w w1.drew := Below.drew b1
    clear hr hs H1
    generalize l0.length = n at *
    unfold maxLen at hm
    by_cases hn : n = 0
    · subst hn
      go_wp2_with fail
      go_ret
      exact ⟨ret_bool (by rw [unhide hE]; rfl), by first | exact b1 | exact b1'⟩
    · have hq : ((n : Int) == 0) = false := by rw [beq_eq_false_iff_ne]; omega
      go_wp2_with fail
      go_ret
      exact ⟨ret_bool (by rw [unhide hE]; simp [hn]), by first | exact b1 | exact b1'⟩
set_option maxHeartbeats 1000000 in
theorem err_any (p : Nat) (w : World) (s : Option (List UInt8)) (h : Cu p w s) :
    Calls Tryd.prog 29 #[.pointer (some ⟨p, 0, none⟩)] w fun e w' => e = .returned (.tuple #[]) ∧ Cu p w' none ∧ Mv p w w' := by
  obtain ⟨hl, f0, f1, ⟨v, l, h0, hr, hln, hs⟩, h1⟩ := h
  clear hs
  go_enter Tryd.func29, Tryd.ntmps29
  go_wp2_with fail
  go_end0
  refine ⟨rfl, ⟨?_, ?_, ?_, ⟨.slice none 0 0, [], ?_, ⟨none, 0, rfl, Nat.le_refl _, Nat.zero_le _, fun _ => rfl, fun i hi => absurd hi (Nat.not_lt_zero _)⟩, by simp, fun l' e => by cases e⟩, ?_⟩, ((Mv.refl p w).put 0 _).put 1 _⟩
  · simpa [World.setCell] using hl
  · go_simp
  · go_simp
  · go_simp
  · go_simp
/- what is taken of a state: the state behind, and the row; the number. -/
def rowS : Option (List UInt8) → Option (List UInt8) × List UInt8
  | none => (none, [])
  | some l => match cutT l with
    | some (r, t) => (some t, r)
    | none => (none, [])
def nearI (n : Int) : Prop := -1000000000000000 ≤ n ∧ n ≤ 1000000000000000
instance (n : Int) : Decidable (nearI n) := inferInstanceAs (Decidable (_ ∧ _))
def numS (s : Option (List UInt8)) : Option (List UInt8) × Int :=
  match (rowS s).1 with
  | none => (none, 0)
  | some t => match numT (rowS s).2 with
    | none => (none, 0)
    | some n => if nearI n then (some t, n) else (none, 0)
set_option maxHeartbeats 2000000 in
theorem row_any (p : Nat) (w : World) (s : Option (List UInt8)) (h : Cu p w s) (ht : Lays w) :
    Calls Tryd.prog 18 #[.pointer (some ⟨p, 0, none⟩)] w fun e w' => ∃ v', e = .returned v' ∧ Own w.heap.size w' v' (rowS s).2 ∧ Cu p w' (rowS s).1 ∧ Mv p w w' := by
  have C1 := hide (good_any p w s h)
  have H := hide h
  have HT := hide ht
  have hp := h.lt
  clear h ht
  cases s with
  | none =>
    go_enter Tryd.func18, Tryd.ntmps18
    go_wp2_with fail
    refine (unhide C1).mono ?_
    rintro e w1 ⟨rfl, b1⟩
    have H1 := hide ((unhide H).below b1)
    have M1 := hide (Mv.of_below (b := p) b1)
    clear b1 H C1
    go_wp2_with fail
    go_ret
    exact ⟨_, rfl, own_nil _ _, unhide H1, unhide M1⟩
  | some l =>
    go_enter Tryd.func18, Tryd.ntmps18
    go_wp2_with fail
    refine (unhide C1).mono ?_
    rintro e w1 ⟨rfl, b1⟩
    have H1 := hide ((unhide H).below b1)
    clear H C1
    obtain ⟨hl, f0, f1, ⟨v, l1, h0, hr, hln, hs⟩, h1⟩ := unhide H1
    obtain rfl : l = l1 := hs l rfl
    have C2 := hide (cut_any _ v l w1 hr hln ((unhide HT).below b1))
    clear hr hs
    go_wp2_with fail
    refine (unhide C2).mono ?_
    rintro e w2 ⟨⟨x, y, ok⟩, rfl, hR, b2⟩
    dsimp only
    have b2' := bstep b1 b2
    have H2 := hide ((unhide H1).below b2)
    have z2 : p < w2.heap.size := Nat.lt_of_lt_of_le hp b2'.size
    cases hC : cutT l with
    | none =>
      have hS : rowS (some l) = (none, []) := by simp [rowS, hC]
      rw [hC] at hR
      have hok : ok = false := hR
      subst hok
      have C3 := hide (err_any p w2 _ (unhide H2))
      have M2 := hide (Mv.of_below (b := p) b2')
      clear b1 b2 b2' H1 C2 h0 f0 f1 h1 hR
      go_wp2_with fail
      refine (unhide C3).mono ?_
      rintro e w3 ⟨rfl, hc3, m3⟩
      have H3 := hide hc3
      have M3 := hide ((unhide M2).trans m3)
      clear hc3 m3 M2 C3 H2
      go_wp2_with fail
      go_ret
      exact ⟨_, rfl, by rw [hS]; exact own_nil _ _, by rw [hS]; exact unhide H3, unhide M3⟩
    | some rt =>
      obtain ⟨r, t⟩ := rt
      have hS : rowS (some l) = (some t, r) := by simp [rowS, hC]
      rw [hC] at hR
      obtain ⟨hx, hy, hok⟩ := hR
      simp only at hx hy hok
      subst hok
      have hlen := cut_less hC
      obtain ⟨ya, yc, rfl, -, -, -⟩ := hy.form
      have f2 : w2.frozen? ⟨p, 0, none⟩ = false := (unhide H2).f0
      obtain ⟨v00, k00⟩ : ∃ v, w2.cell? ⟨p, 0, none⟩ = some v := by obtain ⟨v, _, h, -⟩ := (unhide H2).c0; exact ⟨v, h⟩
      have m3 := ((Mv.refl p w2).put 0 (.slice ya t.length yc))
      have hc3 : Cu p (w2.setCell ⟨p, 0, none⟩ (.slice ya t.length yc)) (some t) := by
        obtain ⟨k1, k2, k3, ⟨v0, -, k0, -, -, -⟩, k5⟩ := unhide H2
        have k5 : w2.cell? ⟨p, 1, none⟩ = some (.bool false) := k5
        refine ⟨by simpa [World.setCell] using k1, by go_simp, by go_simp, ⟨_, t, by go_simp, hy.mv m3 (fun _ h => h), by omega, fun l' e => by cases e; rfl⟩, by show _ = some (Value.bool false); go_simp⟩
      have C4 := hide (clone_any _ x r _ (hx.mv m3 (fun _ h => h)) (by omega))
      have M3 := hide (((Mv.of_below (b := p) b2')).trans m3)
      have H3 := hide hc3
      have hz3 : w.heap.size ≤ (w2.setCell ⟨p, 0, none⟩ (.slice ya t.length yc)).heap.size := by have := b2'.size; simpa [World.setCell] using this
      clear b1 b2 b2' H1 C2 h0 f0 f1 h1 hx hy hc3 m3 H2
      go_wp2_with fail
      refine (unhide C4).mono ?_
      rintro e w4 ⟨v4, rfl, own4, b4⟩
      have own4' := hide (own_weak own4 hz3)
      have M4 := hide ((unhide M3).trans (Mv.of_below b4))
      have H4 := hide ((unhide H3).below b4)
      clear own4 b4
      go_wp2_with fail
      go_ret
      exact ⟨v4, rfl, by rw [hS]; exact unhide own4', by rw [hS]; exact unhide H4, unhide M4⟩
end Go.Proofs.YtamnndocbnbkiaaDoor

/- A cursor's Num; Open; a nil cursor. -/
namespace Go.Proofs.YtamnndocbnbkiaaDoor
open Go.RowKit Go.Sort
set_option linter.unusedVariables false
set_option linter.unusedSimpArgs false

theorem rowS_len (s : Option (List UInt8)) : (rowS s).2.length ≤ 9999 := by
  unfold rowS
  cases s with
  | none => simp
  | some l =>
    cases hC : cutT l with
    | none => simp [hC]
    | some x => simpa [hC] using (cut_iff.1 hC).2
theorem numS_none {s : Option (List UInt8)} (h : (rowS s).1 = none) : numS s = (none, 0) := by unfold numS; rw [h]
theorem numS_bad {s : Option (List UInt8)} {t : List UInt8} (h : (rowS s).1 = some t) (h2 : numT (rowS s).2 = none) : numS s = (none, 0) := by unfold numS; rw [h]; simp only [h2]
theorem numS_some {s : Option (List UInt8)} {t : List UInt8} {n : Int} (h : (rowS s).1 = some t) (h2 : numT (rowS s).2 = some n) : numS s = if nearI n then (some t, n) else (none, 0) := by unfold numS; rw [h]; simp only [h2]
set_option maxHeartbeats 2000000 in
theorem cnum_any (p : Nat) (w : World) (s : Option (List UInt8)) (h : Cu p w s) (ht : Lays w) (hlt : ∀ w', Mv p w w' → Lays w') :
    Calls Tryd.prog 16 #[.pointer (some ⟨p, 0, none⟩)] w fun e w' => e = .returned (.int .i64 (numS s).2) ∧ Cu p w' (numS s).1 ∧ Mv p w w' := by
  have C1 := hide (row_any p w s h ht)
  have HT := hide hlt
  have hrl := rowS_len s
  clear h ht hlt
  go_enter Tryd.func16, Tryd.ntmps16
  go_wp2_with fail
  refine (unhide C1).mono ?_
  rintro e w1 ⟨v1, rfl, own1, hc1, m1⟩
  have HO := hide own1
  have H1 := hide hc1
  have M1 := hide m1
  have C2 := hide (good_any p w1 _ hc1)
  clear own1 hc1 m1 C1
  go_wp2_with fail
  refine (unhide C2).mono ?_
  rintro e w2 ⟨rfl, b2⟩
  have H2 := hide ((unhide H1).below b2)
  have M2 := hide ((unhide M1).trans (Mv.of_below b2))
  have r2 := (Own.row (own_below (unhide HO) b2)).weak (Q' := fun _ => True) (fun _ _ _ => trivial)
  have C3 := hide (number_any _ v1 (rowS s).2 w2 r2 (by omega) (unhide HT w2 (unhide M2)))
  clear C2 b2 H1 M1 HO r2
  cases hS : (rowS s).1 with
  | none =>
    have E := hide (numS_none hS)
    rw [hS] at H2
    have h0 : (none : Option (List UInt8)).isSome = false := rfl
    rw [h0]
    go_wp2_with fail
    go_ret
    exact ⟨by rw [unhide E]; rfl, by rw [unhide E]; exact unhide H2, unhide M2⟩
  | some t =>
    have h0 : (some t).isSome = true := rfl
    rw [h0]
    rw [hS] at H2
    go_wp2_with fail
    refine (unhide C3).mono ?_
    rintro e w3 ⟨rfl, b3⟩
    have H3 := hide ((unhide H2).below b3)
    have M3 := hide ((unhide M2).trans (Mv.of_below b3))
    have C4 := hide (err_any p w3 _ (unhide H3))
    clear C3 b3 H2 M2
    cases hN : numT (rowS s).2 with
    | none =>
      have E := hide (numS_bad hS hN)
      have h1 : okN none = false := rfl
      have h2 : valN none = 0 := rfl
      rw [h1, h2]
      clear hN hS
      go_wp2_with fail
      refine (unhide C4).mono ?_
      rintro e w4 ⟨rfl, hc4, m4⟩
      have H4 := hide hc4
      have M4 := hide ((unhide M3).trans m4)
      clear hc4 m4 C4
      go_wp2_with fail
      go_ret
      exact ⟨by rw [unhide E]; rfl, by rw [unhide E]; exact unhide H4, unhide M4⟩
    | some n =>
      have E0 := hide (numS_some hS hN)
      obtain ⟨-, n1, n2⟩ := numT_iff.1 hN
      have h1 : okN (some n) = true := rfl
      have h2 : valN (some n) = n := rfl
      rw [h1, h2]
      clear hN hS
      by_cases g1 : n < -1000000000000000
      · have E := hide ((unhide E0).trans (if_neg (fun h => by have := h.1; omega)))
        clear E0
        go_wp2_with fail
        refine (unhide C4).mono ?_
        rintro e w4 ⟨rfl, hc4, m4⟩
        have H4 := hide hc4
        have M4 := hide ((unhide M3).trans m4)
        clear hc4 m4 C4
        go_wp2_with fail
        go_ret
        exact ⟨by rw [unhide E]; rfl, by rw [unhide E]; exact unhide H4, unhide M4⟩
      · by_cases g2 : 1000000000000000 < n
        · have E := hide ((unhide E0).trans (if_neg (fun h => by have := h.2; omega)))
          clear E0
          go_wp2_with fail
          refine (unhide C4).mono ?_
          rintro e w4 ⟨rfl, hc4, m4⟩
          have H4 := hide hc4
          have M4 := hide ((unhide M3).trans m4)
          clear hc4 m4 C4
          go_wp2_with fail
          go_ret
          exact ⟨by rw [unhide E]; rfl, by rw [unhide E]; exact unhide H4, unhide M4⟩
        · have E := hide ((unhide E0).trans (if_pos ⟨by omega, by omega⟩))
          clear E0
          go_wp2_with fail
          go_ret
          exact ⟨by rw [unhide E]; rfl, by rw [unhide E]; exact unhide H3, unhide M3⟩
set_option maxHeartbeats 1000000 in
theorem open_any (Q : Nat → Prop) (v : Value) (l : List UInt8) (w : World) (h : RowB Q w v l) (hl : l.length ≤ 1099511627776) :
    Calls Tryd.prog 15 #[v] w fun e w' => ∃ p, e = .returned (.pointer (some ⟨p, 0, none⟩)) ∧ w.heap.size ≤ p ∧ Cu p w' (some l) ∧ Below w.heap.size w w' := by
  have C1 := hide (clone_any Q v l w h hl)
  clear h
  go_enter Tryd.func15, Tryd.ntmps15
  go_wp2_with fail
  refine (unhide C1).mono ?_
  rintro e w1 ⟨v1, rfl, own1, b1⟩
  have r1 := own1.row.keep (w' := w1) (Q' := fun g => g ≠ w1.heap.size) (Nat.le_refl _) (fun _ _ _ _ => rfl) (fun g hg _ => by omega)
  obtain ⟨a, cap, rfl, -, -, -⟩ := r1.form
  have HR := hide r1
  clear own1 r1 C1
  have bb : Below w.heap.size w (w1.alloc (Obj.cells #[.slice a l.length cap, .bool false] 49)) := bstep b1 (below1 w1 _)
  have hc : Cu w1.heap.size (w1.alloc (Obj.cells #[.slice a l.length cap, .bool false] 49)) (some l) :=
    ⟨by simp, by go_simp, by go_simp, ⟨_, l, by go_simp, (unhide HR).below (below1 w1 _), hl, fun l' e => by cases e; rfl⟩, by show _ = some (Value.bool false); go_simp⟩
  go_wp2_with fail
  go_ret
  exact ⟨_, rfl, b1.size, hc, bb⟩
end Go.Proofs.YtamnndocbnbkiaaDoor

/- A nil cursor takes nothing. -/
namespace Go.Proofs.YtamnndocbnbkiaaDoor
open Go.RowKit Go.Sort
set_option linter.unusedVariables false
set_option linter.unusedSimpArgs false

set_option maxHeartbeats 1000000 in
theorem good_nil (w : World) : Calls Tryd.prog 20 #[.pointer none] w fun e w' => e = .returned (.bool false) ∧ Below w.heap.size w w' := by
  go_enter Tryd.func20, Tryd.ntmps20
  go_wp2_with fail
  go_ret
  exact ⟨rfl, by first | exact Below.refl _ _ | exact Below.drew (Below.refl _ _)⟩
set_option maxHeartbeats 1000000 in
theorem whole_nil (w : World) : Calls Tryd.prog 21 #[.pointer none] w fun e w' => e = .returned (.bool false) ∧ Below w.heap.size w w' := by
  go_enter Tryd.func21, Tryd.ntmps21
  go_wp2_with fail
  refine (good_nil _).mono ?_
  rintro e w1 ⟨rfl, b1⟩
  go_wp2_with fail
  go_ret
  exact ⟨rfl, by first | exact b1 | exact Below.drew b1⟩
set_option maxHeartbeats 1000000 in
theorem row_nil_any (w : World) : Calls Tryd.prog 18 #[.pointer none] w fun e w' => e = .returned (.slice none 0 0) ∧ Below w.heap.size w w' := by
  go_enter Tryd.func18, Tryd.ntmps18
  go_wp2_with fail
  refine (good_nil _).mono ?_
  rintro e w1 ⟨rfl, b1⟩
  go_wp2_with fail
  go_ret
  exact ⟨rfl, b1⟩
set_option maxHeartbeats 1000000 in
theorem num_nil_any (w : World) : Calls Tryd.prog 16 #[.pointer none] w fun e w' => e = .returned (.int .i64 0) ∧ Below w.heap.size w w' := by
  go_enter Tryd.func16, Tryd.ntmps16
  go_wp2_with fail
  refine (row_nil_any _).mono ?_
  rintro e w1 ⟨rfl, b1⟩
  go_wp2_with fail
  refine (good_nil _).mono ?_
  rintro e w2 ⟨rfl, b2⟩
  go_wp2_with fail
  go_ret
  exact ⟨rfl, bstep b1 b2⟩
end Go.Proofs.YtamnndocbnbkiaaDoor

/- What a row's condition gives the walks: the two errors of strconv, and the table of powers of ten. -/
namespace Go.Proofs.YtamnndocbnbkiaaDoor
open Go.RowKit
set_option linter.unusedVariables false

theorem tSyn : (Tryd.prog.globals[2]?).map (·.type) = some 56 := by kernel_rfl
theorem tRan : (Tryd.prog.globals[3]?).map (·.type) = some 56 := by kernel_rfl
theorem star : "*" ++ "errors.errorString" = "*errors.errorString" := by decide
theorem rowErr (u : TypeId) (h : Tryd.prog.typeName? 3 u = some "*errors.errorString") : u = 97 :=
  typeName_ptr_named (nm := "errors.errorString") (by rw [star]; kernel_rfl) (by kernel_rfl) (by decide) u (by rw [star]; exact h)
theorem cellsErr : Tryd.prog.cellsOf 99 = 1 := by kernel_rfl
theorem cellsS : Tryd.prog.cellsOf 9 = 1 := by kernel_rfl
theorem syn_of {W : World} (h : laidMet Tryd.prog [("strconv.ErrSyntax", Rows.laid_strconv_ErrSyntax)] W) : ∃ tp p, W.var? Tryd.prog "strconv.ErrSyntax" = some #[.iface tp p] := by
  obtain ⟨a0, s0, hv0, -, -, -⟩ := laid_sentinel h gSyn tSyn Tryd.underlying56 rowErr Tryd.underlying97 Tryd.underlying99 rfl rfl Tryd.underlying9 cellsErr cellsS
  exact ⟨_, _, hv0⟩
theorem ran_of {W : World} (h : laidMet Tryd.prog [("strconv.ErrRange", Rows.laid_strconv_ErrRange)] W) : ∃ tp p, W.var? Tryd.prog "strconv.ErrRange" = some #[.iface tp p] := by
  obtain ⟨a0, s0, hv0, -, -, -⟩ := laid_sentinel h gRan tRan Tryd.underlying56 rowErr Tryd.underlying97 Tryd.underlying99 rfl rfl Tryd.underlying9 cellsErr cellsS
  exact ⟨_, _, hv0⟩
end Go.Proofs.YtamnndocbnbkiaaDoor

/- Arguments opened: rows of bytes, of numbers, of truths, rows of rows. -/
namespace Go.Proofs.YtamnndocbnbkiaaDoor
open Go.ChangeShapes Go.WideShapes Go.RowKit
set_option linter.unusedVariables false

theorem get_range {α : Type} {d : α} {n i : Nat} (h : i < n) (f : Nat → α) : ((List.range n).map f).getD i d = f i := by
  rw [List.getD_eq_getElem?_getD, List.getElem?_map, List.getElem?_range h]
  rfl
section
variable {H : Type} {enc : TypeId × Value → H} {w : World} {base : Nat} {spare : Nat → Bool} {held : Bool}
set_option maxRecDepth 10000 in
theorem open_cells {α : Type} {en : α → Value} {d : α} {t e : TypeId} (ht : Tryd.prog.underlying t = some (.slice e)) (hc1 : Tryd.prog.cellsOf e = 1)
    (hop : ∀ (f : Nat) (v : Value) (x : DataW H × List MemPlace), DataW.trod enc Tryd.prog w base spare held f e [v] = some x → ∃ y, v = en y)
    {fuel : Nat} {v : Value} {x : DataW H × List MemPlace} (h : DataW.trod enc Tryd.prog w base spare held fuel t [v] = some x) :
    ∃ xs, Row en d (fun _ => True) w v xs := by
  rcases DataW.trod_slice ht h with ⟨e4, -⟩ | ⟨a, len, cap, elems, rest, n', hn, e4, -, hb, hlc, hcm, hel, hget, -, -⟩
  · simp at e4
    subst e4
    exact ⟨[], none, 0, rfl, Nat.le_refl _, Nat.zero_le _, fun _ => rfl, fun i hi => absurd hi (Nat.not_lt_zero _)⟩
  · simp at e4
    subst e4
    rw [hc1] at hget
    have one : ∀ i, i < len → ∃ y : α, w.cell? ((a.add i).add 0) = some (en y) := fun i hi => by
      have key := hget i hi
      rw [List.getElem?_eq_getElem (by omega)] at key
      obtain ⟨cs', h1, h2⟩ := Option.bind_eq_some_iff.1 key
      obtain ⟨hcl, _, hcell⟩ := World.cells?_some h1
      match cs', hcl with
      | [c], _ =>
        obtain ⟨y, rfl⟩ := hop _ _ _ h2
        exact ⟨y, by simpa using hcell 0 (by omega)⟩
    have hspot : 0 < len → a.spot = Option.none := fun h0 => by
      obtain ⟨y, h1⟩ := one 0 h0
      have h00 := World.cell?_spot h1
      simpa [Addr.add] using h00
    by_cases hne : len = 0
    · subst hne
      exact ⟨[], some a, cap, rfl, Nat.zero_le _, by omega, (fun e => by cases e), fun i hi => absurd hi (Nat.not_lt_zero _)⟩
    · have : Inhabited α := ⟨d⟩
      obtain ⟨kid, hkid⟩ := Deep.choose_lt (α := α) (n := len) (p := fun i y => w.cell? ((a.add i).add 0) = some (en y)) one
      refine ⟨(List.range len).map kid, some a, cap, by simp, by simp; omega, by omega, (fun e => by cases e), fun i hi => ?_⟩
      have hi' : i < len := by simpa using hi
      obtain ⟨bl, o, spot⟩ := a
      have hsp : spot = Option.none := hspot (by omega)
      subst hsp
      have h1 := hkid i hi'
      rw [add_plain, add_plain] at h1
      exact ⟨bl, o, rfl, trivial, World.block_lt_of_cell? _ _ h1, by rw [get_range hi']; simpa using h1⟩
theorem open_u8 (f : Nat) (v : Value) (x : DataW H × List MemPlace) (h : DataW.trod enc Tryd.prog w base spare held f 5 [v] = some x) : ∃ y, v = encB y := by
  obtain ⟨m, e0, -, w0⟩ := DataW.trod_int Tryd.underlying5 h
  have hm : 0 ≤ m ∧ m < 256 := by
    simp [Lit.wf, IntKind.min, IntKind.max, IntKind.signed, IntKind.bits] at w0
    omega
  refine ⟨UInt8.ofNat m.toNat, ?_⟩
  simp at e0
  rw [e0]
  unfold encB
  rw [UInt8.toNat_ofNat']
  congr 1
  omega
theorem open_row {fuel : Nat} {v : Value} {x : DataW H × List MemPlace} (h : DataW.trod enc Tryd.prog w base spare held fuel 22 [v] = some x) : ∃ xs, RowB (fun _ => True) w v xs :=
  open_cells Tryd.underlying22 (by kernel_rfl) open_u8 h
theorem open_bytes {r : Reach} {b0 : Nat} {v : Value} {d : DataW H} {p : List MemPlace} (hv : Value.okWide Tryd.prog w r b0 22 v) (h : DataW.Trod enc Tryd.prog w base spare held 22 v d p) :
    ∃ xs, RowB (fun _ => True) w v xs := by
  obtain ⟨fuel, hf⟩ := h
  obtain ⟨a0, len0, cap0, rfl⟩ := okWide_slice Tryd.underlying22 hv
  exact open_row hf
def inJ (n : Int) : Prop := -9223372036854775808 ≤ n ∧ n ≤ 9223372036854775807
theorem open_i64 (f : Nat) (v : Value) (x : DataW H × List MemPlace) (h : DataW.trod enc Tryd.prog w base spare held f 3 [v] = some x) : ∃ y : { m : Int // inJ m }, v = .int .i64 y.1 := by
  obtain ⟨m, e0, -, w0⟩ := DataW.trod_int Tryd.underlying3 h
  simp at e0
  refine ⟨⟨m, ?_⟩, e0⟩
  simp [Lit.wf, IntKind.min, IntKind.max, IntKind.signed, IntKind.bits] at w0
  unfold inJ
  omega
theorem Row.vals {Q : Nat → Prop} {v : Value} {xs : List { m : Int // inJ m }} (h : Row (fun (y : { m : Int // inJ m }) => Value.int .i64 y.1) ⟨0, by unfold inJ; omega⟩ Q w v xs) : RowI Q w v (xs.map (·.1)) := by
  obtain ⟨a, cap, rfl, hl, hm, hn, hc⟩ := h
  refine ⟨a, cap, by simp, by simpa using hl, hm, hn, fun i hi => ?_⟩
  have hi' : i < xs.length := by simpa using hi
  obtain ⟨bl, o, h1, h2, h3, h4⟩ := hc i hi'
  refine ⟨bl, o, h1, h2, h3, h4.trans ?_⟩
  rw [List.getD_eq_getElem?_getD, List.getD_eq_getElem?_getD, List.getElem?_map, List.getElem?_eq_getElem hi']
  rfl
theorem open_ints {r : Reach} {b0 : Nat} {v : Value} {d : DataW H} {p : List MemPlace} (hv : Value.okWide Tryd.prog w r b0 24 v) (h : DataW.Trod enc Tryd.prog w base spare held 24 v d p) :
    ∃ xs, RowI (fun _ => True) w v xs ∧ ∀ n ∈ xs, inJ n := by
  obtain ⟨fuel, hf⟩ := h
  obtain ⟨a0, len0, cap0, rfl⟩ := okWide_slice Tryd.underlying24 hv
  obtain ⟨ys, hy⟩ := open_cells (d := ⟨0, by unfold inJ; omega⟩) Tryd.underlying24 (by kernel_rfl) open_i64 hf
  exact ⟨_, hy.vals, fun n hn => by
    simp only [List.mem_map] at hn
    obtain ⟨y, -, rfl⟩ := hn
    exact y.2⟩
theorem open_b1 (f : Nat) (v : Value) (x : DataW H × List MemPlace) (h : DataW.trod enc Tryd.prog w base spare held f 4 [v] = some x) : ∃ y, v = .bool y := by
  obtain ⟨m, e0, -⟩ := DataW.trod_bool Tryd.underlying4 h
  simp at e0
  exact ⟨m, e0⟩
theorem open_bools {r : Reach} {b0 : Nat} {v : Value} {d : DataW H} {p : List MemPlace} (hv : Value.okWide Tryd.prog w r b0 32 v) (h : DataW.Trod enc Tryd.prog w base spare held 32 v d p) :
    ∃ xs, RowO (fun _ => True) w v xs := by
  obtain ⟨fuel, hf⟩ := h
  obtain ⟨a0, len0, cap0, rfl⟩ := okWide_slice Tryd.underlying32 hv
  exact open_cells Tryd.underlying32 (by kernel_rfl) open_b1 hf
theorem open_rows {r : Reach} {b0 : Nat} {v : Value} {dd : DataW H} {p : List MemPlace} (hv : Value.okWide Tryd.prog w r b0 23 v) (h : DataW.Trod enc Tryd.prog w base spare held 23 v dd p) :
    ∃ (a : Option Addr) (cap : Nat) (ls : List (List UInt8)), v = .slice a ls.length cap ∧ ls.length ≤ cap ∧ cap ≤ maxLen ∧ RowsB (fun _ => True) w a ls := by
  obtain ⟨a0, len0, cap0, rfl⟩ := okWide_slice Tryd.underlying23 hv
  obtain ⟨fuel, hf⟩ := h
  rcases DataW.trod_slice Tryd.underlying23 hf with ⟨e4, -⟩ | ⟨a, len, cap, elems, rest, n', hn, e4, -, hb, hlc, hcm, hel, hget, -, -⟩
  · simp [Value.cells] at e4
    obtain ⟨rfl, rfl, rfl⟩ := e4
    exact ⟨none, 0, [], rfl, Nat.le_refl _, Nat.zero_le _, fun i hi => absurd hi (Nat.not_lt_zero _)⟩
  · simp [Value.cells] at e4
    obtain ⟨rfl, rfl, rfl⟩ := e4
    have hc1 : Tryd.prog.cellsOf 22 = 1 := by kernel_rfl
    rw [hc1] at hget
    have one : ∀ i, i < len0 → ∃ l : List UInt8, ∃ u, w.cell? ((a.add i).add 0) = some u ∧ RowB (fun _ => True) w u l := fun i hi => by
      have key := hget i hi
      rw [List.getElem?_eq_getElem (by omega)] at key
      obtain ⟨cs', h1, h2⟩ := Option.bind_eq_some_iff.1 key
      obtain ⟨hcl, _, hcell⟩ := World.cells?_some h1
      match cs', hcl with
      | [c], _ =>
        obtain ⟨y, hy⟩ := open_row h2
        exact ⟨y, c, by simpa using hcell 0 (by omega), hy⟩
    have hspot : 0 < len0 → a.spot = Option.none := fun h0 => by
      obtain ⟨y, u, h1, -⟩ := one 0 h0
      have h00 := World.cell?_spot h1
      simpa [Addr.add] using h00
    obtain ⟨kid, hkid⟩ := Deep.choose_lt (α := List UInt8) (n := len0) (p := fun i l => ∃ u, w.cell? ((a.add i).add 0) = some u ∧ RowB (fun _ => True) w u l) one
    refine ⟨some a, cap0, (List.range len0).map kid, by simp, by simpa using hlc, by omega, fun i hi => ?_⟩
    have hi' : i < len0 := by simpa using hi
    obtain ⟨bl, o, spot⟩ := a
    have hsp : spot = Option.none := hspot (by omega)
    subst hsp
    obtain ⟨u, h1, h2⟩ := hkid i hi'
    rw [add_plain, add_plain] at h1
    exact ⟨bl, o, u, rfl, trivial, World.block_lt_of_cell? _ _ h1, by simpa using h1, by rw [get_range hi']; exact h2⟩
end
end Go.Proofs.YtamnndocbnbkiaaDoor

/- The bound of the second form, for a row of rows; how much rows are. -/
namespace Go.Proofs.YtamnndocbnbkiaaDoor
open Go.ChangeShapes Go.WideShapes Go.RowKit
set_option linter.unusedVariables false

def sumT (ls : List (List UInt8)) : Nat := (ls.map fun r => 1 + r.length).sum
theorem sumT_take (ls : List (List UInt8)) (j : Nat) (h : j < ls.length) : sumT (ls.take (j + 1)) = sumT (ls.take j) + (1 + (ls.getD j []).length) := by
  unfold sumT
  rw [List.take_add_one, List.map_append, List.sum_append, List.getElem?_eq_getElem h, List.getD_eq_getElem?_getD, List.getElem?_eq_getElem h]
  simp
theorem sumT_le (ls : List (List UInt8)) (j : Nat) : sumT (ls.take j) ≤ sumT ls := by
  have h : sumT ls = sumT (ls.take j) + sumT (ls.drop j) := by
    have := congrArg sumT (List.take_append_drop j ls)
    rw [← this]
    unfold sumT
    rw [List.map_append, List.sum_append]
  omega
theorem sumT_len (ls : List (List UInt8)) : ls.length ≤ sumT ls := by
  unfold sumT
  induction ls with
  | nil => simp
  | cons r ls ih => simp only [List.length_cons, List.map_cons, List.sum_cons]; omega
theorem row_le' (p : List UInt8) (h : p.length ≤ 9223372036854775807) : (rowT p).length ≤ p.length + 23 := by
  unfold rowT
  have := dec_len20 p.length h
  simp only [List.length_append, List.length_cons, List.length_nil]
  omega
theorem tie_sum (ls : List (List UInt8)) (h : sumT ls ≤ 1000000000) : (tieT ls).length ≤ 24 * sumT ls := by
  induction ls with
  | nil => simp [tieT]
  | cons r ls ih =>
    have e1 : sumT (r :: ls) = 1 + r.length + sumT ls := by simp [sumT]
    have e2 : tieT (r :: ls) = rowT r ++ tieT ls := by simp [tieT]
    rw [e1] at h ⊢
    rw [e2, List.length_append]
    have := ih (by omega)
    have := row_le' r (by omega)
    omega
theorem get_sum (ls : List (List UInt8)) (j : Nat) (h : j < ls.length) : 1 + (ls.getD j []).length ≤ sumT ls := by
  have h1 := sumT_take ls j h
  have h2 := sumT_le ls (j + 1)
  omega
section
variable {H : Type} {enc : TypeId × Value → H} {w : World} {base : Nat} {spare : Nat → Bool} {held : Bool}
theorem all_len (l : List (DataW H)) : l.length ≤ Rows.uptoBulkAll l := by
  induction l with
  | nil => simp
  | cons x r ih =>
    have : 1 ≤ Rows.uptoBulk x := by
      cases x with
      | lit l => cases l <;> simp [Rows.uptoBulk]
      | nil => simp [Rows.uptoBulk]
      | ptr d => simp [Rows.uptoBulk]
      | slice elems spare => simp [Rows.uptoBulk]
      | agg parts => simp [Rows.uptoBulk]
      | iface t d => simp [Rows.uptoBulk]
      | map entries => simp [Rows.uptoBulk]
      | held h => simp [Rows.uptoBulk]
    simp only [Rows.uptoBulkAll, List.length_cons]
    omega
theorem sum_bulk : ∀ (ls : List (List UInt8)) (ds : List (DataW H)), ls.length = ds.length → (∀ i, i < ls.length → (ls.getD i []).length + 1 ≤ Rows.uptoBulk (ds.getD i .nil)) → sumT ls ≤ Rows.uptoBulkAll ds
  | [], [], _, _ => by simp [sumT]
  | r :: ls, d :: ds, hl, h => by
    have h0 := h 0 (by simp)
    have h1 := sum_bulk ls ds (by simpa using hl) (fun i hi => by have := h (i + 1) (by simp; omega); simpa using this)
    have e1 : sumT (r :: ls) = 1 + r.length + sumT ls := by simp [sumT]
    simp only [Rows.uptoBulkAll]
    simp at h0
    omega
  | [], _ :: _, hl, _ => by simp at hl
  | _ :: _, [], hl, _ => by simp at hl
theorem row_bulk {fuel : Nat} {v : Value} {x : DataW H × List MemPlace} (h : DataW.trod enc Tryd.prog w base spare held fuel 22 [v] = some x) : ∃ xs, RowB (fun _ => True) w v xs ∧ xs.length + 1 ≤ Rows.uptoBulk x.1 := by
  obtain ⟨xs, hx⟩ := open_row h
  refine ⟨xs, hx, ?_⟩
  obtain ⟨a', cap', hv, -, -, -⟩ := hx.form
  rcases DataW.trod_slice Tryd.underlying22 h with ⟨e4, e5⟩ | ⟨a, len, cap, elems, rest, n', hn, e4, e5, hb, hlc, hcm, hel, hget, -, -⟩
  · simp at e4
    rw [e4] at hv
    cases hx0 : xs with
    | nil => subst e5; simp [Rows.uptoBulk]
    | cons c r => rw [hx0] at hv; simp at hv
  · simp at e4
    rw [e4] at hv
    have hl : len = xs.length := by injection hv
    subst e5
    have := all_len (elems.map (·.1))
    simp only [Rows.uptoBulk]
    rw [List.length_map] at this
    omega
theorem open_rowsU {r : Reach} {b0 : Nat} {v : Value} {dd : DataW H} {p : List MemPlace} (hv : Value.okWide Tryd.prog w r b0 23 v) (h : DataW.Trod enc Tryd.prog w base spare held 23 v dd p) :
    ∃ (a : Option Addr) (cap : Nat) (ls : List (List UInt8)), v = .slice a ls.length cap ∧ RowsB (fun _ => True) w a ls ∧ sumT ls ≤ Rows.uptoBulk dd := by
  obtain ⟨a0, len0, cap0, rfl⟩ := okWide_slice Tryd.underlying23 hv
  obtain ⟨fuel, hf⟩ := h
  rcases DataW.trod_slice Tryd.underlying23 hf with ⟨e4, e5⟩ | ⟨a, len, cap, elems, rest, n', hn, e4, e5, hb, hlc, hcm, hel, hget, -, -⟩
  · simp [Value.cells] at e4
    obtain ⟨rfl, rfl, rfl⟩ := e4
    exact ⟨none, 0, [], rfl, fun i hi => absurd hi (Nat.not_lt_zero _), by simp [sumT]⟩
  · simp [Value.cells] at e4
    obtain ⟨rfl, rfl, rfl⟩ := e4
    have hc1 : Tryd.prog.cellsOf 22 = 1 := by kernel_rfl
    rw [hc1] at hget
    have one : ∀ i, i < len0 → ∃ l : List UInt8, (∃ u, w.cell? ((a.add i).add 0) = some u ∧ RowB (fun _ => True) w u l) ∧ l.length + 1 ≤ Rows.uptoBulk ((elems.map (·.1)).getD i .nil) := fun i hi => by
      have key := hget i hi
      rw [List.getElem?_eq_getElem (by omega)] at key
      obtain ⟨cs', h1, h2⟩ := Option.bind_eq_some_iff.1 key
      obtain ⟨hcl, _, hcell⟩ := World.cells?_some h1
      match cs', hcl with
      | [c], _ =>
        obtain ⟨y, hy, hyl⟩ := row_bulk h2
        refine ⟨y, ⟨c, by simpa using hcell 0 (by omega), hy⟩, ?_⟩
        rw [List.getD_eq_getElem?_getD, List.getElem?_map, List.getElem?_eq_getElem (by omega)]
        exact hyl
    have hspot : 0 < len0 → a.spot = Option.none := fun h0 => by
      obtain ⟨y, ⟨u, h1, -⟩, -⟩ := one 0 h0
      have h00 := World.cell?_spot h1
      simpa [Addr.add] using h00
    obtain ⟨kid, hkid⟩ := Deep.choose_lt (α := List UInt8) (n := len0) (p := fun i l => (∃ u, w.cell? ((a.add i).add 0) = some u ∧ RowB (fun _ => True) w u l) ∧ l.length + 1 ≤ Rows.uptoBulk ((elems.map (·.1)).getD i .nil)) one
    refine ⟨some a, cap0, (List.range len0).map kid, by simp, fun i hi => ?_, ?_⟩
    · have hi' : i < len0 := by simpa using hi
      obtain ⟨bl, o, spot⟩ := a
      have hsp : spot = Option.none := hspot (by omega)
      subst hsp
      obtain ⟨⟨u, h1, h2⟩, -⟩ := hkid i hi'
      rw [add_plain, add_plain] at h1
      exact ⟨bl, o, u, rfl, trivial, World.block_lt_of_cell? _ _ h1, by simpa using h1, by rw [get_range hi']; exact h2⟩
    · have h3 := sum_bulk ((List.range len0).map kid) (elems.map (·.1)) (by simp; omega) (fun i hi => by
        have hi' : i < len0 := by simpa using hi
        rw [get_range hi']
        exact (hkid i hi').2)
      have e6 : dd = .slice (elems.map (·.1)) (rest.map (·.1)) := congrArg Prod.fst e5
      rw [e6]
      simp only [Rows.uptoBulk]
      omega
end
end Go.Proofs.YtamnndocbnbkiaaDoor
