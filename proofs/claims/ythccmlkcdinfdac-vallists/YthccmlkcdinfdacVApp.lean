/- append onto a row of values of the call's own. -/
import Derived.Test.YthccmlkcdinfdacVCopy
import Derived.Test.YthccmlkcdinfdacValOrdersM
import Derived.Deep.AppendLies
import Derived.Laws.OwnMore
namespace Go.Proofs.Ythccmlkcdinfdac
open Go.RowKit

/- the cells of a list's elements, one behind the other. -/
def cellAt (kid : Nat → VT) (j : Nat) : Value := ((kid (j / 6)).cells[j % 6]?).getD (.bool false)
def cellsOf (kid : Nat → VT) (n : Nat) : List Value := (List.range (n * 6)).map (cellAt kid)
theorem cellsOf_length (kid : Nat → VT) (n : Nat) : (cellsOf kid n).length = n * 6 := by simp [cellsOf]
theorem cellsOf_get {kid : Nat → VT} {n j : Nat} (h : j < n * 6) : (cellsOf kid n)[j]? = some (cellAt kid j) := by simp [cellsOf, h]
theorem cells_six {w : World} {x : VT} (h : x.In w) : ∀ q, q < 6 → ∃ v, x.cells[q]? = some v ∧ v.oneCell' = true := by
  cases x with
  | none => exact absurd h (by simp [VT.In])
  | mk k b m s t a len cap kid =>
    intro q hq
    match q, hq with
    | 0, _ => exact ⟨_, rfl, rfl⟩
    | 1, _ => exact ⟨_, rfl, rfl⟩
    | 2, _ => exact ⟨_, rfl, rfl⟩
    | 3, _ => exact ⟨_, rfl, rfl⟩
    | 4, _ => exact ⟨_, rfl, rfl⟩
    | 5, _ => exact ⟨_, rfl, rfl⟩
theorem cellAt_eq {w : World} {kid : Nat → VT} {i q : Nat} (h : (kid i).In w) (hq : q < 6) : (kid i).cells[q]? = some (cellAt kid (i * 6 + q)) := by
  obtain ⟨v, hv, -⟩ := cells_six h q hq
  unfold cellAt
  rw [show (i * 6 + q) / 6 = i by omega, show (i * 6 + q) % 6 = q by omega, hv]
  rfl
theorem cellAt_one {w : World} {kid : Nat → VT} {j : Nat} (h : (kid (j / 6)).In w) : (cellAt kid j).oneCell' = true := by
  obtain ⟨v, hv, ho⟩ := cells_six h (j % 6) (by omega)
  unfold cellAt
  rw [hv]; exact ho
theorem in_cells {w : World} {k : Int} {b : Bool} {m s : Int} {t : ByteArray} {bl o : Nat} {len cap : Nat} {kid : Nat → VT} (h : (VT.mk k b m s t (some ⟨bl, o, none⟩) len cap kid).In w) {j : Nat} (hj : j < len * 6) : w.cell? ⟨bl, o + j, none⟩ = some (cellAt kid j) := by
  obtain ⟨⟨bl', o', ha, hc⟩, hk⟩ := h.2 (j / 6) (by omega)
  simp only [Option.some.injEq, Addr.mk.injEq, and_true] at ha
  obtain ⟨rfl, rfl⟩ := ha
  have h1 := hc (j % 6) (by omega)
  rw [cellAt_eq hk (by omega), show j / 6 * 6 + j % 6 = j by omega, Nat.add_assoc, show j / 6 * 6 + j % 6 = j by omega] at h1
  exact h1

theorem app_any (base : Nat) (u : World) (v : Value) (n : Nat) (xs : List Value) (hown : u.ownsRow base 26 6 v n xs) {k : Int} {b : Bool} {m s : Int} {t : ByteArray} {a : Option Addr} {len cap : Nat} {kid : Nat → VT} (hin : (VT.mk k b m s t a len cap kid).In u)
    (hn : n ≤ 8) (hl : len ≤ 8) (hbase : base ≤ u.heap.size) (hv : v ≠ .slice none 0 0) :
    ∃ v' u', (Builtin.append_ #[24, 24] 24 #[v, .slice a len cap]).run Try.prog u = .ok v' u' ∧ u'.ownsRow base 26 6 v' (n + len) (xs ++ cellsOf kid len) ∧ u.grownBy u' v.ownBlock ∧ v' ≠ .slice none 0 0 ∧ (v'.ownBlock = v.ownBlock ∨ v'.ownBlock = some u.heap.size) := by
  obtain ⟨i, hi, hzz⟩ := Option.map_eq_some_iff.1 infoVal
  simp only [Prod.mk.injEq] at hzz
  obtain ⟨hz, hs, hb⟩ := hzz
  have news1 : ∀ u ∈ cellsOf kid len, u.oneCell' = true := by
    intro v hv
    obtain ⟨j, hj, rfl⟩ := List.mem_map.1 hv
    exact cellAt_one (hin.2 (j / 6) (by have := List.mem_range.1 hj; omega)).2
  cases a with
  | some ad =>
    obtain ⟨v', w', h1, h2, h3, h4, h5⟩ := run_append_own_at (P := Try.prog) u base 24 24 26 i _ 6 72 Try.underlying24 hi hz hs hb rfl (by omega) v n xs hown ad len cap (cellsOf kid len) (cellsOf_length kid len) (fun j v hj => by
      have hlt : j < len * 6 := by
        have h := (List.getElem?_eq_some_iff.1 hj).1
        rwa [cellsOf_length] at h
      obtain ⟨⟨bl, o, ha, -⟩, -⟩ := hin.2 (j / 6) (by omega)
      simp only [Option.some.injEq] at ha
      subst ha
      rw [cellsOf_get hlt] at hj
      rw [Addr.add_mid, in_cells hin hlt]; exact hj) news1 (by unfold maxLen; omega) (by omega) hbase
    exact ⟨v', w', h1, h2, h3, fun e => hv (h4.1 e).1, h5⟩
  | none =>
    have h0 : len = 0 := by
      apply Classical.byContradiction
      intro h
      obtain ⟨⟨bl, o, ha, -⟩, -⟩ := hin.2 0 (by omega)
      cases ha
    subst h0
    refine ⟨v, u, ?_, by simpa [cellsOf] using hown, ⟨rfl, rfl, rfl, Nat.le_refl _, fun _ _ _ => rfl⟩, hv, Or.inl rfl⟩
    rcases hown.2 with ⟨e, -⟩ | ⟨g, c, cur, rfl, -, -, hnc, -⟩
    · exact absurd e hv
    · simp [Builtin.append_, run_underlying Try.underlying24, sizeOf, typeInfo, hi, Builtin.lenOf, hnc, run_firstCells_none, storeCells]
theorem wp_app {o : Oper} {a : Act} {u : World} {K : Act → World → Prop} {Q : Exit → Act → World → Prop} (s x : Operand) (d : Option Tmp) {v lv v' : Value} {u' : World} (hd : o.dst = d)
    (ho : o.op = .call { callee := .builtin .append, args := #[s, x], argTypes := #[24, 24] }) (hs : a.eval s = v) (hx : a.eval x = lv)
    (hrun : (Builtin.append_ #[24, 24] o.type #[v, lv]).run Try.prog u = .ok v' u') (h : K (a.put d v') u') : o.wp Try.prog a u K Q := by
  subst hd
  unfold Oper.wp execOp
  simp only [ho, resolve, invoke, builtin, Sem.run_bind, Sem.run_pure, Result.andThen_ok, List.map_toArray, List.map_cons, List.map_nil, hs, hx, hrun]
  exact h

theorem okB_same (x : VT) : ∀ (y : VT) (n : Nat), x.same y = true → y.okB n = true → x.okB n = true := by
  induction x with
  | none => intro y n h; exact absurd h (by cases y <;> simp [VT.same])
  | mk k b m s t a len cap kid ih =>
    intro y n h hy
    cases y with
    | none => exact absurd hy (by simp [VT.okB])
    | mk k' b' m' s' t' a' len' cap' kid' =>
      obtain ⟨rfl, rfl, rfl, rfl, rfl, rfl, hs⟩ := same_parts h
      have al := (okB_kind hy).1
      rw [okB_yes n al] at hy ⊢
      by_cases k0 : k = 0 ∨ k = 1
      · rw [if_pos k0]
      rw [if_neg k0] at hy ⊢
      by_cases k2 : k = 2
      · rw [if_pos k2] at hy ⊢; exact hy
      rw [if_neg k2] at hy ⊢
      by_cases k3 : k = 3
      · rw [if_pos k3] at hy ⊢; exact hy
      rw [if_neg k3] at hy ⊢
      by_cases k4 : k = 4
      · rw [if_pos k4] at hy ⊢
        simp only [Bool.and_eq_true, decide_eq_true_eq] at hy ⊢
        exact ⟨hy.1, hy.2.1, all_range (f := fun i => (kid i).okB (n - 1)) (fun i hi => ih i _ _ (hs i hi) (all_range_get (f := fun i => (kid' i).okB (n - 1)) hy.2.2 hi))⟩
      rw [if_neg k4] at hy; cases hy

theorem grown_own {w w' : World} {row : Option Nat} {b : Nat} (h : Own w b) (hg : w.grownBy w' row) (hne : some b ≠ row) : Own w' b := by
  obtain ⟨⟨h0, e0, e1, e2, e3, e4, e5⟩, f0, f1, f2, f3, f4, f5⟩ := h
  have hb := hg.block b h0 hne
  exact ⟨⟨Nat.lt_of_lt_of_le h0 hg.size, (World.cell?_of_block hb).trans e0, (World.cell?_of_block hb).trans e1, (World.cell?_of_block hb).trans e2, (World.cell?_of_block hb).trans e3, (World.cell?_of_block hb).trans e4, (World.cell?_of_block hb).trans e5⟩, (World.frozen?_of_block hb).trans f0, (World.frozen?_of_block hb).trans f1, (World.frozen?_of_block hb).trans f2, (World.frozen?_of_block hb).trans f3, (World.frozen?_of_block hb).trans f4, (World.frozen?_of_block hb).trans f5⟩
theorem grown_six {w w' : World} {row : Option Nat} {b o : Nat} {k : Int} {bb : Bool} {m s : Int} {t : ByteArray} {a : Option Addr} {len cap : Nat} (h : VT.Six w b o k bb m s t a len cap) (hg : w.grownBy w' row) (hne : some b ≠ row) : VT.Six w' b o k bb m s t a len cap := by
  obtain ⟨h0, e0, e1, e2, e3, e4, e5⟩ := h
  have hb := hg.block b h0 hne
  exact ⟨Nat.lt_of_lt_of_le h0 hg.size, (World.cell?_of_block hb).trans e0, (World.cell?_of_block hb).trans e1, (World.cell?_of_block hb).trans e2, (World.cell?_of_block hb).trans e3, (World.cell?_of_block hb).trans e4, (World.cell?_of_block hb).trans e5⟩
theorem put_grown (w : World) (nb : Nat) (v0 v1 v2 v3 v4 v5 : Value) : w.grownBy ((((((w.setCell ⟨nb, 0, none⟩ v0).setCell ⟨nb, 1, none⟩ v1).setCell ⟨nb, 2, none⟩ v2).setCell ⟨nb, 3, none⟩ v3).setCell ⟨nb, 4, none⟩ v4).setCell ⟨nb, 5, none⟩ v5) (some nb) :=
  have b := ((((((Below.refl 0 w).setCell (p := ⟨nb, 0, none⟩) (Nat.zero_le _) v0).setCell (p := ⟨nb, 1, none⟩) (Nat.zero_le _) v1).setCell (p := ⟨nb, 2, none⟩) (Nat.zero_le _) v2).setCell (p := ⟨nb, 3, none⟩) (Nat.zero_le _) v3).setCell (p := ⟨nb, 4, none⟩) (Nat.zero_le _) v4).setCell (p := ⟨nb, 5, none⟩) (Nat.zero_le _) v5
  ⟨b.os, b.tape, b.output, b.size, fun k _ h => by
    have hk : k ≠ nb := fun e => h (by rw [e])
    rw [Below.heap_setCell _ _ _ _ hk, Below.heap_setCell _ _ _ _ hk, Below.heap_setCell _ _ _ _ hk, Below.heap_setCell _ _ _ _ hk, Below.heap_setCell _ _ _ _ hk, Below.heap_setCell _ _ _ _ hk]⟩
theorem ne_slice {g b : Nat} (n c : Nat) (h : b < g) : (Value.slice (some ⟨g, 0, none⟩) n c).ownBlock ≠ some b := fun e => by
  have : g = b := by simpa [Value.ownBlock] using e
  omega
theorem ne_new {w : World} {base : Nat} {e : TypeId} {size : Nat} {v : Value} {n : Nat} {xs : List Value} (h : w.ownsRow base e size v n xs) : v.ownBlock ≠ some w.heap.size := fun e => by
  have := (h.lt _ e).2; omega
theorem ne_app {u : World} {v v' : Value} {b : Nat} (h : v'.ownBlock = v.ownBlock ∨ v'.ownBlock = some u.heap.size) (hb : b < u.heap.size) (hv : v.ownBlock ≠ some b) : v'.ownBlock ≠ some b := by
  rcases h with h | h
  · rw [h]; exact hv
  · rw [h]; intro e; have : u.heap.size = b := by simpa using e
    omega

/- the row with one more at its end, as a tree. -/
theorem more_in {u : World} {base g cap' : Nat} {k : Int} {b : Bool} {m s : Int} {t : ByteArray} {a : Option Addr} {len cap : Nat} {kid : Nat → VT} {x : VT} (hin : (VT.mk k b m s t a len cap kid).In u) (hx : x.In u) (hl : len < 8)
    (ho : u.ownsRow base 26 6 (.slice (some ⟨g, 0, none⟩) (len + 1) cap') (len + 1) (cellsOf kid len ++ cellsOf (fun _ => x) 1)) :
    (VT.mk 4 false 0 0 ⟨#[]⟩ (some ⟨g, 0, none⟩) (len + 1) cap' (fun i => if i < len then kid i else x)).In u := by
  have hc : len + 1 ≤ cap' ∧ cap' ≤ maxLen := by
    rcases ho.2 with ⟨e, -⟩ | ⟨g', c, cur, e, -, -, h1, h2, -⟩
    · cases e
    · simp only [Value.slice.injEq] at e
      obtain ⟨-, -, rfl⟩ := e
      exact ⟨h1, h2⟩
  refine ⟨⟨rfl, rfl, rfl, Nat.zero_le _, hc.1, hc.2⟩, fun i hi => ⟨⟨g, 0, rfl, fun q hq => ?_⟩, ?_⟩⟩
  · have e := ho.cellAt (i * 6 + q) (by omega)
    rw [Nat.zero_add, e]
    by_cases hlt : i < len
    · rw [List.getElem?_append_left (by rw [cellsOf_length]; omega), cellsOf_get (by omega)]
      dsimp only
      rw [if_pos hlt]
      exact (cellAt_eq (hin.2 i hlt).2 hq).symm
    · have hil : i = len := by omega
      subst hil
      rw [List.getElem?_append_right (by rw [cellsOf_length]; omega), cellsOf_length, show i * 6 + q - i * 6 = 0 * 6 + q by omega, cellsOf_get (by omega)]
      dsimp only
      rw [if_neg hlt]
      exact (cellAt_eq (kid := fun _ => x) (i := 0) hx hq).symm
  · dsimp only
    by_cases hlt : i < len
    · rw [if_pos hlt]; exact (hin.2 i hlt).2
    · rw [if_neg hlt]; exact hx

theorem more_cmp {k : Int} {b b' : Bool} {m s m' s' : Int} {t t' : ByteArray} {a a' : Option Addr} {len cap cap' : Nat} {kid : Nat → VT} {x : VT} (hk : k = 4) :
    (VT.mk k b m s t a len cap kid).cmp (VT.mk k b' m' s' t' a' (len + 1) cap' (fun i => if i < len then kid i else x)) = -1 := by
  rw [cmp_kind, if_neg (by omega), if_neg (by omega), if_neg (by omega), lex_none _ (fun i hi => ?_)]
  · unfold cmpI; rw [if_pos (by omega)]
  · rw [if_pos (by omega)]; exact cmp_self _
end Go.Proofs.Ythccmlkcdinfdac
