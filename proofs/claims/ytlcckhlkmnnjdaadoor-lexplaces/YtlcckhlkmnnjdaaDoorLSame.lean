/- Rows of tokens are read; the contract of the law's same. -/
import Derived.Test.YtlcckhlkmnnjdaaDoorLLex
import Derived.Deep.QuietTactic
import Derived.BigQuiet
import Derived.Laws.OwnMore
namespace Go.Proofs.YtlcckhlkmnnjdaaDoor
open Go.RowKit
set_option linter.unusedVariables false

theorem tksC_get (ts : List Tk) : ∀ (i : Nat) (h : i < ts.length) (q : Nat), q < 3 → (tksC ts)[i * 3 + q]? = (tkC ts[i])[q]? := by
  induction ts with
  | nil => intro i h; exact absurd h (Nat.not_lt_zero _)
  | cons t ts ih =>
    intro i h q hq
    rw [tksC, List.flatMap_cons, ← tksC]
    cases i with
    | zero => rw [List.getElem?_append_left (by simp [tkC]; omega)]; simp
    | succ i =>
      rw [List.getElem?_append_right (by simp [tkC]; omega)]
      have e : (i + 1) * 3 + q - (tkC t).length = i * 3 + q := by simp [tkC]; omega
      rw [e, ih i (by simpa using h) q hq]
      simp

/- the token's three cells. -/
def Tok3 (w : World) (g o : Nat) (t : Tk) : Prop := g < w.heap.size ∧ w.cell? ⟨g, o, none⟩ = some (.int .i64 (t.1 : Int)) ∧ w.cell? ⟨g, o + 1, none⟩ = some (.string ⟨t.2.1.toArray⟩) ∧ w.cell? ⟨g, o + 2, none⟩ = some (.int .i64 (t.2.2 : Int))
theorem own_at {w : World} {B : Nat} {v : Value} {ts : List Tk} (h : w.ownsRow B 33 3 v ts.length (tksC ts)) (hl : 0 < ts.length) :
    ∃ g cap, v = .slice (some ⟨g, 0, none⟩) ts.length cap ∧ B ≤ g ∧ ∀ i (hi : i < ts.length), Tok3 w g (i * 3) ts[i] := by
  obtain ⟨g, cap, rfl, hb, hg⟩ := h.form hl
  refine ⟨g, cap, rfl, hb, fun i hi => ⟨hg, ?_, ?_, ?_⟩⟩
  · have := h.cellAt (i * 3) (by omega)
    rw [this, show i * 3 = i * 3 + 0 by omega, tksC_get ts i hi 0 (by omega)]; rfl
  · have := h.cellAt (i * 3 + 1) (by omega)
    rw [this, tksC_get ts i hi 1 (by omega)]; rfl
  · have := h.cellAt (i * 3 + 2) (by omega)
    rw [this, tksC_get ts i hi 2 (by omega)]; rfl

set_option maxHeartbeats 3200000 in
theorem lsame_any (ts : List Tk) (v1 v2 : Value) (B1 B2 : Nat) (w : World) (hl : ts.length ≤ 1000) (o1 : w.ownsRow B1 33 3 v1 ts.length (tksC ts)) (o2 : w.ownsRow B2 33 3 v2 ts.length (tksC ts)) :
    Calls Tryd.prog 11 #[v1, v2] w fun e w' => e = .returned (.bool true) ∧ ∃ n, w' = w.drewN n := by
  by_cases h0 : ts.length = 0
  · obtain ⟨a1, c1, rfl⟩ := owns_form o1
    obtain ⟨a2, c2, rfl⟩ := owns_form o2
    rw [h0]
    clear o1 o2
    go_enter Tryd.func11, Tryd.ntmps11
    go_wp2_with fail
    go_loop [5] (fun i => i = .int .i64 0) (fun _ => 0)
    case atStart => rfl
    case round =>
      subst hrel
      go_wp2_with fail
      go_ret
      exact ⟨rfl, 0, rfl⟩
  · obtain ⟨g1, c1, rfl, -, t1⟩ := own_at o1 (by omega)
    obtain ⟨g2, c2, rfl, -, t2⟩ := own_at o2 (by omega)
    have T1 := hide t1
    have T2 := hide t2
    clear o1 o2 t1 t2
    go_enter Tryd.func11, Tryd.ntmps11
    go_wp2_with fail
    go_loopw [5] (fun i wr => ∃ (k n : Nat), k ≤ ts.length ∧ i = .int .i64 k ∧ wr = w.drewN n) (fun i _ => ts.length - (intOf i).toNat)
    case atStart => exact ⟨0, 0, by omega, rfl, rfl⟩
    case round =>
      obtain ⟨k, n, hk, rfl, rfl⟩ := hrel
      by_cases hlt : k < ts.length
      · obtain ⟨p0, p1, p2, p3⟩ := unhide T1 k hlt
        obtain ⟨q0, q1, q2, q3⟩ := unhide T2 k hlt
        generalize ts[k] = t at *
        obtain ⟨K, tT, P⟩ := t
        dsimp only at p1 p2 p3 q1 q2 q3
        go_wp2_with fail
        go_quiet (fail)
        go_wp2_with fail
        go_roundw
        case rel => exact ⟨k + 1, _, by omega, by go_num, (by first | rfl | exact World.drewN_drewN _ _ _)⟩
        case measure => simp [intOf]; omega
      · go_wp2_with fail
        go_ret
        exact ⟨rfl, n, rfl⟩
end Go.Proofs.YtlcckhlkmnnjdaaDoor
