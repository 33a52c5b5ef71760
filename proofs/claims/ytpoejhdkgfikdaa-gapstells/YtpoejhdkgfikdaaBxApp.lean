/- append of a row of numbers, in a region whose order is drawn; skipping numbers that no box tells apart. -/
import Derived.Test.YtpoejhdkgfikdaaBxMarks
import Derived.Test.YtpoejhdkgfikdaaBxHole
import Derived.Deep.AppendLies
namespace Go.Proofs.Ytpoejhdkgfikdaa
open Go.ChangeShapes Go.WideShapes Go.RowKit
set_option linter.unusedVariables false
set_option linter.unusedSimpArgs false

theorem step_row {w : World} {ops : Array Oper} {o : Oper} {ac : Act} {K : Act → World → Prop} {P : Exit → Act → World → Prop} {E : Prop} (hgd : o.guard = none) (s x : Operand)
    (ho : o.op = .call { callee := .builtin .append, args := #[s, x], argTypes := #[23, 23] }) (B : Nat) (v : Value) (ms : List Int) (hs : ac.eval s = v) (own : Own1 B w v ms) (hv : v ≠ .slice none 0 0)
    (vp : Value) (p : List Int) (hx : ac.eval x = vp) (hr : RowI (fun _ => True) w vp p) (hp0 : p.length = 0 → vp = .slice none 0 0) (hn : ms.length + p.length ≤ 1000) (hB : B ≤ w.heap.size)
    (h : ∀ v' w', Own1 B w' v' (ms ++ p) → v' ≠ .slice none 0 0 → w.grownBy w' v.ownBlock → (v.ownBlock = v'.ownBlock ∨ ∀ g, v'.ownBlock = some g → w.heap.size ≤ g) → K (ac.put o.dst v') w') : if Region.wanted o (yielded ops ac.tmps) = true then Oper.wp Try.prog o ac w K P else E := by
  rw [if_pos (by simp [Region.wanted, hgd])]
  obtain ⟨i, hi, hz, hz1, hz2⟩ := info_parts infoInt
  obtain ⟨a, cap, rfl⟩ := hr.form
  have hc := hr.at.2.2
  by_cases h0 : p.length = 0
  · obtain rfl : p = [] := List.eq_nil_of_length_eq_zero h0
    have e := hp0 rfl
    rw [e] at hx
    have hrun := run_append_owned_none (P := Try.prog) w B 23 o.type 3 i 1 Try.underlying23 hi v ms.length _ own
    unfold Oper.wp
    simp [execOp, ho, resolve, invoke, builtin, hs, hx, hrun, Result.andThen]
    exact h v w (by simpa using own) hv (World.grownBy.refl _ _) (.inl rfl)
  · obtain ⟨bl, o0, rfl, hlt, _⟩ := hc 0 (by omega)
    refine wp_append_lies w s x 23 ho B 3 i _ 1 8 Try.underlying23 hi hz hz1 hz2 rfl (by decide) v ms.length _ hs own ⟨bl, o0, none⟩ p.length cap (p.map (Value.int .i64)) hx (by simp) ?_ ?_ (by omega) (by unfold maxLen; omega) (by omega) hB _ rfl ?_
    · intro j u hu
      have hj : j < p.length := by
        have := (List.getElem?_eq_some_iff.1 hu).1
        simpa using this
      obtain ⟨bl', o', e, _, hcell⟩ := hc j hj
      cases e
      rw [add_plain, hcell, ix_get hj]
      rw [List.getElem?_map, List.getElem?_eq_getElem hj] at hu
      exact hu
    · intro u hu
      simp only [List.mem_map] at hu
      obtain ⟨y, _, rfl⟩ := hu
      rfl
    · intro g c' w' h1 h2 h3 h4
      refine h _ w' ?_ (by simp) h2 ?_
      · unfold Own1
        simpa using h1
      · rcases h3 with h3 | h3
        · exact .inl (by rw [h3]; rfl)
        · exact .inr (fun g' hg' => by simp [Value.ownBlock] at hg'; omega)
theorem own_lt {B : Nat} {v : Value} {ms : List Int} {w : World} (h : Own1 B w v ms) : ∀ g, v.ownBlock = some g → g < w.heap.size := by
  intro k hk
  rcases h.2 with ⟨rfl, _⟩ | ⟨g', cap, cur, rfl, hB, hh, hr⟩
  · cases hk
  · simp only [Value.ownBlock, Option.some.injEq] at hk
    subst hk
    exact (Array.getElem?_eq_some_iff.1 hh).1
theorem gone_skip {wl wh : List Int} {n : Nat} {l : List Bx} {p : List Int} {x nx : Int} (hl : ∀ b, b ∈ l → b.1.length = n) (hd : p.length < n) (h : gone n (within (wl, wh)) (cov l) p (fun v => v < x)) (k : LF n (within (wl, wh)) (cov l) (p ++ [x]) none)
    (hx : ix wl p.length ≤ x ∧ x ≤ ix wh p.length) (hn : ∀ b, b ∈ l → ix b.1 p.length ≤ x → x ≤ ix b.2 p.length → nx ≤ ix b.2 p.length + 1) : gone n (within (wl, wh)) (cov l) p (fun v => v < nx) := by
  intro q hq hpq hlt
  by_cases h1 : ix q p.length < x
  · exact h q hq hpq h1
  · have hql := hq.1
    have hs : allW n (within (wl, wh)) (q.set p.length x) := ⟨by simpa using hql, fun i hi => by
      by_cases e : i = p.length
      · subst e; rw [ix_set _ (by omega)]; exact hx
      · rw [ix_set_ne _ e]; exact hq.2 i hi⟩
    obtain ⟨b, hb, hin⟩ := k (q.set p.length x) hs (pre_snoc.2 ⟨fun i hi => by rw [ix_set_ne _ (by omega)]; exact hpq i hi, ix_set _ (by omega)⟩)
    have hd0 := hin.2 p.length (by simpa using (by omega : p.length < q.length))
    rw [ix_set _ (by omega)] at hd0
    have h2 := hn b hb hd0.1 hd0.2
    refine ⟨b, hb, by simpa using hin.1, fun i hi => ?_⟩
    by_cases e : i = p.length
    · subst e; omega
    · have := hin.2 i (by simpa using hi)
      rwa [ix_set_ne _ e] at this
end Go.Proofs.Ytpoejhdkgfikdaa
