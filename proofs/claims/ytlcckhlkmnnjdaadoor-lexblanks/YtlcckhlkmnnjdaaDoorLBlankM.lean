/- Tokens with more blanks between are the same ones. -/
import Derived.Test.YtlcckhlkmnnjdaaDoorLNumM
namespace Go.Proofs.YtlcckhlkmnnjdaaDoor
set_option linter.unusedVariables false

/- nothing, or a blank, stands ahead. -/
def Bl (q : List UInt8) : Prop := q = [] ∨ ∃ q', q = 32 :: q'
theorem Bl.run {q : List UInt8} (h : Bl q) {p : UInt8 → Bool} (hp : p 32 = false) : run p q = 0 := by
  rcases h with rfl | ⟨q', rfl⟩
  · rfl
  · rw [Go.Proofs.YtlcckhlkmnnjdaaDoor.run, if_neg (by simp [hp])]
theorem Bl.head {q : List UInt8} (h : Bl q) {c : UInt8} (hc : c ≠ 32) : q.head? ≠ some c := by
  rcases h with rfl | ⟨q', rfl⟩
  · simp
  · simp; exact fun e => hc e.symm
theorem take_run_all (p : UInt8 → Bool) (r : List UInt8) : (r.take (run p r)).all p = true := by
  rw [List.all_eq_true]
  intro c hc
  obtain ⟨i, hi, rfl⟩ := List.getElem_of_mem hc
  rw [List.length_take] at hi
  rw [List.getElem_take]
  exact run_in r i (by omega) (by omega)
theorem take_run_len (p : UInt8 → Bool) (r : List UInt8) : (r.take (run p r)).length = run p r := by
  rw [List.length_take]; have := run_le p r; omega
theorem run_take_app {p : UInt8 → Bool} {r q : List UInt8} (hp : p 32 = false) (h : Bl q) : run p (r.take (run p r) ++ q) = run p r := by
  rw [run_app (take_run_all p r), h.run hp, take_run_len]; rfl

/- a token, told anew, with its quotes. -/
def rd (t : Tk) : List UInt8 := if t.1 = 3 then 34 :: (t.2.1 ++ [34]) else t.2.1

theorem numN_split (r : List UInt8) : numN r = run dgB r ∨ (∃ B : List UInt8, B.all dgB = true ∧ 1 ≤ B.length ∧ r.take (numN r) = r.take (run dgB r) ++ 46 :: B ∧ numN r = run dgB r + 1 + B.length) := by
  unfold numN
  by_cases h1 : (r.drop (run dgB r)).head? = some 46
  · rw [if_pos h1]
    by_cases h2 : run dgB (r.drop (run dgB r + 1)) = 0
    · rw [if_pos h2]; exact Or.inl rfl
    · rw [if_neg h2]
      refine Or.inr ⟨(r.drop (run dgB r + 1)).take (run dgB (r.drop (run dgB r + 1))), take_run_all _ _, by rw [take_run_len]; omega, ?_, by rw [take_run_len]⟩
      have hlt : run dgB r < r.length := by
        apply Classical.byContradiction
        intro hn
        rw [List.drop_of_length_le (by omega)] at h1
        cases h1
      have hc : r[run dgB r] = 46 := by
        rw [drop_cons hlt, List.head?_cons] at h1
        exact Option.some.inj h1
      generalize run dgB (r.drop (run dgB r + 1)) = m at *
      rw [show run dgB r + 1 + m = run dgB r + (1 + m) by omega, List.take_add, drop_cons hlt, hc, Nat.add_comm 1 m, List.take_succ_cons]
  · rw [if_neg h1]; exact Or.inl rfl
theorem numN_take {r q : List UInt8} (h : Bl q) : numN (r.take (numN r) ++ q) = numN r := by
  rcases numN_split r with e | ⟨B, hB, lB, e, en⟩
  · rw [e]
    have h1 : run dgB (r.take (run dgB r) ++ q) = run dgB r := run_take_app (by decide) h
    unfold numN
    rw [h1, List.drop_left' (take_run_len dgB r), if_neg (h.head (by decide))]
  · rw [e]
    have h1 : run dgB (r.take (run dgB r) ++ 46 :: B ++ q) = run dgB r := by
      rw [List.append_assoc, run_app (take_run_all dgB r), take_run_len]; rfl
    have h2 : (r.take (run dgB r) ++ 46 :: B ++ q).drop (run dgB r) = 46 :: (B ++ q) := by
      rw [List.append_assoc, List.drop_left' (take_run_len dgB r)]; rfl
    have h3 : (r.take (run dgB r) ++ 46 :: B ++ q).drop (run dgB r + 1) = B ++ q := by
      rw [← List.drop_drop, h2]; rfl
    have h4 : run dgB (B ++ q) = B.length := by rw [run_app hB, h.run (by decide)]; rfl
    unfold numN at en ⊢
    rw [h1, h2, h3, List.head?_cons, if_pos rfl, h4, if_neg (by omega)]
    exact en.symm

theorem sgn_in (gs : List (List UInt8)) (r : List UInt8) (h : sgn gs r ≠ 0) : ∃ g ∈ gs, r.take (sgn gs r) = g ∧ sgn gs r = g.length := by
  induction gs with
  | nil => exact absurd rfl h
  | cons g gs ih =>
    unfold sgn at h ⊢
    by_cases hp : preB g r = true
    · rw [if_pos hp] at h ⊢
      refine ⟨g, List.mem_cons_self, ?_, rfl⟩
      unfold preB at hp
      simp only [Bool.and_eq_true] at hp
      exact eq_of_beq hp.2
    · rw [if_neg hp] at h ⊢
      obtain ⟨g', hg, h1, h2⟩ := ih h
      exact ⟨g', List.mem_cons_of_mem _ hg, h1, h2⟩
theorem sgn_bl : ∀ g ∈ sgs, ∀ q, Bl q → sgn sgs (g ++ q) = g.length := by
  intro g hg q hq
  simp only [sgs, List.mem_cons, List.not_mem_nil, or_false] at hg
  rcases hq with rfl | ⟨q', rfl⟩
  · rcases hg with rfl | rfl | rfl | rfl | rfl | rfl | rfl | rfl | rfl | rfl | rfl | rfl | rfl | rfl | rfl | rfl <;> decide
  · rcases hg with rfl | rfl | rfl | rfl | rfl | rfl | rfl | rfl | rfl | rfl | rfl | rfl | rfl | rfl | rfl | rfl <;> simp [sgn, sgs, preB]
theorem sgs_head : ∀ g ∈ sgs, ∃ c g', g = c :: g' ∧ smB c = false ∧ dgB c = false ∧ c.toNat ≠ 34 ∧ c.toNat ≠ 32 := by
  intro g hg
  simp only [sgs, List.mem_cons, List.not_mem_nil, or_false] at hg
  rcases hg with rfl | rfl | rfl | rfl | rfl | rfl | rfl | rfl | rfl | rfl | rfl | rfl | rfl | rfl | rfl | rfl <;> exact ⟨_, _, rfl, by decide, by decide, by decide, by decide⟩

/- what was a token is one again, if a blank or nothing stands behind it. -/
theorem tok_again (r : List UInt8) (hk : tokK r ≠ 0) (q : List UInt8) (hq : Bl q) :
    ∃ c x', r.take (tokN r) = c :: x' ∧ c.toNat ≠ 32 ∧ tokK (r.take (tokN r) ++ q) = tokK r ∧ tokN (r.take (tokN r) ++ q) = (r.take (tokN r)).length ∧ tokT (r.take (tokN r) ++ q) = tokT r ∧ rd (tokK r, tokT r, 0) = r.take (tokN r) := by
  have hN1 := (tokN_bd r).2.1 hk
  have hNl := tokN_le r
  have hlen : (r.take (tokN r)).length = tokN r := by rw [List.length_take]; omega
  -- it is enough to have the kind and the length
  have key : ∀ c x', r.take (tokN r) = c :: x' → c.toNat ≠ 32 → tokK (r.take (tokN r) ++ q) = tokK r → tokN (r.take (tokN r) ++ q) = tokN r → rd (tokK r, tokT r, 0) = r.take (tokN r) →
      ∃ c x', r.take (tokN r) = c :: x' ∧ c.toNat ≠ 32 ∧ tokK (r.take (tokN r) ++ q) = tokK r ∧ tokN (r.take (tokN r) ++ q) = (r.take (tokN r)).length ∧ tokT (r.take (tokN r) ++ q) = tokT r ∧ rd (tokK r, tokT r, 0) = r.take (tokN r) := by
    intro c x' h1 h2 h3 h4 h5
    refine ⟨c, x', h1, h2, h3, by rw [h4, hlen], ?_, h5⟩
    show saidL (tokK (r.take (tokN r) ++ q)) ((r.take (tokN r) ++ q).take (tokN (r.take (tokN r) ++ q))) = saidL (tokK r) (r.take (tokN r))
    rw [h3, h4, List.take_left' hlen]
  have plain : tokK r ≠ 3 → rd (tokK r, tokT r, 0) = r.take (tokN r) := by
    intro h3
    unfold rd tokT saidL
    simp [h3]
  cases r with
  | nil => exact absurd rfl hk
  | cons c r =>
    have hx : ∃ x', (c :: r).take (tokN (c :: r)) = c :: x' := by
      generalize tokN (c :: r) = m at *
      cases m with
      | zero => omega
      | succ m => exact ⟨_, List.take_succ_cons⟩
    obtain ⟨x', hx⟩ := hx
    by_cases h1 : smB c = true
    · have eK : tokK (c :: r) = 1 := by unfold tokK; simp [h1]
      have eN : tokN (c :: r) = run nmB (c :: r) := by unfold tokN; simp [h1]
      refine key c x' hx ?_ ?_ ?_ (plain (by omega))
      · intro e; unfold smB at h1; rw [e] at h1; cases h1
      · rw [eK, hx]; unfold tokK; simp [h1]
      · rw [hx]
        have : tokN (c :: x' ++ q) = run nmB (c :: x' ++ q) := by unfold tokN; simp [h1]
        rw [this, ← hx, eN]
        exact run_take_app (by decide) hq
    · have h1' : smB c = false := by simpa using h1
      by_cases h2 : dgB c = true
      · have eK : tokK (c :: r) = 2 := by unfold tokK; simp [h1', h2]
        have eN : tokN (c :: r) = numN (c :: r) := by unfold tokN; simp [h1', h2]
        refine key c x' hx (dg_facts h2).2 ?_ ?_ (plain (by omega))
        · rw [eK, hx]; unfold tokK; simp [h1', h2]
        · rw [hx]
          have : tokN (c :: x' ++ q) = numN (c :: x' ++ q) := by unfold tokN; simp [h1', h2]
          rw [this, ← hx, eN]
          exact numN_take hq
      · have h2' : dgB c = false := by simpa using h2
        by_cases h3 : c.toNat = 34
        · have hE : endB (c :: r) = true := by
            apply Classical.byContradiction
            intro hn
            apply hk
            unfold tokK; simp [h1', h2', h3, hn]
          have eK : tokK (c :: r) = 3 := by unfold tokK; simp [h1', h2', h3, hE]
          have eN : tokN (c :: r) = 1 + run txB r + 1 := by unfold tokN; simp [h1', h2', h3, hE]
          have hlt := endB_lt hE
          simp only [List.drop_succ_cons, List.drop_zero, List.length_cons] at hlt
          have hc : c = 34 := UInt8.toNat.inj (by rw [h3]; rfl)
          have hq34 : r[run txB r]'(by omega) = 34 := by
            unfold endB at hE
            simp only [List.drop_succ_cons, List.drop_zero] at hE
            rw [Nat.add_comm 1 (run txB r), List.drop_succ_cons, drop_cons (show run txB r < r.length by omega), List.head?_cons] at hE
            exact Option.some.inj (eq_of_beq hE)
          have ex : (c :: r).take (tokN (c :: r)) = 34 :: (r.take (run txB r) ++ [34]) := by
            rw [eN, show 1 + run txB r + 1 = (run txB r + 1) + 1 by omega, List.take_succ_cons, hc, List.take_succ_eq_append_getElem (show run txB r < r.length by omega), hq34]
          have eT : tokT (c :: r) = r.take (run txB r) := by
            unfold tokT saidL
            rw [eK, if_pos rfl, ex]
            simp
          refine key c x' hx (by omega) ?_ ?_ ?_
          · rw [eK, ex]
            have e1 : smB 34 = false := by decide
            have e2 : dgB 34 = false := by decide
            have e3 : (34 : UInt8).toNat = 34 := by decide
            have e4 : endB (34 :: (r.take (run txB r) ++ [34]) ++ q) = true := by
              unfold endB
              simp only [List.cons_append, List.drop_succ_cons, List.drop_zero, List.append_assoc, List.nil_append]
              have : run txB (r.take (run txB r) ++ 34 :: q) = run txB r := by rw [run_app (take_run_all txB r), take_run_len]; rfl
              rw [this, Nat.add_comm 1 (run txB r), List.drop_succ_cons, List.drop_left' (take_run_len txB r)]
              rfl
            unfold tokK
            simp only [List.cons_append] at e4 ⊢
            simp only [e1, e2, e3, e4]
            simp
          · rw [ex, eN]
            have e1 : smB 34 = false := by decide
            have e2 : dgB 34 = false := by decide
            have e3 : (34 : UInt8).toNat = 34 := by decide
            have e5 : run txB (r.take (run txB r) ++ 34 :: q) = run txB r := by rw [run_app (take_run_all txB r), take_run_len]; rfl
            have e4 : endB (34 :: (r.take (run txB r) ++ [34]) ++ q) = true := by
              unfold endB
              simp only [List.cons_append, List.drop_succ_cons, List.drop_zero, List.append_assoc, List.nil_append]
              rw [e5, Nat.add_comm 1 (run txB r), List.drop_succ_cons, List.drop_left' (take_run_len txB r)]
              rfl
            unfold tokN
            simp only [List.cons_append, List.append_assoc, List.nil_append] at e4 ⊢
            simp only [e1, e2, e3, e4]
            simp only [Bool.false_eq_true, if_false, if_true, List.drop_succ_cons, List.drop_zero, e5]
          · unfold rd
            rw [eK, eT, ex]
            rfl
        · have hS : sgn sgs (c :: r) ≠ 0 := by
            intro e
            apply hk
            unfold tokK; simp [h1', h2', h3, e]
          have eK : tokK (c :: r) = 4 := by unfold tokK; simp [h1', h2', h3, hS]
          have eN : tokN (c :: r) = sgn sgs (c :: r) := by unfold tokN; simp [h1', h2', h3]
          obtain ⟨g, hg, e1, e2⟩ := sgn_in sgs (c :: r) hS
          have e3 := sgn_bl g hg q hq
          have eg : (c :: r).take (tokN (c :: r)) = g := by rw [eN]; exact e1
          obtain ⟨c', g', rfl, k1, k2, k3, k4⟩ := sgs_head g hg
          have hcc : c' = c := by rw [hx] at eg; exact (List.cons.inj eg).1.symm
          subst hcc
          refine key c' x' hx k4 ?_ ?_ (plain (by omega))
          · rw [eK, eg]
            unfold tokK
            simp only [List.cons_append] at e3 ⊢
            simp [h1', h2', h3, e3]
          · rw [eg, eN, e2]
            unfold tokN
            simp only [List.cons_append] at e3 ⊢
            simp [h1', h2', h3, e3]

/- a token that was found. -/
def Good (t : Tk) : Prop := ∃ r, t.1 = tokK r ∧ t.2.1 = tokT r ∧ tokK r ≠ 0 ∧ flt (tokK r) (tokT r) = 0
theorem flt_of {r : List UInt8} {n : Nat} (h : tokE r n = 0) : flt (tokK r) (tokT r) = 0 := by
  unfold tokE fltN at h
  by_cases hf : flt (tokK r) (tokT r) = 0
  · exact hf
  · rw [if_neg (fun x => hf x.1)] at h; exact h
theorem lexS_good (r : List UInt8) : ∀ k pos n, ∀ t ∈ (lexS r k pos n).1, Good t := by
  induction r with
  | nil => intro k pos n t ht; simp [lexS] at ht
  | cons c r ih =>
    intro k pos n t ht
    cases k with
    | succ k => rw [lexS] at ht; exact ih k _ _ t ht
    | zero =>
      rw [lexS] at ht
      split at ht
      · exact ih 0 _ _ t ht
      · split at ht
        · rename_i he
          unfold consR at ht
          split at ht
          · rcases List.mem_cons.1 ht with rfl | ht
            · exact ⟨c :: r, rfl, rfl, tokE_kind he, flt_of he⟩
            · exact ih _ _ _ t ht
          · simp at ht
        · simp at ht
theorem lexT_good (l : List UInt8) : ∀ t ∈ (lexT l).1, Good t := by
  unfold lexT
  split
  · intro t ht; simp at ht
  · exact lexS_good l 0 0 0

theorem lexS_rep (n : Nat) (r : List UInt8) : ∀ pos k, lexS (repL 32 n ++ r) 0 pos k = lexS r 0 (pos + n) k := by
  induction n with
  | zero => intro pos k; rfl
  | succ n ih =>
    intro pos k
    show lexS (32 :: (repL 32 n ++ r)) 0 pos k = _
    rw [lexS, if_pos (by decide), ih, show pos + 1 + n = pos + (n + 1) by omega]
theorem lexS_again {t : Tk} (h : Good t) (q : List UInt8) (hq : Bl q) (pos n : Nat) (hn : n < 60) :
    lexS (rd t ++ q) 0 pos n = consR (t.1, t.2.1, pos) (lexS q 0 (pos + (rd t).length) (n + 1)) := by
  obtain ⟨K, T, P⟩ := t
  obtain ⟨r, h1, h2, hk, hf⟩ := h
  dsimp only at h1 h2
  subst h1 h2
  obtain ⟨c, x', e1, e2, e3, e4, e5, e6⟩ := tok_again r hk q hq
  have e7 : rd (tokK r, tokT r, P) = r.take (tokN r) := e6
  rw [e7]
  rw [e1] at e3 e4 e5 ⊢
  have hE : tokE (c :: x' ++ q) n = 0 := by
    unfold tokE fltN
    rw [e3, e5, hf, if_neg (by omega)]
  rw [List.cons_append] at e3 e4 e5 hE ⊢
  rw [lexS, if_neg e2, if_pos hE, e3, e5, e4]
  simp only [List.length_cons, Nat.add_sub_cancel]
  rw [lexS_skip _ _ _ _ (by simp), List.drop_left' rfl, show pos + 1 + x'.length = pos + (x'.length + 1) by omega]

def outL (n : Nat) (ts : List Tk) : List UInt8 := ts.flatMap (fun t => repL 32 n ++ rd t)
theorem outL_cons (n : Nat) (t : Tk) (ts : List Tk) : outL n (t :: ts) = repL 32 n ++ (rd t ++ outL n ts) := by simp [outL]
theorem outL_bl (n : Nat) (hn : 1 ≤ n) (ts : List Tk) : Bl (outL n ts) := by
  cases ts with
  | nil => exact Or.inl rfl
  | cons t ts =>
    rw [outL_cons]
    cases n with
    | zero => omega
    | succ n => exact Or.inr ⟨repL 32 n ++ (rd t ++ outL (n + 1) ts), rfl⟩
theorem lexS_out (n : Nat) (hn : 1 ≤ n) (ts : List Tk) : ∀ pos k, (∀ t ∈ ts, Good t) → k + ts.length ≤ 60 →
    (lexS (outL n ts) 0 pos k).2.2 = 0 ∧ (lexS (outL n ts) 0 pos k).1.length = ts.length ∧ ∀ i (h1 : i < ts.length) (h2 : i < (lexS (outL n ts) 0 pos k).1.length), (lexS (outL n ts) 0 pos k).1[i].1 = ts[i].1 ∧ (lexS (outL n ts) 0 pos k).1[i].2.1 = ts[i].2.1 := by
  induction ts with
  | nil =>
    intro pos k _ _
    refine ⟨rfl, rfl, fun i h1 => absurd h1 (Nat.not_lt_zero _)⟩
  | cons t ts ih =>
    intro pos k hg hk
    rw [List.length_cons] at hk
    obtain ⟨a, b, c⟩ := ih (pos + n + (rd t).length) (k + 1) (fun x hx => hg x (List.mem_cons_of_mem _ hx)) (by omega)
    have e : lexS (outL n (t :: ts)) 0 pos k = consR (t.1, t.2.1, pos + n) (lexS (outL n ts) 0 (pos + n + (rd t).length) (k + 1)) := by
      rw [outL_cons, lexS_rep, lexS_again (hg t List.mem_cons_self) _ (outL_bl n hn ts) _ _ (by omega)]
    rw [e]
    generalize lexS (outL n ts) 0 (pos + n + (rd t).length) (k + 1) = X at *
    obtain ⟨xs, p, er⟩ := X
    dsimp only at a b c
    subst a
    rw [consR_ok]
    refine ⟨rfl, by simp [b], ?_⟩
    intro i h1 h2
    cases i with
    | zero => exact ⟨rfl, rfl⟩
    | succ i => exact c i (by simpa using h1) (by simpa using h2)
theorem lexT_out (n : Nat) (hn : 1 ≤ n) (ts : List Tk) (hg : ∀ t ∈ ts, Good t) (hk : ts.length ≤ 60) (h2 : (outL n ts).length ≤ 200) :
    (lexT (outL n ts)).2.2 = 0 ∧ (lexT (outL n ts)).1.length = ts.length ∧ ∀ i (h1 : i < ts.length) (h2 : i < (lexT (outL n ts)).1.length), (lexT (outL n ts)).1[i].1 = ts[i].1 ∧ (lexT (outL n ts)).1[i].2.1 = ts[i].2.1 := by
  have e : lexT (outL n ts) = lexS (outL n ts) 0 0 0 := by unfold lexT; rw [if_neg (by omega)]
  rw [e]
  exact lexS_out n hn ts 0 0 hg (by omega)
theorem outL_take (n : Nat) (ts : List Tk) (k : Nat) (h : k < ts.length) : outL n (ts.take (k + 1)) = outL n (ts.take k) ++ repL 32 n ++ rd ts[k] := by
  unfold outL
  rw [List.take_succ_eq_append_getElem h, List.flatMap_append, List.append_assoc]
  simp only [List.flatMap_cons, List.flatMap_nil, List.append_nil]
theorem outL_len (n : Nat) (hn : n ≤ 3) (ts : List Tk) (hb : ∀ t ∈ ts, t.2.1.length ≤ 60) : (outL n ts).length ≤ ts.length * 65 := by
  induction ts with
  | nil => exact Nat.le_refl _
  | cons t ts ih =>
    have h1 := ih (fun x hx => hb x (List.mem_cons_of_mem _ hx))
    have h2 := hb t List.mem_cons_self
    have h3 : (rd t).length ≤ t.2.1.length + 2 := by
      unfold rd
      split
      · simp
      · omega
    rw [outL_cons, List.length_append, List.length_append, repL_len, List.length_cons]
    omega
theorem pl_len {l : List UInt8} : ∀ (ts : List Tk) (a : Nat), Pl l a ts → ∀ t ∈ ts, t.2.1.length ≤ l.length := by
  intro ts
  induction ts with
  | nil => intro a _ t ht; cases ht
  | cons x ts ih =>
    intro a h t ht
    rcases List.mem_cons.1 ht with rfl | ht
    · have := h.2.1; omega
    · exact ih _ h.2.2.2 t ht
end Go.Proofs.YtlcckhlkmnnjdaaDoor
