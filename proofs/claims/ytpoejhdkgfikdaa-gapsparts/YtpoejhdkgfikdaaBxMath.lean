/- Boxes of whole numbers: points in them, the first point that is in none. -/
namespace Go.Proofs.Ytpoejhdkgfikdaa
set_option linter.unusedVariables false

abbrev Bx := List Int × List Int
def ix (l : List Int) (i : Nat) : Int := l.getD i 0
def okB (b : Bx) : Prop := 1 ≤ b.1.length ∧ b.1.length ≤ 3 ∧ b.2.length = b.1.length ∧ ∀ i, i < b.1.length → 0 ≤ ix b.1 i ∧ ix b.1 i ≤ ix b.2 i ∧ ix b.2 i ≤ 1000
def inB (b : Bx) (p : List Int) : Prop := p.length = b.1.length ∧ ∀ i, i < p.length → ix b.1 i ≤ ix p i ∧ ix p i ≤ ix b.2 i
def cov (l : List Bx) (p : List Int) : Prop := ∃ b, b ∈ l ∧ inB b p
def meets (a b : Bx) : Prop := ∀ i, i < a.1.length → ix a.1 i ≤ ix b.2 i ∧ ix b.1 i ≤ ix a.2 i
def bx (l : List Bx) (i : Nat) : Bx := l.getD i ([], [])
theorem bx_mem {l : List Bx} {i : Nat} (h : i < l.length) : bx l i ∈ l := by
  unfold bx
  rw [List.getD_eq_getElem?_getD, List.getElem?_eq_getElem h]
  exact List.getElem_mem h
theorem bx_of {l : List Bx} {b : Bx} (h : b ∈ l) : ∃ i, i < l.length ∧ bx l i = b := by
  obtain ⟨i, hi, rfl⟩ := List.getElem_of_mem h
  exact ⟨i, hi, by unfold bx; rw [List.getD_eq_getElem?_getD, List.getElem?_eq_getElem hi]; rfl⟩
theorem bx_take {l : List Bx} {b : Bx} {j : Nat} : b ∈ l.take j ↔ ∃ i, i < j ∧ i < l.length ∧ bx l i = b := by
  constructor
  · intro h
    obtain ⟨i, hi, rfl⟩ := List.getElem_of_mem h
    rw [List.length_take] at hi
    refine ⟨i, by omega, by omega, ?_⟩
    unfold bx
    rw [List.getD_eq_getElem?_getD, List.getElem?_eq_getElem (by omega), List.getElem_take]
    rfl
  · rintro ⟨i, hj, hl, rfl⟩
    unfold bx
    rw [List.getD_eq_getElem?_getD, List.getElem?_eq_getElem hl]
    show l[i] ∈ l.take j
    rw [List.mem_take_iff_getElem]
    exact ⟨i, by omega, rfl⟩
theorem ix_get {l : List Int} {i : Nat} (h : i < l.length) : ix l i = l[i] := by
  unfold ix
  rw [List.getD_eq_getElem?_getD, List.getElem?_eq_getElem h]
  rfl
theorem ix_app {p s : List Int} {i : Nat} (h : i < p.length) : ix (p ++ s) i = ix p i := by
  unfold ix
  rw [List.getD_eq_getElem?_getD, List.getD_eq_getElem?_getD, List.getElem?_append_left h]
theorem ix_last (p : List Int) (x : Int) : ix (p ++ [x]) p.length = x := by
  unfold ix
  rw [List.getD_eq_getElem?_getD, List.getElem?_append_right (Nat.le_refl _)]
  simp
theorem ix_ext {p q : List Int} (h : p.length = q.length) (k : ∀ i, i < p.length → ix p i = ix q i) : p = q := by
  refine List.ext_getElem h fun i h1 h2 => ?_
  have := k i h1
  rwa [ix_get h1, ix_get h2] at this
theorem ix_set {p : List Int} {d : Nat} (x : Int) (h : d < p.length) : ix (p.set d x) d = x := by
  rw [ix_get (by simpa using h)]
  simp
theorem ix_set_ne {p : List Int} {d i : Nat} (x : Int) (h : i ≠ d) : ix (p.set d x) i = ix p i := by
  unfold ix
  rw [List.getD_eq_getElem?_getD, List.getD_eq_getElem?_getD, List.getElem?_set_ne (fun e => h e.symm)]

def pre (p q : List Int) : Prop := ∀ i, i < p.length → ix q i = ix p i
def bef (q h : List Int) : Prop := ∃ j, j < h.length ∧ (∀ i, i < j → ix q i = ix h i) ∧ ix q j < ix h j
def allW (n : Nat) (W : Nat → Int → Prop) (q : List Int) : Prop := q.length = n ∧ ∀ i, i < n → W i (ix q i)
/- the first point, side by side of W, that begins with p and of which C does not hold. -/
def LF (n : Nat) (W : Nat → Int → Prop) (C : List Int → Prop) (p : List Int) : Option (List Int) → Prop
  | none => ∀ q, allW n W q → pre p q → C q
  | some h => allW n W h ∧ pre p h ∧ ¬ C h ∧ ∀ q, allW n W q → pre p q → bef q h → C q
theorem pre_snoc {p q : List Int} {x : Int} : pre (p ++ [x]) q ↔ pre p q ∧ ix q p.length = x := by
  constructor
  · intro h
    refine ⟨fun i hi => ?_, ?_⟩
    · rw [h i (by simp; omega), ix_app hi]
    · rw [h p.length (by simp), ix_last]
  · rintro ⟨h, hx⟩ i hi
    rw [List.length_append, List.length_singleton] at hi
    by_cases e : i = p.length
    · subst e
      rw [hx, ix_last]
    · rw [h i (by omega), ix_app (by omega)]
theorem LF_none {n : Nat} {W : Nat → Int → Prop} {C : List Int → Prop} {p : List Int} (hn : p.length = n) (h : C p) : LF n W C p none := by
  intro q hq hp
  have : q = p := ix_ext (by rw [hq.1, hn]) (fun i hi => hp i (by rw [hn]; rw [hq.1] at hi; exact hi))
  rw [this]
  exact h
theorem LF_some {n : Nat} {W : Nat → Int → Prop} {C : List Int → Prop} {p : List Int} (hn : p.length = n) (hw : ∀ i, i < n → W i (ix p i)) (h : ¬ C p) : LF n W C p (some p) := by
  refine ⟨⟨hn, hw⟩, fun i _ => rfl, h, fun q hq hp hb => ?_⟩
  obtain ⟨j, hj, -, hlt⟩ := hb
  rw [hp j hj] at hlt
  omega
/- of all points that begin with p and have at the next side a number of which D holds, C holds. -/
def gone (n : Nat) (W : Nat → Int → Prop) (C : List Int → Prop) (p : List Int) (D : Int → Prop) : Prop := ∀ q, allW n W q → pre p q → D (ix q p.length) → C q
theorem gone_one {n : Nat} {W : Nat → Int → Prop} {C : List Int → Prop} {p : List Int} {D : Int → Prop} {x : Int} (h : gone n W C p D) (k : LF n W C (p ++ [x]) none) : gone n W C p (fun v => D v ∨ v = x) := by
  intro q hq hp hd
  rcases hd with hd | hd
  · exact h q hq hp hd
  · exact k q hq (pre_snoc.2 ⟨hp, hd⟩)
theorem LF_end {n : Nat} {W : Nat → Int → Prop} {C : List Int → Prop} {p : List Int} {D : Int → Prop} (hn : p.length < n) (h : gone n W C p D) (hd : ∀ v, W p.length v → D v) : LF n W C p none :=
  fun q hq hp => h q hq hp (hd _ (hq.2 _ hn))
theorem LF_found {n : Nat} {W : Nat → Int → Prop} {C : List Int → Prop} {p q : List Int} {D : Int → Prop} {x : Int} (hn : p.length < n) (h : gone n W C p D) (k : LF n W C (p ++ [x]) (some q)) (hd : ∀ v, W p.length v → v < x → D v) : LF n W C p (some q) := by
  obtain ⟨k1, k2, k3, k4⟩ := k
  obtain ⟨k5, k6⟩ := pre_snoc.1 k2
  refine ⟨k1, k5, k3, fun r hr hp hb => ?_⟩
  by_cases hx : ix r p.length < x
  · exact h r hr hp (hd _ (hr.2 _ hn) hx)
  · obtain ⟨j, hj, he, hlt⟩ := hb
    have hjp : p.length < j := by
      by_cases h1 : j < p.length
      · rw [hp j h1, k5 j h1] at hlt
        omega
      · by_cases h2 : j = p.length
        · subst h2
          rw [k6] at hlt
          exact absurd hlt hx
        · omega
    exact k4 r hr (pre_snoc.2 ⟨hp, (he _ hjp).trans k6⟩) ⟨j, hj, he, hlt⟩
theorem bef_or {q h : List Int} (hl : q.length = h.length) (hne : q ≠ h) : bef q h ∨ bef h q := by
  have : ∃ j, j < h.length ∧ (∀ i, i < j → ix q i = ix h i) ∧ ix q j ≠ ix h j := by
    refine Classical.byContradiction fun hc => hne (ix_ext hl ?_)
    intro i
    induction i using Nat.strongRecOn with
    | _ i ih =>
      intro hi
      refine Classical.byContradiction fun he => hc ⟨i, by omega, fun k hk => ih k hk (by omega), he⟩
  obtain ⟨j, hj, he, hx⟩ := this
  by_cases hlt : ix q j < ix h j
  · exact .inl ⟨j, hj, he, hlt⟩
  · exact .inr ⟨j, by omega, fun i hi => (he i hi).symm, by omega⟩
theorem LF_one {n : Nat} {W : Nat → Int → Prop} {C : List Int → Prop} {p : List Int} {r r' : Option (List Int)} (h : LF n W C p r) (k : LF n W C p r') : r = r' := by
  cases r with
  | none =>
    cases r' with
    | none => rfl
    | some q => exact absurd (h q k.1 k.2.1) k.2.2.1
  | some a =>
    cases r' with
    | none => exact absurd (k a h.1 h.2.1) h.2.2.1
    | some b =>
      congr 1
      refine Classical.byContradiction fun hne => ?_
      rcases bef_or (h.1.1.trans k.1.1.symm) hne with hb | hb
      · exact h.2.2.1 (k.2.2.2 a h.1 h.2.1 hb)
      · exact k.2.2.1 (h.2.2.2 b k.1 k.2.1 hb)
/- there is one, or none. -/
theorem LF_is (n : Nat) (wl wh : List Int) (C : List Int → Prop) : ∀ (k : Nat) (p : List Int), p.length + k = n → (∀ i, i < p.length → ix wl i ≤ ix p i ∧ ix p i ≤ ix wh i) → ∃ r, LF n (fun i x => ix wl i ≤ x ∧ x ≤ ix wh i) C p r := by
  intro k
  induction k with
  | zero =>
    intro p hp hw
    by_cases h : C p
    · exact ⟨none, LF_none (by omega) h⟩
    · exact ⟨some p, LF_some (by omega) (fun i hi => hw i (by omega)) h⟩
  | succ k ih =>
    intro p hp hw
    have main : ∀ m : Nat, (∃ r, LF n (fun i x => ix wl i ≤ x ∧ x ≤ ix wh i) C p r) ∨ gone n (fun i x => ix wl i ≤ x ∧ x ≤ ix wh i) C p (fun v => v < ix wl p.length + m) := by
      intro m
      induction m with
      | zero => exact .inr fun q hq _ hd => by have := hq.2 p.length (by omega); simp at hd; omega
      | succ m im =>
        rcases im with im | im
        · exact .inl im
        · by_cases hm : ix wl p.length + m ≤ ix wh p.length
          · obtain ⟨r, hr⟩ := ih (p ++ [ix wl p.length + m]) (by simp; omega) (fun i hi => by
              rw [List.length_append, List.length_singleton] at hi
              by_cases e : i = p.length
              · subst e; rw [ix_last]; omega
              · rw [ix_app (by omega)]; exact hw i (by omega))
            cases r with
            | none => exact .inr fun q hq hpq hd => gone_one im hr q hq hpq (by push_cast at hd; omega)
            | some a => exact .inl ⟨_, LF_found (by omega) im hr (fun v _ hv => hv)⟩
          · exact .inl ⟨none, LF_end (by omega) im (fun v hv => by omega)⟩
    rcases main (ix wh p.length + 1 - ix wl p.length).toNat with h | h
    · exact h
    · exact ⟨none, LF_end (by omega) h (fun v hv => by omega)⟩
/- the marks: where the first one can stand. -/
theorem LF_marks {n : Nat} {wl wh : List Int} {l : List Bx} {M : Nat → Int → Prop} (hM : ∀ i, i < n → ∀ x, M i x → ix wl i ≤ x ∧ x ≤ ix wh i) (hl : ∀ i, i < n → M i (ix wl i)) (hh : ∀ i, i < n → ∀ b ∈ l, ix wl i < ix b.2 i + 1 → ix b.2 i + 1 ≤ ix wh i → M i (ix b.2 i + 1))
    {r : Option (List Int)} (h : LF n M (cov l) [] r) : LF n (fun i x => ix wl i ≤ x ∧ x ≤ ix wh i) (cov l) [] r := by
  obtain ⟨r', h'⟩ := LF_is n wl wh (cov l) n [] (by simp) (fun i hi => absurd hi (Nat.not_lt_zero _))
  have key : ∀ a, r' = some a → allW n M a := by
    rintro a rfl
    refine ⟨h'.1.1, fun i hi => ?_⟩
    obtain ⟨h1, h2⟩ := h'.1.2 i hi
    by_cases e : ix a i = ix wl i
    · rw [e]; exact hl i hi
    · have hlen := h'.1.1
      have hc := h'.2.2.2 (a.set i (ix a i - 1)) ⟨by simpa using hlen, fun k hk => by
        by_cases ek : k = i
        · subst ek; rw [ix_set _ (by omega)]; omega
        · rw [ix_set_ne _ ek]; exact h'.1.2 k hk⟩ (fun k hk => absurd hk (Nat.not_lt_zero _)) ⟨i, by omega, fun k hk => ix_set_ne _ (by omega), by rw [ix_set _ (by omega)]; omega⟩
      obtain ⟨b, hb, hin⟩ := hc
      have hnot : ¬ inB b a := fun hx => h'.2.2.1 ⟨b, hb, hx⟩
      have h3 := hin.2 i (by simp; omega)
      rw [ix_set _ (by omega)] at h3
      have h4 : ix a i = ix b.2 i + 1 := by
        refine Classical.byContradiction fun hne => hnot ⟨by simpa using hin.1, fun k hk => ?_⟩
        have h5 := hin.2 k (by simpa using hk)
        by_cases ek : k = i
        · subst ek; omega
        · rwa [ix_set_ne _ ek] at h5
      rw [h4]
      exact hh i hi b hb (by omega) (by omega)
  have : r = r' := by
    cases r with
    | none =>
      cases r' with
      | none => rfl
      | some a => exact absurd (h a (key a rfl) (fun k hk => absurd hk (Nat.not_lt_zero _))) h'.2.2.1
    | some q =>
      have hq : allW n (fun i x => ix wl i ≤ x ∧ x ≤ ix wh i) q := ⟨h.1.1, fun i hi => hM i hi _ (h.1.2 i hi)⟩
      cases r' with
      | none => exact absurd (h' q hq (fun k hk => absurd hk (Nat.not_lt_zero _))) h.2.2.1
      | some a =>
        congr 1
        refine Classical.byContradiction fun hne => ?_
        rcases bef_or (h.1.1.trans h'.1.1.symm) hne with hb | hb
        · exact h.2.2.1 (h'.2.2.2 q hq (fun k hk => absurd hk (Nat.not_lt_zero _)) hb)
        · exact h'.2.2.1 (h.2.2.2 a (key a rfl) (fun k hk => absurd hk (Nat.not_lt_zero _)) hb)
  rw [this]
  exact h'
/- the first two that meet. -/
def OV (l : List Bx) (i k : Int) (ok : Bool) : Prop :=
  (ok = true ∧ ∃ a b : Nat, i = a ∧ k = b ∧ a < b ∧ b < l.length ∧ meets (bx l a) (bx l b) ∧ ∀ c d : Nat, c < d → d < l.length → (c < a ∨ (c = a ∧ d < b)) → ¬ meets (bx l c) (bx l d)) ∨
  (ok = false ∧ i = 0 ∧ k = 0 ∧ ∀ c d : Nat, c < d → d < l.length → ¬ meets (bx l c) (bx l d))
theorem OV_one {l : List Bx} {i k i' k' : Int} {o o' : Bool} (h : OV l i k o) (h' : OV l i' k' o') : i = i' ∧ k = k' ∧ o = o' := by
  rcases h with ⟨rfl, a, b, rfl, rfl, ab, bl, hm, hn⟩ | ⟨rfl, rfl, rfl, hn⟩
  · rcases h' with ⟨rfl, a', b', rfl, rfl, ab', bl', hm', hn'⟩ | ⟨rfl, rfl, rfl, hn'⟩
    · have h1 : ¬ (a' < a ∨ (a' = a ∧ b' < b)) := fun hc => hn a' b' ab' bl' hc hm'
      have h2 : ¬ (a < a' ∨ (a = a' ∧ b < b')) := fun hc => hn' a b ab bl hc hm
      refine ⟨by omega, by omega, rfl⟩
    · exact absurd hm (hn' a b ab bl)
  · rcases h' with ⟨rfl, a', b', rfl, rfl, ab', bl', hm', hn'⟩ | ⟨rfl, rfl, rfl, hn'⟩
    · exact absurd hm' (hn a' b' ab' bl')
    · exact ⟨rfl, rfl, rfl⟩
end Go.Proofs.Ytpoejhdkgfikdaa
