/- A whole that is parted along its first side: the mathematics. -/
import Derived.Test.YtpoejhdkgfikdaaBxMath
import Derived.Test.YtpoejhdkgfikdaaBxHole
namespace Go.Proofs.Ytpoejhdkgfikdaa
set_option linter.unusedVariables false

abbrev Pt := Int × Int × Nat × Nat
def partB (p : Pt) : Bx := ([p.1, 0], [p.2.1, 5])
/- from a on, one behind the other, up to b. -/
def chain : Int → List Pt → Int → Prop
  | a, [], b => a = b
  | a, p :: r, b => p.1 = a ∧ p.1 ≤ p.2.1 ∧ chain (p.2.1 + 1) r b
theorem chain_app {l r : List Pt} : ∀ {a b : Int}, chain a (l ++ r) b ↔ ∃ c, chain a l c ∧ chain c r b := by
  induction l with
  | nil => intro a b; exact ⟨fun h => ⟨a, rfl, h⟩, fun ⟨c, h1, h2⟩ => by cases h1; exact h2⟩
  | cons p l ih =>
    intro a b
    constructor
    · rintro ⟨h1, h2, h3⟩
      obtain ⟨c, h4, h5⟩ := ih.1 h3
      exact ⟨c, ⟨h1, h2, h4⟩, h5⟩
    · rintro ⟨c, ⟨h1, h2, h4⟩, h5⟩
      exact ⟨h1, h2, ih.2 ⟨c, h4, h5⟩⟩
theorem chain_bd {l : List Pt} : ∀ {a b : Int}, chain a l b → a ≤ b ∧ ∀ p, p ∈ l → a ≤ p.1 ∧ p.1 ≤ p.2.1 ∧ p.2.1 < b := by
  induction l with
  | nil => intro a b h; cases h; exact ⟨Int.le_refl _, fun p hp => by cases hp⟩
  | cons q l ih =>
    rintro a b ⟨rfl, h2, h3⟩
    obtain ⟨h4, h5⟩ := ih h3
    refine ⟨by omega, fun p hp => ?_⟩
    rcases List.mem_cons.1 hp with rfl | hp
    · exact ⟨Int.le_refl _, h2, by omega⟩
    · have := h5 p hp
      omega
theorem chain_cov {l : List Pt} : ∀ {a b x : Int}, chain a l b → a ≤ x → x < b → ∃ p, p ∈ l ∧ p.1 ≤ x ∧ x ≤ p.2.1 := by
  induction l with
  | nil => intro a b x h h1 h2; cases h; omega
  | cons q l ih =>
    rintro a b x ⟨rfl, h2, h3⟩ h4 h5
    by_cases hx : x ≤ q.2.1
    · exact ⟨q, List.mem_cons_self, h4, hx⟩
    · obtain ⟨p, hp, h6⟩ := ih h3 (by omega) h5
      exact ⟨p, List.mem_cons_of_mem _ hp, h6⟩
theorem chain_snoc {l : List Pt} {a b t : Int} {g h : Nat} (hc : chain a l b) (ht : b ≤ t) : chain a (l ++ [(b, t, g, h)]) (t + 1) := chain_app.2 ⟨b, hc, rfl, ht, rfl⟩
theorem inPart {p : Pt} {q : List Int} (hq : q.length = 2) : inB (partB p) q ↔ (p.1 ≤ ix q 0 ∧ ix q 0 ≤ p.2.1) ∧ (0 ≤ ix q 1 ∧ ix q 1 ≤ 5) := by
  constructor
  · intro h
    exact ⟨h.2 0 (by omega), h.2 1 (by omega)⟩
  · rintro ⟨h0, h1⟩
    refine ⟨by rw [hq]; rfl, fun i hi => ?_⟩
    rw [hq] at hi
    match i, hi with
    | 0, _ => exact h0
    | 1, _ => exact h1
theorem okPart {p : Pt} (h0 : 0 ≤ p.1) (h1 : p.1 ≤ p.2.1) (h2 : p.2.1 ≤ 1000) : okB (partB p) := by
  refine ⟨by simp [partB], by simp [partB], by simp [partB], fun i hi => ?_⟩
  have hi' : i < 2 := hi
  match i, hi' with
  | 0, _ => exact ⟨h0, h1, h2⟩
  | 1, _ => exact ⟨Int.le_refl _, by show (0 : Int) ≤ 5; omega, by show (5 : Int) ≤ 1000; omega⟩
theorem okWhole {hi : Int} (h0 : 0 ≤ hi) (h1 : hi ≤ 1000) : okB ([0, 0], [hi, 5]) := okPart (p := (0, hi, 0, 0)) (Int.le_refl _) h0 h1
theorem within_whole {hi : Int} {q : List Int} (h : allW 2 (within ([0, 0], [hi, 5])) q) : (0 ≤ ix q 0 ∧ ix q 0 ≤ hi) ∧ (0 ≤ ix q 1 ∧ ix q 1 ≤ 5) := ⟨h.2 0 (by omega), h.2 1 (by omega)⟩
theorem parts_bx {l : List Pt} {i : Nat} (h : i < l.length) : bx (l.map partB) i = partB l[i] := by
  unfold bx
  rw [List.getD_eq_getElem?_getD, List.getElem?_map, List.getElem?_eq_getElem h]
  rfl
theorem parts_fel {l : List Pt} {b : Int} (h : chain 0 l b) (hb : b ≤ 1001) (hl : l.length ≤ 8) : fel (l.map partB) 2 := by
  refine ⟨by simpa using hl, fun i hi => ?_⟩
  have hi' : i < l.length := by simpa using hi
  rw [parts_bx hi']
  obtain ⟨h1, h2, h3⟩ := (chain_bd h).2 l[i] (List.getElem_mem hi')
  exact ⟨okPart h1 h2 (by omega), rfl⟩
theorem parts_none {l : List Pt} {hi : Int} (h : chain 0 l (hi + 1)) : LF 2 (within ([0, 0], [hi, 5])) (cov (l.map partB)) [] none := by
  intro q hq _
  obtain ⟨h0, h1⟩ := within_whole hq
  obtain ⟨p, hp, h2⟩ := chain_cov h h0.1 (by omega)
  exact ⟨partB p, List.mem_map_of_mem hp, (inPart hq.1).2 ⟨h2, h1⟩⟩
theorem parts_apart {l : List Pt} {a b : Int} (h : chain a l b) : ∀ c d : Nat, c < d → d < l.length → ¬ meets (bx (l.map partB) c) (bx (l.map partB) d) := by
  intro c d hcd hd hm
  rw [parts_bx (by omega), parts_bx hd] at hm
  have h0 := hm 0 (by show 0 < 2; omega)
  have h1 : l[c].1 ≤ l[d].2.1 ∧ l[d].1 ≤ l[c].2.1 := h0
  have e : l = l.take d ++ l.drop d := (List.take_append_drop d l).symm
  rw [e] at h
  obtain ⟨m, h2, h3⟩ := chain_app.1 h
  have hc : l[c] ∈ l.take d := by rw [List.mem_take_iff_getElem]; exact ⟨c, by omega, rfl⟩
  have hd' : l[d] ∈ l.drop d := by rw [List.drop_eq_getElem_cons hd]; exact List.mem_cons_self
  have h4 := (chain_bd h2).2 _ hc
  have h5 := (chain_bd h3).2 _ hd'
  omega
theorem parts_hole {l : List Pt} {hi : Int} {g : Nat} (h : chain 0 l (hi + 1)) (hg : g < l.length) : LF 2 (within ([0, 0], [hi, 5])) (cov ((l.take g ++ l.drop (g + 1)).map partB)) [] (some [l[g].1, 0]) := by
  have e : l = l.take g ++ (l[g] :: l.drop (g + 1)) := by rw [← List.drop_eq_getElem_cons hg]; exact (List.take_append_drop g l).symm
  have h' := h
  rw [e] at h'
  obtain ⟨m, h2, h3, h4, h5⟩ := chain_app.1 h'
  have b1 := chain_bd h2
  have b2 := chain_bd h5
  generalize l[g] = p at *
  refine ⟨⟨rfl, fun i hi' => ?_⟩, fun i hi' => absurd hi' (Nat.not_lt_zero _), ?_, ?_⟩
  · match i, hi' with
    | 0, _ => exact ⟨by show 0 ≤ p.1; omega, by show p.1 ≤ hi; omega⟩
    | 1, _ => exact ⟨Int.le_refl _, by show (0 : Int) ≤ 5; omega⟩
  · rintro ⟨b, hb, hin⟩
    obtain ⟨q, hq, rfl⟩ := List.mem_map.1 hb
    have h6 := ((inPart (q := [p.1, 0]) rfl).1 hin).1
    have h7 : q.1 ≤ p.1 ∧ p.1 ≤ q.2.1 := h6
    rcases List.mem_append.1 hq with hq | hq
    · have := b1.2 q hq; omega
    · have := b2.2 q hq; omega
  · rintro q hq - ⟨j, hj, he, hlt⟩
    obtain ⟨h0, h1⟩ := within_whole hq
    have hj' : j < 2 := hj
    have h8 : ix q 0 < p.1 := by
      match j, hj' with
      | 0, _ => exact hlt
      | 1, _ => have : ix q 1 < 0 := hlt; omega
    obtain ⟨r, hr, h9⟩ := chain_cov h2 h0.1 (by omega)
    exact ⟨partB r, List.mem_map_of_mem (List.mem_append_left _ hr), (inPart hq.1).2 ⟨h9, h1⟩⟩
end Go.Proofs.Ytpoejhdkgfikdaa
