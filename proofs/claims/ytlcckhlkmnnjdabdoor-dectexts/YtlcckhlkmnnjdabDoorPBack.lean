/- A decimal's text is read as the decimal. -/
import Derived.Test.YtlcckhlkmnnjdabDoorPBoth
import Derived.Test.YtlcckhlkmnnjdabDoorDTMath
import Derived.Test.YtlcckhlkmnnjdabDoorMath6
namespace Go.Proofs.YtlcckhlkmnnjdabDoor
open Go.RowKit
set_option linter.unusedVariables false

theorem isDig_of {k : Nat} (h : k < 10) : isDig (UInt8.ofNat (48 + k)) = true ∧ ((UInt8.ofNat (48 + k)).toNat : Int) - 48 = k := by
  have e : (UInt8.ofNat (48 + k)).toNat = 48 + k := by rw [UInt8.toNat_ofNat']; omega
  refine ⟨isDig_yes (by rw [e]; omega) (by rw [e]; omega), by rw [e]; omega⟩
theorem dd_facts (n : Nat) : (Lib.decDigits n).all isDig = true ∧ num (Lib.decDigits n) = n := by
  induction n using Nat.strongRecOn with
  | _ n ih =>
    by_cases h : n < 10
    · rw [Lib.decDigits_one h]
      obtain ⟨h1, h2⟩ := isDig_of h
      refine ⟨by rw [List.all_cons, h1]; rfl, ?_⟩
      unfold num
      rw [List.foldl_cons, List.foldl_nil, h2]
      omega
    · have e : Lib.decDigits n = Lib.decDigits (n / 10) ++ [UInt8.ofNat (48 + n % 10)] := by
        rw [Lib.decDigits, dif_neg h]
      obtain ⟨a1, a2⟩ := ih (n / 10) (by omega)
      obtain ⟨h1, h2⟩ := isDig_of (show n % 10 < 10 by omega)
      rw [e]
      refine ⟨by rw [List.all_append, a1, List.all_cons, h1]; rfl, ?_⟩
      rw [num_snoc, a2, h2]
      omega
theorem rep_facts (k : Nat) : (List.replicate k (48 : UInt8)).all isDig = true ∧ num (List.replicate k (48 : UInt8)) = 0 := by
  induction k with
  | zero => exact ⟨rfl, rfl⟩
  | succ k ih =>
    rw [List.replicate_succ']
    refine ⟨by rw [List.all_append, ih.1]; rfl, ?_⟩
    rw [num_snoc, ih.2]
    rfl
theorem pad_facts (n k : Nat) (hk : 1 ≤ k) (hn : n < 10 ^ k) : (padL n k).all isDig = true ∧ num (padL n k) = n ∧ (padL n k).length = k := by
  unfold padL
  by_cases h0 : n = 0
  · rw [if_pos h0, h0]
    exact ⟨(rep_facts k).1, (rep_facts k).2, List.length_replicate⟩
  · rw [if_neg h0]
    obtain ⟨d1, d2⟩ := dd_facts n
    have hl := dlen_lt n (k - 1) (by rw [show k - 1 + 1 = k by omega]; exact hn)
    refine ⟨by rw [List.all_append, (rep_facts _).1, d1]; rfl, ?_, ?_⟩
    · rw [num_app, (rep_facts _).2, d2]; omega
    · rw [List.length_append, List.length_replicate]; omega
theorem fit_self (m s : Int) (h : isB m s = true) : fitM m s = m ∧ fitS m s = s ∧ fitE m s = 0 := by
  obtain ⟨m1, m2, s1, s2⟩ := isB_bd h
  have hok : okM m = true := (okM_iff m).2 ⟨m1, m2⟩
  have harg : argB m s = false := by unfold argB; exact decide_eq_false (by omega)
  obtain ⟨n, rfl⟩ := Int.eq_ofNat_of_zero_le s1
  have ht : trimM m n = m ∧ trimS m n = n := by
    cases n with
    | zero => exact ⟨rfl, rfl⟩
    | succ n =>
      have h10 := isB_ten h (by omega)
      unfold trimM trimS
      rw [if_neg h10, if_neg h10]
      exact ⟨rfl, rfl⟩
  unfold fitM fitS fitE
  rw [harg]
  simp only [Bool.false_eq_true, if_false, Int.toNat_natCast]
  rw [show min n 4 = n by omega]
  unfold fitTM fitTS fitTE
  rw [show n - n = 0 by omega, show p10 0 = 1 from rfl, half_one, if_pos hok, if_pos hok, if_pos hok, ht.1, ht.2]
  exact ⟨rfl, rfl, rfl⟩

theorem neg_if (neg : Bool) (m u : Int) (hneg : neg = true → m = -u) (hpos : neg = false → m = u) : (if neg = true then -u else u) = m := by
  cases neg with
  | true => rw [if_pos rfl, hneg rfl]
  | false => rw [if_neg (by simp), hpos rfl]
/- the body of a text, read behind its sign. -/
theorem back_body {l r : List UInt8} {neg : Bool} {m s u : Int} (hc : CP l r neg) (h : isB m s = true) (hu0 : 0 ≤ u) (hu1 : u ≤ 1000000000) (hm : (if neg = true then -u else u) = m) (hr : r = bodyL u s) (hrl : r.length ≤ 1000) : PA 4 l m s 0 := by
  obtain ⟨f1, f2, f3⟩ := fit_self m s h
  obtain ⟨m1, m2, s1, s2⟩ := isB_bd h
  by_cases hs : s = 0
  · subst hs
    unfold bodyL at hr
    rw [if_pos rfl] at hr
    obtain ⟨d1, d2⟩ := dd_facts u.toNat
    rw [Int.toNat_of_nonneg hu0] at d2
    have hl := dlen_lt u.toNat 9 (by omega)
    have hl1 := (dlen u (by omega)).1
    have q := (dp_w hc hrl (by rw [hr]; exact d1) (by rw [hr]; exact hl1)).2 (by rw [hr]; omega)
    rw [hr, d2, hm, f1, f2, f3] at q
    exact q
  · have p1 := p10_pos s.toNat
    have p2 := p10_bd (n := s.toNat) (by omega)
    have q2 := Int.ediv_nonneg (a := u) (b := p10 s.toNat) (by omega) (by omega)
    have q3 : u / p10 s.toNat ≤ 1000000000 := Int.le_trans (Int.ediv_le_self _ (by omega)) (by omega)
    have r1 := Int.emod_nonneg u (b := p10 s.toNat) (by omega)
    have r2 := Int.emod_lt_of_pos u (b := p10 s.toNat) (by omega)
    obtain ⟨a1, a2⟩ := dd_facts (u / p10 s.toNat).toNat
    rw [Int.toNat_of_nonneg q2] at a2
    have al := dlen_lt (u / p10 s.toNat).toNat 9 (by omega)
    have al1 := (dlen (u / p10 s.toNat) (by omega)).1
    obtain ⟨b1, b2, b3⟩ := pad_facts (u % p10 s.toNat).toNat s.toNat (by omega) (by rw [p10_nat] at r2 r1 ⊢; omega)
    rw [Int.toNat_of_nonneg r1] at b2
    have hbody : r = Lib.decDigits (u / p10 s.toNat).toNat ++ 46 :: padL (u % p10 s.toNat).toNat s.toNat := by
      rw [hr]
      unfold bodyL
      rw [if_neg hs, pad_body _ s.toNat (by omega), show (s - ((Lib.decDigits (u % p10 s.toNat).toNat).length : Int)).toNat = s.toNat - (Lib.decDigits (u % p10 s.toNat).toNat).length by omega]
      rfl
    have q := (dp_f hc hrl _ _ hbody a1 b1 al1 (by omega)).2 (by omega) (by omega)
    have hnum : num (Lib.decDigits (u / p10 s.toNat).toNat ++ padL (u % p10 s.toNat).toNat s.toNat) = u := by
      rw [num_app, a2, b2, b3, Int.mul_comm]
      exact Int.mul_ediv_add_emod u _
    rw [hnum, hm, b3, Int.toNat_of_nonneg s1, f1, f2, f3] at q
    exact q
theorem body_head (u s : Int) (h0 : 0 ≤ u) (h1 : u ≤ 1000000000) (s1 : 0 ≤ s) (s2 : s ≤ 4) : ∃ c t, bodyL u s = c :: t ∧ c ≠ 45 := by
  have key : ∀ n : Nat, (Lib.decDigits n) ≠ [] → ∀ x : List UInt8, ∃ c t, Lib.decDigits n ++ x = c :: t ∧ c ≠ 45 := by
    intro n hn x
    cases hd : Lib.decDigits n with
    | nil => exact absurd hd hn
    | cons c t =>
      refine ⟨c, t ++ x, rfl, ?_⟩
      intro e
      have := (dd_facts n).1
      rw [hd, List.all_cons, e] at this
      exact absurd this (by simp [isDig])
  have hne : ∀ v : Int, 0 ≤ v → v ≤ 1000000000 → Lib.decDigits v.toNat ≠ [] := by
    intro v a b e
    have := (dlen v (by omega)).1
    rw [e] at this
    simp at this
  unfold bodyL
  by_cases hs : s = 0
  · rw [if_pos hs]
    have := key u.toNat (hne u h0 h1) []
    rwa [List.append_nil] at this
  · rw [if_neg hs]
    have p1 := p10_pos s.toNat
    exact key _ (hne _ (Int.ediv_nonneg (by omega) (by omega)) (Int.le_trans (Int.ediv_le_self _ (by omega)) (by omega))) _
theorem body_len2 (u s : Int) (h0 : 0 ≤ u) (h1 : u ≤ 1000000000) (s1 : 0 ≤ s) (s2 : s ≤ 4) : (bodyL u s).length ≤ 60 := by
  unfold bodyL
  have pb := p10_pos s.toNat
  by_cases hs : s = 0
  · rw [if_pos hs]; have := (dlen u (by omega)).2; omega
  · rw [if_neg hs]
    have q3 : u / p10 s.toNat ≤ 1000000000 := Int.le_trans (Int.ediv_le_self _ (by omega)) (by omega)
    have r3 : u % p10 s.toNat ≤ 1000000000 := by
      have := Int.emod_lt_of_pos u (b := p10 s.toNat) (by omega)
      have := p10_bd (n := s.toNat) (by omega)
      omega
    have a := (dlen (u / p10 s.toNat) (by omega)).2
    have b := (dlen (u % p10 s.toNat) (by omega)).2
    simp only [List.length_append, Lib.repeatL_length, List.length_cons, List.length_nil]
    omega
theorem parse_back (m s : Int) (h : isB m s = true) : PA 4 (sgnL m ++ bodyL (absI m) s) m s 0 ∧ (sgnL m ++ bodyL (absI m) s).length ≤ 61 := by
  obtain ⟨m1, m2, s1, s2⟩ := isB_bd h
  by_cases hn : m < 0
  · have e1 : sgnL m = [45] := if_pos hn
    have e2 : absI m = -m := if_pos hn
    rw [e1, e2]
    have hl := body_len2 (-m) s (by omega) (by omega) s1 s2
    refine ⟨back_body (neg := true) (u := -m) (r := bodyL (-m) s) ?_ h (by omega) (by omega) (by rw [if_pos rfl]; omega) rfl (by omega), by simp; omega⟩
    exact fun w => cutp_yes (bodyL (-m) s) w (by omega)
  · have e1 : sgnL m = [] := if_neg hn
    have e2 : absI m = m := if_neg hn
    rw [e1, e2, List.nil_append]
    have hl := body_len2 m s (by omega) (by omega) s1 s2
    obtain ⟨c, t, hb, hc⟩ := body_head m s (by omega) (by omega) s1 s2
    refine ⟨back_body (neg := false) (u := m) (r := bodyL m s) ?_ h (by omega) (by omega) (by rw [if_neg (by simp)]) rfl (by omega), by omega⟩
    rw [hb] at hl ⊢
    simp only [List.length_cons] at hl
    exact fun w => cutp_no c t w (by omega) hc
end Go.Proofs.YtlcckhlkmnnjdabDoor
