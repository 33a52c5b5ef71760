/- Math6 PBack SNum SAro SRow SBnd: laid together. -/
import Derived.Test.YtejnmkhdnhggcaaDoorSAD
import Derived.Test.YtejnmkhdnhggcaaDoorSBB
import Derived.Test.YtejnmkhdnhggcaaDoorSBA
import Derived.Shelf.Abstract
/- More of the plain reckoning: signs are kept; one value has one decimal. -/
namespace Go.Proofs.YtejnmkhdnhggcaaDoor

theorem half_sign (n d : Int) (hd : 1 ≤ d) : (0 ≤ n → 0 ≤ half n d) ∧ (n ≤ 0 → half n d ≤ 0) := by
  have hb := half_bd n d
  constructor
  · intro h
    have := Int.ediv_nonneg h (show 0 ≤ d by omega)
    omega
  · intro h
    have h1 := Int.emod_nonneg n (b := d) (by omega)
    have h2 := Int.emod_lt_of_pos n (b := d) (by omega)
    have h3 := Int.mul_ediv_add_emod n d
    by_cases h0 : n / d ≤ -1
    · omega
    · have hq : n / d = 0 := by
        have : n / d ≤ 0 := by
          refine Int.not_lt.1 fun hp => ?_
          have := Int.mul_le_mul_of_nonneg_left (show 1 ≤ n / d by omega) (show 0 ≤ d by omega)
          omega
        omega
      rw [hq, Int.mul_zero] at h3
      have : half n d = 0 := by unfold half; rw [hq, if_neg (by omega)]
      omega

theorem trim_sign (t : Nat) : ∀ m : Int, (0 ≤ m → 0 ≤ trimM m t) ∧ (m ≤ 0 → trimM m t ≤ 0) := by
  induction t with
  | zero => intro m; exact ⟨fun h => h, fun h => h⟩
  | succ t ih =>
    intro m
    unfold trimM
    by_cases h : m % 10 = 0
    · rw [if_pos h]
      have := ih (m / 10)
      exact ⟨fun h1 => this.1 (by omega), fun h1 => this.2 (by omega)⟩
    · rw [if_neg h]
      exact ⟨fun h => h, fun h => h⟩

theorem fit_sign (v z : Int) : (0 ≤ v → 0 ≤ fitM v z) ∧ (v ≤ 0 → fitM v z ≤ 0) := by
  unfold fitM
  split
  · exact ⟨fun _ => by omega, fun _ => by omega⟩
  · generalize min z.toNat 4 + 1 = t
    induction t with
    | zero => exact ⟨fun _ => Int.le_refl _, fun _ => Int.le_refl _⟩
    | succ t ih =>
      unfold fitTM
      split
      · have h1 := half_sign v (p10 (z.toNat - t)) (p10_pos _)
        have h2 := trim_sign t (half v (p10 (z.toNat - t)))
        exact ⟨fun h => h2.1 (h1.1 h), fun h => h2.2 (h1.2 h)⟩
      · exact ih

theorem isB_ten {m s : Int} (h : isB m s = true) (hs : s ≠ 0) : m % 10 ≠ 0 := by
  unfold isB at h
  simp at h
  omega

theorem up_inj (m s n t : Int) (ha : isB m s = true) (hb : isB n t = true) (h : upM m s (max s t) = upM n t (max s t)) : m = n ∧ s = t := by
  have ⟨m1, m2, s1, s2⟩ := isB_bd ha
  have ⟨n1, n2, t1, t2⟩ := isB_bd hb
  unfold upM at h
  by_cases c1 : s < t
  · exfalso
    have hn := isB_ten hb (by omega)
    rw [show max s t = t by omega, show (t - t).toNat = 0 by omega, show (t - s).toNat = (t - s - 1).toNat + 1 by omega, p10_succ, ← Int.mul_assoc] at h
    have : n * p10 0 = n := by show n * 1 = n; omega
    omega
  · by_cases c2 : t < s
    · exfalso
      have hm := isB_ten ha (by omega)
      rw [show max s t = s by omega, show (s - s).toNat = 0 by omega, show (s - t).toNat = (s - t - 1).toNat + 1 by omega, p10_succ, ← Int.mul_assoc] at h
      have : m * p10 0 = m := by show m * 1 = m; omega
      omega
    · have e : s = t := by omega
      subst e
      rw [show max s s = s by omega, show (s - s).toNat = 0 by omega] at h
      have a1 : m * p10 0 = m := by show m * 1 = m; omega
      have a2 : n * p10 0 = n := by show n * 1 = n; omega
      exact ⟨by omega, rfl⟩

theorem cmp_zero (m s n t : Int) (ha : isB m s = true) (hb : isB n t = true) :
    (cmpI (upM m s (max s t)) (upM n t (max s t)) == 0) = ((m == n) && (s == t)) := by
  by_cases h : upM m s (max s t) = upM n t (max s t)
  · have ⟨e1, e2⟩ := up_inj m s n t ha hb h
    subst e1 e2
    have : cmpI (upM m s (max s s)) (upM m s (max s s)) = 0 := by unfold cmpI; rw [if_neg (by omega), if_neg (by omega)]
    rw [this]
    simp
  · have h1 : (cmpI (upM m s (max s t)) (upM n t (max s t)) == 0) = false := by
      unfold cmpI
      by_cases c : upM m s (max s t) < upM n t (max s t)
      · rw [if_pos c]; rfl
      · rw [if_neg c, if_pos (by omega)]; rfl
    have h2 : ((m == n) && (s == t)) = false := by
      rw [Bool.eq_false_iff]
      intro hc
      have ⟨e1, e2⟩ := (Bool.and_eq_true _ _).mp hc
      have e1 := eq_of_beq e1
      have e2 := eq_of_beq e2
      subst e1 e2
      exact h rfl
    rw [h1, h2]

theorem cmp_neg (x y : Int) : -cmpI y x = cmpI x y := by
  unfold cmpI
  by_cases c1 : x < y
  · simp [c1, show ¬ y < x by omega]
  · by_cases c2 : y < x
    · simp [c1, c2]
    · simp [c1, c2]

theorem cmp_bd (x y : Int) : -1 ≤ cmpI x y ∧ cmpI x y ≤ 1 := by
  unfold cmpI
  split
  · omega
  · split <;> omega

theorem cmp_pos (x y : Int) : (0 < cmpI x y) ↔ y < x := by
  unfold cmpI
  split
  · omega
  · split <;> omega

theorem order_cases (x y z : Int) :
    (fitE (x - y) z != 0) = true ∨ ((fitE (x - y) z != 0) = false ∧ decide (0 < fitM (x - y) z) = true ∧ decide (0 < cmpI x y) = true) ∨ ((fitE (x - y) z != 0) = false ∧ decide (0 < fitM (x - y) z) = false ∧ decide (0 < cmpI x y) = false) ∨ ((fitE (x - y) z != 0) = false ∧ decide (0 < fitM (x - y) z) = false ∧ decide (0 < cmpI x y) = true ∧ (fitM (x - y) z == 0) = true) := by
  have hs := fit_sign (x - y) z
  have hp := cmp_pos x y
  by_cases e : fitE (x - y) z = 0
  · have e1 : (fitE (x - y) z != 0) = false := by rw [e]; rfl
    refine Or.inr ?_
    by_cases d : 0 < fitM (x - y) z
    · have : 0 < cmpI x y := hp.2 (by refine Int.not_le.1 fun h => ?_; have := hs.2 (by omega); omega)
      exact Or.inl ⟨e1, decide_eq_true d, decide_eq_true this⟩
    · by_cases k : 0 < cmpI x y
      · have := hs.1 (by have := hp.1 k; omega)
        exact Or.inr (Or.inr ⟨e1, decide_eq_false d, decide_eq_true k, by simp; omega⟩)
      · exact Or.inr (Or.inl ⟨e1, decide_eq_false d, decide_eq_false k⟩)
  · exact Or.inl (by simpa using e)

end Go.Proofs.YtejnmkhdnhggcaaDoor

/- A decimal's text is read as the decimal. -/
namespace Go.Proofs.YtejnmkhdnhggcaaDoor
open Go.RowKit
set_option linter.unusedVariables false

theorem isDig_of {k : Nat} (h : k < 10) : isDig (UInt8.ofNat (48 + k)) = true ∧ ((UInt8.ofNat (48 + k)).toNat : Int) - 48 = k := by
  have e : (UInt8.ofNat (48 + k)).toNat = 48 + k := by rw [UInt8.toNat_ofNat']; omega
  refine ⟨isDig_yes (by rw [e]; omega) (by rw [e]; omega), by rw [e]; omega⟩
theorem dd_facts (n : Nat) : (Lib.decDigits n).all isDig = true ∧ num (Lib.decDigits n) = n := by
  induction n using Nat.strongRecOn with
  | _ n ih =>
    by_cases h : n < 10
    · rw [Lib.decDigits_one h]
      obtain ⟨h1, h2⟩ := isDig_of h
      refine ⟨by rw [List.all_cons, h1]; rfl, ?_⟩
      unfold num
      rw [List.foldl_cons, List.foldl_nil, h2]
      omega
    · have e : Lib.decDigits n = Lib.decDigits (n / 10) ++ [UInt8.ofNat (48 + n % 10)] := by
        rw [Lib.decDigits, dif_neg h]
      obtain ⟨a1, a2⟩ := ih (n / 10) (by omega)
      obtain ⟨h1, h2⟩ := isDig_of (show n % 10 < 10 by omega)
      rw [e]
      refine ⟨by rw [List.all_append, a1, List.all_cons, h1]; rfl, ?_⟩
      rw [num_snoc, a2, h2]
      omega
theorem rep_facts (k : Nat) : (List.replicate k (48 : UInt8)).all isDig = true ∧ num (List.replicate k (48 : UInt8)) = 0 := by
  induction k with
  | zero => exact ⟨rfl, rfl⟩
  | succ k ih =>
    rw [List.replicate_succ']
    refine ⟨by rw [List.all_append, ih.1]; rfl, ?_⟩
    rw [num_snoc, ih.2]
    rfl
theorem pad_facts (n k : Nat) (hk : 1 ≤ k) (hn : n < 10 ^ k) : (padL n k).all isDig = true ∧ num (padL n k) = n ∧ (padL n k).length = k := by
  unfold padL
  by_cases h0 : n = 0
  · rw [if_pos h0, h0]
    exact ⟨(rep_facts k).1, (rep_facts k).2, List.length_replicate⟩
  · rw [if_neg h0]
    obtain ⟨d1, d2⟩ := dd_facts n
    have hl := dlen_lt n (k - 1) (by rw [show k - 1 + 1 = k by omega]; exact hn)
    refine ⟨by rw [List.all_append, (rep_facts _).1, d1]; rfl, ?_, ?_⟩
    · rw [num_app, (rep_facts _).2, d2]; omega
    · rw [List.length_append, List.length_replicate]; omega
theorem fit_self (m s : Int) (h : isB m s = true) : fitM m s = m ∧ fitS m s = s ∧ fitE m s = 0 := by
  obtain ⟨m1, m2, s1, s2⟩ := isB_bd h
  have hok : okM m = true := (okM_iff m).2 ⟨m1, m2⟩
  have harg : argB m s = false := by unfold argB; exact decide_eq_false (by omega)
  obtain ⟨n, rfl⟩ := Int.eq_ofNat_of_zero_le s1
  have ht : trimM m n = m ∧ trimS m n = n := by
    cases n with
    | zero => exact ⟨rfl, rfl⟩
    | succ n =>
      have h10 := isB_ten h (by omega)
      unfold trimM trimS
      rw [if_neg h10, if_neg h10]
      exact ⟨rfl, rfl⟩
  unfold fitM fitS fitE
  rw [harg]
  simp only [Bool.false_eq_true, if_false, Int.toNat_natCast]
  rw [show min n 4 = n by omega]
  unfold fitTM fitTS fitTE
  rw [show n - n = 0 by omega, show p10 0 = 1 from rfl, half_one, if_pos hok, if_pos hok, if_pos hok, ht.1, ht.2]
  exact ⟨rfl, rfl, rfl⟩

theorem neg_if (neg : Bool) (m u : Int) (hneg : neg = true → m = -u) (hpos : neg = false → m = u) : (if neg = true then -u else u) = m := by
  cases neg with
  | true => rw [if_pos rfl, hneg rfl]
  | false => rw [if_neg (by simp), hpos rfl]
/- the body of a text, read behind its sign. -/
theorem body_head (u s : Int) (h0 : 0 ≤ u) (h1 : u ≤ 1000000000) (s1 : 0 ≤ s) (s2 : s ≤ 4) : ∃ c t, bodyL u s = c :: t ∧ c ≠ 45 := by
  have key : ∀ n : Nat, (Lib.decDigits n) ≠ [] → ∀ x : List UInt8, ∃ c t, Lib.decDigits n ++ x = c :: t ∧ c ≠ 45 := by
    intro n hn x
    cases hd : Lib.decDigits n with
    | nil => exact absurd hd hn
    | cons c t =>
      refine ⟨c, t ++ x, rfl, ?_⟩
      intro e
      have := (dd_facts n).1
      rw [hd, List.all_cons, e] at this
      exact absurd this (by simp [isDig])
  have hne : ∀ v : Int, 0 ≤ v → v ≤ 1000000000 → Lib.decDigits v.toNat ≠ [] := by
    intro v a b e
    have := (dlen v (by omega)).1
    rw [e] at this
    simp at this
  unfold bodyL
  by_cases hs : s = 0
  · rw [if_pos hs]
    have := key u.toNat (hne u h0 h1) []
    rwa [List.append_nil] at this
  · rw [if_neg hs]
    have p1 := p10_pos s.toNat
    exact key _ (hne _ (Int.ediv_nonneg (by omega) (by omega)) (Int.le_trans (Int.ediv_le_self _ (by omega)) (by omega))) _
theorem body_len2 (u s : Int) (h0 : 0 ≤ u) (h1 : u ≤ 1000000000) (s1 : 0 ≤ s) (s2 : s ≤ 4) : (bodyL u s).length ≤ 60 := by
  unfold bodyL
  have pb := p10_pos s.toNat
  by_cases hs : s = 0
  · rw [if_pos hs]; have := (dlen u (by omega)).2; omega
  · rw [if_neg hs]
    have q3 : u / p10 s.toNat ≤ 1000000000 := Int.le_trans (Int.ediv_le_self _ (by omega)) (by omega)
    have r3 : u % p10 s.toNat ≤ 1000000000 := by
      have := Int.emod_lt_of_pos u (b := p10 s.toNat) (by omega)
      have := p10_bd (n := s.toNat) (by omega)
      omega
    have a := (dlen (u / p10 s.toNat) (by omega)).2
    have b := (dlen (u % p10 s.toNat) (by omega)).2
    simp only [List.length_append, Lib.repeatL_length, List.length_cons, List.length_nil]
    omega
end Go.Proofs.YtejnmkhdnhggcaaDoor

/- A number of an expression, as a text. -/
namespace Go.Proofs.YtejnmkhdnhggcaaDoor
open Go.RowKit
set_option linter.unusedVariables false
set_option linter.unusedSimpArgs false

theorem ba_join (a b : List UInt8) : (⟨a.toArray⟩ : ByteArray) ++ ⟨b.toArray⟩ = ⟨(a ++ b).toArray⟩ := by
  apply ByteArray.ext
  simp
theorem num_sign (m s : Int) : (cmpI (upM m s (max s 0)) (upM 0 0 (max s 0)) < 0) ↔ m < 0 := by
  have e : upM 0 0 (max s 0) = 0 := by simp [upM]
  rw [e]
  have hp := p10_pos (max s 0 - s).toNat
  unfold cmpI upM
  have h1 : m * p10 (max s 0 - s).toNat < 0 ↔ m < 0 := by
    constructor
    · intro h
      refine Classical.byContradiction fun hc => ?_
      have := Int.mul_nonneg (show 0 ≤ m by omega) (show 0 ≤ p10 (max s 0 - s).toNat by omega)
      omega
    · intro h
      exact Int.mul_neg_of_neg_of_pos h hp
  split
  · rename_i h; simp [h1.1 h]
  · rename_i h
    have : ¬ m < 0 := fun hc => h (h1.2 hc)
    split <;> simp [this]
set_option maxHeartbeats 1000000 in
theorem snum_any (m s : Int) (hd : isB m s = true) (w : World) (ht : Tab w) :
    Calls Tryd.prog 28 #[.agg #[.int .i64 m, .int .i64 s]] w fun e w' => e = .returned (.string ⟨(numL m s).toArray⟩) ∧ Below w.heap.size w w' := by
  have b0 := below1 w (Obj.cells #[.int .i64 m, .int .i64 s] 23)
  have CM := hide (fun w' => cmp_any m s 0 0 w' hd (by decide))
  have TX := hide (fun w' (k : Below w.heap.size w w') => dtext_any m s w' hd (tab_below ht k))
  have hl : Hid ((sgnL m ++ bodyL (absI m) s).length ≤ 1000) := hide (by
    obtain ⟨m1, m2, s1, s2⟩ := isB_bd hd
    have h0 : 0 ≤ absI m ∧ absI m ≤ 1000000000 := by unfold absI; split <;> omega
    have h1 := body_len2 (absI m) s h0.1 h0.2 s1 s2
    have h2 : (sgnL m).length ≤ 1 := by unfold sgnL; split <;> simp
    rw [List.length_append]
    omega)
  have sg := num_sign m s
  unfold numL decL
  generalize sgnL m ++ bodyL (absI m) s = L at *
  generalize cmpI (upM m s (max s 0)) (upM 0 0 (max s 0)) = K at *
  have x0 : (w.alloc (Obj.cells #[.int .i64 m, .int .i64 s] 23)).cell? ⟨w.heap.size, 0, none⟩ = some (.int .i64 m) := by go_simp
  have x1 : (w.alloc (Obj.cells #[.int .i64 m, .int .i64 s] 23)).cell? ⟨w.heap.size, 1, none⟩ = some (.int .i64 s) := by go_simp
  by_cases hm : m < 0
  · have hk : K < 0 := sg.2 hm
    clear sg
    rw [if_pos hm]
    go_enter Tryd.func28, Tryd.ntmps28
    go_wp2_with fail
    generalize w.alloc (Obj.cells #[.int .i64 m, .int .i64 s] 23) = W0 at *
    refine (unhide CM _).mono ?_
    rintro e w1 ⟨rfl, b1⟩
    have x0 := ((bcell b1).1 _ _ (World.block_lt_of_cell? _ _ x0)).trans x0
    have x1 := ((bcell b1).1 _ _ (World.block_lt_of_cell? _ _ x1)).trans x1
    go_wp2_with fail
    refine (unhide TX _ (bstep b0 b1)).mono ?_
    rintro e w2 ⟨rfl, b2⟩
    have B2 := bstep (bstep b0 b1) b2
    have hl' := unhide hl
    clear TX CM x0 x1 b0 b1 b2
    go_wp2_with fail
    go_ret
    exact ⟨congrArg (fun x => Ending.returned (.string x)) (ba_join (40 :: L) [41]), B2⟩
  · have hk : ¬ K < 0 := fun h => hm (sg.1 h)
    have hk2 : decide (K < 0) = false := by simp; omega
    clear sg
    rw [if_neg hm]
    go_enter Tryd.func28, Tryd.ntmps28
    go_wp2_with fail
    generalize w.alloc (Obj.cells #[.int .i64 m, .int .i64 s] 23) = W0 at *
    refine (unhide CM _).mono ?_
    rintro e w1 ⟨rfl, b1⟩
    have x0 := ((bcell b1).1 _ _ (World.block_lt_of_cell? _ _ x0)).trans x0
    have x1 := ((bcell b1).1 _ _ (World.block_lt_of_cell? _ _ x1)).trans x1
    go_wp2_with fail
    refine (unhide TX _ (bstep b0 b1)).mono ?_
    rintro e w2 ⟨rfl, b2⟩
    have B2 := bstep (bstep b0 b1) b2
    clear TX CM x0 x1 b0 b1 b2
    go_wp2_with fail
    go_ret
    exact ⟨rfl, B2⟩
end Go.Proofs.YtejnmkhdnhggcaaDoor

/- What stands around the kids: the program's around. Printed by mksaro.py. -/
namespace Go.Proofs.YtejnmkhdnhggcaaDoor
open Go.RowKit
set_option linter.unusedVariables false
set_option linter.unusedSimpArgs false

def strV (l : List UInt8) : Value := .string ⟨l.toArray⟩
/- a row of texts of the call's own. -/
def Strs (B : Nat) (w : World) (v : Value) (l : List (List UInt8)) : Prop :=
  (l = [] ∧ v = .slice none 0 0) ∨ ∃ g, v = .slice (some ⟨g, 0, none⟩) l.length l.length ∧ B ≤ g ∧ w.heap[g]? = some (.cells (l.map strV).toArray 9 (0, 0))
def AroP (B : Nat) (l : List (List UInt8)) (e : Ending) (w' : World) : Prop := ∃ v, e = .returned v ∧ Strs B w' v l
theorem ba_tl (t : ByteArray) : t = ⟨(XT.tl t).toArray⟩ := by simp [XT.tl]
theorem kcy {x y : World} (k : Below x.heap.size x y) {b o : Nat} {v : Value} (hc : x.cell? ⟨b, o, none⟩ = some v) : y.cell? ⟨b, o, none⟩ = some v := ((bcell k).1 b o (World.block_lt_of_cell? _ _ hc)).trans hc

set_option maxHeartbeats 2000000 in
theorem around_any (k : Int) (b : Bool) (m s : Int) (t : ByteArray) (lo hi : Bool) (a : Option Addr) (len cap : Nat) (w : World) (ht : t.size ≤ 1099511627776) :
    Calls Tryd.prog 42 #[.agg #[.int .i64 k, .bool b, .int .i64 m, .int .i64 s, .string t, .bool lo, .bool hi, .slice a len cap]] w fun e w' => AroP w.heap.size (aroL k t lo hi) e w' ∧ Below w.heap.size w w' := by
  have b0 := below1 w (Obj.cells #[.int .i64 k, .bool b, .int .i64 m, .int .i64 s, .string t, .bool lo, .bool hi, .slice a len cap] 26)
  have x0 : (w.alloc (Obj.cells #[.int .i64 k, .bool b, .int .i64 m, .int .i64 s, .string t, .bool lo, .bool hi, .slice a len cap] 26)).cell? ⟨w.heap.size, 0, none⟩ = some (.int .i64 k) := by go_simp
  have x4 : (w.alloc (Obj.cells #[.int .i64 k, .bool b, .int .i64 m, .int .i64 s, .string t, .bool lo, .bool hi, .slice a len cap] 26)).cell? ⟨w.heap.size, 4, none⟩ = some (.string t) := by go_simp
  have x5 : (w.alloc (Obj.cells #[.int .i64 k, .bool b, .int .i64 m, .int .i64 s, .string t, .bool lo, .bool hi, .slice a len cap] 26)).cell? ⟨w.heap.size, 5, none⟩ = some (.bool lo) := by go_simp
  have x6 : (w.alloc (Obj.cells #[.int .i64 k, .bool b, .int .i64 m, .int .i64 s, .string t, .bool lo, .bool hi, .slice a len cap] 26)).cell? ⟨w.heap.size, 6, none⟩ = some (.bool hi) := by go_simp
  have hz : (w.alloc (Obj.cells #[.int .i64 k, .bool b, .int .i64 m, .int .i64 s, .string t, .bool lo, .bool hi, .slice a len cap] 26)).heap.size = w.heap.size + 1 := by simp
  have et := ba_tl t
  have FIN : Hid (∀ (W : World) (l : List (List UInt8)) (o : Obj), w.heap.size ≤ W.heap.size → o = .cells (l.map strV).toArray 9 (0, 0) → AroP w.heap.size l (.returned (.slice (some ⟨W.heap.size, 0, none⟩) l.length l.length)) (W.alloc o)) := hide (fun W l o h ho => ⟨_, rfl, .inr ⟨W.heap.size, rfl, h, by rw [ho]; exact Deep.blk_alloc_new _ _⟩⟩)
  by_cases k6 : k = 6
  · subst k6
    have F := hide (fun W h => unhide FIN W (aroL 6 t lo hi) (.cells #[.string ⟨#[40]⟩, .string ((⟨#[32]⟩ ++ t) ++ ⟨#[32]⟩), .string ⟨#[41]⟩] 9) h (by
      have e1 : (⟨#[32]⟩ ++ t) ++ ⟨#[32]⟩ = (⟨([32] ++ (XT.tl t ++ [32])).toArray⟩ : ByteArray) := by
        apply ByteArray.ext
        simp [XT.tl]
      rw [e1]
      simp [aroL, strV]))
    have L6 : (aroL 6 t lo hi).length = 3 := by simp [aroL]
    rw [L6] at F
    generalize aroL 6 t lo hi = L at *
    clear FIN et
    go_enter Tryd.func42, Tryd.ntmps42
    go_wp2_with fail
    go_ret
    have h := unhide F (w.alloc (Obj.cells #[.int .i64 6, .bool b, .int .i64 m, .int .i64 s, .string t, .bool lo, .bool hi, .slice a len cap] 26)) (by omega)
    rw [hz] at h
    exact ⟨h, b0.alloc (by omega) _⟩
  have k6' : (k == 6) = false := by simp [k6]
  by_cases k7 : k = 7
  · subst k7
    have F := hide (fun W h => unhide FIN W (aroL 7 t lo hi) (.cells #[.string ⟨#[40, 45]⟩, .string ⟨#[41]⟩] 9) h (by simp [aroL, strV]))
    have L6 : (aroL 7 t lo hi).length = 2 := by simp [aroL]
    rw [L6] at F
    generalize aroL 7 t lo hi = L at *
    clear FIN et
    go_enter Tryd.func42, Tryd.ntmps42
    go_wp2_with fail
    go_ret
    have h := unhide F (w.alloc (Obj.cells #[.int .i64 7, .bool b, .int .i64 m, .int .i64 s, .string t, .bool lo, .bool hi, .slice a len cap] 26)) (by omega)
    rw [hz] at h
    exact ⟨h, b0.alloc (by omega) _⟩
  have k7' : (k == 7) = false := by simp [k7]
  by_cases k8 : k = 8
  · subst k8
    have F := hide (fun W h => unhide FIN W (aroL 8 t lo hi) (.cells #[.string ⟨#[40, 105, 102, 32]⟩, .string ⟨#[32, 116, 104, 101, 110, 32]⟩, .string ⟨#[32, 101, 108, 115, 101, 32]⟩, .string ⟨#[41]⟩] 9) h (by simp [aroL, strV]))
    have L6 : (aroL 8 t lo hi).length = 4 := by simp [aroL]
    rw [L6] at F
    generalize aroL 8 t lo hi = L at *
    clear FIN et
    go_enter Tryd.func42, Tryd.ntmps42
    go_wp2_with fail
    go_ret
    have h := unhide F (w.alloc (Obj.cells #[.int .i64 8, .bool b, .int .i64 m, .int .i64 s, .string t, .bool lo, .bool hi, .slice a len cap] 26)) (by omega)
    rw [hz] at h
    exact ⟨h, b0.alloc (by omega) _⟩
  have k8' : (k == 8) = false := by simp [k8]
  by_cases k11 : k = 11
  · subst k11
    have EL := hide (fun w' => edge_any lo ⟨#[91]⟩ ⟨#[40]⟩ w')
    have EH := hide (fun w' => edge_any hi ⟨#[93]⟩ ⟨#[41]⟩ w')
    have F := hide (fun W h => unhide FIN W (aroL 11 t lo hi) (.cells #[.string ⟨#[40]⟩, .string (⟨#[32, 105, 110, 32]⟩ ++ (if lo = true then ⟨#[91]⟩ else ⟨#[40]⟩)), .string ⟨#[46, 46]⟩, .string ((if hi = true then ⟨#[93]⟩ else ⟨#[41]⟩) ++ ⟨#[41]⟩)] 9) h (by
      cases lo <;> cases hi <;> simp [aroL, strV] <;> exact ⟨ByteArray.ext (by simp), ByteArray.ext (by simp)⟩))
    have L6 : (aroL 11 t lo hi).length = 4 := by simp [aroL]
    rw [L6] at F
    generalize aroL 11 t lo hi = L at *
    clear FIN et x0 x4
    have sl : (if lo = true then (⟨#[91]⟩ : ByteArray) else ⟨#[40]⟩).size = 1 := by cases lo <;> rfl
    have sh : (if hi = true then (⟨#[93]⟩ : ByteArray) else ⟨#[41]⟩).size = 1 := by cases hi <;> rfl
    generalize (if lo = true then (⟨#[91]⟩ : ByteArray) else ⟨#[40]⟩) = SL at *
    generalize (if hi = true then (⟨#[93]⟩ : ByteArray) else ⟨#[41]⟩) = SH at *
    go_enter Tryd.func42, Tryd.ntmps42
    go_wp2_with fail
    generalize w.alloc (Obj.cells #[.int .i64 11, .bool b, .int .i64 m, .int .i64 s, .string t, .bool lo, .bool hi, .slice a len cap] 26) = V at *
    obtain ⟨S, HS⟩ : ∃ S : World → Prop, S = fun w' => Below V.heap.size V w' ∧ w'.cell? ⟨w.heap.size, 5, none⟩ = some (.bool lo) ∧ w'.cell? ⟨w.heap.size, 6, none⟩ = some (.bool hi) := ⟨_, rfl⟩
    have HSS := hide HS
    have S0V : Hid (S V) := hide (by rw [HS]; exact ⟨Below.refl _ _, x5, x6⟩)
    have SB : Hid (∀ x, S x → Below V.heap.size V x) := hide (by rw [HS]; exact fun x h => h.1)
    have SKC : Hid (∀ x w' : World, S x → Below x.heap.size x w' → S w') := hide (by
      rw [HS]; rintro x w' ⟨h0, h1, h2⟩ kk
      exact ⟨bstep h0 kk, kcy kk h1, kcy kk h2⟩)
    clear HS x5 x6
    refine wp_region_noPanic ?_
    refine wp_region_held_drew (S := S) (by kernel_rfl) (unhide SKC _ _ (unhide S0V) (Below.refl _ _).drew) (fun hHeld => ?_)
    generalize V.drew = u0 at *
    refine takeC 0 (some 20) ?_
    refine takeC 1 (some 21) ?_
    refine takeC 4 (some 24) ?_
    refine takeC 5 (some 25) ?_
    refine wpAnyH_ready (rs := [2]) (by kernel_rfl) (by simp) ?_
    refine AllReadyH.cons rfl (fun K0 hK0 => ?_) AllReadyH.nil
    have BB := unhide SB _ hHeld
    go_simp
    refine (unhide EL _).mono ?_
    rintro e u1 ⟨rfl, hu1⟩
    subst hu1
    have j1 := Below.refl u1.heap.size u1
    go_wp2_with fail
    refine hK0.out _ _ (unhide SKC _ _ hHeld j1) (fun hHeld1 => ?_)
    clear hK0 K0 hHeld BB j1
    have hHeld := hHeld1
    clear hHeld1
    try simp only [Act.put, List.setIfInBounds_toArray, List.set_cons_zero, List.set_cons_succ]
    refine takeC 3 (some 23) ?_
    refine wpAnyH_ready (rs := [6]) (by kernel_rfl) (by simp) ?_
    refine AllReadyH.cons rfl (fun K0 hK0 => ?_) AllReadyH.nil
    have BB := unhide SB _ hHeld
    go_simp
    refine (unhide EH _).mono ?_
    rintro e u2 ⟨rfl, hu2⟩
    subst hu2
    have j2 := Below.refl u2.heap.size u2
    go_wp2_with fail
    refine hK0.out _ _ (unhide SKC _ _ hHeld j2) (fun hHeld1 => ?_)
    clear hK0 K0 hHeld BB j2
    have hHeld := hHeld1
    clear hHeld1
    try simp only [Act.put, List.setIfInBounds_toArray, List.set_cons_zero, List.set_cons_succ]
    refine takeC 7 (some 27) ?_
    refine wpAnyH_ready (rs := [8]) (by kernel_rfl) (by simp) ?_
    refine AllReadyH.cons rfl (fun K0 hK0 => ?_) AllReadyH.nil
    have BB := unhide SB _ hHeld
    go_simp
    refine hK0.out _ _ (unhide SKC _ _ hHeld (below1 _ _)) (fun hHeld1 => ?_)
    clear hK0 K0 hHeld
    have hHeld := hHeld1
    clear hHeld1
    try simp only [Act.put, List.setIfInBounds_toArray, List.set_cons_zero, List.set_cons_succ]
    refine takeC 9 (some 2) ?_
    refine wpAnyH_done (by kernel_rfl) ?_ _
    refine NoPanic.normal ?_
    have BQ := unhide SB _ hHeld
    clear hHeld
    go_wp2_with fail
    go_ret
    exact ⟨unhide F _ (by have := BB.size; omega), bstep b0 BQ⟩
  have k11' : (k == 11) = false := by simp [k11]
  have F : Hid (∀ w', AroP w.heap.size (aroL k t lo hi) (.returned (.slice none 0 0)) w') := hide (fun w' => ⟨_, rfl, .inl ⟨by simp [aroL, k6, k7, k8, k11], rfl⟩⟩)
  generalize aroL k t lo hi = L at *
  clear FIN et
  go_enter Tryd.func42, Tryd.ntmps42
  go_wp2_with fail
  go_ret
  exact ⟨unhide F _, b0⟩
end Go.Proofs.YtejnmkhdnhggcaaDoor


/- What stands in a list or a call, and its brackets; what stands around a number of kids: added to one text. -/
namespace Go.Proofs.YtejnmkhdnhggcaaDoor
open Go.RowKit
set_option linter.unusedVariables false
set_option linter.unusedSimpArgs false

theorem Wr.kept {B b N : Nat} {l : List UInt8} {c : Array Value} {t : TypeId} {fz : Nat × Nat} {w w' : World} (h : Wr B b l w w') (hh : w.heap[N]? = some (.cells c t fz)) (hne : N ≠ b) (ht : t ≠ 5) : w'.heap[N]? = some (.cells c t fz) :=
  h.2.2 N _ hh (fun e => hne (Option.some.inj e)) (fun c' fz' e => by injection e with _ e2 _; exact ht e2)
theorem Wr.refl {B b : Nat} {l : List UInt8} {w : World} (h : BA B b l w) : Wr B b l w w := ⟨h, Below.refl _ _, Lib.OthersKept.refl _ _ _⟩
theorem Wr.alloc {B b : Nat} {l : List UInt8} {w w' : World} (h : Wr B b l w w') (o : Obj) : Wr B b l w (w'.alloc o) := h.trans (Wr.of_below h.ba (below1 _ _))
/- a kid adds its own text. -/
def Adds (B b : Nat) (x : XT) : Prop := ∀ (l : List UInt8) (w : World), BA B b l w → Tab w → B ≤ w.heap.size → x.In (fun g => g < B) w → l.length + (showX x).length ≤ 1099511627776 →
  Calls Tryd.prog 17 #[.pointer (some ⟨b, 0, none⟩), x.val] w fun e w' => e = .returned (.tuple #[]) ∧ Wr B b (l ++ showX x) w w'

set_option maxHeartbeats 2000000 in
theorem rowx_any (B b : Nat) (l os ss : List UInt8) (k0 : Int) (b0 : Bool) (m0 s0 : Int) (t0 : ByteArray) (lo0 hi0 : Bool) (a : Option Addr) (len cap : Nat) (kid : Nat → XT) (w : World) (h : BA B b l w) (ht : Tab w) (hTB : ∀ w', Below B w w' → Tab w')
    (hin : (XT.mk k0 b0 m0 s0 t0 lo0 hi0 a len cap kid).In (fun g => g < B) w) (hk : ∀ i, i < len → Adds B b (kid i)) (hlen : l.length + os.length + (rowL (fun i => showX (kid i)) len).length + ss.length ≤ 1099511627776) :
    Calls Tryd.prog 30 #[.pointer (some ⟨b, 0, none⟩), .string ⟨os.toArray⟩, .slice a len cap, .func (.func 17) #[] #[], .string ⟨ss.toArray⟩] w fun e w' => e = .returned (.tuple #[]) ∧ Wr B b (l ++ os ++ rowL (fun i => showX (kid i)) len ++ ss) w w' := by
  have hlm := hin.1
  unfold maxLen at hlm
  have hB := h.le
  have W1 := hide (ws_any B b l os w h (by omega))
  have W3 := hide (fun w' (k : BA B b (l ++ os ++ rowL (fun i => showX (kid i)) len) w') => ws_any B b _ ss w' k (by simp only [List.length_append]; omega))
  have HIN := hide hin
  have HK := hide hk
  have HL := hide hlen
  have HT := hide hTB
  have RL := hide (fun n (hn : n ≤ len) => row_le (f := fun i => showX (kid i)) n hn)
  have RS : Hid (∀ n, rowL (fun i => showX (kid i)) (n + 1) = rowL (fun i => showX (kid i)) n ++ ((if n = 0 then [] else [44, 32]) ++ showX (kid n))) := hide (fun n => rfl)
  have R0 : Hid (rowL (fun i => showX (kid i)) 0 = []) := hide rfl
  clear h hin hk hlen hTB
  generalize rowL (fun i => showX (kid i)) = RW at *
  go_enter Tryd.func30, Tryd.ntmps30
  go_wp2_with fail
  refine (unhide W1).mono ?_
  rintro e w1 ⟨rfl, k1⟩
  have K1 := hide k1
  have hz1 := k1.size
  clear k1 W1
  go_wp2_with fail
  go_loopw [17] (fun i wr => ∃ j : Nat, j ≤ len ∧ i = .int .i64 j ∧ Hid (Wr B b (l ++ os ++ RW j) w wr)) (fun i _ => len - (intOf i).toNat)
  case atStart => exact ⟨0, Nat.zero_le _, rfl, by
    rw [unhide R0, List.append_nil]; exact K1⟩
  case round =>
    obtain ⟨j, hj, rfl, H⟩ := hrel
    by_cases hlt : j < len
    · obtain ⟨bl, o, k', b', m', s', t', lo', hi', a', len', cap', kid', rfl, hx, six, hkin⟩ := ((unhide HIN).keepB (unhide H).2.1).kid hlt
      have AD := hide (unhide HK j hlt)
      have hsz := (unhide H).size
      have hsx : Hid (showX (kid j) = showX (XT.mk k' b' m' s' t' lo' hi' a' len' cap' kid')) := hide (by rw [hx])
      rw [hx] at AD
      have AD : Hid (∀ (l : List UInt8) (w : World), BA B b l w → Tab w → B ≤ w.heap.size → (XT.mk k' b' m' s' t' lo' hi' a' len' cap' kid').In (fun g => g < B) w → l.length + (showX (XT.mk k' b' m' s' t' lo' hi' a' len' cap' kid')).length ≤ 1099511627776 → Calls Tryd.prog 17 #[.pointer (some ⟨b, 0, none⟩), .agg #[.int .i64 k', .bool b', .int .i64 m', .int .i64 s', .string t', .bool lo', .bool hi', .slice a' len' cap']] w fun e w' => e = .returned (.tuple #[]) ∧ Wr B b (l ++ showX (XT.mk k' b' m' s' t' lo' hi' a' len' cap' kid')) w w') := AD
      have RSj := hide (unhide RS j)
      have hL1 := hide (unhide RL (j + 1) (by omega))
      have hba := hide (unhide H).ba
      have hbw := (unhide H).ba.le
      have NB' := Deep.blk_alloc_new wr (Obj.cells #[.int .i64 k', .bool b', .int .i64 m', .int .i64 s', .string t', .bool lo', .bool hi', .slice a' len' cap'] 26)
      have TB := hide (fun w' (k : Below B w w') => unhide HT w' k)
      have HW := hide (fun w' l' (k : Wr B b l' wr w') => (unhide H).trans k)
      have hin2 := hide (hkin.below (below1 wr (Obj.cells #[.int .i64 k', .bool b', .int .i64 m', .int .i64 s', .string t', .bool lo', .bool hi', .slice a' len' cap'] 26)))
      have b1 := below1 wr (Obj.cells #[.int .i64 k', .bool b', .int .i64 m', .int .i64 s', .string t', .bool lo', .bool hi', .slice a' len' cap'] 26)
      obtain ⟨z0, z1, z2, z3, z4, z5, z6, z7, z8⟩ := six
      have WB := hide (Wr.of_below (unhide hba) b1)
      have hVs : wr.heap.size < (wr.alloc (Obj.cells #[.int .i64 k', .bool b', .int .i64 m', .int .i64 s', .string t', .bool lo', .bool hi', .slice a' len' cap'] 26)).heap.size := by simp
      clear H HIN HK HT RS RL hkin W3 hx
      by_cases j0 : j = 0
      · subst j0
        simp only [Nat.zero_mul, Nat.add_zero] at z1 z2 z3 z4 z5 z6 z7 z8
        have NEW : Hid (∀ w', Wr B b (l ++ os ++ RW 0 ++ showX (XT.mk k' b' m' s' t' lo' hi' a' len' cap' kid')) (wr.alloc (Obj.cells #[.int .i64 k', .bool b', .int .i64 m', .int .i64 s', .string t', .bool lo', .bool hi', .slice a' len' cap'] 26)) w' → Wr B b (l ++ os ++ RW (0 + 1)) w w') := hide (fun w' k => by
          have e : RW (0 + 1) = RW 0 ++ showX (XT.mk k' b' m' s' t' lo' hi' a' len' cap' kid') := by rw [unhide RSj, unhide hsx]; simp
          rw [e, ← List.append_assoc]
          exact unhide HW _ _ ((unhide WB).trans k))
        have RUN := hide (unhide AD (l ++ os ++ RW 0) (wr.alloc (Obj.cells #[.int .i64 k', .bool b', .int .i64 m', .int .i64 s', .string t', .bool lo', .bool hi', .slice a' len' cap'] 26)) ((unhide hba).alloc _) (unhide TB _ (unhide HW _ _ (unhide WB)).2.1) (by simp; omega) (unhide hin2) (by
          have h1 := unhide hL1
          have h2 := unhide HL
          have e : RW (0 + 1) = RW 0 ++ showX (XT.mk k' b' m' s' t' lo' hi' a' len' cap' kid') := by rw [unhide RSj, unhide hsx]; simp
          rw [e] at h1
          simp only [List.length_append] at h1 ⊢
          omega))
        clear AD hba TB HW hin2 hsx RSj hL1 HL WB b1
        go_wp2_with fail
        refine (unhide RUN).mono ?_
        rintro e w2 ⟨rfl, k2⟩
        have NW := hide (unhide NEW _ k2)
        clear NEW RUN k2
        go_wp2_with fail
        go_roundw
        case rel => exact ⟨0 + 1, by omega, by go_num, NW⟩
        case measure => simp [intOf]; omega
      · have j0' : 0 < j := by omega
        have SEP := hide (ws_any B b (l ++ os ++ RW j) [44, 32] (wr.alloc (Obj.cells #[.int .i64 k', .bool b', .int .i64 m', .int .i64 s', .string t', .bool lo', .bool hi', .slice a' len' cap'] 26)) ((unhide hba).alloc _) (by
          have h1 := unhide hL1
          have h2 := unhide HL
          rw [unhide RSj, if_neg j0] at h1
          simp only [List.length_append, List.length_cons, List.length_nil] at h1 ⊢
          omega))
        go_wp2_with fail
        generalize hV : wr.alloc (Obj.cells #[.int .i64 k', .bool b', .int .i64 m', .int .i64 s', .string t', .bool lo', .bool hi', .slice a' len' cap'] 26) = V at *
        clear hV
        refine (unhide SEP).mono ?_
        rintro e w2 ⟨rfl, k2⟩
        have NB2 := k2.kept NB' (by omega) (by decide)
        have x0 : w2.cell? ⟨wr.heap.size, 0, none⟩ = some (.int .i64 k') := by rw [Lib.cell_of_heap NB2]; rfl
        have x1 : w2.cell? ⟨wr.heap.size, 1, none⟩ = some (.bool b') := by rw [Lib.cell_of_heap NB2]; rfl
        have x2 : w2.cell? ⟨wr.heap.size, 2, none⟩ = some (.int .i64 m') := by rw [Lib.cell_of_heap NB2]; rfl
        have x3 : w2.cell? ⟨wr.heap.size, 3, none⟩ = some (.int .i64 s') := by rw [Lib.cell_of_heap NB2]; rfl
        have x4 : w2.cell? ⟨wr.heap.size, 4, none⟩ = some (.string t') := by rw [Lib.cell_of_heap NB2]; rfl
        have x5 : w2.cell? ⟨wr.heap.size, 5, none⟩ = some (.bool lo') := by rw [Lib.cell_of_heap NB2]; rfl
        have x6 : w2.cell? ⟨wr.heap.size, 6, none⟩ = some (.bool hi') := by rw [Lib.cell_of_heap NB2]; rfl
        have x7 : w2.cell? ⟨wr.heap.size, 7, none⟩ = some (.slice a' len' cap') := by rw [Lib.cell_of_heap NB2]; rfl
        have NEW : Hid (∀ w', Wr B b (l ++ os ++ RW j ++ [44, 32] ++ showX (XT.mk k' b' m' s' t' lo' hi' a' len' cap' kid')) w2 w' → Wr B b (l ++ os ++ RW (j + 1)) w w') := hide (fun w' k => by
          have e : l ++ os ++ RW (j + 1) = l ++ os ++ RW j ++ [44, 32] ++ showX (XT.mk k' b' m' s' t' lo' hi' a' len' cap' kid') := by rw [unhide RSj, unhide hsx, if_neg j0]; simp
          rw [e]
          exact unhide HW _ _ ((unhide WB).trans (k2.trans k)))
        have RUN := hide (unhide AD (l ++ os ++ RW j ++ [44, 32]) w2 k2.ba (unhide TB _ (unhide HW _ _ ((unhide WB).trans k2)).2.1) (by have := k2.size; omega) ((unhide hin2).keepB k2.2.1) (by
          have h1 := unhide hL1
          have h2 := unhide HL
          rw [unhide RSj, unhide hsx, if_neg j0] at h1
          simp only [List.length_append, List.length_cons, List.length_nil] at h1 ⊢
          omega))
        clear AD hba TB HW hin2 hsx RSj hL1 HL WB b1 k2 SEP NB2 NB'
        go_wp2_with fail
        refine (unhide RUN).mono ?_
        rintro e w3 ⟨rfl, k3⟩
        have NW := hide (unhide NEW _ k3)
        clear NEW RUN k3 x0 x1 x2 x3 x4 x5 x6 x7
        go_wp2_with fail
        go_roundw
        case rel => exact ⟨j + 1, by omega, by go_num, NW⟩
        case measure => simp [intOf]; omega
    · obtain rfl : j = len := by omega
      have RUN := hide (unhide W3 wr (unhide H).ba)
      have HW := hide (fun w' l' (k : Wr B b l' wr w') => (unhide H).trans k)
      clear H HIN HK HT RS RL W3 HL
      go_wp2_with fail
      refine (unhide RUN).mono ?_
      rintro e w3 ⟨rfl, k3⟩
      have NW := hide (unhide HW _ _ k3)
      clear RUN HW k3
      go_wp2_with fail
      go_end0
      exact ⟨rfl, unhide NW⟩
end Go.Proofs.YtejnmkhdnhggcaaDoor

/- An expression whose kind has a number of kids, added to one text. Printed by mksbnd.py. -/
namespace Go.Proofs.YtejnmkhdnhggcaaDoor
open Go.RowKit
set_option linter.unusedVariables false
set_option linter.unusedSimpArgs false

def bouR (k : Int) (t : ByteArray) (lo hi : Bool) (len : Nat) (f : Nat → List UInt8) : List UInt8 := if (aroL k t lo hi).length = len + 1 then bouL (aroL k t lo hi) f len else [63]
theorem strs_at {g : Nat} {L : List (List UInt8)} {w : World} (h : w.heap[g]? = some (.cells (L.map strV).toArray 9 (0, 0))) {i : Nat} (hi : i < L.length) : w.cell? ⟨g, i, none⟩ = some (.string ⟨(L.getD i []).toArray⟩) := by
  rw [Lib.cell_of_heap h]
  simp [hi, strV]

set_option maxHeartbeats 600000 in
set_option maxRecDepth 100000 in
theorem bound_any (B bb : Nat) (l : List UInt8) (k : Int) (b : Bool) (m s : Int) (t : ByteArray) (lo hi : Bool) (a : Option Addr) (len cap : Nat) (kid : Nat → XT) (w : World) (h : BA B bb l w) (hTB : ∀ w', Below B w w' → Tab w') (ht : t.size ≤ 1099511627776) (hl40 : len ≤ 1099511627776)
    (hin : (XT.mk k b m s t lo hi a len cap kid).In (fun g => g < B) w) (hk : ∀ i, i < len → Adds B bb (kid i)) (hlen : l.length + (bouR k t lo hi len (fun i => showX (kid i))).length ≤ 1099511627776) :
    Calls Tryd.prog 31 #[.pointer (some ⟨bb, 0, none⟩), .agg #[.int .i64 k, .bool b, .int .i64 m, .int .i64 s, .string t, .bool lo, .bool hi, .slice a len cap]] w fun e w' => e = .returned (.tuple #[]) ∧ Wr B bb (l ++ bouR k t lo hi len (fun i => showX (kid i))) w w' := by
  have hlm := hin.1
  unfold maxLen at hlm
  have hB := h.le
  have b0 := below1 w (Obj.cells #[.int .i64 k, .bool b, .int .i64 m, .int .i64 s, .string t, .bool lo, .bool hi, .slice a len cap] 26)
  have BA0 := hide (h.alloc (Obj.cells #[.int .i64 k, .bool b, .int .i64 m, .int .i64 s, .string t, .bool lo, .bool hi, .slice a len cap] 26))
  have AR := hide (around_any k b m s t lo hi a len cap (w.alloc (Obj.cells #[.int .i64 k, .bool b, .int .i64 m, .int .i64 s, .string t, .bool lo, .bool hi, .slice a len cap] 26)) ht)
  have HN := Deep.blk_alloc_new w (Obj.cells #[.int .i64 k, .bool b, .int .i64 m, .int .i64 s, .string t, .bool lo, .bool hi, .slice a len cap] 26)
  have hz : (w.alloc (Obj.cells #[.int .i64 k, .bool b, .int .i64 m, .int .i64 s, .string t, .bool lo, .bool hi, .slice a len cap] 26)).heap.size = w.heap.size + 1 := by simp
  have HIN := hide (hin.below b0)
  have W0 := hide (Wr.of_below h b0)
  have HK := hide hk
  have HT := hide hTB
  have HLN := hide hlen
  have BR : Hid (bouR k t lo hi len (fun i => showX (kid i)) = if (aroL k t lo hi).length = len + 1 then bouL (aroL k t lo hi) (fun i => showX (kid i)) len else [63]) := hide rfl
  clear h hin hk hTB hlen
  generalize bouR k t lo hi len (fun i => showX (kid i)) = R at *
  generalize aroL k t lo hi = L at *
  go_enter Tryd.func31, Tryd.ntmps31
  go_wp2_with fail
  generalize w.alloc (Obj.cells #[.int .i64 k, .bool b, .int .i64 m, .int .i64 s, .string t, .bool lo, .bool hi, .slice a len cap] 26) = V at *
  refine (unhide AR).mono ?_
  rintro e V1 ⟨⟨v, rfl, hstr⟩, b1⟩
  have HN1 := (b1.block _ (by omega)).trans HN
  have BA1 := hide ((unhide BA0).below b1)
  have W1 := hide ((unhide W0).trans (Wr.of_below (unhide BA0) b1))
  have HIN1 := hide ((unhide HIN).below b1)
  have hz1 : w.heap.size + 1 ≤ V1.heap.size := by have := b1.size; omega
  have x0 : V1.cell? ⟨w.heap.size, 0, none⟩ = some (.int .i64 k) := by rw [Lib.cell_of_heap HN1]; rfl
  have x1 : V1.cell? ⟨w.heap.size, 1, none⟩ = some (.bool b) := by rw [Lib.cell_of_heap HN1]; rfl
  have x2 : V1.cell? ⟨w.heap.size, 2, none⟩ = some (.int .i64 m) := by rw [Lib.cell_of_heap HN1]; rfl
  have x3 : V1.cell? ⟨w.heap.size, 3, none⟩ = some (.int .i64 s) := by rw [Lib.cell_of_heap HN1]; rfl
  have x4 : V1.cell? ⟨w.heap.size, 4, none⟩ = some (.string t) := by rw [Lib.cell_of_heap HN1]; rfl
  have x5 : V1.cell? ⟨w.heap.size, 5, none⟩ = some (.bool lo) := by rw [Lib.cell_of_heap HN1]; rfl
  have x6 : V1.cell? ⟨w.heap.size, 6, none⟩ = some (.bool hi) := by rw [Lib.cell_of_heap HN1]; rfl
  have x7 : V1.cell? ⟨w.heap.size, 7, none⟩ = some (.slice a len cap) := by rw [Lib.cell_of_heap HN1]; rfl
  clear AR BA0 W0 HIN HN
  rcases hstr with ⟨rfl, rfl⟩ | ⟨g, rfl, hBg, hg⟩
  · have e0 : ¬ (([] : List (List UInt8)).length = len + 1) := by simp
    have hR : R = [63] := by rw [unhide BR, if_neg e0]
    have hln := unhide HLN
    rw [hR] at hln
    have WS := hide (ws_any B bb l [63] V1 (unhide BA1) (by simpa using hln))
    have z : ((0 : Int) != ((len : Int) + 1)) = true := by simp; omega
    subst hR
    clear HK HT HLN BR HIN1 BA1
    go_wp2_with fail
    refine (unhide WS).mono ?_
    rintro e w3 ⟨rfl, k3⟩
    have F := hide ((unhide W1).trans k3)
    clear WS k3 W1
    go_wp2_with fail
    refine bodyPost_ret (results_none rfl _ _ _) rfl ?_
    exact ⟨rfl, unhide F⟩
  by_cases hL : L.length = len + 1
  · have hR : R = bouL L (fun i => showX (kid i)) len := by rw [unhide BR, if_pos hL]
    have z : ((L.length : Int) != ((len : Int) + 1)) = false := by rw [hL]; simp
    have LN := hide (fun n (hn : n ≤ len) => bou_le (l := L) (f := fun i => showX (kid i)) n hn)
    have BS : Hid (∀ n, bouL L (fun i => showX (kid i)) (n + 1) = bouL L (fun i => showX (kid i)) n ++ (showX (kid n) ++ L.getD (n + 1) [])) := hide (fun n => rfl)
    have B00 : Hid (bouL L (fun i => showX (kid i)) 0 = L.getD 0 []) := hide rfl
    have SA := hide (fun (w' : World) (q : w'.heap[g]? = some (.cells (L.map strV).toArray 9 (0, 0))) i (hi : i < len + 1) => strs_at q (by omega : i < L.length))
    generalize bouL L (fun i => showX (kid i)) = RW at *
    have HLN : Hid (l.length + (RW len).length ≤ 1099511627776) := hide (by have := unhide HLN; rw [hR] at this; exact this)
    have HR' := hide hR
    clear hR
    have y0 := unhide SA V1 hg 0 (by omega)
    have WS := hide (ws_any B bb l (L.getD 0 []) V1 (unhide BA1) (by
      have h1 := unhide LN 0 (by omega)
      have h2 := unhide HLN
      rw [unhide B00] at h1
      omega))
    have gne : g ≠ bb := by omega
    rw [hL] at *
    clear BR
    go_wp2_with fail
    refine (unhide WS).mono ?_
    rintro e V2 ⟨rfl, k2⟩
    have HN2 := k2.kept HN1 (by omega) (by decide)
    have hg2 := k2.kept hg gne (by decide)
    have HIN2 := hide ((unhide HIN1).keepB k2.2.1)
    have W2 : Hid (Wr B bb (l ++ RW 0) w V2) := hide (by rw [unhide B00]; exact (unhide W1).trans k2)
    have hz2 := k2.size
    clear HN1 hg WS k2 W1 HIN1 y0 x0 x1 x2 x3 x4 x5 x6 x7 BA1
    have x7 : V2.cell? ⟨w.heap.size, 7, none⟩ = some (.slice a len cap) := by rw [Lib.cell_of_heap HN2]; rfl
    go_wp2_with fail
    go_loopw [26] (fun i wr => ∃ j : Nat, j ≤ len ∧ i = .int .i64 j ∧ Hid (Wr B bb (l ++ RW j) V2 wr)) (fun i _ => len - (intOf i).toNat)
    case atStart => exact ⟨0, Nat.zero_le _, rfl, hide (Wr.refl (unhide W2).ba)⟩
    case round =>
      obtain ⟨j, hj, rfl, H⟩ := hrel
      have hg3 := (unhide H).kept hg2 gne (by decide)
      have HWW := hide (fun w' l' (q : Wr B bb l' wr w') => (unhide W2).trans ((unhide H).trans q))
      have hsz := (unhide H).size
      by_cases hlt : j < len
      · obtain ⟨bl, o, k', b', m', s', t', lo', hi', a', len', cap', kid', rfl, hx, six, hkin⟩ := ((unhide HIN2).keepB (unhide H).2.1).kid hlt
        have AD := hide (unhide HK j hlt)
        have hsx : Hid (showX (kid j) = showX (XT.mk k' b' m' s' t' lo' hi' a' len' cap' kid')) := hide (by rw [hx])
        rw [hx] at AD
        have AD : Hid (∀ (l : List UInt8) (w : World), BA B bb l w → Tab w → B ≤ w.heap.size → (XT.mk k' b' m' s' t' lo' hi' a' len' cap' kid').In (fun g => g < B) w → l.length + (showX (XT.mk k' b' m' s' t' lo' hi' a' len' cap' kid')).length ≤ 1099511627776 → Calls Tryd.prog 17 #[.pointer (some ⟨bb, 0, none⟩), .agg #[.int .i64 k', .bool b', .int .i64 m', .int .i64 s', .string t', .bool lo', .bool hi', .slice a' len' cap']] w fun e w' => e = .returned (.tuple #[]) ∧ Wr B bb (l ++ showX (XT.mk k' b' m' s' t' lo' hi' a' len' cap' kid')) w w') := AD
        have RSj : RW (j + 1) = RW j ++ (showX (XT.mk k' b' m' s' t' lo' hi' a' len' cap' kid') ++ L.getD (j + 1) []) := by rw [unhide BS, unhide hsx]
        have hL1 := unhide LN (j + 1) (by omega)
        have h2 := unhide HLN
        rw [RSj] at hL1
        simp only [List.length_append] at hL1
        have hba := hide ((unhide H).ba.alloc (Obj.cells #[.int .i64 k', .bool b', .int .i64 m', .int .i64 s', .string t', .bool lo', .bool hi', .slice a' len' cap'] 26))
        have b1 := below1 wr (Obj.cells #[.int .i64 k', .bool b', .int .i64 m', .int .i64 s', .string t', .bool lo', .bool hi', .slice a' len' cap'] 26)
        have WB := hide (Wr.of_below (unhide H).ba b1)
        have RUN := hide (unhide AD (l ++ RW j) (wr.alloc (Obj.cells #[.int .i64 k', .bool b', .int .i64 m', .int .i64 s', .string t', .bool lo', .bool hi', .slice a' len' cap'] 26)) (unhide hba) (unhide HT _ ((unhide W2).trans ((unhide H).trans (unhide WB))).2.1) (by simp; omega) (hkin.below b1) (by simp only [List.length_append]; omega))
        have hg4 := (unhide WB).kept hg3 gne (by decide)
        have SA2 := hide (fun w' (q : Wr B bb (l ++ RW j ++ showX (XT.mk k' b' m' s' t' lo' hi' a' len' cap' kid')) (wr.alloc (Obj.cells #[.int .i64 k', .bool b', .int .i64 m', .int .i64 s', .string t', .bool lo', .bool hi', .slice a' len' cap'] 26)) w') => unhide SA w' (q.kept hg4 gne (by decide)) (j + 1) (by omega))
        have WS2 := hide (fun w' (q : BA B bb (l ++ RW j ++ showX (XT.mk k' b' m' s' t' lo' hi' a' len' cap' kid')) w') => ws_any B bb _ (L.getD (j + 1) []) w' q (by simp only [List.length_append]; omega))
        have FINj : Hid (∀ w' w'', Wr B bb (l ++ RW j ++ showX (XT.mk k' b' m' s' t' lo' hi' a' len' cap' kid')) (wr.alloc (Obj.cells #[.int .i64 k', .bool b', .int .i64 m', .int .i64 s', .string t', .bool lo', .bool hi', .slice a' len' cap'] 26)) w' → Wr B bb (l ++ RW j ++ showX (XT.mk k' b' m' s' t' lo' hi' a' len' cap' kid') ++ L.getD (j + 1) []) w' w'' → Wr B bb (l ++ RW (j + 1)) V2 w'') := hide (fun w' w'' q1 q2 => by
          rw [RSj, ← List.append_assoc, ← List.append_assoc]
          exact (unhide H).trans ((unhide WB).trans (q1.trans q2)))
        obtain ⟨z0, z1, z2, z3, z4, z5, z6, z7, z8⟩ := six
        have hjL : j + 1 < len + 1 := by omega
        clear H HIN2 HK HT BS LN hkin hx AD hsx RSj hL1 h2 hba WB HWW hg4 SA HLN hg3 b1
        go_wp2_with fail
        generalize wr.alloc (Obj.cells #[.int .i64 k', .bool b', .int .i64 m', .int .i64 s', .string t', .bool lo', .bool hi', .slice a' len' cap'] 26) = W3 at *
        refine (unhide RUN).mono ?_
        rintro e w4 ⟨rfl, k4⟩
        have y1 := unhide SA2 _ k4
        have RUN2 := hide (unhide WS2 _ k4.ba)
        have F2 := hide (fun w'' q2 => unhide FINj _ w'' k4 q2)
        clear RUN SA2 WS2 FINj k4
        go_wp2_with fail
        refine (unhide RUN2).mono ?_
        rintro e w5 ⟨rfl, k5⟩
        have NW := hide (unhide F2 _ k5)
        clear RUN2 F2 k5 y1
        go_wp2_with fail
        go_roundw
        case rel => exact ⟨j + 1, by omega, by go_num, NW⟩
        case measure => simp [intOf]; omega
      · obtain rfl : j = len := by omega
        have F := hide ((unhide W2).trans (unhide H))
        clear H HIN2 HK HT BS LN SA HLN HWW
        go_wp2_with fail
        go_end0
        exact ⟨rfl, by rw [unhide HR']; exact unhide F⟩
  · have hR : R = [63] := by rw [unhide BR, if_neg hL]
    have hln := unhide HLN
    rw [hR] at hln
    have WS := hide (ws_any B bb l [63] V1 (unhide BA1) (by simpa using hln))
    have z : ((L.length : Int) != ((len : Int) + 1)) = true := by simp; omega
    subst hR
    clear HK HT HLN BR HIN1 BA1 hg
    go_wp2_with fail
    refine (unhide WS).mono ?_
    rintro e w3 ⟨rfl, k3⟩
    have F := hide ((unhide W1).trans k3)
    clear WS k3 W1
    go_wp2_with fail
    refine bodyPost_ret (results_none rfl _ _ _) rfl ?_
    exact ⟨rfl, unhide F⟩
end Go.Proofs.YtejnmkhdnhggcaaDoor

