/- RParse2 PBoth DTMath Math2 Math3 Math4 Math5: laid together. -/
import Derived.Test.YtejnmkhdnhggcaaDoorSAC
import Derived.Test.YtejnmkhdnhggcaaDoorSAB
import Derived.Test.YtejnmkhdnhggcaaDoorSAA
import GoSem.Claim
/- The contract of the document's own Parse: what is a decimal's text. -/
namespace Go.Proofs.YtejnmkhdnhggcaaDoor
open Go.RowKit
set_option linter.unusedVariables false

theorem foldl_num (b : List UInt8) : ∀ x : Int, b.foldl (fun n c => n * 10 + ((c.toNat : Int) - 48)) x = x * p10 b.length + num b := by
  induction b with
  | nil => intro x; simp [num, p10]
  | cons c b ih =>
    intro x
    rw [List.foldl_cons, ih, List.length_cons, p10_succ]
    have e : num (c :: b) = ((c.toNat : Int) - 48) * p10 b.length + num b := by
      unfold num
      rw [List.foldl_cons, ih]
      simp
      rfl
    rw [e, Int.add_mul, Int.mul_assoc, Int.mul_comm 10 (p10 b.length), Int.add_assoc]
theorem num_app (a b : List UInt8) : num (a ++ b) = num a * p10 b.length + num b := by
  unfold num
  rw [List.foldl_append, foldl_num]
  rfl
def nd (c : UInt8) : Bool := !decide (c.toNat = 46)
def numK (r : List UInt8) (k : Nat) : Int := num ((r.take k).filter nd)
theorem dig_nd {c : UInt8} (h : isDig c = true) : nd c = true := by
  have := isDig_bd h
  unfold nd
  simp
  omega
theorem filter_dig {a : List UInt8} (h : a.all isDig = true) : a.filter nd = a := by
  rw [List.filter_eq_self]
  intro c hc
  exact dig_nd (List.all_eq_true.1 h c hc)
theorem numK_dot (r : List UInt8) (k : Nat) (h : k < r.length) (hc : r[k].toNat = 46) : numK r (k + 1) = numK r k := by
  unfold numK
  rw [List.take_succ_eq_append_getElem h, List.filter_append]
  have : nd r[k] = false := by unfold nd; simp [hc]
  simp [this]
theorem numK_dig (r : List UInt8) (k : Nat) (h : k < r.length) (hc : r[k].toNat ≠ 46) : numK r (k + 1) = numK r k * 10 + ((r[k].toNat : Int) - 48) := by
  unfold numK
  rw [List.take_succ_eq_append_getElem h, List.filter_append]
  have : nd r[k] = true := by unfold nd; simp [hc]
  rw [show [r[k]].filter nd = [r[k]] by simp [this], num_snoc]
theorem numK_bd (r : List UInt8) (hd : (r.filter nd).all isDig = true) (hl : (r.filter nd).length ≤ 18) (k : Nat) : 0 ≤ numK r k ∧ numK r k ≤ 1000000000000000000 := by
  have hs : ((r.take k).filter nd).Sublist (r.filter nd) := (List.take_sublist k r).filter nd
  have h1 : ((r.take k).filter nd).all isDig = true := by
    rw [List.all_eq_true]
    intro c hc
    exact List.all_eq_true.1 hd c (hs.subset hc)
  have h2 := num_bd _ h1 _ (Nat.le_refl _)
  rw [List.take_length] at h2
  have h3 := p10_18 (k := ((r.take k).filter nd).length) (by have := hs.length_le; omega)
  unfold numK
  omega
theorem numK_all (r : List UInt8) : numK r r.length = num (r.filter nd) := by unfold numK; rw [List.take_length]
theorem nd_dig (r : List UInt8) (hd : (r.filter nd).all isDig = true) (k : Nat) (h : k < r.length) (hc : r[k].toNat ≠ 46) : 48 ≤ (r[k].toNat : Int) ∧ (r[k].toNat : Int) ≤ 57 := by
  refine isDig_bd (List.all_eq_true.1 hd _ (List.mem_filter.2 ⟨List.getElem_mem h, ?_⟩))
  unfold nd
  simp [hc]

set_option maxHeartbeats 3200000 in
theorem rparse_over_negw (l : List UInt8) (w : World) (hl : l.length ≤ 1000) (h0 : 0 < l.length) (h45 : l[0].toNat = 45) (ha : (l.drop 1).all isDig = true) (la : 1 ≤ (l.drop 1).length) (ho : 18 < (l.drop 1).length) :
    Calls Tryd.prog 88 #[.string ⟨l.toArray⟩] w fun e w' => e = .returned (.tuple #[.agg #[.int .i64 0, .int .i64 0], .int .i64 3]) ∧ Below w.heap.size w w' := by
  have hg0 : (⟨l.toArray⟩ : ByteArray)[0]'(by simpa [ByteArray.size] using h0) = l[0] := rfl
  have e45 : ((l[0].toNat : Int) == 45) = true := by simp; omega
  have D1 := hide (fun w => rdigs_run l 1 w hl (by omega))
  rw [irun_self ha] at D1
  have hlen := List.length_drop (i := 1) (l := l)
  obtain ⟨A, hAe⟩ : ∃ A, (l.drop 1).length = A := ⟨_, rfl⟩
  rw [hAe] at D1 hlen ho la
  clear hAe ha
  have eA : ((A : Int) == 0) = false := by simp; omega
  have ene : ((1 : Int) + A != (l.length : Int)) = false := by simp; omega
  have k1 : l.length ≤ 1 + A := by omega
  have k2 : 1 + A ≤ l.length := by omega
  clear h45 hlen
  go_enter Tryd.func88, Tryd.ntmps88
  go_wp2_with fail
  refine (unhide D1 _).mono ?_
  rintro e w1 ⟨rfl, rfl⟩
  go_wp2_with fail
  refine bodyPost_ret (v := .tuple #[.agg #[.int .i64 0, .int .i64 0], .int .i64 3]) (by simp [results, Tryd.results88, go_sem]) rfl ⟨rfl, ?_⟩
  exact below1 _ _

set_option maxHeartbeats 3200000 in
set_option maxRecDepth 10000 in
theorem rparse_ok_negw (l : List UInt8) (w : World) (hl : l.length ≤ 1000) (h0 : 0 < l.length) (h45 : l[0].toNat = 45) (ha : (l.drop 1).all isDig = true) (la : 1 ≤ (l.drop 1).length) (h18 : (l.drop 1).length ≤ 18) :
    Calls Tryd.prog 88 #[.string ⟨l.toArray⟩] w fun e w' => e = .returned (.tuple #[.agg #[.int .i64 (fitM (-(num (l.drop 1))) 0), .int .i64 (fitS (-(num (l.drop 1))) 0)], .int .i64 (fitE (-(num (l.drop 1))) 0)]) ∧ Below w.heap.size w w' := by
  have hg0 : (⟨l.toArray⟩ : ByteArray)[0]'(by simpa [ByteArray.size] using h0) = l[0] := rfl
  have e45 : ((l[0].toNat : Int) == 45) = true := by simp; omega
  have D1 := hide (fun w => rdigs_run l 1 w hl (by omega))
  rw [irun_self ha] at D1
  have hlen := List.length_drop (i := 1) (l := l)
  obtain ⟨F, hF0⟩ : ∃ F, (l.drop 1) = F := ⟨_, rfl⟩
  have hF : (l.drop 1).filter nd = F := by rw [filter_dig ha, hF0]
  have hFd : ((l.drop 1).filter nd).all isDig = true := by rw [filter_dig ha]; exact ha
  have hFl : ((l.drop 1).filter nd).length ≤ 18 := by rw [filter_dig ha]; exact h18
  have STD : Hid (∀ k (h1 : 1 ≤ k) (h : k < l.length), l[k].toNat = 46 → numK (l.drop 1) (k + 1 - 1) = numK (l.drop 1) (k - 1)) := by
    intro k h1 h hc
    have hh : (l.drop 1)[k - 1]'(by rw [List.length_drop]; omega) = l[k] := by rw [List.getElem_drop]; congr 1; omega
    rw [show k + 1 - 1 = (k - 1) + 1 by omega]
    exact numK_dot (l.drop 1) (k - 1) (by rw [List.length_drop]; omega) (by rw [hh]; exact hc)
  have STN : Hid (∀ k (h1 : 1 ≤ k) (h : k < l.length), l[k].toNat ≠ 46 → numK (l.drop 1) (k + 1 - 1) = numK (l.drop 1) (k - 1) * 10 + ((l[k].toNat : Int) - 48) ∧ 48 ≤ (l[k].toNat : Int) ∧ (l[k].toNat : Int) ≤ 57) := by
    intro k h1 h hc
    have hh : (l.drop 1)[k - 1]'(by rw [List.length_drop]; omega) = l[k] := by rw [List.getElem_drop]; congr 1; omega
    rw [show k + 1 - 1 = (k - 1) + 1 by omega]
    have q := numK_dig (l.drop 1) (k - 1) (by rw [List.length_drop]; omega) (by rw [hh]; exact hc)
    have q2 := nd_dig (l.drop 1) hFd (k - 1) (by rw [List.length_drop]; omega) (by rw [hh]; exact hc)
    rw [hh] at q q2
    exact ⟨q, q2⟩
  have BD := hide (numK_bd (l.drop 1) hFd hFl)
  have NE : Hid (numK (l.drop 1) (l.length - 1) = num F) := by
    have := numK_all (l.drop 1)
    rw [List.length_drop, hF] at this
    exact this
  rw [show num (l.drop 1) = num F by rw [hF0]]
  generalize hRR : (l.drop 1) = R at STD STN BD NE
  generalize num F = X0 at *
  obtain ⟨A, hAe⟩ : ∃ A, (l.drop 1).length = A := ⟨_, rfl⟩
  rw [hAe] at D1 hlen h18 la
  clear hAe ha hF hFd hFl hF0 hRR
  have eA : ((A : Int) == 0) = false := by simp; omega
  have ene : ((1 : Int) + A != (l.length : Int)) = false := by simp; omega
  have k1 : l.length ≤ 1 + A := by omega
  have k2 : 1 + A ≤ l.length := by omega
  clear h45 hlen
  go_enter Tryd.func88, Tryd.ntmps88
  go_wp2_with fail
  refine (unhide D1 _).mono ?_
  rintro e w1 ⟨rfl, rfl⟩
  go_wp2_with fail
  go_loop [8, 9] (fun m i => ∃ k : Nat, 1 ≤ k ∧ k ≤ l.length ∧ i = .int .i64 k ∧ m = .int .i64 (numK R (k - 1))) (fun _ i => l.length - (intOf i).toNat)
  case atStart => exact ⟨1, by omega, by omega, rfl, rfl⟩
  case round =>
    obtain ⟨k, hk1, hk2, rfl, rfl⟩ := hrel
    have bd := unhide BD (k - 1)
    by_cases hlt : k < l.length
    · have hgk : (⟨l.toArray⟩ : ByteArray)[k]'(by simpa [ByteArray.size] using hlt) = l[k] := rfl
      by_cases hc : l[k].toNat = 46
      · have en : ((l[k].toNat : Int) != 46) = false := by simp; omega
        have NS := hide (unhide STD k hk1 hlt hc)
        clear hc
        generalize numK R (k - 1) = n0 at *
        go_wp2_with fail
        go_round
        case rel => exact ⟨k + 1, by omega, by omega, by go_num, by rw [unhide NS]⟩
        case measure => simp [intOf]; omega
      · have en : ((l[k].toNat : Int) != 46) = true := by simp; omega
        obtain ⟨ns, d1, d2⟩ := unhide STN k hk1 hlt hc
        have bd2 := unhide BD (k + 1 - 1)
        rw [ns] at bd2
        have NS := hide ns
        clear hc ns
        generalize numK R (k - 1) = n0 at *
        go_wp2_with fail
        go_round
        case rel => exact ⟨k + 1, by omega, by omega, by go_num, by rw [unhide NS]⟩
        case measure => simp [intOf]; omega
    · have hkl : k = l.length := by omega
      subst hkl
      rw [unhide NE]
      rw [unhide NE] at bd
      go_wp2_with fail
      refine (rfit_any _ _ _).mono ?_
      rintro e w4 ⟨rfl, k4⟩
      obtain ⟨c4, f4⟩ := bcell k4
      have z4 : w.heap.size < w4.heap.size := by have := k4.size; simp at this; omega
      go_wp2_with fail
      refine bodyPost_ret (v := .tuple #[.agg #[.int .i64 (fitM _ _), .int .i64 (fitS _ _)], .int .i64 (fitE _ _)]) (by simp [results, Tryd.results88, go_sem, c4]) rfl ⟨rfl, ?_⟩
      exact ((bstep (below1 w _) k4).setCell (by simp) _).setCell (by simp) _

set_option maxHeartbeats 3200000 in
theorem rparse_over_negf (l : List UInt8) (w : World) (hl : l.length ≤ 1000) (h0 : 0 < l.length) (h45 : l[0].toNat = 45) (a b : List UInt8) (hr : (l.drop 1) = a ++ 46 :: b) (ha : a.all isDig = true) (hb : b.all isDig = true) (la : 1 ≤ a.length) (lb : 1 ≤ b.length) (ho : 18 < a.length + b.length ∨ 8 < b.length) :
    Calls Tryd.prog 88 #[.string ⟨l.toArray⟩] w fun e w' => e = .returned (.tuple #[.agg #[.int .i64 0, .int .i64 0], .int .i64 3]) ∧ Below w.heap.size w w' := by
  have hg0 : (⟨l.toArray⟩ : ByteArray)[0]'(by simpa [ByteArray.size] using h0) = l[0] := rfl
  have e45 : ((l[0].toNat : Int) == 45) = true := by simp; omega
  have D1 := hide (fun w => rdigs_run l 1 w hl (by omega))
  have hlen := List.length_drop (i := 1) (l := l)
  have eA : run isDig (l.drop 1) = a.length := by rw [hr, irun_app ha]; rfl
  rw [eA] at D1
  have hrl : (l.drop 1).length = a.length + 1 + b.length := by rw [hr]; simp; omega
  have hlt' : 1 + a.length < l.length := by omega
  have h46 : l[1 + a.length].toNat = 46 := by
    have h1 : (l.drop 1)[a.length]'(by omega) = 46 := by simp only [hr]; simp
    rw [List.getElem_drop] at h1
    have h2 : l[1 + a.length] = 46 := by simpa using h1
    rw [h2]; rfl
  have eB : run isDig (l.drop (1 + a.length + 1)) = b.length := by
    have h1 : l.drop (1 + a.length + 1) = (l.drop 1).drop (a.length + 1) := by rw [List.drop_drop]; congr 1; try omega
    rw [h1, hr, ← List.drop_drop, List.drop_left' rfl]
    exact irun_self hb
  have D2 := hide (fun w => rdigs_run l (1 + a.length + 1) w hl (by omega))
  rw [eB, show ((1 + a.length + 1 : Nat) : Int) = (1 : Int) + a.length + 1 by omega] at D2
  clear hr ha hb eA eB
  generalize a.length = A at *
  generalize b.length = B at *
  have hgA : (⟨l.toArray⟩ : ByteArray)[1 + A]'(by simpa [ByteArray.size] using hlt') = l[1 + A] := rfl
  have e46 : ((l[1 + A].toNat : Int) == 46) = true := by simp; omega
  have eA : ((A : Int) == 0) = false := by simp; omega
  have eB : ((B : Int) == 0) = false := by simp; omega
  have ene : ((1 : Int) + A + 1 + B != (l.length : Int)) = false := by simp; omega
  have k1 : l.length ≤ 1 + A + 1 + B := by omega
  have k2 : 1 + A + 1 + B ≤ l.length := by omega
  clear h45 h46 hlen hrl
  by_cases h18 : 18 < (A : Int) + B
  · clear ho
    go_enter Tryd.func88, Tryd.ntmps88
    go_wp2_with fail
    refine (unhide D1 _).mono ?_
    rintro e w1 ⟨rfl, rfl⟩
    go_wp2_with fail
    refine (unhide D2 _).mono ?_
    rintro e w1 ⟨rfl, rfl⟩
    go_wp2_with fail
    refine bodyPost_ret (v := .tuple #[.agg #[.int .i64 0, .int .i64 0], .int .i64 3]) (by simp [results, Tryd.results88, go_sem]) rfl ⟨rfl, ?_⟩
    exact below1 _ _
  · have h8 : 8 < (B : Int) := by omega
    clear ho
    go_enter Tryd.func88, Tryd.ntmps88
    go_wp2_with fail
    refine (unhide D1 _).mono ?_
    rintro e w1 ⟨rfl, rfl⟩
    go_wp2_with fail
    refine (unhide D2 _).mono ?_
    rintro e w1 ⟨rfl, rfl⟩
    go_wp2_with fail
    refine bodyPost_ret (v := .tuple #[.agg #[.int .i64 0, .int .i64 0], .int .i64 3]) (by simp [results, Tryd.results88, go_sem]) rfl ⟨rfl, ?_⟩
    exact below1 _ _

set_option maxHeartbeats 3200000 in
set_option maxRecDepth 10000 in
theorem rparse_ok_negf (l : List UInt8) (w : World) (hl : l.length ≤ 1000) (h0 : 0 < l.length) (h45 : l[0].toNat = 45) (a b : List UInt8) (hr : (l.drop 1) = a ++ 46 :: b) (ha : a.all isDig = true) (hb : b.all isDig = true) (la : 1 ≤ a.length) (lb : 1 ≤ b.length) (h18 : a.length + b.length ≤ 18) (h8 : b.length ≤ 8) :
    Calls Tryd.prog 88 #[.string ⟨l.toArray⟩] w fun e w' => e = .returned (.tuple #[.agg #[.int .i64 (fitM (-(num (a ++ b))) b.length), .int .i64 (fitS (-(num (a ++ b))) b.length)], .int .i64 (fitE (-(num (a ++ b))) b.length)]) ∧ Below w.heap.size w w' := by
  have hg0 : (⟨l.toArray⟩ : ByteArray)[0]'(by simpa [ByteArray.size] using h0) = l[0] := rfl
  have e45 : ((l[0].toNat : Int) == 45) = true := by simp; omega
  have D1 := hide (fun w => rdigs_run l 1 w hl (by omega))
  have hlen := List.length_drop (i := 1) (l := l)
  have eA : run isDig (l.drop 1) = a.length := by rw [hr, irun_app ha]; rfl
  rw [eA] at D1
  have hrl : (l.drop 1).length = a.length + 1 + b.length := by rw [hr]; simp; omega
  have hlt' : 1 + a.length < l.length := by omega
  have h46 : l[1 + a.length].toNat = 46 := by
    have h1 : (l.drop 1)[a.length]'(by omega) = 46 := by simp only [hr]; simp
    rw [List.getElem_drop] at h1
    have h2 : l[1 + a.length] = 46 := by simpa using h1
    rw [h2]; rfl
  have eB : run isDig (l.drop (1 + a.length + 1)) = b.length := by
    have h1 : l.drop (1 + a.length + 1) = (l.drop 1).drop (a.length + 1) := by rw [List.drop_drop]; congr 1; try omega
    rw [h1, hr, ← List.drop_drop, List.drop_left' rfl]
    exact irun_self hb
  have D2 := hide (fun w => rdigs_run l (1 + a.length + 1) w hl (by omega))
  rw [eB, show ((1 + a.length + 1 : Nat) : Int) = (1 : Int) + a.length + 1 by omega] at D2
  have hF0 : (l.drop 1).filter nd = a ++ b := by
    rw [hr, List.filter_append, filter_dig ha, List.filter_cons, filter_dig hb]
    rfl
  obtain ⟨F, hFF⟩ : ∃ F, a ++ b = F := ⟨_, rfl⟩
  have hF : (l.drop 1).filter nd = F := by rw [hF0, hFF]
  have hFd : ((l.drop 1).filter nd).all isDig = true := by rw [hF0, List.all_append, ha, hb]; rfl
  have hFl : ((l.drop 1).filter nd).length ≤ 18 := by rw [hF0, List.length_append]; exact h18
  have STD : Hid (∀ k (h1 : 1 ≤ k) (h : k < l.length), l[k].toNat = 46 → numK (l.drop 1) (k + 1 - 1) = numK (l.drop 1) (k - 1)) := by
    intro k h1 h hc
    have hh : (l.drop 1)[k - 1]'(by rw [List.length_drop]; omega) = l[k] := by rw [List.getElem_drop]; congr 1; omega
    rw [show k + 1 - 1 = (k - 1) + 1 by omega]
    exact numK_dot (l.drop 1) (k - 1) (by rw [List.length_drop]; omega) (by rw [hh]; exact hc)
  have STN : Hid (∀ k (h1 : 1 ≤ k) (h : k < l.length), l[k].toNat ≠ 46 → numK (l.drop 1) (k + 1 - 1) = numK (l.drop 1) (k - 1) * 10 + ((l[k].toNat : Int) - 48) ∧ 48 ≤ (l[k].toNat : Int) ∧ (l[k].toNat : Int) ≤ 57) := by
    intro k h1 h hc
    have hh : (l.drop 1)[k - 1]'(by rw [List.length_drop]; omega) = l[k] := by rw [List.getElem_drop]; congr 1; omega
    rw [show k + 1 - 1 = (k - 1) + 1 by omega]
    have q := numK_dig (l.drop 1) (k - 1) (by rw [List.length_drop]; omega) (by rw [hh]; exact hc)
    have q2 := nd_dig (l.drop 1) hFd (k - 1) (by rw [List.length_drop]; omega) (by rw [hh]; exact hc)
    rw [hh] at q q2
    exact ⟨q, q2⟩
  have BD := hide (numK_bd (l.drop 1) hFd hFl)
  have NE : Hid (numK (l.drop 1) (l.length - 1) = num F) := by
    have := numK_all (l.drop 1)
    rw [List.length_drop, hF] at this
    exact this
  rw [hFF]
  generalize hRR : (l.drop 1) = R at STD STN BD NE
  generalize num F = X0 at *
  clear hr ha hb eA eB hF hFd hFl hF0 hFF hRR
  generalize a.length = A at *
  generalize b.length = B at *
  have hgA : (⟨l.toArray⟩ : ByteArray)[1 + A]'(by simpa [ByteArray.size] using hlt') = l[1 + A] := rfl
  have e46 : ((l[1 + A].toNat : Int) == 46) = true := by simp; omega
  have eA : ((A : Int) == 0) = false := by simp; omega
  have eB : ((B : Int) == 0) = false := by simp; omega
  have ene : ((1 : Int) + A + 1 + B != (l.length : Int)) = false := by simp; omega
  have k1 : l.length ≤ 1 + A + 1 + B := by omega
  have k2 : 1 + A + 1 + B ≤ l.length := by omega
  clear h45 h46 hlen hrl
  go_enter Tryd.func88, Tryd.ntmps88
  go_wp2_with fail
  refine (unhide D1 _).mono ?_
  rintro e w1 ⟨rfl, rfl⟩
  go_wp2_with fail
  refine (unhide D2 _).mono ?_
  rintro e w1 ⟨rfl, rfl⟩
  go_wp2_with fail
  go_loop [8, 9] (fun m i => ∃ k : Nat, 1 ≤ k ∧ k ≤ l.length ∧ i = .int .i64 k ∧ m = .int .i64 (numK R (k - 1))) (fun _ i => l.length - (intOf i).toNat)
  case atStart => exact ⟨1, by omega, by omega, rfl, rfl⟩
  case round =>
    obtain ⟨k, hk1, hk2, rfl, rfl⟩ := hrel
    have bd := unhide BD (k - 1)
    by_cases hlt : k < l.length
    · have hgk : (⟨l.toArray⟩ : ByteArray)[k]'(by simpa [ByteArray.size] using hlt) = l[k] := rfl
      by_cases hc : l[k].toNat = 46
      · have en : ((l[k].toNat : Int) != 46) = false := by simp; omega
        have NS := hide (unhide STD k hk1 hlt hc)
        clear hc
        generalize numK R (k - 1) = n0 at *
        go_wp2_with fail
        go_round
        case rel => exact ⟨k + 1, by omega, by omega, by go_num, by rw [unhide NS]⟩
        case measure => simp [intOf]; omega
      · have en : ((l[k].toNat : Int) != 46) = true := by simp; omega
        obtain ⟨ns, d1, d2⟩ := unhide STN k hk1 hlt hc
        have bd2 := unhide BD (k + 1 - 1)
        rw [ns] at bd2
        have NS := hide ns
        clear hc ns
        generalize numK R (k - 1) = n0 at *
        go_wp2_with fail
        go_round
        case rel => exact ⟨k + 1, by omega, by omega, by go_num, by rw [unhide NS]⟩
        case measure => simp [intOf]; omega
    · have hkl : k = l.length := by omega
      subst hkl
      rw [unhide NE]
      rw [unhide NE] at bd
      go_wp2_with fail
      refine (rfit_any _ _ _).mono ?_
      rintro e w4 ⟨rfl, k4⟩
      obtain ⟨c4, f4⟩ := bcell k4
      have z4 : w.heap.size < w4.heap.size := by have := k4.size; simp at this; omega
      go_wp2_with fail
      refine bodyPost_ret (v := .tuple #[.agg #[.int .i64 (fitM _ _), .int .i64 (fitS _ _)], .int .i64 (fitE _ _)]) (by simp [results, Tryd.results88, go_sem, c4]) rfl ⟨rfl, ?_⟩
      exact ((bstep (below1 w _) k4).setCell (by simp) _).setCell (by simp) _

set_option maxHeartbeats 3200000 in
theorem rparse_over_posw (l : List UInt8) (w : World) (hl : l.length ≤ 1000) (h0 : 0 < l.length) (h45 : l[0].toNat ≠ 45) (ha : (l.drop 0).all isDig = true) (la : 1 ≤ (l.drop 0).length) (ho : 18 < (l.drop 0).length) :
    Calls Tryd.prog 88 #[.string ⟨l.toArray⟩] w fun e w' => e = .returned (.tuple #[.agg #[.int .i64 0, .int .i64 0], .int .i64 3]) ∧ Below w.heap.size w w' := by
  have hg0 : (⟨l.toArray⟩ : ByteArray)[0]'(by simpa [ByteArray.size] using h0) = l[0] := rfl
  have e45 : ((l[0].toNat : Int) == 45) = false := by simp; omega
  have D1 := hide (fun w => rdigs_run l 0 w hl (by omega))
  rw [irun_self ha] at D1
  have hlen := List.length_drop (i := 0) (l := l)
  obtain ⟨A, hAe⟩ : ∃ A, (l.drop 0).length = A := ⟨_, rfl⟩
  rw [hAe] at D1 hlen ho la
  clear hAe ha
  have eA : ((A : Int) == 0) = false := by simp; omega
  have ene : ((A : Int) != (l.length : Int)) = false := by simp; omega
  have k1 : l.length ≤ A := by omega
  have k2 : A ≤ l.length := by omega
  clear h45 hlen
  go_enter Tryd.func88, Tryd.ntmps88
  go_wp2_with fail
  refine (unhide D1 _).mono ?_
  rintro e w1 ⟨rfl, rfl⟩
  go_wp2_with fail
  refine bodyPost_ret (v := .tuple #[.agg #[.int .i64 0, .int .i64 0], .int .i64 3]) (by simp [results, Tryd.results88, go_sem]) rfl ⟨rfl, ?_⟩
  exact below1 _ _

set_option maxHeartbeats 3200000 in
set_option maxRecDepth 10000 in
theorem rparse_ok_posw (l : List UInt8) (w : World) (hl : l.length ≤ 1000) (h0 : 0 < l.length) (h45 : l[0].toNat ≠ 45) (ha : (l.drop 0).all isDig = true) (la : 1 ≤ (l.drop 0).length) (h18 : (l.drop 0).length ≤ 18) :
    Calls Tryd.prog 88 #[.string ⟨l.toArray⟩] w fun e w' => e = .returned (.tuple #[.agg #[.int .i64 (fitM (num (l.drop 0)) 0), .int .i64 (fitS (num (l.drop 0)) 0)], .int .i64 (fitE (num (l.drop 0)) 0)]) ∧ Below w.heap.size w w' := by
  have hg0 : (⟨l.toArray⟩ : ByteArray)[0]'(by simpa [ByteArray.size] using h0) = l[0] := rfl
  have e45 : ((l[0].toNat : Int) == 45) = false := by simp; omega
  have D1 := hide (fun w => rdigs_run l 0 w hl (by omega))
  rw [irun_self ha] at D1
  have hlen := List.length_drop (i := 0) (l := l)
  obtain ⟨F, hF0⟩ : ∃ F, (l.drop 0) = F := ⟨_, rfl⟩
  have hF : (l.drop 0).filter nd = F := by rw [filter_dig ha, hF0]
  have hFd : ((l.drop 0).filter nd).all isDig = true := by rw [filter_dig ha]; exact ha
  have hFl : ((l.drop 0).filter nd).length ≤ 18 := by rw [filter_dig ha]; exact h18
  have STD : Hid (∀ k (h1 : 0 ≤ k) (h : k < l.length), l[k].toNat = 46 → numK (l.drop 0) (k + 1 - 0) = numK (l.drop 0) (k - 0)) := by
    intro k h1 h hc
    have hh : (l.drop 0)[k - 0]'(by rw [List.length_drop]; omega) = l[k] := by rw [List.getElem_drop]; congr 1; omega
    rw [show k + 1 - 0 = (k - 0) + 1 by omega]
    exact numK_dot (l.drop 0) (k - 0) (by rw [List.length_drop]; omega) (by rw [hh]; exact hc)
  have STN : Hid (∀ k (h1 : 0 ≤ k) (h : k < l.length), l[k].toNat ≠ 46 → numK (l.drop 0) (k + 1 - 0) = numK (l.drop 0) (k - 0) * 10 + ((l[k].toNat : Int) - 48) ∧ 48 ≤ (l[k].toNat : Int) ∧ (l[k].toNat : Int) ≤ 57) := by
    intro k h1 h hc
    have hh : (l.drop 0)[k - 0]'(by rw [List.length_drop]; omega) = l[k] := by rw [List.getElem_drop]; congr 1; omega
    rw [show k + 1 - 0 = (k - 0) + 1 by omega]
    have q := numK_dig (l.drop 0) (k - 0) (by rw [List.length_drop]; omega) (by rw [hh]; exact hc)
    have q2 := nd_dig (l.drop 0) hFd (k - 0) (by rw [List.length_drop]; omega) (by rw [hh]; exact hc)
    rw [hh] at q q2
    exact ⟨q, q2⟩
  have BD := hide (numK_bd (l.drop 0) hFd hFl)
  have NE : Hid (numK (l.drop 0) (l.length - 0) = num F) := by
    have := numK_all (l.drop 0)
    rw [List.length_drop, hF] at this
    exact this
  rw [show num (l.drop 0) = num F by rw [hF0]]
  generalize hRR : (l.drop 0) = R at STD STN BD NE
  generalize num F = X0 at *
  obtain ⟨A, hAe⟩ : ∃ A, (l.drop 0).length = A := ⟨_, rfl⟩
  rw [hAe] at D1 hlen h18 la
  clear hAe ha hF hFd hFl hF0 hRR
  have eA : ((A : Int) == 0) = false := by simp; omega
  have ene : ((A : Int) != (l.length : Int)) = false := by simp; omega
  have k1 : l.length ≤ A := by omega
  have k2 : A ≤ l.length := by omega
  clear h45 hlen
  go_enter Tryd.func88, Tryd.ntmps88
  go_wp2_with fail
  refine (unhide D1 _).mono ?_
  rintro e w1 ⟨rfl, rfl⟩
  go_wp2_with fail
  go_loop [8, 9] (fun m i => ∃ k : Nat, 0 ≤ k ∧ k ≤ l.length ∧ i = .int .i64 k ∧ m = .int .i64 (numK R (k - 0))) (fun _ i => l.length - (intOf i).toNat)
  case atStart => exact ⟨0, by omega, by omega, rfl, rfl⟩
  case round =>
    obtain ⟨k, hk1, hk2, rfl, rfl⟩ := hrel
    have bd := unhide BD (k - 0)
    by_cases hlt : k < l.length
    · have hgk : (⟨l.toArray⟩ : ByteArray)[k]'(by simpa [ByteArray.size] using hlt) = l[k] := rfl
      by_cases hc : l[k].toNat = 46
      · have en : ((l[k].toNat : Int) != 46) = false := by simp; omega
        have NS := hide (unhide STD k hk1 hlt hc)
        clear hc
        generalize numK R (k - 0) = n0 at *
        go_wp2_with fail
        go_round
        case rel => exact ⟨k + 1, by omega, by omega, by go_num, by rw [unhide NS]⟩
        case measure => simp [intOf]; omega
      · have en : ((l[k].toNat : Int) != 46) = true := by simp; omega
        obtain ⟨ns, d1, d2⟩ := unhide STN k hk1 hlt hc
        have bd2 := unhide BD (k + 1 - 0)
        rw [ns] at bd2
        have NS := hide ns
        clear hc ns
        generalize numK R (k - 0) = n0 at *
        go_wp2_with fail
        go_round
        case rel => exact ⟨k + 1, by omega, by omega, by go_num, by rw [unhide NS]⟩
        case measure => simp [intOf]; omega
    · have hkl : k = l.length := by omega
      subst hkl
      rw [unhide NE]
      rw [unhide NE] at bd
      go_wp2_with fail
      refine (rfit_any _ _ _).mono ?_
      rintro e w4 ⟨rfl, k4⟩
      obtain ⟨c4, f4⟩ := bcell k4
      have z4 : w.heap.size < w4.heap.size := by have := k4.size; simp at this; omega
      go_wp2_with fail
      refine bodyPost_ret (v := .tuple #[.agg #[.int .i64 (fitM _ _), .int .i64 (fitS _ _)], .int .i64 (fitE _ _)]) (by simp [results, Tryd.results88, go_sem, c4]) rfl ⟨rfl, ?_⟩
      exact ((bstep (below1 w _) k4).setCell (by simp) _).setCell (by simp) _

set_option maxHeartbeats 3200000 in
theorem rparse_over_posf (l : List UInt8) (w : World) (hl : l.length ≤ 1000) (h0 : 0 < l.length) (h45 : l[0].toNat ≠ 45) (a b : List UInt8) (hr : (l.drop 0) = a ++ 46 :: b) (ha : a.all isDig = true) (hb : b.all isDig = true) (la : 1 ≤ a.length) (lb : 1 ≤ b.length) (ho : 18 < a.length + b.length ∨ 8 < b.length) :
    Calls Tryd.prog 88 #[.string ⟨l.toArray⟩] w fun e w' => e = .returned (.tuple #[.agg #[.int .i64 0, .int .i64 0], .int .i64 3]) ∧ Below w.heap.size w w' := by
  have hg0 : (⟨l.toArray⟩ : ByteArray)[0]'(by simpa [ByteArray.size] using h0) = l[0] := rfl
  have e45 : ((l[0].toNat : Int) == 45) = false := by simp; omega
  have D1 := hide (fun w => rdigs_run l 0 w hl (by omega))
  have hlen := List.length_drop (i := 0) (l := l)
  have eA : run isDig (l.drop 0) = a.length := by rw [hr, irun_app ha]; rfl
  rw [eA] at D1
  have hrl : (l.drop 0).length = a.length + 1 + b.length := by rw [hr]; simp; omega
  have hlt' : a.length < l.length := by omega
  have h46 : l[a.length].toNat = 46 := by
    have h1 : (l.drop 0)[a.length]'(by omega) = 46 := by simp only [hr]; simp
    rw [List.getElem_drop] at h1
    have h2 : l[a.length] = 46 := by simpa using h1
    rw [h2]; rfl
  have eB : run isDig (l.drop (a.length + 1)) = b.length := by
    have h1 : l.drop (a.length + 1) = (l.drop 0).drop (a.length + 1) := by rw [List.drop_drop]; congr 1; try omega
    rw [h1, hr, ← List.drop_drop, List.drop_left' rfl]
    exact irun_self hb
  have D2 := hide (fun w => rdigs_run l (a.length + 1) w hl (by omega))
  rw [eB, show ((a.length + 1 : Nat) : Int) = (a.length : Int) + 1 by omega] at D2
  clear hr ha hb eA eB
  generalize a.length = A at *
  generalize b.length = B at *
  have hgA : (⟨l.toArray⟩ : ByteArray)[A]'(by simpa [ByteArray.size] using hlt') = l[A] := rfl
  have e46 : ((l[A].toNat : Int) == 46) = true := by simp; omega
  have eA : ((A : Int) == 0) = false := by simp; omega
  have eB : ((B : Int) == 0) = false := by simp; omega
  have ene : ((A : Int) + 1 + B != (l.length : Int)) = false := by simp; omega
  have k1 : l.length ≤ A + 1 + B := by omega
  have k2 : A + 1 + B ≤ l.length := by omega
  clear h45 h46 hlen hrl
  by_cases h18 : 18 < (A : Int) + B
  · clear ho
    go_enter Tryd.func88, Tryd.ntmps88
    go_wp2_with fail
    refine (unhide D1 _).mono ?_
    rintro e w1 ⟨rfl, rfl⟩
    go_wp2_with fail
    refine (unhide D2 _).mono ?_
    rintro e w1 ⟨rfl, rfl⟩
    go_wp2_with fail
    refine bodyPost_ret (v := .tuple #[.agg #[.int .i64 0, .int .i64 0], .int .i64 3]) (by simp [results, Tryd.results88, go_sem]) rfl ⟨rfl, ?_⟩
    exact below1 _ _
  · have h8 : 8 < (B : Int) := by omega
    clear ho
    go_enter Tryd.func88, Tryd.ntmps88
    go_wp2_with fail
    refine (unhide D1 _).mono ?_
    rintro e w1 ⟨rfl, rfl⟩
    go_wp2_with fail
    refine (unhide D2 _).mono ?_
    rintro e w1 ⟨rfl, rfl⟩
    go_wp2_with fail
    refine bodyPost_ret (v := .tuple #[.agg #[.int .i64 0, .int .i64 0], .int .i64 3]) (by simp [results, Tryd.results88, go_sem]) rfl ⟨rfl, ?_⟩
    exact below1 _ _

set_option maxHeartbeats 3200000 in
set_option maxRecDepth 10000 in
theorem rparse_ok_posf (l : List UInt8) (w : World) (hl : l.length ≤ 1000) (h0 : 0 < l.length) (h45 : l[0].toNat ≠ 45) (a b : List UInt8) (hr : (l.drop 0) = a ++ 46 :: b) (ha : a.all isDig = true) (hb : b.all isDig = true) (la : 1 ≤ a.length) (lb : 1 ≤ b.length) (h18 : a.length + b.length ≤ 18) (h8 : b.length ≤ 8) :
    Calls Tryd.prog 88 #[.string ⟨l.toArray⟩] w fun e w' => e = .returned (.tuple #[.agg #[.int .i64 (fitM (num (a ++ b)) b.length), .int .i64 (fitS (num (a ++ b)) b.length)], .int .i64 (fitE (num (a ++ b)) b.length)]) ∧ Below w.heap.size w w' := by
  have hg0 : (⟨l.toArray⟩ : ByteArray)[0]'(by simpa [ByteArray.size] using h0) = l[0] := rfl
  have e45 : ((l[0].toNat : Int) == 45) = false := by simp; omega
  have D1 := hide (fun w => rdigs_run l 0 w hl (by omega))
  have hlen := List.length_drop (i := 0) (l := l)
  have eA : run isDig (l.drop 0) = a.length := by rw [hr, irun_app ha]; rfl
  rw [eA] at D1
  have hrl : (l.drop 0).length = a.length + 1 + b.length := by rw [hr]; simp; omega
  have hlt' : a.length < l.length := by omega
  have h46 : l[a.length].toNat = 46 := by
    have h1 : (l.drop 0)[a.length]'(by omega) = 46 := by simp only [hr]; simp
    rw [List.getElem_drop] at h1
    have h2 : l[a.length] = 46 := by simpa using h1
    rw [h2]; rfl
  have eB : run isDig (l.drop (a.length + 1)) = b.length := by
    have h1 : l.drop (a.length + 1) = (l.drop 0).drop (a.length + 1) := by rw [List.drop_drop]; congr 1; try omega
    rw [h1, hr, ← List.drop_drop, List.drop_left' rfl]
    exact irun_self hb
  have D2 := hide (fun w => rdigs_run l (a.length + 1) w hl (by omega))
  rw [eB, show ((a.length + 1 : Nat) : Int) = (a.length : Int) + 1 by omega] at D2
  have hF0 : (l.drop 0).filter nd = a ++ b := by
    rw [hr, List.filter_append, filter_dig ha, List.filter_cons, filter_dig hb]
    rfl
  obtain ⟨F, hFF⟩ : ∃ F, a ++ b = F := ⟨_, rfl⟩
  have hF : (l.drop 0).filter nd = F := by rw [hF0, hFF]
  have hFd : ((l.drop 0).filter nd).all isDig = true := by rw [hF0, List.all_append, ha, hb]; rfl
  have hFl : ((l.drop 0).filter nd).length ≤ 18 := by rw [hF0, List.length_append]; exact h18
  have STD : Hid (∀ k (h1 : 0 ≤ k) (h : k < l.length), l[k].toNat = 46 → numK (l.drop 0) (k + 1 - 0) = numK (l.drop 0) (k - 0)) := by
    intro k h1 h hc
    have hh : (l.drop 0)[k - 0]'(by rw [List.length_drop]; omega) = l[k] := by rw [List.getElem_drop]; congr 1; omega
    rw [show k + 1 - 0 = (k - 0) + 1 by omega]
    exact numK_dot (l.drop 0) (k - 0) (by rw [List.length_drop]; omega) (by rw [hh]; exact hc)
  have STN : Hid (∀ k (h1 : 0 ≤ k) (h : k < l.length), l[k].toNat ≠ 46 → numK (l.drop 0) (k + 1 - 0) = numK (l.drop 0) (k - 0) * 10 + ((l[k].toNat : Int) - 48) ∧ 48 ≤ (l[k].toNat : Int) ∧ (l[k].toNat : Int) ≤ 57) := by
    intro k h1 h hc
    have hh : (l.drop 0)[k - 0]'(by rw [List.length_drop]; omega) = l[k] := by rw [List.getElem_drop]; congr 1; omega
    rw [show k + 1 - 0 = (k - 0) + 1 by omega]
    have q := numK_dig (l.drop 0) (k - 0) (by rw [List.length_drop]; omega) (by rw [hh]; exact hc)
    have q2 := nd_dig (l.drop 0) hFd (k - 0) (by rw [List.length_drop]; omega) (by rw [hh]; exact hc)
    rw [hh] at q q2
    exact ⟨q, q2⟩
  have BD := hide (numK_bd (l.drop 0) hFd hFl)
  have NE : Hid (numK (l.drop 0) (l.length - 0) = num F) := by
    have := numK_all (l.drop 0)
    rw [List.length_drop, hF] at this
    exact this
  rw [hFF]
  generalize hRR : (l.drop 0) = R at STD STN BD NE
  generalize num F = X0 at *
  clear hr ha hb eA eB hF hFd hFl hF0 hFF hRR
  generalize a.length = A at *
  generalize b.length = B at *
  have hgA : (⟨l.toArray⟩ : ByteArray)[A]'(by simpa [ByteArray.size] using hlt') = l[A] := rfl
  have e46 : ((l[A].toNat : Int) == 46) = true := by simp; omega
  have eA : ((A : Int) == 0) = false := by simp; omega
  have eB : ((B : Int) == 0) = false := by simp; omega
  have ene : ((A : Int) + 1 + B != (l.length : Int)) = false := by simp; omega
  have k1 : l.length ≤ A + 1 + B := by omega
  have k2 : A + 1 + B ≤ l.length := by omega
  clear h45 h46 hlen hrl
  go_enter Tryd.func88, Tryd.ntmps88
  go_wp2_with fail
  refine (unhide D1 _).mono ?_
  rintro e w1 ⟨rfl, rfl⟩
  go_wp2_with fail
  refine (unhide D2 _).mono ?_
  rintro e w1 ⟨rfl, rfl⟩
  go_wp2_with fail
  go_loop [8, 9] (fun m i => ∃ k : Nat, 0 ≤ k ∧ k ≤ l.length ∧ i = .int .i64 k ∧ m = .int .i64 (numK R (k - 0))) (fun _ i => l.length - (intOf i).toNat)
  case atStart => exact ⟨0, by omega, by omega, rfl, rfl⟩
  case round =>
    obtain ⟨k, hk1, hk2, rfl, rfl⟩ := hrel
    have bd := unhide BD (k - 0)
    by_cases hlt : k < l.length
    · have hgk : (⟨l.toArray⟩ : ByteArray)[k]'(by simpa [ByteArray.size] using hlt) = l[k] := rfl
      by_cases hc : l[k].toNat = 46
      · have en : ((l[k].toNat : Int) != 46) = false := by simp; omega
        have NS := hide (unhide STD k hk1 hlt hc)
        clear hc
        generalize numK R (k - 0) = n0 at *
        go_wp2_with fail
        go_round
        case rel => exact ⟨k + 1, by omega, by omega, by go_num, by rw [unhide NS]⟩
        case measure => simp [intOf]; omega
      · have en : ((l[k].toNat : Int) != 46) = true := by simp; omega
        obtain ⟨ns, d1, d2⟩ := unhide STN k hk1 hlt hc
        have bd2 := unhide BD (k + 1 - 0)
        rw [ns] at bd2
        have NS := hide ns
        clear hc ns
        generalize numK R (k - 0) = n0 at *
        go_wp2_with fail
        go_round
        case rel => exact ⟨k + 1, by omega, by omega, by go_num, by rw [unhide NS]⟩
        case measure => simp [intOf]; omega
    · have hkl : k = l.length := by omega
      subst hkl
      rw [unhide NE]
      rw [unhide NE] at bd
      go_wp2_with fail
      refine (rfit_any _ _ _).mono ?_
      rintro e w4 ⟨rfl, k4⟩
      obtain ⟨c4, f4⟩ := bcell k4
      have z4 : w.heap.size < w4.heap.size := by have := k4.size; simp at this; omega
      go_wp2_with fail
      refine bodyPost_ret (v := .tuple #[.agg #[.int .i64 (fitM _ _), .int .i64 (fitS _ _)], .int .i64 (fitE _ _)]) (by simp [results, Tryd.results88, go_sem, c4]) rfl ⟨rfl, ?_⟩
      exact ((bstep (below1 w _) k4).setCell (by simp) _).setCell (by simp) _

end Go.Proofs.YtejnmkhdnhggcaaDoor

/- dec's Parse and the document's answer alike at every text. -/
namespace Go.Proofs.YtejnmkhdnhggcaaDoor
open Go.RowKit
set_option linter.unusedVariables false

/- what Parse answers. -/
def PA (f : Nat) (l : List UInt8) (M S E : Int) : Prop := ∀ w : World, Calls Tryd.prog f #[.string ⟨l.toArray⟩] w fun e w' => e = .returned (.tuple #[.agg #[.int .i64 M, .int .i64 S], .int .i64 E]) ∧ Below w.heap.size w w'
end Go.Proofs.YtejnmkhdnhggcaaDoor

/- Digits with noughts ahead: plain reckoning. -/
namespace Go.Proofs.YtejnmkhdnhggcaaDoor

/- a number in digits, at least so many. -/
def padL (n k : Nat) : List UInt8 := if n = 0 then List.replicate k 48 else List.replicate (k - (Lib.decDigits n).length) 48 ++ Lib.decDigits n

theorem repeat_replicate (c : Nat) : Lib.repeatL [48] c = List.replicate c 48 := by
  induction c with
  | zero => rfl
  | succ c ih => unfold Lib.repeatL; rw [ih]; rfl

theorem pad_body (n k : Nat) (hk : 1 ≤ k) : padL n k = Lib.repeatL [48] (k - (Lib.decDigits n).length) ++ Lib.decDigits n := by
  unfold padL
  rw [repeat_replicate]
  by_cases h : n = 0
  · subst h
    rw [if_pos rfl, Lib.decDigits_one (by omega)]
    show List.replicate k 48 = List.replicate (k - 1) 48 ++ [48]
    rw [← List.replicate_succ', show k - 1 + 1 = k by omega]
  · rw [if_neg h]

theorem pad_step (n k : Nat) (h : n ≠ 0 ∨ k ≠ 0) : padL n k = padL (n / 10) (k - 1) ++ [UInt8.ofNat (48 + n % 10)] := by
  by_cases h0 : n = 0
  · subst h0
    have hk : k ≠ 0 := by omega
    unfold padL
    rw [if_pos rfl, if_pos rfl]
    show List.replicate k 48 = List.replicate (k - 1) 48 ++ [48]
    rw [← List.replicate_succ', show k - 1 + 1 = k by omega]
  · by_cases h1 : n < 10
    · have e0 : n / 10 = 0 := by omega
      unfold padL
      rw [if_neg h0, if_pos e0, Lib.decDigits_one h1, show n % 10 = n by omega]
      rfl
    · unfold padL
      rw [if_neg h0, if_neg (by omega)]
      have e : Lib.decDigits n = Lib.decDigits (n / 10) ++ [UInt8.ofNat (48 + n % 10)] := by
        rw [Lib.decDigits, dif_neg h1]
      rw [e, List.length_append, List.append_assoc, show k - ((Lib.decDigits (n / 10)).length + [UInt8.ofNat (48 + n % 10)].length) = k - 1 - (Lib.decDigits (n / 10)).length by simp; omega]

theorem pad_done : padL 0 0 = [] := rfl
end Go.Proofs.YtejnmkhdnhggcaaDoor

/- More of the plain reckoning: what Fit answers may be. -/
namespace Go.Proofs.YtejnmkhdnhggcaaDoor

theorem trim_is (t : Nat) : ∀ m : Int, okM m = true → okM (trimM m t) = true ∧ trimS m t ≤ t ∧ (trimS m t = 0 ∨ trimM m t % 10 ≠ 0) := by
  induction t with
  | zero => intro m h; exact ⟨h, Nat.le_refl _, Or.inl rfl⟩
  | succ t ih =>
    intro m h
    unfold trimM trimS
    by_cases h10 : m % 10 = 0
    · rw [if_pos h10, if_pos h10]
      have := ih (m / 10) (by rw [okM_iff] at *; omega)
      exact ⟨this.1, by omega, this.2.2⟩
    · rw [if_neg h10, if_neg h10]
      exact ⟨h, Nat.le_refl _, Or.inr h10⟩

theorem isB_mk (m : Int) (s : Nat) (h : okM m = true) (h4 : s ≤ 4) (h0 : s = 0 ∨ m % 10 ≠ 0) : isB m s = true := by
  unfold isB
  rw [h]
  simp
  rcases h0 with h0 | h0
  · exact ⟨by omega, Or.inl h0⟩
  · exact ⟨by omega, Or.inr h0⟩

theorem fitT_is (m : Int) (s : Nat) : ∀ t, t ≤ 5 → fitTE m s t = 0 → isB (fitTM m s t) (fitTS m s t : Nat) = true := by
  intro t
  induction t with
  | zero => intro _ h; have h : (3 : Int) = 0 := h; omega
  | succ t ih =>
    intro ht h
    unfold fitTE at h
    unfold fitTM fitTS
    by_cases hok : okM (half m (p10 (s - t))) = true
    · rw [if_pos hok, if_pos hok]
      have := trim_is t _ hok
      exact isB_mk _ _ this.1 (by omega) this.2.2
    · rw [if_neg hok] at h ⊢
      rw [if_neg hok]
      exact ih (by omega) h

theorem fit_is (m s : Int) (h : fitE m s = 0) : isB (fitM m s) (fitS m s) = true := by
  unfold fitE at h
  unfold fitM fitS
  by_cases ha : argB m s = true
  · rw [if_pos ha] at h; exact absurd h (by decide)
  · rw [if_neg ha] at h ⊢
    rw [if_neg ha]
    exact fitT_is m _ _ (by omega) h

end Go.Proofs.YtejnmkhdnhggcaaDoor

/- More of the plain reckoning: whole numbers as decimals. -/
namespace Go.Proofs.YtejnmkhdnhggcaaDoor

theorem fit0 (x : Int) (h1 : -1000000000 ≤ x) (h2 : x ≤ 1000000000) : fitM x 0 = x ∧ fitS x 0 = 0 ∧ fitE x 0 = 0 := by
  have ha : argB x 0 = false := by unfold argB; simp; omega
  have hk : okM (half x (p10 (0 - 0))) = true := by
    rw [show p10 (0 - 0) = 1 from rfl, half_one, okM_iff]; exact ⟨h1, h2⟩
  have e : half x (p10 (0 - 0)) = x := by rw [show p10 (0 - 0) = 1 from rfl, half_one]
  refine ⟨?_, ?_, ?_⟩
  · unfold fitM
    rw [ha]
    show fitTM x 0 (0 + 1) = x
    unfold fitTM
    rw [if_pos hk, e]; rfl
  · unfold fitS
    rw [ha]
    show ((fitTS x 0 (0 + 1) : Nat) : Int) = 0
    unfold fitTS
    rw [if_pos hk]; rfl
  · unfold fitE
    rw [ha]
    show fitTE x 0 (0 + 1) = 0
    unfold fitTE
    rw [if_pos hk]

theorem isB0 (x : Int) (h1 : -1000000000 ≤ x) (h2 : x ≤ 1000000000) : isB x 0 = true := by
  unfold isB
  rw [(okM_iff x).2 ⟨h1, h2⟩]; rfl

theorem up0 (x : Int) : upM x 0 (max 0 0) = x := by
  unfold upM
  rw [show p10 (max (0 : Int) 0 - 0).toNat = 1 from rfl]; omega

theorem wf64 {n : Int} (h : (Go.Lit.int .i64 n).wf = true) : -9223372036854775808 ≤ n ∧ n ≤ 9223372036854775807 := by
  simp [Go.Lit.wf, Go.IntKind.min, Go.IntKind.max, Go.IntKind.signed, Go.IntKind.bits] at h
  omega

end Go.Proofs.YtejnmkhdnhggcaaDoor

/- More of the plain reckoning: what Fit takes off can be laid on again; what is rounded is near; what is too great at every scale. -/
namespace Go.Proofs.YtejnmkhdnhggcaaDoor

theorem half_exact (y d : Int) (hd : 1 ≤ d) : half (y * d) d = y := by
  unfold half
  have h1 : y * d % d = 0 := Int.mul_emod_left y d
  have h2 : y * d / d = y := Int.mul_ediv_cancel y (by omega)
  rw [h1, h2, if_neg (by omega)]

theorem half_near (n d : Int) (hd : 1 ≤ d) : 2 * (n - half n d * d) ≤ d ∧ -d ≤ 2 * (n - half n d * d) := by
  have h1 := Int.emod_nonneg n (b := d) (by omega)
  have h2 := Int.emod_lt_of_pos n (b := d) (by omega)
  have h3 := Int.mul_ediv_add_emod n d
  unfold half
  split
  · rw [Int.add_mul, Int.mul_comm (n / d) d]; omega
  · rw [Int.mul_comm (n / d) d]; omega

theorem trimS_le (t : Nat) : ∀ m : Int, trimS m t ≤ t := by
  induction t with
  | zero => intro m; exact Nat.le_refl _
  | succ t ih =>
    intro m
    unfold trimS
    split
    · have := ih (m / 10); omega
    · omega

theorem trim_up (t : Nat) : ∀ m : Int, trimM m t * p10 (t - trimS m t) = m := by
  induction t with
  | zero => intro m; show m * 1 = m; omega
  | succ t ih =>
    intro m
    unfold trimM trimS
    by_cases h : m % 10 = 0
    · rw [if_pos h, if_pos h]
      have hl := trimS_le t (m / 10)
      rw [show t + 1 - trimS (m / 10) t = (t - trimS (m / 10) t) + 1 by omega, p10_succ, ← Int.mul_assoc, ih]
      omega
    · rw [if_neg h, if_neg h, Nat.sub_self]
      show m * 1 = m
      omega

theorem fitE_in (m s : Int) (h : argB m s = false) : fitE m s = 0 ∨ fitE m s = 3 := by
  unfold fitE
  rw [h]
  show fitTE m s.toNat (min s.toNat 4 + 1) = 0 ∨ fitTE m s.toNat (min s.toNat 4 + 1) = 3
  generalize min s.toNat 4 + 1 = t
  induction t with
  | zero => exact Or.inr rfl
  | succ t ih =>
    unfold fitTE
    split
    · exact Or.inl rfl
    · exact ih

theorem fit_top (m s : Int) (ha : argB m s = false) (h4 : 4 ≤ s) (hk : okM (half m (p10 (s.toNat - 4))) = true) :
    fitM m s = trimM (half m (p10 (s.toNat - 4))) 4 ∧ fitS m s = (trimS (half m (p10 (s.toNat - 4))) 4 : Nat) ∧ fitE m s = 0 := by
  have e : min s.toNat 4 + 1 = 4 + 1 := by omega
  refine ⟨?_, ?_, ?_⟩
  · unfold fitM; rw [ha, e]; show fitTM m s.toNat (4 + 1) = _; unfold fitTM; rw [if_pos hk]
  · unfold fitS; rw [ha, e]; show ((fitTS m s.toNat (4 + 1) : Nat) : Int) = _; unfold fitTS; rw [if_pos hk]
  · unfold fitE; rw [ha, e]; show fitTE m s.toNat (4 + 1) = _; unfold fitTE; rw [if_pos hk]

theorem fitT_whole (x : Int) (s : Nat) (hx : ∀ t, 1 ≤ t → okM (x * p10 t) = false) : ∀ t, t ≤ s →
    fitTM (x * p10 s) s (t + 1) = (if okM x = true then x else 0) ∧ fitTS (x * p10 s) s (t + 1) = 0 ∧ fitTE (x * p10 s) s (t + 1) = (if okM x = true then 0 else 3) := by
  have he : ∀ t, t ≤ s → half (x * p10 s) (p10 (s - t)) = x * p10 t := by
    intro t ht
    have : p10 s = p10 t * p10 (s - t) := by rw [← p10_add]; congr 1; omega
    rw [this, ← Int.mul_assoc, half_exact _ _ (p10_pos _)]
  intro t
  induction t with
  | zero =>
    intro ht
    have h0 := he 0 ht
    rw [show x * p10 0 = x by show x * 1 = x; omega] at h0
    unfold fitTM fitTS fitTE
    rw [h0]
    refine ⟨rfl, ?_, rfl⟩
    split <;> rfl
  | succ t ih =>
    intro ht
    have h1 := he (t + 1) ht
    have hn := hx (t + 1) (by omega)
    have := ih (by omega)
    unfold fitTM fitTS fitTE
    rw [h1, hn]
    exact this

theorem fit_whole (x s : Int) (hx : ∀ t, 1 ≤ t → okM (x * p10 t) = false) (h1 : -1000000000000000000 ≤ x * p10 s.toNat) (h2 : x * p10 s.toNat ≤ 1000000000000000000) (h3 : 0 ≤ s) (h4 : s ≤ 8) :
    fitM (x * p10 s.toNat) s = (if okM x = true then x else 0) ∧ fitS (x * p10 s.toNat) s = 0 ∧ fitE (x * p10 s.toNat) s = (if okM x = true then 0 else 3) := by
  have ha : argB (x * p10 s.toNat) s = false := by unfold argB; simp only [decide_eq_false_iff_not]; omega
  have := fitT_whole x s.toNat hx (min s.toNat 4) (by omega)
  unfold fitM fitS fitE
  rw [ha]
  refine ⟨this.1, ?_, this.2.2⟩
  show ((fitTS (x * p10 s.toNat) s.toNat (min s.toNat 4 + 1) : Nat) : Int) = 0
  rw [this.2.1]; rfl

theorem big_not (x : Int) (h : 1000000000 ≤ x ∨ x ≤ -1000000000) (t : Nat) (ht : 1 ≤ t) : okM (x * p10 t) = false := by
  obtain ⟨u, rfl⟩ : ∃ u, t = u + 1 := ⟨t - 1, by omega⟩
  rw [p10_succ, ← Int.mul_assoc]
  have p := p10_pos u
  have : okM (x * p10 u * 10) ≠ true := by
    rw [Ne, okM_iff]
    rcases h with h | h
    · have := Int.mul_le_mul h p (by omega) (by omega); omega
    · have := Int.mul_le_mul (show 1000000000 ≤ -x by omega) p (by omega) (by omega); rw [Int.neg_mul] at this; omega
  simpa using this

end Go.Proofs.YtejnmkhdnhggcaaDoor

/- More of the plain reckoning: one value at two scales is fitted, divided and ordered alike. -/
namespace Go.Proofs.YtejnmkhdnhggcaaDoor

theorem half_scale (x y c : Int) (hc : 1 ≤ c) : half (x * c) (y * c) = half x y := by
  unfold half
  have h1 : x * c / (y * c) = x / y := by rw [Int.mul_comm x c, Int.mul_comm y c]; exact Int.mul_ediv_mul_of_pos _ _ (show 0 < c by omega)
  have h2 : x * c % (y * c) = x % y * c := by rw [Int.mul_comm x c, Int.mul_comm y c, Int.mul_comm (x % y) c]; exact Int.mul_emod_mul_of_pos _ _ (show 0 < c by omega)
  rw [h1, h2]
  generalize x % y = r
  generalize x / y = q
  have e1 : 2 * (r * c) = 2 * r * c := by rw [Int.mul_assoc]
  have a1 : (y * c < 2 * (r * c)) ↔ (y < 2 * r) := by
    rw [e1]
    constructor
    · intro h; exact Int.lt_of_mul_lt_mul_right h (by omega)
    · intro h; exact Int.mul_lt_mul_of_pos_right h (by omega)
  have a2 : (2 * (r * c) = y * c) ↔ (2 * r = y) := by
    rw [e1]
    constructor
    · intro h; exact Int.eq_of_mul_eq_mul_right (by omega) h
    · intro h; rw [h]
  simp only [a1, a2]

theorem trim_scale (x : Int) (z : Nat) : ∀ j, trimM (x * p10 j) (z + j) = trimM x z ∧ trimS (x * p10 j) (z + j) = trimS x z := by
  intro j
  induction j with
  | zero => rw [show x * p10 0 = x by show x * 1 = x; omega]; exact ⟨rfl, rfl⟩
  | succ j ih =>
    have e : x * p10 (j + 1) = x * p10 j * 10 := by rw [p10_succ, Int.mul_assoc]
    rw [e, show z + (j + 1) = (z + j) + 1 by omega]
    have t1 : trimM (x * p10 j * 10) (z + j + 1) = trimM (x * p10 j * 10 / 10) (z + j) := if_pos (by omega)
    have t2 : trimS (x * p10 j * 10) (z + j + 1) = trimS (x * p10 j * 10 / 10) (z + j) := if_pos (by omega)
    rw [t1, t2, show x * p10 j * 10 / 10 = x * p10 j by omega]
    exact ih

theorem fitT_low (x : Int) (z k : Nat) : ∀ t, t ≤ z + 1 →
    fitTM (x * p10 k) (z + k) t = fitTM x z t ∧ fitTS (x * p10 k) (z + k) t = fitTS x z t ∧ fitTE (x * p10 k) (z + k) t = fitTE x z t := by
  intro t
  induction t with
  | zero => intro _; exact ⟨rfl, rfl, rfl⟩
  | succ t ih =>
    intro ht
    have := ih (by omega)
    have h : half (x * p10 k) (p10 (z + k - t)) = half x (p10 (z - t)) := by
      rw [show z + k - t = (z - t) + k by omega, p10_add, half_scale _ _ _ (p10_pos _)]
    unfold fitTM fitTS fitTE
    rw [h]
    split
    · exact ⟨rfl, rfl, rfl⟩
    · exact this

theorem okM_down (x : Int) (j : Nat) (h : okM (x * p10 j) = true) : okM x = true := by
  rw [okM_iff] at *
  have p := p10_pos j
  have h1 : x * p10 j ≥ x ∨ x < 0 := by
    by_cases h0 : 0 ≤ x
    · have := Int.mul_le_mul_of_nonneg_left p h0; omega
    · omega
  have h2 : x * p10 j ≤ x ∨ 0 < x := by
    by_cases h0 : 0 ≤ -x
    · have := Int.mul_le_mul_of_nonneg_left p h0; simp only [Int.neg_mul] at this; omega
    · omega
  omega

theorem fitT_scale (x : Int) (z k : Nat) : ∀ j, j ≤ k →
    fitTM (x * p10 k) (z + k) (z + j + 1) = fitTM x z (z + 1) ∧ fitTS (x * p10 k) (z + k) (z + j + 1) = fitTS x z (z + 1) ∧ fitTE (x * p10 k) (z + k) (z + j + 1) = fitTE x z (z + 1) := by
  intro j
  induction j with
  | zero => intro _; exact fitT_low x z k (z + 1) (by omega)
  | succ j ih =>
    intro hj
    have := ih (by omega)
    have h : half (x * p10 k) (p10 (z + k - (z + (j + 1)))) = x * p10 (j + 1) := by
      have e : p10 k = p10 (j + 1) * p10 (z + k - (z + (j + 1))) := by rw [← p10_add]; congr 1; omega
      rw [e, ← Int.mul_assoc, half_exact _ _ (p10_pos _)]
    by_cases hk : okM (x * p10 (j + 1)) = true
    · have hx := okM_down x (j + 1) hk
      have h0 : half x (p10 (z - z)) = x := by rw [Nat.sub_self]; exact half_one x
      have ht := trim_scale x z (j + 1)
      have l1 : fitTM (x * p10 k) (z + k) (z + (j + 1) + 1) = trimM (x * p10 (j + 1)) (z + (j + 1)) := by
        conv => lhs; unfold fitTM
        rw [h, if_pos hk]
      have l2 : fitTS (x * p10 k) (z + k) (z + (j + 1) + 1) = trimS (x * p10 (j + 1)) (z + (j + 1)) := by
        conv => lhs; unfold fitTS
        rw [h, if_pos hk]
      have l3 : fitTE (x * p10 k) (z + k) (z + (j + 1) + 1) = 0 := by
        conv => lhs; unfold fitTE
        rw [h, if_pos hk]
      have r1 : fitTM x z (z + 1) = trimM x z := by unfold fitTM; rw [h0, if_pos hx]
      have r2 : fitTS x z (z + 1) = trimS x z := by unfold fitTS; rw [h0, if_pos hx]
      have r3 : fitTE x z (z + 1) = 0 := by unfold fitTE; rw [h0, if_pos hx]
      rw [l1, l2, l3, r1, r2, r3]
      exact ⟨ht.1, ht.2, rfl⟩
    · have l1 : fitTM (x * p10 k) (z + k) (z + (j + 1) + 1) = fitTM (x * p10 k) (z + k) (z + j + 1) := by
        conv => lhs; unfold fitTM
        rw [h, if_neg hk]; rfl
      have l2 : fitTS (x * p10 k) (z + k) (z + (j + 1) + 1) = fitTS (x * p10 k) (z + k) (z + j + 1) := by
        conv => lhs; unfold fitTS
        rw [h, if_neg hk]; rfl
      have l3 : fitTE (x * p10 k) (z + k) (z + (j + 1) + 1) = fitTE (x * p10 k) (z + k) (z + j + 1) := by
        conv => lhs; unfold fitTE
        rw [h, if_neg hk]; rfl
      rw [l1, l2, l3]
      exact this

theorem fit_scale (x z : Int) (z1 : 0 ≤ z) (z2 : z ≤ 4) (x2 : x ≤ 1000000000000000000) (x3 : -1000000000000000000 ≤ x * p10 (4 - z).toNat) (x4 : x * p10 (4 - z).toNat ≤ 1000000000000000000) (x5 : -1000000000000000000 ≤ x) :
    fitM (x * p10 (4 - z).toNat) 4 = fitM x z ∧ fitS (x * p10 (4 - z).toNat) 4 = fitS x z ∧ fitE (x * p10 (4 - z).toNat) 4 = fitE x z := by
  have a1 : argB (x * p10 (4 - z).toNat) 4 = false := by unfold argB; simp only [decide_eq_false_iff_not]; omega
  have a2 : argB x z = false := by unfold argB; simp only [decide_eq_false_iff_not]; omega
  have h := fitT_scale x z.toNat (4 - z).toNat (4 - z).toNat (Nat.le_refl _)
  rw [show z.toNat + (4 - z).toNat = 4 by omega] at h
  have e4 : (4 : Int).toNat = 4 := rfl
  have em : min 4 4 + 1 = 4 + 1 := rfl
  have ez : min z.toNat 4 + 1 = z.toNat + 1 := by omega
  unfold fitM fitS fitE
  simp only [a1, a2, Bool.false_eq_true, if_false, e4, em, ez]
  generalize x * p10 (4 - z).toNat = y at *
  exact ⟨h.1, by rw [h.2.1], h.2.2⟩

theorem up_scale (m s z : Int) (h1 : s ≤ z) (h2 : z ≤ 4) : upM m s 4 = upM m s z * p10 (4 - z).toNat := by
  unfold upM
  rw [Int.mul_assoc, ← p10_add]
  congr 2
  omega

theorem cmp_scale (x y c : Int) (hc : 1 ≤ c) : cmpI (x * c) (y * c) = cmpI x y := by
  unfold cmpI
  have a1 : (x * c < y * c) ↔ (x < y) := ⟨fun h => Int.lt_of_mul_lt_mul_right h (by omega), fun h => Int.mul_lt_mul_of_pos_right h (by omega)⟩
  have a2 : (y * c < x * c) ↔ (y < x) := ⟨fun h => Int.lt_of_mul_lt_mul_right h (by omega), fun h => Int.mul_lt_mul_of_pos_right h (by omega)⟩
  rw [ite_congr (propext a1) (fun _ => rfl) (fun _ => ite_congr (propext a2) (fun _ => rfl) (fun _ => rfl))]

theorem up_neg (n t z : Int) : upM (-n) t z = -upM n t z := by
  unfold upM; rw [Int.neg_mul]

end Go.Proofs.YtejnmkhdnhggcaaDoor
