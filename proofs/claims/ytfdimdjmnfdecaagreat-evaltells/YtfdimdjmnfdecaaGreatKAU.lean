/- RParse RParse2 PBoth: laid together. -/
import Derived.Test.YtfdimdjmnfdecaaGreatKAT
set_option linter.unusedVariables false
set_option linter.unusedSimpArgs false
set_option maxHeartbeats 8000000
namespace Go.Proofs.YtfdimdjmnfdecaaGreat
open Go.RowKit
section
theorem rdigs_run (l : List UInt8) (at0 : Nat) (w : World) (hl : l.length ≤ 1000) (ha : at0 ≤ l.length) :
  Calls Tryz.prog 157 #[.string ⟨l.toArray⟩, .int .i64 at0] w fun e w' => e = .returned (.int .i64 ((run isDig (l.drop at0) : Nat) : Int)) ∧ w' = w :=
 (rdigs_any l at0 w hl ha).mono fun e w' ⟨⟨k, h1, h2⟩, h3⟩ => ⟨by rw [h1, runs_eq h2], h3⟩
theorem rparse_nil (w : World) : Calls Tryz.prog 155 #[.string ⟨([] : List UInt8).toArray⟩] w fun e w' => e = .returned (.tuple #[.agg #[.int .i64 0, .int .i64 0], .int .i64 2]) ∧ Below w.heap.size w w' := by
 have D1 := hide (fun w => rdigs_run [] 0 w (by simp) (by simp))
 rw [show run isDig (([] : List UInt8).drop 0) = 0 from rfl] at D1
 go_enter Tryz.func155, Tryz.ntmps155
 go_wp2_with fail
 refine (unhide D1 _).mono ?_
 rintro e w1 ⟨rfl, rfl⟩
 go_wp2_with fail
 refine bodyPost_ret (v := .tuple #[.agg #[.int .i64 0, .int .i64 0], .int .i64 2]) zR155 rfl ⟨rfl, ?_⟩
 exact below1 _ _
theorem rparse_bad_neg (l : List UInt8) (w : World) (hl : l.length ≤ 1000) (h0 : 0 < l.length) (h45 : l[0].toNat = 45) (hb : Bad (l.drop 1)) :
  Calls Tryz.prog 155 #[.string ⟨l.toArray⟩] w fun e w' => e = .returned (.tuple #[.agg #[.int .i64 0, .int .i64 0], .int .i64 2]) ∧ Below w.heap.size w w' := by
 have hg0 : (⟨l.toArray⟩ : ByteArray)[0]'(by simpa [ByteArray.size] using h0) = l[0] := rfl
 have e45 : ((l[0].toNat : Int) == 45) = true := by simp; omega
 have D1 := hide (fun w => rdigs_run l 1 w hl (by omega))
 have D2 := hide (fun (j : Nat) w (h : j ≤ l.length) => rdigs_run l j w hl h)
 have hle := run_le isDig (l.drop 1)
 rw [List.length_drop] at hle
 unfold Bad at hb
 simp only [List.getElem_drop, List.drop_drop, List.length_drop] at hb
 generalize run isDig (l.drop 1) = A at *
 clear h45
 by_cases hA : A = 0
 ·subst hA
  go_enter Tryz.func155, Tryz.ntmps155
  go_wp2_with fail
  refine (unhide D1 _).mono ?_
  rintro e w1 ⟨rfl, rfl⟩
  go_wp2_with fail
  refine bodyPost_ret (v := .tuple #[.agg #[.int .i64 0, .int .i64 0], .int .i64 2]) zR155 rfl ⟨rfl, ?_⟩
  exact below1 _ _
 have hA0 : (0 : Int) < (A : Int) := by omega
 have eA : ((A : Int) == 0) = false := by simp; omega
 rcases hb with hb | ⟨hlt, h46⟩ | ⟨hlt, -, h46, hb⟩
 ·exact absurd hb hA
 ·have hlt' : 1 + A < l.length := by omega
  have hgA : (⟨l.toArray⟩ : ByteArray)[1 + A]'(by simpa [ByteArray.size] using hlt') = l[1 + A] := rfl
  have e46 : ((l[1 + A].toNat : Int) == 46) = false := by
   have : l[1 + A].toNat ≠ 46 := by simpa using h46
   simp; omega
  have ene : ((1 : Int) + A != (l.length : Int)) = true := by simp; omega
  clear h46 hlt
  go_enter Tryz.func155, Tryz.ntmps155
  go_wp2_with fail
  refine (unhide D1 _).mono ?_
  rintro e w1 ⟨rfl, rfl⟩
  go_wp2_with fail
  refine bodyPost_ret (v := .tuple #[.agg #[.int .i64 0, .int .i64 0], .int .i64 2]) zR155 rfl ⟨rfl, ?_⟩
  exact below1 _ _
 ·have hlt' : 1 + A < l.length := by omega
  have hgA : (⟨l.toArray⟩ : ByteArray)[1 + A]'(by simpa [ByteArray.size] using hlt') = l[1 + A] := rfl
  have e46 : ((l[1 + A].toNat : Int) == 46) = true := by
   have : l[1 + A].toNat = 46 := by simpa using h46
   simp; omega
  have D2' := hide (fun w => unhide D2 (1 + A + 1) w (by omega))
  rw [show ((1 + A + 1 : Nat) : Int) = (1 : Int) + A + 1 by omega] at D2'
  have hle2 := run_le isDig (l.drop (1 + A + 1))
  rw [List.length_drop] at hle2
  have hb' : run isDig (l.drop (1 + A + 1)) = 0 ∨ 1 + A + 1 + run isDig (l.drop (1 + A + 1)) < l.length := by
   rcases hb with hb | hb
   ·exact Or.inl (by simpa [Nat.add_assoc] using hb)
   ·refine Or.inr ?_
    have e : 1 + (A + 1) = 1 + A + 1 := by omega
    rw [e] at hb
    omega
  clear D2 hb h46 hlt
  have D2 := D2'
  clear D2'
  generalize run isDig (l.drop (1 + A + 1)) = B at *
  by_cases hend : 1 + A + 1 + B = l.length
  ·have hB : B = 0 := by omega
   subst hB
   have ene : ((1 : Int) + A + 1 != (l.length : Int)) = false := by simp; omega
   clear hb'
   go_enter Tryz.func155, Tryz.ntmps155
   go_wp2_with fail
   refine (unhide D1 _).mono ?_
   rintro e w1 ⟨rfl, rfl⟩
   go_wp2_with fail
   refine (unhide D2 _).mono ?_
   rintro e w1 ⟨rfl, rfl⟩
   go_wp2_with fail
   refine bodyPost_ret (v := .tuple #[.agg #[.int .i64 0, .int .i64 0], .int .i64 2]) zR155 rfl ⟨rfl, ?_⟩
   exact below1 _ _
  ·have ene : ((1 : Int) + A + 1 + B != (l.length : Int)) = true := by simp; omega
   clear hb'
   go_enter Tryz.func155, Tryz.ntmps155
   go_wp2_with fail
   refine (unhide D1 _).mono ?_
   rintro e w1 ⟨rfl, rfl⟩
   go_wp2_with fail
   refine (unhide D2 _).mono ?_
   rintro e w1 ⟨rfl, rfl⟩
   go_wp2_with fail
   refine bodyPost_ret (v := .tuple #[.agg #[.int .i64 0, .int .i64 0], .int .i64 2]) zR155 rfl ⟨rfl, ?_⟩
   exact below1 _ _
theorem rparse_bad_pos (l : List UInt8) (w : World) (hl : l.length ≤ 1000) (h0 : 0 < l.length) (h45 : l[0].toNat ≠ 45) (hb : Bad (l.drop 0)) :
  Calls Tryz.prog 155 #[.string ⟨l.toArray⟩] w fun e w' => e = .returned (.tuple #[.agg #[.int .i64 0, .int .i64 0], .int .i64 2]) ∧ Below w.heap.size w w' := by
 have hg0 : (⟨l.toArray⟩ : ByteArray)[0]'(by simpa [ByteArray.size] using h0) = l[0] := rfl
 have e45 : ((l[0].toNat : Int) == 45) = false := by simp; omega
 have D1 := hide (fun w => rdigs_run l 0 w hl (by omega))
 have D2 := hide (fun (j : Nat) w (h : j ≤ l.length) => rdigs_run l j w hl h)
 have hle := run_le isDig (l.drop 0)
 rw [List.length_drop] at hle
 unfold Bad at hb
 simp only [List.getElem_drop, List.drop_drop, List.length_drop] at hb
 generalize run isDig (l.drop 0) = A at *
 clear h45
 by_cases hA : A = 0
 ·subst hA
  go_enter Tryz.func155, Tryz.ntmps155
  go_wp2_with fail
  refine (unhide D1 _).mono ?_
  rintro e w1 ⟨rfl, rfl⟩
  go_wp2_with fail
  refine bodyPost_ret (v := .tuple #[.agg #[.int .i64 0, .int .i64 0], .int .i64 2]) zR155 rfl ⟨rfl, ?_⟩
  exact below1 _ _
 have hA0 : (0 : Int) < (A : Int) := by omega
 have eA : ((A : Int) == 0) = false := by simp; omega
 rcases hb with hb | ⟨hlt, h46⟩ | ⟨hlt, -, h46, hb⟩
 ·exact absurd hb hA
 ·have hlt' : A < l.length := by omega
  have hgA : (⟨l.toArray⟩ : ByteArray)[A]'(by simpa [ByteArray.size] using hlt') = l[A] := rfl
  have e46 : ((l[A].toNat : Int) == 46) = false := by
   have : l[A].toNat ≠ 46 := by simpa using h46
   simp; omega
  have ene : ((A : Int) != (l.length : Int)) = true := by simp; omega
  clear h46 hlt
  go_enter Tryz.func155, Tryz.ntmps155
  go_wp2_with fail
  refine (unhide D1 _).mono ?_
  rintro e w1 ⟨rfl, rfl⟩
  go_wp2_with fail
  refine bodyPost_ret (v := .tuple #[.agg #[.int .i64 0, .int .i64 0], .int .i64 2]) zR155 rfl ⟨rfl, ?_⟩
  exact below1 _ _
 ·have hlt' : A < l.length := by omega
  have hgA : (⟨l.toArray⟩ : ByteArray)[A]'(by simpa [ByteArray.size] using hlt') = l[A] := rfl
  have e46 : ((l[A].toNat : Int) == 46) = true := by
   have : l[A].toNat = 46 := by simpa using h46
   simp; omega
  have D2' := hide (fun w => unhide D2 (A + 1) w (by omega))
  rw [show ((A + 1 : Nat) : Int) = (A : Int) + 1 by omega] at D2'
  have hle2 := run_le isDig (l.drop (A + 1))
  rw [List.length_drop] at hle2
  have hb' : run isDig (l.drop (A + 1)) = 0 ∨ A + 1 + run isDig (l.drop (A + 1)) < l.length := by
   rcases hb with hb | hb
   ·exact Or.inl (by simpa [Nat.add_assoc] using hb)
   ·refine Or.inr ?_
    have e : 0 + (A + 1) = A + 1 := by omega
    rw [e] at hb
    omega
  clear D2 hb h46 hlt
  have D2 := D2'
  clear D2'
  generalize run isDig (l.drop (A + 1)) = B at *
  by_cases hend : A + 1 + B = l.length
  ·have hB : B = 0 := by omega
   subst hB
   have ene : ((A : Int) + 1 != (l.length : Int)) = false := by simp; omega
   clear hb'
   go_enter Tryz.func155, Tryz.ntmps155
   go_wp2_with fail
   refine (unhide D1 _).mono ?_
   rintro e w1 ⟨rfl, rfl⟩
   go_wp2_with fail
   refine (unhide D2 _).mono ?_
   rintro e w1 ⟨rfl, rfl⟩
   go_wp2_with fail
   refine bodyPost_ret (v := .tuple #[.agg #[.int .i64 0, .int .i64 0], .int .i64 2]) zR155 rfl ⟨rfl, ?_⟩
   exact below1 _ _
  ·have ene : ((A : Int) + 1 + B != (l.length : Int)) = true := by simp; omega
   clear hb'
   go_enter Tryz.func155, Tryz.ntmps155
   go_wp2_with fail
   refine (unhide D1 _).mono ?_
   rintro e w1 ⟨rfl, rfl⟩
   go_wp2_with fail
   refine (unhide D2 _).mono ?_
   rintro e w1 ⟨rfl, rfl⟩
   go_wp2_with fail
   refine bodyPost_ret (v := .tuple #[.agg #[.int .i64 0, .int .i64 0], .int .i64 2]) zR155 rfl ⟨rfl, ?_⟩
   exact below1 _ _
end
section
def nd (c : UInt8) : Bool := !decide (c.toNat = 46)
def numK (r : List UInt8) (k : Nat) : Int := num ((r.take k).filter nd)
theorem dig_nd {c : UInt8} (h : isDig c = true) : nd c = true := by
 have := isDig_bd h
 unfold nd
 simp
 omega
theorem filter_dig {a : List UInt8} (h : a.all isDig = true) : a.filter nd = a := by
 rw [List.filter_eq_self]
 intro c hc
 exact dig_nd (List.all_eq_true.1 h c hc)
theorem numK_dot (r : List UInt8) (k : Nat) (h : k < r.length) (hc : r[k].toNat = 46) : numK r (k + 1) = numK r k := by
 unfold numK
 rw [List.take_succ_eq_append_getElem h, List.filter_append]
 have : nd r[k] = false := by unfold nd; simp [hc]
 simp [this]
theorem numK_dig (r : List UInt8) (k : Nat) (h : k < r.length) (hc : r[k].toNat ≠ 46) : numK r (k + 1) = numK r k * 10 + ((r[k].toNat : Int) - 48) := by
 unfold numK
 rw [List.take_succ_eq_append_getElem h, List.filter_append]
 have : nd r[k] = true := by unfold nd; simp [hc]
 rw [show [r[k]].filter nd = [r[k]] by simp [this], num_snoc]
theorem numK_bd (r : List UInt8) (hd : (r.filter nd).all isDig = true) (hl : (r.filter nd).length ≤ 18) (k : Nat) : 0 ≤ numK r k ∧ numK r k ≤ 1000000000000000000 := by
 have hs : ((r.take k).filter nd).Sublist (r.filter nd) := (List.take_sublist k r).filter nd
 have h1 : ((r.take k).filter nd).all isDig = true := by
  rw [List.all_eq_true]
  intro c hc
  exact List.all_eq_true.1 hd c (hs.subset hc)
 have h2 := num_bd _ h1 _ (Nat.le_refl _)
 rw [List.take_length] at h2
 have h3 := p10_18 (k := ((r.take k).filter nd).length) (by have := hs.length_le; omega)
 unfold numK
 omega
theorem numK_all (r : List UInt8) : numK r r.length = num (r.filter nd) := by unfold numK; rw [List.take_length]
theorem nd_dig (r : List UInt8) (hd : (r.filter nd).all isDig = true) (k : Nat) (h : k < r.length) (hc : r[k].toNat ≠ 46) : 48 ≤ (r[k].toNat : Int) ∧ (r[k].toNat : Int) ≤ 57 := by
 refine isDig_bd (List.all_eq_true.1 hd _ (List.mem_filter.2 ⟨List.getElem_mem h, ?_⟩))
 unfold nd
 simp [hc]
theorem rparse_over_negw (l : List UInt8) (w : World) (hl : l.length ≤ 1000) (h0 : 0 < l.length) (h45 : l[0].toNat = 45) (ha : (l.drop 1).all isDig = true) (la : 1 ≤ (l.drop 1).length) (ho : 18 < (l.drop 1).length) :
  Calls Tryz.prog 155 #[.string ⟨l.toArray⟩] w fun e w' => e = .returned (.tuple #[.agg #[.int .i64 0, .int .i64 0], .int .i64 3]) ∧ Below w.heap.size w w' := by
 have hg0 : (⟨l.toArray⟩ : ByteArray)[0]'(by simpa [ByteArray.size] using h0) = l[0] := rfl
 have e45 : ((l[0].toNat : Int) == 45) = true := by simp; omega
 have D1 := hide (fun w => rdigs_run l 1 w hl (by omega))
 rw [irun_self ha] at D1
 have hlen := List.length_drop (i := 1) (l := l)
 obtain ⟨A, hAe⟩ : ∃ A, (l.drop 1).length = A := ⟨_, rfl⟩
 rw [hAe] at D1 hlen ho la
 clear hAe ha
 have eA : ((A : Int) == 0) = false := by simp; omega
 have ene : ((1 : Int) + A != (l.length : Int)) = false := by simp; omega
 have k1 : l.length ≤ 1 + A := by omega
 have k2 : 1 + A ≤ l.length := by omega
 clear h45 hlen
 go_enter Tryz.func155, Tryz.ntmps155
 go_wp2_with fail
 refine (unhide D1 _).mono ?_
 rintro e w1 ⟨rfl, rfl⟩
 go_wp2_with fail
 refine bodyPost_ret (v := .tuple #[.agg #[.int .i64 0, .int .i64 0], .int .i64 3]) zR155 rfl ⟨rfl, ?_⟩
 exact below1 _ _
set_option maxRecDepth 10000 in
theorem rparse_ok_negw (l : List UInt8) (w : World) (hl : l.length ≤ 1000) (h0 : 0 < l.length) (h45 : l[0].toNat = 45) (ha : (l.drop 1).all isDig = true) (la : 1 ≤ (l.drop 1).length) (h18 : (l.drop 1).length ≤ 18) :
  Calls Tryz.prog 155 #[.string ⟨l.toArray⟩] w fun e w' => e = .returned (.tuple #[.agg #[.int .i64 (fitM (-(num (l.drop 1))) 0), .int .i64 (fitS (-(num (l.drop 1))) 0)], .int .i64 (fitE (-(num (l.drop 1))) 0)]) ∧ Below w.heap.size w w' := by
 have hg0 : (⟨l.toArray⟩ : ByteArray)[0]'(by simpa [ByteArray.size] using h0) = l[0] := rfl
 have e45 : ((l[0].toNat : Int) == 45) = true := by simp; omega
 have D1 := hide (fun w => rdigs_run l 1 w hl (by omega))
 rw [irun_self ha] at D1
 have hlen := List.length_drop (i := 1) (l := l)
 obtain ⟨F, hF0⟩ : ∃ F, (l.drop 1) = F := ⟨_, rfl⟩
 have hF : (l.drop 1).filter nd = F := by rw [filter_dig ha, hF0]
 have hFd : ((l.drop 1).filter nd).all isDig = true := by rw [filter_dig ha]; exact ha
 have hFl : ((l.drop 1).filter nd).length ≤ 18 := by rw [filter_dig ha]; exact h18
 have STD : Hid (∀ k (h1 : 1 ≤ k) (h : k < l.length), l[k].toNat = 46 → numK (l.drop 1) (k + 1 - 1) = numK (l.drop 1) (k - 1)) := by
  intro k h1 h hc
  have hh : (l.drop 1)[k - 1]'(by rw [List.length_drop]; omega) = l[k] := by rw [List.getElem_drop]; congr 1; omega
  rw [show k + 1 - 1 = (k - 1) + 1 by omega]
  exact numK_dot (l.drop 1) (k - 1) (by rw [List.length_drop]; omega) (by rw [hh]; exact hc)
 have STN : Hid (∀ k (h1 : 1 ≤ k) (h : k < l.length), l[k].toNat ≠ 46 → numK (l.drop 1) (k + 1 - 1) = numK (l.drop 1) (k - 1) * 10 + ((l[k].toNat : Int) - 48) ∧ 48 ≤ (l[k].toNat : Int) ∧ (l[k].toNat : Int) ≤ 57) := by
  intro k h1 h hc
  have hh : (l.drop 1)[k - 1]'(by rw [List.length_drop]; omega) = l[k] := by rw [List.getElem_drop]; congr 1; omega
  rw [show k + 1 - 1 = (k - 1) + 1 by omega]
  have q := numK_dig (l.drop 1) (k - 1) (by rw [List.length_drop]; omega) (by rw [hh]; exact hc)
  have q2 := nd_dig (l.drop 1) hFd (k - 1) (by rw [List.length_drop]; omega) (by rw [hh]; exact hc)
  rw [hh] at q q2
  exact ⟨q, q2⟩
 have BD := hide (numK_bd (l.drop 1) hFd hFl)
 have NE : Hid (numK (l.drop 1) (l.length - 1) = num F) := by
  have := numK_all (l.drop 1)
  rw [List.length_drop, hF] at this
  exact this
 rw [show num (l.drop 1) = num F by rw [hF0]]
 generalize hRR : (l.drop 1) = R at STD STN BD NE
 generalize num F = X0 at *
 obtain ⟨A, hAe⟩ : ∃ A, (l.drop 1).length = A := ⟨_, rfl⟩
 rw [hAe] at D1 hlen h18 la
 clear hAe ha hF hFd hFl hF0 hRR
 have eA : ((A : Int) == 0) = false := by simp; omega
 have ene : ((1 : Int) + A != (l.length : Int)) = false := by simp; omega
 have k1 : l.length ≤ 1 + A := by omega
 have k2 : 1 + A ≤ l.length := by omega
 clear h45 hlen
 go_enter Tryz.func155, Tryz.ntmps155
 go_wp2_with fail
 refine (unhide D1 _).mono ?_
 rintro e w1 ⟨rfl, rfl⟩
 go_wp2_with fail
 go_loop [8, 9] (fun m i => ∃ k : Nat, 1 ≤ k ∧ k ≤ l.length ∧ i = .int .i64 k ∧ m = .int .i64 (numK R (k - 1))) (fun _ i => l.length - (intOf i).toNat)
 case atStart => exact ⟨1, by omega, by omega, rfl, rfl⟩
 case round =>
  obtain ⟨k, hk1, hk2, rfl, rfl⟩ := hrel
  have bd := unhide BD (k - 1)
  by_cases hlt : k < l.length
  ·have hgk : (⟨l.toArray⟩ : ByteArray)[k]'(by simpa [ByteArray.size] using hlt) = l[k] := rfl
   by_cases hc : l[k].toNat = 46
   ·have en : ((l[k].toNat : Int) != 46) = false := by simp; omega
    have NS := hide (unhide STD k hk1 hlt hc)
    clear hc
    generalize numK R (k - 1) = n0 at *
    go_wp2_with fail
    go_round
    case rel => exact ⟨k + 1, by omega, by omega, by go_num, by rw [unhide NS]⟩
    case measure => simp [intOf]; omega
   ·have en : ((l[k].toNat : Int) != 46) = true := by simp; omega
    obtain ⟨ns, d1, d2⟩ := unhide STN k hk1 hlt hc
    have bd2 := unhide BD (k + 1 - 1)
    rw [ns] at bd2
    have NS := hide ns
    clear hc ns
    generalize numK R (k - 1) = n0 at *
    go_wp2_with fail
    go_round
    case rel => exact ⟨k + 1, by omega, by omega, by go_num, by rw [unhide NS]⟩
    case measure => simp [intOf]; omega
  ·have hkl : k = l.length := by omega
   subst hkl
   rw [unhide NE]
   rw [unhide NE] at bd
   go_wp2_with fail
   refine (rfit_any _ _ _).mono ?_
   rintro e w4 ⟨rfl, k4⟩
   obtain ⟨c4, f4⟩ := bcell k4
   have z4 : w.heap.size < w4.heap.size := by have := k4.size; simp at this; omega
   go_wp2_with fail
   refine bodyPost_ret (v := .tuple #[.agg #[.int .i64 (fitM _ _), .int .i64 (fitS _ _)], .int .i64 (fitE _ _)]) zR155c4 rfl ⟨rfl, ?_⟩
   exact ((bstep (below1 w _) k4).setCell (by simp) _).setCell (by simp) _
theorem rparse_over_negf (l : List UInt8) (w : World) (hl : l.length ≤ 1000) (h0 : 0 < l.length) (h45 : l[0].toNat = 45) (a b : List UInt8) (hr : (l.drop 1) = a ++ 46 :: b) (ha : a.all isDig = true) (hb : b.all isDig = true) (la : 1 ≤ a.length) (lb : 1 ≤ b.length) (ho : 18 < a.length + b.length ∨ 8 < b.length) :
  Calls Tryz.prog 155 #[.string ⟨l.toArray⟩] w fun e w' => e = .returned (.tuple #[.agg #[.int .i64 0, .int .i64 0], .int .i64 3]) ∧ Below w.heap.size w w' := by
 have hg0 : (⟨l.toArray⟩ : ByteArray)[0]'(by simpa [ByteArray.size] using h0) = l[0] := rfl
 have e45 : ((l[0].toNat : Int) == 45) = true := by simp; omega
 have D1 := hide (fun w => rdigs_run l 1 w hl (by omega))
 have hlen := List.length_drop (i := 1) (l := l)
 have eA : run isDig (l.drop 1) = a.length := by rw [hr, irun_app ha]; rfl
 rw [eA] at D1
 have hrl : (l.drop 1).length = a.length + 1 + b.length := by rw [hr]; simp; omega
 have hlt' : 1 + a.length < l.length := by omega
 have h46 : l[1 + a.length].toNat = 46 := by
  have h1 : (l.drop 1)[a.length]'(by omega) = 46 := by simp only [hr]; simp
  rw [List.getElem_drop] at h1
  have h2 : l[1 + a.length] = 46 := by simpa using h1
  rw [h2]; rfl
 have eB : run isDig (l.drop (1 + a.length + 1)) = b.length := by
  have h1 : l.drop (1 + a.length + 1) = (l.drop 1).drop (a.length + 1) := by rw [List.drop_drop]; congr 1; try omega
  rw [h1, hr, ← List.drop_drop, List.drop_left' rfl]
  exact irun_self hb
 have D2 := hide (fun w => rdigs_run l (1 + a.length + 1) w hl (by omega))
 rw [eB, show ((1 + a.length + 1 : Nat) : Int) = (1 : Int) + a.length + 1 by omega] at D2
 clear hr ha hb eA eB
 generalize a.length = A at *
 generalize b.length = B at *
 have hgA : (⟨l.toArray⟩ : ByteArray)[1 + A]'(by simpa [ByteArray.size] using hlt') = l[1 + A] := rfl
 have e46 : ((l[1 + A].toNat : Int) == 46) = true := by simp; omega
 have eA : ((A : Int) == 0) = false := by simp; omega
 have eB : ((B : Int) == 0) = false := by simp; omega
 have ene : ((1 : Int) + A + 1 + B != (l.length : Int)) = false := by simp; omega
 have k1 : l.length ≤ 1 + A + 1 + B := by omega
 have k2 : 1 + A + 1 + B ≤ l.length := by omega
 clear h45 h46 hlen hrl
 by_cases h18 : 18 < (A : Int) + B
 ·clear ho
  go_enter Tryz.func155, Tryz.ntmps155
  go_wp2_with fail
  refine (unhide D1 _).mono ?_
  rintro e w1 ⟨rfl, rfl⟩
  go_wp2_with fail
  refine (unhide D2 _).mono ?_
  rintro e w1 ⟨rfl, rfl⟩
  go_wp2_with fail
  refine bodyPost_ret (v := .tuple #[.agg #[.int .i64 0, .int .i64 0], .int .i64 3]) zR155 rfl ⟨rfl, ?_⟩
  exact below1 _ _
 ·have h8 : 8 < (B : Int) := by omega
  clear ho
  go_enter Tryz.func155, Tryz.ntmps155
  go_wp2_with fail
  refine (unhide D1 _).mono ?_
  rintro e w1 ⟨rfl, rfl⟩
  go_wp2_with fail
  refine (unhide D2 _).mono ?_
  rintro e w1 ⟨rfl, rfl⟩
  go_wp2_with fail
  refine bodyPost_ret (v := .tuple #[.agg #[.int .i64 0, .int .i64 0], .int .i64 3]) zR155 rfl ⟨rfl, ?_⟩
  exact below1 _ _
set_option maxRecDepth 10000 in
theorem rparse_ok_negf (l : List UInt8) (w : World) (hl : l.length ≤ 1000) (h0 : 0 < l.length) (h45 : l[0].toNat = 45) (a b : List UInt8) (hr : (l.drop 1) = a ++ 46 :: b) (ha : a.all isDig = true) (hb : b.all isDig = true) (la : 1 ≤ a.length) (lb : 1 ≤ b.length) (h18 : a.length + b.length ≤ 18) (h8 : b.length ≤ 8) :
  Calls Tryz.prog 155 #[.string ⟨l.toArray⟩] w fun e w' => e = .returned (.tuple #[.agg #[.int .i64 (fitM (-(num (a ++ b))) b.length), .int .i64 (fitS (-(num (a ++ b))) b.length)], .int .i64 (fitE (-(num (a ++ b))) b.length)]) ∧ Below w.heap.size w w' := by
 have hg0 : (⟨l.toArray⟩ : ByteArray)[0]'(by simpa [ByteArray.size] using h0) = l[0] := rfl
 have e45 : ((l[0].toNat : Int) == 45) = true := by simp; omega
 have D1 := hide (fun w => rdigs_run l 1 w hl (by omega))
 have hlen := List.length_drop (i := 1) (l := l)
 have eA : run isDig (l.drop 1) = a.length := by rw [hr, irun_app ha]; rfl
 rw [eA] at D1
 have hrl : (l.drop 1).length = a.length + 1 + b.length := by rw [hr]; simp; omega
 have hlt' : 1 + a.length < l.length := by omega
 have h46 : l[1 + a.length].toNat = 46 := by
  have h1 : (l.drop 1)[a.length]'(by omega) = 46 := by simp only [hr]; simp
  rw [List.getElem_drop] at h1
  have h2 : l[1 + a.length] = 46 := by simpa using h1
  rw [h2]; rfl
 have eB : run isDig (l.drop (1 + a.length + 1)) = b.length := by
  have h1 : l.drop (1 + a.length + 1) = (l.drop 1).drop (a.length + 1) := by rw [List.drop_drop]; congr 1; try omega
  rw [h1, hr, ← List.drop_drop, List.drop_left' rfl]
  exact irun_self hb
 have D2 := hide (fun w => rdigs_run l (1 + a.length + 1) w hl (by omega))
 rw [eB, show ((1 + a.length + 1 : Nat) : Int) = (1 : Int) + a.length + 1 by omega] at D2
 have hF0 : (l.drop 1).filter nd = a ++ b := by
  rw [hr, List.filter_append, filter_dig ha, List.filter_cons, filter_dig hb]
  rfl
 obtain ⟨F, hFF⟩ : ∃ F, a ++ b = F := ⟨_, rfl⟩
 have hF : (l.drop 1).filter nd = F := by rw [hF0, hFF]
 have hFd : ((l.drop 1).filter nd).all isDig = true := by rw [hF0, List.all_append, ha, hb]; rfl
 have hFl : ((l.drop 1).filter nd).length ≤ 18 := by rw [hF0, List.length_append]; exact h18
 have STD : Hid (∀ k (h1 : 1 ≤ k) (h : k < l.length), l[k].toNat = 46 → numK (l.drop 1) (k + 1 - 1) = numK (l.drop 1) (k - 1)) := by
  intro k h1 h hc
  have hh : (l.drop 1)[k - 1]'(by rw [List.length_drop]; omega) = l[k] := by rw [List.getElem_drop]; congr 1; omega
  rw [show k + 1 - 1 = (k - 1) + 1 by omega]
  exact numK_dot (l.drop 1) (k - 1) (by rw [List.length_drop]; omega) (by rw [hh]; exact hc)
 have STN : Hid (∀ k (h1 : 1 ≤ k) (h : k < l.length), l[k].toNat ≠ 46 → numK (l.drop 1) (k + 1 - 1) = numK (l.drop 1) (k - 1) * 10 + ((l[k].toNat : Int) - 48) ∧ 48 ≤ (l[k].toNat : Int) ∧ (l[k].toNat : Int) ≤ 57) := by
  intro k h1 h hc
  have hh : (l.drop 1)[k - 1]'(by rw [List.length_drop]; omega) = l[k] := by rw [List.getElem_drop]; congr 1; omega
  rw [show k + 1 - 1 = (k - 1) + 1 by omega]
  have q := numK_dig (l.drop 1) (k - 1) (by rw [List.length_drop]; omega) (by rw [hh]; exact hc)
  have q2 := nd_dig (l.drop 1) hFd (k - 1) (by rw [List.length_drop]; omega) (by rw [hh]; exact hc)
  rw [hh] at q q2
  exact ⟨q, q2⟩
 have BD := hide (numK_bd (l.drop 1) hFd hFl)
 have NE : Hid (numK (l.drop 1) (l.length - 1) = num F) := by
  have := numK_all (l.drop 1)
  rw [List.length_drop, hF] at this
  exact this
 rw [hFF]
 generalize hRR : (l.drop 1) = R at STD STN BD NE
 generalize num F = X0 at *
 clear hr ha hb eA eB hF hFd hFl hF0 hFF hRR
 generalize a.length = A at *
 generalize b.length = B at *
 have hgA : (⟨l.toArray⟩ : ByteArray)[1 + A]'(by simpa [ByteArray.size] using hlt') = l[1 + A] := rfl
 have e46 : ((l[1 + A].toNat : Int) == 46) = true := by simp; omega
 have eA : ((A : Int) == 0) = false := by simp; omega
 have eB : ((B : Int) == 0) = false := by simp; omega
 have ene : ((1 : Int) + A + 1 + B != (l.length : Int)) = false := by simp; omega
 have k1 : l.length ≤ 1 + A + 1 + B := by omega
 have k2 : 1 + A + 1 + B ≤ l.length := by omega
 clear h45 h46 hlen hrl
 go_enter Tryz.func155, Tryz.ntmps155
 go_wp2_with fail
 refine (unhide D1 _).mono ?_
 rintro e w1 ⟨rfl, rfl⟩
 go_wp2_with fail
 refine (unhide D2 _).mono ?_
 rintro e w1 ⟨rfl, rfl⟩
 go_wp2_with fail
 go_loop [8, 9] (fun m i => ∃ k : Nat, 1 ≤ k ∧ k ≤ l.length ∧ i = .int .i64 k ∧ m = .int .i64 (numK R (k - 1))) (fun _ i => l.length - (intOf i).toNat)
 case atStart => exact ⟨1, by omega, by omega, rfl, rfl⟩
 case round =>
  obtain ⟨k, hk1, hk2, rfl, rfl⟩ := hrel
  have bd := unhide BD (k - 1)
  by_cases hlt : k < l.length
  ·have hgk : (⟨l.toArray⟩ : ByteArray)[k]'(by simpa [ByteArray.size] using hlt) = l[k] := rfl
   by_cases hc : l[k].toNat = 46
   ·have en : ((l[k].toNat : Int) != 46) = false := by simp; omega
    have NS := hide (unhide STD k hk1 hlt hc)
    clear hc
    generalize numK R (k - 1) = n0 at *
    go_wp2_with fail
    go_round
    case rel => exact ⟨k + 1, by omega, by omega, by go_num, by rw [unhide NS]⟩
    case measure => simp [intOf]; omega
   ·have en : ((l[k].toNat : Int) != 46) = true := by simp; omega
    obtain ⟨ns, d1, d2⟩ := unhide STN k hk1 hlt hc
    have bd2 := unhide BD (k + 1 - 1)
    rw [ns] at bd2
    have NS := hide ns
    clear hc ns
    generalize numK R (k - 1) = n0 at *
    go_wp2_with fail
    go_round
    case rel => exact ⟨k + 1, by omega, by omega, by go_num, by rw [unhide NS]⟩
    case measure => simp [intOf]; omega
  ·have hkl : k = l.length := by omega
   subst hkl
   rw [unhide NE]
   rw [unhide NE] at bd
   go_wp2_with fail
   refine (rfit_any _ _ _).mono ?_
   rintro e w4 ⟨rfl, k4⟩
   obtain ⟨c4, f4⟩ := bcell k4
   have z4 : w.heap.size < w4.heap.size := by have := k4.size; simp at this; omega
   go_wp2_with fail
   refine bodyPost_ret (v := .tuple #[.agg #[.int .i64 (fitM _ _), .int .i64 (fitS _ _)], .int .i64 (fitE _ _)]) zR155c4 rfl ⟨rfl, ?_⟩
   exact ((bstep (below1 w _) k4).setCell (by simp) _).setCell (by simp) _
theorem rparse_over_posw (l : List UInt8) (w : World) (hl : l.length ≤ 1000) (h0 : 0 < l.length) (h45 : l[0].toNat ≠ 45) (ha : (l.drop 0).all isDig = true) (la : 1 ≤ (l.drop 0).length) (ho : 18 < (l.drop 0).length) :
  Calls Tryz.prog 155 #[.string ⟨l.toArray⟩] w fun e w' => e = .returned (.tuple #[.agg #[.int .i64 0, .int .i64 0], .int .i64 3]) ∧ Below w.heap.size w w' := by
 have hg0 : (⟨l.toArray⟩ : ByteArray)[0]'(by simpa [ByteArray.size] using h0) = l[0] := rfl
 have e45 : ((l[0].toNat : Int) == 45) = false := by simp; omega
 have D1 := hide (fun w => rdigs_run l 0 w hl (by omega))
 rw [irun_self ha] at D1
 have hlen := List.length_drop (i := 0) (l := l)
 obtain ⟨A, hAe⟩ : ∃ A, (l.drop 0).length = A := ⟨_, rfl⟩
 rw [hAe] at D1 hlen ho la
 clear hAe ha
 have eA : ((A : Int) == 0) = false := by simp; omega
 have ene : ((A : Int) != (l.length : Int)) = false := by simp; omega
 have k1 : l.length ≤ A := by omega
 have k2 : A ≤ l.length := by omega
 clear h45 hlen
 go_enter Tryz.func155, Tryz.ntmps155
 go_wp2_with fail
 refine (unhide D1 _).mono ?_
 rintro e w1 ⟨rfl, rfl⟩
 go_wp2_with fail
 refine bodyPost_ret (v := .tuple #[.agg #[.int .i64 0, .int .i64 0], .int .i64 3]) zR155 rfl ⟨rfl, ?_⟩
 exact below1 _ _
set_option maxRecDepth 10000 in
theorem rparse_ok_posw (l : List UInt8) (w : World) (hl : l.length ≤ 1000) (h0 : 0 < l.length) (h45 : l[0].toNat ≠ 45) (ha : (l.drop 0).all isDig = true) (la : 1 ≤ (l.drop 0).length) (h18 : (l.drop 0).length ≤ 18) :
  Calls Tryz.prog 155 #[.string ⟨l.toArray⟩] w fun e w' => e = .returned (.tuple #[.agg #[.int .i64 (fitM (num (l.drop 0)) 0), .int .i64 (fitS (num (l.drop 0)) 0)], .int .i64 (fitE (num (l.drop 0)) 0)]) ∧ Below w.heap.size w w' := by
 have hg0 : (⟨l.toArray⟩ : ByteArray)[0]'(by simpa [ByteArray.size] using h0) = l[0] := rfl
 have e45 : ((l[0].toNat : Int) == 45) = false := by simp; omega
 have D1 := hide (fun w => rdigs_run l 0 w hl (by omega))
 rw [irun_self ha] at D1
 have hlen := List.length_drop (i := 0) (l := l)
 obtain ⟨F, hF0⟩ : ∃ F, (l.drop 0) = F := ⟨_, rfl⟩
 have hF : (l.drop 0).filter nd = F := by rw [filter_dig ha, hF0]
 have hFd : ((l.drop 0).filter nd).all isDig = true := by rw [filter_dig ha]; exact ha
 have hFl : ((l.drop 0).filter nd).length ≤ 18 := by rw [filter_dig ha]; exact h18
 have STD : Hid (∀ k (h1 : 0 ≤ k) (h : k < l.length), l[k].toNat = 46 → numK (l.drop 0) (k + 1 - 0) = numK (l.drop 0) (k - 0)) := by
  intro k h1 h hc
  have hh : (l.drop 0)[k - 0]'(by rw [List.length_drop]; omega) = l[k] := by rw [List.getElem_drop]; congr 1; omega
  rw [show k + 1 - 0 = (k - 0) + 1 by omega]
  exact numK_dot (l.drop 0) (k - 0) (by rw [List.length_drop]; omega) (by rw [hh]; exact hc)
 have STN : Hid (∀ k (h1 : 0 ≤ k) (h : k < l.length), l[k].toNat ≠ 46 → numK (l.drop 0) (k + 1 - 0) = numK (l.drop 0) (k - 0) * 10 + ((l[k].toNat : Int) - 48) ∧ 48 ≤ (l[k].toNat : Int) ∧ (l[k].toNat : Int) ≤ 57) := by
  intro k h1 h hc
  have hh : (l.drop 0)[k - 0]'(by rw [List.length_drop]; omega) = l[k] := by rw [List.getElem_drop]; congr 1; omega
  rw [show k + 1 - 0 = (k - 0) + 1 by omega]
  have q := numK_dig (l.drop 0) (k - 0) (by rw [List.length_drop]; omega) (by rw [hh]; exact hc)
  have q2 := nd_dig (l.drop 0) hFd (k - 0) (by rw [List.length_drop]; omega) (by rw [hh]; exact hc)
  rw [hh] at q q2
  exact ⟨q, q2⟩
 have BD := hide (numK_bd (l.drop 0) hFd hFl)
 have NE : Hid (numK (l.drop 0) (l.length - 0) = num F) := by
  have := numK_all (l.drop 0)
  rw [List.length_drop, hF] at this
  exact this
 rw [show num (l.drop 0) = num F by rw [hF0]]
 generalize hRR : (l.drop 0) = R at STD STN BD NE
 generalize num F = X0 at *
 obtain ⟨A, hAe⟩ : ∃ A, (l.drop 0).length = A := ⟨_, rfl⟩
 rw [hAe] at D1 hlen h18 la
 clear hAe ha hF hFd hFl hF0 hRR
 have eA : ((A : Int) == 0) = false := by simp; omega
 have ene : ((A : Int) != (l.length : Int)) = false := by simp; omega
 have k1 : l.length ≤ A := by omega
 have k2 : A ≤ l.length := by omega
 clear h45 hlen
 go_enter Tryz.func155, Tryz.ntmps155
 go_wp2_with fail
 refine (unhide D1 _).mono ?_
 rintro e w1 ⟨rfl, rfl⟩
 go_wp2_with fail
 go_loop [8, 9] (fun m i => ∃ k : Nat, 0 ≤ k ∧ k ≤ l.length ∧ i = .int .i64 k ∧ m = .int .i64 (numK R (k - 0))) (fun _ i => l.length - (intOf i).toNat)
 case atStart => exact ⟨0, by omega, by omega, rfl, rfl⟩
 case round =>
  obtain ⟨k, hk1, hk2, rfl, rfl⟩ := hrel
  have bd := unhide BD (k - 0)
  by_cases hlt : k < l.length
  ·have hgk : (⟨l.toArray⟩ : ByteArray)[k]'(by simpa [ByteArray.size] using hlt) = l[k] := rfl
   by_cases hc : l[k].toNat = 46
   ·have en : ((l[k].toNat : Int) != 46) = false := by simp; omega
    have NS := hide (unhide STD k hk1 hlt hc)
    clear hc
    generalize numK R (k - 0) = n0 at *
    go_wp2_with fail
    go_round
    case rel => exact ⟨k + 1, by omega, by omega, by go_num, by rw [unhide NS]⟩
    case measure => simp [intOf]; omega
   ·have en : ((l[k].toNat : Int) != 46) = true := by simp; omega
    obtain ⟨ns, d1, d2⟩ := unhide STN k hk1 hlt hc
    have bd2 := unhide BD (k + 1 - 0)
    rw [ns] at bd2
    have NS := hide ns
    clear hc ns
    generalize numK R (k - 0) = n0 at *
    go_wp2_with fail
    go_round
    case rel => exact ⟨k + 1, by omega, by omega, by go_num, by rw [unhide NS]⟩
    case measure => simp [intOf]; omega
  ·have hkl : k = l.length := by omega
   subst hkl
   rw [unhide NE]
   rw [unhide NE] at bd
   go_wp2_with fail
   refine (rfit_any _ _ _).mono ?_
   rintro e w4 ⟨rfl, k4⟩
   obtain ⟨c4, f4⟩ := bcell k4
   have z4 : w.heap.size < w4.heap.size := by have := k4.size; simp at this; omega
   go_wp2_with fail
   refine bodyPost_ret (v := .tuple #[.agg #[.int .i64 (fitM _ _), .int .i64 (fitS _ _)], .int .i64 (fitE _ _)]) zR155c4 rfl ⟨rfl, ?_⟩
   exact ((bstep (below1 w _) k4).setCell (by simp) _).setCell (by simp) _
theorem rparse_over_posf (l : List UInt8) (w : World) (hl : l.length ≤ 1000) (h0 : 0 < l.length) (h45 : l[0].toNat ≠ 45) (a b : List UInt8) (hr : (l.drop 0) = a ++ 46 :: b) (ha : a.all isDig = true) (hb : b.all isDig = true) (la : 1 ≤ a.length) (lb : 1 ≤ b.length) (ho : 18 < a.length + b.length ∨ 8 < b.length) :
  Calls Tryz.prog 155 #[.string ⟨l.toArray⟩] w fun e w' => e = .returned (.tuple #[.agg #[.int .i64 0, .int .i64 0], .int .i64 3]) ∧ Below w.heap.size w w' := by
 have hg0 : (⟨l.toArray⟩ : ByteArray)[0]'(by simpa [ByteArray.size] using h0) = l[0] := rfl
 have e45 : ((l[0].toNat : Int) == 45) = false := by simp; omega
 have D1 := hide (fun w => rdigs_run l 0 w hl (by omega))
 have hlen := List.length_drop (i := 0) (l := l)
 have eA : run isDig (l.drop 0) = a.length := by rw [hr, irun_app ha]; rfl
 rw [eA] at D1
 have hrl : (l.drop 0).length = a.length + 1 + b.length := by rw [hr]; simp; omega
 have hlt' : a.length < l.length := by omega
 have h46 : l[a.length].toNat = 46 := by
  have h1 : (l.drop 0)[a.length]'(by omega) = 46 := by simp only [hr]; simp
  rw [List.getElem_drop] at h1
  have h2 : l[a.length] = 46 := by simpa using h1
  rw [h2]; rfl
 have eB : run isDig (l.drop (a.length + 1)) = b.length := by
  have h1 : l.drop (a.length + 1) = (l.drop 0).drop (a.length + 1) := by rw [List.drop_drop]; congr 1; try omega
  rw [h1, hr, ← List.drop_drop, List.drop_left' rfl]
  exact irun_self hb
 have D2 := hide (fun w => rdigs_run l (a.length + 1) w hl (by omega))
 rw [eB, show ((a.length + 1 : Nat) : Int) = (a.length : Int) + 1 by omega] at D2
 clear hr ha hb eA eB
 generalize a.length = A at *
 generalize b.length = B at *
 have hgA : (⟨l.toArray⟩ : ByteArray)[A]'(by simpa [ByteArray.size] using hlt') = l[A] := rfl
 have e46 : ((l[A].toNat : Int) == 46) = true := by simp; omega
 have eA : ((A : Int) == 0) = false := by simp; omega
 have eB : ((B : Int) == 0) = false := by simp; omega
 have ene : ((A : Int) + 1 + B != (l.length : Int)) = false := by simp; omega
 have k1 : l.length ≤ A + 1 + B := by omega
 have k2 : A + 1 + B ≤ l.length := by omega
 clear h45 h46 hlen hrl
 by_cases h18 : 18 < (A : Int) + B
 ·clear ho
  go_enter Tryz.func155, Tryz.ntmps155
  go_wp2_with fail
  refine (unhide D1 _).mono ?_
  rintro e w1 ⟨rfl, rfl⟩
  go_wp2_with fail
  refine (unhide D2 _).mono ?_
  rintro e w1 ⟨rfl, rfl⟩
  go_wp2_with fail
  refine bodyPost_ret (v := .tuple #[.agg #[.int .i64 0, .int .i64 0], .int .i64 3]) zR155 rfl ⟨rfl, ?_⟩
  exact below1 _ _
 ·have h8 : 8 < (B : Int) := by omega
  clear ho
  go_enter Tryz.func155, Tryz.ntmps155
  go_wp2_with fail
  refine (unhide D1 _).mono ?_
  rintro e w1 ⟨rfl, rfl⟩
  go_wp2_with fail
  refine (unhide D2 _).mono ?_
  rintro e w1 ⟨rfl, rfl⟩
  go_wp2_with fail
  refine bodyPost_ret (v := .tuple #[.agg #[.int .i64 0, .int .i64 0], .int .i64 3]) zR155 rfl ⟨rfl, ?_⟩
  exact below1 _ _
set_option maxRecDepth 10000 in
theorem rparse_ok_posf (l : List UInt8) (w : World) (hl : l.length ≤ 1000) (h0 : 0 < l.length) (h45 : l[0].toNat ≠ 45) (a b : List UInt8) (hr : (l.drop 0) = a ++ 46 :: b) (ha : a.all isDig = true) (hb : b.all isDig = true) (la : 1 ≤ a.length) (lb : 1 ≤ b.length) (h18 : a.length + b.length ≤ 18) (h8 : b.length ≤ 8) :
  Calls Tryz.prog 155 #[.string ⟨l.toArray⟩] w fun e w' => e = .returned (.tuple #[.agg #[.int .i64 (fitM (num (a ++ b)) b.length), .int .i64 (fitS (num (a ++ b)) b.length)], .int .i64 (fitE (num (a ++ b)) b.length)]) ∧ Below w.heap.size w w' := by
 have hg0 : (⟨l.toArray⟩ : ByteArray)[0]'(by simpa [ByteArray.size] using h0) = l[0] := rfl
 have e45 : ((l[0].toNat : Int) == 45) = false := by simp; omega
 have D1 := hide (fun w => rdigs_run l 0 w hl (by omega))
 have hlen := List.length_drop (i := 0) (l := l)
 have eA : run isDig (l.drop 0) = a.length := by rw [hr, irun_app ha]; rfl
 rw [eA] at D1
 have hrl : (l.drop 0).length = a.length + 1 + b.length := by rw [hr]; simp; omega
 have hlt' : a.length < l.length := by omega
 have h46 : l[a.length].toNat = 46 := by
  have h1 : (l.drop 0)[a.length]'(by omega) = 46 := by simp only [hr]; simp
  rw [List.getElem_drop] at h1
  have h2 : l[a.length] = 46 := by simpa using h1
  rw [h2]; rfl
 have eB : run isDig (l.drop (a.length + 1)) = b.length := by
  have h1 : l.drop (a.length + 1) = (l.drop 0).drop (a.length + 1) := by rw [List.drop_drop]; congr 1; try omega
  rw [h1, hr, ← List.drop_drop, List.drop_left' rfl]
  exact irun_self hb
 have D2 := hide (fun w => rdigs_run l (a.length + 1) w hl (by omega))
 rw [eB, show ((a.length + 1 : Nat) : Int) = (a.length : Int) + 1 by omega] at D2
 have hF0 : (l.drop 0).filter nd = a ++ b := by
  rw [hr, List.filter_append, filter_dig ha, List.filter_cons, filter_dig hb]
  rfl
 obtain ⟨F, hFF⟩ : ∃ F, a ++ b = F := ⟨_, rfl⟩
 have hF : (l.drop 0).filter nd = F := by rw [hF0, hFF]
 have hFd : ((l.drop 0).filter nd).all isDig = true := by rw [hF0, List.all_append, ha, hb]; rfl
 have hFl : ((l.drop 0).filter nd).length ≤ 18 := by rw [hF0, List.length_append]; exact h18
 have STD : Hid (∀ k (h1 : 0 ≤ k) (h : k < l.length), l[k].toNat = 46 → numK (l.drop 0) (k + 1 - 0) = numK (l.drop 0) (k - 0)) := by
  intro k h1 h hc
  have hh : (l.drop 0)[k - 0]'(by rw [List.length_drop]; omega) = l[k] := by rw [List.getElem_drop]; congr 1; omega
  rw [show k + 1 - 0 = (k - 0) + 1 by omega]
  exact numK_dot (l.drop 0) (k - 0) (by rw [List.length_drop]; omega) (by rw [hh]; exact hc)
 have STN : Hid (∀ k (h1 : 0 ≤ k) (h : k < l.length), l[k].toNat ≠ 46 → numK (l.drop 0) (k + 1 - 0) = numK (l.drop 0) (k - 0) * 10 + ((l[k].toNat : Int) - 48) ∧ 48 ≤ (l[k].toNat : Int) ∧ (l[k].toNat : Int) ≤ 57) := by
  intro k h1 h hc
  have hh : (l.drop 0)[k - 0]'(by rw [List.length_drop]; omega) = l[k] := by rw [List.getElem_drop]; congr 1; omega
  rw [show k + 1 - 0 = (k - 0) + 1 by omega]
  have q := numK_dig (l.drop 0) (k - 0) (by rw [List.length_drop]; omega) (by rw [hh]; exact hc)
  have q2 := nd_dig (l.drop 0) hFd (k - 0) (by rw [List.length_drop]; omega) (by rw [hh]; exact hc)
  rw [hh] at q q2
  exact ⟨q, q2⟩
 have BD := hide (numK_bd (l.drop 0) hFd hFl)
 have NE : Hid (numK (l.drop 0) (l.length - 0) = num F) := by
  have := numK_all (l.drop 0)
  rw [List.length_drop, hF] at this
  exact this
 rw [hFF]
 generalize hRR : (l.drop 0) = R at STD STN BD NE
 generalize num F = X0 at *
 clear hr ha hb eA eB hF hFd hFl hF0 hFF hRR
 generalize a.length = A at *
 generalize b.length = B at *
 have hgA : (⟨l.toArray⟩ : ByteArray)[A]'(by simpa [ByteArray.size] using hlt') = l[A] := rfl
 have e46 : ((l[A].toNat : Int) == 46) = true := by simp; omega
 have eA : ((A : Int) == 0) = false := by simp; omega
 have eB : ((B : Int) == 0) = false := by simp; omega
 have ene : ((A : Int) + 1 + B != (l.length : Int)) = false := by simp; omega
 have k1 : l.length ≤ A + 1 + B := by omega
 have k2 : A + 1 + B ≤ l.length := by omega
 clear h45 h46 hlen hrl
 go_enter Tryz.func155, Tryz.ntmps155
 go_wp2_with fail
 refine (unhide D1 _).mono ?_
 rintro e w1 ⟨rfl, rfl⟩
 go_wp2_with fail
 refine (unhide D2 _).mono ?_
 rintro e w1 ⟨rfl, rfl⟩
 go_wp2_with fail
 go_loop [8, 9] (fun m i => ∃ k : Nat, 0 ≤ k ∧ k ≤ l.length ∧ i = .int .i64 k ∧ m = .int .i64 (numK R (k - 0))) (fun _ i => l.length - (intOf i).toNat)
 case atStart => exact ⟨0, by omega, by omega, rfl, rfl⟩
 case round =>
  obtain ⟨k, hk1, hk2, rfl, rfl⟩ := hrel
  have bd := unhide BD (k - 0)
  by_cases hlt : k < l.length
  ·have hgk : (⟨l.toArray⟩ : ByteArray)[k]'(by simpa [ByteArray.size] using hlt) = l[k] := rfl
   by_cases hc : l[k].toNat = 46
   ·have en : ((l[k].toNat : Int) != 46) = false := by simp; omega
    have NS := hide (unhide STD k hk1 hlt hc)
    clear hc
    generalize numK R (k - 0) = n0 at *
    go_wp2_with fail
    go_round
    case rel => exact ⟨k + 1, by omega, by omega, by go_num, by rw [unhide NS]⟩
    case measure => simp [intOf]; omega
   ·have en : ((l[k].toNat : Int) != 46) = true := by simp; omega
    obtain ⟨ns, d1, d2⟩ := unhide STN k hk1 hlt hc
    have bd2 := unhide BD (k + 1 - 0)
    rw [ns] at bd2
    have NS := hide ns
    clear hc ns
    generalize numK R (k - 0) = n0 at *
    go_wp2_with fail
    go_round
    case rel => exact ⟨k + 1, by omega, by omega, by go_num, by rw [unhide NS]⟩
    case measure => simp [intOf]; omega
  ·have hkl : k = l.length := by omega
   subst hkl
   rw [unhide NE]
   rw [unhide NE] at bd
   go_wp2_with fail
   refine (rfit_any _ _ _).mono ?_
   rintro e w4 ⟨rfl, k4⟩
   obtain ⟨c4, f4⟩ := bcell k4
   have z4 : w.heap.size < w4.heap.size := by have := k4.size; simp at this; omega
   go_wp2_with fail
   refine bodyPost_ret (v := .tuple #[.agg #[.int .i64 (fitM _ _), .int .i64 (fitS _ _)], .int .i64 (fitE _ _)]) zR155c4 rfl ⟨rfl, ?_⟩
   exact ((bstep (below1 w _) k4).setCell (by simp) _).setCell (by simp) _
end
section
def PA (f : Nat) (l : List UInt8) (M S E : Int) : Prop := ∀ w : World, Calls Tryz.prog f #[.string ⟨l.toArray⟩] w fun e w' => e = .returned (.tuple #[.agg #[.int .i64 M, .int .i64 S], .int .i64 E]) ∧ Below w.heap.size w w'
end
end Go.Proofs.YtfdimdjmnfdecaaGreat
