/- The contract of the document's own Text. -/
import Derived.Test.YtlcckhlkmnnjdabDoorRDigits
import Derived.Test.YtlcckhlkmnnjdabDoorRPow
import Derived.Deep.RegionHeld3
import Derived.Deep.DrawnRows
namespace Go.Proofs.YtlcckhlkmnnjdabDoor
open Go.RowKit
attribute [local go_sem ↓] Go.wp_at_zero Go.wp_at_succ

theorem app4 (a b d : List UInt8) : ((⟨a.toArray⟩ ++ ⟨b.toArray⟩ : ByteArray) ++ ⟨#[46]⟩) ++ ⟨d.toArray⟩ = ⟨(a ++ (b ++ ([46] ++ d))).toArray⟩ := by
  apply ByteArray.ext
  simp

set_option maxHeartbeats 600000 in
theorem rtxt_any (m s : Int) (w : World) (m1 : -1000000000 ≤ m) (m2 : m ≤ 1000000000) (s1 : 0 ≤ s) (s2 : s ≤ 4) :
    Calls Tryd.prog 9 #[.agg #[.int .i64 m, .int .i64 s]] w fun e w' => e = .returned (.string ⟨(sgnL m ++ bodyL (absI m) s).toArray⟩) ∧ Below w.heap.size w w' := by
  have pb := p10_pos s.toNat
  have pb2 := p10_bd (n := s.toNat) (by omega)
  have PW := hide (fun w => rpower_any s w s1 (by omega))
  generalize hp : p10 s.toNat = p at *
  have HP := hide hp
  clear hp
  by_cases hn : m < 0
  · skip
    obtain ⟨u, rfl⟩ : ∃ u, m = -u := ⟨-m, by omega⟩
    have hu : 0 < u := by omega
    have q2 := Int.ediv_nonneg (a := u) (b := p) (by omega) (by omega)
    have q3 : u / p ≤ 1000000000 := Int.le_trans (Int.ediv_le_self _ (by omega)) (by omega)
    have r1 := Int.emod_nonneg u (b := p) (by omega)
    have r2 := Int.emod_lt_of_pos u (b := p) (by omega)
    have D1 := fun w => rdig_any (u / p).toNat 1 w (by omega) (by omega)
    have D2 := fun w => rdig_any (u % p).toNat s.toNat w (by omega) (by omega)
    rw [Int.toNat_of_nonneg q2, show ((1 : Nat) : Int) = 1 from rfl] at D1
    rw [Int.toNat_of_nonneg r1, Int.toNat_of_nonneg s1] at D2
    have l1 := pad_len (u / p).toNat 1 (by omega) (by omega)
    have l2 := pad_len (u % p).toNat s.toNat (by omega) (by omega)
    have B1 := pad_body (u / p).toNat 1 (by omega)
    rw [show 1 - (Lib.decDigits (u / p).toNat).length = 0 by have := (dlen (u / p) (by omega)).1; omega] at B1
    have EB : Hid (sgnL (-u) ++ bodyL (absI (-u)) s = if s = 0 then [45] ++ padL (u / p).toNat 1 else [45] ++ (padL (u / p).toNat 1 ++ ([46] ++ padL (u % p).toNat s.toNat))) := by
      unfold sgnL absI bodyL
      rw [if_pos hn, if_pos hn, Int.neg_neg]
      by_cases hs : s = 0
      · rw [if_pos hs, if_pos hs]
        have : p = 1 := by rw [← unhide HP, hs]; rfl
        rw [B1, this, Int.ediv_one]; rfl
      · rw [if_neg hs, if_neg hs, unhide HP, B1, pad_body (u % p).toNat s.toNat (by omega), show (s - ((Lib.decDigits (u % p).toNat).length : Int)).toNat = s.toNat - (Lib.decDigits (u % p).toNat).length by omega]
        rfl
    have DH1 := hide D1
    have DH2 := hide D2
    clear D1 D2 B1
    generalize padL (u / p).toNat 1 = a1 at *
    generalize padL (u % p).toNat s.toNat = a2 at *
    have BA := hide (ba_app [45] a1)
    have BB := hide (app4 [45] a1 a2)
    by_cases hs : s = 0
    · have hs0 : ¬ 0 < s := by omega
      rw [unhide EB, if_pos hs]
      clear EB hs
      go_enter Tryd.func9, Tryd.ntmps9
      go_wp2_with fail
      refine (unhide PW _).mono ?_
      rintro e w1 ⟨rfl, rfl⟩
      go_wp2_with fail
      refine (unhide DH1 _).mono ?_
      rintro e w2 ⟨rfl, k2⟩
      obtain ⟨c2, f2⟩ := bcell k2
      go_wp2_with fail
      go_ret
      exact ⟨ret_str (by have h := unhide BA; exact h), bstep (below1 _ _) k2⟩
    · have hs0 : 0 < s := by omega
      rw [unhide EB, if_neg hs]
      clear EB hs
      go_enter Tryd.func9, Tryd.ntmps9
      go_wp2_with fail
      refine (unhide PW _).mono ?_
      rintro e w1 ⟨rfl, rfl⟩
      go_wp2_with fail
      refine (unhide DH1 _).mono ?_
      rintro e V ⟨rfl, k2⟩
      have b2 := bstep (below1 w _) k2
      have x1 : V.cell? ⟨w.heap.size, 1, none⟩ = some (.int .i64 s) := kcell k2 (by simp) (by go_simp)
      have z1 : w.heap.size < V.heap.size := by have := k2.size; simp at this; omega
      clear k2
      have SK : Hid (∀ w', Below V.heap.size V w' → (Below V.heap.size V w' ∧ w'.cell? ⟨w.heap.size, 1, none⟩ = some (.int .i64 s))) := fun w' kk => ⟨kk, kcell kk z1 x1⟩
      go_wp2_with fail
      have y1 : ¬ (9223372036854775807 < 1 + a1.length + 1) := by omega
      have y2 : ¬ (9223372036854775807 < 1 + a1.length + 1 + a2.length) := by omega
      have y3 : ¬ (9223372036854775807 < a1.length + 1) := by omega
      have y4 : ¬ (9223372036854775807 < a1.length + 1 + a2.length) := by omega
      have y5 : 1 + a1.length + 1 ≤ 9223372036854775807 := by omega
      have y6 : 1 + a1.length + 1 + a2.length ≤ 9223372036854775807 := by omega
      have y7 : a1.length + 1 ≤ 9223372036854775807 := by omega
      have y8 : a1.length + 1 + a2.length ≤ 9223372036854775807 := by omega
      have hp0 : (p == 0) = false := by simp; omega
      have hp1 : ¬ p = 0 := by omega
      have hmod : u.tmod p = u % p := Int.tmod_eq_emod_of_nonneg (by omega)
      have hwr : IntKind.i64.wrap (u % p) = u % p := i64_in (by omega) (by omega)
      go_region_held3 (fun w' => Below V.heap.size V w' ∧ w'.cell? ⟨w.heap.size, 1, none⟩ = some (.int .i64 s))
        (first | exact unhide SK _ (Below.refl _ _).drew | assumption | exact unhide SK _ (keep_call (by assumption) k4))
        ((go_at_call 24; refine (unhide DH2 _).mono ?_; rintro e w4 ⟨rfl, k4⟩))
      all_goals
        go_wp2_with fail
        go_ret
        exact ⟨ret_str (by have h := unhide BB; exact h), bstep b2 (And.left (by assumption))⟩
  · skip
    obtain ⟨u, hmu⟩ : ∃ u, u = m := ⟨m, rfl⟩
    subst hmu
    have hu : 0 ≤ u := by omega
    have q2 := Int.ediv_nonneg (a := u) (b := p) (by omega) (by omega)
    have q3 : u / p ≤ 1000000000 := Int.le_trans (Int.ediv_le_self _ (by omega)) (by omega)
    have r1 := Int.emod_nonneg u (b := p) (by omega)
    have r2 := Int.emod_lt_of_pos u (b := p) (by omega)
    have D1 := fun w => rdig_any (u / p).toNat 1 w (by omega) (by omega)
    have D2 := fun w => rdig_any (u % p).toNat s.toNat w (by omega) (by omega)
    rw [Int.toNat_of_nonneg q2, show ((1 : Nat) : Int) = 1 from rfl] at D1
    rw [Int.toNat_of_nonneg r1, Int.toNat_of_nonneg s1] at D2
    have l1 := pad_len (u / p).toNat 1 (by omega) (by omega)
    have l2 := pad_len (u % p).toNat s.toNat (by omega) (by omega)
    have B1 := pad_body (u / p).toNat 1 (by omega)
    rw [show 1 - (Lib.decDigits (u / p).toNat).length = 0 by have := (dlen (u / p) (by omega)).1; omega] at B1
    have EB : Hid (sgnL u ++ bodyL (absI u) s = if s = 0 then [] ++ padL (u / p).toNat 1 else [] ++ (padL (u / p).toNat 1 ++ ([46] ++ padL (u % p).toNat s.toNat))) := by
      unfold sgnL absI bodyL
      rw [if_neg hn, if_neg hn]
      by_cases hs : s = 0
      · rw [if_pos hs, if_pos hs]
        have : p = 1 := by rw [← unhide HP, hs]; rfl
        rw [B1, this, Int.ediv_one]; rfl
      · rw [if_neg hs, if_neg hs, unhide HP, B1, pad_body (u % p).toNat s.toNat (by omega), show (s - ((Lib.decDigits (u % p).toNat).length : Int)).toNat = s.toNat - (Lib.decDigits (u % p).toNat).length by omega]
        rfl
    have DH1 := hide D1
    have DH2 := hide D2
    clear D1 D2 B1
    generalize padL (u / p).toNat 1 = a1 at *
    generalize padL (u % p).toNat s.toNat = a2 at *
    have BA := hide (ba_app [] a1)
    have BB := hide (app4 [] a1 a2)
    by_cases hs : s = 0
    · have hs0 : ¬ 0 < s := by omega
      rw [unhide EB, if_pos hs]
      clear EB hs
      go_enter Tryd.func9, Tryd.ntmps9
      go_wp2_with fail
      refine (unhide PW _).mono ?_
      rintro e w1 ⟨rfl, rfl⟩
      go_wp2_with fail
      refine (unhide DH1 _).mono ?_
      rintro e w2 ⟨rfl, k2⟩
      obtain ⟨c2, f2⟩ := bcell k2
      go_wp2_with fail
      go_ret
      exact ⟨ret_str (by have h := unhide BA; exact h), bstep (below1 _ _) k2⟩
    · have hs0 : 0 < s := by omega
      rw [unhide EB, if_neg hs]
      clear EB hs
      go_enter Tryd.func9, Tryd.ntmps9
      go_wp2_with fail
      refine (unhide PW _).mono ?_
      rintro e w1 ⟨rfl, rfl⟩
      go_wp2_with fail
      refine (unhide DH1 _).mono ?_
      rintro e V ⟨rfl, k2⟩
      have b2 := bstep (below1 w _) k2
      have x1 : V.cell? ⟨w.heap.size, 1, none⟩ = some (.int .i64 s) := kcell k2 (by simp) (by go_simp)
      have z1 : w.heap.size < V.heap.size := by have := k2.size; simp at this; omega
      clear k2
      have SK : Hid (∀ w', Below V.heap.size V w' → (Below V.heap.size V w' ∧ w'.cell? ⟨w.heap.size, 1, none⟩ = some (.int .i64 s))) := fun w' kk => ⟨kk, kcell kk z1 x1⟩
      go_wp2_with fail
      have y1 : ¬ (9223372036854775807 < 1 + a1.length + 1) := by omega
      have y2 : ¬ (9223372036854775807 < 1 + a1.length + 1 + a2.length) := by omega
      have y3 : ¬ (9223372036854775807 < a1.length + 1) := by omega
      have y4 : ¬ (9223372036854775807 < a1.length + 1 + a2.length) := by omega
      have y5 : 1 + a1.length + 1 ≤ 9223372036854775807 := by omega
      have y6 : 1 + a1.length + 1 + a2.length ≤ 9223372036854775807 := by omega
      have y7 : a1.length + 1 ≤ 9223372036854775807 := by omega
      have y8 : a1.length + 1 + a2.length ≤ 9223372036854775807 := by omega
      have hp0 : (p == 0) = false := by simp; omega
      have hp1 : ¬ p = 0 := by omega
      have hmod : u.tmod p = u % p := Int.tmod_eq_emod_of_nonneg (by omega)
      have hwr : IntKind.i64.wrap (u % p) = u % p := i64_in (by omega) (by omega)
      go_region_held3 (fun w' => Below V.heap.size V w' ∧ w'.cell? ⟨w.heap.size, 1, none⟩ = some (.int .i64 s))
        (first | exact unhide SK _ (Below.refl _ _).drew | assumption | exact unhide SK _ (keep_call (by assumption) k4))
        ((go_at_call 24; refine (unhide DH2 _).mono ?_; rintro e w4 ⟨rfl, k4⟩))
      all_goals
        go_wp2_with fail
        go_ret
        exact ⟨ret_str (by have h := unhide BB; exact h), bstep b2 (And.left (by assumption))⟩
end Go.Proofs.YtlcckhlkmnnjdabDoor
