/- The walk of DecFloors: it returns true. -/
import Derived.Test.YtcadiljnkpnodaaKnown
import Derived.Test.YtcadiljnkpnodaaMay
import Derived.Test.YtcadiljnkpnodaaFlCe
import Derived.Test.YtcadiljnkpnodaaCmp
import Derived.Test.YtcadiljnkpnodaaMath7
import Derived.Test.YtcadiljnkpnodaaKeep
import Derived.Deep.RegionHeld3
import Derived.Deep.DrawnRows
import Derived.Deep.CutBlock
import Derived.Deep.DeepCutAuto
namespace Go.Proofs.Ytcadiljnkpnodaa
open Go.RowKit
attribute [local go_sem ↓] Go.wp_at_zero Go.wp_at_succ

set_option maxHeartbeats 2000000 in
theorem decFloors_in (m s : Int) (w : World) (hd : isB m s = true) :
    Calls Try.prog 7 #[.agg #[.int .i64 m, .int .i64 s]] w fun e w' => e = .returned (.bool true) ∧ Below w.heap.size w w' := by
  have HD := hide hd
  clear hd
  go_enter Try.func7, Try.ntmps7
  go_wp2_with fail
  refine (may1_any m s _ _ (by simp) (by go_simp) (by go_simp)).mono ?_
  rintro e V ⟨rfl, k1⟩
  rw [unhide HD]
  have a0 : Has V w.heap.size m s := ⟨by have := k1.size; simp at this; omega, kcell k1 (by simp; omega) (by go_simp), kcell k1 (by simp; omega) (by go_simp)⟩
  have y0 : Below w.heap.size w V := bstep (below2 w _ _) k1
  clear k1
  generalize hB0 : w.heap.size = B0 at *
  have HB0 := hide hB0
  clear hB0
  have SK : Hid (∀ w', Below V.heap.size V w' → Below V.heap.size V w' ∧ w'.cell? ⟨B0, 0, none⟩ = some (.int .i64 m) ∧ w'.cell? ⟨B0, 1, none⟩ = some (.int .i64 s)) := by
    intro w' h
    exact ⟨h, (a0.call h).2.1, (a0.call h).2.2⟩
  have A0 := hide a0
  have hds : ∀ x : World, x.drew.heap.size = x.heap.size := fun _ => rfl
  have y1 : B0 < V.heap.size := a0.1
  clear a0
  go_upto_region 3 with fail
  go_cut [3, 4] (fun f c wx => ∃ bf bc : Nat, f = .pointer (some ⟨bf, 0, none⟩) ∧ c = .pointer (some ⟨bc, 0, none⟩) ∧ Has wx bf (m / p10 s.toNat) 0 ∧ Has wx bc (-(-m / p10 s.toNat)) 0 ∧ Has wx B0 m s ∧ Below V.heap.size V wx)
  case first =>
    go_region_held3 (fun w' => Below V.heap.size V w' ∧ w'.cell? ⟨B0, 0, none⟩ = some (.int .i64 m) ∧ w'.cell? ⟨B0, 1, none⟩ = some (.int .i64 s))
      ((refine unhide SK _ ?_; repeat (first | assumption | exact Below.refl _ _ | refine Below.drew ?_ | refine Below.alloc ?_ (by first | omega | (simp; done) | (simp; omega) | (simp [World.setCell]; done) | (simp [World.setCell]; omega)) _ | refine Below.setCell ?_ (by first | omega | (simp; done) | (simp; omega) | (simp [World.setCell]; done) | (simp [World.setCell]; omega)) _)))
      (first | (go_at_call 24; refine (flr_any _ _ _ (unhide HD)).mono ?_; rintro e w3 ⟨rfl, k3⟩; have hvw3 : Below V.heap.size V w3 := keep_call (by assumption) k3; have zvw3 := hvw3.size; obtain ⟨cw3, fw3⟩ := bcell k3; (try (have qw30 : V.heap.size < w3.heap.size := by have hsz := k3.size; (try rw [hds] at hsz); (try simp at hsz); omega)); (try (have qw31 : V.heap.size + 1 < w3.heap.size := by have hsz := k3.size; (try rw [hds] at hsz); (try simp at hsz); omega))) | (go_at_call 26; refine (ceil_any _ _ _ (unhide HD)).mono ?_; rintro e w4 ⟨rfl, k4⟩; have hvw4 : Below V.heap.size V w4 := keep_call (by assumption) k4; have zvw4 := hvw4.size; obtain ⟨cw4, fw4⟩ := bcell k4; (try (have qw40 : V.heap.size < w4.heap.size := by have hsz := k4.size; (try rw [hds] at hsz); (try simp at hsz); omega)); (try (have qw41 : V.heap.size + 1 < w4.heap.size := by have hsz := k4.size; (try rw [hds] at hsz); (try simp at hsz); omega)); (try (have qw42 : w3.heap.size < w4.heap.size := by have hsz := k4.size; (try rw [hds] at hsz); (try simp at hsz); omega)); (try (have qw43 : w3.heap.size + 1 < w4.heap.size := by have hsz := k4.size; (try rw [hds] at hsz); (try simp at hsz); omega))))
    all_goals
      go_wp2_with fail
      go_meet
      refine ⟨_, _, rfl, rfl, ⟨?_, ?_, ?_⟩, ⟨?_, ?_, ?_⟩, (unhide A0).call ?_, ?_⟩
      all_goals first | (apply And.left; assumption) | first | omega | (simp; done) | (simp; omega) | (simp [World.setCell]; done) | (simp [World.setCell]; omega) | (go_simp; done) | (go_simp; exact World.cell?_setCell_same' _ _ _ (by go_simp)) | exact World.cell?_setCell_same' _ _ _ (by go_simp)
  case rest =>
    obtain ⟨bf, bc, rfl, rfl, hf, hc, ha, hb⟩ := hcut
    have FL := fl_facts m s (unhide HD)
    have C1 := hide (fun w => cmp_any (m / p10 s.toNat) 0 m s w FL.2.2.1 (unhide HD))
    have C2 := hide (fun w => cmp_any (-(-m / p10 s.toNat)) 0 m s w FL.2.2.2.1 (unhide HD))
    have g1 := FL.1
    have g2 := FL.2.1
    have fs := FL.2.2.2.2.1
    have fn := FL.2.2.2.2.2
    have fb := isB_bd FL.2.2.1
    clear FL SK A0 HD hds
    generalize cmpI (upM (m / p10 s.toNat) 0 (max 0 s)) (upM m s (max 0 s)) = K1 at *
    generalize cmpI (upM (-(-m / p10 s.toNat)) 0 (max 0 s)) (upM m s (max 0 s)) = K2 at *
    generalize -(-m / p10 s.toNat) = C at *
    generalize m / p10 s.toNat = F at *
    by_cases hs : s = 0
    · subst hs
      obtain ⟨e1, e2⟩ := fs rfl
      clear fs fn
      subst e1
      subst e2
      obtain ⟨f1, f2, f3⟩ := id hf
      obtain ⟨c1, c2, c3⟩ := id hc
      obtain ⟨a1, a2, a3⟩ := id ha
      go_wp2_with fail
      clear f1 f2 f3 c1 c2 c3 a1 a2 a3
      refine (unhide C1 _).mono ?_
      rintro e w1 ⟨rfl, k1⟩
      have hf1 := hf.call k1
      have hc1 := hc.call k1
      have ha1 := ha.call k1
      have hb1 := bstep hb k1
      clear hf hc ha hb k1
      obtain ⟨f1, f2, f3⟩ := id hf1
      obtain ⟨c1, c2, c3⟩ := id hc1
      obtain ⟨a1, a2, a3⟩ := id ha1
      go_wp2_with fail
      clear f1 f2 f3 c1 c2 c3 a1 a2 a3
      refine (unhide C2 _).mono ?_
      rintro e w2 ⟨rfl, k2⟩
      have hf2 := hf1.call k2
      have hc2 := hc1.call k2
      have ha2 := ha1.call k2
      have hb2 := bstep hb1 k2
      clear hf1 hc1 ha1 hb1 k2
      obtain ⟨f1, f2, f3⟩ := id hf2
      obtain ⟨c1, c2, c3⟩ := id hc2
      obtain ⟨a1, a2, a3⟩ := id ha2
      go_wp2_with fail
      refine (known_any _).mono ?_
      rintro e w3 ⟨rfl, k3⟩
      have hb3 := bstep hb2 k3
      clear k3
      go_wp2
      go_ret
      refine ⟨rfl, ?_⟩
      rw [unhide HB0]
      exact y0.trans (hb3.mono (by omega))
    · have hs0 : (s == 0) = false := by simpa using hs
      have e2 := fn hs
      have hne : (F == F + 1) = false := beq_eq_false_iff_ne.2 (by omega)
      clear fs fn
      subst e2
      have HS := hide hs
      clear hs
      obtain ⟨f1, f2, f3⟩ := id hf
      obtain ⟨c1, c2, c3⟩ := id hc
      obtain ⟨a1, a2, a3⟩ := id ha
      go_wp2_with fail
      clear f1 f2 f3 c1 c2 c3 a1 a2 a3
      refine (unhide C1 _).mono ?_
      rintro e w1 ⟨rfl, k1⟩
      have hf1 := hf.call k1
      have hc1 := hc.call k1
      have ha1 := ha.call k1
      have hb1 := bstep hb k1
      clear hf hc ha hb k1
      obtain ⟨f1, f2, f3⟩ := id hf1
      obtain ⟨c1, c2, c3⟩ := id hc1
      obtain ⟨a1, a2, a3⟩ := id ha1
      go_wp2_with fail
      clear f1 f2 f3 c1 c2 c3 a1 a2 a3
      refine (unhide C2 _).mono ?_
      rintro e w2 ⟨rfl, k2⟩
      have hf2 := hf1.call k2
      have hc2 := hc1.call k2
      have ha2 := ha1.call k2
      have hb2 := bstep hb1 k2
      clear hf1 hc1 ha1 hb1 k2
      obtain ⟨f1, f2, f3⟩ := id hf2
      obtain ⟨c1, c2, c3⟩ := id hc2
      obtain ⟨a1, a2, a3⟩ := id ha2
      go_wp2_with fail
      refine (known_any _).mono ?_
      rintro e w3 ⟨rfl, k3⟩
      have hb3 := bstep hb2 k3
      clear k3
      go_wp2
      go_ret
      refine ⟨rfl, ?_⟩
      rw [unhide HB0]
      exact y0.trans (hb3.mono (by omega))

set_option maxHeartbeats 800000 in
theorem decFloors_out (m s : Int) (w : World) (hn : isB m s = false) :
    Calls Try.prog 7 #[.agg #[.int .i64 m, .int .i64 s]] w fun e w' => e = .returned (.bool true) ∧ Below w.heap.size w w' := by
  have HN := hide hn
  clear hn
  go_enter Try.func7, Try.ntmps7
  go_wp2_with fail
  refine (may1_any m s _ _ (by simp) (by go_simp) (by go_simp)).mono ?_
  rintro e V ⟨rfl, k0⟩
  rw [unhide HN]
  go_wp2
  go_ret
  exact ⟨rfl, bstep (below2 w _ _) k0⟩

theorem decFloors_walk (m s : Int) (_ : (Lit.int .i64 m).wf = true) (_ : (Lit.int .i64 s).wf = true) (w : World) :
    Calls Try.prog 7 #[.agg #[.int .i64 m, .int .i64 s]] w fun e w' => e = .returned (.bool true) ∧ Below w.heap.size w w' := by
  cases h : isB m s
  · exact decFloors_out m s w h
  · exact decFloors_in m s w h

end Go.Proofs.Ytcadiljnkpnodaa
