/- The first two boxes that meet: the program's Overlap, the document's. Printed by mkbxover.py. -/
import Derived.Test.YtpoejhdkgfikdaaBxFell
import Derived.Test.YtpoejhdkgfikdaaRegA
namespace Go.Proofs.Ytpoejhdkgfikdaa
open Go.RowKit
set_option linter.unusedVariables false
set_option linter.unusedSimpArgs false

def OVe (l : List Bx) (e : Ending) : Prop := ∃ i k o, e = .returned (.tuple #[.int .i64 i, .int .i64 k, .bool o]) ∧ OV l i k o

set_option maxHeartbeats 4000000 in
theorem gover_any (Q : Nat → Prop) (a : Option Addr) (cap n : Nat) (l : List Bx) (w : World) (h : BxsI Q w a l) (hf : fel l n) :
    Calls Try.prog 13 #[.slice a l.length cap] w fun e w' => OVe l e ∧ Below w.heap.size w w' := by
  have h8 := hf.1
  have MT := hide (fun (i j : Nat) (hi : i < l.length) (hj : j < l.length) v1 v2 v3 v4 w' (h1 : BoxI Q w' v1 v2 (bx l i)) (h2 : BoxI Q w' v3 v4 (bx l j)) => gmeet_any Q (bx l i) (bx l j) v1 v2 v3 v4 w' h1 h2 (hf.2 i hi).1.2.2.1 ((hf.2 j hj).2.trans (hf.2 i hi).2.symm) ((hf.2 j hj).1.2.2.1.trans ((hf.2 j hj).2.trans (hf.2 i hi).2.symm)))
  have YES : Hid (∀ i j : Nat, i < j → j < l.length → meets (bx l i) (bx l j) → (∀ c d : Nat, c < d → d < l.length → c < i → ¬ meets (bx l c) (bx l d)) → (∀ d : Nat, i < d → d < j → ¬ meets (bx l i) (bx l d)) → OVe l (.returned (.tuple #[.int .i64 i, .int .i64 j, .bool true]))) := hide (fun i j h1 h2 h3 h4 h5 => ⟨i, j, true, rfl, .inl ⟨rfl, i, j, rfl, rfl, h1, h2, h3, fun c d hcd hd hor => by
    rcases hor with hc | ⟨rfl, hd2⟩
    · exact h4 c d hcd hd hc
    · exact h5 d hcd hd2⟩⟩)
  have NO : Hid ((∀ c d : Nat, c < d → d < l.length → ¬ meets (bx l c) (bx l d)) → OVe l (.returned (.tuple #[.int .i64 0, .int .i64 0, .bool false]))) := hide (fun hh => ⟨0, 0, false, rfl, .inr ⟨rfl, rfl, rfl, hh⟩⟩)
  have HB := hide h
  by_cases hz : l.length = 0
  · have F := hide (unhide NO (fun c d h1 h2 => by omega))
    clear NO YES MT HB
    rw [hz]
    go_enter Try.func13, Try.ntmps13
    go_wp2_with fail
    go_ret3
    exact ⟨unhide F, Below.refl _ _⟩
  have hz' : ((l.length : Int) == 0) = false := by simp only [beq_eq_false_iff_ne, ne_eq]; omega
  obtain ⟨bl0, o0, r0, r1, rfl, hq0, hb0, k0, k1, k2⟩ := h 0 (by omega)
  obtain ⟨a0, c0, rfl⟩ := k2.1.form
  obtain ⟨a1, c1, rfl⟩ := k2.2.form
  rw [(hf.2 0 (by omega)).2] at k0
  simp only [Nat.zero_mul, Nat.add_zero] at k0 k1
  have FE := hide (fel_any Q (some ⟨bl0, o0, none⟩) cap n l w h (by unfold maxLen; omega))
  have HF := hide hf
  clear k2 h hf k1
  go_enter Try.func13, Try.ntmps13
  go_wp2_with fail
  refine (unhide FE).mono ?_
  rintro e W ⟨⟨r, rfl, hr⟩, b0⟩
  obtain rfl : r = true := hr.2 (unhide HF)
  clear hr FE HF
  go_wp2_with fail
  go_loopw [22] (fun i wr => ∃ j : Nat, j ≤ l.length ∧ i = .int .i64 j ∧ Below W.heap.size W wr ∧ Hid (∀ c d : Nat, c < d → d < l.length → c < j → ¬ meets (bx l c) (bx l d))) (fun i _ => l.length - (intOf i).toNat)
  case atStart => exact ⟨0, Nat.zero_le _, rfl, Below.refl _ _, hide (fun c d _ _ hc => absurd hc (Nat.not_lt_zero _))⟩
  case round =>
    obtain ⟨j, hj, rfl, bel, H⟩ := hrel
    obtain ⟨wo, hwo⟩ : ∃ wo, wo = wr := ⟨_, rfl⟩
    subst hwo
    by_cases hlt : j < l.length
    · go_wp2_with fail
      go_loopw [6] (fun i wr => ∃ k : Nat, j < k ∧ k ≤ l.length ∧ i = .int .i64 k ∧ Below wo.heap.size wo wr ∧ Hid (∀ d : Nat, j < d → d < k → ¬ meets (bx l j) (bx l d))) (fun i _ => l.length - (intOf i).toNat)
      case atStart => exact ⟨j + 1, by omega, by omega, by go_num, Below.refl _ _, hide (fun d h1 h2 => by omega)⟩
      case round =>
        obtain ⟨k, hjk, hk, rfl, bev, G⟩ := hrel
        have belw := bstep (bstep b0 bel) bev
        by_cases hkt : k < l.length
        · obtain ⟨blA, oA, p1, p2, eA, hqA, hbA, kA, kB, kC⟩ := (unhide HB).below belw j hlt
          obtain ⟨blB, oB, p3, p4, eB, hqB, hbB, kD, kE, kF⟩ := (unhide HB).below belw k hkt
          cases eA; cases eB
          obtain ⟨a3, c3, rfl⟩ := kC.1.form
          obtain ⟨a4, c4, rfl⟩ := kC.2.form
          obtain ⟨a5, c5, rfl⟩ := kF.1.form
          obtain ⟨a6, c6, rfl⟩ := kF.2.form
          have YES := hide (fun hm => unhide YES j k hjk hkt hm (unhide H) (unhide G))
          have GO : Hid (¬ meets (bx l j) (bx l k) → ∀ d : Nat, j < d → d < k + 1 → ¬ meets (bx l j) (bx l d)) := hide (fun hn d h1 h2 => if e : d = k then e ▸ hn else unhide G d h1 (by omega))
          have MJ := hide (fun w' (q : Below wr.heap.size wr w') => unhide MT j k hlt hkt _ _ _ _ w' (kC.below q) (kF.below q))
          clear G MT HB NO kC kF
          generalize meets (bx l j) (bx l k) = M at *
          generalize (bx l j).1.length = n3 at *
          generalize (bx l j).2.length = n4 at *
          generalize (bx l k).1.length = n5 at *
          generalize (bx l k).2.length = n6 at *
          go_wp2_with fail
          obtain ⟨S, HS⟩ : ∃ S : World → Prop, S = fun w' => Below wr.heap.size wr w' ∧ w'.cell? ⟨bl0, o0 + j * 2, none⟩ = some (.slice a3 n3 c3) ∧ w'.cell? ⟨bl0, o0 + j * 2 + 1, none⟩ = some (.slice a4 n4 c4) ∧ w'.cell? ⟨bl0, o0 + k * 2, none⟩ = some (.slice a5 n5 c5) ∧ w'.cell? ⟨bl0, o0 + k * 2 + 1, none⟩ = some (.slice a6 n6 c6) := ⟨_, rfl⟩
          have HSS := hide HS
          have S0V : Hid (S wr) := hide (by rw [HS]; exact ⟨Below.refl _ _, kA, kB, kD, kE⟩)
          have SB : Hid (∀ x, S x → Below wr.heap.size wr x) := hide (by rw [HS]; exact fun x h => h.1)
          have SKC : Hid (∀ x w' : World, S x → Below x.heap.size x w' → S w') := hide (by
            rw [HS]; rintro x w' ⟨h0, h1, h2, h3, h4⟩ kk
            exact ⟨bstep h0 kk, kcx kk h1, kcx kk h2, kcx kk h3, kcx kk h4⟩)
          clear HS kA kB kD kE
          by_cases gm : M
          · have F := hide (unhide YES gm)
            clear YES GO H
            refine wp_region_noPanic ?_
            refine wp_region_held_drew (S := S) (by kernel_rfl) (unhide SKC _ _ (unhide S0V) (Below.refl _ _).drew) (fun hHeld => ?_)
            generalize wr.drew = u0 at *
            refine takeC 0 (some 33) ?_
            refine takeC 1 (some 34) ?_
            refine takeC 2 (some 35) ?_
            refine takeC 3 (some 36) ?_
            refine takeC 4 (some 37) ?_
            refine takeC 5 (some 38) ?_
            refine takeC 6 (some 39) ?_
            refine takeC 7 (some 40) ?_
            refine wpAnyH_ready (rs := [8]) (by kernel_rfl) (by simp) ?_
            refine AllReadyH.cons rfl (fun K0 hK0 => ?_) AllReadyH.nil
            have BB := unhide SB _ hHeld
            go_simp
            refine (unhide MJ _ BB).mono ?_
            rintro e u1 ⟨⟨r, rfl, hr⟩, j1⟩
            obtain rfl : r = true := hr.2 gm
            clear hr MJ
            go_wp2_with fail
            refine hK0.out _ _ (unhide SKC _ _ hHeld j1) (fun hHeld1 => ?_)
            clear hK0 K0 hHeld BB j1
            have hHeld := hHeld1
            clear hHeld1
            try simp only [Act.put, List.setIfInBounds_toArray, List.set_cons_zero, List.set_cons_succ]
            refine wpAnyH_done (by kernel_rfl) ?_ _
            refine NoPanic.normal ?_
            have BQ := unhide SB _ hHeld
            clear hHeld
            go_wp2_with fail
            go_ret3
            exact ⟨unhide F, bstep belw BQ⟩
          · have F := hide (unhide GO gm)
            clear YES GO H
            refine wp_region_noPanic ?_
            refine wp_region_held_drew (S := S) (by kernel_rfl) (unhide SKC _ _ (unhide S0V) (Below.refl _ _).drew) (fun hHeld => ?_)
            generalize wr.drew = u0 at *
            refine takeC 0 (some 33) ?_
            refine takeC 1 (some 34) ?_
            refine takeC 2 (some 35) ?_
            refine takeC 3 (some 36) ?_
            refine takeC 4 (some 37) ?_
            refine takeC 5 (some 38) ?_
            refine takeC 6 (some 39) ?_
            refine takeC 7 (some 40) ?_
            refine wpAnyH_ready (rs := [8]) (by kernel_rfl) (by simp) ?_
            refine AllReadyH.cons rfl (fun K0 hK0 => ?_) AllReadyH.nil
            have BB := unhide SB _ hHeld
            go_simp
            refine (unhide MJ _ BB).mono ?_
            rintro e u1 ⟨⟨r, rfl, hr⟩, j1⟩
            obtain rfl : r = false := by cases r; rfl; exact absurd (hr.1 rfl) gm
            clear hr MJ
            go_wp2_with fail
            refine hK0.out _ _ (unhide SKC _ _ hHeld j1) (fun hHeld1 => ?_)
            clear hK0 K0 hHeld BB j1
            have hHeld := hHeld1
            clear hHeld1
            try simp only [Act.put, List.setIfInBounds_toArray, List.set_cons_zero, List.set_cons_succ]
            refine wpAnyH_done (by kernel_rfl) ?_ _
            refine NoPanic.normal ?_
            have BQ := unhide SB _ hHeld
            clear hHeld
            go_wp2_with fail
            go_roundw
            case rel => exact ⟨k + 1, by omega, by omega, by go_num, bstep bev BQ, F⟩
            case measure => simp [intOf]; omega
        · have F : Hid (∀ c d : Nat, c < d → d < l.length → c < j + 1 → ¬ meets (bx l c) (bx l d)) := hide (fun c d h1 h2 h3 => if e : c = j then e ▸ unhide G d (by omega) (by omega) else unhide H c d h1 h2 (by omega))
          clear YES MT HB NO G H
          go_wp2_with fail
          go_roundw
          case rel => exact ⟨j + 1, by omega, by go_num, bstep bel bev, F⟩
          case measure => simp [intOf]; omega
    · have F := hide (unhide NO (fun c d h1 h2 => unhide H c d h1 h2 (by omega)))
      clear YES MT HB NO H
      go_wp2_with fail
      go_ret3
      exact ⟨unhide F, bstep b0 bel⟩

set_option maxHeartbeats 4000000 in
theorem rover_any (Q : Nat → Prop) (a : Option Addr) (cap n : Nat) (l : List Bx) (w : World) (h : BxsI Q w a l) (hf : fel l n) :
    Calls Try.prog 14 #[.slice a l.length cap] w fun e w' => OVe l e ∧ Below w.heap.size w w' := by
  have h8 := hf.1
  have MT := hide (fun (i j : Nat) (hi : i < l.length) (hj : j < l.length) v1 v2 v3 v4 w' (h1 : BoxI Q w' v1 v2 (bx l i)) (h2 : BoxI Q w' v3 v4 (bx l j)) => rmeet_any Q (bx l i) (bx l j) v1 v2 v3 v4 w' h1 h2 (hf.2 i hi).1.2.2.1 ((hf.2 j hj).2.trans (hf.2 i hi).2.symm) ((hf.2 j hj).1.2.2.1.trans ((hf.2 j hj).2.trans (hf.2 i hi).2.symm)))
  have YES : Hid (∀ i j : Nat, i < j → j < l.length → meets (bx l i) (bx l j) → (∀ c d : Nat, c < d → d < l.length → c < i → ¬ meets (bx l c) (bx l d)) → (∀ d : Nat, i < d → d < j → ¬ meets (bx l i) (bx l d)) → OVe l (.returned (.tuple #[.int .i64 i, .int .i64 j, .bool true]))) := hide (fun i j h1 h2 h3 h4 h5 => ⟨i, j, true, rfl, .inl ⟨rfl, i, j, rfl, rfl, h1, h2, h3, fun c d hcd hd hor => by
    rcases hor with hc | ⟨rfl, hd2⟩
    · exact h4 c d hcd hd hc
    · exact h5 d hcd hd2⟩⟩)
  have NO : Hid ((∀ c d : Nat, c < d → d < l.length → ¬ meets (bx l c) (bx l d)) → OVe l (.returned (.tuple #[.int .i64 0, .int .i64 0, .bool false]))) := hide (fun hh => ⟨0, 0, false, rfl, .inr ⟨rfl, rfl, rfl, hh⟩⟩)
  have HB := hide h
  clear h hf
  have b0 := Below.refl w.heap.size w
  go_enter Try.func14, Try.ntmps14
  go_wp2_with fail
  go_loopw [5] (fun i wr => ∃ j : Nat, j ≤ l.length ∧ i = .int .i64 j ∧ Below w.heap.size w wr ∧ Hid (∀ c d : Nat, c < d → d < l.length → c < j → ¬ meets (bx l c) (bx l d))) (fun i _ => l.length - (intOf i).toNat)
  case atStart => exact ⟨0, Nat.zero_le _, rfl, Below.refl _ _, hide (fun c d _ _ hc => absurd hc (Nat.not_lt_zero _))⟩
  case round =>
    obtain ⟨j, hj, rfl, bel, H⟩ := hrel
    obtain ⟨wo, hwo⟩ : ∃ wo, wo = wr := ⟨_, rfl⟩
    subst hwo
    by_cases hlt : j < l.length
    · go_wp2_with fail
      go_loopw [6] (fun i wr => ∃ k : Nat, j < k ∧ k ≤ l.length ∧ i = .int .i64 k ∧ Below wo.heap.size wo wr ∧ Hid (∀ d : Nat, j < d → d < k → ¬ meets (bx l j) (bx l d))) (fun i _ => l.length - (intOf i).toNat)
      case atStart => exact ⟨j + 1, by omega, by omega, by go_num, Below.refl _ _, hide (fun d h1 h2 => by omega)⟩
      case round =>
        obtain ⟨k, hjk, hk, rfl, bev, G⟩ := hrel
        have belw := bstep (bstep b0 bel) bev
        by_cases hkt : k < l.length
        · obtain ⟨blA, oA, p1, p2, eA, hqA, hbA, kA, kB, kC⟩ := (unhide HB).below belw j hlt
          obtain ⟨blB, oB, p3, p4, eB, hqB, hbB, kD, kE, kF⟩ := (unhide HB).below belw k hkt
          subst eA; cases eB
          obtain ⟨a3, c3, rfl⟩ := kC.1.form
          obtain ⟨a4, c4, rfl⟩ := kC.2.form
          obtain ⟨a5, c5, rfl⟩ := kF.1.form
          obtain ⟨a6, c6, rfl⟩ := kF.2.form
          have YES := hide (fun hm => unhide YES j k hjk hkt hm (unhide H) (unhide G))
          have GO : Hid (¬ meets (bx l j) (bx l k) → ∀ d : Nat, j < d → d < k + 1 → ¬ meets (bx l j) (bx l d)) := hide (fun hn d h1 h2 => if e : d = k then e ▸ hn else unhide G d h1 (by omega))
          have MJ := hide (fun w' (q : Below wr.heap.size wr w') => unhide MT j k hlt hkt _ _ _ _ w' (kC.below q) (kF.below q))
          clear G MT HB NO kC kF
          generalize meets (bx l j) (bx l k) = M at *
          generalize (bx l j).1.length = n3 at *
          generalize (bx l j).2.length = n4 at *
          generalize (bx l k).1.length = n5 at *
          generalize (bx l k).2.length = n6 at *
          go_wp2_with fail
          obtain ⟨S, HS⟩ : ∃ S : World → Prop, S = fun w' => Below wr.heap.size wr w' ∧ w'.cell? ⟨blA, oA + j * 2, none⟩ = some (.slice a3 n3 c3) ∧ w'.cell? ⟨blA, oA + j * 2 + 1, none⟩ = some (.slice a4 n4 c4) ∧ w'.cell? ⟨blA, oA + k * 2, none⟩ = some (.slice a5 n5 c5) ∧ w'.cell? ⟨blA, oA + k * 2 + 1, none⟩ = some (.slice a6 n6 c6) := ⟨_, rfl⟩
          have HSS := hide HS
          have S0V : Hid (S wr) := hide (by rw [HS]; exact ⟨Below.refl _ _, kA, kB, kD, kE⟩)
          have SB : Hid (∀ x, S x → Below wr.heap.size wr x) := hide (by rw [HS]; exact fun x h => h.1)
          have SKC : Hid (∀ x w' : World, S x → Below x.heap.size x w' → S w') := hide (by
            rw [HS]; rintro x w' ⟨h0, h1, h2, h3, h4⟩ kk
            exact ⟨bstep h0 kk, kcx kk h1, kcx kk h2, kcx kk h3, kcx kk h4⟩)
          clear HS kA kB kD kE
          by_cases gm : M
          · have F := hide (unhide YES gm)
            clear YES GO H
            refine wp_region_noPanic ?_
            refine wp_region_held_drew (S := S) (by kernel_rfl) (unhide SKC _ _ (unhide S0V) (Below.refl _ _).drew) (fun hHeld => ?_)
            generalize wr.drew = u0 at *
            refine takeC 0 (some 21) ?_
            refine takeC 1 (some 22) ?_
            refine takeC 2 (some 23) ?_
            refine takeC 3 (some 24) ?_
            refine takeC 4 (some 25) ?_
            refine takeC 5 (some 26) ?_
            refine takeC 6 (some 27) ?_
            refine takeC 7 (some 28) ?_
            refine wpAnyH_ready (rs := [8]) (by kernel_rfl) (by simp) ?_
            refine AllReadyH.cons rfl (fun K0 hK0 => ?_) AllReadyH.nil
            have BB := unhide SB _ hHeld
            go_simp
            refine (unhide MJ _ BB).mono ?_
            rintro e u1 ⟨⟨r, rfl, hr⟩, j1⟩
            obtain rfl : r = true := hr.2 gm
            clear hr MJ
            go_wp2_with fail
            refine hK0.out _ _ (unhide SKC _ _ hHeld j1) (fun hHeld1 => ?_)
            clear hK0 K0 hHeld BB j1
            have hHeld := hHeld1
            clear hHeld1
            try simp only [Act.put, List.setIfInBounds_toArray, List.set_cons_zero, List.set_cons_succ]
            refine wpAnyH_done (by kernel_rfl) ?_ _
            refine NoPanic.normal ?_
            have BQ := unhide SB _ hHeld
            clear hHeld
            go_wp2_with fail
            go_ret3
            exact ⟨unhide F, bstep belw BQ⟩
          · have F := hide (unhide GO gm)
            clear YES GO H
            refine wp_region_noPanic ?_
            refine wp_region_held_drew (S := S) (by kernel_rfl) (unhide SKC _ _ (unhide S0V) (Below.refl _ _).drew) (fun hHeld => ?_)
            generalize wr.drew = u0 at *
            refine takeC 0 (some 21) ?_
            refine takeC 1 (some 22) ?_
            refine takeC 2 (some 23) ?_
            refine takeC 3 (some 24) ?_
            refine takeC 4 (some 25) ?_
            refine takeC 5 (some 26) ?_
            refine takeC 6 (some 27) ?_
            refine takeC 7 (some 28) ?_
            refine wpAnyH_ready (rs := [8]) (by kernel_rfl) (by simp) ?_
            refine AllReadyH.cons rfl (fun K0 hK0 => ?_) AllReadyH.nil
            have BB := unhide SB _ hHeld
            go_simp
            refine (unhide MJ _ BB).mono ?_
            rintro e u1 ⟨⟨r, rfl, hr⟩, j1⟩
            obtain rfl : r = false := by cases r; rfl; exact absurd (hr.1 rfl) gm
            clear hr MJ
            go_wp2_with fail
            refine hK0.out _ _ (unhide SKC _ _ hHeld j1) (fun hHeld1 => ?_)
            clear hK0 K0 hHeld BB j1
            have hHeld := hHeld1
            clear hHeld1
            try simp only [Act.put, List.setIfInBounds_toArray, List.set_cons_zero, List.set_cons_succ]
            refine wpAnyH_done (by kernel_rfl) ?_ _
            refine NoPanic.normal ?_
            have BQ := unhide SB _ hHeld
            clear hHeld
            go_wp2_with fail
            go_roundw
            case rel => exact ⟨k + 1, by omega, by omega, by go_num, bstep bev BQ, F⟩
            case measure => simp [intOf]; omega
        · have F : Hid (∀ c d : Nat, c < d → d < l.length → c < j + 1 → ¬ meets (bx l c) (bx l d)) := hide (fun c d h1 h2 h3 => if e : c = j then e ▸ unhide G d (by omega) (by omega) else unhide H c d h1 h2 (by omega))
          clear YES MT HB NO G H
          go_wp2_with fail
          go_roundw
          case rel => exact ⟨j + 1, by omega, by go_num, bstep bel bev, F⟩
          case measure => simp [intOf]; omega
    · have F := hide (unhide NO (fun c d h1 h2 => unhide H c d h1 h2 (by omega)))
      clear YES MT HB NO H
      go_wp2_with fail
      go_ret3
      exact ⟨unhide F, bstep b0 bel⟩
end Go.Proofs.Ytpoejhdkgfikdaa

