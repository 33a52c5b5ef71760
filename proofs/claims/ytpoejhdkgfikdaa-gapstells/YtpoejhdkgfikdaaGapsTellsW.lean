/- The walk of GapsTells: of any boxes the first point that none covers, the first two that meet; of any point whether it is in one. Printed by mktells9.py. -/
import Derived.Test.YtpoejhdkgfikdaaBxLeast
import Derived.Test.YtpoejhdkgfikdaaBxOver
import Derived.Test.YtpoejhdkgfikdaaBxMay
import Derived.Test.YtpoejhdkgfikdaaBxKnown
namespace Go.Proofs.Ytpoejhdkgfikdaa
open Go.RowKit
set_option linter.unusedVariables false
set_option linter.unusedSimpArgs false

def holV (g n : Nat) : Option (List Int) → Value
  | none => .slice none 0 0
  | some _ => .slice (some ⟨g, 0, none⟩) n n
set_option maxHeartbeats 2000000 in
theorem rhole_any (a : Option Addr) (cap : Nat) (l : List Bx) (W : Bx) (v1 v2 : Value) (w : World) (h : BxsI (fun _ => True) w a l) (hW : BoxI (fun _ => True) w v1 v2 W) (hok : okB W) (hf : fel l W.1.length) :
    Calls Try.prog 12 #[.slice a l.length cap, .agg #[v1, v2]] w fun e w' => LR W.1.length W l [] e w' ∧ Below w.heap.size w w' := by
  have LE := hide (fun w' (k : Below w.heap.size w w') => rleast_any a cap W.1.length l W v1 v2 hok rfl hf W.1.length [] (.slice none 0 0) w' (by simp) (h.below k) (hW.below k) (row_nil w') (fun _ => rfl) (fun i hi => absurd hi (Nat.not_lt_zero _)))
  obtain ⟨a1, c1, rfl⟩ := hW.1.form
  obtain ⟨a2, c2, rfl⟩ := hW.2.form
  clear h hW
  have b0 := below1 w (Obj.cells #[.slice a1 W.1.length c1, .slice a2 W.2.length c2] 25)
  go_enter Try.func12, Try.ntmps12
  go_wp2_with fail
  refine (unhide LE _ b0).mono ?_
  rintro e w2 ⟨⟨r, v, hr, rfl, hrow⟩, b2⟩
  have F : Hid (LR W.1.length W l [] (.returned (.tuple #[v, .bool r.isSome])) w2) := hide ⟨r, v, hr, rfl, hrow⟩
  clear LE hr hrow
  generalize Option.isSome r = rb at *
  go_wp2_with fail
  go_ret2
  exact ⟨unhide F, bstep b0 b2⟩

set_option maxHeartbeats 4000000 in
set_option maxRecDepth 10000 in
theorem gapsTells_walk (a0 : Option Addr) (cap0 : Nat) (l : List Bx) (W : Bx) (v1 v2 : Value) (ap : Option Addr) (cp : Nat) (p : List Int) (w : World) (h : BxsI (fun _ => True) w a0 l) (hl : l.length ≤ maxLen) (hW : BoxI (fun _ => True) w v1 v2 W)
    (hp : RowI (fun _ => True) w (.slice ap p.length cp) p) (wfp : ∀ x ∈ p, (Lit.int .i64 x).wf = true) :
    Calls Try.prog 3 #[.slice a0 l.length cap0, .agg #[v1, v2], .slice ap p.length cp] w fun e w' => e = .returned (.bool true) ∧ Below w.heap.size w w' := by
  have MA := hide (fun w' (k : Below w.heap.size w w') => may_any _ a0 cap0 l W v1 v2 w' (h.below k) (hW.below k) hl)
  have HO := hide (fun w' (k : Below w.heap.size w w') (hm : mayB l W) => ghole_any _ a0 cap0 l W v1 v2 w' (h.below k) (hW.below k) hm.1 hm.2)
  have RO := hide (fun w' (k : Below w.heap.size w w') (hm : mayB l W) => rhole_any a0 cap0 l W v1 v2 w' (h.below k) (hW.below k) hm.1 hm.2)
  have GO := hide (fun w' (k : Below w.heap.size w w') (hm : mayB l W) => gover_any _ a0 cap0 W.1.length l w' (h.below k) hm.2)
  have OO := hide (fun w' (k : Below w.heap.size w w') (hm : mayB l W) => rover_any _ a0 cap0 W.1.length l w' (h.below k) hm.2)
  have KN := hide (fun w' => known_any w')
  have GI := hide (fun w' (k : Below w.heap.size w w') => gis_any _ W v1 v2 w' (hW.below k))
  have RI := hide (fun w' (k : Below w.heap.size w w') => ris_any _ W v1 v2 w' (hW.below k))
  have GN := hide (fun w' (k : Below w.heap.size w w') => gin_any _ W p v1 v2 _ w' (hW.below k) (hp.below k))
  have RN := hide (fun w' (k : Below w.heap.size w w') (ho : okB W) => rin_any _ W p v1 v2 _ w' (hW.below k) (hp.below k) ho.2.2.1)
  unfold maxLen at hl
  have mp := hp.at.2.1
  unfold maxLen at mp
  obtain ⟨a1, c1, rfl⟩ := hW.1.form
  obtain ⟨a2, c2, rfl⟩ := hW.2.form
  have m1 := hW.1.at.2.1
  unfold maxLen at m1
  clear h hW hp
  have SPL : Hid (mayB l W → okB W) := hide (fun h => h.1)
  have HN3 : Hid (mayB l W → W.1.length ≤ 3) := hide (fun h => h.1.2.1)
  generalize hM : mayB l W = M at *
  generalize hO : okB W = O at *
  clear hM hO
  generalize hI : inB W p = IP at *
  clear hI
  generalize hn : W.1.length = n1 at *
  have HN := hide hn
  clear hn
  generalize W.2.length = n2 at *
  have b0 := below1 w (Obj.cells #[.slice a1 n1 c1, .slice a2 n2 c2] 25)
  have x0 : (w.alloc (Obj.cells #[.slice a1 n1 c1, .slice a2 n2 c2] 25)).cell? ⟨w.heap.size, 0, none⟩ = some (.slice a1 n1 c1) := by go_simp
  have x1 : (w.alloc (Obj.cells #[.slice a1 n1 c1, .slice a2 n2 c2] 25)).cell? ⟨w.heap.size, 1, none⟩ = some (.slice a2 n2 c2) := by go_simp
  go_enter Try.func3, Try.ntmps3
  go_wp2_with fail
  generalize w.alloc (Obj.cells #[.slice a1 n1 c1, .slice a2 n2 c2] 25) = W0 at *
  refine (unhide MA _ b0).mono ?_
  rintro e W1 ⟨⟨rm, rfl, hrm⟩, b1⟩
  have b2 := bstep b0 b1
  have x0 := kcx b1 x0
  have x1 := kcx b1 x1
  clear b0 b1 MA
  cases rm
  · clear hrm
    clear HO RO GO OO GN RN HN SPL
    by_cases g10 : 10 < n1
    · have d10 : decide ((10 : Int) < (n1 : Int)) = true := by simp; omega
      go_wp2_with fail
      obtain ⟨S, HS⟩ : ∃ S : World → Prop, S = fun w' => Below W1.heap.size W1 w' ∧ w'.cell? ⟨w.heap.size, 0, none⟩ = some (.slice a1 n1 c1) ∧ w'.cell? ⟨w.heap.size, 1, none⟩ = some (.slice a2 n2 c2) := ⟨_, rfl⟩
      have HSS := hide HS
      have S0V : Hid (S W1) := hide (by rw [HS]; exact ⟨Below.refl _ _, x0, x1⟩)
      have SB : Hid (∀ x, S x → Below W1.heap.size W1 x) := hide (by rw [HS]; exact fun x h => h.1)
      have SKC : Hid (∀ x w' : World, S x → Below x.heap.size x w' → S w') := hide (by
        rw [HS]; rintro x w' ⟨h0, h1, h2⟩ kk
        exact ⟨bstep h0 kk, kcx kk h1, kcx kk h2⟩)
      clear HS x0 x1
      refine wp_region_noPanic ?_
      refine wp_region_held_drew (S := S) (by kernel_rfl) (unhide SKC _ _ (unhide S0V) (Below.refl _ _).drew) (fun hHeld => ?_)
      generalize W1.drew = u0 at *
      refine takeC 0 (some 26) ?_
      refine takeC 1 (some 27) ?_
      refine takeC 2 (some 28) ?_
      refine takeC 3 (some 29) ?_
      refine takeC 4 (some 30) ?_
      refine skipAt 5 (some 31) ⟨_, rfl, rfl, rfl⟩ (by kernel_rfl) (by kernel_rfl) (by kernel_rfl) (fun _ _ _ h => h) (by assumption) ?_
      simp only [Act.put, List.setIfInBounds_toArray, List.set_cons_zero, List.set_cons_succ]
      refine skipAt 6 (some 32) ⟨_, rfl, rfl, rfl⟩ (by kernel_rfl) (by kernel_rfl) (by kernel_rfl) (fun _ _ _ h => h) (by assumption) ?_
      simp only [Act.put, List.setIfInBounds_toArray, List.set_cons_zero, List.set_cons_succ]
      refine skipAt 7 (some 33) ⟨_, rfl, rfl, rfl⟩ (by kernel_rfl) (by kernel_rfl) (by kernel_rfl) (fun _ _ _ h => h) (by assumption) ?_
      simp only [Act.put, List.setIfInBounds_toArray, List.set_cons_zero, List.set_cons_succ]
      refine skipAt 8 (some 34) ⟨_, rfl, rfl, rfl⟩ (by kernel_rfl) (by kernel_rfl) (by kernel_rfl) (fun _ _ _ h => h) (by assumption) ?_
      simp only [Act.put, List.setIfInBounds_toArray, List.set_cons_zero, List.set_cons_succ]
      refine skipAt 9 (some 35) ⟨_, rfl, rfl, rfl⟩ (by kernel_rfl) (by kernel_rfl) (by kernel_rfl) (fun _ _ _ h => h) (by assumption) ?_
      simp only [Act.put, List.setIfInBounds_toArray, List.set_cons_zero, List.set_cons_succ]
      refine skipAt 10 (some 36) ⟨_, rfl, rfl, rfl⟩ (by kernel_rfl) (by kernel_rfl) (by kernel_rfl) (fun _ _ _ h => h) (by assumption) ?_
      simp only [Act.put, List.setIfInBounds_toArray, List.set_cons_zero, List.set_cons_succ]
      refine skipAt 11 (some 37) ⟨_, rfl, rfl, rfl⟩ (by kernel_rfl) (by kernel_rfl) (by kernel_rfl) (fun _ _ _ h => h) (by assumption) ?_
      simp only [Act.put, List.setIfInBounds_toArray, List.set_cons_zero, List.set_cons_succ]
      refine skipAt 12 (some 38) ⟨_, rfl, rfl, rfl⟩ (by kernel_rfl) (by kernel_rfl) (by kernel_rfl) (fun _ _ _ h => h) (by assumption) ?_
      simp only [Act.put, List.setIfInBounds_toArray, List.set_cons_zero, List.set_cons_succ]
      refine takeC 13 (some 39) ?_
      refine takeC 14 (some 6) ?_
      refine wpAnyH_done (by kernel_rfl) ?_ _
      refine NoPanic.normal ?_
      have BQ := unhide SB _ hHeld
      clear hHeld
      go_wp2_with fail
      go_ret
      exact ⟨rfl, bstep b2 BQ⟩
    have d10 : decide ((10 : Int) < (n1 : Int)) = false := by simp; omega
    by_cases gO : O
    · go_wp2_with fail
      obtain ⟨S, HS⟩ : ∃ S : World → Prop, S = fun w' => Below W1.heap.size W1 w' ∧ w'.cell? ⟨w.heap.size, 0, none⟩ = some (.slice a1 n1 c1) ∧ w'.cell? ⟨w.heap.size, 1, none⟩ = some (.slice a2 n2 c2) := ⟨_, rfl⟩
      have HSS := hide HS
      have S0V : Hid (S W1) := hide (by rw [HS]; exact ⟨Below.refl _ _, x0, x1⟩)
      have SB : Hid (∀ x, S x → Below W1.heap.size W1 x) := hide (by rw [HS]; exact fun x h => h.1)
      have SKC : Hid (∀ x w' : World, S x → Below x.heap.size x w' → S w') := hide (by
        rw [HS]; rintro x w' ⟨h0, h1, h2⟩ kk
        exact ⟨bstep h0 kk, kcx kk h1, kcx kk h2⟩)
      clear HS x0 x1
      refine wp_region_noPanic ?_
      refine wp_region_held_drew (S := S) (by kernel_rfl) (unhide SKC _ _ (unhide S0V) (Below.refl _ _).drew) (fun hHeld => ?_)
      generalize W1.drew = u0 at *
      refine takeC 0 (some 26) ?_
      refine takeC 1 (some 27) ?_
      refine takeC 2 (some 28) ?_
      refine takeC 3 (some 29) ?_
      refine takeC 4 (some 30) ?_
      refine takeC 5 (some 31) ?_
      refine takeC 7 (some 33) ?_
      refine wpAnyH_ready (rs := [6]) (by kernel_rfl) (by simp) ?_
      refine AllReadyH.cons rfl (fun K0 hK0 => ?_) AllReadyH.nil
      have BB := unhide SB _ hHeld
      go_simp
      refine (unhide GI _ (bstep b2 BB)).mono ?_
      rintro e u1 ⟨⟨r, rfl, hr⟩, j1⟩
      obtain rfl : r = true := hr.2 gO
      clear hr
      go_wp2_with fail
      refine hK0.out _ _ (unhide SKC _ _ hHeld j1) (fun hHeld1 => ?_)
      clear hK0 K0 hHeld BB j1
      have hHeld := hHeld1
      clear hHeld1
      try simp only [Act.put, List.setIfInBounds_toArray, List.set_cons_zero, List.set_cons_succ]
      refine wpAnyH_ready (rs := [8]) (by kernel_rfl) (by simp) ?_
      refine AllReadyH.cons rfl (fun K0 hK0 => ?_) AllReadyH.nil
      have BB := unhide SB _ hHeld
      go_simp
      refine (unhide RI _ (bstep b2 BB)).mono ?_
      rintro e u2 ⟨⟨r, rfl, hr⟩, j2⟩
      obtain rfl : r = true := hr.2 gO
      clear hr
      go_wp2_with fail
      refine hK0.out _ _ (unhide SKC _ _ hHeld j2) (fun hHeld1 => ?_)
      clear hK0 K0 hHeld BB j2
      have hHeld := hHeld1
      clear hHeld1
      try simp only [Act.put, List.setIfInBounds_toArray, List.set_cons_zero, List.set_cons_succ]
      refine takeC 9 (some 35) ?_
      refine takeC 10 (some 36) ?_
      refine wpAnyH_ready (rs := [11]) (by kernel_rfl) (by simp) ?_
      refine AllReadyH.cons rfl (fun K0 hK0 => ?_) AllReadyH.nil
      have BB := unhide SB _ hHeld
      go_simp
      refine (unhide KN _).mono ?_
      rintro e u3 ⟨rfl, j3⟩
      go_wp2_with fail
      refine hK0.out _ _ (unhide SKC _ _ hHeld j3) (fun hHeld1 => ?_)
      clear hK0 K0 hHeld BB j3
      have hHeld := hHeld1
      clear hHeld1
      try simp only [Act.put, List.setIfInBounds_toArray, List.set_cons_zero, List.set_cons_succ]
      refine takeC 12 (some 38) ?_
      refine takeC 13 (some 39) ?_
      refine takeC 14 (some 6) ?_
      refine wpAnyH_done (by kernel_rfl) ?_ _
      refine NoPanic.normal ?_
      have BQ := unhide SB _ hHeld
      clear hHeld
      go_wp2_with fail
      go_ret
      exact ⟨rfl, bstep b2 BQ⟩
    · go_wp2_with fail
      obtain ⟨S, HS⟩ : ∃ S : World → Prop, S = fun w' => Below W1.heap.size W1 w' ∧ w'.cell? ⟨w.heap.size, 0, none⟩ = some (.slice a1 n1 c1) ∧ w'.cell? ⟨w.heap.size, 1, none⟩ = some (.slice a2 n2 c2) := ⟨_, rfl⟩
      have HSS := hide HS
      have S0V : Hid (S W1) := hide (by rw [HS]; exact ⟨Below.refl _ _, x0, x1⟩)
      have SB : Hid (∀ x, S x → Below W1.heap.size W1 x) := hide (by rw [HS]; exact fun x h => h.1)
      have SKC : Hid (∀ x w' : World, S x → Below x.heap.size x w' → S w') := hide (by
        rw [HS]; rintro x w' ⟨h0, h1, h2⟩ kk
        exact ⟨bstep h0 kk, kcx kk h1, kcx kk h2⟩)
      clear HS x0 x1
      refine wp_region_noPanic ?_
      refine wp_region_held_drew (S := S) (by kernel_rfl) (unhide SKC _ _ (unhide S0V) (Below.refl _ _).drew) (fun hHeld => ?_)
      generalize W1.drew = u0 at *
      refine takeC 0 (some 26) ?_
      refine takeC 1 (some 27) ?_
      refine takeC 2 (some 28) ?_
      refine takeC 3 (some 29) ?_
      refine takeC 4 (some 30) ?_
      refine takeC 5 (some 31) ?_
      refine takeC 7 (some 33) ?_
      refine wpAnyH_ready (rs := [6]) (by kernel_rfl) (by simp) ?_
      refine AllReadyH.cons rfl (fun K0 hK0 => ?_) AllReadyH.nil
      have BB := unhide SB _ hHeld
      go_simp
      refine (unhide GI _ (bstep b2 BB)).mono ?_
      rintro e u1 ⟨⟨r, rfl, hr⟩, j1⟩
      obtain rfl : r = false := by cases r; rfl; exact absurd (hr.1 rfl) gO
      clear hr
      go_wp2_with fail
      refine hK0.out _ _ (unhide SKC _ _ hHeld j1) (fun hHeld1 => ?_)
      clear hK0 K0 hHeld BB j1
      have hHeld := hHeld1
      clear hHeld1
      try simp only [Act.put, List.setIfInBounds_toArray, List.set_cons_zero, List.set_cons_succ]
      refine wpAnyH_ready (rs := [8]) (by kernel_rfl) (by simp) ?_
      refine AllReadyH.cons rfl (fun K0 hK0 => ?_) AllReadyH.nil
      have BB := unhide SB _ hHeld
      go_simp
      refine (unhide RI _ (bstep b2 BB)).mono ?_
      rintro e u2 ⟨⟨r, rfl, hr⟩, j2⟩
      obtain rfl : r = false := by cases r; rfl; exact absurd (hr.1 rfl) gO
      clear hr
      go_wp2_with fail
      refine hK0.out _ _ (unhide SKC _ _ hHeld j2) (fun hHeld1 => ?_)
      clear hK0 K0 hHeld BB j2
      have hHeld := hHeld1
      clear hHeld1
      try simp only [Act.put, List.setIfInBounds_toArray, List.set_cons_zero, List.set_cons_succ]
      refine takeC 9 (some 35) ?_
      refine takeC 10 (some 36) ?_
      refine wpAnyH_ready (rs := [11]) (by kernel_rfl) (by simp) ?_
      refine AllReadyH.cons rfl (fun K0 hK0 => ?_) AllReadyH.nil
      have BB := unhide SB _ hHeld
      go_simp
      refine (unhide KN _).mono ?_
      rintro e u3 ⟨rfl, j3⟩
      go_wp2_with fail
      refine hK0.out _ _ (unhide SKC _ _ hHeld j3) (fun hHeld1 => ?_)
      clear hK0 K0 hHeld BB j3
      have hHeld := hHeld1
      clear hHeld1
      try simp only [Act.put, List.setIfInBounds_toArray, List.set_cons_zero, List.set_cons_succ]
      refine takeC 12 (some 38) ?_
      refine takeC 13 (some 39) ?_
      refine takeC 14 (some 6) ?_
      refine wpAnyH_done (by kernel_rfl) ?_ _
      refine NoPanic.normal ?_
      have BQ := unhide SB _ hHeld
      clear hHeld
      go_wp2_with fail
      go_ret
      exact ⟨rfl, bstep b2 BQ⟩
  have hm : M := hrm.1 rfl
  have gO : O := unhide SPL hm
  have hn3 : n1 ≤ 3 := unhide HN3 hm
  clear hrm
  have d10 : decide ((10 : Int) < (n1 : Int)) = false := by simp; omega
  by_cases gp : 10 < p.length
  · clear HN3
    clear HO RO GO OO GN RN HN SPL
    go_wp2_with fail
    obtain ⟨S, HS⟩ : ∃ S : World → Prop, S = fun w' => Below W1.heap.size W1 w' ∧ w'.cell? ⟨w.heap.size, 0, none⟩ = some (.slice a1 n1 c1) ∧ w'.cell? ⟨w.heap.size, 1, none⟩ = some (.slice a2 n2 c2) := ⟨_, rfl⟩
    have HSS := hide HS
    have S0V : Hid (S W1) := hide (by rw [HS]; exact ⟨Below.refl _ _, x0, x1⟩)
    have SB : Hid (∀ x, S x → Below W1.heap.size W1 x) := hide (by rw [HS]; exact fun x h => h.1)
    have SKC : Hid (∀ x w' : World, S x → Below x.heap.size x w' → S w') := hide (by
      rw [HS]; rintro x w' ⟨h0, h1, h2⟩ kk
      exact ⟨bstep h0 kk, kcx kk h1, kcx kk h2⟩)
    clear HS x0 x1
    refine wp_region_noPanic ?_
    refine wp_region_held_drew (S := S) (by kernel_rfl) (unhide SKC _ _ (unhide S0V) (Below.refl _ _).drew) (fun hHeld => ?_)
    generalize W1.drew = u0 at *
    refine takeC 0 (some 26) ?_
    refine takeC 1 (some 27) ?_
    refine takeC 2 (some 28) ?_
    refine takeC 3 (some 29) ?_
    refine takeC 4 (some 30) ?_
    refine takeC 5 (some 31) ?_
    refine takeC 7 (some 33) ?_
    refine wpAnyH_ready (rs := [6]) (by kernel_rfl) (by simp) ?_
    refine AllReadyH.cons rfl (fun K0 hK0 => ?_) AllReadyH.nil
    have BB := unhide SB _ hHeld
    go_simp
    refine (unhide GI _ (bstep b2 BB)).mono ?_
    rintro e u1 ⟨⟨r, rfl, hr⟩, j1⟩
    obtain rfl : r = true := hr.2 gO
    clear hr
    go_wp2_with fail
    refine hK0.out _ _ (unhide SKC _ _ hHeld j1) (fun hHeld1 => ?_)
    clear hK0 K0 hHeld BB j1
    have hHeld := hHeld1
    clear hHeld1
    try simp only [Act.put, List.setIfInBounds_toArray, List.set_cons_zero, List.set_cons_succ]
    refine wpAnyH_ready (rs := [8]) (by kernel_rfl) (by simp) ?_
    refine AllReadyH.cons rfl (fun K0 hK0 => ?_) AllReadyH.nil
    have BB := unhide SB _ hHeld
    go_simp
    refine (unhide RI _ (bstep b2 BB)).mono ?_
    rintro e u2 ⟨⟨r, rfl, hr⟩, j2⟩
    obtain rfl : r = true := hr.2 gO
    clear hr
    go_wp2_with fail
    refine hK0.out _ _ (unhide SKC _ _ hHeld j2) (fun hHeld1 => ?_)
    clear hK0 K0 hHeld BB j2
    have hHeld := hHeld1
    clear hHeld1
    try simp only [Act.put, List.setIfInBounds_toArray, List.set_cons_zero, List.set_cons_succ]
    refine takeC 9 (some 35) ?_
    refine takeC 10 (some 36) ?_
    refine wpAnyH_ready (rs := [11]) (by kernel_rfl) (by simp) ?_
    refine AllReadyH.cons rfl (fun K0 hK0 => ?_) AllReadyH.nil
    have BB := unhide SB _ hHeld
    go_simp
    refine (unhide KN _).mono ?_
    rintro e u3 ⟨rfl, j3⟩
    go_wp2_with fail
    refine hK0.out _ _ (unhide SKC _ _ hHeld j3) (fun hHeld1 => ?_)
    clear hK0 K0 hHeld BB j3
    have hHeld := hHeld1
    clear hHeld1
    try simp only [Act.put, List.setIfInBounds_toArray, List.set_cons_zero, List.set_cons_succ]
    refine takeC 12 (some 38) ?_
    refine takeC 13 (some 39) ?_
    refine takeC 14 (some 6) ?_
    refine wpAnyH_done (by kernel_rfl) ?_ _
    refine NoPanic.normal ?_
    have BQ := unhide SB _ hHeld
    clear hHeld
    go_wp2_with fail
    go_ret
    exact ⟨rfl, bstep b2 BQ⟩
  have d10p : ¬ 10 < p.length := gp
  clear SPL HN3 d10
  go_wp2_with fail
  refine (unhide HO _ b2 hm).mono ?_
  rintro e W2 ⟨⟨r, g, hr, rfl, hown⟩, b3⟩
  have B3 := bstep b2 b3
  have x0 := kcx b3 x0
  have x1 := kcx b3 x1
  have RA : Hid (RowI (fun _ => True) W2 (holV g W.1.length r) (r.getD [])) := hide (by
    cases r with
    | none => exact row_nil W2
    | some q =>
      have hq := hr.1.1
      have := (own_row (Q := fun _ => True) (hown q rfl) (by simp) (fun _ _ _ => trivial)).1
      exact this)
  rw [unhide HN] at RA hr ⊢
  have hr := hide hr
  clear hown b3 HO
  have hRet : Ret g n1 r = .returned (.tuple #[holV g n1 r, .bool r.isSome]) := by cases r <;> rfl
  rw [hRet]
  clear hRet
  generalize holV g n1 r = va at *
  go_wp2_with fail
  refine (unhide RO _ B3 hm).mono ?_
  rintro e W3 ⟨⟨r', vb, hr', rfl, hrow⟩, b4⟩
  have B4 := bstep B3 b4
  have x0 := kcx b4 x0
  have x1 := kcx b4 x1
  try rw [unhide HN] at hr'
  obtain rfl := LF_one (unhide hr) hr'
  have RA := hide ((unhide RA).below b4)
  have RB := hide hrow
  clear hr hr' hrow b4 RO
  generalize Option.isSome r = rb at *
  generalize r.getD [] = q at *
  go_wp2_with fail
  refine (unhide GO _ B4 hm).mono ?_
  rintro e W4 ⟨⟨i, k, o, rfl, hov⟩, b5⟩
  have B5 := bstep B4 b5
  have x0 := kcx b5 x0
  have x1 := kcx b5 x1
  have RA := hide ((unhide RA).below b5)
  have RB := hide ((unhide RB).below b5)
  have hov := hide hov
  clear b5 GO
  go_wp2_with fail
  refine (unhide OO _ B5 hm).mono ?_
  rintro e W5 ⟨⟨i', k', o', rfl, hov'⟩, b6⟩
  obtain ⟨rfl, rfl, rfl⟩ := OV_one (unhide hov) hov'
  have b2 := bstep B5 b6
  have x0 := kcx b6 x0
  have x1 := kcx b6 x1
  have RA := (unhide RA).below b6
  have RB := (unhide RB).below b6
  have IN := hide (fun w' (k : Below W5.heap.size W5 w') => ints_any _ _ q q _ _ w' (RA.below k) (RB.below k))
  obtain ⟨aa, ca, rfl⟩ := RA.form
  obtain ⟨ab, cb, rfl⟩ := RB.form
  clear b6 hov hov' OO RA RB B3 B4 B5
  generalize q.length = nq at *
  generalize hqq : (q = q) = QQ at *
  have hq1 : QQ := by rw [← hqq]
  clear hqq
  cases rb <;> cases o
  all_goals
    by_cases gI : IP
    · go_wp2_with fail
      obtain ⟨S, HS⟩ : ∃ S : World → Prop, S = fun w' => Below W5.heap.size W5 w' ∧ w'.cell? ⟨w.heap.size, 0, none⟩ = some (.slice a1 n1 c1) ∧ w'.cell? ⟨w.heap.size, 1, none⟩ = some (.slice a2 n2 c2) := ⟨_, rfl⟩
      have HSS := hide HS
      have S0V : Hid (S W5) := hide (by rw [HS]; exact ⟨Below.refl _ _, x0, x1⟩)
      have SB : Hid (∀ x, S x → Below W5.heap.size W5 x) := hide (by rw [HS]; exact fun x h => h.1)
      have SKC : Hid (∀ x w' : World, S x → Below x.heap.size x w' → S w') := hide (by
        rw [HS]; rintro x w' ⟨h0, h1, h2⟩ kk
        exact ⟨bstep h0 kk, kcx kk h1, kcx kk h2⟩)
      clear HS x0 x1
      refine wp_region_noPanic ?_
      refine wp_region_held_drew (S := S) (by kernel_rfl) (unhide SKC _ _ (unhide S0V) (Below.refl _ _).drew) (fun hHeld => ?_)
      generalize W5.drew = u0 at *
      refine takeC 0 (some 64) ?_
      refine takeC 1 (some 65) ?_
      refine wpAnyH_ready (rs := [2]) (by kernel_rfl) (by simp) ?_
      refine AllReadyH.cons rfl (fun K0 hK0 => ?_) AllReadyH.nil
      have BB := unhide SB _ hHeld
      go_simp
      refine (unhide IN _ BB).mono ?_
      rintro e u1 ⟨⟨r, rfl, hr⟩, j1⟩
      obtain rfl : r = true := hr.2 hq1
      clear hr
      go_wp2_with fail
      refine hK0.out _ _ (unhide SKC _ _ hHeld j1) (fun hHeld1 => ?_)
      clear hK0 K0 hHeld BB j1
      have hHeld := hHeld1
      clear hHeld1
      try simp only [Act.put, List.setIfInBounds_toArray, List.set_cons_zero, List.set_cons_succ]
      refine takeC 3 (some 67) ?_
      refine takeC 4 (some 68) ?_
      refine takeC 5 (some 69) ?_
      refine takeC 6 (some 70) ?_
      refine takeC 7 (some 71) ?_
      refine takeC 8 (some 72) ?_
      refine takeC 9 (some 73) ?_
      refine takeC 10 (some 74) ?_
      refine takeC 11 (some 75) ?_
      refine takeC 12 (some 76) ?_
      refine takeC 13 (some 77) ?_
      refine takeC 14 (some 78) ?_
      refine takeC 15 (some 79) ?_
      refine takeC 16 (some 80) ?_
      refine takeC 17 (some 81) ?_
      refine takeC 18 (some 82) ?_
      refine takeC 19 (some 83) ?_
      refine takeC 20 (some 84) ?_
      refine takeC 21 (some 85) ?_
      refine takeC 22 (some 86) ?_
      refine takeC 23 (some 87) ?_
      refine takeC 24 (some 88) ?_
      refine takeC 25 (some 89) ?_
      refine takeC 27 (some 91) ?_
      refine takeC 28 (some 92) ?_
      refine wpAnyH_ready (rs := [26]) (by kernel_rfl) (by simp) ?_
      refine AllReadyH.cons rfl (fun K0 hK0 => ?_) AllReadyH.nil
      have BB := unhide SB _ hHeld
      go_simp
      refine (unhide GN _ (bstep b2 BB)).mono ?_
      rintro e u2 ⟨⟨r, rfl, hr⟩, j2⟩
      obtain rfl : r = true := hr.2 ⟨gO, gI⟩
      clear hr
      go_wp2_with fail
      refine hK0.out _ _ (unhide SKC _ _ hHeld j2) (fun hHeld1 => ?_)
      clear hK0 K0 hHeld BB j2
      have hHeld := hHeld1
      clear hHeld1
      try simp only [Act.put, List.setIfInBounds_toArray, List.set_cons_zero, List.set_cons_succ]
      refine wpAnyH_ready (rs := [29]) (by kernel_rfl) (by simp) ?_
      refine AllReadyH.cons rfl (fun K0 hK0 => ?_) AllReadyH.nil
      have BB := unhide SB _ hHeld
      go_simp
      refine (unhide RN _ (bstep b2 BB) gO).mono ?_
      rintro e u3 ⟨⟨r, rfl, hr⟩, j3⟩
      obtain rfl : r = true := hr.2 gI
      clear hr
      go_wp2_with fail
      refine hK0.out _ _ (unhide SKC _ _ hHeld j3) (fun hHeld1 => ?_)
      clear hK0 K0 hHeld BB j3
      have hHeld := hHeld1
      clear hHeld1
      try simp only [Act.put, List.setIfInBounds_toArray, List.set_cons_zero, List.set_cons_succ]
      refine takeC 30 (some 94) ?_
      refine takeC 31 (some 95) ?_
      refine takeC 32 (some 96) ?_
      refine takeC 33 (some 97) ?_
      refine wpAnyH_ready (rs := [34]) (by kernel_rfl) (by simp) ?_
      refine AllReadyH.cons rfl (fun K0 hK0 => ?_) AllReadyH.nil
      have BB := unhide SB _ hHeld
      go_simp
      refine (unhide GI _ (bstep b2 BB)).mono ?_
      rintro e u4 ⟨⟨r, rfl, hr⟩, j4⟩
      obtain rfl : r = true := hr.2 gO
      clear hr
      go_wp2_with fail
      refine hK0.out _ _ (unhide SKC _ _ hHeld j4) (fun hHeld1 => ?_)
      clear hK0 K0 hHeld BB j4
      have hHeld := hHeld1
      clear hHeld1
      try simp only [Act.put, List.setIfInBounds_toArray, List.set_cons_zero, List.set_cons_succ]
      refine takeC 35 (some 99) ?_
      refine takeC 36 (some 100) ?_
      refine wpAnyH_ready (rs := [37]) (by kernel_rfl) (by simp) ?_
      refine AllReadyH.cons rfl (fun K0 hK0 => ?_) AllReadyH.nil
      have BB := unhide SB _ hHeld
      go_simp
      refine (unhide KN _).mono ?_
      rintro e u5 ⟨rfl, j5⟩
      go_wp2_with fail
      refine hK0.out _ _ (unhide SKC _ _ hHeld j5) (fun hHeld1 => ?_)
      clear hK0 K0 hHeld BB j5
      have hHeld := hHeld1
      clear hHeld1
      try simp only [Act.put, List.setIfInBounds_toArray, List.set_cons_zero, List.set_cons_succ]
      refine takeC 38 (some 102) ?_
      refine takeC 39 (some 6) ?_
      refine wpAnyH_done (by kernel_rfl) ?_ _
      refine NoPanic.normal ?_
      have BQ := unhide SB _ hHeld
      clear hHeld
      go_wp2_with fail
      go_ret
      exact ⟨rfl, bstep b2 BQ⟩
    · go_wp2_with fail
      obtain ⟨S, HS⟩ : ∃ S : World → Prop, S = fun w' => Below W5.heap.size W5 w' ∧ w'.cell? ⟨w.heap.size, 0, none⟩ = some (.slice a1 n1 c1) ∧ w'.cell? ⟨w.heap.size, 1, none⟩ = some (.slice a2 n2 c2) := ⟨_, rfl⟩
      have HSS := hide HS
      have S0V : Hid (S W5) := hide (by rw [HS]; exact ⟨Below.refl _ _, x0, x1⟩)
      have SB : Hid (∀ x, S x → Below W5.heap.size W5 x) := hide (by rw [HS]; exact fun x h => h.1)
      have SKC : Hid (∀ x w' : World, S x → Below x.heap.size x w' → S w') := hide (by
        rw [HS]; rintro x w' ⟨h0, h1, h2⟩ kk
        exact ⟨bstep h0 kk, kcx kk h1, kcx kk h2⟩)
      clear HS x0 x1
      refine wp_region_noPanic ?_
      refine wp_region_held_drew (S := S) (by kernel_rfl) (unhide SKC _ _ (unhide S0V) (Below.refl _ _).drew) (fun hHeld => ?_)
      generalize W5.drew = u0 at *
      refine takeC 0 (some 64) ?_
      refine takeC 1 (some 65) ?_
      refine wpAnyH_ready (rs := [2]) (by kernel_rfl) (by simp) ?_
      refine AllReadyH.cons rfl (fun K0 hK0 => ?_) AllReadyH.nil
      have BB := unhide SB _ hHeld
      go_simp
      refine (unhide IN _ BB).mono ?_
      rintro e u1 ⟨⟨r, rfl, hr⟩, j1⟩
      obtain rfl : r = true := hr.2 hq1
      clear hr
      go_wp2_with fail
      refine hK0.out _ _ (unhide SKC _ _ hHeld j1) (fun hHeld1 => ?_)
      clear hK0 K0 hHeld BB j1
      have hHeld := hHeld1
      clear hHeld1
      try simp only [Act.put, List.setIfInBounds_toArray, List.set_cons_zero, List.set_cons_succ]
      refine takeC 3 (some 67) ?_
      refine takeC 4 (some 68) ?_
      refine takeC 5 (some 69) ?_
      refine takeC 6 (some 70) ?_
      refine takeC 7 (some 71) ?_
      refine takeC 8 (some 72) ?_
      refine takeC 9 (some 73) ?_
      refine takeC 10 (some 74) ?_
      refine takeC 11 (some 75) ?_
      refine takeC 12 (some 76) ?_
      refine takeC 13 (some 77) ?_
      refine takeC 14 (some 78) ?_
      refine takeC 15 (some 79) ?_
      refine takeC 16 (some 80) ?_
      refine takeC 17 (some 81) ?_
      refine takeC 18 (some 82) ?_
      refine takeC 19 (some 83) ?_
      refine takeC 20 (some 84) ?_
      refine takeC 21 (some 85) ?_
      refine takeC 22 (some 86) ?_
      refine takeC 23 (some 87) ?_
      refine takeC 24 (some 88) ?_
      refine takeC 25 (some 89) ?_
      refine takeC 27 (some 91) ?_
      refine takeC 28 (some 92) ?_
      refine wpAnyH_ready (rs := [26]) (by kernel_rfl) (by simp) ?_
      refine AllReadyH.cons rfl (fun K0 hK0 => ?_) AllReadyH.nil
      have BB := unhide SB _ hHeld
      go_simp
      refine (unhide GN _ (bstep b2 BB)).mono ?_
      rintro e u2 ⟨⟨r, rfl, hr⟩, j2⟩
      obtain rfl : r = false := by cases r; rfl; exact absurd (hr.1 rfl).2 gI
      clear hr
      go_wp2_with fail
      refine hK0.out _ _ (unhide SKC _ _ hHeld j2) (fun hHeld1 => ?_)
      clear hK0 K0 hHeld BB j2
      have hHeld := hHeld1
      clear hHeld1
      try simp only [Act.put, List.setIfInBounds_toArray, List.set_cons_zero, List.set_cons_succ]
      refine wpAnyH_ready (rs := [29]) (by kernel_rfl) (by simp) ?_
      refine AllReadyH.cons rfl (fun K0 hK0 => ?_) AllReadyH.nil
      have BB := unhide SB _ hHeld
      go_simp
      refine (unhide RN _ (bstep b2 BB) gO).mono ?_
      rintro e u3 ⟨⟨r, rfl, hr⟩, j3⟩
      obtain rfl : r = false := by cases r; rfl; exact absurd (hr.1 rfl) gI
      clear hr
      go_wp2_with fail
      refine hK0.out _ _ (unhide SKC _ _ hHeld j3) (fun hHeld1 => ?_)
      clear hK0 K0 hHeld BB j3
      have hHeld := hHeld1
      clear hHeld1
      try simp only [Act.put, List.setIfInBounds_toArray, List.set_cons_zero, List.set_cons_succ]
      refine takeC 30 (some 94) ?_
      refine takeC 31 (some 95) ?_
      refine takeC 32 (some 96) ?_
      refine takeC 33 (some 97) ?_
      refine wpAnyH_ready (rs := [34]) (by kernel_rfl) (by simp) ?_
      refine AllReadyH.cons rfl (fun K0 hK0 => ?_) AllReadyH.nil
      have BB := unhide SB _ hHeld
      go_simp
      refine (unhide GI _ (bstep b2 BB)).mono ?_
      rintro e u4 ⟨⟨r, rfl, hr⟩, j4⟩
      obtain rfl : r = true := hr.2 gO
      clear hr
      go_wp2_with fail
      refine hK0.out _ _ (unhide SKC _ _ hHeld j4) (fun hHeld1 => ?_)
      clear hK0 K0 hHeld BB j4
      have hHeld := hHeld1
      clear hHeld1
      try simp only [Act.put, List.setIfInBounds_toArray, List.set_cons_zero, List.set_cons_succ]
      refine takeC 35 (some 99) ?_
      refine takeC 36 (some 100) ?_
      refine wpAnyH_ready (rs := [37]) (by kernel_rfl) (by simp) ?_
      refine AllReadyH.cons rfl (fun K0 hK0 => ?_) AllReadyH.nil
      have BB := unhide SB _ hHeld
      go_simp
      refine (unhide KN _).mono ?_
      rintro e u5 ⟨rfl, j5⟩
      go_wp2_with fail
      refine hK0.out _ _ (unhide SKC _ _ hHeld j5) (fun hHeld1 => ?_)
      clear hK0 K0 hHeld BB j5
      have hHeld := hHeld1
      clear hHeld1
      try simp only [Act.put, List.setIfInBounds_toArray, List.set_cons_zero, List.set_cons_succ]
      refine takeC 38 (some 102) ?_
      refine takeC 39 (some 6) ?_
      refine wpAnyH_done (by kernel_rfl) ?_ _
      refine NoPanic.normal ?_
      have BQ := unhide SB _ hHeld
      clear hHeld
      go_wp2_with fail
      go_ret
      exact ⟨rfl, bstep b2 BQ⟩
end Go.Proofs.Ytpoejhdkgfikdaa

