/- The walk of GapsHoles: a hole is in the whole and in no box; where there is none any point is in a box. Printed by mkholes.py. -/
import Derived.Test.YtpoejhdkgfikdaaBxMay
import Derived.Test.YtpoejhdkgfikdaaBxKnown
import Derived.Test.YtpoejhdkgfikdaaBxAnd
namespace Go.Proofs.Ytpoejhdkgfikdaa
open Go.RowKit
set_option linter.unusedVariables false
set_option linter.unusedSimpArgs false

theorem rest_in {p lo hi : Int} (h0 : 0 ≤ lo) (h1 : lo ≤ hi) (h2 : hi ≤ 1000) : 0 ≤ p % 1024 % (hi - lo + 1) ∧ p % 1024 % (hi - lo + 1) ≤ hi - lo := by
  have h3 : 0 < hi - lo + 1 := by omega
  have h4 := Int.emod_nonneg (p % 1024) (show hi - lo + 1 ≠ 0 by omega)
  have h5 := Int.emod_lt_of_pos (p % 1024) h3
  omega

set_option maxHeartbeats 1500000 in
set_option maxRecDepth 10000 in
theorem gapsHoles_walk (a0 : Option Addr) (cap0 : Nat) (l : List Bx) (W : Bx) (v1 v2 : Value) (ap : Option Addr) (cp : Nat) (p : List Int) (w : World) (h : BxsI (fun _ => True) w a0 l) (hl : l.length ≤ maxLen) (hW : BoxI (fun _ => True) w v1 v2 W)
    (hp : RowI (fun _ => True) w (.slice ap p.length cp) p) (wfp : ∀ x ∈ p, (Lit.int .i64 x).wf = true) :
    Calls Try.prog 4 #[.slice a0 l.length cap0, .agg #[v1, v2], .slice ap p.length cp] w fun e w' => e = .returned (.bool true) ∧ Below w.heap.size w w' := by
  have MA := hide (fun w' (k : Below w.heap.size w w') => may_any _ a0 cap0 l W v1 v2 w' (h.below k) (hW.below k) hl)
  have HO := hide (fun w' (k : Below w.heap.size w w') (hm : mayB l W) => ghole_any _ a0 cap0 l W v1 v2 w' (h.below k) (hW.below k) hm.1 hm.2)
  have HB := hide h
  have KN := hide (fun w' => known_any w')
  have HP := hide hp
  have HWW := hide hW
  have GW := hide (fun (q : List Int) (v3 : Value) w' (k : Below w.heap.size w w') (h3 : RowI (fun _ => True) w' v3 q) => gin_any _ W q v1 v2 v3 w' (hW.below k) h3)
  unfold maxLen at hl
  obtain ⟨xl, xh⟩ := W
  obtain ⟨a1, c1, rfl⟩ := hW.1.form
  obtain ⟨a2, c2, rfl⟩ := hW.2.form
  have mp := hp.at.2.1
  unfold maxLen at mp
  clear h hW hp
  dsimp only at *
  generalize hn1 : xl.length = n1 at *
  generalize hn2 : xh.length = n2 at *
  have b0 := below1 w (Obj.cells #[.slice a1 n1 c1, .slice a2 n2 c2] 25)
  have x0 : (w.alloc (Obj.cells #[.slice a1 n1 c1, .slice a2 n2 c2] 25)).cell? ⟨w.heap.size, 0, none⟩ = some (.slice a1 n1 c1) := by go_simp
  have x1 : (w.alloc (Obj.cells #[.slice a1 n1 c1, .slice a2 n2 c2] 25)).cell? ⟨w.heap.size, 1, none⟩ = some (.slice a2 n2 c2) := by go_simp
  have hz : w.heap.size < (w.alloc (Obj.cells #[.slice a1 n1 c1, .slice a2 n2 c2] 25)).heap.size := by simp
  go_enter Try.func4, Try.ntmps4
  go_wp2_with fail
  generalize w.alloc (Obj.cells #[.slice a1 n1 c1, .slice a2 n2 c2] 25) = W0 at *
  refine (unhide MA _ b0).mono ?_
  rintro e W1 ⟨⟨r, rfl, hr⟩, b1⟩
  have b2 := bstep b0 b1
  have x0 := ((bcell b1).1 _ _ hz).trans x0
  have x1 := ((bcell b1).1 _ _ hz).trans x1
  have hz := Nat.lt_of_lt_of_le hz b1.size
  clear b0 b1 MA
  cases r
  · clear hr HO HB KN HP HWW GW
    go_wp2_with fail
    go_ret
    exact ⟨rfl, b2⟩
  have HF := hide (hr.1 rfl)
  clear hr
  by_cases gp : p.length < n1
  · clear HO HB KN HP HWW GW HF
    go_wp2_with fail
    go_ret
    exact ⟨rfl, b2⟩
  by_cases gq : 10 < p.length
  · clear HO HB KN HP HWW GW HF
    go_wp2_with fail
    go_ret
    exact ⟨rfl, b2⟩
  have hn12 : n2 = n1 := by have := (unhide HF).1.2.2.1; dsimp only at this; omega
  subst hn12
  go_wp2_with fail
  refine (unhide HO _ b2 (unhide HF)).mono ?_
  rintro e W2 ⟨⟨r, g, hr, rfl, hown⟩, b3⟩
  dsimp only at hr hown
  try rw [hn1] at hr hown
  have b4 := bstep b2 b3
  have x0 := ((bcell b3).1 _ _ hz).trans x0
  have x1 := ((bcell b3).1 _ _ hz).trans x1
  have hz := Nat.lt_of_lt_of_le hz b3.size
  have hr := hide hr
  have hok := (unhide HF).1
  have hfl := hide (unhide HF).2
  have HK := hide hok
  have n3 := hok.2.1
  dsimp only at n3
  try rw [hn1] at n3
  have RK : Hid (∀ i, i < n2 → 0 ≤ ix xl i ∧ ix xl i ≤ ix xh i ∧ ix xh i ≤ 1000) := hide (fun i hi => hok.2.2.2 i (by dsimp only; omega))
  -- the numbers of the arguments lie below
  have K1 := hide (unhide HWW).1.at.2.2
  have K2 := hide (unhide HWW).2.at.2.2
  have K3 := hide (unhide HP).at.2.2
  dsimp only at K1 K2
  try rw [hn1] at K1
  try rw [hn2] at K2
  clear hok b2 b3 HO HF HWW HP
  cases r with
  | none =>
    unfold Ret at *
    clear hown
    go_wp2_with fail
    go_loopw [9, 10] (fun v i wr => ∃ (j : Nat) (qs : List Int), j ≤ n2 ∧ i = .int .i64 j ∧ Below W2.heap.size W2 wr ∧ Hid (Own1 W2.heap.size wr v qs) ∧ qs.length = j ∧ Hid (∀ k, k < j → ix xl k ≤ ix qs k ∧ ix qs k ≤ ix xh k)) (fun _ i _ => n2 - (intOf i).toNat)
    case atStart => exact ⟨0, [], Nat.zero_le _, rfl, Below.refl _ _, hide ⟨rfl, .inl ⟨rfl, rfl⟩⟩, rfl, hide (fun k hk => absurd hk (Nat.not_lt_zero _))⟩
    case round =>
      obtain ⟨j, qs, hj, rfl, bel, own, hqs, HQ⟩ := hrel
      have belw := b4.trans (bel.mono b4.size)
      have k0 : wr.cell? ⟨w.heap.size, 0, none⟩ = some (.slice a1 n2 c1) := kcx bel x0
      have k1 : wr.cell? ⟨w.heap.size, 1, none⟩ = some (.slice a2 n2 c2) := kcx bel x1
      have hzr : w.heap.size < W2.heap.size := hz
      by_cases hlt : j < n2
      · obtain ⟨bl1, o1, rfl, t1, y1⟩ := unhide K1 j hlt
        obtain ⟨bl2, o2, rfl, t2, y2⟩ := unhide K2 j hlt
        obtain ⟨bl3, o3, rfl, t3, y3⟩ := unhide K3 j (by omega)
        have z1 := ((bcell belw).1 _ _ t1).trans y1
        have z2 := ((bcell belw).1 _ _ t2).trans y2
        have z3 := ((bcell belw).1 _ _ t3).trans y3
        obtain ⟨r0, r1, r2⟩ := unhide RK j hlt
        have w2s := b4.size
        have hjp : j < p.length := by omega
        have HQ2 : Hid (∀ y, ix xl j ≤ y → y ≤ ix xh j → ∀ k, k < j + 1 → ix xl k ≤ ix (qs ++ [y]) k ∧ ix (qs ++ [y]) k ≤ ix xh k) := hide (fun y h1 h2 k hk => by
          by_cases e : k = j
          · subst e; rw [show ix (qs ++ [y]) k = y by have := ix_last qs y; rwa [hqs] at this]; exact ⟨h1, h2⟩
          · rw [ix_app (by omega)]; exact unhide HQ k (by omega))
        clear HQ K1 K2 K3 RK y1 y2 y3 HB KN GW hfl HK hr
        generalize ix xl j = lo at *
        generalize ix xh j = hi at *
        generalize ix p j = pv at *
        have hand := band_1023 pv
        have hrm := rest_in (p := pv) r0 r1 r2
        have htm : Int.tmod (pv % 1024) (hi - lo + 1) = pv % 1024 % (hi - lo + 1) := Int.tmod_eq_emod_of_nonneg (Int.emod_nonneg _ (by omega))
        have hne : ¬ (hi - lo + 1 = 0) := by omega
        have hw1 : IntKind.i64.wrap (hi - lo) = hi - lo := i64_in (by omega) (by omega)
        have hw2 : IntKind.i64.wrap (hi - lo + 1) = hi - lo + 1 := i64_in (by omega) (by omega)
        have hw4 : IntKind.i64.wrap (pv % 1024 % (hi - lo + 1)) = pv % 1024 % (hi - lo + 1) := i64_in (by omega) (by omega)
        have hw5 : IntKind.i64.wrap (lo + pv % 1024 % (hi - lo + 1)) = lo + pv % 1024 % (hi - lo + 1) := i64_in (by omega) (by omega)
        go_wp2_with fail
        obtain ⟨S, HS⟩ : ∃ S : World → Prop, S = fun w' => Below W2.heap.size W2 w' ∧ w'.cell? ⟨w.heap.size, 0, none⟩ = some (.slice (some ⟨bl1, o1, none⟩) n2 c1) ∧ w'.cell? ⟨w.heap.size, 1, none⟩ = some (.slice (some ⟨bl2, o2, none⟩) n2 c2) ∧ w'.cell? ⟨bl1, o1 + j, none⟩ = some (.int .i64 lo) ∧ w'.cell? ⟨bl2, o2 + j, none⟩ = some (.int .i64 hi) ∧ w'.cell? ⟨bl3, o3 + j, none⟩ = some (.int .i64 pv) := ⟨_, rfl⟩
        have HSS := hide HS
        have S0V : Hid (S wr) := hide (by rw [HS]; exact ⟨bel, k0, k1, z1, z2, z3⟩)
        have SB : Hid (∀ x, S x → Below W2.heap.size W2 x) := hide (by rw [HS]; exact fun x h => h.1)
        have SKC : Hid (∀ x w' : World, S x → Below W2.heap.size x w' → S w') := hide (by
          rw [HS]; rintro x w' ⟨h0, h1, h2, h3, h4, h5⟩ kk
          exact ⟨h0.trans kk, (kk.cell (p := ⟨w.heap.size, 0, none⟩) hzr).trans h1, (kk.cell (p := ⟨w.heap.size, 1, none⟩) hzr).trans h2, (kk.cell (p := ⟨bl1, o1 + j, none⟩) (Nat.lt_of_lt_of_le t1 w2s)).trans h3, (kk.cell (p := ⟨bl2, o2 + j, none⟩) (Nat.lt_of_lt_of_le t2 w2s)).trans h4, (kk.cell (p := ⟨bl3, o3 + j, none⟩) (Nat.lt_of_lt_of_le t3 w2s)).trans h5⟩)
        clear HS k0 k1 z1 z2 z3
        refine wp_region_noPanic ?_
        refine wp_region_held_drew (S := S) (by kernel_rfl) (unhide SKC _ _ (unhide S0V) (Below.refl _ _).drew) (fun hHeld => ?_)
        have own1 : Hid (Own1 W2.heap.size wr.drew _ qs) := hide (unhide own).drew
        have hdz : W2.heap.size ≤ wr.drew.heap.size := bel.size
        clear own
        generalize wr.drew = u0 at *
        refine takeC 0 (some 44) ?_
        refine takeC 1 (some 45) ?_
        refine takeC 2 (some 46) ?_
        refine takeC 3 (some 47) ?_
        refine takeC 4 (some 48) ?_
        refine takeC 5 (some 49) ?_
        refine takeC 6 (some 50) ?_
        refine takeC 7 (some 51) ?_
        refine takeC 8 (some 52) ?_
        refine takeC 9 (some 53) ?_
        refine takeC 10 (some 54) ?_
        refine takeC 11 (some 55) ?_
        refine takeC 12 (some 56) ?_
        refine takeC 13 (some 57) ?_
        refine takeC 14 (some 58) ?_
        refine takeC 15 (some 59) ?_
        refine takeC 16 (some 60) ?_
        refine takeC 17 (some 61) ?_
        refine takeC 18 (some 62) ?_
        refine takeC 19 (some 63) ?_
        refine takeC 20 (some 64) ?_
        refine takeC 21 (some 65) ?_
        refine takeC 22 (some 66) ?_
        refine takeC 23 (some 67) ?_
        refine takeC 24 (some 68) ?_
        refine wpAnyH_ready (rs := [25]) (by kernel_rfl) (by simp) ?_
        refine AllReadyH.cons rfl (fun K0 hK0 => ?_) AllReadyH.nil
        go_simp
        have yv : ∃ y, y = lo + pv % 1024 % (hi - lo + 1) := ⟨_, rfl⟩
        obtain ⟨y, hy⟩ := yv
        try rw [← hy]
        have own2 : Hid (Own1 W2.heap.size (u0.alloc (Obj.cells #[.int .i64 y] 3)) _ qs) := hide (own_below (unhide own1) (below1 u0 _))
        have hc2 : (u0.alloc (Obj.cells #[.int .i64 y] 3)).cell? ⟨u0.heap.size, 0, none⟩ = some (.int .i64 y) := by go_simp
        have hs2 : W2.heap.size ≤ (u0.alloc (Obj.cells #[.int .i64 y] 3)).heap.size := by simp; omega
        refine hK0.out _ _ (unhide SKC _ _ hHeld ((Below.refl _ _).alloc hdz _)) (fun hHeld1 => ?_)
        clear hK0 K0 hHeld own1 hand htm hne hw1 hw2 hw4 hw5
        generalize u0.alloc (Obj.cells #[.int .i64 y] 3) = u1 at *
        try simp only [Act.put, List.setIfInBounds_toArray, List.set_cons_zero, List.set_cons_succ]
        refine wpAnyH_ready (rs := [26]) (by kernel_rfl) (by simp) ?_
        refine AllReadyH.cons rfl (fun K0 hK0 => ?_) AllReadyH.nil
        refine step_n rfl _ _ rfl W2.heap.size _ qs rfl (unhide own2) u0.heap.size y rfl hc2 (by omega) hs2 ?_
        intro v' u2 own' hv' gr
        have B3 : Below W2.heap.size u1 u2 := (Below.refl _ _).grown gr hs2 (fun k hk => own_ge (unhide own2) k hk)
        refine hK0.out _ _ (unhide SKC _ _ hHeld1 B3) (fun hHeld2 => ?_)
        clear hK0 K0
        have hHeld := hHeld2
        clear hHeld2 hHeld1 own2 hc2 gr B3
        try simp only [Act.put, List.setIfInBounds_toArray, List.set_cons_zero, List.set_cons_succ]
        refine takeC 27 (some 9) ?_
        refine wpAnyH_done (by kernel_rfl) ?_ _
        refine NoPanic.normal ?_
        have BQ := unhide SB _ hHeld
        clear hHeld SKC SB S0V HSS
        go_wp2_with fail
        go_roundw
        case rel => exact ⟨j + 1, qs ++ [y], by omega, by go_num, BQ, hide own', by simp; omega, hide (unhide HQ2 y (by omega) (by omega))⟩
        case measure => simp [intOf]; omega
      · obtain rfl : n2 = j := by omega
        have hqn : qs.length = xl.length := by omega
        have hn0 : 0 < qs.length := by have := (unhide HK).1; dsimp only at this; omega
        obtain ⟨gq2, cq, hv0, hrow⟩ := own_pos (unhide own) hn0
        rw [hqs] at hv0
        subst hv0
        have HQR := hide hrow
        obtain ⟨wq, hwq⟩ : ∃ wq, wq = wr := ⟨_, rfl⟩
        subst hwq
        have qin : Hid (allW n2 (within (xl, xh)) qs) := hide ⟨hqs, fun i hi => unhide HQ i hi⟩
        clear hrow own HQ K1 K2 K3 RK
        go_wp2_with fail
        go_loopw [11, 12] (fun c i wr => ∃ (k : Nat) (cb : Bool), k ≤ l.length ∧ i = .int .i64 k ∧ c = .bool cb ∧ Below wq.heap.size wq wr ∧ Hid (cb = true ↔ ∃ m, m < k ∧ inB (bx l m) qs)) (fun _ i _ => l.length - (intOf i).toNat)
        case atStart => exact ⟨0, false, Nat.zero_le _, rfl, rfl, Below.refl _ _, hide ⟨fun h => (by cases h), fun ⟨m, hm, _⟩ => absurd hm (Nat.not_lt_zero _)⟩⟩
        case round =>
          obtain ⟨k, cb, hk, rfl, rfl, bek, HE⟩ := hrel
          have belk := bstep belw bek
          by_cases hkt : k < l.length
          · obtain ⟨blA, oA, r1, r2, rfl, hqA, hbA, kA, kB, kC⟩ := (unhide HB).below belk k hkt
            obtain ⟨a3, c3, rfl⟩ := kC.1.form
            obtain ⟨a4, c4, rfl⟩ := kC.2.form
            have RIN := hide (fun w' (q : Below wr.heap.size wr w') => rin_any _ (bx l k) qs _ _ _ w' (kC.below q) (((unhide HQR).below bek).below q) ((unhide hfl).2 k hkt).1.2.2.1)
            have UP : Hid (∀ r : Bool, (r = true ↔ inB (bx l k) qs) → ((cb || r) = true ↔ ∃ m, m < k + 1 ∧ inB (bx l m) qs)) := hide (fun r hr => by
              rw [Bool.or_eq_true, unhide HE, hr]
              constructor
              · rintro (⟨m, h1, h2⟩ | h)
                · exact ⟨m, by omega, h2⟩
                · exact ⟨k, by omega, h⟩
              · rintro ⟨m, h1, h2⟩
                by_cases e : m = k
                · subst e; exact .inr h2
                · exact .inl ⟨m, by omega, h2⟩)
            have UT : Hid (cb = true → ∃ m, m < k + 1 ∧ inB (bx l m) qs) := hide (fun h => by obtain ⟨m, h1, h2⟩ := (unhide HE).1 h; exact ⟨m, by omega, h2⟩)
            clear HE kC HB HQR qin hfl HK hr GW KN
            generalize inB (bx l k) qs = IQ at *
            generalize (bx l k).1.length = n4 at *
            generalize (bx l k).2.length = n5 at *
            cases cb
            · go_wp2_with fail
              refine (unhide RIN _ (Below.refl _ _)).mono ?_
              rintro e w8 ⟨⟨r8, rfl, hr8⟩, b8⟩
              have NEW := hide (unhide UP r8 hr8)
              clear UP UT RIN hr8
              cases r8
              · go_wp2_with fail
                go_roundw
                case rel => exact ⟨k + 1, false, by omega, by go_num, rfl, (bstep bek b8), (by first | exact NEW | exact hide (by simpa using unhide NEW))⟩
                case measure => simp [intOf]; omega
              · go_wp2_with fail
                go_roundw
                case rel => exact ⟨k + 1, true, by omega, by go_num, rfl, (bstep bek b8), (by first | exact NEW | exact hide (by simpa using unhide NEW))⟩
                case measure => simp [intOf]; omega
            · have NEW : Hid (true = true ↔ ∃ m, m < k + 1 ∧ inB (bx l m) qs) := hide ⟨unhide UT, fun _ => rfl⟩
              clear UP UT RIN
              go_wp2_with fail
              go_roundw
              case rel => exact ⟨k + 1, true, by omega, by go_num, rfl, bek, (by first | exact NEW | exact hide (by simpa using unhide NEW))⟩
              case measure => simp [intOf]; omega
          · obtain rfl : k = l.length := by omega
            have HC : Hid (cb = true ↔ cov l qs) := hide (by
              rw [unhide HE]
              constructor
              · rintro ⟨m, h1, h2⟩; exact ⟨bx l m, bx_mem h1, h2⟩
              · rintro ⟨b, h1, h2⟩; obtain ⟨i, hi, rfl⟩ := bx_of h1; exact ⟨i, hi, h2⟩)
            obtain rfl : cb = true := (unhide HC).2 (unhide hr qs (unhide qin) (fun i hi => absurd hi (Nat.not_lt_zero _)))
            clear HE HC HB HQR qin hfl HK hr GW
            go_wp2_with fail
            refine (unhide KN _).mono ?_
            rintro e w9 ⟨rfl, b9⟩
            go_wp2_with fail
            go_ret
            exact ⟨rfl, bstep belk b9⟩
  | some q =>
    unfold Ret at *
    have OWQ := hide (hown q rfl)
    have LQ : q.length = n2 := (unhide hr).1.1
    clear hown
    go_wp2_with fail
    go_loopw [9, 10] (fun v i wr => ∃ (j : Nat) (qs : List Int), j ≤ n2 ∧ i = .int .i64 j ∧ Below W2.heap.size W2 wr ∧ Hid (Own1 W2.heap.size wr v qs) ∧ qs.length = j ∧ Hid (∀ k, k < j → ix xl k ≤ ix qs k ∧ ix qs k ≤ ix xh k)) (fun _ i _ => n2 - (intOf i).toNat)
    case atStart => exact ⟨0, [], Nat.zero_le _, rfl, Below.refl _ _, hide ⟨rfl, .inl ⟨rfl, rfl⟩⟩, rfl, hide (fun k hk => absurd hk (Nat.not_lt_zero _))⟩
    case round =>
      obtain ⟨j, qs, hj, rfl, bel, own, hqs, HQ⟩ := hrel
      have belw := b4.trans (bel.mono b4.size)
      have k0 : wr.cell? ⟨w.heap.size, 0, none⟩ = some (.slice a1 n2 c1) := kcx bel x0
      have k1 : wr.cell? ⟨w.heap.size, 1, none⟩ = some (.slice a2 n2 c2) := kcx bel x1
      have hzr : w.heap.size < W2.heap.size := hz
      by_cases hlt : j < n2
      · obtain ⟨bl1, o1, rfl, t1, y1⟩ := unhide K1 j hlt
        obtain ⟨bl2, o2, rfl, t2, y2⟩ := unhide K2 j hlt
        obtain ⟨bl3, o3, rfl, t3, y3⟩ := unhide K3 j (by omega)
        have z1 := ((bcell belw).1 _ _ t1).trans y1
        have z2 := ((bcell belw).1 _ _ t2).trans y2
        have z3 := ((bcell belw).1 _ _ t3).trans y3
        obtain ⟨r0, r1, r2⟩ := unhide RK j hlt
        have w2s := b4.size
        have hjp : j < p.length := by omega
        have HQ2 : Hid (∀ y, ix xl j ≤ y → y ≤ ix xh j → ∀ k, k < j + 1 → ix xl k ≤ ix (qs ++ [y]) k ∧ ix (qs ++ [y]) k ≤ ix xh k) := hide (fun y h1 h2 k hk => by
          by_cases e : k = j
          · subst e; rw [show ix (qs ++ [y]) k = y by have := ix_last qs y; rwa [hqs] at this]; exact ⟨h1, h2⟩
          · rw [ix_app (by omega)]; exact unhide HQ k (by omega))
        clear HQ K1 K2 K3 RK y1 y2 y3 HB KN GW hfl HK hr OWQ
        generalize ix xl j = lo at *
        generalize ix xh j = hi at *
        generalize ix p j = pv at *
        have hand := band_1023 pv
        have hrm := rest_in (p := pv) r0 r1 r2
        have htm : Int.tmod (pv % 1024) (hi - lo + 1) = pv % 1024 % (hi - lo + 1) := Int.tmod_eq_emod_of_nonneg (Int.emod_nonneg _ (by omega))
        have hne : ¬ (hi - lo + 1 = 0) := by omega
        have hw1 : IntKind.i64.wrap (hi - lo) = hi - lo := i64_in (by omega) (by omega)
        have hw2 : IntKind.i64.wrap (hi - lo + 1) = hi - lo + 1 := i64_in (by omega) (by omega)
        have hw4 : IntKind.i64.wrap (pv % 1024 % (hi - lo + 1)) = pv % 1024 % (hi - lo + 1) := i64_in (by omega) (by omega)
        have hw5 : IntKind.i64.wrap (lo + pv % 1024 % (hi - lo + 1)) = lo + pv % 1024 % (hi - lo + 1) := i64_in (by omega) (by omega)
        go_wp2_with fail
        obtain ⟨S, HS⟩ : ∃ S : World → Prop, S = fun w' => Below W2.heap.size W2 w' ∧ w'.cell? ⟨w.heap.size, 0, none⟩ = some (.slice (some ⟨bl1, o1, none⟩) n2 c1) ∧ w'.cell? ⟨w.heap.size, 1, none⟩ = some (.slice (some ⟨bl2, o2, none⟩) n2 c2) ∧ w'.cell? ⟨bl1, o1 + j, none⟩ = some (.int .i64 lo) ∧ w'.cell? ⟨bl2, o2 + j, none⟩ = some (.int .i64 hi) ∧ w'.cell? ⟨bl3, o3 + j, none⟩ = some (.int .i64 pv) := ⟨_, rfl⟩
        have HSS := hide HS
        have S0V : Hid (S wr) := hide (by rw [HS]; exact ⟨bel, k0, k1, z1, z2, z3⟩)
        have SB : Hid (∀ x, S x → Below W2.heap.size W2 x) := hide (by rw [HS]; exact fun x h => h.1)
        have SKC : Hid (∀ x w' : World, S x → Below W2.heap.size x w' → S w') := hide (by
          rw [HS]; rintro x w' ⟨h0, h1, h2, h3, h4, h5⟩ kk
          exact ⟨h0.trans kk, (kk.cell (p := ⟨w.heap.size, 0, none⟩) hzr).trans h1, (kk.cell (p := ⟨w.heap.size, 1, none⟩) hzr).trans h2, (kk.cell (p := ⟨bl1, o1 + j, none⟩) (Nat.lt_of_lt_of_le t1 w2s)).trans h3, (kk.cell (p := ⟨bl2, o2 + j, none⟩) (Nat.lt_of_lt_of_le t2 w2s)).trans h4, (kk.cell (p := ⟨bl3, o3 + j, none⟩) (Nat.lt_of_lt_of_le t3 w2s)).trans h5⟩)
        clear HS k0 k1 z1 z2 z3
        refine wp_region_noPanic ?_
        refine wp_region_held_drew (S := S) (by kernel_rfl) (unhide SKC _ _ (unhide S0V) (Below.refl _ _).drew) (fun hHeld => ?_)
        have own1 : Hid (Own1 W2.heap.size wr.drew _ qs) := hide (unhide own).drew
        have hdz : W2.heap.size ≤ wr.drew.heap.size := bel.size
        clear own
        generalize wr.drew = u0 at *
        refine takeC 0 (some 44) ?_
        refine takeC 1 (some 45) ?_
        refine takeC 2 (some 46) ?_
        refine takeC 3 (some 47) ?_
        refine takeC 4 (some 48) ?_
        refine takeC 5 (some 49) ?_
        refine takeC 6 (some 50) ?_
        refine takeC 7 (some 51) ?_
        refine takeC 8 (some 52) ?_
        refine takeC 9 (some 53) ?_
        refine takeC 10 (some 54) ?_
        refine takeC 11 (some 55) ?_
        refine takeC 12 (some 56) ?_
        refine takeC 13 (some 57) ?_
        refine takeC 14 (some 58) ?_
        refine takeC 15 (some 59) ?_
        refine takeC 16 (some 60) ?_
        refine takeC 17 (some 61) ?_
        refine takeC 18 (some 62) ?_
        refine takeC 19 (some 63) ?_
        refine takeC 20 (some 64) ?_
        refine takeC 21 (some 65) ?_
        refine takeC 22 (some 66) ?_
        refine takeC 23 (some 67) ?_
        refine takeC 24 (some 68) ?_
        refine wpAnyH_ready (rs := [25]) (by kernel_rfl) (by simp) ?_
        refine AllReadyH.cons rfl (fun K0 hK0 => ?_) AllReadyH.nil
        go_simp
        have yv : ∃ y, y = lo + pv % 1024 % (hi - lo + 1) := ⟨_, rfl⟩
        obtain ⟨y, hy⟩ := yv
        try rw [← hy]
        have own2 : Hid (Own1 W2.heap.size (u0.alloc (Obj.cells #[.int .i64 y] 3)) _ qs) := hide (own_below (unhide own1) (below1 u0 _))
        have hc2 : (u0.alloc (Obj.cells #[.int .i64 y] 3)).cell? ⟨u0.heap.size, 0, none⟩ = some (.int .i64 y) := by go_simp
        have hs2 : W2.heap.size ≤ (u0.alloc (Obj.cells #[.int .i64 y] 3)).heap.size := by simp; omega
        refine hK0.out _ _ (unhide SKC _ _ hHeld ((Below.refl _ _).alloc hdz _)) (fun hHeld1 => ?_)
        clear hK0 K0 hHeld own1 hand htm hne hw1 hw2 hw4 hw5
        generalize u0.alloc (Obj.cells #[.int .i64 y] 3) = u1 at *
        try simp only [Act.put, List.setIfInBounds_toArray, List.set_cons_zero, List.set_cons_succ]
        refine wpAnyH_ready (rs := [26]) (by kernel_rfl) (by simp) ?_
        refine AllReadyH.cons rfl (fun K0 hK0 => ?_) AllReadyH.nil
        refine step_n rfl _ _ rfl W2.heap.size _ qs rfl (unhide own2) u0.heap.size y rfl hc2 (by omega) hs2 ?_
        intro v' u2 own' hv' gr
        have B3 : Below W2.heap.size u1 u2 := (Below.refl _ _).grown gr hs2 (fun k hk => own_ge (unhide own2) k hk)
        refine hK0.out _ _ (unhide SKC _ _ hHeld1 B3) (fun hHeld2 => ?_)
        clear hK0 K0
        have hHeld := hHeld2
        clear hHeld2 hHeld1 own2 hc2 gr B3
        try simp only [Act.put, List.setIfInBounds_toArray, List.set_cons_zero, List.set_cons_succ]
        refine takeC 27 (some 9) ?_
        refine wpAnyH_done (by kernel_rfl) ?_ _
        refine NoPanic.normal ?_
        have BQ := unhide SB _ hHeld
        clear hHeld SKC SB S0V HSS
        go_wp2_with fail
        go_roundw
        case rel => exact ⟨j + 1, qs ++ [y], by omega, by go_num, BQ, hide own', by simp; omega, hide (unhide HQ2 y (by omega) (by omega))⟩
        case measure => simp [intOf]; omega
      · obtain rfl : n2 = j := by omega
        have hqn : qs.length = xl.length := by omega
        have hn0 : 0 < qs.length := by have := (unhide HK).1; dsimp only at this; omega
        obtain ⟨gq2, cq, hv0, hrow⟩ := own_pos (unhide own) hn0
        rw [hqs] at hv0
        subst hv0
        have HQR := hide hrow
        obtain ⟨wq, hwq⟩ : ∃ wq, wq = wr := ⟨_, rfl⟩
        subst hwq
        have qin : Hid (allW n2 (within (xl, xh)) qs) := hide ⟨hqs, fun i hi => unhide HQ i hi⟩
        have HHR := hide (((own_row (Q := fun _ => True) (unhide OWQ) (by simp) (fun _ _ _ => trivial)).1).below bel)
        clear hrow own HQ K1 K2 K3 RK OWQ
        go_wp2_with fail
        go_loopw [11, 12] (fun c i wr => ∃ (k : Nat) (cb : Bool), k ≤ l.length ∧ i = .int .i64 k ∧ c = .bool cb ∧ Below wq.heap.size wq wr ∧ Hid (cb = true ↔ ∃ m, m < k ∧ inB (bx l m) qs)) (fun _ i _ => l.length - (intOf i).toNat)
        case atStart => exact ⟨0, false, Nat.zero_le _, rfl, rfl, Below.refl _ _, hide ⟨fun h => (by cases h), fun ⟨m, hm, _⟩ => absurd hm (Nat.not_lt_zero _)⟩⟩
        case round =>
          obtain ⟨k, cb, hk, rfl, rfl, bek, HE⟩ := hrel
          have belk := bstep belw bek
          by_cases hkt : k < l.length
          · obtain ⟨blA, oA, r1, r2, rfl, hqA, hbA, kA, kB, kC⟩ := (unhide HB).below belk k hkt
            obtain ⟨a3, c3, rfl⟩ := kC.1.form
            obtain ⟨a4, c4, rfl⟩ := kC.2.form
            have RIN := hide (fun w' (q : Below wr.heap.size wr w') => rin_any _ (bx l k) qs _ _ _ w' (kC.below q) (((unhide HQR).below bek).below q) ((unhide hfl).2 k hkt).1.2.2.1)
            have GIN := hide (fun w' (q' : Below wr.heap.size wr w') => gin_any _ (bx l k) q _ _ _ w' (kC.below q') (((unhide HHR).below bek).below q'))
            have NIN : Hid (¬ (okB (bx l k) ∧ inB (bx l k) q)) := hide (fun hc => (unhide hr).2.2.1 ⟨bx l k, bx_mem hkt, hc.2⟩)
            have UP : Hid (∀ r : Bool, (r = true ↔ inB (bx l k) qs) → ((cb || r) = true ↔ ∃ m, m < k + 1 ∧ inB (bx l m) qs)) := hide (fun r hr => by
              rw [Bool.or_eq_true, unhide HE, hr]
              constructor
              · rintro (⟨m, h1, h2⟩ | h)
                · exact ⟨m, by omega, h2⟩
                · exact ⟨k, by omega, h⟩
              · rintro ⟨m, h1, h2⟩
                by_cases e : m = k
                · subst e; exact .inr h2
                · exact .inl ⟨m, by omega, h2⟩)
            have UT : Hid (cb = true → ∃ m, m < k + 1 ∧ inB (bx l m) qs) := hide (fun h => by obtain ⟨m, h1, h2⟩ := (unhide HE).1 h; exact ⟨m, by omega, h2⟩)
            clear HE kC HB HQR qin hfl HK hr GW KN HHR
            generalize inB (bx l k) qs = IQ at *
            generalize (okB (bx l k) ∧ inB (bx l k) q) = IH at *
            generalize (bx l k).1.length = n4 at *
            generalize (bx l k).2.length = n5 at *
            cases cb
            · go_wp2_with fail
              refine (unhide RIN _ (Below.refl _ _)).mono ?_
              rintro e w8 ⟨⟨r8, rfl, hr8⟩, b8⟩
              have NEW := hide (unhide UP r8 hr8)
              have kA := kcx b8 kA
              have kB := kcx b8 kB
              clear UP UT RIN hr8
              cases r8
              · go_wp2_with fail
                refine (unhide GIN _ b8).mono ?_
                rintro e w9 ⟨⟨r9, rfl, hr9⟩, b9⟩
                obtain rfl : r9 = false := by cases r9; rfl; exact absurd (hr9.1 rfl) (unhide NIN)
                clear GIN NIN hr9
                go_wp2_with fail
                go_roundw
                case rel => exact ⟨k + 1, false, by omega, by go_num, rfl, (bstep (bstep bek b8) b9), (by first | exact NEW | exact hide (by simpa using unhide NEW))⟩
                case measure => simp [intOf]; omega
              · go_wp2_with fail
                refine (unhide GIN _ b8).mono ?_
                rintro e w9 ⟨⟨r9, rfl, hr9⟩, b9⟩
                obtain rfl : r9 = false := by cases r9; rfl; exact absurd (hr9.1 rfl) (unhide NIN)
                clear GIN NIN hr9
                go_wp2_with fail
                go_roundw
                case rel => exact ⟨k + 1, true, by omega, by go_num, rfl, (bstep (bstep bek b8) b9), (by first | exact NEW | exact hide (by simpa using unhide NEW))⟩
                case measure => simp [intOf]; omega
            · have NEW : Hid (true = true ↔ ∃ m, m < k + 1 ∧ inB (bx l m) qs) := hide ⟨unhide UT, fun _ => rfl⟩
              clear UP UT RIN
              go_wp2_with fail
              refine (unhide GIN _ (Below.refl _ _)).mono ?_
              rintro e w9 ⟨⟨r9, rfl, hr9⟩, b9⟩
              obtain rfl : r9 = false := by cases r9; rfl; exact absurd (hr9.1 rfl) (unhide NIN)
              clear GIN NIN hr9
              go_wp2_with fail
              go_roundw
              case rel => exact ⟨k + 1, true, by omega, by go_num, rfl, (bstep bek b9), (by first | exact NEW | exact hide (by simpa using unhide NEW))⟩
              case measure => simp [intOf]; omega
          · obtain rfl : k = l.length := by omega
            have HC : Hid (cb = true ↔ cov l qs) := hide (by
              rw [unhide HE]
              constructor
              · rintro ⟨m, h1, h2⟩; exact ⟨bx l m, bx_mem h1, h2⟩
              · rintro ⟨b, h1, h2⟩; obtain ⟨i, hi, rfl⟩ := bx_of h1; exact ⟨i, hi, h2⟩)
            have k0 := kcx (bstep bel bek) x0
            have k1 := kcx (bstep bel bek) x1
            have GWQ := hide (unhide GW q _ wr belk ((unhide HHR).below bek))
            have INW : Hid (okB (xl, xh) ∧ inB (xl, xh) q) := hide ⟨unhide HK, LQ.trans hn1.symm, fun i hi => (unhide hr).1.2 i (by omega)⟩
            have HL2 := hide ((unhide HQR).below bek)
            have HL1 := hide ((unhide HHR).below bek)
            clear HE HB HQR HHR hfl HK GW
            go_wp2_with fail
            refine (unhide GWQ).mono ?_
            rintro e wz ⟨⟨r7, rfl, hr7⟩, b7⟩
            obtain rfl : r7 = true := hr7.2 (unhide INW)
            have belz := bstep belk b7
            have L2 := ((unhide HL2).below b7).at.2.2
            have L1 := ((unhide HL1).below b7).at.2.2
            try rw [LQ] at L1
            have L1 := hide L1
            have L2 := hide L2
            clear GWQ INW hr7 HL1 HL2
            go_wp2_with fail
            go_loopw [13] (fun x wr => ∃ (i m : Nat), i ≤ n2 ∧ x = .int .i64 i ∧ wr = wz.drewN m ∧ Hid (∀ k, k < i → ix qs k = ix q k)) (fun x _ => n2 - (intOf x).toNat)
            case atStart => exact ⟨0, 0, Nat.zero_le _, rfl, rfl, hide (fun k hk => absurd hk (Nat.not_lt_zero _))⟩
            case round =>
              obtain ⟨i, m, hi, rfl, rfl, EQ⟩ := hrel
              have bel9 := below_drewN belz m
              cases cb
              · by_cases hit : i < n2
                · obtain ⟨g1, f1, e1, t1, y1⟩ := unhide L1 i hit
                  obtain ⟨g2, f2, e2, t2, y2⟩ := unhide L2 i (by omega)
                  cases e1
                  cases e2
                  simp only [Nat.zero_add] at y1 y2
                  have NG : Hid (¬ ix qs i < ix q i) := hide (fun hlt' => by have hc := (unhide HC).2 ((unhide hr).2.2.2 qs (unhide qin) (fun i hi => absurd hi (Nat.not_lt_zero _)) ⟨i, by omega, unhide EQ, hlt'⟩); cases hc)
                  have EQ2 : Hid (ix qs i = ix q i → ∀ k, k < i + 1 → ix qs k = ix q k) := hide (fun h k hk => if e : k = i then e ▸ h else unhide EQ k (by omega))
                  have ngx := unhide NG
                  clear EQ HC hr qin L1 L2 NG
                  generalize ix qs i = y2v at *
                  generalize ix q i = y1v at *
                  by_cases c1 : y1v < y2v
                  · clear EQ2
                    go_wp2_with fail
                    go_quiet (fail)
                    go_wp2_with fail
                    refine (unhide KN _).mono ?_
                    rintro e w9 ⟨rfl, b9⟩
                    go_wp2_with fail
                    go_ret
                    exact ⟨rfl, bstep (below_drewN belz _) b9⟩
                  · have c2 : ¬ y2v < y1v := ngx
                    have NEW := hide (unhide EQ2 (by omega))
                    clear EQ2 KN
                    go_wp2_with fail
                    go_quiet (fail)
                    go_wp2_with fail
                    go_quiet (fail)
                    go_wp2_with fail
                    go_roundw
                    case rel => exact ⟨i + 1, _, by omega, by go_num, (by first | rfl | exact World.drewN_drewN _ _ _), NEW⟩
                    case measure => simp [intOf]; omega
                · clear EQ HC hr qin L1 L2
                  go_wp2_with fail
                  refine (unhide KN _).mono ?_
                  rintro e w9 ⟨rfl, b9⟩
                  go_wp2_with fail
                  go_ret
                  exact ⟨rfl, bstep bel9 b9⟩
              · by_cases hit : i < n2
                · clear EQ HC hr qin L1 L2
                  go_wp2_with fail
                  refine (unhide KN _).mono ?_
                  rintro e w9 ⟨rfl, b9⟩
                  go_wp2_with fail
                  go_ret
                  exact ⟨rfl, bstep bel9 b9⟩
                · clear EQ HC hr qin L1 L2
                  go_wp2_with fail
                  refine (unhide KN _).mono ?_
                  rintro e w9 ⟨rfl, b9⟩
                  go_wp2_with fail
                  go_ret
                  exact ⟨rfl, bstep bel9 b9⟩
end Go.Proofs.Ytpoejhdkgfikdaa

