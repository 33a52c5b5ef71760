/- The document's first point that is in none of the boxes. Printed by mkleast.py. -/
import Derived.Test.YtpoejhdkgfikdaaBxApp
import Derived.Test.YtpoejhdkgfikdaaRegA
import Derived.Deep.DeepCutAuto
namespace Go.Proofs.Ytpoejhdkgfikdaa
open Go.RowKit
set_option linter.unusedVariables false
set_option linter.unusedSimpArgs false

def LR (n : Nat) (W : Bx) (l : List Bx) (p : List Int) (e : Ending) (w' : World) : Prop :=
  ∃ r v, LF n (within W) (cov l) p r ∧ e = .returned (.tuple #[v, .bool r.isSome]) ∧ RowI (fun _ => True) w' v (r.getD [])
theorem row_nil (w : World) : RowI (fun _ => True) w (.slice none 0 0) [] := ⟨none, 0, rfl, Nat.zero_le _, fun i hi => absurd hi (Nat.not_lt_zero _)⟩

set_option maxHeartbeats 3000000 in
set_option maxRecDepth 10000 in
theorem rleast_any (a : Option Addr) (cap n : Nat) (l : List Bx) (W : Bx) (v1 v2 : Value) (hok : okB W) (hWn : W.1.length = n) (hf : fel l n) :
    ∀ (k : Nat) (p : List Int) (vp : Value) (w : World), p.length + k = n → BxsI (fun _ => True) w a l → BoxI (fun _ => True) w v1 v2 W → RowI (fun _ => True) w vp p → (p.length = 0 → vp = .slice none 0 0) → (∀ i, i < p.length → within W i (ix p i)) →
    Calls Try.prog 21 #[.slice a l.length cap, .agg #[v1, v2], vp] w fun e w' => LR n W l p e w' ∧ Below w.heap.size w w' := by
  intro k
  induction k with
  | zero =>
    intro p vp w hp hB hW hr hp0 hin
    have hpn : p.length = n := by omega
    have h8 := hf.1
    have R1 : Hid (∀ w', cov l p → LR n W l p (.returned (.tuple #[.slice none 0 0, .bool false])) w') := hide (fun w' h => ⟨none, _, LF_none hpn h, rfl, row_nil w'⟩)
    have R2 : Hid (∀ w', Below w.heap.size w w' → ¬ cov l p → LR n W l p (.returned (.tuple #[vp, .bool true])) w') := hide (fun w' k h => ⟨some p, vp, LF_some hpn (fun i hi => hin i (by omega)) h, rfl, hr.below k⟩)
    have HB := hide hB
    have HR := hide hr
    have HF := hide hf
    obtain ⟨a1, c1, rfl⟩ := hW.1.form
    obtain ⟨a2, c2, rfl⟩ := hW.2.form
    obtain ⟨a3, c3, rfl⟩ := hr.form
    have CV : Hid (∀ j, j < l.length → inB (bx l j) p → cov l p) := hide (fun j hj h => ⟨bx l j, bx_mem hj, h⟩)
    have NC : Hid ((∀ j, j < l.length → ¬ inB (bx l j) p) → ¬ cov l p) := hide (fun h ⟨b, hb, hi⟩ => by obtain ⟨i, hi', rfl⟩ := bx_of hb; exact h i hi' hi)
    rw [hWn, hpn] at *
    clear hB hW hr hin hok hWn hf
    generalize cov l p = C at *
    generalize LR n W l p = L at *
    generalize W.2.length = n2 at *
    have b0 := below1 w (Obj.cells #[.slice a1 n c1, .slice a2 n2 c2] 25)
    have x0 : (w.alloc (Obj.cells #[.slice a1 n c1, .slice a2 n2 c2] 25)).cell? ⟨w.heap.size, 0, none⟩ = some (.slice a1 n c1) := by go_simp
    go_enter Try.func21, Try.ntmps21
    go_wp2_with fail
    generalize w.alloc (Obj.cells #[.slice a1 n c1, .slice a2 n2 c2] 25) = W0 at *
    go_loopw [9] (fun i wr => ∃ j : Nat, j ≤ l.length ∧ i = .int .i64 j ∧ Below W0.heap.size W0 wr ∧ Hid (∀ i, i < j → ¬ inB (bx l i) p)) (fun i _ => l.length - (intOf i).toNat)
    case atStart => exact ⟨0, Nat.zero_le _, rfl, Below.refl _ _, hide (fun i hi => absurd hi (Nat.not_lt_zero _))⟩
    case round =>
      obtain ⟨j, hj, rfl, bel, H⟩ := hrel
      have belw := bstep b0 bel
      by_cases hlt : j < l.length
      · obtain ⟨blA, oA, r1, r2, rfl, hqA, hbA, kA, kB, kC⟩ := (unhide HB).below belw j hlt
        obtain ⟨a4, c4, rfl⟩ := kC.1.form
        obtain ⟨a5, c5, rfl⟩ := kC.2.form
        have RI := hide (rin_any _ (bx l j) p _ _ _ wr kC ((unhide HR).below belw) ((unhide HF).2 j hlt).1.2.2.1)
        try rw [hpn] at RI
        have CJ := hide (unhide CV j hlt)
        have GO : Hid (¬ inB (bx l j) p → ∀ i, i < j + 1 → ¬ inB (bx l i) p) := hide (fun hn i hi => if e : i = j then e ▸ hn else unhide H i (by omega))
        clear H HB HF HR CV NC kC
        generalize inB (bx l j) p = IJ at *
        generalize (bx l j).1.length = n4 at *
        generalize (bx l j).2.length = n5 at *
        go_wp2_with fail
        refine (unhide RI).mono ?_
        rintro e w5 ⟨⟨r, rfl, hr⟩, b5⟩
        cases r
        · have NEW := hide (unhide GO (fun h => by have h2 := hr.2 h; cases h2))
          clear GO CJ hr RI
          go_wp2_with fail
          go_roundw
          case rel => exact ⟨j + 1, by omega, by go_num, bstep bel b5, NEW⟩
          case measure => simp [intOf]; omega
        · have F := hide (unhide R1 w5 (unhide CJ (hr.1 rfl)))
          clear GO CJ hr RI R1 R2
          go_wp2_with fail
          go_ret2
          exact ⟨unhide F, bstep belw b5⟩
      · have F := hide (unhide R2 wr belw (unhide NC (fun i hi => unhide H i (by omega))))
        clear H HB HF HR CV NC R1 R2
        go_wp2_with fail
        go_ret2
        exact ⟨unhide F, belw⟩
  | succ k ih =>
    intro p vp w hp hB hW hr hp0 hin
    have hd : p.length < n := by omega
    have h8 := hf.1
    have n3 : n ≤ 3 := by have := hok.2.1; omega
    have IH := hide ih
    have HB := hide hB
    have HR := hide hr
    have HF := hide hf
    have HW := hide hW
    have HI := hide hin
    have HP0 := hide hp0
    obtain ⟨xl, xh⟩ := W
    dsimp only at hWn
    have hd1 : p.length < xl.length := by omega
    have w4 := hok.2.2.2 p.length hd1
    have hxh : xh.length = n := by have := hok.2.2.1; dsimp only at this; omega
    dsimp only at w4
    have LB : Hid (∀ j, j < l.length → 0 ≤ ix (bx l j).1 p.length ∧ ix (bx l j).1 p.length ≤ ix (bx l j).2 p.length ∧ ix (bx l j).2 p.length ≤ 1000 ∧ (bx l j).1.length = n ∧ (bx l j).2.length = n) := hide (fun j hj => by
      obtain ⟨o, hn⟩ := hf.2 j hj
      have h1 := o.2.2.2 p.length (by omega)
      have h2 := o.2.2.1
      omega)
    obtain ⟨a1, c1, rfl⟩ := hW.1.form
    obtain ⟨a2, c2, rfl⟩ := hW.2.form
    obtain ⟨a3, c3, rfl⟩ := hr.form
    obtain ⟨bl1, o1, e1, t1, y1⟩ := hW.1.at.2.2 p.length hd1
    obtain ⟨bl2, o2, e2, t2, y2⟩ := hW.2.at.2.2 p.length (by dsimp only; omega)
    subst e1 e2
    dsimp only at *
    rw [hWn, hxh] at *
    clear hB hW hr hin hok hp0 hf ih
    have GS : Hid (∀ x nx, gone n (within (xl, xh)) (cov l) p (fun v => v < x) → LF n (within (xl, xh)) (cov l) (p ++ [x]) none → (ix xl p.length ≤ x ∧ x ≤ ix xh p.length) → (∀ j, j < l.length → ix (bx l j).1 p.length ≤ x → x ≤ ix (bx l j).2 p.length → nx ≤ ix (bx l j).2 p.length + 1) → gone n (within (xl, xh)) (cov l) p (fun v => v < nx)) := hide (fun x nx h k hx hn => gone_skip (fun b hb => by obtain ⟨i, hi, rfl⟩ := bx_of hb; exact (unhide LB i hi).2.2.2.1) hd h k hx (fun b hb => by obtain ⟨i, hi, rfl⟩ := bx_of hb; exact hn i hi))
    have GF : Hid (∀ x q, gone n (within (xl, xh)) (cov l) p (fun v => v < x) → LF n (within (xl, xh)) (cov l) (p ++ [x]) (some q) → LF n (within (xl, xh)) (cov l) p (some q)) := hide (fun x q h k => LF_found hd h k (fun v _ hv => hv))
    have GE : Hid (∀ x, gone n (within (xl, xh)) (cov l) p (fun v => v < x) → ix xh p.length < x → LF n (within (xl, xh)) (cov l) p none) := hide (fun x h hx => LF_end hd h (fun v hv => by have : v ≤ ix xh p.length := hv.2; omega))
    have GI : Hid (gone n (within (xl, xh)) (cov l) p (fun v => v < ix xl p.length)) := hide (fun q hq _ hv => by have := (hq.2 p.length hd).1; dsimp only at this; omega)
    have IN : Hid (∀ x, ix xl p.length ≤ x → x ≤ ix xh p.length → ∀ i, i < (p ++ [x]).length → within (xl, xh) i (ix (p ++ [x]) i)) := hide (fun x h1 h2 i hi => by
      rw [List.length_append, List.length_singleton] at hi
      by_cases e : i = p.length
      · subst e; rw [ix_last]; exact ⟨h1, h2⟩
      · rw [ix_app (by omega)]; exact unhide HI i (by omega))
    generalize ix xl p.length = lo at *
    generalize ix xh p.length = hi at *
    obtain ⟨w40, w41, w42⟩ := w4
    have b0 := below1 w (Obj.cells #[.slice (some ⟨bl1, o1, none⟩) n c1, .slice (some ⟨bl2, o2, none⟩) n c2] 25)
    have x0 : (w.alloc (Obj.cells #[.slice (some ⟨bl1, o1, none⟩) n c1, .slice (some ⟨bl2, o2, none⟩) n c2] 25)).cell? ⟨w.heap.size, 0, none⟩ = some (.slice (some ⟨bl1, o1, none⟩) n c1) := by go_simp
    have x1 : (w.alloc (Obj.cells #[.slice (some ⟨bl1, o1, none⟩) n c1, .slice (some ⟨bl2, o2, none⟩) n c2] 25)).cell? ⟨w.heap.size, 1, none⟩ = some (.slice (some ⟨bl2, o2, none⟩) n c2) := by go_simp
    have zz : ((p.length : Int) == n) = false := by simp; omega
    have y1 := kcx b0 y1
    have y2 := kcx b0 y2
    go_enter Try.func21, Try.ntmps21
    go_wp2_with fail
    generalize w.alloc (Obj.cells #[.slice (some ⟨bl1, o1, none⟩) n c1, .slice (some ⟨bl2, o2, none⟩) n c2] 25) = W0 at *
    go_loopw [10] (fun v wr => ∃ x : Int, v = .int .i64 x ∧ lo ≤ x ∧ x ≤ hi + 1 ∧ Below W0.heap.size W0 wr ∧ Hid (gone n (within (xl, xh)) (cov l) p (fun v => v < x))) (fun v _ => (hi + 1 - intOf v).toNat)
    case atStart => exact ⟨lo, rfl, by omega, by omega, Below.refl _ _, GI⟩
    case round =>
      obtain ⟨x, rfl, hx1, hx2, bel, GO⟩ := hrel
      have belw := bstep b0 bel
      have k0 := kcx bel x0
      have k1 := kcx bel x1
      have k3 := kcx bel y2
      by_cases hxt : x ≤ hi
      · obtain ⟨V, hV⟩ : ∃ V, V = wr := ⟨_, rfl⟩
        subst hV
        have IHX := hide (fun vq w' (q : Below V.heap.size V w') (hq : RowI (fun _ => True) w' vq (p ++ [x])) => unhide IH (p ++ [x]) vq w' (by simp; omega) ((unhide HB).below (bstep belw q)) ((unhide HW).below (bstep belw q)) hq (fun h => by simp at h) (unhide IN x hx1 hxt))
        have HRV := hide (fun w' (q : Below V.heap.size V w') => (unhide HR).below (bstep belw q))
        have hpl : p.length ≤ 3 := by omega
        clear IH HR HF HW HI IN GI
        go_upto_region 11 with fail
        go_cut [11, 12] (fun v b wx => ∃ r vv, vv = v ∧ b = .bool (Option.isSome r) ∧ Hid (LF n (within (xl, xh)) (cov l) (p ++ [x]) r) ∧ Hid (RowI (fun _ => True) wx vv (r.getD [])) ∧ Below V.heap.size V wx)
        case first =>
          clear GS GF GE GO LB HB
          have hNV : w.heap.size < V.heap.size := World.block_lt_of_cell? _ _ k0
          obtain ⟨S, HS⟩ : ∃ S : World → Prop, S = fun w' => Below V.heap.size V w' ∧ w'.cell? ⟨w.heap.size, 0, none⟩ = some (.slice (some ⟨bl1, o1, none⟩) n c1) ∧ w'.cell? ⟨w.heap.size, 1, none⟩ = some (.slice (some ⟨bl2, o2, none⟩) n c2) := ⟨_, rfl⟩
          have HSS := hide HS
          have S0V : Hid (S V) := hide (by rw [HS]; exact ⟨Below.refl _ _, k0, k1⟩)
          have SB : Hid (∀ x, S x → Below V.heap.size V x) := hide (by rw [HS]; exact fun x h => h.1)
          have SKC : Hid (∀ x w' : World, S x → Below V.heap.size x w' → S w') := hide (by
            rw [HS]; rintro x w' ⟨h0, h1, h2⟩ kk
            exact ⟨h0.trans kk, (kk.cell (p := ⟨w.heap.size, 0, none⟩) hNV).trans h1, (kk.cell (p := ⟨w.heap.size, 1, none⟩) hNV).trans h2⟩)
          clear HS k0 k1
          refine wp_region_noPanic ?_
          refine wp_region_held_drew (S := S) (by kernel_rfl) (unhide SKC _ _ (unhide S0V) (Below.refl _ _).drew) (fun hHeld => ?_)
          have hdz : V.heap.size ≤ V.drew.heap.size := Nat.le_refl _
          generalize V.drew = u0 at *
          refine takeC 0 (some 48) ?_
          refine takeC 1 (some 49) ?_
          refine takeC 3 (some 51) ?_
          refine takeC 5 (some 53) ?_
          have hzu0 := hdz
          refine wpAnyH_ready (rs := [2, 6]) (by kernel_rfl) (by simp) ?_
          refine AllReadyH.cons rfl (fun K0 hK0 => ?a0_2) (AllReadyH.cons rfl (fun K0 hK0 => ?a0_6) (AllReadyH.nil))
          case a0_2 =>
            go_simp
            have hzu1 : V.heap.size ≤ (u0.alloc (Obj.cells #[] 3)).heap.size := by simp; omega
            have oAu1 : Own1 V.heap.size (u0.alloc (Obj.cells #[] 3)) (.slice (some ⟨u0.heap.size, 0, none⟩) 0 0) [] := ⟨rfl, .inr ⟨u0.heap.size, 0, #[], rfl, hzu0, Deep.blk_alloc_new _ _, by simp, by unfold maxLen; omega, rfl, rfl⟩⟩
            refine hK0.out _ _ (unhide SKC _ _ hHeld ((Below.refl _ _).alloc hzu0 _)) (fun hHeld1 => ?_)
            clear hK0 K0 hHeld
            have hHeld := hHeld1
            clear hHeld1
            generalize u0.alloc (Obj.cells #[] 3) = u1 at *
            try simp only [Act.put, List.setIfInBounds_toArray, List.set_cons_zero, List.set_cons_succ]
            refine wpAnyH_ready (rs := [4, 6]) (by kernel_rfl) (by simp) ?_
            refine AllReadyH.cons rfl (fun K0 hK0 => ?a1_4) (AllReadyH.cons rfl (fun K0 hK0 => ?a1_6) (AllReadyH.nil))
            case a1_4 =>
              refine step_row rfl _ _ rfl V.heap.size _ [] rfl oAu1 (show (Value.slice (some ⟨u0.heap.size, 0, none⟩) 0 0) ≠ .slice none 0 0 by simp) _ p rfl (unhide HRV _ (unhide SB _ hHeld)) (unhide HP0) (by simp; omega) hzu1 ?_
              intro va1 u2 ow1 vn1 gr1 al1
              have B1 : Below V.heap.size u1 u2 := (Below.refl _ _).grown gr1 hzu1 (fun k hk => own_ge oAu1 k hk)
              have hzu2 : V.heap.size ≤ u2.heap.size := Nat.le_trans hzu1 gr1.size
              refine hK0.out _ _ (unhide SKC _ _ hHeld B1) (fun hHeld1 => ?_)
              clear hK0 K0 hHeld
              have hHeld := hHeld1
              clear hHeld1
              try simp only [Act.put, List.setIfInBounds_toArray, List.set_cons_zero, List.set_cons_succ]
              have oAu2 : Own1 V.heap.size u2 va1 p := by simpa using ow1
              refine wpAnyH_ready (rs := [6]) (by kernel_rfl) (by simp) ?_
              refine AllReadyH.cons rfl (fun K0 hK0 => ?a2_6) (AllReadyH.nil)
              case a2_6 =>
                go_simp
                have hzu3 : V.heap.size ≤ (u2.alloc (Obj.cells #[.int .i64 x] 3)).heap.size := by simp; omega
                have cXu3 : (u2.alloc (Obj.cells #[.int .i64 x] 3)).cell? ⟨u2.heap.size, 0, none⟩ = some (.int .i64 x) := by go_simp
                have oAu3 := own_below oAu2 (below1 u2 (Obj.cells #[.int .i64 x] 3))
                refine hK0.out _ _ (unhide SKC _ _ hHeld ((Below.refl _ _).alloc hzu2 _)) (fun hHeld1 => ?_)
                have gneu3 : ∀ g, va1.ownBlock = some g → g < u2.heap.size := own_lt oAu2
                clear hK0 K0 hHeld
                have hHeld := hHeld1
                clear hHeld1
                generalize u2.alloc (Obj.cells #[.int .i64 x] 3) = u3 at *
                try simp only [Act.put, List.setIfInBounds_toArray, List.set_cons_zero, List.set_cons_succ]
                refine wpAnyH_ready (rs := [7]) (by kernel_rfl) (by simp) ?_
                refine AllReadyH.cons rfl (fun K0 hK0 => ?a3_7) (AllReadyH.nil)
                case a3_7 =>
                  refine step_n rfl _ _ rfl V.heap.size _ p rfl oAu3 u2.heap.size x rfl cXu3 (by omega) hzu3 ?_
                  intro va3 u4 ow3 vn3 gr3
                  have B3 : Below V.heap.size u3 u4 := (Below.refl _ _).grown gr3 hzu3 (fun k hk => own_ge oAu3 k hk)
                  have hzu4 : V.heap.size ≤ u4.heap.size := Nat.le_trans hzu3 gr3.size
                  refine hK0.out _ _ (unhide SKC _ _ hHeld B3) (fun hHeld1 => ?_)
                  clear hK0 K0 hHeld
                  have hHeld := hHeld1
                  clear hHeld1
                  try simp only [Act.put, List.setIfInBounds_toArray, List.set_cons_zero, List.set_cons_succ]
                  have rowq := (own_row (Q := fun _ => True) ow3 vn3 (fun _ _ _ => trivial)).1
                  have RUN := hide (unhide IHX _ u4 (unhide SB _ hHeld) rowq)
                  refine wpAnyH_ready (rs := [8]) (by kernel_rfl) (by simp) ?_
                  refine AllReadyH.cons rfl (fun K0 hK0 => ?_) AllReadyH.nil
                  go_simp
                  refine (unhide RUN).mono ?_
                  rintro e y9 ⟨⟨r, vv, hlf, rfl, hrow⟩, j9⟩
                  have hlf := hide hlf
                  have hrow := hide hrow
                  have j9' : Below V.heap.size u4 y9 := j9.mono hzu4
                  go_wp2_with fail
                  refine hK0.out _ _ (unhide SKC _ _ hHeld j9') (fun hHeld1 => ?_)
                  clear hK0 K0 hHeld RUN rowq j9 j9'
                  have hHeld := hHeld1
                  clear hHeld1
                  try simp only [Act.put, List.setIfInBounds_toArray, List.set_cons_zero, List.set_cons_succ]
                  refine takeC 9 (some 47) ?_
                  refine takeC 10 (some 57) ?_
                  refine takeC 11 (some 58) ?_
                  refine takeC 12 (some 11) ?_
                  refine takeC 13 (some 12) ?_
                  refine wpAnyH_done (by kernel_rfl) ?_ _
                  refine NoPanic.normal ?_
                  have BQ := unhide SB _ hHeld
                  clear hHeld
                  go_wp2_with fail
                  go_meet
                  exact ⟨r, vv, rfl, rfl, hlf, hrow, BQ⟩
            case a1_6 =>
              go_simp
              have hzu2 : V.heap.size ≤ (u1.alloc (Obj.cells #[.int .i64 x] 3)).heap.size := by simp; omega
              have cXu2 : (u1.alloc (Obj.cells #[.int .i64 x] 3)).cell? ⟨u1.heap.size, 0, none⟩ = some (.int .i64 x) := by go_simp
              have oAu2 := own_below oAu1 (below1 u1 (Obj.cells #[.int .i64 x] 3))
              refine hK0.out _ _ (unhide SKC _ _ hHeld ((Below.refl _ _).alloc hzu1 _)) (fun hHeld1 => ?_)
              have gneu2 : ∀ g, (Value.slice (some ⟨u0.heap.size, 0, none⟩) 0 0).ownBlock = some g → g < u1.heap.size := own_lt oAu1
              clear hK0 K0 hHeld
              have hHeld := hHeld1
              clear hHeld1
              generalize u1.alloc (Obj.cells #[.int .i64 x] 3) = u2 at *
              try simp only [Act.put, List.setIfInBounds_toArray, List.set_cons_zero, List.set_cons_succ]
              refine wpAnyH_ready (rs := [4]) (by kernel_rfl) (by simp) ?_
              refine AllReadyH.cons rfl (fun K0 hK0 => ?a2_4) (AllReadyH.nil)
              case a2_4 =>
                refine step_row rfl _ _ rfl V.heap.size _ [] rfl oAu2 (show (Value.slice (some ⟨u0.heap.size, 0, none⟩) 0 0) ≠ .slice none 0 0 by simp) _ p rfl (unhide HRV _ (unhide SB _ hHeld)) (unhide HP0) (by simp; omega) hzu2 ?_
                intro va2 u3 ow2 vn2 gr2 al2
                have B2 : Below V.heap.size u2 u3 := (Below.refl _ _).grown gr2 hzu2 (fun k hk => own_ge oAu2 k hk)
                have hzu3 : V.heap.size ≤ u3.heap.size := Nat.le_trans hzu2 gr2.size
                have cXu3 : u3.cell? ⟨u1.heap.size, 0, none⟩ = some (.int .i64 x) := gr2.cell cXu2 (fun e => absurd (gneu2 _ e.symm) (Nat.lt_irrefl _))
                refine hK0.out _ _ (unhide SKC _ _ hHeld B2) (fun hHeld1 => ?_)
                clear hK0 K0 hHeld
                have hHeld := hHeld1
                clear hHeld1
                try simp only [Act.put, List.setIfInBounds_toArray, List.set_cons_zero, List.set_cons_succ]
                have oAu3 : Own1 V.heap.size u3 va2 p := by simpa using ow2
                refine wpAnyH_ready (rs := [7]) (by kernel_rfl) (by simp) ?_
                refine AllReadyH.cons rfl (fun K0 hK0 => ?a3_7) (AllReadyH.nil)
                case a3_7 =>
                  refine step_n rfl _ _ rfl V.heap.size _ p rfl oAu3 u1.heap.size x rfl cXu3 (by omega) hzu3 ?_
                  intro va3 u4 ow3 vn3 gr3
                  have B3 : Below V.heap.size u3 u4 := (Below.refl _ _).grown gr3 hzu3 (fun k hk => own_ge oAu3 k hk)
                  have hzu4 : V.heap.size ≤ u4.heap.size := Nat.le_trans hzu3 gr3.size
                  refine hK0.out _ _ (unhide SKC _ _ hHeld B3) (fun hHeld1 => ?_)
                  clear hK0 K0 hHeld
                  have hHeld := hHeld1
                  clear hHeld1
                  try simp only [Act.put, List.setIfInBounds_toArray, List.set_cons_zero, List.set_cons_succ]
                  have rowq := (own_row (Q := fun _ => True) ow3 vn3 (fun _ _ _ => trivial)).1
                  have RUN := hide (unhide IHX _ u4 (unhide SB _ hHeld) rowq)
                  refine wpAnyH_ready (rs := [8]) (by kernel_rfl) (by simp) ?_
                  refine AllReadyH.cons rfl (fun K0 hK0 => ?_) AllReadyH.nil
                  go_simp
                  refine (unhide RUN).mono ?_
                  rintro e y9 ⟨⟨r, vv, hlf, rfl, hrow⟩, j9⟩
                  have hlf := hide hlf
                  have hrow := hide hrow
                  have j9' : Below V.heap.size u4 y9 := j9.mono hzu4
                  go_wp2_with fail
                  refine hK0.out _ _ (unhide SKC _ _ hHeld j9') (fun hHeld1 => ?_)
                  clear hK0 K0 hHeld RUN rowq j9 j9'
                  have hHeld := hHeld1
                  clear hHeld1
                  try simp only [Act.put, List.setIfInBounds_toArray, List.set_cons_zero, List.set_cons_succ]
                  refine takeC 9 (some 47) ?_
                  refine takeC 10 (some 57) ?_
                  refine takeC 11 (some 58) ?_
                  refine takeC 12 (some 11) ?_
                  refine takeC 13 (some 12) ?_
                  refine wpAnyH_done (by kernel_rfl) ?_ _
                  refine NoPanic.normal ?_
                  have BQ := unhide SB _ hHeld
                  clear hHeld
                  go_wp2_with fail
                  go_meet
                  exact ⟨r, vv, rfl, rfl, hlf, hrow, BQ⟩
          case a0_6 =>
            go_simp
            have hzu1 : V.heap.size ≤ (u0.alloc (Obj.cells #[.int .i64 x] 3)).heap.size := by simp; omega
            have cXu1 : (u0.alloc (Obj.cells #[.int .i64 x] 3)).cell? ⟨u0.heap.size, 0, none⟩ = some (.int .i64 x) := by go_simp
            refine hK0.out _ _ (unhide SKC _ _ hHeld ((Below.refl _ _).alloc hzu0 _)) (fun hHeld1 => ?_)
            clear hK0 K0 hHeld
            have hHeld := hHeld1
            clear hHeld1
            generalize u0.alloc (Obj.cells #[.int .i64 x] 3) = u1 at *
            try simp only [Act.put, List.setIfInBounds_toArray, List.set_cons_zero, List.set_cons_succ]
            refine wpAnyH_ready (rs := [2]) (by kernel_rfl) (by simp) ?_
            refine AllReadyH.cons rfl (fun K0 hK0 => ?a1_2) (AllReadyH.nil)
            case a1_2 =>
              go_simp
              have hzu2 : V.heap.size ≤ (u1.alloc (Obj.cells #[] 3)).heap.size := by simp; omega
              have oAu2 : Own1 V.heap.size (u1.alloc (Obj.cells #[] 3)) (.slice (some ⟨u1.heap.size, 0, none⟩) 0 0) [] := ⟨rfl, .inr ⟨u1.heap.size, 0, #[], rfl, hzu1, Deep.blk_alloc_new _ _, by simp, by unfold maxLen; omega, rfl, rfl⟩⟩
              have cXu2 : (u1.alloc (Obj.cells #[] 3)).cell? ⟨u0.heap.size, 0, none⟩ = some (.int .i64 x) := kcx (below1 _ _) cXu1
              refine hK0.out _ _ (unhide SKC _ _ hHeld ((Below.refl _ _).alloc hzu1 _)) (fun hHeld1 => ?_)
              have gneu2 : some u0.heap.size ≠ (Value.slice (some ⟨u1.heap.size, 0, none⟩) 0 0).ownBlock := fun e => absurd (Option.some.inj e) (Nat.ne_of_lt (World.block_lt_of_cell? _ _ cXu1))
              clear hK0 K0 hHeld
              have hHeld := hHeld1
              clear hHeld1
              generalize u1.alloc (Obj.cells #[] 3) = u2 at *
              try simp only [Act.put, List.setIfInBounds_toArray, List.set_cons_zero, List.set_cons_succ]
              refine wpAnyH_ready (rs := [4]) (by kernel_rfl) (by simp) ?_
              refine AllReadyH.cons rfl (fun K0 hK0 => ?a2_4) (AllReadyH.nil)
              case a2_4 =>
                refine step_row rfl _ _ rfl V.heap.size _ [] rfl oAu2 (show (Value.slice (some ⟨u1.heap.size, 0, none⟩) 0 0) ≠ .slice none 0 0 by simp) _ p rfl (unhide HRV _ (unhide SB _ hHeld)) (unhide HP0) (by simp; omega) hzu2 ?_
                intro va2 u3 ow2 vn2 gr2 al2
                have B2 : Below V.heap.size u2 u3 := (Below.refl _ _).grown gr2 hzu2 (fun k hk => own_ge oAu2 k hk)
                have hzu3 : V.heap.size ≤ u3.heap.size := Nat.le_trans hzu2 gr2.size
                have cXu3 : u3.cell? ⟨u0.heap.size, 0, none⟩ = some (.int .i64 x) := gr2.cell cXu2 gneu2
                refine hK0.out _ _ (unhide SKC _ _ hHeld B2) (fun hHeld1 => ?_)
                clear hK0 K0 hHeld
                have hHeld := hHeld1
                clear hHeld1
                try simp only [Act.put, List.setIfInBounds_toArray, List.set_cons_zero, List.set_cons_succ]
                have oAu3 : Own1 V.heap.size u3 va2 p := by simpa using ow2
                refine wpAnyH_ready (rs := [7]) (by kernel_rfl) (by simp) ?_
                refine AllReadyH.cons rfl (fun K0 hK0 => ?a3_7) (AllReadyH.nil)
                case a3_7 =>
                  refine step_n rfl _ _ rfl V.heap.size _ p rfl oAu3 u0.heap.size x rfl cXu3 (by omega) hzu3 ?_
                  intro va3 u4 ow3 vn3 gr3
                  have B3 : Below V.heap.size u3 u4 := (Below.refl _ _).grown gr3 hzu3 (fun k hk => own_ge oAu3 k hk)
                  have hzu4 : V.heap.size ≤ u4.heap.size := Nat.le_trans hzu3 gr3.size
                  refine hK0.out _ _ (unhide SKC _ _ hHeld B3) (fun hHeld1 => ?_)
                  clear hK0 K0 hHeld
                  have hHeld := hHeld1
                  clear hHeld1
                  try simp only [Act.put, List.setIfInBounds_toArray, List.set_cons_zero, List.set_cons_succ]
                  have rowq := (own_row (Q := fun _ => True) ow3 vn3 (fun _ _ _ => trivial)).1
                  have RUN := hide (unhide IHX _ u4 (unhide SB _ hHeld) rowq)
                  refine wpAnyH_ready (rs := [8]) (by kernel_rfl) (by simp) ?_
                  refine AllReadyH.cons rfl (fun K0 hK0 => ?_) AllReadyH.nil
                  go_simp
                  refine (unhide RUN).mono ?_
                  rintro e y9 ⟨⟨r, vv, hlf, rfl, hrow⟩, j9⟩
                  have hlf := hide hlf
                  have hrow := hide hrow
                  have j9' : Below V.heap.size u4 y9 := j9.mono hzu4
                  go_wp2_with fail
                  refine hK0.out _ _ (unhide SKC _ _ hHeld j9') (fun hHeld1 => ?_)
                  clear hK0 K0 hHeld RUN rowq j9 j9'
                  have hHeld := hHeld1
                  clear hHeld1
                  try simp only [Act.put, List.setIfInBounds_toArray, List.set_cons_zero, List.set_cons_succ]
                  refine takeC 9 (some 47) ?_
                  refine takeC 10 (some 57) ?_
                  refine takeC 11 (some 58) ?_
                  refine takeC 12 (some 11) ?_
                  refine takeC 13 (some 12) ?_
                  refine wpAnyH_done (by kernel_rfl) ?_ _
                  refine NoPanic.normal ?_
                  have BQ := unhide SB _ hHeld
                  clear hHeld
                  go_wp2_with fail
                  go_meet
                  exact ⟨r, vv, rfl, rfl, hlf, hrow, BQ⟩
        case rest =>
          obtain ⟨r, vv, rfl, rfl, hr, hrow, bex⟩ := hcut
          have belx := bstep belw bex
          cases r with
          | some q =>
            have F : Hid (LR n (xl, xh) l p (.returned (.tuple #[vv, .bool true])) wc) := hide ⟨some q, vv, unhide GF x q (unhide GO) (unhide hr), rfl, unhide hrow⟩
            clear GS GF GE GO LB hr hrow IHX HRV HB
            simp only [Option.isSome_some]
            go_wp2_with fail
            go_ret2
            exact ⟨unhide F, belx⟩
          | none =>
            simp only [Option.isSome_none]
            have k0 := kcx bex k0
            have k1 := kcx bex k1
            have k3 := kcx bex k3
            have HBX := hide ((unhide HB).below belx)
            have NEXT := hide (fun nx h => unhide GS x nx (unhide GO) (unhide hr) ⟨hx1, hxt⟩ h)
            clear IHX HRV hrow HB GS GF GE GO hr
            go_wp2_with fail
            go_loopw [13, 14] (fun v i wr => ∃ (m : Nat) (nx : Int), Below wc.heap.size wc wr ∧ m ≤ l.length ∧ i = .int .i64 m ∧ v = .int .i64 nx ∧ x < nx ∧ nx ≤ hi + 1 ∧ Hid (∀ j, j < m → ix (bx l j).1 p.length ≤ x → x ≤ ix (bx l j).2 p.length → nx ≤ ix (bx l j).2 p.length + 1)) (fun _ i _ => l.length - (intOf i).toNat)
            case atStart => exact ⟨0, hi + 1, Below.refl _ _, Nat.zero_le _, rfl, by go_num, by omega, by omega, hide (fun j hj => absurd hj (Nat.not_lt_zero _))⟩
            case round =>
              obtain ⟨m, nx, bew, hm, rfl, rfl, hn1, hn2, HN⟩ := hrel
              by_cases hmt : m < l.length
              · obtain ⟨blA, oA, r1, r2, rfl, hqA, hbA, kA, kB, kC⟩ := (unhide HBX).below bew m hmt
                obtain ⟨q0, q1, q2, q3, q4⟩ := unhide LB m hmt
                obtain ⟨a4, c4, rfl⟩ := kC.1.form
                obtain ⟨a5, c5, rfl⟩ := kC.2.form
                have z1 := kC.1.at.2.2
                have z2 := kC.2.at.2.2
                rw [q3] at z1 kA
                rw [q4] at z2 kB
                obtain ⟨g1, f1, rfl, s1, y5⟩ := z1 p.length hd
                obtain ⟨g2, f2, rfl, s2, y6⟩ := z2 p.length hd
                have UP : Hid (∀ nx', nx' ≤ nx → (ix (bx l m).1 p.length ≤ x → x ≤ ix (bx l m).2 p.length → nx' ≤ ix (bx l m).2 p.length + 1) → ∀ j, j < m + 1 → ix (bx l j).1 p.length ≤ x → x ≤ ix (bx l j).2 p.length → nx' ≤ ix (bx l j).2 p.length + 1) := hide (fun nx' h1 h2 j hj h3 h4 => by
                  by_cases e : j = m
                  · subst e; exact h2 h3 h4
                  · have := unhide HN j (by omega) h3 h4; omega)
                clear HN LB HBX NEXT kC z1 z2 q3 q4
                generalize ix (bx l m).1 p.length = p1 at *
                generalize ix (bx l m).2 p.length = p2 at *
                by_cases c1 : p1 ≤ x
                · by_cases c2 : x ≤ p2
                  · by_cases c3 : p2 + 1 < nx
                    · have F := hide (unhide UP (p2 + 1) (by omega) (fun _ _ => by omega))
                      clear UP
                      go_wp2_with fail
                      go_roundw
                      case rel => exact ⟨m + 1, p2 + 1, bew, by omega, by go_num, by go_num, by omega, by omega, F⟩
                      case measure => simp [intOf]; omega
                    · have F := hide (unhide UP nx (by omega) (fun _ _ => by omega))
                      clear UP
                      go_wp2_with fail
                      go_roundw
                      case rel => exact ⟨m + 1, nx, bew, by omega, by go_num, by go_num, by omega, by omega, F⟩
                      case measure => simp [intOf]; omega
                  · have F := hide (unhide UP nx (by omega) (fun _ h => absurd h c2))
                    clear UP
                    go_wp2_with fail
                    go_roundw
                    case rel => exact ⟨m + 1, nx, bew, by omega, by go_num, by go_num, by omega, by omega, F⟩
                    case measure => simp [intOf]; omega
                · by_cases c4 : p1 < nx
                  · have F := hide (unhide UP p1 (by omega) (fun h _ => absurd h c1))
                    clear UP
                    go_wp2_with fail
                    go_roundw
                    case rel => exact ⟨m + 1, p1, bew, by omega, by go_num, by go_num, by omega, by omega, F⟩
                    case measure => simp [intOf]; omega
                  · have F := hide (unhide UP nx (by omega) (fun h _ => absurd h c1))
                    clear UP
                    go_wp2_with fail
                    go_roundw
                    case rel => exact ⟨m + 1, nx, bew, by omega, by go_num, by go_num, by omega, by omega, F⟩
                    case measure => simp [intOf]; omega
              · have F := hide (unhide NEXT nx (fun j hj => unhide HN j (by omega)))
                clear NEXT HN LB HBX
                go_wp2_with fail
                go_roundw
                case rel => exact ⟨nx, rfl, by omega, by omega, bstep (bstep bel bex) bew, F⟩
                case measure => simp [intOf]; omega
      · have F : Hid (LR n (xl, xh) l p (.returned (.tuple #[.slice none 0 0, .bool false])) wr) := hide ⟨none, _, unhide GE x (unhide GO) (by omega), rfl, row_nil wr⟩
        clear GS GF GE GO LB IH HB HR HF HW HI IN GI
        go_wp2_with fail
        go_ret2
        exact ⟨unhide F, belw⟩
end Go.Proofs.Ytpoejhdkgfikdaa

