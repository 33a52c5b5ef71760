/- The walk of GapsParts: a whole that is parted along a side has no hole and no overlap; without one part its hole is that part's first point. -/
import Derived.Test.YtpoejhdkgfikdaaBxPart
import Derived.Test.YtpoejhdkgfikdaaBxOver
import Derived.Test.YtpoejhdkgfikdaaBxKnown
import Derived.Test.YtpoejhdkgfikdaaBxAnd
namespace Go.Proofs.Ytpoejhdkgfikdaa
open Go.ChangeShapes Go.WideShapes Go.RowKit
set_option linter.unusedVariables false
set_option linter.unusedSimpArgs false

theorem rest_128 (p : Int) : 0 ≤ p % 128 ∧ p % 128 ≤ 127 := by
  have h4 := Int.emod_nonneg p (show (128 : Int) ≠ 0 by omega)
  have h5 := Int.emod_lt_of_pos p (show (0 : Int) < 128 by omega)
  omega
theorem chain_fit {l : List Pt} {a b : Int} (h : chain a l b) : a ≤ b := (chain_bd h).1

set_option maxHeartbeats 1500000 in
set_option maxRecDepth 10000 in
theorem gapsParts_walk (hi : Int) (ac : Option Addr) (cc : Nat) (cs : List Int) (gone : Int) (_ : (Lit.int .i64 hi).wf = true) (wg : (Lit.int .i64 gone).wf = true) (w : World) (hcs : RowI (fun _ => True) w (.slice ac cs.length cc) cs) (wfc : ∀ x ∈ cs, (Lit.int .i64 x).wf = true) :
    Calls Try.prog 6 #[.int .i64 hi, .slice ac cs.length cc, .int .i64 gone] w fun e w' => e = .returned (.bool true) ∧ Below w.heap.size w w' := by
  have KN := hide (fun w' => known_any w')
  have HC := hide hcs.at.2.2
  have m0 := hcs.at.2.1
  unfold maxLen at m0
  clear hcs
  by_cases g1 : hi < 0
  · clear KN HC
    go_enter Try.func6, Try.ntmps6
    go_wp2_with fail
    go_ret
    exact ⟨rfl, Below.refl _ _⟩
  by_cases g2 : 1000 < hi
  · clear KN HC
    go_enter Try.func6, Try.ntmps6
    go_wp2_with fail
    go_ret
    exact ⟨rfl, Below.refl _ _⟩
  by_cases g3 : 6 < cs.length
  · clear KN HC
    go_enter Try.func6, Try.ntmps6
    go_wp2_with fail
    go_ret
    exact ⟨rfl, Below.refl _ _⟩
  by_cases g4 : gone < -1
  · clear KN HC
    go_enter Try.func6, Try.ntmps6
    go_wp2_with fail
    go_ret
    exact ⟨rfl, Below.refl _ _⟩
  go_enter Try.func6, Try.ntmps6
  go_wp2_with fail
  go_loopw [7, 8, 9] (fun v f i wr => ∃ (j : Nat) (ps : List Pt) (from' : Int), j ≤ cs.length ∧ i = .int .i64 j ∧ f = .int .i64 from' ∧ 0 ≤ from' ∧ from' ≤ hi ∧ ps.length ≤ j ∧ Hid (chain 0 ps from') ∧ Hid (PR w.heap.size wr v ps) ∧ Below w.heap.size w wr) (fun _ _ i _ => cs.length - (intOf i).toNat)
  case atStart => exact ⟨0, [], 0, Nat.zero_le _, rfl, rfl, by omega, by omega, Nat.le_refl _, hide rfl, hide ⟨⟨rfl, .inl ⟨rfl, rfl⟩⟩, fun p hp => by cases hp⟩, Below.refl _ _⟩
  case round =>
    obtain ⟨j, ps, from', hj, rfl, rfl, f0, f1, hps, CH, OWN, bel⟩ := hrel
    by_cases hlt : j < cs.length
    · obtain ⟨bl, o, rfl, t1, y1⟩ := unhide HC j hlt
      have y2 := ((bcell bel).1 _ _ t1).trans y1
      clear y1
      generalize ix cs j = cv at *
      have hb := band_127 cv
      have hr := rest_128 cv
      generalize cv % 128 = r at *
      obtain ⟨hr0, hr1⟩ := hr
      by_cases c1 : from' + r < hi
      · have NEWC : Hid (∀ g h, chain 0 (ps ++ [(from', from' + r, g, h)]) (from' + r + 1)) := hide (fun g h => chain_snoc (unhide CH) (by omega))
        have B3 : Below w.heap.size w (((wr.alloc (Obj.cells #[.int .i64 from', .int .i64 0] 3)).alloc (Obj.cells #[.int .i64 (from' + r), .int .i64 5] 3)).alloc (Obj.cells #[.slice (some ⟨wr.heap.size, 0, none⟩) 2 2, .slice (some ⟨wr.heap.size + 1, 0, none⟩) 2 2] 25)) := bstep bel (below3 _ _ _ _)
        have hsz : (((wr.alloc (Obj.cells #[.int .i64 from', .int .i64 0] 3)).alloc (Obj.cells #[.int .i64 (from' + r), .int .i64 5] 3)).alloc (Obj.cells #[.slice (some ⟨wr.heap.size, 0, none⟩) 2 2, .slice (some ⟨wr.heap.size + 1, 0, none⟩) 2 2] 25)).heap.size = wr.heap.size + 3 := by simp
        have OW3 := hide ((unhide OWN).below (below3 wr (Obj.cells #[.int .i64 from', .int .i64 0] 3) (Obj.cells #[.int .i64 (from' + r), .int .i64 5] 3) (Obj.cells #[.slice (some ⟨wr.heap.size, 0, none⟩) 2 2, .slice (some ⟨wr.heap.size + 1, 0, none⟩) 2 2] 25)))
        have q0 : (((wr.alloc (Obj.cells #[.int .i64 from', .int .i64 0] 3)).alloc (Obj.cells #[.int .i64 (from' + r), .int .i64 5] 3)).alloc (Obj.cells #[.slice (some ⟨wr.heap.size, 0, none⟩) 2 2, .slice (some ⟨wr.heap.size + 1, 0, none⟩) 2 2] 25)).cell? ⟨wr.heap.size + 2, 0, none⟩ = some (.slice (some ⟨wr.heap.size, 0, none⟩) 2 2) := by go_simp
        have q1 : (((wr.alloc (Obj.cells #[.int .i64 from', .int .i64 0] 3)).alloc (Obj.cells #[.int .i64 (from' + r), .int .i64 5] 3)).alloc (Obj.cells #[.slice (some ⟨wr.heap.size, 0, none⟩) 2 2, .slice (some ⟨wr.heap.size + 1, 0, none⟩) 2 2] 25)).cell? ⟨wr.heap.size + 2, 1, none⟩ = some (.slice (some ⟨wr.heap.size + 1, 0, none⟩) 2 2) := by go_simp
        have z0 : NB (((wr.alloc (Obj.cells #[.int .i64 from', .int .i64 0] 3)).alloc (Obj.cells #[.int .i64 (from' + r), .int .i64 5] 3)).alloc (Obj.cells #[.slice (some ⟨wr.heap.size, 0, none⟩) 2 2, .slice (some ⟨wr.heap.size + 1, 0, none⟩) 2 2] 25)) wr.heap.size from' 0 := NB.below (w := wr.alloc _) (Deep.blk_alloc_new _ _) (below2 _ _ _)
        have z1 : NB (((wr.alloc (Obj.cells #[.int .i64 from', .int .i64 0] 3)).alloc (Obj.cells #[.int .i64 (from' + r), .int .i64 5] 3)).alloc (Obj.cells #[.slice (some ⟨wr.heap.size, 0, none⟩) 2 2, .slice (some ⟨wr.heap.size + 1, 0, none⟩) 2 2] 25)) (wr.heap.size + 1) (from' + r) 5 := by
          have := Deep.blk_alloc_new (wr.alloc (Obj.cells #[.int .i64 from', .int .i64 0] 3)) (Obj.cells #[.int .i64 (from' + r), .int .i64 5] 3)
          rw [show (wr.alloc (Obj.cells #[.int .i64 from', .int .i64 0] 3)).heap.size = wr.heap.size + 1 by simp] at this
          exact NB.below (w := (wr.alloc _).alloc _) this (below1 _ _)
        have hws : w.heap.size ≤ wr.heap.size := bel.size
        clear CH OWN
        go_wp2_with (at_builtin; go_must (refine wpList_b rfl _ _ rfl w.heap.size _ ps rfl (unhide OW3) (wr.heap.size + 2) (from', from' + r, wr.heap.size, wr.heap.size + 1) rfl q0 q1 z0 z1 (by omega) (by omega) ?_))
        intro v' w' own' gr
        have B4 := B3.grown gr (by omega) (fun k hk => ownB_ge (unhide OW3).1 k hk)
        have NEWC := hide (unhide NEWC wr.heap.size (wr.heap.size + 1))
        have own' := hide own'
        clear OW3 q0 q1 z0 z1 B3 gr
        go_wp2_with fail
        go_roundw
        case rel => exact ⟨j + 1, _, from' + r + 1, by omega, by go_num, by go_num, by omega, by omega, by simp; omega, NEWC, own', B4⟩
        case measure => simp [intOf]; omega
      · go_wp2_with fail
        go_roundw
        case rel => exact ⟨j + 1, ps, from', by omega, by go_num, rfl, f0, f1, by omega, CH, OWN, bel⟩
        case measure => simp [intOf]; omega
    · obtain ⟨V, hV⟩ : ∃ V, V = wr := ⟨_, rfl⟩
      subst hV
      have hps8 : ps.length ≤ 6 := by omega
      have NEWC : Hid (∀ g h, chain 0 (ps ++ [(from', hi, g, h)]) (hi + 1)) := hide (fun g h => chain_snoc (unhide CH) (by omega))
      have B3 : Below w.heap.size w (((V.alloc (Obj.cells #[.int .i64 from', .int .i64 0] 3)).alloc (Obj.cells #[.int .i64 hi, .int .i64 5] 3)).alloc (Obj.cells #[.slice (some ⟨V.heap.size, 0, none⟩) 2 2, .slice (some ⟨V.heap.size + 1, 0, none⟩) 2 2] 25)) := bstep bel (below3 _ _ _ _)
      have hsz : (((V.alloc (Obj.cells #[.int .i64 from', .int .i64 0] 3)).alloc (Obj.cells #[.int .i64 hi, .int .i64 5] 3)).alloc (Obj.cells #[.slice (some ⟨V.heap.size, 0, none⟩) 2 2, .slice (some ⟨V.heap.size + 1, 0, none⟩) 2 2] 25)).heap.size = V.heap.size + 3 := by simp
      have OW3 := hide ((unhide OWN).below (below3 V (Obj.cells #[.int .i64 from', .int .i64 0] 3) (Obj.cells #[.int .i64 hi, .int .i64 5] 3) (Obj.cells #[.slice (some ⟨V.heap.size, 0, none⟩) 2 2, .slice (some ⟨V.heap.size + 1, 0, none⟩) 2 2] 25)))
      have q0 : (((V.alloc (Obj.cells #[.int .i64 from', .int .i64 0] 3)).alloc (Obj.cells #[.int .i64 hi, .int .i64 5] 3)).alloc (Obj.cells #[.slice (some ⟨V.heap.size, 0, none⟩) 2 2, .slice (some ⟨V.heap.size + 1, 0, none⟩) 2 2] 25)).cell? ⟨V.heap.size + 2, 0, none⟩ = some (.slice (some ⟨V.heap.size, 0, none⟩) 2 2) := by go_simp
      have q1 : (((V.alloc (Obj.cells #[.int .i64 from', .int .i64 0] 3)).alloc (Obj.cells #[.int .i64 hi, .int .i64 5] 3)).alloc (Obj.cells #[.slice (some ⟨V.heap.size, 0, none⟩) 2 2, .slice (some ⟨V.heap.size + 1, 0, none⟩) 2 2] 25)).cell? ⟨V.heap.size + 2, 1, none⟩ = some (.slice (some ⟨V.heap.size + 1, 0, none⟩) 2 2) := by go_simp
      have z0 : NB (((V.alloc (Obj.cells #[.int .i64 from', .int .i64 0] 3)).alloc (Obj.cells #[.int .i64 hi, .int .i64 5] 3)).alloc (Obj.cells #[.slice (some ⟨V.heap.size, 0, none⟩) 2 2, .slice (some ⟨V.heap.size + 1, 0, none⟩) 2 2] 25)) V.heap.size from' 0 := NB.below (w := V.alloc _) (Deep.blk_alloc_new _ _) (below2 _ _ _)
      have z1 : NB (((V.alloc (Obj.cells #[.int .i64 from', .int .i64 0] 3)).alloc (Obj.cells #[.int .i64 hi, .int .i64 5] 3)).alloc (Obj.cells #[.slice (some ⟨V.heap.size, 0, none⟩) 2 2, .slice (some ⟨V.heap.size + 1, 0, none⟩) 2 2] 25)) (V.heap.size + 1) hi 5 := by
        have := Deep.blk_alloc_new (V.alloc (Obj.cells #[.int .i64 from', .int .i64 0] 3)) (Obj.cells #[.int .i64 hi, .int .i64 5] 3)
        rw [show (V.alloc (Obj.cells #[.int .i64 from', .int .i64 0] 3)).heap.size = V.heap.size + 1 by simp] at this
        exact NB.below (w := (V.alloc _).alloc _) this (below1 _ _)
      have hws : w.heap.size ≤ V.heap.size := bel.size
      clear CH OWN HC
      go_wp2_with (at_builtin; go_must (refine wpList_b rfl _ _ rfl w.heap.size _ ps rfl (unhide OW3) (V.heap.size + 2) (from', hi, V.heap.size, V.heap.size + 1) rfl q0 q1 z0 z1 (by omega) (by omega) ?_))
      intro v' w1 own' gr
      have B4 := B3.grown gr (by omega) (fun k hk => ownB_ge (unhide OW3).1 k hk)
      have CHN := hide (unhide NEWC V.heap.size (V.heap.size + 1))
      have hlen8 : (ps ++ [(from', hi, V.heap.size, V.heap.size + 1)]).length ≤ 7 ∧ 0 < (ps ++ [(from', hi, V.heap.size, V.heap.size + 1)]).length := by simp; omega
      generalize ps ++ [(from', hi, V.heap.size, V.heap.size + 1)] = l at *
      clear OW3 q0 q1 z0 z1 B3 gr NEWC
      obtain ⟨hl7, hl0⟩ := hlen8
      obtain ⟨gl, cl, rfl, hBl, hgl, hcl, hcell⟩ := own'.form hl0
      have NS := hide own'.2
      have HCL := hide hcell
      clear own' hcell
      have BW : Below w1.heap.size w1 (((w1.alloc (Obj.cells #[.int .i64 0, .int .i64 0] 3)).alloc (Obj.cells #[.int .i64 hi, .int .i64 5] 3)).alloc (Obj.cells #[.slice (some ⟨w1.heap.size, 0, none⟩) 2 2, .slice (some ⟨w1.heap.size + 1, 0, none⟩) 2 2] 25)) := below3 _ _ _ _
      have x0 : (((w1.alloc (Obj.cells #[.int .i64 0, .int .i64 0] 3)).alloc (Obj.cells #[.int .i64 hi, .int .i64 5] 3)).alloc (Obj.cells #[.slice (some ⟨w1.heap.size, 0, none⟩) 2 2, .slice (some ⟨w1.heap.size + 1, 0, none⟩) 2 2] 25)).cell? ⟨w1.heap.size + 2, 0, none⟩ = some (.slice (some ⟨w1.heap.size, 0, none⟩) 2 2) := by go_simp
      have x1 : (((w1.alloc (Obj.cells #[.int .i64 0, .int .i64 0] 3)).alloc (Obj.cells #[.int .i64 hi, .int .i64 5] 3)).alloc (Obj.cells #[.slice (some ⟨w1.heap.size, 0, none⟩) 2 2, .slice (some ⟨w1.heap.size + 1, 0, none⟩) 2 2] 25)).cell? ⟨w1.heap.size + 2, 1, none⟩ = some (.slice (some ⟨w1.heap.size + 1, 0, none⟩) 2 2) := by go_simp
      have y0 : NB (((w1.alloc (Obj.cells #[.int .i64 0, .int .i64 0] 3)).alloc (Obj.cells #[.int .i64 hi, .int .i64 5] 3)).alloc (Obj.cells #[.slice (some ⟨w1.heap.size, 0, none⟩) 2 2, .slice (some ⟨w1.heap.size + 1, 0, none⟩) 2 2] 25)) w1.heap.size 0 0 := NB.below (w := w1.alloc _) (Deep.blk_alloc_new _ _) (below2 _ _ _)
      have y1 : NB (((w1.alloc (Obj.cells #[.int .i64 0, .int .i64 0] 3)).alloc (Obj.cells #[.int .i64 hi, .int .i64 5] 3)).alloc (Obj.cells #[.slice (some ⟨w1.heap.size, 0, none⟩) 2 2, .slice (some ⟨w1.heap.size + 1, 0, none⟩) 2 2] 25)) (w1.heap.size + 1) hi 5 := by
        have := Deep.blk_alloc_new (w1.alloc (Obj.cells #[.int .i64 0, .int .i64 0] 3)) (Obj.cells #[.int .i64 hi, .int .i64 5] 3)
        rw [show (w1.alloc (Obj.cells #[.int .i64 0, .int .i64 0] 3)).heap.size = w1.heap.size + 1 by simp] at this
        exact NB.below (w := (w1.alloc _).alloc _) this (below1 _ _)
      have HBX := hide (fun w' (k : Below w1.heap.size w1 w') => bxs_of (g := gl) (l := l) (w := w') (Nat.lt_of_lt_of_le hgl k.size) (fun j hj => ((bcell k).1 gl j hgl).trans (unhide HCL j hj)) ((unhide NS).below k))
      go_wp2_with fail
      generalize ((w1.alloc (Obj.cells #[.int .i64 0, .int .i64 0] 3)).alloc (Obj.cells #[.int .i64 hi, .int .i64 5] 3)).alloc (Obj.cells #[.slice (some ⟨w1.heap.size, 0, none⟩) 2 2, .slice (some ⟨w1.heap.size + 1, 0, none⟩) 2 2] 25) = W3 at *
      have HWX := hide (fun w' (k : Below W3.heap.size W3 w') => (⟨(y0.below k).row, (y1.below k).row⟩ : BoxI (fun _ => True) w' (.slice (some ⟨w1.heap.size, 0, none⟩) 2 2) (.slice (some ⟨w1.heap.size + 1, 0, none⟩) 2 2) ([0, 0], [hi, 5])))
      have HOL := hide (fun (r : List Pt) (gr cr : Nat) w' (k : Below W3.heap.size W3 w') (hb : BxsI (fun _ => True) w' (some ⟨gr, 0, none⟩) (r.map partB)) (hf : fel (r.map partB) 2) => (by
        have := ghole_any (fun _ => True) (some ⟨gr, 0, none⟩) cr (r.map partB) ([0, 0], [hi, 5]) _ _ w' hb (unhide HWX w' k) (okWhole (by omega) (by omega)) hf
        rw [List.length_map] at this
        exact this : Calls Try.prog 11 #[.slice (some ⟨gr, 0, none⟩) r.length cr, .agg #[.slice (some ⟨w1.heap.size, 0, none⟩) 2 2, .slice (some ⟨w1.heap.size + 1, 0, none⟩) 2 2]] w' fun e w'' => HR ([0, 0], [hi, 5]) (r.map partB) w'.heap.size e w'' ∧ Below w'.heap.size w' w''))
      have FEL := hide (parts_fel (unhide CHN) (by omega) (by omega))
      have B5 := B4.trans (BW.mono (by omega)) 
      refine (unhide HOL l gl cl W3 (Below.refl _ _) (unhide HBX _ BW) (unhide FEL)).mono ?_
      rintro e W4 ⟨⟨r, gq, hr, rfl, -⟩, b4⟩
      obtain rfl := LF_one hr (parts_none (unhide CHN))
      unfold Ret
      have OVR := hide (fun w' (k : Below w1.heap.size w1 w') => (by
        have := gover_any (fun _ => True) (some ⟨gl, 0, none⟩) cl 2 (l.map partB) w' (unhide HBX w' k) (unhide FEL)
        rw [List.length_map] at this
        exact this : Calls Try.prog 13 #[.slice (some ⟨gl, 0, none⟩) l.length cl] w' fun e w'' => OVe (l.map partB) e ∧ Below w'.heap.size w' w''))
      have APT : Hid (OV (l.map partB) 0 0 false) := hide (.inr ⟨rfl, rfl, rfl, fun c d h1 h2 => parts_apart (unhide CHN) c d h1 (by simpa using h2)⟩)
      clear hr y0 y1
      go_wp2_with fail
      refine (unhide OVR _ (bstep BW b4)).mono ?_
      rintro e W5 ⟨⟨i, k, o, rfl, hov⟩, b5⟩
      obtain ⟨rfl, rfl, rfl⟩ := OV_one hov (unhide APT)
      have B45 := bstep b4 b5
      have BW5 := bstep BW B45
      have B6 := B5.trans (B45.mono (by have := BW.size; have := B4.size; omega))
      have x0 := kcx B45 x0
      have x1 := kcx B45 x1
      clear hov APT OVR b4 b5
      by_cases e1 : gone < 0
      · clear HBX HWX HOL FEL CHN NS HCL
        go_wp2_with fail
        refine (unhide KN _).mono ?_
        rintro e W9 ⟨rfl, b9⟩
        go_wp2_with fail
        go_ret
        exact ⟨rfl, B6.trans (b9.mono (by have := B6.size; omega))⟩
      obtain ⟨gN, rfl⟩ : ∃ gN : Nat, gone = gN := ⟨gone.toNat, by omega⟩
      by_cases e2 : l.length ≤ gN
      · clear HBX HWX HOL FEL CHN NS HCL
        go_wp2_with fail
        refine (unhide KN _).mono ?_
        rintro e W9 ⟨rfl, b9⟩
        go_wp2_with fail
        go_ret
        exact ⟨rfl, B6.trans (b9.mono (by have := B6.size; omega))⟩
      have hgN : gN < l.length := by omega
      obtain ⟨p0, p1⟩ := ptC_get l gN hgN
      have NG := (unhide NS).below BW5 l[gN] (List.getElem_mem hgN)
      have kg0 : W5.cell? ⟨gl, gN * 2, none⟩ = some (.slice (some ⟨l[gN].2.2.1, 0, none⟩) 2 2) := ((bcell BW5).1 gl _ hgl).trans ((unhide HCL _ (by omega)).trans p0)
      have kg1 : W5.cell? ⟨gl, gN * 2 + 1, none⟩ = some (.slice (some ⟨l[gN].2.2.2, 0, none⟩) 2 2) := ((bcell BW5).1 gl _ hgl).trans ((unhide HCL _ (by omega)).trans p1)
      have HOLE := hide (parts_hole (unhide CHN) hgN)
      have hNG := NG.1
      have SUBF : Hid (fel ((l.take gN ++ l.drop (gN + 1)).map partB) 2) := hide (parts_sub (unhide CHN) (by omega) (fun p hp => by
        rcases List.mem_append.1 hp with h | h
        · exact List.mem_of_mem_take h
        · exact List.mem_of_mem_drop h) (by simp; omega))
      generalize hlg : l[gN] = lg at *
      obtain ⟨lf, lt, lb1, lb2⟩ := lg
      dsimp only at hNG kg0 kg1
      clear p0 p1 NG hlg FEL CHN
      have B7 := below1 W5 (Obj.cells #[.slice (some ⟨lb1, 0, none⟩) 2 2, .slice (some ⟨lb2, 0, none⟩) 2 2] 25)
      have hNG := hNG.below B7
      have z0 : (W5.alloc (Obj.cells #[.slice (some ⟨lb1, 0, none⟩) 2 2, .slice (some ⟨lb2, 0, none⟩) 2 2] 25)).cell? ⟨W5.heap.size, 0, none⟩ = some (.slice (some ⟨lb1, 0, none⟩) 2 2) := by go_simp
      have x0 := kcx B7 x0
      have x1 := kcx B7 x1
      go_wp2_with fail
      generalize W5.alloc (Obj.cells #[.slice (some ⟨lb1, 0, none⟩) 2 2, .slice (some ⟨lb2, 0, none⟩) 2 2] 25) = W6 at *
      have BW6 := bstep BW5 B7
      have HC6 : Hid (∀ j, j < l.length * 2 → gl < W6.heap.size ∧ W6.cell? ⟨gl, j, none⟩ = (ptC l)[j]?) := hide (fun j hj => ⟨Nat.lt_of_lt_of_le hgl BW6.size, ((bcell BW6).1 gl j hgl).trans (unhide HCL j hj)⟩)
      have NS6 := hide ((unhide NS).below BW6)
      have B8 := B6.trans (B7.mono (by have := B6.size; omega))
      have B46 := bstep B45 B7
      have BM : Hid (∀ w' v' n', Below W6.heap.size W6 w' → w'.ownsRow W6.heap.size 25 2 v' n' (ptC (l.take gN ++ l.drop (gN + 1))) → v' ≠ .slice none 0 0 → ∃ gr cr, v' = .slice (some ⟨gr, 0, none⟩) (l.take gN ++ l.drop (gN + 1)).length cr ∧ BxsI (fun _ => True) w' (some ⟨gr, 0, none⟩) ((l.take gN ++ l.drop (gN + 1)).map partB)) := hide (fun w' v' n' kb own hv => by
        have hnl := own.1
        rw [ptC_len] at hnl
        have hn' : n' = (l.take gN ++ l.drop (gN + 1)).length := by omega
        subst hn'
        have hNS : NBs w' (l.take gN ++ l.drop (gN + 1)) := fun p hp => ((unhide NS6).below kb) p (by
          rcases List.mem_append.1 hp with h | h
          · exact List.mem_of_mem_take h
          · exact List.mem_of_mem_drop h)
        rcases own.2 with ⟨e, _⟩ | ⟨g', cap', cur, e, hB, hg, hn, hm, hs, ht⟩
        · exact absurd e hv
        · subst e
          exact ⟨g', cap', rfl, bxs_of (Array.getElem?_eq_some_iff.1 hg).1 (fun j hj => own.cellAt j hj) hNS⟩)
      clear HBX NS HCL NS6 BW5 BW6
      have hcl8 : gN ≤ cl := by omega
      have hcl9 : gN + 1 ≤ cl := by omega
      have d1 : (gN : Int) ≤ (gN : Int) + 1 := by omega
      have d2 : IntKind.i64.wrap ((gN : Int) + 1) = (gN : Int) + 1 := i64_in (by omega) (by omega)
      have d3 : 0 ≤ (gN : Int) + 1 := by omega
      have d4 : (gN : Int) + 1 ≤ (l.length : Int) := by omega
      have d5 : ((gN : Int) + 1).toNat = gN + 1 := by omega
      have d6 : (gN : Int) ≤ (cl : Int) := by omega
      by_cases ecl : cl = gN + 1
      · subst ecl
        obtain ⟨S, HS⟩ : ∃ S : World → Prop, S = fun w' => Below W6.heap.size W6 w' := ⟨_, rfl⟩
        have HSS := hide HS
        have S0V : Hid (S W6) := hide (by rw [HS]; exact Below.refl _ _)
        have SB : Hid (∀ x, S x → Below W6.heap.size W6 x) := hide (by rw [HS]; exact fun x h => h)
        have SKC : Hid (∀ x w' : World, S x → Below W6.heap.size x w' → S w') := hide (by rw [HS]; exact fun x w' h kk => h.trans kk)
        clear HS
        refine wp_region_noPanic ?_
        refine wp_region_held_drew (S := S) (by kernel_rfl) (unhide SKC _ _ (unhide S0V) (Below.refl _ _).drew) (fun hHeld => ?_)
        have hzu0 : W6.heap.size ≤ W6.drew.heap.size := Nat.le_refl _
        generalize W6.drew = u0 at *
        refine takeC 1 (some 104) ?_
        refine takeC 2 (some 105) ?_
        refine takeC 3 (some 106) ?_
        refine takeC 5 (some 108) ?_
        refine takeC 6 (some 109) ?_
        refine takeC 7 (some 110) ?_
        refine takeC 8 (some 111) ?_
        refine wpAnyH_ready (rs := [0]) (by kernel_rfl) (by simp) ?_
        refine AllReadyH.cons rfl (fun K0 hK0 => ?_) AllReadyH.nil
        go_simp
        have hzu1 : W6.heap.size ≤ (u0.alloc (Obj.cells #[] 25)).heap.size := by simp; omega
        have oA : (u0.alloc (Obj.cells #[] 25)).ownsRow W6.heap.size 25 2 (.slice (some ⟨u0.heap.size, 0, none⟩) 0 0) 0 [] := ⟨rfl, .inr ⟨u0.heap.size, 0, #[], rfl, hzu0, Deep.blk_alloc_new _ _, by simp, by unfold maxLen; omega, rfl, rfl⟩⟩
        refine hK0.out _ _ (unhide SKC _ _ hHeld ((Below.refl _ _).alloc hzu0 _)) (fun hHeld1 => ?_)
        clear hK0 K0 hHeld
        have hHeld := hHeld1
        clear hHeld1
        generalize u0.alloc (Obj.cells #[] 25) = u1 at *
        try simp only [Act.put, List.setIfInBounds_toArray, List.set_cons_zero, List.set_cons_succ]
        refine wpAnyH_ready (rs := [4]) (by kernel_rfl) (by simp) ?_
        refine AllReadyH.cons rfl (fun K0 hK0 => ?_) AllReadyH.nil
        have BU1 := unhide SB _ hHeld
        refine step_bs rfl _ _ rfl W6.heap.size _ 0 [] rfl oA (show Value.slice (some ⟨u0.heap.size, 0, none⟩) 0 0 ≠ .slice none 0 0 by simp) ⟨gl, 0, none⟩ gN _ (l.take gN) rfl (by rw [List.length_take]; omega) (fun j u hu => by
          have hj : j < gN * 2 := by have := (List.getElem?_eq_some_iff.1 hu).1; rw [ptC_len, List.length_take] at this; omega
          rw [ptC_take (by omega) hj] at hu
          obtain ⟨h1, h2⟩ := unhide HC6 j (by omega)
          rw [add_plain, Nat.zero_add]
          exact ((bcell BU1).1 gl j h1).trans (h2.trans hu)) (by omega) hzu1 ?_
        intro va u2 ow2 vn2 gr2
        have B2 : Below W6.heap.size u1 u2 := (Below.refl _ _).grown gr2 hzu1 (fun k hk => ownB_ge oA k hk)
        have hzu2 : W6.heap.size ≤ u2.heap.size := Nat.le_trans hzu1 gr2.size
        refine hK0.out _ _ (unhide SKC _ _ hHeld B2) (fun hHeld1 => ?_)
        clear hK0 K0 hHeld
        have hHeld := hHeld1
        clear hHeld1
        try simp only [Act.put, List.setIfInBounds_toArray, List.set_cons_zero, List.set_cons_succ]
        refine wpAnyH_ready (rs := [9]) (by kernel_rfl) (by simp) ?_
        refine AllReadyH.cons rfl (fun K0 hK0 => ?_) AllReadyH.nil
        have BU2 := unhide SB _ hHeld
        refine step_bs rfl _ _ rfl W6.heap.size _ (0 + gN) ([] ++ ptC (l.take gN)) rfl ow2 vn2 ⟨gl, 0, none⟩ (l.length - (gN + 1)) 0 (l.drop (gN + 1)) (by first | rfl | (simp [Act.eval, Act.put]; done) | (simp [Act.eval, Act.put]; omega)) (by rw [List.length_drop]) (fun j u hu => by
          have hj : j < (l.length - (gN + 1)) * 2 := by have := (List.getElem?_eq_some_iff.1 hu).1; rw [ptC_len, List.length_drop] at this; omega
          omega) (by omega) hzu2 ?_
        intro vm u3 ow3 vn3 gr3
        have B3 : Below W6.heap.size u2 u3 := (Below.refl _ _).grown gr3 hzu2 (fun k hk => ownB_ge ow2 k hk)
        have hzu3 : W6.heap.size ≤ u3.heap.size := Nat.le_trans hzu2 gr3.size
        refine hK0.out _ _ (unhide SKC _ _ hHeld B3) (fun hHeld1 => ?_)
        clear hK0 K0 hHeld
        have hHeld := hHeld1
        clear hHeld1
        try simp only [Act.put, List.setIfInBounds_toArray, List.set_cons_zero, List.set_cons_succ]
        refine takeC 10 (some 18) ?_
        refine wpAnyH_done (by kernel_rfl) ?_ _
        refine NoPanic.normal ?_
        have BQ := unhide SB _ hHeld
        rw [List.nil_append, ← ptC_app] at ow3
        obtain ⟨gm, cm, rfl, HM⟩ := unhide BM _ _ _ BQ ow3 vn3
        clear hHeld BM ow3 vn3 ow2 vn2 oA gr2 gr3 B2 B3 BU1 BU2 SKC SB S0V HSS HC6
        have RUN := hide (unhide HOL _ gm cm u3 (bstep B46 BQ) HM (unhide SUBF))
        have HOLE2 := hide (unhide HOLE)
        have x0 := kcx BQ x0
        have x1 := kcx BQ x1
        have z0 := kcx BQ z0
        have hNG := hNG.below BQ
        clear HM HOL SUBF HOLE
        generalize l.take gN ++ l.drop (gN + 1) = lm at *
        go_wp2_with fail
        refine (unhide RUN).mono ?_
        rintro e W8 ⟨⟨r, gq, hr, rfl, hown⟩, b8⟩
        obtain rfl := LF_one hr (unhide HOLE2)
        have hrow := (own_row (Q := fun _ => True) (hown _ rfl) (by simp) (fun _ _ _ => trivial)).1.at.2.2
        obtain ⟨bq, oq, e3, t3, z3⟩ := hrow 0 (by show 0 < 2; omega)
        obtain ⟨bq', oq', e4, t4, z4⟩ := hrow 1 (by show 1 < 2; omega)
        cases e3
        cases e4
        have z3 : W8.cell? ⟨gq, 0, none⟩ = some (.int .i64 lf) := z3
        have z4 : W8.cell? ⟨gq, 1, none⟩ = some (.int .i64 0) := z4
        have z0 := kcx b8 z0
        have z5 : W8.cell? ⟨lb1, 0, none⟩ = some (.int .i64 lf) := by have h := (hNG.below b8).row.at.2.2 0 (by omega); obtain ⟨_, _, e5, _, h5⟩ := h; cases e5; exact h5
        have B9 := B8.trans ((bstep BQ b8).mono (by have := B8.size; omega))
        clear hr hown hrow RUN HOLE2 x0 x1 hNG
        unfold Ret
        go_wp2_with fail
        obtain ⟨S, HS⟩ : ∃ S : World → Prop, S = fun w' => Below W8.heap.size W8 w' ∧ w'.cell? ⟨W5.heap.size, 0, none⟩ = some (.slice (some ⟨lb1, 0, none⟩) 2 2) ∧ w'.cell? ⟨gq, 0, none⟩ = some (.int .i64 lf) ∧ w'.cell? ⟨gq, 1, none⟩ = some (.int .i64 0) ∧ w'.cell? ⟨lb1, 0, none⟩ = some (.int .i64 lf) := ⟨_, rfl⟩
        have HSS := hide HS
        have S0V : Hid (S W8) := hide (by rw [HS]; exact ⟨Below.refl _ _, z0, z3, z4, z5⟩)
        have SB : Hid (∀ x, S x → Below W8.heap.size W8 x) := hide (by rw [HS]; exact fun x h => h.1)
        have SKC : Hid (∀ x w' : World, S x → Below x.heap.size x w' → S w') := hide (by
          rw [HS]; rintro x w' ⟨h0, h1, h2, h3, h4⟩ kk
          exact ⟨bstep h0 kk, kcx kk h1, kcx kk h2, kcx kk h3, kcx kk h4⟩)
        clear HS z0 z3 z4 z5
        refine wp_region_noPanic ?_
        refine wp_region_held_drew (S := S) (by kernel_rfl) (unhide SKC _ _ (unhide S0V) (Below.refl _ _).drew) (fun hHeld => ?_)
        generalize W8.drew = u0 at *
        refine takeC 0 (some 119) ?_
        refine takeC 1 (some 120) ?_
        refine takeC 2 (some 121) ?_
        refine takeC 3 (some 122) ?_
        refine takeC 4 (some 123) ?_
        refine takeC 5 (some 124) ?_
        refine takeC 6 (some 125) ?_
        refine takeC 7 (some 126) ?_
        refine takeC 8 (some 127) ?_
        refine takeC 9 (some 128) ?_
        refine takeC 10 (some 129) ?_
        refine takeC 11 (some 130) ?_
        refine takeC 12 (some 131) ?_
        refine takeC 13 (some 132) ?_
        refine takeC 14 (some 133) ?_
        refine takeC 15 (some 134) ?_
        refine takeC 16 (some 135) ?_
        refine takeC 17 (some 136) ?_
        refine takeC 18 (some 137) ?_
        refine takeC 19 (some 138) ?_
        refine takeC 20 (some 139) ?_
        refine takeC 21 (some 140) ?_
        refine takeC 22 (some 141) ?_
        refine wpAnyH_ready (rs := [23]) (by kernel_rfl) (by simp) ?_
        refine AllReadyH.cons rfl (fun K0 hK0 => ?_) AllReadyH.nil
        have BB := unhide SB _ hHeld
        go_simp
        refine (unhide KN _).mono ?_
        rintro e u1 ⟨rfl, j1⟩
        go_wp2_with fail
        refine hK0.out _ _ (unhide SKC _ _ hHeld j1) (fun hHeld1 => ?_)
        clear hK0 K0 hHeld BB j1
        have hHeld := hHeld1
        clear hHeld1
        try simp only [Act.put, List.setIfInBounds_toArray, List.set_cons_zero, List.set_cons_succ]
        refine takeC 24 (some 143) ?_
        refine takeC 25 (some 6) ?_
        refine wpAnyH_done (by kernel_rfl) ?_ _
        refine NoPanic.normal ?_
        have BQ := unhide SB _ hHeld
        clear hHeld
        go_wp2_with fail
        go_ret
        exact ⟨rfl, B9.trans (BQ.mono (by have := B9.size; omega))⟩
      · obtain ⟨S, HS⟩ : ∃ S : World → Prop, S = fun w' => Below W6.heap.size W6 w' := ⟨_, rfl⟩
        have HSS := hide HS
        have S0V : Hid (S W6) := hide (by rw [HS]; exact Below.refl _ _)
        have SB : Hid (∀ x, S x → Below W6.heap.size W6 x) := hide (by rw [HS]; exact fun x h => h)
        have SKC : Hid (∀ x w' : World, S x → Below W6.heap.size x w' → S w') := hide (by rw [HS]; exact fun x w' h kk => h.trans kk)
        clear HS
        refine wp_region_noPanic ?_
        refine wp_region_held_drew (S := S) (by kernel_rfl) (unhide SKC _ _ (unhide S0V) (Below.refl _ _).drew) (fun hHeld => ?_)
        have hzu0 : W6.heap.size ≤ W6.drew.heap.size := Nat.le_refl _
        generalize W6.drew = u0 at *
        refine takeC 1 (some 104) ?_
        refine takeC 2 (some 105) ?_
        refine takeC 3 (some 106) ?_
        refine takeC 5 (some 108) ?_
        refine takeC 6 (some 109) ?_
        refine takeC 7 (some 110) ?_
        refine takeC 8 (some 111) ?_
        refine wpAnyH_ready (rs := [0]) (by kernel_rfl) (by simp) ?_
        refine AllReadyH.cons rfl (fun K0 hK0 => ?_) AllReadyH.nil
        go_simp
        have hzu1 : W6.heap.size ≤ (u0.alloc (Obj.cells #[] 25)).heap.size := by simp; omega
        have oA : (u0.alloc (Obj.cells #[] 25)).ownsRow W6.heap.size 25 2 (.slice (some ⟨u0.heap.size, 0, none⟩) 0 0) 0 [] := ⟨rfl, .inr ⟨u0.heap.size, 0, #[], rfl, hzu0, Deep.blk_alloc_new _ _, by simp, by unfold maxLen; omega, rfl, rfl⟩⟩
        refine hK0.out _ _ (unhide SKC _ _ hHeld ((Below.refl _ _).alloc hzu0 _)) (fun hHeld1 => ?_)
        clear hK0 K0 hHeld
        have hHeld := hHeld1
        clear hHeld1
        generalize u0.alloc (Obj.cells #[] 25) = u1 at *
        try simp only [Act.put, List.setIfInBounds_toArray, List.set_cons_zero, List.set_cons_succ]
        refine wpAnyH_ready (rs := [4]) (by kernel_rfl) (by simp) ?_
        refine AllReadyH.cons rfl (fun K0 hK0 => ?_) AllReadyH.nil
        have BU1 := unhide SB _ hHeld
        refine step_bs rfl _ _ rfl W6.heap.size _ 0 [] rfl oA (show Value.slice (some ⟨u0.heap.size, 0, none⟩) 0 0 ≠ .slice none 0 0 by simp) ⟨gl, 0, none⟩ gN _ (l.take gN) rfl (by rw [List.length_take]; omega) (fun j u hu => by
          have hj : j < gN * 2 := by have := (List.getElem?_eq_some_iff.1 hu).1; rw [ptC_len, List.length_take] at this; omega
          rw [ptC_take (by omega) hj] at hu
          obtain ⟨h1, h2⟩ := unhide HC6 j (by omega)
          rw [add_plain, Nat.zero_add]
          exact ((bcell BU1).1 gl j h1).trans (h2.trans hu)) (by omega) hzu1 ?_
        intro va u2 ow2 vn2 gr2
        have B2 : Below W6.heap.size u1 u2 := (Below.refl _ _).grown gr2 hzu1 (fun k hk => ownB_ge oA k hk)
        have hzu2 : W6.heap.size ≤ u2.heap.size := Nat.le_trans hzu1 gr2.size
        refine hK0.out _ _ (unhide SKC _ _ hHeld B2) (fun hHeld1 => ?_)
        clear hK0 K0 hHeld
        have hHeld := hHeld1
        clear hHeld1
        try simp only [Act.put, List.setIfInBounds_toArray, List.set_cons_zero, List.set_cons_succ]
        refine wpAnyH_ready (rs := [9]) (by kernel_rfl) (by simp) ?_
        refine AllReadyH.cons rfl (fun K0 hK0 => ?_) AllReadyH.nil
        have BU2 := unhide SB _ hHeld
        refine step_bs rfl _ _ rfl W6.heap.size _ (0 + gN) ([] ++ ptC (l.take gN)) rfl ow2 vn2 ⟨gl, (gN + 1) * 2, none⟩ (l.length - (gN + 1)) (cl - (gN + 1)) (l.drop (gN + 1)) (by first | rfl | (simp [Act.eval, Act.put]; done) | (simp [Act.eval, Act.put]; omega)) (by rw [List.length_drop]) (fun j u hu => by
          have hj : j < (l.length - (gN + 1)) * 2 := by have := (List.getElem?_eq_some_iff.1 hu).1; rw [ptC_len, List.length_drop] at this; omega
          rw [ptC_drop (by omega)] at hu
          obtain ⟨h1, h2⟩ := unhide HC6 ((gN + 1) * 2 + j) (by omega)
          rw [add_plain]
          exact ((bcell BU2).1 gl _ h1).trans (h2.trans hu)) (by omega) hzu2 ?_
        intro vm u3 ow3 vn3 gr3
        have B3 : Below W6.heap.size u2 u3 := (Below.refl _ _).grown gr3 hzu2 (fun k hk => ownB_ge ow2 k hk)
        have hzu3 : W6.heap.size ≤ u3.heap.size := Nat.le_trans hzu2 gr3.size
        refine hK0.out _ _ (unhide SKC _ _ hHeld B3) (fun hHeld1 => ?_)
        clear hK0 K0 hHeld
        have hHeld := hHeld1
        clear hHeld1
        try simp only [Act.put, List.setIfInBounds_toArray, List.set_cons_zero, List.set_cons_succ]
        refine takeC 10 (some 18) ?_
        refine wpAnyH_done (by kernel_rfl) ?_ _
        refine NoPanic.normal ?_
        have BQ := unhide SB _ hHeld
        rw [List.nil_append, ← ptC_app] at ow3
        obtain ⟨gm, cm, rfl, HM⟩ := unhide BM _ _ _ BQ ow3 vn3
        clear hHeld BM ow3 vn3 ow2 vn2 oA gr2 gr3 B2 B3 BU1 BU2 SKC SB S0V HSS HC6
        have RUN := hide (unhide HOL _ gm cm u3 (bstep B46 BQ) HM (unhide SUBF))
        have HOLE2 := hide (unhide HOLE)
        have x0 := kcx BQ x0
        have x1 := kcx BQ x1
        have z0 := kcx BQ z0
        have hNG := hNG.below BQ
        clear HM HOL SUBF HOLE
        generalize l.take gN ++ l.drop (gN + 1) = lm at *
        go_wp2_with fail
        refine (unhide RUN).mono ?_
        rintro e W8 ⟨⟨r, gq, hr, rfl, hown⟩, b8⟩
        obtain rfl := LF_one hr (unhide HOLE2)
        have hrow := (own_row (Q := fun _ => True) (hown _ rfl) (by simp) (fun _ _ _ => trivial)).1.at.2.2
        obtain ⟨bq, oq, e3, t3, z3⟩ := hrow 0 (by show 0 < 2; omega)
        obtain ⟨bq', oq', e4, t4, z4⟩ := hrow 1 (by show 1 < 2; omega)
        cases e3
        cases e4
        have z3 : W8.cell? ⟨gq, 0, none⟩ = some (.int .i64 lf) := z3
        have z4 : W8.cell? ⟨gq, 1, none⟩ = some (.int .i64 0) := z4
        have z0 := kcx b8 z0
        have z5 : W8.cell? ⟨lb1, 0, none⟩ = some (.int .i64 lf) := by have h := (hNG.below b8).row.at.2.2 0 (by omega); obtain ⟨_, _, e5, _, h5⟩ := h; cases e5; exact h5
        have B9 := B8.trans ((bstep BQ b8).mono (by have := B8.size; omega))
        clear hr hown hrow RUN HOLE2 x0 x1 hNG
        unfold Ret
        go_wp2_with fail
        obtain ⟨S, HS⟩ : ∃ S : World → Prop, S = fun w' => Below W8.heap.size W8 w' ∧ w'.cell? ⟨W5.heap.size, 0, none⟩ = some (.slice (some ⟨lb1, 0, none⟩) 2 2) ∧ w'.cell? ⟨gq, 0, none⟩ = some (.int .i64 lf) ∧ w'.cell? ⟨gq, 1, none⟩ = some (.int .i64 0) ∧ w'.cell? ⟨lb1, 0, none⟩ = some (.int .i64 lf) := ⟨_, rfl⟩
        have HSS := hide HS
        have S0V : Hid (S W8) := hide (by rw [HS]; exact ⟨Below.refl _ _, z0, z3, z4, z5⟩)
        have SB : Hid (∀ x, S x → Below W8.heap.size W8 x) := hide (by rw [HS]; exact fun x h => h.1)
        have SKC : Hid (∀ x w' : World, S x → Below x.heap.size x w' → S w') := hide (by
          rw [HS]; rintro x w' ⟨h0, h1, h2, h3, h4⟩ kk
          exact ⟨bstep h0 kk, kcx kk h1, kcx kk h2, kcx kk h3, kcx kk h4⟩)
        clear HS z0 z3 z4 z5
        refine wp_region_noPanic ?_
        refine wp_region_held_drew (S := S) (by kernel_rfl) (unhide SKC _ _ (unhide S0V) (Below.refl _ _).drew) (fun hHeld => ?_)
        generalize W8.drew = u0 at *
        refine takeC 0 (some 119) ?_
        refine takeC 1 (some 120) ?_
        refine takeC 2 (some 121) ?_
        refine takeC 3 (some 122) ?_
        refine takeC 4 (some 123) ?_
        refine takeC 5 (some 124) ?_
        refine takeC 6 (some 125) ?_
        refine takeC 7 (some 126) ?_
        refine takeC 8 (some 127) ?_
        refine takeC 9 (some 128) ?_
        refine takeC 10 (some 129) ?_
        refine takeC 11 (some 130) ?_
        refine takeC 12 (some 131) ?_
        refine takeC 13 (some 132) ?_
        refine takeC 14 (some 133) ?_
        refine takeC 15 (some 134) ?_
        refine takeC 16 (some 135) ?_
        refine takeC 17 (some 136) ?_
        refine takeC 18 (some 137) ?_
        refine takeC 19 (some 138) ?_
        refine takeC 20 (some 139) ?_
        refine takeC 21 (some 140) ?_
        refine takeC 22 (some 141) ?_
        refine wpAnyH_ready (rs := [23]) (by kernel_rfl) (by simp) ?_
        refine AllReadyH.cons rfl (fun K0 hK0 => ?_) AllReadyH.nil
        have BB := unhide SB _ hHeld
        go_simp
        refine (unhide KN _).mono ?_
        rintro e u1 ⟨rfl, j1⟩
        go_wp2_with fail
        refine hK0.out _ _ (unhide SKC _ _ hHeld j1) (fun hHeld1 => ?_)
        clear hK0 K0 hHeld BB j1
        have hHeld := hHeld1
        clear hHeld1
        try simp only [Act.put, List.setIfInBounds_toArray, List.set_cons_zero, List.set_cons_succ]
        refine takeC 24 (some 143) ?_
        refine takeC 25 (some 6) ?_
        refine wpAnyH_done (by kernel_rfl) ?_ _
        refine NoPanic.normal ?_
        have BQ := unhide SB _ hHeld
        clear hHeld
        go_wp2_with fail
        go_ret
        exact ⟨rfl, B9.trans (BQ.mono (by have := B9.size; omega))⟩
end Go.Proofs.Ytpoejhdkgfikdaa
