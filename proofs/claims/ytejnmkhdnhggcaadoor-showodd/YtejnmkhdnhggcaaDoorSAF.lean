/- SExpr FMath LBytes LPast LPre LWord LFault: laid together. -/
import Derived.Test.YtejnmkhdnhggcaaDoorSAE
import Derived.Test.YtejnmkhdnhggcaaDoorSBA
import Derived.Test.YtejnmkhdnhggcaaDoorSAC
import Derived.Test.YtejnmkhdnhggcaaDoorSAA
import Derived.Lib.Bytealg
import Derived.Deep.AppendLies
/- An expression, added to one text; its text. Printed by mksexpr.py. -/
namespace Go.Proofs.YtejnmkhdnhggcaaDoor
open Go.RowKit
set_option linter.unusedVariables false
set_option linter.unusedSimpArgs false

/- its decimals may be; its texts and rows are no longer than a builder takes. -/
def okS : XT → Prop
  | .none => True
  | .mk _ _ m s t _ _ _ len _ kid => isB m s = true ∧ t.size ≤ 1099511627776 ∧ len ≤ 1099511627776 ∧ ∀ i, i < len → okS (kid i)
theorem tab_B {B : Nat} {w w' : World} (h : Tab w) (k : Below B w w') (hg : 0 < B) : Tab w' := by
  have hgn : Tryd.prog.globalNamed "internal/strconv.uint64pow10" = some 0 := by kernel_rfl
  unfold Tab Lib.TabIs at h ⊢
  exact var?_below k hgn hg h
theorem tab_lt {w : World} (h : Tab w) : 0 < w.heap.size := by
  have hg : Tryd.prog.globalNamed "internal/strconv.uint64pow10" = some 0 := by kernel_rfl
  unfold Tab Lib.TabIs at h
  refine Nat.lt_of_not_ge fun h' => ?_
  unfold World.var? at h
  rw [hg] at h
  simp only [Option.bind_some] at h
  rw [Array.getElem?_eq_none h'] at h
  cases h

set_option maxHeartbeats 1000000 in
set_option maxRecDepth 100000 in
theorem addx_any (B bb : Nat) (hgB : 0 < B) (x : XT) : okS x → Adds B bb x := by
  induction x with
  | none => intro _ l w _ _ _ hin; exact absurd hin (by simp [XT.In])
  | mk k b m s t lo hi a len cap kid ih =>
    rintro ⟨hd, ht40, hl40, hok⟩ l w h ht hBw hin hlen
    have hkid : ∀ i, i < len → Adds B bb (kid i) := fun i hi => ih i (hok i hi)
    clear ih hok
    show Calls Tryd.prog 17 #[.pointer (some ⟨bb, 0, none⟩), .agg #[.int .i64 k, .bool b, .int .i64 m, .int .i64 s, .string t, .bool lo, .bool hi, .slice a len cap]] w _
    have SH : showX (XT.mk k b m s t lo hi a len cap kid) = (if k = 1 then nulL else if k = 2 then truL b else if k = 3 then numL m s else if k = 4 then quoL t else if k = 5 then XT.tl t
      else if k = 9 then [91] ++ (rowL (fun i => showX (kid i)) len ++ [93]) else if k = 10 then XT.tl t ++ ([40] ++ (rowL (fun i => showX (kid i)) len ++ [41])) else bouR k t lo hi len (fun i => showX (kid i))) := by
      conv => lhs; unfold showX
      unfold bouR
      rfl
    generalize showX (XT.mk k b m s t lo hi a len cap kid) = R at *
    have HTB : ∀ w', Below B w w' → Tab w' := fun w' q => tab_B ht q hgB
    by_cases k1 : k = 1
    · subst k1
      have hR : R = nulL := by rw [SH]; simp
      rw [hR] at hlen ⊢
      have b0 := below1 w (Obj.cells #[.int .i64 1, .bool b, .int .i64 m, .int .i64 s, .string t, .bool lo, .bool hi, .slice a len cap] 26)
      have HN := Deep.blk_alloc_new w (Obj.cells #[.int .i64 1, .bool b, .int .i64 m, .int .i64 s, .string t, .bool lo, .bool hi, .slice a len cap] 26)
      have BA0 := hide (h.alloc (Obj.cells #[.int .i64 1, .bool b, .int .i64 m, .int .i64 s, .string t, .bool lo, .bool hi, .slice a len cap] 26))
      have W0 := hide (Wr.of_below h b0)
      have bne := h.le.2
      have hl4 : nulL.length = 4 := rfl
      have WS := hide (ws_any B bb l (nulL) (w.alloc (Obj.cells #[.int .i64 1, .bool b, .int .i64 m, .int .i64 s, .string t, .bool lo, .bool hi, .slice a len cap] 26)) (unhide BA0) (by omega))
      clear hR SH HTB hkid hin h ht hlen
      go_enter Tryd.func17, Tryd.ntmps17
      go_wp2_with fail
      refine (unhide WS).mono ?_
      rintro e w2 ⟨rfl, k2⟩
      have F := hide ((unhide W0).trans k2)
      clear WS k2
      go_wp2_with fail
      go_end0
      exact ⟨rfl, unhide F⟩
    have k1' : (k == 1) = false := by simp [k1]
    by_cases k2 : k = 2
    · subst k2
      have hR : R = truL b := by rw [SH]; simp
      rw [hR] at hlen ⊢
      have b0 := below1 w (Obj.cells #[.int .i64 2, .bool b, .int .i64 m, .int .i64 s, .string t, .bool lo, .bool hi, .slice a len cap] 26)
      have HN := Deep.blk_alloc_new w (Obj.cells #[.int .i64 2, .bool b, .int .i64 m, .int .i64 s, .string t, .bool lo, .bool hi, .slice a len cap] 26)
      have BA0 := hide (h.alloc (Obj.cells #[.int .i64 2, .bool b, .int .i64 m, .int .i64 s, .string t, .bool lo, .bool hi, .slice a len cap] 26))
      have W0 := hide (Wr.of_below h b0)
      have bne := h.le.2
      have WS := hide (ws_any B bb l (truL b) (w.alloc (Obj.cells #[.int .i64 2, .bool b, .int .i64 m, .int .i64 s, .string t, .bool lo, .bool hi, .slice a len cap] 26)) (unhide BA0) (by omega))
      have TR := hide (truth_any b (w.alloc (Obj.cells #[.int .i64 2, .bool b, .int .i64 m, .int .i64 s, .string t, .bool lo, .bool hi, .slice a len cap] 26)))
      clear hR SH HTB hkid hin h ht hlen
      generalize truL b = N at *
      go_enter Tryd.func17, Tryd.ntmps17
      go_wp2_with fail
      refine (unhide TR).mono ?_
      rintro e w9 ⟨rfl, rfl⟩
      go_wp2_with fail
      refine (unhide WS).mono ?_
      rintro e w2 ⟨rfl, k2⟩
      have F := hide ((unhide W0).trans k2)
      clear WS k2
      go_wp2_with fail
      go_end0
      exact ⟨rfl, unhide F⟩
    have k2' : (k == 2) = false := by simp [k2]
    by_cases k3 : k = 3
    · subst k3
      have hR : R = numL m s := by rw [SH]; simp
      rw [hR] at hlen ⊢
      have b0 := below1 w (Obj.cells #[.int .i64 3, .bool b, .int .i64 m, .int .i64 s, .string t, .bool lo, .bool hi, .slice a len cap] 26)
      have HN := Deep.blk_alloc_new w (Obj.cells #[.int .i64 3, .bool b, .int .i64 m, .int .i64 s, .string t, .bool lo, .bool hi, .slice a len cap] 26)
      have BA0 := hide (h.alloc (Obj.cells #[.int .i64 3, .bool b, .int .i64 m, .int .i64 s, .string t, .bool lo, .bool hi, .slice a len cap] 26))
      have W0 := hide (Wr.of_below h b0)
      have bne := h.le.2
      have TR := hide (snum_any m s hd (w.alloc (Obj.cells #[.int .i64 3, .bool b, .int .i64 m, .int .i64 s, .string t, .bool lo, .bool hi, .slice a len cap] 26)) (tab_below ht b0))
      have WN := hide (fun w' (q : Below (w.alloc (Obj.cells #[.int .i64 3, .bool b, .int .i64 m, .int .i64 s, .string t, .bool lo, .bool hi, .slice a len cap] 26)).heap.size (w.alloc (Obj.cells #[.int .i64 3, .bool b, .int .i64 m, .int .i64 s, .string t, .bool lo, .bool hi, .slice a len cap] 26)) w') => ws_any B bb l (numL m s) w' ((unhide BA0).below q) (by omega))
      clear hR SH HTB hkid hin h ht hlen
      generalize numL m s = N at *
      go_enter Tryd.func17, Tryd.ntmps17
      go_wp2_with fail
      generalize w.alloc (Obj.cells #[.int .i64 3, .bool b, .int .i64 m, .int .i64 s, .string t, .bool lo, .bool hi, .slice a len cap] 26) = V at *
      refine (unhide TR).mono ?_
      rintro e w9 ⟨rfl, b9⟩
      have WS := hide (unhide WN _ b9)
      have W0 := hide ((unhide W0).trans (Wr.of_below (unhide BA0) b9))
      clear WN TR
      go_wp2_with fail
      refine (unhide WS).mono ?_
      rintro e w2 ⟨rfl, k2⟩
      have F := hide ((unhide W0).trans k2)
      clear WS k2
      go_wp2_with fail
      go_end0
      exact ⟨rfl, unhide F⟩
    have k3' : (k == 3) = false := by simp [k3]
    by_cases k4 : k = 4
    · subst k4
      have hR : R = quoL t := by rw [SH]; simp
      rw [hR] at hlen ⊢
      have b0 := below1 w (Obj.cells #[.int .i64 4, .bool b, .int .i64 m, .int .i64 s, .string t, .bool lo, .bool hi, .slice a len cap] 26)
      have HN := Deep.blk_alloc_new w (Obj.cells #[.int .i64 4, .bool b, .int .i64 m, .int .i64 s, .string t, .bool lo, .bool hi, .slice a len cap] 26)
      have BA0 := hide (h.alloc (Obj.cells #[.int .i64 4, .bool b, .int .i64 m, .int .i64 s, .string t, .bool lo, .bool hi, .slice a len cap] 26))
      have W0 := hide (Wr.of_below h b0)
      have bne := h.le.2
      have WS := hide (quoted_any B bb l t (w.alloc (Obj.cells #[.int .i64 4, .bool b, .int .i64 m, .int .i64 s, .string t, .bool lo, .bool hi, .slice a len cap] 26)) (unhide BA0) (by omega))
      clear hR SH HTB hkid hin h ht hlen
      generalize quoL t = N at *
      go_enter Tryd.func17, Tryd.ntmps17
      go_wp2_with fail
      refine (unhide WS).mono ?_
      rintro e w2 ⟨rfl, k2⟩
      have F := hide ((unhide W0).trans k2)
      clear WS k2
      go_wp2_with fail
      go_end0
      exact ⟨rfl, unhide F⟩
    have k4' : (k == 4) = false := by simp [k4]
    by_cases k5 : k = 5
    · subst k5
      have hR : R = XT.tl t := by rw [SH]; simp
      rw [hR] at hlen ⊢
      have b0 := below1 w (Obj.cells #[.int .i64 5, .bool b, .int .i64 m, .int .i64 s, .string t, .bool lo, .bool hi, .slice a len cap] 26)
      have HN := Deep.blk_alloc_new w (Obj.cells #[.int .i64 5, .bool b, .int .i64 m, .int .i64 s, .string t, .bool lo, .bool hi, .slice a len cap] 26)
      have BA0 := hide (h.alloc (Obj.cells #[.int .i64 5, .bool b, .int .i64 m, .int .i64 s, .string t, .bool lo, .bool hi, .slice a len cap] 26))
      have W0 := hide (Wr.of_below h b0)
      have bne := h.le.2
      have WS := hide (ws_any B bb l (XT.tl t) (w.alloc (Obj.cells #[.int .i64 5, .bool b, .int .i64 m, .int .i64 s, .string t, .bool lo, .bool hi, .slice a len cap] 26)) (unhide BA0) (by omega))
      rw [← ba_tl t] at WS
      clear hR SH HTB hkid hin h ht hlen
      generalize XT.tl t = N at *
      go_enter Tryd.func17, Tryd.ntmps17
      go_wp2_with fail
      refine (unhide WS).mono ?_
      rintro e w2 ⟨rfl, k2⟩
      have F := hide ((unhide W0).trans k2)
      clear WS k2
      go_wp2_with fail
      go_end0
      exact ⟨rfl, unhide F⟩
    have k5' : (k == 5) = false := by simp [k5]
    by_cases k9 : k = 9
    · subst k9
      have hR : R = [91] ++ (rowL (fun i => showX (kid i)) len ++ [93]) := by rw [SH]; simp
      rw [hR] at hlen ⊢
      have b0 := below1 w (Obj.cells #[.int .i64 9, .bool b, .int .i64 m, .int .i64 s, .string t, .bool lo, .bool hi, .slice a len cap] 26)
      have HN := Deep.blk_alloc_new w (Obj.cells #[.int .i64 9, .bool b, .int .i64 m, .int .i64 s, .string t, .bool lo, .bool hi, .slice a len cap] 26)
      have BA0 := hide (h.alloc (Obj.cells #[.int .i64 9, .bool b, .int .i64 m, .int .i64 s, .string t, .bool lo, .bool hi, .slice a len cap] 26))
      have W0 := hide (Wr.of_below h b0)
      have bne := h.le.2
      simp only [List.length_append, List.length_cons, List.length_nil] at hlen
      have WS := hide (rowx_any B bb l [91] [93] 9 b m s t lo hi a len cap kid (w.alloc (Obj.cells #[.int .i64 9, .bool b, .int .i64 m, .int .i64 s, .string t, .bool lo, .bool hi, .slice a len cap] 26)) (unhide BA0) (tab_below ht b0) (fun w' q => HTB w' ((unhide W0).2.1.trans q)) (hin.below b0) hkid (by simp only [List.length_cons, List.length_nil]; omega))
      rw [show l ++ [91] ++ rowL (fun i => showX (kid i)) len ++ [93] = l ++ ([91] ++ (rowL (fun i => showX (kid i)) len ++ [93])) by simp] at WS
      clear hR SH HTB hkid hin h ht hlen
      generalize [91] ++ (rowL (fun i => showX (kid i)) len ++ [93]) = N at *
      go_enter Tryd.func17, Tryd.ntmps17
      go_wp2_with fail
      refine (unhide WS).mono ?_
      rintro e w2 ⟨rfl, k2⟩
      have F := hide ((unhide W0).trans k2)
      clear WS k2
      go_wp2_with fail
      go_end0
      exact ⟨rfl, unhide F⟩
    have k9' : (k == 9) = false := by simp [k9]
    by_cases k10 : k = 10
    · subst k10
      have hR : R = XT.tl t ++ ([40] ++ (rowL (fun i => showX (kid i)) len ++ [41])) := by rw [SH]; simp
      rw [hR] at hlen ⊢
      have b0 := below1 w (Obj.cells #[.int .i64 10, .bool b, .int .i64 m, .int .i64 s, .string t, .bool lo, .bool hi, .slice a len cap] 26)
      have HN := Deep.blk_alloc_new w (Obj.cells #[.int .i64 10, .bool b, .int .i64 m, .int .i64 s, .string t, .bool lo, .bool hi, .slice a len cap] 26)
      have BA0 := hide (h.alloc (Obj.cells #[.int .i64 10, .bool b, .int .i64 m, .int .i64 s, .string t, .bool lo, .bool hi, .slice a len cap] 26))
      have W0 := hide (Wr.of_below h b0)
      have bne := h.le.2
      simp only [List.length_append, List.length_cons, List.length_nil] at hlen
      have W1 := hide (ws_any B bb l (XT.tl t) (w.alloc (Obj.cells #[.int .i64 10, .bool b, .int .i64 m, .int .i64 s, .string t, .bool lo, .bool hi, .slice a len cap] 26)) (unhide BA0) (by omega))
      rw [← ba_tl t] at W1
      have WN := hide (fun w' (q : Wr B bb (l ++ XT.tl t) (w.alloc (Obj.cells #[.int .i64 10, .bool b, .int .i64 m, .int .i64 s, .string t, .bool lo, .bool hi, .slice a len cap] 26)) w') => rowx_any B bb (l ++ XT.tl t) [40] [41] 10 b m s t lo hi a len cap kid w' q.ba (HTB w' ((unhide W0).trans q).2.1) (fun w'' q' => HTB w'' (((unhide W0).trans q).2.1.trans q')) ((hin.below b0).keepB q.2.1) hkid (by simp only [List.length_append, List.length_cons, List.length_nil]; omega))
      rw [show l ++ XT.tl t ++ [40] ++ rowL (fun i => showX (kid i)) len ++ [41] = l ++ (XT.tl t ++ ([40] ++ (rowL (fun i => showX (kid i)) len ++ [41]))) by simp] at WN
      clear hR SH HTB hkid hin h ht hlen
      generalize XT.tl t ++ ([40] ++ (rowL (fun i => showX (kid i)) len ++ [41])) = N at *
      go_enter Tryd.func17, Tryd.ntmps17
      go_wp2_with fail
      generalize w.alloc (Obj.cells #[.int .i64 10, .bool b, .int .i64 m, .int .i64 s, .string t, .bool lo, .bool hi, .slice a len cap] 26) = V at *
      refine (unhide W1).mono ?_
      rintro e w9 ⟨rfl, q9⟩
      have HN9 := q9.kept HN (by omega) (by decide)
      have x7 : w9.cell? ⟨w.heap.size, 7, none⟩ = some (.slice a len cap) := by rw [Lib.cell_of_heap HN9]; rfl
      have WS := hide (unhide WN _ q9)
      have W0 := hide ((unhide W0).trans q9)
      clear WN W1 q9 HN9
      go_wp2_with fail
      refine (unhide WS).mono ?_
      rintro e w2 ⟨rfl, k2⟩
      have F := hide ((unhide W0).trans k2)
      clear WS k2
      go_wp2_with fail
      go_end0
      exact ⟨rfl, unhide F⟩
    have k10' : (k == 10) = false := by simp [k10]
    have hR : R = bouR k t lo hi len (fun i => showX (kid i)) := by rw [SH]; simp [k1, k2, k3, k4, k5, k9, k10]
    rw [hR] at hlen ⊢
    have b0 := below1 w (Obj.cells #[.int .i64 k, .bool b, .int .i64 m, .int .i64 s, .string t, .bool lo, .bool hi, .slice a len cap] 26)
    have HN := Deep.blk_alloc_new w (Obj.cells #[.int .i64 k, .bool b, .int .i64 m, .int .i64 s, .string t, .bool lo, .bool hi, .slice a len cap] 26)
    have BA0 := hide (h.alloc (Obj.cells #[.int .i64 k, .bool b, .int .i64 m, .int .i64 s, .string t, .bool lo, .bool hi, .slice a len cap] 26))
    have W0 := hide (Wr.of_below h b0)
    have bne := h.le.2
    have WS := hide (bound_any B bb l k b m s t lo hi a len cap kid (w.alloc (Obj.cells #[.int .i64 k, .bool b, .int .i64 m, .int .i64 s, .string t, .bool lo, .bool hi, .slice a len cap] 26)) (unhide BA0) (fun w' q => HTB w' ((unhide W0).2.1.trans q)) ht40 hl40 (hin.below b0) hkid hlen)
    clear hR SH HTB hkid hin h ht hlen
    generalize bouR k t lo hi len (fun i => showX (kid i)) = N at *
    go_enter Tryd.func17, Tryd.ntmps17
    go_wp2_with fail
    refine (unhide WS).mono ?_
    rintro e w2 ⟨rfl, k2⟩
    have F := hide ((unhide W0).trans k2)
    clear WS k2
    go_wp2_with fail
    go_end0
    exact ⟨rfl, unhide F⟩

set_option maxHeartbeats 1000000 in
theorem showx_any (x : XT) (Q : Nat → Prop) (w : World) (hin : x.In Q w) (hok : okS x) (ht : Tab w) (hlen : (showX x).length ≤ 1099511627776) :
    Calls Tryd.prog 8 #[x.val] w fun e w' => e = .returned (.string ⟨(showX x).toArray⟩) ∧ Below w.heap.size w w' := by
  obtain ⟨k, b, m, s, t, lo, hi, a, len, cap, kid, rfl⟩ := hin.form
  show Calls Tryd.prog 8 #[.agg #[.int .i64 k, .bool b, .int .i64 m, .int .i64 s, .string t, .bool lo, .bool hi, .slice a len cap]] w _
  have b0 := below1 w (Obj.cells #[.int .i64 k, .bool b, .int .i64 m, .int .i64 s, .string t, .bool lo, .bool hi, .slice a len cap] 26)
  have b2 := below2 w (Obj.cells #[.int .i64 k, .bool b, .int .i64 m, .int .i64 s, .string t, .bool lo, .bool hi, .slice a len cap] 26) (.cells #[.pointer none, .slice none 0 0] 47)
  have hz : (w.alloc (Obj.cells #[.int .i64 k, .bool b, .int .i64 m, .int .i64 s, .string t, .bool lo, .bool hi, .slice a len cap] 26)).heap.size = w.heap.size + 1 := by simp
  have BN : BA w.heap.size (w.heap.size + 1) [] ((w.alloc (Obj.cells #[.int .i64 k, .bool b, .int .i64 m, .int .i64 s, .string t, .bool lo, .bool hi, .slice a len cap] 26)).alloc (.cells #[.pointer none, .slice none 0 0] 47)) := by
    have := BA.new (B := w.heap.size) (w := w.alloc (Obj.cells #[.int .i64 k, .bool b, .int .i64 m, .int .i64 s, .string t, .bool lo, .bool hi, .slice a len cap] 26)) (by omega)
    rwa [hz] at this
  have RUN := hide (addx_any w.heap.size (w.heap.size + 1) (tab_lt ht) (XT.mk k b m s t lo hi a len cap kid) hok [] _ BN (tab_below ht b2) (by simp; omega) ((hin.weak (Q' := fun g => g < w.heap.size) (fun g hg _ => hg)).below b2) (by simpa using hlen))
  have RUN : Hid (Calls Tryd.prog 17 #[.pointer (some ⟨w.heap.size + 1, 0, none⟩), .agg #[.int .i64 k, .bool b, .int .i64 m, .int .i64 s, .string t, .bool lo, .bool hi, .slice a len cap]] ((w.alloc (Obj.cells #[.int .i64 k, .bool b, .int .i64 m, .int .i64 s, .string t, .bool lo, .bool hi, .slice a len cap] 26)).alloc (.cells #[.pointer none, .slice none 0 0] 47)) fun e w' => e = .returned (.tuple #[]) ∧ Wr w.heap.size (w.heap.size + 1) ([] ++ showX (XT.mk k b m s t lo hi a len cap kid)) ((w.alloc (Obj.cells #[.int .i64 k, .bool b, .int .i64 m, .int .i64 s, .string t, .bool lo, .bool hi, .slice a len cap] 26)).alloc (.cells #[.pointer none, .slice none 0 0] 47)) w') := RUN
  rw [List.nil_append] at RUN
  generalize showX (XT.mk k b m s t lo hi a len cap kid) = R at *
  clear hin hok ht hlen
  go_enter Tryd.func8, Tryd.ntmps8
  go_wp2_with fail
  refine (unhide RUN).mono ?_
  rintro e w2 ⟨rfl, k2⟩
  have ST := hide (bstr_any _ _ _ _ k2.ba)
  have B2 := b2.trans k2.2.1
  clear RUN k2
  go_wp2_with fail
  refine (unhide ST).mono ?_
  rintro e w3 ⟨rfl, b3⟩
  go_wp2_with fail
  go_ret
  exact ⟨rfl, B2.trans b3⟩
end Go.Proofs.YtejnmkhdnhggcaaDoor


/- The mathematics of parsing: the expression that begins at a place of a row of tokens, or the first error and its place. -/
namespace Go.Proofs.YtejnmkhdnhggcaaDoor
set_option linter.unusedVariables false

/- a text as a decimal, or the error. -/
def fit3 (neg : Bool) (n : Int) (s : Nat) : Int × Int × Int :=
  (fitM (if neg = true then -n else n) s, fitS (if neg = true then -n else n) s, fitE (if neg = true then -n else n) s)
def decR (neg : Bool) (r : List UInt8) : Int × Int × Int :=
  if run isDig r = 0 then (0, 0, 2)
  else if run isDig r = r.length then (if 18 < r.length then (0, 0, 3) else fit3 neg (num r) 0)
  else if (r.drop (run isDig r)).head? = some 46 ∧ run isDig (r.drop (run isDig r + 1)) ≠ 0 ∧ run isDig r + 1 + run isDig (r.drop (run isDig r + 1)) = r.length then
    (if 18 < run isDig r + run isDig (r.drop (run isDig r + 1)) ∨ 8 < run isDig (r.drop (run isDig r + 1)) then (0, 0, 3) else fit3 neg (num (r.take (run isDig r) ++ r.drop (run isDig r + 1))) (run isDig (r.drop (run isDig r + 1))))
  else (0, 0, 2)
def decP (l : List UInt8) : Int × Int × Int := if l.head? = some 45 then decR true (l.drop 1) else decR false (l.drop 0)

abbrev Mk := List UInt8
/- an expression and the place behind it, or an error and its place. -/
inductive RX where
  | ok (x : XT) (k : Nat)
  | er (e : Int) (k : Nat)
inductive RL where
  | ok (l : List XT) (k : Nat)
  | er (e : Int) (k : Nat)

/- does that word or sign stand there? -/
def mkB (ts : List Tk) (k : Nat) (m : Mk) : Bool :=
  match ts[k]? with
  | some t => t.1 == (if wordB m = true then 1 else 4) && t.2.1 == m
  | none => false
/- which of them does. -/
def fnd (ts : List Tk) (k : Nat) : List Mk → Option Mk
  | [] => none
  | m :: ms => if mkB ts k m = true then some m else fnd ts k ms

def strB (l : List UInt8) : ByteArray := ⟨l.toArray⟩
def binX (op : Mk) (x y : XT) : XT := .mkX 6 false 0 0 (strB op) false false [x, y]
def chainP (ts : List Tk) (part : Nat → RX) (ops : List Mk) : Nat → XT → Nat → RX
  | 0, x, k => .ok x k
  | f + 1, x, k => match fnd ts k ops with
    | none => .ok x k
    | some op => match part (k + 1) with
      | .er e k' => .er e k'
      | .ok y k' => chainP ts part ops f (binX op x y) k'
def chP (ts : List Tk) (part : Nat → RX) (ops : List Mk) (k : Nat) : RX :=
  match part k with
  | .er e k' => .er e k'
  | .ok x k' => chainP ts part ops ts.length x k'

def mOr : Mk := [111, 114]
def mAnd : Mk := [97, 110, 100]
def mIn : Mk := [105, 110]
def mIf : Mk := [105, 102]
def mThen : Mk := [116, 104, 101, 110]
def mElse : Mk := [101, 108, 115, 101]
def mNull : Mk := [110, 117, 108, 108]
def mTrue : Mk := [116, 114, 117, 101]
def mFalse : Mk := [102, 97, 108, 115, 101]
def mDots : Mk := [46, 46]
def mRels : List Mk := [[60], [60, 61], [62], [62, 61], [61], [33, 61]]

/- an expression behind one of some marks. -/
inductive RM where
  | ok (m : Mk) (x : XT) (k : Nat)
  | er (m : Mk) (e : Int) (k : Nat)
def behP (ts : List Tk) (e1 : Nat → RX) (ms : List Mk) (k : Nat) : RM :=
  match fnd ts k ms with
  | none => .er [] 2 k
  | some m => match e1 (k + 1) with
    | .er e k' => .er m e k'
    | .ok x k' => .ok m x k'

def inX (lo hi : Bool) (x a b : XT) : XT := .mkX 11 false 0 0 (strB []) lo hi [x, a, b]
def withinP (ts : List Tk) (e1 : Nat → RX) (x : XT) (k : Nat) : RX :=
  match behP ts e1 [[91], [40]] k with
  | .er _ e k' => .er e k'
  | .ok o a k1 => match behP ts e1 [mDots] k1 with
    | .er _ e k' => .er e k'
    | .ok _ b k2 => match fnd ts k2 [[93], [41]] with
      | none => .er 2 k2
      | some c => .ok (inX (o == [91]) (c == [93]) x a b) (k2 + 1)
def cmpP (ts : List Tk) (ad e1 : Nat → RX) (k : Nat) : RX :=
  match ad k with
  | .er e k' => .er e k'
  | .ok x k1 => if mkB ts k1 mIn = true then withinP ts e1 x (k1 + 1) else
    match fnd ts k1 mRels with
    | none => .ok x k1
    | some op => match ad (k1 + 1) with
      | .er e k' => .er e k'
      | .ok y k2 => .ok (binX op x y) k2

def restL (ts : List Tk) (e1 : Nat → RX) (shut : Mk) : Nat → List XT → Nat → RL
  | 0, _, k => .er 2 k
  | f + 1, acc, k => match e1 k with
    | .er e k' => .er e k'
    | .ok x k' => match fnd ts k' [[44], shut] with
      | none => .er 2 k'
      | some m => if m = shut then .ok (acc ++ [x]) (k' + 1) else restL ts e1 shut f (acc ++ [x]) (k' + 1)
def restP (ts : List Tk) (e1 : Nat → RX) (shut : Mk) (k : Nat) : RL :=
  if mkB ts k shut = true then .ok [] (k + 1) else restL ts e1 shut (ts.length + 1) [] k

def callX (t : Mk) (l : List XT) : XT := .mkX 10 false 0 0 (strB t) false false l
def nameX (t : Mk) : XT := .mkX 5 false 0 0 (strB t) false false []
def listX (l : List XT) : XT := .mkX 9 false 0 0 (strB []) false false l
def textX (t : Mk) : XT := .mkX 4 false 0 0 (strB t) false false []
def numX (m s : Int) : XT := .mkX 3 false m s (strB []) false false []
def boolX (b : Bool) : XT := .mkX 2 b 0 0 (strB []) false false []
def nullX : XT := .mkX 1 false 0 0 (strB []) false false []
def negX (x : XT) : XT := .mkX 7 false 0 0 (strB []) false false [x]
def ifX (x y z : XT) : XT := .mkX 8 false 0 0 (strB []) false false [x, y, z]

def choiceP (ts : List Tk) (e1 : Nat → RX) (k : Nat) : RX :=
  match behP ts e1 [mIf] k with
  | .er _ e k' => .er e k'
  | .ok _ x k1 => match behP ts e1 [mThen] k1 with
    | .er _ e k' => .er e k'
    | .ok _ y k2 => match behP ts e1 [mElse] k2 with
      | .er _ e k' => .er e k'
      | .ok _ z k3 => .ok (ifX x y z) k3
def constP (ts : List Tk) (k : Nat) : RX :=
  if mkB ts k mNull = true then .ok nullX (k + 1) else if mkB ts k mTrue = true then .ok (boolX true) (k + 1) else if mkB ts k mFalse = true then .ok (boolX false) (k + 1) else .er 2 k
def brackP (ts : List Tk) (e1 : Nat → RX) (k : Nat) : RX :=
  match e1 k with
  | .er e k' => .er e k'
  | .ok x k' => if mkB ts k' [41] = true then .ok x (k' + 1) else .er 2 k'
def numP (t : Mk) (k : Nat) : RX := if (decP t).2.2 = 0 then .ok (numX (decP t).1 (decP t).2.1) (k + 1) else .er (decP t).2.2 k
def namedP (ts : List Tk) (e1 : Nat → RX) (t : Mk) (k : Nat) : RX :=
  if mkB ts k [40] = true then (match restP ts e1 [41] (k + 1) with
    | .er e k' => .er e k'
    | .ok l k' => .ok (callX t l) k') else .ok (nameX t) k
def listedP (ts : List Tk) (e1 : Nat → RX) (k : Nat) : RX :=
  match restP ts e1 [93] k with
  | .er e k' => .er e k'
  | .ok l k' => .ok (listX l) k'
/- what no number, text or name stands at. -/
def signP (ts : List Tk) (e1 : Nat → RX) (k : Nat) : RX :=
  if mkB ts k [91] = true then listedP ts e1 (k + 1) else if mkB ts k [40] = true then brackP ts e1 (k + 1) else if mkB ts k mIf = true then choiceP ts e1 k else constP ts k
def atomP (ts : List Tk) (e1 : Nat → RX) (k : Nat) : RX :=
  match ts[k]? with
  | none => .er 2 k
  | some t => if t.1 = 2 then numP t.2.1 k else if t.1 = 3 then .ok (textX t.2.1) (k + 1) else if t.1 = 1 ∧ wordB t.2.1 = false then namedP ts e1 t.2.1 (k + 1) else signP ts e1 k

def unaryP (ts : List Tk) (u1 e1 : Nat → RX) (k : Nat) : RX :=
  if mkB ts k [45] = true then (match u1 (k + 1) with
    | .er e k' => .er e k'
    | .ok x k' => .ok (negX x) k') else atomP ts e1 k
def mulP (ts : List Tk) (u : Nat → RX) : Nat → RX := chP ts u [[42], [47]]
def addP (ts : List Tk) (u : Nat → RX) : Nat → RX := chP ts (mulP ts u) [[43], [45]]
def comP (ts : List Tk) (u e1 : Nat → RX) : Nat → RX := cmpP ts (addP ts u) e1
def andP (ts : List Tk) (u e1 : Nat → RX) : Nat → RX := chP ts (comP ts u e1) [mAnd]
def exprP (ts : List Tk) (u e1 : Nat → RX) : Nat → RX := chP ts (andP ts u e1) [mOr]
/- unary and expr, where so many may still stand within. -/
def UE (ts : List Tk) : Nat → (Nat → RX) × (Nat → RX)
  | 0 => (fun k => .er 12 k, exprP ts (fun k => .er 12 k) (fun k => .er 12 k))
  | f + 1 => (unaryP ts (UE ts f).1 (UE ts f).2, exprP ts (unaryP ts (UE ts f).1 (UE ts f).2) (UE ts f).2)

/- the place of a token; of the row's end. -/
def posT (ts : List Tk) (k : Nat) (e : Int) : Int := match ts[k]? with
  | some t => t.2.2
  | none => e
/- Take: the expression, the place behind, the error's place, the error. -/
def takeT (ts : List Tk) (k : Nat) (e : Int) : XT × Int × Int × Int :=
  match (UE ts 9).2 k with
  | .ok x k' => (x, k', 0, 0)
  | .er c k' => (zX, k, posT ts k' e, c)
def parseT (s : List UInt8) : XT × Int × Int :=
  match lexT s with
  | (ts, n, e) => if e ≠ 0 then (zX, n, e) else match (UE ts 9).2 0 with
    | .er c k' => (zX, posT ts k' n, c)
    | .ok x k' => if k' < ts.length then (zX, posT ts k' n, 2) else (x, n, 0)
end Go.Proofs.YtejnmkhdnhggcaaDoor

/- The contracts of lex's tests of a byte, and of past. -/
namespace Go.Proofs.YtejnmkhdnhggcaaDoor
open Go.RowKit

theorem sm_yes {c : UInt8} (h1 : 97 ≤ (c.toNat : Int)) (h2 : (c.toNat : Int) ≤ 122) : smB c = true := by unfold smB; simp; omega
theorem sm_no {c : UInt8} (h : (c.toNat : Int) < 97 ∨ 122 < (c.toNat : Int)) : smB c = false := by
  unfold smB; rcases h with h | h <;> simp <;> omega
theorem dg_yes {c : UInt8} (h1 : 48 ≤ (c.toNat : Int)) (h2 : (c.toNat : Int) ≤ 57) : dgB c = true := by unfold dgB; simp; omega
theorem dg_no {c : UInt8} (h : (c.toNat : Int) < 48 ∨ 57 < (c.toNat : Int)) : dgB c = false := by
  unfold dgB; rcases h with h | h <;> simp <;> omega
theorem bl_eq (c : UInt8) : ((c.toNat : Int) == 32) = blB c := by
  unfold blB; rw [Bool.eq_iff_iff]; simp; omega

theorem tx_no {c : UInt8} (h : (c.toNat : Int) < 32 ∨ 126 < (c.toNat : Int)) : txB c = false := by
  unfold txB; rcases h with h | h <;> simp <;> omega
theorem tx_eq {c : UInt8} (h1 : 32 ≤ (c.toNat : Int)) (h2 : (c.toNat : Int) ≤ 126) : ((c.toNat : Int) != 34) = txB c := by
  unfold txB; rw [Bool.eq_iff_iff]; simp; omega

end Go.Proofs.YtejnmkhdnhggcaaDoor

/- The contract of lex's past. -/
namespace Go.Proofs.YtejnmkhdnhggcaaDoor
open Go.RowKit

theorem ret_nat {a b : Nat} (h : a = b) : Ending.returned (.int .i64 (a : Int)) = .returned (.int .i64 (b : Int)) := by rw [h]

def Enters (f : Nat) : Prop := ∀ (args : Array Value) (w : World), (callFunc f args).run Tryd.prog w = .ok (.enter f args) w
theorem enters {f : Nat} {fn : Func} {c : Code} (hf : Tryd.prog.funcs[f]? = some fn) (hname : (fn.name == "runtime.NumGoroutine") = false) (hb : fn.body = some c) : Enters f := fun args w => by
  have h1 : fn.name ≠ "runtime.NumGoroutine" := by simpa using hname
  simp [callFunc, hf, h1, hb]
def Tests (f : Nat) (p : UInt8 → Bool) : Prop := ∀ (c : UInt8) (w : World), Calls Tryd.prog f #[.int .u8 c.toNat] w fun e w' => e = .returned (.bool (p c)) ∧ w' = w

end Go.Proofs.YtejnmkhdnhggcaaDoor

/- The contracts of strings.HasPrefix, lex's number, text, said. -/
namespace Go.Proofs.YtejnmkhdnhggcaaDoor
open Go.RowKit
set_option linter.unusedVariables false

theorem lext_eq (l : List UInt8) (a b : Nat) : (ByteArray.mk l.toArray).extract a b = ByteArray.mk ((l.drop a).take (b - a)).toArray := Lib.extract_eq ⟨l.toArray⟩ a b

set_option maxHeartbeats 800000 in
theorem hasp_any (g r : List UInt8) (w : World) (hg : g.length ≤ 1000) (hr : r.length ≤ 1000) :
    Calls Tryd.prog 59 #[.string ⟨r.toArray⟩, .string ⟨g.toArray⟩] w fun e w' => e = .returned (.bool (preB g r)) ∧ w' = w := by
  have h31 : Calls Tryd.prog 68 #[.string ⟨r.toArray⟩, .string ⟨g.toArray⟩] w fun e w' => e = .returned (.bool (preB g r)) ∧ w' = w := by
    by_cases hle : g.length ≤ r.length
    · have e1 : (ByteArray.mk r.toArray).extract 0 g.length = ByteArray.mk (r.take g.length).toArray := by rw [lext_eq]; simp
      have H := hide (show preB g r = (r.take g.length == g) by unfold preB; simp [hle])
      go_enter Tryd.func68, Tryd.ntmps68
      go_wp2
      go_ret
      exact ⟨ret_bool (by rw [unhide H]), rfl⟩
    · have H := hide (show preB g r = false by unfold preB; simp [hle])
      go_enter Tryd.func68, Tryd.ntmps68
      go_wp2
      go_ret
      exact ⟨ret_bool (by rw [unhide H]), rfl⟩
  go_enter Tryd.func59, Tryd.ntmps59
  go_wp2_with fail
  refine h31.mono ?_
  clear h31
  rintro e w' ⟨rfl, rfl⟩
  go_wp2_with fail
  go_ret
  exact ⟨rfl, rfl⟩

theorem pre_one (c : UInt8) (r : List UInt8) : preB [c] r = (r.head? == some c) := by
  cases r with
  | nil => rfl
  | cons d r => unfold preB; simp

theorem ret_two {a b c d : Nat} (h1 : a = b) (h2 : c = d) : Ending.returned (.tuple #[.int .i64 (a : Int), .int .i64 (c : Int)]) = .returned (.tuple #[.int .i64 (b : Int), .int .i64 (d : Int)]) := by rw [h1, h2]

theorem ret_lst {a b : List UInt8} (h : a = b) : Ending.returned (.string ⟨a.toArray⟩) = .returned (.string ⟨b.toArray⟩) := by rw [h]

end Go.Proofs.YtejnmkhdnhggcaaDoor

/- The contracts of lex's Word and of the document's. -/
namespace Go.Proofs.YtejnmkhdnhggcaaDoor
open Go.RowKit
set_option linter.unusedVariables false

def sV (l : List UInt8) : Value := .string ⟨l.toArray⟩
theorem row_strs (w : World) (gs : List (List UInt8)) (t : TypeId) (j : Nat) : (w.alloc (.cells (gs.map sV).toArray t)).cell? ⟨w.heap.size, j, none⟩ = (gs[j]?).map sV := by
  rw [cell_of_row _ _ j _ _ _ (heap_alloc_new w _)]
  simp
theorem wordB_eq (t : List UInt8) : wordB t = ((t == [116, 114, 117, 101]) || ((t == [102, 97, 108, 115, 101]) || ((t == [110, 117, 108, 108]) || ((t == [105, 102]) || ((t == [116, 104, 101, 110]) || ((t == [101, 108, 115, 101]) || ((t == [97, 110, 100]) || ((t == [111, 114]) || ((t == [105, 110]) || false))))))))) := rfl

theorem word_step {t : List UInt8} {k : Nat} (h : k < 9) : ((wds.drop k).any fun x => t == x) = ((t == wds.getD k []) || ((wds.drop (k + 1)).any fun x => t == x)) := by
  rw [List.drop_eq_getElem_cons (show k < wds.length from h), List.any_cons]
  simp [show k < wds.length from h]
theorem wds_len {k : Nat} : (wds.getD k []).length ≤ 5 := by
  by_cases h : k < 9
  · match k, h with
    | 0, _ | 1, _ | 2, _ | 3, _ | 4, _ | 5, _ | 6, _ | 7, _ | 8, _ => decide
  · rw [List.getD_eq_getElem?_getD, List.getElem?_eq_none (show wds.length ≤ k from Nat.le_of_not_lt h)]; decide

set_option maxHeartbeats 1600000 in
theorem rword_any (t : List UInt8) (w : World) (ht : t.length ≤ 1000) :
    Calls Tryd.prog 49 #[.string ⟨t.toArray⟩] w fun e w' => e = .returned (.bool (wordB t)) ∧ Below w.heap.size w w' := by
  have row : ∀ k, k < 9 → (w.alloc (.cells #[.string ⟨#[116, 114, 117, 101]⟩, .string ⟨#[102, 97, 108, 115, 101]⟩, .string ⟨#[110, 117, 108, 108]⟩, .string ⟨#[105, 102]⟩, .string ⟨#[116, 104, 101, 110]⟩, .string ⟨#[101, 108, 115, 101]⟩, .string ⟨#[97, 110, 100]⟩, .string ⟨#[111, 114]⟩, .string ⟨#[105, 110]⟩] 9)).cell? ⟨w.heap.size, k, none⟩ = some (.string ⟨(wds.getD k []).toArray⟩) := by
    intro k hk
    have h := row_strs w wds 9 k
    rw [List.getElem?_eq_getElem (show k < wds.length from hk)] at h
    have e : wds.getD k [] = wds[k]'(show k < wds.length from hk) := by simp [show k < wds.length from hk]
    rw [e]
    exact h
  have bel := below1 w (.cells #[.string ⟨#[116, 114, 117, 101]⟩, .string ⟨#[102, 97, 108, 115, 101]⟩, .string ⟨#[110, 117, 108, 108]⟩, .string ⟨#[105, 102]⟩, .string ⟨#[116, 104, 101, 110]⟩, .string ⟨#[101, 108, 115, 101]⟩, .string ⟨#[97, 110, 100]⟩, .string ⟨#[111, 114]⟩, .string ⟨#[105, 110]⟩] 9)
  have hsz : w.heap.size < (w.alloc (.cells #[.string ⟨#[116, 114, 117, 101]⟩, .string ⟨#[102, 97, 108, 115, 101]⟩, .string ⟨#[110, 117, 108, 108]⟩, .string ⟨#[105, 102]⟩, .string ⟨#[116, 104, 101, 110]⟩, .string ⟨#[101, 108, 115, 101]⟩, .string ⟨#[97, 110, 100]⟩, .string ⟨#[111, 114]⟩, .string ⟨#[105, 110]⟩] 9)).heap.size := by simp
  generalize hR : wordB t = R
  have HR := hide hR
  clear hR
  go_enter Tryd.func49, Tryd.ntmps49
  go_wp2_with fail
  generalize w.alloc (.cells #[.string ⟨#[116, 114, 117, 101]⟩, .string ⟨#[102, 97, 108, 115, 101]⟩, .string ⟨#[110, 117, 108, 108]⟩, .string ⟨#[105, 102]⟩, .string ⟨#[116, 104, 101, 110]⟩, .string ⟨#[101, 108, 115, 101]⟩, .string ⟨#[97, 110, 100]⟩, .string ⟨#[111, 114]⟩, .string ⟨#[105, 110]⟩] 9) = W at *
  have ROW := hide row
  have BEL := hide bel
  clear row bel
  go_loop [4] (fun i => ∃ k : Nat, k ≤ 9 ∧ i = .int .i64 k ∧ Hid (((wds.drop k).any fun x => t == x) = R)) (fun i => 9 - (intOf i).toNat)
  case atStart => exact ⟨0, by omega, rfl, HR⟩
  case round =>
    clear HR
    obtain ⟨k, hk, rfl, HR⟩ := hrel
    by_cases hlt : k < 9
    · have row := unhide ROW k hlt
      have ST := hide (word_step (t := t) hlt)
      have hz := wds_len (k := k)
      generalize wds.getD k [] = g at *
      cases hg : (g == t)
      · have HE := hide (show ((wds.drop (k + 1)).any fun x => t == x) = R by rw [← unhide HR, unhide ST, BEq.comm, hg]; rfl)
        go_wp2_with fail
        go_round
        case rel => exact ⟨k + 1, by omega, by go_num, HE⟩
        case measure => simp [intOf]; omega
      · have HE := hide (show true = R by rw [← unhide HR, unhide ST, BEq.comm, hg]; rfl)
        go_wp2_with fail
        go_ret
        exact ⟨ret_bool (unhide HE), unhide BEL⟩
    · have HE := hide (show false = R by rw [← unhide HR, show k = 9 by omega]; rfl)
      go_wp2_with fail
      go_ret
      exact ⟨ret_bool (unhide HE), unhide BEL⟩
end Go.Proofs.YtejnmkhdnhggcaaDoor

/- The contracts of lex's fault, and of token over the table of signs. -/
namespace Go.Proofs.YtejnmkhdnhggcaaDoor
open Go.RowKit
set_option linter.unusedVariables false
set_option linter.unusedSimpArgs false

end Go.Proofs.YtejnmkhdnhggcaaDoor
