/- XFSame XSize FOpen: laid together. -/
import Derived.Test.YtfpgajbdgmlenaaDoorGI
import Derived.Test.YtfpgajbdgmlenaaDoorGE
/- The contract of feel's Same. -/
namespace Go.Proofs.YtfpgajbdgmlenaaDoor
open Go.RowKit
set_option linter.unusedVariables false

def FSameOf (x : XT) : Prop := ∀ (y : XT) (w : World) (Q Q' : Nat → Prop), x.In Q w → y.In Q' w →
    Calls Tryd.prog 17 #[x.val, y.val] w fun e w' => e = .returned (.bool (x.same y)) ∧ Below w.heap.size w w'

set_option maxHeartbeats 4000000 in
theorem alike_any (k : Int) (b : Bool) (m s : Int) (t : ByteArray) (lo hi : Bool) (a : Option Addr) (len cap : Nat) (k' : Int) (b' : Bool) (m' s' : Int) (t' : ByteArray) (lo' hi' : Bool) (a' : Option Addr) (len' cap' : Nat) (w : World) :
    Calls Tryd.prog 24 #[.agg #[.int .i64 k, .bool b, .int .i64 m, .int .i64 s, .string t, .bool lo, .bool hi, .slice a len cap], .agg #[.int .i64 k', .bool b', .int .i64 m', .int .i64 s', .string t', .bool lo', .bool hi', .slice a' len' cap']] w fun e w' => e = .returned (.bool (XT.fld k b b' m m' s s' t t' lo lo' hi hi')) ∧ Below w.heap.size w w' := by
  have HF := hide (XT.fld.eq_1 k b b' m m' s s' t t' lo lo' hi hi')
  generalize XT.fld k b b' m m' s s' t t' lo lo' hi hi' = F at *
  by_cases k2 : k = 2
  · subst k2
    have HE := hide (show (b == b') = F by rw [unhide HF, if_pos rfl])
    go_enter Tryd.func24, Tryd.ntmps24
    go_wp2_with fail
    go_ret
    exact ⟨ret_bool (unhide HE), below2 _ _ _⟩
  by_cases k3 : k = 3
  · subst k3
    by_cases hm : m = m'
    · subst hm
      by_cases hs : s = s'
      · subst hs
        have HE := hide (show true = F by rw [unhide HF]; simp)
        go_enter Tryd.func24, Tryd.ntmps24
        go_wp2_with fail
        go_ret
        exact ⟨ret_bool (unhide HE), below2 _ _ _⟩
      · have HE := hide (show false = F by rw [unhide HF]; simp [hs])
        go_enter Tryd.func24, Tryd.ntmps24
        go_wp2_with fail
        go_ret
        exact ⟨ret_bool (unhide HE), below2 _ _ _⟩
    · have HE := hide (show false = F by rw [unhide HF]; simp [hm])
      go_enter Tryd.func24, Tryd.ntmps24
      go_wp2_with fail
      go_ret
      exact ⟨ret_bool (unhide HE), below2 _ _ _⟩
  by_cases k4 : k = 4
  · subst k4
    have HE := hide (show (t.toList == t'.toList) = F by rw [unhide HF, ByteArray.toList_eq, ByteArray.toList_eq]; rfl)
    go_enter Tryd.func24, Tryd.ntmps24
    go_wp2_with fail
    go_ret
    exact ⟨ret_bool (unhide HE), below2 _ _ _⟩
  by_cases k5 : k = 5
  · subst k5
    have HE := hide (show (t.toList == t'.toList) = F by rw [unhide HF, ByteArray.toList_eq, ByteArray.toList_eq]; rfl)
    go_enter Tryd.func24, Tryd.ntmps24
    go_wp2_with fail
    go_ret
    exact ⟨ret_bool (unhide HE), below2 _ _ _⟩
  by_cases k6 : k = 6
  · subst k6
    have HE := hide (show (t.toList == t'.toList) = F by rw [unhide HF, ByteArray.toList_eq, ByteArray.toList_eq]; rfl)
    go_enter Tryd.func24, Tryd.ntmps24
    go_wp2_with fail
    go_ret
    exact ⟨ret_bool (unhide HE), below2 _ _ _⟩
  by_cases k10 : k = 10
  · subst k10
    have HE := hide (show (t.toList == t'.toList) = F by rw [unhide HF, ByteArray.toList_eq, ByteArray.toList_eq]; rfl)
    go_enter Tryd.func24, Tryd.ntmps24
    go_wp2_with fail
    go_ret
    exact ⟨ret_bool (unhide HE), below2 _ _ _⟩
  by_cases k11 : k = 11
  · subst k11
    cases h1 : (lo == lo')
    · have HE := hide (show false = F by rw [unhide HF]; simp at h1; simp [h1])
      go_enter Tryd.func24, Tryd.ntmps24
      go_wp2_with fail
      go_ret
      exact ⟨ret_bool (unhide HE), below2 _ _ _⟩
    · have HE := hide (show (hi == hi') = F by rw [unhide HF]; simp at h1; simp [h1])
      go_enter Tryd.func24, Tryd.ntmps24
      go_wp2_with fail
      go_ret
      exact ⟨ret_bool (unhide HE), below2 _ _ _⟩
  · have HE := hide (show true = F by rw [unhide HF]; simp [k2, k3, k4, k5, k6, k10, k11])
    have e2 : (k == 2) = false := by simpa using k2
    have e3 : (k == 3) = false := by simpa using k3
    have e4 : (k == 4) = false := by simpa using k4
    have e5 : (k == 5) = false := by simpa using k5
    have e6 : (k == 6) = false := by simpa using k6
    have e10 : (k == 10) = false := by simpa using k10
    have e11 : (k == 11) = false := by simpa using k11
    clear k2 k3 k4 k5 k6 k10 k11
    go_enter Tryd.func24, Tryd.ntmps24
    go_wp2_with fail
    go_ret
    exact ⟨ret_bool (unhide HE), below2 _ _ _⟩

set_option maxHeartbeats 4000000 in
theorem equal_any (k : Int) (b : Bool) (m s : Int) (t : ByteArray) (lo hi : Bool) (a : Option Addr) (len cap : Nat) (kid : Nat → XT) (k' : Int) (b' : Bool) (m' s' : Int) (t' : ByteArray) (lo' hi' : Bool) (a' : Option Addr) (len' cap' : Nat) (kid' : Nat → XT) (Q Q' : Nat → Prop) (ih : ∀ i, FSameOf (kid i)) (w : World) (hin : (XT.mk k b m s t lo hi a len cap kid).In Q w) (hin' : (XT.mk k' b' m' s' t' lo' hi' a' len' cap' kid').In Q' w) :
    Calls Tryd.prog 25 #[.slice a len cap, .slice a' len' cap', .func (.func 17) #[] #[]] w fun e w' => e = .returned (.bool (decide (len = len') && (List.range len).all fun i => (kid i).same (kid' i))) ∧ Below w.heap.size w w' := by
  have hlm := hin.1
  unfold maxLen at hlm
  by_cases hl : len = len'
  · subst hl
    rw [decide_eq_true rfl, Bool.true_and]
    go_enter Tryd.func25, Tryd.ntmps25
    go_wp2_with fail
    go_loopw [17] (fun i wr => ∃ (j : Nat), j ≤ len ∧ i = .int .i64 j ∧ Hid (∀ i, i < j → (kid i).same (kid' i) = true) ∧ Below w.heap.size w wr) (fun i _ => len - (intOf i).toNat)
    case atStart => exact ⟨0, Nat.zero_le _, rfl, hide (fun i hi => absurd hi (Nat.not_lt_zero _)), Below.refl _ _⟩
    case round =>
      obtain ⟨j, hj, rfl, HA, bel⟩ := hrel
      by_cases hlt : j < len
      · obtain ⟨bl, o, pk, pb, pm, ps, pt, plo, phi, pa, pl, pc, pkid, rfl, hx, six, hk⟩ := hin.kid hlt
        obtain ⟨bl', o', qk, qb, qm, qs, qt, qlo, qhi, qa, ql, qc, qkid, rfl, hy, six', hk'⟩ := hin'.kid hlt
        have ihj := ih j (kid' j)
        rw [hx, hy] at ihj
        obtain ⟨s0, s1, s2, s3, s4, s5, s6, s7, s8⟩ := six.below bel
        obtain ⟨r0, r1, r2, r3, r4, r5, r6, r7, r8⟩ := six'.below bel
        have HK := hide (hk.below bel)
        have HK' := hide (hk'.below bel)
        have IH := hide ihj
        have FN := hide (fun h => xall_range_no (n := len) (f := fun i => (kid i).same (kid' i)) hlt h)
        have HS := hide (show (kid j).same (kid' j) = (XT.mk pk pb pm ps pt plo phi pa pl pc pkid).same (XT.mk qk qb qm qs qt qlo qhi qa ql qc qkid) by rw [hx, hy])
        clear six six' hk hk' ih ihj hin hin' hx hy
        go_wp2_with fail
        refine (unhide IH _ Q Q' (((unhide HK).below (below1 _ _)).below (below1 _ _)) (((unhide HK').below (below1 _ _)).below (below1 _ _))).mono ?_
        rw [← unhide HS]
        cases hok : (kid j).same (kid' j)
        · have FIN := hide (unhide FN hok)
          clear hok FN HS
          rintro e w2 ⟨rfl, k2⟩
          have B2 := bstep (bstep bel (below2 _ _ _)) k2
          go_wp2_with fail
          go_ret
          exact ⟨ret_bool (unhide FIN).symm, B2⟩
        · have HN := hide hok
          clear hok FN HS
          rintro e w2 ⟨rfl, k2⟩
          have B2 := bstep (bstep bel (below2 _ _ _)) k2
          go_wp2_with fail
          go_roundw
          case rel =>
            refine ⟨j + 1, by omega, by go_num, hide (fun i hi => ?_), B2⟩
            by_cases hij : i = j
            · subst hij; exact unhide HN
            · exact unhide HA i (by omega)
          case measure => simp [intOf]; omega
      · have FIN := hide (xall_range (n := len) (f := fun i => (kid i).same (kid' i)) (fun i hi => unhide HA i (by omega)))
        go_wp2_with fail
        go_ret
        exact ⟨ret_bool (unhide FIN).symm, bel⟩
  · rw [decide_eq_false hl, Bool.false_and]
    have e1 : ((len : Int) != len') = true := by simp; omega
    clear ih hin hin' hl
    go_enter Tryd.func25, Tryd.ntmps25
    go_wp2_with fail
    go_ret
    exact ⟨rfl, Below.refl _ _⟩

theorem same_eq (k : Int) (b : Bool) (m s : Int) (t : ByteArray) (lo hi : Bool) (a : Option Addr) (len cap : Nat) (kid : Nat → XT) (b' : Bool) (m' s' : Int) (t' : ByteArray) (lo' hi' : Bool) (a' : Option Addr) (len' cap' : Nat) (kid' : Nat → XT) : (XT.mk k b m s t lo hi a len cap kid).same (XT.mk k b' m' s' t' lo' hi' a' len' cap' kid') = (XT.fld k b b' m m' s s' t t' lo lo' hi hi' && (decide (len = len') && (List.range len).all fun i => (kid i).same (kid' i))) := by
  rw [XT.same]
  cases XT.fld k b b' m m' s s' t t' lo lo' hi hi' <;> simp

set_option maxHeartbeats 4000000 in
theorem fsame_any (x : XT) : FSameOf x := by
  induction x with
  | none => intro y w Q Q' h; exact absurd h (by simp [XT.In])
  | mk k b m s t lo hi a len cap kid ih =>
    intro y w Q Q' hin hin'
    cases y with
    | none => exact absurd hin' (by simp [XT.In])
    | mk k' b' m' s' t' lo' hi' a' len' cap' kid' =>
      show Calls Tryd.prog 17 #[.agg #[.int .i64 k, .bool b, .int .i64 m, .int .i64 s, .string t, .bool lo, .bool hi, .slice a len cap], .agg #[.int .i64 k', .bool b', .int .i64 m', .int .i64 s', .string t', .bool lo', .bool hi', .slice a' len' cap']] w _
      have b0 := below2 w (Obj.cells #[.int .i64 k, .bool b, .int .i64 m, .int .i64 s, .string t, .bool lo, .bool hi, .slice a len cap] 26) (Obj.cells #[.int .i64 k', .bool b', .int .i64 m', .int .i64 s', .string t', .bool lo', .bool hi', .slice a' len' cap'] 26)
      by_cases hk : k = k'
      · subst hk
        rw [same_eq]
        have IH := hide ih
        have HI := hide hin
        have HI' := hide hin'
        clear ih hin hin'
        have AL := hide (fun w => alike_any k b m s t lo hi a len cap k b' m' s' t' lo' hi' a' len' cap' w)
        cases hf : XT.fld k b b' m m' s s' t t' lo lo' hi hi'
        · rw [hf] at AL
          clear hf
          rw [Bool.false_and]
          go_enter Tryd.func17, Tryd.ntmps17
          go_wp2_with fail
          refine (unhide AL _).mono ?_
          rintro e w1 ⟨rfl, b1⟩
          have B1 := bstep b0 b1
          go_wp2_with fail
          go_ret
          exact ⟨rfl, B1⟩
        · rw [hf] at AL
          clear hf
          rw [Bool.true_and]
          go_enter Tryd.func17, Tryd.ntmps17
          go_wp2_with fail
          refine (unhide AL _).mono ?_
          rintro e w1 ⟨rfl, b1⟩
          have B1 := bstep b0 b1
          obtain ⟨d1, -⟩ := bcell b1
          go_wp2_with fail
          refine (equal_any k b m s t lo hi a len cap kid k b' m' s' t' lo' hi' a' len' cap' kid' Q Q' (unhide IH) _ ((unhide HI).below B1) ((unhide HI').below B1)).mono ?_
          rintro e w2 ⟨rfl, b2⟩
          go_wp2_with fail
          go_ret
          exact ⟨rfl, bstep B1 b2⟩
      · rw [same_kind hk]
        have e1 : (k == k') = false := by simpa using hk
        clear ih hin hin' hk
        go_enter Tryd.func17, Tryd.ntmps17
        go_wp2_with fail
        go_ret
        exact ⟨rfl, b0⟩
end Go.Proofs.YtfpgajbdgmlenaaDoor

/- The contract of the law's own 'size': some number. -/
namespace Go.Proofs.YtfpgajbdgmlenaaDoor
open Go.RowKit
set_option linter.unusedVariables false

set_option maxHeartbeats 2000000 in
theorem xsize_any (x : XT) : ∀ (w : World) (Q : Nat → Prop), x.In Q w →
    Calls Tryd.prog 16 #[x.val] w fun e w' => (∃ n, e = .returned (.int .i64 n)) ∧ Below w.heap.size w w' := by
  induction x with
  | none => intro w Q h; exact absurd h (by simp [XT.In])
  | mk k b m s t lo hi a len cap kid ih =>
    intro w Q hin
    have hlm := hin.1
    unfold maxLen at hlm
    show Calls Tryd.prog 16 #[.agg #[.int .i64 k, .bool b, .int .i64 m, .int .i64 s, .string t, .bool lo, .bool hi, .slice a len cap]] w _
    go_enter Tryd.func16, Tryd.ntmps16
    go_wp2_with fail
    have b0 := below1 w (Obj.cells #[.int .i64 k, .bool b, .int .i64 m, .int .i64 s, .string t, .bool lo, .bool hi, .slice a len cap] 26)
    have hin1 := hin.below b0
    have hz : (w.alloc (Obj.cells #[.int .i64 k, .bool b, .int .i64 m, .int .i64 s, .string t, .bool lo, .bool hi, .slice a len cap] 26)).heap.size = w.heap.size + 1 := by simp
    have hbox : (w.alloc (Obj.cells #[.int .i64 k, .bool b, .int .i64 m, .int .i64 s, .string t, .bool lo, .bool hi, .slice a len cap] 26)).cell? ⟨w.heap.size, 7, none⟩ = some (.slice a len cap) := by go_simp
    generalize hW : w.alloc (Obj.cells #[.int .i64 k, .bool b, .int .i64 m, .int .i64 s, .string t, .bool lo, .bool hi, .slice a len cap] 26) = W at *
    clear hW
    go_loopw [3, 4] (fun n i wr => ∃ (j : Nat) (z : Int), j ≤ len ∧ i = .int .i64 j ∧ n = .int .i64 z ∧ Below W.heap.size W wr) (fun _ i _ => len - (intOf i).toNat)
    case atStart => exact ⟨0, _, Nat.zero_le _, rfl, rfl, Below.refl _ _⟩
    case round =>
      obtain ⟨j, z, hj, rfl, rfl, bel⟩ := hrel
      have hb := (bcell bel).1 w.heap.size 7 (by omega)
      rw [hbox] at hb
      by_cases hlt : j < len
      · by_cases h5 : z < 500
        · obtain ⟨bl, o, k', b', m', s', t', lo', hi', a', len', cap', kid', rfl, hx, six, hk⟩ := hin1.kid hlt
          have ihj := ih j wr Q
          rw [hx] at ihj
          have ihj := ihj (hk.below bel)
          obtain ⟨s0, s1, s2, s3, s4, s5, s6, s7, s8⟩ := six.below bel
          clear hx six hk ih hin hin1
          have IH := hide ihj
          clear ihj
          go_wp2_with fail
          refine (unhide IH).mono ?_
          rintro e w2 ⟨⟨n, rfl⟩, k2⟩
          go_wp2_with fail
          go_roundw
          case rel => exact ⟨j + 1, _, by omega, by go_num, rfl, bstep bel k2⟩
          case measure => simp [intOf]; omega
        · go_wp2_with fail
          go_ret
          exact ⟨⟨_, rfl⟩, bstep b0 bel⟩
      · go_wp2_with fail
        go_ret
        exact ⟨⟨_, rfl⟩, bstep b0 bel⟩
end Go.Proofs.YtfpgajbdgmlenaaDoor

/- An expression as an argument, opened out of a reading. -/
namespace Go.Proofs.YtfpgajbdgmlenaaDoor
open Go.ChangeShapes Go.WideShapes Go.RowKit
set_option linter.unusedVariables false

theorem cellsExpr : Tryd.prog.cellsOf 26 = 8 := by kernel_rfl
theorem cellsD : Tryd.prog.cellsOf 23 = 2 := by kernel_rfl
theorem cellsI : Tryd.prog.cellsOf 3 = 1 := by kernel_rfl
theorem cellsB : Tryd.prog.cellsOf 4 = 1 := by kernel_rfl
theorem cellsS : Tryd.prog.cellsOf 9 = 1 := by kernel_rfl
theorem cellsL : Tryd.prog.cellsOf 24 = 1 := by kernel_rfl

section
variable {H : Type} {enc : TypeId × Value → H} {w : World} {base : Nat} {spare : Nat → Bool} {held : Bool}

theorem open_dec {fuel : Nat} {v0 v1 : Value} {x : DataW H × List MemPlace} (h : DataW.trod enc Tryd.prog w base spare held fuel 23 [v0, v1] = some x) :
    ∃ m s : Int, v0 = .int .i64 m ∧ v1 = .int .i64 s ∧ (Lit.int .i64 m).wf = true ∧ (Lit.int .i64 s).wf = true := by
  obtain ⟨xs, n, rfl, rfl, hl, hlen, hf⟩ := DataW.trod_struct Tryd.underlying23 h
  match xs, hlen with
  | [y0, y1], _ =>
    have g0 := hf 0 _ rfl
    have g1 := hf 1 _ rfl
    simp [cellsI] at g0 g1
    obtain ⟨m, e0, -, w0⟩ := DataW.trod_int Tryd.underlying3 g0
    obtain ⟨s, e1, -, w1⟩ := DataW.trod_int Tryd.underlying3 g1
    simp at e0 e1
    exact ⟨m, s, e0, e1, w0, w1⟩

set_option maxRecDepth 10000 in
theorem open_expr (fuel : Nat) : ∀ {cs : List Value} {x : DataW H × List MemPlace}, DataW.trod enc Tryd.prog w base spare held fuel 26 cs = some x →
    ∃ T : XT, cs = T.cells ∧ T.In (fun _ => True) w := by
  induction fuel using Nat.strongRecOn with
  | _ fuel ih =>
    intro cs x h
    obtain ⟨xs, n, rfl, rfl, hl, hlen, hf⟩ := DataW.trod_struct Tryd.underlying26 h
    rw [cellsExpr] at hl
    match xs, hlen, cs, hl with
    | [y0, y1, y2, y3, y4, y5, y6], _, [v0, v1, v2, v3, v4, v5, v6, v7], _ =>
      have g0 := hf 0 _ rfl
      have g1 := hf 1 _ rfl
      have g2 := hf 2 _ rfl
      have g3 := hf 3 _ rfl
      have g5 := hf 4 _ rfl
      have g6 := hf 5 _ rfl
      have g4 := hf 6 _ rfl
      simp [cellsI, cellsB, cellsD, cellsS, cellsL] at g0 g1 g2 g3 g4 g5 g6
      obtain ⟨k, e0, -, w0⟩ := DataW.trod_int Tryd.underlying3 g0
      obtain ⟨b, e1, -⟩ := DataW.trod_bool Tryd.underlying4 g1
      obtain ⟨m, s, rfl, rfl, w1, w2⟩ := open_dec g2
      obtain ⟨t, e3, -, w3⟩ := DataW.trod_string Tryd.underlying9 g3
      obtain ⟨lo, e5, -⟩ := DataW.trod_bool Tryd.underlying4 g5
      obtain ⟨hi, e6, -⟩ := DataW.trod_bool Tryd.underlying4 g6
      simp at e0 e1 e3 e5 e6
      subst e0 e1 e3 e5 e6
      rcases DataW.trod_slice Tryd.underlying24 g4 with ⟨e4, -⟩ | ⟨a, len, cap, elems, rest, n', hn, e4, -, hb, hlc, hcm, hel, hget, -, -⟩
      · simp at e4
        subst e4
        exact ⟨.mk k b m s t lo hi Option.none 0 0 (fun _ => .none), rfl, Nat.zero_le _, fun i hi => absurd hi (Nat.not_lt_zero _)⟩
      · simp at e4
        subst e4
        rw [cellsExpr] at hget
        have hspot : 0 < len → a.spot = Option.none := fun h0 => by
          have key := hget 0 h0
          rw [List.getElem?_eq_getElem (by omega)] at key
          obtain ⟨cs', h1, h2⟩ := Option.bind_eq_some_iff.1 key
          obtain ⟨T, rfl, hT⟩ := ih n' (by omega) h2
          obtain ⟨_, _, hcell⟩ := World.cells?_some h1
          have h0 := hcell 0 (by omega)
          cases T with
          | none => exact absurd hT (by simp [XT.In])
          | mk =>
            have h00 := World.cell?_spot h0
            simpa [Addr.add] using h00
        obtain ⟨kid, hkid⟩ := Deep.choose_lt (α := XT) (n := len) (p := fun i T => (∃ bl o, a = ⟨bl, o, Option.none⟩ ∧ ∀ j, j < 8 → w.cell? ⟨bl, o + i * 8 + j, Option.none⟩ = T.cells[j]?) ∧ T.In (fun _ => True) w) (fun i hi => by
          have key := hget i hi
          rw [List.getElem?_eq_getElem (by omega)] at key
          obtain ⟨cs', h1, h2⟩ := Option.bind_eq_some_iff.1 key
          obtain ⟨T, rfl, hT⟩ := ih n' (by omega) h2
          obtain ⟨_, _, hcell⟩ := World.cells?_some h1
          refine ⟨T, ?_, hT⟩
          obtain ⟨bl, o, spot⟩ := a
          have hsp : spot = Option.none := hspot (by omega)
          subst hsp
          refine ⟨bl, o, rfl, fun j hj => ?_⟩
          have := hcell j hj
          rwa [add_plain, add_plain] at this)
        refine ⟨.mk k b m s t lo hi (some a) len cap kid, rfl, by omega, fun i hi => ?_⟩
        obtain ⟨⟨bl, o, ha, hc⟩, hk⟩ := hkid i hi
        exact ⟨⟨bl, o, by rw [ha], trivial, hc⟩, hk⟩

set_option maxRecDepth 10000 in
theorem open_xarg {r : Reach} {b0 : Nat} {v : Value} {d : DataW H} {p : List MemPlace} (hv : Value.okWide Tryd.prog w r b0 26 v) (h : DataW.Trod enc Tryd.prog w base spare held 26 v d p) :
    ∃ T : XT, v = T.val ∧ T.In (fun _ => True) w := by
  obtain ⟨cs, rfl, hsz⟩ := okWide_struct Tryd.underlying26 hv
  obtain ⟨fuel, hf⟩ := h
  obtain ⟨T, hT, hin⟩ := open_expr fuel hf
  refine ⟨T, ?_, hin⟩
  cases T with
  | none => exact absurd hin (by simp [XT.In])
  | mk =>
    simp [Value.cells] at hT
    show Value.agg cs = .agg _
    congr 1
    apply Array.ext'
    simpa [XT.cells] using hT
end
end Go.Proofs.YtfpgajbdgmlenaaDoor
