/- The walk of FeelCalls: a name with brackets is a call of as many as stand between. (Printed by mkcalls.py.) -/
import Derived.Test.YtfpgajbdgmlenabDoorGH
namespace Go.Proofs.YtfpgajbdgmlenabDoor
open Go.RowKit
set_option linter.unusedVariables false

def clS (f : List UInt8) : Nat → List UInt8
  | 0 => f ++ [40]
  | n + 1 => if n = 0 then clS f n ++ [49] else (clS f n ++ [44, 32]) ++ [49]
theorem clS_len (f : List UInt8) (hf : f.length ≤ 4) (n : Nat) : (clS f n).length ≤ 5 + n * 3 := by
  induction n with
  | zero => simp [clS]; omega
  | succ n ih => rw [clS]; split <;> simp only [List.length_append, List.length_cons, List.length_nil] <;> omega
theorem cba_app (x y : List UInt8) : (⟨x.toArray⟩ : ByteArray) ++ ⟨y.toArray⟩ = ⟨(x ++ y).toArray⟩ := by
  apply ByteArray.ext
  simp [ByteArray.data_append]
/- what the tree's head is. -/
def headB (X : XT × Int × Int) (k : Int) (t : List UInt8) (n : Nat) : Bool := match X with
  | (.mk k' _ _ _ t' _ _ _ len _ _, _, e) => decide (e = 0) && (decide (k' = k) && (decide (XT.tl t' = t) && decide (len = n)))
  | _ => false

theorem calls_calc0 : ∀ n, n < 10 → (headB (parseT (clS [102, 111, 111] n ++ [41])) 10 [102, 111, 111] n && headB (parseT [102, 111, 111]) 5 [102, 111, 111] 0) = true := by decide +kernel
set_option maxHeartbeats 4000000 in
set_option maxRecDepth 10000 in
theorem calls_0 (n : Nat) (hn : n ≤ 9) (w : World) (sig : Sig w) :
    Calls Tryd.prog 3 #[.int .i64 (n : Int), .int .i64 0] w fun e w' => e = .returned (.bool true) ∧ Below w.heap.size w w' := by
  have SG := hide sig
  clear sig
  have KB := calls_calc0 n (by omega)
  have hS := clS_len [102, 111, 111] (by decide) n
  have P1 := hide (fun w s => parse_any (clS [102, 111, 111] n ++ [41]) (by rw [List.length_append]; simp; omega) w s)
  have P2 := hide (fun w s => parse_any [102, 111, 111] (by decide) w s)
  rw [Bool.and_eq_true] at KB
  obtain ⟨K1, K2⟩ := KB
  generalize parseT (clS [102, 111, 111] n ++ [41]) = X1 at *
  generalize parseT [102, 111, 111] = X2 at *
  have H1 := hide K1
  have H2 := hide K2
  clear K1 K2
  go_enter Tryd.func3, Tryd.ntmps3
  go_wp2_with fail
  have B0 := hide (below1 w (Obj.cells #[.string ⟨#[102, 111, 111]⟩, .string ⟨#[116, 114, 117, 101]⟩, .string ⟨#[116, 104, 101, 110]⟩] 9))
  generalize hW : w.alloc (Obj.cells #[.string ⟨#[102, 111, 111]⟩, .string ⟨#[116, 114, 117, 101]⟩, .string ⟨#[116, 104, 101, 110]⟩] 9) = W at *
  clear hW
  go_loop [6, 7] (fun s i => ∃ k : Nat, k ≤ n ∧ i = .int .i64 k ∧ s = .string ⟨(clS [102, 111, 111] k).toArray⟩) (fun _ i => n - (intOf i).toNat)
  case atStart => exact ⟨0, Nat.zero_le _, rfl, rfl⟩
  case round =>
    obtain ⟨k, hk, rfl, rfl⟩ := hrel
    by_cases hlt : k < n
    · have l1 := clS_len [102, 111, 111] (by decide) k
      have l1' : (clS [102, 111, 111] k).length ≤ 1000 := by omega
      clear l1
      by_cases h0 : k = 0
      · subst h0
        have h1 := hide (show clS [102, 111, 111] (0 + 1) = clS [102, 111, 111] 0 ++ [49] from rfl)
        have e1 := cba_app (clS [102, 111, 111] 0) [49]
        generalize clS [102, 111, 111] 0 = X at *
        go_wp2_with fail
        go_round
        case rel => exact ⟨0 + 1, by omega, by go_num, by rw [unhide h1] <;> rfl⟩
        case measure => simp [intOf]; omega
      · have h1 := hide (show clS [102, 111, 111] (k + 1) = (clS [102, 111, 111] k ++ [44, 32]) ++ [49] by rw [clS, if_neg h0])
        have e1 := cba_app (clS [102, 111, 111] k) [44, 32]
        have e2 := cba_app (clS [102, 111, 111] k ++ [44, 32]) [49]
        have l3 : (clS [102, 111, 111] k ++ [44, 32]).length ≤ 1002 := by rw [List.length_append]; simp; omega
        have hk0 : (0 : Int) < k := by omega
        generalize hY : clS [102, 111, 111] k ++ [44, 32] = Y at *
        clear hY
        generalize clS [102, 111, 111] k = X at *
        go_wp2_with fail
        go_round
        case rel => exact ⟨k + 1, by omega, by go_num, by rw [unhide h1] <;> rfl⟩
        case measure => simp [intOf]; omega
    · obtain rfl : k = n := by omega
      have l1' : (clS [102, 111, 111] k).length ≤ 1000 := by omega
      have e1 := cba_app (clS [102, 111, 111] k) [41]
      generalize hY : clS [102, 111, 111] k ++ [41] = Y at *
      clear hY
      generalize clS [102, 111, 111] k = X at *
      clear hS
      go_wp2_with fail
      refine (unhide P1 _ ((unhide SG).below (unhide B0))).mono ?_
      rintro e w1 ⟨⟨T, rfl, hin, hbr⟩, b1⟩
      have B1 := hide (bstep (unhide B0) b1)
      obtain ⟨tk, tb, tm, tsx, tt, tlo, thi, ta, tl, tc, tkid, rfl⟩ := hin.form
      clear hin b1
      dsimp only [XT.val]
      have B1' := (unhide B1).alloc (unhide B1).size (Obj.cells #[.int .i64 tk, .bool tb, .int .i64 tm, .int .i64 tsx, .string tt, .bool tlo, .bool thi, .slice ta tl tc] 27)
      have XX := XB.new w1 tk tb tm tsx tt tlo thi ta tl tc 27
      go_wp2_with fail
      refine (unhide P2 _ ((unhide SG).below B1')).mono ?_
      rintro e w2 ⟨⟨U, rfl, hin2, hbr2⟩, b2⟩
      obtain ⟨x0, x1, x2, x3, x4, x5, x6, x7, x8, x9⟩ := XX.below b2
      have B2 := hide (bstep B1' b2)
      obtain ⟨uk, ub, um, usx, ut, ulo, uhi, ua, ul, uc, ukid, rfl⟩ := hin2.form
      clear hin2 b2 XX B1'
      dsimp only [XT.val]
      obtain ⟨y1, n1, f1⟩ := X1
      obtain ⟨y2, n2, f2⟩ := X2
      dsimp only at hbr hbr2 ⊢
      have B3 := (unhide B2).alloc (unhide B2).size (Obj.cells #[.int .i64 uk, .bool ub, .int .i64 um, .int .i64 usx, .string ut, .bool ulo, .bool uhi, .slice ua ul uc] 27)
      subst hbr
      subst hbr2
      have G1 := unhide H1
      have G2 := unhide H2
      unfold XT.bare headB at G1 G2
      simp only [Bool.and_eq_true, decide_eq_true_eq] at G1 G2
      obtain ⟨rfl, rfl, ht1, rfl⟩ := G1
      obtain ⟨rfl, rfl, ht2, rfl⟩ := G2
      obtain rfl : tt = ⟨#[102, 111, 111]⟩ := tl_inj ht1
      clear ht1 ht2 H1 H2
      go_wp2_with fail
      refine (fknown_any _ ((unhide SG).below B3)).mono ?_
      rintro e w4 ⟨rfl, b4⟩
      go_wp2_with fail
      go_ret
      exact ⟨rfl, bstep B3 b4⟩

theorem calls_calc1 : ∀ n, n < 10 → (decide ((parseT (clS [116, 114, 117, 101] n ++ [41])).2.2 = 2) && decide ((parseT [116, 114, 117, 101]).2.2 = 0)) = true := by decide +kernel
set_option maxHeartbeats 4000000 in
set_option maxRecDepth 10000 in
theorem calls_1 (n : Nat) (hn : n ≤ 9) (w : World) (sig : Sig w) :
    Calls Tryd.prog 3 #[.int .i64 (n : Int), .int .i64 1] w fun e w' => e = .returned (.bool true) ∧ Below w.heap.size w w' := by
  have SG := hide sig
  clear sig
  have KB := calls_calc1 n (by omega)
  have hS := clS_len [116, 114, 117, 101] (by decide) n
  have P1 := hide (fun w s => parse_any (clS [116, 114, 117, 101] n ++ [41]) (by rw [List.length_append]; simp; omega) w s)
  have P2 := hide (fun w s => parse_any [116, 114, 117, 101] (by decide) w s)
  rw [Bool.and_eq_true] at KB
  obtain ⟨K1, K2⟩ := KB
  generalize parseT (clS [116, 114, 117, 101] n ++ [41]) = X1 at *
  generalize parseT [116, 114, 117, 101] = X2 at *
  have H1 := hide K1
  have H2 := hide K2
  clear K1 K2
  go_enter Tryd.func3, Tryd.ntmps3
  go_wp2_with fail
  have B0 := hide (below1 w (Obj.cells #[.string ⟨#[102, 111, 111]⟩, .string ⟨#[116, 114, 117, 101]⟩, .string ⟨#[116, 104, 101, 110]⟩] 9))
  generalize hW : w.alloc (Obj.cells #[.string ⟨#[102, 111, 111]⟩, .string ⟨#[116, 114, 117, 101]⟩, .string ⟨#[116, 104, 101, 110]⟩] 9) = W at *
  clear hW
  go_loop [6, 7] (fun s i => ∃ k : Nat, k ≤ n ∧ i = .int .i64 k ∧ s = .string ⟨(clS [116, 114, 117, 101] k).toArray⟩) (fun _ i => n - (intOf i).toNat)
  case atStart => exact ⟨0, Nat.zero_le _, rfl, rfl⟩
  case round =>
    obtain ⟨k, hk, rfl, rfl⟩ := hrel
    by_cases hlt : k < n
    · have l1 := clS_len [116, 114, 117, 101] (by decide) k
      have l1' : (clS [116, 114, 117, 101] k).length ≤ 1000 := by omega
      clear l1
      by_cases h0 : k = 0
      · subst h0
        have h1 := hide (show clS [116, 114, 117, 101] (0 + 1) = clS [116, 114, 117, 101] 0 ++ [49] from rfl)
        have e1 := cba_app (clS [116, 114, 117, 101] 0) [49]
        generalize clS [116, 114, 117, 101] 0 = X at *
        go_wp2_with fail
        go_round
        case rel => exact ⟨0 + 1, by omega, by go_num, by rw [unhide h1] <;> rfl⟩
        case measure => simp [intOf]; omega
      · have h1 := hide (show clS [116, 114, 117, 101] (k + 1) = (clS [116, 114, 117, 101] k ++ [44, 32]) ++ [49] by rw [clS, if_neg h0])
        have e1 := cba_app (clS [116, 114, 117, 101] k) [44, 32]
        have e2 := cba_app (clS [116, 114, 117, 101] k ++ [44, 32]) [49]
        have l3 : (clS [116, 114, 117, 101] k ++ [44, 32]).length ≤ 1002 := by rw [List.length_append]; simp; omega
        have hk0 : (0 : Int) < k := by omega
        generalize hY : clS [116, 114, 117, 101] k ++ [44, 32] = Y at *
        clear hY
        generalize clS [116, 114, 117, 101] k = X at *
        go_wp2_with fail
        go_round
        case rel => exact ⟨k + 1, by omega, by go_num, by rw [unhide h1] <;> rfl⟩
        case measure => simp [intOf]; omega
    · obtain rfl : k = n := by omega
      have l1' : (clS [116, 114, 117, 101] k).length ≤ 1000 := by omega
      have e1 := cba_app (clS [116, 114, 117, 101] k) [41]
      generalize hY : clS [116, 114, 117, 101] k ++ [41] = Y at *
      clear hY
      generalize clS [116, 114, 117, 101] k = X at *
      clear hS
      go_wp2_with fail
      refine (unhide P1 _ ((unhide SG).below (unhide B0))).mono ?_
      rintro e w1 ⟨⟨T, rfl, hin, hbr⟩, b1⟩
      have B1 := hide (bstep (unhide B0) b1)
      obtain ⟨tk, tb, tm, tsx, tt, tlo, thi, ta, tl, tc, tkid, rfl⟩ := hin.form
      clear hin b1
      dsimp only [XT.val]
      have B1' := (unhide B1).alloc (unhide B1).size (Obj.cells #[.int .i64 tk, .bool tb, .int .i64 tm, .int .i64 tsx, .string tt, .bool tlo, .bool thi, .slice ta tl tc] 27)
      have XX := XB.new w1 tk tb tm tsx tt tlo thi ta tl tc 27
      go_wp2_with fail
      refine (unhide P2 _ ((unhide SG).below B1')).mono ?_
      rintro e w2 ⟨⟨U, rfl, hin2, hbr2⟩, b2⟩
      obtain ⟨x0, x1, x2, x3, x4, x5, x6, x7, x8, x9⟩ := XX.below b2
      have B2 := hide (bstep B1' b2)
      obtain ⟨uk, ub, um, usx, ut, ulo, uhi, ua, ul, uc, ukid, rfl⟩ := hin2.form
      clear hin2 b2 XX B1'
      dsimp only [XT.val]
      obtain ⟨y1, n1, f1⟩ := X1
      obtain ⟨y2, n2, f2⟩ := X2
      dsimp only at hbr hbr2 ⊢
      have B3 := (unhide B2).alloc (unhide B2).size (Obj.cells #[.int .i64 uk, .bool ub, .int .i64 um, .int .i64 usx, .string ut, .bool ulo, .bool uhi, .slice ua ul uc] 27)
      have G1 := unhide H1
      have G2 := unhide H2
      dsimp only at G1 G2
      rw [decide_eq_true_eq] at G1 G2
      subst G1
      subst G2
      clear H1 H2
      go_wp2_with fail
      refine (fknown_any _ ((unhide SG).below B3)).mono ?_
      rintro e w4 ⟨rfl, b4⟩
      go_wp2_with fail
      go_ret
      exact ⟨rfl, bstep B3 b4⟩

theorem calls_calc2 : ∀ n, n < 10 → (decide ((parseT (clS [116, 104, 101, 110] n ++ [41])).2.2 = 2) && decide ((parseT [116, 104, 101, 110]).2.2 = 2)) = true := by decide +kernel
set_option maxHeartbeats 4000000 in
set_option maxRecDepth 10000 in
theorem calls_2 (n : Nat) (hn : n ≤ 9) (w : World) (sig : Sig w) :
    Calls Tryd.prog 3 #[.int .i64 (n : Int), .int .i64 2] w fun e w' => e = .returned (.bool true) ∧ Below w.heap.size w w' := by
  have SG := hide sig
  clear sig
  have KB := calls_calc2 n (by omega)
  have hS := clS_len [116, 104, 101, 110] (by decide) n
  have P1 := hide (fun w s => parse_any (clS [116, 104, 101, 110] n ++ [41]) (by rw [List.length_append]; simp; omega) w s)
  have P2 := hide (fun w s => parse_any [116, 104, 101, 110] (by decide) w s)
  rw [Bool.and_eq_true] at KB
  obtain ⟨K1, K2⟩ := KB
  generalize parseT (clS [116, 104, 101, 110] n ++ [41]) = X1 at *
  generalize parseT [116, 104, 101, 110] = X2 at *
  have H1 := hide K1
  have H2 := hide K2
  clear K1 K2
  go_enter Tryd.func3, Tryd.ntmps3
  go_wp2_with fail
  have B0 := hide (below1 w (Obj.cells #[.string ⟨#[102, 111, 111]⟩, .string ⟨#[116, 114, 117, 101]⟩, .string ⟨#[116, 104, 101, 110]⟩] 9))
  generalize hW : w.alloc (Obj.cells #[.string ⟨#[102, 111, 111]⟩, .string ⟨#[116, 114, 117, 101]⟩, .string ⟨#[116, 104, 101, 110]⟩] 9) = W at *
  clear hW
  go_loop [6, 7] (fun s i => ∃ k : Nat, k ≤ n ∧ i = .int .i64 k ∧ s = .string ⟨(clS [116, 104, 101, 110] k).toArray⟩) (fun _ i => n - (intOf i).toNat)
  case atStart => exact ⟨0, Nat.zero_le _, rfl, rfl⟩
  case round =>
    obtain ⟨k, hk, rfl, rfl⟩ := hrel
    by_cases hlt : k < n
    · have l1 := clS_len [116, 104, 101, 110] (by decide) k
      have l1' : (clS [116, 104, 101, 110] k).length ≤ 1000 := by omega
      clear l1
      by_cases h0 : k = 0
      · subst h0
        have h1 := hide (show clS [116, 104, 101, 110] (0 + 1) = clS [116, 104, 101, 110] 0 ++ [49] from rfl)
        have e1 := cba_app (clS [116, 104, 101, 110] 0) [49]
        generalize clS [116, 104, 101, 110] 0 = X at *
        go_wp2_with fail
        go_round
        case rel => exact ⟨0 + 1, by omega, by go_num, by rw [unhide h1] <;> rfl⟩
        case measure => simp [intOf]; omega
      · have h1 := hide (show clS [116, 104, 101, 110] (k + 1) = (clS [116, 104, 101, 110] k ++ [44, 32]) ++ [49] by rw [clS, if_neg h0])
        have e1 := cba_app (clS [116, 104, 101, 110] k) [44, 32]
        have e2 := cba_app (clS [116, 104, 101, 110] k ++ [44, 32]) [49]
        have l3 : (clS [116, 104, 101, 110] k ++ [44, 32]).length ≤ 1002 := by rw [List.length_append]; simp; omega
        have hk0 : (0 : Int) < k := by omega
        generalize hY : clS [116, 104, 101, 110] k ++ [44, 32] = Y at *
        clear hY
        generalize clS [116, 104, 101, 110] k = X at *
        go_wp2_with fail
        go_round
        case rel => exact ⟨k + 1, by omega, by go_num, by rw [unhide h1] <;> rfl⟩
        case measure => simp [intOf]; omega
    · obtain rfl : k = n := by omega
      have l1' : (clS [116, 104, 101, 110] k).length ≤ 1000 := by omega
      have e1 := cba_app (clS [116, 104, 101, 110] k) [41]
      generalize hY : clS [116, 104, 101, 110] k ++ [41] = Y at *
      clear hY
      generalize clS [116, 104, 101, 110] k = X at *
      clear hS
      go_wp2_with fail
      refine (unhide P1 _ ((unhide SG).below (unhide B0))).mono ?_
      rintro e w1 ⟨⟨T, rfl, hin, hbr⟩, b1⟩
      have B1 := hide (bstep (unhide B0) b1)
      obtain ⟨tk, tb, tm, tsx, tt, tlo, thi, ta, tl, tc, tkid, rfl⟩ := hin.form
      clear hin b1
      dsimp only [XT.val]
      have B1' := (unhide B1).alloc (unhide B1).size (Obj.cells #[.int .i64 tk, .bool tb, .int .i64 tm, .int .i64 tsx, .string tt, .bool tlo, .bool thi, .slice ta tl tc] 27)
      have XX := XB.new w1 tk tb tm tsx tt tlo thi ta tl tc 27
      go_wp2_with fail
      refine (unhide P2 _ ((unhide SG).below B1')).mono ?_
      rintro e w2 ⟨⟨U, rfl, hin2, hbr2⟩, b2⟩
      obtain ⟨x0, x1, x2, x3, x4, x5, x6, x7, x8, x9⟩ := XX.below b2
      have B2 := hide (bstep B1' b2)
      obtain ⟨uk, ub, um, usx, ut, ulo, uhi, ua, ul, uc, ukid, rfl⟩ := hin2.form
      clear hin2 b2 XX B1'
      dsimp only [XT.val]
      obtain ⟨y1, n1, f1⟩ := X1
      obtain ⟨y2, n2, f2⟩ := X2
      dsimp only at hbr hbr2 ⊢
      have B3 := (unhide B2).alloc (unhide B2).size (Obj.cells #[.int .i64 uk, .bool ub, .int .i64 um, .int .i64 usx, .string ut, .bool ulo, .bool uhi, .slice ua ul uc] 27)
      have G1 := unhide H1
      have G2 := unhide H2
      dsimp only at G1 G2
      rw [decide_eq_true_eq] at G1 G2
      subst G1
      subst G2
      clear H1 H2
      go_wp2_with fail
      refine (fknown_any _ ((unhide SG).below B3)).mono ?_
      rintro e w4 ⟨rfl, b4⟩
      go_wp2_with fail
      go_ret
      exact ⟨rfl, bstep B3 b4⟩

set_option maxHeartbeats 1000000 in
theorem feelCalls_walk (n word : Int) (hn : (Lit.int .i64 n).wf = true) (hw : (Lit.int .i64 word).wf = true) (w : World) (sig : Sig w) :
    Calls Tryd.prog 3 #[.int .i64 n, .int .i64 word] w fun e w' => e = .returned (.bool true) ∧ Below w.heap.size w w' := by
  clear hn hw
  by_cases h : 0 ≤ n ∧ n ≤ 9 ∧ 0 ≤ word ∧ word ≤ 2
  · obtain ⟨h1, h2, h3, h4⟩ := h
    obtain ⟨k, rfl⟩ : ∃ k : Nat, n = k := ⟨n.toNat, by omega⟩
    have hk : k ≤ 9 := by omega
    have hw : word = 0 ∨ word = 1 ∨ word = 2 := by omega
    rcases hw with rfl | rfl | rfl
    · exact calls_0 k hk w sig
    · exact calls_1 k hk w sig
    · exact calls_2 k hk w sig
  · clear sig
    by_cases h1 : n < 0
    · go_enter Tryd.func3, Tryd.ntmps3
      go_wp2_with fail
      go_ret
      exact ⟨rfl, Below.refl _ _⟩
    by_cases h2 : 9 < n
    · go_enter Tryd.func3, Tryd.ntmps3
      go_wp2_with fail
      go_ret
      exact ⟨rfl, Below.refl _ _⟩
    by_cases h3 : word < 0
    · go_enter Tryd.func3, Tryd.ntmps3
      go_wp2_with fail
      go_ret
      exact ⟨rfl, Below.refl _ _⟩
    have h4 : 2 < word := by omega
    go_enter Tryd.func3, Tryd.ntmps3
    go_wp2_with fail
    go_ret
    exact ⟨rfl, Below.refl _ _⟩
end Go.Proofs.YtfpgajbdgmlenabDoor
