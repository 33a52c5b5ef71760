/- The walk of FeelDeep: what stands within one another, as deep as may be, and no deeper. (Printed by mkdeep.py.) -/
import Derived.Test.YtfpgajbdgmlenaaDoorGH
namespace Go.Proofs.YtfpgajbdgmlenaaDoor
open Go.RowKit
set_option linter.unusedVariables false

def rpA (x : List UInt8) : Nat → List UInt8
  | 0 => []
  | n + 1 => rpA x n ++ x
def rpZ (x : List UInt8) : Nat → List UInt8
  | 0 => []
  | n + 1 => x ++ rpZ x n
theorem rpA_len (x : List UInt8) (n : Nat) : (rpA x n).length = n * x.length := by
  induction n with
  | zero => simp [rpA]
  | succ n ih => rw [rpA, List.length_append, ih, Nat.succ_mul]
theorem rpZ_len (x : List UInt8) (n : Nat) : (rpZ x n).length = n * x.length := by
  induction n with
  | zero => simp [rpZ]
  | succ n ih => rw [rpZ, List.length_append, ih, Nat.succ_mul]; omega
theorem fba_app (x y : List UInt8) : (⟨x.toArray⟩ : ByteArray) ++ ⟨y.toArray⟩ = ⟨(x ++ y).toArray⟩ := by
  apply ByteArray.ext
  simp [ByteArray.data_append]
def deepL (a z : List UInt8) (n : Nat) : List UInt8 := (rpA a n ++ [55]) ++ rpZ z n
def deepB (a z : List UInt8) (n : Nat) : Bool := decide (200 < (deepL a z n).length) || (decide ((lexT (deepL a z n)).2.2 ≠ 0) || (decide ((lexT (deepL a z n)).1.length = 0) || decide ((parseT (deepL a z n)).2.2 = if n ≤ 8 then 0 else 12)))

theorem deep_calc0 : ∀ n, n < 13 → deepB [40] [41] n = true := by decide +kernel
set_option maxHeartbeats 4000000 in
set_option maxRecDepth 10000 in
theorem deep_0 (n : Nat) (hn : n ≤ 12) (w : World) (sig : Sig w) :
    Calls Tryd.prog 7 #[.int .i64 (n : Int), .int .i64 0] w fun e w' => e = .returned (.bool true) ∧ Below w.heap.size w w' := by
  have SG := hide sig
  clear sig
  have KB := deep_calc0 n (by omega)
  have hL : (deepL [40] [41] n).length = n * 1 + 1 + n * 1 := by unfold deepL; simp only [List.length_append, rpA_len, rpZ_len]; rfl
  have LX := hide (fun w => rlex_all (deepL [40] [41] n) w (by omega))
  have PX := hide (fun w s => parse_any (deepL [40] [41] n) (by omega) w s)
  have DL := hide (show (rpA [40] n ++ [55]) ++ rpZ [41] n = deepL [40] [41] n from rfl)
  unfold deepB at KB
  have HK := hide KB
  clear KB
  go_enter Tryd.func7, Tryd.ntmps7
  go_wp2_with fail
  have b0 := below2 w (Obj.cells #[.string ⟨#[40]⟩, .string ⟨#[45]⟩, .string ⟨#[91]⟩, .string ⟨#[102, 40]⟩, .string ⟨#[105, 102, 32, 116, 114, 117, 101, 32, 116, 104, 101, 110, 32, 49, 32, 101, 108, 115, 101, 32]⟩, .string ⟨#[49, 32, 105, 110, 32, 91, 50, 46, 46]⟩] 9) (Obj.cells #[.string ⟨#[41]⟩, .string ⟨#[]⟩, .string ⟨#[93]⟩, .string ⟨#[41]⟩, .string ⟨#[]⟩, .string ⟨#[93]⟩] 9)
  generalize hW : (w.alloc (Obj.cells #[.string ⟨#[40]⟩, .string ⟨#[45]⟩, .string ⟨#[91]⟩, .string ⟨#[102, 40]⟩, .string ⟨#[105, 102, 32, 116, 114, 117, 101, 32, 116, 104, 101, 110, 32, 49, 32, 101, 108, 115, 101, 32]⟩, .string ⟨#[49, 32, 105, 110, 32, 91, 50, 46, 46]⟩] 9)).alloc (Obj.cells #[.string ⟨#[41]⟩, .string ⟨#[]⟩, .string ⟨#[93]⟩, .string ⟨#[41]⟩, .string ⟨#[]⟩, .string ⟨#[93]⟩] 9) = W at *
  clear hW
  have B0 := hide b0
  clear b0
  go_loop [7, 8, 9] (fun s t i => ∃ k : Nat, k ≤ n ∧ i = .int .i64 k ∧ s = .string ⟨(rpA [40] k).toArray⟩ ∧ t = .string ⟨(rpZ [41] k).toArray⟩) (fun _ _ i => n - (intOf i).toNat)
  case atStart => exact ⟨0, Nat.zero_le _, rfl, rfl, rfl⟩
  case round =>
    obtain ⟨k, hk, rfl, rfl, rfl⟩ := hrel
    by_cases hlt : k < n
    · have e1 := fba_app (rpA [40] k) [40]
      have e2 := fba_app [41] (rpZ [41] k)
      have l1 := rpA_len [40] k
      have l2 := rpZ_len [41] k
      have h1 := hide (show rpA [40] (k + 1) = rpA [40] k ++ [40] from rfl)
      have h2 := hide (show rpZ [41] (k + 1) = [41] ++ rpZ [41] k from rfl)
      have l1' : (rpA [40] k).length ≤ 1000 := by rw [l1]; simp; omega
      have l2' : (rpZ [41] k).length ≤ 1000 := by rw [l2]; simp <;> omega
      clear l1 l2 LX PX DL HK hL
      generalize rpA [40] k = X at *
      generalize rpZ [41] k = Y at *
      go_wp2_with fail
      go_round
      case rel => exact ⟨k + 1, by omega, by go_num, by rw [unhide h1] <;> rfl, by rw [unhide h2] <;> rfl⟩
      case measure => simp [intOf]; omega
    · obtain rfl : k = n := by omega
      have e1 := fba_app (rpA [40] k) [55]
      have e2 := fba_app (rpA [40] k ++ [55]) (rpZ [41] k)
      rw [unhide DL] at e2
      have l1 := rpA_len [40] k
      have l2 := rpZ_len [41] k
      have l1' : (rpA [40] k).length ≤ 1000 := by rw [l1]; simp; omega
      have l2' : (rpZ [41] k).length ≤ 1000 := by rw [l2]; simp <;> omega
      clear l1 l2 DL
      generalize deepL [40] [41] k = D at *
      have hD : D.length ≤ 1000 := by omega
      by_cases h200 : 200 < D.length
      · clear hL
        go_wp2_with fail
        go_ret
        exact ⟨rfl, unhide B0⟩
      · clear hL
        have HK2 := unhide HK
        rw [decide_eq_false h200, Bool.false_or] at HK2
        go_wp2_with fail
        refine (unhide LX _).mono ?_
        rintro e w1 ⟨⟨v, rfl, own⟩, b1⟩
        have B1 := hide (bstep (unhide B0) b1)
        obtain ⟨la, lc, rfl⟩ := owns_form own
        clear own b1 LX HK
        generalize lexT D = LT at *
        obtain ⟨ts, ln, le⟩ := LT
        dsimp only at HK2 ⊢
        by_cases hle : le = 0
        · subst hle
          have HK3 : (decide (ts.length = 0) || decide ((parseT D).2.2 = if k ≤ 8 then 0 else 12)) = true := by simpa using HK2
          clear HK2
          by_cases htl : ts.length = 0
          · rw [htl]
            go_wp2_with fail
            go_ret
            exact ⟨rfl, unhide B1⟩
          · have htl' : ((ts.length : Int) == 0) = false := by rw [beq_eq_false_iff_ne]; omega
            rw [decide_eq_false htl, Bool.false_or, decide_eq_true_eq] at HK3
            have PP := hide (fun w s => (unhide PX) w s)
            clear PX
            generalize parseT D = PT at *
            obtain ⟨px, pn, pe⟩ := PT
            dsimp only at HK3
            clear htl
            have sg1 := (unhide SG).below (unhide B1)
            go_wp2_with fail
            refine (unhide PP _ sg1).mono ?_
            rintro e w2 ⟨⟨T, rfl, hin, hbr⟩, b2⟩
            have B2 := hide (bstep (unhide B1) b2)
            obtain ⟨tk, tb, tm, tsx, tt, tlo, thi, ta, tl, tc, tkid, rfl⟩ := hin.form
            clear hin hbr b2
            dsimp only [XT.val]
            have B3 := (unhide B2).alloc (unhide B2).size (Obj.cells #[.int .i64 tk, .bool tb, .int .i64 tm, .int .i64 tsx, .string tt, .bool tlo, .bool thi, .slice ta tl tc] 26)
            by_cases h8 : k ≤ 8
            · rw [if_pos h8] at HK3
              subst HK3
              go_wp2_with fail
              refine (fknown_any _ ((unhide SG).below B3)).mono ?_
              rintro e w4 ⟨rfl, b4⟩
              go_wp2_with fail
              go_ret
              exact ⟨rfl, bstep B3 b4⟩
            · rw [if_neg h8] at HK3
              subst HK3
              go_wp2_with fail
              refine (fknown_any _ ((unhide SG).below B3)).mono ?_
              rintro e w4 ⟨rfl, b4⟩
              go_wp2_with fail
              go_ret
              exact ⟨ret_bool (by simp; omega), bstep B3 b4⟩
        · have hle' : ((le : Int) != 0) = true := by simp; omega
          clear hle HK2
          go_wp2_with fail
          go_ret
          exact ⟨rfl, unhide B1⟩

theorem deep_calc1 : ∀ n, n < 13 → deepB [45] [] n = true := by decide +kernel
set_option maxHeartbeats 4000000 in
set_option maxRecDepth 10000 in
theorem deep_1 (n : Nat) (hn : n ≤ 12) (w : World) (sig : Sig w) :
    Calls Tryd.prog 7 #[.int .i64 (n : Int), .int .i64 1] w fun e w' => e = .returned (.bool true) ∧ Below w.heap.size w w' := by
  have SG := hide sig
  clear sig
  have KB := deep_calc1 n (by omega)
  have hL : (deepL [45] [] n).length = n * 1 + 1 + n * 0 := by unfold deepL; simp only [List.length_append, rpA_len, rpZ_len]; rfl
  have LX := hide (fun w => rlex_all (deepL [45] [] n) w (by omega))
  have PX := hide (fun w s => parse_any (deepL [45] [] n) (by omega) w s)
  have DL := hide (show (rpA [45] n ++ [55]) ++ rpZ [] n = deepL [45] [] n from rfl)
  unfold deepB at KB
  have HK := hide KB
  clear KB
  go_enter Tryd.func7, Tryd.ntmps7
  go_wp2_with fail
  have b0 := below2 w (Obj.cells #[.string ⟨#[40]⟩, .string ⟨#[45]⟩, .string ⟨#[91]⟩, .string ⟨#[102, 40]⟩, .string ⟨#[105, 102, 32, 116, 114, 117, 101, 32, 116, 104, 101, 110, 32, 49, 32, 101, 108, 115, 101, 32]⟩, .string ⟨#[49, 32, 105, 110, 32, 91, 50, 46, 46]⟩] 9) (Obj.cells #[.string ⟨#[41]⟩, .string ⟨#[]⟩, .string ⟨#[93]⟩, .string ⟨#[41]⟩, .string ⟨#[]⟩, .string ⟨#[93]⟩] 9)
  generalize hW : (w.alloc (Obj.cells #[.string ⟨#[40]⟩, .string ⟨#[45]⟩, .string ⟨#[91]⟩, .string ⟨#[102, 40]⟩, .string ⟨#[105, 102, 32, 116, 114, 117, 101, 32, 116, 104, 101, 110, 32, 49, 32, 101, 108, 115, 101, 32]⟩, .string ⟨#[49, 32, 105, 110, 32, 91, 50, 46, 46]⟩] 9)).alloc (Obj.cells #[.string ⟨#[41]⟩, .string ⟨#[]⟩, .string ⟨#[93]⟩, .string ⟨#[41]⟩, .string ⟨#[]⟩, .string ⟨#[93]⟩] 9) = W at *
  clear hW
  have B0 := hide b0
  clear b0
  go_loop [7, 8, 9] (fun s t i => ∃ k : Nat, k ≤ n ∧ i = .int .i64 k ∧ s = .string ⟨(rpA [45] k).toArray⟩ ∧ t = .string ⟨(rpZ [] k).toArray⟩) (fun _ _ i => n - (intOf i).toNat)
  case atStart => exact ⟨0, Nat.zero_le _, rfl, rfl, rfl⟩
  case round =>
    obtain ⟨k, hk, rfl, rfl, rfl⟩ := hrel
    by_cases hlt : k < n
    · have e1 := fba_app (rpA [45] k) [45]
      have e2 := fba_app [] (rpZ [] k)
      have l1 := rpA_len [45] k
      have l2 := rpZ_len [] k
      have h1 := hide (show rpA [45] (k + 1) = rpA [45] k ++ [45] from rfl)
      have h2 := hide (show rpZ [] (k + 1) = [] ++ rpZ [] k from rfl)
      have l1' : (rpA [45] k).length ≤ 1000 := by rw [l1]; simp; omega
      have l2' : (rpZ [] k).length ≤ 1000 := by rw [l2]; simp <;> omega
      clear l1 l2 LX PX DL HK hL
      generalize rpA [45] k = X at *
      generalize rpZ [] k = Y at *
      go_wp2_with fail
      go_round
      case rel => exact ⟨k + 1, by omega, by go_num, by rw [unhide h1] <;> rfl, by rw [unhide h2] <;> rfl⟩
      case measure => simp [intOf]; omega
    · obtain rfl : k = n := by omega
      have e1 := fba_app (rpA [45] k) [55]
      have e2 := fba_app (rpA [45] k ++ [55]) (rpZ [] k)
      rw [unhide DL] at e2
      have l1 := rpA_len [45] k
      have l2 := rpZ_len [] k
      have l1' : (rpA [45] k).length ≤ 1000 := by rw [l1]; simp; omega
      have l2' : (rpZ [] k).length ≤ 1000 := by rw [l2]; simp <;> omega
      clear l1 l2 DL
      generalize deepL [45] [] k = D at *
      have hD : D.length ≤ 1000 := by omega
      by_cases h200 : 200 < D.length
      · clear hL
        go_wp2_with fail
        go_ret
        exact ⟨rfl, unhide B0⟩
      · clear hL
        have HK2 := unhide HK
        rw [decide_eq_false h200, Bool.false_or] at HK2
        go_wp2_with fail
        refine (unhide LX _).mono ?_
        rintro e w1 ⟨⟨v, rfl, own⟩, b1⟩
        have B1 := hide (bstep (unhide B0) b1)
        obtain ⟨la, lc, rfl⟩ := owns_form own
        clear own b1 LX HK
        generalize lexT D = LT at *
        obtain ⟨ts, ln, le⟩ := LT
        dsimp only at HK2 ⊢
        by_cases hle : le = 0
        · subst hle
          have HK3 : (decide (ts.length = 0) || decide ((parseT D).2.2 = if k ≤ 8 then 0 else 12)) = true := by simpa using HK2
          clear HK2
          by_cases htl : ts.length = 0
          · rw [htl]
            go_wp2_with fail
            go_ret
            exact ⟨rfl, unhide B1⟩
          · have htl' : ((ts.length : Int) == 0) = false := by rw [beq_eq_false_iff_ne]; omega
            rw [decide_eq_false htl, Bool.false_or, decide_eq_true_eq] at HK3
            have PP := hide (fun w s => (unhide PX) w s)
            clear PX
            generalize parseT D = PT at *
            obtain ⟨px, pn, pe⟩ := PT
            dsimp only at HK3
            clear htl
            have sg1 := (unhide SG).below (unhide B1)
            go_wp2_with fail
            refine (unhide PP _ sg1).mono ?_
            rintro e w2 ⟨⟨T, rfl, hin, hbr⟩, b2⟩
            have B2 := hide (bstep (unhide B1) b2)
            obtain ⟨tk, tb, tm, tsx, tt, tlo, thi, ta, tl, tc, tkid, rfl⟩ := hin.form
            clear hin hbr b2
            dsimp only [XT.val]
            have B3 := (unhide B2).alloc (unhide B2).size (Obj.cells #[.int .i64 tk, .bool tb, .int .i64 tm, .int .i64 tsx, .string tt, .bool tlo, .bool thi, .slice ta tl tc] 26)
            by_cases h8 : k ≤ 8
            · rw [if_pos h8] at HK3
              subst HK3
              go_wp2_with fail
              refine (fknown_any _ ((unhide SG).below B3)).mono ?_
              rintro e w4 ⟨rfl, b4⟩
              go_wp2_with fail
              go_ret
              exact ⟨rfl, bstep B3 b4⟩
            · rw [if_neg h8] at HK3
              subst HK3
              go_wp2_with fail
              refine (fknown_any _ ((unhide SG).below B3)).mono ?_
              rintro e w4 ⟨rfl, b4⟩
              go_wp2_with fail
              go_ret
              exact ⟨ret_bool (by simp; omega), bstep B3 b4⟩
        · have hle' : ((le : Int) != 0) = true := by simp; omega
          clear hle HK2
          go_wp2_with fail
          go_ret
          exact ⟨rfl, unhide B1⟩

theorem deep_calc2 : ∀ n, n < 13 → deepB [91] [93] n = true := by decide +kernel
set_option maxHeartbeats 4000000 in
set_option maxRecDepth 10000 in
theorem deep_2 (n : Nat) (hn : n ≤ 12) (w : World) (sig : Sig w) :
    Calls Tryd.prog 7 #[.int .i64 (n : Int), .int .i64 2] w fun e w' => e = .returned (.bool true) ∧ Below w.heap.size w w' := by
  have SG := hide sig
  clear sig
  have KB := deep_calc2 n (by omega)
  have hL : (deepL [91] [93] n).length = n * 1 + 1 + n * 1 := by unfold deepL; simp only [List.length_append, rpA_len, rpZ_len]; rfl
  have LX := hide (fun w => rlex_all (deepL [91] [93] n) w (by omega))
  have PX := hide (fun w s => parse_any (deepL [91] [93] n) (by omega) w s)
  have DL := hide (show (rpA [91] n ++ [55]) ++ rpZ [93] n = deepL [91] [93] n from rfl)
  unfold deepB at KB
  have HK := hide KB
  clear KB
  go_enter Tryd.func7, Tryd.ntmps7
  go_wp2_with fail
  have b0 := below2 w (Obj.cells #[.string ⟨#[40]⟩, .string ⟨#[45]⟩, .string ⟨#[91]⟩, .string ⟨#[102, 40]⟩, .string ⟨#[105, 102, 32, 116, 114, 117, 101, 32, 116, 104, 101, 110, 32, 49, 32, 101, 108, 115, 101, 32]⟩, .string ⟨#[49, 32, 105, 110, 32, 91, 50, 46, 46]⟩] 9) (Obj.cells #[.string ⟨#[41]⟩, .string ⟨#[]⟩, .string ⟨#[93]⟩, .string ⟨#[41]⟩, .string ⟨#[]⟩, .string ⟨#[93]⟩] 9)
  generalize hW : (w.alloc (Obj.cells #[.string ⟨#[40]⟩, .string ⟨#[45]⟩, .string ⟨#[91]⟩, .string ⟨#[102, 40]⟩, .string ⟨#[105, 102, 32, 116, 114, 117, 101, 32, 116, 104, 101, 110, 32, 49, 32, 101, 108, 115, 101, 32]⟩, .string ⟨#[49, 32, 105, 110, 32, 91, 50, 46, 46]⟩] 9)).alloc (Obj.cells #[.string ⟨#[41]⟩, .string ⟨#[]⟩, .string ⟨#[93]⟩, .string ⟨#[41]⟩, .string ⟨#[]⟩, .string ⟨#[93]⟩] 9) = W at *
  clear hW
  have B0 := hide b0
  clear b0
  go_loop [7, 8, 9] (fun s t i => ∃ k : Nat, k ≤ n ∧ i = .int .i64 k ∧ s = .string ⟨(rpA [91] k).toArray⟩ ∧ t = .string ⟨(rpZ [93] k).toArray⟩) (fun _ _ i => n - (intOf i).toNat)
  case atStart => exact ⟨0, Nat.zero_le _, rfl, rfl, rfl⟩
  case round =>
    obtain ⟨k, hk, rfl, rfl, rfl⟩ := hrel
    by_cases hlt : k < n
    · have e1 := fba_app (rpA [91] k) [91]
      have e2 := fba_app [93] (rpZ [93] k)
      have l1 := rpA_len [91] k
      have l2 := rpZ_len [93] k
      have h1 := hide (show rpA [91] (k + 1) = rpA [91] k ++ [91] from rfl)
      have h2 := hide (show rpZ [93] (k + 1) = [93] ++ rpZ [93] k from rfl)
      have l1' : (rpA [91] k).length ≤ 1000 := by rw [l1]; simp; omega
      have l2' : (rpZ [93] k).length ≤ 1000 := by rw [l2]; simp <;> omega
      clear l1 l2 LX PX DL HK hL
      generalize rpA [91] k = X at *
      generalize rpZ [93] k = Y at *
      go_wp2_with fail
      go_round
      case rel => exact ⟨k + 1, by omega, by go_num, by rw [unhide h1] <;> rfl, by rw [unhide h2] <;> rfl⟩
      case measure => simp [intOf]; omega
    · obtain rfl : k = n := by omega
      have e1 := fba_app (rpA [91] k) [55]
      have e2 := fba_app (rpA [91] k ++ [55]) (rpZ [93] k)
      rw [unhide DL] at e2
      have l1 := rpA_len [91] k
      have l2 := rpZ_len [93] k
      have l1' : (rpA [91] k).length ≤ 1000 := by rw [l1]; simp; omega
      have l2' : (rpZ [93] k).length ≤ 1000 := by rw [l2]; simp <;> omega
      clear l1 l2 DL
      generalize deepL [91] [93] k = D at *
      have hD : D.length ≤ 1000 := by omega
      by_cases h200 : 200 < D.length
      · clear hL
        go_wp2_with fail
        go_ret
        exact ⟨rfl, unhide B0⟩
      · clear hL
        have HK2 := unhide HK
        rw [decide_eq_false h200, Bool.false_or] at HK2
        go_wp2_with fail
        refine (unhide LX _).mono ?_
        rintro e w1 ⟨⟨v, rfl, own⟩, b1⟩
        have B1 := hide (bstep (unhide B0) b1)
        obtain ⟨la, lc, rfl⟩ := owns_form own
        clear own b1 LX HK
        generalize lexT D = LT at *
        obtain ⟨ts, ln, le⟩ := LT
        dsimp only at HK2 ⊢
        by_cases hle : le = 0
        · subst hle
          have HK3 : (decide (ts.length = 0) || decide ((parseT D).2.2 = if k ≤ 8 then 0 else 12)) = true := by simpa using HK2
          clear HK2
          by_cases htl : ts.length = 0
          · rw [htl]
            go_wp2_with fail
            go_ret
            exact ⟨rfl, unhide B1⟩
          · have htl' : ((ts.length : Int) == 0) = false := by rw [beq_eq_false_iff_ne]; omega
            rw [decide_eq_false htl, Bool.false_or, decide_eq_true_eq] at HK3
            have PP := hide (fun w s => (unhide PX) w s)
            clear PX
            generalize parseT D = PT at *
            obtain ⟨px, pn, pe⟩ := PT
            dsimp only at HK3
            clear htl
            have sg1 := (unhide SG).below (unhide B1)
            go_wp2_with fail
            refine (unhide PP _ sg1).mono ?_
            rintro e w2 ⟨⟨T, rfl, hin, hbr⟩, b2⟩
            have B2 := hide (bstep (unhide B1) b2)
            obtain ⟨tk, tb, tm, tsx, tt, tlo, thi, ta, tl, tc, tkid, rfl⟩ := hin.form
            clear hin hbr b2
            dsimp only [XT.val]
            have B3 := (unhide B2).alloc (unhide B2).size (Obj.cells #[.int .i64 tk, .bool tb, .int .i64 tm, .int .i64 tsx, .string tt, .bool tlo, .bool thi, .slice ta tl tc] 26)
            by_cases h8 : k ≤ 8
            · rw [if_pos h8] at HK3
              subst HK3
              go_wp2_with fail
              refine (fknown_any _ ((unhide SG).below B3)).mono ?_
              rintro e w4 ⟨rfl, b4⟩
              go_wp2_with fail
              go_ret
              exact ⟨rfl, bstep B3 b4⟩
            · rw [if_neg h8] at HK3
              subst HK3
              go_wp2_with fail
              refine (fknown_any _ ((unhide SG).below B3)).mono ?_
              rintro e w4 ⟨rfl, b4⟩
              go_wp2_with fail
              go_ret
              exact ⟨ret_bool (by simp; omega), bstep B3 b4⟩
        · have hle' : ((le : Int) != 0) = true := by simp; omega
          clear hle HK2
          go_wp2_with fail
          go_ret
          exact ⟨rfl, unhide B1⟩

theorem deep_calc3 : ∀ n, n < 13 → deepB [102, 40] [41] n = true := by decide +kernel
set_option maxHeartbeats 4000000 in
set_option maxRecDepth 10000 in
theorem deep_3 (n : Nat) (hn : n ≤ 12) (w : World) (sig : Sig w) :
    Calls Tryd.prog 7 #[.int .i64 (n : Int), .int .i64 3] w fun e w' => e = .returned (.bool true) ∧ Below w.heap.size w w' := by
  have SG := hide sig
  clear sig
  have KB := deep_calc3 n (by omega)
  have hL : (deepL [102, 40] [41] n).length = n * 2 + 1 + n * 1 := by unfold deepL; simp only [List.length_append, rpA_len, rpZ_len]; rfl
  have LX := hide (fun w => rlex_all (deepL [102, 40] [41] n) w (by omega))
  have PX := hide (fun w s => parse_any (deepL [102, 40] [41] n) (by omega) w s)
  have DL := hide (show (rpA [102, 40] n ++ [55]) ++ rpZ [41] n = deepL [102, 40] [41] n from rfl)
  unfold deepB at KB
  have HK := hide KB
  clear KB
  go_enter Tryd.func7, Tryd.ntmps7
  go_wp2_with fail
  have b0 := below2 w (Obj.cells #[.string ⟨#[40]⟩, .string ⟨#[45]⟩, .string ⟨#[91]⟩, .string ⟨#[102, 40]⟩, .string ⟨#[105, 102, 32, 116, 114, 117, 101, 32, 116, 104, 101, 110, 32, 49, 32, 101, 108, 115, 101, 32]⟩, .string ⟨#[49, 32, 105, 110, 32, 91, 50, 46, 46]⟩] 9) (Obj.cells #[.string ⟨#[41]⟩, .string ⟨#[]⟩, .string ⟨#[93]⟩, .string ⟨#[41]⟩, .string ⟨#[]⟩, .string ⟨#[93]⟩] 9)
  generalize hW : (w.alloc (Obj.cells #[.string ⟨#[40]⟩, .string ⟨#[45]⟩, .string ⟨#[91]⟩, .string ⟨#[102, 40]⟩, .string ⟨#[105, 102, 32, 116, 114, 117, 101, 32, 116, 104, 101, 110, 32, 49, 32, 101, 108, 115, 101, 32]⟩, .string ⟨#[49, 32, 105, 110, 32, 91, 50, 46, 46]⟩] 9)).alloc (Obj.cells #[.string ⟨#[41]⟩, .string ⟨#[]⟩, .string ⟨#[93]⟩, .string ⟨#[41]⟩, .string ⟨#[]⟩, .string ⟨#[93]⟩] 9) = W at *
  clear hW
  have B0 := hide b0
  clear b0
  go_loop [7, 8, 9] (fun s t i => ∃ k : Nat, k ≤ n ∧ i = .int .i64 k ∧ s = .string ⟨(rpA [102, 40] k).toArray⟩ ∧ t = .string ⟨(rpZ [41] k).toArray⟩) (fun _ _ i => n - (intOf i).toNat)
  case atStart => exact ⟨0, Nat.zero_le _, rfl, rfl, rfl⟩
  case round =>
    obtain ⟨k, hk, rfl, rfl, rfl⟩ := hrel
    by_cases hlt : k < n
    · have e1 := fba_app (rpA [102, 40] k) [102, 40]
      have e2 := fba_app [41] (rpZ [41] k)
      have l1 := rpA_len [102, 40] k
      have l2 := rpZ_len [41] k
      have h1 := hide (show rpA [102, 40] (k + 1) = rpA [102, 40] k ++ [102, 40] from rfl)
      have h2 := hide (show rpZ [41] (k + 1) = [41] ++ rpZ [41] k from rfl)
      have l1' : (rpA [102, 40] k).length ≤ 1000 := by rw [l1]; simp; omega
      have l2' : (rpZ [41] k).length ≤ 1000 := by rw [l2]; simp <;> omega
      clear l1 l2 LX PX DL HK hL
      generalize rpA [102, 40] k = X at *
      generalize rpZ [41] k = Y at *
      go_wp2_with fail
      go_round
      case rel => exact ⟨k + 1, by omega, by go_num, by rw [unhide h1] <;> rfl, by rw [unhide h2] <;> rfl⟩
      case measure => simp [intOf]; omega
    · obtain rfl : k = n := by omega
      have e1 := fba_app (rpA [102, 40] k) [55]
      have e2 := fba_app (rpA [102, 40] k ++ [55]) (rpZ [41] k)
      rw [unhide DL] at e2
      have l1 := rpA_len [102, 40] k
      have l2 := rpZ_len [41] k
      have l1' : (rpA [102, 40] k).length ≤ 1000 := by rw [l1]; simp; omega
      have l2' : (rpZ [41] k).length ≤ 1000 := by rw [l2]; simp <;> omega
      clear l1 l2 DL
      generalize deepL [102, 40] [41] k = D at *
      have hD : D.length ≤ 1000 := by omega
      by_cases h200 : 200 < D.length
      · clear hL
        go_wp2_with fail
        go_ret
        exact ⟨rfl, unhide B0⟩
      · clear hL
        have HK2 := unhide HK
        rw [decide_eq_false h200, Bool.false_or] at HK2
        go_wp2_with fail
        refine (unhide LX _).mono ?_
        rintro e w1 ⟨⟨v, rfl, own⟩, b1⟩
        have B1 := hide (bstep (unhide B0) b1)
        obtain ⟨la, lc, rfl⟩ := owns_form own
        clear own b1 LX HK
        generalize lexT D = LT at *
        obtain ⟨ts, ln, le⟩ := LT
        dsimp only at HK2 ⊢
        by_cases hle : le = 0
        · subst hle
          have HK3 : (decide (ts.length = 0) || decide ((parseT D).2.2 = if k ≤ 8 then 0 else 12)) = true := by simpa using HK2
          clear HK2
          by_cases htl : ts.length = 0
          · rw [htl]
            go_wp2_with fail
            go_ret
            exact ⟨rfl, unhide B1⟩
          · have htl' : ((ts.length : Int) == 0) = false := by rw [beq_eq_false_iff_ne]; omega
            rw [decide_eq_false htl, Bool.false_or, decide_eq_true_eq] at HK3
            have PP := hide (fun w s => (unhide PX) w s)
            clear PX
            generalize parseT D = PT at *
            obtain ⟨px, pn, pe⟩ := PT
            dsimp only at HK3
            clear htl
            have sg1 := (unhide SG).below (unhide B1)
            go_wp2_with fail
            refine (unhide PP _ sg1).mono ?_
            rintro e w2 ⟨⟨T, rfl, hin, hbr⟩, b2⟩
            have B2 := hide (bstep (unhide B1) b2)
            obtain ⟨tk, tb, tm, tsx, tt, tlo, thi, ta, tl, tc, tkid, rfl⟩ := hin.form
            clear hin hbr b2
            dsimp only [XT.val]
            have B3 := (unhide B2).alloc (unhide B2).size (Obj.cells #[.int .i64 tk, .bool tb, .int .i64 tm, .int .i64 tsx, .string tt, .bool tlo, .bool thi, .slice ta tl tc] 26)
            by_cases h8 : k ≤ 8
            · rw [if_pos h8] at HK3
              subst HK3
              go_wp2_with fail
              refine (fknown_any _ ((unhide SG).below B3)).mono ?_
              rintro e w4 ⟨rfl, b4⟩
              go_wp2_with fail
              go_ret
              exact ⟨rfl, bstep B3 b4⟩
            · rw [if_neg h8] at HK3
              subst HK3
              go_wp2_with fail
              refine (fknown_any _ ((unhide SG).below B3)).mono ?_
              rintro e w4 ⟨rfl, b4⟩
              go_wp2_with fail
              go_ret
              exact ⟨ret_bool (by simp; omega), bstep B3 b4⟩
        · have hle' : ((le : Int) != 0) = true := by simp; omega
          clear hle HK2
          go_wp2_with fail
          go_ret
          exact ⟨rfl, unhide B1⟩

theorem deep_calc4 : ∀ n, n < 13 → deepB [105, 102, 32, 116, 114, 117, 101, 32, 116, 104, 101, 110, 32, 49, 32, 101, 108, 115, 101, 32] [] n = true := by decide +kernel
set_option maxHeartbeats 4000000 in
set_option maxRecDepth 10000 in
theorem deep_4 (n : Nat) (hn : n ≤ 12) (w : World) (sig : Sig w) :
    Calls Tryd.prog 7 #[.int .i64 (n : Int), .int .i64 4] w fun e w' => e = .returned (.bool true) ∧ Below w.heap.size w w' := by
  have SG := hide sig
  clear sig
  have KB := deep_calc4 n (by omega)
  have hL : (deepL [105, 102, 32, 116, 114, 117, 101, 32, 116, 104, 101, 110, 32, 49, 32, 101, 108, 115, 101, 32] [] n).length = n * 20 + 1 + n * 0 := by unfold deepL; simp only [List.length_append, rpA_len, rpZ_len]; rfl
  have LX := hide (fun w => rlex_all (deepL [105, 102, 32, 116, 114, 117, 101, 32, 116, 104, 101, 110, 32, 49, 32, 101, 108, 115, 101, 32] [] n) w (by omega))
  have PX := hide (fun w s => parse_any (deepL [105, 102, 32, 116, 114, 117, 101, 32, 116, 104, 101, 110, 32, 49, 32, 101, 108, 115, 101, 32] [] n) (by omega) w s)
  have DL := hide (show (rpA [105, 102, 32, 116, 114, 117, 101, 32, 116, 104, 101, 110, 32, 49, 32, 101, 108, 115, 101, 32] n ++ [55]) ++ rpZ [] n = deepL [105, 102, 32, 116, 114, 117, 101, 32, 116, 104, 101, 110, 32, 49, 32, 101, 108, 115, 101, 32] [] n from rfl)
  unfold deepB at KB
  have HK := hide KB
  clear KB
  go_enter Tryd.func7, Tryd.ntmps7
  go_wp2_with fail
  have b0 := below2 w (Obj.cells #[.string ⟨#[40]⟩, .string ⟨#[45]⟩, .string ⟨#[91]⟩, .string ⟨#[102, 40]⟩, .string ⟨#[105, 102, 32, 116, 114, 117, 101, 32, 116, 104, 101, 110, 32, 49, 32, 101, 108, 115, 101, 32]⟩, .string ⟨#[49, 32, 105, 110, 32, 91, 50, 46, 46]⟩] 9) (Obj.cells #[.string ⟨#[41]⟩, .string ⟨#[]⟩, .string ⟨#[93]⟩, .string ⟨#[41]⟩, .string ⟨#[]⟩, .string ⟨#[93]⟩] 9)
  generalize hW : (w.alloc (Obj.cells #[.string ⟨#[40]⟩, .string ⟨#[45]⟩, .string ⟨#[91]⟩, .string ⟨#[102, 40]⟩, .string ⟨#[105, 102, 32, 116, 114, 117, 101, 32, 116, 104, 101, 110, 32, 49, 32, 101, 108, 115, 101, 32]⟩, .string ⟨#[49, 32, 105, 110, 32, 91, 50, 46, 46]⟩] 9)).alloc (Obj.cells #[.string ⟨#[41]⟩, .string ⟨#[]⟩, .string ⟨#[93]⟩, .string ⟨#[41]⟩, .string ⟨#[]⟩, .string ⟨#[93]⟩] 9) = W at *
  clear hW
  have B0 := hide b0
  clear b0
  go_loop [7, 8, 9] (fun s t i => ∃ k : Nat, k ≤ n ∧ i = .int .i64 k ∧ s = .string ⟨(rpA [105, 102, 32, 116, 114, 117, 101, 32, 116, 104, 101, 110, 32, 49, 32, 101, 108, 115, 101, 32] k).toArray⟩ ∧ t = .string ⟨(rpZ [] k).toArray⟩) (fun _ _ i => n - (intOf i).toNat)
  case atStart => exact ⟨0, Nat.zero_le _, rfl, rfl, rfl⟩
  case round =>
    obtain ⟨k, hk, rfl, rfl, rfl⟩ := hrel
    by_cases hlt : k < n
    · have e1 := fba_app (rpA [105, 102, 32, 116, 114, 117, 101, 32, 116, 104, 101, 110, 32, 49, 32, 101, 108, 115, 101, 32] k) [105, 102, 32, 116, 114, 117, 101, 32, 116, 104, 101, 110, 32, 49, 32, 101, 108, 115, 101, 32]
      have e2 := fba_app [] (rpZ [] k)
      have l1 := rpA_len [105, 102, 32, 116, 114, 117, 101, 32, 116, 104, 101, 110, 32, 49, 32, 101, 108, 115, 101, 32] k
      have l2 := rpZ_len [] k
      have h1 := hide (show rpA [105, 102, 32, 116, 114, 117, 101, 32, 116, 104, 101, 110, 32, 49, 32, 101, 108, 115, 101, 32] (k + 1) = rpA [105, 102, 32, 116, 114, 117, 101, 32, 116, 104, 101, 110, 32, 49, 32, 101, 108, 115, 101, 32] k ++ [105, 102, 32, 116, 114, 117, 101, 32, 116, 104, 101, 110, 32, 49, 32, 101, 108, 115, 101, 32] from rfl)
      have h2 := hide (show rpZ [] (k + 1) = [] ++ rpZ [] k from rfl)
      have l1' : (rpA [105, 102, 32, 116, 114, 117, 101, 32, 116, 104, 101, 110, 32, 49, 32, 101, 108, 115, 101, 32] k).length ≤ 1000 := by rw [l1]; simp; omega
      have l2' : (rpZ [] k).length ≤ 1000 := by rw [l2]; simp <;> omega
      clear l1 l2 LX PX DL HK hL
      generalize rpA [105, 102, 32, 116, 114, 117, 101, 32, 116, 104, 101, 110, 32, 49, 32, 101, 108, 115, 101, 32] k = X at *
      generalize rpZ [] k = Y at *
      go_wp2_with fail
      go_round
      case rel => exact ⟨k + 1, by omega, by go_num, by rw [unhide h1] <;> rfl, by rw [unhide h2] <;> rfl⟩
      case measure => simp [intOf]; omega
    · obtain rfl : k = n := by omega
      have e1 := fba_app (rpA [105, 102, 32, 116, 114, 117, 101, 32, 116, 104, 101, 110, 32, 49, 32, 101, 108, 115, 101, 32] k) [55]
      have e2 := fba_app (rpA [105, 102, 32, 116, 114, 117, 101, 32, 116, 104, 101, 110, 32, 49, 32, 101, 108, 115, 101, 32] k ++ [55]) (rpZ [] k)
      rw [unhide DL] at e2
      have l1 := rpA_len [105, 102, 32, 116, 114, 117, 101, 32, 116, 104, 101, 110, 32, 49, 32, 101, 108, 115, 101, 32] k
      have l2 := rpZ_len [] k
      have l1' : (rpA [105, 102, 32, 116, 114, 117, 101, 32, 116, 104, 101, 110, 32, 49, 32, 101, 108, 115, 101, 32] k).length ≤ 1000 := by rw [l1]; simp; omega
      have l2' : (rpZ [] k).length ≤ 1000 := by rw [l2]; simp <;> omega
      clear l1 l2 DL
      generalize deepL [105, 102, 32, 116, 114, 117, 101, 32, 116, 104, 101, 110, 32, 49, 32, 101, 108, 115, 101, 32] [] k = D at *
      have hD : D.length ≤ 1000 := by omega
      by_cases h200 : 200 < D.length
      · clear hL
        go_wp2_with fail
        go_ret
        exact ⟨rfl, unhide B0⟩
      · clear hL
        have HK2 := unhide HK
        rw [decide_eq_false h200, Bool.false_or] at HK2
        go_wp2_with fail
        refine (unhide LX _).mono ?_
        rintro e w1 ⟨⟨v, rfl, own⟩, b1⟩
        have B1 := hide (bstep (unhide B0) b1)
        obtain ⟨la, lc, rfl⟩ := owns_form own
        clear own b1 LX HK
        generalize lexT D = LT at *
        obtain ⟨ts, ln, le⟩ := LT
        dsimp only at HK2 ⊢
        by_cases hle : le = 0
        · subst hle
          have HK3 : (decide (ts.length = 0) || decide ((parseT D).2.2 = if k ≤ 8 then 0 else 12)) = true := by simpa using HK2
          clear HK2
          by_cases htl : ts.length = 0
          · rw [htl]
            go_wp2_with fail
            go_ret
            exact ⟨rfl, unhide B1⟩
          · have htl' : ((ts.length : Int) == 0) = false := by rw [beq_eq_false_iff_ne]; omega
            rw [decide_eq_false htl, Bool.false_or, decide_eq_true_eq] at HK3
            have PP := hide (fun w s => (unhide PX) w s)
            clear PX
            generalize parseT D = PT at *
            obtain ⟨px, pn, pe⟩ := PT
            dsimp only at HK3
            clear htl
            have sg1 := (unhide SG).below (unhide B1)
            go_wp2_with fail
            refine (unhide PP _ sg1).mono ?_
            rintro e w2 ⟨⟨T, rfl, hin, hbr⟩, b2⟩
            have B2 := hide (bstep (unhide B1) b2)
            obtain ⟨tk, tb, tm, tsx, tt, tlo, thi, ta, tl, tc, tkid, rfl⟩ := hin.form
            clear hin hbr b2
            dsimp only [XT.val]
            have B3 := (unhide B2).alloc (unhide B2).size (Obj.cells #[.int .i64 tk, .bool tb, .int .i64 tm, .int .i64 tsx, .string tt, .bool tlo, .bool thi, .slice ta tl tc] 26)
            by_cases h8 : k ≤ 8
            · rw [if_pos h8] at HK3
              subst HK3
              go_wp2_with fail
              refine (fknown_any _ ((unhide SG).below B3)).mono ?_
              rintro e w4 ⟨rfl, b4⟩
              go_wp2_with fail
              go_ret
              exact ⟨rfl, bstep B3 b4⟩
            · rw [if_neg h8] at HK3
              subst HK3
              go_wp2_with fail
              refine (fknown_any _ ((unhide SG).below B3)).mono ?_
              rintro e w4 ⟨rfl, b4⟩
              go_wp2_with fail
              go_ret
              exact ⟨ret_bool (by simp; omega), bstep B3 b4⟩
        · have hle' : ((le : Int) != 0) = true := by simp; omega
          clear hle HK2
          go_wp2_with fail
          go_ret
          exact ⟨rfl, unhide B1⟩

theorem deep_calc5 : ∀ n, n < 13 → deepB [49, 32, 105, 110, 32, 91, 50, 46, 46] [93] n = true := by decide +kernel
set_option maxHeartbeats 4000000 in
set_option maxRecDepth 10000 in
theorem deep_5 (n : Nat) (hn : n ≤ 12) (w : World) (sig : Sig w) :
    Calls Tryd.prog 7 #[.int .i64 (n : Int), .int .i64 5] w fun e w' => e = .returned (.bool true) ∧ Below w.heap.size w w' := by
  have SG := hide sig
  clear sig
  have KB := deep_calc5 n (by omega)
  have hL : (deepL [49, 32, 105, 110, 32, 91, 50, 46, 46] [93] n).length = n * 9 + 1 + n * 1 := by unfold deepL; simp only [List.length_append, rpA_len, rpZ_len]; rfl
  have LX := hide (fun w => rlex_all (deepL [49, 32, 105, 110, 32, 91, 50, 46, 46] [93] n) w (by omega))
  have PX := hide (fun w s => parse_any (deepL [49, 32, 105, 110, 32, 91, 50, 46, 46] [93] n) (by omega) w s)
  have DL := hide (show (rpA [49, 32, 105, 110, 32, 91, 50, 46, 46] n ++ [55]) ++ rpZ [93] n = deepL [49, 32, 105, 110, 32, 91, 50, 46, 46] [93] n from rfl)
  unfold deepB at KB
  have HK := hide KB
  clear KB
  go_enter Tryd.func7, Tryd.ntmps7
  go_wp2_with fail
  have b0 := below2 w (Obj.cells #[.string ⟨#[40]⟩, .string ⟨#[45]⟩, .string ⟨#[91]⟩, .string ⟨#[102, 40]⟩, .string ⟨#[105, 102, 32, 116, 114, 117, 101, 32, 116, 104, 101, 110, 32, 49, 32, 101, 108, 115, 101, 32]⟩, .string ⟨#[49, 32, 105, 110, 32, 91, 50, 46, 46]⟩] 9) (Obj.cells #[.string ⟨#[41]⟩, .string ⟨#[]⟩, .string ⟨#[93]⟩, .string ⟨#[41]⟩, .string ⟨#[]⟩, .string ⟨#[93]⟩] 9)
  generalize hW : (w.alloc (Obj.cells #[.string ⟨#[40]⟩, .string ⟨#[45]⟩, .string ⟨#[91]⟩, .string ⟨#[102, 40]⟩, .string ⟨#[105, 102, 32, 116, 114, 117, 101, 32, 116, 104, 101, 110, 32, 49, 32, 101, 108, 115, 101, 32]⟩, .string ⟨#[49, 32, 105, 110, 32, 91, 50, 46, 46]⟩] 9)).alloc (Obj.cells #[.string ⟨#[41]⟩, .string ⟨#[]⟩, .string ⟨#[93]⟩, .string ⟨#[41]⟩, .string ⟨#[]⟩, .string ⟨#[93]⟩] 9) = W at *
  clear hW
  have B0 := hide b0
  clear b0
  go_loop [7, 8, 9] (fun s t i => ∃ k : Nat, k ≤ n ∧ i = .int .i64 k ∧ s = .string ⟨(rpA [49, 32, 105, 110, 32, 91, 50, 46, 46] k).toArray⟩ ∧ t = .string ⟨(rpZ [93] k).toArray⟩) (fun _ _ i => n - (intOf i).toNat)
  case atStart => exact ⟨0, Nat.zero_le _, rfl, rfl, rfl⟩
  case round =>
    obtain ⟨k, hk, rfl, rfl, rfl⟩ := hrel
    by_cases hlt : k < n
    · have e1 := fba_app (rpA [49, 32, 105, 110, 32, 91, 50, 46, 46] k) [49, 32, 105, 110, 32, 91, 50, 46, 46]
      have e2 := fba_app [93] (rpZ [93] k)
      have l1 := rpA_len [49, 32, 105, 110, 32, 91, 50, 46, 46] k
      have l2 := rpZ_len [93] k
      have h1 := hide (show rpA [49, 32, 105, 110, 32, 91, 50, 46, 46] (k + 1) = rpA [49, 32, 105, 110, 32, 91, 50, 46, 46] k ++ [49, 32, 105, 110, 32, 91, 50, 46, 46] from rfl)
      have h2 := hide (show rpZ [93] (k + 1) = [93] ++ rpZ [93] k from rfl)
      have l1' : (rpA [49, 32, 105, 110, 32, 91, 50, 46, 46] k).length ≤ 1000 := by rw [l1]; simp; omega
      have l2' : (rpZ [93] k).length ≤ 1000 := by rw [l2]; simp <;> omega
      clear l1 l2 LX PX DL HK hL
      generalize rpA [49, 32, 105, 110, 32, 91, 50, 46, 46] k = X at *
      generalize rpZ [93] k = Y at *
      go_wp2_with fail
      go_round
      case rel => exact ⟨k + 1, by omega, by go_num, by rw [unhide h1] <;> rfl, by rw [unhide h2] <;> rfl⟩
      case measure => simp [intOf]; omega
    · obtain rfl : k = n := by omega
      have e1 := fba_app (rpA [49, 32, 105, 110, 32, 91, 50, 46, 46] k) [55]
      have e2 := fba_app (rpA [49, 32, 105, 110, 32, 91, 50, 46, 46] k ++ [55]) (rpZ [93] k)
      rw [unhide DL] at e2
      have l1 := rpA_len [49, 32, 105, 110, 32, 91, 50, 46, 46] k
      have l2 := rpZ_len [93] k
      have l1' : (rpA [49, 32, 105, 110, 32, 91, 50, 46, 46] k).length ≤ 1000 := by rw [l1]; simp; omega
      have l2' : (rpZ [93] k).length ≤ 1000 := by rw [l2]; simp <;> omega
      clear l1 l2 DL
      generalize deepL [49, 32, 105, 110, 32, 91, 50, 46, 46] [93] k = D at *
      have hD : D.length ≤ 1000 := by omega
      by_cases h200 : 200 < D.length
      · clear hL
        go_wp2_with fail
        go_ret
        exact ⟨rfl, unhide B0⟩
      · clear hL
        have HK2 := unhide HK
        rw [decide_eq_false h200, Bool.false_or] at HK2
        go_wp2_with fail
        refine (unhide LX _).mono ?_
        rintro e w1 ⟨⟨v, rfl, own⟩, b1⟩
        have B1 := hide (bstep (unhide B0) b1)
        obtain ⟨la, lc, rfl⟩ := owns_form own
        clear own b1 LX HK
        generalize lexT D = LT at *
        obtain ⟨ts, ln, le⟩ := LT
        dsimp only at HK2 ⊢
        by_cases hle : le = 0
        · subst hle
          have HK3 : (decide (ts.length = 0) || decide ((parseT D).2.2 = if k ≤ 8 then 0 else 12)) = true := by simpa using HK2
          clear HK2
          by_cases htl : ts.length = 0
          · rw [htl]
            go_wp2_with fail
            go_ret
            exact ⟨rfl, unhide B1⟩
          · have htl' : ((ts.length : Int) == 0) = false := by rw [beq_eq_false_iff_ne]; omega
            rw [decide_eq_false htl, Bool.false_or, decide_eq_true_eq] at HK3
            have PP := hide (fun w s => (unhide PX) w s)
            clear PX
            generalize parseT D = PT at *
            obtain ⟨px, pn, pe⟩ := PT
            dsimp only at HK3
            clear htl
            have sg1 := (unhide SG).below (unhide B1)
            go_wp2_with fail
            refine (unhide PP _ sg1).mono ?_
            rintro e w2 ⟨⟨T, rfl, hin, hbr⟩, b2⟩
            have B2 := hide (bstep (unhide B1) b2)
            obtain ⟨tk, tb, tm, tsx, tt, tlo, thi, ta, tl, tc, tkid, rfl⟩ := hin.form
            clear hin hbr b2
            dsimp only [XT.val]
            have B3 := (unhide B2).alloc (unhide B2).size (Obj.cells #[.int .i64 tk, .bool tb, .int .i64 tm, .int .i64 tsx, .string tt, .bool tlo, .bool thi, .slice ta tl tc] 26)
            by_cases h8 : k ≤ 8
            · rw [if_pos h8] at HK3
              subst HK3
              go_wp2_with fail
              refine (fknown_any _ ((unhide SG).below B3)).mono ?_
              rintro e w4 ⟨rfl, b4⟩
              go_wp2_with fail
              go_ret
              exact ⟨rfl, bstep B3 b4⟩
            · rw [if_neg h8] at HK3
              subst HK3
              go_wp2_with fail
              refine (fknown_any _ ((unhide SG).below B3)).mono ?_
              rintro e w4 ⟨rfl, b4⟩
              go_wp2_with fail
              go_ret
              exact ⟨ret_bool (by simp; omega), bstep B3 b4⟩
        · have hle' : ((le : Int) != 0) = true := by simp; omega
          clear hle HK2
          go_wp2_with fail
          go_ret
          exact ⟨rfl, unhide B1⟩

set_option maxHeartbeats 1000000 in
theorem feelDeep_walk (n way : Int) (hn : (Lit.int .i64 n).wf = true) (hw : (Lit.int .i64 way).wf = true) (w : World) (sig : Sig w) :
    Calls Tryd.prog 7 #[.int .i64 n, .int .i64 way] w fun e w' => e = .returned (.bool true) ∧ Below w.heap.size w w' := by
  clear hn hw
  by_cases h : 0 ≤ n ∧ n ≤ 12 ∧ 0 ≤ way ∧ way ≤ 5
  · obtain ⟨h1, h2, h3, h4⟩ := h
    obtain ⟨k, rfl⟩ : ∃ k : Nat, n = k := ⟨n.toNat, by omega⟩
    have hk : k ≤ 12 := by omega
    have hw : way = 0 ∨ way = 1 ∨ way = 2 ∨ way = 3 ∨ way = 4 ∨ way = 5 := by omega
    rcases hw with rfl | rfl | rfl | rfl | rfl | rfl
    · exact deep_0 k hk w sig
    · exact deep_1 k hk w sig
    · exact deep_2 k hk w sig
    · exact deep_3 k hk w sig
    · exact deep_4 k hk w sig
    · exact deep_5 k hk w sig
  · have K := hide (fknown_any w sig)
    by_cases h1 : n < 0
    · go_enter Tryd.func7, Tryd.ntmps7
      go_wp2_with fail
      refine (unhide K).mono ?_
      rintro e w1 ⟨rfl, b1⟩
      go_wp2_with fail
      go_ret
      exact ⟨rfl, b1⟩
    by_cases h2 : 12 < n
    · go_enter Tryd.func7, Tryd.ntmps7
      go_wp2_with fail
      refine (unhide K).mono ?_
      rintro e w1 ⟨rfl, b1⟩
      go_wp2_with fail
      go_ret
      exact ⟨rfl, b1⟩
    by_cases h3 : way < 0
    · go_enter Tryd.func7, Tryd.ntmps7
      go_wp2_with fail
      refine (unhide K).mono ?_
      rintro e w1 ⟨rfl, b1⟩
      go_wp2_with fail
      go_ret
      exact ⟨rfl, b1⟩
    have h4 : 5 < way := by omega
    go_enter Tryd.func7, Tryd.ntmps7
    go_wp2_with fail
    refine (unhide K).mono ?_
    rintro e w1 ⟨rfl, b1⟩
    go_wp2_with fail
    go_ret
    exact ⟨rfl, b1⟩
end Go.Proofs.YtfpgajbdgmlenaaDoor
