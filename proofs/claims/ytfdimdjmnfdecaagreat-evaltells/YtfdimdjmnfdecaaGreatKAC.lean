/- EMath VLogic E1 VRow VLeaf VText T10 RIs VRIsNo VRIs: laid together. -/
import Derived.Test.YtfdimdjmnfdecaaGreatKAB
set_option linter.unusedVariables false
set_option linter.unusedSimpArgs false
set_option maxHeartbeats 8000000
namespace Go.Proofs.YtfdimdjmnfdecaaGreat
open Go.RowKit
section
open VT (leaf mkV)
def nilV : VT := leaf 0 false 0 0 ⟨#[]⟩
def booV (b : Bool) : VT := leaf 1 b 0 0 ⟨#[]⟩
def numV (m s : Int) : VT := leaf 2 false m s ⟨#[]⟩
def texV (t : ByteArray) : VT := leaf 3 false 0 0 t
def lisV (l : List VT) : VT := mkV 4 false 0 0 ⟨#[]⟩ l
def kdV : VT → Int
 | .none => 0
 | .mk k _ _ _ _ _ _ _ _ => k
def booOf : VT → Bool
 | .none => false
 | .mk _ b _ _ _ _ _ _ _ => b
def mOf : VT → Int
 | .none => 0
 | .mk _ _ m _ _ _ _ _ _ => m
def sOf : VT → Int
 | .none => 0
 | .mk _ _ _ s _ _ _ _ _ => s
def tOf : VT → ByteArray
 | .none => ⟨#[]⟩
 | .mk _ _ _ _ t _ _ _ _ => t
def lOf : VT → List VT
 | .none => []
 | .mk _ _ _ _ _ _ len _ kid => (List.range len).map kid
def trV (v : VT) : Bool := trB (kdV v) (booOf v)
def relT (op : List UInt8) (x y : VT) : VT :=
 if op = [61] then booV (x.cmp y == 0) else if op = [33, 61] then booV (!(x.cmp y == 0))
 else if (kdV x = 2 ∧ kdV y = 2) ∨ (kdV x = 3 ∧ kdV y = 3) then
  (if op = [60] then booV (decide (x.cmp y < 0)) else if op = [60, 61] then booV (decide (x.cmp y ≤ 0)) else if op = [62] then booV (decide (0 < x.cmp y)) else if op = [62, 61] then booV (decide (0 ≤ x.cmp y)) else nilV)
 else nilV
def andV (x y : VT) : VT := leaf (andK (unB (kdV x) (booOf x)) (unB (kdV y) (booOf y)) (trB (kdV x) (booOf x)) (trB (kdV y) (booOf y))) (andB (unB (kdV x) (booOf x)) (unB (kdV y) (booOf y)) (trB (kdV x) (booOf x)) (trB (kdV y) (booOf y))) 0 0 ⟨#[]⟩
def orV (x y : VT) : VT := leaf (orK (trB (kdV x) (booOf x)) (trB (kdV y) (booOf y)) (unB (kdV x) (booOf x)) (unB (kdV y) (booOf y))) (orB (trB (kdV x) (booOf x)) (trB (kdV y) (booOf y))) 0 0 ⟨#[]⟩
def notV (x : VT) : VT := leaf (notK (kdV x)) (notB (kdV x) (booOf x)) 0 0 ⟨#[]⟩
def recT (m s e : Int) : VT × Int := if e = 0 then (numV m s, 0) else (nilV, e)
def fitR (x z : Int) : VT × Int := recT (fitM x z) (fitS x z) (fitE x z)
def addR (m s n t : Int) : VT × Int := fitR (upM m s (max s t) + upM n t (max s t)) (max s t)
def subR (m s n t : Int) : VT × Int := fitR (upM m s (max s t) - upM n t (max s t)) (max s t)
def mulR (m s n t : Int) : VT × Int := fitR (m * n) (s + t)
def divR (m s n t : Int) : VT × Int := if n = 0 then (nilV, 0) else fitR (divQ m s n t) 4
def catV (l : List VT) : List UInt8 := l.flatMap (fun v => XT.tl (tOf v))
def catT (l : List VT) : VT × Int :=
 if l = [] ∨ (l.all fun v => kdV v == 3) = false then (nilV, 0) else if 16 < (catV l).length then (nilV, 3) else (texV ⟨(catV l).toArray⟩, 0)
def recoT (op : List UInt8) (x y : VT) : VT × Int :=
 if op = [43] ∧ kdV x = 3 ∧ kdV y = 3 then catT [x, y] else if kdV x = 2 ∧ kdV y = 2 then
  (if op = [43] then addR (mOf x) (sOf x) (mOf y) (sOf y) else if op = [45] then subR (mOf x) (sOf x) (mOf y) (sOf y) else if op = [42] then mulR (mOf x) (sOf x) (mOf y) (sOf y) else divR (mOf x) (sOf x) (mOf y) (sOf y))
 else (nilV, 0)
def binT (op : List UInt8) (x y : VT) : VT × Int :=
 if op = [97, 110, 100] then (andV x y, 0) else if op = [111, 114] then (orV x y, 0) else if op = [43] ∨ op = [45] ∨ op = [42] ∨ op = [47] then recoT op x y else (relT op x y, 0)
def negT (x : VT) : VT × Int := if kdV x = 2 then subR 0 0 (mOf x) (sOf x) else (nilV, 0)
def lisT (l : List VT) : VT × Int := if (lisV l).okB 2 = true then (lisV l, 0) else (nilV, 3)
def inT (lo hi : Bool) (x y z : VT) : VT := andV (relT (if lo = true then [62, 61] else [62]) x y) (relT (if hi = true then [60, 61] else [60]) x z)
def modV (m s n t : Int) : VT := if s ≠ 0 ∨ t ≠ 0 ∨ n = 0 then nilV else if m.tmod n ≠ 0 ∧ (decide (m.tmod n < 0) != decide (n < 0)) = true then numV (m.tmod n + n) 0 else numV (m.tmod n) 0
def oneT (nm : List UInt8) (x : VT) : VT :=
 if nm = [110, 111, 116] then notV x else if nm = [97, 98, 115] ∧ kdV x = 2 then numV (max (mOf x) (-(mOf x))) (sOf x) else if nm = [102, 108, 111, 111, 114] ∧ kdV x = 2 then numV (mOf x / p10 (sOf x).toNat) 0
 else if nm = [99, 101, 105, 108] ∧ kdV x = 2 then numV (-(-(mOf x) / p10 (sOf x).toNat)) 0 else if nm = [108, 101, 110] ∧ kdV x = 3 then numV (tOf x).size 0 else if nm = [99, 111, 117, 110, 116] ∧ kdV x = 4 then numV (lOf x).length 0 else nilV
def hasV (l : List VT) (y : VT) : VT := booV (l.any fun v => v.cmp y == 0)
def twoT (nm : List UInt8) (x y : VT) : VT :=
 if nm = [109, 111, 100] ∧ kdV x = 2 ∧ kdV y = 2 then modV (mOf x) (sOf x) (mOf y) (sOf y) else if nm = [104, 97, 115] ∧ kdV x = 4 then hasV (lOf x) y else nilV
def fixT (nm : List UInt8) : List VT → VT
 | [x] => oneT nm x
 | [x, y] => twoT nm x y
 | _ => nilV
def cmD (m s n t : Int) : Int := cmpI (upM m s (max s t)) (upM n t (max s t))
def furD (way : Int) : List VT → Int × Int → Int × Int
 | [], d => d
 | v :: l, d => furD way l (if cmD (mOf v) (sOf v) d.1 d.2 = way then (mOf v, sOf v) else d)
def furV (way : Int) : List VT → VT
 | [] => nilV
 | v :: l => numV (furD way l (mOf v, sOf v)).1 (furD way l (mOf v, sOf v)).2
def sumT : List VT → Int × Int → VT × Int
 | [], d => (numV d.1 d.2, 0)
 | v :: l, d => if fitE (upM d.1 d.2 (max d.2 (sOf v)) + upM (mOf v) (sOf v) (max d.2 (sOf v))) (max d.2 (sOf v)) = 0 then
   sumT l (fitM (upM d.1 d.2 (max d.2 (sOf v)) + upM (mOf v) (sOf v) (max d.2 (sOf v))) (max d.2 (sOf v)), fitS (upM d.1 d.2 (max d.2 (sOf v)) + upM (mOf v) (sOf v) (max d.2 (sOf v))) (max d.2 (sOf v)))
   else (nilV, fitE (upM d.1 d.2 (max d.2 (sOf v)) + upM (mOf v) (sOf v) (max d.2 (sOf v))) (max d.2 (sOf v)))
def ovT (nm : List UInt8) (l : List VT) : VT × Int :=
 if (l.all fun v => kdV v == 2) = false then (nilV, 0) else if nm = [109, 105, 110] then (furV (-1) l, 0) else if nm = [109, 97, 120] then (furV 1 l, 0) else sumT l (0, 0)
def oneL : List VT → Option (List VT)
 | [x] => if kdV x = 4 then some (lOf x) else none
 | _ => none
def overT (nm : List UInt8) (l : List VT) : VT × Int := if l = [] then (nilV, 0) else ovT nm ((oneL l).getD l)
def callT (nm : List UInt8) (l : List VT) : VT × Int :=
 if nm = [99, 97, 116] then catT l else if nm = [109, 105, 110] ∨ nm = [109, 97, 120] ∨ nm = [115, 117, 109] then overT nm l else (fixT nm l, 0)
def joinT (k : Int) (t : ByteArray) (lo hi : Bool) (l : List VT) : VT × Int :=
 if k = 6 then binT (XT.tl t) (l.getD 0 .none) (l.getD 1 .none) else if k = 7 then negT (l.getD 0 .none) else if k = 9 then lisT l else if k = 10 then callT (XT.tl t) l
 else (inT lo hi (l.getD 0 .none) (l.getD 1 .none) (l.getD 2 .none), 0)
def kidsT (f : Nat → VT × Int) : Nat → List VT × Int
 | 0 => ([], 0)
 | n + 1 => if (kidsT f n).2 = 0 then (if (f n).2 = 0 then ((kidsT f n).1 ++ [(f n).1], 0) else ([], (f n).2)) else ([], (kidsT f n).2)
def lookT : List (List UInt8 × VT) → List UInt8 → VT
 | [], _ => nilV
 | (n, v) :: l, t => if n = t then v else lookT l t
def souB (k : Int) (m s : Int) (t : ByteArray) (len : Nat) : Bool :=
 if k = 1 ∨ k = 2 ∨ k = 5 ∨ k = 9 ∨ k = 10 then true else if k = 3 then isB m s else if k = 4 then textB t else if k = 6 then decide (len = 2) else if k = 7 then decide (len = 1) else if k = 8 ∨ k = 11 then decide (len = 3) else false
def evT (env : List (List UInt8 × VT)) : XT → VT × Int
 | .none => (nilV, 1)
 | .mk k b m s t lo hi _ len _ kid =>
  if souB k m s t len = false then (nilV, 1) else if k = 1 then (nilV, 0) else if k = 2 then (booV b, 0) else if k = 3 then (numV m s, 0) else if k = 4 then (texV t, 0) else if k = 5 then (lookT env (XT.tl t), 0)
  else if k = 8 then (if (evT env (kid 0)).2 = 0 then (if trV (evT env (kid 0)).1 = true then evT env (kid 1) else evT env (kid 2)) else (nilV, (evT env (kid 0)).2))
  else if (kidsT (fun i => evT env (kid i)) len).2 = 0 then joinT k t lo hi (kidsT (fun i => evT env (kid i)) len).1 else (nilV, (kidsT (fun i => evT env (kid i)) len).2)
theorem kids_congr {f g : Nat → VT × Int} {n : Nat} (h : ∀ i, i < n → f i = g i) : kidsT f n = kidsT g n := by
 induction n with
 | zero => rfl
 | succ n ih =>
  unfold kidsT
  rw [ih (fun i hi => h i (by omega)), h n (by omega)]
theorem evT_bare (env : List (List UInt8 × VT)) (x : XT) : evT env x.bare = evT env x := by
 induction x with
 | none => rfl
 | mk k b m s t lo hi a len cap kid ih =>
  have e : ∀ i, i < len → evT env (if i < len then (kid i).bare else .none) = evT env (kid i) := fun i hi => by rw [if_pos hi]; exact ih i
  unfold XT.bare evT
  rw [kids_congr e]
  by_cases h8 : k = 8
  ·subst h8
   by_cases h3 : len = 3
   ·subst h3
    rw [e 0 (by omega), e 1 (by omega), e 2 (by omega)]
   ·have : souB 8 m s t len = false := by simp [souB, h3]
    rw [if_pos this, if_pos this]
  ·rw [if_neg h8, if_neg h8]
end
section
theorem truth_any (k : Int) (b : Bool) (m s : Int) (t : ByteArray) (a : Option Addr) (len cap : Nat) (w : World) :
  Calls Tryz.prog 50 #[.agg #[.int .i64 k, .bool b, .int .i64 m, .int .i64 s, .string t, .slice a len cap]] w fun e w' => e = .returned (.bool (trB k b)) ∧ Below w.heap.size w w' := by
 unfold trB
 by_cases h : k = 1
 ·subst h
  go_enter Tryz.func50, Tryz.ntmps50
  go_wp2_with fail
  go_ret
  exact ⟨ret_bool (by simp), below1 _ _⟩
 ·have e1 : (k == 1) = false := by simpa using h
  have H := hide h
  clear h
  go_enter Tryz.func50, Tryz.ntmps50
  go_wp2_with fail
  go_ret
  exact ⟨ret_bool (by have h := unhide H; simp [h]), below1 _ _⟩
theorem untruth_any (k : Int) (b : Bool) (m s : Int) (t : ByteArray) (a : Option Addr) (len cap : Nat) (w : World) :
  Calls Tryz.prog 114 #[.agg #[.int .i64 k, .bool b, .int .i64 m, .int .i64 s, .string t, .slice a len cap]] w fun e w' => e = .returned (.bool (unB k b)) ∧ Below w.heap.size w w' := by
 unfold unB
 by_cases h : k = 1
 ·subst h
  go_enter Tryz.func114, Tryz.ntmps114
  go_wp2_with fail
  go_ret
  exact ⟨ret_bool (by simp), below1 _ _⟩
 ·have e1 : (k == 1) = false := by simpa using h
  have H := hide h
  clear h
  go_enter Tryz.func114, Tryz.ntmps114
  go_wp2_with fail
  go_ret
  exact ⟨ret_bool (by have h := unhide H; simp [h]), below1 _ _⟩
theorem of_any (b : Bool) (w : World) :
  Calls Tryz.prog 115 #[.bool b] w fun e w' => e = .returned (tval 1 b) ∧ Below w.heap.size w w' := by
 go_enter Tryz.func115, Tryz.ntmps115
 go_wp2_with fail
 exact bodyPost_ret (v := tval 1 b) (by simp [results, Tryz.results115, go_sem, tval]) rfl ⟨rfl, below1 _ _⟩
theorem not_any (k : Int) (b : Bool) (m s : Int) (t : ByteArray) (a : Option Addr) (len cap : Nat) (w : World) :
  Calls Tryz.prog 140 #[.agg #[.int .i64 k, .bool b, .int .i64 m, .int .i64 s, .string t, .slice a len cap]] w fun e w' => e = .returned (tval (notK k) (notB k b)) ∧ Below w.heap.size w w' := by
 by_cases h : k = 1
 ·subst h
  have e1 : notK 1 = 1 := rfl
  have e2 : notB 1 b = !b := rfl
  rw [e1, e2]
  clear e1 e2
  go_enter Tryz.func140, Tryz.ntmps140
  go_wp2_with fail
  refine (of_any _ _).mono ?_
  rintro e w1 ⟨rfl, k1⟩
  unfold tval
  obtain ⟨c1, f1⟩ := bcell k1
  have z1 := k1.size
  simp at z1
  have z2 : w.heap.size + 1 < w1.heap.size := by omega
  go_wp2_with fail
  exact bodyPost_ret (v := tval 1 !b) (by simp [results, Tryz.results140, go_sem, tval, c1]) rfl ⟨rfl, set6 (bstep (below2 _ _ _) k1) (by omega) _ _ _ _ _ _⟩
 ·have e1 : (k == 1) = false := by simpa using h
  have n1 : (k != 1) = true := by simpa using h
  have e2 : notK k = 0 := if_neg h
  have e3 : notB k b = false := if_neg h
  rw [e2, e3]
  clear h e2 e3
  go_enter Tryz.func140, Tryz.ntmps140
  go_wp2_with fail
  exact bodyPost_ret (v := tval 0 false) (by simp [results, Tryz.results140, go_sem, tval]) rfl ⟨rfl, below2 _ _ _⟩
theorem and_any (k : Int) (b : Bool) (m s : Int) (t : ByteArray) (a : Option Addr) (len cap : Nat) (k' : Int) (b' : Bool) (m' s' : Int) (t' : ByteArray) (a' : Option Addr) (len' cap' : Nat) (w : World) :
  Calls Tryz.prog 81 #[.agg #[.int .i64 k, .bool b, .int .i64 m, .int .i64 s, .string t, .slice a len cap], .agg #[.int .i64 k', .bool b', .int .i64 m', .int .i64 s', .string t', .slice a' len' cap']] w fun e w' => e = .returned (tval (andK (unB k b) (unB k' b') (trB k b) (trB k' b')) (andB (unB k b) (unB k' b') (trB k b) (trB k' b'))) ∧ Below w.heap.size w w' := by
 generalize hu1 : unB k b = u1
 generalize hu2 : unB k' b' = u2
 generalize hy1 : trB k b = y1
 generalize hy2 : trB k' b' = y2
 have U1 := hide hu1; have U2 := hide hu2; have Y1 := hide hy1; have Y2 := hide hy2
 clear hu1 hu2 hy1 hy2
 cases u1
 ·skip
  cases u2
  ·skip
   cases y1
   ·skip
    show Calls _ _ _ _ fun e w' => e = .returned (tval 0 false) ∧ _
    go_enter Tryz.func81, Tryz.ntmps81
    go_wp2_with fail
    refine (untruth_any _ _ _ _ _ _ _ _ _).mono ?_
    rintro e w1 ⟨rfl, j1⟩
    rw [unhide U1]
    have q1 := j1
    obtain ⟨c1, f1⟩ := bcell q1
    have z1 : w.heap.size + 2 < w1.heap.size := by have := q1.size; simp at this; omega
    go_wp2_with fail
    refine (untruth_any _ _ _ _ _ _ _ _ _).mono ?_
    rintro e w2 ⟨rfl, j2⟩
    rw [unhide U2]
    have q2 := bstep q1 j2
    clear c1 f1 z1 q1 j2
    obtain ⟨c2, f2⟩ := bcell q2
    have z2 : w.heap.size + 2 < w2.heap.size := by have := q2.size; simp at this; omega
    go_wp2_with fail
    refine (truth_any _ _ _ _ _ _ _ _ _).mono ?_
    rintro e w3 ⟨rfl, j3⟩
    rw [unhide Y1]
    have q3 := bstep q2 j3
    clear c2 f2 z2 q2 j3
    obtain ⟨c3, f3⟩ := bcell q3
    have z3 : w.heap.size + 2 < w3.heap.size := by have := q3.size; simp at this; omega
    go_wp2_with fail
    exact bodyPost_ret (v := tval 0 false) zR81tvalc3 rfl ⟨rfl, set6 (bstep (below3 _ _ _ _) q3) (by omega) _ _ _ _ _ _⟩
   ·skip
    cases y2
    ·skip
     show Calls _ _ _ _ fun e w' => e = .returned (tval 0 false) ∧ _
     go_enter Tryz.func81, Tryz.ntmps81
     go_wp2_with fail
     refine (untruth_any _ _ _ _ _ _ _ _ _).mono ?_
     rintro e w1 ⟨rfl, j1⟩
     rw [unhide U1]
     have q1 := j1
     obtain ⟨c1, f1⟩ := bcell q1
     have z1 : w.heap.size + 2 < w1.heap.size := by have := q1.size; simp at this; omega
     go_wp2_with fail
     refine (untruth_any _ _ _ _ _ _ _ _ _).mono ?_
     rintro e w2 ⟨rfl, j2⟩
     rw [unhide U2]
     have q2 := bstep q1 j2
     clear c1 f1 z1 q1 j2
     obtain ⟨c2, f2⟩ := bcell q2
     have z2 : w.heap.size + 2 < w2.heap.size := by have := q2.size; simp at this; omega
     go_wp2_with fail
     refine (truth_any _ _ _ _ _ _ _ _ _).mono ?_
     rintro e w3 ⟨rfl, j3⟩
     rw [unhide Y1]
     have q3 := bstep q2 j3
     clear c2 f2 z2 q2 j3
     obtain ⟨c3, f3⟩ := bcell q3
     have z3 : w.heap.size + 2 < w3.heap.size := by have := q3.size; simp at this; omega
     go_wp2_with fail
     refine (truth_any _ _ _ _ _ _ _ _ _).mono ?_
     rintro e w4 ⟨rfl, j4⟩
     rw [unhide Y2]
     have q4 := bstep q3 j4
     clear c3 f3 z3 q3 j4
     obtain ⟨c4, f4⟩ := bcell q4
     have z4 : w.heap.size + 2 < w4.heap.size := by have := q4.size; simp at this; omega
     go_wp2_with fail
     exact bodyPost_ret (v := tval 0 false) (by simp [results, Tryz.results81, go_sem, tval, c4]) rfl ⟨rfl, set6 (bstep (below3 _ _ _ _) q4) (by omega) _ _ _ _ _ _⟩
    ·skip
     show Calls _ _ _ _ fun e w' => e = .returned (tval 1 true) ∧ _
     go_enter Tryz.func81, Tryz.ntmps81
     go_wp2_with fail
     refine (untruth_any _ _ _ _ _ _ _ _ _).mono ?_
     rintro e w1 ⟨rfl, j1⟩
     rw [unhide U1]
     have q1 := j1
     obtain ⟨c1, f1⟩ := bcell q1
     have z1 : w.heap.size + 2 < w1.heap.size := by have := q1.size; simp at this; omega
     go_wp2_with fail
     refine (untruth_any _ _ _ _ _ _ _ _ _).mono ?_
     rintro e w2 ⟨rfl, j2⟩
     rw [unhide U2]
     have q2 := bstep q1 j2
     clear c1 f1 z1 q1 j2
     obtain ⟨c2, f2⟩ := bcell q2
     have z2 : w.heap.size + 2 < w2.heap.size := by have := q2.size; simp at this; omega
     go_wp2_with fail
     refine (truth_any _ _ _ _ _ _ _ _ _).mono ?_
     rintro e w3 ⟨rfl, j3⟩
     rw [unhide Y1]
     have q3 := bstep q2 j3
     clear c2 f2 z2 q2 j3
     obtain ⟨c3, f3⟩ := bcell q3
     have z3 : w.heap.size + 2 < w3.heap.size := by have := q3.size; simp at this; omega
     go_wp2_with fail
     refine (truth_any _ _ _ _ _ _ _ _ _).mono ?_
     rintro e w4 ⟨rfl, j4⟩
     rw [unhide Y2]
     have q4 := bstep q3 j4
     clear c3 f3 z3 q3 j4
     obtain ⟨c4, f4⟩ := bcell q4
     have z4 : w.heap.size + 2 < w4.heap.size := by have := q4.size; simp at this; omega
     go_wp2_with fail
     refine (of_any _ _).mono ?_
     rintro e w5 ⟨rfl, j5⟩
     unfold tval
     have q5 := bstep q4 j5
     clear c4 f4 z4 q4 j5
     obtain ⟨c5, f5⟩ := bcell q5
     have z5 : w.heap.size + 2 < w5.heap.size := by have := q5.size; simp at this; omega
     go_wp2_with fail
     exact bodyPost_ret (v := tval 1 true) (by simp [results, Tryz.results81, go_sem, tval, c5]) rfl ⟨rfl, set6 (bstep (below3 _ _ _ _) q5) (by omega) _ _ _ _ _ _⟩
  ·skip
   show Calls _ _ _ _ fun e w' => e = .returned (tval 1 false) ∧ _
   go_enter Tryz.func81, Tryz.ntmps81
   go_wp2_with fail
   refine (untruth_any _ _ _ _ _ _ _ _ _).mono ?_
   rintro e w1 ⟨rfl, j1⟩
   rw [unhide U1]
   have q1 := j1
   obtain ⟨c1, f1⟩ := bcell q1
   have z1 : w.heap.size + 2 < w1.heap.size := by have := q1.size; simp at this; omega
   go_wp2_with fail
   refine (untruth_any _ _ _ _ _ _ _ _ _).mono ?_
   rintro e w2 ⟨rfl, j2⟩
   rw [unhide U2]
   have q2 := bstep q1 j2
   clear c1 f1 z1 q1 j2
   obtain ⟨c2, f2⟩ := bcell q2
   have z2 : w.heap.size + 2 < w2.heap.size := by have := q2.size; simp at this; omega
   go_wp2_with fail
   refine (of_any _ _).mono ?_
   rintro e w3 ⟨rfl, j3⟩
   unfold tval
   have q3 := bstep q2 j3
   clear c2 f2 z2 q2 j3
   obtain ⟨c3, f3⟩ := bcell q3
   have z3 : w.heap.size + 2 < w3.heap.size := by have := q3.size; simp at this; omega
   go_wp2_with fail
   exact bodyPost_ret (v := tval 1 false) zR81tvalc3 rfl ⟨rfl, set6 (bstep (below3 _ _ _ _) q3) (by omega) _ _ _ _ _ _⟩
 ·skip
  show Calls _ _ _ _ fun e w' => e = .returned (tval 1 false) ∧ _
  go_enter Tryz.func81, Tryz.ntmps81
  go_wp2_with fail
  refine (untruth_any _ _ _ _ _ _ _ _ _).mono ?_
  rintro e w1 ⟨rfl, j1⟩
  rw [unhide U1]
  have q1 := j1
  obtain ⟨c1, f1⟩ := bcell q1
  have z1 : w.heap.size + 2 < w1.heap.size := by have := q1.size; simp at this; omega
  go_wp2_with fail
  refine (of_any _ _).mono ?_
  rintro e w2 ⟨rfl, j2⟩
  unfold tval
  have q2 := bstep q1 j2
  clear c1 f1 z1 q1 j2
  obtain ⟨c2, f2⟩ := bcell q2
  have z2 : w.heap.size + 2 < w2.heap.size := by have := q2.size; simp at this; omega
  go_wp2_with fail
  exact bodyPost_ret (v := tval 1 false) (by simp [results, Tryz.results81, go_sem, tval, c2]) rfl ⟨rfl, set6 (bstep (below3 _ _ _ _) q2) (by omega) _ _ _ _ _ _⟩
theorem or_any (k : Int) (b : Bool) (m s : Int) (t : ByteArray) (a : Option Addr) (len cap : Nat) (k' : Int) (b' : Bool) (m' s' : Int) (t' : ByteArray) (a' : Option Addr) (len' cap' : Nat) (w : World) :
  Calls Tryz.prog 82 #[.agg #[.int .i64 k, .bool b, .int .i64 m, .int .i64 s, .string t, .slice a len cap], .agg #[.int .i64 k', .bool b', .int .i64 m', .int .i64 s', .string t', .slice a' len' cap']] w fun e w' => e = .returned (tval (orK (trB k b) (trB k' b') (unB k b) (unB k' b')) (orB (trB k b) (trB k' b'))) ∧ Below w.heap.size w w' := by
 generalize hu1 : unB k b = u1
 generalize hu2 : unB k' b' = u2
 generalize hy1 : trB k b = y1
 generalize hy2 : trB k' b' = y2
 have U1 := hide hu1; have U2 := hide hu2; have Y1 := hide hy1; have Y2 := hide hy2
 clear hu1 hu2 hy1 hy2
 cases y1
 ·skip
  cases y2
  ·skip
   cases u1
   ·skip
    show Calls _ _ _ _ fun e w' => e = .returned (tval 0 false) ∧ _
    go_enter Tryz.func82, Tryz.ntmps82
    go_wp2_with fail
    refine (truth_any _ _ _ _ _ _ _ _ _).mono ?_
    rintro e w1 ⟨rfl, j1⟩
    rw [unhide Y1]
    have q1 := j1
    obtain ⟨c1, f1⟩ := bcell q1
    have z1 : w.heap.size + 2 < w1.heap.size := by have := q1.size; simp at this; omega
    go_wp2_with fail
    refine (truth_any _ _ _ _ _ _ _ _ _).mono ?_
    rintro e w2 ⟨rfl, j2⟩
    rw [unhide Y2]
    have q2 := bstep q1 j2
    clear c1 f1 z1 q1 j2
    obtain ⟨c2, f2⟩ := bcell q2
    have z2 : w.heap.size + 2 < w2.heap.size := by have := q2.size; simp at this; omega
    go_wp2_with fail
    refine (untruth_any _ _ _ _ _ _ _ _ _).mono ?_
    rintro e w3 ⟨rfl, j3⟩
    rw [unhide U1]
    have q3 := bstep q2 j3
    clear c2 f2 z2 q2 j3
    obtain ⟨c3, f3⟩ := bcell q3
    have z3 : w.heap.size + 2 < w3.heap.size := by have := q3.size; simp at this; omega
    go_wp2_with fail
    exact bodyPost_ret (v := tval 0 false) zR82tvalc3 rfl ⟨rfl, set6 (bstep (below3 _ _ _ _) q3) (by omega) _ _ _ _ _ _⟩
   ·skip
    cases u2
    ·skip
     show Calls _ _ _ _ fun e w' => e = .returned (tval 0 false) ∧ _
     go_enter Tryz.func82, Tryz.ntmps82
     go_wp2_with fail
     refine (truth_any _ _ _ _ _ _ _ _ _).mono ?_
     rintro e w1 ⟨rfl, j1⟩
     rw [unhide Y1]
     have q1 := j1
     obtain ⟨c1, f1⟩ := bcell q1
     have z1 : w.heap.size + 2 < w1.heap.size := by have := q1.size; simp at this; omega
     go_wp2_with fail
     refine (truth_any _ _ _ _ _ _ _ _ _).mono ?_
     rintro e w2 ⟨rfl, j2⟩
     rw [unhide Y2]
     have q2 := bstep q1 j2
     clear c1 f1 z1 q1 j2
     obtain ⟨c2, f2⟩ := bcell q2
     have z2 : w.heap.size + 2 < w2.heap.size := by have := q2.size; simp at this; omega
     go_wp2_with fail
     refine (untruth_any _ _ _ _ _ _ _ _ _).mono ?_
     rintro e w3 ⟨rfl, j3⟩
     rw [unhide U1]
     have q3 := bstep q2 j3
     clear c2 f2 z2 q2 j3
     obtain ⟨c3, f3⟩ := bcell q3
     have z3 : w.heap.size + 2 < w3.heap.size := by have := q3.size; simp at this; omega
     go_wp2_with fail
     refine (untruth_any _ _ _ _ _ _ _ _ _).mono ?_
     rintro e w4 ⟨rfl, j4⟩
     rw [unhide U2]
     have q4 := bstep q3 j4
     clear c3 f3 z3 q3 j4
     obtain ⟨c4, f4⟩ := bcell q4
     have z4 : w.heap.size + 2 < w4.heap.size := by have := q4.size; simp at this; omega
     go_wp2_with fail
     exact bodyPost_ret (v := tval 0 false) (by simp [results, Tryz.results82, go_sem, tval, c4]) rfl ⟨rfl, set6 (bstep (below3 _ _ _ _) q4) (by omega) _ _ _ _ _ _⟩
    ·skip
     show Calls _ _ _ _ fun e w' => e = .returned (tval 1 false) ∧ _
     go_enter Tryz.func82, Tryz.ntmps82
     go_wp2_with fail
     refine (truth_any _ _ _ _ _ _ _ _ _).mono ?_
     rintro e w1 ⟨rfl, j1⟩
     rw [unhide Y1]
     have q1 := j1
     obtain ⟨c1, f1⟩ := bcell q1
     have z1 : w.heap.size + 2 < w1.heap.size := by have := q1.size; simp at this; omega
     go_wp2_with fail
     refine (truth_any _ _ _ _ _ _ _ _ _).mono ?_
     rintro e w2 ⟨rfl, j2⟩
     rw [unhide Y2]
     have q2 := bstep q1 j2
     clear c1 f1 z1 q1 j2
     obtain ⟨c2, f2⟩ := bcell q2
     have z2 : w.heap.size + 2 < w2.heap.size := by have := q2.size; simp at this; omega
     go_wp2_with fail
     refine (untruth_any _ _ _ _ _ _ _ _ _).mono ?_
     rintro e w3 ⟨rfl, j3⟩
     rw [unhide U1]
     have q3 := bstep q2 j3
     clear c2 f2 z2 q2 j3
     obtain ⟨c3, f3⟩ := bcell q3
     have z3 : w.heap.size + 2 < w3.heap.size := by have := q3.size; simp at this; omega
     go_wp2_with fail
     refine (untruth_any _ _ _ _ _ _ _ _ _).mono ?_
     rintro e w4 ⟨rfl, j4⟩
     rw [unhide U2]
     have q4 := bstep q3 j4
     clear c3 f3 z3 q3 j4
     obtain ⟨c4, f4⟩ := bcell q4
     have z4 : w.heap.size + 2 < w4.heap.size := by have := q4.size; simp at this; omega
     go_wp2_with fail
     refine (of_any _ _).mono ?_
     rintro e w5 ⟨rfl, j5⟩
     unfold tval
     have q5 := bstep q4 j5
     clear c4 f4 z4 q4 j5
     obtain ⟨c5, f5⟩ := bcell q5
     have z5 : w.heap.size + 2 < w5.heap.size := by have := q5.size; simp at this; omega
     go_wp2_with fail
     exact bodyPost_ret (v := tval 1 false) (by simp [results, Tryz.results82, go_sem, tval, c5]) rfl ⟨rfl, set6 (bstep (below3 _ _ _ _) q5) (by omega) _ _ _ _ _ _⟩
  ·skip
   show Calls _ _ _ _ fun e w' => e = .returned (tval 1 true) ∧ _
   go_enter Tryz.func82, Tryz.ntmps82
   go_wp2_with fail
   refine (truth_any _ _ _ _ _ _ _ _ _).mono ?_
   rintro e w1 ⟨rfl, j1⟩
   rw [unhide Y1]
   have q1 := j1
   obtain ⟨c1, f1⟩ := bcell q1
   have z1 : w.heap.size + 2 < w1.heap.size := by have := q1.size; simp at this; omega
   go_wp2_with fail
   refine (truth_any _ _ _ _ _ _ _ _ _).mono ?_
   rintro e w2 ⟨rfl, j2⟩
   rw [unhide Y2]
   have q2 := bstep q1 j2
   clear c1 f1 z1 q1 j2
   obtain ⟨c2, f2⟩ := bcell q2
   have z2 : w.heap.size + 2 < w2.heap.size := by have := q2.size; simp at this; omega
   go_wp2_with fail
   refine (of_any _ _).mono ?_
   rintro e w3 ⟨rfl, j3⟩
   unfold tval
   have q3 := bstep q2 j3
   clear c2 f2 z2 q2 j3
   obtain ⟨c3, f3⟩ := bcell q3
   have z3 : w.heap.size + 2 < w3.heap.size := by have := q3.size; simp at this; omega
   go_wp2_with fail
   exact bodyPost_ret (v := tval 1 true) zR82tvalc3 rfl ⟨rfl, set6 (bstep (below3 _ _ _ _) q3) (by omega) _ _ _ _ _ _⟩
 ·skip
  show Calls _ _ _ _ fun e w' => e = .returned (tval 1 true) ∧ _
  go_enter Tryz.func82, Tryz.ntmps82
  go_wp2_with fail
  refine (truth_any _ _ _ _ _ _ _ _ _).mono ?_
  rintro e w1 ⟨rfl, j1⟩
  rw [unhide Y1]
  have q1 := j1
  obtain ⟨c1, f1⟩ := bcell q1
  have z1 : w.heap.size + 2 < w1.heap.size := by have := q1.size; simp at this; omega
  go_wp2_with fail
  refine (of_any _ _).mono ?_
  rintro e w2 ⟨rfl, j2⟩
  unfold tval
  have q2 := bstep q1 j2
  clear c1 f1 z1 q1 j2
  obtain ⟨c2, f2⟩ := bcell q2
  have z2 : w.heap.size + 2 < w2.heap.size := by have := q2.size; simp at this; omega
  go_wp2_with fail
  exact bodyPost_ret (v := tval 1 true) (by simp [results, Tryz.results82, go_sem, tval, c2]) rfl ⟨rfl, set6 (bstep (below3 _ _ _ _) q2) (by omega) _ _ _ _ _ _⟩
end
section
open VT (leaf mkV)
def lfv (k : Int) (b : Bool) (m s : Int) (t : ByteArray) : Value := .agg #[.int .i64 k, .bool b, .int .i64 m, .int .i64 s, .string t, .slice none 0 0]
theorem etruth_any (b : Bool) (w : World) :
  Calls Tryz.prog 39 #[.bool b] w fun e w' => e = .returned (lfv 1 b 0 0 ⟨#[]⟩) ∧ Below w.heap.size w w' := by
 go_enter Tryz.func39, Tryz.ntmps39
 go_wp2_with fail
 exact bodyPost_ret (v := lfv 1 b 0 0 ⟨#[]⟩) (by simp [results, Tryz.results39, go_sem, lfv]) rfl ⟨rfl, below1 _ _⟩
theorem enumber_any (m s : Int) (w : World) :
  Calls Tryz.prog 48 #[.agg #[.int .i64 m, .int .i64 s]] w fun e w' => e = .returned (lfv 2 false m s ⟨#[]⟩) ∧ Below w.heap.size w w' := by
 go_enter Tryz.func48, Tryz.ntmps48
 go_wp2_with fail
 exact bodyPost_ret (v := lfv 2 false m s ⟨#[]⟩) (by simp [results, Tryz.results48, go_sem, lfv]) rfl ⟨rfl, zBL⟩
theorem etext_any (t : ByteArray) (w : World) :
  Calls Tryz.prog 47 #[.string t] w fun e w' => e = .returned (lfv 3 false 0 0 t) ∧ Below w.heap.size w w' := by
 go_enter Tryz.func47, Tryz.ntmps47
 go_wp2_with fail
 exact bodyPost_ret (v := lfv 3 false 0 0 t) (by simp [results, Tryz.results47, go_sem, lfv]) rfl ⟨rfl, zBL⟩
theorem ewhole_any (n : Int) (w : World) :
  Calls Tryz.prog 143 #[.int .i64 n] w fun e w' => e = .returned (lfv 2 false n 0 ⟨#[]⟩) ∧ Below w.heap.size w w' := by
 go_enter Tryz.func143, Tryz.ntmps143
 go_wp2_with fail
 refine (enumber_any _ _ _).mono ?_
 rintro e w1 ⟨rfl, k1⟩
 obtain ⟨c1, f1⟩ := bcell k1
 have B1 := bstep (below1 w _) k1
 unfold lfv
 go_wp2_with fail
 exact bodyPost_ret (v := lfv 2 false n 0 ⟨#[]⟩) (by simp [results, Tryz.results143, go_sem, lfv, c1]) rfl ⟨rfl, zBL⟩
theorem both_any (q : Int) (k : Int) (b : Bool) (m s : Int) (t : ByteArray) (a : Option Addr) (len cap : Nat) (k' : Int) (b' : Bool) (m' s' : Int) (t' : ByteArray) (a' : Option Addr) (len' cap' : Nat) (w : World) :
  Calls Tryz.prog 41 #[.int .i64 q, .agg #[.int .i64 k, .bool b, .int .i64 m, .int .i64 s, .string t, .slice a len cap], .agg #[.int .i64 k', .bool b', .int .i64 m', .int .i64 s', .string t', .slice a' len' cap']] w fun e w' => e = .returned (.bool (decide (k = q ∧ k' = q))) ∧ Below w.heap.size w w' := by
 by_cases h : k = q
 ·subst h
  by_cases h' : k' = k
  ·subst h'
   go_enter Tryz.func41, Tryz.ntmps41
   go_wp2_with fail
   go_ret
   exact ⟨ret_bool (by simp), below2 _ _ _⟩
  ·have H := hide h'
   have e1 : (k' == k) = false := by simpa using h'
   clear h'
   go_enter Tryz.func41, Tryz.ntmps41
   go_wp2_with fail
   go_ret
   exact ⟨ret_bool (by have h := unhide H; simp [h]), below2 _ _ _⟩
 ·have H := hide h
  have e1 : (k == q) = false := by simpa using h
  clear h
  go_enter Tryz.func41, Tryz.ntmps41
  go_wp2_with fail
  go_ret
  exact ⟨ret_bool (by have h := unhide H; simp [h]), below2 _ _ _⟩
def Tup (X : VT × Int) : Value := .tuple #[X.1.val, .int .i64 X.2]
theorem reckoned_any (m s e0 : Int) (w : World) :
  Calls Tryz.prog 84 #[.agg #[.int .i64 m, .int .i64 s], .int .i64 e0] w fun e w' => e = .returned (Tup (recT m s e0)) ∧ Below w.heap.size w w' := by
 unfold recT
 by_cases h : e0 = 0
 ·subst h
  rw [if_pos rfl]
  go_enter Tryz.func84, Tryz.ntmps84
  go_wp2_with fail
  refine (enumber_any _ _ _).mono ?_
  rintro e w1 ⟨rfl, k1⟩
  obtain ⟨c1, f1⟩ := bcell k1
  have B1 := bstep (below2 w _ _) k1
  unfold lfv
  go_wp2_with fail
  exact bodyPost_ret (v := .tuple #[lfv 2 false m s ⟨#[]⟩, .int .i64 0]) (by simp [results, Tryz.results84, go_sem, lfv, c1]) rfl ⟨rfl, zBL⟩
 ·rw [if_neg h]
  have e1 : (e0 != 0) = true := by simpa using h
  clear h
  go_enter Tryz.func84, Tryz.ntmps84
  go_wp2_with fail
  exact bodyPost_ret (v := .tuple #[lfv 0 false 0 0 ⟨#[]⟩, .int .i64 e0]) (by simp [results, Tryz.results84, go_sem, lfv]) rfl ⟨rfl, zBL⟩
end
section
section
variable (w : World) (nb o : Nat) (v0 v1 v2 v3 v4 v5 : Value)
theorem put_blk {k : Nat} (h : k ≠ nb) : ((((((w.setCell ⟨nb, o, none⟩ v0).setCell ⟨nb, o + 1, none⟩ v1).setCell ⟨nb, o + 2, none⟩ v2).setCell ⟨nb, o + 3, none⟩ v3).setCell ⟨nb, o + 4, none⟩ v4).setCell ⟨nb, o + 5, none⟩ v5).heap[k]? = w.heap[k]? := by
 rw [Below.heap_setCell _ _ _ _ h, Below.heap_setCell _ _ _ _ h, Below.heap_setCell _ _ _ _ h, Below.heap_setCell _ _ _ _ h, Below.heap_setCell _ _ _ _ h, Below.heap_setCell _ _ _ _ h]
theorem put_size : ((((((w.setCell ⟨nb, o, none⟩ v0).setCell ⟨nb, o + 1, none⟩ v1).setCell ⟨nb, o + 2, none⟩ v2).setCell ⟨nb, o + 3, none⟩ v3).setCell ⟨nb, o + 4, none⟩ v4).setCell ⟨nb, o + 5, none⟩ v5).heap.size = w.heap.size := by simp [World.setCell]
theorem put_cell {k i : Nat} (h : k ≠ nb) : ((((((w.setCell ⟨nb, o, none⟩ v0).setCell ⟨nb, o + 1, none⟩ v1).setCell ⟨nb, o + 2, none⟩ v2).setCell ⟨nb, o + 3, none⟩ v3).setCell ⟨nb, o + 4, none⟩ v4).setCell ⟨nb, o + 5, none⟩ v5).cell? ⟨k, i, none⟩ = w.cell? ⟨k, i, none⟩ := World.cell?_of_block (put_blk w nb o v0 v1 v2 v3 v4 v5 h)
theorem put_froz (k i : Nat) : ((((((w.setCell ⟨nb, o, none⟩ v0).setCell ⟨nb, o + 1, none⟩ v1).setCell ⟨nb, o + 2, none⟩ v2).setCell ⟨nb, o + 3, none⟩ v3).setCell ⟨nb, o + 4, none⟩ v4).setCell ⟨nb, o + 5, none⟩ v5).frozen? ⟨k, i, none⟩ = w.frozen? ⟨k, i, none⟩ := by simp
theorem put_below {n : Nat} {V : World} (h : Below n V w) (hb : n ≤ nb) : Below n V ((((((w.setCell ⟨nb, o, none⟩ v0).setCell ⟨nb, o + 1, none⟩ v1).setCell ⟨nb, o + 2, none⟩ v2).setCell ⟨nb, o + 3, none⟩ v3).setCell ⟨nb, o + 4, none⟩ v4).setCell ⟨nb, o + 5, none⟩ v5) :=
 (((((h.setCell hb v0).setCell hb v1).setCell hb v2).setCell hb v3).setCell hb v4).setCell hb v5
theorem put_six {b' o' : Nat} {k : Int} {bb : Bool} {m s : Int} {t : ByteArray} {a : Option Addr} {len cap : Nat} (h : VT.Six w b' o' k bb m s t a len cap) (hne : b' ≠ nb) : VT.Six ((((((w.setCell ⟨nb, o, none⟩ v0).setCell ⟨nb, o + 1, none⟩ v1).setCell ⟨nb, o + 2, none⟩ v2).setCell ⟨nb, o + 3, none⟩ v3).setCell ⟨nb, o + 4, none⟩ v4).setCell ⟨nb, o + 5, none⟩ v5) b' o' k bb m s t a len cap := by
 obtain ⟨h0, e0, e1, e2, e3, e4, e5⟩ := h
 refine ⟨by rw [put_size]; exact h0, ?_, ?_, ?_, ?_, ?_, ?_⟩ <;> rw [put_cell w nb o v0 v1 v2 v3 v4 v5 hne] <;> assumption
theorem put_own {b' : Nat} (h : Own w b') (hne : b' ≠ nb) : Own ((((((w.setCell ⟨nb, o, none⟩ v0).setCell ⟨nb, o + 1, none⟩ v1).setCell ⟨nb, o + 2, none⟩ v2).setCell ⟨nb, o + 3, none⟩ v3).setCell ⟨nb, o + 4, none⟩ v4).setCell ⟨nb, o + 5, none⟩ v5) b' := by
 obtain ⟨s, f0, f1, f2, f3, f4, f5⟩ := h
 exact ⟨put_six w nb o v0 v1 v2 v3 v4 v5 s hne, by rw [put_froz]; exact f0, by rw [put_froz]; exact f1, by rw [put_froz]; exact f2, by rw [put_froz]; exact f3, by rw [put_froz]; exact f4, by rw [put_froz]; exact f5⟩
theorem put_away {n : Nat} (h : nb < n) {x : VT} (hi : x.In w) (hf : x.Fresh n w) : x.In ((((((w.setCell ⟨nb, o, none⟩ v0).setCell ⟨nb, o + 1, none⟩ v1).setCell ⟨nb, o + 2, none⟩ v2).setCell ⟨nb, o + 3, none⟩ v3).setCell ⟨nb, o + 4, none⟩ v4).setCell ⟨nb, o + 5, none⟩ v5) ∧ x.Fresh n ((((((w.setCell ⟨nb, o, none⟩ v0).setCell ⟨nb, o + 1, none⟩ v1).setCell ⟨nb, o + 2, none⟩ v2).setCell ⟨nb, o + 3, none⟩ v3).setCell ⟨nb, o + 4, none⟩ v4).setCell ⟨nb, o + 5, none⟩ v5) :=
 VT.away (fun bl i hb => put_cell w nb o v0 v1 v2 v3 v4 v5 (by omega)) (fun bl i _ => put_froz w nb o v0 v1 v2 v3 v4 v5 bl i) x hi hf
def putF (o : Nat) (v0 v1 v2 v3 v4 v5 : Value) (F : Nat → Value) : Nat → Value := fun j => if j = o + 5 then v5 else if j = o + 4 then v4 else if j = o + 3 then v3 else if j = o + 2 then v2 else if j = o + 1 then v1 else if j = o then v0 else F j
theorem put_row {t : TypeId} {n : Nat} {F : Nat → Value} (h : w.rowIs nb t n F) : ((((((w.setCell ⟨nb, o, none⟩ v0).setCell ⟨nb, o + 1, none⟩ v1).setCell ⟨nb, o + 2, none⟩ v2).setCell ⟨nb, o + 3, none⟩ v3).setCell ⟨nb, o + 4, none⟩ v4).setCell ⟨nb, o + 5, none⟩ v5).rowIs nb t n (putF o v0 v1 v2 v3 v4 v5 F) :=
 (((((h.set o v0).set (o + 1) v1).set (o + 2) v2).set (o + 3) v3).set (o + 4) v4).set (o + 5) v5
end
theorem row_below {w w' : World} {b : Nat} {t : TypeId} {n : Nat} {F : Nat → Value} (h : w.rowIs b t n F) (k : Below w.heap.size w w') : w'.rowIs b t n F := h.of_block (k.block b h.lt)
theorem putF_in (o : Nat) (v0 v1 v2 v3 v4 v5 : Value) (F : Nat → Value) : putF o v0 v1 v2 v3 v4 v5 F o = v0 ∧ putF o v0 v1 v2 v3 v4 v5 F (o + 1) = v1 ∧ putF o v0 v1 v2 v3 v4 v5 F (o + 2) = v2 ∧ putF o v0 v1 v2 v3 v4 v5 F (o + 3) = v3 ∧ putF o v0 v1 v2 v3 v4 v5 F (o + 4) = v4 ∧ putF o v0 v1 v2 v3 v4 v5 F (o + 5) = v5 := by
 unfold putF
 refine ⟨?_, ?_, ?_, ?_, ?_, ?_⟩ <;> simp
theorem putF_out {o : Nat} {v0 v1 v2 v3 v4 v5 : Value} {F : Nat → Value} {i : Nat} (h : i < o ∨ o + 6 ≤ i) : putF o v0 v1 v2 v3 v4 v5 F i = F i := by
 unfold putF
 rw [if_neg (by omega), if_neg (by omega), if_neg (by omega), if_neg (by omega), if_neg (by omega), if_neg (by omega)]
end
section
end
section
theorem rtext_any (s : ByteArray) (w : World) (hs : s.size ≤ maxLen) :
  Calls Tryz.prog 70 #[.string s] w fun e w' => e = .returned (.bool (textB s)) ∧ w' = w := by
 unfold maxLen at hs
 go_enter Tryz.func70, Tryz.ntmps70
 go_wp2
 go_loop [3] (fun i => ∃ k : Nat, k ≤ s.size ∧ i = .int .i64 k ∧ Hid ((s.data.toList.take k).all okC = true)) (fun i => s.size - (intOf i).toNat)
 case atStart => exact ⟨0, Nat.zero_le _, rfl, hide (by simp)⟩
 case round =>
  obtain ⟨k, hk, rfl, H⟩ := hrel
  by_cases hlt : k < s.size
  ·by_cases c1 : (s[k].toNat : Int) < 32
   ·go_wp2
    go_ret
    exact ⟨ret_bool (by unfold textB; rw [all_bad hlt (okC_no (Or.inl c1))]; simp), rfl⟩
   ·by_cases c2 : 126 < (s[k].toNat : Int)
    ·go_wp2
     go_ret
     exact ⟨ret_bool (by unfold textB; rw [all_bad hlt (okC_no (Or.inr (Or.inl c2)))]; simp), rfl⟩
    ·by_cases c3 : (s[k].toNat : Int) = 34
     ·have C3 := hide c3
      have c3' : ((s[k].toNat : Int) == 34) = true := by simpa using c3
      clear c3
      go_wp2
      go_ret
      exact ⟨ret_bool (by unfold textB; rw [all_bad hlt (okC_no (Or.inr (Or.inr (unhide C3))))]; simp), rfl⟩
     ·have C := hide (okC_mk (by omega) (by omega) c3)
      have c3' : ((s[k].toNat : Int) == 34) = false := by simpa using c3
      clear c3
      go_wp2
      go_round
      case rel => exact ⟨k + 1, by omega, by go_num, hide (all_snoc hlt (unhide H) (unhide C))⟩
      case measure => simp [intOf]; omega
  ·have A := hide (all_full hlt (unhide H))
   go_wp2
   go_ret
   exact ⟨ret_bool (by unfold textB; rw [unhide A, Bool.and_true]; exact decide_eq_decide.2 (by omega)), rfl⟩
theorem text_any (s : ByteArray) (w : World) (hs : s.size ≤ maxLen) :
  Calls Tryz.prog 112 #[.string s] w fun e w' => e = .returned (.bool (textB s)) ∧ w' = w := by
 unfold maxLen at hs
 by_cases h16 : s.size ≤ 16
 ·go_enter Tryz.func112, Tryz.ntmps112
  go_wp2
  go_loop [9] (fun i => ∃ k : Nat, k ≤ s.size ∧ i = .int .i64 k ∧ Hid ((s.data.toList.take k).all okC = true)) (fun i => s.size - (intOf i).toNat)
  case atStart => exact ⟨0, Nat.zero_le _, rfl, hide (by simp)⟩
  case round =>
   obtain ⟨k, hk, rfl, H⟩ := hrel
   by_cases hlt : k < s.size
   ·by_cases c1 : (s[k].toNat : Int) < 32
    ·go_wp2
     go_ret
     exact ⟨ret_bool (by unfold textB; rw [all_bad hlt (okC_no (Or.inl c1))]; simp), rfl⟩
    ·by_cases c2 : 126 < (s[k].toNat : Int)
     ·go_wp2
      go_ret
      exact ⟨ret_bool (by unfold textB; rw [all_bad hlt (okC_no (Or.inr (Or.inl c2)))]; simp), rfl⟩
     ·by_cases c3 : (s[k].toNat : Int) = 34
      ·have C3 := hide c3
       have c3' : ((s[k].toNat : Int) == 34) = true := by simpa using c3
       clear c3
       go_wp2
       go_ret
       exact ⟨ret_bool (by unfold textB; rw [all_bad hlt (okC_no (Or.inr (Or.inr (unhide C3))))]; simp), rfl⟩
      ·have C := hide (okC_mk (by omega) (by omega) c3)
       have c3' : ((s[k].toNat : Int) == 34) = false := by simpa using c3
       clear c3
       go_wp2
       go_round
       case rel => exact ⟨k + 1, by omega, by go_num, hide (all_snoc hlt (unhide H) (unhide C))⟩
       case measure => simp [intOf]; omega
   ·have A := hide (all_full hlt (unhide H))
    go_wp2
    go_ret
    exact ⟨ret_bool (by unfold textB; rw [unhide A]; simp [h16]), rfl⟩
 ·go_enter Tryz.func112, Tryz.ntmps112
  go_wp2
  go_ret
  exact ⟨ret_bool (by unfold textB; have : ¬ s.size ≤ 16 := by omega
                      simp [this]), rfl⟩
end
section
theorem tmod10 (m : Int) : (m.tmod 10 == 0) = decide (m % 10 = 0) := by
 have : (m.tmod 10 = 0) ↔ (m % 10 = 0) := by
  rw [← Int.dvd_iff_tmod_eq_zero, ← Int.dvd_iff_emod_eq_zero]
 by_cases h0 : m % 10 = 0
 ·simp [h0, this.2 h0]
 ·have h1 := mt this.1 h0
  simp [h0, h1]
end
section
theorem ris_any (m s : Int) (w : World) :
  Calls Tryz.prog 57 #[.agg #[.int .i64 m, .int .i64 s]] w fun e w' => e = .returned (.bool (isB m s)) ∧ Below w.heap.size w w' := by
 unfold isB okM
 have tm := tmod10 m
 by_cases h1 : -1000000000 ≤ m
 ·by_cases h1b : m ≤ 1000000000
  ·by_cases h2 : 0 ≤ s
   ·by_cases h3 : s ≤ 4
    ·by_cases h4 : s = 0
     ·subst h4
      clear tm
      go_enter Tryz.func57, Tryz.ntmps57
      go_wp2
      go_ret
      exact ⟨ret_bool (by simp [h1, h1b]), (Below.refl _ _).alloc (Nat.le_refl _) _⟩
     ·have h4' : (s == 0) = false := by simpa using h4
      by_cases h5 : m % 10 = 0
      ·have tm' : (m.tmod 10 != 0) = false := by unfold bne; rw [tm]; simp [h5]
       have H5 := hide h5
       have H4 := hide h4
       clear tm h4 h5
       go_enter Tryz.func57, Tryz.ntmps57
       go_wp2
       go_ret
       exact ⟨ret_bool (by have := unhide H5; have := unhide H4; simp [*]), (Below.refl _ _).alloc (Nat.le_refl _) _⟩
      ·have tm' : (m.tmod 10 != 0) = true := by unfold bne; rw [tm]; simp [h5]
       have H5 := hide h5
       have H4 := hide h4
       clear tm h4 h5
       go_enter Tryz.func57, Tryz.ntmps57
       go_wp2
       go_ret
       exact ⟨ret_bool (by have := unhide H5; have := unhide H4; simp [*]), (Below.refl _ _).alloc (Nat.le_refl _) _⟩
    ·clear tm
     go_enter Tryz.func57, Tryz.ntmps57
     go_wp2
     go_ret
     exact ⟨ret_bool (by have : ¬ s ≤ 4 := by omega
                         simp [this]), (Below.refl _ _).alloc (Nat.le_refl _) _⟩
   ·clear tm
    go_enter Tryz.func57, Tryz.ntmps57
    go_wp2
    go_ret
    exact ⟨ret_bool (by have : ¬ 0 ≤ s := by omega
                        simp [this]), (Below.refl _ _).alloc (Nat.le_refl _) _⟩
  ·clear tm
   go_enter Tryz.func57, Tryz.ntmps57
   go_wp2
   go_ret
   exact ⟨ret_bool (by have : ¬ m ≤ 1000000000 := by omega
                       simp [this]), (Below.refl _ _).alloc (Nat.le_refl _) _⟩
 ·clear tm
  go_enter Tryz.func57, Tryz.ntmps57
  go_wp2
  go_ret
  exact ⟨ret_bool (by have : ¬ -1000000000 ≤ m := by omega
                      simp [this]), (Below.refl _ _).alloc (Nat.le_refl _) _⟩
end
section
theorem ris_no (k : Int) (b : Bool) (m s : Int) (t : ByteArray) (a : Option Addr) (len cap : Nat) (q : Int) (w : World) (h : aloneB k b m s t len = false) :
  Calls Tryz.prog 36 #[.agg #[.int .i64 k, .bool b, .int .i64 m, .int .i64 s, .string t, .slice a len cap], .int .i64 q] w fun e w' => e = .returned (.bool false) ∧ Below w.heap.size w w' := by
 rcases alone_f h with ⟨h1, rfl⟩ | ⟨h1, h2⟩ | ⟨h1, h2⟩ | ⟨h1, h2⟩
 ·have e1 : (k == 1) = false := by simpa using h1
  have n1 : (k != 1) = true := by simpa using h1
  clear h h1
  go_enter Tryz.func36, Tryz.ntmps36
  go_wp2_with fail
  all_goals go_ret
  all_goals exact ⟨rfl, below1 _ _⟩
 ·have e1 : (k == 2) = false := by simpa using h1
  have n1 : (k != 2) = true := by simpa using h1
  clear h h1
  rcases h2 with h2 | h2
  ·go_enter Tryz.func36, Tryz.ntmps36
   go_wp2_with fail
   all_goals go_ret
   all_goals exact ⟨rfl, below1 _ _⟩
  ·go_enter Tryz.func36, Tryz.ntmps36
   go_wp2_with fail
   all_goals go_ret
   all_goals exact ⟨rfl, below1 _ _⟩
 ·have e1 : (k == 3) = false := by simpa using h1
  have n1 : (k != 3) = true := by simpa using h1
  clear h h1
  go_enter Tryz.func36, Tryz.ntmps36
  go_wp2_with fail
  all_goals go_ret
  all_goals exact ⟨rfl, below1 _ _⟩
 ·have e1 : (k == 4) = false := by simpa using h1
  have n1 : (k != 4) = true := by simpa using h1
  clear h h1
  have h3 : 0 < len := by omega
  clear h2
  go_enter Tryz.func36, Tryz.ntmps36
  go_wp2_with fail
  all_goals go_ret
  all_goals exact ⟨rfl, below1 _ _⟩
end
section
theorem okB_no {k : Int} {b : Bool} {m s : Int} {t : ByteArray} {a : Option Addr} {len cap : Nat} {kid : Nat → VT} (n : Nat) (h : aloneB k b m s t len = false) : (VT.mk k b m s t a len cap kid).okB n = false := by
 simp only [VT.okB, h, Bool.false_and]
theorem okB_yes {k : Int} {b : Bool} {m s : Int} {t : ByteArray} {a : Option Addr} {len cap : Nat} {kid : Nat → VT} (n : Nat) (h : aloneB k b m s t len = true) : (VT.mk k b m s t a len cap kid).okB n =
   (if k = 0 ∨ k = 1 then true else if k = 2 then isB m s else if k = 3 then textB t else if k = 4 then decide (n ≠ 0) && (decide (len ≤ 8) && (List.range len).all fun i => (kid i).okB (n - 1)) else false) := by
 simp only [VT.okB, h, Bool.true_and]
theorem ris2_any (x : VT) : ∀ (q : Nat) (w : World), q ≤ 2 → x.In w →
  Calls Tryz.prog 36 #[x.val, .int .i64 q] w fun e w' => e = .returned (.bool (x.okB (2 - q))) ∧ Below w.heap.size w w' := by
 induction x with
 | none => intro q w _ h; exact absurd h (by simp [VT.In])
 | mk k b m s t a len cap kid ih =>
  intro q w hq hin
  obtain ⟨wk, wm, ws, ht, hlc, hcm⟩ := hin.1
  have hlm : len ≤ maxLen := by omega
  have ht' := hide ht
  unfold maxLen at ht hcm hlm
  show Calls Tryz.prog 36 #[.agg #[.int .i64 k, .bool b, .int .i64 m, .int .i64 s, .string t, .slice a len cap], .int .i64 q] w _
  clear wk wm ws
  cases hal : aloneB k b m s t len
  ·rw [okB_no _ hal]
   exact ris_no k b m s t a len cap q w hal
  ·rw [okB_yes _ hal]
   obtain ⟨a1, a2, a3, a4⟩ := alone_t hal
   have hal := hide hal
   by_cases k0 : k = 0
   ·subst k0
    have a1 := a1 (by omega); have a2 := a2 (by omega); have a3 := a3 (by omega); have a4 := a4 (by omega)
    obtain ⟨rfl, rfl⟩ := a2
    subst a1 a4
    go_enter Tryz.func36, Tryz.ntmps36
    go_wp2_with fail
    go_ret
    exact ⟨rfl, below1 _ _⟩
   by_cases k1 : k = 1
   ·subst k1
    have a2 := a2 (by omega); have a3 := a3 (by omega); have a4 := a4 (by omega)
    obtain ⟨rfl, rfl⟩ := a2
    subst a4
    clear a1
    go_enter Tryz.func36, Tryz.ntmps36
    go_wp2_with fail
    go_ret
    exact ⟨rfl, below1 _ _⟩
   by_cases k2 : k = 2
   ·subst k2
    have a1 := a1 (by omega); have a3 := a3 (by omega); have a4 := a4 (by omega)
    subst a1 a4
    clear a2 k0 k1
    go_enter Tryz.func36, Tryz.ntmps36
    go_wp2_with fail
    refine (ris_any m s _).mono ?_
    rintro e w1 ⟨rfl, k1⟩
    go_wp2_with fail
    go_ret
    exact ⟨rfl, bstep (below1 _ _) k1⟩
   by_cases k3 : k = 3
   ·subst k3
    have a1 := a1 (by omega); have a2 := a2 (by omega); have a4 := a4 (by omega)
    obtain ⟨rfl, rfl⟩ := a2
    subst a1 a4
    clear a3 k0 k1 k2
    go_enter Tryz.func36, Tryz.ntmps36
    go_wp2_with fail
    refine (rtext_any t _ (unhide ht')).mono ?_
    rintro e w1 ⟨rfl, rfl⟩
    go_wp2_with fail
    go_ret
    exact ⟨rfl, below1 _ _⟩
   by_cases k4 : k = 4
   ·subst k4
    have a1 := a1 (by omega); have a2 := a2 (by omega); have a3 := a3 (by omega)
    obtain ⟨rfl, rfl⟩ := a2
    subst a1
    clear a4 k0 k1 k2 k3
    rw [if_neg (by omega), if_neg (by omega), if_neg (by omega), if_pos rfl]
    by_cases hq2 : q = 2
    ·subst hq2
     go_enter Tryz.func36, Tryz.ntmps36
     go_wp2_with fail
     go_ret
     exact ⟨rfl, below1 _ _⟩
    have hq1 : q < 2 := by omega
    have e2 : decide (2 - q ≠ 0) = true := by simp; omega
    rw [e2, Bool.true_and]
    clear e2 hq2 hq
    by_cases h8 : len ≤ 8
    ·rw [decide_eq_true h8, Bool.true_and]
     go_enter Tryz.func36, Tryz.ntmps36
     go_wp2_with fail
     have b0 := below1 w (Obj.cells #[.int .i64 4, .bool false, .int .i64 0, .int .i64 0, .string t, .slice a len cap] 32)
     have hin1 := hin.below b0
     have hz : (w.alloc (Obj.cells #[.int .i64 4, .bool false, .int .i64 0, .int .i64 0, .string t, .slice a len cap] 32)).heap.size = w.heap.size + 1 := by simp
     have hbox : (w.alloc (Obj.cells #[.int .i64 4, .bool false, .int .i64 0, .int .i64 0, .string t, .slice a len cap] 32)).cell? ⟨w.heap.size, 5, none⟩ = some (.slice a len cap) := by go_simp
     generalize hW : w.alloc (Obj.cells #[.int .i64 4, .bool false, .int .i64 0, .int .i64 0, .string t, .slice a len cap] 32) = W at *
     clear hW
     go_loopw [5] (fun i wr => ∃ (j : Nat), j ≤ len ∧ i = .int .i64 j ∧ Hid (∀ i, i < j → (kid i).okB (2 - (q + 1)) = true) ∧ Below W.heap.size W wr) (fun i _ => len - (intOf i).toNat)
     case atStart => exact ⟨0, Nat.zero_le _, rfl, hide (fun i hi => absurd hi (Nat.not_lt_zero _)), Below.refl _ _⟩
     case round =>
      obtain ⟨j, hj, rfl, HA, bel⟩ := hrel
      have hb := (bcell bel).1 w.heap.size 5 (by omega)
      rw [hbox] at hb
      by_cases hlt : j < len
      ·obtain ⟨bl, o, k', b', m', s', t', a', len', cap', kid', rfl, hx, six, hk⟩ := hin1.kid hlt
       have ihj := ih j (q + 1) wr (by omega)
       rw [hx] at ihj
       have ihj := ihj (hk.below bel)
       obtain ⟨s0, s1, s2, s3, s4, s5, s6⟩ := six.below bel
       clear six hk ih hin hin1
       have IH := hide ihj
       clear ihj
       cases hok : (kid j).okB (2 - (q + 1))
       ·have FIN := hide (all_range_no (n := len) (f := fun i => (kid i).okB (2 - q - 1)) hlt (by show (kid j).okB (2 - q - 1) = false; rw [Nat.sub_sub]; exact hok))
        rw [hx] at hok
        have HX := hide hx
        have HOK := hide hok
        clear hx hok
        go_wp2_with fail
        refine (unhide IH).mono ?_
        rintro e w2 ⟨rfl, k2⟩
        rw [unhide HOK]
        go_wp2_with fail
        go_ret
        exact ⟨ret_bool (unhide FIN).symm, bstep b0 (bstep bel k2)⟩
       ·have HN := hide hok
        rw [hx] at hok
        have HX := hide hx
        have HOK := hide hok
        clear hx hok
        go_wp2_with fail
        refine (unhide IH).mono ?_
        rintro e w2 ⟨rfl, k2⟩
        rw [unhide HOK]
        go_wp2_with fail
        go_roundw
        case rel =>
         refine ⟨j + 1, by omega, by go_num, hide (fun i hi => ?_), bstep bel k2⟩
         by_cases hij : i = j
         ·subst hij; exact unhide HN
         ·exact unhide HA i (by omega)
        case measure => simp [intOf]; omega
      ·have FIN := hide (all_range (n := len) (f := fun i => (kid i).okB (2 - q - 1)) (fun i hi => by show (kid i).okB (2 - q - 1) = true; rw [Nat.sub_sub]; exact unhide HA i (by omega)))
       go_wp2_with fail
       go_ret
       exact ⟨ret_bool (unhide FIN).symm, bstep b0 bel⟩
    ·rw [decide_eq_false h8, Bool.false_and]
     go_enter Tryz.func36, Tryz.ntmps36
     go_wp2_with fail
     go_ret
     exact ⟨rfl, below1 _ _⟩
   ·have a1 := a1 k1; have a2 := a2 k2; have a3 := a3 k3; have a4 := a4 k4
    obtain ⟨rfl, rfl⟩ := a2
    subst a1 a4
    rw [if_neg (by omega), if_neg k2, if_neg k3, if_neg k4]
    have e0 : (k == 0) = false := by simpa using k0
    have e1 : (k == 1) = false := by simpa using k1
    have e2 : (k == 2) = false := by simpa using k2
    have e3 : (k == 3) = false := by simpa using k3
    have e4 : (k == 4) = false := by simpa using k4
    have n1 : (k != 1) = true := by simpa using k1
    have n2 : (k != 2) = true := by simpa using k2
    have n3 : (k != 3) = true := by simpa using k3
    have n4 : (k != 4) = true := by simpa using k4
    clear k0 k1 k2 k3 k4
    go_enter Tryz.func36, Tryz.ntmps36
    go_wp2_with fail
    go_ret
    exact ⟨rfl, below1 _ _⟩
theorem rIs_any (x : VT) (w : World) (hin : x.In w) :
  Calls Tryz.prog 14 #[x.val] w fun e w' => e = .returned (.bool (x.okB 2)) ∧ Below w.heap.size w w' := by
 cases x with
 | none => exact absurd hin (by simp [VT.In])
 | mk k b m s t a len cap kid =>
  have b0 := below1 w (Obj.cells #[.int .i64 k, .bool b, .int .i64 m, .int .i64 s, .string t, .slice a len cap] 32)
  have H := hide (ris2_any _ 0 _ (by omega) (hin.below b0))
  show Calls Tryz.prog 14 #[.agg #[.int .i64 k, .bool b, .int .i64 m, .int .i64 s, .string t, .slice a len cap]] w _
  go_enter Tryz.func14, Tryz.ntmps14
  go_wp2_with fail
  refine (unhide H).mono ?_
  rintro e w1 ⟨rfl, k1⟩
  go_wp2_with fail
  go_ret
  exact ⟨rfl, bstep b0 k1⟩
end
end Go.Proofs.YtfdimdjmnfdecaaGreat
