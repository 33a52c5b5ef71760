/- Itoa Keep DText: laid together. -/
import Derived.Test.YtejnmkhdnhggcaaDoorSAA
import Derived.Test.YtejnmkhdnhggcaaDoorShelf
import Derived.Lib.LaidTab
import Derived.Lib.ItoaLen
/- strconv.Itoa of a number that is not below nought, and the table that it reads, kept behind calls. -/
namespace Go.Proofs.YtejnmkhdnhggcaaDoor
open Go.RowKit Go.Sort

/- the table of powers of ten lies as the program's text lays it. -/
def Tab (w : World) : Prop := Lib.TabIs Tryd.prog w "internal/strconv.uint64pow10" .u64 Lib.pow10Tab

theorem tab_below {w w' : World} (h : Tab w) (hb : Below w.heap.size w w') : Tab w' := by
  have hg : Tryd.prog.globalNamed "internal/strconv.uint64pow10" = some 0 := by kernel_rfl
  unfold Tab Lib.TabIs at h ⊢
  refine var?_below hb hg ?_ h
  refine Nat.lt_of_not_ge fun h' => ?_
  unfold World.var? at h
  rw [hg] at h
  simp only [Option.bind_some] at h
  rw [Array.getElem?_eq_none h'] at h
  cases h

theorem below_grow (w : World) (k : Nat) (os : Array Obj) : Below w.heap.size w (grow (w.drewN k) os) :=
  ⟨rfl, rfl, rfl, by show w.heap.size ≤ (w.heap ++ os).size; simp, fun j hj => by show (w.heap ++ os)[j]? = w.heap[j]?; rw [Array.getElem?_append_left hj]⟩

theorem itoa_any (n : Int) (w : World) (h0 : 0 ≤ n) (h1 : n ≤ 1000000000000000000) (ht : Tab w) :
    Calls Tryd.prog 44 #[.int .i64 n] w fun e w' => e = .returned (.string ⟨(Lib.decDigits n.toNat).toArray⟩) ∧ Below w.heap.size w w' := by
  refine (Tryd.strconv_Itoa n (by omega) (by omega) w ht).mono ?_
  rintro e w' ⟨rfl, k, os, rfl⟩
  have e : Lib.itoa n = Lib.decDigits n.toNat := by unfold Lib.itoa; rw [if_neg (by omega)]
  rw [e]
  exact ⟨rfl, below_grow w k os⟩

end Go.Proofs.YtejnmkhdnhggcaaDoor

/- Small steps on 'nothing below has turned', for regions whose order is drawn. -/
namespace Go.Proofs.YtejnmkhdnhggcaaDoor
open Go.RowKit

theorem keep_call {V x y : World} {p : Prop} (h : Below V.heap.size V x ∧ p) (k : Below x.heap.size x y) : Below V.heap.size V y := bstep h.1 k
theorem keep_alloc {V x : World} {p : Prop} (h : Below V.heap.size V x ∧ p) (o : Obj) : Below V.heap.size V (x.alloc o) := h.1.alloc h.1.size o
theorem keep_set {V x : World} {p : Prop} (h : Below V.heap.size V x ∧ p) {a : Addr} (ha : V.heap.size ≤ a.block) (v : Value) : Below V.heap.size V (x.setCell a v) := h.1.setCell ha v
theorem keep_set2 {V x : World} {p : Prop} (h : Below V.heap.size V x ∧ p) {a b : Addr} (ha : V.heap.size ≤ a.block) (hb : V.heap.size ≤ b.block) (v u : Value) : Below V.heap.size V ((x.setCell a v).setCell b u) := (h.1.setCell ha v).setCell hb u

theorem kcell {x y : World} (k : Below x.heap.size x y) {b o : Nat} {v : Value} (h : b < x.heap.size) (hc : x.cell? ⟨b, o, none⟩ = some v) : y.cell? ⟨b, o, none⟩ = some v := ((bcell k).1 b o h).trans hc
theorem kfroz {x y : World} (k : Below x.heap.size x y) {b o : Nat} (h : b < x.heap.size) (hc : x.frozen? ⟨b, o, none⟩ = false) : y.frozen? ⟨b, o, none⟩ = false := ((bcell k).2 b o h).trans hc

/- in a world a decimal lies in the block b. -/
def Has (V : World) (b : Nat) (m s : Int) : Prop := b < V.heap.size ∧ V.cell? ⟨b, 0, none⟩ = some (.int .i64 m) ∧ V.cell? ⟨b, 1, none⟩ = some (.int .i64 s)
theorem Has.call {V x : World} {b : Nat} {m s : Int} (h : Has V b m s) (k : Below V.heap.size V x) : Has x b m s := ⟨Nat.lt_of_lt_of_le h.1 k.size, kcell k h.1 h.2.1, kcell k h.1 h.2.2⟩
theorem Has.put {V : World} {b : Nat} {m s : Int} (h : Has V b m s) (o : Obj) : Has (V.alloc o) b m s := by
  obtain ⟨h1, h2, h3⟩ := h
  exact ⟨by simp; omega, by go_simp, by go_simp⟩
theorem Has.new (V : World) (m s : Int) (t : TypeId) : Has (V.alloc (Obj.cells #[.int .i64 m, .int .i64 s] t)) V.heap.size m s := ⟨by simp, by go_simp, by go_simp⟩

end Go.Proofs.YtejnmkhdnhggcaaDoor

/- The contract of dec's Text, for decimals that may be: a sign, and what the number without it is. -/
namespace Go.Proofs.YtejnmkhdnhggcaaDoor
open Go.RowKit

theorem ba_app (l l' : List UInt8) : (⟨l.toArray⟩ : ByteArray) ++ ⟨l'.toArray⟩ = ⟨(l ++ l').toArray⟩ := by
  apply ByteArray.ext
  simp

def bodyL (u s : Int) : List UInt8 :=
  if s = 0 then Lib.decDigits u.toNat else Lib.decDigits (u / p10 s.toNat).toNat ++ ([46] ++ (Lib.repeatL [48] (s - (Lib.decDigits (u % p10 s.toNat).toNat).length).toNat ++ Lib.decDigits (u % p10 s.toNat).toNat))
def sgnL (m : Int) : List UInt8 := if m < 0 then [45] else []
def absI (m : Int) : Int := if m < 0 then -m else m

theorem dlen (u : Int) (h : u ≤ 1000000000000000000) : 1 ≤ (Lib.decDigits u.toNat).length ∧ (Lib.decDigits u.toNat).length ≤ 20 := by
  rw [Lib.decDigits_length]
  exact ⟨Lib.nDigits_pos _, Lib.nDigits_le20 _ (by omega)⟩
theorem dlen_lt (u : Nat) (k : Nat) (h : u < 10 ^ (k + 1)) : (Lib.decDigits u).length ≤ k + 1 := by
  rw [Lib.decDigits_length]
  induction k generalizing u with
  | zero => rw [Lib.nDigits_small (by simpa using h)]; omega
  | succ k ih =>
    by_cases h10 : u < 10
    · rw [Lib.nDigits_small h10]; omega
    · rw [Lib.nDigits_big h10]
      have := ih (u / 10) (by rw [Nat.pow_succ] at h; omega)
      omega

theorem ret_str {a b : ByteArray} (h : a = b) : Ending.returned (.string a) = .returned (.string b) := by rw [h]
theorem app5 (a b c d : List UInt8) : (((⟨a.toArray⟩ ++ ⟨b.toArray⟩ : ByteArray) ++ ⟨#[46]⟩) ++ ⟨c.toArray⟩) ++ ⟨d.toArray⟩ = ⟨(a ++ (b ++ ([46] ++ (c ++ d)))).toArray⟩ := by
  apply ByteArray.ext
  simp

set_option maxHeartbeats 800000 in
theorem text_w (m : Int) (w : World) (ha : isB m 0 = true) (ht : Tab w) :
    Calls Tryd.prog 34 #[.agg #[.int .i64 m, .int .i64 0]] w fun e w' => e = .returned (.string ⟨(sgnL m ++ bodyL (absI m) 0).toArray⟩) ∧ Below w.heap.size w w' := by
  have ⟨m1, m2, _, _⟩ := isB_bd ha
  have HA := hide ha
  have HT := hide ht
  clear ha ht
  by_cases hn : m < 0
  · skip
    obtain ⟨u, rfl⟩ : ∃ u, m = -u := ⟨-m, by omega⟩
    have hu : 0 < u := by omega
    have e1 : sgnL (-u) ++ bodyL (absI (-u)) 0 = [45] ++ Lib.decDigits u.toNat := by unfold sgnL absI bodyL; rw [if_pos hn, if_pos hn, if_pos rfl, Int.neg_neg]
    rw [e1]
    clear e1
    have dl := dlen u (by omega)
    have BA := hide (ba_app [45] (Lib.decDigits u.toNat))
    have I1 := hide (fun w h => itoa_any u w (by omega) (by omega) h)
    generalize Lib.decDigits u.toNat = l at *
    obtain ⟨d1, d2⟩ := dl
    go_enter Tryd.func34, Tryd.ntmps34
    go_wp2_with fail
    refine (is_any _ _ _).mono ?_
    rintro e w1 ⟨rfl, k1⟩
    rw [unhide HA]
    obtain ⟨c1, f1⟩ := bcell k1
    go_wp2_with fail
    go_quiet (fail)
    go_wp2_with fail
    have b1 : Below w.heap.size w (w1.drewN nq) := bstep (below1 w _) (below_drewN k1 _)
    have q1 : Below (w.alloc (Obj.cells #[.int .i64 (-u), .int .i64 0] 23)).heap.size (w.alloc (Obj.cells #[.int .i64 (-u), .int .i64 0] 23)) (w1.drewN nq) := below_drewN k1 _
    refine (unhide I1 _ (tab_below (unhide HT) b1)).mono ?_
    rintro e w2 ⟨rfl, k2⟩
    clear c1 f1
    go_wp2
    go_ret
    exact ⟨ret_str (by have h := unhide BA; exact h), bstep b1 k2⟩
  · skip
    obtain ⟨u, hmu⟩ : ∃ u, u = m := ⟨m, rfl⟩
    subst hmu
    have hu : 0 ≤ u := by omega
    have e1 : sgnL u ++ bodyL (absI u) 0 = [] ++ Lib.decDigits u.toNat := by unfold sgnL absI bodyL; rw [if_neg hn, if_neg hn, if_pos rfl]
    rw [e1]
    clear e1
    have dl := dlen u (by omega)
    have BA := hide (ba_app [] (Lib.decDigits u.toNat))
    have I1 := hide (fun w h => itoa_any u w (by omega) (by omega) h)
    generalize Lib.decDigits u.toNat = l at *
    obtain ⟨d1, d2⟩ := dl
    go_enter Tryd.func34, Tryd.ntmps34
    go_wp2_with fail
    refine (is_any _ _ _).mono ?_
    rintro e w1 ⟨rfl, k1⟩
    rw [unhide HA]
    obtain ⟨c1, f1⟩ := bcell k1
    go_wp2_with fail
    go_quiet (fail)
    go_wp2_with fail
    have b1 : Below w.heap.size w (w1.drewN nq) := bstep (below1 w _) (below_drewN k1 _)
    have q1 : Below (w.alloc (Obj.cells #[.int .i64 u, .int .i64 0] 23)).heap.size (w.alloc (Obj.cells #[.int .i64 u, .int .i64 0] 23)) (w1.drewN nq) := below_drewN k1 _
    refine (unhide I1 _ (tab_below (unhide HT) b1)).mono ?_
    rintro e w2 ⟨rfl, k2⟩
    clear c1 f1
    go_wp2
    go_ret
    exact ⟨ret_str (by have h := unhide BA; exact h), bstep b1 k2⟩

theorem p10_nat (n : Nat) : p10 n = ((10 ^ n : Nat) : Int) := by
  induction n with
  | zero => rfl
  | succ n ih => rw [p10_succ, ih, Nat.pow_succ]; omega

set_option maxHeartbeats 1600000 in
theorem text_f (m s : Int) (w : World) (ha : isB m s = true) (hs : ¬ s = 0) (ht : Tab w) :
    Calls Tryd.prog 34 #[.agg #[.int .i64 m, .int .i64 s]] w fun e w' => e = .returned (.string ⟨(sgnL m ++ bodyL (absI m) s).toArray⟩) ∧ Below w.heap.size w w' := by
  have ⟨m1, m2, s1, s2⟩ := isB_bd ha
  have HA := hide ha
  have HT := hide ht
  clear ha ht
  have pb := p10_pos s.toNat
  have pb2 := p10_bd (n := s.toNat) (by omega)
  have HPN := hide (p10_nat s.toNat)
  have PW := hide (fun w => power_any s w s1 (by omega))
  generalize hp : p10 s.toNat = p at *
  have HP := hide hp
  clear hp
  by_cases hn : m < 0
  · skip
    obtain ⟨u, rfl⟩ : ∃ u, m = -u := ⟨-m, by omega⟩
    have hu : 0 < u := by omega
    have e1 : sgnL (-u) ++ bodyL (absI (-u)) s = [45] ++ (Lib.decDigits (u / p).toNat ++ ([46] ++ (Lib.repeatL [48] (s - (Lib.decDigits (u % p).toNat).length).toNat ++ Lib.decDigits (u % p).toNat))) := by unfold sgnL absI bodyL; rw [if_pos hn, if_pos hn, if_neg hs, unhide HP, Int.neg_neg]
    rw [e1]
    clear e1
    have r1 := Int.emod_nonneg u (b := p) (by omega)
    have r2 := Int.emod_lt_of_pos u (b := p) (by omega)
    have q2 := Int.ediv_nonneg (a := u) (b := p) (by omega) (by omega)
    have q3 : u / p ≤ 1000000000 := Int.le_trans (Int.ediv_le_self _ (by omega)) (by omega)
    have dl2 := dlen (u / p) (by omega)
    have dl1 : 1 ≤ (Lib.decDigits (u % p).toNat).length ∧ (Lib.decDigits (u % p).toNat).length ≤ s.toNat := by
      refine ⟨(dlen _ (by omega)).1, ?_⟩
      have h := dlen_lt (u % p).toNat (s.toNat - 1) (by
        rw [show s.toNat - 1 + 1 = s.toNat by omega]
        have := unhide HPN
        omega)
      omega
    have BA := hide (app5 [45] (Lib.decDigits (u / p).toNat) (Lib.repeatL [48] (s - (Lib.decDigits (u % p).toNat).length).toNat) (Lib.decDigits (u % p).toNat))
    have RL := Lib.repeatL_length [48] (s - (Lib.decDigits (u % p).toNat).length).toNat
    have RP := fun w => Tryd.strings_Repeat ⟨#[48]⟩ (s - (Lib.decDigits (u % p).toNat).length).toNat w (by omega) (by simp [ByteArray.size]; omega)
    rw [Int.toNat_of_nonneg (by omega)] at RP
    have RPH := hide RP
    have I1 := hide (fun w h => itoa_any (u % p) w r1 (by omega) h)
    have I2 := hide (fun w h => itoa_any (u / p) w q2 (by omega) h)
    clear RP
    generalize (Lib.decDigits (u % p).toNat) = l1 at *
    generalize (Lib.decDigits (u / p).toNat) = l2 at *
    generalize Lib.repeatL [48] (s - l1.length).toNat = lz at *
    obtain ⟨d1, d2⟩ := dl1
    obtain ⟨d3, d4⟩ := dl2
    have d5 : lz.length ≤ 4 := by rw [RL]; simp; omega
    clear RL
    have hs' : (s == 0) = false := by simpa using hs
    go_enter Tryd.func34, Tryd.ntmps34
    go_wp2_with fail
    refine (is_any _ _ _).mono ?_
    rintro e w1 ⟨rfl, k1⟩
    rw [unhide HA]
    obtain ⟨c1, f1⟩ := bcell k1
    go_wp2_with fail
    go_quiet (fail)
    go_wp2_with fail
    have b1 : Below w.heap.size w (w1.drewN nq) := bstep (below1 w _) (below_drewN k1 _)
    have q1 : Below (w.alloc (Obj.cells #[.int .i64 (-u), .int .i64 s] 23)).heap.size (w.alloc (Obj.cells #[.int .i64 (-u), .int .i64 s] 23)) (w1.drewN nq) := below_drewN k1 _
    clear c1 f1
    refine (unhide PW _).mono ?_
    rintro e w2 ⟨rfl, rfl⟩
    obtain ⟨c2, f2⟩ := bcell q1
    go_wp2_with fail
    refine (unhide I1 _ (tab_below (unhide HT) b1)).mono ?_
    rintro e w3 ⟨rfl, k3⟩
    have q3' := bstep q1 k3
    have b3 := bstep b1 k3
    clear c2 f2 q1 b1 k3
    obtain ⟨c3, f3⟩ := bcell q3'
    go_wp2_with fail
    refine (unhide RPH _).mono ?_
    rintro e w4 ⟨rfl, k4⟩
    have b4 := bstep b3 k4
    clear b3 k4 c3 f3 q3'
    go_wp2_with fail
    refine (unhide I2 _ (tab_below (unhide HT) b4)).mono ?_
    rintro e w5 ⟨rfl, k5⟩
    go_wp2
    go_ret
    exact ⟨ret_str (by have h := unhide BA; exact h), bstep b4 k5⟩
  · skip
    obtain ⟨u, hmu⟩ : ∃ u, u = m := ⟨m, rfl⟩
    subst hmu
    have hu : 0 ≤ u := by omega
    have e1 : sgnL u ++ bodyL (absI u) s = [] ++ (Lib.decDigits (u / p).toNat ++ ([46] ++ (Lib.repeatL [48] (s - (Lib.decDigits (u % p).toNat).length).toNat ++ Lib.decDigits (u % p).toNat))) := by unfold sgnL absI bodyL; rw [if_neg hn, if_neg hn, if_neg hs, unhide HP]
    rw [e1]
    clear e1
    have r1 := Int.emod_nonneg u (b := p) (by omega)
    have r2 := Int.emod_lt_of_pos u (b := p) (by omega)
    have q2 := Int.ediv_nonneg (a := u) (b := p) (by omega) (by omega)
    have q3 : u / p ≤ 1000000000 := Int.le_trans (Int.ediv_le_self _ (by omega)) (by omega)
    have dl2 := dlen (u / p) (by omega)
    have dl1 : 1 ≤ (Lib.decDigits (u % p).toNat).length ∧ (Lib.decDigits (u % p).toNat).length ≤ s.toNat := by
      refine ⟨(dlen _ (by omega)).1, ?_⟩
      have h := dlen_lt (u % p).toNat (s.toNat - 1) (by
        rw [show s.toNat - 1 + 1 = s.toNat by omega]
        have := unhide HPN
        omega)
      omega
    have BA := hide (app5 [] (Lib.decDigits (u / p).toNat) (Lib.repeatL [48] (s - (Lib.decDigits (u % p).toNat).length).toNat) (Lib.decDigits (u % p).toNat))
    have RL := Lib.repeatL_length [48] (s - (Lib.decDigits (u % p).toNat).length).toNat
    have RP := fun w => Tryd.strings_Repeat ⟨#[48]⟩ (s - (Lib.decDigits (u % p).toNat).length).toNat w (by omega) (by simp [ByteArray.size]; omega)
    rw [Int.toNat_of_nonneg (by omega)] at RP
    have RPH := hide RP
    have I1 := hide (fun w h => itoa_any (u % p) w r1 (by omega) h)
    have I2 := hide (fun w h => itoa_any (u / p) w q2 (by omega) h)
    clear RP
    generalize (Lib.decDigits (u % p).toNat) = l1 at *
    generalize (Lib.decDigits (u / p).toNat) = l2 at *
    generalize Lib.repeatL [48] (s - l1.length).toNat = lz at *
    obtain ⟨d1, d2⟩ := dl1
    obtain ⟨d3, d4⟩ := dl2
    have d5 : lz.length ≤ 4 := by rw [RL]; simp; omega
    clear RL
    have hs' : (s == 0) = false := by simpa using hs
    go_enter Tryd.func34, Tryd.ntmps34
    go_wp2_with fail
    refine (is_any _ _ _).mono ?_
    rintro e w1 ⟨rfl, k1⟩
    rw [unhide HA]
    obtain ⟨c1, f1⟩ := bcell k1
    go_wp2_with fail
    go_quiet (fail)
    go_wp2_with fail
    have b1 : Below w.heap.size w (w1.drewN nq) := bstep (below1 w _) (below_drewN k1 _)
    have q1 : Below (w.alloc (Obj.cells #[.int .i64 u, .int .i64 s] 23)).heap.size (w.alloc (Obj.cells #[.int .i64 u, .int .i64 s] 23)) (w1.drewN nq) := below_drewN k1 _
    clear c1 f1
    refine (unhide PW _).mono ?_
    rintro e w2 ⟨rfl, rfl⟩
    obtain ⟨c2, f2⟩ := bcell q1
    go_wp2_with fail
    refine (unhide I1 _ (tab_below (unhide HT) b1)).mono ?_
    rintro e w3 ⟨rfl, k3⟩
    have q3' := bstep q1 k3
    have b3 := bstep b1 k3
    clear c2 f2 q1 b1 k3
    obtain ⟨c3, f3⟩ := bcell q3'
    go_wp2_with fail
    refine (unhide RPH _).mono ?_
    rintro e w4 ⟨rfl, k4⟩
    have b4 := bstep b3 k4
    clear b3 k4 c3 f3 q3'
    go_wp2_with fail
    refine (unhide I2 _ (tab_below (unhide HT) b4)).mono ?_
    rintro e w5 ⟨rfl, k5⟩
    go_wp2
    go_ret
    exact ⟨ret_str (by have h := unhide BA; exact h), bstep b4 k5⟩

theorem dtext_any (m s : Int) (w : World) (ha : isB m s = true) (ht : Tab w) :
    Calls Tryd.prog 34 #[.agg #[.int .i64 m, .int .i64 s]] w fun e w' => e = .returned (.string ⟨(sgnL m ++ bodyL (absI m) s).toArray⟩) ∧ Below w.heap.size w w' := by
  by_cases hs : s = 0
  · subst hs; exact text_w m w ha ht
  · exact text_f m s w ha hs ht
end Go.Proofs.YtejnmkhdnhggcaaDoor
