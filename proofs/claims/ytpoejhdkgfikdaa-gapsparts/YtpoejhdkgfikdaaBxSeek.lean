/- seek: the first point in none of the boxes that begins with p and goes on by marks. -/
import Derived.Test.YtpoejhdkgfikdaaBxMarks
namespace Go.Proofs.Ytpoejhdkgfikdaa
open Go.RowKit
set_option linter.unusedVariables false
set_option linter.unusedSimpArgs false

def rw' (Ms : List (List Int)) (i : Nat) : List Int := Ms.getD i []
/- rows of numbers, in a row. -/
def RowsI (Q : Nat → Prop) (w : World) (a : Option Addr) (Ms : List (List Int)) : Prop :=
  ∀ i, i < Ms.length → ∃ bl o v, a = some ⟨bl, o, none⟩ ∧ Q bl ∧ bl < w.heap.size ∧ w.cell? ⟨bl, o + i, none⟩ = some v ∧ RowI Q w v (rw' Ms i)
theorem RowsI.keep {Q Q' : Nat → Prop} {w w' : World} {a : Option Addr} {l : List (List Int)} (hs : w.heap.size ≤ w'.heap.size) (hh : ∀ bl o, bl < w.heap.size → Q bl → w'.cell? ⟨bl, o, none⟩ = w.cell? ⟨bl, o, none⟩) (hq : ∀ g, g < w.heap.size → Q g → Q' g) (h : RowsI Q w a l) : RowsI Q' w' a l := by
  intro i hi
  obtain ⟨bl, o, v, ha, hb, hlt, h1, h3⟩ := h i hi
  exact ⟨bl, o, v, ha, hq _ hlt hb, Nat.lt_of_lt_of_le hlt hs, (hh _ _ hlt hb).trans h1, h3.keep hs hh hq⟩
theorem gr_trans {a b c : World} {r : Option Nat} (h : a.grownBy b r) (k : b.grownBy c r) : a.grownBy c r := ⟨k.os.trans h.os, k.tape.trans h.tape, k.output.trans h.output, Nat.le_trans h.size k.size, fun i hi hn => (k.block i (Nat.lt_of_lt_of_le hi h.size) hn).trans (h.block i hi hn)⟩
theorem gr_below {a b : World} (r : Option Nat) (h : Below a.heap.size a b) : a.grownBy b r := ⟨h.os, h.tape, h.output, h.size, fun i hi _ => h.block i hi⟩
theorem RowsI.gr {g : Nat} {w w' : World} {a : Option Addr} {l : List (List Int)} (h : RowsI (fun x => x ≠ g) w a l) (k : w.grownBy w' (some g)) : RowsI (fun x => x ≠ g) w' a l := h.keep k.size (fun bl o hl hq => World.cell?_of_block (w := w) (k.block bl hl (fun e => hq (Option.some.inj e)))) (fun _ _ h => h)
theorem BxsI.gr {g : Nat} {w w' : World} {a : Option Addr} {l : List Bx} (h : BxsI (fun x => x ≠ g) w a l) (k : w.grownBy w' (some g)) : BxsI (fun x => x ≠ g) w' a l := h.keep k.size (fun bl o hl hq => World.cell?_of_block (w := w) (k.block bl hl (fun e => hq (Option.some.inj e)))) (fun _ _ h => h)
theorem own_prefix {B g cap : Nat} {xs ys : List Int} {w : World} (h : Own1 B w (.slice (some ⟨g, 0, none⟩) (xs ++ ys).length cap) (xs ++ ys)) : Own1 B w (.slice (some ⟨g, 0, none⟩) xs.length cap) xs := by
  refine ⟨by simp, .inr ?_⟩
  rcases h.2 with ⟨e, _⟩ | ⟨g', cap', cur, e, hB, hg, hn, hm, hs, ht⟩
  · cases e
  · injection e with e1 _ e3
    injection e1 with e1
    injection e1 with e1
    subst e1; subst e3
    rw [List.length_append] at hn
    refine ⟨g, cap, cur, rfl, hB, hg, by omega, hm, hs, ?_⟩
    have h2 := congrArg (List.take xs.length) ht
    rw [List.take_take] at h2
    simp only [Nat.mul_one, List.length_append, List.map_append] at h2 ⊢
    rw [Nat.min_eq_left (by omega)] at h2
    rw [h2]
    rw [List.take_append_of_le_length (by simp)]
    exact List.take_of_length_le (by simp)

def Ret (g n : Nat) : Option (List Int) → Ending
  | none => .returned (.tuple #[.slice none 0 0, .bool false])
  | some q => .returned (.tuple #[.slice (some ⟨g, 0, none⟩) n n, .bool true])
def SR (g n B : Nat) (Ms : List (List Int)) (l : List Bx) (p : List Int) (e : Ending) (w' : World) : Prop :=
  ∃ r, LF n (fun i x => x ∈ rw' Ms i) (cov l) p r ∧ e = Ret g n r ∧ Own1 B w' (.slice (some ⟨g, 0, none⟩) (r.getD p).length n) (r.getD p)
theorem LF_len {n : Nat} {W : Nat → Int → Prop} {C : List Int → Prop} {p q : List Int} (h : LF n W C p (some q)) : q.length = n := h.1.1

set_option maxHeartbeats 2000000 in
theorem seek_any (B g n cap capm : Nat) (a am : Option Addr) (l : List Bx) (Ms : List (List Int)) (hn : Ms.length = n) (hl : l.length ≤ 8) (hok : ∀ i, i < l.length → okB (bx l i)) (hn3 : n ≤ 3)
    (hs : ∀ i, i < n → (rw' Ms i).Pairwise (· ≤ ·)) :
    ∀ (k : Nat) (p : List Int) (w : World), p.length + k = n → BxsI (fun x => x ≠ g) w a l → RowsI (fun x => x ≠ g) w am Ms → Own1 B w (.slice (some ⟨g, 0, none⟩) p.length n) p → (∀ i, i < p.length → ix p i ∈ rw' Ms i) →
    Calls Try.prog 20 #[.slice a l.length cap, .slice am n capm, .slice (some ⟨g, 0, none⟩) p.length n] w fun e w' => SR g n B Ms l p e w' ∧ w.grownBy w' (some g) := by
  intro k
  induction k with
  | zero =>
    intro p w hp hB hM own hin
    have hpn : p.length = n := by omega
    have HO := hide (fun w' (k : Below w.heap.size w w') => own_below own k)
    have HH := hide (hole_any (fun x => x ≠ g) a cap l p (.slice (some ⟨g, 0, none⟩) p.length n) w hB (by unfold maxLen; omega) hok (own_row own (by simp) (fun _ _ _ => trivial)).1)
    have R1 : Hid (cov l p → LF n (fun i x => x ∈ rw' Ms i) (cov l) p none) := hide (fun h => LF_none hpn h)
    have R2 : Hid (¬ cov l p → LF n (fun i x => x ∈ rw' Ms i) (cov l) p (some p)) := hide (fun h => LF_some hpn (fun i hi => hin i (by omega)) h)
    have SRH : Hid (∀ (w' : World) r, Below w.heap.size w w' → LF n (fun i x => x ∈ rw' Ms i) (cov l) p r → r.getD p = p → SR g n B Ms l p (Ret g n r) w') := hide (fun w' r hb h1 h2 => ⟨r, h1, rfl, by rw [h2]; exact unhide HO w' hb⟩)
    rw [hpn] at HH ⊢
    clear hB hM own hin HO
    generalize hC : cov l p = C at HH R1 R2
    clear hC
    go_enter Try.func20, Try.ntmps20
    go_wp2_with fail
    refine (unhide HH).mono ?_
    rintro e w2 ⟨h, b2⟩
    unfold HolA at h
    rcases h with ⟨hc, rfl⟩ | ⟨hc, rfl⟩
    · have F := hide (unhide SRH w2 _ b2 (unhide R1 hc) rfl)
      clear SRH R1 R2 HH
      go_wp2_with fail
      go_ret2
      exact ⟨unhide F, gr_below _ b2⟩
    · have F := hide (unhide SRH w2 _ b2 (unhide R2 hc) rfl)
      clear SRH R1 R2 HH
      go_wp2_with fail
      go_ret2
      exact ⟨unhide F, gr_below _ b2⟩
  | succ k ih =>
    intro p w hp hB hM own hin
    have hd : p.length < n := by omega
    obtain ⟨bm, om, v, rfl, hqm, hbm, km, kr⟩ := hM p.length (by omega)
    obtain ⟨a5, c5, rfl⟩ := kr.form
    have m5 := kr.at.2.1
    unfold maxLen at m5
    have zz : ((p.length : Int) == n) = false := by simp; omega
    have SO := hide (hs p.length hd)
    have IH := hide ih
    have HB := hide hB
    have HM := hide hM
    have HI := hide hin
    have HK := hide kr
    clear ih hB hM hin kr hs hok
    go_enter Try.func20, Try.ntmps20
    go_wp2_with fail
    go_loopw [28] (fun i wr => ∃ (j : Nat), j ≤ (rw' Ms p.length).length ∧ i = .int .i64 j ∧ w.grownBy wr (some g) ∧ Hid (Own1 B wr (.slice (some ⟨g, 0, none⟩) p.length n) p) ∧ Hid (gone n (fun i x => x ∈ rw' Ms i) (cov l) p (fun v => ∃ i, i < j ∧ i < (rw' Ms p.length).length ∧ ix (rw' Ms p.length) i = v))) (fun i _ => (rw' Ms p.length).length - (intOf i).toNat)
    case atStart => exact ⟨0, Nat.zero_le _, rfl, World.grownBy.refl _ _, hide own, hide (fun q _ _ ⟨i, hi, _⟩ => absurd hi (Nat.not_lt_zero _))⟩
    case round =>
      obtain ⟨j, hj, rfl, gr, own2, GO⟩ := hrel
      clear own
      by_cases hlt : j < (rw' Ms p.length).length
      · obtain ⟨bl5, o5, rfl, t5, y5⟩ := ((unhide HK).keep gr.size (fun bl o hl hq => World.cell?_of_block (w := w) (gr.block bl hl (fun e => hq (Option.some.inj e)))) (fun _ _ h => h)).at.2.2 j hlt
        have own3 := hide (own_below (unhide own2) (below1 wr (Obj.cells #[.int .i64 (ix (rw' Ms p.length) j)] 3)))
        have hc3 : (wr.alloc (Obj.cells #[.int .i64 (ix (rw' Ms p.length) j)] 3)).cell? ⟨wr.heap.size, 0, none⟩ = some (.int .i64 (ix (rw' Ms p.length) j)) := by go_simp
        have gr3 := gr_trans gr (gr_below (some g) (below1 wr (Obj.cells #[.int .i64 (ix (rw' Ms p.length) j)] 3)))
        have hmem : Hid (ix (rw' Ms p.length) j ∈ rw' Ms p.length) := hide (by rw [ix_get hlt]; exact List.getElem_mem hlt)
        have G1 := hide (fun (h : LF n (fun i x => x ∈ rw' Ms i) (cov l) (p ++ [ix (rw' Ms p.length) j]) none) => (fun q hq hpq ⟨i, hi1, hi2, hi3⟩ => by
          by_cases e : i = j
          · subst e; exact gone_one (unhide GO) h q hq hpq (.inr hi3.symm)
          · exact gone_one (unhide GO) h q hq hpq (.inl ⟨i, by omega, hi2, hi3⟩) : gone n (fun i x => x ∈ rw' Ms i) (cov l) p (fun v => ∃ i, i < j + 1 ∧ i < (rw' Ms p.length).length ∧ ix (rw' Ms p.length) i = v)))
        have G2 := hide (fun q (h : LF n (fun i x => x ∈ rw' Ms i) (cov l) (p ++ [ix (rw' Ms p.length) j]) (some q)) => (LF_found hd (unhide GO) h (fun v hv hlt' => by
          obtain ⟨i, hi, rfl⟩ := List.getElem_of_mem hv
          refine ⟨i, ?_, hi, ix_get hi⟩
          refine Classical.byContradiction fun hc => ?_
          by_cases e : i = j
          · subst e; rw [ix_get hi] at hlt'; omega
          · have := (List.pairwise_iff_getElem.1 (unhide SO)) j i hlt hi (by omega)
            rw [ix_get hlt] at hlt'
            omega) : LF n (fun i x => x ∈ rw' Ms i) (cov l) p (some q)))
        have IHx := hide (fun w' (k : w.grownBy w' (some g)) (o : Own1 B w' (.slice (some ⟨g, 0, none⟩) (p ++ [ix (rw' Ms p.length) j]).length n) (p ++ [ix (rw' Ms p.length) j])) => unhide IH (p ++ [ix (rw' Ms p.length) j]) w' (by simp; omega) ((unhide HB).gr k) ((unhide HM).gr k) o (fun i hi => by
          rw [List.length_append, List.length_singleton] at hi
          by_cases e : i = p.length
          · subst e; rw [ix_last]; exact unhide hmem
          · rw [ix_app (by omega)]; exact unhide HI i (by omega)))
        clear GO SO IH HB HM HI HK hmem own2
        generalize hx : ix (rw' Ms p.length) j = x at *
        clear hx
        simp only [List.length_append, List.length_singleton] at IHx
        obtain ⟨i0, hi0, hz0, hz1, hz2⟩ := info_parts infoInt
        go_wp2_with (at_builtin; go_must (refine wpList_append_fits _ rfl _ _ 23 rfl B 3 i0 1 Try.underlying23 hi0 hz1 g p.length n (p.map (Value.int .i64)) rfl (unhide own3) ⟨wr.heap.size, 0, none⟩ 1 1 [.int .i64 x] rfl rfl ?c1 ?c2 (by omega) ?_))
        case c1 =>
          intro j' u hj'
          match j', hj' with
          | 0, hj' => simp at hj'; subst hj'; simp [Addr.add]
        case c2 => intro u hu; simp at hu; subst hu; rfl
        intro w4 own4 gr4
        have gr5 := gr_trans gr3 gr4
        have own5 : Own1 B w4 (.slice (some ⟨g, 0, none⟩) (p ++ [x]).length n) (p ++ [x]) := by unfold Own1; simpa using own4
        have SK := hide (unhide IHx w4 gr5 (by simpa using own5))
        clear own3 own4 own5 gr3 gr4 IHx hc3
        go_wp2_with fail
        refine (unhide SK).mono ?_
        rintro e w6 ⟨⟨r, hr, rfl, own6⟩, gr6⟩
        have gr7 := gr_trans gr5 gr6
        cases r with
        | none =>
          have G := hide (unhide G1 hr)
          have own7 := hide (own_prefix own6)
          clear G1 G2 SK own6 hr gr5 gr6
          unfold Ret
          go_wp2_with fail
          go_roundw
          case rel => exact ⟨j + 1, by omega, by go_num, gr7, own7, G⟩
          case measure => simp [intOf]; omega
        | some q =>
          have F : Hid (SR g n B Ms l p (Ret g n (some q)) w6) := hide ⟨some q, unhide G2 q hr, rfl, own6⟩
          clear G1 G2 SK own6 hr gr5 gr6
          unfold Ret at F ⊢
          go_wp2_with fail
          go_ret2
          exact ⟨unhide F, gr7⟩
      · have F : Hid (SR g n B Ms l p (Ret g n none) wr) := hide ⟨none, LF_end hd (unhide GO) (fun v hv => by
          obtain ⟨i, hi, rfl⟩ := List.getElem_of_mem hv
          exact ⟨i, by omega, hi, ix_get hi⟩), rfl, unhide own2⟩
        clear GO SO IH HB HM HI HK own2
        unfold Ret at F
        go_wp2_with fail
        go_ret2
        exact ⟨unhide F, gr⟩
end Go.Proofs.Ytpoejhdkgfikdaa
