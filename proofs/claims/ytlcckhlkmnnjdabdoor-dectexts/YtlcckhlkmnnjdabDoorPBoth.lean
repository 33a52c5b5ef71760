/- dec's Parse and the document's answer alike at every text. -/
import Derived.Test.YtlcckhlkmnnjdabDoorRParse2
namespace Go.Proofs.YtlcckhlkmnnjdabDoor
open Go.RowKit
set_option linter.unusedVariables false

/- what Parse answers. -/
def PA (f : Nat) (l : List UInt8) (M S E : Int) : Prop := ∀ w : World, Calls Tryd.prog f #[.string ⟨l.toArray⟩] w fun e w' => e = .returned (.tuple #[.agg #[.int .i64 M, .int .i64 S], .int .i64 E]) ∧ Below w.heap.size w w'
def CP (l r : List UInt8) (neg : Bool) : Prop := ∀ w : World, Calls Tryd.prog 10 #[.string ⟨l.toArray⟩, .string ⟨#[45]⟩] w fun e w' => e = .returned (.tuple #[.string ⟨r.toArray⟩, .bool neg]) ∧ w' = w
theorem dp_bad {l r : List UInt8} {neg : Bool} (hc : CP l r neg) (hr : r.length ≤ 1000) (h : Bad r) : PA 4 l 0 0 2 := by
  intro w
  rcases idx_facts r 46 with e | ⟨k, e, hk⟩
  · exact parse_bad1 l r r [] neg false w ⟨hc, fun w => cut_no r w hr e⟩ hr (by simp) (bad_whole h)
  · obtain ⟨hk', h46⟩ := idx_at r k e
    have hp : ParsePre l r (r.take k) (r.drop (k + 1)) neg true := ⟨hc, fun w => cut_yes r k w hr e hk⟩
    have l1 : (r.take k).length ≤ 1000 := by rw [List.length_take]; omega
    have l2 : (r.drop (k + 1)).length ≤ 1000 := by rw [List.length_drop]; omega
    rcases bad_both h hk h46 with h1 | ⟨h1, h2⟩
    · exact parse_bad1 l r _ _ neg true w hp l1 l2 h1
    · exact parse_bad2 l r _ _ neg w hp l1 l2 h1 h2
theorem dp_w {l r : List UInt8} {neg : Bool} (hc : CP l r neg) (hr : r.length ≤ 1000) (ha : r.all isDig = true) (la : 1 ≤ r.length) : (18 < r.length → PA 4 l 0 0 3) ∧
    (r.length ≤ 18 → PA 4 l (fitM (if neg = true then -(num r) else num r) 0) (fitS (if neg = true then -(num r) else num r) 0) (fitE (if neg = true then -(num r) else num r) 0)) := by
  have hp : ParsePre l r r [] neg false := ⟨hc, fun w => cut_no r w hr (idx_dig ha)⟩
  have hd := digs_mk ha la
  constructor
  · intro h w
    exact parse_over l r r [] neg false w hp hr (by simp) hd (fun h => by cases h) (Or.inl (by simpa using h))
  · intro h w
    have q := parse_ok l r r [] neg false w hp hd (fun h => by cases h) rfl (by simpa using h) (by simp)
    have e : parseM r [] neg = if neg = true then -(num r) else num r := by
      unfold parseM
      simp [num, p10]
    rw [e] at q
    exact q
theorem dp_f {l r : List UInt8} {neg : Bool} (hc : CP l r neg) (hr : r.length ≤ 1000) (a b : List UInt8) (hrr : r = a ++ 46 :: b) (ha : a.all isDig = true) (hb : b.all isDig = true) (la : 1 ≤ a.length) (lb : 1 ≤ b.length) :
    (18 < a.length + b.length ∨ 8 < b.length → PA 4 l 0 0 3) ∧
    (a.length + b.length ≤ 18 → b.length ≤ 8 → PA 4 l (fitM (if neg = true then -(num (a ++ b)) else num (a ++ b)) b.length) (fitS (if neg = true then -(num (a ++ b)) else num (a ++ b)) b.length) (fitE (if neg = true then -(num (a ++ b)) else num (a ++ b)) b.length)) := by
  have hk : a.length < r.length := by rw [hrr]; simp
  have hp0 := fun w => cut_yes r a.length w hr (by rw [hrr]; exact idx_app ha b) hk
  have e1 : r.take a.length = a := by rw [hrr]; simp
  have e2 : r.drop (a.length + 1) = b := by rw [hrr, ← List.drop_drop]; simp
  rw [e1, e2] at hp0
  have hp : ParsePre l r a b neg true := ⟨hc, hp0⟩
  have hl : r.length = a.length + 1 + b.length := by rw [hrr]; simp; omega
  constructor
  · intro h w
    exact parse_over l r a b neg true w hp (by omega) (by omega) (digs_mk ha la) (fun _ => digs_mk hb lb) h
  · intro h1 h2 w
    have q := parse_ok l r a b neg true w hp (digs_mk ha la) (fun _ => digs_mk hb lb) hb h1 h2
    have e : parseM a b neg = if neg = true then -(num (a ++ b)) else num (a ++ b) := by
      unfold parseM
      rw [num_app]
    rw [e] at q
    exact q
theorem both_parse (l : List UInt8) (hl : l.length ≤ 1000) : ∃ M S E : Int, PA 4 l M S E ∧ PA 5 l M S E := by
  cases hl0 : l with
  | nil =>
    refine ⟨0, 0, 2, ?_, fun w => rparse_nil w⟩
    exact dp_bad (r := []) (neg := false) (fun w => cutp_nil w) (by simp) (Or.inl rfl)
  | cons c t =>
    rw [← hl0]
    have h0 : 0 < l.length := by rw [hl0]; simp
    have hg : l[0] = c := by simp [hl0]
    by_cases h45 : c.toNat = 45
    · have hc45 : c = 45 := UInt8.toNat.inj (by rw [h45]; rfl)
      have hdr : l.drop 1 = t := by rw [hl0]; rfl
      have hcp : CP l (l.drop 1) true := by
        rw [hdr, hl0, hc45]
        exact fun w => cutp_yes t w (by rw [hl0] at hl; simp at hl; omega)
      have hrl : (l.drop 1).length ≤ 1000 := by rw [List.length_drop]; omega
      have g45 : l[0].toNat = 45 := by rw [hg]; exact h45
      rcases shapes (l.drop 1) with hb | ⟨ha, la⟩ | ⟨a, b, hr, ha, hb, la, lb⟩
      · exact ⟨0, 0, 2, dp_bad hcp hrl hb, fun w => rparse_bad_neg l w hl h0 g45 hb⟩
      · by_cases h18 : 18 < (l.drop 1).length
        · exact ⟨0, 0, 3, (dp_w hcp hrl ha la).1 h18, fun w => rparse_over_negw l w hl h0 g45 ha la h18⟩
        · exact ⟨_, _, _, (dp_w hcp hrl ha la).2 (by omega), fun w => rparse_ok_negw l w hl h0 g45 ha la (by omega)⟩
      · by_cases ho : 18 < a.length + b.length ∨ 8 < b.length
        · exact ⟨0, 0, 3, (dp_f hcp hrl a b hr ha hb la lb).1 ho, fun w => rparse_over_negf l w hl h0 g45 a b hr ha hb la lb ho⟩
        · exact ⟨_, _, _, (dp_f hcp hrl a b hr ha hb la lb).2 (by omega) (by omega), fun w => rparse_ok_negf l w hl h0 g45 a b hr ha hb la lb (by omega) (by omega)⟩
    · have hcp : CP l (l.drop 0) false := by
        rw [List.drop_zero, hl0]
        exact fun w => cutp_no c t w (by rw [hl0] at hl; simp at hl; omega) (fun e => h45 (by rw [e]; rfl))
      have hrl : (l.drop 0).length ≤ 1000 := by rw [List.length_drop]; omega
      have g45 : l[0].toNat ≠ 45 := by rw [hg]; exact h45
      rcases shapes (l.drop 0) with hb | ⟨ha, la⟩ | ⟨a, b, hr, ha, hb, la, lb⟩
      · exact ⟨0, 0, 2, dp_bad hcp hrl hb, fun w => rparse_bad_pos l w hl h0 g45 hb⟩
      · by_cases h18 : 18 < (l.drop 0).length
        · exact ⟨0, 0, 3, (dp_w hcp hrl ha la).1 h18, fun w => rparse_over_posw l w hl h0 g45 ha la h18⟩
        · exact ⟨_, _, _, (dp_w hcp hrl ha la).2 (by omega), fun w => rparse_ok_posw l w hl h0 g45 ha la (by omega)⟩
      · by_cases ho : 18 < a.length + b.length ∨ 8 < b.length
        · exact ⟨0, 0, 3, (dp_f hcp hrl a b hr ha hb la lb).1 ho, fun w => rparse_over_posf l w hl h0 g45 a b hr ha hb la lb ho⟩
        · exact ⟨_, _, _, (dp_f hcp hrl a b hr ha hb la lb).2 (by omega) (by omega), fun w => rparse_ok_posf l w hl h0 g45 a b hr ha hb la lb (by omega) (by omega)⟩
end Go.Proofs.YtlcckhlkmnnjdabDoor
