/- The mathematics of tokens: where they stand. -/
import Derived.Test.YtlcckhlkmnnjdaaDoorLMath
namespace Go.Proofs.YtlcckhlkmnnjdaaDoor
set_option linter.unusedVariables false

/- where a token's text begins. -/
def tp (t : Tk) : Nat := t.2.2 + (if t.1 = 3 then 1 else 0)
/- each stands behind the ones ahead, and is what stands there. -/
def Pl (l : List UInt8) : Nat → List Tk → Prop
  | _, [] => True
  | a, t :: ts => a ≤ t.2.2 ∧ tp t + t.2.1.length ≤ l.length ∧ (l.drop (tp t)).take t.2.1.length = t.2.1 ∧ Pl l (tp t + t.2.1.length) ts
theorem Pl.mono {l : List UInt8} {a b : Nat} {ts : List Tk} (h : Pl l a ts) (hb : b ≤ a) : Pl l b ts := by
  cases ts with
  | nil => trivial
  | cons t ts => exact ⟨by have := h.1; omega, h.2⟩
theorem Pl.at {l : List UInt8} : ∀ {ts : List Tk} {a : Nat} (k : Nat) (hk : k < ts.length), Pl l a (ts.drop k) → a ≤ ts[k].2.2 ∧ tp ts[k] + ts[k].2.1.length ≤ l.length ∧ (l.drop (tp ts[k])).take ts[k].2.1.length = ts[k].2.1 ∧ Pl l (tp ts[k] + ts[k].2.1.length) (ts.drop (k + 1)) := by
  intro ts a k hk h
  rw [List.drop_eq_getElem_cons hk] at h
  exact h

theorem tokT_at (l : List UInt8) (a : Nat) (h : a < l.length) (hk : tokK (l.drop a) ≠ 0) :
    tp (tokK (l.drop a), tokT (l.drop a), a) + (tokT (l.drop a)).length ≤ a + tokN (l.drop a) ∧ (l.drop (tp (tokK (l.drop a), tokT (l.drop a), a))).take (tokT (l.drop a)).length = tokT (l.drop a) := by
  obtain ⟨b1, b2, b3, b4⟩ := tokN_bd (l.drop a)
  unfold tokT saidL tp
  by_cases h3 : tokK (l.drop a) = 3
  · have b5 := b3 h3
    simp only [h3, if_true]
    have e : ((l.drop a).take (tokN (l.drop a))).length = tokN (l.drop a) := by rw [List.length_take]; omega
    rw [e, List.drop_take, List.take_take, Nat.min_eq_left (by omega), List.drop_drop]
    have e2 : ((l.drop (a + 1)).take (tokN (l.drop a) - 1 - 1)).length = tokN (l.drop a) - 1 - 1 := by
      rw [List.length_take]
      simp only [List.length_drop] at b1 ⊢
      omega
    rw [e2]
    exact ⟨by omega, rfl⟩
  · simp only [h3, if_false, Nat.add_zero]
    have e : ((l.drop a).take (tokN (l.drop a))).length = tokN (l.drop a) := by rw [List.length_take]; omega
    rw [e]
    exact ⟨Nat.le_refl _, rfl⟩

theorem lexS_pl (l : List UInt8) : ∀ m a n, l.length - a = m → a ≤ l.length →
    Pl l a (lexS (l.drop a) 0 a n).1 ∧ ((lexS (l.drop a) 0 a n).2.2 = 0 → (lexS (l.drop a) 0 a n).2.1 = l.length) ∧ (lexS (l.drop a) 0 a n).2.1 ≤ l.length := by
  intro m
  induction m using Nat.strongRecOn with
  | _ m ih =>
    intro a n hm ha
    by_cases hlt : a < l.length
    · cases hb : blB l[a] with
      | true =>
        rw [lex_blank hlt hb]
        obtain ⟨h1, h2, h3⟩ := ih (l.length - (a + 1)) (by omega) (a + 1) n rfl hlt
        exact ⟨h1.mono (by omega), h2, h3⟩
      | false =>
        by_cases he : tokE (l.drop a) n = 0
        · have hk := tokE_kind he
          have hn := (tokN_bd (l.drop a)).2.1 hk
          have hle := tokN_le (l.drop a)
          rw [List.length_drop] at hle
          obtain ⟨h1, h2, h3⟩ := ih (l.length - (a + tokN (l.drop a))) (by omega) (a + tokN (l.drop a)) (n + 1) rfl (by omega)
          obtain ⟨t1, t2⟩ := tokT_at l a hlt hk
          rw [lex_tok hlt hb he]
          unfold consR
          by_cases hx : (lexS (l.drop (a + tokN (l.drop a))) 0 (a + tokN (l.drop a)) (n + 1)).2.2 = 0
          · rw [if_pos hx]
            exact ⟨⟨Nat.le_refl _, Nat.le_trans t1 (by omega), t2, h1.mono t1⟩, h2, h3⟩
          · rw [if_neg hx]
            exact ⟨trivial, fun h => absurd h hx, h3⟩
        · rw [lex_err hlt hb he]
          exact ⟨trivial, fun h => absurd h he, ha⟩
    · rw [lex_end (by omega)]
      exact ⟨trivial, fun _ => by show a = l.length; omega, ha⟩
theorem lexT_pl (l : List UInt8) (h : l.length ≤ 200) : Pl l 0 (lexT l).1 ∧ ((lexT l).2.2 = 0 → (lexT l).2.1 = l.length) ∧ (lexT l).2.1 ≤ l.length := by
  have := lexS_pl l _ 0 0 rfl (Nat.zero_le _)
  unfold lexT
  rw [if_neg (by omega)]
  exact this
theorem lexT_none (l : List UInt8) (h : (lexT l).2.2 ≠ 0) : (lexT l).1 = [] := by
  unfold lexT at h ⊢
  split
  · rfl
  · rename_i hn
    rw [if_neg hn] at h
    exact lexS_none l 0 0 0 h
end Go.Proofs.YtlcckhlkmnnjdaaDoor
