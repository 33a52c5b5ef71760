/- The contracts of lex's Word and of the document's. -/
import Derived.Test.YtlcckhlkmnnjdaaDoorLPre
import Derived.Deep.AppendLies
namespace Go.Proofs.YtlcckhlkmnnjdaaDoor
open Go.RowKit
set_option linter.unusedVariables false

def sV (l : List UInt8) : Value := .string ⟨l.toArray⟩
theorem row_strs (w : World) (gs : List (List UInt8)) (t : TypeId) (j : Nat) : (w.alloc (.cells (gs.map sV).toArray t)).cell? ⟨w.heap.size, j, none⟩ = (gs[j]?).map sV := by
  rw [cell_of_row _ _ j _ _ _ (heap_alloc_new w _)]
  simp
theorem wordB_eq (t : List UInt8) : wordB t = ((t == [116, 114, 117, 101]) || ((t == [102, 97, 108, 115, 101]) || ((t == [110, 117, 108, 108]) || ((t == [105, 102]) || ((t == [116, 104, 101, 110]) || ((t == [101, 108, 115, 101]) || ((t == [97, 110, 100]) || ((t == [111, 114]) || ((t == [105, 110]) || false))))))))) := rfl

set_option maxHeartbeats 1600000 in
theorem word_any (t : List UInt8) (w : World) (ht : t.length ≤ 1000) :
    Calls Tryd.prog 12 #[.string ⟨t.toArray⟩] w fun e w' => e = .returned (.bool (wordB t)) ∧ w' = w := by
  generalize hR : wordB t = R
  have HR := hide hR
  clear hR
  cases h0 : (t == [116, 114, 117, 101])
  case true =>
    have HE := hide (show true = R by rw [← unhide HR, wordB_eq, h0]; rfl)
    go_enter Tryd.func12, Tryd.ntmps12
    go_wp2
    go_ret
    exact ⟨ret_bool (unhide HE), rfl⟩
  cases h1 : (t == [102, 97, 108, 115, 101])
  case true =>
    have HE := hide (show true = R by rw [← unhide HR, wordB_eq, h0, h1]; rfl)
    go_enter Tryd.func12, Tryd.ntmps12
    go_wp2
    go_ret
    exact ⟨ret_bool (unhide HE), rfl⟩
  cases h2 : (t == [110, 117, 108, 108])
  case true =>
    have HE := hide (show true = R by rw [← unhide HR, wordB_eq, h0, h1, h2]; rfl)
    go_enter Tryd.func12, Tryd.ntmps12
    go_wp2
    go_ret
    exact ⟨ret_bool (unhide HE), rfl⟩
  cases h3 : (t == [105, 102])
  case true =>
    have HE := hide (show true = R by rw [← unhide HR, wordB_eq, h0, h1, h2, h3]; rfl)
    go_enter Tryd.func12, Tryd.ntmps12
    go_wp2
    go_ret
    exact ⟨ret_bool (unhide HE), rfl⟩
  cases h4 : (t == [116, 104, 101, 110])
  case true =>
    have HE := hide (show true = R by rw [← unhide HR, wordB_eq, h0, h1, h2, h3, h4]; rfl)
    go_enter Tryd.func12, Tryd.ntmps12
    go_wp2
    go_ret
    exact ⟨ret_bool (unhide HE), rfl⟩
  cases h5 : (t == [101, 108, 115, 101])
  case true =>
    have HE := hide (show true = R by rw [← unhide HR, wordB_eq, h0, h1, h2, h3, h4, h5]; rfl)
    go_enter Tryd.func12, Tryd.ntmps12
    go_wp2
    go_ret
    exact ⟨ret_bool (unhide HE), rfl⟩
  cases h6 : (t == [97, 110, 100])
  case true =>
    have HE := hide (show true = R by rw [← unhide HR, wordB_eq, h0, h1, h2, h3, h4, h5, h6]; rfl)
    go_enter Tryd.func12, Tryd.ntmps12
    go_wp2
    go_ret
    exact ⟨ret_bool (unhide HE), rfl⟩
  cases h7 : (t == [111, 114])
  case true =>
    have HE := hide (show true = R by rw [← unhide HR, wordB_eq, h0, h1, h2, h3, h4, h5, h6, h7]; rfl)
    go_enter Tryd.func12, Tryd.ntmps12
    go_wp2
    go_ret
    exact ⟨ret_bool (unhide HE), rfl⟩
  cases h8 : (t == [105, 110])
  case true =>
    have HE := hide (show true = R by rw [← unhide HR, wordB_eq, h0, h1, h2, h3, h4, h5, h6, h7, h8]; rfl)
    go_enter Tryd.func12, Tryd.ntmps12
    go_wp2
    go_ret
    exact ⟨ret_bool (unhide HE), rfl⟩
  have HE := hide (show false = R by rw [← unhide HR, wordB_eq, h0, h1, h2, h3, h4, h5, h6, h7, h8]; rfl)
  go_enter Tryd.func12, Tryd.ntmps12
  go_wp2
  go_ret
  exact ⟨ret_bool (unhide HE), rfl⟩

theorem word_step {t : List UInt8} {k : Nat} (h : k < 9) : ((wds.drop k).any fun x => t == x) = ((t == wds.getD k []) || ((wds.drop (k + 1)).any fun x => t == x)) := by
  rw [List.drop_eq_getElem_cons (show k < wds.length from h), List.any_cons]
  simp [show k < wds.length from h]
theorem wds_len {k : Nat} : (wds.getD k []).length ≤ 5 := by
  by_cases h : k < 9
  · match k, h with
    | 0, _ | 1, _ | 2, _ | 3, _ | 4, _ | 5, _ | 6, _ | 7, _ | 8, _ => decide
  · rw [List.getD_eq_getElem?_getD, List.getElem?_eq_none (show wds.length ≤ k from Nat.le_of_not_lt h)]; decide

set_option maxHeartbeats 1600000 in
theorem rword_any (t : List UInt8) (w : World) (ht : t.length ≤ 1000) :
    Calls Tryd.prog 13 #[.string ⟨t.toArray⟩] w fun e w' => e = .returned (.bool (wordB t)) ∧ Below w.heap.size w w' := by
  have row : ∀ k, k < 9 → (w.alloc (.cells #[.string ⟨#[116, 114, 117, 101]⟩, .string ⟨#[102, 97, 108, 115, 101]⟩, .string ⟨#[110, 117, 108, 108]⟩, .string ⟨#[105, 102]⟩, .string ⟨#[116, 104, 101, 110]⟩, .string ⟨#[101, 108, 115, 101]⟩, .string ⟨#[97, 110, 100]⟩, .string ⟨#[111, 114]⟩, .string ⟨#[105, 110]⟩] 9)).cell? ⟨w.heap.size, k, none⟩ = some (.string ⟨(wds.getD k []).toArray⟩) := by
    intro k hk
    have h := row_strs w wds 9 k
    rw [List.getElem?_eq_getElem (show k < wds.length from hk)] at h
    have e : wds.getD k [] = wds[k]'(show k < wds.length from hk) := by simp [show k < wds.length from hk]
    rw [e]
    exact h
  have bel := below1 w (.cells #[.string ⟨#[116, 114, 117, 101]⟩, .string ⟨#[102, 97, 108, 115, 101]⟩, .string ⟨#[110, 117, 108, 108]⟩, .string ⟨#[105, 102]⟩, .string ⟨#[116, 104, 101, 110]⟩, .string ⟨#[101, 108, 115, 101]⟩, .string ⟨#[97, 110, 100]⟩, .string ⟨#[111, 114]⟩, .string ⟨#[105, 110]⟩] 9)
  have hsz : w.heap.size < (w.alloc (.cells #[.string ⟨#[116, 114, 117, 101]⟩, .string ⟨#[102, 97, 108, 115, 101]⟩, .string ⟨#[110, 117, 108, 108]⟩, .string ⟨#[105, 102]⟩, .string ⟨#[116, 104, 101, 110]⟩, .string ⟨#[101, 108, 115, 101]⟩, .string ⟨#[97, 110, 100]⟩, .string ⟨#[111, 114]⟩, .string ⟨#[105, 110]⟩] 9)).heap.size := by simp
  generalize hR : wordB t = R
  have HR := hide hR
  clear hR
  go_enter Tryd.func13, Tryd.ntmps13
  go_wp2_with fail
  generalize w.alloc (.cells #[.string ⟨#[116, 114, 117, 101]⟩, .string ⟨#[102, 97, 108, 115, 101]⟩, .string ⟨#[110, 117, 108, 108]⟩, .string ⟨#[105, 102]⟩, .string ⟨#[116, 104, 101, 110]⟩, .string ⟨#[101, 108, 115, 101]⟩, .string ⟨#[97, 110, 100]⟩, .string ⟨#[111, 114]⟩, .string ⟨#[105, 110]⟩] 9) = W at *
  have ROW := hide row
  have BEL := hide bel
  clear row bel
  go_loop [4] (fun i => ∃ k : Nat, k ≤ 9 ∧ i = .int .i64 k ∧ Hid (((wds.drop k).any fun x => t == x) = R)) (fun i => 9 - (intOf i).toNat)
  case atStart => exact ⟨0, by omega, rfl, HR⟩
  case round =>
    clear HR
    obtain ⟨k, hk, rfl, HR⟩ := hrel
    by_cases hlt : k < 9
    · have row := unhide ROW k hlt
      have ST := hide (word_step (t := t) hlt)
      have hz := wds_len (k := k)
      generalize wds.getD k [] = g at *
      cases hg : (g == t)
      · have HE := hide (show ((wds.drop (k + 1)).any fun x => t == x) = R by rw [← unhide HR, unhide ST, BEq.comm, hg]; rfl)
        go_wp2_with fail
        go_round
        case rel => exact ⟨k + 1, by omega, by go_num, HE⟩
        case measure => simp [intOf]; omega
      · have HE := hide (show true = R by rw [← unhide HR, unhide ST, BEq.comm, hg]; rfl)
        go_wp2_with fail
        go_ret
        exact ⟨ret_bool (unhide HE), unhide BEL⟩
    · have HE := hide (show false = R by rw [← unhide HR, show k = 9 by omega]; rfl)
      go_wp2_with fail
      go_ret
      exact ⟨ret_bool (unhide HE), unhide BEL⟩
end Go.Proofs.YtlcckhlkmnnjdaaDoor
