/- The contract of dec's Parse, over whatever its text is cut into. -/
import Derived.Test.YtlcckhlkmnnjdabDoorIs
import Derived.Test.YtlcckhlkmnnjdabDoorStrs
namespace Go.Proofs.YtlcckhlkmnnjdabDoor
open Go.RowKit

def ParsePre (l r a b : List UInt8) (neg p : Bool) : Prop :=
  (∀ w, Calls Tryd.prog 10 #[.string ⟨l.toArray⟩, .string ⟨#[45]⟩] w fun e w' => e = .returned (.tuple #[.string ⟨r.toArray⟩, .bool neg]) ∧ w' = w) ∧
  (∀ w, Calls Tryd.prog 11 #[.string ⟨r.toArray⟩, .string ⟨#[46]⟩] w fun e w' => e = .returned (.tuple #[.string ⟨a.toArray⟩, .string ⟨b.toArray⟩, .bool p]) ∧ Below w.heap.size w w')

set_option maxHeartbeats 800000 in
theorem parse_bad1 (l r a b : List UInt8) (neg p : Bool) (w : World) (hp : ParsePre l r a b neg p) (la : a.length ≤ 1000) (_ : b.length ≤ 1000) (ha : digs a = false) :
    Calls Tryd.prog 4 #[.string ⟨l.toArray⟩] w fun e w' => e = .returned (.tuple #[.agg #[.int .i64 0, .int .i64 0], .int .i64 2]) ∧ Below w.heap.size w w' := by
  have HA := hide ha
  clear ha
  go_enter Tryd.func4, Tryd.ntmps4
  go_wp2_with fail
  refine (hp.1 _).mono ?_
  rintro e w' ⟨rfl, rfl⟩
  go_wp2_with fail
  refine (hp.2 _).mono ?_
  rintro e w1 ⟨rfl, b1⟩
  obtain ⟨c1, f1⟩ := bcell b1
  have z1 : w.heap.size < w1.heap.size := by have := b1.size; simp at this; omega
  go_wp2_with fail
  refine (digs_any a _ la).mono ?_
  rintro e w' ⟨rfl, rfl⟩
  rw [unhide HA]
  go_wp2
  refine bodyPost_ret (v := .tuple #[.agg #[.int .i64 0, .int .i64 0], .int .i64 2]) (by simp [results, Tryd.results4, go_sem, c1]) rfl ⟨rfl, ?_⟩
  exact ((bstep (below1 w _) b1).setCell (by simp) _).setCell (by simp) _

set_option maxHeartbeats 800000 in
theorem parse_bad2 (l r a b : List UInt8) (neg : Bool) (w : World) (hp : ParsePre l r a b neg true) (la : a.length ≤ 1000) (lb : b.length ≤ 1000) (ha : digs a = true) (hb : digs b = false) :
    Calls Tryd.prog 4 #[.string ⟨l.toArray⟩] w fun e w' => e = .returned (.tuple #[.agg #[.int .i64 0, .int .i64 0], .int .i64 2]) ∧ Below w.heap.size w w' := by
  have HA := hide ha
  have HB := hide hb
  clear ha hb
  go_enter Tryd.func4, Tryd.ntmps4
  go_wp2_with fail
  refine (hp.1 _).mono ?_
  rintro e w' ⟨rfl, rfl⟩
  go_wp2_with fail
  refine (hp.2 _).mono ?_
  rintro e w1 ⟨rfl, b1⟩
  obtain ⟨c1, f1⟩ := bcell b1
  have z1 : w.heap.size < w1.heap.size := by have := b1.size; simp at this; omega
  go_wp2_with fail
  refine (digs_any a _ la).mono ?_
  rintro e w' ⟨rfl, rfl⟩
  rw [unhide HA]
  go_wp2_with fail
  refine (digs_any b _ lb).mono ?_
  rintro e w' ⟨rfl, rfl⟩
  rw [unhide HB]
  go_wp2
  refine bodyPost_ret (v := .tuple #[.agg #[.int .i64 0, .int .i64 0], .int .i64 2]) (by simp [results, Tryd.results4, go_sem, c1]) rfl ⟨rfl, ?_⟩
  exact ((bstep (below1 w _) b1).setCell (by simp) _).setCell (by simp) _

set_option maxHeartbeats 800000 in
theorem parse_over (l r a b : List UInt8) (neg p : Bool) (w : World) (hp : ParsePre l r a b neg p) (la : a.length ≤ 1000) (lb : b.length ≤ 1000) (ha : digs a = true) (hb : p = true → digs b = true) (ho : 18 < a.length + b.length ∨ 8 < b.length) :
    Calls Tryd.prog 4 #[.string ⟨l.toArray⟩] w fun e w' => e = .returned (.tuple #[.agg #[.int .i64 0, .int .i64 0], .int .i64 3]) ∧ Below w.heap.size w w' := by
  have HA := hide ha
  have HB0 := hide hb
  clear ha hb
  by_cases h18 : 18 < (a.length : Int) + b.length
  · clear ho
    cases p
    · go_enter Tryd.func4, Tryd.ntmps4
      go_wp2_with fail
      refine (hp.1 _).mono ?_
      rintro e w' ⟨rfl, rfl⟩
      go_wp2_with fail
      refine (hp.2 _).mono ?_
      rintro e w1 ⟨rfl, b1⟩
      obtain ⟨c1, f1⟩ := bcell b1
      have z1 : w.heap.size < w1.heap.size := by have := b1.size; simp at this; omega
      go_wp2_with fail
      refine (digs_any a _ la).mono ?_
      rintro e w' ⟨rfl, rfl⟩
      rw [unhide HA]
      go_wp2
      refine bodyPost_ret (v := .tuple #[.agg #[.int .i64 0, .int .i64 0], .int .i64 3]) (by simp [results, Tryd.results4, go_sem, c1]) rfl ⟨rfl, ?_⟩
      exact ((bstep (below1 w _) b1).setCell (by simp) _).setCell (by simp) _
    · have HB := hide (unhide HB0 rfl)
      go_enter Tryd.func4, Tryd.ntmps4
      go_wp2_with fail
      refine (hp.1 _).mono ?_
      rintro e w' ⟨rfl, rfl⟩
      go_wp2_with fail
      refine (hp.2 _).mono ?_
      rintro e w1 ⟨rfl, b1⟩
      obtain ⟨c1, f1⟩ := bcell b1
      have z1 : w.heap.size < w1.heap.size := by have := b1.size; simp at this; omega
      go_wp2_with fail
      refine (digs_any a _ la).mono ?_
      rintro e w' ⟨rfl, rfl⟩
      rw [unhide HA]
      go_wp2_with fail
      refine (digs_any b _ lb).mono ?_
      rintro e w' ⟨rfl, rfl⟩
      rw [unhide HB]
      go_wp2
      refine bodyPost_ret (v := .tuple #[.agg #[.int .i64 0, .int .i64 0], .int .i64 3]) (by simp [results, Tryd.results4, go_sem, c1]) rfl ⟨rfl, ?_⟩
      exact ((bstep (below1 w _) b1).setCell (by simp) _).setCell (by simp) _
  · have h8 : 8 < (b.length : Int) := by omega
    clear ho
    cases p
    · go_enter Tryd.func4, Tryd.ntmps4
      go_wp2_with fail
      refine (hp.1 _).mono ?_
      rintro e w' ⟨rfl, rfl⟩
      go_wp2_with fail
      refine (hp.2 _).mono ?_
      rintro e w1 ⟨rfl, b1⟩
      obtain ⟨c1, f1⟩ := bcell b1
      have z1 : w.heap.size < w1.heap.size := by have := b1.size; simp at this; omega
      go_wp2_with fail
      refine (digs_any a _ la).mono ?_
      rintro e w' ⟨rfl, rfl⟩
      rw [unhide HA]
      go_wp2
      refine bodyPost_ret (v := .tuple #[.agg #[.int .i64 0, .int .i64 0], .int .i64 3]) (by simp [results, Tryd.results4, go_sem, c1]) rfl ⟨rfl, ?_⟩
      exact ((bstep (below1 w _) b1).setCell (by simp) _).setCell (by simp) _
    · have HB := hide (unhide HB0 rfl)
      go_enter Tryd.func4, Tryd.ntmps4
      go_wp2_with fail
      refine (hp.1 _).mono ?_
      rintro e w' ⟨rfl, rfl⟩
      go_wp2_with fail
      refine (hp.2 _).mono ?_
      rintro e w1 ⟨rfl, b1⟩
      obtain ⟨c1, f1⟩ := bcell b1
      have z1 : w.heap.size < w1.heap.size := by have := b1.size; simp at this; omega
      go_wp2_with fail
      refine (digs_any a _ la).mono ?_
      rintro e w' ⟨rfl, rfl⟩
      rw [unhide HA]
      go_wp2_with fail
      refine (digs_any b _ lb).mono ?_
      rintro e w' ⟨rfl, rfl⟩
      rw [unhide HB]
      go_wp2
      refine bodyPost_ret (v := .tuple #[.agg #[.int .i64 0, .int .i64 0], .int .i64 3]) (by simp [results, Tryd.results4, go_sem, c1]) rfl ⟨rfl, ?_⟩
      exact ((bstep (below1 w _) b1).setCell (by simp) _).setCell (by simp) _

/- what Parse hands to Fit. -/
def parseM (a b : List UInt8) (neg : Bool) : Int := if neg = true then -(num a * p10 b.length + num b) else num a * p10 b.length + num b

set_option maxHeartbeats 800000 in
theorem parse_ok (l r a b : List UInt8) (neg p : Bool) (w : World) (hp : ParsePre l r a b neg p) (ha : digs a = true) (hb : p = true → digs b = true) (hbd : b.all isDig = true) (h18 : a.length + b.length ≤ 18) (h8 : b.length ≤ 8) :
    Calls Tryd.prog 4 #[.string ⟨l.toArray⟩] w fun e w' => e = .returned (.tuple #[.agg #[.int .i64 (fitM (parseM a b neg) b.length), .int .i64 (fitS (parseM a b neg) b.length)], .int .i64 (fitE (parseM a b neg) b.length)]) ∧ Below w.heap.size w w' := by
  have had : a.all isDig = true := by unfold digs at ha; simp at ha; simpa using ha.1
  have ⟨j1, j2, j3, j4, j5, j6, j7⟩ := num_join a b had hbd h18
  have la : a.length ≤ 1000 := by omega
  have lb : b.length ≤ 1000 := by omega
  have HA := hide ha
  have HB0 := hide hb
  have HAD := hide had
  have HBD := hide hbd
  clear ha hb had hbd
  cases p
  · cases neg
    · show Calls Tryd.prog 4 #[.string ⟨l.toArray⟩] w fun e w' => e = .returned (.tuple #[.agg #[.int .i64 (fitM (num a * p10 b.length + num b) b.length), .int .i64 (fitS (num a * p10 b.length + num b) b.length)], .int .i64 (fitE (num a * p10 b.length + num b) b.length)]) ∧ Below w.heap.size w w'
      go_enter Tryd.func4, Tryd.ntmps4
      go_wp2_with fail
      refine (hp.1 _).mono ?_
      rintro e w' ⟨rfl, rfl⟩
      go_wp2_with fail
      refine (hp.2 _).mono ?_
      rintro e w1 ⟨rfl, b1⟩
      obtain ⟨c1, f1⟩ := bcell b1
      have z1 : w.heap.size < w1.heap.size := by have := b1.size; simp at this; omega
      go_wp2_with fail
      refine (digs_any a _ la).mono ?_
      rintro e w' ⟨rfl, rfl⟩
      rw [unhide HA]
      go_wp2_with fail
      refine (number_any a _ (by omega) (unhide HAD)).mono ?_
      rintro e w' ⟨rfl, rfl⟩
      go_wp2_with fail
      refine (power_any _ _ (by omega) (by omega)).mono ?_
      rintro e w' ⟨rfl, rfl⟩
      rw [Int.toNat_natCast]
      go_wp2_with fail
      refine (number_any b _ (by omega) (unhide HBD)).mono ?_
      rintro e w' ⟨rfl, rfl⟩
      go_wp2_with fail
      refine (fit_any _ _ _).mono ?_
      rintro e w4 ⟨rfl, k4⟩
      have b4 := bstep b1 k4
      clear c1 f1 b1 k4
      obtain ⟨c4, f4⟩ := bcell b4
      have z4 : w.heap.size < w4.heap.size := by have := b4.size; simp at this; omega
      go_wp2
      refine bodyPost_ret (v := .tuple #[.agg #[.int .i64 (fitM _ _), .int .i64 (fitS _ _)], .int .i64 (fitE _ _)]) (by simp [results, Tryd.results4, go_sem, c4]) rfl ⟨rfl, ?_⟩
      exact ((bstep (below1 w _) b4).setCell (by simp) _).setCell (by simp) _
    · show Calls Tryd.prog 4 #[.string ⟨l.toArray⟩] w fun e w' => e = .returned (.tuple #[.agg #[.int .i64 (fitM (-(num a * p10 b.length + num b)) b.length), .int .i64 (fitS (-(num a * p10 b.length + num b)) b.length)], .int .i64 (fitE (-(num a * p10 b.length + num b)) b.length)]) ∧ Below w.heap.size w w'
      go_enter Tryd.func4, Tryd.ntmps4
      go_wp2_with fail
      refine (hp.1 _).mono ?_
      rintro e w' ⟨rfl, rfl⟩
      go_wp2_with fail
      refine (hp.2 _).mono ?_
      rintro e w1 ⟨rfl, b1⟩
      obtain ⟨c1, f1⟩ := bcell b1
      have z1 : w.heap.size < w1.heap.size := by have := b1.size; simp at this; omega
      go_wp2_with fail
      refine (digs_any a _ la).mono ?_
      rintro e w' ⟨rfl, rfl⟩
      rw [unhide HA]
      go_wp2_with fail
      refine (number_any a _ (by omega) (unhide HAD)).mono ?_
      rintro e w' ⟨rfl, rfl⟩
      go_wp2_with fail
      refine (power_any _ _ (by omega) (by omega)).mono ?_
      rintro e w' ⟨rfl, rfl⟩
      rw [Int.toNat_natCast]
      go_wp2_with fail
      refine (number_any b _ (by omega) (unhide HBD)).mono ?_
      rintro e w' ⟨rfl, rfl⟩
      go_wp2_with fail
      refine (fit_any _ _ _).mono ?_
      rintro e w4 ⟨rfl, k4⟩
      have b4 := bstep b1 k4
      clear c1 f1 b1 k4
      obtain ⟨c4, f4⟩ := bcell b4
      have z4 : w.heap.size < w4.heap.size := by have := b4.size; simp at this; omega
      go_wp2
      refine bodyPost_ret (v := .tuple #[.agg #[.int .i64 (fitM _ _), .int .i64 (fitS _ _)], .int .i64 (fitE _ _)]) (by simp [results, Tryd.results4, go_sem, c4]) rfl ⟨rfl, ?_⟩
      exact ((bstep (below1 w _) b4).setCell (by simp) _).setCell (by simp) _
  · have HB := hide (unhide HB0 rfl)
    cases neg
    · show Calls Tryd.prog 4 #[.string ⟨l.toArray⟩] w fun e w' => e = .returned (.tuple #[.agg #[.int .i64 (fitM (num a * p10 b.length + num b) b.length), .int .i64 (fitS (num a * p10 b.length + num b) b.length)], .int .i64 (fitE (num a * p10 b.length + num b) b.length)]) ∧ Below w.heap.size w w'
      go_enter Tryd.func4, Tryd.ntmps4
      go_wp2_with fail
      refine (hp.1 _).mono ?_
      rintro e w' ⟨rfl, rfl⟩
      go_wp2_with fail
      refine (hp.2 _).mono ?_
      rintro e w1 ⟨rfl, b1⟩
      obtain ⟨c1, f1⟩ := bcell b1
      have z1 : w.heap.size < w1.heap.size := by have := b1.size; simp at this; omega
      go_wp2_with fail
      refine (digs_any a _ la).mono ?_
      rintro e w' ⟨rfl, rfl⟩
      rw [unhide HA]
      go_wp2_with fail
      refine (digs_any b _ lb).mono ?_
      rintro e w' ⟨rfl, rfl⟩
      rw [unhide HB]
      go_wp2_with fail
      refine (number_any a _ (by omega) (unhide HAD)).mono ?_
      rintro e w' ⟨rfl, rfl⟩
      go_wp2_with fail
      refine (power_any _ _ (by omega) (by omega)).mono ?_
      rintro e w' ⟨rfl, rfl⟩
      rw [Int.toNat_natCast]
      go_wp2_with fail
      refine (number_any b _ (by omega) (unhide HBD)).mono ?_
      rintro e w' ⟨rfl, rfl⟩
      go_wp2_with fail
      refine (fit_any _ _ _).mono ?_
      rintro e w4 ⟨rfl, k4⟩
      have b4 := bstep b1 k4
      clear c1 f1 b1 k4
      obtain ⟨c4, f4⟩ := bcell b4
      have z4 : w.heap.size < w4.heap.size := by have := b4.size; simp at this; omega
      go_wp2
      refine bodyPost_ret (v := .tuple #[.agg #[.int .i64 (fitM _ _), .int .i64 (fitS _ _)], .int .i64 (fitE _ _)]) (by simp [results, Tryd.results4, go_sem, c4]) rfl ⟨rfl, ?_⟩
      exact ((bstep (below1 w _) b4).setCell (by simp) _).setCell (by simp) _
    · show Calls Tryd.prog 4 #[.string ⟨l.toArray⟩] w fun e w' => e = .returned (.tuple #[.agg #[.int .i64 (fitM (-(num a * p10 b.length + num b)) b.length), .int .i64 (fitS (-(num a * p10 b.length + num b)) b.length)], .int .i64 (fitE (-(num a * p10 b.length + num b)) b.length)]) ∧ Below w.heap.size w w'
      go_enter Tryd.func4, Tryd.ntmps4
      go_wp2_with fail
      refine (hp.1 _).mono ?_
      rintro e w' ⟨rfl, rfl⟩
      go_wp2_with fail
      refine (hp.2 _).mono ?_
      rintro e w1 ⟨rfl, b1⟩
      obtain ⟨c1, f1⟩ := bcell b1
      have z1 : w.heap.size < w1.heap.size := by have := b1.size; simp at this; omega
      go_wp2_with fail
      refine (digs_any a _ la).mono ?_
      rintro e w' ⟨rfl, rfl⟩
      rw [unhide HA]
      go_wp2_with fail
      refine (digs_any b _ lb).mono ?_
      rintro e w' ⟨rfl, rfl⟩
      rw [unhide HB]
      go_wp2_with fail
      refine (number_any a _ (by omega) (unhide HAD)).mono ?_
      rintro e w' ⟨rfl, rfl⟩
      go_wp2_with fail
      refine (power_any _ _ (by omega) (by omega)).mono ?_
      rintro e w' ⟨rfl, rfl⟩
      rw [Int.toNat_natCast]
      go_wp2_with fail
      refine (number_any b _ (by omega) (unhide HBD)).mono ?_
      rintro e w' ⟨rfl, rfl⟩
      go_wp2_with fail
      refine (fit_any _ _ _).mono ?_
      rintro e w4 ⟨rfl, k4⟩
      have b4 := bstep b1 k4
      clear c1 f1 b1 k4
      obtain ⟨c4, f4⟩ := bcell b4
      have z4 : w.heap.size < w4.heap.size := by have := b4.size; simp at this; omega
      go_wp2
      refine bodyPost_ret (v := .tuple #[.agg #[.int .i64 (fitM _ _), .int .i64 (fitS _ _)], .int .i64 (fitE _ _)]) (by simp [results, Tryd.results4, go_sem, c4]) rfl ⟨rfl, ?_⟩
      exact ((bstep (below1 w _) b4).setCell (by simp) _).setCell (by simp) _

end Go.Proofs.YtlcckhlkmnnjdabDoor
