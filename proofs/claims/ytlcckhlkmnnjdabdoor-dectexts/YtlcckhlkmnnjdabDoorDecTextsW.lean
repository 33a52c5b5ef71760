/- The walk of DecTexts: decimals as texts, texts as decimals, there and back. -/
import Derived.Test.YtlcckhlkmnnjdabDoorPBack
import Derived.Test.YtlcckhlkmnnjdabDoorRText
import Derived.Test.YtlcckhlkmnnjdabDoorKnown
import Derived.Test.YtlcckhlkmnnjdabDoorMay
import Derived.Test.YtlcckhlkmnnjdabDoorKeep
namespace Go.Proofs.YtlcckhlkmnnjdabDoor
open Go.RowKit
set_option linter.unusedVariables false

theorem dbytes_of (s : ByteArray) : ∃ l : List UInt8, s = ⟨l.toArray⟩ := ⟨s.data.toList, by simp⟩

set_option maxHeartbeats 3200000 in
theorem decTexts_walk (m s : Int) (t : ByteArray) (_ : (Lit.int .i64 m).wf = true) (_ : (Lit.int .i64 s).wf = true) (htl : t.size ≤ maxLen) (w : World) (ht : Tab w) :
    Calls Tryd.prog 3 #[.agg #[.int .i64 m, .int .i64 s], .string t] w fun e w' => e = .returned (.bool true) ∧ Below w.heap.size w w' := by
  obtain ⟨l, rfl⟩ := dbytes_of t
  have hs' : l.length ≤ maxLen := htl
  unfold maxLen at hs'
  have HT := hide ht
  clear htl ht
  by_cases h1 : 100 < l.length
  · go_enter Tryd.func3, Tryd.ntmps3
    go_wp2_with fail
    go_ret
    exact ⟨rfl, below1 _ _⟩
  obtain ⟨M, S, E, P1, P2⟩ := both_parse l (by omega)
  have HP1 := hide P1
  have HP2 := hide P2
  clear P1 P2
  have a0 := Has.new w m s 23
  have y0 := below1 w (Obj.cells #[.int .i64 m, .int .i64 s] 23)
  go_enter Tryd.func3, Tryd.ntmps3
  go_wp2_with fail
  generalize w.alloc (Obj.cells #[.int .i64 m, .int .i64 s] 23) = V0 at *
  refine (unhide HP1 _).mono ?_
  rintro e w1 ⟨rfl, k1⟩
  have a1 := a0.call k1
  have y1 := bstep y0 k1
  clear a0 y0 k1
  go_wp2_with fail
  have n1 := Has.new w1 M S 23
  have a2 := a1.put (Obj.cells #[.int .i64 M, .int .i64 S] 23)
  have y2 := bstep y1 (below1 w1 (Obj.cells #[.int .i64 M, .int .i64 S] 23))
  generalize w1.alloc (Obj.cells #[.int .i64 M, .int .i64 S] 23) = V1 at *
  generalize w1.heap.size = b1 at *
  clear a1 y1
  refine (unhide HP2 _).mono ?_
  rintro e w2 ⟨rfl, k2⟩
  have a3 := a2.call k2
  have n2 := n1.call k2
  have y3 := bstep y2 k2
  clear a2 n1 y2 k2
  obtain ⟨p0, p1, p2⟩ := id n2
  obtain ⟨q0, q1, q2⟩ := id a3
  go_wp2_with fail
  have a5 := (a3.put (Obj.cells #[.int .i64 M, .int .i64 S] 23)).put (Obj.cells #[.int .i64 m, .int .i64 s] 23)
  have y5 := bstep y3 (below2 w2 (Obj.cells #[.int .i64 M, .int .i64 S] 23) (Obj.cells #[.int .i64 m, .int .i64 s] 23))
  clear a3 n2 y3
  refine (may1_any m s _ _ (by simp) (by go_simp) (by go_simp)).mono ?_
  rintro e V ⟨rfl, k5⟩
  have a6 := a5.call k5
  have y6 := bstep y5 k5
  clear a5 y5 k5 p0 p1 p2 q0 q1 q2
  cases hab : isB m s
  · go_wp2_with fail
    refine (known_any _).mono ?_
    rintro e w6 ⟨rfl, k6⟩
    go_wp2_with fail
    go_ret
    exact ⟨rfl, bstep y6 k6⟩
  · obtain ⟨m1, m2, s1, s2⟩ := isB_bd hab
    obtain ⟨PB, hl⟩ := parse_back m s hab
    have HPB := hide PB
    have T1 := hide (fun w h => text_any m s w hab h)
    have T2 := hide (fun w => rtxt_any m s w m1 m2 s1 s2)
    clear PB hab
    generalize sgnL m ++ bodyL (absI m) s = X at *
    obtain ⟨q0, q1, q2⟩ := id a6
    go_wp2_with fail
    refine (unhide T1 _ (tab_below (unhide HT) y6)).mono ?_
    rintro e w7 ⟨rfl, k7⟩
    have a7 := a6.call k7
    have y7 := bstep y6 k7
    clear a6 y6 k7 q0 q1 q2
    go_wp2_with fail
    refine (unhide HPB _).mono ?_
    rintro e w8 ⟨rfl, k8⟩
    have a8 := a7.call k8
    have y8 := bstep y7 k8
    clear a7 y7 k8
    have z8 := a8.1
    have q1 := a8.2.1
    have q2 := a8.2.2
    go_wp2_with fail
    have n9 := Has.new w8 m s 23
    have a9 := a8.put (Obj.cells #[.int .i64 m, .int .i64 s] 23)
    have y9 := bstep y8 (below1 w8 (Obj.cells #[.int .i64 m, .int .i64 s] 23))
    clear q1 q2 z8 a8 y8
    generalize w8.alloc (Obj.cells #[.int .i64 m, .int .i64 s] 23) = V9 at *
    generalize w8.heap.size = b9 at *
    refine (unhide T2 _).mono ?_
    rintro e w10 ⟨rfl, k10⟩
    have a10 := a9.call k10
    have n10 := n9.call k10
    have y10 := bstep y9 k10
    clear a9 n9 y9 k10
    obtain ⟨p0, p1, p2⟩ := id n10
    obtain ⟨q0, q1, q2⟩ := id a10
    go_wp2_with fail
    refine (known_any _).mono ?_
    rintro e w11 ⟨rfl, k11⟩
    go_wp2_with fail
    go_ret
    exact ⟨rfl, bstep y10 k11⟩
end Go.Proofs.YtlcckhlkmnnjdabDoor
