/- The walk of FeelSame: both ways of holding expressions against each other tell the same. -/
import Derived.Test.YtfpgajbdgmlenaaDoorGH
import Derived.Test.YtfpgajbdgmlenaaDoorGJ
namespace Go.Proofs.YtfpgajbdgmlenaaDoor
open Go.RowKit
set_option linter.unusedVariables false
attribute [local go_sem ↓] Go.wp_at_zero Go.wp_at_succ

set_option maxHeartbeats 8000000 in
theorem feelSame_walk (x y : XT) (w : World) (hx : x.In (fun _ => True) w) (hy : y.In (fun _ => True) w) (sig : Sig w) :
    Calls Tryd.prog 5 #[x.val, y.val] w fun e w' => e = .returned (.bool true) ∧ Below w.heap.size w w' := by
  have HX := hide hx
  have HY := hide hy
  have SG := hide sig
  obtain ⟨xk, xb, xm, xs, xt, xlo, xhi, xa, xl, xc, xkid, rfl⟩ := hx.form
  obtain ⟨yk, yb, ym, ys, yt, ylo, yhi, ya, yl, yc, ykid, rfl⟩ := hy.form
  clear hx hy sig
  show Calls Tryd.prog 5 #[.agg #[.int .i64 xk, .bool xb, .int .i64 xm, .int .i64 xs, .string xt, .bool xlo, .bool xhi, .slice xa xl xc], .agg #[.int .i64 yk, .bool yb, .int .i64 ym, .int .i64 ys, .string yt, .bool ylo, .bool yhi, .slice ya yl yc]] w _
  have b0 := below2 w (Obj.cells #[.int .i64 xk, .bool xb, .int .i64 xm, .int .i64 xs, .string xt, .bool xlo, .bool xhi, .slice xa xl xc] 26) (Obj.cells #[.int .i64 yk, .bool yb, .int .i64 ym, .int .i64 ys, .string yt, .bool ylo, .bool yhi, .slice ya yl yc] 26)
  have B0 := hide b0
  go_enter Tryd.func5, Tryd.ntmps5
  go_wp2_with fail
  refine (xsize_any (XT.mk xk xb xm xs xt xlo xhi xa xl xc xkid) _ _ ((unhide HX).below b0)).mono ?_
  rintro e w1 ⟨⟨n, rfl⟩, b1⟩
  have B1 := hide (bstep b0 b1)
  have d1 := (bcell b1).1
  by_cases hn : 500 ≤ n
  · clear b0 b1
    go_wp2_with fail
    go_ret
    exact ⟨rfl, unhide B1⟩
  · go_wp2_with fail
    refine (xsize_any (XT.mk yk yb ym ys yt ylo yhi ya yl yc ykid) _ _ ((unhide HY).below (unhide B1))).mono ?_
    rintro e w2 ⟨⟨n2, rfl⟩, b2⟩
    have B2 := hide (bstep (unhide B1) b2)
    by_cases hn2 : 500 ≤ n2
    · go_wp2_with fail
      go_ret
      exact ⟨rfl, unhide B2⟩
    · have X2 := ((((XB.new w xk xb xm xs xt xlo xhi xa xl xc 26).alloc (Obj.cells #[.int .i64 yk, .bool yb, .int .i64 ym, .int .i64 ys, .string yt, .bool ylo, .bool yhi, .slice ya yl yc] 26)).below b1).below b2)
      have Y2 := (((XB.new (w.alloc (Obj.cells #[.int .i64 xk, .bool xb, .int .i64 xm, .int .i64 xs, .string xt, .bool xlo, .bool xhi, .slice xa xl xc] 26)) yk yb ym ys yt ylo yhi ya yl yc 26).below b1).below b2)
      rw [show (w.alloc (Obj.cells #[.int .i64 xk, .bool xb, .int .i64 xm, .int .i64 xs, .string xt, .bool xlo, .bool xhi, .slice xa xl xc] 26)).heap.size = w.heap.size + 1 by simp] at Y2
      have HX2 := hide ((unhide HX).below (unhide B2))
      have HY2 := hide ((unhide HY).below (unhide B2))
      have SG2 := hide ((unhide SG).below (unhide B2))
      obtain ⟨p0, p1, p2, p3, p4, p5, p6, p7, p8, -⟩ := X2
      obtain ⟨q0, q1, q2, q3, q4, q5, q6, q7, q8, -⟩ := Y2
      clear b0 b1 b2 d1 HX HY SG B1 B0
      generalize hV : w2 = V at *
      clear hV
      generalize hB : w.heap.size = B at *
      have HB := hide hB
      clear hB
      have S0 : Hid (Below V.heap.size V V.drew ∧ V.drew.cell? ⟨B, 0, none⟩ = some (.int .i64 xk) ∧ V.drew.cell? ⟨B, 1, none⟩ = some (.bool xb) ∧ V.drew.cell? ⟨B, 2, none⟩ = some (.int .i64 xm) ∧ V.drew.cell? ⟨B, 3, none⟩ = some (.int .i64 xs) ∧ V.drew.cell? ⟨B, 4, none⟩ = some (.string xt) ∧ V.drew.cell? ⟨B, 5, none⟩ = some (.bool xlo) ∧ V.drew.cell? ⟨B, 6, none⟩ = some (.bool xhi) ∧ V.drew.cell? ⟨B, 7, none⟩ = some (.slice xa xl xc) ∧ V.drew.cell? ⟨B + 1, 0, none⟩ = some (.int .i64 yk) ∧ V.drew.cell? ⟨B + 1, 1, none⟩ = some (.bool yb) ∧ V.drew.cell? ⟨B + 1, 2, none⟩ = some (.int .i64 ym) ∧ V.drew.cell? ⟨B + 1, 3, none⟩ = some (.int .i64 ys) ∧ V.drew.cell? ⟨B + 1, 4, none⟩ = some (.string yt) ∧ V.drew.cell? ⟨B + 1, 5, none⟩ = some (.bool ylo) ∧ V.drew.cell? ⟨B + 1, 6, none⟩ = some (.bool yhi) ∧ V.drew.cell? ⟨B + 1, 7, none⟩ = some (.slice ya yl yc)) := ⟨(Below.refl _ _).drew, p1, p2, p3, p4, p5, p6, p7, p8, q1, q2, q3, q4, q5, q6, q7, q8⟩
      have SK : Hid (∀ x w', (Below V.heap.size V x ∧ x.cell? ⟨B, 0, none⟩ = some (.int .i64 xk) ∧ x.cell? ⟨B, 1, none⟩ = some (.bool xb) ∧ x.cell? ⟨B, 2, none⟩ = some (.int .i64 xm) ∧ x.cell? ⟨B, 3, none⟩ = some (.int .i64 xs) ∧ x.cell? ⟨B, 4, none⟩ = some (.string xt) ∧ x.cell? ⟨B, 5, none⟩ = some (.bool xlo) ∧ x.cell? ⟨B, 6, none⟩ = some (.bool xhi) ∧ x.cell? ⟨B, 7, none⟩ = some (.slice xa xl xc) ∧ x.cell? ⟨B + 1, 0, none⟩ = some (.int .i64 yk) ∧ x.cell? ⟨B + 1, 1, none⟩ = some (.bool yb) ∧ x.cell? ⟨B + 1, 2, none⟩ = some (.int .i64 ym) ∧ x.cell? ⟨B + 1, 3, none⟩ = some (.int .i64 ys) ∧ x.cell? ⟨B + 1, 4, none⟩ = some (.string yt) ∧ x.cell? ⟨B + 1, 5, none⟩ = some (.bool ylo) ∧ x.cell? ⟨B + 1, 6, none⟩ = some (.bool yhi) ∧ x.cell? ⟨B + 1, 7, none⟩ = some (.slice ya yl yc)) → Below x.heap.size x w' → (Below V.heap.size V w' ∧ w'.cell? ⟨B, 0, none⟩ = some (.int .i64 xk) ∧ w'.cell? ⟨B, 1, none⟩ = some (.bool xb) ∧ w'.cell? ⟨B, 2, none⟩ = some (.int .i64 xm) ∧ w'.cell? ⟨B, 3, none⟩ = some (.int .i64 xs) ∧ w'.cell? ⟨B, 4, none⟩ = some (.string xt) ∧ w'.cell? ⟨B, 5, none⟩ = some (.bool xlo) ∧ w'.cell? ⟨B, 6, none⟩ = some (.bool xhi) ∧ w'.cell? ⟨B, 7, none⟩ = some (.slice xa xl xc) ∧ w'.cell? ⟨B + 1, 0, none⟩ = some (.int .i64 yk) ∧ w'.cell? ⟨B + 1, 1, none⟩ = some (.bool yb) ∧ w'.cell? ⟨B + 1, 2, none⟩ = some (.int .i64 ym) ∧ w'.cell? ⟨B + 1, 3, none⟩ = some (.int .i64 ys) ∧ w'.cell? ⟨B + 1, 4, none⟩ = some (.string yt) ∧ w'.cell? ⟨B + 1, 5, none⟩ = some (.bool ylo) ∧ w'.cell? ⟨B + 1, 6, none⟩ = some (.bool yhi) ∧ w'.cell? ⟨B + 1, 7, none⟩ = some (.slice ya yl yc))) := by
        rintro x w' ⟨h0, h1, h2, h3, h4, h5, h6, h7, h8, h9, h10, h11, h12, h13, h14, h15, h16⟩ kk
        have z0 := h0.size
        exact ⟨bstep h0 kk, kcell kk (by omega) h1, kcell kk (by omega) h2, kcell kk (by omega) h3, kcell kk (by omega) h4, kcell kk (by omega) h5, kcell kk (by omega) h6, kcell kk (by omega) h7, kcell kk (by omega) h8, kcell kk (by omega) h9, kcell kk (by omega) h10, kcell kk (by omega) h11, kcell kk (by omega) h12, kcell kk (by omega) h13, kcell kk (by omega) h14, kcell kk (by omega) h15, kcell kk (by omega) h16⟩
      have FS := hide (fun w (hx : (XT.mk xk xb xm xs xt xlo xhi xa xl xc xkid).In (fun _ => True) w) (hy : (XT.mk yk yb ym ys yt ylo yhi ya yl yc ykid).In (fun _ => True) w) => fsame_any (XT.mk xk xb xm xs xt xlo xhi xa xl xc xkid) (XT.mk yk yb ym ys yt ylo yhi ya yl yc ykid) w (fun _ => True) (fun _ => True) hx hy)
      have RS := hide (fun w (hx : (XT.mk xk xb xm xs xt xlo xhi xa xl xc xkid).In (fun _ => True) w) (hy : (XT.mk yk yb ym ys yt ylo yhi ya yl yc ykid).In (fun _ => True) w) => rsame_any (XT.mk xk xb xm xs xt xlo xhi xa xl xc xkid) (XT.mk yk yb ym ys yt ylo yhi ya yl yc ykid) w (fun _ => True) (fun _ => True) hx hy)
      have FX := hide (fun w (hx : (XT.mk xk xb xm xs xt xlo xhi xa xl xc xkid).In (fun _ => True) w) => fsame_any (XT.mk xk xb xm xs xt xlo xhi xa xl xc xkid) (XT.mk xk xb xm xs xt xlo xhi xa xl xc xkid) w (fun _ => True) (fun _ => True) hx hx)
      rw [XT.same_self] at FX
      generalize (XT.mk xk xb xm xs xt xlo xhi xa xl xc xkid).same (XT.mk yk yb ym ys yt ylo yhi ya yl yc ykid) = SB at *
      go_wp2_with fail
      go_region_held3 (fun w' => Below V.heap.size V w' ∧ w'.cell? ⟨B, 0, none⟩ = some (.int .i64 xk) ∧ w'.cell? ⟨B, 1, none⟩ = some (.bool xb) ∧ w'.cell? ⟨B, 2, none⟩ = some (.int .i64 xm) ∧ w'.cell? ⟨B, 3, none⟩ = some (.int .i64 xs) ∧ w'.cell? ⟨B, 4, none⟩ = some (.string xt) ∧ w'.cell? ⟨B, 5, none⟩ = some (.bool xlo) ∧ w'.cell? ⟨B, 6, none⟩ = some (.bool xhi) ∧ w'.cell? ⟨B, 7, none⟩ = some (.slice xa xl xc) ∧ w'.cell? ⟨B + 1, 0, none⟩ = some (.int .i64 yk) ∧ w'.cell? ⟨B + 1, 1, none⟩ = some (.bool yb) ∧ w'.cell? ⟨B + 1, 2, none⟩ = some (.int .i64 ym) ∧ w'.cell? ⟨B + 1, 3, none⟩ = some (.int .i64 ys) ∧ w'.cell? ⟨B + 1, 4, none⟩ = some (.string yt) ∧ w'.cell? ⟨B + 1, 5, none⟩ = some (.bool ylo) ∧ w'.cell? ⟨B + 1, 6, none⟩ = some (.bool yhi) ∧ w'.cell? ⟨B + 1, 7, none⟩ = some (.slice ya yl yc))
        (first | exact unhide S0 | assumption | exact unhide SK _ _ (by assumption) k4)
        (first
          | (go_at_call_of 17 ([.agg #[.int .i64 xk, .bool xb, .int .i64 xm, .int .i64 xs, .string xt, .bool xlo, .bool xhi, .slice xa xl xc], .agg #[.int .i64 yk, .bool yb, .int .i64 ym, .int .i64 ys, .string yt, .bool ylo, .bool yhi, .slice ya yl yc]] : List Value); refine (unhide FS _ ?_ ?_).mono ?_; exact (unhide HX2).below (And.left (by assumption)); exact (unhide HY2).below (And.left (by assumption)); rintro e w4 ⟨rfl, k4⟩)
          | (go_at_call_of 17 ([.agg #[.int .i64 xk, .bool xb, .int .i64 xm, .int .i64 xs, .string xt, .bool xlo, .bool xhi, .slice xa xl xc], .agg #[.int .i64 xk, .bool xb, .int .i64 xm, .int .i64 xs, .string xt, .bool xlo, .bool xhi, .slice xa xl xc]] : List Value); refine (unhide FX _ ?_).mono ?_; exact (unhide HX2).below (And.left (by assumption)); rintro e w4 ⟨rfl, k4⟩)
          | (go_at_call 11; refine (unhide RS _ ?_ ?_).mono ?_; exact (unhide HX2).below (And.left (by assumption)); exact (unhide HY2).below (And.left (by assumption)); rintro e w4 ⟨rfl, k4⟩)
          | (go_at_call 12; refine (fknown_any _ ?_).mono ?_; exact (unhide SG2).below (And.left (by assumption)); rintro e w4 ⟨rfl, k4⟩))
      all_goals
        go_wp2_with fail
        go_ret
        have b := unhide B2
        rw [← unhide HB] at b
        first
          | exact ⟨rfl, bstep b (And.left (by assumption))⟩
          | exact ⟨by simp, bstep b (And.left (by assumption))⟩
end Go.Proofs.YtfpgajbdgmlenaaDoor
