/- ValCopies' walk: a copy is it, in new memory. -/
import Derived.Test.YthccmlkcdinfdacVCopy
import Derived.Test.YthccmlkcdinfdacVKnown
import Derived.Test.YthccmlkcdinfdacVMay
import Derived.Test.YthccmlkcdinfdacValOrdersM
import Derived.Deep.CutBlock
import Derived.Deep.DeepCutAuto
namespace Go.Proofs.Ythccmlkcdinfdac
open Go.RowKit

/- the six cells of an element, that it may be written, and where it lies. -/
theorem fresh_kid {n : Nat} {w : World} {k : Int} {b : Bool} {m s : Int} {t : ByteArray} {a : Option Addr} {len cap : Nat} {kid : Nat → VT} (h : (VT.mk k b m s t a len cap kid).In w) (f : (VT.mk k b m s t a len cap kid).Fresh n w) (hi : 0 < len) :
    ∃ bl o k' b' m' s' t' a' len' cap' kid', a = some ⟨bl, o, none⟩ ∧ kid 0 = .mk k' b' m' s' t' a' len' cap' kid' ∧ VT.Six w bl o k' b' m' s' t' a' len' cap' ∧ (VT.mk k' b' m' s' t' a' len' cap' kid').In w ∧ n ≤ bl ∧ (VT.mk k' b' m' s' t' a' len' cap' kid').Fresh n w ∧
      w.frozen? ⟨bl, o, none⟩ = false ∧ w.frozen? ⟨bl, o + 1, none⟩ = false ∧ w.frozen? ⟨bl, o + 2, none⟩ = false ∧ w.frozen? ⟨bl, o + 3, none⟩ = false ∧ w.frozen? ⟨bl, o + 4, none⟩ = false ∧ w.frozen? ⟨bl, o + 5, none⟩ = false := by
  obtain ⟨bl, o, k', b', m', s', t', a', len', cap', kid', ha, hx, six, hk⟩ := h.kid hi
  obtain ⟨⟨bl', o', ha', hn, hf⟩, hk'⟩ := f 0 hi
  obtain ⟨rfl, rfl⟩ : bl = bl' ∧ o = o' := by rw [ha] at ha'; simpa using ha'
  rw [hx] at hk'
  simp only [Nat.zero_mul, Nat.add_zero] at six hf
  exact ⟨bl, o, k', b', m', s', t', a', len', cap', kid', ha, hx, six, hk, hn, hk', hf 0 (by omega), hf 1 (by omega), hf 2 (by omega), hf 3 (by omega), hf 4 (by omega), hf 5 (by omega)⟩

set_option maxHeartbeats 1600000 in
theorem valCopies_walk (x : VT) (w : World) (hin : x.In w) :
    Calls Try.prog 5 #[x.val] w fun e w' => e = .returned (.bool true) ∧ Below w.heap.size w w' := by
  cases x with
  | none => exact absurd hin (by simp [VT.In])
  | mk k b m s t a len cap kid =>
    show Calls Try.prog 5 #[.agg #[.int .i64 k, .bool b, .int .i64 m, .int .i64 s, .string t, .slice a len cap]] w _
    have b0 := below1 w (Obj.cells #[.int .i64 k, .bool b, .int .i64 m, .int .i64 s, .string t, .slice a len cap] 26)
    have i1 := hin.below b0
    go_enter Try.func5, Try.ntmps5
    go_wp2_with fail
    refine (vmay1 (by simp) i1).mono ?_
    rintro e V ⟨⟨r, rfl, hr⟩, hb⟩
    have bV := bstep b0 hb
    have sV : VT.Six V w.heap.size 0 k b m s t a len cap := VT.Six.below ⟨by simp, by go_simp, by go_simp, by go_simp, by go_simp, by go_simp, by go_simp⟩ hb
    have HIN := hide hin
    clear hb b0 i1 hin
    obtain ⟨g0, g1, g2, g3, g4, g5, g6⟩ := id sV
    simp only [Nat.zero_add] at g1 g2 g3 g4 g5 g6
    cases r
    · clear hr
      go_wp2_with fail
      go_ret
      exact ⟨rfl, bV⟩
    have hx := hr rfl
    clear hr
    go_wp2_with fail
    clear g0 g1 g2 g3 g4 g5 g6
    refine (copy_any _ V hx ((unhide HIN).below bV)).mono ?_
    rintro e w2 ⟨⟨y1, rfl, yin, yfr, ysm⟩, k2⟩
    cases y1 with
    | none => exact absurd yin (by simp [VT.In])
    | mk kq bq mq sq tq aq lenq capq kidq =>
    dsimp only [VT.val]
    have zV := sV.1
    have bl1lt : ∀ bl o, aq = some ⟨bl, o, none⟩ → 0 < lenq → bl < w2.heap.size := fun bl o ha h0 => by
      obtain ⟨bl', o', _, _, _, _, _, _, _, _, _, ha', _, six, _⟩ := yin.kid h0
      rw [ha] at ha'
      simp at ha'
      rw [ha'.1]; exact six.1
    have c3 := below1 w2 (Obj.cells #[.int .i64 kq, .bool bq, .int .i64 mq, .int .i64 sq, .string tq, .slice aq lenq capq] 26)
    have b3 := bstep bV (bstep k2 c3)
    have s3 := VT.Six.below sV (bstep k2 c3)
    have t3 : VT.Six (w2.alloc (Obj.cells #[.int .i64 kq, .bool bq, .int .i64 mq, .int .i64 sq, .string tq, .slice aq lenq capq] 26)) w2.heap.size 0 kq bq mq sq tq aq lenq capq := ⟨by simp, by go_simp, by go_simp, by go_simp, by go_simp, by go_simp, by go_simp⟩
    have y3 := yin.below c3
    have f3 := VT.Fresh.below c3 _ yin yfr
    have z2 := k2.size
    have z3 : w2.heap.size < (w2.alloc (Obj.cells #[.int .i64 kq, .bool bq, .int .i64 mq, .int .i64 sq, .string tq, .slice aq lenq capq] 26)).heap.size := by simp
    obtain ⟨g0, g1, g2, g3, g4, g5, g6⟩ := id s3
    simp only [Nat.zero_add] at g1 g2 g3 g4 g5 g6
    clear sV yin yfr k2
    have HX := hide hx
    have YSM := hide ysm
    have BL1 := hide bl1lt
    clear hx ysm bl1lt
    go_wp2_with fail
    generalize w2.alloc (Obj.cells #[.int .i64 kq, .bool bq, .int .i64 mq, .int .i64 sq, .string tq, .slice aq lenq capq] 26) = w3 at *
    clear g0 g1 g2 g3 g4 g5 g6
    have H := same_any (VT.mk kq bq mq sq tq aq lenq capq kidq) (VT.mk k b m s t a len cap kid) w3 y3 ((unhide HIN).below b3)
    rw [unhide YSM] at H
    refine H.mono ?_
    clear H
    rintro e w4 ⟨rfl, k4⟩
    have b4 := bstep b3 k4
    have s4 := VT.Six.below s3 k4
    have t4 := VT.Six.below t3 k4
    have y4 := y3.below k4
    have f4 := VT.Fresh.below k4 _ y3 f3
    have z4 := k4.size
    clear b3 s3 t3 y3 f3 k4 c3
    obtain ⟨g0, g1, g2, g3, g4, g5, g6⟩ := id s4
    simp only [Nat.zero_add] at g1 g2 g3 g4 g5 g6
    by_cases hk4 : k = 4 ∧ 0 < len
    case neg =>
      by_cases hk : k = 4
      · have hl : len = 0 := by
          apply Classical.byContradiction
          intro h; exact hk4 ⟨hk, by omega⟩
        subst hk hl
        go_wp2_with fail
        refine (known_any _).mono ?_
        rintro e w5 ⟨rfl, k5⟩
        go_wp2_with fail
        go_ret
        exact ⟨rfl, bstep b4 k5⟩
      · have n1 : (k != 4) = true := by simpa using hk
        clear hk hk4
        go_wp2_with fail
        refine (known_any _).mono ?_
        rintro e w5 ⟨rfl, k5⟩
        go_wp2_with fail
        go_ret
        exact ⟨rfl, bstep b4 k5⟩
    obtain ⟨rfl, hl⟩ := hk4
    have e0 : ((len : Int) == 0) = false := by simp; omega
    go_wp2_with fail
    clear g0 g1 g2 g3 g4 g5 g6
    refine (copy_any _ w4 (unhide HX) ((unhide HIN).below b4)).mono ?_
    rintro e w5 ⟨⟨y2, rfl, yin2, yfr2, ysm2⟩, k5⟩
    cases y2 with
    | none => exact absurd yin2 (by simp [VT.In])
    | mk kr br mr sr tr ar lenr capr kidr =>
    dsimp only [VT.val]
    have c6 := below1 w5 (Obj.cells #[.int .i64 kr, .bool br, .int .i64 mr, .int .i64 sr, .string tr, .slice ar lenr capr] 26)
    have k6 := bstep k5 c6
    have b6 := bstep b4 k6
    have s6 := VT.Six.below s4 k6
    have t6 := VT.Six.below t4 k6
    have y6 := y4.below k6
    have f6 := VT.Fresh.below k6 _ y4 f4
    have u6 : VT.Six (w5.alloc (Obj.cells #[.int .i64 kr, .bool br, .int .i64 mr, .int .i64 sr, .string tr, .slice ar lenr capr] 26)) w5.heap.size 0 kr br mr sr tr ar lenr capr := ⟨by simp, by go_simp, by go_simp, by go_simp, by go_simp, by go_simp, by go_simp⟩
    have p6 := yin2.below c6
    have q6 := VT.Fresh.below c6 _ yin2 yfr2
    have z5 := k5.size
    have z6 : w5.heap.size < (w5.alloc (Obj.cells #[.int .i64 kr, .bool br, .int .i64 mr, .int .i64 sr, .string tr, .slice ar lenr capr] 26)).heap.size := by simp
    have YSM2 := hide ysm2
    have hlq : lenq = len := (same_parts (unhide YSM)).2.2.2.2.2.1
    subst hlq
    obtain ⟨bl, o, kp, bp, mp, sp, tp, ap, lenp, capp, kidp, rfl, hxk, six6, iny, hnb, fry, f0, f1, f2, f3, f4', f5⟩ := fresh_kid y6 f6 hl
    have hlt1 := unhide BL1 bl o rfl hl
    obtain ⟨g0, g1, g2, g3, g4, g5, g6⟩ := id t6
    simp only [Nat.zero_add] at g1 g2 g3 g4 g5 g6
    obtain ⟨j0, j1, j2, j3, j4, j5, j6⟩ := id six6
    clear b4 s4 t4 y4 f4 k5 c6 k6 yin2 yfr2 ysm2 y6 f6 hxk iny fry YSM BL1
    obtain ⟨b1, o1, kk, bk, mk, sk, tk, ak, lenk, capk, kidk, rfl, hxk, sixv, ink⟩ := (unhide HIN).kid hl
    simp only [Nat.zero_mul, Nat.add_zero] at sixv
    have sv6 := VT.Six.below sixv b6
    have Z1 := s6.1
    have P1 : Below w.heap.size w (((((((w5.alloc (Obj.cells #[.int .i64 kr, .bool br, .int .i64 mr, .int .i64 sr, .string tr, .slice ar lenr capr] 26)).setCell ⟨bl, o, none⟩ (.int .i64 3)).setCell ⟨bl, o + 1, none⟩ (.bool false)).setCell ⟨bl, o + 2, none⟩ (.int .i64 0)).setCell ⟨bl, o + 3, none⟩ (.int .i64 0)).setCell ⟨bl, o + 4, none⟩ (.string ⟨#[111, 116, 104, 101, 114]⟩)).setCell ⟨bl, o + 5, none⟩ (.slice none 0 0)) := put_below (w5.alloc (Obj.cells #[.int .i64 kr, .bool br, .int .i64 mr, .int .i64 sr, .string tr, .slice ar lenr capr] 26)) bl (o) (.int .i64 3) (.bool false) (.int .i64 0) (.int .i64 0) (.string ⟨#[111, 116, 104, 101, 114]⟩) (.slice none 0 0) b6 (by omega)
    have P2 := put_six (w5.alloc (Obj.cells #[.int .i64 kr, .bool br, .int .i64 mr, .int .i64 sr, .string tr, .slice ar lenr capr] 26)) bl (o) (.int .i64 3) (.bool false) (.int .i64 0) (.int .i64 0) (.string ⟨#[111, 116, 104, 101, 114]⟩) (.slice none 0 0) s6 (by omega)
    have P3 := put_six (w5.alloc (Obj.cells #[.int .i64 kr, .bool br, .int .i64 mr, .int .i64 sr, .string tr, .slice ar lenr capr] 26)) bl (o) (.int .i64 3) (.bool false) (.int .i64 0) (.int .i64 0) (.string ⟨#[111, 116, 104, 101, 114]⟩) (.slice none 0 0) u6 (by omega)
    have P4 := put_away (w5.alloc (Obj.cells #[.int .i64 kr, .bool br, .int .i64 mr, .int .i64 sr, .string tr, .slice ar lenr capr] 26)) bl (o) (.int .i64 3) (.bool false) (.int .i64 0) (.int .i64 0) (.string ⟨#[111, 116, 104, 101, 114]⟩) (.slice none 0 0) (n := w4.heap.size) (by omega) p6 q6
    have P5 := put_six (w5.alloc (Obj.cells #[.int .i64 kr, .bool br, .int .i64 mr, .int .i64 sr, .string tr, .slice ar lenr capr] 26)) bl (o) (.int .i64 3) (.bool false) (.int .i64 0) (.int .i64 0) (.string ⟨#[111, 116, 104, 101, 114]⟩) (.slice none 0 0) sv6 (by have := sixv.1; omega)
    have P6 := put_size (w5.alloc (Obj.cells #[.int .i64 kr, .bool br, .int .i64 mr, .int .i64 sr, .string tr, .slice ar lenr capr] 26)) bl (o) (.int .i64 3) (.bool false) (.int .i64 0) (.int .i64 0) (.string ⟨#[111, 116, 104, 101, 114]⟩) (.slice none 0 0)
    go_upto_region 10 with fail
    generalize (((((((w5.alloc (Obj.cells #[.int .i64 kr, .bool br, .int .i64 mr, .int .i64 sr, .string tr, .slice ar lenr capr] 26)).setCell ⟨bl, o, none⟩ (.int .i64 3)).setCell ⟨bl, o + 1, none⟩ (.bool false)).setCell ⟨bl, o + 2, none⟩ (.int .i64 0)).setCell ⟨bl, o + 3, none⟩ (.int .i64 0)).setCell ⟨bl, o + 4, none⟩ (.string ⟨#[111, 116, 104, 101, 114]⟩)).setCell ⟨bl, o + 5, none⟩ (.slice none 0 0)) = w7 at *
    clear g0 g1 g2 g3 g4 g5 g6 j0 j1 j2 j3 j4 j5 j6 f0 f1 f2 f3 f4' f5 b6 s6 t6 u6 p6 q6 six6 sv6
    obtain ⟨g0, g1, g2, g3, g4, g5, g6⟩ := id P2
    simp only [Nat.zero_add] at g1 g2 g3 g4 g5 g6
    obtain ⟨j0, j1, j2, j3, j4, j5, j6⟩ := id P5
    obtain ⟨i0, i1, i2, i3, i4, i5, i6⟩ := id P3
    simp only [Nat.zero_add] at i1 i2 i3 i4 i5 i6
    have z7 : w4.heap.size ≤ w7.heap.size := by rw [P6]; omega
    have z8 : w5.heap.size < w7.heap.size := by rw [P6]; exact z6
    clear P6 z6
    by_cases hlk : lenk = 0
    · subst hlk
      go_wp2_with fail
      have H := same_any (VT.mk kr br mr sr tr ar lenr capr kidr) (VT.mk 4 b m s t (some ⟨b1, o1, none⟩) lenq cap kid) w7 P4.1 ((unhide HIN).below P1)
      rw [unhide YSM2] at H
      refine H.mono ?_
      clear H
      rintro e w8 ⟨rfl, k8⟩
      go_wp2_with fail
      refine (known_any _).mono ?_
      rintro e w9 ⟨rfl, k9⟩
      go_wp2_with fail
      go_ret
      exact ⟨rfl, bstep P1 (bstep k8 k9)⟩
    have hlk' : 0 < lenk := by omega
    clear hlk
    go_wp2_with fail
    refine (copy_any _ w7 (unhide HX) ((unhide HIN).below P1)).mono ?_
    rintro e w8 ⟨⟨y3, rfl, yin3, yfr3, ysm3⟩, k8⟩
    cases y3 with
    | none => exact absurd yin3 (by simp [VT.In])
    | mk kt bt mt st tt at' lent capt kidt =>
    dsimp only [VT.val]
    have hlt3 := (same_parts ysm3).2.2.2.2.2.1
    subst hlt3
    have hsk := (same_parts ysm3).2.2.2.2.2.2 0 hl
    rw [hxk] at hsk
    have c9 := below1 w8 (Obj.cells #[.int .i64 kt, .bool bt, .int .i64 mt, .int .i64 st, .string tt, .slice at' lent capt] 26)
    have k9 := bstep k8 c9
    have y9 := yin3.below c9
    have f9 := VT.Fresh.below c9 _ yin3 yfr3
    have t9 : VT.Six (w8.alloc (Obj.cells #[.int .i64 kt, .bool bt, .int .i64 mt, .int .i64 st, .string tt, .slice at' lent capt] 26)) w8.heap.size 0 kt bt mt st tt at' lent capt := ⟨by simp, by go_simp, by go_simp, by go_simp, by go_simp, by go_simp, by go_simp⟩
    have z9 := k8.size
    obtain ⟨bl3, o3, kc, bc, mc, sc, tc, ac, lenc, capc, kidc, rfl, hxc, six9, iny, hnb3, fry, f0, f1, f2, f3, f4, f5⟩ := fresh_kid y9 f9 hl
    rw [hxc] at hsk
    have hlc := (same_parts hsk).2.2.2.2.2.1
    subst hlc
    obtain ⟨bl4, o4, kd, bd, md, sd, td, ad, lend, capd, kidd, rfl, hxd, six10, iny4, hnb4, fry4, h0, h1, h2, h3, h4, h5⟩ := fresh_kid iny fry hlk'
    obtain ⟨l0, l1, l2, l3, l4, l5, l6⟩ := id t9
    simp only [Nat.zero_add] at l1 l2 l3 l4 l5 l6
    obtain ⟨n0, n1, n2, n3, n4, n5, n6⟩ := id six9
    obtain ⟨r0, r1, r2, r3, r4, r5, r6⟩ := id six10
    have ee1 : ((lent : Int) == 0) = false := by simp; omega
    have ee2 : ((lenc : Int) == 0) = false := by simp; omega
    have P9 : Below w7.heap.size w7 (((((((w8.alloc (Obj.cells #[.int .i64 kt, .bool bt, .int .i64 mt, .int .i64 st, .string tt, .slice (some ⟨bl3, o3, none⟩) lent capt] 26)).setCell ⟨bl4, o4, none⟩ (.int .i64 3)).setCell ⟨bl4, o4 + 1, none⟩ (.bool false)).setCell ⟨bl4, o4 + 2, none⟩ (.int .i64 0)).setCell ⟨bl4, o4 + 3, none⟩ (.int .i64 0)).setCell ⟨bl4, o4 + 4, none⟩ (.string ⟨#[100, 101, 101, 112]⟩)).setCell ⟨bl4, o4 + 5, none⟩ (.slice none 0 0)) := put_below (w8.alloc (Obj.cells #[.int .i64 kt, .bool bt, .int .i64 mt, .int .i64 st, .string tt, .slice (some ⟨bl3, o3, none⟩) lent capt] 26)) bl4 (o4) (.int .i64 3) (.bool false) (.int .i64 0) (.int .i64 0) (.string ⟨#[100, 101, 101, 112]⟩) (.slice none 0 0) k9 (by omega)
    clear c9 k9 y9 f9 t9 iny fry f0 f1 f2 f3 f4 f5 yin3 yfr3 ysm3 hsk hxc hxd six9 six10 iny4 fry4 g0 g1 g2 g3 g4 g5 g6 j0 j1 j2 j3 j4 j5 j6 i0 i1 i2 i3 i4 i5 i6 k8
    go_upto_region 15 with fail
    generalize (((((((w8.alloc (Obj.cells #[.int .i64 kt, .bool bt, .int .i64 mt, .int .i64 st, .string tt, .slice (some ⟨bl3, o3, none⟩) lent capt] 26)).setCell ⟨bl4, o4, none⟩ (.int .i64 3)).setCell ⟨bl4, o4 + 1, none⟩ (.bool false)).setCell ⟨bl4, o4 + 2, none⟩ (.int .i64 0)).setCell ⟨bl4, o4 + 3, none⟩ (.int .i64 0)).setCell ⟨bl4, o4 + 4, none⟩ (.string ⟨#[100, 101, 101, 112]⟩)).setCell ⟨bl4, o4 + 5, none⟩ (.slice none 0 0)) = w10 at *
    have S2 := VT.Six.below P2 P9
    have S3 := VT.Six.below P3 P9
    have B10 := bstep P1 P9
    obtain ⟨g0, g1, g2, g3, g4, g5, g6⟩ := id S2
    simp only [Nat.zero_add] at g1 g2 g3 g4 g5 g6
    obtain ⟨i0, i1, i2, i3, i4, i5, i6⟩ := id S3
    simp only [Nat.zero_add] at i1 i2 i3 i4 i5 i6
    go_wp2_with fail
    have H := same_any (VT.mk kr br mr sr tr ar lenr capr kidr) (VT.mk 4 b m s t (some ⟨b1, o1, none⟩) lent cap kid) w10 (P4.1.below P9) ((unhide HIN).below B10)
    rw [unhide YSM2] at H
    refine H.mono ?_
    clear H
    rintro e w11 ⟨rfl, k11⟩
    go_wp2_with fail
    refine (known_any _).mono ?_
    rintro e w12 ⟨rfl, k12⟩
    go_wp2_with fail
    go_ret
    exact ⟨rfl, bstep B10 (bstep k11 k12)⟩
end Go.Proofs.Ythccmlkcdinfdac
