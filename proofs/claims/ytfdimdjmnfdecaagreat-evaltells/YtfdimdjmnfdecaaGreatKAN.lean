/- Math7 Math8 EOk EBare ELook EEach: laid together. -/
import Derived.Test.YtfdimdjmnfdecaaGreatKAK
set_option linter.unusedVariables false
set_option linter.unusedSimpArgs false
set_option maxHeartbeats 8000000
namespace Go.Proofs.YtfdimdjmnfdecaaGreat
open Go.RowKit
section
theorem up_self (m s : Int) (h1 : 0 ≤ s) : upM m s (max 0 s) = m := by
 unfold upM
 rw [show (max 0 s - s).toNat = 0 by omega]
 show m * 1 = m
 omega
end
section
theorem okM_neg (m : Int) : okM (-m) = okM m := by
 unfold okM
 rw [decide_eq_decide]
 omega
theorem isB_neg (m s : Int) : isB (-m) s = isB m s := by
 unfold isB
 rw [okM_neg, show decide (-m % 10 ≠ 0) = decide (m % 10 ≠ 0) by rw [decide_eq_decide]; omega]
end
section
open VT (leaf mkV)
def okE (l : List VT) : Prop := ∀ v ∈ l, v.okB 2 = true
theorem ok_nil : nilV.okB 2 = true := by simp [nilV, VT.leaf, VT.okB, aloneB]
theorem ok_boo (b : Bool) : (booV b).okB 2 = true := by simp [booV, VT.leaf, VT.okB, aloneB]
theorem ok_num {m s : Int} (h : isB m s = true) : (numV m s).okB 2 = true := by
 unfold numV VT.leaf VT.okB aloneB
 simp [h]
theorem ok_leaf01 {k : Int} (b : Bool) (hk : k = 0 ∨ k = 1) (hb : k = 0 → b = false) : (leaf k b 0 0 ⟨#[]⟩).okB 2 = true := by
 rcases hk with rfl | rfl
 ·rw [hb rfl]; simp [VT.leaf, VT.okB, aloneB]
 ·simp [VT.leaf, VT.okB, aloneB]
theorem ok_rel (l : List UInt8) (x y : VT) : (relT l x y).okB 2 = true := by
 unfold relT
 repeat (first | exact ok_nil | exact ok_boo _ | split)
theorem ok_and (x y : VT) : (andV x y).okB 2 = true := by
 unfold andV
 generalize unB (kdV x) (booOf x) = a
 generalize unB (kdV y) (booOf y) = b
 generalize trB (kdV x) (booOf x) = c
 generalize trB (kdV y) (booOf y) = d
 exact ok_leaf01 _ (by cases a <;> cases b <;> cases c <;> cases d <;> decide) (by cases a <;> cases b <;> cases c <;> cases d <;> decide)
theorem ok_or (x y : VT) : (orV x y).okB 2 = true := by
 unfold orV
 generalize unB (kdV x) (booOf x) = a
 generalize unB (kdV y) (booOf y) = b
 generalize trB (kdV x) (booOf x) = c
 generalize trB (kdV y) (booOf y) = d
 exact ok_leaf01 _ (by cases a <;> cases b <;> cases c <;> cases d <;> decide) (by cases a <;> cases b <;> cases c <;> cases d <;> decide)
theorem ok_not (x : VT) : (notV x).okB 2 = true := by
 unfold notV notK notB
 by_cases h : kdV x = 1
 ·rw [if_pos h, if_pos h]; exact ok_boo _
 ·rw [if_neg h, if_neg h]; exact ok_nil
theorem ok_fit (x z : Int) : (fitR x z).1.okB 2 = true := by
 unfold fitR recT
 split
 ·rename_i h; exact ok_num (fit_is x z h)
 ·exact ok_nil
theorem tex_ok' (t : ByteArray) (n : Nat) : (texV t).okB n = textB t := by
 unfold texV VT.leaf VT.okB aloneB
 simp
theorem ok_cat {l : List VT} (h : okE l) : (catT l).1.okB 2 = true := by
 unfold catT
 split
 ·exact ok_nil
 split
 ·exact ok_nil
 ·rename_i h1 h2
  rw [tex_ok']
  have hall : (l.all fun v => kdV v == 3) = true := by
   cases hb : (l.all fun v => kdV v == 3)
   ·exact absurd (.inr hb) h1
   ·rfl
  unfold textB
  simp only [Bool.and_eq_true, decide_eq_true_eq]
  refine ⟨by simp [ByteArray.size]; omega, ?_⟩
  simp only [List.all_eq_true]
  intro c hc
  simp only [catV, List.mem_flatMap] at hc
  obtain ⟨v, hv, hc⟩ := hc
  have hk := List.all_eq_true.1 hall v hv
  have ho := h v hv
  cases v with
  | none => exact absurd ho (by simp [VT.okB])
  | mk k b m s t a len cap kid =>
   have : k = 3 := by simpa [kdV] using hk
   subst this
   have := okB_txt ho
   simp only [textB, Bool.and_eq_true, List.all_eq_true] at this
   exact this.2 c hc
theorem ok_reco {l : List UInt8} {x y : VT} (hx : x.okB 2 = true) (hy : y.okB 2 = true) : (recoT l x y).1.okB 2 = true := by
 unfold recoT addR subR mulR divR
 have hc : (catT [x, y]).1.okB 2 = true := ok_cat (fun v hv => by
  rcases List.mem_cons.1 hv with h | h
  ·rw [h]; exact hx
  rcases List.mem_cons.1 h with h | h
  ·rw [h]; exact hy
  ·cases h)
 repeat (first | exact ok_nil | exact hc | exact ok_fit _ _ | split)
theorem ok_bin {l : List UInt8} {x y : VT} (hx : x.okB 2 = true) (hy : y.okB 2 = true) : (binT l x y).1.okB 2 = true := by
 unfold binT
 repeat (first | exact ok_and _ _ | exact ok_or _ _ | exact ok_reco hx hy | exact ok_rel _ _ _ | split)
theorem ok_neg {x : VT} : (negT x).1.okB 2 = true := by
 unfold negT subR
 split
 ·exact ok_fit _ _
 ·exact ok_nil
theorem ok_lis {l : List VT} : (lisT l).1.okB 2 = true := by
 unfold lisT
 split
 ·assumption
 ·exact ok_nil
theorem num_of_ok {x : VT} (h : x.okB 2 = true) (hk : kdV x = 2) : isB (mOf x) (sOf x) = true := by
 cases x with
 | none => exact absurd h (by simp [VT.okB])
 | mk k b m s t a len cap kid =>
  have : k = 2 := hk
  subst this
  exact okB_num h
theorem isB_whole {m : Int} (h1 : -1000000000 ≤ m) (h2 : m ≤ 1000000000) : isB m 0 = true := by
 unfold isB okM
 simp [h1, h2]
theorem ok_one {l : List UInt8} {x : VT} (hx : x.okB 2 = true) : (oneT l x).okB 2 = true := by
 unfold oneT
 split
 ·exact ok_not x
 split
 ·rename_i h
  have hb := num_of_ok hx h.2
  by_cases hm : mOf x < -(mOf x)
  ·rw [show max (mOf x) (-(mOf x)) = -(mOf x) by omega]
   exact ok_num (by rw [isB_neg]; exact hb)
  ·rw [show max (mOf x) (-(mOf x)) = mOf x by omega]
   exact ok_num hb
 split
 ·rename_i h
  have hb := isB_bd (num_of_ok hx h.2)
  have := div_abs (mOf x) (p10 (sOf x).toNat) 1000000000 (p10_pos _) (by omega) hb.1 hb.2.1
  exact ok_num (isB_whole this.1 this.2)
 split
 ·rename_i h
  have hb := isB_bd (num_of_ok hx h.2)
  have := div_abs (-(mOf x)) (p10 (sOf x).toNat) 1000000000 (p10_pos _) (by omega) (by omega) (by omega)
  exact ok_num (isB_whole (by omega) (by omega))
 split
 ·rename_i h
  have ht : (tOf x).size ≤ 16 := by
   cases x with
   | none => exact absurd hx (by simp [VT.okB])
   | mk k b m s t a len cap kid =>
    have : k = 3 := h.2
    subst this
    have := okB_txt hx
    simp only [textB, Bool.and_eq_true, decide_eq_true_eq] at this
    exact this.1
  exact ok_num (isB_whole (by omega) (by omega))
 split
 ·rename_i h
  have ht : (lOf x).length ≤ 8 := by
   cases x with
   | none => exact absurd hx (by simp [VT.okB])
   | mk k b m s t a len cap kid =>
    have : k = 4 := h.2
    subst this
    have := (okB_list hx).1
    simpa [lOf] using this
  exact ok_num (isB_whole (by omega) (by omega))
 ·exact ok_nil
theorem ok_two {l : List UInt8} {x y : VT} (hx : x.okB 2 = true) (hy : y.okB 2 = true) : (twoT l x y).okB 2 = true := by
 unfold twoT
 split
 ·rename_i h
  have hb := isB_bd (num_of_ok hy h.2.2)
  unfold modV
  split
  ·exact ok_nil
  ·rename_i hn
   have hn' : mOf y ≠ 0 := fun e => hn (.inr (.inr e))
   have tb := tmod_bd (mOf x) (mOf y) hn' hb.1 hb.2.1
   split
   ·rename_i hr
    refine ok_num (isB_whole ?_ ?_)
    ·by_cases h3 : (mOf x).tmod (mOf y) < 0 <;> by_cases h4 : mOf y < 0 <;> simp [h3, h4] at hr <;> omega
    ·by_cases h3 : (mOf x).tmod (mOf y) < 0 <;> by_cases h4 : mOf y < 0 <;> simp [h3, h4] at hr <;> omega
   ·exact ok_num (isB_whole (by omega) (by omega))
 split
 ·exact ok_boo _
 ·exact ok_nil
theorem ok_fix {nm : List UInt8} {l : List VT} (h : okE l) : (fixT nm l).okB 2 = true := by
 match l, h with
 | [], _ => exact ok_nil
 | [x], h => exact ok_one (h x (by simp))
 | [x, y], h => exact ok_two (h x (by simp)) (h y (by simp))
 | x :: y :: z :: l, _ => exact ok_nil
theorem fur_ok (way : Int) (l : List VT) : ∀ d, isB d.1 d.2 = true → (∀ v ∈ l, isB (mOf v) (sOf v) = true) → isB (furD way l d).1 (furD way l d).2 = true := by
 induction l with
 | nil => intro d h _; exact h
 | cons v l ih =>
  intro d h hl
  unfold furD
  refine ih _ ?_ (fun u hu => hl u (by simp [hu]))
  split
  ·exact hl v (by simp)
  ·exact h
theorem ok_sum (l : List VT) : ∀ d, isB d.1 d.2 = true → (sumT l d).1.okB 2 = true := by
 induction l with
 | nil => intro d h; exact ok_num h
 | cons v l ih =>
  intro d h
  unfold sumT
  split
  ·rename_i h1
   exact ih _ (fit_is _ _ h1)
  ·exact ok_nil
theorem ok_ov {nm : List UInt8} {l : List VT} (h : okE l) : (ovT nm l).1.okB 2 = true := by
 unfold ovT
 split
 ·exact ok_nil
 rename_i h1
 have hall : (l.all fun v => kdV v == 2) = true := by
  cases hb : (l.all fun v => kdV v == 2)
  ·exact absurd hb h1
  ·rfl
 have hb : ∀ v ∈ l, isB (mOf v) (sOf v) = true := fun v hv => num_of_ok (h v hv) (by simpa using List.all_eq_true.1 hall v hv)
 have hf : ∀ way, (furV way l).okB 2 = true := by
  intro way
  cases l with
  | nil => exact ok_nil
  | cons v l => exact ok_num (fur_ok way l _ (hb v (by simp)) (fun u hu => hb u (by simp [hu])))
 split
 ·exact hf _
 split
 ·exact hf _
 ·exact ok_sum l _ rfl
theorem ok_over {nm : List UInt8} {l : List VT} (h : okE l) : (overT nm l).1.okB 2 = true := by
 unfold overT
 split
 ·exact ok_nil
 ·refine ok_ov ?_
  cases hl : oneL l with
  | none => exact h
  | some l' =>
   match l, h, hl with
   | [x], h, hl =>
    simp only [oneL] at hl
    split at hl
    ·rename_i h4
     simp only [Option.some.injEq] at hl
     subst hl
     have hx := h x (by simp)
     cases x with
     | none => exact absurd hx (by simp [VT.okB])
     | mk k b m s t a len cap kid =>
      have : k = 4 := h4
      subst this
      intro v hv
      simp only [Option.getD_some, lOf, List.mem_map, List.mem_range] at hv
      obtain ⟨i, hi, rfl⟩ := hv
      exact okB_up ((okB_list hx).2 i hi)
    ·cases hl
theorem ok_call {nm : List UInt8} {l : List VT} (h : okE l) : (callT nm l).1.okB 2 = true := by
 unfold callT
 split
 ·exact ok_cat h
 split
 ·exact ok_over h
 ·exact ok_fix h
theorem ok_look {es : List (List UInt8 × VT)} (h : ∀ e ∈ es, e.2.okB 2 = true) (t : List UInt8) : (lookT es t).okB 2 = true := by
 induction es with
 | nil => exact ok_nil
 | cons e es ih =>
  obtain ⟨n, v⟩ := e
  unfold lookT
  split
  ·exact h (n, v) (by simp)
  ·exact ih (fun e he => h e (by simp [he]))
theorem kids_ok {f : Nat → VT × Int} {n : Nat} (h : ∀ i, i < n → (f i).1.okB 2 = true) : okE (kidsT f n).1 := by
 induction n with
 | zero => intro v hv; cases hv
 | succ n ih =>
  have hi := ih (fun i hi => h i (by omega))
  unfold kidsT
  split
  ·split
   ·intro v hv
    rcases List.mem_append.1 hv with hv | hv
    ·exact hi v hv
    ·rw [List.mem_singleton.1 hv]; exact h n (by omega)
   ·intro v hv; cases hv
  ·intro v hv; cases hv
theorem kids_len {f : Nat → VT × Int} {n : Nat} (h : (kidsT f n).2 = 0) : (kidsT f n).1.length = n := by
 induction n with
 | zero => rfl
 | succ n ih =>
  unfold kidsT at h ⊢
  split at h
  ·rename_i h1
   rw [if_pos h1]
   split at h
   ·rename_i h2
    rw [if_pos h2, List.length_append, ih h1]; rfl
   ·rename_i h2; exact absurd h h2
  ·rename_i h1; exact absurd h h1
theorem ok_ev {env : List (List UInt8 × VT)} (he : ∀ e ∈ env, e.2.okB 2 = true) (x : XT) : (evT env x).1.okB 2 = true := by
 induction x with
 | none => exact ok_nil
 | mk k b m s t lo hi a len cap kid ih =>
  unfold evT
  split
  ·exact ok_nil
  rename_i hs
  have hs : souB k m s t len = true := by cases h : souB k m s t len; exact absurd h hs; rfl
  split
  ·exact ok_nil
  split
  ·exact ok_boo _
  split
  ·rename_i h3; subst h3; exact ok_num (by simpa [souB] using hs)
  split
  ·rename_i h4; subst h4; rw [tex_ok']; simpa [souB] using hs
  split
  ·exact ok_look he _
  split
  ·split
   ·split
    ·exact ih 1
    ·exact ih 2
   ·exact ok_nil
  split
  ·rename_i h1 h2 h3 h4 h5 h8 hk
   have hko := kids_ok (f := fun i => evT env (kid i)) (n := len) (fun i _ => ih i)
   have hkl := kids_len (f := fun i => evT env (kid i)) (n := len) hk
   generalize (kidsT (fun i => evT env (kid i)) len).1 = l at *
   unfold joinT
   split
   ·rename_i h6
    subst h6
    obtain rfl : len = 2 := by simpa [souB] using hs
    match l, hkl, hko with
    | [x, y], _, hko => exact ok_bin (hko x (by simp)) (hko y (by simp))
   split
   ·exact ok_neg
   split
   ·exact ok_lis
   split
   ·exact ok_call hko
   ·exact ok_and _ _
  ·exact ok_nil
end
section
open VT (leaf mkV)
theorem rel_bare (l : List UInt8) (x y : VT) : relT l x.bare y.bare = relT l x y := by
 unfold relT
 rw [VT.cmp_bare, kd_bare, kd_bare]
theorem and_bare (x y : VT) : andV x.bare y.bare = andV x y := by unfold andV; rw [kd_bare, kd_bare, boo_bare, boo_bare]
theorem or_bare (x y : VT) : orV x.bare y.bare = orV x y := by unfold orV; rw [kd_bare, kd_bare, boo_bare, boo_bare]
theorem not_bare (x : VT) : notV x.bare = notV x := by unfold notV; rw [kd_bare, boo_bare]
theorem catV_bare (l : List VT) : catV (l.map VT.bare) = catV l := by
 unfold catV
 rw [List.flatMap_map]
 simp only [Function.comp_def, t_bare]
theorem all_bare (l : List VT) (q : Int) : ((l.map VT.bare).all fun v => kdV v == q) = l.all fun v => kdV v == q := by
 rw [List.all_map]
 simp only [Function.comp_def, kd_bare]
theorem cat_bare (l : List VT) : catT (l.map VT.bare) = catT l := by
 unfold catT
 rw [catV_bare, all_bare]
 simp only [List.map_eq_nil_iff]
theorem reco_bare (l : List UInt8) (x y : VT) : recoT l x.bare y.bare = recoT l x y := by
 unfold recoT
 rw [kd_bare, kd_bare, m_bare, m_bare, s_bare, s_bare, show [x.bare, y.bare] = [x, y].map VT.bare from rfl, cat_bare]
theorem bin_bare (l : List UInt8) (x y : VT) : binT l x.bare y.bare = binT l x y := by
 unfold binT
 rw [and_bare, or_bare, reco_bare, rel_bare]
theorem neg_bare (x : VT) : negT x.bare = negT x := by unfold negT; rw [kd_bare, m_bare, s_bare]
theorem one_bare (l : List UInt8) (x : VT) : oneT l x.bare = oneT l x := by
 unfold oneT
 rw [not_bare, kd_bare, m_bare, s_bare, t_bare, l_bare, List.length_map]
theorem two_bare (l : List UInt8) (x y : VT) : twoT l x.bare y.bare = twoT l x y := by
 unfold twoT hasV
 rw [kd_bare, kd_bare, m_bare, m_bare, s_bare, s_bare, l_bare, List.any_map]
 simp only [Function.comp_def, VT.cmp_bare]
theorem fix_bare (nm : List UInt8) (l : List VT) : fixT nm (l.map VT.bare) = fixT nm l := by
 match l with
 | [] => rfl
 | [x] => exact one_bare nm x
 | [x, y] => exact two_bare nm x y
 | x :: y :: z :: l => rfl
theorem furD_bare (way : Int) (l : List VT) : ∀ d, furD way (l.map VT.bare) d = furD way l d := by
 induction l with
 | nil => intro d; rfl
 | cons v l ih =>
  intro d
  rw [List.map_cons, furD, furD, ih, m_bare, s_bare]
theorem furV_bare (way : Int) (l : List VT) : furV way (l.map VT.bare) = furV way l := by
 cases l with
 | nil => rfl
 | cons v l => rw [List.map_cons, furV, furV, furD_bare, m_bare, s_bare]
theorem sum_bare (l : List VT) : ∀ d, sumT (l.map VT.bare) d = sumT l d := by
 induction l with
 | nil => intro d; rfl
 | cons v l ih =>
  intro d
  rw [List.map_cons, sumT, sumT, ih, m_bare, s_bare]
theorem ov_bare (nm : List UInt8) (l : List VT) : ovT nm (l.map VT.bare) = ovT nm l := by
 unfold ovT
 rw [all_bare, furV_bare, furV_bare, sum_bare]
theorem oneL_bare (l : List VT) : oneL (l.map VT.bare) = (oneL l).map (List.map VT.bare) := by
 match l with
 | [] => rfl
 | [x] =>
  show (if kdV x.bare = 4 then _ else _) = Option.map _ (if kdV x = 4 then _ else _)
  rw [kd_bare, l_bare]
  split <;> rfl
 | x :: y :: l => rfl
theorem over_bare (nm : List UInt8) (l : List VT) : overT nm (l.map VT.bare) = overT nm l := by
 unfold overT
 rw [oneL_bare]
 simp only [List.map_eq_nil_iff]
 cases oneL l with
 | none => simp only [Option.map_none, Option.getD_none, ov_bare]
 | some l' => simp only [Option.map_some, Option.getD_some, ov_bare]
theorem call_bare (nm : List UInt8) (l : List VT) : callT nm (l.map VT.bare) = callT nm l := by
 unfold callT
 rw [cat_bare, over_bare, fix_bare]
theorem in_bare (lo hi : Bool) (x y z : VT) : inT lo hi x.bare y.bare z.bare = inT lo hi x y z := by
 unfold inT
 rw [rel_bare, rel_bare]
theorem wf_in {n : Int} (h1 : -9223372036854775808 ≤ n) (h2 : n ≤ 9223372036854775807) : (Go.Lit.int .i64 n).wf = true := by
 simp [Go.Lit.wf, Go.IntKind.min, Go.IntKind.max, Go.IntKind.signed, Go.IntKind.bits]
 omega
end
section
open VT (leaf mkV)
theorem drop_consE {l : List (ByteArray × VT)} {i : Nat} (h : i < l.length) : l.drop i = l[i] :: l.drop (i + 1) := List.drop_eq_getElem_cons h
theorem tl_eq {t t' : ByteArray} : XT.tl t = XT.tl t' ↔ t.toList = t'.toList := by
 unfold XT.tl
 rw [ByteArray.toList_eq, ByteArray.toList_eq]
theorem look_any (t : ByteArray) (a : Option Addr) (cap : Nat) (es : List (ByteArray × VT)) (w : World) (hin : EnvIn w a es) (hlen : es.length ≤ maxLen) (hok : ∀ e ∈ es, e.2.okB 2 = true) :
  Calls Tryz.prog 24 #[.string t, .slice a es.length cap] w fun e w' => (∃ v, e = .returned v ∧ VRes w.heap.size w' (lookT (envT es) (XT.tl t)) v) ∧ Below w.heap.size w w' := by
 have hlm := hlen
 unfold maxLen at hlm
 generalize hR : lookT (envT es) (XT.tl t) = R
 have HR : Hid (lookT (envT (es.drop 0)) (XT.tl t) = R) := hide (by rw [List.drop_zero]; exact hR)
 clear hR hlen
 have HOK := hide hok
 have b0 := bZ w
 have O0 := Own.new w 32
 have hin1 := hin.below b0
 have z0 : (w.alloc (Obj.cells #[.int .i64 0, .bool false, .int .i64 0, .int .i64 0, .string ⟨#[]⟩, .slice none 0 0] 32)).heap.size = w.heap.size + 1 := by simp
 clear hin hok
 go_enter Tryz.func24, Tryz.ntmps24
 go_wp2_with fail
 generalize w.alloc (Obj.cells #[.int .i64 0, .bool false, .int .i64 0, .int .i64 0, .string ⟨#[]⟩, .slice none 0 0] 32) = V at *
 go_loopw [9] (fun i wr => ∃ (j : Nat), j ≤ es.length ∧ i = .int .i64 j ∧ Hid (lookT (envT (es.drop j)) (XT.tl t) = R) ∧ Below V.heap.size V wr) (fun i _ => es.length - (intOf i).toNat)
 case atStart => exact ⟨0, Nat.zero_le _, rfl, HR, Below.refl _ _⟩
 case round =>
  clear HR
  obtain ⟨j, hj, rfl, HR, bel⟩ := hrel
  have zz := bel.size
  have O1 := O0.below bel
  have B1 := bstep b0 bel
  by_cases hlt : j < es.length
  ·obtain ⟨bl, o, n, k', b', m', s', t', a', len', cap', kid', rfl, hx, sev, hk⟩ := hin1.at hlt
   have hokj : (VT.mk k' b' m' s' t' a' len' cap' kid').okB 2 = true := by have := unhide HOK es[j] (List.getElem_mem hlt); rw [hx] at this; exact this
   obtain ⟨s0, s1, s2, s3, s4, s5, s6, s7⟩ := sev.below bel
   have b1 := below1 wr (Obj.cells #[.string n, .int .i64 k', .bool b', .int .i64 m', .int .i64 s', .string t', .slice a' len' cap'] 48)
   have CP := hide (copy_any (VT.mk k' b' m' s' t' a' len' cap' kid') _ hokj ((hk.below bel).below b1))
   have O2 := O1.below b1
   have B2 := bstep B1 b1
   by_cases hn : n.toList = t.toList
   ·have HR2 := hide (show R = (VT.mk k' b' m' s' t' a' len' cap' kid').bare by
     have := unhide HR
     rw [drop_consE hlt, hx] at this
     rw [← this]
     show (if XT.tl n = XT.tl t then _ else _) = _
     rw [if_pos (tl_eq.2 hn)])
    clear HR hk hx hin1 sev O1 B1 bel hokj
    go_wp2_with fail
    refine (unhide CP).mono ?_
    rintro e w2 ⟨⟨y, rfl, yin, yfr, ysm⟩, k2⟩
    have O3 := O2.below k2
    have B3 := bstep B2 k2
    have z2 := k2.size
    simp at z2
    obtain ⟨ky, by', my, sy, ty, ay, ly, cy, kidy, rfl⟩ := yin.form
    dsimp only [VT.val]
    have YB := hide ((VT.bare_of_same _ _ ysm).trans (unhide HR2).symm)
    have YL := hide (VT.Fresh.lies yfr)
    have YI := hide yin
    clear yin yfr ysm k2 O2 B2 s0 s1 s2 s3 s4 s5 s6 s7 b1 CP
    obtain ⟨u0, t0, t1, t2, t3, t4, t5, f0, f1, f2, f3, f4, f5⟩ := Own.fl O3
    go_wp2_with fail
    refine bodyPost_ret (v := .agg #[.int .i64 ky, .bool by', .int .i64 my, .int .i64 sy, .string ty, .slice ay ly cy]) (by simp [results, Tryz.results24, go_sem, t0, t1, t2, t3, t4, t5]) rfl ⟨⟨_, rfl, .mk ky by' my sy ty ay ly cy kidy, rfl, ?_, ?_, unhide YB⟩, zBL⟩
    ·exact VT.In.kept (fun bl o _ hq => put_cell w2 w.heap.size 0 _ _ _ _ _ _ (by simp at hq; omega)) _ (unhide YI) (unhide YL)
    ·exact (unhide YL).weak (fun g hg => by simp at hg; omega)
   ·have HR2 := hide (show lookT (envT (es.drop (j + 1))) (XT.tl t) = R by
     have := unhide HR
     rw [drop_consE hlt, hx] at this
     rw [← this]
     show _ = (if XT.tl n = XT.tl t then _ else _)
     rw [if_neg (fun e => hn (tl_eq.1 e))]
     rfl)
    have e1 : (n.toList == t.toList) = false := by simpa using hn
    clear HR hk hx hin1 sev hokj
    go_wp2_with fail
    go_roundw
    case rel => exact ⟨j + 1, by omega, by go_num, HR2, bstep bel b1⟩
    case measure => simp [intOf]; omega
  ·have HR2 := hide (show R = nilV by have := unhide HR; rw [List.drop_of_length_le (by omega)] at this; exact this.symm)
   clear HR hin1
   obtain ⟨u0, t0, t1, t2, t3, t4, t5, f0, f1, f2, f3, f4, f5⟩ := Own.fl O1
   go_wp2_with fail
   refine bodyPost_ret (v := lfv 0 false 0 0 ⟨#[]⟩) (by simp [results, Tryz.results24, go_sem, lfv, t0, t1, t2, t3, t4, t5]) rfl ⟨⟨_, rfl, nilV, rfl, VT.in_leaf rfl rfl rfl (Nat.zero_le _), VT.lies_leaf _ _ _ _ _ _ _ _ _, ?_⟩, zBL⟩
   rw [unhide HR2]
   exact VT.bare_leaf _ _ _ _ _ _ _ _
end
section
open VT (leaf mkV)
def fitX : XT → Prop
 | .none => True
 | .mk _ _ _ _ t _ _ _ len _ kid => t.size ≤ maxLen ∧ len ≤ 3000000000000 ∧ ∀ i, i < len → fitX (kid i)
def EvRes (N : Nat) (X : VT × Int) (e : Ending) (w' : World) : Prop := ∃ v, e = .returned (.tuple #[v, .int .i64 X.2]) ∧ VRes N w' X.1 v
def EvOf (x : XT) : Prop := ∀ (es : List (ByteArray × VT)) (a9 : Option Addr) (c9 : Nat) (w : World), x.In (fun _ => True) w → fitX x → EnvIn w a9 es → es.length ≤ maxLen → (∀ e ∈ es, e.2.okB 2 = true) →
  Calls Tryz.prog 11 #[x.val, .slice a9 es.length c9] w fun e w' => EvRes w.heap.size (evT (envT es) x) e w' ∧ Below w.heap.size w w'
theorem make_big (n : Nat) (hn : n ≤ 3000000000000) (w : World) :
  (Instr.makeSlice 30 (.int .i64 (n : Int)) (.int .i64 (n : Int))).run Tryz.prog w = .ok (.slice (some ⟨w.heap.size, 0, none⟩) n n) (w.alloc (.cells (madeCells #[.int .i64 0, .bool false, .int .i64 0, .int .i64 0, .string ⟨#[]⟩, .slice none 0 0] (n * 6)) 32)) := by
 obtain ⟨i, hi, hzz⟩ := Option.map_eq_some_iff.1 infoVal
 simp only [Prod.mk.injEq] at hzz
 obtain ⟨hz, hs, hb⟩ := hzz
 have hr := run_make (P := Tryz.prog) w 30 32 i _ Tryz.underlying30 hi hz .i64 .i64 n n (by omega) (by omega) (by rw [hb]; omega) (by omega)
 simp only [Int.toNat_natCast, hs] at hr
 exact hr
def RowAt (wr : World) (g len j : Nat) (y : Nat → VT) : Prop := ∃ F, wr.rowIs g 32 (len * 6) F ∧ ∀ i, i < j → (∀ q, q < 6 → (y i).cells[q]? = some (F (i * 6 + q))) ∧ (y i).In wr ∧ (y i).Lies (fun h => g < h)
theorem RowAt.below {wr w' : World} {g len j : Nat} {y : Nat → VT} (h : RowAt wr g len j y) (k : Below wr.heap.size wr w') : RowAt w' g len j y := by
 obtain ⟨F, h1, h2⟩ := h
 exact ⟨F, row_below h1 k, fun i hi => ⟨(h2 i hi).1, (h2 i hi).2.1.below k, (h2 i hi).2.2⟩⟩
theorem RowAt.lt {wr : World} {g len j : Nat} {y : Nat → VT} (h : RowAt wr g len j y) : g < wr.heap.size := by
 obtain ⟨F, h1, h2⟩ := h
 exact h1.lt
theorem RowAt.put {wr : World} {g len j : Nat} {y : Nat → VT} (h : RowAt wr g len j y) (hj : j < len) {k : Int} {b : Bool} {m s : Int} {t : ByteArray} {a : Option Addr} {ln cap : Nat} {kid : Nat → VT} (hx : (VT.mk k b m s t a ln cap kid).In wr) (hl : (VT.mk k b m s t a ln cap kid).Lies (fun h => g < h)) :
  RowAt ((((((wr.setCell ⟨g, j * 6, none⟩ (.int .i64 k)).setCell ⟨g, j * 6 + 1, none⟩ (.bool b)).setCell ⟨g, j * 6 + 2, none⟩ (.int .i64 m)).setCell ⟨g, j * 6 + 3, none⟩ (.int .i64 s)).setCell ⟨g, j * 6 + 4, none⟩ (.string t)).setCell ⟨g, j * 6 + 5, none⟩ (.slice a ln cap)) g len (j + 1) (fun i => if i = j then VT.mk k b m s t a ln cap kid else y i) := by
 obtain ⟨F, h1, h2⟩ := h
 have kc : ∀ x : VT, x.In wr → x.Lies (fun h => g < h) → x.In ((((((wr.setCell ⟨g, j * 6, none⟩ (.int .i64 k)).setCell ⟨g, j * 6 + 1, none⟩ (.bool b)).setCell ⟨g, j * 6 + 2, none⟩ (.int .i64 m)).setCell ⟨g, j * 6 + 3, none⟩ (.int .i64 s)).setCell ⟨g, j * 6 + 4, none⟩ (.string t)).setCell ⟨g, j * 6 + 5, none⟩ (.slice a ln cap)) :=
  fun x hx hl => VT.In.kept (fun bl o _ hq => put_cell wr g (j * 6) _ _ _ _ _ _ (by omega)) x hx hl
 refine ⟨_, put_row wr g (j * 6) _ _ _ _ _ _ h1, fun i hi => ?_⟩
 by_cases hij : i = j
 ·subst hij
  dsimp only
  rw [if_pos rfl]
  refine ⟨fun q hq => ?_, kc _ hx hl, hl⟩
  obtain ⟨p0, p1, p2, p3, p4, p5⟩ := putF_in (i * 6) (.int .i64 k) (.bool b) (.int .i64 m) (.int .i64 s) (.string t) (.slice a ln cap) F
  match q, hq with
  | 0, _ => exact congrArg some p0.symm
  | 1, _ => exact congrArg some p1.symm
  | 2, _ => exact congrArg some p2.symm
  | 3, _ => exact congrArg some p3.symm
  | 4, _ => exact congrArg some p4.symm
  | 5, _ => exact congrArg some p5.symm
 ·dsimp only
  rw [if_neg hij]
  have hi' : i < j := by omega
  refine ⟨fun q hq => ?_, kc _ (h2 i hi').2.1 (h2 i hi').2.2, (h2 i hi').2.2⟩
  rw [putF_out (by omega)]
  exact (h2 i hi').1 q hq
theorem RowAt.row {wr : World} {g len : Nat} {y : Nat → VT} (h : RowAt wr g len len y) (hlen : len ≤ maxLen) : (rowT (some ⟨g, 0, none⟩) len ((List.range len).map y)).In wr ∧ (rowT (some ⟨g, 0, none⟩) len ((List.range len).map y)).Lies (fun h => g ≤ h) := by
 obtain ⟨F, h1, h2⟩ := h
 have e : ∀ i, i < len → ((List.range len).map y).getD i .none = y i := fun i hi => by simp [hi]
 unfold rowT
 refine ⟨⟨⟨rfl, rfl, rfl, Nat.zero_le _, by simp, hlen⟩, fun i hi => ?_⟩, fun i hi => ?_⟩
 ·have hi' : i < len := by simpa using hi
  dsimp only
  rw [e i hi']
  refine ⟨⟨g, 0, rfl, fun j hj => ?_⟩, (h2 i hi').2.1⟩
  rw [Nat.zero_add, h1.cell (i := i * 6 + j) (by omega)]
  exact ((h2 i hi').1 j hj).symm
 ·have hi' : i < len := by simpa using hi
  dsimp only
  rw [e i hi']
  exact ⟨⟨g, 0, rfl, Nat.le_refl _⟩, (h2 i hi').2.2.weak (fun h hh => by omega)⟩
theorem kids_stop {f : Nat → VT × Int} {n j : Nat} {e : Int} (hj : j ≤ n) (he : e ≠ 0) (h : kidsT f j = ([], e)) : kidsT f n = ([], e) := by
 induction n with
 | zero => obtain rfl : j = 0 := by omega
           exact h
 | succ n ih =>
  by_cases hjn : j = n + 1
  ·subst hjn; exact h
  ·have := ih (by omega)
   unfold kidsT
   rw [this, if_neg he]
def EachRes (N : Nat) (X : List VT × Int) (e : Ending) (w' : World) : Prop :=
 (X.2 ≠ 0 ∧ e = .returned (.tuple #[.slice none 0 0, .int .i64 X.2])) ∨ (X.2 = 0 ∧ ∃ g cap l, e = .returned (.tuple #[.slice (some ⟨g, 0, none⟩) l.length cap, .int .i64 0]) ∧ (rowT (some ⟨g, 0, none⟩) cap l).In w' ∧ (rowT (some ⟨g, 0, none⟩) cap l).Lies (fun h => N ≤ h) ∧ l.map VT.bare = X.1)
theorem each_any (k : Int) (b : Bool) (m s : Int) (t : ByteArray) (lo hi : Bool) (a : Option Addr) (len cap : Nat) (kid : Nat → XT) (ih : ∀ i, EvOf (kid i)) (es : List (ByteArray × VT)) (a9 : Option Addr) (c9 : Nat) (w : World) (hin : (XT.mk k b m s t lo hi a len cap kid).In (fun _ => True) w) (hfit : fitX (XT.mk k b m s t lo hi a len cap kid)) (henv : EnvIn w a9 es) (hel : es.length ≤ maxLen) (hok : ∀ e ∈ es, e.2.okB 2 = true) :
  Calls Tryz.prog 26 #[.slice a len cap, .slice a9 es.length c9] w fun e w' => EachRes w.heap.size (kidsT (fun i => evT (envT es) (kid i)) len) e w' ∧ Below w.heap.size w w' := by
 obtain ⟨hft, hfl, hfk⟩ := hfit
 have hmk := make_big len hfl
 have HFK := hide hfk
 have HEL := hide hel
 have HOK := hide hok
 have HIH := hide ih
 have hlm : len ≤ 9223372036854775807 := by omega
 generalize hf : (fun i => evT (envT es) (kid i)) = f
 have HF := hide (fun i => (congrFun hf i).symm)
 clear hf hel hok ih hfk hft
 go_enter Tryz.func26, Tryz.ntmps26
 go_wp2_with fail
 have b0 := below1 w (Obj.cells (madeCells #[.int .i64 0, .bool false, .int .i64 0, .int .i64 0, .string ⟨#[]⟩, .slice none 0 0] (len * 6)) 32)
 have R0 : RowAt (w.alloc (Obj.cells (madeCells #[.int .i64 0, .bool false, .int .i64 0, .int .i64 0, .string ⟨#[]⟩, .slice none 0 0] (len * 6)) 32)) w.heap.size len 0 (fun _ => .none) := ⟨_, made_row w len 32, fun i hi => absurd hi (Nat.not_lt_zero _)⟩
 generalize w.alloc (Obj.cells (madeCells #[.int .i64 0, .bool false, .int .i64 0, .int .i64 0, .string ⟨#[]⟩, .slice none 0 0] (len * 6)) 32) = V at *
 generalize hB : w.heap.size = B at *
 have HB := hide hB
 clear hB hmk
 go_loopw [16] (fun i wr => ∃ (j : Nat) (y : Nat → VT), j ≤ len ∧ i = .int .i64 j ∧ Hid (kidsT f j = ((List.range j).map (fun i => (y i).bare), 0)) ∧ RowAt wr B len j y ∧ Below B w wr) (fun i _ => len - (intOf i).toNat)
 case atStart => exact ⟨0, _, Nat.zero_le _, rfl, hide rfl, R0, b0⟩
 case round =>
  clear R0 b0
  obtain ⟨j, y, hj, rfl, HK, row, bel⟩ := hrel
  have zr := row.lt
  have bel0 : Below w.heap.size w wr := by rw [unhide HB]; exact bel
  by_cases hlt : j < len
  ·obtain ⟨bl, o, k', b', m', s', t', lo', hi', a', len', cap', kid', rfl, hx, eight, hk⟩ := hin.kid hlt
   obtain ⟨s0, s1, s2, s3, s4, s5, s6, s7, s8⟩ := eight.below bel0
   have b1 := below1 wr (Obj.cells #[.int .i64 k', .bool b', .int .i64 m', .int .i64 s', .string t', .bool lo', .bool hi', .slice a' len' cap'] 26)
   have EV := unhide HIH j es a9 c9 (wr.alloc (Obj.cells #[.int .i64 k', .bool b', .int .i64 m', .int .i64 s', .string t', .bool lo', .bool hi', .slice a' len' cap'] 26))
   have HFJ := unhide HF j
   have HFKJ := unhide HFK j hlt
   rw [hx] at EV HFJ HFKJ
   have EVH := hide (EV ((hk.below bel0).below b1) HFKJ ((henv.below bel0).below b1) (unhide HEL) (unhide HOK))
   rw [← HFJ] at EVH
   have HFS := hide (show kidsT f (j + 1) = if (kidsT f j).2 = 0 then (if (f j).2 = 0 then ((kidsT f j).1 ++ [(f j).1], 0) else ([], (f j).2)) else ([], (kidsT f j).2) from rfl)
   have row1 := row.below b1
   have bel1 := bel.trans (b1.mono (by omega))
   clear EV HFJ HFKJ hx hk eight row bel0 HIH HF b1
   generalize hfj : f j = FJ at *
   obtain ⟨X, E⟩ := FJ
   have hz1 : (wr.alloc (Obj.cells #[.int .i64 k', .bool b', .int .i64 m', .int .i64 s', .string t', .bool lo', .bool hi', .slice a' len' cap'] 26)).heap.size = wr.heap.size + 1 := by simp
   go_wp2_with fail
   refine (unhide EVH).mono ?_
   rintro e w2 ⟨⟨v, rfl, T, rfl, hT, hTl, hTb⟩, k2⟩
   obtain ⟨kq, bq, mq, sq, tq, aq, lq, cq, kidq, rfl⟩ := hT.form
   dsimp only [VT.val] at *
   have row2 := row1.below k2
   have bel2 := bel1.trans (k2.mono (by omega))
   have z2 := k2.size
   rw [hz1] at z2 hTl
   clear EVH row1 bel1 k2 s0 s1 s2 s3 s4 s5 s6 s7 s8
   have b3 := below1 w2 (Obj.cells #[.int .i64 kq, .bool bq, .int .i64 mq, .int .i64 sq, .string tq, .slice aq lq cq] 32)
   have row3 := row2.below b3
   have bel3 := bel2.trans (b3.mono (by omega))
   have hT3 := hT.below b3
   have X3 := six_new w2 kq bq mq sq tq aq lq cq
   have hz3 : (w2.alloc (Obj.cells #[.int .i64 kq, .bool bq, .int .i64 mq, .int .i64 sq, .string tq, .slice aq lq cq] 32)).heap.size = w2.heap.size + 1 := by simp
   by_cases hE : E = 0
   ·subst hE
    have row2' := row2
    obtain ⟨F, rw1, -⟩ := row2'
    have hne1 : ¬ B = w2.heap.size := by omega
    have hne2 : ¬ w2.heap.size = B := by omega
    have hBw : B < w2.heap.size := by omega
    have e0 := rw1.cell (i := j * 6) (by omega)
    have e1 := rw1.cell (i := j * 6 + 1) (by omega)
    have e2 := rw1.cell (i := j * 6 + 2) (by omega)
    have e3 := rw1.cell (i := j * 6 + 3) (by omega)
    have e4 := rw1.cell (i := j * 6 + 4) (by omega)
    have e5 := rw1.cell (i := j * 6 + 5) (by omega)
    have f0 := rw1.frozen (j * 6)
    have f1 := rw1.frozen (j * 6 + 1)
    have f2 := rw1.frozen (j * 6 + 2)
    have f3 := rw1.frozen (j * 6 + 3)
    have f4 := rw1.frozen (j * 6 + 4)
    have f5 := rw1.frozen (j * 6 + 5)
    go_wp2_with fail
    go_roundw
    case rel =>
     refine ⟨j + 1, _, by omega, by go_num, hide ?_, (row2.put hlt hT (hTl.weak (fun h hh => by omega))).below (below1 _ _), (put_below _ _ _ _ _ _ _ _ _ bel2 (Nat.le_refl _)).alloc (by rw [put_size]; omega) _⟩
     rw [unhide HFS, unhide HK, if_pos rfl, if_pos rfl]
     congr 1
     rw [List.range_succ, List.map_append]
     congr 1
     ·refine List.map_congr_left (fun i hi => ?_)
      have := List.mem_range.1 hi
      rw [if_neg (by omega)]
     ·simp [hTb]
    case measure => simp [intOf]; omega
   ·have e1 : (E != 0) = true := by simpa using hE
    have HE := hide hE
    clear hE
    go_wp2_with fail
    go_ret2
    have hKS : kidsT f (j + 1) = ([], E) := by rw [unhide HFS, unhide HK, if_pos rfl, if_neg (unhide HE)]
    have hKN := kids_stop (f := f) (n := len) (j := j + 1) (by omega) (e := E) (unhide HE) hKS
    refine ⟨.inl ?_, ?_⟩
    ·rw [hKN]; exact ⟨unhide HE, rfl⟩
    ·rw [unhide HB]; exact bel3
  ·obtain rfl : j = len := by omega
   have hl := hide (row.row (by unfold maxLen; omega))
   go_wp2_with fail
   go_ret2
   refine ⟨.inr ?_, ?_⟩
   ·rw [unhide HK]
    refine ⟨rfl, B, j, (List.range j).map y, by simp, (unhide hl).1, (unhide hl).2.weak (fun h hh => by rw [unhide HB]; exact hh), by simp [Function.comp_def]⟩
   ·rw [unhide HB]; exact bel
end
end Go.Proofs.YtfdimdjmnfdecaaGreat
