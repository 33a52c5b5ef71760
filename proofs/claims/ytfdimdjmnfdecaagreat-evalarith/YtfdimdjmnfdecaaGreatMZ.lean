/- Rows of tactics that recur, as theorems whose premise is paid at the place of use. -/
import Derived.Test.YtfdimdjmnfdecaaGreatProg
import Derived.WalkKit
namespace Go.Proofs.YtfdimdjmnfdecaaGreat
theorem zBL {p : Prop} (h : p := by (repeat (first | with_reducible assumption | with_reducible exact Below.refl _ _ | (with_reducible refine Below.setCell ?_ ?_ _; rotate_left; (focus (first | omega | (simp; done) | (simp; omega) | (dsimp only; omega)))) | (with_reducible refine Below.alloc ?_ ?_ _; rotate_left; (focus (first | omega | (simp; done) | (simp; omega) | (dsimp only; omega)))) | with_reducible refine Below.drew ?_ | with_reducible refine below_dN ?_ _))) : p := h
theorem zR81tvalc3 {p : Prop} (h : p := by simp [results, Tryz.results81, go_sem, tval, c3]) : p := h
theorem zR82tvalc3 {p : Prop} (h : p := by simp [results, Tryz.results82, go_sem, tval, c3]) : p := h
theorem zR138 {p : Prop} (h : p := by simp [results, Tryz.results138, go_sem]) : p := h
theorem zR120 {p : Prop} (h : p := by simp [results, Tryz.results120, go_sem]) : p := h
theorem zR145lt0t1t2t3t4t5 {p : Prop} (h : p := by simp [results, Tryz.results145, go_sem, lfv, t0, t1, t2, t3, t4, t5]) : p := h
theorem zR125lt0t1t2t3t4t5 {p : Prop} (h : p := by simp [results, Tryz.results125, go_sem, lfv, t0, t1, t2, t3, t4, t5]) : p := h
theorem zR129 {p : Prop} (h : p := by simp [results, Tryz.results129, go_sem]) : p := h
theorem zR129c1 {p : Prop} (h : p := by simp [results, Tryz.results129, go_sem, c1]) : p := h
theorem zR155 {p : Prop} (h : p := by simp [results, Tryz.results155, go_sem]) : p := h
theorem zR155c4 {p : Prop} (h : p := by simp [results, Tryz.results155, go_sem, c4]) : p := h
theorem zR71c0c1c2 {p : Prop} (h : p := by simp [results, Tryz.results71, go_sem, c0, c1, c2]) : p := h
theorem zR71 {p : Prop} (h : p := by simp [results, Tryz.results71, go_sem]) : p := h
theorem zR71d0d1d2 {p : Prop} (h : p := by simp [results, Tryz.results71, go_sem, d0, d1, d2]) : p := h
theorem zR103y0y1y2y3y4y5y6y7y8 {p : Prop} (h : p := by simp [results, Tryz.results103, go_sem, y0, y1, y2, y3, y4, y5, y6, y7, y8]) : p := h
theorem zR72y0y1y2y3y4y5y6y7y8 {p : Prop} (h : p := by simp [results, Tryz.results72, go_sem, y0, y1, y2, y3, y4, y5, y6, y7, y8]) : p := h
theorem zR147y0y1y2y3y4y5y6y7y8 {p : Prop} (h : p := by simp [results, Tryz.results147, go_sem, y0, y1, y2, y3, y4, y5, y6, y7, y8]) : p := h
theorem zR152y0y1y2y3y4y5y6y7y8 {p : Prop} (h : p := by simp [results, Tryz.results152, go_sem, y0, y1, y2, y3, y4, y5, y6, y7, y8]) : p := h
theorem zMV {p : Prop} (h : p := by (repeat (first | with_reducible assumption | with_reducible exact Mv.refl _ _ | with_reducible refine Mv.alloc ?_ _ | (with_reducible refine Mv.own ?_ ?_ _; rotate_left; (focus (first | omega | (simp; done) | (simp; omega) | (dsimp only; omega)))) | with_reducible refine Mv.put ?_ _ _ | with_reducible refine Mv.drewN ?_ _ | with_reducible refine Mv.drew ?_))) : p := h
theorem zIN {p : Prop} (h : p := by (repeat (first | with_reducible assumption | with_reducible refine XT.In.alloc ?_ _ | with_reducible refine XT.In.drew ?_ | with_reducible refine XT.In.drewN ?_ _ | (with_reducible refine XT.In.set ?_ ?_ _; rotate_left; (intro g hg; (focus (first | omega | (simp; done) | (simp; omega) | (dsimp only; omega)))))))) : p := h
theorem zQDR0 {p : Prop} (h : p := by (repeat (first | with_reducible assumption | with_reducible refine Qd.alloc ?_ _ | (with_reducible refine Qd.own ?_ R0 ?_ _; rotate_left; (focus (first | omega | (simp; done) | (simp; omega) | (dsimp only; omega)))) | with_reducible refine Qd.drewN ?_ _ | with_reducible refine Qd.drew ?_))) : p := h
theorem zR153y0y1y2y3y4y5y6y7y8 {p : Prop} (h : p := by simp [results, Tryz.results153, go_sem, y0, y1, y2, y3, y4, y5, y6, y7, y8]) : p := h
theorem zR132y0y1y2y3y4y5y6y7y8 {p : Prop} (h : p := by simp [results, Tryz.results132, go_sem, y0, y1, y2, y3, y4, y5, y6, y7, y8]) : p := h
theorem zR154y0y1y2y3y4y5y6y7y8 {p : Prop} (h : p := by simp [results, Tryz.results154, go_sem, y0, y1, y2, y3, y4, y5, y6, y7, y8]) : p := h
theorem zR127lt0t1t2t3t4t5 {p : Prop} (h : p := by simp [results, Tryz.results127, go_sem, lfv, t0, t1, t2, t3, t4, t5]) : p := h
theorem zR144l {p : Prop} (h : p := by simp [results, Tryz.results144, go_sem, lfv]) : p := h
theorem zR144lt0t1t2t3t4t5 {p : Prop} (h : p := by simp [results, Tryz.results144, go_sem, lfv, t0, t1, t2, t3, t4, t5]) : p := h
theorem zR128lt0t1t2t3t4t5 {p : Prop} (h : p := by simp [results, Tryz.results128, go_sem, lfv, t0, t1, t2, t3, t4, t5]) : p := h
theorem zR128l {p : Prop} (h : p := by simp [results, Tryz.results128, go_sem, lfv]) : p := h
theorem zR88lt0t1t2t3t4t5 {p : Prop} (h : p := by simp [results, Tryz.results88, go_sem, lfv, t0, t1, t2, t3, t4, t5]) : p := h
theorem zR88l {p : Prop} (h : p := by simp [results, Tryz.results88, go_sem, lfv]) : p := h
theorem zR86lt0t1t2t3t4t5 {p : Prop} (h : p := by simp [results, Tryz.results86, go_sem, lfv, t0, t1, t2, t3, t4, t5]) : p := h
theorem zR19lt0t1t2t3t4t5 {p : Prop} (h : p := by simp [results, Tryz.results19, go_sem, lfv, t0, t1, t2, t3, t4, t5]) : p := h
theorem zR118c4 {p : Prop} (h : p := by simp [results, Tryz.results118, go_sem, c4]) : p := h
theorem zR83lt0t1t2t3t4t5 {p : Prop} (h : p := by simp [results, Tryz.results83, go_sem, lfv, t0, t1, t2, t3, t4, t5]) : p := h
theorem zR51lt0t1t2t3t4t5 {p : Prop} (h : p := by simp [results, Tryz.results51, go_sem, lfv, t0, t1, t2, t3, t4, t5]) : p := h
theorem zR87lt0t1t2t3t4t5 {p : Prop} (h : p := by simp [results, Tryz.results87, go_sem, lfv, t0, t1, t2, t3, t4, t5]) : p := h
theorem zR54lt0t1t2t3t4t5 {p : Prop} (h : p := by simp [results, Tryz.results54, go_sem, lfv, t0, t1, t2, t3, t4, t5]) : p := h
theorem zR55tvalt0t1t2t3t4t5 {p : Prop} (h : p := by simp [results, Tryz.results55, go_sem, tval, t0, t1, t2, t3, t4, t5]) : p := h
theorem zR27lt0t1t2t3t4t5 {p : Prop} (h : p := by simp [results, Tryz.results27, go_sem, lfv, t0, t1, t2, t3, t4, t5]) : p := h
theorem zR23lt0t1t2t3t4t5 {p : Prop} (h : p := by simp [results, Tryz.results23, go_sem, lfv, t0, t1, t2, t3, t4, t5]) : p := h
theorem zR25t0t1t2t3t4t5 {p : Prop} (h : p := by simp [results, Tryz.results25, go_sem, t0, t1, t2, t3, t4, t5]) : p := h
theorem zR11lt0t1t2t3t4t5 {p : Prop} (h : p := by simp [results, Tryz.results11, go_sem, lfv, t0, t1, t2, t3, t4, t5]) : p := h
theorem zR11t0t1t2t3t4t5 {p : Prop} (h : p := by simp [results, Tryz.results11, go_sem, t0, t1, t2, t3, t4, t5]) : p := h
theorem zR38y0y1y2y3y4y5y6y7y8 {p : Prop} (h : p := by simp [results, Tryz.results38, go_sem, y0, y1, y2, y3, y4, y5, y6, y7, y8]) : p := h
theorem zR16y0y1y2y3y4y5y6y7y8 {p : Prop} (h : p := by simp [results, Tryz.results16, go_sem, y0, y1, y2, y3, y4, y5, y6, y7, y8]) : p := h
theorem zBM {p : Prop} (h : p := by (repeat (first | with_reducible assumption | exact And.left (by assumption) | with_reducible exact Below.refl _ _ | (with_reducible refine Below.setCell ?_ ?_ _; rotate_left; (focus (first | omega | (simp; done) | (simp; omega) | (dsimp only; omega)))) | (with_reducible refine Below.alloc ?_ ?_ _; rotate_left; (focus (first | omega | (simp; done) | (simp; omega) | (dsimp only; omega)))) | with_reducible refine Below.drew ?_ | with_reducible refine below_dN ?_ _))) : p := h
end Go.Proofs.YtfdimdjmnfdecaaGreat
