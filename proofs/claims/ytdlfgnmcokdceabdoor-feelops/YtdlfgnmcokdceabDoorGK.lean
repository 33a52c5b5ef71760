/- LSig: laid together. -/
import Derived.Test.YtdlfgnmcokdceabDoorRows
import Derived.Test.YtdlfgnmcokdceabDoorGC
import Derived.LaidMore
import Derived.Stop.Joined
import Derived.SevenTiedAt
import Derived.LaidSub
import Derived.OpenShut
import Derived.Lib.LaidTab
/- What the row's condition gives the walks: the table of signs; and a start that meets it. -/
namespace Go.Proofs.YtdlfgnmcokdceabDoor
open Go.RowKit

theorem gSig : Tryd.prog.globalNamed "dossier/lex.signs" = some 0 := by kernel_rfl
theorem tSig : (Tryd.prog.globals[0]?).map (·.type) = some 70 := by kernel_rfl
theorem cSig : Tryd.prog.cellsOf 70 = 16 := by kernel_rfl
theorem cStr : Tryd.prog.cellsOf 9 = 1 := by kernel_rfl
set_option maxRecDepth 100000 in
theorem sig_of_met {W : World} (h : laidMet Tryd.prog [("dossier/lex.signs", Rows.laid_dossier_lex_signs)] W) : Sig W := by
  obtain ⟨ps, ⟨g', t', cs, fuel, p, q, hg', ht', hvar, hd, _, _⟩, _⟩ := h
  obtain rfl := Option.some.inj (gSig.symm.trans hg')
  obtain rfl := Option.some.inj (tSig.symm.trans ht')
  obtain ⟨xs, m, rfl, hx, hl, hxl, hall⟩ := DataW.trod_array Tryd.underlying70 hd
  rw [cStr] at hall
  have hxs : xs.map (·.1) = sgs.map fun g => (DataW.lit (.string g) : DataW Unit) := by
    have h1 := congrArg Prod.fst hx
    have h2 : (Rows.laid_dossier_lex_signs : DataW Unit) = .agg (sgs.map fun g => (DataW.lit (.string g) : DataW Unit)) := rfl
    rw [h2] at h1
    injection h1 with h3
    exact h3.symm
  have key : ∀ i, i < 16 → W.cell? ⟨0, i, none⟩ = some (sV (sgs.getD i [])) := by
    intro i hi
    have h1 := hall i hi
    rw [List.getElem?_eq_getElem (by omega)] at h1
    obtain ⟨s, hc, hb, -⟩ := DataW.trod_string Tryd.underlying9 h1
    have h2 : cs[i]? = some (.string s) := by
      have := congrArg (·[0]?) hc
      simpa [List.getElem?_take, List.getElem?_drop] using this
    have h3 : (xs.map (·.1))[i]? = some (DataW.lit (.string s.data.toList) : DataW Unit) := by
      rw [List.getElem?_map, List.getElem?_eq_getElem (show i < xs.length by omega), hb]; rfl
    rw [hxs, List.getElem?_map, List.getElem?_eq_getElem (show i < sgs.length from hi)] at h3
    have h4 : sgs[i]'(show i < sgs.length from hi) = s.data.toList := by
      simpa using h3
    have h5 : sgs.getD i [] = sgs[i]'(show i < sgs.length from hi) := by simp [show i < sgs.length from hi]
    have hv := World.var?_cell gSig hvar i
    rw [hv, h2, h5, h4]
    simp [sV]
  exact ⟨World.block_lt_of_cell? _ _ (key 0 (by omega)), key⟩
theorem sig_of_laid {W : World} (h : laidMetH Tryd.prog [("dossier/lex.signs", Rows.laid_dossier_lex_signs)] W) : Sig W := by
  rw [MakeChecks.laidMetH_plain _ _ _ (by kernel_rfl)] at h
  exact sig_of_met h
/- the heap that the door's own run leaves meets the condition. -/
theorem door_met (os : Os) (args : Array Value) : laidMetH Tryd.prog [("dossier/lex.signs", Rows.laid_dossier_lex_signs)] ((World.doorLaid Tryd.prog 400 os).forCall (fun _ _ => 0) ⟨#[], args, []⟩).memory :=
  laidMetH_of_parts3 (fuel := 8) (laidMet_of_run' 8 (by kernel_rfl) (by kernel_rfl)) (by kernel_rfl) (by kernel_rfl)
end Go.Proofs.YtdlfgnmcokdceabDoor
