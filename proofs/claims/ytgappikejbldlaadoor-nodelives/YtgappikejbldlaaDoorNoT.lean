/-
  What a row's list of 7 laid sentinels gives.
-/
import Derived.Test.YtgappikejbldlaaDoorSeA
import Derived.Test.YtgappikejbldlaaDoorNoB
namespace Go.Proofs.YtgappikejbldlaaDoor
open Go.RowKit Go.ChangeShapes Go.WideShapes

def sentNoTL : List (String × List UInt8) := [
  ("twinrampart/api.ErrBound", [116, 119, 105, 110, 114, 97, 109, 112, 97, 114, 116, 58, 32, 98, 111, 117, 110, 100]),
  ("twinrampart/api.ErrShape", [116, 119, 105, 110, 114, 97, 109, 112, 97, 114, 116, 58, 32, 115, 104, 97, 112, 101]),
  ("twinrampart/api.ErrExist", [116, 119, 105, 110, 114, 97, 109, 112, 97, 114, 116, 58, 32, 101, 120, 105, 115, 116]),
  ("twinrampart/api.ErrFull", [116, 119, 105, 110, 114, 97, 109, 112, 97, 114, 116, 58, 32, 102, 117, 108, 108]),
  ("twinrampart/api.ErrOff", [116, 119, 105, 110, 114, 97, 109, 112, 97, 114, 116, 58, 32, 111, 102, 102]),
  ("twinrampart/api.ErrOld", [116, 119, 105, 110, 114, 97, 109, 112, 97, 114, 116, 58, 32, 111, 108, 100]),
  ("twinrampart/api.ErrHeld", [116, 119, 105, 110, 114, 97, 109, 112, 97, 114, 116, 58, 32, 104, 101, 108, 100])]
theorem Tryd.gBoundNoT : Tryd.prog.globalNamed "twinrampart/api.ErrBound" = some 0 := by kernel_rfl
theorem Tryd.gShapeNoT : Tryd.prog.globalNamed "twinrampart/api.ErrShape" = some 1 := by kernel_rfl
theorem Tryd.gExistNoT : Tryd.prog.globalNamed "twinrampart/api.ErrExist" = some 8 := by kernel_rfl
theorem Tryd.gFullNoT : Tryd.prog.globalNamed "twinrampart/api.ErrFull" = some 4 := by kernel_rfl
theorem Tryd.gOffNoT : Tryd.prog.globalNamed "twinrampart/api.ErrOff" = some 2 := by kernel_rfl
theorem Tryd.gOldNoT : Tryd.prog.globalNamed "twinrampart/api.ErrOld" = some 3 := by kernel_rfl
theorem Tryd.gHeldNoT : Tryd.prog.globalNamed "twinrampart/api.ErrHeld" = some 6 := by kernel_rfl
theorem Tryd.typesNoT : (sentNoTL.all fun x => match Tryd.prog.globalNamed x.1 with | some g => (match Tryd.prog.globals[g]? with | some v => v.type == 33 | none => false) | none => false) = true := by kernel_rfl
theorem of_laidNoT {l : List (String × DataW Unit)} {W : World} (h : laidMetH Tryd.prog l W) (e1 : l.filter isSent = sentNoTL.map sentD) : ∃ s, SeN W s := by
  have h1 := h.filter isSent
  rw [e1] at h1
  have h1' : laidMet Tryd.prog (sentNoTL.map sentD) W := h1
  obtain ⟨ps, hv, hnd, hrows⟩ := h1'
  obtain ⟨zs, hlen, hf, hsub⟩ := sents_list Tryd.underlying33 Tryd.rowES Tryd.underlying161 Tryd.underlying177 rfl rfl Tryd.underlying9 Tryd.cellsES Tryd.cellsS sentNoTL ps
    (fun x hx => by
      have := List.all_eq_true.1 Tryd.typesNoT x hx
      revert this
      cases hg : Tryd.prog.globalNamed x.1 with
      | none => intro h; cases h
      | some g =>
        intro h
        refine ⟨g, rfl, ?_⟩
        cases hv : Tryd.prog.globals[g]? with
        | none => simp [hv] at h
        | some v => simp [hv] at h; simp [h]) hv hrows
  have hl : zs.length = 7 := by rw [hlen]; rfl
  have at' : ∀ i : Nat, i < 7 → zs[i]? = some (zs.getD i ⟨0, 0, none⟩) := fun i hi => by
    rw [List.getD_eq_getElem?_getD, List.getElem?_eq_getElem (by omega)]; rfl
  have cellOf : ∀ (i : Nat) (x : String × List UInt8) (g : Nat), i < 7 → sentNoTL[i]? = some x → Tryd.prog.globalNamed x.1 = some g → W.cell? ⟨g, 0, none⟩ = some (.iface 161 (.pointer (some (zs.getD i ⟨0, 0, none⟩)))) := fun i x g hi hx hg => by
    simpa using World.var?_cell hg (hf i x _ hx (at' i hi)).1 0
  refine ⟨fun i => match i with | 1 => zs.getD 0 ⟨0, 0, none⟩ | 2 => zs.getD 1 ⟨0, 0, none⟩ | 4 => zs.getD 2 ⟨0, 0, none⟩ | 5 => zs.getD 3 ⟨0, 0, none⟩ | 6 => zs.getD 4 ⟨0, 0, none⟩ | 9 => zs.getD 5 ⟨0, 0, none⟩ | 10 => zs.getD 6 ⟨0, 0, none⟩ | _ => ⟨0, 0, none⟩, ?_⟩
  exact ⟨cellOf 0 _ _ (by omega) rfl Tryd.gBoundNoT, cellOf 1 _ _ (by omega) rfl Tryd.gShapeNoT, cellOf 2 _ _ (by omega) rfl Tryd.gExistNoT, cellOf 3 _ _ (by omega) rfl Tryd.gFullNoT, cellOf 4 _ _ (by omega) rfl Tryd.gOffNoT, cellOf 5 _ _ (by omega) rfl Tryd.gOldNoT, cellOf 6 _ _ (by omega) rfl Tryd.gHeldNoT⟩
end Go.Proofs.YtgappikejbldlaaDoor
