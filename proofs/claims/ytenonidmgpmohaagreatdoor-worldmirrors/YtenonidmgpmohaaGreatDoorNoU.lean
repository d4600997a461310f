/-
  What a row's list of 10 laid sentinels gives.
-/
import Derived.Test.YtenonidmgpmohaaGreatDoorSeA
import Derived.Test.YtenonidmgpmohaaGreatDoorNoG
namespace Go.Proofs.YtenonidmgpmohaaGreatDoor
open Go.RowKit Go.ChangeShapes Go.WideShapes

def sentNoUL : List (String × List UInt8) := [
  ("twinrampart/api.ErrBound", [116, 119, 105, 110, 114, 97, 109, 112, 97, 114, 116, 58, 32, 98, 111, 117, 110, 100]),
  ("twinrampart/api.ErrShape", [116, 119, 105, 110, 114, 97, 109, 112, 97, 114, 116, 58, 32, 115, 104, 97, 112, 101]),
  ("twinrampart/api.ErrNone", [116, 119, 105, 110, 114, 97, 109, 112, 97, 114, 116, 58, 32, 110, 111, 110, 101]),
  ("twinrampart/api.ErrExist", [116, 119, 105, 110, 114, 97, 109, 112, 97, 114, 116, 58, 32, 101, 120, 105, 115, 116]),
  ("twinrampart/api.ErrFull", [116, 119, 105, 110, 114, 97, 109, 112, 97, 114, 116, 58, 32, 102, 117, 108, 108]),
  ("twinrampart/api.ErrOff", [116, 119, 105, 110, 114, 97, 109, 112, 97, 114, 116, 58, 32, 111, 102, 102]),
  ("twinrampart/api.ErrDeny", [116, 119, 105, 110, 114, 97, 109, 112, 97, 114, 116, 58, 32, 100, 101, 110, 121]),
  ("twinrampart/api.ErrState", [116, 119, 105, 110, 114, 97, 109, 112, 97, 114, 116, 58, 32, 115, 116, 97, 116, 101]),
  ("twinrampart/api.ErrOld", [116, 119, 105, 110, 114, 97, 109, 112, 97, 114, 116, 58, 32, 111, 108, 100]),
  ("twinrampart/api.ErrHeld", [116, 119, 105, 110, 114, 97, 109, 112, 97, 114, 116, 58, 32, 104, 101, 108, 100])]
theorem Tryz.gBoundNoU : Tryz.prog.globalNamed "twinrampart/api.ErrBound" = some 2 := by kernel_rfl
theorem Tryz.gShapeNoU : Tryz.prog.globalNamed "twinrampart/api.ErrShape" = some 5 := by kernel_rfl
theorem Tryz.gNoneNoU : Tryz.prog.globalNamed "twinrampart/api.ErrNone" = some 0 := by kernel_rfl
theorem Tryz.gExistNoU : Tryz.prog.globalNamed "twinrampart/api.ErrExist" = some 9 := by kernel_rfl
theorem Tryz.gFullNoU : Tryz.prog.globalNamed "twinrampart/api.ErrFull" = some 4 := by kernel_rfl
theorem Tryz.gOffNoU : Tryz.prog.globalNamed "twinrampart/api.ErrOff" = some 1 := by kernel_rfl
theorem Tryz.gDenyNoU : Tryz.prog.globalNamed "twinrampart/api.ErrDeny" = some 8 := by kernel_rfl
theorem Tryz.gStateNoU : Tryz.prog.globalNamed "twinrampart/api.ErrState" = some 6 := by kernel_rfl
theorem Tryz.gOldNoU : Tryz.prog.globalNamed "twinrampart/api.ErrOld" = some 7 := by kernel_rfl
theorem Tryz.gHeldNoU : Tryz.prog.globalNamed "twinrampart/api.ErrHeld" = some 3 := by kernel_rfl
theorem Tryz.typesNoU : (sentNoUL.all fun x => match Tryz.prog.globalNamed x.1 with | some g => (match Tryz.prog.globals[g]? with | some v => v.type == 28 | none => false) | none => false) = true := by kernel_rfl
theorem of_laidNoU {l : List (String × DataW Unit)} {W : World} (h : laidMetH Tryz.prog l W) (e1 : l.filter isSent = sentNoUL.map sentD) : ∃ s, SeM W s := by
  have h1 := h.filter isSent
  rw [e1] at h1
  have h1' : laidMet Tryz.prog (sentNoUL.map sentD) W := h1
  obtain ⟨ps, hv, hnd, hrows⟩ := h1'
  obtain ⟨zs, hlen, hf, hsub⟩ := sents_list Tryz.underlying28 Tryz.rowES Tryz.underlying215 Tryz.underlying239 rfl rfl Tryz.underlying9 Tryz.cellsES Tryz.cellsS sentNoUL ps
    (fun x hx => by
      have := List.all_eq_true.1 Tryz.typesNoU x hx
      revert this
      cases hg : Tryz.prog.globalNamed x.1 with
      | none => intro h; cases h
      | some g =>
        intro h
        refine ⟨g, rfl, ?_⟩
        cases hv : Tryz.prog.globals[g]? with
        | none => simp [hv] at h
        | some v => simp [hv] at h; simp [h]) hv hrows
  have hl : zs.length = 10 := by rw [hlen]; rfl
  have at' : ∀ i : Nat, i < 10 → zs[i]? = some (zs.getD i ⟨0, 0, none⟩) := fun i hi => by
    rw [List.getD_eq_getElem?_getD, List.getElem?_eq_getElem (by omega)]; rfl
  have cellOf : ∀ (i : Nat) (x : String × List UInt8) (g : Nat), i < 10 → sentNoUL[i]? = some x → Tryz.prog.globalNamed x.1 = some g → W.cell? ⟨g, 0, none⟩ = some (.iface 215 (.pointer (some (zs.getD i ⟨0, 0, none⟩)))) := fun i x g hi hx hg => by
    simpa using World.var?_cell hg (hf i x _ hx (at' i hi)).1 0
  refine ⟨fun i => match i with | 1 => zs.getD 0 ⟨0, 0, none⟩ | 2 => zs.getD 1 ⟨0, 0, none⟩ | 3 => zs.getD 2 ⟨0, 0, none⟩ | 4 => zs.getD 3 ⟨0, 0, none⟩ | 5 => zs.getD 4 ⟨0, 0, none⟩ | 6 => zs.getD 5 ⟨0, 0, none⟩ | 7 => zs.getD 6 ⟨0, 0, none⟩ | 8 => zs.getD 7 ⟨0, 0, none⟩ | 9 => zs.getD 8 ⟨0, 0, none⟩ | 10 => zs.getD 9 ⟨0, 0, none⟩ | _ => ⟨0, 0, none⟩, ?_⟩
  exact ⟨cellOf 0 _ _ (by omega) rfl Tryz.gBoundNoU, cellOf 1 _ _ (by omega) rfl Tryz.gShapeNoU, cellOf 2 _ _ (by omega) rfl Tryz.gNoneNoU, cellOf 3 _ _ (by omega) rfl Tryz.gExistNoU, cellOf 4 _ _ (by omega) rfl Tryz.gFullNoU, cellOf 5 _ _ (by omega) rfl Tryz.gOffNoU, cellOf 6 _ _ (by omega) rfl Tryz.gDenyNoU, cellOf 7 _ _ (by omega) rfl Tryz.gStateNoU, cellOf 8 _ _ (by omega) rfl Tryz.gOldNoU, cellOf 9 _ _ (by omega) rfl Tryz.gHeldNoU⟩
end Go.Proofs.YtenonidmgpmohaaGreatDoor
