/-
  What a row's list of 10 laid sentinels gives.
-/
import Derived.Test.YtjfhompbeengmaaDoorSeA
import Derived.Test.YtjfhompbeengmaaDoorNoG
namespace Go.Proofs.YtjfhompbeengmaaDoor
open Go.RowKit Go.ChangeShapes Go.WideShapes

def sentNoUL : List (String × List UInt8) := [
  ("twinrampart/api.ErrBound", [116, 119, 105, 110, 114, 97, 109, 112, 97, 114, 116, 58, 32, 98, 111, 117, 110, 100]),
  ("twinrampart/api.ErrShape", [116, 119, 105, 110, 114, 97, 109, 112, 97, 114, 116, 58, 32, 115, 104, 97, 112, 101]),
  ("twinrampart/api.ErrNone", [116, 119, 105, 110, 114, 97, 109, 112, 97, 114, 116, 58, 32, 110, 111, 110, 101]),
  ("twinrampart/api.ErrExist", [116, 119, 105, 110, 114, 97, 109, 112, 97, 114, 116, 58, 32, 101, 120, 105, 115, 116]),
  ("twinrampart/api.ErrFull", [116, 119, 105, 110, 114, 97, 109, 112, 97, 114, 116, 58, 32, 102, 117, 108, 108]),
  ("twinrampart/api.ErrOff", [116, 119, 105, 110, 114, 97, 109, 112, 97, 114, 116, 58, 32, 111, 102, 102]),
  ("twinrampart/api.ErrDeny", [116, 119, 105, 110, 114, 97, 109, 112, 97, 114, 116, 58, 32, 100, 101, 110, 121]),
  ("twinrampart/api.ErrState", [116, 119, 105, 110, 114, 97, 109, 112, 97, 114, 116, 58, 32, 115, 116, 97, 116, 101]),
  ("twinrampart/api.ErrOld", [116, 119, 105, 110, 114, 97, 109, 112, 97, 114, 116, 58, 32, 111, 108, 100]),
  ("twinrampart/api.ErrHeld", [116, 119, 105, 110, 114, 97, 109, 112, 97, 114, 116, 58, 32, 104, 101, 108, 100])]
theorem Tryd.gBoundNoU : Tryd.prog.globalNamed "twinrampart/api.ErrBound" = some 0 := by kernel_rfl
theorem Tryd.gShapeNoU : Tryd.prog.globalNamed "twinrampart/api.ErrShape" = some 1 := by kernel_rfl
theorem Tryd.gNoneNoU : Tryd.prog.globalNamed "twinrampart/api.ErrNone" = some 2 := by kernel_rfl
theorem Tryd.gExistNoU : Tryd.prog.globalNamed "twinrampart/api.ErrExist" = some 9 := by kernel_rfl
theorem Tryd.gFullNoU : Tryd.prog.globalNamed "twinrampart/api.ErrFull" = some 5 := by kernel_rfl
theorem Tryd.gOffNoU : Tryd.prog.globalNamed "twinrampart/api.ErrOff" = some 3 := by kernel_rfl
theorem Tryd.gDenyNoU : Tryd.prog.globalNamed "twinrampart/api.ErrDeny" = some 8 := by kernel_rfl
theorem Tryd.gStateNoU : Tryd.prog.globalNamed "twinrampart/api.ErrState" = some 6 := by kernel_rfl
theorem Tryd.gOldNoU : Tryd.prog.globalNamed "twinrampart/api.ErrOld" = some 4 := by kernel_rfl
theorem Tryd.gHeldNoU : Tryd.prog.globalNamed "twinrampart/api.ErrHeld" = some 7 := by kernel_rfl
theorem Tryd.typesNoU : (sentNoUL.all fun x => match Tryd.prog.globalNamed x.1 with | some g => (match Tryd.prog.globals[g]? with | some v => v.type == 30 | none => false) | none => false) = true := by kernel_rfl
theorem of_laidNoU {l : List (String × DataW Unit)} {W : World} (h : laidMetH Tryd.prog l W) (e1 : l.filter isSent = sentNoUL.map sentD) : ∃ s, SeM W s := by
  have h1 := h.filter isSent
  rw [e1] at h1
  have h1' : laidMet Tryd.prog (sentNoUL.map sentD) W := h1
  obtain ⟨ps, hv, hnd, hrows⟩ := h1'
  obtain ⟨zs, hlen, hf, hsub⟩ := sents_list Tryd.underlying30 Tryd.rowES Tryd.underlying161 Tryd.underlying177 rfl rfl Tryd.underlying9 Tryd.cellsES Tryd.cellsS sentNoUL ps
    (fun x hx => by
      have := List.all_eq_true.1 Tryd.typesNoU x hx
      revert this
      cases hg : Tryd.prog.globalNamed x.1 with
      | none => intro h; cases h
      | some g =>
        intro h
        refine ⟨g, rfl, ?_⟩
        cases hv : Tryd.prog.globals[g]? with
        | none => simp [hv] at h
        | some v => simp [hv] at h; simp [h]) hv hrows
  have hl : zs.length = 10 := by rw [hlen]; rfl
  have at' : ∀ i : Nat, i < 10 → zs[i]? = some (zs.getD i ⟨0, 0, none⟩) := fun i hi => by
    rw [List.getD_eq_getElem?_getD, List.getElem?_eq_getElem (by omega)]; rfl
  have cellOf : ∀ (i : Nat) (x : String × List UInt8) (g : Nat), i < 10 → sentNoUL[i]? = some x → Tryd.prog.globalNamed x.1 = some g → W.cell? ⟨g, 0, none⟩ = some (.iface 161 (.pointer (some (zs.getD i ⟨0, 0, none⟩)))) := fun i x g hi hx hg => by
    simpa using World.var?_cell hg (hf i x _ hx (at' i hi)).1 0
  refine ⟨fun i => match i with | 1 => zs.getD 0 ⟨0, 0, none⟩ | 2 => zs.getD 1 ⟨0, 0, none⟩ | 3 => zs.getD 2 ⟨0, 0, none⟩ | 4 => zs.getD 3 ⟨0, 0, none⟩ | 5 => zs.getD 4 ⟨0, 0, none⟩ | 6 => zs.getD 5 ⟨0, 0, none⟩ | 7 => zs.getD 6 ⟨0, 0, none⟩ | 8 => zs.getD 7 ⟨0, 0, none⟩ | 9 => zs.getD 8 ⟨0, 0, none⟩ | 10 => zs.getD 9 ⟨0, 0, none⟩ | _ => ⟨0, 0, none⟩, ?_⟩
  exact ⟨cellOf 0 _ _ (by omega) rfl Tryd.gBoundNoU, cellOf 1 _ _ (by omega) rfl Tryd.gShapeNoU, cellOf 2 _ _ (by omega) rfl Tryd.gNoneNoU, cellOf 3 _ _ (by omega) rfl Tryd.gExistNoU, cellOf 4 _ _ (by omega) rfl Tryd.gFullNoU, cellOf 5 _ _ (by omega) rfl Tryd.gOffNoU, cellOf 6 _ _ (by omega) rfl Tryd.gDenyNoU, cellOf 7 _ _ (by omega) rfl Tryd.gStateNoU, cellOf 8 _ _ (by omega) rfl Tryd.gOldNoU, cellOf 9 _ _ (by omega) rfl Tryd.gHeldNoU⟩
end Go.Proofs.YtjfhompbeengmaaDoor
