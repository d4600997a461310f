/-
  What a row's list of four laid sentinels gives.
-/
import Derived.Test.YtifkbafdjkgnoaaDoorSeA
import Derived.Test.YtifkbafdjkgnoaaDoorTbE
namespace Go.Proofs.YtifkbafdjkgnoaaDoor
open Go.RowKit Go.ChangeShapes Go.WideShapes

def te4L : List (String × List UInt8) := [
  ("twinrampart/api.ErrBound", [116, 119, 105, 110, 114, 97, 109, 112, 97, 114, 116, 58, 32, 98, 111, 117, 110, 100]),
  ("twinrampart/api.ErrNone", [116, 119, 105, 110, 114, 97, 109, 112, 97, 114, 116, 58, 32, 110, 111, 110, 101]),
  ("twinrampart/api.ErrExist", [116, 119, 105, 110, 114, 97, 109, 112, 97, 114, 116, 58, 32, 101, 120, 105, 115, 116]),
  ("twinrampart/api.ErrFull", [116, 119, 105, 110, 114, 97, 109, 112, 97, 114, 116, 58, 32, 102, 117, 108, 108])]
theorem Tryd.tBound : Tryd.prog.globalNamed "twinrampart/api.ErrBound" = some 0 := by kernel_rfl
theorem Tryd.tNone : Tryd.prog.globalNamed "twinrampart/api.ErrNone" = some 4 := by kernel_rfl
theorem Tryd.tExist : Tryd.prog.globalNamed "twinrampart/api.ErrExist" = some 1 := by kernel_rfl
theorem Tryd.tFull : Tryd.prog.globalNamed "twinrampart/api.ErrFull" = some 2 := by kernel_rfl
theorem Tryd.te4Types : (te4L.all fun x => match Tryd.prog.globalNamed x.1 with | some g => (match Tryd.prog.globals[g]? with | some v => v.type == 26 | none => false) | none => false) = true := by kernel_rfl
theorem te4_of_laid {l : List (String × DataW Unit)} {W : World} (h : laidMetH Tryd.prog l W) (e1 : l.filter isSent = te4L.map sentD) : ∃ s, Se4 W s := by
  have h1 := h.filter isSent
  rw [e1] at h1
  have h1' : laidMet Tryd.prog (te4L.map sentD) W := h1
  obtain ⟨ps, hv, hnd, hrows⟩ := h1'
  obtain ⟨zs, hlen, hf, hsub⟩ := sents_list Tryd.underlying26 Tryd.rowES Tryd.underlying95 Tryd.underlying112 rfl rfl Tryd.underlying9 Tryd.cellsES Tryd.cellsS te4L ps
    (fun x hx => by
      have := List.all_eq_true.1 Tryd.te4Types x hx
      revert this
      cases hg : Tryd.prog.globalNamed x.1 with
      | none => intro h; cases h
      | some g =>
        intro h
        refine ⟨g, rfl, ?_⟩
        cases hv : Tryd.prog.globals[g]? with
        | none => simp [hv] at h
        | some v => simp [hv] at h; simp [h]) hv hrows
  have hl : zs.length = 4 := by rw [hlen]; rfl
  have at' : ∀ i : Nat, i < 4 → zs[i]? = some (zs.getD i ⟨0, 0, none⟩) := fun i hi => by
    rw [List.getD_eq_getElem?_getD, List.getElem?_eq_getElem (by omega)]; rfl
  have cellOf : ∀ (i : Nat) (x : String × List UInt8) (g : Nat), i < 4 → te4L[i]? = some x → Tryd.prog.globalNamed x.1 = some g → W.cell? ⟨g, 0, none⟩ = some (.iface 95 (.pointer (some (zs.getD i ⟨0, 0, none⟩)))) := fun i x g hi hx hg => by
    simpa using World.var?_cell hg (hf i x _ hx (at' i hi)).1 0
  refine ⟨fun i => match i with | 1 => zs.getD 0 ⟨0, 0, none⟩ | 3 => zs.getD 1 ⟨0, 0, none⟩ | 4 => zs.getD 2 ⟨0, 0, none⟩ | _ => zs.getD 3 ⟨0, 0, none⟩, ?_⟩
  exact ⟨cellOf 0 _ _ (by omega) rfl Tryd.tBound, cellOf 1 _ _ (by omega) rfl Tryd.tNone, cellOf 2 _ _ (by omega) rfl Tryd.tExist, cellOf 3 _ _ (by omega) rfl Tryd.tFull⟩
end Go.Proofs.YtifkbafdjkgnoaaDoor
