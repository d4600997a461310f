/-
  What a row's list of three laid sentinels gives.
-/
import Derived.Test.YtneoflcfhdjcoabDoorSeA
import Derived.Test.YtneoflcfhdjcoabDoorRoA
namespace Go.Proofs.YtneoflcfhdjcoabDoor
open Go.RowKit Go.ChangeShapes Go.WideShapes

def sent3L : List (String × List UInt8) := [
  ("twinrampart/api.ErrBound", [116, 119, 105, 110, 114, 97, 109, 112, 97, 114, 116, 58, 32, 98, 111, 117, 110, 100]),
  ("twinrampart/api.ErrShape", [116, 119, 105, 110, 114, 97, 109, 112, 97, 114, 116, 58, 32, 115, 104, 97, 112, 101]),
  ("twinrampart/api.ErrHeld", [116, 119, 105, 110, 114, 97, 109, 112, 97, 114, 116, 58, 32, 104, 101, 108, 100])]
theorem Tryd.gBound3 : Tryd.prog.globalNamed "twinrampart/api.ErrBound" = some 0 := by kernel_rfl
theorem Tryd.gShape3 : Tryd.prog.globalNamed "twinrampart/api.ErrShape" = some 4 := by kernel_rfl
theorem Tryd.gHeld3 : Tryd.prog.globalNamed "twinrampart/api.ErrHeld" = some 6 := by kernel_rfl
theorem Tryd.sent3Types : (sent3L.all fun x => match Tryd.prog.globalNamed x.1 with | some g => (match Tryd.prog.globals[g]? with | some v => v.type == 26 | none => false) | none => false) = true := by kernel_rfl
theorem se3_of_laid {l : List (String × DataW Unit)} {W : World} (h : laidMetH Tryd.prog l W) (e1 : l.filter isSent = sent3L.map sentD) : ∃ s, Se3 W s := by
  have h1 := h.filter isSent
  rw [e1] at h1
  have h1' : laidMet Tryd.prog (sent3L.map sentD) W := h1
  obtain ⟨ps, hv, hnd, hrows⟩ := h1'
  obtain ⟨zs, hlen, hf, hsub⟩ := sents_list Tryd.underlying26 Tryd.rowES Tryd.underlying211 Tryd.underlying230 rfl rfl Tryd.underlying9 Tryd.cellsES Tryd.cellsS sent3L ps
    (fun x hx => by
      have := List.all_eq_true.1 Tryd.sent3Types x hx
      revert this
      cases hg : Tryd.prog.globalNamed x.1 with
      | none => intro h; cases h
      | some g =>
        intro h
        refine ⟨g, rfl, ?_⟩
        cases hv : Tryd.prog.globals[g]? with
        | none => simp [hv] at h
        | some v => simp [hv] at h; simp [h]) hv hrows
  have hl : zs.length = 3 := by rw [hlen]; rfl
  have at' : ∀ i : Nat, i < 3 → zs[i]? = some (zs.getD i ⟨0, 0, none⟩) := fun i hi => by
    rw [List.getD_eq_getElem?_getD, List.getElem?_eq_getElem (by omega)]; rfl
  have cellOf : ∀ (i : Nat) (x : String × List UInt8) (g : Nat), i < 3 → sent3L[i]? = some x → Tryd.prog.globalNamed x.1 = some g → W.cell? ⟨g, 0, none⟩ = some (.iface 211 (.pointer (some (zs.getD i ⟨0, 0, none⟩)))) := fun i x g hi hx hg => by
    simpa using World.var?_cell hg (hf i x _ hx (at' i hi)).1 0
  refine ⟨fun i => match i with | 1 => zs.getD 0 ⟨0, 0, none⟩ | 2 => zs.getD 1 ⟨0, 0, none⟩ | _ => zs.getD 2 ⟨0, 0, none⟩, ?_⟩
  exact ⟨cellOf 0 _ _ (by omega) rfl Tryd.gBound3, cellOf 1 _ _ (by omega) rfl Tryd.gShape3, cellOf 2 _ _ (by omega) rfl Tryd.gHeld3⟩
end Go.Proofs.YtneoflcfhdjcoabDoor
