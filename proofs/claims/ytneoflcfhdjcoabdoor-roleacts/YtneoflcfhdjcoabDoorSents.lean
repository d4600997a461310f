/-
  What a row's list of laid variables gives: 'Sents': the eleven sentinels of package api, no two of them one, and errors.errorType.
-/
import Derived.Test.YtneoflcfhdjcoabDoorRows
import Derived.Test.YtneoflcfhdjcoabDoorCode
import Derived.Test.YtneoflcfhdjcoabDoorSeA
import Derived.LaidLaws
import Derived.LaidHandle
import Derived.LaidSub
import Derived.RowKitTokens
namespace Go.Proofs.YtneoflcfhdjcoabDoor
open Go.RowKit Go.ChangeShapes Go.WideShapes

def isHandle (x : String × DataW Unit) : Bool := x.1 == "errors.errorType"
def handleD : DataW Unit := .iface "internal/reflectlite.rtype" (.agg [.ptr (.lit (.string [101, 114, 114, 111, 114]))])

theorem Tryd.gText : Tryd.prog.globalNamed "twinrampart/api.ErrText" = some 7 := by kernel_rfl
theorem Tryd.gBound : Tryd.prog.globalNamed "twinrampart/api.ErrBound" = some 0 := by kernel_rfl
theorem Tryd.gShape : Tryd.prog.globalNamed "twinrampart/api.ErrShape" = some 4 := by kernel_rfl
theorem Tryd.gNone : Tryd.prog.globalNamed "twinrampart/api.ErrNone" = some 8 := by kernel_rfl
theorem Tryd.gExist : Tryd.prog.globalNamed "twinrampart/api.ErrExist" = some 1 := by kernel_rfl
theorem Tryd.gFull : Tryd.prog.globalNamed "twinrampart/api.ErrFull" = some 2 := by kernel_rfl
theorem Tryd.gOff : Tryd.prog.globalNamed "twinrampart/api.ErrOff" = some 5 := by kernel_rfl
theorem Tryd.gDeny : Tryd.prog.globalNamed "twinrampart/api.ErrDeny" = some 9 := by kernel_rfl
theorem Tryd.gState : Tryd.prog.globalNamed "twinrampart/api.ErrState" = some 10 := by kernel_rfl
theorem Tryd.gOld : Tryd.prog.globalNamed "twinrampart/api.ErrOld" = some 3 := by kernel_rfl
theorem Tryd.gHeld : Tryd.prog.globalNamed "twinrampart/api.ErrHeld" = some 6 := by kernel_rfl
theorem Tryd.gEt : Tryd.prog.globalNamed "errors.errorType" = some 11 := by kernel_rfl
theorem Tryd.sentTypes : (sentL.all fun x => match Tryd.prog.globalNamed x.1 with | some g => (match Tryd.prog.globals[g]? with | some v => v.type == 26 | none => false) | none => false) = true := by kernel_rfl
theorem Tryd.rt : (Tryd.prog.cutTypes.find? (·.1 == "internal/reflectlite.rtype")).map (·.2) = some 196 := by kernel_rfl
theorem Tryd.oneRow : ((List.range 241).filter fun t => Tryd.prog.rowNamed t [101, 114, 114, 111, 114]) = [26] := by kernel_rfl
theorem Tryd.sizeT : Tryd.prog.types.size = 241 := by kernel_rfl
theorem sents_of_laid {l : List (String × DataW Unit)} {W : World} (h : laidMetH Tryd.prog l W)
    (e1 : l.filter isSent = sentL.map sentD) (e2 : l.filter isHandle = [("errors.errorType", handleD)]) : ∃ s, Sents W s := by
  have h1 := h.filter isSent
  rw [e1] at h1
  have h1' : laidMet Tryd.prog (sentL.map sentD) W := h1
  have h2 := h.filter isHandle
  rw [e2] at h2
  have h2' : laidMet Tryd.prog [] W ∧ handlesMet Tryd.prog [("errors.errorType", handleD)] W := h2
  have het : W.cell? ⟨11, 0, none⟩ = some (.iface 196 (.agg #[.pointer (some ⟨12, 26, none⟩)])) := by
    obtain ⟨name, u, ty, k1, k2, k3, k4, k5⟩ := h2'.2 _ (List.mem_singleton.2 rfl)
    have en : name = [101, 114, 114, 111, 114] := (Option.some.inj k1).symm
    subst en
    obtain rfl := Option.some.inj (Tryd.rt.symm.trans k2)
    have hm : ty ∈ (List.range 241).filter fun t => Tryd.prog.rowNamed t [101, 114, 114, 111, 114] := List.mem_filter.2 ⟨List.mem_range.2 (by rw [← Tryd.sizeT]; exact k3), k4⟩
    rw [Tryd.oneRow] at hm
    obtain rfl := List.mem_singleton.1 hm
    have hh : typeHandle Tryd.prog 26 = .pointer (some ⟨12, 26, none⟩) := by kernel_rfl
    rw [hh] at k5
    simpa using World.var?_cell Tryd.gEt k5 0
  obtain ⟨ps, hv, hnd, hrows⟩ := h1'
  obtain ⟨zs, hlen, hf, hsub⟩ := sents_list Tryd.underlying26 Tryd.rowES Tryd.underlying211 Tryd.underlying230 rfl rfl Tryd.underlying9 Tryd.cellsES Tryd.cellsS sentL ps
    (fun x hx => by
      have := List.all_eq_true.1 Tryd.sentTypes x hx
      revert this
      cases hg : Tryd.prog.globalNamed x.1 with
      | none => intro h; cases h
      | some g =>
        intro h
        refine ⟨g, rfl, ?_⟩
        cases hv : Tryd.prog.globals[g]? with
        | none => simp [hv] at h
        | some v => simp [hv] at h; simp [h]) hv hrows
  have hl : zs.length = 11 := by rw [hlen]; rfl
  have hnd' := hnd.sublist hsub
  have at' : ∀ i : Nat, i < 11 → zs[i]? = some (zs.getD i ⟨0, 0, none⟩) := fun i hi => by
    rw [List.getD_eq_getElem?_getD, List.getElem?_eq_getElem (by omega)]; rfl
  have cellOf : ∀ (i : Nat) (x : String × List UInt8) (g : Nat), i < 11 → sentL[i]? = some x → Tryd.prog.globalNamed x.1 = some g → W.cell? ⟨g, 0, none⟩ = some (.iface 211 (.pointer (some (zs.getD i ⟨0, 0, none⟩)))) := fun i x g hi hx hg => by
    simpa using World.var?_cell hg (hf i x _ hx (at' i hi)).1 0
  refine ⟨fun i => zs.getD i ⟨0, 0, none⟩, ⟨het, cellOf 0 _ _ (by omega) rfl Tryd.gText, cellOf 1 _ _ (by omega) rfl Tryd.gBound, cellOf 2 _ _ (by omega) rfl Tryd.gShape, cellOf 3 _ _ (by omega) rfl Tryd.gNone,
    cellOf 4 _ _ (by omega) rfl Tryd.gExist, cellOf 5 _ _ (by omega) rfl Tryd.gFull, cellOf 6 _ _ (by omega) rfl Tryd.gOff, cellOf 7 _ _ (by omega) rfl Tryd.gDeny, cellOf 8 _ _ (by omega) rfl Tryd.gState,
    cellOf 9 _ _ (by omega) rfl Tryd.gOld, cellOf 10 _ _ (by omega) rfl Tryd.gHeld, fun i hi => ?_, fun i j hi hj hij => ?_⟩⟩
  · obtain ⟨x, hx⟩ : ∃ x, sentL[i]? = some x := by
      have : i < sentL.length := by show i < 11; exact hi
      exact ⟨_, List.getElem?_eq_getElem this⟩
    exact (hf i x _ hx (at' i hi)).2
  · intro he
    have he' : zs.getD i ⟨0, 0, none⟩ = zs.getD j ⟨0, 0, none⟩ := he
    have e1 := at' i hi
    have e2 := at' j hj
    have n1 : (zs.map fun a => MemPlace.cell a.block a.off)[i]? = some (.cell (zs.getD i ⟨0, 0, none⟩).block (zs.getD i ⟨0, 0, none⟩).off) := by rw [List.getElem?_map, e1]; rfl
    have n2 : (zs.map fun a => MemPlace.cell a.block a.off)[j]? = some (.cell (zs.getD i ⟨0, 0, none⟩).block (zs.getD i ⟨0, 0, none⟩).off) := by rw [List.getElem?_map, e2, he']; rfl
    exact hij ((List.getElem?_inj (by simp; omega) hnd').1 (n1.trans n2.symm))
end Go.Proofs.YtneoflcfhdjcoabDoor
