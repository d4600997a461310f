/-
  What the rows' list of laid variables and the world's shape give the reading of rules.
-/
import Derived.Test.YtpmoamfhppmicaaGreatDoorPoK
import Derived.Test.YtpmoamfhppmicaaGreatDoorLiA
import Derived.ShapedOpen
namespace Go.Proofs.YtpmoamfhppmicaaGreatDoor
open Go.ChangeShapes Go.WideShapes Go.ChangeAt Go.RowKit

def libL : List (String × List UInt8) := [("strconv.ErrRange", [118, 97, 108, 117, 101, 32, 111, 117, 116, 32, 111, 102, 32, 114, 97, 110, 103, 101]), ("strconv.ErrSyntax", [105, 110, 118, 97, 108, 105, 100, 32, 115, 121, 110, 116, 97, 120])]
def isLib (x : String × DataW Unit) : Bool := (libL.map (·.1)).contains x.1
theorem Tryz.gSyn : Tryz.prog.globalNamed "strconv.ErrSyntax" = some 17 := by kernel_rfl
theorem Tryz.gRan : Tryz.prog.globalNamed "strconv.ErrRange" = some 18 := by kernel_rfl
theorem Tryz.gSynT : (Tryz.prog.globals[17]?).map (·.type) = some 25 := by kernel_rfl
theorem Tryz.gRanT : (Tryz.prog.globals[18]?).map (·.type) = some 25 := by kernel_rfl
theorem libs_of {l : List (String × DataW Unit)} {W : World} (h : laidMetH Tryz.prog l W) (e : l.filter isLib = libL.map sentD) (hS : W.ShapedOpen Tryz.prog) : Libs W := by
  have h1 := h.filter isLib
  rw [e] at h1
  have h2 : laidMet Tryz.prog (libL.map sentD) W := h1
  obtain ⟨ps, hv, hnd, hrows⟩ := h2
  obtain ⟨zs, hlen, hf, _⟩ := sents_list Tryz.underlying25 Tryz.rowES Tryz.underlying161 Tryz.underlying163 rfl rfl Tryz.underlying9 Tryz.cellsES Tryz.cellsS libL ps
    (fun x hx => by
      simp only [libL, List.mem_cons, List.not_mem_nil, or_false] at hx
      rcases hx with rfl | rfl
      · exact ⟨_, Tryz.gRan, Tryz.gRanT⟩
      · exact ⟨_, Tryz.gSyn, Tryz.gSynT⟩) hv hrows
  have hl : zs.length = 2 := by rw [hlen]; rfl
  have at' : ∀ i : Nat, i < 2 → zs[i]? = some (zs.getD i ⟨0, 0, none⟩) := fun i hi => by
    rw [List.getD_eq_getElem?_getD, List.getElem?_eq_getElem (by omega)]; rfl
  refine ⟨?_, ?_, ?_⟩
  · exact cell_of_shapedOpen_int (g := 13) (t := 3) (k := .i64) (zero := #[.int .i64 0]) hS (of_decide_eq_true (by kernel_rfl)) (by kernel_rfl) rfl (by kernel_rfl) (by kernel_rfl) Tryz.underlying3
  · exact ⟨_, _, by simpa using World.var?_cell Tryz.gSyn (hf 1 _ _ rfl (at' 1 (by omega))).1 0⟩
  · exact ⟨_, _, by simpa using World.var?_cell Tryz.gRan (hf 0 _ _ rfl (at' 0 (by omega))).1 0⟩
theorem Tryz.own : ownKnob Tryz.prog.godebug = none := by kernel_rfl
/-- A WORLD FOR THE WITNESS: what the door's own run leaves, the pinned table laid in it. -/
noncomputable def zWorld (os : Os) : World := (World.doorLaid Tryz.prog 296 os).layVars Tryz.prog [("unicode/utf8.first", Rows.laid_unicode_utf8_first)]
end Go.Proofs.YtpmoamfhppmicaaGreatDoor
