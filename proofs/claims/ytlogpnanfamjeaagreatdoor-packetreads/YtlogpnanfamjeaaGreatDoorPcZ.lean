/-
  A world that meets the packets' list of laid variables.
-/
import Derived.Test.YtlogpnanfamjeaaGreatDoorEnvP
import Derived.Lib.SmallJoins
namespace Go.Proofs.YtlogpnanfamjeaaGreatDoor
open Go.ChangeShapes Go.WideShapes Go.ChangeAt Go.RowKit

theorem Tryz.own : ownKnob Tryz.prog.godebug = none := by kernel_rfl
/-- A WORLD FOR THE WITNESS: what the door's own run leaves, the pinned table laid in it. -/
noncomputable def zWorld (os : Os) : World := (World.doorLaid Tryz.prog 293 os).layVars Tryz.prog [("unicode/utf8.first", Rows.laid_unicode_utf8_first)]
theorem codes_env {W : World} (h : laidMetH Tryz.prog Rows.packetCodesRow.laid W) (hS : W.ShapedOpen Tryz.prog) : ∃ s, EnvL W s := env_of h hS (by kernel_rfl) (by kernel_rfl) (by kernel_rfl) (by kernel_rfl) (by kernel_rfl)
theorem z_met (os : Os) : laidMetH Tryz.prog Rows.packetCodesRow.laid ((zWorld os).forCall (fun _ _ => 0) ⟨#[], #[pkt 0 0 0 0 0 0], []⟩).memory :=
  laidMetH_of_parts3 (fuel := 8) (laidMet_of_run' 8 (by kernel_rfl) (by kernel_rfl)) (by kernel_rfl) (by kernel_rfl)
end Go.Proofs.YtlogpnanfamjeaaGreatDoor
