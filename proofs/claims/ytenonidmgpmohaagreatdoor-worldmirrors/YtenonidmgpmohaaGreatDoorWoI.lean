/-
  errors.Is of no error.
-/
import Derived.Test.YtenonidmgpmohaaGreatDoorKv
namespace Go.Proofs.YtenonidmgpmohaaGreatDoor
open Go.RowKit Go.Extern.Stop Go.Stop Go.Extern

set_option maxRecDepth 100000 in
theorem is_nil (b : Addr) (w : World) :
    Calls Tryz.prog 39 #[.nilIface, .iface 215 (.pointer (some b))] w fun e w' => e = .returned (.bool false) ∧ w' = w := by
  have hq : (binOp .eql 28 .nilIface (.iface 215 (.pointer (some b)))).run Tryz.prog w = .ok (.bool false) w := by kernel_rfl
  go_enter Tryz.func39, Tryz.ntmps39
  go_wp2
  go_ret
  exact ⟨rfl, rfl⟩
end Go.Proofs.YtenonidmgpmohaaGreatDoor
