/-
  What the claimed theorem reaches, part Q23.
-/
import Derived.Test.YtklnhinjmlglcaaGreatDoorQ01
import Derived.Test.YtklnhinjmlglcaaGreatDoorQ00
namespace Go.Proofs.YtklnhinjmlglcaaGreatDoor
open Go.RowKit Go.Extern.Stop Go.Stop Go.Extern
set_option maxRecDepth 100000
set_option maxHeartbeats 8000000
theorem is_nil (b:Addr) (w:World) :
  Calls Tryz.prog 51 #[.nilIface,.iface 307 (.pointer (some b))] w fun e w'=>e=.returned (.bool false)/\w'=w:=by
 have hq:(binOp .eql 28 .nilIface (.iface 307 (.pointer (some b)))).run Tryz.prog w=.ok (.bool false) w:=by kernel_rfl
 go_enter Tryz.func51,Tryz.ntmps51
 go_wp2
 go_ret
 exact⟨rfl,rfl⟩
end Go.Proofs.YtklnhinjmlglcaaGreatDoor
