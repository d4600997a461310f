/-
  What the claimed theorem reaches, part Q25.
-/
import Derived.Test.YtdpmeoflgpaljaaGreatDoorQ01
import Derived.Test.YtdpmeoflgpaljaaGreatDoorQ00
namespace Go.Proofs.YtdpmeoflgpaljaaGreatDoor
open Go.RowKit Go.Extern.Stop Go.Stop Go.Extern
set_option maxRecDepth 100000
set_option maxHeartbeats 8000000
theorem is_nil (b:Addr) (w:World) :
  Calls Tryz.prog 43 #[.nilIface,.iface 310 (.pointer (some b))] w fun e w'=>e=.returned (.bool false)/\w'=w:=by
 have hq:(binOp .eql 30 .nilIface (.iface 310 (.pointer (some b)))).run Tryz.prog w=.ok (.bool false) w:=by kernel_rfl
 go_enter Tryz.func43,Tryz.ntmps43
 go_wp2
 go_ret
 exact⟨rfl,rfl⟩
end Go.Proofs.YtdpmeoflgpaljaaGreatDoor
