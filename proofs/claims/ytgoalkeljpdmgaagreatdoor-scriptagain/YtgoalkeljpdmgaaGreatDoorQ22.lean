/-
  What the claimed theorem reaches, part Q22.
-/
import Derived.Test.YtgoalkeljpdmgaaGreatDoorProg
import Derived.WalkKit
import Derived.LaidEql
import Derived.Stop.Asserts
import Derived.RowKitTokens
import Derived.Test.YtgoalkeljpdmgaaGreatDoorQ00
namespace Go.Proofs.YtgoalkeljpdmgaaGreatDoor
open Go.RowKit Go.Extern.Stop Go.Stop Go.Extern
set_option maxRecDepth 100000
set_option maxHeartbeats 8000000
theorem Tryz.xMethodComparable (h:Value) (w:World):(Go.method 464 270 h "Comparable").run Tryz.prog w=.ok (290,h) w:=by kernel_rfl
theorem Tryz.xTypeOfE (v:Value) (w:World):(ReflectliteType.typeOf #[.iface 298 v]).run Tryz.prog w=.ok (.iface 270 (.agg #[.pointer (some (26,298))])) w:=by kernel_rfl
theorem Tryz.xComparableE (w:World):((ReflectliteType.method fun t=>do Rtype.noPackHeld "Comparable" t;(fun a=>Value.bool a.comparable) <$> typeInfo t) #[.agg #[.pointer (some (26,298))]]).run Tryz.prog w=.ok (.bool true) w:=by kernel_rfl
theorem Tryz.xComp:(Tryz.prog.info? 298).map (·.comparable)=some true:=by kernel_rfl
theorem Tryz.xSize:(Tryz.prog.info? 300).map (·.size)=some 1:=by kernel_rfl
theorem is_same (a:Addr) (w:World) :
  Calls Tryz.prog 123 #[.iface 298 (.pointer (some a)),.iface 298 (.pointer (some a))] w fun e w'=>e=.returned (.bool true)/\w'=w:=by
 obtain⟨i,hi,hcmp⟩:=Option.map_eq_some_iff.1 Tryz.xComp
 obtain⟨j,hj,hjs⟩:=Option.map_eq_some_iff.1 Tryz.xSize
 have h8:=@run_callFunc_extern Tryz.prog 167 _ ReflectliteType.typeOf Tryz.func167 (by kernel_rfl) (by kernel_rfl) (by kernel_rfl) (by kernel_rfl)
 have h32:=@run_callFunc_extern Tryz.prog 290 _ (ReflectliteType.method fun t=>do Rtype.noPackHeld "Comparable" t;pure (.bool (<- typeInfo t).comparable)) Tryz.func290 (by kernel_rfl) (by kernel_rfl) (by kernel_rfl) (by kernel_rfl)
 have tT := Tryz.xTypeOfE
 have cT := Tryz.xComparableE
 have mR := Tryz.xMethodComparable
 have heq:=run_eql_iface_ptr_same (P := Tryz.prog) w a Tryz.underlying39 Tryz.underlying298 hi hcmp hj
 go_enter Tryz.func123,Tryz.ntmps123
 go_wp2
 refine wp_loop_rounds 1 ?_
 rw[rounds_succ]
 go_wp2
 go_ret
 exact⟨rfl,rfl⟩
theorem is_nil (b:Addr) (w:World) :
  Calls Tryz.prog 123 #[.nilIface,.iface 298 (.pointer (some b))] w fun e w'=>e=.returned (.bool false)/\w'=w:=by
 have hq:(binOp .eql 39 .nilIface (.iface 298 (.pointer (some b)))).run Tryz.prog w=.ok (.bool false) w:=by kernel_rfl
 go_enter Tryz.func123,Tryz.ntmps123
 go_wp2
 go_ret
 exact⟨rfl,rfl⟩
end Go.Proofs.YtgoalkeljpdmgaaGreatDoor
