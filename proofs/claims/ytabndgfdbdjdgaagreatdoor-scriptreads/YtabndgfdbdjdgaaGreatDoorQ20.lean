/-
  What the claimed theorem reaches, part Q20.
-/
import Derived.Test.YtabndgfdbdjdgaaGreatDoorProg
import Derived.WalkKit
import Derived.LaidEql
import Derived.Stop.Asserts
import Derived.RowKitTokens
import Derived.Test.YtabndgfdbdjdgaaGreatDoorQ00
namespace Go.Proofs.YtabndgfdbdjdgaaGreatDoor
open Go.RowKit Go.Extern.Stop Go.Stop Go.Extern
set_option maxRecDepth 100000
set_option maxHeartbeats 8000000
theorem Tryz.xMethodComparable (h:Value) (w:World):(Go.method 475 195 h "Comparable").run Tryz.prog w=.ok (284,h) w:=by kernel_rfl
theorem Tryz.xTypeOfE (v:Value) (w:World):(ReflectliteType.typeOf #[.iface 312 v]).run Tryz.prog w=.ok (.iface 195 (.agg #[.pointer (some (27,312))])) w:=by kernel_rfl
theorem Tryz.xComparableE (w:World):((ReflectliteType.method fun t=>do Rtype.noPackHeld "Comparable" t;(fun a=>Value.bool a.comparable) <$> typeInfo t) #[.agg #[.pointer (some (27,312))]]).run Tryz.prog w=.ok (.bool true) w:=by kernel_rfl
theorem Tryz.xComp:(Tryz.prog.info? 312).map (·.comparable)=some true:=by kernel_rfl
theorem Tryz.xSize:(Tryz.prog.info? 314).map (·.size)=some 1:=by kernel_rfl
theorem is_same (a:Addr) (w:World) :
  Calls Tryz.prog 32 #[.iface 312 (.pointer (some a)),.iface 312 (.pointer (some a))] w fun e w'=>e=.returned (.bool true)/\w'=w:=by
 obtain⟨i,hi,hcmp⟩:=Option.map_eq_some_iff.1 Tryz.xComp
 obtain⟨j,hj,hjs⟩:=Option.map_eq_some_iff.1 Tryz.xSize
 have h8:=@run_callFunc_extern Tryz.prog 87 _ ReflectliteType.typeOf Tryz.func87 (by kernel_rfl) (by kernel_rfl) (by kernel_rfl) (by kernel_rfl)
 have h32:=@run_callFunc_extern Tryz.prog 284 _ (ReflectliteType.method fun t=>do Rtype.noPackHeld "Comparable" t;pure (.bool (<- typeInfo t).comparable)) Tryz.func284 (by kernel_rfl) (by kernel_rfl) (by kernel_rfl) (by kernel_rfl)
 have tT := Tryz.xTypeOfE
 have cT := Tryz.xComparableE
 have mR := Tryz.xMethodComparable
 have heq:=run_eql_iface_ptr_same (P := Tryz.prog) w a Tryz.underlying25 Tryz.underlying312 hi hcmp hj
 go_enter Tryz.func32,Tryz.ntmps32
 go_wp2
 refine wp_loop_rounds 1 ?_
 rw[rounds_succ]
 go_wp2
 go_ret
 exact⟨rfl,rfl⟩
theorem is_nil (b:Addr) (w:World) :
  Calls Tryz.prog 32 #[.nilIface,.iface 312 (.pointer (some b))] w fun e w'=>e=.returned (.bool false)/\w'=w:=by
 have hq:(binOp .eql 25 .nilIface (.iface 312 (.pointer (some b)))).run Tryz.prog w=.ok (.bool false) w:=by kernel_rfl
 go_enter Tryz.func32,Tryz.ntmps32
 go_wp2
 go_ret
 exact⟨rfl,rfl⟩
end Go.Proofs.YtabndgfdbdjdgaaGreatDoor
