/-
  What errors.Is asks of types.
-/
import Derived.Test.YtpmoamfhppmicaaGreatDoorProg
import Derived.WalkKit
import Derived.LaidEql
import Derived.Stop.Asserts
import Derived.RowKitTokens
namespace Go.Proofs.YtpmoamfhppmicaaGreatDoor
open Go.RowKit Go.Extern.Stop Go.Stop Go.Extern

/- closed facts on the entries for internal/reflectlite at this program's types -/
theorem Tryz.xMethodComparable (h : Value) (w : World) : (Go.method 294 108 h "Comparable").run Tryz.prog w = .ok (117, h) w := by kernel_rfl
theorem Tryz.xTypeOfE (v : Value) (w : World) : (ReflectliteType.typeOf #[.iface 161 v]).run Tryz.prog w = .ok (.iface 108 (.agg #[.pointer (some ⟨21, 161, none⟩)])) w := by kernel_rfl
theorem Tryz.xComparableE (w : World) : ((ReflectliteType.method fun t => do Rtype.noPackHeld "Comparable" t; (fun a => Value.bool a.comparable) <$> typeInfo t) #[.agg #[.pointer (some ⟨21, 161, none⟩)]]).run Tryz.prog w = .ok (.bool true) w := by kernel_rfl
theorem Tryz.xComp : (Tryz.prog.info? 161).map (·.comparable) = some true := by kernel_rfl
theorem Tryz.xSize : (Tryz.prog.info? 163).map (·.size) = some 1 := by kernel_rfl
end Go.Proofs.YtpmoamfhppmicaaGreatDoor
