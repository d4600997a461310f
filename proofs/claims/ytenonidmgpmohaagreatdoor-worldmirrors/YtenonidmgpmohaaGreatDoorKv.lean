/-
  Texts in one: ErrA IsA.
-/
import Derived.Test.YtenonidmgpmohaaGreatDoorProg
import Derived.WalkKit
import Derived.LaidEql
import Derived.Stop.Asserts
import Derived.RowKitTokens
namespace Go.Proofs.YtenonidmgpmohaaGreatDoor
open Go.RowKit Go.Extern.Stop Go.Stop Go.Extern

/- closed facts on the entries for internal/reflectlite at this program's types -/
theorem Tryz.xMethodComparable (h : Value) (w : World) : (Go.method 351 144 h "Comparable").run Tryz.prog w = .ok (168, h) w := by kernel_rfl
theorem Tryz.xTypeOfE (v : Value) (w : World) : (ReflectliteType.typeOf #[.iface 215 v]).run Tryz.prog w = .ok (.iface 144 (.agg #[.pointer (some ⟨10, 215, none⟩)])) w := by kernel_rfl
theorem Tryz.xComparableE (w : World) : ((ReflectliteType.method fun t => do Rtype.noPackHeld "Comparable" t; (fun a => Value.bool a.comparable) <$> typeInfo t) #[.agg #[.pointer (some ⟨10, 215, none⟩)]]).run Tryz.prog w = .ok (.bool true) w := by kernel_rfl
theorem Tryz.xComp : (Tryz.prog.info? 215).map (·.comparable) = some true := by kernel_rfl
theorem Tryz.xSize : (Tryz.prog.info? 239).map (·.size) = some 1 := by kernel_rfl
end Go.Proofs.YtenonidmgpmohaaGreatDoor

namespace Go.Proofs.YtenonidmgpmohaaGreatDoor
open Go.RowKit Go.Extern.Stop Go.Stop Go.Extern

theorem is_same (a : Addr) (w : World) :
    Calls Tryz.prog 39 #[.iface 215 (.pointer (some a)), .iface 215 (.pointer (some a))] w fun e w' => e = .returned (.bool true) ∧ w' = w := by
  obtain ⟨i, hi, hcmp⟩ := Option.map_eq_some_iff.1 Tryz.xComp
  obtain ⟨j, hj, hjs⟩ := Option.map_eq_some_iff.1 Tryz.xSize
  have h8 := @run_callFunc_extern Tryz.prog 65 _ ReflectliteType.typeOf Tryz.func65 (by kernel_rfl) (by kernel_rfl) (by kernel_rfl) (by kernel_rfl)
  have h32 := @run_callFunc_extern Tryz.prog 168 _ (ReflectliteType.method fun t => do Rtype.noPackHeld "Comparable" t; pure (.bool (← typeInfo t).comparable)) Tryz.func168 (by kernel_rfl) (by kernel_rfl) (by kernel_rfl) (by kernel_rfl)
  have tT := Tryz.xTypeOfE
  have cT := Tryz.xComparableE
  have mR := Tryz.xMethodComparable
  have heq := run_eql_iface_ptr_same (P := Tryz.prog) w a Tryz.underlying28 Tryz.underlying215 hi hcmp hj
  go_enter Tryz.func39, Tryz.ntmps39
  go_wp2
  refine wp_loop_rounds 1 ?_
  rw [rounds_succ]
  go_wp2
  go_ret
  exact ⟨rfl, rfl⟩
end Go.Proofs.YtenonidmgpmohaaGreatDoor
