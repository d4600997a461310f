/-
  Texts in one: ErrA IsA.
-/
import Derived.Test.YtegihhjddnckgaaGreatDoorProg
import Derived.WalkKit
import Derived.LaidEql
import Derived.Stop.Asserts
import Derived.RowKitTokens
namespace Go.Proofs.YtegihhjddnckgaaGreatDoor
open Go.RowKit Go.Extern.Stop Go.Stop Go.Extern

/- closed facts on the entries for internal/reflectlite at this program's types -/
theorem Tryz.xMethodComparable (h : Value) (w : World) : (Go.method 348 146 h "Comparable").run Tryz.prog w = .ok (160, h) w := by kernel_rfl
theorem Tryz.xTypeOfE (v : Value) (w : World) : (ReflectliteType.typeOf #[.iface 212 v]).run Tryz.prog w = .ok (.iface 146 (.agg #[.pointer (some ⟨10, 212, none⟩)])) w := by kernel_rfl
theorem Tryz.xComparableE (w : World) : ((ReflectliteType.method fun t => do Rtype.noPackHeld "Comparable" t; (fun a => Value.bool a.comparable) <$> typeInfo t) #[.agg #[.pointer (some ⟨10, 212, none⟩)]]).run Tryz.prog w = .ok (.bool true) w := by kernel_rfl
theorem Tryz.xComp : (Tryz.prog.info? 212).map (·.comparable) = some true := by kernel_rfl
theorem Tryz.xSize : (Tryz.prog.info? 236).map (·.size) = some 1 := by kernel_rfl
end Go.Proofs.YtegihhjddnckgaaGreatDoor

namespace Go.Proofs.YtegihhjddnckgaaGreatDoor
open Go.RowKit Go.Extern.Stop Go.Stop Go.Extern

theorem is_same (a : Addr) (w : World) :
    Calls Tryz.prog 34 #[.iface 212 (.pointer (some a)), .iface 212 (.pointer (some a))] w fun e w' => e = .returned (.bool true) ∧ w' = w := by
  obtain ⟨i, hi, hcmp⟩ := Option.map_eq_some_iff.1 Tryz.xComp
  obtain ⟨j, hj, hjs⟩ := Option.map_eq_some_iff.1 Tryz.xSize
  have h8 := @run_callFunc_extern Tryz.prog 58 _ ReflectliteType.typeOf Tryz.func58 (by kernel_rfl) (by kernel_rfl) (by kernel_rfl) (by kernel_rfl)
  have h32 := @run_callFunc_extern Tryz.prog 160 _ (ReflectliteType.method fun t => do Rtype.noPackHeld "Comparable" t; pure (.bool (← typeInfo t).comparable)) Tryz.func160 (by kernel_rfl) (by kernel_rfl) (by kernel_rfl) (by kernel_rfl)
  have tT := Tryz.xTypeOfE
  have cT := Tryz.xComparableE
  have mR := Tryz.xMethodComparable
  have heq := run_eql_iface_ptr_same (P := Tryz.prog) w a Tryz.underlying28 Tryz.underlying212 hi hcmp hj
  go_enter Tryz.func34, Tryz.ntmps34
  go_wp2
  refine wp_loop_rounds 1 ?_
  rw [rounds_succ]
  go_wp2
  go_ret
  exact ⟨rfl, rfl⟩
end Go.Proofs.YtegihhjddnckgaaGreatDoor
