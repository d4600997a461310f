/-
  Contracts of package packet's ends and Check.
-/
import Derived.Test.YtpmoamfhppmicaaGreatDoorProg
import Derived.WalkKit
import Derived.Below
import Derived.Deep.QuietTactic
import Derived.BigQuiet
import Derived.RegionTactic
import Derived.Deep.RegionWith
namespace Go.Proofs.YtpmoamfhppmicaaGreatDoor
open Go.RowKit

theorem Tryz.idx0 (x y : Value) (w : World) : (Instr.index 84 (.agg #[x, y]) (.int .i64 0)).run Tryz.prog w = .ok x w := by kernel_rfl
theorem Tryz.idx1 (x y : Value) (w : World) : (Instr.index 84 (.agg #[x, y]) (.int .i64 1)).run Tryz.prog w = .ok y w := by kernel_rfl

theorem ends_any (b o : Nat) (w : World) : Calls Tryz.prog 40 #[.pointer (some ⟨b, o, none⟩)] w fun e w' =>
    e = .returned (.agg #[.pointer (some ⟨b, o + 1, none⟩), .pointer (some ⟨b, o + 3, none⟩)]) ∧ Below w.heap.size w w' := by
  go_enter Tryz.func40, Tryz.ntmps40
  go_wp2
  go_region
  all_goals go_wp2
  all_goals exact bodyPost_ret (v := .agg #[.pointer (some ⟨b, o + 1, none⟩), .pointer (some ⟨b, o + 3, none⟩)]) (by simp [results, Tryz.results40, go_sem]) rfl ⟨rfl, by repeat (first | exact Below.refl _ _ | refine Below.drew ?_ | refine Below.alloc ?_ (Nat.le_refl _) _)⟩
end Go.Proofs.YtpmoamfhppmicaaGreatDoor
