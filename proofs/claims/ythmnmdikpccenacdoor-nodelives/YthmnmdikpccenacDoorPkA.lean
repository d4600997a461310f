/-
  Contracts of package packet's ends and Check.
-/
import Derived.Test.YthmnmdikpccenacDoorProg
import Derived.WalkKit
import Derived.Below
import Derived.Deep.QuietTactic
import Derived.BigQuiet
import Derived.RegionTactic
import Derived.Deep.RegionWith
namespace Go.Proofs.YthmnmdikpccenacDoor
open Go.RowKit

theorem Tryd.idx0 (x y : Value) (w : World) : (Instr.index 124 (.agg #[x, y]) (.int .i64 0)).run Tryd.prog w = .ok x w := by kernel_rfl
theorem Tryd.idx1 (x y : Value) (w : World) : (Instr.index 124 (.agg #[x, y]) (.int .i64 1)).run Tryd.prog w = .ok y w := by kernel_rfl

theorem ends_any (b o : Nat) (w : World) : Calls Tryd.prog 60 #[.pointer (some ⟨b, o, none⟩)] w fun e w' =>
    e = .returned (.agg #[.pointer (some ⟨b, o + 1, none⟩), .pointer (some ⟨b, o + 3, none⟩)]) ∧ Below w.heap.size w w' := by
  go_enter Tryd.func60, Tryd.ntmps60
  go_wp2
  go_region
  all_goals go_wp2
  all_goals exact bodyPost_ret (v := .agg #[.pointer (some ⟨b, o + 1, none⟩), .pointer (some ⟨b, o + 3, none⟩)]) (by simp [results, Tryd.results60, go_sem]) rfl ⟨rfl, by repeat (first | exact Below.refl _ _ | refine Below.drew ?_ | refine Below.alloc ?_ (Nat.le_refl _) _)⟩
end Go.Proofs.YthmnmdikpccenacDoor
