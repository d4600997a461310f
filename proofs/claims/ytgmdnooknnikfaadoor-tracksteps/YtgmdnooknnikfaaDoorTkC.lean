/-
  The law's tracked.
-/
import Derived.Test.YtgmdnooknnikfaaDoorTkB
namespace Go.Proofs.YtgmdnooknnikfaaDoor
open Go.RowKit

set_option maxRecDepth 100000 in
set_option maxHeartbeats 1000000 in
theorem begin_ok (w : World) : Calls Tryd.prog 26 #[.int .i64 2, .int .i64 1] w fun e w' => e = .returned (.tuple #[.int .i64 1, .nilIface]) ∧ w' = w := by
  go_enter Tryd.func26, Tryd.ntmps26
  go_wp2_with fail
  go_ret2
  exact ⟨rfl, rfl⟩
theorem n213 : nxtS 2 1 3 false = 2 ∧ nxtG 2 3 = false := by decide +kernel
set_option maxRecDepth 100000 in
set_option maxHeartbeats 1000000 in
theorem tracked_any (w : World) : Calls Tryd.prog 24 #[] w fun e w' => e = .returned (.bool true) ∧ Below w.heap.size w w' := by
  go_enter Tryd.func24, Tryd.ntmps24
  go_wp2_with fail
  refine (begin_ok _).mono ?_
  rintro e w1 ⟨rfl, rfl⟩
  go_wp2_with fail
  refine (next_any 2 1 3 false _).mono ?_
  rintro e w1 ⟨rfl, rfl⟩
  rw [n213.1, n213.2]
  go_wp2_with fail
  refine (time_any 1 0 _ (by decide) (by decide)).mono ?_
  rintro e w2 ⟨rfl, hb⟩
  have HB : Hid (Below _ _ _) := hb
  clear hb
  have e60 : stay 1 0 = 60 := by decide
  rw [e60]
  go_wp2_with fail
  go_ret
  exact ⟨rfl, HB.out⟩
end Go.Proofs.YtgmdnooknnikfaaDoor
