/-
  The document's answer: FlagsText.
-/
import Derived.Test.YtlogpnanfamjeaaGreatDoorRfA
namespace Go.Proofs.YtlogpnanfamjeaaGreatDoor
open Go.RowKit

theorem ret_str {l m : List UInt8} (h : l = m) : Ending.returned (.string ⟨l.toArray⟩) = Ending.returned (.string ⟨m.toArray⟩) := by rw [h]
set_option maxRecDepth 100000 in
set_option maxHeartbeats 8000000 in
theorem flagsRef_any (fl : Int) (h0 : 0 ≤ fl) (h1 : fl ≤ 15) (w : World) :
    Calls Tryz.prog 29 #[.int .i64 fl] w fun e w' => e = .returned (.string ⟨(fText fl).toArray⟩) ∧ Below w.heap.size w w' := by
  have h : fl = 0 ∨ fl = 1 ∨ fl = 2 ∨ fl = 3 ∨ fl = 4 ∨ fl = 5 ∨ fl = 6 ∨ fl = 7 ∨ fl = 8 ∨ fl = 9 ∨ fl = 10 ∨ fl = 11 ∨ fl = 12 ∨ fl = 13 ∨ fl = 14 ∨ fl = 15 := by omega
  have hap := @ByteArray.mk_append_mk
  clear h0 h1
  rcases h with rfl | rfl | rfl | rfl | rfl | rfl | rfl | rfl | rfl | rfl | rfl | rfl | rfl | rfl | rfl | rfl
  all_goals
    go_enter Tryz.func29, Tryz.ntmps29
    go_wp2_with fail
    refine wp_loop_rounds 5 ?_
    rw [rounds_succ]
    go_wp2_with fail
    rw [rounds_succ]
    go_wp2_with fail
    rw [rounds_succ]
    go_wp2_with fail
    rw [rounds_succ]
    go_wp2_with fail
    rw [rounds_succ]
    go_wp2_with fail
    go_ret
    exact ⟨ret_str (by decide +kernel), (Below.refl _ _).alloc (Nat.le_refl _) _⟩
end Go.Proofs.YtlogpnanfamjeaaGreatDoor
