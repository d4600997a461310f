/-
  Package policy's isRule.
-/
import Derived.Test.YtpmoamfhppmicaaGreatDoorPoM
import Derived.Test.YtpmoamfhppmicaaGreatDoorPkA
namespace Go.Proofs.YtpmoamfhppmicaaGreatDoor
open Go.RowKit

set_option maxRecDepth 100000 in
set_option maxHeartbeats 2000000 in
theorem isRule_any (al ou : Bool) (pr lo tp : Int) (w : World) (b : Bool) (hb : decide (Rl.ok ⟨al, ou, pr, lo, tp⟩) = b) :
    Calls Tryz.prog 28 #[.agg #[.bool al, .bool ou, .int .i64 pr, .int .i64 lo, .int .i64 tp]] w fun e w' => e = .returned (.bool b) ∧ Below w.heap.size w w' := by
  have HB : Hid (decide (Rl.ok ⟨al, ou, pr, lo, tp⟩) = b) := hb
  clear hb
  by_cases h0 : pr = 0 ∨ pr = 1 ∨ pr = 2
  · by_cases h1 : 1 ≤ lo
    · by_cases h2 : lo ≤ tp
      · rcases h3 : decide (tp ≤ 65535) with _ | _
        · have e : b = false := by rw [← HB.out]; rw [decide_eq_false_iff_not] at h3 ⊢; unfold Rl.ok; simp only; omega
          subst e
          clear HB
          rcases h0 with rfl | rfl | rfl
          all_goals
            go_enter Tryz.func28, Tryz.ntmps28
            go_wp2_with fail
            go_ret
            exact ⟨rfl, (Below.refl _ _).alloc (Nat.le_refl _) _⟩
        · have e : b = true := by rw [← HB.out]; rw [decide_eq_true_iff] at h3 ⊢; unfold Rl.ok; simp only; omega
          subst e
          clear HB
          rcases h0 with rfl | rfl | rfl
          all_goals
            go_enter Tryz.func28, Tryz.ntmps28
            go_wp2_with fail
            go_ret
            exact ⟨rfl, (Below.refl _ _).alloc (Nat.le_refl _) _⟩
      · have e : b = false := by rw [← HB.out]; rw [decide_eq_false_iff_not]; unfold Rl.ok; simp only; omega
        subst e
        clear HB
        rcases h0 with rfl | rfl | rfl
        all_goals
          go_enter Tryz.func28, Tryz.ntmps28
          go_wp2_with fail
          go_ret
          exact ⟨rfl, (Below.refl _ _).alloc (Nat.le_refl _) _⟩
    · have e : b = false := by rw [← HB.out]; rw [decide_eq_false_iff_not]; unfold Rl.ok; simp only; omega
      subst e
      clear HB
      rcases h0 with rfl | rfl | rfl
      all_goals
        go_enter Tryz.func28, Tryz.ntmps28
        go_wp2_with fail
        go_ret
        exact ⟨rfl, (Below.refl _ _).alloc (Nat.le_refl _) _⟩
  · have e : b = false := by rw [← HB.out]; rw [decide_eq_false_iff_not]; unfold Rl.ok; simp only; omega
    subst e
    clear HB
    have g0 : (pr == 0) = false := beq_eq_false_iff_ne.2 (by omega)
    have g1 : (pr == 1) = false := beq_eq_false_iff_ne.2 (by omega)
    have g2 : (pr == 2) = false := beq_eq_false_iff_ne.2 (by omega)
    clear h0
    go_enter Tryz.func28, Tryz.ntmps28
    go_wp2_with fail
    go_ret
    exact ⟨rfl, (Below.refl _ _).alloc (Nat.le_refl _) _⟩
end Go.Proofs.YtpmoamfhppmicaaGreatDoor
