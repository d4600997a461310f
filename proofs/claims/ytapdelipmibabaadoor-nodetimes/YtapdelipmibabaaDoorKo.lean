/-
  Texts in one: NtZ RuL.
-/
import Derived.Test.YtapdelipmibabaaDoorNoM
import Derived.Test.YtapdelipmibabaaDoorKj
namespace Go.Proofs.YtapdelipmibabaaDoor
open Go.RowKit

theorem act_tick {x : No} (h : x.ro.ac = true) : x.tkE = 0 ∧ x.tick = x.ticked.noted ∧ x.ticked.ro.ac = true := by
  have hr : x.ro.rings = false := by unfold Ro.rings; rw [h]; rfl
  have hE : x.tkE = 0 := by unfold No.tkE; rw [hr]; rfl
  have ht : x.tick = x.ticked.noted := by unfold No.tick No.tk1; rw [hE, hr]; rfl
  refine ⟨hE, ht, ?_⟩
  show x.ro.tick.ac = true
  unfold Ro.tick
  rw [h]
  exact h
theorem noted_T (x : No) : x.noted.T = x.T := by unfold No.noted; split <;> rfl
end Go.Proofs.YtapdelipmibabaaDoor

namespace Go.Proofs.YtapdelipmibabaaDoor
open Go.RowKit

def ruL : List Rl := [⟨true, true, 0, 1, 65535⟩]
theorem ruL_ok : RulesOk ruL := ⟨by decide, by decide⟩
theorem ruL_sl (w : World) : Sl (w.alloc (.cells #[.bool true, .bool true, .int .i64 0, .int .i64 1, .int .i64 65535] 37)) (.slice (some ⟨w.heap.size, 0, none⟩) 1 1) ruL := by
  refine Or.inr ⟨_, 1, rfl, by decide, by unfold maxLen; omega, fun i r hr => ?_⟩
  match i, hr with
  | 0, hr =>
    obtain rfl : (⟨true, true, 0, 1, 65535⟩ : Rl) = r := by simpa [ruL] using hr
    exact ⟨w.heap.size, 0, rfl, (nw _ _ _ _).trans rfl, (nw _ _ _ _).trans rfl, (nw _ _ _ _).trans rfl, (nw _ _ _ _).trans rfl, (nw _ _ _ _).trans rfl⟩
  | i + 1, hr => simp [ruL] at hr
theorem adm_one {pr p : Int} (h1 : 1 ≤ p) (h2 : p ≤ 65535) : adm ruL pr true p = true := by
  have : (⟨true, true, 0, 1, 65535⟩ : Rl).has pr true p = true := has_iff.2 ⟨rfl, Or.inl rfl, h1, h2⟩
  unfold ruL adm
  rw [if_pos this]
end Go.Proofs.YtapdelipmibabaaDoor
