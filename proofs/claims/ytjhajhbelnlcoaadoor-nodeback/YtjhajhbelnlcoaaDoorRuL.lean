/-
  One rule: all goes out.
-/
import Derived.Test.YtjhajhbelnlcoaaDoorNoF
namespace Go.Proofs.YtjhajhbelnlcoaaDoor
open Go.RowKit

def ruL : List Rl := [⟨true, true, 0, 1, 65535⟩]
theorem ruL_ok : RulesOk ruL := ⟨by decide, by decide⟩
theorem ruL_sl (w : World) : Sl (w.alloc (.cells #[.bool true, .bool true, .int .i64 0, .int .i64 1, .int .i64 65535] 34)) (.slice (some ⟨w.heap.size, 0, none⟩) 1 1) ruL := by
  refine Or.inr ⟨_, 1, rfl, by decide, by unfold maxLen; omega, fun i r hr => ?_⟩
  match i, hr with
  | 0, hr =>
    obtain rfl : (⟨true, true, 0, 1, 65535⟩ : Rl) = r := by simpa [ruL] using hr
    exact ⟨w.heap.size, 0, rfl, (nw _ _ _ _).trans rfl, (nw _ _ _ _).trans rfl, (nw _ _ _ _).trans rfl, (nw _ _ _ _).trans rfl, (nw _ _ _ _).trans rfl⟩
  | i + 1, hr => simp [ruL] at hr
theorem adm_one {pr p : Int} (h1 : 1 ≤ p) (h2 : p ≤ 65535) : adm ruL pr true p = true := by
  have : (⟨true, true, 0, 1, 65535⟩ : Rl).has pr true p = true := has_iff.2 ⟨rfl, Or.inl rfl, h1, h2⟩
  unfold ruL adm
  rw [if_pos this]
end Go.Proofs.YtjhajhbelnlcoaaDoor
