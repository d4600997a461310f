/-
  A table in memory: one block of 321 cells; its array taken whole; one cell written.
-/
import Derived.Test.YtifkbafdjkgnoaaDoorGeA
import Derived.Test.YtifkbafdjkgnoaaDoorProg
import Derived.WalkKit
import Derived.Below
import Derived.BigQuiet
import Derived.RegionTactic
import Derived.Deep.RegionWith
import Derived.Laws.Rows
namespace Go.Proofs.YtifkbafdjkgnoaaDoor
open Go.RowKit

/-- a table in memory. -/
def Tab (w : World) (b : Nat) (low : Int) (T : Tb) : Prop := w.heap[b]? = some (.cells (tabArr low T) 62 (0, 0))
theorem Tab.low {w : World} {b : Nat} {low : Int} {T : Tb} (h : Tab w b low T) : w.cell? ⟨b, 0, none⟩ = some (.int .i64 low) := by
  rw [cell_of_row w b 0 _ _ _ h, tabArr_low]
theorem Tab.at' {w : World} {b : Nat} {low : Int} {T : Tb} (h : Tab w b low T) {i k : Nat} (hi : i < 32) (hk : k < 10) : w.cell? ⟨b, 1 + i * 10 + k, none⟩ = some (.int .i64 ((T i).get i k)) := by
  rw [cell_of_row w b _ _ _ _ h, tabArr_at low T i k hi hk]
theorem Tab.fr {w : World} {b : Nat} {low : Int} {T : Tb} (h : Tab w b low T) (j : Nat) : w.frozen? ⟨b, j, none⟩ = false := frozen_of_row w b j _ _ h
theorem Tab.lt {w : World} {b : Nat} {low : Int} {T : Tb} (h : Tab w b low T) : b < w.heap.size := by
  rcases Nat.lt_or_ge b w.heap.size with h1 | h1
  · exact h1
  · rw [Tab, Array.getElem?_eq_none h1] at h; cases h
theorem Tab.below {w w' : World} {b : Nat} {low : Int} {T : Tb} (h : Tab w b low T) (hb : Below w.heap.size w w') : Tab w' b low T := by
  unfold Tab; rw [hb.block b h.lt]; exact h
theorem Tab.put {w : World} {b : Nat} {low : Int} {T : Tb} (h : Tab w b low T) {i k : Nat} (x : Int) (hi : i < 32) (h1 : 1 ≤ k) (hk : k < 10) : Tab (w.setCell ⟨b, 1 + i * 10 + k, none⟩ (.int .i64 x)) b low (upd T i ((T i).put x k)) := by
  unfold Tab; rw [heap_setCell_same w b _ _ _ _ h, tabArr_put low T i k x hi h1 hk]
theorem Tab.alloc {w : World} {b : Nat} {low : Int} {T : Tb} (h : Tab w b low T) (o : Obj) : Tab (w.alloc o) b low T := h.below ((Below.refl _ _).alloc (Nat.le_refl _) _)
theorem Tab.drew {w : World} {b : Nat} {low : Int} {T : Tb} (h : Tab w b low T) : Tab w.drew b low T := h.below (Below.refl _ _).drew
theorem arr_load {w : World} {b : Nat} {low : Int} {T : Tb} (h : Tab w b low T) : (Instr.loadAt 60 (.pointer (some ⟨b, 1, none⟩))).run Tryd.prog w = .ok (.agg (slotsArr T)) w := by
  have hl : (loadCells ⟨b, 1, none⟩ (slotsArr T).toList.length).run Tryd.prog w = .ok (slotsArr T).toList.toArray w :=
    run_loadCells_list (P := Tryd.prog) w ⟨b, 1, none⟩ (slotsArr T).toList (fun j v hv => by
      have hadd : (⟨b, 1, none⟩ : Addr).add j = ⟨b, 1 + j, none⟩ := by unfold Addr.add; split <;> simp_all
      have hj : j < 320 := by
        have := (List.getElem?_eq_some_iff.1 hv).1
        rwa [Array.length_toList, slotsArr_size] at this
      rw [hadd, cell_of_row w b _ _ _ _ h, tabArr_slots low T j hj]
      simpa using hv)
  simp only [Array.length_toList, Array.toArray_toList, slotsArr_size] at hl
  have hagg : (isAgg 60).run Tryd.prog w = .ok true w := by
    unfold isAgg
    rw [Sem.run_bind, run_underlying Tryd.underlying60 w]
    rfl
  have hs : (sizeOf 60).run Tryd.prog w = .ok 320 w := by kernel_rfl
  simp only [Instr.loadAt, Instr.sureAddr, Sem.run_bind, Sem.run_pure, Result.andThen_ok, loadVar, hagg, hs, hl, if_true]
end Go.Proofs.YtifkbafdjkgnoaaDoor
