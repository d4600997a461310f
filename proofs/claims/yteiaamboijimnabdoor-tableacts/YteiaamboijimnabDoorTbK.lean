/-
  Package table's Cells: all slots, in memory of their own.
-/
import Derived.Test.YteiaamboijimnabDoorTbD
import Derived.Deep.WholeRow
namespace Go.Proofs.YteiaamboijimnabDoor
open Go.RowKit

theorem neq_end (a b c d : Int) (w : World) : (binOp .neq 33 (.agg #[.int .i64 a, .int .i64 b]) (.agg #[.int .i64 c, .int .i64 d])).run Tryd.prog w = .ok (.bool (!(a == c && b == d))) w := by
  have h := eql_end a b c d w
  rw [run_eql_struct] at h
  rw [run_neq_struct]
  cases hr : (Op.equalIn 10000 33 (.agg #[.int .i64 a, .int .i64 b]) (.agg #[.int .i64 c, .int .i64 d])).run Tryd.prog w with
  | ok x w1 =>
    rw [hr] at h
    simp only [Result.andThen_ok, Result.ok.injEq, Value.bool.injEq] at h ⊢
    exact ⟨by rw [h.1], h.2⟩
  | halt x w1 =>
    rw [hr] at h
    simp [Result.andThen] at h
theorem slots_one (T : Tb) : (slotsArr T).all (·.oneCell') = true := by
  rw [Array.all_eq_true_iff_forall_mem]
  intro v hv
  simp only [slotsArr, List.mem_toArray, List.mem_map] at hv
  obtain ⟨j, _, rfl⟩ := hv
  rfl
theorem slots_info (T : Tb) : (Tryd.prog.info? 67).map (·.size) = some (slotsArr T).size := by
  rw [slotsArr_size]
  kernel_rfl
theorem zero_slots : ∀ w, (zeroValue 67).run Tryd.prog w = .ok (.agg (Array.replicate 320 (.int .i64 0))) w := (zero_of_info (n := 320) (by kernel_rfl)).1
/-- the cells that were handed out. -/
def CellsB (w : World) (Z : Nat) (T : Tb) : Prop := w.heap[Z]? = some (.cells (slotsArr T) 67 (0, 0))
theorem CellsB.at' {w : World} {Z : Nat} {T : Tb} (h : CellsB w Z T) {i k : Nat} (hi : i < 32) (hk : k < 10) : w.cell? ⟨Z, i * 10 + k, none⟩ = some (.int .i64 ((T i).get i k)) := by
  rw [cell_of_row w Z _ _ _ _ h, slotsArr_at T i k hi hk]
theorem CellsB.lt {w : World} {Z : Nat} {T : Tb} (h : CellsB w Z T) : Z < w.heap.size := by
  rcases Nat.lt_or_ge Z w.heap.size with h1 | h1
  · exact h1
  · rw [CellsB, Array.getElem?_eq_none h1] at h; cases h
theorem CellsB.below {w w' : World} {Z : Nat} {T : Tb} (h : CellsB w Z T) (hb : Below w.heap.size w w') : CellsB w' Z T := by
  unfold CellsB; rw [hb.block Z h.lt]; exact h
set_option maxRecDepth 100000 in
set_option maxHeartbeats 2000000 in
theorem cells_any (b : Nat) (low : Int) (T : Tb) (w : World) (t : Tab w b low T) :
    Calls Tryd.prog 26 #[.pointer (some ⟨b, 0, none⟩)] w fun e w' => e = .returned (.slice (some ⟨w.heap.size, 0, none⟩) 32 32) ∧ CellsB w' w.heap.size T ∧ Below w.heap.size w w' := by
  have hld := arr_load t
  have hz := zero_slots
  have HO : Hid ((slotsArr T).all (·.oneCell') = true) := slots_one T
  clear t
  go_enter Tryd.func26, Tryd.ntmps26
  go_wp2_with (first | refine wpList_load_at rfl 67 _ rfl _ _ rfl hld ?_ | refine wpList_store_row rfl 67 _ _ rfl w.heap.size (slotsArr T) rfl rfl 67 _ (heap_alloc_new w _) (slots_info T) (by rw [slotsArr_size]; first | rfl | simp) HO.out ?_)
  rw [World.setRow_alloc_new]
  go_ret
  exact ⟨rfl, heap_alloc_new w _, (Below.refl _ _).alloc (Nat.le_refl _) _⟩
end Go.Proofs.YteiaamboijimnabDoor
