/-
  Package mirror's Cells.
-/
import Derived.Test.YtenonidmgpmohaaGreatDoorKf
namespace Go.Proofs.YtenonidmgpmohaaGreatDoor
open Go.RowKit

set_option maxRecDepth 100000 in
set_option maxHeartbeats 2000000 in
theorem mcells_any (b : Nat) (life : Int) (T : Tb) (w : World) (t : Mir w b life T) :
    Calls Tryz.prog 37 #[.pointer (some ⟨b, 0, none⟩)] w fun e w' => e = .returned (.slice (some ⟨w.heap.size, 0, none⟩) 32 32) ∧ CellsB w' w.heap.size T ∧ Below w.heap.size w w' := by
  have hld := mir_load t
  have hz := zero_slots
  have HO : Hid ((slotsArr T).all (·.oneCell') = true) := slots_one T
  clear t
  go_enter Tryz.func37, Tryz.ntmps37
  go_wp2_with (first | refine wpList_load_at rfl 111 _ rfl _ _ rfl hld ?_ | refine wpList_store_row rfl 111 _ _ rfl w.heap.size (slotsArr T) rfl rfl 111 _ (heap_alloc_new w _) (slots_info T) (by rw [slotsArr_size]; first | rfl | simp) HO.out ?_)
  rw [World.setRow_alloc_new]
  go_ret
  exact ⟨rfl, heap_alloc_new w _, (Below.refl _ _).alloc (Nat.le_refl _) _⟩
end Go.Proofs.YtenonidmgpmohaaGreatDoor
