/-
  Three numbers in a block; what package cell's hold needs.
-/
import Derived.Test.YthmnmdikpccenacDoorCeA
import Derived.Test.YthmnmdikpccenacDoorCeE
import Derived.Deep.DeepCutAuto
import Derived.Deep.CutRange
namespace Go.Proofs.YthmnmdikpccenacDoor
open Go.RowKit

theorem arr16_info (L : List UInt8) (h : L.length = 16) : (Tryd.prog.info? 116).map (·.size) = some (arrV L).size := by rw [arrV_size, h]; kernel_rfl
theorem arr_one (L : List UInt8) : (arrV L).all (·.oneCell') = true := all_oneCell_toArray (fun v hv => by
    obtain ⟨y, _, rfl⟩ := List.mem_map.1 hv
    rfl)
/-- three numbers in a block. -/
def Num3 (w : World) (q : Nat) (a b c : Int) : Prop := w.heap[q]? = some (.cells #[.int .i64 a, .int .i64 b, .int .i64 c] 97 (0, 0))
theorem Num3.lt {w : World} {q : Nat} {a b c : Int} (h : Num3 w q a b c) : q < w.heap.size := by
  rcases Nat.lt_or_ge q w.heap.size with h1 | h1
  · exact h1
  · rw [Num3, Array.getElem?_eq_none h1] at h; cases h
theorem Num3.below {w w' : World} {q : Nat} {a b c : Int} (h : Num3 w q a b c) (hb : Below w.heap.size w w') : Num3 w' q a b c := by
  unfold Num3; rw [hb.block q h.lt]; exact h
theorem Num3.c0 {w : World} {q : Nat} {a b c : Int} (h : Num3 w q a b c) : w.cell? ⟨q, 0, none⟩ = some (.int .i64 a) := (cell_of_row w q _ _ _ _ h).trans rfl
theorem Num3.c1 {w : World} {q : Nat} {a b c : Int} (h : Num3 w q a b c) : w.cell? ⟨q, 1, none⟩ = some (.int .i64 b) := (cell_of_row w q _ _ _ _ h).trans rfl
theorem Num3.c2 {w : World} {q : Nat} {a b c : Int} (h : Num3 w q a b c) : w.cell? ⟨q, 2, none⟩ = some (.int .i64 c) := (cell_of_row w q _ _ _ _ h).trans rfl
theorem Num3.fr {w : World} {q : Nat} {a b c : Int} (h : Num3 w q a b c) (i : Nat) : w.frozen? ⟨q, i, none⟩ = false := frozen_of_row w q i _ _ h
theorem Num3.put {w : World} {q : Nat} {a b c : Int} (h : Num3 w q a b c) (x y z : Int) : Num3 (((w.setCell ⟨q, 0, none⟩ (.int .i64 x)).setCell ⟨q, 1, none⟩ (.int .i64 y)).setCell ⟨q, 2, none⟩ (.int .i64 z)) q x y z := by
  unfold Num3
  rw [heap_setCell_same _ q _ _ _ _ (heap_setCell_same _ q _ _ _ _ (heap_setCell_same w q _ _ _ _ h))]
  rfl
theorem setRow_alloc2 (w : World) (o : Obj) (c c' : Array Value) (t : TypeId) : ((w.alloc o).alloc (.cells c t)).setRow (w.heap.size + 1) c' = (w.alloc o).alloc (.cells c' t) := by
  have := World.setRow_alloc_new (w.alloc o) c c' t
  simpa using this
end Go.Proofs.YthmnmdikpccenacDoor
