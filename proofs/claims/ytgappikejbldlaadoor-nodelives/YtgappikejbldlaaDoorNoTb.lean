/-
  Package node's Table.
-/
import Derived.Test.YtgappikejbldlaaDoorNoB
import Derived.Test.YtgappikejbldlaaDoorKd
namespace Go.Proofs.YtgappikejbldlaaDoor
open Go.RowKit

set_option maxRecDepth 100000 in
theorem table_nd {w0 w : World} {k : Bk} {x : No} {m n : Nat} (h : Nd w0 w k x m n) :
    Calls Tryd.prog 11 #[.pointer (some ⟨k.nd, 0, none⟩)] w fun e w' => (∃ Z, e = .returned (.slice (some ⟨Z, 0, none⟩) 32 32) ∧ CellsB w' Z x.T ∧ w.heap.size ≤ Z) ∧ Below w.heap.size w w' := by
  have HN : Hid (Nd w0 w k x m n) := h
  have c := h.c6
  have t := h.t0
  clear h
  go_enter Tryd.func11, Tryd.ntmps11
  go_wp2_with fail
  refine (cells_any k.tb x.low x.T w HN.out.tb).mono ?_
  rintro e w1 ⟨rfl, cb, b1⟩
  have CB : Hid (CellsB w1 w.heap.size x.T) := cb
  have B1 : Hid (Below w.heap.size w w1) := b1
  clear cb b1
  go_wp2_with fail
  go_ret
  exact ⟨⟨_, rfl, CB.out, Nat.le_refl _⟩, B1.out⟩
end Go.Proofs.YtgappikejbldlaaDoor
