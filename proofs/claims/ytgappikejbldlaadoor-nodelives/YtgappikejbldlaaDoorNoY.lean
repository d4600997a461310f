/-
  A node's Table.
-/
import Derived.Test.YtgappikejbldlaaDoorNoL
import Derived.Test.YtgappikejbldlaaDoorNoTb
namespace Go.Proofs.YtgappikejbldlaaDoor
open Go.RowKit

theorem table_lq {w0 w : World} {k : Bk} {id ep life j : Nat} {y : By} (h : Lq w0 w k id ep life y j) :
    Calls Tryd.prog 11 #[.pointer (some ⟨k.nd, 0, none⟩)] w fun e w' => (∃ Z, e = .returned (.slice (some ⟨Z, 0, none⟩) 32 32) ∧ CellsB w' Z newT) ∧ Lq w0 w' k id ep life y j := by
  have h' := h
  obtain ⟨x, n0, nd, _, q⟩ := h
  refine (table_nd nd).mono ?_
  rintro e w1 ⟨⟨Z, rfl, cb, _⟩, b1⟩
  rw [q.T] at cb
  exact ⟨⟨Z, rfl, cb⟩, h'.below b1⟩
end Go.Proofs.YtgappikejbldlaaDoor
