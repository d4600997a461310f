/-
  The document's table: a list of cells in memory; Empty, NewTable.
-/
import Derived.Test.YtifkbafdjkgnoaaDoorGeE
import Derived.Test.YtifkbafdjkgnoaaDoorTbF
import Derived.Test.YtifkbafdjkgnoaaDoorTbK
import Derived.Test.YtifkbafdjkgnoaaDoorGeB
import Derived.OwnWalk
namespace Go.Proofs.YtifkbafdjkgnoaaDoor
open Go.RowKit

/-- the document's table in memory. -/
structure RTab (w : World) (m g cap : Nat) (low : Int) (T : Tb) : Prop where
  c0 : w.cell? ⟨m, 0, none⟩ = some (.int .i64 low)
  c1 : w.cell? ⟨m, 1, none⟩ = some (.slice (some ⟨g, 0, none⟩) 32 cap)
  sl : Sl10 w g T
  ne : m ≠ g
theorem RTab.below {w w' : World} {m g cap : Nat} {low : Int} {T : Tb} (h : RTab w m g cap low T) (hb : Below w.heap.size w w') : RTab w' m g cap low T := ⟨tk hb h.c0, tk hb h.c1, h.sl.below hb, h.ne⟩
theorem RTab.chg {w w' : World} {m g cap b : Nat} {low : Int} {T : Tb} (h : RTab w m g cap low T) (hb : Chg b w w') (hm : m ≠ b) (hg : g ≠ b) : RTab w' m g cap low T := ⟨hb.keeps hm h.c0, hb.keeps hm h.c1, h.sl.chg hb hg, h.ne⟩
set_option maxRecDepth 100000 in
set_option maxHeartbeats 2000000 in
theorem newR_any (node : Nat) (w : World) (hn : node < 2) :
    Calls Tryd.prog 19 #[.int .i64 node] w fun e w' => (∃ m g cap, e = .returned (.pointer (some ⟨m, 0, none⟩)) ∧ w.heap.size ≤ m ∧ w.heap.size ≤ g ∧ RTab w' m g cap (2000 + node * 24) newT) ∧ Below w.heap.size w w' := by
  have hw1 : IntKind.i64.wrap ((node : Int) * 24) = (node : Int) * 24 := by rw [IntKind.wrap_i64]; omega
  have hw2 : IntKind.i64.wrap (2000 + (node : Int) * 24) = 2000 + (node : Int) * 24 := by rw [IntKind.wrap_i64]; omega
  go_enter Tryd.func19, Tryd.ntmps19
  go_wp2_with fail
  refine (empty_any _).mono ?_
  rintro e w1 ⟨⟨g, cap, rfl, hg, hs⟩, hb1⟩
  have HG : Hid (w.heap.size ≤ g) := hg
  have H1 : Hid (Sl10 w1 g newT) := hs
  have B1 : Hid (Below w.heap.size w w1) := hb1
  clear hg hs hb1
  go_wp2_with fail
  go_ret
  refine ⟨⟨w1.heap.size, g, cap, rfl, B1.out.size, HG.out, ?_⟩, t2 B1.out (aB _ _)⟩
  exact ⟨(nw _ _ _ _).trans rfl, (nw _ _ _ _).trans rfl, H1.out.below (aB _ _), fun e => by have := H1.out.lt; omega⟩
end Go.Proofs.YtifkbafdjkgnoaaDoor
