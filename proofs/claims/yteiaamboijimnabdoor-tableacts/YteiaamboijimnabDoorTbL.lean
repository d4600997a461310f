/-
  The laws' closed fact 'listed': a flow has its first port.
-/
import Derived.Test.YteiaamboijimnabDoorTbH
import Derived.Test.YteiaamboijimnabDoorTbN
namespace Go.Proofs.YteiaamboijimnabDoor
open Go.RowKit

theorem add_first : addT newT 2024 1 0 1 0 2 2 9 = (0, 0, layT newT 0 1 0 1 0 2 2024 2 9) := by rfl
theorem lay_first : layT newT 0 1 0 1 0 2 2024 2 9 0 = ⟨1, 1, 0, 1, 0, 2, 2024, 2, 9⟩ := by rfl
set_option maxRecDepth 100000 in
set_option maxHeartbeats 2000000 in
theorem listed_any (s : Nat → Addr) (w : World) (S : Se4 w s) :
    Calls Tryd.prog 4 #[] w fun e w' => e = .returned (.bool true) ∧ Below w.heap.size w w' := by
  have HS : Hid (Se4 w s) := S
  clear S
  go_enter Tryd.func4, Tryd.ntmps4
  go_wp2_with fail
  refine (new_1 _).mono ?_
  rintro e w1 ⟨b, rfl, t1, hbb, hb1⟩
  have T1 : Hid (Tab w1 b 2024 newT) := t1
  have HBB : Hid (w.heap.size ≤ b) := hbb
  have B1 : Hid (Below w.heap.size w w1) := hb1
  clear t1 hbb hb1
  go_wp2_with fail
  refine (add_any b 2024 newT 1 0 1 0 2 2 9 0 s w1 (HS.out.below B1.out) T1.out (by omega) (by omega) Vers.new (by omega)).mono ?_
  rw [add_first]
  rintro e w2 ⟨rfl, t2', c2⟩
  have T2 : Hid (Tab w2 b 2024 (layT newT 0 1 0 1 0 2 2024 2 9)) := t2'
  have B2 : Hid (Below w.heap.size w w2) := Chg.below B1.out c2 HBB.out
  clear t2' c2 B1 T1
  simp only [terr]
  go_wp2_with fail
  have hget := get_ok b 2024 _ 0 w2 T2.out (by omega)
  rw [lay_first] at hget
  refine hget.mono ?_
  clear hget
  rintro e w3 ⟨rfl, hb3⟩
  have B3 : Hid (Below w.heap.size w w3) := t2 B2.out hb3
  clear hb3
  simp only [cellV]
  go_wp2_with fail
  go_ret
  exact ⟨rfl, B3.out.alloc B3.out.size _⟩
end Go.Proofs.YteiaamboijimnabDoor
