/-
  Package teller's Lag.
-/
import Derived.Test.YtifkbafdjkgnoaaDoorTeD
namespace Go.Proofs.YtifkbafdjkgnoaaDoor
open Go.RowKit

set_option maxRecDepth 100000 in
set_option maxHeartbeats 4000000 in
theorem tlag_any (X b M n c : Nat) (low : Int) (T : Tb) (D : To) (w : World) (H : Tel w X b M n D c) (t : Tab w b low T) :
    Calls Tryd.prog 15 #[.pointer (some ⟨X, 0, none⟩)] w fun e w' => e = .returned (.int .i64 (newsL T D).length) ∧ Below w.heap.size w w' := by
  have HH : Hid (Tel w X b M n D c) := H
  have HT : Hid (Tab w b low T) := t
  clear H t
  go_enter Tryd.func15, Tryd.ntmps15
  go_wp2_with fail
  refine (tnews_any X b M n c low T D w HH.out HT.out).mono ?_
  rintro e w1 ⟨⟨v, rfl, hv⟩, hb1⟩
  obtain ⟨p, cap, rfl⟩ : ∃ p cap, v = .slice p (newsL T D).length cap := by
    rcases hv.2 with ⟨e1, e2⟩ | ⟨g, cap, cur, e1, _⟩
    · exact ⟨none, 0, by rw [e1, e2]⟩
    · exact ⟨_, cap, e1⟩
  clear hv
  have B1 : Hid (Below w.heap.size w w1) := hb1
  clear hb1
  go_wp2_with fail
  go_ret
  exact ⟨rfl, B1.out⟩
end Go.Proofs.YtifkbafdjkgnoaaDoor
