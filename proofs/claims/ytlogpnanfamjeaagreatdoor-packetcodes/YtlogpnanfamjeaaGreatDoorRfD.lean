/-
  The document's answer: PacketText.
-/
import Derived.Test.YtlogpnanfamjeaaGreatDoorRfB
import Derived.Deep.RegionHeld3
namespace Go.Proofs.YtlogpnanfamjeaaGreatDoor
open Go.RowKit

theorem held7 {w W w1 : World} {b : Nat} {v0 v1 v2 v3 v4 v5 : Value}
    (h : W.cell? ⟨b, 0, none⟩ = some v0 ∧ W.cell? ⟨b, 1, none⟩ = some v1 ∧ W.cell? ⟨b, 2, none⟩ = some v2 ∧ W.cell? ⟨b, 3, none⟩ = some v3 ∧ W.cell? ⟨b, 4, none⟩ = some v4 ∧ W.cell? ⟨b, 5, none⟩ = some v5 ∧ Below w.heap.size w W) (hb : Below W.heap.size W w1) :
    w1.cell? ⟨b, 0, none⟩ = some v0 ∧ w1.cell? ⟨b, 1, none⟩ = some v1 ∧ w1.cell? ⟨b, 2, none⟩ = some v2 ∧ w1.cell? ⟨b, 3, none⟩ = some v3 ∧ w1.cell? ⟨b, 4, none⟩ = some v4 ∧ w1.cell? ⟨b, 5, none⟩ = some v5 ∧ Below w.heap.size w w1 := by
  obtain ⟨h0, h1, h2, h3, h4, h5, h6⟩ := h
  exact ⟨below_keeps hb h0, below_keeps hb h1, below_keeps hb h2, below_keeps hb h3, below_keeps hb h4, below_keeps hb h5, below_all h6 hb⟩
theorem held7_new (w : World) (v0 v1 v2 v3 v4 v5 : Value) (t : TypeId) :
    (w.alloc (.cells #[v0, v1, v2, v3, v4, v5] t)).drew.cell? ⟨w.heap.size, 0, none⟩ = some v0 ∧ (w.alloc (.cells #[v0, v1, v2, v3, v4, v5] t)).drew.cell? ⟨w.heap.size, 1, none⟩ = some v1 ∧ (w.alloc (.cells #[v0, v1, v2, v3, v4, v5] t)).drew.cell? ⟨w.heap.size, 2, none⟩ = some v2 ∧ (w.alloc (.cells #[v0, v1, v2, v3, v4, v5] t)).drew.cell? ⟨w.heap.size, 3, none⟩ = some v3 ∧ (w.alloc (.cells #[v0, v1, v2, v3, v4, v5] t)).drew.cell? ⟨w.heap.size, 4, none⟩ = some v4 ∧ (w.alloc (.cells #[v0, v1, v2, v3, v4, v5] t)).drew.cell? ⟨w.heap.size, 5, none⟩ = some v5 ∧ Below w.heap.size w (w.alloc (.cells #[v0, v1, v2, v3, v4, v5] t)).drew := by
  obtain ⟨c0, c1, c2, c3, c4, c5⟩ := box6 (w := w) (v0 := v0) (v1 := v1) (v2 := v2) (v3 := v3) (v4 := v4) (v5 := v5) (t := t) (Below.refl _ _).drew
  exact ⟨c0, c1, c2, c3, c4, c5, ((Below.refl _ _).alloc (Nat.le_refl _) _).drew⟩

theorem held_below7 {w w1 : World} {b : Nat} {v0 v1 v2 v3 v4 v5 : Value}
    (h : w1.cell? ⟨b, 0, none⟩ = some v0 ∧ w1.cell? ⟨b, 1, none⟩ = some v1 ∧ w1.cell? ⟨b, 2, none⟩ = some v2 ∧ w1.cell? ⟨b, 3, none⟩ = some v3 ∧ w1.cell? ⟨b, 4, none⟩ = some v4 ∧ w1.cell? ⟨b, 5, none⟩ = some v5 ∧ Below w.heap.size w w1) : Below w.heap.size w w1 := h.2.2.2.2.2.2
theorem held_cells7 {w w1 : World} {b : Nat} {v0 v1 v2 v3 v4 v5 : Value}
    (h : w1.cell? ⟨b, 0, none⟩ = some v0 ∧ w1.cell? ⟨b, 1, none⟩ = some v1 ∧ w1.cell? ⟨b, 2, none⟩ = some v2 ∧ w1.cell? ⟨b, 3, none⟩ = some v3 ∧ w1.cell? ⟨b, 4, none⟩ = some v4 ∧ w1.cell? ⟨b, 5, none⟩ = some v5 ∧ Below w.heap.size w w1) : w1.cell? ⟨b, 0, none⟩ = some v0 ∧ w1.cell? ⟨b, 5, none⟩ = some v5 := ⟨h.1, h.2.2.2.2.2.1⟩
set_option maxRecDepth 100000 in
set_option maxHeartbeats 8000000 in
theorem ptext_any (pr a1 p1 a2 p2 fl : Int) (h : PkOk pr a1 p1 a2 p2 fl) (w : World) :
    Calls Tryz.prog 14 #[pkt pr a1 p1 a2 p2 fl] w fun e w' => e = .returned (.string ⟨(pText pr a1 p1 a2 p2 fl).toArray⟩) ∧ Below w.heap.size w w' := by
  obtain ⟨h1, ⟨g1, g2, g3, g4⟩, ⟨g5, g6, g7, g8⟩, g9, g10⟩ := h
  have H1 : Hid ((pr = 1 ∧ fl = 0) ∨ pr = 2) := h1
  have H9 : Hid (0 ≤ fl) := g9
  have H10 : Hid (fl ≤ 15) := g10
  have l1 := itoa_len g1 (by omega)
  have l2 := itoa_len (show 0 ≤ p1 by omega) (by omega)
  have l3 := itoa_len g5 (by omega)
  have l4 := itoa_len (show 0 ≤ p2 by omega) (by omega)
  have l5 := fText_len fl g9 g10
  have n1 : ¬ 9223372036854775807 < (Lib.itoa a1).length + 1 := by omega
  have n2 : ¬ 9223372036854775807 < (Lib.itoa a1).length + 1 + (Lib.itoa p1).length := by omega
  have n3 : ¬ 9223372036854775807 < (Lib.itoa a1).length + 1 + (Lib.itoa p1).length + 1 := by omega
  have n4 : ¬ 9223372036854775807 < (Lib.itoa a1).length + 1 + (Lib.itoa p1).length + 1 + (Lib.itoa a2).length := by omega
  have n5 : ¬ 9223372036854775807 < (Lib.itoa a1).length + 1 + (Lib.itoa p1).length + 1 + (Lib.itoa a2).length + 1 := by omega
  have n6 : ¬ 9223372036854775807 < (Lib.itoa a1).length + 1 + (Lib.itoa p1).length + 1 + (Lib.itoa a2).length + 1 + (Lib.itoa p2).length := by omega
  clear h1
  go_enter Tryz.func14, Tryz.ntmps14
  go_wp2_with fail
  go_region_held3 (fun w' => w'.cell? ⟨w.heap.size, 0, none⟩ = some (.int .i64 pr) ∧ w'.cell? ⟨w.heap.size, 1, none⟩ = some (.int .i64 a1) ∧ w'.cell? ⟨w.heap.size, 2, none⟩ = some (.int .i64 p1) ∧ w'.cell? ⟨w.heap.size, 3, none⟩ = some (.int .i64 a2) ∧ w'.cell? ⟨w.heap.size, 4, none⟩ = some (.int .i64 p2) ∧ w'.cell? ⟨w.heap.size, 5, none⟩ = some (.int .i64 fl) ∧ Below w.heap.size w w')
    (first | assumption | exact held7_new _ _ _ _ _ _ _ _ | exact held7 (by assumption) (by assumption))
    (first | (go_at_call 28; refine (decimal_any _ (by omega) (by omega) _).mono ?_; rintro e w1 ⟨rfl, hb⟩))
  rename_i hH4
  have HB4 : Hid (Below w.heap.size w w1) := held_below7 hH4
  obtain ⟨c0, c5⟩ := held_cells7 hH4
  clear hH4
  rcases H1.out with ⟨rfl, rfl⟩ | rfl
  · go_wp2_with fail
    go_ret
    exact ⟨congrArg (fun x : ByteArray => Ending.returned (.string x)) (by apply ByteArray.ext; simp [ByteArray.data_append, pText, endL]), HB4.out⟩
  · go_wp2_with fail
    refine (flagsRef_any fl H9.out H10.out _).mono ?_
    rintro e w5 ⟨rfl, hb5⟩
    have HB5 : Hid (Below w.heap.size w w5) := below_all HB4.out hb5
    clear hb5
    go_wp2_with fail
    go_ret
    exact ⟨congrArg (fun x : ByteArray => Ending.returned (.string x)) (by apply ByteArray.ext; simp [ByteArray.data_append, pText, endL]), HB5.out⟩
end Go.Proofs.YtlogpnanfamjeaaGreatDoor
