/-
  The document's answer: PacketBytes.
-/
import Derived.Test.YtlogpnanfamjeaaGreatDoorRfA
import Derived.Deep.RegionHeld3
namespace Go.Proofs.YtlogpnanfamjeaaGreatDoor
open Go.RowKit

theorem wide4 (n : Int) (h0 : 0 ≤ n) (h1 : n < 4294967296) (w : World) : Calls Tryz.prog 27 #[.int .i64 n, .int .i64 4] w fun e w' => e = .returned (.string ⟨(wideL n 4).toArray⟩) ∧ Below w.heap.size w w' := wide_any n h0 h1 4 (by omega) w
theorem wide2 (n : Int) (h0 : 0 ≤ n) (h1 : n < 4294967296) (w : World) : Calls Tryz.prog 27 #[.int .i64 n, .int .i64 2] w fun e w' => e = .returned (.string ⟨(wideL n 2).toArray⟩) ∧ Below w.heap.size w w' := wide_any n h0 h1 2 (by omega) w

theorem held6 {w W w1 : World} {b : Nat} {v0 v1 v2 v3 v4 v5 : Value}
    (h : W.cell? ⟨b, 0, none⟩ = some v0 ∧ W.cell? ⟨b, 1, none⟩ = some v1 ∧ W.cell? ⟨b, 2, none⟩ = some v2 ∧ W.cell? ⟨b, 3, none⟩ = some v3 ∧ W.cell? ⟨b, 4, none⟩ = some v4 ∧ W.cell? ⟨b, 5, none⟩ = some v5 ∧ Below w.heap.size w W) (hb : Below W.heap.size W w1) :
    w1.cell? ⟨b, 0, none⟩ = some v0 ∧ w1.cell? ⟨b, 1, none⟩ = some v1 ∧ w1.cell? ⟨b, 2, none⟩ = some v2 ∧ w1.cell? ⟨b, 3, none⟩ = some v3 ∧ w1.cell? ⟨b, 4, none⟩ = some v4 ∧ w1.cell? ⟨b, 5, none⟩ = some v5 ∧ Below w.heap.size w w1 := by
  obtain ⟨h0, h1, h2, h3, h4, h5, h6⟩ := h
  exact ⟨below_keeps hb h0, below_keeps hb h1, below_keeps hb h2, below_keeps hb h3, below_keeps hb h4, below_keeps hb h5, below_all h6 hb⟩
theorem held6_new (w : World) (v0 v1 v2 v3 v4 v5 : Value) (t : TypeId) : 
    (w.alloc (.cells #[v0, v1, v2, v3, v4, v5] t)).drew.cell? ⟨w.heap.size, 0, none⟩ = some v0 ∧ (w.alloc (.cells #[v0, v1, v2, v3, v4, v5] t)).drew.cell? ⟨w.heap.size, 1, none⟩ = some v1 ∧ (w.alloc (.cells #[v0, v1, v2, v3, v4, v5] t)).drew.cell? ⟨w.heap.size, 2, none⟩ = some v2 ∧ (w.alloc (.cells #[v0, v1, v2, v3, v4, v5] t)).drew.cell? ⟨w.heap.size, 3, none⟩ = some v3 ∧ (w.alloc (.cells #[v0, v1, v2, v3, v4, v5] t)).drew.cell? ⟨w.heap.size, 4, none⟩ = some v4 ∧ (w.alloc (.cells #[v0, v1, v2, v3, v4, v5] t)).drew.cell? ⟨w.heap.size, 5, none⟩ = some v5 ∧ Below w.heap.size w (w.alloc (.cells #[v0, v1, v2, v3, v4, v5] t)).drew := by
  obtain ⟨c0, c1, c2, c3, c4, c5⟩ := box6 (w := w) (v0 := v0) (v1 := v1) (v2 := v2) (v3 := v3) (v4 := v4) (v5 := v5) (t := t) (Below.refl _ _).drew
  exact ⟨c0, c1, c2, c3, c4, c5, ((Below.refl _ _).alloc (Nat.le_refl _) _).drew⟩

theorem held_below {w w1 : World} {b : Nat} {v0 v1 v2 v3 v4 v5 : Value}
    (h : w1.cell? ⟨b, 0, none⟩ = some v0 ∧ w1.cell? ⟨b, 1, none⟩ = some v1 ∧ w1.cell? ⟨b, 2, none⟩ = some v2 ∧ w1.cell? ⟨b, 3, none⟩ = some v3 ∧ w1.cell? ⟨b, 4, none⟩ = some v4 ∧ w1.cell? ⟨b, 5, none⟩ = some v5 ∧ Below w.heap.size w w1) : Below w.heap.size w w1 := h.2.2.2.2.2.2
set_option maxRecDepth 100000 in
set_option maxHeartbeats 8000000 in
theorem pbytes_any (pr a1 p1 a2 p2 fl : Int) (h : PkOk pr a1 p1 a2 p2 fl) (w : World) :
    Calls Tryz.prog 13 #[pkt pr a1 p1 a2 p2 fl] w fun e w' =>
      e = .returned (.string ⟨(UInt8.ofNat pr.toNat :: (wideL a1 4 ++ (wideL p1 2 ++ (wideL a2 4 ++ (wideL p2 2 ++ [UInt8.ofNat fl.toNat]))))).toArray⟩) ∧ Below w.heap.size w w' := by
  obtain ⟨h1, ⟨g1, g2, g3, g4⟩, ⟨g5, g6, g7, g8⟩, g9, g10⟩ := h
  have H1 : Hid ((pr = 1 ∧ fl = 0) ∨ pr = 2) := h1
  have q0 : 0 ≤ pr := by omega
  have q1 : pr ≤ 255 := by omega
  have l1 : (wideL a1 4).length = 4 := wideL_len _ _
  have l2 : (wideL p1 2).length = 2 := wideL_len _ _
  have l3 : (wideL a2 4).length = 4 := wideL_len _ _
  have l4 : (wideL p2 2).length = 2 := wideL_len _ _
  clear h1
  go_enter Tryz.func13, Tryz.ntmps13
  go_wp2_with fail
  go_region_held3 (fun w' => w'.cell? ⟨w.heap.size, 0, none⟩ = some (.int .i64 pr) ∧ w'.cell? ⟨w.heap.size, 1, none⟩ = some (.int .i64 a1) ∧ w'.cell? ⟨w.heap.size, 2, none⟩ = some (.int .i64 p1) ∧ w'.cell? ⟨w.heap.size, 3, none⟩ = some (.int .i64 a2) ∧ w'.cell? ⟨w.heap.size, 4, none⟩ = some (.int .i64 p2) ∧ w'.cell? ⟨w.heap.size, 5, none⟩ = some (.int .i64 fl) ∧ Below w.heap.size w w')
    (first | assumption | exact held6_new _ _ _ _ _ _ _ _ | exact held6 (by assumption) (by assumption))
    (first
      | (go_at_call 26; refine (byte_any _ (by omega) (by omega) _).mono ?_; rintro e w1 ⟨rfl, hb⟩)
      | (go_at_call_of 27 (Value.int IntKind.i64 4); refine (wide4 _ (by omega) (by omega) _).mono ?_; rintro e w1 ⟨rfl, hb⟩)
      | (go_at_call_of 27 (Value.int IntKind.i64 2); refine (wide2 _ (by omega) (by omega) _).mono ?_; rintro e w1 ⟨rfl, hb⟩))
  all_goals go_wp2_with fail
  all_goals go_ret
  exact ⟨congrArg (fun x : ByteArray => Ending.returned (.string x)) (by apply ByteArray.ext; simp [ByteArray.data_append]), held_below (by assumption)⟩
end Go.Proofs.YtlogpnanfamjeaaGreatDoor
