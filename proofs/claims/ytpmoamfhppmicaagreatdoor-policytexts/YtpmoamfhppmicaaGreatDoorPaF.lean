/-
  The law's faulted: an error's number and place, where they are what the document says.
-/
import Derived.Test.YtpmoamfhppmicaaGreatDoorPaR
import Derived.Test.YtpmoamfhppmicaaGreatDoorCode
namespace Go.Proofs.YtpmoamfhppmicaaGreatDoor
open Go.RowKit

set_option maxRecDepth 100000 in
set_option maxHeartbeats 2000000 in
theorem faulted_nil (n : Int) (w : World) : Calls Tryz.prog 9 #[.nilIface, .agg #[.int .i64 0, .int .i64 n]] w fun e w' => e = .returned (.bool true) ∧ Below w.heap.size w w' := by
  have B0 : Hid (Below w.heap.size w (w.alloc (.cells #[.int .i64 0, .int .i64 n] 30))) := (Below.refl _ _).alloc (Nat.le_refl _) _
  go_enter Tryz.func9, Tryz.ntmps9
  go_wp2_with fail
  refine (code_nil _).mono ?_
  rintro e w1 ⟨rfl, rfl⟩
  go_wp2_with fail
  all_goals go_ret
  all_goals exact ⟨rfl, B0.out⟩
set_option maxRecDepth 100000 in
set_option maxHeartbeats 2000000 in
theorem faulted_sent (k : Nat) (hk : k < 11) (s : Nat → Addr) (w : World) (S : Sents w s) :
    Calls Tryz.prog 9 #[.iface 161 (.pointer (some (s k))), .agg #[.int .i64 ((k : Int) + 1), .int .i64 (-1)]] w fun e w' => e = .returned (.bool true) ∧ Below w.heap.size w w' := by
  have HS : Hid (Sents w s) := S
  clear S
  have B0 : Hid (Below w.heap.size w (w.alloc (.cells #[.int .i64 ((k : Int) + 1), .int .i64 (-1)] 30))) := (Below.refl _ _).alloc (Nat.le_refl _) _
  go_enter Tryz.func9, Tryz.ntmps9
  go_wp2_with fail
  refine (code_sent k hk s _ (HS.out.below B0.out)).mono ?_
  rintro e w1 ⟨rfl, hb1⟩
  have c0 : w1.cell? ⟨w.heap.size, 0, none⟩ = some (.int .i64 ((k : Int) + 1)) := Below.keeps hb1 (by simp)
  have c1 : w1.cell? ⟨w.heap.size, 1, none⟩ = some (.int .i64 (-1)) := Below.keeps hb1 (by simp)
  have B1 : Hid (Below w.heap.size w w1) := below2 B0.out hb1
  clear hb1
  have hz : ((k : Int) + 1 == 0) = false := beq_eq_false_iff_ne.2 (by omega)
  go_wp2_with fail
  all_goals go_ret
  all_goals exact ⟨rfl, B1.out⟩
set_option maxRecDepth 100000 in
set_option maxHeartbeats 2000000 in
theorem faulted_fault (k : Nat) (hk : k < 11) (pb : Nat) (n : Int) (s : Nat → Addr) (w : World) (S : Sents w s) (hA : w.cell? ⟨pb, 0, none⟩ = some (.int .i64 n)) (hE : w.cell? ⟨pb, 1, none⟩ = some (.iface 161 (.pointer (some (s k))))) :
    Calls Tryz.prog 9 #[.iface 60 (.pointer (some ⟨pb, 0, none⟩)), .agg #[.int .i64 ((k : Int) + 1), .int .i64 n]] w fun e w' => e = .returned (.bool true) ∧ Below w.heap.size w w' := by
  have HS : Hid (Sents w s) := S
  have HA : Hid (w.cell? ⟨pb, 0, none⟩ = some (.int .i64 n)) := hA
  have HE : Hid (w.cell? ⟨pb, 1, none⟩ = some (.iface 161 (.pointer (some (s k))))) := hE
  clear S hA hE
  have B0 : Hid (Below w.heap.size w (w.alloc (.cells #[.int .i64 ((k : Int) + 1), .int .i64 n] 30))) := (Below.refl _ _).alloc (Nat.le_refl _) _
  go_enter Tryz.func9, Tryz.ntmps9
  go_wp2_with fail
  refine (code_fault k hk pb 0 n s _ (HS.out.below B0.out) (Below.keeps B0.out HA.out) (Below.keeps B0.out HE.out)).mono ?_
  rintro e w1 ⟨rfl, hb1⟩
  have c0 : w1.cell? ⟨w.heap.size, 0, none⟩ = some (.int .i64 ((k : Int) + 1)) := Below.keeps hb1 (by simp)
  have c1 : w1.cell? ⟨w.heap.size, 1, none⟩ = some (.int .i64 n) := Below.keeps hb1 (by simp)
  have B1 : Hid (Below w.heap.size w w1) := below2 B0.out hb1
  clear hb1
  have hz : ((k : Int) + 1 == 0) = false := beq_eq_false_iff_ne.2 (by omega)
  go_wp2_with fail
  all_goals go_ret
  all_goals exact ⟨rfl, B1.out⟩
/-- what Check answers is what the document says. -/
theorem faulted_chk {l : List Rl} {v : Value} (s : Nat → Addr) (w : World) (S : Sents w s) (h : ChkV s w l v) :
    Calls Tryz.prog 9 #[v, .agg #[.int .i64 (faultOf l).1, .int .i64 (faultOf l).2]] w fun e w' => e = .returned (.bool true) ∧ Below w.heap.size w w' := by
  rcases h with ⟨h1, rfl⟩ | ⟨h1, h2, rfl⟩ | ⟨h1, i, g, h2, rfl, h3, h4⟩
  · have e : faultOf l = (2, -1) := by unfold faultOf; rw [if_pos h1]
    rw [e]; exact faulted_sent 1 (by omega) s w S
  · have e : faultOf l = (0, -1) := by unfold faultOf; rw [if_neg (by omega), h2]
    rw [e]; exact faulted_nil _ w
  · have e : faultOf l = (2, (i : Int)) := by unfold faultOf; rw [if_neg (by omega), h2]
    rw [e]; exact faulted_fault 1 (by omega) g i s w S h3 h4
end Go.Proofs.YtpmoamfhppmicaaGreatDoor
