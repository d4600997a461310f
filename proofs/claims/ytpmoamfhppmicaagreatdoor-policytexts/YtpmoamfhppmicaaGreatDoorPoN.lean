/-
  The contract of package packet's Check: nil, ErrBound or ErrShape, as the document says; of the laid variables it asks those two alone.
-/
import Derived.Test.YtpmoamfhppmicaaGreatDoorPoC
namespace Go.Proofs.YtpmoamfhppmicaaGreatDoor
open Go.RowKit

/-- what the laid variables give: the two sentinels that package packet's and policy's Check answer. -/
structure Sen (w : World) (s : Nat → Addr) : Prop where
  c1 : w.cell? ⟨0, 0, none⟩ = some (.iface 161 (.pointer (some (s 1))))
  c2 : w.cell? ⟨3, 0, none⟩ = some (.iface 161 (.pointer (some (s 2))))
theorem Sen.below {w w' : World} {s : Nat → Addr} (S : Sen w s) (hb : Below w.heap.size w w') : Sen w' s := ⟨Below.keeps hb S.c1, Below.keeps hb S.c2⟩
/-- an error's value: 0: nil; k + 1: sentinel k. -/
def errV (s : Nat → Addr) : Nat → Value
  | 0 => .nilIface
  | k + 1 => .iface 161 (.pointer (some (s k)))

theorem box6 {w w1 : World} {v0 v1 v2 v3 v4 v5 : Value} {t : TypeId} (hb : Below (w.alloc (.cells #[v0, v1, v2, v3, v4, v5] t)).heap.size (w.alloc (.cells #[v0, v1, v2, v3, v4, v5] t)) w1) :
    w1.cell? ⟨w.heap.size, 0, none⟩ = some v0 ∧ w1.cell? ⟨w.heap.size, 1, none⟩ = some v1 ∧ w1.cell? ⟨w.heap.size, 2, none⟩ = some v2 ∧ w1.cell? ⟨w.heap.size, 3, none⟩ = some v3 ∧ w1.cell? ⟨w.heap.size, 4, none⟩ = some v4 ∧ w1.cell? ⟨w.heap.size, 5, none⟩ = some v5 :=
  ⟨Below.keeps hb (by simp), Below.keeps hb (by simp), Below.keeps hb (by simp), Below.keeps hb (by simp), Below.keeps hb (by simp), Below.keeps hb (by simp)⟩

abbrev pkt (pr a1 p1 a2 p2 fl : Int) : Value := .agg #[.int .i64 pr, .int .i64 a1, .int .i64 p1, .int .i64 a2, .int .i64 p2, .int .i64 fl]
def badEnd (a p : Int) : Prop := a < 0 ∨ 1048576 < a ∨ p < 1 ∨ 65535 < p
def okEnd (a p : Int) : Prop := 0 ≤ a ∧ a ≤ 1048576 ∧ 1 ≤ p ∧ p ≤ 65535

theorem check_proto (pr a1 p1 a2 p2 fl : Int) (s : Nat → Addr) (w : World) (S : Sen w s) (h1 : (pr != 1) = true) (h2 : (pr != 2) = true) :
    Calls Tryz.prog 26 #[pkt pr a1 p1 a2 p2 fl] w fun e w' => e = .returned (errV s 2) ∧ Below w.heap.size w w' := by
  have d1 := (S.below ((Below.refl _ _).alloc (Nat.le_refl _) (.cells #[.int .i64 pr, .int .i64 a1, .int .i64 p1, .int .i64 a2, .int .i64 p2, .int .i64 fl] 48))).c1
  have hS : Hid (Sen w s) := S
  clear S
  go_enter Tryz.func26, Tryz.ntmps26
  go_wp2_with fail
  go_ret
  exact ⟨rfl, (Below.refl _ _).alloc (Nat.le_refl _) _⟩
set_option maxRecDepth 100000 in
set_option maxHeartbeats 2000000 in
theorem check_src (pr a1 p1 a2 p2 fl : Int) (s : Nat → Addr) (w : World) (S : Sen w s) (h1 : pr = 1 ∨ pr = 2) (h2 : badEnd a1 p1) :
    Calls Tryz.prog 26 #[pkt pr a1 p1 a2 p2 fl] w fun e w' => e = .returned (errV s 2) ∧ Below w.heap.size w w' := by
  have hS : Hid (Sen w s) := S
  clear S
  have H2 : Hid (badEnd a1 p1) := h2
  clear h2
  rcases h1 with rfl | rfl
  all_goals
    go_enter Tryz.func26, Tryz.ntmps26
    go_wp2_with fail
    refine (ends_any _ _ _).mono ?_
    rintro e w1 ⟨rfl, hb⟩
    obtain ⟨c0, c1, c2, c3, c4, c5⟩ := box6 hb
    have HB : Hid (Below w.heap.size w w1) := ((Below.refl _ _).alloc (Nat.le_refl _) _).trans (hb.mono (by simp))
    have d1 := (hS.out.below HB.out).c1
    have d2 := (hS.out.below HB.out).c2
    clear hb
    have i0 := Tryz.idx0
    have i1 := Tryz.idx1
    go_wp2_with fail
    refine wp_loop_rounds 3 ?_
    rw [rounds_succ]
    rcases H2.out with h | h | h | h
    all_goals
      go_wp2_with fail
      all_goals (go_ret; exact ⟨rfl, HB.out⟩)
set_option maxRecDepth 100000 in
set_option maxHeartbeats 2000000 in
theorem check_dst (pr a1 p1 a2 p2 fl : Int) (s : Nat → Addr) (w : World) (S : Sen w s) (h1 : pr = 1 ∨ pr = 2) (h2 : okEnd a1 p1) (h3 : badEnd a2 p2) :
    Calls Tryz.prog 26 #[pkt pr a1 p1 a2 p2 fl] w fun e w' => e = .returned (errV s 2) ∧ Below w.heap.size w w' := by
  have hS : Hid (Sen w s) := S
  clear S
  have H3 : Hid (badEnd a2 p2) := h3
  clear h3
  obtain ⟨g1, g2, g3, g4⟩ := h2
  rcases h1 with rfl | rfl
  all_goals
    go_enter Tryz.func26, Tryz.ntmps26
    go_wp2_with fail
    refine (ends_any _ _ _).mono ?_
    rintro e w1 ⟨rfl, hb⟩
    obtain ⟨c0, c1, c2, c3, c4, c5⟩ := box6 hb
    have HB : Hid (Below w.heap.size w w1) := ((Below.refl _ _).alloc (Nat.le_refl _) _).trans (hb.mono (by simp))
    have d1 := (hS.out.below HB.out).c1
    have d2 := (hS.out.below HB.out).c2
    clear hb
    have i0 := Tryz.idx0
    have i1 := Tryz.idx1
    go_wp2_with fail
    refine wp_loop_rounds 3 ?_
    rw [rounds_succ]
    go_wp2_with fail
    rw [rounds_succ]
    rcases H3.out with h | h | h | h
    all_goals
      go_wp2_with fail
      all_goals (go_ret; exact ⟨rfl, HB.out⟩)
set_option maxRecDepth 100000 in
set_option maxHeartbeats 2000000 in
theorem check_flags (pr a1 p1 a2 p2 fl : Int) (s : Nat → Addr) (w : World) (S : Sen w s) (h1 : pr = 1 ∨ pr = 2) (h2 : okEnd a1 p1) (h3 : okEnd a2 p2) (h4 : fl < 0 ∨ 15 < fl) :
    Calls Tryz.prog 26 #[pkt pr a1 p1 a2 p2 fl] w fun e w' => e = .returned (errV s 2) ∧ Below w.heap.size w w' := by
  have hS : Hid (Sen w s) := S
  clear S
  have H4 : Hid (fl < 0 ∨ 15 < fl) := h4
  clear h4
  obtain ⟨g1, g2, g3, g4⟩ := h2
  obtain ⟨g5, g6, g7, g8⟩ := h3
  rcases h1 with rfl | rfl
  all_goals
    go_enter Tryz.func26, Tryz.ntmps26
    go_wp2_with fail
    refine (ends_any _ _ _).mono ?_
    rintro e w1 ⟨rfl, hb⟩
    obtain ⟨c0, c1, c2, c3, c4, c5⟩ := box6 hb
    have HB : Hid (Below w.heap.size w w1) := ((Below.refl _ _).alloc (Nat.le_refl _) _).trans (hb.mono (by simp))
    have d1 := (hS.out.below HB.out).c1
    have d2 := (hS.out.below HB.out).c2
    clear hb
    have i0 := Tryz.idx0
    have i1 := Tryz.idx1
    go_wp2_with fail
    refine wp_loop_rounds 3 ?_
    rw [rounds_succ]
    go_wp2_with fail
    rw [rounds_succ]
    go_wp2_with fail
    rw [rounds_succ]
    rcases H4.out with h | h
    all_goals
      go_wp2_with fail
      all_goals (go_ret; exact ⟨rfl, HB.out⟩)
set_option maxRecDepth 100000 in
set_option maxHeartbeats 2000000 in
theorem check_shape (pr a1 p1 a2 p2 fl : Int) (s : Nat → Addr) (w : World) (S : Sen w s) (h1 : pr = 1) (h2 : okEnd a1 p1) (h3 : okEnd a2 p2) (h4 : 0 < fl) (h5 : fl ≤ 15) :
    Calls Tryz.prog 26 #[pkt pr a1 p1 a2 p2 fl] w fun e w' => e = .returned (errV s 3) ∧ Below w.heap.size w w' := by
  have hS : Hid (Sen w s) := S
  clear S
  subst h1
  obtain ⟨g1, g2, g3, g4⟩ := h2
  obtain ⟨g5, g6, g7, g8⟩ := h3
  have hz : (fl != 0) = true := by rw [bne_iff_ne]; omega
  all_goals
    go_enter Tryz.func26, Tryz.ntmps26
    go_wp2_with fail
    refine (ends_any _ _ _).mono ?_
    rintro e w1 ⟨rfl, hb⟩
    obtain ⟨c0, c1, c2, c3, c4, c5⟩ := box6 hb
    have HB : Hid (Below w.heap.size w w1) := ((Below.refl _ _).alloc (Nat.le_refl _) _).trans (hb.mono (by simp))
    have d1 := (hS.out.below HB.out).c1
    have d2 := (hS.out.below HB.out).c2
    clear hb
    have i0 := Tryz.idx0
    have i1 := Tryz.idx1
    go_wp2_with fail
    refine wp_loop_rounds 3 ?_
    rw [rounds_succ]
    go_wp2_with fail
    rw [rounds_succ]
    go_wp2_with fail
    rw [rounds_succ]
    go_wp2_with fail
    go_ret
    exact ⟨rfl, HB.out⟩
set_option maxRecDepth 100000 in
set_option maxHeartbeats 2000000 in
theorem check_ok (pr a1 p1 a2 p2 fl : Int) (s : Nat → Addr) (w : World) (S : Sen w s) (h1 : (pr = 1 ∧ fl = 0) ∨ pr = 2) (h2 : okEnd a1 p1) (h3 : okEnd a2 p2) (h4 : 0 ≤ fl) (h5 : fl ≤ 15) :
    Calls Tryz.prog 26 #[pkt pr a1 p1 a2 p2 fl] w fun e w' => e = .returned (errV s 0) ∧ Below w.heap.size w w' := by
  have hS : Hid (Sen w s) := S
  clear S
  obtain ⟨g1, g2, g3, g4⟩ := h2
  obtain ⟨g5, g6, g7, g8⟩ := h3
  rcases h1 with ⟨rfl, rfl⟩ | rfl
  all_goals
    go_enter Tryz.func26, Tryz.ntmps26
    go_wp2_with fail
    refine (ends_any _ _ _).mono ?_
    rintro e w1 ⟨rfl, hb⟩
    obtain ⟨c0, c1, c2, c3, c4, c5⟩ := box6 hb
    have HB : Hid (Below w.heap.size w w1) := ((Below.refl _ _).alloc (Nat.le_refl _) _).trans (hb.mono (by simp))
    have d1 := (hS.out.below HB.out).c1
    have d2 := (hS.out.below HB.out).c2
    clear hb
    have i0 := Tryz.idx0
    have i1 := Tryz.idx1
    go_wp2_with fail
    refine wp_loop_rounds 3 ?_
    rw [rounds_succ]
    go_wp2_with fail
    rw [rounds_succ]
    go_wp2_with fail
    rw [rounds_succ]
    go_wp2_with fail
    go_ret
    exact ⟨rfl, HB.out⟩
end Go.Proofs.YtpmoamfhppmicaaGreatDoor
