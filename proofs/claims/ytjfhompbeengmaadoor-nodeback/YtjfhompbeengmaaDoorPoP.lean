/-
  The document's answer: IsEnd, PacketError.
-/
import Derived.Test.YtjfhompbeengmaaDoorKh
namespace Go.Proofs.YtjfhompbeengmaaDoor
open Go.RowKit

theorem isEnd_ok (a p : Int) (w : World) (h : okEnd a p) : Calls Tryd.prog 29 #[.agg #[.int .i64 a, .int .i64 p]] w fun e w' => e = .returned (.bool true) ∧ Below w.heap.size w w' := by
  obtain ⟨g1, g2, g3, g4⟩ := h
  go_enter Tryd.func29, Tryd.ntmps29
  go_wp2_with fail
  go_ret
  exact ⟨rfl, (Below.refl _ _).alloc (Nat.le_refl _) _⟩
theorem isEnd_bad (a p : Int) (w : World) (h : badEnd a p) : Calls Tryd.prog 29 #[.agg #[.int .i64 a, .int .i64 p]] w fun e w' => e = .returned (.bool false) ∧ Below w.heap.size w w' := by
  by_cases g1 : 0 ≤ a
  · by_cases g2 : a ≤ 1048576
    · by_cases g3 : 1 ≤ p
      · have g4 : decide (p ≤ 65535) = false := by rcases h with h | h | h | h <;> simp <;> omega
        clear h
        go_enter Tryd.func29, Tryd.ntmps29
        go_wp2_with fail
        go_ret
        exact ⟨rfl, (Below.refl _ _).alloc (Nat.le_refl _) _⟩
      · clear h
        go_enter Tryd.func29, Tryd.ntmps29
        go_wp2_with fail
        go_ret
        exact ⟨rfl, (Below.refl _ _).alloc (Nat.le_refl _) _⟩
    · clear h
      go_enter Tryd.func29, Tryd.ntmps29
      go_wp2_with fail
      go_ret
      exact ⟨rfl, (Below.refl _ _).alloc (Nat.le_refl _) _⟩
  · clear h
    go_enter Tryd.func29, Tryd.ntmps29
    go_wp2_with fail
    go_ret
    exact ⟨rfl, (Below.refl _ _).alloc (Nat.le_refl _) _⟩

theorem isEnd_any (a p : Int) (b : Bool) (hb : endB a p = b) (w : World) : Calls Tryd.prog 29 #[.agg #[.int .i64 a, .int .i64 p]] w fun e w' => e = .returned (.bool b) ∧ Below w.heap.size w w' := by
  cases b
  · exact isEnd_bad a p w (endB_bad.1 hb)
  · exact isEnd_ok a p w (endB_ok.1 hb)

set_option maxRecDepth 100000 in
set_option maxHeartbeats 4000000 in
theorem perr_core (b1 b2 : Bool) (pr a1 p1 a2 p2 fl : Int) (w : World) (hs : endB a1 p1 = b1) (hd : endB a2 p2 = b2) (r : Int)
    (hr : ((pr != 1) = true ∧ (pr != 2) = true ∧ r = 2) ∨ ((pr = 1 ∨ pr = 2) ∧ b1 = false ∧ r = 2) ∨ ((pr = 1 ∨ pr = 2) ∧ b1 = true ∧ b2 = false ∧ r = 2) ∨ ((pr = 1 ∨ pr = 2) ∧ b1 = true ∧ b2 = true ∧ (fl < 0 ∨ 15 < fl) ∧ r = 2) ∨
      (pr = 1 ∧ b1 = true ∧ b2 = true ∧ 0 < fl ∧ fl ≤ 15 ∧ r = 3) ∨ (pr = 1 ∧ b1 = true ∧ b2 = true ∧ fl = 0 ∧ r = 0) ∨ (pr = 2 ∧ b1 = true ∧ b2 = true ∧ 0 ≤ fl ∧ fl ≤ 15 ∧ r = 0)) :
    Calls Tryd.prog 8 #[pkt pr a1 p1 a2 p2 fl] w fun e w' => e = .returned (.int .i64 r) ∧ Below w.heap.size w w' := by
  have HS : Hid (endB a1 p1 = b1) := hs
  have HD : Hid (endB a2 p2 = b2) := hd
  clear hs hd
  rcases hr with ⟨g1, g2, rfl⟩ | ⟨rfl | rfl, rfl, rfl⟩ | ⟨rfl | rfl, rfl, rfl, rfl⟩ | ⟨rfl | rfl, rfl, rfl, g | g, rfl⟩ | ⟨rfl, rfl, rfl, g1, g2, rfl⟩ | ⟨rfl, rfl, rfl, rfl, rfl⟩ | ⟨rfl, rfl, rfl, g1, g2, rfl⟩
  all_goals
    go_enter Tryd.func8, Tryd.ntmps8
    go_wp2_with fail
    refine (isEnd_any _ _ _ HS.out _).mono ?_
    rintro e w1 ⟨rfl, hb⟩
    obtain ⟨c0, c1, c2, c3, c4, c5⟩ := box6 hb
    have HB : Hid (Below w.heap.size w w1) := ((Below.refl _ _).alloc (Nat.le_refl _) _).trans (hb.mono (by simp))
    have HB1 : Hid (w.heap.size < w1.heap.size) := by have := hb.size; simp at this; exact this
    clear hb
    go_wp2_with fail
    refine (isEnd_any _ _ _ HD.out _).mono ?_
    rintro e w2 ⟨rfl, hb2⟩
    have d0 := Below.keeps hb2 c0
    have d5 := Below.keeps hb2 c5
    have HB2 : Hid (Below w.heap.size w w2) := HB.out.trans (hb2.mono HB.out.size)
    clear hb2 c0 c1 c2 c3 c4 c5
    go_wp2_with fail
    all_goals (go_ret; exact ⟨rfl, HB2.out⟩)
theorem perr_any (pr a1 p1 a2 p2 fl : Int) (w : World) :
    Calls Tryd.prog 8 #[pkt pr a1 p1 a2 p2 fl] w fun e w' => e = .returned (.int .i64 (pkErr pr a1 p1 a2 p2 fl)) ∧ Below w.heap.size w w' := by
  refine perr_core (endB a1 p1) (endB a2 p2) pr a1 p1 a2 p2 fl w rfl rfl _ ?_
  unfold pkErr
  simp only [bne_iff_ne]
  cases h1 : endB a1 p1 <;> cases h2 : endB a2 p2 <;> simp
  all_goals first | omega | (split <;> (try split) <;> omega)
end Go.Proofs.YtjfhompbeengmaaDoor
