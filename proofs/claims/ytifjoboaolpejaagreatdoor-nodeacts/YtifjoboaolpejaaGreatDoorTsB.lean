/-
  The document's answer of package track: BeginOf, NextOf, TimeOf.
-/
import Derived.Test.YtifjoboaolpejaaGreatDoorKg
namespace Go.Proofs.YtifjoboaolpejaaGreatDoor
open Go.RowKit

set_option maxRecDepth 100000 in
set_option maxHeartbeats 1000000 in
theorem bgnOf_any (pr fl : Int) (w : World) :
    Calls Tryz.prog 78 #[.int .i64 pr, .int .i64 fl] w fun e w' => e = .returned (.tuple #[.int .i64 (bgnS pr fl), .int .i64 (bgnE pr fl)]) ∧ w' = w := by
  by_cases h : (pr = 1 ∨ pr = 2) ∧ 0 ≤ fl ∧ fl ≤ 15
  · by_cases h1 : pr = 1
    · subst h1
      have e1 : bgnS 1 fl = 2 := by unfold bgnS; rw [if_pos h]; rfl
      have e2 : bgnE 1 fl = 0 := by unfold bgnE; rw [if_pos h]; rfl
      rw [e1, e2]
      obtain ⟨_, g0, g1⟩ := h
      clear e1 e2
      go_enter Tryz.func78, Tryz.ntmps78
      go_wp2_with fail
      go_ret2
      exact ⟨rfl, rfl⟩
    · obtain rfl : pr = 2 := by omega
      by_cases h2 : fl = 1
      · subst h2
        have e1 : bgnS 2 1 = 1 := by decide
        have e2 : bgnE 2 1 = 0 := by decide
        rw [e1, e2]
        clear e1 e2 h h1
        go_enter Tryz.func78, Tryz.ntmps78
        go_wp2_with fail
        go_ret2
        exact ⟨rfl, rfl⟩
      · have e1 : bgnS 2 fl = 0 := by unfold bgnS; rw [if_pos h, if_neg (by omega), if_neg h2]
        have e2 : bgnE 2 fl = 9 := by unfold bgnE; rw [if_pos h, if_neg (by omega), if_neg h2]
        rw [e1, e2]
        obtain ⟨_, g0, g1⟩ := h
        have h3 : (fl == 1) = false := beq_eq_false_iff_ne.2 h2
        clear e1 e2 h1 h2
        go_enter Tryz.func78, Tryz.ntmps78
        go_wp2_with fail
        go_ret2
        exact ⟨rfl, rfl⟩
  · have e1 : bgnS pr fl = 0 := by unfold bgnS; rw [if_neg h]
    have e2 : bgnE pr fl = 2 := by unfold bgnE; rw [if_neg h]
    rw [e1, e2]
    have hc : ((pr != 1) = true ∧ (pr != 2) = true) ∨ ((pr = 1 ∨ pr = 2) ∧ (fl < 0 ∨ 15 < fl)) := by
      simp only [bne_iff_ne, ne_eq]
      omega
    clear e1 e2 h
    rcases hc with ⟨h1, h2⟩ | ⟨rfl | rfl, h | h⟩
    all_goals
      go_enter Tryz.func78, Tryz.ntmps78
      go_wp2_with fail
      go_ret2
      exact ⟨rfl, rfl⟩
theorem bit_any (fl k : Int) (b : Bool) (hb : hasB fl k = b) (w : World) : Calls Tryz.prog 151 #[.int .i64 fl, .int .i64 k] w fun e w' => e = .returned (.bool b) ∧ w' = w := by
  subst hb
  go_enter Tryz.func151, Tryz.ntmps151
  go_wp2_with fail
  go_ret
  exact ⟨rfl, rfl⟩
set_option maxRecDepth 100000 in
set_option maxHeartbeats 2000000 in
theorem nextOf_tcp (st fl : Int) (ou b8 b4 b2 b1 : Bool) (w : World) (h8 : hasB fl 8 = b8) (h4 : hasB fl 4 = b4) (h2 : hasB fl 2 = b2) (h1 : hasB fl 1 = b1) (r : Int) (g : Bool)
    (hr : (b8 = true ∧ r = 0 ∧ g = true) ∨ (b8 = false ∧ b4 = true ∧ r = 3 ∧ g = false) ∨ (b8 = false ∧ b4 = false ∧ (st == 1) = true ∧ ou = false ∧ b1 = true ∧ b2 = true ∧ r = 2 ∧ g = false)
      ∨ (b8 = false ∧ b4 = false ∧ (st == 1) = true ∧ ou = false ∧ b1 = true ∧ b2 = false ∧ r = st ∧ g = false) ∨ (b8 = false ∧ b4 = false ∧ (st == 1) = true ∧ ou = false ∧ b1 = false ∧ r = st ∧ g = false)
      ∨ (b8 = false ∧ b4 = false ∧ (st == 1) = true ∧ ou = true ∧ r = st ∧ g = false) ∨ (b8 = false ∧ b4 = false ∧ (st == 1) = false ∧ r = st ∧ g = false)) :
    Calls Tryz.prog 121 #[.int .i64 2, .int .i64 st, .int .i64 fl, .bool ou] w fun e w' => e = .returned (.tuple #[.int .i64 r, .bool g]) ∧ w' = w := by
  have H8 : Hid (hasB fl 8 = b8) := h8
  have H4 : Hid (hasB fl 4 = b4) := h4
  have H2 : Hid (hasB fl 2 = b2) := h2
  have H1 : Hid (hasB fl 1 = b1) := h1
  clear h8 h4 h2 h1
  rcases hr with ⟨rfl, rfl, rfl⟩ | ⟨rfl, rfl, rfl, rfl⟩ | ⟨rfl, rfl, hs, rfl, rfl, rfl, rfl, rfl⟩ | ⟨rfl, rfl, hs, rfl, rfl, rfl, rfl, rfl⟩ | ⟨rfl, rfl, hs, rfl, rfl, rfl, rfl⟩ | ⟨rfl, rfl, hs, rfl, rfl, rfl⟩ | ⟨rfl, rfl, hs, rfl, rfl⟩
  all_goals (try cases b1) <;> (try cases b2)
  all_goals
    go_enter Tryz.func121, Tryz.ntmps121
    go_wp2_with (first | (go_at_call_of 151 (Value.int IntKind.i64 8); refine (bit_any fl 8 _ H8.out _).mono ?_; rintro e w1 ⟨rfl, rfl⟩) | (go_at_call_of 151 (Value.int IntKind.i64 4); refine (bit_any fl 4 _ H4.out _).mono ?_; rintro e w1 ⟨rfl, rfl⟩) | (go_at_call_of 151 (Value.int IntKind.i64 1); refine (bit_any fl 1 _ H1.out _).mono ?_; rintro e w1 ⟨rfl, rfl⟩) | (go_at_call_of 151 (Value.int IntKind.i64 2); refine (bit_any fl 2 _ H2.out _).mono ?_; rintro e w1 ⟨rfl, rfl⟩))
    all_goals go_ret2
    all_goals exact ⟨rfl, rfl⟩
set_option maxRecDepth 100000 in
set_option maxHeartbeats 1000000 in
theorem nextOf_any (pr st fl : Int) (ou : Bool) (w : World) :
    Calls Tryz.prog 121 #[.int .i64 pr, .int .i64 st, .int .i64 fl, .bool ou] w fun e w' => e = .returned (.tuple #[.int .i64 (nxtS pr st fl ou), .bool (nxtG pr fl)]) ∧ w' = w := by
  by_cases h : pr = 2
  · subst h
    refine nextOf_tcp st fl ou _ _ _ _ w rfl rfl rfl rfl _ _ ?_
    unfold nxtS nxtG
    rw [if_pos rfl, and3]
    cases h8 : hasB fl 8 <;> cases h4 : hasB fl 4 <;> cases h2 : hasB fl 2 <;> cases h1 : hasB fl 1 <;> cases ou <;> by_cases hs : st = 1 <;> simp [hs]
  · have e1 : nxtS pr st fl ou = st := by unfold nxtS; rw [if_neg h]
    have e2 : nxtG pr fl = false := by unfold nxtG; rw [decide_eq_false h]; rfl
    rw [e1, e2]
    have h1 : (pr != 2) = true := bne_iff_ne.2 h
    clear h e1 e2
    go_enter Tryz.func121, Tryz.ntmps121
    go_wp2_with fail
    go_ret2
    exact ⟨rfl, rfl⟩
set_option maxRecDepth 100000 in
set_option maxHeartbeats 1000000 in
theorem timeOf_any (pr st : Int) (w : World) :
    Calls Tryz.prog 80 #[.int .i64 pr, .int .i64 st] w fun e w' => e = .returned (.int .i64 (stay pr st)) ∧ w' = w := by
  obtain ⟨r, hr⟩ : ∃ r, stay pr st = r := ⟨_, rfl⟩
  rw [hr]
  have hc : (pr = 1 ∧ r = 60) ∨ ((pr == 1) = false ∧ (pr != 2) = true ∧ r = 0) ∨ (pr = 2 ∧ st = 1 ∧ r = 10) ∨ (pr = 2 ∧ st = 2 ∧ r = 100) ∨ (pr = 2 ∧ st = 3 ∧ r = 5) ∨ (pr = 2 ∧ (st == 1) = false ∧ (st == 2) = false ∧ (st == 3) = false ∧ r = 0) := by
    subst hr
    unfold stay
    simp only [beq_eq_false_iff_ne, bne_iff_ne, ne_eq]
    split
    · exact .inl ⟨by assumption, rfl⟩
    split
    · split
      · omega
      split
      · omega
      split <;> omega
    · omega
  clear hr
  rcases hc with ⟨rfl, rfl⟩ | ⟨h1, h2, rfl⟩ | ⟨rfl, rfl, rfl⟩ | ⟨rfl, rfl, rfl⟩ | ⟨rfl, rfl, rfl⟩ | ⟨rfl, h1, h2, h3, rfl⟩
  all_goals
    go_enter Tryz.func80, Tryz.ntmps80
    go_wp2_with fail
    go_ret
    exact ⟨rfl, rfl⟩
end Go.Proofs.YtifjoboaolpejaaGreatDoor
