/-
  Package track's Begin; the document's answer: BeginOf, NextOf, TimeOf; the law TrackSteps, walked.
-/
import Derived.Test.YtgmdnooknnikfaaDoorTkC
import Derived.Test.YtgmdnooknnikfaaDoorCoded
namespace Go.Proofs.YtgmdnooknnikfaaDoor
open Go.RowKit

/-- an error by its number. -/
def bgnV (s : Nat → Addr) : Nat → Value
  | 0 => .nilIface
  | k + 1 => .iface 70 (.pointer (some (s k)))
set_option maxRecDepth 100000 in
set_option maxHeartbeats 1000000 in
theorem begin_bad (pr fl : Int) (s : Nat → Addr) (w : World) (S : Sents w s) (h : ((pr != 1) = true ∧ (pr != 2) = true) ∨ ((pr = 1 ∨ pr = 2) ∧ (fl < 0 ∨ 15 < fl))) :
    Calls Tryd.prog 26 #[.int .i64 pr, .int .i64 fl] w fun e w' => e = .returned (.tuple #[.int .i64 0, bgnV s 2]) ∧ Below w.heap.size w w' := by
  have c1 := S.c1
  clear S
  rcases h with ⟨h1, h2⟩ | ⟨rfl | rfl, h | h⟩
  all_goals
    go_enter Tryd.func26, Tryd.ntmps26
    go_wp2_with fail
    go_region
    all_goals go_wp2_with fail
    all_goals go_ret2
    all_goals exact ⟨rfl, (Below.refl _ _).drew⟩
set_option maxRecDepth 100000 in
set_option maxHeartbeats 1000000 in
theorem begin_state (fl : Int) (s : Nat → Addr) (w : World) (S : Sents w s) (h0 : 0 ≤ fl) (h1 : fl ≤ 15) (h : fl ≠ 1) :
    Calls Tryd.prog 26 #[.int .i64 2, .int .i64 fl] w fun e w' => e = .returned (.tuple #[.int .i64 0, bgnV s 9]) ∧ Below w.heap.size w w' := by
  have c8 := S.c8
  have h2 : (fl != 1) = true := bne_iff_ne.2 h
  clear S h
  go_enter Tryd.func26, Tryd.ntmps26
  go_wp2_with fail
  go_region
  all_goals go_wp2_with fail
  all_goals go_ret2
  all_goals exact ⟨rfl, (Below.refl _ _).drew⟩
set_option maxRecDepth 100000 in
set_option maxHeartbeats 1000000 in
theorem begin_udp (fl : Int) (w : World) (h0 : 0 ≤ fl) (h1 : fl ≤ 15) :
    Calls Tryd.prog 26 #[.int .i64 1, .int .i64 fl] w fun e w' => e = .returned (.tuple #[.int .i64 2, .nilIface]) ∧ w' = w := by
  go_enter Tryd.func26, Tryd.ntmps26
  go_wp2_with fail
  go_ret2
  exact ⟨rfl, rfl⟩
theorem begin_any (pr fl : Int) (s : Nat → Addr) (w : World) (S : Sents w s) :
    Calls Tryd.prog 26 #[.int .i64 pr, .int .i64 fl] w fun e w' => e = .returned (.tuple #[.int .i64 (bgnS pr fl), bgnV s (bgnE pr fl)]) ∧ Below w.heap.size w w' := by
  by_cases h : (pr = 1 ∨ pr = 2) ∧ 0 ≤ fl ∧ fl ≤ 15
  · by_cases h1 : pr = 1
    · subst h1
      have e1 : bgnS 1 fl = 2 := by unfold bgnS; rw [if_pos h]; rfl
      have e2 : bgnE 1 fl = 0 := by unfold bgnE; rw [if_pos h]; rfl
      rw [e1, e2]
      exact (begin_udp fl w h.2.1 h.2.2).mono fun e w' ⟨he, hw⟩ => ⟨he, by rw [hw]; exact Below.refl _ _⟩
    · obtain rfl : pr = 2 := by omega
      by_cases h2 : fl = 1
      · subst h2
        have e1 : bgnS 2 1 = 1 := by decide
        have e2 : bgnE 2 1 = 0 := by decide
        rw [e1, e2]
        exact (begin_ok w).mono fun e w' ⟨he, hw⟩ => ⟨he, by rw [hw]; exact Below.refl _ _⟩
      · have e1 : bgnS 2 fl = 0 := by unfold bgnS; rw [if_pos h, if_neg (by omega), if_neg h2]
        have e2 : bgnE 2 fl = 9 := by unfold bgnE; rw [if_pos h, if_neg (by omega), if_neg h2]
        rw [e1, e2]
        exact begin_state fl s w S h.2.1 h.2.2 h2
  · have e1 : bgnS pr fl = 0 := by unfold bgnS; rw [if_neg h]
    have e2 : bgnE pr fl = 2 := by unfold bgnE; rw [if_neg h]
    rw [e1, e2]
    refine begin_bad pr fl s w S ?_
    simp only [bne_iff_ne, ne_eq]
    omega
set_option maxRecDepth 100000 in
set_option maxHeartbeats 1000000 in
theorem bgnOf_any (pr fl : Int) (w : World) :
    Calls Tryd.prog 27 #[.int .i64 pr, .int .i64 fl] w fun e w' => e = .returned (.tuple #[.int .i64 (bgnS pr fl), .int .i64 (bgnE pr fl)]) ∧ w' = w := by
  by_cases h : (pr = 1 ∨ pr = 2) ∧ 0 ≤ fl ∧ fl ≤ 15
  · by_cases h1 : pr = 1
    · subst h1
      have e1 : bgnS 1 fl = 2 := by unfold bgnS; rw [if_pos h]; rfl
      have e2 : bgnE 1 fl = 0 := by unfold bgnE; rw [if_pos h]; rfl
      rw [e1, e2]
      obtain ⟨_, g0, g1⟩ := h
      clear e1 e2
      go_enter Tryd.func27, Tryd.ntmps27
      go_wp2_with fail
      go_ret2
      exact ⟨rfl, rfl⟩
    · obtain rfl : pr = 2 := by omega
      by_cases h2 : fl = 1
      · subst h2
        have e1 : bgnS 2 1 = 1 := by decide
        have e2 : bgnE 2 1 = 0 := by decide
        rw [e1, e2]
        clear e1 e2 h h1
        go_enter Tryd.func27, Tryd.ntmps27
        go_wp2_with fail
        go_ret2
        exact ⟨rfl, rfl⟩
      · have e1 : bgnS 2 fl = 0 := by unfold bgnS; rw [if_pos h, if_neg (by omega), if_neg h2]
        have e2 : bgnE 2 fl = 9 := by unfold bgnE; rw [if_pos h, if_neg (by omega), if_neg h2]
        rw [e1, e2]
        obtain ⟨_, g0, g1⟩ := h
        have h3 : (fl == 1) = false := beq_eq_false_iff_ne.2 h2
        clear e1 e2 h1 h2
        go_enter Tryd.func27, Tryd.ntmps27
        go_wp2_with fail
        go_ret2
        exact ⟨rfl, rfl⟩
  · have e1 : bgnS pr fl = 0 := by unfold bgnS; rw [if_neg h]
    have e2 : bgnE pr fl = 2 := by unfold bgnE; rw [if_neg h]
    rw [e1, e2]
    have hc : ((pr != 1) = true ∧ (pr != 2) = true) ∨ ((pr = 1 ∨ pr = 2) ∧ (fl < 0 ∨ 15 < fl)) := by
      simp only [bne_iff_ne, ne_eq]
      omega
    clear e1 e2 h
    rcases hc with ⟨h1, h2⟩ | ⟨rfl | rfl, h | h⟩
    all_goals
      go_enter Tryd.func27, Tryd.ntmps27
      go_wp2_with fail
      go_ret2
      exact ⟨rfl, rfl⟩
theorem bit_any (fl k : Int) (b : Bool) (hb : hasB fl k = b) (w : World) : Calls Tryd.prog 44 #[.int .i64 fl, .int .i64 k] w fun e w' => e = .returned (.bool b) ∧ w' = w := by
  subst hb
  go_enter Tryd.func44, Tryd.ntmps44
  go_wp2_with fail
  go_ret
  exact ⟨rfl, rfl⟩
set_option maxRecDepth 100000 in
set_option maxHeartbeats 2000000 in
theorem nextOf_tcp (st fl : Int) (ou b8 b4 b2 b1 : Bool) (w : World) (h8 : hasB fl 8 = b8) (h4 : hasB fl 4 = b4) (h2 : hasB fl 2 = b2) (h1 : hasB fl 1 = b1) (r : Int) (g : Bool)
    (hr : (b8 = true ∧ r = 0 ∧ g = true) ∨ (b8 = false ∧ b4 = true ∧ r = 3 ∧ g = false) ∨ (b8 = false ∧ b4 = false ∧ (st == 1) = true ∧ ou = false ∧ b1 = true ∧ b2 = true ∧ r = 2 ∧ g = false)
      ∨ (b8 = false ∧ b4 = false ∧ (st == 1) = true ∧ ou = false ∧ b1 = true ∧ b2 = false ∧ r = st ∧ g = false) ∨ (b8 = false ∧ b4 = false ∧ (st == 1) = true ∧ ou = false ∧ b1 = false ∧ r = st ∧ g = false)
      ∨ (b8 = false ∧ b4 = false ∧ (st == 1) = true ∧ ou = true ∧ r = st ∧ g = false) ∨ (b8 = false ∧ b4 = false ∧ (st == 1) = false ∧ r = st ∧ g = false)) :
    Calls Tryd.prog 28 #[.int .i64 2, .int .i64 st, .int .i64 fl, .bool ou] w fun e w' => e = .returned (.tuple #[.int .i64 r, .bool g]) ∧ w' = w := by
  have H8 : Hid (hasB fl 8 = b8) := h8
  have H4 : Hid (hasB fl 4 = b4) := h4
  have H2 : Hid (hasB fl 2 = b2) := h2
  have H1 : Hid (hasB fl 1 = b1) := h1
  clear h8 h4 h2 h1
  rcases hr with ⟨rfl, rfl, rfl⟩ | ⟨rfl, rfl, rfl, rfl⟩ | ⟨rfl, rfl, hs, rfl, rfl, rfl, rfl, rfl⟩ | ⟨rfl, rfl, hs, rfl, rfl, rfl, rfl, rfl⟩ | ⟨rfl, rfl, hs, rfl, rfl, rfl, rfl⟩ | ⟨rfl, rfl, hs, rfl, rfl, rfl⟩ | ⟨rfl, rfl, hs, rfl, rfl⟩
  all_goals (try cases b1) <;> (try cases b2)
  all_goals
    go_enter Tryd.func28, Tryd.ntmps28
    go_wp2_with (first | (go_at_call_of 44 (Value.int IntKind.i64 8); refine (bit_any fl 8 _ H8.out _).mono ?_; rintro e w1 ⟨rfl, rfl⟩) | (go_at_call_of 44 (Value.int IntKind.i64 4); refine (bit_any fl 4 _ H4.out _).mono ?_; rintro e w1 ⟨rfl, rfl⟩) | (go_at_call_of 44 (Value.int IntKind.i64 1); refine (bit_any fl 1 _ H1.out _).mono ?_; rintro e w1 ⟨rfl, rfl⟩) | (go_at_call_of 44 (Value.int IntKind.i64 2); refine (bit_any fl 2 _ H2.out _).mono ?_; rintro e w1 ⟨rfl, rfl⟩))
    all_goals go_ret2
    all_goals exact ⟨rfl, rfl⟩
set_option maxRecDepth 100000 in
set_option maxHeartbeats 1000000 in
theorem nextOf_any (pr st fl : Int) (ou : Bool) (w : World) :
    Calls Tryd.prog 28 #[.int .i64 pr, .int .i64 st, .int .i64 fl, .bool ou] w fun e w' => e = .returned (.tuple #[.int .i64 (nxtS pr st fl ou), .bool (nxtG pr fl)]) ∧ w' = w := by
  by_cases h : pr = 2
  · subst h
    refine nextOf_tcp st fl ou _ _ _ _ w rfl rfl rfl rfl _ _ ?_
    unfold nxtS nxtG
    rw [if_pos rfl, and3]
    cases h8 : hasB fl 8 <;> cases h4 : hasB fl 4 <;> cases h2 : hasB fl 2 <;> cases h1 : hasB fl 1 <;> cases ou <;> by_cases hs : st = 1 <;> simp [hs]
  · have e1 : nxtS pr st fl ou = st := by unfold nxtS; rw [if_neg h]
    have e2 : nxtG pr fl = false := by unfold nxtG; rw [decide_eq_false h]; rfl
    rw [e1, e2]
    have h1 : (pr != 2) = true := bne_iff_ne.2 h
    clear h e1 e2
    go_enter Tryd.func28, Tryd.ntmps28
    go_wp2_with fail
    go_ret2
    exact ⟨rfl, rfl⟩
set_option maxRecDepth 100000 in
set_option maxHeartbeats 1000000 in
theorem timeOf_any (pr st : Int) (w : World) :
    Calls Tryd.prog 30 #[.int .i64 pr, .int .i64 st] w fun e w' => e = .returned (.int .i64 (stay pr st)) ∧ w' = w := by
  obtain ⟨r, hr⟩ : ∃ r, stay pr st = r := ⟨_, rfl⟩
  rw [hr]
  have hc : (pr = 1 ∧ r = 60) ∨ ((pr == 1) = false ∧ (pr != 2) = true ∧ r = 0) ∨ (pr = 2 ∧ st = 1 ∧ r = 10) ∨ (pr = 2 ∧ st = 2 ∧ r = 100) ∨ (pr = 2 ∧ st = 3 ∧ r = 5) ∨ (pr = 2 ∧ (st == 1) = false ∧ (st == 2) = false ∧ (st == 3) = false ∧ r = 0) := by
    subst hr
    unfold stay
    simp only [beq_eq_false_iff_ne, bne_iff_ne, ne_eq]
    split
    · exact .inl ⟨by assumption, rfl⟩
    split
    · split
      · omega
      split
      · omega
      split <;> omega
    · omega
  clear hr
  rcases hc with ⟨rfl, rfl⟩ | ⟨h1, h2, rfl⟩ | ⟨rfl, rfl, rfl⟩ | ⟨rfl, rfl, rfl⟩ | ⟨rfl, rfl, rfl⟩ | ⟨rfl, h1, h2, h3, rfl⟩
  all_goals
    go_enter Tryd.func30, Tryd.ntmps30
    go_wp2_with fail
    go_ret
    exact ⟨rfl, rfl⟩
theorem coded_bgn (e : Nat) (he : e ≤ 11) (s : Nat → Addr) (w : World) (S : Sents w s) :
    Calls Tryd.prog 11 #[bgnV s e, .int .i64 e] w fun x w' => x = .returned (.bool true) ∧ Below w.heap.size w w' := by
  match e, he with
  | 0, _ => exact (coded_nil 0 w).mono fun x w' ⟨hx, hw⟩ => ⟨hx, by rw [hw]; exact Below.refl _ _⟩
  | k + 1, hk =>
    refine (coded_sent k (by omega) ((k + 1 : Nat) : Int) s w S).mono fun x w' ⟨hx, hw⟩ => ⟨?_, hw⟩
    rw [hx]
    have : (((k + 1 : Nat) : Int) == (k : Int) + 1) = true := by rw [beq_iff_eq]; omega
    rw [this]
theorem bgnE_le (pr fl : Int) : bgnE pr fl ≤ 11 := by
  unfold bgnE; repeat' split
  all_goals omega
set_option maxRecDepth 100000 in
set_option maxHeartbeats 2000000 in
theorem steps_any (pr st fl : Int) (ou : Bool) (s : Nat → Addr) (w : World) (S : Sents w s) (hp : (Lit.int .i64 pr).wf = true) (hs : (Lit.int .i64 st).wf = true) :
    Calls Tryd.prog 8 #[.int .i64 pr, .int .i64 st, .int .i64 fl, .bool ou] w fun e w' => e = .returned (.bool true) ∧ Below w.heap.size w w' := by
  have HS : Hid (Sents w s) := S
  have HP : Hid ((Lit.int .i64 pr).wf = true) := hp
  have HT : Hid ((Lit.int .i64 st).wf = true) := hs
  clear S hp hs
  go_enter Tryd.func8, Tryd.ntmps8
  go_wp2_with fail
  refine (tracked_any _).mono ?_
  rintro e w1 ⟨rfl, hb1⟩
  have B1 : Hid (Below w.heap.size w w1) := hb1
  clear hb1
  go_wp2_with fail
  refine (begin_any pr fl s _ (HS.out.below B1.out)).mono ?_
  rintro e w2 ⟨rfl, hb2⟩
  have B2 : Hid (Below w.heap.size w w2) := bb B1.out hb2
  clear hb2
  go_wp2_with fail
  refine (bgnOf_any pr fl _).mono ?_
  rintro e w3 ⟨rfl, rfl⟩
  go_wp2_with fail
  refine (next_any pr st fl ou _).mono ?_
  rintro e w3 ⟨rfl, rfl⟩
  go_wp2_with fail
  refine (nextOf_any pr st fl ou _).mono ?_
  rintro e w3 ⟨rfl, rfl⟩
  go_wp2_with fail
  refine (coded_bgn _ (bgnE_le pr fl) s _ (HS.out.below B2.out)).mono ?_
  rintro e w3 ⟨rfl, hb3⟩
  have B3 : Hid (Below w.heap.size w w3) := bb B2.out hb3
  clear hb3
  go_wp2_with fail
  refine (time_any pr st _ HP.out HT.out).mono ?_
  rintro e w4 ⟨rfl, hb4⟩
  have B4 : Hid (Below w.heap.size w w4) := bb B3.out hb4
  clear hb4
  go_wp2_with fail
  refine (timeOf_any pr st _).mono ?_
  rintro e w5 ⟨rfl, rfl⟩
  go_wp2_with fail
  go_ret
  exact ⟨rfl, B4.out⟩
end Go.Proofs.YtgmdnooknnikfaaDoor
