/-
  Package track: has, Next, Begin.
-/
import Derived.Test.YthmnmdikpccenacDoorTkM
import Derived.Test.YthmnmdikpccenacDoorPkA
namespace Go.Proofs.YthmnmdikpccenacDoor
open Go.RowKit

theorem bk {w w' : World} (h : Below w.heap.size w w') {a : Addr} {v : Value} (hc : w.cell? a = some v) : w'.cell? a = some v := by
  have hl : a.block < w.heap.size := by
    rcases Nat.lt_or_ge a.block w.heap.size with h | h
    · exact h
    · simp [World.cell?, Array.getElem?_eq_none h] at hc
  rw [h.cell (p := a) hl]; exact hc
theorem bb {w w1 w2 : World} (h1 : Below w.heap.size w w1) (h2 : Below w1.heap.size w1 w2) : Below w.heap.size w w2 := h1.trans (h2.mono h1.size)
theorem has_any (fl k : Int) (b : Bool) (hb : hasB fl k = b) (w : World) : Calls Tryd.prog 82 #[.int .i64 fl, .int .i64 k] w fun e w' => e = .returned (.bool b) ∧ w' = w := by
  subst hb
  go_enter Tryd.func82, Tryd.ntmps82
  go_wp2_with fail
  go_ret
  exact ⟨rfl, rfl⟩
theorem next_un {r x : Int} {g y : Bool} (h1 : r = x) (h2 : g = y) : Ending.returned (.tuple #[.int .i64 r, .bool g]) = .returned (.tuple #[.int .i64 x, .bool y]) := by rw [h1, h2]
set_option maxRecDepth 100000 in
set_option maxHeartbeats 1000000 in
theorem next_no (pr st fl : Int) (ou : Bool) (w : World) (h : pr ≠ 2) :
    Calls Tryd.prog 64 #[.int .i64 pr, .int .i64 st, .int .i64 fl, .bool ou] w fun e w' => e = .returned (.tuple #[.int .i64 st, .bool false]) ∧ w' = w := by
  have h1 : (pr != 2) = true := bne_iff_ne.2 h
  clear h
  go_enter Tryd.func64, Tryd.ntmps64
  go_wp2_with fail
  go_ret2
  exact ⟨rfl, rfl⟩
set_option maxRecDepth 100000 in
set_option maxHeartbeats 1000000 in
theorem next_tcp (st fl : Int) (ou b8 b4 b3 : Bool) (w : World) (h8 : hasB fl 8 = b8) (h4 : hasB fl 4 = b4) (h3 : hasB fl 3 = b3) (r : Int) (g : Bool)
    (hr : (b8 = true ∧ r = 0 ∧ g = true) ∨ (b8 = false ∧ b4 = true ∧ r = 3 ∧ g = false) ∨ (b8 = false ∧ b4 = false ∧ (st == 1) = true ∧ ou = false ∧ b3 = true ∧ r = 2 ∧ g = false)
      ∨ (b8 = false ∧ b4 = false ∧ (st == 1) = true ∧ ou = false ∧ b3 = false ∧ r = st ∧ g = false) ∨ (b8 = false ∧ b4 = false ∧ (st == 1) = true ∧ ou = true ∧ r = st ∧ g = false) ∨ (b8 = false ∧ b4 = false ∧ (st == 1) = false ∧ r = st ∧ g = false)) :
    Calls Tryd.prog 64 #[.int .i64 2, .int .i64 st, .int .i64 fl, .bool ou] w fun e w' => e = .returned (.tuple #[.int .i64 r, .bool g]) ∧ w' = w := by
  have H8 : Hid (hasB fl 8 = b8) := h8
  have H4 : Hid (hasB fl 4 = b4) := h4
  have H3 : Hid (hasB fl 3 = b3) := h3
  clear h8 h4 h3
  rcases hr with ⟨rfl, rfl, rfl⟩ | ⟨rfl, rfl, rfl, rfl⟩ | ⟨rfl, rfl, hs, rfl, rfl, rfl, rfl⟩ | ⟨rfl, rfl, hs, rfl, rfl, rfl, rfl⟩ | ⟨rfl, rfl, hs, rfl, rfl, rfl⟩ | ⟨rfl, rfl, hs, rfl, rfl⟩
  all_goals
    go_enter Tryd.func64, Tryd.ntmps64
    go_wp2_with fail
    refine (has_any fl 8 _ H8.out _).mono ?_
    rintro e w1 ⟨rfl, rfl⟩
    go_wp2_with (first | (go_at_call_of 82 (Value.int IntKind.i64 4); refine (has_any fl 4 _ H4.out _).mono ?_; rintro e w1 ⟨rfl, rfl⟩) | (go_at_call_of 82 (Value.int IntKind.i64 3); refine (has_any fl 3 _ H3.out _).mono ?_; rintro e w1 ⟨rfl, rfl⟩))
    all_goals go_ret2
    all_goals exact ⟨rfl, rfl⟩
theorem tknext_any (pr st fl : Int) (ou : Bool) (w : World) :
    Calls Tryd.prog 64 #[.int .i64 pr, .int .i64 st, .int .i64 fl, .bool ou] w fun e w' => e = .returned (.tuple #[.int .i64 (nxtS pr st fl ou), .bool (nxtG pr fl)]) ∧ w' = w := by
  by_cases h : pr = 2
  · subst h
    refine next_tcp st fl ou _ _ _ w rfl rfl rfl _ _ ?_
    unfold nxtS nxtG
    rw [if_pos rfl]
    cases h8 : hasB fl 8 <;> cases h4 : hasB fl 4 <;> cases h3 : hasB fl 3 <;> cases ou <;> by_cases hs : st = 1 <;> simp [hs]
  · have e1 : nxtS pr st fl ou = st := by unfold nxtS; rw [if_neg h]
    have e2 : nxtG pr fl = false := by unfold nxtG; rw [decide_eq_false h]; rfl
    rw [e1, e2]
    exact next_no pr st fl ou w h
end Go.Proofs.YthmnmdikpccenacDoor
