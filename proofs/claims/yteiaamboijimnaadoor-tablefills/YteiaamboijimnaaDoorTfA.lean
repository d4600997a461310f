/-
  The law TableFills, walked.
-/
import Derived.Test.YteiaamboijimnaaDoorTbL
import Derived.Test.YteiaamboijimnaaDoorTfM
import Derived.Test.YteiaamboijimnaaDoorCoded
namespace Go.Proofs.YteiaamboijimnaaDoor
open Go.RowKit

theorem coded_terr (n : Nat) (hn : n ≤ 11) (s : Nat → Addr) (w : World) (S : Sents w s) :
    Calls Tryd.prog 13 #[terr s n, .int .i64 n] w fun e w' => e = .returned (.bool true) ∧ Below w.heap.size w w' := by
  cases n with
  | zero =>
    refine (coded_nil 0 w).mono ?_
    rintro e w' ⟨rfl, rfl⟩
    exact ⟨rfl, Below.refl _ _⟩
  | succ k =>
    refine (coded_sent k (by omega) ((k + 1 : Nat) : Int) s w S).mono ?_
    rintro e w' ⟨rfl, hb⟩
    refine ⟨?_, hb⟩
    rw [beq_iff_eq.2 (by omega)]
structure FarB (w : World) (Z : Nat) (fa fp : Int) : Prop where
  c0 : w.cell? ⟨Z, 0, none⟩ = some (.int .i64 fa)
  c1 : w.cell? ⟨Z, 1, none⟩ = some (.int .i64 fp)
theorem FarB.below {w w' : World} {Z : Nat} {fa fp : Int} (h : FarB w Z fa fp) (hb : Below w.heap.size w w') : FarB w' Z fa fp := ⟨tk hb h.c0, tk hb h.c1⟩
theorem FarB.chg {w w' : World} {Z b : Nat} {fa fp : Int} (h : FarB w Z fa fp) (hb : Chg b w w') (hn : Z ≠ b) : FarB w' Z fa fp := ⟨hb.keeps hn h.c0, hb.keeps hn h.c1⟩
set_option maxRecDepth 100000 in
set_option maxHeartbeats 4000000 in
theorem fills_none (node pr fa fp d : Int) (s : Nat → Addr) (w : World) (S : Sents w s) (h : node < 0 ∨ 1 < node ∨ pr = 0 ∨ d < 0 ∨ 24 ≤ d) :
    Calls Tryd.prog 10 #[.int .i64 node, .int .i64 pr, .agg #[.int .i64 fa, .int .i64 fp], .int .i64 d] w fun e w' => e = .returned (.bool true) ∧ Below w.heap.size w w' := by
  have HS : Hid (Sents w s) := S
  clear S
  go_enter Tryd.func10, Tryd.ntmps10
  go_wp2_with fail
  refine (listed_any s _ (HS.out.below (aB _ _))).mono ?_
  rintro e w1 ⟨rfl, hb1⟩
  have B1 : Hid (Below w.heap.size w w1) := t2 (aB _ _) hb1
  clear hb1
  by_cases h1 : node < 0
  · go_wp2_with fail
    all_goals go_ret
    all_goals exact ⟨rfl, B1.out⟩
  by_cases h2 : 1 < node
  · go_wp2_with fail
    all_goals go_ret
    all_goals exact ⟨rfl, B1.out⟩
  by_cases h3 : (pr == 0) = true
  · go_wp2_with fail
    all_goals go_ret
    all_goals exact ⟨rfl, B1.out⟩
  have h3 : (pr == 0) = false := by simpa using h3
  have h3' : pr ≠ 0 := beq_eq_false_iff_ne.1 h3
  by_cases h4 : d < 0
  · go_wp2_with fail
    all_goals go_ret
    all_goals exact ⟨rfl, B1.out⟩
  have h5 : 24 ≤ d := by omega
  clear h h3'
  go_wp2_with fail
  all_goals go_ret
  all_goals exact ⟨rfl, B1.out⟩
end Go.Proofs.YteiaamboijimnaaDoor
