/-
  The law TableActs: too many acts; a node that is none.
-/
import Derived.Test.YteiaamboijimnabDoorTxM
namespace Go.Proofs.YteiaamboijimnabDoor
open Go.RowKit

set_option maxRecDepth 100000 in
set_option maxHeartbeats 4000000 in
theorem acts_long (node : Int) (v : Value) (l : List Ac) (s : Nat → Addr) (w : World) (S : Sents w s) (I : ActsIn w v l) (h : 100 < l.length) :
    Calls Tryd.prog 3 #[.int .i64 node, v] w fun e w' => e = .returned (.bool true) ∧ Below w.heap.size w w' := by
  have HS : Hid (Sents w s) := S
  obtain ⟨p, cap, rfl, _⟩ := I
  have h1 : (100 : Int) < (l.length : Int) := by omega
  clear S h
  go_enter Tryd.func3, Tryd.ntmps3
  go_wp2_with fail
  refine (listed_any s _ HS.out.se4).mono ?_
  rintro e w1 ⟨rfl, hb1⟩
  have B1 : Hid (Below w.heap.size w w1) := hb1
  clear hb1
  go_wp2_with fail
  all_goals go_ret
  all_goals exact ⟨rfl, B1.out⟩
set_option maxRecDepth 100000 in
set_option maxHeartbeats 4000000 in
theorem acts_bad (node : Int) (v : Value) (l : List Ac) (s : Nat → Addr) (w : World) (S : Sents w s) (I : ActsIn w v l) (h : l.length ≤ 100) (hn : node < 0 ∨ 1 < node) :
    Calls Tryd.prog 3 #[.int .i64 node, v] w fun e w' => e = .returned (.bool true) ∧ Below w.heap.size w w' := by
  have HS : Hid (Sents w s) := S
  obtain ⟨p, cap, rfl, _⟩ := I
  have h1 : ¬ (100 : Int) < (l.length : Int) := by omega
  have n0 : node ≠ 0 := by omega
  have n1 : node ≠ 1 := by omega
  have HN0 : Hid (node ≠ 0) := n0
  have HN1 : Hid (node ≠ 1) := n1
  clear S h n0 n1
  go_enter Tryd.func3, Tryd.ntmps3
  go_wp2_with fail
  refine (listed_any s _ HS.out.se4).mono ?_
  rintro e w1 ⟨rfl, hb1⟩
  have B1 : Hid (Below w.heap.size w w1) := hb1
  clear hb1
  go_wp2_with fail
  refine (new_bad node s w1 (HS.out.below B1.out).se4 HN0.out HN1.out).mono ?_
  rintro e w2 ⟨rfl, hb2⟩
  have B2 : Hid (Below w.heap.size w w2) := t2 B1.out hb2
  clear hb2 B1
  obtain ⟨v2, h2⟩ : ∃ v, terr s 2 = v := ⟨_, rfl⟩
  have H2 : Hid (terr s 2 = v2) := h2
  simp only [h2]
  clear h2
  have hcod := coded_terr 2 (by omega) s w2 (HS.out.below B2.out)
  rw [H2.out] at hcod
  have HC : Hid (Calls Tryd.prog 6 #[v2, .int .i64 2] w2 fun e w' => e = .returned (.bool true) ∧ Below w2.heap.size w2 w') := hcod
  clear hcod
  by_cases hneg : node < 0
  · clear hn
    go_wp2_with fail
    refine HC.out.mono ?_
    rintro e w3 ⟨rfl, hb3⟩
    have B3 : Hid (Below w.heap.size w w3) := t2 B2.out hb3
    clear hb3
    go_wp2_with fail
    go_ret
    exact ⟨rfl, B3.out⟩
  · have hpos : 1 < node := by omega
    clear hn
    go_wp2_with fail
    refine HC.out.mono ?_
    rintro e w3 ⟨rfl, hb3⟩
    have B3 : Hid (Below w.heap.size w w3) := t2 B2.out hb3
    clear hb3
    go_wp2_with fail
    go_ret
    exact ⟨rfl, B3.out⟩
end Go.Proofs.YteiaamboijimnabDoor
