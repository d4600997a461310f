/-
  Package cell's NewBytes, Open, Cut, On, Power, isEpoch, Put.
-/
import Derived.Test.YthmnmdikpccenacDoorCeN
import Derived.Test.YthmnmdikpccenacDoorGeD
namespace Go.Proofs.YthmnmdikpccenacDoor
open Go.RowKit

/-- five sentinels. -/
structure Se5 (w : World) (s : Nat → Addr) : Prop where
  c1 : w.cell? ⟨0, 0, none⟩ = some (.iface 161 (.pointer (some (s 1))))
  c2 : w.cell? ⟨1, 0, none⟩ = some (.iface 161 (.pointer (some (s 2))))
  c5 : w.cell? ⟨4, 0, none⟩ = some (.iface 161 (.pointer (some (s 5))))
  c6 : w.cell? ⟨2, 0, none⟩ = some (.iface 161 (.pointer (some (s 6))))
  c9 : w.cell? ⟨3, 0, none⟩ = some (.iface 161 (.pointer (some (s 9))))
theorem Se5.below {w w' : World} {s : Nat → Addr} (S : Se5 w s) (hb : Below w.heap.size w w') : Se5 w' s := ⟨tk hb S.c1, tk hb S.c2, tk hb S.c5, tk hb S.c6, tk hb S.c9⟩
def zero64 : List UInt8 := List.replicate 64 0
def new0 : By := ⟨zero64, true, false, 0⟩
theorem wpList_build_to {P : Program} {ops : Array Oper} {rest : List Oper} {o : Oper} {a : Act} {w : World} {Q : Exit → Act → World → Prop} (hg : o.guard = none) (t : TypeId) (parts : Array (Nat × Operand)) (ho : o.op = .build t parts)
    (cs : Array Value) (hf : P.built t (parts.map fun (i, x) => (i, a.eval x)).toList = some cs) (h : wpList P ops Q rest (a.put o.dst (.agg cs)) w) : wpList P ops Q (o :: rest) a w :=
  wpList_build hg t parts ho (by rw [hf]; rfl) (by rw [hf]; exact h)
set_option maxRecDepth 100000 in
theorem built_bytes : Tryd.prog.built 62 [(1, .bool true)] = some (byArr new0) := by kernel_rfl
set_option maxRecDepth 100000 in
set_option maxHeartbeats 2000000 in
theorem newBytes_any (w : World) : Calls Tryd.prog 7 #[] w fun e w' => (e = .returned (.pointer (some ⟨w.heap.size, 0, none⟩)) ∧ Byt w' w.heap.size new0) ∧ Below w.heap.size w w' := by
  obtain ⟨cs, hcs⟩ : ∃ cs, cs = byArr new0 := ⟨_, rfl⟩
  have HC : Hid (cs = byArr new0) := hcs
  have hbu : Tryd.prog.built 62 [(1, .bool true)] = some cs := by rw [hcs]; exact built_bytes
  have hsz : cs.size = 67 := by rw [hcs]; rfl
  clear hcs
  go_enter Tryd.func7, Tryd.ntmps7
  go_wp2_with (first | refine wpList_build_to rfl 62 _ rfl cs (by simpa [Act.eval] using hbu) ?_)
  go_ret
  refine ⟨⟨rfl, ?_⟩, aB _ _⟩
  rw [HC.out]
  exact ⟨heap_alloc_new _ _, rfl⟩
theorem open_ok (b : Nat) (s : By) (w : World) (S : Byt w b s) (h : s.on = true) :
    Calls Tryd.prog 19 #[.pointer (some ⟨b, 0, none⟩)] w fun e w' => (e = .returned (.tuple #[.pointer (some ⟨w.heap.size, 0, none⟩), .nilIface]) ∧ Cel w' w.heap.size b false) ∧ Below w.heap.size w w' := by
  have h0 := S.on
  rw [h] at h0
  clear S h
  go_enter Tryd.func19, Tryd.ntmps19
  go_wp2_with fail
  go_ret2
  exact ⟨⟨rfl, (nw _ _ _ _).trans rfl, (nw _ _ _ _).trans rfl, frozen_of_row _ _ _ _ _ (heap_alloc_new _ _)⟩, aB _ _⟩
theorem open_off (b : Nat) (s : By) (se : Nat → Addr) (w : World) (S : Byt w b s) (E : Se5 w se) (h : s.on = false) :
    Calls Tryd.prog 19 #[.pointer (some ⟨b, 0, none⟩)] w fun e w' => e = .returned (.tuple #[.pointer none, terr se 7]) ∧ Below w.heap.size w w' := by
  have h0 := S.on
  rw [h] at h0
  have c6 := E.c6
  clear S h E
  go_enter Tryd.func19, Tryd.ntmps19
  go_wp2_with fail
  go_region
  go_wp2_with fail
  go_ret2
  exact ⟨rfl, (Below.refl _ _).drew⟩
theorem open_nil (se : Nat → Addr) (w : World) (E : Se5 w se) :
    Calls Tryd.prog 19 #[.pointer none] w fun e w' => e = .returned (.tuple #[.pointer none, terr se 3]) ∧ Below w.heap.size w w' := by
  have c2 := E.c2
  clear E
  go_enter Tryd.func19, Tryd.ntmps19
  go_wp2_with fail
  go_region
  go_wp2_with fail
  go_ret2
  exact ⟨rfl, (Below.refl _ _).drew⟩
/-- a number from 0 to MaxEpoch. -/
def isEp (n : Int) : Bool := decide (0 ≤ n) && decide (n ≤ 1073741824)
theorem isEpoch_any (n : Int) (w : World) : Calls Tryd.prog 37 #[.int .i64 n] w fun e w' => e = .returned (.bool (isEp n)) ∧ w' = w := by
  by_cases h : 0 ≤ n
  · have HE : Hid (isEp n = decide (n ≤ 1073741824)) := by unfold isEp; rw [decide_eq_true h]; exact rfl
    go_enter Tryd.func37, Tryd.ntmps37
    go_wp2_with fail
    go_ret
    exact ⟨by rw [HE.out]; rfl, rfl⟩
  · have HE : Hid (isEp n = false) := by unfold isEp; rw [decide_eq_false h]; exact rfl
    go_enter Tryd.func37, Tryd.ntmps37
    go_wp2_with fail
    go_ret
    exact ⟨by rw [HE.out]; rfl, rfl⟩
end Go.Proofs.YthmnmdikpccenacDoor
