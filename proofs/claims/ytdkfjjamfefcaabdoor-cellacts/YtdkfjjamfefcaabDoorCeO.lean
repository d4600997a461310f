/-
  Package cell's NewBytes, Open, Cut, On, Power, isEpoch, Put.
-/
import Derived.Test.YtdkfjjamfefcaabDoorCeN
import Derived.Test.YtdkfjjamfefcaabDoorGeD
import Derived.Test.YtdkfjjamfefcaabDoorCode
namespace Go.Proofs.YtdkfjjamfefcaabDoor
open Go.RowKit

def zero64 : List UInt8 := List.replicate 64 0
def new0 : By := ⟨zero64, true, false, 0⟩
theorem wpList_build_to {P : Program} {ops : Array Oper} {rest : List Oper} {o : Oper} {a : Act} {w : World} {Q : Exit → Act → World → Prop} (hg : o.guard = none) (t : TypeId) (parts : Array (Nat × Operand)) (ho : o.op = .build t parts)
    (cs : Array Value) (hf : P.built t (parts.map fun (i, x) => (i, a.eval x)).toList = some cs) (h : wpList P ops Q rest (a.put o.dst (.agg cs)) w) : wpList P ops Q (o :: rest) a w :=
  wpList_build hg t parts ho (by rw [hf]; rfl) (by rw [hf]; exact h)
set_option maxRecDepth 100000 in
theorem built_bytes : Tryd.prog.built 134 [(1, .bool true)] = some (byArr new0) := by kernel_rfl
set_option maxRecDepth 100000 in
set_option maxHeartbeats 2000000 in
theorem newBytes_any (w : World) : Calls Tryd.prog 53 #[] w fun e w' => (e = .returned (.pointer (some ⟨w.heap.size, 0, none⟩)) ∧ Byt w' w.heap.size new0) ∧ Below w.heap.size w w' := by
  obtain ⟨cs, hcs⟩ : ∃ cs, cs = byArr new0 := ⟨_, rfl⟩
  have HC : Hid (cs = byArr new0) := hcs
  have hbu : Tryd.prog.built 134 [(1, .bool true)] = some cs := by rw [hcs]; exact built_bytes
  have hsz : cs.size = 67 := by rw [hcs]; rfl
  clear hcs
  go_enter Tryd.func53, Tryd.ntmps53
  go_wp2_with (first | refine wpList_build_to rfl 134 _ rfl cs (by simpa [Act.eval] using hbu) ?_)
  go_ret
  refine ⟨⟨rfl, ?_⟩, aB _ _⟩
  rw [HC.out]
  exact ⟨heap_alloc_new _ _, rfl⟩
theorem open_ok (b : Nat) (s : By) (w : World) (S : Byt w b s) (h : s.on = true) :
    Calls Tryd.prog 54 #[.pointer (some ⟨b, 0, none⟩)] w fun e w' => (e = .returned (.tuple #[.pointer (some ⟨w.heap.size, 0, none⟩), .nilIface]) ∧ Cel w' w.heap.size b false) ∧ Below w.heap.size w w' := by
  have h0 := S.on
  rw [h] at h0
  clear S h
  go_enter Tryd.func54, Tryd.ntmps54
  go_wp2_with fail
  go_ret2
  exact ⟨⟨rfl, (nw _ _ _ _).trans rfl, (nw _ _ _ _).trans rfl, frozen_of_row _ _ _ _ _ (heap_alloc_new _ _)⟩, aB _ _⟩
theorem open_off (b : Nat) (s : By) (se : Nat → Addr) (w : World) (S : Byt w b s) (E : Sents w se) (h : s.on = false) :
    Calls Tryd.prog 54 #[.pointer (some ⟨b, 0, none⟩)] w fun e w' => e = .returned (.tuple #[.pointer none, terr se 7]) ∧ Below w.heap.size w w' := by
  have h0 := S.on
  rw [h] at h0
  have c6 := E.c6
  clear S h E
  go_enter Tryd.func54, Tryd.ntmps54
  go_wp2_with fail
  go_region
  go_wp2_with fail
  go_ret2
  exact ⟨rfl, (Below.refl _ _).drew⟩
theorem open_nil (se : Nat → Addr) (w : World) (E : Sents w se) :
    Calls Tryd.prog 54 #[.pointer none] w fun e w' => e = .returned (.tuple #[.pointer none, terr se 3]) ∧ Below w.heap.size w w' := by
  have c2 := E.c2
  clear E
  go_enter Tryd.func54, Tryd.ntmps54
  go_wp2_with fail
  go_region
  go_wp2_with fail
  go_ret2
  exact ⟨rfl, (Below.refl _ _).drew⟩
/-- Cut's error, and what it does. -/
def cutE (s : By) (n : Int) : Nat := if n < 0 then 2 else if s.on then 0 else 7
def By.setCut (s : By) (n : Int) : By := if cutE s n = 0 then ⟨s.B, s.on, true, n.toNat⟩ else s
set_option maxRecDepth 100000 in
set_option maxHeartbeats 2000000 in
theorem cut_any (b : Nat) (s : By) (n : Int) (se : Nat → Addr) (w : World) (S : Byt w b s) (E : Sents w se) :
    Calls Tryd.prog 55 #[.pointer (some ⟨b, 0, none⟩), .int .i64 n] w fun e w' => e = .returned (terr se (cutE s n)) ∧ Byt w' b (s.setCut n) ∧ Chg b w w' := by
  have HS : Hid (Byt w b s) := S
  have h0 := S.on
  have h1 := S.cut
  have h2 := S.left
  have f1 := S.fr 65
  have f2 := S.fr 66
  have c1 := E.c1
  have c6 := E.c6
  clear S E
  by_cases hn : n < 0
  · have HE : Hid (cutE s n = 2) := by unfold cutE; rw [if_pos hn]; exact rfl
    have HU : Hid (s.setCut n = s) := by unfold By.setCut; rw [HE.out]; exact rfl
    go_enter Tryd.func55, Tryd.ntmps55
    go_wp2_with fail
    go_ret
    exact ⟨by rw [HE.out]; rfl, by rw [HU.out]; exact HS.out, Chg.refl _ _⟩
  · cases ho : s.on
    · have HE : Hid (cutE s n = 7) := by unfold cutE; rw [if_neg hn, ho]; exact rfl
      have HU : Hid (s.setCut n = s) := by unfold By.setCut; rw [HE.out]; exact rfl
      rw [ho] at h0
      go_enter Tryd.func55, Tryd.ntmps55
      go_wp2_with fail
      go_ret
      exact ⟨by rw [HE.out]; rfl, by rw [HU.out]; exact HS.out, Chg.refl _ _⟩
    · have HE : Hid (cutE s n = 0) := by unfold cutE; rw [if_neg hn, ho]; exact rfl
      have HU : Hid (s.setCut n = ⟨s.B, s.on, true, n.toNat⟩) := by unfold By.setCut; rw [HE.out]; exact rfl
      have HN : Hid (n = (n.toNat : Int)) := (show n = (n.toNat : Int) by omega)
      rw [ho] at h0
      go_enter Tryd.func55, Tryd.ntmps55
      go_wp2_with fail
      go_ret
      refine ⟨by rw [HE.out]; rfl, ?_, (Chg.set _ _ _ _).trans (Chg.set _ _ _ _)⟩
      rw [HU.out]
      have := (HS.out.setCut true).setLeft n.toNat
      rw [← HN.out] at this
      exact this
def By.turnOn (s : By) : By := ⟨s.B, true, false, s.left⟩
theorem on_any (b : Nat) (s : By) (w : World) (S : Byt w b s) : Calls Tryd.prog 58 #[.pointer (some ⟨b, 0, none⟩)] w fun e w' => e = .returned (.tuple #[]) ∧ Byt w' b s.turnOn ∧ Chg b w w' := by
  have HS : Hid (Byt w b s) := S
  have h0 := S.on
  have h1 := S.cut
  have f0 := S.fr 64
  have f1 := S.fr 65
  clear S
  go_enter Tryd.func58, Tryd.ntmps58
  go_wp2_with fail
  go_end0
  exact ⟨rfl, (HS.out.setOn true).setCut false, (Chg.set _ _ _ _).trans (Chg.set _ _ _ _)⟩
theorem power_any (b : Nat) (s : By) (w : World) (S : Byt w b s) : Calls Tryd.prog 57 #[.pointer (some ⟨b, 0, none⟩)] w fun e w' => e = .returned (.bool s.on) ∧ w' = w := by
  have h0 := S.on
  clear S
  go_enter Tryd.func57, Tryd.ntmps57
  go_wp2_with fail
  go_ret
  exact ⟨rfl, rfl⟩
/-- a number from 0 to MaxEpoch. -/
def isEp (n : Int) : Bool := decide (0 ≤ n) && decide (n ≤ 1073741824)
theorem isEpoch_any (n : Int) (w : World) : Calls Tryd.prog 90 #[.int .i64 n] w fun e w' => e = .returned (.bool (isEp n)) ∧ w' = w := by
  by_cases h : 0 ≤ n
  · have HE : Hid (isEp n = decide (n ≤ 1073741824)) := by unfold isEp; rw [decide_eq_true h]; exact rfl
    go_enter Tryd.func90, Tryd.ntmps90
    go_wp2_with fail
    go_ret
    exact ⟨by rw [HE.out]; rfl, rfl⟩
  · have HE : Hid (isEp n = false) := by unfold isEp; rw [decide_eq_false h]; exact rfl
    go_enter Tryd.func90, Tryd.ntmps90
    go_wp2_with fail
    go_ret
    exact ⟨by rw [HE.out]; rfl, rfl⟩
end Go.Proofs.YtdkfjjamfefcaabDoor
