/-
  Numbers and cells held against each other: SameInts, SameCells, found; '!=' between cells that are the same.
-/
import Derived.Test.YteiaamboijimnabDoorTrF
namespace Go.Proofs.YteiaamboijimnabDoor
open Go.RowKit

theorem partI {w : World} (xs : Array Value) (o : Nat) (x : Value) (hx : xs[o]? = some x) : (part 3 xs o).run Tryd.prog w = .ok x w := by
  have hagg : (isAgg 3).run Tryd.prog w = .ok false w := by
    unfold isAgg
    rw [Sem.run_bind, run_underlying Tryd.underlying3 w]
    rfl
  simp only [part, Sem.run_bind, hagg, Result.andThen_ok, Bool.false_eq_true, if_false, hx, Sem.run_pure]
theorem partE {w : World} (xs ys : Array Value) (o : Nat) (hx : xs.extract o (o + 2) = ys) : (part 33 xs o).run Tryd.prog w = .ok (.agg ys) w := by
  have hagg : (isAgg 33).run Tryd.prog w = .ok true w := by
    unfold isAgg
    rw [Sem.run_bind, run_underlying Tryd.underlying33 w]
    rfl
  have hs : (sizeOf 33).run Tryd.prog w = .ok 2 w := by kernel_rfl
  simp only [part, Sem.run_bind, hagg, Result.andThen_ok, if_true, hs, hx, Sem.run_pure]
theorem partF {w : World} (xs ys : Array Value) (o : Nat) (hx : xs.extract o (o + 8) = ys) : (part 35 xs o).run Tryd.prog w = .ok (.agg ys) w := by
  have hagg : (isAgg 35).run Tryd.prog w = .ok true w := by
    unfold isAgg
    rw [Sem.run_bind, run_underlying Tryd.underlying35 w]
    rfl
  have hs : (sizeOf 35).run Tryd.prog w = .ok 8 w := by kernel_rfl
  simp only [part, Sem.run_bind, hagg, Result.andThen_ok, if_true, hs, hx, Sem.run_pure]
theorem eqI (d : Nat) (x : Int) (w : World) : (Op.equalIn (d + 1) 3 (.int .i64 x) (.int .i64 x)).run Tryd.prog w = .ok true w := by
  rw [run_equalIn_int w d _ _ _ _ _ Tryd.underlying3]; simp
theorem eqE (d : Nat) (a b : Int) (w : World) : (Op.equalIn (d + 1 + 1) 33 (.agg #[.int .i64 a, .int .i64 b]) (.agg #[.int .i64 a, .int .i64 b])).run Tryd.prog w = .ok true w := by
  rw [run_equalIn_agg w (d + 1) 33 _ _ (by kernel_rfl) (by kernel_rfl)]
  have n1 : ("Addr" : String) ≠ "_" := by decide
  have n2 : ("Port" : String) ≠ "_" := by decide
  simp only [Program.fieldsOf, Tryd.underlying33, Op.eqFields, Sem.run_bind, Sem.run_ite, ne_eq, n1, n2, not_false_eq_true, if_true, partI #[.int .i64 a, .int .i64 b] 0 (.int .i64 a) rfl, partI #[.int .i64 a, .int .i64 b] 1 (.int .i64 b) rfl, Result.andThen_ok, eqI, Bool.not_true, Bool.false_eq_true, if_false, Sem.run_pure]
theorem eqFl (d : Nat) (c : Ce) (w : World) : (Op.equalIn (d + 1 + 1 + 1) 35 (flowV c) (flowV c)).run Tryd.prog w = .ok true w := by
  unfold flowV
  rw [run_equalIn_agg w (d + 1 + 1) 35 _ _ (by kernel_rfl) (by kernel_rfl)]
  have p0 : ∀ w : World, (part 3 #[.int .i64 c.pr, .int .i64 c.ia, .int .i64 c.ip, .int .i64 c.fa, .int .i64 c.fp, .int .i64 c.po, .int .i64 c.st, .int .i64 c.un] 0).run Tryd.prog w = .ok (.int .i64 c.pr) w := fun w => partI _ _ _ rfl
  have p5 : ∀ w : World, (part 3 #[.int .i64 c.pr, .int .i64 c.ia, .int .i64 c.ip, .int .i64 c.fa, .int .i64 c.fp, .int .i64 c.po, .int .i64 c.st, .int .i64 c.un] 5).run Tryd.prog w = .ok (.int .i64 c.po) w := fun w => partI _ _ _ rfl
  have p6 : ∀ w : World, (part 3 #[.int .i64 c.pr, .int .i64 c.ia, .int .i64 c.ip, .int .i64 c.fa, .int .i64 c.fp, .int .i64 c.po, .int .i64 c.st, .int .i64 c.un] 6).run Tryd.prog w = .ok (.int .i64 c.st) w := fun w => partI _ _ _ rfl
  have p7 : ∀ w : World, (part 3 #[.int .i64 c.pr, .int .i64 c.ia, .int .i64 c.ip, .int .i64 c.fa, .int .i64 c.fp, .int .i64 c.po, .int .i64 c.st, .int .i64 c.un] 7).run Tryd.prog w = .ok (.int .i64 c.un) w := fun w => partI _ _ _ rfl
  have p1 : ∀ w : World, (part 33 #[.int .i64 c.pr, .int .i64 c.ia, .int .i64 c.ip, .int .i64 c.fa, .int .i64 c.fp, .int .i64 c.po, .int .i64 c.st, .int .i64 c.un] 1).run Tryd.prog w = .ok (.agg #[.int .i64 c.ia, .int .i64 c.ip]) w := fun w => partE _ _ _ rfl
  have p3 : ∀ w : World, (part 33 #[.int .i64 c.pr, .int .i64 c.ia, .int .i64 c.ip, .int .i64 c.fa, .int .i64 c.fp, .int .i64 c.po, .int .i64 c.st, .int .i64 c.un] 3).run Tryd.prog w = .ok (.agg #[.int .i64 c.fa, .int .i64 c.fp]) w := fun w => partE _ _ _ rfl
  have n1 : ("Proto" : String) ≠ "_" := by decide
  have n2 : ("Inner" : String) ≠ "_" := by decide
  have n3 : ("Far" : String) ≠ "_" := by decide
  have n4 : ("Port" : String) ≠ "_" := by decide
  have n5 : ("State" : String) ≠ "_" := by decide
  have n6 : ("Until" : String) ≠ "_" := by decide
  simp only [Program.fieldsOf, Tryd.underlying35, Op.eqFields, Sem.run_bind, Sem.run_ite, ne_eq, n1, n2, n3, n4, n5, n6, not_false_eq_true, if_true, p0, p1, p3, p5, p6, p7, Result.andThen_ok, eqI, eqE, Bool.not_true, Bool.false_eq_true, if_false, Sem.run_pure]
theorem eqCl (d : Nat) (i : Int) (c : Ce) (w : World) : (Op.equalIn (d + 1 + 1 + 1 + 1) 58 (.agg #[.int .i64 i, .int .i64 c.ve, .int .i64 c.pr, .int .i64 c.ia, .int .i64 c.ip, .int .i64 c.fa, .int .i64 c.fp, .int .i64 c.po, .int .i64 c.st, .int .i64 c.un]) (.agg #[.int .i64 i, .int .i64 c.ve, .int .i64 c.pr, .int .i64 c.ia, .int .i64 c.ip, .int .i64 c.fa, .int .i64 c.fp, .int .i64 c.po, .int .i64 c.st, .int .i64 c.un])).run Tryd.prog w = .ok true w := by
  rw [run_equalIn_agg w (d + 1 + 1 + 1) 58 _ _ (by kernel_rfl) (by kernel_rfl)]
  have p0 : ∀ w : World, (part 3 #[.int .i64 i, .int .i64 c.ve, .int .i64 c.pr, .int .i64 c.ia, .int .i64 c.ip, .int .i64 c.fa, .int .i64 c.fp, .int .i64 c.po, .int .i64 c.st, .int .i64 c.un] 0).run Tryd.prog w = .ok (.int .i64 i) w := fun w => partI _ _ _ rfl
  have p1 : ∀ w : World, (part 3 #[.int .i64 i, .int .i64 c.ve, .int .i64 c.pr, .int .i64 c.ia, .int .i64 c.ip, .int .i64 c.fa, .int .i64 c.fp, .int .i64 c.po, .int .i64 c.st, .int .i64 c.un] 1).run Tryd.prog w = .ok (.int .i64 c.ve) w := fun w => partI _ _ _ rfl
  have p2 : ∀ w : World, (part 35 #[.int .i64 i, .int .i64 c.ve, .int .i64 c.pr, .int .i64 c.ia, .int .i64 c.ip, .int .i64 c.fa, .int .i64 c.fp, .int .i64 c.po, .int .i64 c.st, .int .i64 c.un] 2).run Tryd.prog w = .ok (flowV c) w := fun w => partF _ _ _ rfl
  have n1 : ("Slot" : String) ≠ "_" := by decide
  have n2 : ("Version" : String) ≠ "_" := by decide
  have n3 : ("F" : String) ≠ "_" := by decide
  simp only [Program.fieldsOf, Tryd.underlying58, Op.eqFields, Sem.run_bind, Sem.run_ite, ne_eq, n1, n2, n3, not_false_eq_true, if_true, p0, p1, p2, Result.andThen_ok, eqI, eqFl, Bool.not_true, Bool.false_eq_true, if_false, Sem.run_pure]
theorem neq_cell (i : Int) (c : Ce) (w : World) : (binOp .neq 58 (.agg #[.int .i64 i, .int .i64 c.ve, .int .i64 c.pr, .int .i64 c.ia, .int .i64 c.ip, .int .i64 c.fa, .int .i64 c.fp, .int .i64 c.po, .int .i64 c.st, .int .i64 c.un]) (.agg #[.int .i64 i, .int .i64 c.ve, .int .i64 c.pr, .int .i64 c.ia, .int .i64 c.ip, .int .i64 c.fa, .int .i64 c.fp, .int .i64 c.po, .int .i64 c.st, .int .i64 c.un])).run Tryd.prog w = .ok (.bool false) w := by
  rw [run_neq_struct, show (10000 : Nat) = 9996 + 1 + 1 + 1 + 1 from rfl, eqCl]
  rfl
theorem found_any (o : Option Nat) (w : World) : Calls Tryd.prog 21 #[.int .i64 ((o.getD 0 : Nat) : Int), .bool o.isSome] w fun e w' => e = .returned (.int .i64 (foundI o)) ∧ w' = w := by
  cases o with
  | none =>
    go_enter Tryd.func21, Tryd.ntmps21
    go_wp2_with fail
    go_ret
    exact ⟨rfl, rfl⟩
  | some k =>
    go_enter Tryd.func21, Tryd.ntmps21
    go_wp2_with fail
    go_ret
    exact ⟨rfl, rfl⟩
set_option maxRecDepth 100000 in
set_option maxHeartbeats 2000000 in
theorem sameI_any (va vb : Value) (xs : List Int) (w : World) (A : IntS w va xs) (B : IntS w vb xs) (hx : xs.length ≤ 1000) :
    Calls Tryd.prog 16 #[va, vb] w fun e w' => e = .returned (.bool true) ∧ Below w.heap.size w w' := by
  obtain ⟨pa, ca, rfl, ha⟩ := A
  obtain ⟨pb, cb, rfl, hb⟩ := B
  have HA : Hid (∀ (j : Nat) x, xs[j]? = some x → ∃ g, pa = some ⟨g, 0, none⟩ ∧ w.cell? ⟨g, j, none⟩ = some (.int .i64 x)) := ha
  have HB : Hid (∀ (j : Nat) x, xs[j]? = some x → ∃ g, pb = some ⟨g, 0, none⟩ ∧ w.cell? ⟨g, j, none⟩ = some (.int .i64 x)) := hb
  clear ha hb
  go_enter Tryd.func16, Tryd.ntmps16
  go_wp2_with fail
  go_loopw [5] (fun t wr => ∃ j : Nat, j ≤ xs.length ∧ t = .int .i64 j ∧ Below w.heap.size w wr) (fun t _ => xs.length - (intOf t).toNat)
  case atStart => exact ⟨0, by omega, rfl, Below.refl _ _⟩
  case round =>
    obtain ⟨j, hj, rfl, hbr⟩ := hrel
    have B1 : Hid (Below w.heap.size w wr) := hbr
    clear hbr
    by_cases hlt : j < xs.length
    · have hr : xs[j]? = some xs[j] := List.getElem?_eq_getElem hlt
      generalize xs[j] = x at hr
      obtain ⟨ga, rfl, c0⟩ := HA.out j x hr
      obtain ⟨gb, rfl, c1⟩ := HB.out j x hr
      have d0 := tk B1.out c0
      have d1 := tk B1.out c1
      have i0 : (0 : Int) ≤ (j : Int) := by omega
      have i1 : (j : Int) < (xs.length : Int) := by omega
      have B2 : Hid (Below w.heap.size w wr.drew) := B1.out.drew
      clear hr c0 c1 HA HB
      go_wp2_with fail
      go_region
      all_goals
        go_wp2_with fail
        go_roundw
        case rel => exact ⟨j + 1, by omega, by go_num, B2.out⟩
        case measure => simp [intOf]; omega
    · have hlt' : ¬ (j : Int) < (xs.length : Int) := by omega
      go_wp2_with fail
      go_ret
      exact ⟨rfl, B1.out⟩
end Go.Proofs.YteiaamboijimnabDoor
