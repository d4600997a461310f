/-
  Slots in memory, without the table: arrays of 320 and 321 cells, ends held against each other, all but one block as it was, errors by number.
-/
import Derived.Test.YtifkbafdjkgnoaaDoorTbM
import Derived.Test.YtifkbafdjkgnoaaDoorGeP
import Derived.WalkKit
import Derived.Below
import Derived.BigQuiet
import Derived.RegionTactic
import Derived.Deep.RegionWith
import Derived.Laws.Rows
import Derived.Deep.WholeRow
namespace Go.Proofs.YtifkbafdjkgnoaaDoor
open Go.RowKit


/-- the values of a table's block. -/
def tabArr (low : Int) (T : Tb) : Array Value := ((List.range 321).map fun j => if j = 0 then .int .i64 low else .int .i64 ((T ((j - 1) / 10)).get ((j - 1) / 10) ((j - 1) % 10))).toArray
def slotsArr (T : Tb) : Array Value := ((List.range 320).map fun j => .int .i64 ((T (j / 10)).get (j / 10) (j % 10))).toArray
theorem tabArr_size (low : Int) (T : Tb) : (tabArr low T).size = 321 := by simp [tabArr]
theorem slotsArr_size (T : Tb) : (slotsArr T).size = 320 := by simp [slotsArr]
theorem tabArr_low (low : Int) (T : Tb) : (tabArr low T)[0]? = some (.int .i64 low) := by simp [tabArr]
theorem tabArr_at (low : Int) (T : Tb) (i k : Nat) (hi : i < 32) (hk : k < 10) : (tabArr low T)[1 + i * 10 + k]? = some (.int .i64 ((T i).get i k)) := by
  have h1 : 1 + i * 10 + k < 321 := by omega
  have e1 : (1 + i * 10 + k - 1) / 10 = i := by omega
  have e2 : (1 + i * 10 + k - 1) % 10 = k := by omega
  have e3 : 1 + i * 10 + k ≠ 0 := by omega
  simp only [tabArr, List.getElem?_toArray, List.getElem?_map, List.getElem?_range h1, Option.map_some, if_neg e3, e1, e2]
theorem slotsArr_at (T : Tb) (i k : Nat) (hi : i < 32) (hk : k < 10) : (slotsArr T)[i * 10 + k]? = some (.int .i64 ((T i).get i k)) := by
  have h1 : i * 10 + k < 320 := by omega
  have e1 : (i * 10 + k) / 10 = i := by omega
  have e2 : (i * 10 + k) % 10 = k := by omega
  simp only [slotsArr, List.getElem?_toArray, List.getElem?_map, List.getElem?_range h1, Option.map_some, e1, e2]
theorem tabArr_slots (low : Int) (T : Tb) (j : Nat) (hj : j < 320) : (tabArr low T)[1 + j]? = (slotsArr T)[j]? := by
  have h1 := tabArr_at low T (j / 10) (j % 10) (by omega) (by omega)
  have h2 := slotsArr_at T (j / 10) (j % 10) (by omega) (by omega)
  rw [show 1 + j / 10 * 10 + j % 10 = 1 + j from by omega] at h1
  rw [show j / 10 * 10 + j % 10 = j from by omega] at h2
  rw [h1, h2]
theorem tabArr_put (low : Int) (T : Tb) (i k : Nat) (x : Int) (hi : i < 32) (h1 : 1 ≤ k) (hk : k < 10) : (tabArr low T).setIfInBounds (1 + i * 10 + k) (.int .i64 x) = tabArr low (upd T i ((T i).put x k)) := by
  apply Array.ext_getElem?
  intro j
  rw [Array.getElem?_setIfInBounds, tabArr_size]
  by_cases hj : j < 321
  · by_cases h0 : j = 0
    · subst h0
      rw [if_neg (by omega), tabArr_low, tabArr_low]
    · have a1 := tabArr_at low T ((j - 1) / 10) ((j - 1) % 10) (by omega) (by omega)
      have a2 := tabArr_at low (upd T i ((T i).put x k)) ((j - 1) / 10) ((j - 1) % 10) (by omega) (by omega)
      rw [show 1 + (j - 1) / 10 * 10 + (j - 1) % 10 = j from by omega] at a1 a2
      rw [a1, a2]
      by_cases he : (j - 1) / 10 = i
      · rw [he, upd_same, Ce.get_put _ _ _ _ _ h1 hk (by omega)]
        by_cases hk2 : (j - 1) % 10 = k
        · rw [if_pos (by omega), if_pos hk2, if_pos (by omega)]
        · rw [if_neg (by omega), if_neg hk2]
      · rw [if_neg (by omega), upd_other _ _ he]
  · rw [if_neg (by omega), Array.getElem?_eq_none (by rw [tabArr_size]; omega), Array.getElem?_eq_none (by rw [tabArr_size]; omega)]
def endV (a p : Int) : Value := .agg #[.int .i64 a, .int .i64 p]
def flowV (c : Ce) : Value := .agg #[.int .i64 c.pr, .int .i64 c.ia, .int .i64 c.ip, .int .i64 c.fa, .int .i64 c.fp, .int .i64 c.po, .int .i64 c.st, .int .i64 c.un]
def cellV (i : Nat) (c : Ce) : Value := .agg #[.int .i64 i, .int .i64 c.ve, .int .i64 c.pr, .int .i64 c.ia, .int .i64 c.ip, .int .i64 c.fa, .int .i64 c.fp, .int .i64 c.po, .int .i64 c.st, .int .i64 c.un]
theorem arr_index (T : Tb) (i : Nat) (hi : i < 32) (w : World) : (Instr.index 60 (.agg (slotsArr T)) (.int .i64 i)).run Tryd.prog w = .ok (cellV i (T i)) w := by
  have hs : (sizeOf 59).run Tryd.prog w = .ok 10 w := by kernel_rfl
  have hagg : (isAgg 59).run Tryd.prog w = .ok true w := by
    unfold isAgg
    rw [Sem.run_bind, run_underlying Tryd.underlying59 w]
    rfl
  have hx : (slotsArr T).extract (i * 10) (i * 10 + 10) = #[.int .i64 i, .int .i64 (T i).ve, .int .i64 (T i).pr, .int .i64 (T i).ia, .int .i64 (T i).ip, .int .i64 (T i).fa, .int .i64 (T i).fp, .int .i64 (T i).po, .int .i64 (T i).st, .int .i64 (T i).un] := by
    apply Array.ext_getElem?
    intro k
    rw [Array.getElem?_extract, slotsArr_size]
    by_cases hk : k < 10
    · rw [if_pos (by omega), slotsArr_at T i k hi hk]
      have hl : k = 0 ∨ k = 1 ∨ k = 2 ∨ k = 3 ∨ k = 4 ∨ k = 5 ∨ k = 6 ∨ k = 7 ∨ k = 8 ∨ k = 9 := by omega
      rcases hl with rfl | rfl | rfl | rfl | rfl | rfl | rfl | rfl | rfl | rfl <;> rfl
    · rw [if_neg (by omega)]
      symm
      apply Array.getElem?_eq_none
      simpa using hk
  have hc : (0 : Int) ≤ (i : Int) ∧ (i : Int) < (32 : Nat) := by omega
  simp only [Instr.index, asIntOf, Sem.run_bind, Sem.run_pure, Result.andThen_ok, run_underlying Tryd.underlying60 w]
  rw [if_pos hc]
  simp only [Sem.run_bind, hs, Result.andThen_ok, part, hagg, if_true, Int.toNat_natCast, Sem.run_pure, hx, cellV]
theorem eql_end (a b c d : Int) (w : World) : (binOp .eql 34 (.agg #[.int .i64 a, .int .i64 b]) (.agg #[.int .i64 c, .int .i64 d])).run Tryd.prog w = .ok (.bool (a == c && b == d)) w := by
  have hp : ∀ (xs : Array Value) (o : Nat) (x : Value), xs[o]? = some x → (part 3 xs o).run Tryd.prog w = .ok x w := fun xs o x hx => by
    have hagg : (isAgg 3).run Tryd.prog w = .ok false w := by
      unfold isAgg
      rw [Sem.run_bind, run_underlying Tryd.underlying3 w]
      rfl
    simp only [part, Sem.run_bind, hagg, Result.andThen_ok, Bool.false_eq_true, if_false, hx, Sem.run_pure]
  have hq : ∀ (n : Nat) (x y : Int), (Op.equalIn (n + 1) 3 (.int .i64 x) (.int .i64 y)).run Tryd.prog w = .ok (x == y) w := fun n x y => run_equalIn_int w n _ _ _ _ _ Tryd.underlying3
  rw [run_eql_struct, show (10000 : Nat) = 9998 + 1 + 1 from rfl, run_equalIn_agg w (9998 + 1) 34 _ _ (by kernel_rfl) (by kernel_rfl)]
  have n1 : ("Addr" : String) ≠ "_" := by decide
  have n2 : ("Port" : String) ≠ "_" := by decide
  simp only [Program.fieldsOf, Tryd.underlying34, Op.eqFields, Sem.run_bind, Sem.run_ite, ne_eq, n1, n2, not_false_eq_true, if_true, hp #[.int .i64 a, .int .i64 b] 0 (.int .i64 a) rfl, hp #[.int .i64 a, .int .i64 b] 1 (.int .i64 b) rfl, hp #[.int .i64 c, .int .i64 d] 0 (.int .i64 c) rfl, hp #[.int .i64 c, .int .i64 d] 1 (.int .i64 d) rfl, Result.andThen_ok, hq]
  cases h1 : (a == c) <;> cases h2 : (b == d) <;> simp
theorem neq_end (a b c d : Int) (w : World) : (binOp .neq 34 (.agg #[.int .i64 a, .int .i64 b]) (.agg #[.int .i64 c, .int .i64 d])).run Tryd.prog w = .ok (.bool (!(a == c && b == d))) w := by
  have h := eql_end a b c d w
  rw [run_eql_struct] at h
  rw [run_neq_struct]
  cases hr : (Op.equalIn 10000 34 (.agg #[.int .i64 a, .int .i64 b]) (.agg #[.int .i64 c, .int .i64 d])).run Tryd.prog w with
  | ok x w1 =>
    rw [hr] at h
    simp only [Result.andThen_ok, Result.ok.injEq, Value.bool.injEq] at h ⊢
    exact ⟨by rw [h.1], h.2⟩
  | halt x w1 =>
    rw [hr] at h
    simp [Result.andThen] at h
theorem slots_one (T : Tb) : (slotsArr T).all (·.oneCell') = true := by
  rw [Array.all_eq_true_iff_forall_mem]
  intro v hv
  simp only [slotsArr, List.mem_toArray, List.mem_map] at hv
  obtain ⟨j, _, rfl⟩ := hv
  rfl
theorem slots_info (T : Tb) : (Tryd.prog.info? 60).map (·.size) = some (slotsArr T).size := by
  rw [slotsArr_size]
  kernel_rfl
theorem zero_slots : ∀ w, (zeroValue 60).run Tryd.prog w = .ok (.agg (Array.replicate 320 (.int .i64 0))) w := (zero_of_info (n := 320) (by kernel_rfl)).1
/-- the cells that were handed out. -/
def CellsB (w : World) (Z : Nat) (T : Tb) : Prop := w.heap[Z]? = some (.cells (slotsArr T) 60 (0, 0))
theorem CellsB.at' {w : World} {Z : Nat} {T : Tb} (h : CellsB w Z T) {i k : Nat} (hi : i < 32) (hk : k < 10) : w.cell? ⟨Z, i * 10 + k, none⟩ = some (.int .i64 ((T i).get i k)) := by
  rw [cell_of_row w Z _ _ _ _ h, slotsArr_at T i k hi hk]
theorem CellsB.lt {w : World} {Z : Nat} {T : Tb} (h : CellsB w Z T) : Z < w.heap.size := by
  rcases Nat.lt_or_ge Z w.heap.size with h1 | h1
  · exact h1
  · rw [CellsB, Array.getElem?_eq_none h1] at h; cases h
theorem CellsB.below {w w' : World} {Z : Nat} {T : Tb} (h : CellsB w Z T) (hb : Below w.heap.size w w') : CellsB w' Z T := by
  unfold CellsB; rw [hb.block Z h.lt]; exact h
/-- a flow in a block of its own. -/
structure FlB (w : World) (Z : Nat) (c : Ce) : Prop where
  c0 : w.cell? ⟨Z, 0, none⟩ = some (.int .i64 c.pr)
  c1 : w.cell? ⟨Z, 1, none⟩ = some (.int .i64 c.ia)
  c2 : w.cell? ⟨Z, 2, none⟩ = some (.int .i64 c.ip)
  c3 : w.cell? ⟨Z, 3, none⟩ = some (.int .i64 c.fa)
  c4 : w.cell? ⟨Z, 4, none⟩ = some (.int .i64 c.fp)
  c5 : w.cell? ⟨Z, 5, none⟩ = some (.int .i64 c.po)
  c6 : w.cell? ⟨Z, 6, none⟩ = some (.int .i64 c.st)
  c7 : w.cell? ⟨Z, 7, none⟩ = some (.int .i64 c.un)
theorem FlB.below {w w' : World} {Z : Nat} {c : Ce} (h : FlB w Z c) (hb : Below w.heap.size w w') : FlB w' Z c := ⟨tk hb h.c0, tk hb h.c1, tk hb h.c2, tk hb h.c3, tk hb h.c4, tk hb h.c5, tk hb h.c6, tk hb h.c7⟩
theorem flB_new (w : World) (c : Ce) : FlB (w.alloc (.cells #[.int .i64 c.pr, .int .i64 c.ia, .int .i64 c.ip, .int .i64 c.fa, .int .i64 c.fp, .int .i64 c.po, .int .i64 c.st, .int .i64 c.un] 36)) w.heap.size c := ⟨(nw _ _ _ _).trans rfl, (nw _ _ _ _).trans rfl, (nw _ _ _ _).trans rfl, (nw _ _ _ _).trans rfl, (nw _ _ _ _).trans rfl, (nw _ _ _ _).trans rfl, (nw _ _ _ _).trans rfl, (nw _ _ _ _).trans rfl⟩
end Go.Proofs.YtifkbafdjkgnoaaDoor
