/-
  The document's cells in a list; Empty; cells held against each other: '!=', SameCells.
-/
import Derived.Test.YtifkbafdjkgnoaaDoorGeA
import Derived.OwnWalk
namespace Go.Proofs.YtifkbafdjkgnoaaDoor
open Go.RowKit


/-- an array that begins with a table's slots. -/
def SlA (cs : Array Value) (T : Tb) : Prop := ∀ i k, i < 32 → k < 10 → cs[i * 10 + k]? = some (.int .i64 ((T i).get i k))
def Sl10 (w : World) (g : Nat) (T : Tb) : Prop := ∃ cs ty, w.heap[g]? = some (.cells cs ty (0, 0)) ∧ SlA cs T
theorem Sl10.at' {w : World} {g : Nat} {T : Tb} (h : Sl10 w g T) {i k : Nat} (hi : i < 32) (hk : k < 10) : w.cell? ⟨g, i * 10 + k, none⟩ = some (.int .i64 ((T i).get i k)) := by
  obtain ⟨cs, ty, h1, h2⟩ := h
  rw [cell_of_row w g _ _ _ _ h1, h2 i k hi hk]
theorem Sl10.fr {w : World} {g : Nat} {T : Tb} (h : Sl10 w g T) (j : Nat) : w.frozen? ⟨g, j, none⟩ = false := by
  obtain ⟨cs, ty, h1, _⟩ := h
  exact frozen_of_row w g j _ _ h1
theorem Sl10.lt {w : World} {g : Nat} {T : Tb} (h : Sl10 w g T) : g < w.heap.size := tlt (h.at' (i := 0) (k := 0) (by omega) (by omega))
theorem Sl10.below {w w' : World} {g : Nat} {T : Tb} (h : Sl10 w g T) (hb : Below w.heap.size w w') : Sl10 w' g T := by
  have hl := h.lt
  obtain ⟨cs, ty, h1, h2⟩ := h
  exact ⟨cs, ty, by rw [hb.block g hl]; exact h1, h2⟩
theorem Sl10.chg {w w' : World} {g b : Nat} {T : Tb} (h : Sl10 w g T) (hb : Chg b w w') (hn : g ≠ b) : Sl10 w' g T := by
  have hl := h.lt
  obtain ⟨cs, ty, h1, h2⟩ := h
  exact ⟨cs, ty, by rw [hb.block g hl hn]; exact h1, h2⟩
theorem Sl10.put {w : World} {g : Nat} {T : Tb} (h : Sl10 w g T) {i k : Nat} (x : Int) (hi : i < 32) (h1 : 1 ≤ k) (hk : k < 10) : Sl10 (w.setCell ⟨g, i * 10 + k, none⟩ (.int .i64 x)) g (upd T i ((T i).put x k)) := by
  obtain ⟨cs, ty, e1, e2⟩ := h
  refine ⟨_, ty, heap_setCell_same w g _ _ _ _ e1, fun a l ha hl => ?_⟩
  rw [Array.getElem?_setIfInBounds]
  have hsz : i * 10 + k < cs.size := (Array.getElem?_eq_some_iff.1 (e2 i k hi hk)).1
  by_cases e : a = i
  · subst e
    rw [upd_same, Ce.get_put _ _ _ _ _ h1 hk hl]
    by_cases e' : l = k
    · subst e'; rw [if_pos rfl, if_pos hsz, if_pos rfl]
    · rw [if_neg (by omega), if_neg e', e2 a l ha hl]
  · rw [if_neg (by omega), upd_other _ _ e, e2 a l ha hl]
theorem Sl10.slot {w : World} {g : Nat} {T : Tb} (h : Sl10 w g T) {i : Nat} (hi : i < 32) : Sl10 (w.setCell ⟨g, i * 10, none⟩ (.int .i64 i)) g T := by
  obtain ⟨cs, ty, e1, e2⟩ := h
  refine ⟨_, ty, heap_setCell_same w g _ _ _ _ e1, fun a l ha hl => ?_⟩
  rw [Array.getElem?_setIfInBounds]
  have hsz : i * 10 < cs.size := by have := (Array.getElem?_eq_some_iff.1 (e2 i 0 hi (by omega))).1; omega
  by_cases e : i * 10 = a * 10 + l
  · obtain rfl : a = i := by omega
    obtain rfl : l = 0 := by omega
    rw [if_pos e, if_pos hsz]
    rfl
  · rw [if_neg e, e2 a l ha hl]
theorem CellsB.sl {w : World} {Z : Nat} {T : Tb} (h : CellsB w Z T) : Sl10 w Z T := ⟨_, _, h, fun i k hi hk => slotsArr_at T i k hi hk⟩
/-- the cells of n empty slots. -/
def emC : Nat → List Value
  | 0 => []
  | n + 1 => emC n ++ [.int .i64 n, .int .i64 0, .int .i64 0, .int .i64 0, .int .i64 0, .int .i64 0, .int .i64 0, .int .i64 0, .int .i64 0, .int .i64 0]
theorem emC_len : ∀ n, (emC n).length = n * 10
  | 0 => rfl
  | n + 1 => by simp only [emC, List.length_append, emC_len n, List.length_cons, List.length_nil]; omega
theorem emC_at : ∀ (n i k : Nat), i < n → k < 10 → (emC n)[i * 10 + k]? = some (.int .i64 (noC.get i k))
  | 0, i, k, h, _ => by omega
  | n + 1, i, k, h, hk => by
    by_cases e : i = n
    · subst e
      simp only [emC]
      rw [List.getElem?_append_right (by rw [emC_len]; omega), emC_len, show i * 10 + k - i * 10 = k from by omega]
      have hl : k = 0 ∨ k = 1 ∨ k = 2 ∨ k = 3 ∨ k = 4 ∨ k = 5 ∨ k = 6 ∨ k = 7 ∨ k = 8 ∨ k = 9 := by omega
      rcases hl with rfl | rfl | rfl | rfl | rfl | rfl | rfl | rfl | rfl | rfl <;> rfl
    · simp only [emC]
      rw [List.getElem?_append_left (by rw [emC_len]; omega)]
      exact emC_at n i k (by omega) hk
theorem Tryd.infoCell : (Tryd.prog.info? 59).map (fun i => (i.zero, i.size, i.bytes)) = some (some (.agg #[.int .i64 0, .int .i64 0, .int .i64 0, .int .i64 0, .int .i64 0, .int .i64 0, .int .i64 0, .int .i64 0, .int .i64 0, .int .i64 0]), 10, 80) := by kernel_rfl
theorem tadd (b o j : Nat) : Addr.add ⟨b, o, none⟩ j = ⟨b, o + j, none⟩ := by
  unfold Addr.add
  by_cases h : j = 0
  · subst h; rfl
  · rw [if_neg h]
theorem partI {w : World} (xs : Array Value) (o : Nat) (x : Value) (hx : xs[o]? = some x) : (part 3 xs o).run Tryd.prog w = .ok x w := by
  have hagg : (isAgg 3).run Tryd.prog w = .ok false w := by
    unfold isAgg
    rw [Sem.run_bind, run_underlying Tryd.underlying3 w]
    rfl
  simp only [part, Sem.run_bind, hagg, Result.andThen_ok, Bool.false_eq_true, if_false, hx, Sem.run_pure]
theorem partE {w : World} (xs ys : Array Value) (o : Nat) (hx : xs.extract o (o + 2) = ys) : (part 34 xs o).run Tryd.prog w = .ok (.agg ys) w := by
  have hagg : (isAgg 34).run Tryd.prog w = .ok true w := by
    unfold isAgg
    rw [Sem.run_bind, run_underlying Tryd.underlying34 w]
    rfl
  have hs : (sizeOf 34).run Tryd.prog w = .ok 2 w := by kernel_rfl
  simp only [part, Sem.run_bind, hagg, Result.andThen_ok, if_true, hs, hx, Sem.run_pure]
theorem partF {w : World} (xs ys : Array Value) (o : Nat) (hx : xs.extract o (o + 8) = ys) : (part 36 xs o).run Tryd.prog w = .ok (.agg ys) w := by
  have hagg : (isAgg 36).run Tryd.prog w = .ok true w := by
    unfold isAgg
    rw [Sem.run_bind, run_underlying Tryd.underlying36 w]
    rfl
  have hs : (sizeOf 36).run Tryd.prog w = .ok 8 w := by kernel_rfl
  simp only [part, Sem.run_bind, hagg, Result.andThen_ok, if_true, hs, hx, Sem.run_pure]
theorem eqI (d : Nat) (x : Int) (w : World) : (Op.equalIn (d + 1) 3 (.int .i64 x) (.int .i64 x)).run Tryd.prog w = .ok true w := by
  rw [run_equalIn_int w d _ _ _ _ _ Tryd.underlying3]; simp
theorem eqE (d : Nat) (a b : Int) (w : World) : (Op.equalIn (d + 1 + 1) 34 (.agg #[.int .i64 a, .int .i64 b]) (.agg #[.int .i64 a, .int .i64 b])).run Tryd.prog w = .ok true w := by
  rw [run_equalIn_agg w (d + 1) 34 _ _ (by kernel_rfl) (by kernel_rfl)]
  have n1 : ("Addr" : String) ≠ "_" := by decide
  have n2 : ("Port" : String) ≠ "_" := by decide
  simp only [Program.fieldsOf, Tryd.underlying34, Op.eqFields, Sem.run_bind, Sem.run_ite, ne_eq, n1, n2, not_false_eq_true, if_true, partI #[.int .i64 a, .int .i64 b] 0 (.int .i64 a) rfl, partI #[.int .i64 a, .int .i64 b] 1 (.int .i64 b) rfl, Result.andThen_ok, eqI, Bool.not_true, Bool.false_eq_true, if_false, Sem.run_pure]
theorem eqFl (d : Nat) (c : Ce) (w : World) : (Op.equalIn (d + 1 + 1 + 1) 36 (flowV c) (flowV c)).run Tryd.prog w = .ok true w := by
  unfold flowV
  rw [run_equalIn_agg w (d + 1 + 1) 36 _ _ (by kernel_rfl) (by kernel_rfl)]
  have p0 : ∀ w : World, (part 3 #[.int .i64 c.pr, .int .i64 c.ia, .int .i64 c.ip, .int .i64 c.fa, .int .i64 c.fp, .int .i64 c.po, .int .i64 c.st, .int .i64 c.un] 0).run Tryd.prog w = .ok (.int .i64 c.pr) w := fun w => partI _ _ _ rfl
  have p5 : ∀ w : World, (part 3 #[.int .i64 c.pr, .int .i64 c.ia, .int .i64 c.ip, .int .i64 c.fa, .int .i64 c.fp, .int .i64 c.po, .int .i64 c.st, .int .i64 c.un] 5).run Tryd.prog w = .ok (.int .i64 c.po) w := fun w => partI _ _ _ rfl
  have p6 : ∀ w : World, (part 3 #[.int .i64 c.pr, .int .i64 c.ia, .int .i64 c.ip, .int .i64 c.fa, .int .i64 c.fp, .int .i64 c.po, .int .i64 c.st, .int .i64 c.un] 6).run Tryd.prog w = .ok (.int .i64 c.st) w := fun w => partI _ _ _ rfl
  have p7 : ∀ w : World, (part 3 #[.int .i64 c.pr, .int .i64 c.ia, .int .i64 c.ip, .int .i64 c.fa, .int .i64 c.fp, .int .i64 c.po, .int .i64 c.st, .int .i64 c.un] 7).run Tryd.prog w = .ok (.int .i64 c.un) w := fun w => partI _ _ _ rfl
  have p1 : ∀ w : World, (part 34 #[.int .i64 c.pr, .int .i64 c.ia, .int .i64 c.ip, .int .i64 c.fa, .int .i64 c.fp, .int .i64 c.po, .int .i64 c.st, .int .i64 c.un] 1).run Tryd.prog w = .ok (.agg #[.int .i64 c.ia, .int .i64 c.ip]) w := fun w => partE _ _ _ rfl
  have p3 : ∀ w : World, (part 34 #[.int .i64 c.pr, .int .i64 c.ia, .int .i64 c.ip, .int .i64 c.fa, .int .i64 c.fp, .int .i64 c.po, .int .i64 c.st, .int .i64 c.un] 3).run Tryd.prog w = .ok (.agg #[.int .i64 c.fa, .int .i64 c.fp]) w := fun w => partE _ _ _ rfl
  have n1 : ("Proto" : String) ≠ "_" := by decide
  have n2 : ("Inner" : String) ≠ "_" := by decide
  have n3 : ("Far" : String) ≠ "_" := by decide
  have n4 : ("Port" : String) ≠ "_" := by decide
  have n5 : ("State" : String) ≠ "_" := by decide
  have n6 : ("Until" : String) ≠ "_" := by decide
  simp only [Program.fieldsOf, Tryd.underlying36, Op.eqFields, Sem.run_bind, Sem.run_ite, ne_eq, n1, n2, n3, n4, n5, n6, not_false_eq_true, if_true, p0, p1, p3, p5, p6, p7, Result.andThen_ok, eqI, eqE, Bool.not_true, Bool.false_eq_true, if_false, Sem.run_pure]
theorem eqCl (d : Nat) (i : Int) (c : Ce) (w : World) : (Op.equalIn (d + 1 + 1 + 1 + 1) 59 (.agg #[.int .i64 i, .int .i64 c.ve, .int .i64 c.pr, .int .i64 c.ia, .int .i64 c.ip, .int .i64 c.fa, .int .i64 c.fp, .int .i64 c.po, .int .i64 c.st, .int .i64 c.un]) (.agg #[.int .i64 i, .int .i64 c.ve, .int .i64 c.pr, .int .i64 c.ia, .int .i64 c.ip, .int .i64 c.fa, .int .i64 c.fp, .int .i64 c.po, .int .i64 c.st, .int .i64 c.un])).run Tryd.prog w = .ok true w := by
  rw [run_equalIn_agg w (d + 1 + 1 + 1) 59 _ _ (by kernel_rfl) (by kernel_rfl)]
  have p0 : ∀ w : World, (part 3 #[.int .i64 i, .int .i64 c.ve, .int .i64 c.pr, .int .i64 c.ia, .int .i64 c.ip, .int .i64 c.fa, .int .i64 c.fp, .int .i64 c.po, .int .i64 c.st, .int .i64 c.un] 0).run Tryd.prog w = .ok (.int .i64 i) w := fun w => partI _ _ _ rfl
  have p1 : ∀ w : World, (part 3 #[.int .i64 i, .int .i64 c.ve, .int .i64 c.pr, .int .i64 c.ia, .int .i64 c.ip, .int .i64 c.fa, .int .i64 c.fp, .int .i64 c.po, .int .i64 c.st, .int .i64 c.un] 1).run Tryd.prog w = .ok (.int .i64 c.ve) w := fun w => partI _ _ _ rfl
  have p2 : ∀ w : World, (part 36 #[.int .i64 i, .int .i64 c.ve, .int .i64 c.pr, .int .i64 c.ia, .int .i64 c.ip, .int .i64 c.fa, .int .i64 c.fp, .int .i64 c.po, .int .i64 c.st, .int .i64 c.un] 2).run Tryd.prog w = .ok (flowV c) w := fun w => partF _ _ _ rfl
  have n1 : ("Slot" : String) ≠ "_" := by decide
  have n2 : ("Version" : String) ≠ "_" := by decide
  have n3 : ("F" : String) ≠ "_" := by decide
  simp only [Program.fieldsOf, Tryd.underlying59, Op.eqFields, Sem.run_bind, Sem.run_ite, ne_eq, n1, n2, n3, not_false_eq_true, if_true, p0, p1, p2, Result.andThen_ok, eqI, eqFl, Bool.not_true, Bool.false_eq_true, if_false, Sem.run_pure]
theorem neq_cell (i : Int) (c : Ce) (w : World) : (binOp .neq 59 (.agg #[.int .i64 i, .int .i64 c.ve, .int .i64 c.pr, .int .i64 c.ia, .int .i64 c.ip, .int .i64 c.fa, .int .i64 c.fp, .int .i64 c.po, .int .i64 c.st, .int .i64 c.un]) (.agg #[.int .i64 i, .int .i64 c.ve, .int .i64 c.pr, .int .i64 c.ia, .int .i64 c.ip, .int .i64 c.fa, .int .i64 c.fp, .int .i64 c.po, .int .i64 c.st, .int .i64 c.un])).run Tryd.prog w = .ok (.bool false) w := by
  rw [run_neq_struct, show (10000 : Nat) = 9996 + 1 + 1 + 1 + 1 from rfl, eqCl]
  rfl

end Go.Proofs.YtifkbafdjkgnoaaDoor
