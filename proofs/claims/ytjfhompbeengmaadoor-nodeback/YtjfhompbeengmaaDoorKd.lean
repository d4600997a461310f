/-
  Texts in one: TbM GeA GeB TbA TbB TbC TbD TbE TbF ExA TbI TbG TbT TbH TbN.
-/
import Derived.Test.YtjfhompbeengmaaDoorKa
import Derived.WalkKit
import Derived.Below
import Derived.BigQuiet
import Derived.RegionTactic
import Derived.Deep.RegionWith
import Derived.Laws.Rows
import Derived.Deep.WholeRow
import Derived.OwnWalk
import Derived.Test.YtjfhompbeengmaaDoorProg
namespace Go.Proofs.YtjfhompbeengmaaDoor

structure Ce where
  ve : Int
  pr : Int
  ia : Int
  ip : Int
  fa : Int
  fp : Int
  po : Int
  st : Int
  un : Int
deriving DecidableEq
/-- cell k of slot i. -/
def Ce.get (c : Ce) (i : Nat) : Nat → Int
  | 0 => i | 1 => c.ve | 2 => c.pr | 3 => c.ia | 4 => c.ip | 5 => c.fa | 6 => c.fp | 7 => c.po | 8 => c.st | _ => c.un
def Ce.put (c : Ce) (x : Int) : Nat → Ce
  | 1 => { c with ve := x } | 2 => { c with pr := x } | 3 => { c with ia := x } | 4 => { c with ip := x } | 5 => { c with fa := x }
  | 6 => { c with fp := x } | 7 => { c with po := x } | 8 => { c with st := x } | 9 => { c with un := x } | _ => c
theorem Ce.get_put (c : Ce) (x : Int) (i k l : Nat) (h1 : 1 ≤ k) (h2 : k < 10) (h3 : l < 10) : (c.put x k).get i l = if l = k then x else c.get i l := by
  have hk : k = 1 ∨ k = 2 ∨ k = 3 ∨ k = 4 ∨ k = 5 ∨ k = 6 ∨ k = 7 ∨ k = 8 ∨ k = 9 := by omega
  have hl : l = 0 ∨ l = 1 ∨ l = 2 ∨ l = 3 ∨ l = 4 ∨ l = 5 ∨ l = 6 ∨ l = 7 ∨ l = 8 ∨ l = 9 := by omega
  rcases hk with rfl | rfl | rfl | rfl | rfl | rfl | rfl | rfl | rfl <;> rcases hl with rfl | rfl | rfl | rfl | rfl | rfl | rfl | rfl | rfl | rfl <;> rfl
/-- a table: its slots. -/
abbrev Tb := Nat → Ce
def upd (T : Tb) (k : Nat) (c : Ce) : Tb := fun j => if j = k then c else T j
theorem upd_same (T : Tb) (k : Nat) (c : Ce) : upd T k c k = c := by simp [upd]
theorem upd_other (T : Tb) {k j : Nat} (c : Ce) (h : j ≠ k) : upd T k c j = T j := by simp [upd, h]
theorem upd_upd (T : Tb) (k : Nat) (c d : Ce) : upd (upd T k c) k d = upd T k d := by
  funext j; unfold upd; split <;> rfl
def noC : Ce := ⟨0, 0, 0, 0, 0, 0, 0, 0, 0⟩
def findQ (pr ia ip fa fp : Int) (c : Ce) : Bool := (c.pr != 0) && ((c.pr == pr) && ((c.ia == ia && c.ip == ip) && (c.fa == fa && c.fp == fp)))
def backQ (pr po fa fp : Int) (c : Ce) : Bool := (c.pr != 0) && ((c.pr == pr) && ((c.po == po) && (c.fa == fa && c.fp == fp)))
def freeQ (c : Ce) : Bool := c.pr == 0
theorem findQ_iff {pr ia ip fa fp : Int} {c : Ce} : findQ pr ia ip fa fp c = true ↔ c.pr ≠ 0 ∧ c.pr = pr ∧ c.ia = ia ∧ c.ip = ip ∧ c.fa = fa ∧ c.fp = fp := by
  unfold findQ; simp [and_assoc]
theorem backQ_iff {pr po fa fp : Int} {c : Ce} : backQ pr po fa fp c = true ↔ c.pr ≠ 0 ∧ c.pr = pr ∧ c.po = po ∧ c.fa = fa ∧ c.fp = fp := by
  unfold backQ; simp
/-- the first slot that fits. -/
def fst (T : Tb) (q : Ce → Bool) : Option Nat := (List.range 32).find? fun i => q (T i)
theorem fst_some {T : Tb} {q : Ce → Bool} {k : Nat} : fst T q = some k ↔ k < 32 ∧ q (T k) = true ∧ ∀ j, j < k → q (T j) = false := by
  unfold fst
  rw [List.find?_range_eq_some]
  simp
  constructor
  · rintro ⟨h1, h2, h3⟩; exact ⟨h2, h1, h3⟩
  · rintro ⟨h1, h2, h3⟩; exact ⟨h2, h1, h3⟩
theorem fst_none {T : Tb} {q : Ce → Bool} : fst T q = none ↔ ∀ j, j < 32 → q (T j) = false := by
  unfold fst
  rw [List.find?_range_eq_none]
  simp
/-- the least of so many ports from 'low' on that none has. -/
def freeP (T : Tb) (low pr fa fp : Int) : Option Nat := (List.range 24).find? fun i => (fst T (backQ pr (low + i) fa fp)).isNone
theorem freeP_some {T : Tb} {low pr fa fp : Int} {k : Nat} : freeP T low pr fa fp = some k ↔ k < 24 ∧ fst T (backQ pr (low + k) fa fp) = none ∧ ∀ j, j < k → (fst T (backQ pr (low + j) fa fp)).isSome = true := by
  unfold freeP
  rw [List.find?_range_eq_some]
  simp
  constructor
  · rintro ⟨h1, h2, h3⟩; exact ⟨h2, h1, h3⟩
  · rintro ⟨h1, h2, h3⟩; exact ⟨h2, h1, h3⟩
theorem freeP_none {T : Tb} {low pr fa fp : Int} : freeP T low pr fa fp = none ↔ ∀ j, j < 24 → (fst T (backQ pr (low + (j : Nat)) fa fp)).isSome = true := by
  unfold freeP
  rw [List.find?_range_eq_none]
  simp
/-- a slot laid anew: its version is one more. -/
def layT (T : Tb) (k : Nat) (pr ia ip fa fp po st un : Int) : Tb := upd T k ⟨(T k).ve + 1, pr, ia, ip, fa, fp, po, st, un⟩
/-- what Add makes: the slot, an error's number, the table. -/
def addT (T : Tb) (low pr ia ip fa fp st un : Int) : Nat × Nat × Tb :=
  match fst T (findQ pr ia ip fa fp) with
  | some _ => (0, 5, T)
  | none => match fst T freeQ with
    | none => (0, 6, T)
    | some k => match freeP T low pr fa fp with
      | none => (0, 6, T)
      | some p => (k, 0, layT T k pr ia ip fa fp (low + p) st un)
def putT (T : Tb) (pr ia ip fa fp po st un : Int) : Nat × Nat × Tb :=
  match fst T (findQ pr ia ip fa fp) with
  | some _ => (0, 5, T)
  | none => match fst T (backQ pr po fa fp) with
    | some _ => (0, 5, T)
    | none => match fst T freeQ with
      | none => (0, 6, T)
      | some k => (k, 0, layT T k pr ia ip fa fp po st un)
/-- a slot's error: 2: none such; 4: no flow. -/
def slotE (T : Tb) (k : Int) : Nat := if k < 0 ∨ 32 ≤ k then 2 else if (T k.toNat).pr = 0 then 4 else 0
def setT (T : Tb) (k st un : Int) : Tb := if slotE T k = 0 then upd T k.toNat { T k.toNat with ve := (T k.toNat).ve + 1, st := st, un := un } else T
def dropT (T : Tb) (k : Int) : Tb := if slotE T k = 0 then layT T k.toNat 0 0 0 0 0 0 0 0 else T
def newT : Tb := fun _ => noC
/-- versions from 0 to n. -/
def Vers (T : Tb) (n : Nat) : Prop := ∀ j, j < 32 → 0 ≤ (T j).ve ∧ (T j).ve ≤ n
theorem Vers.more {T : Tb} {n m : Nat} (h : Vers T n) (hm : n ≤ m) : Vers T m := fun j hj => by have := h j hj; omega
theorem Vers.lay {T : Tb} {n k : Nat} (h : Vers T n) (pr ia ip fa fp po st un : Int) (hk : k < 32) : Vers (layT T k pr ia ip fa fp po st un) (n + 1) := fun j hj => by
  unfold layT upd
  have := h j hj
  have := h k hk
  split
  · simp only; omega
  · omega
theorem Vers.new : Vers newT 0 := fun j _ => by simp [newT, noC]
theorem fst_lt {T : Tb} {q : Ce → Bool} {k : Nat} (h : fst T q = some k) : k < 32 := (fst_some.1 h).1
theorem Vers.add {T : Tb} {n : Nat} (h : Vers T n) (low pr ia ip fa fp st un : Int) : Vers (addT T low pr ia ip fa fp st un).2.2 (n + 1) := by
  unfold addT
  split
  · exact h.more (by omega)
  split
  · exact h.more (by omega)
  rename_i h2
  split
  · exact h.more (by omega)
  · exact h.lay _ _ _ _ _ _ _ _ (fst_lt h2)
theorem Vers.put {T : Tb} {n : Nat} (h : Vers T n) (pr ia ip fa fp po st un : Int) : Vers (putT T pr ia ip fa fp po st un).2.2 (n + 1) := by
  unfold putT
  split
  · exact h.more (by omega)
  split
  · exact h.more (by omega)
  split
  · exact h.more (by omega)
  · rename_i h2
    exact h.lay _ _ _ _ _ _ _ _ (fst_lt h2)
theorem slotE_ok {T : Tb} {k : Int} (h : slotE T k = 0) : 0 ≤ k ∧ k < 32 ∧ (T k.toNat).pr ≠ 0 := by
  unfold slotE at h
  split at h
  · cases h
  split at h
  · cases h
  · rename_i a b; exact ⟨by omega, by omega, b⟩
theorem Vers.drop {T : Tb} {n : Nat} (h : Vers T n) (k : Int) : Vers (dropT T k) (n + 1) := by
  unfold dropT
  split
  · rename_i e
    have := slotE_ok e
    exact h.lay _ _ _ _ _ _ _ _ (by omega)
  · exact h.more (by omega)
end Go.Proofs.YtjfhompbeengmaaDoor

namespace Go.Proofs.YtjfhompbeengmaaDoor
open Go.RowKit


/-- the values of a table's block. -/
def tabArr (low : Int) (T : Tb) : Array Value := ((List.range 321).map fun j => if j = 0 then .int .i64 low else .int .i64 ((T ((j - 1) / 10)).get ((j - 1) / 10) ((j - 1) % 10))).toArray
def slotsArr (T : Tb) : Array Value := ((List.range 320).map fun j => .int .i64 ((T (j / 10)).get (j / 10) (j % 10))).toArray
theorem tabArr_size (low : Int) (T : Tb) : (tabArr low T).size = 321 := by simp [tabArr]
theorem slotsArr_size (T : Tb) : (slotsArr T).size = 320 := by simp [slotsArr]
theorem tabArr_low (low : Int) (T : Tb) : (tabArr low T)[0]? = some (.int .i64 low) := by simp [tabArr]
theorem tabArr_at (low : Int) (T : Tb) (i k : Nat) (hi : i < 32) (hk : k < 10) : (tabArr low T)[1 + i * 10 + k]? = some (.int .i64 ((T i).get i k)) := by
  have h1 : 1 + i * 10 + k < 321 := by omega
  have e1 : (1 + i * 10 + k - 1) / 10 = i := by omega
  have e2 : (1 + i * 10 + k - 1) % 10 = k := by omega
  have e3 : 1 + i * 10 + k ≠ 0 := by omega
  simp only [tabArr, List.getElem?_toArray, List.getElem?_map, List.getElem?_range h1, Option.map_some, if_neg e3, e1, e2]
theorem slotsArr_at (T : Tb) (i k : Nat) (hi : i < 32) (hk : k < 10) : (slotsArr T)[i * 10 + k]? = some (.int .i64 ((T i).get i k)) := by
  have h1 : i * 10 + k < 320 := by omega
  have e1 : (i * 10 + k) / 10 = i := by omega
  have e2 : (i * 10 + k) % 10 = k := by omega
  simp only [slotsArr, List.getElem?_toArray, List.getElem?_map, List.getElem?_range h1, Option.map_some, e1, e2]
theorem tabArr_slots (low : Int) (T : Tb) (j : Nat) (hj : j < 320) : (tabArr low T)[1 + j]? = (slotsArr T)[j]? := by
  have h1 := tabArr_at low T (j / 10) (j % 10) (by omega) (by omega)
  have h2 := slotsArr_at T (j / 10) (j % 10) (by omega) (by omega)
  rw [show 1 + j / 10 * 10 + j % 10 = 1 + j from by omega] at h1
  rw [show j / 10 * 10 + j % 10 = j from by omega] at h2
  rw [h1, h2]
theorem tabArr_put (low : Int) (T : Tb) (i k : Nat) (x : Int) (hi : i < 32) (h1 : 1 ≤ k) (hk : k < 10) : (tabArr low T).setIfInBounds (1 + i * 10 + k) (.int .i64 x) = tabArr low (upd T i ((T i).put x k)) := by
  apply Array.ext_getElem?
  intro j
  rw [Array.getElem?_setIfInBounds, tabArr_size]
  by_cases hj : j < 321
  · by_cases h0 : j = 0
    · subst h0
      rw [if_neg (by omega), tabArr_low, tabArr_low]
    · have a1 := tabArr_at low T ((j - 1) / 10) ((j - 1) % 10) (by omega) (by omega)
      have a2 := tabArr_at low (upd T i ((T i).put x k)) ((j - 1) / 10) ((j - 1) % 10) (by omega) (by omega)
      rw [show 1 + (j - 1) / 10 * 10 + (j - 1) % 10 = j from by omega] at a1 a2
      rw [a1, a2]
      by_cases he : (j - 1) / 10 = i
      · rw [he, upd_same, Ce.get_put _ _ _ _ _ h1 hk (by omega)]
        by_cases hk2 : (j - 1) % 10 = k
        · rw [if_pos (by omega), if_pos hk2, if_pos (by omega)]
        · rw [if_neg (by omega), if_neg hk2]
      · rw [if_neg (by omega), upd_other _ _ he]
  · rw [if_neg (by omega), Array.getElem?_eq_none (by rw [tabArr_size]; omega), Array.getElem?_eq_none (by rw [tabArr_size]; omega)]
def endV (a p : Int) : Value := .agg #[.int .i64 a, .int .i64 p]
def flowV (c : Ce) : Value := .agg #[.int .i64 c.pr, .int .i64 c.ia, .int .i64 c.ip, .int .i64 c.fa, .int .i64 c.fp, .int .i64 c.po, .int .i64 c.st, .int .i64 c.un]
def cellV (i : Nat) (c : Ce) : Value := .agg #[.int .i64 i, .int .i64 c.ve, .int .i64 c.pr, .int .i64 c.ia, .int .i64 c.ip, .int .i64 c.fa, .int .i64 c.fp, .int .i64 c.po, .int .i64 c.st, .int .i64 c.un]
theorem arr_index (T : Tb) (i : Nat) (hi : i < 32) (w : World) : (Instr.index 87 (.agg (slotsArr T)) (.int .i64 i)).run Tryd.prog w = .ok (cellV i (T i)) w := by
  have hs : (sizeOf 86).run Tryd.prog w = .ok 10 w := by kernel_rfl
  have hagg : (isAgg 86).run Tryd.prog w = .ok true w := by
    unfold isAgg
    rw [Sem.run_bind, run_underlying Tryd.underlying86 w]
    rfl
  have hx : (slotsArr T).extract (i * 10) (i * 10 + 10) = #[.int .i64 i, .int .i64 (T i).ve, .int .i64 (T i).pr, .int .i64 (T i).ia, .int .i64 (T i).ip, .int .i64 (T i).fa, .int .i64 (T i).fp, .int .i64 (T i).po, .int .i64 (T i).st, .int .i64 (T i).un] := by
    apply Array.ext_getElem?
    intro k
    rw [Array.getElem?_extract, slotsArr_size]
    by_cases hk : k < 10
    · rw [if_pos (by omega), slotsArr_at T i k hi hk]
      have hl : k = 0 ∨ k = 1 ∨ k = 2 ∨ k = 3 ∨ k = 4 ∨ k = 5 ∨ k = 6 ∨ k = 7 ∨ k = 8 ∨ k = 9 := by omega
      rcases hl with rfl | rfl | rfl | rfl | rfl | rfl | rfl | rfl | rfl | rfl <;> rfl
    · rw [if_neg (by omega)]
      symm
      apply Array.getElem?_eq_none
      simpa using hk
  have hc : (0 : Int) ≤ (i : Int) ∧ (i : Int) < (32 : Nat) := by omega
  simp only [Instr.index, asIntOf, Sem.run_bind, Sem.run_pure, Result.andThen_ok, run_underlying Tryd.underlying87 w]
  rw [if_pos hc]
  simp only [Sem.run_bind, hs, Result.andThen_ok, part, hagg, if_true, Int.toNat_natCast, Sem.run_pure, hx, cellV]
theorem eql_end (a b c d : Int) (w : World) : (binOp .eql 24 (.agg #[.int .i64 a, .int .i64 b]) (.agg #[.int .i64 c, .int .i64 d])).run Tryd.prog w = .ok (.bool (a == c && b == d)) w := by
  have hp : ∀ (xs : Array Value) (o : Nat) (x : Value), xs[o]? = some x → (part 3 xs o).run Tryd.prog w = .ok x w := fun xs o x hx => by
    have hagg : (isAgg 3).run Tryd.prog w = .ok false w := by
      unfold isAgg
      rw [Sem.run_bind, run_underlying Tryd.underlying3 w]
      rfl
    simp only [part, Sem.run_bind, hagg, Result.andThen_ok, Bool.false_eq_true, if_false, hx, Sem.run_pure]
  have hq : ∀ (n : Nat) (x y : Int), (Op.equalIn (n + 1) 3 (.int .i64 x) (.int .i64 y)).run Tryd.prog w = .ok (x == y) w := fun n x y => run_equalIn_int w n _ _ _ _ _ Tryd.underlying3
  rw [run_eql_struct, show (10000 : Nat) = 9998 + 1 + 1 from rfl, run_equalIn_agg w (9998 + 1) 24 _ _ (by kernel_rfl) (by kernel_rfl)]
  have n1 : ("Addr" : String) ≠ "_" := by decide
  have n2 : ("Port" : String) ≠ "_" := by decide
  simp only [Program.fieldsOf, Tryd.underlying24, Op.eqFields, Sem.run_bind, Sem.run_ite, ne_eq, n1, n2, not_false_eq_true, if_true, hp #[.int .i64 a, .int .i64 b] 0 (.int .i64 a) rfl, hp #[.int .i64 a, .int .i64 b] 1 (.int .i64 b) rfl, hp #[.int .i64 c, .int .i64 d] 0 (.int .i64 c) rfl, hp #[.int .i64 c, .int .i64 d] 1 (.int .i64 d) rfl, Result.andThen_ok, hq]
  cases h1 : (a == c) <;> cases h2 : (b == d) <;> simp
theorem neq_end (a b c d : Int) (w : World) : (binOp .neq 24 (.agg #[.int .i64 a, .int .i64 b]) (.agg #[.int .i64 c, .int .i64 d])).run Tryd.prog w = .ok (.bool (!(a == c && b == d))) w := by
  have h := eql_end a b c d w
  rw [run_eql_struct] at h
  rw [run_neq_struct]
  cases hr : (Op.equalIn 10000 24 (.agg #[.int .i64 a, .int .i64 b]) (.agg #[.int .i64 c, .int .i64 d])).run Tryd.prog w with
  | ok x w1 =>
    rw [hr] at h
    simp only [Result.andThen_ok, Result.ok.injEq, Value.bool.injEq] at h ⊢
    exact ⟨by rw [h.1], h.2⟩
  | halt x w1 =>
    rw [hr] at h
    simp [Result.andThen] at h
theorem slots_one (T : Tb) : (slotsArr T).all (·.oneCell') = true := by
  rw [Array.all_eq_true_iff_forall_mem]
  intro v hv
  simp only [slotsArr, List.mem_toArray, List.mem_map] at hv
  obtain ⟨j, _, rfl⟩ := hv
  rfl
theorem slots_info (T : Tb) : (Tryd.prog.info? 87).map (·.size) = some (slotsArr T).size := by
  rw [slotsArr_size]
  kernel_rfl
theorem zero_slots : ∀ w, (zeroValue 87).run Tryd.prog w = .ok (.agg (Array.replicate 320 (.int .i64 0))) w := (zero_of_info (n := 320) (by kernel_rfl)).1
/-- the cells that were handed out. -/
def CellsB (w : World) (Z : Nat) (T : Tb) : Prop := w.heap[Z]? = some (.cells (slotsArr T) 87 (0, 0))
theorem CellsB.at' {w : World} {Z : Nat} {T : Tb} (h : CellsB w Z T) {i k : Nat} (hi : i < 32) (hk : k < 10) : w.cell? ⟨Z, i * 10 + k, none⟩ = some (.int .i64 ((T i).get i k)) := by
  rw [cell_of_row w Z _ _ _ _ h, slotsArr_at T i k hi hk]
theorem CellsB.lt {w : World} {Z : Nat} {T : Tb} (h : CellsB w Z T) : Z < w.heap.size := by
  rcases Nat.lt_or_ge Z w.heap.size with h1 | h1
  · exact h1
  · rw [CellsB, Array.getElem?_eq_none h1] at h; cases h
theorem CellsB.below {w w' : World} {Z : Nat} {T : Tb} (h : CellsB w Z T) (hb : Below w.heap.size w w') : CellsB w' Z T := by
  unfold CellsB; rw [hb.block Z h.lt]; exact h
/-- a flow in a block of its own. -/
structure FlB (w : World) (Z : Nat) (c : Ce) : Prop where
  c0 : w.cell? ⟨Z, 0, none⟩ = some (.int .i64 c.pr)
  c1 : w.cell? ⟨Z, 1, none⟩ = some (.int .i64 c.ia)
  c2 : w.cell? ⟨Z, 2, none⟩ = some (.int .i64 c.ip)
  c3 : w.cell? ⟨Z, 3, none⟩ = some (.int .i64 c.fa)
  c4 : w.cell? ⟨Z, 4, none⟩ = some (.int .i64 c.fp)
  c5 : w.cell? ⟨Z, 5, none⟩ = some (.int .i64 c.po)
  c6 : w.cell? ⟨Z, 6, none⟩ = some (.int .i64 c.st)
  c7 : w.cell? ⟨Z, 7, none⟩ = some (.int .i64 c.un)
theorem FlB.below {w w' : World} {Z : Nat} {c : Ce} (h : FlB w Z c) (hb : Below w.heap.size w w') : FlB w' Z c := ⟨tk hb h.c0, tk hb h.c1, tk hb h.c2, tk hb h.c3, tk hb h.c4, tk hb h.c5, tk hb h.c6, tk hb h.c7⟩
theorem flB_new (w : World) (c : Ce) : FlB (w.alloc (.cells #[.int .i64 c.pr, .int .i64 c.ia, .int .i64 c.ip, .int .i64 c.fa, .int .i64 c.fp, .int .i64 c.po, .int .i64 c.st, .int .i64 c.un] 77)) w.heap.size c := ⟨(nw _ _ _ _).trans rfl, (nw _ _ _ _).trans rfl, (nw _ _ _ _).trans rfl, (nw _ _ _ _).trans rfl, (nw _ _ _ _).trans rfl, (nw _ _ _ _).trans rfl, (nw _ _ _ _).trans rfl, (nw _ _ _ _).trans rfl⟩
end Go.Proofs.YtjfhompbeengmaaDoor

namespace Go.Proofs.YtjfhompbeengmaaDoor
open Go.RowKit


/-- an array that begins with a table's slots. -/
def SlA (cs : Array Value) (T : Tb) : Prop := ∀ i k, i < 32 → k < 10 → cs[i * 10 + k]? = some (.int .i64 ((T i).get i k))
def Sl10 (w : World) (g : Nat) (T : Tb) : Prop := ∃ cs ty, w.heap[g]? = some (.cells cs ty (0, 0)) ∧ SlA cs T
theorem Sl10.at' {w : World} {g : Nat} {T : Tb} (h : Sl10 w g T) {i k : Nat} (hi : i < 32) (hk : k < 10) : w.cell? ⟨g, i * 10 + k, none⟩ = some (.int .i64 ((T i).get i k)) := by
  obtain ⟨cs, ty, h1, h2⟩ := h
  rw [cell_of_row w g _ _ _ _ h1, h2 i k hi hk]
theorem Sl10.fr {w : World} {g : Nat} {T : Tb} (h : Sl10 w g T) (j : Nat) : w.frozen? ⟨g, j, none⟩ = false := by
  obtain ⟨cs, ty, h1, _⟩ := h
  exact frozen_of_row w g j _ _ h1
theorem Sl10.lt {w : World} {g : Nat} {T : Tb} (h : Sl10 w g T) : g < w.heap.size := tlt (h.at' (i := 0) (k := 0) (by omega) (by omega))
theorem Sl10.below {w w' : World} {g : Nat} {T : Tb} (h : Sl10 w g T) (hb : Below w.heap.size w w') : Sl10 w' g T := by
  have hl := h.lt
  obtain ⟨cs, ty, h1, h2⟩ := h
  exact ⟨cs, ty, by rw [hb.block g hl]; exact h1, h2⟩
theorem Sl10.chg {w w' : World} {g b : Nat} {T : Tb} (h : Sl10 w g T) (hb : Chg b w w') (hn : g ≠ b) : Sl10 w' g T := by
  have hl := h.lt
  obtain ⟨cs, ty, h1, h2⟩ := h
  exact ⟨cs, ty, by rw [hb.block g hl hn]; exact h1, h2⟩
theorem Sl10.put {w : World} {g : Nat} {T : Tb} (h : Sl10 w g T) {i k : Nat} (x : Int) (hi : i < 32) (h1 : 1 ≤ k) (hk : k < 10) : Sl10 (w.setCell ⟨g, i * 10 + k, none⟩ (.int .i64 x)) g (upd T i ((T i).put x k)) := by
  obtain ⟨cs, ty, e1, e2⟩ := h
  refine ⟨_, ty, heap_setCell_same w g _ _ _ _ e1, fun a l ha hl => ?_⟩
  rw [Array.getElem?_setIfInBounds]
  have hsz : i * 10 + k < cs.size := (Array.getElem?_eq_some_iff.1 (e2 i k hi hk)).1
  by_cases e : a = i
  · subst e
    rw [upd_same, Ce.get_put _ _ _ _ _ h1 hk hl]
    by_cases e' : l = k
    · subst e'; rw [if_pos rfl, if_pos hsz, if_pos rfl]
    · rw [if_neg (by omega), if_neg e', e2 a l ha hl]
  · rw [if_neg (by omega), upd_other _ _ e, e2 a l ha hl]
theorem Sl10.slot {w : World} {g : Nat} {T : Tb} (h : Sl10 w g T) {i : Nat} (hi : i < 32) : Sl10 (w.setCell ⟨g, i * 10, none⟩ (.int .i64 i)) g T := by
  obtain ⟨cs, ty, e1, e2⟩ := h
  refine ⟨_, ty, heap_setCell_same w g _ _ _ _ e1, fun a l ha hl => ?_⟩
  rw [Array.getElem?_setIfInBounds]
  have hsz : i * 10 < cs.size := by have := (Array.getElem?_eq_some_iff.1 (e2 i 0 hi (by omega))).1; omega
  by_cases e : i * 10 = a * 10 + l
  · obtain rfl : a = i := by omega
    obtain rfl : l = 0 := by omega
    rw [if_pos e, if_pos hsz]
    rfl
  · rw [if_neg e, e2 a l ha hl]
theorem CellsB.sl {w : World} {Z : Nat} {T : Tb} (h : CellsB w Z T) : Sl10 w Z T := ⟨_, _, h, fun i k hi hk => slotsArr_at T i k hi hk⟩
/-- the cells of n empty slots. -/
def emC : Nat → List Value
  | 0 => []
  | n + 1 => emC n ++ [.int .i64 n, .int .i64 0, .int .i64 0, .int .i64 0, .int .i64 0, .int .i64 0, .int .i64 0, .int .i64 0, .int .i64 0, .int .i64 0]
theorem emC_len : ∀ n, (emC n).length = n * 10
  | 0 => rfl
  | n + 1 => by simp only [emC, List.length_append, emC_len n, List.length_cons, List.length_nil]; omega
theorem emC_at : ∀ (n i k : Nat), i < n → k < 10 → (emC n)[i * 10 + k]? = some (.int .i64 (noC.get i k))
  | 0, i, k, h, _ => by omega
  | n + 1, i, k, h, hk => by
    by_cases e : i = n
    · subst e
      simp only [emC]
      rw [List.getElem?_append_right (by rw [emC_len]; omega), emC_len, show i * 10 + k - i * 10 = k from by omega]
      have hl : k = 0 ∨ k = 1 ∨ k = 2 ∨ k = 3 ∨ k = 4 ∨ k = 5 ∨ k = 6 ∨ k = 7 ∨ k = 8 ∨ k = 9 := by omega
      rcases hl with rfl | rfl | rfl | rfl | rfl | rfl | rfl | rfl | rfl | rfl <;> rfl
    · simp only [emC]
      rw [List.getElem?_append_left (by rw [emC_len]; omega)]
      exact emC_at n i k (by omega) hk
theorem Tryd.infoCell : (Tryd.prog.info? 86).map (fun i => (i.zero, i.size, i.bytes)) = some (some (.agg #[.int .i64 0, .int .i64 0, .int .i64 0, .int .i64 0, .int .i64 0, .int .i64 0, .int .i64 0, .int .i64 0, .int .i64 0, .int .i64 0]), 10, 80) := by kernel_rfl
theorem tadd (b o j : Nat) : Addr.add ⟨b, o, none⟩ j = ⟨b, o + j, none⟩ := by
  unfold Addr.add
  by_cases h : j = 0
  · subst h; rfl
  · rw [if_neg h]
theorem partI {w : World} (xs : Array Value) (o : Nat) (x : Value) (hx : xs[o]? = some x) : (part 3 xs o).run Tryd.prog w = .ok x w := by
  have hagg : (isAgg 3).run Tryd.prog w = .ok false w := by
    unfold isAgg
    rw [Sem.run_bind, run_underlying Tryd.underlying3 w]
    rfl
  simp only [part, Sem.run_bind, hagg, Result.andThen_ok, Bool.false_eq_true, if_false, hx, Sem.run_pure]
theorem partE {w : World} (xs ys : Array Value) (o : Nat) (hx : xs.extract o (o + 2) = ys) : (part 24 xs o).run Tryd.prog w = .ok (.agg ys) w := by
  have hagg : (isAgg 24).run Tryd.prog w = .ok true w := by
    unfold isAgg
    rw [Sem.run_bind, run_underlying Tryd.underlying24 w]
    rfl
  have hs : (sizeOf 24).run Tryd.prog w = .ok 2 w := by kernel_rfl
  simp only [part, Sem.run_bind, hagg, Result.andThen_ok, if_true, hs, hx, Sem.run_pure]
theorem partF {w : World} (xs ys : Array Value) (o : Nat) (hx : xs.extract o (o + 8) = ys) : (part 77 xs o).run Tryd.prog w = .ok (.agg ys) w := by
  have hagg : (isAgg 77).run Tryd.prog w = .ok true w := by
    unfold isAgg
    rw [Sem.run_bind, run_underlying Tryd.underlying77 w]
    rfl
  have hs : (sizeOf 77).run Tryd.prog w = .ok 8 w := by kernel_rfl
  simp only [part, Sem.run_bind, hagg, Result.andThen_ok, if_true, hs, hx, Sem.run_pure]
theorem eqI (d : Nat) (x : Int) (w : World) : (Op.equalIn (d + 1) 3 (.int .i64 x) (.int .i64 x)).run Tryd.prog w = .ok true w := by
  rw [run_equalIn_int w d _ _ _ _ _ Tryd.underlying3]; simp
theorem eqE (d : Nat) (a b : Int) (w : World) : (Op.equalIn (d + 1 + 1) 24 (.agg #[.int .i64 a, .int .i64 b]) (.agg #[.int .i64 a, .int .i64 b])).run Tryd.prog w = .ok true w := by
  rw [run_equalIn_agg w (d + 1) 24 _ _ (by kernel_rfl) (by kernel_rfl)]
  have n1 : ("Addr" : String) ≠ "_" := by decide
  have n2 : ("Port" : String) ≠ "_" := by decide
  simp only [Program.fieldsOf, Tryd.underlying24, Op.eqFields, Sem.run_bind, Sem.run_ite, ne_eq, n1, n2, not_false_eq_true, if_true, partI #[.int .i64 a, .int .i64 b] 0 (.int .i64 a) rfl, partI #[.int .i64 a, .int .i64 b] 1 (.int .i64 b) rfl, Result.andThen_ok, eqI, Bool.not_true, Bool.false_eq_true, if_false, Sem.run_pure]
theorem eqFl (d : Nat) (c : Ce) (w : World) : (Op.equalIn (d + 1 + 1 + 1) 77 (flowV c) (flowV c)).run Tryd.prog w = .ok true w := by
  unfold flowV
  rw [run_equalIn_agg w (d + 1 + 1) 77 _ _ (by kernel_rfl) (by kernel_rfl)]
  have p0 : ∀ w : World, (part 3 #[.int .i64 c.pr, .int .i64 c.ia, .int .i64 c.ip, .int .i64 c.fa, .int .i64 c.fp, .int .i64 c.po, .int .i64 c.st, .int .i64 c.un] 0).run Tryd.prog w = .ok (.int .i64 c.pr) w := fun w => partI _ _ _ rfl
  have p5 : ∀ w : World, (part 3 #[.int .i64 c.pr, .int .i64 c.ia, .int .i64 c.ip, .int .i64 c.fa, .int .i64 c.fp, .int .i64 c.po, .int .i64 c.st, .int .i64 c.un] 5).run Tryd.prog w = .ok (.int .i64 c.po) w := fun w => partI _ _ _ rfl
  have p6 : ∀ w : World, (part 3 #[.int .i64 c.pr, .int .i64 c.ia, .int .i64 c.ip, .int .i64 c.fa, .int .i64 c.fp, .int .i64 c.po, .int .i64 c.st, .int .i64 c.un] 6).run Tryd.prog w = .ok (.int .i64 c.st) w := fun w => partI _ _ _ rfl
  have p7 : ∀ w : World, (part 3 #[.int .i64 c.pr, .int .i64 c.ia, .int .i64 c.ip, .int .i64 c.fa, .int .i64 c.fp, .int .i64 c.po, .int .i64 c.st, .int .i64 c.un] 7).run Tryd.prog w = .ok (.int .i64 c.un) w := fun w => partI _ _ _ rfl
  have p1 : ∀ w : World, (part 24 #[.int .i64 c.pr, .int .i64 c.ia, .int .i64 c.ip, .int .i64 c.fa, .int .i64 c.fp, .int .i64 c.po, .int .i64 c.st, .int .i64 c.un] 1).run Tryd.prog w = .ok (.agg #[.int .i64 c.ia, .int .i64 c.ip]) w := fun w => partE _ _ _ rfl
  have p3 : ∀ w : World, (part 24 #[.int .i64 c.pr, .int .i64 c.ia, .int .i64 c.ip, .int .i64 c.fa, .int .i64 c.fp, .int .i64 c.po, .int .i64 c.st, .int .i64 c.un] 3).run Tryd.prog w = .ok (.agg #[.int .i64 c.fa, .int .i64 c.fp]) w := fun w => partE _ _ _ rfl
  have n1 : ("Proto" : String) ≠ "_" := by decide
  have n2 : ("Inner" : String) ≠ "_" := by decide
  have n3 : ("Far" : String) ≠ "_" := by decide
  have n4 : ("Port" : String) ≠ "_" := by decide
  have n5 : ("State" : String) ≠ "_" := by decide
  have n6 : ("Until" : String) ≠ "_" := by decide
  simp only [Program.fieldsOf, Tryd.underlying77, Op.eqFields, Sem.run_bind, Sem.run_ite, ne_eq, n1, n2, n3, n4, n5, n6, not_false_eq_true, if_true, p0, p1, p3, p5, p6, p7, Result.andThen_ok, eqI, eqE, Bool.not_true, Bool.false_eq_true, if_false, Sem.run_pure]
theorem eqCl (d : Nat) (i : Int) (c : Ce) (w : World) : (Op.equalIn (d + 1 + 1 + 1 + 1) 86 (.agg #[.int .i64 i, .int .i64 c.ve, .int .i64 c.pr, .int .i64 c.ia, .int .i64 c.ip, .int .i64 c.fa, .int .i64 c.fp, .int .i64 c.po, .int .i64 c.st, .int .i64 c.un]) (.agg #[.int .i64 i, .int .i64 c.ve, .int .i64 c.pr, .int .i64 c.ia, .int .i64 c.ip, .int .i64 c.fa, .int .i64 c.fp, .int .i64 c.po, .int .i64 c.st, .int .i64 c.un])).run Tryd.prog w = .ok true w := by
  rw [run_equalIn_agg w (d + 1 + 1 + 1) 86 _ _ (by kernel_rfl) (by kernel_rfl)]
  have p0 : ∀ w : World, (part 3 #[.int .i64 i, .int .i64 c.ve, .int .i64 c.pr, .int .i64 c.ia, .int .i64 c.ip, .int .i64 c.fa, .int .i64 c.fp, .int .i64 c.po, .int .i64 c.st, .int .i64 c.un] 0).run Tryd.prog w = .ok (.int .i64 i) w := fun w => partI _ _ _ rfl
  have p1 : ∀ w : World, (part 3 #[.int .i64 i, .int .i64 c.ve, .int .i64 c.pr, .int .i64 c.ia, .int .i64 c.ip, .int .i64 c.fa, .int .i64 c.fp, .int .i64 c.po, .int .i64 c.st, .int .i64 c.un] 1).run Tryd.prog w = .ok (.int .i64 c.ve) w := fun w => partI _ _ _ rfl
  have p2 : ∀ w : World, (part 77 #[.int .i64 i, .int .i64 c.ve, .int .i64 c.pr, .int .i64 c.ia, .int .i64 c.ip, .int .i64 c.fa, .int .i64 c.fp, .int .i64 c.po, .int .i64 c.st, .int .i64 c.un] 2).run Tryd.prog w = .ok (flowV c) w := fun w => partF _ _ _ rfl
  have n1 : ("Slot" : String) ≠ "_" := by decide
  have n2 : ("Version" : String) ≠ "_" := by decide
  have n3 : ("F" : String) ≠ "_" := by decide
  simp only [Program.fieldsOf, Tryd.underlying86, Op.eqFields, Sem.run_bind, Sem.run_ite, ne_eq, n1, n2, n3, not_false_eq_true, if_true, p0, p1, p2, Result.andThen_ok, eqI, eqFl, Bool.not_true, Bool.false_eq_true, if_false, Sem.run_pure]
theorem neq_cell (i : Int) (c : Ce) (w : World) : (binOp .neq 86 (.agg #[.int .i64 i, .int .i64 c.ve, .int .i64 c.pr, .int .i64 c.ia, .int .i64 c.ip, .int .i64 c.fa, .int .i64 c.fp, .int .i64 c.po, .int .i64 c.st, .int .i64 c.un]) (.agg #[.int .i64 i, .int .i64 c.ve, .int .i64 c.pr, .int .i64 c.ia, .int .i64 c.ip, .int .i64 c.fa, .int .i64 c.fp, .int .i64 c.po, .int .i64 c.st, .int .i64 c.un])).run Tryd.prog w = .ok (.bool false) w := by
  rw [run_neq_struct, show (10000 : Nat) = 9996 + 1 + 1 + 1 + 1 from rfl, eqCl]
  rfl

end Go.Proofs.YtjfhompbeengmaaDoor

namespace Go.Proofs.YtjfhompbeengmaaDoor
open Go.RowKit

/-- a table in memory. -/
def Tab (w : World) (b : Nat) (low : Int) (T : Tb) : Prop := w.heap[b]? = some (.cells (tabArr low T) 89 (0, 0))
theorem Tab.low {w : World} {b : Nat} {low : Int} {T : Tb} (h : Tab w b low T) : w.cell? ⟨b, 0, none⟩ = some (.int .i64 low) := by
  rw [cell_of_row w b 0 _ _ _ h, tabArr_low]
theorem Tab.at' {w : World} {b : Nat} {low : Int} {T : Tb} (h : Tab w b low T) {i k : Nat} (hi : i < 32) (hk : k < 10) : w.cell? ⟨b, 1 + i * 10 + k, none⟩ = some (.int .i64 ((T i).get i k)) := by
  rw [cell_of_row w b _ _ _ _ h, tabArr_at low T i k hi hk]
theorem Tab.fr {w : World} {b : Nat} {low : Int} {T : Tb} (h : Tab w b low T) (j : Nat) : w.frozen? ⟨b, j, none⟩ = false := frozen_of_row w b j _ _ h
theorem Tab.lt {w : World} {b : Nat} {low : Int} {T : Tb} (h : Tab w b low T) : b < w.heap.size := by
  rcases Nat.lt_or_ge b w.heap.size with h1 | h1
  · exact h1
  · rw [Tab, Array.getElem?_eq_none h1] at h; cases h
theorem Tab.below {w w' : World} {b : Nat} {low : Int} {T : Tb} (h : Tab w b low T) (hb : Below w.heap.size w w') : Tab w' b low T := by
  unfold Tab; rw [hb.block b h.lt]; exact h
theorem Tab.put {w : World} {b : Nat} {low : Int} {T : Tb} (h : Tab w b low T) {i k : Nat} (x : Int) (hi : i < 32) (h1 : 1 ≤ k) (hk : k < 10) : Tab (w.setCell ⟨b, 1 + i * 10 + k, none⟩ (.int .i64 x)) b low (upd T i ((T i).put x k)) := by
  unfold Tab; rw [heap_setCell_same w b _ _ _ _ h, tabArr_put low T i k x hi h1 hk]
theorem Tab.alloc {w : World} {b : Nat} {low : Int} {T : Tb} (h : Tab w b low T) (o : Obj) : Tab (w.alloc o) b low T := h.below ((Below.refl _ _).alloc (Nat.le_refl _) _)
theorem Tab.drew {w : World} {b : Nat} {low : Int} {T : Tb} (h : Tab w b low T) : Tab w.drew b low T := h.below (Below.refl _ _).drew
theorem arr_load {w : World} {b : Nat} {low : Int} {T : Tb} (h : Tab w b low T) : (Instr.loadAt 87 (.pointer (some ⟨b, 1, none⟩))).run Tryd.prog w = .ok (.agg (slotsArr T)) w := by
  have hl : (loadCells ⟨b, 1, none⟩ (slotsArr T).toList.length).run Tryd.prog w = .ok (slotsArr T).toList.toArray w :=
    run_loadCells_list (P := Tryd.prog) w ⟨b, 1, none⟩ (slotsArr T).toList (fun j v hv => by
      have hadd : (⟨b, 1, none⟩ : Addr).add j = ⟨b, 1 + j, none⟩ := by unfold Addr.add; split <;> simp_all
      have hj : j < 320 := by
        have := (List.getElem?_eq_some_iff.1 hv).1
        rwa [Array.length_toList, slotsArr_size] at this
      rw [hadd, cell_of_row w b _ _ _ _ h, tabArr_slots low T j hj]
      simpa using hv)
  simp only [Array.length_toList, Array.toArray_toList, slotsArr_size] at hl
  have hagg : (isAgg 87).run Tryd.prog w = .ok true w := by
    unfold isAgg
    rw [Sem.run_bind, run_underlying Tryd.underlying87 w]
    rfl
  have hs : (sizeOf 87).run Tryd.prog w = .ok 320 w := by kernel_rfl
  simp only [Instr.loadAt, Instr.sureAddr, Sem.run_bind, Sem.run_pure, Result.andThen_ok, loadVar, hagg, hs, hl, if_true]
end Go.Proofs.YtjfhompbeengmaaDoor

namespace Go.Proofs.YtjfhompbeengmaaDoor
open Go.RowKit

theorem isFlow_any (c : Ce) (w : World) : Calls Tryd.prog 40 #[flowV c] w fun e w' => e = .returned (.bool (c.pr != 0)) ∧ Below w.heap.size w w' := by
  unfold flowV
  go_enter Tryd.func40, Tryd.ntmps40
  go_wp2_with fail
  go_ret
  exact ⟨rfl, (Below.refl _ _).alloc (Nat.le_refl _) _⟩
theorem isSlot_any (k : Int) (w : World) : Calls Tryd.prog 84 #[.int .i64 k] w fun e w' => e = .returned (.bool (decide (0 ≤ k) && decide (k < 32))) ∧ w' = w := by
  go_enter Tryd.func84, Tryd.ntmps84
  go_wp2_with fail
  all_goals go_ret
  all_goals refine ⟨?_, rfl⟩
  all_goals first | (simp_all; done) | (simp_all; omega)
/-- what the three functions have captured. -/
structure FindC (w : World) (X : Nat) (pr ia ip fa fp : Int) : Prop where
  c0 : w.cell? ⟨X, 0, none⟩ = some (.int .i64 pr)
  c1 : w.cell? ⟨X + 1, 0, none⟩ = some (.int .i64 ia)
  c2 : w.cell? ⟨X + 1, 1, none⟩ = some (.int .i64 ip)
  c3 : w.cell? ⟨X + 2, 0, none⟩ = some (.int .i64 fa)
  c4 : w.cell? ⟨X + 2, 1, none⟩ = some (.int .i64 fp)
structure BackC (w : World) (X : Nat) (pr po fa fp : Int) : Prop where
  c0 : w.cell? ⟨X, 0, none⟩ = some (.int .i64 pr)
  c1 : w.cell? ⟨X + 1, 0, none⟩ = some (.int .i64 po)
  c3 : w.cell? ⟨X + 2, 0, none⟩ = some (.int .i64 fa)
  c4 : w.cell? ⟨X + 2, 1, none⟩ = some (.int .i64 fp)
theorem FindC.below {w w' : World} {X : Nat} {pr ia ip fa fp : Int} (h : FindC w X pr ia ip fa fp) (hb : Below w.heap.size w w') : FindC w' X pr ia ip fa fp := ⟨tk hb h.c0, tk hb h.c1, tk hb h.c2, tk hb h.c3, tk hb h.c4⟩
theorem BackC.below {w w' : World} {X : Nat} {pr po fa fp : Int} (h : BackC w X pr po fa fp) (hb : Below w.heap.size w w') : BackC w' X pr po fa fp := ⟨tk hb h.c0, tk hb h.c1, tk hb h.c3, tk hb h.c4⟩
abbrev findFn (X : Nat) : Value := .func (.func 66) #[] #[.pointer (some ⟨X, 0, none⟩), .pointer (some ⟨X + 1, 0, none⟩), .pointer (some ⟨X + 2, 0, none⟩)]
abbrev backFn (X : Nat) : Value := .func (.func 51) #[] #[.pointer (some ⟨X, 0, none⟩), .pointer (some ⟨X + 1, 0, none⟩), .pointer (some ⟨X + 2, 0, none⟩)]
abbrev freeFn : Value := .func (.func 87) #[] #[]
set_option maxRecDepth 100000 in
set_option maxHeartbeats 2000000 in
theorem findF_any (X : Nat) (pr ia ip fa fp : Int) (c : Ce) (w : World) (C : FindC w X pr ia ip fa fp) :
    Calls Tryd.prog 66 #[flowV c, .pointer (some ⟨X, 0, none⟩), .pointer (some ⟨X + 1, 0, none⟩), .pointer (some ⟨X + 2, 0, none⟩)] w fun e w' => e = .returned (.bool (findQ pr ia ip fa fp c)) ∧ Below w.heap.size w w' := by
  have HC : Hid (FindC w X pr ia ip fa fp) := C
  clear C
  have hF : flowV c = .agg #[.int .i64 c.pr, .int .i64 c.ia, .int .i64 c.ip, .int .i64 c.fa, .int .i64 c.fp, .int .i64 c.po, .int .i64 c.st, .int .i64 c.un] := rfl
  rw [hF]
  clear hF
  go_enter Tryd.func66, Tryd.ntmps66
  go_wp2_with fail
  refine (isFlow_any c _).mono ?_
  rintro e w1 ⟨rfl, hb1⟩
  have B0 : Hid (Below w.heap.size w (w.alloc (.cells #[.int .i64 c.pr, .int .i64 c.ia, .int .i64 c.ip, .int .i64 c.fa, .int .i64 c.fp, .int .i64 c.po, .int .i64 c.st, .int .i64 c.un] 77))) := (Below.refl _ _).alloc (Nat.le_refl _) _
  have B1 : Hid (Below w.heap.size w w1) := t2 B0.out hb1
  have f0 : w1.cell? ⟨w.heap.size, 0, none⟩ = some (.int .i64 c.pr) := tk hb1 ((nw _ _ _ _).trans rfl)
  have f1 : w1.cell? ⟨w.heap.size, 1, none⟩ = some (.int .i64 c.ia) := tk hb1 ((nw _ _ _ _).trans rfl)
  have f2 : w1.cell? ⟨w.heap.size, 2, none⟩ = some (.int .i64 c.ip) := tk hb1 ((nw _ _ _ _).trans rfl)
  have f3 : w1.cell? ⟨w.heap.size, 3, none⟩ = some (.int .i64 c.fa) := tk hb1 ((nw _ _ _ _).trans rfl)
  have f4 : w1.cell? ⟨w.heap.size, 4, none⟩ = some (.int .i64 c.fp) := tk hb1 ((nw _ _ _ _).trans rfl)
  clear hb1 B0
  have C1 := HC.out.below B1.out
  have c0 := C1.c0
  have c1 := C1.c1
  have c2 := C1.c2
  have c3 := C1.c3
  have c4 := C1.c4
  clear C1
  have e1 : ∀ w : World, (binOp .eql 24 (.agg #[.int .i64 c.ia, .int .i64 c.ip]) (.agg #[.int .i64 ia, .int .i64 ip])).run Tryd.prog w = .ok (.bool (c.ia == ia && c.ip == ip)) w := eql_end _ _ _ _
  have e2 : ∀ w : World, (binOp .eql 24 (.agg #[.int .i64 c.fa, .int .i64 c.fp]) (.agg #[.int .i64 fa, .int .i64 fp])).run Tryd.prog w = .ok (.bool (c.fa == fa && c.fp == fp)) w := eql_end _ _ _ _
  have HQ : Hid (findQ pr ia ip fa fp c = ((c.pr != 0) && ((c.pr == pr) && ((c.ia == ia && c.ip == ip) && (c.fa == fa && c.fp == fp))))) := rfl
  generalize (c.ia == ia && c.ip == ip) = b3 at e1 HQ
  generalize (c.fa == fa && c.fp == fp) = b4 at e2 HQ
  rcases h1 : (c.pr != 0) with _ | _
  · rw [h1] at HQ
    go_wp2_with fail
    go_ret
    exact ⟨by rw [HQ.out]; rfl, B1.out⟩
  rcases h2 : (c.pr == pr) with _ | _
  · rw [h1, h2] at HQ
    go_wp2_with fail
    go_ret
    exact ⟨by rw [HQ.out]; rfl, B1.out⟩
  rw [h1, h2] at HQ
  cases b3
  · go_wp2_with fail
    go_ret
    exact ⟨by rw [HQ.out]; rfl, B1.out⟩
  · go_wp2_with fail
    go_ret
    exact ⟨by rw [HQ.out]; rfl, B1.out⟩
set_option maxRecDepth 100000 in
set_option maxHeartbeats 2000000 in
theorem backF_any (X : Nat) (pr po fa fp : Int) (c : Ce) (w : World) (C : BackC w X pr po fa fp) :
    Calls Tryd.prog 51 #[flowV c, .pointer (some ⟨X, 0, none⟩), .pointer (some ⟨X + 1, 0, none⟩), .pointer (some ⟨X + 2, 0, none⟩)] w fun e w' => e = .returned (.bool (backQ pr po fa fp c)) ∧ Below w.heap.size w w' := by
  have HC : Hid (BackC w X pr po fa fp) := C
  clear C
  have hF : flowV c = .agg #[.int .i64 c.pr, .int .i64 c.ia, .int .i64 c.ip, .int .i64 c.fa, .int .i64 c.fp, .int .i64 c.po, .int .i64 c.st, .int .i64 c.un] := rfl
  rw [hF]
  clear hF
  go_enter Tryd.func51, Tryd.ntmps51
  go_wp2_with fail
  refine (isFlow_any c _).mono ?_
  rintro e w1 ⟨rfl, hb1⟩
  have B0 : Hid (Below w.heap.size w (w.alloc (.cells #[.int .i64 c.pr, .int .i64 c.ia, .int .i64 c.ip, .int .i64 c.fa, .int .i64 c.fp, .int .i64 c.po, .int .i64 c.st, .int .i64 c.un] 77))) := (Below.refl _ _).alloc (Nat.le_refl _) _
  have B1 : Hid (Below w.heap.size w w1) := t2 B0.out hb1
  have f0 : w1.cell? ⟨w.heap.size, 0, none⟩ = some (.int .i64 c.pr) := tk hb1 ((nw _ _ _ _).trans rfl)
  have f5 : w1.cell? ⟨w.heap.size, 5, none⟩ = some (.int .i64 c.po) := tk hb1 ((nw _ _ _ _).trans rfl)
  have f3 : w1.cell? ⟨w.heap.size, 3, none⟩ = some (.int .i64 c.fa) := tk hb1 ((nw _ _ _ _).trans rfl)
  have f4 : w1.cell? ⟨w.heap.size, 4, none⟩ = some (.int .i64 c.fp) := tk hb1 ((nw _ _ _ _).trans rfl)
  clear hb1 B0
  have C1 := HC.out.below B1.out
  have c0 := C1.c0
  have c1 := C1.c1
  have c3 := C1.c3
  have c4 := C1.c4
  clear C1
  have e2 : ∀ w : World, (binOp .eql 24 (.agg #[.int .i64 c.fa, .int .i64 c.fp]) (.agg #[.int .i64 fa, .int .i64 fp])).run Tryd.prog w = .ok (.bool (c.fa == fa && c.fp == fp)) w := eql_end _ _ _ _
  have HQ : Hid (backQ pr po fa fp c = ((c.pr != 0) && ((c.pr == pr) && ((c.po == po) && (c.fa == fa && c.fp == fp))))) := rfl
  generalize (c.fa == fa && c.fp == fp) = b4 at e2 HQ
  rcases h1 : (c.pr != 0) with _ | _
  · rw [h1] at HQ
    go_wp2_with fail
    go_ret
    exact ⟨by rw [HQ.out]; rfl, B1.out⟩
  rcases h2 : (c.pr == pr) with _ | _
  · rw [h1, h2] at HQ
    go_wp2_with fail
    go_ret
    exact ⟨by rw [HQ.out]; rfl, B1.out⟩
  rcases h3 : (c.po == po) with _ | _
  · rw [h1, h2, h3] at HQ
    go_wp2_with fail
    go_ret
    exact ⟨by rw [HQ.out]; rfl, B1.out⟩
  · rw [h1, h2, h3] at HQ
    go_wp2_with fail
    go_ret
    exact ⟨by rw [HQ.out]; rfl, B1.out⟩
theorem freeF_any (c : Ce) (w : World) :
    Calls Tryd.prog 87 #[flowV c] w fun e w' => e = .returned (.bool (freeQ c)) ∧ Below w.heap.size w w' := by
  have hF : flowV c = .agg #[.int .i64 c.pr, .int .i64 c.ia, .int .i64 c.ip, .int .i64 c.fa, .int .i64 c.fp, .int .i64 c.po, .int .i64 c.st, .int .i64 c.un] := rfl
  rw [hF]
  clear hF
  go_enter Tryd.func87, Tryd.ntmps87
  go_wp2_with fail
  refine (isFlow_any c _).mono ?_
  rintro e w1 ⟨rfl, hb1⟩
  have B1 : Hid (Below w.heap.size w w1) := t2 ((Below.refl _ _).alloc (Nat.le_refl _) _) hb1
  clear hb1
  go_wp2_with fail
  go_ret
  refine ⟨?_, B1.out⟩
  unfold freeQ
  show Ending.returned (.bool (!(!(c.pr == 0)))) = _
  rw [Bool.not_not]
/-- how a slot that was found is answered. -/
def fstV : Option Nat → Value
  | some k => .tuple #[.int .i64 k, .bool true]
  | none => .tuple #[.int .i64 0, .bool false]
set_option maxRecDepth 100000 in
set_option maxHeartbeats 2000000 in
theorem first_find (b : Nat) (low : Int) (T : Tb) (X : Nat) (pr ia ip fa fp : Int) (w : World) (t : Tab w b low T) (C : FindC w X pr ia ip fa fp) :
    Calls Tryd.prog 50 #[.pointer (some ⟨b, 0, none⟩), findFn X] w fun e w' => e = .returned (fstV (fst T (findQ pr ia ip fa fp))) ∧ Below w.heap.size w w' := by
  have HC : Hid (FindC w X pr ia ip fa fp) := C
  clear C
  have HT : Hid (Tab w b low T) := t
  have hld := arr_load t
  clear t
  go_enter Tryd.func50, Tryd.ntmps50
  go_wp2_with (refine wpList_load_at rfl 87 _ rfl _ _ rfl hld ?_)
  clear hld
  go_loopw [12] (fun t wr => ∃ j : Nat, j ≤ 32 ∧ t = .int .i64 j ∧ (∀ i, i < j → (findQ pr ia ip fa fp) (T i) = false) ∧ Below w.heap.size w wr) (fun t _ => 32 - (intOf t).toNat)
  case atStart => exact ⟨0, by omega, rfl, fun i hi => by omega, Below.refl _ _⟩
  case round =>
    obtain ⟨j, hj, rfl, hno, hbr⟩ := hrel
    have HN : Hid (∀ i, i < j → (findQ pr ia ip fa fp) (T i) = false) := hno
    have HB : Hid (Below w.heap.size w wr) := hbr
    clear hno hbr
    by_cases hlt : j < 32
    · obtain ⟨c, hc⟩ : ∃ c, c = T j := ⟨_, rfl⟩
      have HCj : Hid (c = T j) := hc
      have hix : (Instr.index 87 (.agg (slotsArr T)) (.int .i64 j)).run Tryd.prog wr = .ok (.agg #[.int .i64 j, .int .i64 c.ve, .int .i64 c.pr, .int .i64 c.ia, .int .i64 c.ip, .int .i64 c.fa, .int .i64 c.fp, .int .i64 c.po, .int .i64 c.st, .int .i64 c.un]) wr := by
        rw [hc]; exact arr_index T j hlt wr
      clear hc
      go_wp2_with fail
      refine (findF_any X pr ia ip fa fp c _ (HC.out.below (HB.out.alloc HB.out.size _))).mono ?_
      rintro e w2 ⟨rfl, hb2⟩
      have HB2 : Hid (Below w.heap.size w w2) := t2 (HB.out.alloc HB.out.size _) hb2
      clear hb2 hix
      rcases hq : (findQ pr ia ip fa fp) c with _ | _
      · have HN2 : Hid (∀ i, i < j + 1 → (findQ pr ia ip fa fp) (T i) = false) := fun i hi => by
          by_cases e : i = j
          · rw [e, ← HCj.out]; exact hq
          · exact HN.out i (by omega)
        clear hq
        go_wp2_with fail
        go_roundw
        case rel => exact ⟨j + 1, by omega, by go_num, HN2.out, HB2.out⟩
        case measure => simp [intOf]; omega
      · have HF : Hid (fst T (findQ pr ia ip fa fp) = some j) := fst_some.2 ⟨hlt, by rw [← HCj.out]; exact hq, HN.out⟩
        clear hq
        go_wp2_with fail
        go_ret2
        refine ⟨?_, HB2.out⟩
        rw [HF.out]
        rfl
    · obtain rfl : j = 32 := by omega
      go_wp2_with fail
      go_ret2
      refine ⟨?_, HB.out⟩
      rw [fst_none.2 HN.out]
      rfl
set_option maxRecDepth 100000 in
set_option maxHeartbeats 2000000 in
theorem first_back (b : Nat) (low : Int) (T : Tb) (X : Nat) (pr po fa fp : Int) (w : World) (t : Tab w b low T) (C : BackC w X pr po fa fp) :
    Calls Tryd.prog 50 #[.pointer (some ⟨b, 0, none⟩), backFn X] w fun e w' => e = .returned (fstV (fst T (backQ pr po fa fp))) ∧ Below w.heap.size w w' := by
  have HC : Hid (BackC w X pr po fa fp) := C
  clear C
  have HT : Hid (Tab w b low T) := t
  have hld := arr_load t
  clear t
  go_enter Tryd.func50, Tryd.ntmps50
  go_wp2_with (refine wpList_load_at rfl 87 _ rfl _ _ rfl hld ?_)
  clear hld
  go_loopw [12] (fun t wr => ∃ j : Nat, j ≤ 32 ∧ t = .int .i64 j ∧ (∀ i, i < j → (backQ pr po fa fp) (T i) = false) ∧ Below w.heap.size w wr) (fun t _ => 32 - (intOf t).toNat)
  case atStart => exact ⟨0, by omega, rfl, fun i hi => by omega, Below.refl _ _⟩
  case round =>
    obtain ⟨j, hj, rfl, hno, hbr⟩ := hrel
    have HN : Hid (∀ i, i < j → (backQ pr po fa fp) (T i) = false) := hno
    have HB : Hid (Below w.heap.size w wr) := hbr
    clear hno hbr
    by_cases hlt : j < 32
    · obtain ⟨c, hc⟩ : ∃ c, c = T j := ⟨_, rfl⟩
      have HCj : Hid (c = T j) := hc
      have hix : (Instr.index 87 (.agg (slotsArr T)) (.int .i64 j)).run Tryd.prog wr = .ok (.agg #[.int .i64 j, .int .i64 c.ve, .int .i64 c.pr, .int .i64 c.ia, .int .i64 c.ip, .int .i64 c.fa, .int .i64 c.fp, .int .i64 c.po, .int .i64 c.st, .int .i64 c.un]) wr := by
        rw [hc]; exact arr_index T j hlt wr
      clear hc
      go_wp2_with fail
      refine (backF_any X pr po fa fp c _ (HC.out.below (HB.out.alloc HB.out.size _))).mono ?_
      rintro e w2 ⟨rfl, hb2⟩
      have HB2 : Hid (Below w.heap.size w w2) := t2 (HB.out.alloc HB.out.size _) hb2
      clear hb2 hix
      rcases hq : (backQ pr po fa fp) c with _ | _
      · have HN2 : Hid (∀ i, i < j + 1 → (backQ pr po fa fp) (T i) = false) := fun i hi => by
          by_cases e : i = j
          · rw [e, ← HCj.out]; exact hq
          · exact HN.out i (by omega)
        clear hq
        go_wp2_with fail
        go_roundw
        case rel => exact ⟨j + 1, by omega, by go_num, HN2.out, HB2.out⟩
        case measure => simp [intOf]; omega
      · have HF : Hid (fst T (backQ pr po fa fp) = some j) := fst_some.2 ⟨hlt, by rw [← HCj.out]; exact hq, HN.out⟩
        clear hq
        go_wp2_with fail
        go_ret2
        refine ⟨?_, HB2.out⟩
        rw [HF.out]
        rfl
    · obtain rfl : j = 32 := by omega
      go_wp2_with fail
      go_ret2
      refine ⟨?_, HB.out⟩
      rw [fst_none.2 HN.out]
      rfl
set_option maxRecDepth 100000 in
set_option maxHeartbeats 2000000 in
theorem first_free (b : Nat) (low : Int) (T : Tb) (w : World) (t : Tab w b low T) :
    Calls Tryd.prog 50 #[.pointer (some ⟨b, 0, none⟩), freeFn] w fun e w' => e = .returned (fstV (fst T freeQ)) ∧ Below w.heap.size w w' := by
  have HT : Hid (Tab w b low T) := t
  have hld := arr_load t
  clear t
  go_enter Tryd.func50, Tryd.ntmps50
  go_wp2_with (refine wpList_load_at rfl 87 _ rfl _ _ rfl hld ?_)
  clear hld
  go_loopw [12] (fun t wr => ∃ j : Nat, j ≤ 32 ∧ t = .int .i64 j ∧ (∀ i, i < j → freeQ (T i) = false) ∧ Below w.heap.size w wr) (fun t _ => 32 - (intOf t).toNat)
  case atStart => exact ⟨0, by omega, rfl, fun i hi => by omega, Below.refl _ _⟩
  case round =>
    obtain ⟨j, hj, rfl, hno, hbr⟩ := hrel
    have HN : Hid (∀ i, i < j → freeQ (T i) = false) := hno
    have HB : Hid (Below w.heap.size w wr) := hbr
    clear hno hbr
    by_cases hlt : j < 32
    · obtain ⟨c, hc⟩ : ∃ c, c = T j := ⟨_, rfl⟩
      have HCj : Hid (c = T j) := hc
      have hix : (Instr.index 87 (.agg (slotsArr T)) (.int .i64 j)).run Tryd.prog wr = .ok (.agg #[.int .i64 j, .int .i64 c.ve, .int .i64 c.pr, .int .i64 c.ia, .int .i64 c.ip, .int .i64 c.fa, .int .i64 c.fp, .int .i64 c.po, .int .i64 c.st, .int .i64 c.un]) wr := by
        rw [hc]; exact arr_index T j hlt wr
      clear hc
      go_wp2_with fail
      refine (freeF_any c _).mono ?_
      rintro e w2 ⟨rfl, hb2⟩
      have HB2 : Hid (Below w.heap.size w w2) := t2 (HB.out.alloc HB.out.size _) hb2
      clear hb2 hix
      rcases hq : freeQ c with _ | _
      · have HN2 : Hid (∀ i, i < j + 1 → freeQ (T i) = false) := fun i hi => by
          by_cases e : i = j
          · rw [e, ← HCj.out]; exact hq
          · exact HN.out i (by omega)
        clear hq
        go_wp2_with fail
        go_roundw
        case rel => exact ⟨j + 1, by omega, by go_num, HN2.out, HB2.out⟩
        case measure => simp [intOf]; omega
      · have HF : Hid (fst T freeQ = some j) := fst_some.2 ⟨hlt, by rw [← HCj.out]; exact hq, HN.out⟩
        clear hq
        go_wp2_with fail
        go_ret2
        refine ⟨?_, HB2.out⟩
        rw [HF.out]
        rfl
    · obtain rfl : j = 32 := by omega
      go_wp2_with fail
      go_ret2
      refine ⟨?_, HB.out⟩
      rw [fst_none.2 HN.out]
      rfl
end Go.Proofs.YtjfhompbeengmaaDoor

namespace Go.Proofs.YtjfhompbeengmaaDoor
open Go.RowKit

theorem findC_new (w : World) (pr ia ip fa fp : Int) : FindC (((w.alloc (.cells #[.int .i64 pr] 3)).alloc (.cells #[.int .i64 ia, .int .i64 ip] 24)).alloc (.cells #[.int .i64 fa, .int .i64 fp] 24)) w.heap.size pr ia ip fa fp := by
  have s1 : ((w.alloc (.cells #[.int .i64 pr] 3))).heap.size = w.heap.size + 1 := by simp
  have s2 : (((w.alloc (.cells #[.int .i64 pr] 3)).alloc (.cells #[.int .i64 ia, .int .i64 ip] 24))).heap.size = w.heap.size + 2 := by simp
  have A : ∀ (v : World) (o : Obj), Below v.heap.size v (v.alloc o) := fun v o => (Below.refl _ _).alloc (Nat.le_refl _) _
  have n1 := nw (w.alloc (.cells #[.int .i64 pr] 3)) #[.int .i64 ia, .int .i64 ip] 24
  have n2 := nw ((w.alloc (.cells #[.int .i64 pr] 3)).alloc (.cells #[.int .i64 ia, .int .i64 ip] 24)) #[.int .i64 fa, .int .i64 fp] 24
  rw [s1] at n1
  rw [s2] at n2
  exact ⟨tk (A _ _) (tk (A _ _) ((nw w _ _ 0).trans rfl)), tk (A _ _) ((n1 0).trans rfl), tk (A _ _) ((n1 1).trans rfl), (n2 0).trans rfl, (n2 1).trans rfl⟩
theorem backC_new (w : World) (pr po fa fp : Int) : BackC (((w.alloc (.cells #[.int .i64 pr] 3)).alloc (.cells #[.int .i64 po] 3)).alloc (.cells #[.int .i64 fa, .int .i64 fp] 24)) w.heap.size pr po fa fp := by
  have s1 : ((w.alloc (.cells #[.int .i64 pr] 3))).heap.size = w.heap.size + 1 := by simp
  have s2 : (((w.alloc (.cells #[.int .i64 pr] 3)).alloc (.cells #[.int .i64 po] 3))).heap.size = w.heap.size + 2 := by simp
  have A : ∀ (v : World) (o : Obj), Below v.heap.size v (v.alloc o) := fun v o => (Below.refl _ _).alloc (Nat.le_refl _) _
  have n1 := nw (w.alloc (.cells #[.int .i64 pr] 3)) #[.int .i64 po] 3
  have n2 := nw ((w.alloc (.cells #[.int .i64 pr] 3)).alloc (.cells #[.int .i64 po] 3)) #[.int .i64 fa, .int .i64 fp] 24
  rw [s1] at n1
  rw [s2] at n2
  exact ⟨tk (A _ _) (tk (A _ _) ((nw w _ _ 0).trans rfl)), tk (A _ _) ((n1 0).trans rfl), (n2 0).trans rfl, (n2 1).trans rfl⟩
theorem fstV_eq (o : Option Nat) : fstV o = .tuple #[.int .i64 ((o.getD 0 : Nat) : Int), .bool o.isSome] := by cases o <;> rfl
set_option maxRecDepth 100000 in
theorem find_any (b : Nat) (low : Int) (T : Tb) (pr ia ip fa fp : Int) (w : World) (t : Tab w b low T) :
    Calls Tryd.prog 48 #[.pointer (some ⟨b, 0, none⟩), .int .i64 pr, .agg #[.int .i64 ia, .int .i64 ip], .agg #[.int .i64 fa, .int .i64 fp]] w fun e w' => e = .returned (.tuple #[.int .i64 (((fst T (findQ pr ia ip fa fp)).getD 0 : Nat) : Int), .bool (fst T (findQ pr ia ip fa fp)).isSome]) ∧ Below w.heap.size w w' := by
  have HT : Hid (Tab w b low T) := t
  clear t
  go_enter Tryd.func48, Tryd.ntmps48
  go_wp2_with fail
  refine (first_find b low T w.heap.size pr ia ip fa fp _ (((HT.out.alloc _).alloc _).alloc _) (findC_new w pr ia ip fa fp)).mono ?_
  rintro e w1 ⟨rfl, hb1⟩
  have B1 : Hid (Below w.heap.size w w1) := t2 (t2 (t2 ((Below.refl _ _).alloc (Nat.le_refl _) _) ((Below.refl _ _).alloc (Nat.le_refl _) _)) ((Below.refl _ _).alloc (Nat.le_refl _) _)) hb1
  clear hb1
  rw [fstV_eq]
  go_wp2_with fail
  go_ret2
  exact ⟨rfl, B1.out⟩
set_option maxRecDepth 100000 in
theorem back_any (b : Nat) (low : Int) (T : Tb) (pr po fa fp : Int) (w : World) (t : Tab w b low T) :
    Calls Tryd.prog 32 #[.pointer (some ⟨b, 0, none⟩), .int .i64 pr, .int .i64 po, .agg #[.int .i64 fa, .int .i64 fp]] w fun e w' => e = .returned (.tuple #[.int .i64 (((fst T (backQ pr po fa fp)).getD 0 : Nat) : Int), .bool (fst T (backQ pr po fa fp)).isSome]) ∧ Below w.heap.size w w' := by
  have HT : Hid (Tab w b low T) := t
  clear t
  go_enter Tryd.func32, Tryd.ntmps32
  go_wp2_with fail
  refine (first_back b low T w.heap.size pr po fa fp _ (((HT.out.alloc _).alloc _).alloc _) (backC_new w pr po fa fp)).mono ?_
  rintro e w1 ⟨rfl, hb1⟩
  have B1 : Hid (Below w.heap.size w w1) := t2 (t2 (t2 ((Below.refl _ _).alloc (Nat.le_refl _) _) ((Below.refl _ _).alloc (Nat.le_refl _) _)) ((Below.refl _ _).alloc (Nat.le_refl _) _)) hb1
  clear hb1
  rw [fstV_eq]
  go_wp2_with fail
  go_ret2
  exact ⟨rfl, B1.out⟩
set_option maxRecDepth 100000 in
theorem free_any (b : Nat) (low : Int) (T : Tb) (w : World) (t : Tab w b low T) :
    Calls Tryd.prog 78 #[.pointer (some ⟨b, 0, none⟩)] w fun e w' => e = .returned (.tuple #[.int .i64 (((fst T freeQ).getD 0 : Nat) : Int), .bool (fst T freeQ).isSome]) ∧ Below w.heap.size w w' := by
  have HT : Hid (Tab w b low T) := t
  clear t
  go_enter Tryd.func78, Tryd.ntmps78
  go_wp2_with fail
  refine (first_free b low T w HT.out).mono ?_
  rintro e w1 ⟨rfl, hb1⟩
  have B1 : Hid (Below w.heap.size w w1) := hb1
  clear hb1
  rw [fstV_eq]
  go_wp2_with fail
  go_ret2
  exact ⟨rfl, B1.out⟩
set_option maxRecDepth 100000 in
set_option maxHeartbeats 2000000 in
theorem port_any (b : Nat) (low : Int) (T : Tb) (pr fa fp : Int) (w : World) (t : Tab w b low T) (h0 : 0 ≤ low) (h1 : low ≤ 100000) :
    Calls Tryd.prog 83 #[.pointer (some ⟨b, 0, none⟩), .int .i64 pr, .agg #[.int .i64 fa, .int .i64 fp]] w fun e w' => (∃ x : Int, e = .returned (.tuple #[.int .i64 x, .bool (freeP T low pr fa fp).isSome]) ∧ ∀ p, freeP T low pr fa fp = some p → x = low + p) ∧ Below w.heap.size w w' := by
  have HT : Hid (Tab w b low T) := t
  have cl := t.low
  have hbl := t.lt
  clear t
  go_enter Tryd.func83, Tryd.ntmps83
  go_wp2_with fail
  have HB0 : Hid (Below w.heap.size w (w.alloc (.cells #[.int .i64 fa, .int .i64 fp] 24))) := (Below.refl _ _).alloc (Nat.le_refl _) _
  have HE : Hid ((w.alloc (.cells #[.int .i64 fa, .int .i64 fp] 24)).cell? ⟨w.heap.size, 0, none⟩ = some (.int .i64 fa) ∧ (w.alloc (.cells #[.int .i64 fa, .int .i64 fp] 24)).cell? ⟨w.heap.size, 1, none⟩ = some (.int .i64 fp)) := ⟨(nw _ _ _ _).trans rfl, (nw _ _ _ _).trans rfl⟩
  have HL : Hid (w.heap.size < (w.alloc (.cells #[.int .i64 fa, .int .i64 fp] 24)).heap.size) := by show _ < _; simp
  generalize w.alloc (.cells #[.int .i64 fa, .int .i64 fp] 24) = w0 at *
  have HT0 : Hid (Tab w0 b low T) := HT.out.below HB0.out
  clear cl hbl
  go_loopw [8] (fun t wr => ∃ j : Nat, j ≤ 24 ∧ t = .int .i64 (low + j) ∧ (∀ i, i < j → (fst T (backQ pr (low + (i : Nat)) fa fp)).isSome = true) ∧ Below w0.heap.size w0 wr) (fun t _ => 24 - (intOf t - low).toNat)
  case atStart => exact ⟨0, by omega, by simp, fun i hi => by omega, Below.refl _ _⟩
  case round =>
    obtain ⟨j, hj, rfl, hno, hbr⟩ := hrel
    have HN : Hid (∀ i, i < j → (fst T (backQ pr (low + (i : Nat)) fa fp)).isSome = true) := hno
    have HB : Hid (Below w0.heap.size w0 wr) := hbr
    have cl := (HT0.out.below hbr).low
    have c0 := tk hbr HE.out.1
    have c1 := tk hbr HE.out.2
    clear hno hbr
    have bb0 : IntKind.i64.wrap (low + 24) = low + 24 := by rw [IntKind.wrap_i64]; omega
    by_cases hlt : j < 24
    · have hd : low + (j : Int) < low + 24 := by omega
      go_wp2_with fail
      refine (back_any b low T pr (low + j) fa fp wr (HT0.out.below HB.out)).mono ?_
      rintro e w2 ⟨rfl, hb2⟩
      have HB2 : Hid (Below w0.heap.size w0 w2) := t2 HB.out hb2
      clear hb2 cl c0 c1
      rcases hq : fst T (backQ pr (low + (j : Nat)) fa fp) with _ | k
      · have HF : Hid (freeP T low pr fa fp = some j) := freeP_some.2 ⟨hlt, hq, HN.out⟩
        clear hq
        simp only [Option.isSome_none, Option.getD_none]
        go_wp2_with fail
        go_ret2
        refine ⟨⟨_, by rw [HF.out]; rfl, fun p hp => ?_⟩, HB0.out.trans (HB2.out.mono HB0.out.size)⟩
        rw [HF.out] at hp
        obtain rfl := Option.some.inj hp
        rfl
      · have HN2 : Hid (∀ i, i < j + 1 → (fst T (backQ pr (low + (i : Nat)) fa fp)).isSome = true) := fun i hi => by
          by_cases e : i = j
          · rw [e, hq]; rfl
          · exact HN.out i (by omega)
        clear hq
        simp only [Option.isSome_some, Option.getD_some]
        go_wp2_with fail
        go_roundw
        case rel => exact ⟨j + 1, by omega, by go_num, HN2.out, HB2.out⟩
        case measure => simp [intOf]; omega
    · obtain rfl : j = 24 := by omega
      have hd : ¬ low + ((24 : Nat) : Int) < low + 24 := by omega
      go_wp2_with fail
      go_ret2
      refine ⟨⟨_, by rw [freeP_none.2 HN.out]; rfl, fun p hp => ?_⟩, HB0.out.trans (HB.out.mono HB0.out.size)⟩
      rw [freeP_none.2 HN.out] at hp
      cases hp
end Go.Proofs.YtjfhompbeengmaaDoor

namespace Go.Proofs.YtjfhompbeengmaaDoor
open Go.RowKit

theorem Tab.chg {b c : Nat} {low : Int} {T : Tb} {w w' : World} (h : Tab w c low T) (k : Chg b w w') (hn : c ≠ b) : Tab w' c low T := by
  unfold Tab; rw [k.block c h.lt hn]; exact h
/-- a flow's eight cells written. -/
theorem tab_put8 {w : World} {b : Nat} {low : Int} {T : Tb} (h : Tab w b low T) (k : Nat) (c : Ce) (hk : k < 32) : Tab ((((((((w.setCell ⟨b, 1 + k * 10 + 2, none⟩ (.int .i64 c.pr)).setCell ⟨b, 1 + k * 10 + 2 + 1, none⟩ (.int .i64 c.ia)).setCell ⟨b, 1 + k * 10 + 2 + 2, none⟩ (.int .i64 c.ip)).setCell ⟨b, 1 + k * 10 + 2 + 3, none⟩ (.int .i64 c.fa)).setCell ⟨b, 1 + k * 10 + 2 + 4, none⟩ (.int .i64 c.fp)).setCell ⟨b, 1 + k * 10 + 2 + 5, none⟩ (.int .i64 c.po)).setCell ⟨b, 1 + k * 10 + 2 + 6, none⟩ (.int .i64 c.st)).setCell ⟨b, 1 + k * 10 + 2 + 7, none⟩ (.int .i64 c.un)) b low (upd T k ⟨(T k).ve, c.pr, c.ia, c.ip, c.fa, c.fp, c.po, c.st, c.un⟩) := by
  have h := h.put (i := k) (k := 2) c.pr hk (by omega) (by omega)
  have h := h.put (i := k) (k := 3) c.ia hk (by omega) (by omega)
  have h := h.put (i := k) (k := 4) c.ip hk (by omega) (by omega)
  have h := h.put (i := k) (k := 5) c.fa hk (by omega) (by omega)
  have h := h.put (i := k) (k := 6) c.fp hk (by omega) (by omega)
  have h := h.put (i := k) (k := 7) c.po hk (by omega) (by omega)
  have h := h.put (i := k) (k := 8) c.st hk (by omega) (by omega)
  have h := h.put (i := k) (k := 9) c.un hk (by omega) (by omega)
  simp only [upd_same, upd_upd] at h
  exact h
theorem chg_put8 (w : World) (b k : Nat) (c : Ce) : Chg b w ((((((((w.setCell ⟨b, 1 + k * 10 + 2, none⟩ (.int .i64 c.pr)).setCell ⟨b, 1 + k * 10 + 2 + 1, none⟩ (.int .i64 c.ia)).setCell ⟨b, 1 + k * 10 + 2 + 2, none⟩ (.int .i64 c.ip)).setCell ⟨b, 1 + k * 10 + 2 + 3, none⟩ (.int .i64 c.fa)).setCell ⟨b, 1 + k * 10 + 2 + 4, none⟩ (.int .i64 c.fp)).setCell ⟨b, 1 + k * 10 + 2 + 5, none⟩ (.int .i64 c.po)).setCell ⟨b, 1 + k * 10 + 2 + 6, none⟩ (.int .i64 c.st)).setCell ⟨b, 1 + k * 10 + 2 + 7, none⟩ (.int .i64 c.un)) :=
  (((((((Chg.set b _ w _).trans (Chg.set b _ _ _)).trans (Chg.set b _ _ _)).trans (Chg.set b _ _ _)).trans (Chg.set b _ _ _)).trans (Chg.set b _ _ _)).trans (Chg.set b _ _ _)).trans (Chg.set b _ _ _)
set_option maxRecDepth 100000 in
set_option maxHeartbeats 4000000 in
theorem lay_any (b : Nat) (low : Int) (T : Tb) (k : Nat) (c : Ce) (w : World) (t : Tab w b low T) (hk : k < 32) (hv0 : 0 ≤ (T k).ve) (hv1 : (T k).ve ≤ 1000000000) :
    Calls Tryd.prog 41 #[.pointer (some ⟨b, 0, none⟩), .int .i64 k, flowV c] w fun e w' => e = .returned (.tuple #[]) ∧ Tab w' b low (layT T k c.pr c.ia c.ip c.fa c.fp c.po c.st c.un) ∧ Chg b w w' := by
  have HT : Hid (Tab w b low T) := t
  have hbl := t.lt
  have hi0 : (0 : Int) ≤ (k : Int) := by omega
  have hi1 : (k : Int) < 32 := by omega
  have hF : flowV c = .agg #[.int .i64 c.pr, .int .i64 c.ia, .int .i64 c.ip, .int .i64 c.fa, .int .i64 c.fp, .int .i64 c.po, .int .i64 c.st, .int .i64 c.un] := rfl
  rw [hF]
  clear t hF
  go_enter Tryd.func41, Tryd.ntmps41
  go_wp2_with fail
  have HB0 : Hid (Below w.heap.size w (w.alloc (.cells #[.int .i64 c.pr, .int .i64 c.ia, .int .i64 c.ip, .int .i64 c.fa, .int .i64 c.fp, .int .i64 c.po, .int .i64 c.st, .int .i64 c.un] 77))) := (Below.refl _ _).alloc (Nat.le_refl _) _
  have T0 : Hid (Tab (w.alloc (.cells #[.int .i64 c.pr, .int .i64 c.ia, .int .i64 c.ip, .int .i64 c.fa, .int .i64 c.fp, .int .i64 c.po, .int .i64 c.st, .int .i64 c.un] 77)) b low T) := HT.out.alloc _
  have g0 : (w.alloc (.cells #[.int .i64 c.pr, .int .i64 c.ia, .int .i64 c.ip, .int .i64 c.fa, .int .i64 c.fp, .int .i64 c.po, .int .i64 c.st, .int .i64 c.un] 77)).cell? ⟨w.heap.size, 0, none⟩ = some (.int .i64 c.pr) := (nw _ _ _ _).trans rfl
  have g1 : (w.alloc (.cells #[.int .i64 c.pr, .int .i64 c.ia, .int .i64 c.ip, .int .i64 c.fa, .int .i64 c.fp, .int .i64 c.po, .int .i64 c.st, .int .i64 c.un] 77)).cell? ⟨w.heap.size, 1, none⟩ = some (.int .i64 c.ia) := (nw _ _ _ _).trans rfl
  have g2 : (w.alloc (.cells #[.int .i64 c.pr, .int .i64 c.ia, .int .i64 c.ip, .int .i64 c.fa, .int .i64 c.fp, .int .i64 c.po, .int .i64 c.st, .int .i64 c.un] 77)).cell? ⟨w.heap.size, 2, none⟩ = some (.int .i64 c.ip) := (nw _ _ _ _).trans rfl
  have g3 : (w.alloc (.cells #[.int .i64 c.pr, .int .i64 c.ia, .int .i64 c.ip, .int .i64 c.fa, .int .i64 c.fp, .int .i64 c.po, .int .i64 c.st, .int .i64 c.un] 77)).cell? ⟨w.heap.size, 3, none⟩ = some (.int .i64 c.fa) := (nw _ _ _ _).trans rfl
  have g4 : (w.alloc (.cells #[.int .i64 c.pr, .int .i64 c.ia, .int .i64 c.ip, .int .i64 c.fa, .int .i64 c.fp, .int .i64 c.po, .int .i64 c.st, .int .i64 c.un] 77)).cell? ⟨w.heap.size, 4, none⟩ = some (.int .i64 c.fp) := (nw _ _ _ _).trans rfl
  have g5 : (w.alloc (.cells #[.int .i64 c.pr, .int .i64 c.ia, .int .i64 c.ip, .int .i64 c.fa, .int .i64 c.fp, .int .i64 c.po, .int .i64 c.st, .int .i64 c.un] 77)).cell? ⟨w.heap.size, 5, none⟩ = some (.int .i64 c.po) := (nw _ _ _ _).trans rfl
  have g6 : (w.alloc (.cells #[.int .i64 c.pr, .int .i64 c.ia, .int .i64 c.ip, .int .i64 c.fa, .int .i64 c.fp, .int .i64 c.po, .int .i64 c.st, .int .i64 c.un] 77)).cell? ⟨w.heap.size, 6, none⟩ = some (.int .i64 c.st) := (nw _ _ _ _).trans rfl
  have g7 : (w.alloc (.cells #[.int .i64 c.pr, .int .i64 c.ia, .int .i64 c.ip, .int .i64 c.fa, .int .i64 c.fp, .int .i64 c.po, .int .i64 c.st, .int .i64 c.un] 77)).cell? ⟨w.heap.size, 7, none⟩ = some (.int .i64 c.un) := (nw _ _ _ _).trans rfl
  generalize w.alloc (.cells #[.int .i64 c.pr, .int .i64 c.ia, .int .i64 c.ip, .int .i64 c.fa, .int .i64 c.fp, .int .i64 c.po, .int .i64 c.st, .int .i64 c.un] 77) = w0 at *
  have a0 := T0.out.at' (k := 2) hk (by omega)
  have a1 := T0.out.at' (k := 3) hk (by omega)
  have a2 := T0.out.at' (k := 4) hk (by omega)
  have a3 := T0.out.at' (k := 5) hk (by omega)
  have a4 := T0.out.at' (k := 6) hk (by omega)
  have a5 := T0.out.at' (k := 7) hk (by omega)
  have a6 := T0.out.at' (k := 8) hk (by omega)
  have a7 := T0.out.at' (k := 9) hk (by omega)
  have fz := T0.out.fr
  generalize hZ : w.heap.size = Z at *
  go_region
  have T1 : Hid (Tab ((((((((w0.setCell ⟨b, 1 + k * 10 + 2, none⟩ (.int .i64 c.pr)).setCell ⟨b, 1 + k * 10 + 2 + 1, none⟩ (.int .i64 c.ia)).setCell ⟨b, 1 + k * 10 + 2 + 2, none⟩ (.int .i64 c.ip)).setCell ⟨b, 1 + k * 10 + 2 + 3, none⟩ (.int .i64 c.fa)).setCell ⟨b, 1 + k * 10 + 2 + 4, none⟩ (.int .i64 c.fp)).setCell ⟨b, 1 + k * 10 + 2 + 5, none⟩ (.int .i64 c.po)).setCell ⟨b, 1 + k * 10 + 2 + 6, none⟩ (.int .i64 c.st)).setCell ⟨b, 1 + k * 10 + 2 + 7, none⟩ (.int .i64 c.un)).drew b low (upd T k ⟨(T k).ve, c.pr, c.ia, c.ip, c.fa, c.fp, c.po, c.st, c.un⟩)) := (tab_put8 T0.out k c hk).drew
  have C1 : Hid (Chg b w ((((((((w0.setCell ⟨b, 1 + k * 10 + 2, none⟩ (.int .i64 c.pr)).setCell ⟨b, 1 + k * 10 + 2 + 1, none⟩ (.int .i64 c.ia)).setCell ⟨b, 1 + k * 10 + 2 + 2, none⟩ (.int .i64 c.ip)).setCell ⟨b, 1 + k * 10 + 2 + 3, none⟩ (.int .i64 c.fa)).setCell ⟨b, 1 + k * 10 + 2 + 4, none⟩ (.int .i64 c.fp)).setCell ⟨b, 1 + k * 10 + 2 + 5, none⟩ (.int .i64 c.po)).setCell ⟨b, 1 + k * 10 + 2 + 6, none⟩ (.int .i64 c.st)).setCell ⟨b, 1 + k * 10 + 2 + 7, none⟩ (.int .i64 c.un)).drew) := by
    subst hZ
    exact ((Chg.of HB0.out).trans (chg_put8 w0 b k c)).then (Below.refl _ _).drew
  generalize ((((((((w0.setCell ⟨b, 1 + k * 10 + 2, none⟩ (.int .i64 c.pr)).setCell ⟨b, 1 + k * 10 + 2 + 1, none⟩ (.int .i64 c.ia)).setCell ⟨b, 1 + k * 10 + 2 + 2, none⟩ (.int .i64 c.ip)).setCell ⟨b, 1 + k * 10 + 2 + 3, none⟩ (.int .i64 c.fa)).setCell ⟨b, 1 + k * 10 + 2 + 4, none⟩ (.int .i64 c.fp)).setCell ⟨b, 1 + k * 10 + 2 + 5, none⟩ (.int .i64 c.po)).setCell ⟨b, 1 + k * 10 + 2 + 6, none⟩ (.int .i64 c.st)).setCell ⟨b, 1 + k * 10 + 2 + 7, none⟩ (.int .i64 c.un)).drew = w1 at *
  clear a0 a1 a2 a3 a4 a5 a6 a7 g0 g1 g2 g3 g4 g5 g6 g7 fz HB0 T0
  have a1 : w1.cell? ⟨b, 1 + k * 10 + 1, none⟩ = some (.int .i64 (T k).ve) := by
    have := T1.out.at' (k := 1) hk (by omega)
    rw [upd_same] at this
    exact this
  have fz := T1.out.fr
  have hw : IntKind.i64.wrap ((T k).ve + 1) = (T k).ve + 1 := by rw [IntKind.wrap_i64]; omega
  go_wp2_with fail
  go_region
  go_end0
  refine ⟨rfl, ?_, (C1.out.trans (Chg.set b _ _ _)).then (Below.refl _ _).drew⟩
  have h := (T1.out.put (i := k) (k := 1) ((T k).ve + 1) hk (by omega) (by omega)).drew
  simp only [upd_same, upd_upd] at h
  exact h
end Go.Proofs.YtjfhompbeengmaaDoor

namespace Go.Proofs.YtjfhompbeengmaaDoor
open Go.RowKit

/-- the four sentinels that package table names. -/
structure Se4 (w : World) (s : Nat → Addr) : Prop where
  c1 : w.cell? ⟨0, 0, none⟩ = some (.iface 161 (.pointer (some (s 1))))
  c3 : w.cell? ⟨2, 0, none⟩ = some (.iface 161 (.pointer (some (s 3))))
  c4 : w.cell? ⟨9, 0, none⟩ = some (.iface 161 (.pointer (some (s 4))))
  c5 : w.cell? ⟨5, 0, none⟩ = some (.iface 161 (.pointer (some (s 5))))
theorem Se4.below {w w' : World} {s : Nat → Addr} (S : Se4 w s) (hb : Below w.heap.size w w') : Se4 w' s := ⟨tk hb S.c1, tk hb S.c3, tk hb S.c4, tk hb S.c5⟩
/-- two of them: what Put and Add ask. -/
structure Se45 (w : World) (s : Nat → Addr) : Prop where
  c4 : w.cell? ⟨9, 0, none⟩ = some (.iface 161 (.pointer (some (s 4))))
  c5 : w.cell? ⟨5, 0, none⟩ = some (.iface 161 (.pointer (some (s 5))))
theorem Se45.below {w w' : World} {s : Nat → Addr} (S : Se45 w s) (hb : Below w.heap.size w w') : Se45 w' s := ⟨tk hb S.c4, tk hb S.c5⟩
theorem Se4.s45 {w : World} {s : Nat → Addr} (S : Se4 w s) : Se45 w s := ⟨S.c4, S.c5⟩
set_option maxRecDepth 100000 in
set_option maxHeartbeats 2000000 in
theorem must_any (b : Nat) (low : Int) (T : Tb) (k : Int) (s : Nat → Addr) (w : World) (S : Se4 w s) (t : Tab w b low T) :
    Calls Tryd.prog 72 #[.pointer (some ⟨b, 0, none⟩), .int .i64 k] w fun e w' => e = .returned (terr s (slotE T k)) ∧ Below w.heap.size w w' := by
  have HS : Hid (Se4 w s) := S
  have HT : Hid (Tab w b low T) := t
  have s1 := S.c1
  have s3 := S.c3
  clear t S
  by_cases hk : k < 0 ∨ 32 ≤ k
  · have hd : (decide (0 ≤ k) && decide (k < 32)) = false := by
      rcases hk with h | h
      · rw [decide_eq_false (by omega)]; rfl
      · rw [decide_eq_false (p := k < 32) (by omega), Bool.and_false]
    have he : Hid (slotE T k = 2) := by show _ = _; unfold slotE; rw [if_pos hk]
    go_enter Tryd.func72, Tryd.ntmps72
    go_wp2_with fail
    refine (isSlot_any k _).mono ?_
    rintro e w1 ⟨rfl, rfl⟩
    rw [hd]
    go_wp2_with fail
    go_ret
    exact ⟨by rw [he.out]; rfl, Below.refl _ _⟩
  · have h0 : 0 ≤ k := by omega
    have h1 : k < 32 := by omega
    obtain ⟨j, rfl⟩ : ∃ j : Nat, k = j := ⟨k.toNat, by omega⟩
    have hj : j < 32 := by omega
    have hd : (decide (0 ≤ (j : Int)) && decide ((j : Int) < 32)) = true := by rw [decide_eq_true h0, decide_eq_true h1]; rfl
    obtain ⟨c, hc⟩ : ∃ c, c = T j := ⟨_, rfl⟩
    have HE : Hid (slotE T (j : Int) = if c.pr = 0 then 4 else 0) := by
      show _ = _
      unfold slotE
      rw [if_neg hk, hc]
      rfl
    have a0 := HT.out.at' (k := 2) hj (by omega)
    have a1 := HT.out.at' (k := 3) hj (by omega)
    have a2 := HT.out.at' (k := 4) hj (by omega)
    have a3 := HT.out.at' (k := 5) hj (by omega)
    have a4 := HT.out.at' (k := 6) hj (by omega)
    have a5 := HT.out.at' (k := 7) hj (by omega)
    have a6 := HT.out.at' (k := 8) hj (by omega)
    have a7 := HT.out.at' (k := 9) hj (by omega)
    rw [← hc] at a0 a1 a2 a3 a4 a5 a6 a7
    simp only [Ce.get] at a0 a1 a2 a3 a4 a5 a6 a7
    clear hk hc
    go_enter Tryd.func72, Tryd.ntmps72
    go_wp2_with fail
    refine (isSlot_any j _).mono ?_
    rintro e w1 ⟨rfl, rfl⟩
    rw [hd]
    go_wp2_with fail
    refine (isFlow_any c _).mono ?_
    rintro e w2 ⟨rfl, hb2⟩
    have B2 : Hid (Below w1.heap.size w1 w2) := hb2
    have s3 := tk hb2 s3
    clear hb2 a0 a1 a2 a3 a4 a5 a6 a7 s1
    by_cases hp : c.pr = 0
    · have hpb : (c.pr != 0) = false := by rw [hp]; rfl
      rw [hpb]
      go_wp2_with fail
      go_ret
      exact ⟨by rw [HE.out, if_pos hp]; rfl, B2.out⟩
    · have hpb : (c.pr != 0) = true := bne_iff_ne.2 hp
      rw [hpb]
      go_wp2_with fail
      go_ret
      exact ⟨by rw [HE.out, if_neg hp]; rfl, B2.out⟩
end Go.Proofs.YtjfhompbeengmaaDoor

namespace Go.Proofs.YtjfhompbeengmaaDoor
open Go.RowKit

theorem terr_ne (s : Nat → Addr) {n : Nat} (h : n ≠ 0) : ∃ v, terr s n = .iface 161 v := by
  cases n with
  | zero => exact absurd rfl h
  | succ k => exact ⟨_, rfl⟩
set_option maxRecDepth 100000 in
set_option maxHeartbeats 2000000 in
theorem drop_any (b : Nat) (low : Int) (T : Tb) (k : Int) (n : Nat) (s : Nat → Addr) (w : World) (S : Se4 w s) (t : Tab w b low T) (hv : Vers T n) (hn : n ≤ 1000000000) :
    Calls Tryd.prog 54 #[.pointer (some ⟨b, 0, none⟩), .int .i64 k] w fun e w' => e = .returned (terr s (slotE T k)) ∧ Tab w' b low (dropT T k) ∧ Chg b w w' := by
  have HS : Hid (Se4 w s) := S
  have HT : Hid (Tab w b low T) := t
  have HV : Hid (Vers T n) := hv
  clear t S hv
  go_enter Tryd.func54, Tryd.ntmps54
  go_wp2_with fail
  refine (must_any b low T k s _ HS.out HT.out).mono ?_
  rintro e w1 ⟨rfl, hb1⟩
  have B1 : Hid (Below w.heap.size w w1) := hb1
  have T1 : Hid (Tab w1 b low T) := HT.out.below hb1
  clear hb1
  by_cases he : slotE T k = 0
  · have HE : Hid (slotE T k = 0) := he
    obtain ⟨h0, h1, _⟩ := slotE_ok he
    obtain ⟨j, rfl⟩ : ∃ j : Nat, k = j := ⟨k.toNat, by omega⟩
    have hj : j < 32 := by omega
    rw [he]
    simp only [terr]
    clear he
    go_wp2_with fail
    have hve := HV.out j hj
    refine (lay_any b low T j noC w1 T1.out hj hve.1 (by omega)).mono ?_
    rintro e w2 ⟨rfl, t2', c2⟩
    have T2 : Hid (Tab w2 b low (dropT T j)) := by
      show Tab w2 b low (dropT T j)
      unfold dropT
      rw [if_pos HE.out, Int.toNat_natCast]
      exact t2'
    have C2 : Hid (Chg b w w2) := (Chg.of B1.out).trans c2
    clear t2' c2 hve
    go_wp2_with fail
    go_ret
    exact ⟨by rw [HE.out]; rfl, T2.out, C2.out⟩
  · have HE : Hid (slotE T k ≠ 0) := he
    obtain ⟨v, hv⟩ := terr_ne s he
    rw [hv]
    clear he
    go_wp2_with fail
    go_ret
    refine ⟨hv ▸ rfl, ?_, Chg.of B1.out⟩
    unfold dropT
    rw [if_neg HE.out]
    exact T1.out
end Go.Proofs.YtjfhompbeengmaaDoor

namespace Go.Proofs.YtjfhompbeengmaaDoor
open Go.RowKit

def goneQ (now : Int) (c : Ce) : Bool := (c.pr != 0) && decide (c.un ≤ now)
/-- the first n slots gone through. -/
def expT (T : Tb) (now : Int) (n : Nat) : Tb := fun j => if j < n ∧ goneQ now (T j) = true then ⟨(T j).ve + 1, 0, 0, 0, 0, 0, 0, 0, 0⟩ else T j
def expL (T : Tb) (now : Int) : Nat → List Int
  | 0 => []
  | n + 1 => if goneQ now (T n) = true then expL T now n ++ [(n : Int)] else expL T now n
theorem expL_len (T : Tb) (now : Int) : ∀ n, (expL T now n).length ≤ n
  | 0 => by simp [expL]
  | n + 1 => by
    have := expL_len T now n
    unfold expL
    split
    · simp; omega
    · omega
theorem expT_zero (T : Tb) (now : Int) : expT T now 0 = T := by funext j; simp [expT]
theorem expT_here (T : Tb) (now : Int) (n : Nat) : expT T now n n = T n := by simp [expT]
theorem expT_no {T : Tb} {now : Int} {n : Nat} (h : goneQ now (T n) = false) : expT T now (n + 1) = expT T now n := by
  funext j
  unfold expT
  by_cases e : j = n
  · subst e; simp [h]
  · by_cases h2 : j < n
    · simp [h2, show j < n + 1 by omega]
    · simp [h2, show ¬ j < n + 1 by omega]
theorem expT_yes {T : Tb} {now : Int} {n : Nat} (h : goneQ now (T n) = true) : layT (expT T now n) n 0 0 0 0 0 0 0 0 = expT T now (n + 1) := by
  funext j
  unfold layT upd
  rw [expT_here]
  unfold expT
  by_cases e : j = n
  · subst e; simp [h]
  · rw [if_neg e]
    by_cases h2 : j < n
    · simp [h2, show j < n + 1 by omega]
    · simp [h2, show ¬ j < n + 1 by omega]
theorem expT_ve {T : Tb} {m : Nat} (h : Vers T m) (now : Int) (n : Nat) : Vers (expT T now n) (m + 1) := fun j hj => by
  have := h j hj
  unfold expT
  split
  · simp only; omega
  · omega
theorem expT_drop {T : Tb} {now : Int} {n : Nat} (hn : n < 32) (h : goneQ now (T n) = true) : dropT (expT T now n) (n : Int) = expT T now (n + 1) := by
  have hp : (T n).pr ≠ 0 := by
    unfold goneQ at h
    simp at h
    exact h.1
  have hs : slotE (expT T now n) (n : Int) = 0 := by
    unfold slotE
    rw [if_neg (by omega), Int.toNat_natCast, expT_here, if_neg hp]
  unfold dropT
  rw [if_pos hs, Int.toNat_natCast, expT_yes h]
def intVx (n : Int) : Value := .int .i64 n
theorem Tryd.infoInt : (Tryd.prog.info? 3).map (fun i => (i.zero, i.size, i.bytes)) = some (some (.int .i64 0), 1, 8) := by kernel_rfl
/-- numbers in a slice. -/
def IntS (w : World) (v : Value) (xs : List Int) : Prop := ∃ p cap, v = .slice p xs.length cap ∧ ∀ (j : Nat) x, xs[j]? = some x → ∃ g, p = some ⟨g, 0, none⟩ ∧ w.cell? ⟨g, j, none⟩ = some (.int .i64 x)
theorem IntS.of_own {w : World} {base : Nat} {v : Value} {n : Nat} {xs : List Int} (h : w.ownsRow base 3 1 v n (xs.map intVx)) : IntS w v xs := by
  obtain ⟨h1, h2⟩ := h
  have hn : n = xs.length := by simpa using h1.symm
  subst hn
  rcases h2 with ⟨rfl, h0⟩ | ⟨g, cap, cur, rfl, _, hh, _, _, _, ht⟩
  · refine ⟨none, 0, by rw [h0], fun j x hx => ?_⟩
    obtain ⟨hlt, _⟩ := List.getElem?_eq_some_iff.1 hx
    omega
  · refine ⟨some ⟨g, 0, none⟩, cap, rfl, fun j x hx => ⟨g, rfl, ?_⟩⟩
    obtain ⟨hlt, _⟩ := List.getElem?_eq_some_iff.1 hx
    have h3 : (xs.map intVx)[j]? = some (intVx x) := by rw [List.getElem?_map, hx]; rfl
    rw [← ht, List.getElem?_take, if_pos (by omega), Array.getElem?_toList] at h3
    rw [cell_of_row w g j _ _ _ hh]
    exact h3
theorem IntS.below {w w' : World} {v : Value} {xs : List Int} (h : IntS w v xs) (hb : Below w.heap.size w w') : IntS w' v xs := by
  obtain ⟨p, cap, h1, h2⟩ := h
  refine ⟨p, cap, h1, fun j x hx => ?_⟩
  obtain ⟨g, e, hc⟩ := h2 j x hx
  exact ⟨g, e, tk hb hc⟩
theorem owns_chg {w w' : World} {base n b : Nat} {v : Value} {cs : List Value} (h : w.ownsRow base 3 1 v n cs) (hc : Chg b w w') (hb : b < base) : w'.ownsRow base 3 1 v n cs := by
  refine h.kept (row := some b) ⟨hc.os, hc.tape, hc.output, hc.size, fun k hk hn => hc.block k hk (fun e => hn (by rw [e]))⟩ ?_
  rcases hv : v.ownBlock with _ | q
  · exact .inl rfl
  · refine .inr fun e => ?_
    have := (h.lt q hv).1
    obtain rfl := Option.some.inj e
    omega
theorem chg_grow2 {b : Nat} {w u u' : World} {row : Option Nat} (h : Chg b w u) (hg : u.grownBy u' row) (hr : ∀ k, row = some k → w.heap.size ≤ k) : Chg b w u' :=
  ⟨hg.os.trans h.os, hg.tape.trans h.tape, hg.output.trans h.output, Nat.le_trans h.size hg.size, fun k hk hn => (hg.block k (Nat.lt_of_lt_of_le hk h.size) (fun e => by have := hr k e.symm; omega)).trans (h.block k hk hn)⟩
theorem tab_grown {b N : Nat} {low : Int} {T : Tb} {u u' : World} {row : Option Nat} (h : Tab u b low T) (hg : u.grownBy u' row) (hr : ∀ k, row = some k → N ≤ k) (hb : b < N) : Tab u' b low T := by
  unfold Tab; rw [hg.block b h.lt (fun e => by have := hr b e.symm; omega)]; exact h
theorem expL_yes {T : Tb} {now : Int} {n : Nat} (h : goneQ now (T n) = true) : expL T now (n + 1) = expL T now n ++ [(n : Int)] := by
  rw [expL, if_pos h]
theorem expL_no {T : Tb} {now : Int} {n : Nat} (h : goneQ now (T n) = false) : expL T now (n + 1) = expL T now n := by
  rw [expL, if_neg (by rw [h]; simp)]
set_option maxRecDepth 100000 in
set_option maxHeartbeats 4000000 in
theorem expire_any (b : Nat) (low : Int) (T : Tb) (now : Int) (n : Nat) (w : World) (t : Tab w b low T) (hv : Vers T n) (hn : n ≤ 100000000) :
    Calls Tryd.prog 25 #[.pointer (some ⟨b, 0, none⟩), .int .i64 now] w fun e w' => ∃ v, e = .returned v ∧ IntS w' v (expL T now 32) ∧ (∀ q, v.ownBlock = some q → w.heap.size ≤ q) ∧ Tab w' b low (expT T now 32) ∧ Chg b w w' := by
  obtain ⟨i0, hi, hz0, hz1, hz2⟩ := info_parts Tryd.infoInt
  have HT : Hid (Tab w b low T) := t
  have HV : Hid (Vers T n) := hv
  have hld := arr_load t
  have HBL : Hid (b < w.heap.size) := t.lt
  clear t hv
  go_enter Tryd.func25, Tryd.ntmps25
  go_wp2_with (refine wpList_load_at rfl 87 _ rfl _ _ rfl hld ?_)
  clear hld
  go_loopw [5, 12] (fun v t wr => ∃ j : Nat, j ≤ 32 ∧ t = .int .i64 j ∧ wr.ownsRow w.heap.size 3 1 v (expL T now j).length ((expL T now j).map intVx) ∧ Tab wr b low (expT T now j) ∧ Chg b w wr) (fun _ t _ => 32 - (intOf t).toNat)
  case atStart => exact ⟨0, by omega, rfl, World.ownsRow_nil _ _ _ _, by rw [expT_zero]; exact HT.out, Chg.refl _ _⟩
  case round =>
    obtain ⟨j, hj, rfl, hown, htb, hcg⟩ := hrel
    have HO : Hid (wr.ownsRow w.heap.size 3 1 u5 (expL T now j).length ((expL T now j).map intVx)) := hown
    have T1 : Hid (Tab wr b low (expT T now j)) := htb
    have C1 : Hid (Chg b w wr) := hcg
    clear hown htb hcg
    by_cases hlt : j < 32
    · obtain ⟨c, hc⟩ : ∃ c, c = T j := ⟨_, rfl⟩
      have HCj : Hid (c = T j) := hc
      have hix : (Instr.index 87 (.agg (slotsArr T)) (.int .i64 j)).run Tryd.prog wr = .ok (.agg #[.int .i64 j, .int .i64 c.ve, .int .i64 c.pr, .int .i64 c.ia, .int .i64 c.ip, .int .i64 c.fa, .int .i64 c.fp, .int .i64 c.po, .int .i64 c.st, .int .i64 c.un]) wr := by
        rw [hc]; exact arr_index T j hlt wr
      clear hc
      go_wp2_with fail
      have D0 : Hid ((wr.alloc (.cells #[.int .i64 j, .int .i64 c.ve, .int .i64 c.pr, .int .i64 c.ia, .int .i64 c.ip, .int .i64 c.fa, .int .i64 c.fp, .int .i64 c.po, .int .i64 c.st, .int .i64 c.un] 86)).cell? ⟨wr.heap.size, 9, none⟩ = some (.int .i64 c.un)) := (nw _ _ _ _).trans rfl
      refine (isFlow_any c _).mono ?_
      rintro e w2 ⟨rfl, hb2⟩
      have d9 := tk hb2 D0.out
      have X2 : Hid (Below wr.heap.size wr w2) := t2 (aB _ _) hb2
      have O2 : Hid (w2.ownsRow w.heap.size 3 1 u5 (expL T now j).length ((expL T now j).map intVx)) := HO.out.kept (row := none) ⟨X2.out.os, X2.out.tape, X2.out.output, X2.out.size, fun k hk _ => X2.out.block k hk⟩ (Classical.em _)
      have T2 : Hid (Tab w2 b low (expT T now j)) := T1.out.below X2.out
      have C2 : Hid (Chg b w w2) := C1.out.then X2.out
      clear hb2 hix D0 HO T1 C1 X2
      have HG : Hid (goneQ now (T j) = ((c.pr != 0) && decide (c.un ≤ now))) := by show _ = _; rw [← HCj.out]; rfl
      rcases h1 : (c.pr != 0) with _ | _
      · have HN : Hid (goneQ now (T j) = false) := by show _ = _; rw [HG.out, h1]; rfl
        go_wp2_with fail
        go_roundw
        case rel => exact ⟨j + 1, by omega, by go_num, by rw [expL_no HN.out]; exact O2.out, by rw [expT_no HN.out]; exact T2.out, C2.out⟩
        case measure => simp [intOf]; omega
      by_cases h2 : c.un ≤ now
      · have HY : Hid (goneQ now (T j) = true) := by show _ = _; rw [HG.out, h1, decide_eq_true h2]; rfl
        go_wp2_with fail
        have hve := HV.out j hlt
        have he : expT T now j j = T j := expT_here T now j
        refine (lay_any b low (expT T now j) j noC _ T2.out hlt (by rw [he]; exact hve.1) (by rw [he]; omega)).mono ?_
        rintro e w3 ⟨rfl, t3, c3⟩
        have T3 : Hid (Tab w3 b low (expT T now (j + 1))) := by
          show Tab _ _ _ _
          rw [← expT_yes HY.out]
          exact t3
        have O3 : Hid (w3.ownsRow w.heap.size 3 1 u5 (expL T now j).length ((expL T now j).map intVx)) := owns_chg O2.out c3 HBL.out
        have C3 : Hid (Chg b w w3) := C2.out.trans c3
        have HLn : Hid ((expL T now j).length ≤ j) := expL_len T now j
        have hLn := HLn.out
        clear t3 c3 hve he T2 O2 C2 d9
        go_wp2_with (at_builtin; refine wpList_append_own _ rfl _ _ 39 rfl w.heap.size 3 i0 (.int .i64 0) 1 8 Tryd.underlying39 hi hz0 hz1 hz2 rfl (by decide) u5 _ _ rfl (O3.out.alloc _) ⟨w3.heap.size, 0, none⟩ 1 1 [intVx j] rfl rfl ?c1 ?c2 ?c3 ?c4 ?c5 ?_)
        case c1 =>
          intro q u hu
          rw [tadd, Nat.zero_add, nw]
          simpa [intVx] using hu
        case c2 =>
          intro u hu
          obtain rfl := List.mem_singleton.1 hu
          rfl
        case c3 => unfold maxLen; omega
        case c4 => omega
        case c5 => have := C3.out.size; simp; omega
        intro v4 w4 hO4 hg4 _
        have hrow : ∀ q, u5.ownBlock = some q → w.heap.size ≤ q := fun q hq => (O3.out.lt _ hq).1
        have O4 : Hid (w4.ownsRow w.heap.size 3 1 v4 (expL T now (j + 1)).length ((expL T now (j + 1)).map intVx)) := by
          show w4.ownsRow _ _ _ _ _ _
          rw [expL_yes HY.out, List.length_append, List.map_append]
          exact hO4
        have T4 : Hid (Tab w4 b low (expT T now (j + 1))) := tab_grown (T3.out.alloc _) hg4 hrow HBL.out
        have C4 : Hid (Chg b w w4) := chg_grow2 (C3.out.then (aB _ _)) hg4 hrow
        clear hO4 hg4 hrow T3 O3 C3
        go_wp2_with fail
        go_roundw
        case rel => exact ⟨j + 1, by omega, by go_num, O4.out, T4.out, C4.out⟩
        case measure => simp [intOf]; omega
      · have HN : Hid (goneQ now (T j) = false) := by show _ = _; rw [HG.out, h1, decide_eq_false h2]; rfl
        go_wp2_with fail
        go_roundw
        case rel => exact ⟨j + 1, by omega, by go_num, by rw [expL_no HN.out]; exact O2.out, by rw [expT_no HN.out]; exact T2.out, C2.out⟩
        case measure => simp [intOf]; omega
    · obtain rfl : j = 32 := by omega
      go_wp2_with fail
      go_ret
      exact ⟨_, rfl, IntS.of_own HO.out, fun q hq => (HO.out.lt _ hq).1, T1.out, C1.out⟩
end Go.Proofs.YtjfhompbeengmaaDoor

namespace Go.Proofs.YtjfhompbeengmaaDoor
open Go.RowKit

set_option maxRecDepth 100000 in
set_option maxHeartbeats 2000000 in
theorem get_bad (b : Nat) (k : Int) (s : Nat → Addr) (w : World) (S : Se4 w s) (hk : k < 0 ∨ 32 ≤ k) :
    Calls Tryd.prog 70 #[.pointer (some ⟨b, 0, none⟩), .int .i64 k] w fun e w' => e = .returned (.tuple #[.agg #[.int .i64 0, .int .i64 0, .int .i64 0, .int .i64 0, .int .i64 0, .int .i64 0, .int .i64 0, .int .i64 0, .int .i64 0, .int .i64 0], terr s 2]) ∧ Below w.heap.size w w' := by
  have s1 := S.c1
  have hg : 0 < w.heap.size := tlt s1
  clear S
  have hd : (decide (0 ≤ k) && decide (k < 32)) = false := by
    rcases hk with h | h
    · rw [decide_eq_false (by omega)]; rfl
    · rw [decide_eq_false (p := k < 32) (by omega), Bool.and_false]
  go_enter Tryd.func70, Tryd.ntmps70
  go_wp2_with fail
  refine (isSlot_any k _).mono ?_
  rintro e w1 ⟨rfl, rfl⟩
  rw [hd]
  go_wp2_with fail
  go_region
  go_wp2_with fail
  exact bodyPost_ret (v := .tuple #[.agg #[.int .i64 0, .int .i64 0, .int .i64 0, .int .i64 0, .int .i64 0, .int .i64 0, .int .i64 0, .int .i64 0, .int .i64 0, .int .i64 0], terr s 2]) (by simp [results, Tryd.results70, go_sem, terr]) rfl ⟨rfl, ((Below.refl _ _).alloc (Nat.le_refl _) _).drew⟩
set_option maxRecDepth 100000 in
set_option maxHeartbeats 2000000 in
theorem get_ok (b : Nat) (low : Int) (T : Tb) (j : Nat) (w : World) (t : Tab w b low T) (hj : j < 32) :
    Calls Tryd.prog 70 #[.pointer (some ⟨b, 0, none⟩), .int .i64 j] w fun e w' => e = .returned (.tuple #[cellV j (T j), .nilIface]) ∧ Below w.heap.size w w' := by
  have HT : Hid (Tab w b low T) := t
  have hbl := t.lt
  clear t
  have h0 : (0 : Int) ≤ (j : Int) := by omega
  have h1 : (j : Int) < 32 := by omega
  have hd : (decide (0 ≤ (j : Int)) && decide ((j : Int) < 32)) = true := by rw [decide_eq_true h0, decide_eq_true h1]; rfl
  unfold cellV
  generalize hc : T j = c
  have z0 := HT.out.at' (k := 0) hj (by omega)
  have z1 := HT.out.at' (k := 1) hj (by omega)
  have a0 := HT.out.at' (k := 2) hj (by omega)
  have a1 := HT.out.at' (k := 3) hj (by omega)
  have a2 := HT.out.at' (k := 4) hj (by omega)
  have a3 := HT.out.at' (k := 5) hj (by omega)
  have a4 := HT.out.at' (k := 6) hj (by omega)
  have a5 := HT.out.at' (k := 7) hj (by omega)
  have a6 := HT.out.at' (k := 8) hj (by omega)
  have a7 := HT.out.at' (k := 9) hj (by omega)
  rw [hc] at z0 z1 a0 a1 a2 a3 a4 a5 a6 a7
  simp only [Ce.get, Nat.add_zero] at z0 z1 a0 a1 a2 a3 a4 a5 a6 a7
  clear hc
  go_enter Tryd.func70, Tryd.ntmps70
  go_wp2_with fail
  refine (isSlot_any j _).mono ?_
  rintro e w1 ⟨rfl, rfl⟩
  rw [hd]
  go_wp2_with fail
  exact bodyPost_ret (v := .tuple #[.agg #[.int .i64 j, .int .i64 c.ve, .int .i64 c.pr, .int .i64 c.ia, .int .i64 c.ip, .int .i64 c.fa, .int .i64 c.fp, .int .i64 c.po, .int .i64 c.st, .int .i64 c.un], .nilIface]) (by simp [results, Tryd.results70, go_sem]) rfl ⟨rfl, (Below.refl _ _).alloc (Nat.le_refl _) _⟩
end Go.Proofs.YtjfhompbeengmaaDoor

namespace Go.Proofs.YtjfhompbeengmaaDoor
open Go.RowKit


set_option maxRecDepth 100000 in
set_option maxHeartbeats 4000000 in
theorem put_an2 (b : Nat) (low : Int) (T : Tb) (c : Ce) (n : Nat) (s : Nat → Addr) (w : World) (S : Se45 w s) (t : Tab w b low T) (hv : Vers T n) (hn : n ≤ 1000000000) :
    Calls Tryd.prog 62 #[.pointer (some ⟨b, 0, none⟩), flowV c] w fun e w' => e = .returned (.tuple #[.int .i64 ((putT T c.pr c.ia c.ip c.fa c.fp c.po c.st c.un).1 : Nat), terr s (putT T c.pr c.ia c.ip c.fa c.fp c.po c.st c.un).2.1]) ∧ Tab w' b low (putT T c.pr c.ia c.ip c.fa c.fp c.po c.st c.un).2.2 ∧ Chg b w w' := by
  have HS : Hid (Se45 w s) := S
  have HT : Hid (Tab w b low T) := t
  have HV : Hid (Vers T n) := hv
  have hF : flowV c = .agg #[.int .i64 c.pr, .int .i64 c.ia, .int .i64 c.ip, .int .i64 c.fa, .int .i64 c.fp, .int .i64 c.po, .int .i64 c.st, .int .i64 c.un] := rfl
  rw [hF]
  clear t S hv hF
  go_enter Tryd.func62, Tryd.ntmps62
  go_wp2_with fail
  have B0 : Hid (Below w.heap.size w (w.alloc (.cells #[.int .i64 c.pr, .int .i64 c.ia, .int .i64 c.ip, .int .i64 c.fa, .int .i64 c.fp, .int .i64 c.po, .int .i64 c.st, .int .i64 c.un] 77))) := aB _ _
  have F0 : Hid (FlB (w.alloc (.cells #[.int .i64 c.pr, .int .i64 c.ia, .int .i64 c.ip, .int .i64 c.fa, .int .i64 c.fp, .int .i64 c.po, .int .i64 c.st, .int .i64 c.un] 77)) w.heap.size c) := flB_new w c
  generalize w.alloc (.cells #[.int .i64 c.pr, .int .i64 c.ia, .int .i64 c.ip, .int .i64 c.fa, .int .i64 c.fp, .int .i64 c.po, .int .i64 c.st, .int .i64 c.un] 77) = w0 at *
  generalize hZ : w.heap.size = Z at F0 ⊢
  refine (find_any b low T c.pr c.ia c.ip c.fa c.fp w0 (HT.out.below B0.out)).mono ?_
  rintro e w1 ⟨rfl, hb1⟩
  have B1 : Hid (Below w.heap.size w w1) := t2 B0.out hb1
  have F1 : Hid (FlB w1 Z c) := F0.out.below hb1
  clear hb1 B0 F0
  have S1 := HS.out.below B1.out
  have s4 := S1.c4
  clear S1
  rcases hf : fst T (findQ c.pr c.ia c.ip c.fa c.fp) with _ | k0
  · have HF : Hid (fst T (findQ c.pr c.ia c.ip c.fa c.fp) = none) := hf
    simp only [Option.isSome_none, Option.getD_none]
    clear hf s4
    have f0 := F1.out.c0
    have f1 := F1.out.c1
    have f2 := F1.out.c2
    have f3 := F1.out.c3
    have f4 := F1.out.c4
    have f5 := F1.out.c5
    have f6 := F1.out.c6
    have f7 := F1.out.c7
    go_wp2_with fail
    clear f0 f1 f2 f3 f4 f5 f6 f7
    refine (back_any b low T c.pr c.po c.fa c.fp w1 (HT.out.below B1.out)).mono ?_
    rintro e w2 ⟨rfl, hb2⟩
    have B2 : Hid (Below w.heap.size w w2) := t2 B1.out hb2
    have F2 : Hid (FlB w2 Z c) := F1.out.below hb2
    clear hb2 B1 F1
    have S1 := HS.out.below B2.out
    have s4 := S1.c4
    clear S1
    rcases hf : fst T (backQ c.pr c.po c.fa c.fp) with _ | k0
    · have HG : Hid (fst T (backQ c.pr c.po c.fa c.fp) = none) := hf
      simp only [Option.isSome_none, Option.getD_none]
      clear hf s4
      go_wp2_with fail
      refine (free_any b low T w2 (HT.out.below B2.out)).mono ?_
      rintro e w3 ⟨rfl, hb3⟩
      have B3 : Hid (Below w.heap.size w w3) := t2 B2.out hb3
      have F3 : Hid (FlB w3 Z c) := F2.out.below hb3
      clear hb3 B2 F2
      have S1 := HS.out.below B3.out
      have s5 := S1.c5
      clear S1
      rcases hf : fst T freeQ with _ | k
      · have HP : Hid (putT T c.pr c.ia c.ip c.fa c.fp c.po c.st c.un = (0, 6, T)) := by show _ = _; unfold putT; rw [HF.out, HG.out, hf]
        simp only [Option.isSome_none, Option.getD_none]
        clear hf
        go_wp2_with fail
        go_region
        go_wp2_with fail
        go_ret2
        rw [HP.out]
        exact ⟨rfl, (HT.out.below B3.out).drew, (Chg.of B3.out).then (Below.refl _ _).drew⟩
      · have HP : Hid (putT T c.pr c.ia c.ip c.fa c.fp c.po c.st c.un = (k, 0, layT T k c.pr c.ia c.ip c.fa c.fp c.po c.st c.un)) := by show _ = _; unfold putT; rw [HF.out, HG.out, hf]
        have hk := fst_lt hf
        simp only [Option.isSome_some, Option.getD_some]
        clear hf s5
        have f0 := F3.out.c0
        have f1 := F3.out.c1
        have f2 := F3.out.c2
        have f3 := F3.out.c3
        have f4 := F3.out.c4
        have f5 := F3.out.c5
        have f6 := F3.out.c6
        have f7 := F3.out.c7
        go_wp2_with fail
        clear f0 f1 f2 f3 f4 f5 f6 f7
        have hve := HV.out k hk
        refine (lay_any b low T k c w3 (HT.out.below B3.out) hk hve.1 (by omega)).mono ?_
        rintro e w4 ⟨rfl, t4, c4⟩
        have T4 : Hid (Tab w4 b low (layT T k c.pr c.ia c.ip c.fa c.fp c.po c.st c.un)) := t4
        have C4 : Hid (Chg b w w4) := (Chg.of B3.out).trans c4
        clear t4 c4 hve
        go_wp2_with fail
        go_ret2
        rw [HP.out]
        exact ⟨rfl, T4.out, C4.out⟩
    · have HP : Hid (putT T c.pr c.ia c.ip c.fa c.fp c.po c.st c.un = (0, 5, T)) := by show _ = _; unfold putT; rw [HF.out, hf]
      simp only [Option.isSome_some, Option.getD_some]
      clear hf
      go_wp2_with fail
      go_region
      go_wp2_with fail
      go_ret2
      rw [HP.out]
      exact ⟨rfl, (HT.out.below B2.out).drew, (Chg.of B2.out).then (Below.refl _ _).drew⟩
  · have HP : Hid (putT T c.pr c.ia c.ip c.fa c.fp c.po c.st c.un = (0, 5, T)) := by show _ = _; unfold putT; rw [hf]
    simp only [Option.isSome_some, Option.getD_some]
    clear hf
    go_wp2_with fail
    go_region
    go_wp2_with fail
    go_ret2
    rw [HP.out]
    exact ⟨rfl, (HT.out.below B1.out).drew, (Chg.of B1.out).then (Below.refl _ _).drew⟩
theorem put_any (b : Nat) (low : Int) (T : Tb) (c : Ce) (n : Nat) (s : Nat → Addr) (w : World) (S : Se4 w s) (t : Tab w b low T) (hv : Vers T n) (hn : n ≤ 1000000000) :
    Calls Tryd.prog 62 #[.pointer (some ⟨b, 0, none⟩), flowV c] w fun e w' => e = .returned (.tuple #[.int .i64 ((putT T c.pr c.ia c.ip c.fa c.fp c.po c.st c.un).1 : Nat), terr s (putT T c.pr c.ia c.ip c.fa c.fp c.po c.st c.un).2.1]) ∧ Tab w' b low (putT T c.pr c.ia c.ip c.fa c.fp c.po c.st c.un).2.2 ∧ Chg b w w' :=
  put_an2 b low T c n s w S.s45 t hv hn
end Go.Proofs.YtjfhompbeengmaaDoor

namespace Go.Proofs.YtjfhompbeengmaaDoor
open Go.RowKit

theorem Vers.set {T : Tb} {n : Nat} (h : Vers T n) (k st un : Int) : Vers (setT T k st un) (n + 1) := by
  unfold setT
  split
  · rename_i e
    have := slotE_ok e
    exact h.lay (k := k.toNat) (T k.toNat).pr (T k.toNat).ia (T k.toNat).ip (T k.toNat).fa (T k.toNat).fp (T k.toNat).po st un (by omega)
  · exact h.more (by omega)
set_option maxRecDepth 100000 in
set_option maxHeartbeats 4000000 in
theorem set_any (b : Nat) (low : Int) (T : Tb) (k st un : Int) (n : Nat) (s : Nat → Addr) (w : World) (S : Se4 w s) (t : Tab w b low T) (hv : Vers T n) (hn : n ≤ 1000000000) :
    Calls Tryd.prog 55 #[.pointer (some ⟨b, 0, none⟩), .int .i64 k, .int .i64 st, .int .i64 un] w fun e w' => e = .returned (terr s (slotE T k)) ∧ Tab w' b low (setT T k st un) ∧ Chg b w w' := by
  have HS : Hid (Se4 w s) := S
  have HT : Hid (Tab w b low T) := t
  have HV : Hid (Vers T n) := hv
  clear t S hv
  go_enter Tryd.func55, Tryd.ntmps55
  go_wp2_with fail
  refine (must_any b low T k s _ HS.out HT.out).mono ?_
  rintro e w1 ⟨rfl, hb1⟩
  have B1 : Hid (Below w.heap.size w w1) := hb1
  have T1 : Hid (Tab w1 b low T) := HT.out.below hb1
  clear hb1
  by_cases he : slotE T k = 0
  · have HE : Hid (slotE T k = 0) := he
    obtain ⟨h0, h1, _⟩ := slotE_ok he
    obtain ⟨j, rfl⟩ : ∃ j : Nat, k = j := ⟨k.toNat, by omega⟩
    have hj : j < 32 := by omega
    rw [he]
    simp only [terr]
    clear he
    obtain ⟨c, hc⟩ : ∃ c, c = T j := ⟨_, rfl⟩
    have HC : Hid (c = T j) := hc
    have a2 := T1.out.at' (i := j) (k := 2) hj (by omega)
    have a3 := T1.out.at' (i := j) (k := 3) hj (by omega)
    have a4 := T1.out.at' (i := j) (k := 4) hj (by omega)
    have a5 := T1.out.at' (i := j) (k := 5) hj (by omega)
    have a6 := T1.out.at' (i := j) (k := 6) hj (by omega)
    have a7 := T1.out.at' (i := j) (k := 7) hj (by omega)
    have a8 := T1.out.at' (i := j) (k := 8) hj (by omega)
    have a9 := T1.out.at' (i := j) (k := 9) hj (by omega)
    rw [← hc] at a2 a3 a4 a5 a6 a7 a8 a9
    simp only [Ce.get] at a2 a3 a4 a5 a6 a7 a8 a9
    clear hc
    go_wp2_with fail
    clear a2 a3 a4 a5 a6 a7 a8 a9
    have hve := HV.out j hj
    refine (lay_any b low T j ⟨0, c.pr, c.ia, c.ip, c.fa, c.fp, c.po, st, un⟩ _ (T1.out.below (aB _ _)) hj hve.1 (by omega)).mono ?_
    rintro e w2 ⟨rfl, t2', c2⟩
    have T2 : Hid (Tab w2 b low (setT T j st un)) := by
      show Tab w2 b low (setT T j st un)
      unfold setT
      rw [if_pos HE.out, Int.toNat_natCast]
      rw [HC.out] at t2'
      exact t2'
    have C2 : Hid (Chg b w w2) := (Chg.of (t2 B1.out (aB _ _))).trans c2
    clear t2' c2 hve
    go_wp2_with fail
    go_ret
    exact ⟨by rw [HE.out]; rfl, T2.out, C2.out⟩
  · have HE : Hid (slotE T k ≠ 0) := he
    obtain ⟨v, hv⟩ := terr_ne s he
    rw [hv]
    clear he
    go_wp2_with fail
    go_ret
    refine ⟨hv ▸ rfl, ?_, Chg.of B1.out⟩
    unfold setT
    rw [if_neg HE.out]
    exact T1.out
end Go.Proofs.YtjfhompbeengmaaDoor

namespace Go.Proofs.YtjfhompbeengmaaDoor
open Go.RowKit

structure EnB (w : World) (Z : Nat) (ia ip fa fp : Int) : Prop where
  c0 : w.cell? ⟨Z, 0, none⟩ = some (.int .i64 ia)
  c1 : w.cell? ⟨Z, 1, none⟩ = some (.int .i64 ip)
  c2 : w.cell? ⟨Z + 1, 0, none⟩ = some (.int .i64 fa)
  c3 : w.cell? ⟨Z + 1, 1, none⟩ = some (.int .i64 fp)
theorem EnB.below {w w' : World} {Z : Nat} {ia ip fa fp : Int} (h : EnB w Z ia ip fa fp) (hb : Below w.heap.size w w') : EnB w' Z ia ip fa fp := ⟨tk hb h.c0, tk hb h.c1, tk hb h.c2, tk hb h.c3⟩
theorem enB_new (w : World) (ia ip fa fp : Int) : EnB ((w.alloc (.cells #[.int .i64 ia, .int .i64 ip] 24)).alloc (.cells #[.int .i64 fa, .int .i64 fp] 24)) w.heap.size ia ip fa fp := by
  have s1 : (w.alloc (.cells #[.int .i64 ia, .int .i64 ip] 24)).heap.size = w.heap.size + 1 := by simp
  have n1 := nw (w.alloc (.cells #[.int .i64 ia, .int .i64 ip] 24)) #[.int .i64 fa, .int .i64 fp] 24
  rw [s1] at n1
  exact ⟨tk (aB _ _) ((nw w _ _ 0).trans rfl), tk (aB _ _) ((nw w _ _ 1).trans rfl), (n1 0).trans rfl, (n1 1).trans rfl⟩
set_option maxRecDepth 100000 in
set_option maxHeartbeats 4000000 in
theorem add_an2 (b : Nat) (low : Int) (T : Tb) (pr ia ip fa fp st un : Int) (n : Nat) (s : Nat → Addr) (w : World) (S : Se45 w s) (t : Tab w b low T) (hl0 : 0 ≤ low) (hl1 : low ≤ 100000) (hv : Vers T n) (hn : n ≤ 1000000000) :
    Calls Tryd.prog 69 #[.pointer (some ⟨b, 0, none⟩), .int .i64 pr, .agg #[.int .i64 ia, .int .i64 ip], .agg #[.int .i64 fa, .int .i64 fp], .int .i64 st, .int .i64 un] w fun e w' => e = .returned (.tuple #[.int .i64 ((addT T low pr ia ip fa fp st un).1 : Nat), terr s (addT T low pr ia ip fa fp st un).2.1]) ∧ Tab w' b low (addT T low pr ia ip fa fp st un).2.2 ∧ Chg b w w' := by
  have HS : Hid (Se45 w s) := S
  have HT : Hid (Tab w b low T) := t
  have HV : Hid (Vers T n) := hv
  clear t S hv
  go_enter Tryd.func69, Tryd.ntmps69
  go_wp2_with fail
  have B0 : Hid (Below w.heap.size w ((w.alloc (.cells #[.int .i64 ia, .int .i64 ip] 24)).alloc (.cells #[.int .i64 fa, .int .i64 fp] 24))) := t2 (aB _ _) (aB _ _)
  have F0 : Hid (EnB ((w.alloc (.cells #[.int .i64 ia, .int .i64 ip] 24)).alloc (.cells #[.int .i64 fa, .int .i64 fp] 24)) w.heap.size ia ip fa fp) := enB_new w ia ip fa fp
  generalize (w.alloc (.cells #[.int .i64 ia, .int .i64 ip] 24)).alloc (.cells #[.int .i64 fa, .int .i64 fp] 24) = w0 at *
  generalize hZ : w.heap.size = Z at F0 ⊢
  refine (find_any b low T pr ia ip fa fp w0 (HT.out.below B0.out)).mono ?_
  rintro e w1 ⟨rfl, hb1⟩
  have B1 : Hid (Below w.heap.size w w1) := t2 B0.out hb1
  have F1 : Hid (EnB w1 Z ia ip fa fp) := F0.out.below hb1
  clear hb1 B0 F0
  have S1 := HS.out.below B1.out
  have s4 := S1.c4
  clear S1
  rcases hf : fst T (findQ pr ia ip fa fp) with _ | k0
  · have HF : Hid (fst T (findQ pr ia ip fa fp) = none) := hf
    simp only [Option.isSome_none, Option.getD_none]
    clear hf s4
    go_wp2_with fail
    refine (free_any b low T w1 (HT.out.below B1.out)).mono ?_
    rintro e w2 ⟨rfl, hb2⟩
    have B2 : Hid (Below w.heap.size w w2) := t2 B1.out hb2
    have F2 : Hid (EnB w2 Z ia ip fa fp) := F1.out.below hb2
    clear hb2 B1 F1
    have S1 := HS.out.below B2.out
    have s5 := S1.c5
    clear S1
    rcases hf : fst T freeQ with _ | k
    · have HP : Hid (addT T low pr ia ip fa fp st un = (0, 6, T)) := by show _ = _; unfold addT; rw [HF.out, hf]
      simp only [Option.isSome_none, Option.getD_none]
      clear hf
      go_wp2_with fail
      go_region
      go_wp2_with fail
      go_ret2
      rw [HP.out]
      exact ⟨rfl, (HT.out.below B2.out).drew, (Chg.of B2.out).then (Below.refl _ _).drew⟩
    · have HG : Hid (fst T freeQ = some k) := hf
      have hk := fst_lt hf
      simp only [Option.isSome_some, Option.getD_some]
      clear hf s5
      have f2 := F2.out.c2
      have f3 := F2.out.c3
      go_wp2_with fail
      clear f2 f3
      refine (port_any b low T pr fa fp w2 (HT.out.below B2.out) hl0 hl1).mono ?_
      rintro e w3 ⟨⟨x, rfl, hx⟩, hb3⟩
      have HX : Hid (∀ p, freeP T low pr fa fp = some p → x = low + p) := hx
      have B3 : Hid (Below w.heap.size w w3) := t2 B2.out hb3
      have F3 : Hid (EnB w3 Z ia ip fa fp) := F2.out.below hb3
      clear hb3 B2 F2 hx
      have S1 := HS.out.below B3.out
      have s5 := S1.c5
      clear S1
      rcases hf : freeP T low pr fa fp with _ | p
      · have HP : Hid (addT T low pr ia ip fa fp st un = (0, 6, T)) := by show _ = _; unfold addT; rw [HF.out, HG.out, hf]
        simp only [Option.isSome_none]
        clear hf
        go_wp2_with fail
        go_region
        go_wp2_with fail
        go_ret2
        rw [HP.out]
        exact ⟨rfl, (HT.out.below B3.out).drew, (Chg.of B3.out).then (Below.refl _ _).drew⟩
      · have HP : Hid (addT T low pr ia ip fa fp st un = (k, 0, layT T k pr ia ip fa fp (low + p) st un)) := by show _ = _; unfold addT; rw [HF.out, HG.out, hf]
        obtain rfl := HX.out p hf
        simp only [Option.isSome_some]
        clear hf s5 HX
        have f0 := F3.out.c0
        have f1 := F3.out.c1
        have f2 := F3.out.c2
        have f3 := F3.out.c3
        go_wp2_with fail
        clear f0 f1 f2 f3
        have hve := HV.out k hk
        refine (lay_any b low T k ⟨0, pr, ia, ip, fa, fp, low + p, st, un⟩ w3 (HT.out.below B3.out) hk hve.1 (by omega)).mono ?_
        rintro e w4 ⟨rfl, t4, c4⟩
        have T4 : Hid (Tab w4 b low (layT T k pr ia ip fa fp (low + p) st un)) := t4
        have C4 : Hid (Chg b w w4) := (Chg.of B3.out).trans c4
        clear t4 c4 hve
        go_wp2_with fail
        go_ret2
        rw [HP.out]
        exact ⟨rfl, T4.out, C4.out⟩
  · have HP : Hid (addT T low pr ia ip fa fp st un = (0, 5, T)) := by show _ = _; unfold addT; rw [hf]
    simp only [Option.isSome_some, Option.getD_some]
    clear hf
    go_wp2_with fail
    go_region
    go_wp2_with fail
    go_ret2
    rw [HP.out]
    exact ⟨rfl, (HT.out.below B1.out).drew, (Chg.of B1.out).then (Below.refl _ _).drew⟩
theorem add_any (b : Nat) (low : Int) (T : Tb) (pr ia ip fa fp st un : Int) (n : Nat) (s : Nat → Addr) (w : World) (S : Se4 w s) (t : Tab w b low T) (hl0 : 0 ≤ low) (hl1 : low ≤ 100000) (hv : Vers T n) (hn : n ≤ 1000000000) :
    Calls Tryd.prog 69 #[.pointer (some ⟨b, 0, none⟩), .int .i64 pr, .agg #[.int .i64 ia, .int .i64 ip], .agg #[.int .i64 fa, .int .i64 fp], .int .i64 st, .int .i64 un] w fun e w' => e = .returned (.tuple #[.int .i64 ((addT T low pr ia ip fa fp st un).1 : Nat), terr s (addT T low pr ia ip fa fp st un).2.1]) ∧ Tab w' b low (addT T low pr ia ip fa fp st un).2.2 ∧ Chg b w w' :=
  add_an2 b low T pr ia ip fa fp st un n s w S.s45 t hl0 hl1 hv hn
end Go.Proofs.YtjfhompbeengmaaDoor

namespace Go.Proofs.YtjfhompbeengmaaDoor
open Go.RowKit

set_option maxRecDepth 100000 in
set_option maxHeartbeats 2000000 in
theorem new_bad (node : Int) (s : Nat → Addr) (w : World) (S : Se4 w s) (h0 : node ≠ 0) (h1 : node ≠ 1) :
    Calls Tryd.prog 15 #[.int .i64 node] w fun e w' => e = .returned (.tuple #[.pointer none, terr s 2]) ∧ Below w.heap.size w w' := by
  have s1 := S.c1
  clear S
  have g0 : (node != 0) = true := bne_iff_ne.2 h0
  have g1 : (node != 1) = true := bne_iff_ne.2 h1
  go_enter Tryd.func15, Tryd.ntmps15
  go_wp2_with fail
  go_region
  go_wp2_with fail
  go_ret2
  exact ⟨rfl, (Below.refl _ _).drew⟩
/-- a table's block while its slots get their numbers. -/
def newArr (low : Int) (n : Nat) : Array Value := ((List.range 321).map fun j => if j = 0 then .int .i64 low else .int .i64 (if (j - 1) % 10 = 0 ∧ (j - 1) / 10 < n then (((j - 1) / 10 : Nat) : Int) else 0)).toArray
theorem newArr_size (low : Int) (n : Nat) : (newArr low n).size = 321 := by simp [newArr]
theorem newArr_at (low : Int) (n j : Nat) (h : j < 321) : (newArr low n)[j]? = some (if j = 0 then .int .i64 low else .int .i64 (if (j - 1) % 10 = 0 ∧ (j - 1) / 10 < n then (((j - 1) / 10 : Nat) : Int) else 0)) := by
  simp only [newArr, List.getElem?_toArray, List.getElem?_map, List.getElem?_range h, Option.map_some]
theorem zero_eq : Tryd.zeroCells89 = Array.replicate 321 (.int .i64 0) := by kernel_rfl
theorem newArr_zero (low : Int) : Tryd.zeroCells89.setIfInBounds 0 (.int .i64 low) = newArr low 0 := by
  rw [zero_eq]
  apply Array.ext_getElem?
  intro j
  rw [Array.getElem?_setIfInBounds, Array.size_replicate]
  by_cases hj : j < 321
  · rw [newArr_at low 0 j hj]
    by_cases h0 : j = 0
    · subst h0; rfl
    · rw [if_neg (by omega), if_neg h0, if_neg (by omega), Array.getElem?_replicate, if_pos hj]
  · rw [if_neg (by omega), Array.getElem?_eq_none (by rw [Array.size_replicate]; omega), Array.getElem?_eq_none (by rw [newArr_size]; omega)]
theorem newArr_next (low : Int) (n : Nat) (hn : n < 32) : (newArr low n).setIfInBounds (1 + n * 10) (.int .i64 n) = newArr low (n + 1) := by
  apply Array.ext_getElem?
  intro j
  rw [Array.getElem?_setIfInBounds, newArr_size]
  by_cases hj : j < 321
  · rw [newArr_at low n j hj, newArr_at low (n + 1) j hj]
    by_cases he : 1 + n * 10 = j
    · subst he
      rw [if_pos rfl, if_pos (by omega), if_neg (by omega), if_pos (by omega)]
      congr 3
      omega
    · rw [if_neg he]
      by_cases h0 : j = 0
      · rw [if_pos h0, if_pos h0]
      · rw [if_neg h0, if_neg h0]
        by_cases hc : (j - 1) % 10 = 0 ∧ (j - 1) / 10 < n
        · rw [if_pos hc, if_pos (by omega)]
        · rw [if_neg hc, if_neg (by omega)]
  · rw [if_neg (by omega), Array.getElem?_eq_none (by rw [newArr_size]; omega), Array.getElem?_eq_none (by rw [newArr_size]; omega)]
theorem newArr_all (low : Int) : newArr low 32 = tabArr low newT := by
  apply Array.ext_getElem?
  intro j
  by_cases hj : j < 321
  · rw [newArr_at low 32 j hj]
    by_cases h0 : j = 0
    · subst h0; rw [tabArr_low]; rfl
    · have a := tabArr_at low newT ((j - 1) / 10) ((j - 1) % 10) (by omega) (by omega)
      rw [show 1 + (j - 1) / 10 * 10 + (j - 1) % 10 = j from by omega] at a
      rw [a, if_neg h0]
      congr 2
      have hl : (j - 1) % 10 = 0 ∨ (j - 1) % 10 = 1 ∨ (j - 1) % 10 = 2 ∨ (j - 1) % 10 = 3 ∨ (j - 1) % 10 = 4 ∨ (j - 1) % 10 = 5 ∨ (j - 1) % 10 = 6 ∨ (j - 1) % 10 = 7 ∨ (j - 1) % 10 = 8 ∨ (j - 1) % 10 = 9 := by omega
      rcases hl with e | e | e | e | e | e | e | e | e | e <;> rw [e]
      · rw [if_pos ⟨rfl, by omega⟩]; rfl
      all_goals (rw [if_neg (by omega)]; rfl)
  · rw [Array.getElem?_eq_none (by rw [newArr_size]; omega), Array.getElem?_eq_none (by rw [tabArr_size]; omega)]
def NewB (w : World) (b : Nat) (low : Int) (n : Nat) : Prop := w.heap[b]? = some (.cells (newArr low n) 89 (0, 0))
set_option maxRecDepth 100000 in
set_option maxHeartbeats 2000000 in
theorem new_0 (w : World) :
    Calls Tryd.prog 15 #[.int .i64 0] w fun e w' => ∃ b, e = .returned (.tuple #[.pointer (some ⟨b, 0, none⟩), .nilIface]) ∧ Tab w' b 2000 newT ∧ w.heap.size ≤ b ∧ Below w.heap.size w w' := by
  go_enter Tryd.func15, Tryd.ntmps15
  go_wp2_with fail
  have N0 : Hid (NewB (w.alloc (.cells (Tryd.zeroCells89.setIfInBounds 0 (.int .i64 2000)) 89)) w.heap.size 2000 0) := by
    show NewB _ _ _ _
    unfold NewB
    rw [heap_alloc_new, newArr_zero]
  have B0 : Hid (Below w.heap.size w (w.alloc (.cells (Tryd.zeroCells89.setIfInBounds 0 (.int .i64 2000)) 89))) := (Below.refl _ _).alloc (Nat.le_refl _) _
  generalize w.alloc (.cells (Tryd.zeroCells89.setIfInBounds 0 (.int .i64 2000)) 89) = w0 at *
  generalize Tryd.zeroCells89.setIfInBounds 0 (.int .i64 2000) = zz at *
  obtain ⟨Z, hZ⟩ : ∃ Z, Z = w.heap.size := ⟨_, rfl⟩
  have HZ : Hid (Z = w.heap.size) := hZ
  rw [← hZ] at N0 ⊢
  clear hZ
  go_loopw [18] (fun t wr => ∃ j : Nat, j ≤ 32 ∧ t = .int .i64 j ∧ NewB wr Z 2000 j ∧ Below w.heap.size w wr) (fun t _ => 32 - (intOf t).toNat)
  case atStart => exact ⟨0, by omega, rfl, N0.out, B0.out⟩
  case round =>
    obtain ⟨j, hj, rfl, hnb, hbr⟩ := hrel
    have HN : Hid (NewB wr Z 2000 j) := hnb
    have HB : Hid (Below w.heap.size w wr) := hbr
    clear hnb hbr
    by_cases hlt : j < 32
    · have hc : ∃ v, wr.cell? ⟨Z, 1 + j * 10, none⟩ = some v := ⟨_, (cell_of_row wr Z _ _ _ _ HN.out).trans (newArr_at _ _ _ (by omega))⟩
      obtain ⟨v, hc⟩ := hc
      have hz := frozen_of_row wr Z (1 + j * 10) _ _ HN.out
      have i0 : (0 : Int) ≤ (j : Int) := by omega
      have i1 : (j : Int) < 32 := by omega
      go_wp2_with fail
      go_roundw
      case rel =>
        refine ⟨j + 1, by omega, by go_num, ?_, HB.out.setCell (by have := HZ.out; simp only; omega) _⟩
        unfold NewB
        rw [heap_setCell_same wr Z _ _ _ _ HN.out, newArr_next _ _ hlt]
      case measure => simp [intOf]; omega
    · obtain rfl : j = 32 := by omega
      go_wp2_with fail
      go_ret2
      refine ⟨Z, rfl, ?_, by have := HZ.out; omega, HB.out⟩
      have h := HN.out
      unfold NewB at h
      rw [newArr_all] at h
      exact h
set_option maxRecDepth 100000 in
set_option maxHeartbeats 2000000 in
theorem new_1 (w : World) :
    Calls Tryd.prog 15 #[.int .i64 1] w fun e w' => ∃ b, e = .returned (.tuple #[.pointer (some ⟨b, 0, none⟩), .nilIface]) ∧ Tab w' b 2024 newT ∧ w.heap.size ≤ b ∧ Below w.heap.size w w' := by
  go_enter Tryd.func15, Tryd.ntmps15
  go_wp2_with fail
  have N0 : Hid (NewB (w.alloc (.cells (Tryd.zeroCells89.setIfInBounds 0 (.int .i64 2024)) 89)) w.heap.size 2024 0) := by
    show NewB _ _ _ _
    unfold NewB
    rw [heap_alloc_new, newArr_zero]
  have B0 : Hid (Below w.heap.size w (w.alloc (.cells (Tryd.zeroCells89.setIfInBounds 0 (.int .i64 2024)) 89))) := (Below.refl _ _).alloc (Nat.le_refl _) _
  generalize w.alloc (.cells (Tryd.zeroCells89.setIfInBounds 0 (.int .i64 2024)) 89) = w0 at *
  generalize Tryd.zeroCells89.setIfInBounds 0 (.int .i64 2024) = zz at *
  obtain ⟨Z, hZ⟩ : ∃ Z, Z = w.heap.size := ⟨_, rfl⟩
  have HZ : Hid (Z = w.heap.size) := hZ
  rw [← hZ] at N0 ⊢
  clear hZ
  go_loopw [18] (fun t wr => ∃ j : Nat, j ≤ 32 ∧ t = .int .i64 j ∧ NewB wr Z 2024 j ∧ Below w.heap.size w wr) (fun t _ => 32 - (intOf t).toNat)
  case atStart => exact ⟨0, by omega, rfl, N0.out, B0.out⟩
  case round =>
    obtain ⟨j, hj, rfl, hnb, hbr⟩ := hrel
    have HN : Hid (NewB wr Z 2024 j) := hnb
    have HB : Hid (Below w.heap.size w wr) := hbr
    clear hnb hbr
    by_cases hlt : j < 32
    · have hc : ∃ v, wr.cell? ⟨Z, 1 + j * 10, none⟩ = some v := ⟨_, (cell_of_row wr Z _ _ _ _ HN.out).trans (newArr_at _ _ _ (by omega))⟩
      obtain ⟨v, hc⟩ := hc
      have hz := frozen_of_row wr Z (1 + j * 10) _ _ HN.out
      have i0 : (0 : Int) ≤ (j : Int) := by omega
      have i1 : (j : Int) < 32 := by omega
      go_wp2_with fail
      go_roundw
      case rel =>
        refine ⟨j + 1, by omega, by go_num, ?_, HB.out.setCell (by have := HZ.out; simp only; omega) _⟩
        unfold NewB
        rw [heap_setCell_same wr Z _ _ _ _ HN.out, newArr_next _ _ hlt]
      case measure => simp [intOf]; omega
    · obtain rfl : j = 32 := by omega
      go_wp2_with fail
      go_ret2
      refine ⟨Z, rfl, ?_, by have := HZ.out; omega, HB.out⟩
      have h := HN.out
      unfold NewB at h
      rw [newArr_all] at h
      exact h
theorem new_ok (node : Nat) (w : World) (h : node < 2) :
    Calls Tryd.prog 15 #[.int .i64 node] w fun e w' => ∃ b, e = .returned (.tuple #[.pointer (some ⟨b, 0, none⟩), .nilIface]) ∧ Tab w' b (2000 + node * 24) newT ∧ w.heap.size ≤ b ∧ Below w.heap.size w w' := by
  have hn : node = 0 ∨ node = 1 := by omega
  rcases hn with rfl | rfl
  · exact new_0 w
  · exact new_1 w
end Go.Proofs.YtjfhompbeengmaaDoor
