/-
  A table of flows as plain mathematics: cells of slots, the first slot that fits, what the acts make of it.
-/
namespace Go.Proofs.YtifkbafdjkgnoaaDoor

structure Ce where
  ve : Int
  pr : Int
  ia : Int
  ip : Int
  fa : Int
  fp : Int
  po : Int
  st : Int
  un : Int
deriving DecidableEq
/-- cell k of slot i. -/
def Ce.get (c : Ce) (i : Nat) : Nat → Int
  | 0 => i | 1 => c.ve | 2 => c.pr | 3 => c.ia | 4 => c.ip | 5 => c.fa | 6 => c.fp | 7 => c.po | 8 => c.st | _ => c.un
def Ce.put (c : Ce) (x : Int) : Nat → Ce
  | 1 => { c with ve := x } | 2 => { c with pr := x } | 3 => { c with ia := x } | 4 => { c with ip := x } | 5 => { c with fa := x }
  | 6 => { c with fp := x } | 7 => { c with po := x } | 8 => { c with st := x } | 9 => { c with un := x } | _ => c
theorem Ce.get_put (c : Ce) (x : Int) (i k l : Nat) (h1 : 1 ≤ k) (h2 : k < 10) (h3 : l < 10) : (c.put x k).get i l = if l = k then x else c.get i l := by
  have hk : k = 1 ∨ k = 2 ∨ k = 3 ∨ k = 4 ∨ k = 5 ∨ k = 6 ∨ k = 7 ∨ k = 8 ∨ k = 9 := by omega
  have hl : l = 0 ∨ l = 1 ∨ l = 2 ∨ l = 3 ∨ l = 4 ∨ l = 5 ∨ l = 6 ∨ l = 7 ∨ l = 8 ∨ l = 9 := by omega
  rcases hk with rfl | rfl | rfl | rfl | rfl | rfl | rfl | rfl | rfl <;> rcases hl with rfl | rfl | rfl | rfl | rfl | rfl | rfl | rfl | rfl | rfl <;> rfl
/-- a table: its slots. -/
abbrev Tb := Nat → Ce
def upd (T : Tb) (k : Nat) (c : Ce) : Tb := fun j => if j = k then c else T j
theorem upd_same (T : Tb) (k : Nat) (c : Ce) : upd T k c k = c := by simp [upd]
theorem upd_other (T : Tb) {k j : Nat} (c : Ce) (h : j ≠ k) : upd T k c j = T j := by simp [upd, h]
theorem upd_upd (T : Tb) (k : Nat) (c d : Ce) : upd (upd T k c) k d = upd T k d := by
  funext j; unfold upd; split <;> rfl
def noC : Ce := ⟨0, 0, 0, 0, 0, 0, 0, 0, 0⟩
def findQ (pr ia ip fa fp : Int) (c : Ce) : Bool := (c.pr != 0) && ((c.pr == pr) && ((c.ia == ia && c.ip == ip) && (c.fa == fa && c.fp == fp)))
def backQ (pr po fa fp : Int) (c : Ce) : Bool := (c.pr != 0) && ((c.pr == pr) && ((c.po == po) && (c.fa == fa && c.fp == fp)))
def freeQ (c : Ce) : Bool := c.pr == 0
theorem findQ_iff {pr ia ip fa fp : Int} {c : Ce} : findQ pr ia ip fa fp c = true ↔ c.pr ≠ 0 ∧ c.pr = pr ∧ c.ia = ia ∧ c.ip = ip ∧ c.fa = fa ∧ c.fp = fp := by
  unfold findQ; simp [and_assoc]
theorem backQ_iff {pr po fa fp : Int} {c : Ce} : backQ pr po fa fp c = true ↔ c.pr ≠ 0 ∧ c.pr = pr ∧ c.po = po ∧ c.fa = fa ∧ c.fp = fp := by
  unfold backQ; simp
/-- the first slot that fits. -/
def fst (T : Tb) (q : Ce → Bool) : Option Nat := (List.range 32).find? fun i => q (T i)
theorem fst_some {T : Tb} {q : Ce → Bool} {k : Nat} : fst T q = some k ↔ k < 32 ∧ q (T k) = true ∧ ∀ j, j < k → q (T j) = false := by
  unfold fst
  rw [List.find?_range_eq_some]
  simp
  constructor
  · rintro ⟨h1, h2, h3⟩; exact ⟨h2, h1, h3⟩
  · rintro ⟨h1, h2, h3⟩; exact ⟨h2, h1, h3⟩
theorem fst_none {T : Tb} {q : Ce → Bool} : fst T q = none ↔ ∀ j, j < 32 → q (T j) = false := by
  unfold fst
  rw [List.find?_range_eq_none]
  simp
/-- the least of so many ports from 'low' on that none has. -/
def freeP (T : Tb) (low pr fa fp : Int) : Option Nat := (List.range 24).find? fun i => (fst T (backQ pr (low + i) fa fp)).isNone
theorem freeP_some {T : Tb} {low pr fa fp : Int} {k : Nat} : freeP T low pr fa fp = some k ↔ k < 24 ∧ fst T (backQ pr (low + k) fa fp) = none ∧ ∀ j, j < k → (fst T (backQ pr (low + j) fa fp)).isSome = true := by
  unfold freeP
  rw [List.find?_range_eq_some]
  simp
  constructor
  · rintro ⟨h1, h2, h3⟩; exact ⟨h2, h1, h3⟩
  · rintro ⟨h1, h2, h3⟩; exact ⟨h2, h1, h3⟩
theorem freeP_none {T : Tb} {low pr fa fp : Int} : freeP T low pr fa fp = none ↔ ∀ j, j < 24 → (fst T (backQ pr (low + (j : Nat)) fa fp)).isSome = true := by
  unfold freeP
  rw [List.find?_range_eq_none]
  simp
/-- a slot laid anew: its version is one more. -/
def layT (T : Tb) (k : Nat) (pr ia ip fa fp po st un : Int) : Tb := upd T k ⟨(T k).ve + 1, pr, ia, ip, fa, fp, po, st, un⟩
/-- what Add makes: the slot, an error's number, the table. -/
def addT (T : Tb) (low pr ia ip fa fp st un : Int) : Nat × Nat × Tb :=
  match fst T (findQ pr ia ip fa fp) with
  | some _ => (0, 5, T)
  | none => match fst T freeQ with
    | none => (0, 6, T)
    | some k => match freeP T low pr fa fp with
      | none => (0, 6, T)
      | some p => (k, 0, layT T k pr ia ip fa fp (low + p) st un)
def putT (T : Tb) (pr ia ip fa fp po st un : Int) : Nat × Nat × Tb :=
  match fst T (findQ pr ia ip fa fp) with
  | some _ => (0, 5, T)
  | none => match fst T (backQ pr po fa fp) with
    | some _ => (0, 5, T)
    | none => match fst T freeQ with
      | none => (0, 6, T)
      | some k => (k, 0, layT T k pr ia ip fa fp po st un)
/-- a slot's error: 2: none such; 4: no flow. -/
def slotE (T : Tb) (k : Int) : Nat := if k < 0 ∨ 32 ≤ k then 2 else if (T k.toNat).pr = 0 then 4 else 0
def setT (T : Tb) (k st un : Int) : Tb := if slotE T k = 0 then upd T k.toNat { T k.toNat with ve := (T k.toNat).ve + 1, st := st, un := un } else T
def dropT (T : Tb) (k : Int) : Tb := if slotE T k = 0 then layT T k.toNat 0 0 0 0 0 0 0 0 else T
def newT : Tb := fun _ => noC
/-- versions from 0 to n. -/
def Vers (T : Tb) (n : Nat) : Prop := ∀ j, j < 32 → 0 ≤ (T j).ve ∧ (T j).ve ≤ n
theorem Vers.more {T : Tb} {n m : Nat} (h : Vers T n) (hm : n ≤ m) : Vers T m := fun j hj => by have := h j hj; omega
theorem Vers.lay {T : Tb} {n k : Nat} (h : Vers T n) (pr ia ip fa fp po st un : Int) (hk : k < 32) : Vers (layT T k pr ia ip fa fp po st un) (n + 1) := fun j hj => by
  unfold layT upd
  have := h j hj
  have := h k hk
  split
  · simp only; omega
  · omega
theorem Vers.new : Vers newT 0 := fun j _ => by simp [newT, noC]
theorem fst_lt {T : Tb} {q : Ce → Bool} {k : Nat} (h : fst T q = some k) : k < 32 := (fst_some.1 h).1
theorem Vers.add {T : Tb} {n : Nat} (h : Vers T n) (low pr ia ip fa fp st un : Int) : Vers (addT T low pr ia ip fa fp st un).2.2 (n + 1) := by
  unfold addT
  split
  · exact h.more (by omega)
  split
  · exact h.more (by omega)
  rename_i h2
  split
  · exact h.more (by omega)
  · exact h.lay _ _ _ _ _ _ _ _ (fst_lt h2)
theorem Vers.put {T : Tb} {n : Nat} (h : Vers T n) (pr ia ip fa fp po st un : Int) : Vers (putT T pr ia ip fa fp po st un).2.2 (n + 1) := by
  unfold putT
  split
  · exact h.more (by omega)
  split
  · exact h.more (by omega)
  split
  · exact h.more (by omega)
  · rename_i h2
    exact h.lay _ _ _ _ _ _ _ _ (fst_lt h2)
theorem slotE_ok {T : Tb} {k : Int} (h : slotE T k = 0) : 0 ≤ k ∧ k < 32 ∧ (T k.toNat).pr ≠ 0 := by
  unfold slotE at h
  split at h
  · cases h
  split at h
  · cases h
  · rename_i a b; exact ⟨by omega, by omega, b⟩
theorem Vers.drop {T : Tb} {n : Nat} (h : Vers T n) (k : Int) : Vers (dropT T k) (n + 1) := by
  unfold dropT
  split
  · rename_i e
    have := slotE_ok e
    exact h.lay _ _ _ _ _ _ _ _ (by omega)
  · exact h.more (by omega)
end Go.Proofs.YtifkbafdjkgnoaaDoor
