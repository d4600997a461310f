/-
  A node as plain mathematics: its role, cell, table, teller, mirror and rules, and what each act makes of it.
-/
import Derived.Test.YtjfhompbeengmaaDoorKa
import Derived.Test.YtjfhompbeengmaaDoorKc
import Derived.Test.YtjfhompbeengmaaDoorKe
import Derived.Test.YtjfhompbeengmaaDoorKf
import Derived.Test.YtjfhompbeengmaaDoorKd
import Derived.Test.YtjfhompbeengmaaDoorKg
import Derived.Test.YtjfhompbeengmaaDoorKh
namespace Go.Proofs.YtjfhompbeengmaaDoor
open Go.RowKit

/-- what a teller tells next, and its cursor behind it, as functions. -/
def nxJ (T : Tb) (D : To) (c : Nat) : Nat := ((List.range 33).find? fun j => decide (8 ≤ (wk ((newsL T D).take 8) c j).length)).getD 0
def nxL (T : Tb) (D : To) (c : Nat) : List Nat := wk ((newsL T D).take 8) c (nxJ T D c)
def nxC (T : Tb) (D : To) (c : Nat) : Nat := (c + nxJ T D c) % 32
theorem nxJ_full (T : Tb) (D : To) (c : Nat) : Full ((newsL T D).take 8) c (nxJ T D c) := by
  obtain ⟨j, hj⟩ := full_ex ((newsL T D).take 8) c
  have hle := hj.le
  have : (List.range 33).find? (fun j => decide (8 ≤ (wk ((newsL T D).take 8) c j).length)) = some j := by
    rw [List.find?_range_eq_some]
    refine ⟨by simpa using hj.2, by simp; omega, fun i hi => ?_⟩
    have := hj.1 i hi
    simp; omega
  unfold nxJ
  rw [this]
  exact hj
theorem nx_spec (T : Tb) (D : To) (c : Nat) : Nx T D c (nxL T D c) (nxC T D c) := ⟨nxJ T D c, nxJ_full T D c, rfl, rfl⟩

/-- what fits 64 bits. -/
def In6 (x : Int) : Prop := -9223372036854775808 ≤ x ∧ x ≤ 9223372036854775807
theorem In6.wf {x : Int} (h : In6 x) : (Lit.int .i64 x).wf = true := WalkArith.wf_i64 (by unfold In6 at h; omega)
theorem In6.small {x : Int} (h0 : -1000000 ≤ x) (h1 : x ≤ 1000000) : In6 x := by unfold In6; omega
/-- a table whose protos and states fit. -/
def WfT (T : Tb) : Prop := ∀ j, j < 32 → In6 (T j).pr ∧ In6 (T j).st
theorem WfT.new : WfT newT := fun j _ => ⟨In6.small (by show (-1000000 : Int) ≤ 0; omega) (by show (0 : Int) ≤ 1000000; omega), In6.small (by show (-1000000 : Int) ≤ 0; omega) (by show (0 : Int) ≤ 1000000; omega)⟩
theorem WfT.upd {T : Tb} (h : WfT T) (k : Nat) (c : Ce) (h1 : In6 c.pr) (h2 : In6 c.st) : WfT (upd T k c) := fun j hj => by
  unfold Go.Proofs.YtjfhompbeengmaaDoor.upd
  split
  · exact ⟨h1, h2⟩
  · exact h j hj
theorem in0 : In6 0 := In6.small (by omega) (by omega)
theorem WfT.exp {T : Tb} (h : WfT T) (now : Int) (n : Nat) : WfT (expT T now n) := fun j hj => by
  unfold expT
  split
  · exact ⟨in0, in0⟩
  · exact h j hj
theorem WfT.put {T : Tb} (h : WfT T) (pr ia ip fa fp po st un : Int) (h1 : In6 pr) (h2 : In6 st) : WfT (putT T pr ia ip fa fp po st un).2.2 := by
  unfold putT
  repeat' split
  all_goals first | exact h | exact h.upd _ _ h1 h2
theorem WfT.add {T : Tb} (h : WfT T) (low pr ia ip fa fp st un : Int) (h1 : In6 pr) (h2 : In6 st) : WfT (addT T low pr ia ip fa fp st un).2.2 := by
  unfold addT
  repeat' split
  all_goals first | exact h | exact h.upd _ _ h1 h2
theorem WfT.set {T : Tb} (h : WfT T) (k st un : Int) (h2 : In6 st) : WfT (setT T k st un) := by
  unfold setT
  split
  · rename_i he
    obtain ⟨a, b, _⟩ := slotE_ok he
    exact h.upd _ _ (h k.toNat (by omega)).1 h2
  · exact h
theorem WfT.drop {T : Tb} (h : WfT T) (k : Int) : WfT (dropT T k) := by
  unfold dropT
  split
  · exact h.upd _ _ in0 in0
  · exact h
theorem stay_le (pr st : Int) : 0 ≤ stay pr st ∧ stay pr st ≤ 100 := by
  unfold stay
  split
  · omega
  · split
    · split
      · omega
      · split
        · omega
        · split <;> omega
    · omega

/-- a node. -/
structure No where
  ro : Ro
  id : Int
  life : Int
  now : Int
  ru : List Rl
  off : Bool
  y : By
  T : Tb
  D : To
  cu : Nat
  ml : Int
  mt : Tb
def No.low (x : No) : Int := 2000 + x.id * 24
/-- flows adopted, one by one. -/
def adT (now : Int) : Tb → List Ce → Tb
  | T, [] => T
  | T, c :: r => adT now (putT T c.pr c.ia c.ip c.fa c.fp c.po c.st (now + stay c.pr c.st)).2.2 r
theorem adT_snoc (now : Int) : ∀ (l : List Ce) (T : Tb) (c : Ce), adT now T (l ++ [c]) = (putT (adT now T l) c.pr c.ia c.ip c.fa c.fp c.po c.st (now + stay c.pr c.st)).2.2
  | [], _, _ => rfl
  | _ :: l, _, c => adT_snoc now l _ c
theorem Vers.ad (now : Int) : ∀ (l : List Ce) {T : Tb} {m : Nat}, Vers T m → Vers (adT now T l) (m + l.length)
  | [], _, _, h => h
  | c :: l, _, m, h => by
    have := Vers.ad now l (h.put c.pr c.ia c.ip c.fa c.fp c.po c.st (now + stay c.pr c.st))
    rw [List.length_cons, show m + (l.length + 1) = m + 1 + l.length by omega]
    exact this
theorem WfT.ad (now : Int) : ∀ (l : List Ce) {T : Tb}, WfT T → (∀ c ∈ l, In6 c.pr ∧ In6 c.st) → WfT (adT now T l)
  | [], _, h, _ => h
  | c :: l, _, h, hl => WfT.ad now l (h.put _ _ _ _ _ _ _ _ (hl c (by simp)).1 (hl c (by simp)).2) (fun d hd => hl d (by simp [hd]))
theorem flL_mem {T : Tb} : ∀ {n : Nat} {c : Ce}, c ∈ flL T n → ∃ j, j < n ∧ c = T j
  | 0, _, h => by simp [flL] at h
  | n + 1, c, h => by
    unfold flL at h
    split at h
    · obtain ⟨j, a, b⟩ := flL_mem h; exact ⟨j, by omega, b⟩
    · rcases List.mem_append.1 h with h | h
      · obtain ⟨j, a, b⟩ := flL_mem h; exact ⟨j, by omega, b⟩
      · exact ⟨n, by omega, by simpa using h⟩

/-- one tick more: what expires, and the role. -/
def No.ticked (x : No) : No := { x with now := x.now + 1, T := expT x.T (x.now + 1) 32, ro := x.ro.tick }
/-- what the cell makes of the next epoch. -/
def No.cp (x : No) : Nat × By × Bool := putE x.off x.y x.ro.nxV x.life
def No.clE (x : No) : Nat := if x.ro.nxE = 0 then x.cp.1 else 0
def No.clm (x : No) : No :=
  if x.ro.nxE = 0 then
    (if x.cp.1 = 0 then { x with y := x.cp.2.1, off := x.cp.2.2, T := adT x.now x.T (flL x.mt 32), ro := x.ro.claim x.ro.nxV } else { x with y := x.cp.2.1, off := x.cp.2.2 })
  else x
/-- a tick's error, and the node ahead of its notes. -/
def No.tkE (x : No) : Nat := if x.ro.rings then x.ticked.clE else 0
def No.tk1 (x : No) : No := if x.ro.rings then x.ticked.clm else x.ticked
def No.due (x : No) : Bool := decide (x.now % 3 = 0)
/-- a note: is it a claim; which slots are told. -/
structure Nt where
  cl : Bool
  L : List Nat
def No.notes (x : No) (fresh : Bool) : List Nt :=
  if x.ro.ac then (if fresh || x.due then [⟨true, []⟩] else []) ++ (if x.due then [⟨false, nxL x.T x.D x.cu⟩] else []) else []
def No.noted (x : No) : No := if x.ro.ac && x.due then { x with D := toldD x.T x.D (nxL x.T x.D x.cu), cu := nxC x.T x.D x.cu } else x
/-- the node behind a tick; its notes. -/
def No.tick (x : No) : No := if x.tkE = 0 then x.tk1.noted else x.tk1
def No.tickL (x : No) : List Nt := if x.tkE = 0 then x.tk1.notes (!x.ro.ac) else []
end Go.Proofs.YtjfhompbeengmaaDoor
