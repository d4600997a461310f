/-
  A node with one flow: what ticks and packets make of it.
-/
import Derived.Test.YtjfhompbeengmaaDoorNoL
import Derived.Test.YtjfhompbeengmaaDoorKo
import Derived.Test.YtjfhompbeengmaaDoorKi
namespace Go.Proofs.YtjfhompbeengmaaDoor
open Go.RowKit

theorem tick_ru (x : No) : x.tick.ru = x.ru := by
  unfold No.tick No.tk1 No.noted No.clm No.ticked
  repeat' split
  all_goals rfl
/-- a node that hears nothing, with these rules. -/
def Lr (w0 w : World) (k : Bk) (id ep life : Nat) (y : By) (l : List Rl) (j : Nat) : Prop := ∃ x n, Nd w0 w k x (33 * j) n ∧ n ≤ 8 * j ∧ Qn id ep life y j x ∧ x.ru = l
theorem new_lr {w0 w : World} {s : Nat → Addr} (S : SeN w0 s) (id b : Nat) (y : By) (v : Value) (l : List Rl) (Y : Byt w b y) (hb : w0.heap.size ≤ b) (bl : Below w0.heap.size w0 w) {n e li : Nat} (B : Beg y n e li) (hid : id < 2) (R : Sl w v l) (hsep : ∀ a n c, v = .slice (some a) n c → a.block ≠ b) (hr : RulesOk l) :
    Calls Tryd.prog 6 #[.int .i64 id, .pointer (some ⟨b, 0, none⟩), v] w fun r w' => ∃ k, r = .returned (.tuple #[.pointer (some ⟨k.nd, 0, none⟩), .nilIface]) ∧ Lr w0 w' k id e (li + 1) (yNew y) l 0 := by
  refine (new_nd S id b y v l Y hb bl B.q.lf R hsep ⟨hid, hr, B.q.on, by rw [B.nw]; have := B.he; show e ≤ _; omega, B.new.1⟩).mono ?_
  rintro r w' ⟨⟨k, rfl, hk, nd⟩, _⟩
  have q := Qn.new (id := id) (y := y) (l := l)
  rw [B.nw] at q
  exact ⟨k, rfl, ⟨_, 0, nd, Nat.le_refl _, q, rfl⟩⟩
theorem tick_lr {w0 w : World} {k : Bk} {id ep life j : Nat} {y : By} {l : List Rl} {s : Nat → Addr} (S : SeN w0 s) (h : Lr w0 w k id ep life y l j) {n : Nat} (B : Beg y n ep life) (hj : j ≤ 1000) :
    Calls Tryd.prog 7 #[.pointer (some ⟨k.nd, 0, none⟩)] w fun e w' => (∃ v, e = .returned (.tuple #[v, .nilIface])) ∧ Lr w0 w' k id ep life y l (j + 1) := by
  obtain ⟨x, n0, nd, hn, q, hr⟩ := h
  have hp : (putE false y (Ro.new id ep).nx life).1 = 0 := by
    rw [nxN_eq]
    have := nxN_lt id ep
    have := B.he
    have := B.hl
    exact (B.put (by omega) (by omega) (Nat.le_refl _) (by omega)).1
  obtain ⟨e0, q1⟩ := q.tick (by have := B.he; omega) hp
  refine (tick_nd S nd (by rw [q.now]; omega) (by rw [q.now]; omega) (by omega) (by omega)).mono ?_
  rintro r w' ⟨⟨v, rfl, _⟩, ⟨n', hn', n1⟩, c⟩
  rw [e0]
  exact ⟨⟨v, rfl⟩, ⟨_, n', by rw [show 33 * (j + 1) = 33 * j + 33 by omega]; exact n1, by omega, q1, (tick_ru x).trans hr⟩⟩
theorem Lr.bl {w0 w : World} {k : Bk} {id ep life j : Nat} {y : By} {l : List Rl} (h : Lr w0 w k id ep life y l j) : Below w0.heap.size w0 w := by
  obtain ⟨x, n0, nd, _⟩ := h; exact nd.bl

/-- one flow in slot 0. -/
def oneT (ve : Int) (p : Pk) (po st un : Int) : Tb := upd newT 0 ⟨ve, p.pr, p.a1, p.p1, p.a2, p.p2, po, st, un⟩
theorem one_find {ve po st un : Int} {p : Pk} (hp : p.pr ≠ 0) : fst (oneT ve p po st un) (findQ p.pr p.a1 p.p1 p.a2 p.p2) = some 0 := by
  rw [fst_some]
  refine ⟨by omega, ?_, fun j hj => by omega⟩
  rw [findQ_iff]
  unfold oneT
  rw [upd_same]
  exact ⟨hp, rfl, rfl, rfl, rfl, rfl⟩
theorem one_exp {ve po st un now : Int} {p : Pk} (h : now < un) : expT (oneT ve p po st un) now 32 = oneT ve p po st un := by
  funext j
  unfold expT
  rw [if_neg]
  rintro ⟨_, hg⟩
  unfold oneT at hg
  by_cases e : j = 0
  · subst e
    rw [upd_same] at hg
    simp [goneQ] at hg
    omega
  · rw [upd_other _ _ e] at hg
    simp [goneQ, newT, noC] at hg
theorem one_gone {ve po st un now : Int} {p : Pk} (h : un ≤ now) : (expT (oneT ve p po st un) now 32 0).pr = 0 := by
  unfold expT
  by_cases hp : p.pr = 0
  · split
    · rfl
    · simp only [oneT, upd_same]; exact hp
  · rw [if_pos]
    refine ⟨by omega, ?_⟩
    simp only [oneT, upd_same, goneQ]
    simp [hp, h]
theorem new_add {low pr ia ip fa fp st un : Int} : addT newT low pr ia ip fa fp st un = (0, 0, layT newT 0 pr ia ip fa fp low st un) := by
  have h1 : fst newT (findQ pr ia ip fa fp) = none := by
    rw [fst_none]; intro j _; simp [findQ, newT, noC]
  have h2 : fst newT freeQ = some 0 := by
    rw [fst_some]; exact ⟨by omega, by simp [freeQ, newT, noC], fun j hj => by omega⟩
  have h3 : freeP newT low pr fa fp = some 0 := by
    rw [freeP_some]
    refine ⟨by omega, ?_, fun j hj => by omega⟩
    rw [fst_none]; intro j _; simp [backQ, newT, noC]
  unfold addT
  rw [h1, h2, h3]
  simp
/-- a node whose one flow is of p, behind some ticks; until un. -/
structure Tn (p : Pk) (low st un : Int) (l : List Rl) (now : Nat) (x : No) : Prop where
  ac : x.ro.ac = true
  nw : x.now = now
  T : ∃ ve, x.T = oneT ve p low st un
  ru : x.ru = l
theorem Tn.noted {p : Pk} {low st un : Int} {l : List Rl} {now : Nat} {x : No} (h : Tn p low st un l now x) : Tn p low st un l now x.noted := by
  unfold No.noted
  split
  · exact ⟨h.ac, h.nw, h.T, h.ru⟩
  · exact h
theorem Tn.tick {p : Pk} {low st un : Int} {l : List Rl} {now : Nat} {x : No} (h : Tn p low st un l now x) (hu : (now : Int) + 1 < un) : x.tkE = 0 ∧ Tn p low st un l (now + 1) x.tick := by
  obtain ⟨e, ht, ha⟩ := act_tick h.ac
  refine ⟨e, ?_⟩
  rw [ht]
  refine Tn.noted ⟨ha, by show x.now + 1 = _; rw [h.nw]; omega, ?_, h.ru⟩
  obtain ⟨ve, hT⟩ := h.T
  refine ⟨ve, ?_⟩
  show expT x.T (x.now + 1) 32 = _
  rw [hT, h.nw]
  exact one_exp hu
theorem Tn.last {p : Pk} {low st un : Int} {l : List Rl} {now : Nat} {x : No} (h : Tn p low st un l now x) (hu : un ≤ (now : Int) + 1) : x.tkE = 0 ∧ (x.tick.T 0).pr = 0 := by
  obtain ⟨e, ht, ha⟩ := act_tick h.ac
  refine ⟨e, ?_⟩
  rw [ht, noted_T]
  obtain ⟨ve, hT⟩ := h.T
  show (expT x.T (x.now + 1) 32 0).pr = 0
  rw [hT, h.nw]
  exact one_gone hu
end Go.Proofs.YtjfhompbeengmaaDoor
