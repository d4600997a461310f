/-
  A mirror as plain mathematics: cells that are told, what they make of a table; told in another order they make the same.
-/
import Derived.Test.YtifkbafdjkgnoaaDoorTbM
namespace Go.Proofs.YtifkbafdjkgnoaaDoor

/-- a cell that is told: its slot, and what it has. -/
structure Tc where
  sl : Int
  c : Ce
deriving DecidableEq
instance : Inhabited Tc := ⟨⟨0, noC⟩⟩
def okS (x : Tc) : Bool := decide (0 ≤ x.sl) && decide (x.sl < 32)
theorem okS_iff {x : Tc} : okS x = true ↔ 0 ≤ x.sl ∧ x.sl < 32 := by unfold okS; simp
def takeT (T : Tb) (x : Tc) : Tb := if (T x.sl.toNat).ve < x.c.ve then upd T x.sl.toNat x.c else T
def takeL (T : Tb) (l : List Tc) : Tb := l.foldl takeT T
/-- an error's number: 2: bound; 10: old. -/
def tellE (old life : Int) (l : List Tc) : Nat := if life < 1 ∨ 8 < l.length ∨ (l.any fun x => !okS x) = true then 2 else if life < old then 10 else 0
def tellLife (old life : Int) (l : List Tc) : Int := if tellE old life l = 0 then life else old
def tellT (old life : Int) (T : Tb) (l : List Tc) : Tb := if tellE old life l = 0 then takeL (if old < life then newT else T) l else T
/-- what a mirror has of what was told: of each slot the greatest version. -/
def Has (m : List Tc) (T : Tb) : Prop := ∀ j : Nat, (T j = noC ∧ ∀ x ∈ m, okS x = true → x.sl = j → x.c.ve ≤ 0) ∨ ∃ x ∈ m, okS x = true ∧ x.sl = j ∧ T j = x.c ∧ 0 < x.c.ve ∧ ∀ y ∈ m, okS y = true → y.sl = j → y.c.ve ≤ x.c.ve
theorem Has.nil : Has [] newT := fun j => .inl ⟨rfl, fun x hx => by simp at hx⟩
def one (T : Tb) (x : Tc) : Tb := if okS x = true then takeT T x else T
theorem Has.one {m : List Tc} {T : Tb} (h : Has m T) (x : Tc) : Has (m ++ [x]) (one T x) := fun j => by
  have hin : ∀ y, y ∈ m ++ [x] ↔ y ∈ m ∨ y = x := fun y => by simp
  unfold Go.Proofs.YtifkbafdjkgnoaaDoor.one takeT
  by_cases hok : okS x = true
  · rw [if_pos hok]
    obtain ⟨h0, h1⟩ := okS_iff.1 hok
    by_cases hj : x.sl = j
    · have hn : x.sl.toNat = j := by omega
      rw [hn]
      rcases h j with ⟨e, hle⟩ | ⟨y, hy, hyo, hys, e, hp, hle⟩
      · have e0 : (T j).ve = 0 := by rw [e]; rfl
        by_cases hlt : (T j).ve < x.c.ve
        · rw [if_pos hlt, upd_same]
          refine .inr ⟨x, (hin x).2 (.inr rfl), hok, hj, rfl, by omega, fun z hz hzo hzs => ?_⟩
          rcases (hin z).1 hz with hz | rfl
          · have := hle z hz hzo hzs; omega
          · omega
        · rw [if_neg hlt]
          refine .inl ⟨e, fun z hz hzo hzs => ?_⟩
          rcases (hin z).1 hz with hz | rfl
          · exact hle z hz hzo hzs
          · omega
      · by_cases hlt : (T j).ve < x.c.ve
        · rw [if_pos hlt, upd_same]
          rw [e] at hlt
          refine .inr ⟨x, (hin x).2 (.inr rfl), hok, hj, rfl, by omega, fun z hz hzo hzs => ?_⟩
          rcases (hin z).1 hz with hz | rfl
          · have := hle z hz hzo hzs; omega
          · omega
        · rw [if_neg hlt]
          rw [e] at hlt
          refine .inr ⟨y, (hin y).2 (.inl hy), hyo, hys, e, hp, fun z hz hzo hzs => ?_⟩
          rcases (hin z).1 hz with hz | rfl
          · exact hle z hz hzo hzs
          · omega
    · have hn : j ≠ x.sl.toNat := by omega
      have hT : (if (T x.sl.toNat).ve < x.c.ve then upd T x.sl.toNat x.c else T) j = T j := by
        split
        · exact upd_other _ _ hn
        · rfl
      rw [hT]
      rcases h j with ⟨e, hle⟩ | ⟨y, hy, hyo, hys, e, hp, hle⟩
      · refine .inl ⟨e, fun z hz hzo hzs => ?_⟩
        rcases (hin z).1 hz with hz | rfl
        · exact hle z hz hzo hzs
        · exact (hj hzs).elim
      · refine .inr ⟨y, (hin y).2 (.inl hy), hyo, hys, e, hp, fun z hz hzo hzs => ?_⟩
        rcases (hin z).1 hz with hz | rfl
        · exact hle z hz hzo hzs
        · exact (hj hzs).elim
  · rw [if_neg hok]
    rcases h j with ⟨e, hle⟩ | ⟨y, hy, hyo, hys, e, hp, hle⟩
    · refine .inl ⟨e, fun z hz hzo hzs => ?_⟩
      rcases (hin z).1 hz with hz | rfl
      · exact hle z hz hzo hzs
      · exact (hok hzo).elim
    · refine .inr ⟨y, (hin y).2 (.inl hy), hyo, hys, e, hp, fun z hz hzo hzs => ?_⟩
      rcases (hin z).1 hz with hz | rfl
      · exact hle z hz hzo hzs
      · exact (hok hzo).elim
theorem Has.same {m n : List Tc} {T U : Tb} (h : Has m T) (k : Has n U) (hmn : ∀ x, x ∈ m ↔ x ∈ n) (hd : ∀ x ∈ m, ∀ y ∈ m, x.sl = y.sl → x.c.ve = y.c.ve → x = y) : T = U := by
  funext j
  rcases h j with ⟨e, hle⟩ | ⟨x, hx, hxo, hxs, e, hp, hle⟩
  · rcases k j with ⟨e', _⟩ | ⟨y, hy, hyo, hys, e', hp', _⟩
    · rw [e, e']
    · have := hle y ((hmn y).2 hy) hyo hys; omega
  · rcases k j with ⟨e', hle'⟩ | ⟨y, hy, hyo, hys, e', hp', hle'⟩
    · have := hle' x ((hmn x).1 hx) hxo hxs; omega
    · have h1 := hle y ((hmn y).2 hy) hyo hys
      have h2 := hle' x ((hmn x).1 hx) hxo hxs
      obtain rfl := hd x hx y ((hmn y).2 hy) (by rw [hxs, hys]) (by omega)
      rw [e, e']
/-- of no two of one slot the versions are the same. -/
def TApart (l : List Tc) : Prop := ∀ (i k : Nat) x y, k < i → l[i]? = some x → l[k]? = some y → ¬ (x.sl = y.sl ∧ x.c.ve = y.c.ve)
theorem TApart.mem {l : List Tc} (h : TApart l) : ∀ x ∈ l, ∀ y ∈ l, x.sl = y.sl → x.c.ve = y.c.ve → x = y := fun x hx y hy e1 e2 => by
  obtain ⟨i, hi⟩ := List.getElem?_of_mem hx
  obtain ⟨k, hk⟩ := List.getElem?_of_mem hy
  rcases Nat.lt_trichotomy i k with hlt | rfl | hlt
  · exact (h k i y x hlt hk hi ⟨e1.symm, e2.symm⟩).elim
  · rw [hi] at hk; exact Option.some.inj hk
  · exact (h i k x y hlt hi hk ⟨e1, e2⟩).elim
/-- one cell told to a mirror of life 7, or of none. -/
theorem tell_one (old : Int) (T : Tb) (x : Tc) (h : old = 7 ∨ (old = 0 ∧ T = newT)) : tellT old 7 T [x] = one T x := by
  unfold tellT tellE one takeL
  by_cases hok : okS x = true
  · rw [if_pos hok]
    rcases h with rfl | ⟨rfl, rfl⟩ <;> simp [hok]
  · rw [if_neg hok]
    simp [hok]
theorem tell_life (old : Int) (T : Tb) (x : Tc) (h : old = 7 ∨ (old = 0 ∧ T = newT)) : tellLife old 7 [x] = 7 ∨ (tellLife old 7 [x] = 0 ∧ tellT old 7 T [x] = newT) := by
  by_cases hok : okS x = true
  · left
    unfold tellLife tellE
    rcases h with rfl | ⟨rfl, rfl⟩ <;> simp [hok]
  · have hE : tellE old 7 [x] = 2 := by unfold tellE; simp [hok]
    rcases h with rfl | ⟨rfl, rfl⟩
    · left; unfold tellLife; rw [hE]; rfl
    · right; unfold tellLife tellT; rw [hE]; exact ⟨rfl, rfl⟩
end Go.Proofs.YtifkbafdjkgnoaaDoor
