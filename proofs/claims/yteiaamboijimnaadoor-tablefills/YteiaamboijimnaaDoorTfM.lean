/-
  A half's ports filled, as plain mathematics.
-/
import Derived.Test.YteiaamboijimnaaDoorTbM
namespace Go.Proofs.YteiaamboijimnaaDoor

def fillC (low pr fa fp : Int) (j : Nat) : Ce := ⟨1, pr, j, 1, fa, fp, low + j, 1, 1⟩
def fillT (low pr fa fp : Int) (i : Nat) : Tb := fun j => if j < i then fillC low pr fa fp j else noC
theorem fill_lt {low pr fa fp : Int} {i j : Nat} (h : j < i) : fillT low pr fa fp i j = fillC low pr fa fp j := by simp [fillT, h]
theorem fill_ge {low pr fa fp : Int} {i j : Nat} (h : ¬ j < i) : fillT low pr fa fp i j = noC := by simp [fillT, h]
theorem noC_find {pr ia ip fa fp : Int} {c : Ce} (h : c.pr = 0) : findQ pr ia ip fa fp c = false := by
  rw [Bool.eq_false_iff, Ne, findQ_iff]; rintro ⟨h1, _⟩; exact h1 h
theorem noC_back {pr po fa fp : Int} {c : Ce} (h : c.pr = 0) : backQ pr po fa fp c = false := by
  rw [Bool.eq_false_iff, Ne, backQ_iff]; rintro ⟨h1, _⟩; exact h1 h
theorem fill_find {low pr fa fp : Int} {i : Nat} {x : Int} (hx : ∀ j, j < i → (j : Int) ≠ x) : fst (fillT low pr fa fp i) (findQ pr x 1 fa fp) = none := by
  refine fst_none.2 fun j hj => ?_
  by_cases h : j < i
  · rw [fill_lt h, Bool.eq_false_iff, Ne, findQ_iff]
    rintro ⟨_, _, h3, _⟩
    exact hx j h h3
  · rw [fill_ge h]; exact noC_find rfl
theorem fill_free {low pr fa fp : Int} {i : Nat} (hi : i < 32) (hp : pr ≠ 0) : fst (fillT low pr fa fp i) freeQ = some i := by
  refine fst_some.2 ⟨hi, by rw [fill_ge (by omega)]; rfl, fun j hj => ?_⟩
  rw [fill_lt hj]
  exact beq_eq_false_iff_ne.2 hp
theorem fill_has {low pr fa fp : Int} {i j : Nat} (hj : j < i) (hi : i ≤ 32) (hp : pr ≠ 0) : (fst (fillT low pr fa fp i) (backQ pr (low + (j : Nat)) fa fp)).isSome = true := by
  rcases h : fst (fillT low pr fa fp i) (backQ pr (low + (j : Nat)) fa fp) with _ | k
  · have := fst_none.1 h j (by omega)
    rw [fill_lt hj, Bool.eq_false_iff, Ne, backQ_iff] at this
    exact absurd ⟨hp, rfl, rfl, rfl, rfl⟩ this
  · rfl
theorem fill_port {low pr fa fp : Int} {i : Nat} (hi : i < 24) (hp : pr ≠ 0) : freeP (fillT low pr fa fp i) low pr fa fp = some i := by
  refine freeP_some.2 ⟨hi, fst_none.2 fun j hj => ?_, fun j hj => fill_has hj (by omega) hp⟩
  by_cases h : j < i
  · rw [fill_lt h, Bool.eq_false_iff, Ne, backQ_iff]
    rintro ⟨_, _, h3, _⟩
    have h3 : low + (j : Int) = low + (i : Int) := h3
    omega
  · rw [fill_ge h]; exact noC_back rfl
theorem fill_add {low pr fa fp : Int} {i : Nat} (hi : i < 24) (hp : pr ≠ 0) : addT (fillT low pr fa fp i) low pr i 1 fa fp 1 1 = (i, 0, fillT low pr fa fp (i + 1)) := by
  unfold addT
  rw [fill_find (fun j hj => by omega), fill_free (by omega) hp, fill_port hi hp]
  simp only
  congr 2
  funext j
  unfold layT upd
  by_cases h : j = i
  · subst h
    rw [if_pos rfl, fill_ge (by omega), fill_lt (by omega)]
    rfl
  · rw [if_neg h]
    unfold fillT
    by_cases h2 : j < i
    · rw [if_pos h2, if_pos (by omega)]
    · rw [if_neg h2, if_neg (by omega)]
theorem fill_full {low pr fa fp : Int} (hp : pr ≠ 0) : addT (fillT low pr fa fp 24) low pr 24 1 fa fp 1 1 = (0, 6, fillT low pr fa fp 24) := by
  unfold addT
  rw [fill_find (fun j hj => by omega), fill_free (by omega) hp, freeP_none.2 fun j hj => fill_has hj (by omega) hp]
/-- behind a drop. -/
def holeT (low pr fa fp : Int) (d : Nat) : Tb := upd (fillT low pr fa fp 24) d ⟨2, 0, 0, 0, 0, 0, 0, 0, 0⟩
theorem fill_slot {low pr fa fp : Int} {d : Nat} (hd : d < 24) (hp : pr ≠ 0) : slotE (fillT low pr fa fp 24) (d : Int) = 0 := by
  unfold slotE
  rw [if_neg (by omega), Int.toNat_natCast, fill_lt hd]
  exact if_neg hp
theorem fill_drop {low pr fa fp : Int} {d : Nat} (hd : d < 24) (hp : pr ≠ 0) : dropT (fillT low pr fa fp 24) (d : Int) = holeT low pr fa fp d := by
  unfold dropT
  rw [if_pos (fill_slot hd hp), Int.toNat_natCast]
  unfold layT holeT
  rw [fill_lt hd]
  rfl
theorem hole_at {low pr fa fp : Int} (d : Nat) : holeT low pr fa fp d d = ⟨2, 0, 0, 0, 0, 0, 0, 0, 0⟩ := upd_same _ _ _
theorem hole_ne {low pr fa fp : Int} {d j : Nat} (h : j ≠ d) : holeT low pr fa fp d j = fillT low pr fa fp 24 j := upd_other _ _ h
theorem hole_add {low pr fa fp : Int} {d : Nat} (hd : d < 24) (hp : pr ≠ 0) : addT (holeT low pr fa fp d) low pr 24 1 fa fp 1 1 = (d, 0, layT (holeT low pr fa fp d) d pr 24 1 fa fp (low + d) 1 1) := by
  have h1 : fst (holeT low pr fa fp d) (findQ pr 24 1 fa fp) = none := by
    refine fst_none.2 fun j hj => ?_
    by_cases e : j = d
    · subst e; rw [hole_at]; exact noC_find rfl
    · rw [hole_ne e]
      exact fst_none.1 (fill_find (low := low) (pr := pr) (fa := fa) (fp := fp) (i := 24) (x := 24) (fun j hj => by omega)) j hj
  have h2 : fst (holeT low pr fa fp d) freeQ = some d := by
    refine fst_some.2 ⟨by omega, by rw [hole_at]; rfl, fun j hj => ?_⟩
    rw [hole_ne (by omega), fill_lt (by omega)]
    exact beq_eq_false_iff_ne.2 hp
  have h3 : freeP (holeT low pr fa fp d) low pr fa fp = some d := by
    refine freeP_some.2 ⟨hd, fst_none.2 fun j hj => ?_, fun j hj => ?_⟩
    · by_cases e : j = d
      · subst e; rw [hole_at]; exact noC_back rfl
      · rw [hole_ne e]
        by_cases h : j < 24
        · rw [fill_lt h, Bool.eq_false_iff, Ne, backQ_iff]
          rintro ⟨_, _, h3, _⟩
          have h3 : low + (j : Int) = low + (d : Int) := h3
          omega
        · rw [fill_ge h]; exact noC_back rfl
    · rcases h : fst (holeT low pr fa fp d) (backQ pr (low + (j : Nat)) fa fp) with _ | k
      · have := fst_none.1 h j (by omega)
        rw [hole_ne (by omega), fill_lt (by omega), Bool.eq_false_iff, Ne, backQ_iff] at this
        exact absurd ⟨hp, rfl, rfl, rfl, rfl⟩ this
      · rfl
  unfold addT
  rw [h1, h2, h3]
theorem hole_cell {low pr fa fp : Int} {d : Nat} : layT (holeT low pr fa fp d) d pr 24 1 fa fp (low + d) 1 1 d = ⟨3, pr, 24, 1, fa, fp, low + d, 1, 1⟩ := by
  unfold layT
  rw [upd_same, hole_at]
  rfl
theorem fill_vers (low pr fa fp : Int) (i : Nat) : Vers (fillT low pr fa fp i) 1 := fun j _ => by
  unfold fillT
  split
  · simp [fillC]
  · simp [noC]
theorem hole_vers (low pr fa fp : Int) (d : Nat) : Vers (holeT low pr fa fp d) 2 := fun j hj => by
  unfold holeT upd
  split
  · simp
  · have := fill_vers low pr fa fp 24 j hj; omega
theorem fill_zero (low pr fa fp : Int) : fillT low pr fa fp 0 = newT := by funext j; simp [fillT, newT]
end Go.Proofs.YteiaamboijimnaaDoor
