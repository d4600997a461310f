/-
  No two flows have one proto, port and far end, or one proto, inner and far end: kept by Add, Put and Drop (plain mathematics).
-/
import Derived.Test.YteiaamboijimnabDoorTbM
namespace Go.Proofs.YteiaamboijimnabDoor

def Apart (T : Tb) : Prop := ∀ i j, i < 32 → j < 32 → i ≠ j → (T i).pr ≠ 0 → (T i).pr = (T j).pr → (T i).fa = (T j).fa → (T i).fp = (T j).fp → (T i).po ≠ (T j).po ∧ ¬ ((T i).ia = (T j).ia ∧ (T i).ip = (T j).ip)
theorem apart_new : Apart newT := fun _ _ _ _ _ h => absurd rfl h
theorem apart_lay {T : Tb} {k : Nat} {pr ia ip fa fp po st un : Int} (h : Apart T) (h1 : pr = 0 ∨ (fst T (findQ pr ia ip fa fp) = none ∧ fst T (backQ pr po fa fp) = none)) : Apart (layT T k pr ia ip fa fp po st un) := by
  intro i j hi hj hij hp hpp hfa hfp
  unfold layT at *
  by_cases hik : i = k
  · subst hik
    rw [upd_same] at *
    rw [upd_other _ _ (fun e => hij e.symm)] at *
    simp only at *
    rcases h1 with h1 | ⟨h1, h2⟩
    · exact absurd h1 hp
    · have f1 := fst_none.1 h1 j hj
      have f2 := fst_none.1 h2 j hj
      rw [Bool.eq_false_iff, Ne, findQ_iff] at f1
      rw [Bool.eq_false_iff, Ne, backQ_iff] at f2
      refine ⟨fun e => f2 ⟨by rw [← hpp]; exact hp, hpp.symm, e.symm, hfa.symm, hfp.symm⟩, fun e => f1 ⟨by rw [← hpp]; exact hp, hpp.symm, e.1.symm, e.2.symm, hfa.symm, hfp.symm⟩⟩
  · rw [upd_other _ _ hik] at *
    by_cases hjk : j = k
    · subst hjk
      rw [upd_same] at *
      simp only at *
      rcases h1 with h1 | ⟨h1, h2⟩
      · exact absurd (hpp.trans h1) hp
      · have f1 := fst_none.1 h1 i hi
        have f2 := fst_none.1 h2 i hi
        rw [Bool.eq_false_iff, Ne, findQ_iff] at f1
        rw [Bool.eq_false_iff, Ne, backQ_iff] at f2
        exact ⟨fun e => f2 ⟨hp, hpp, e, hfa, hfp⟩, fun e => f1 ⟨hp, hpp, e.1, e.2, hfa, hfp⟩⟩
    · rw [upd_other _ _ hjk] at *
      exact h i j hi hj hij hp hpp hfa hfp
theorem apart_add {T : Tb} (h : Apart T) (low pr ia ip fa fp st un : Int) : Apart (addT T low pr ia ip fa fp st un).2.2 := by
  unfold addT
  split
  · exact h
  rename_i h1
  split
  · exact h
  split
  · exact h
  · rename_i h3
    exact apart_lay h (.inr ⟨h1, (freeP_some.1 h3).2.1⟩)
theorem apart_put {T : Tb} (h : Apart T) (pr ia ip fa fp po st un : Int) : Apart (putT T pr ia ip fa fp po st un).2.2 := by
  unfold putT
  split
  · exact h
  rename_i h1
  split
  · exact h
  rename_i h2
  split
  · exact h
  · exact apart_lay h (.inr ⟨h1, h2⟩)
theorem apart_drop {T : Tb} (h : Apart T) (k : Int) : Apart (dropT T k) := by
  unfold dropT
  split
  · exact apart_lay h (.inl rfl)
  · exact h
/-- a flow that was added has a port of the half. -/
theorem add_port {T : Tb} {low pr ia ip fa fp st un : Int} (h : (addT T low pr ia ip fa fp st un).2.1 = 0) : (addT T low pr ia ip fa fp st un).1 < 32 ∧ low ≤ ((addT T low pr ia ip fa fp st un).2.2 (addT T low pr ia ip fa fp st un).1).po ∧ ((addT T low pr ia ip fa fp st un).2.2 (addT T low pr ia ip fa fp st un).1).po < low + 24 := by
  unfold addT at *
  split at h
  · cases h
  rename_i h1
  split at h
  · cases h
  rename_i k h2
  split at h
  · cases h
  rename_i p h3
  have := (freeP_some.1 h3).1
  refine ⟨fst_lt h2, ?_, ?_⟩ <;> (simp only [layT, upd_same]; omega)
theorem add_code {T : Tb} {low pr ia ip fa fp st un : Int} : (addT T low pr ia ip fa fp st un).2.1 ≤ 11 := by
  unfold addT
  split
  · simp
  split
  · simp
  split <;> simp
theorem put_code {T : Tb} {pr ia ip fa fp po st un : Int} : (putT T pr ia ip fa fp po st un).2.1 ≤ 11 := by
  unfold putT
  split
  · simp
  split
  · simp
  split <;> simp
end Go.Proofs.YteiaamboijimnabDoor
