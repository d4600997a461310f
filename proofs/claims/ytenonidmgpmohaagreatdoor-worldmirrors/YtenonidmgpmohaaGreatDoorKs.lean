/-
  Texts in one: WoEv.
-/
import Derived.Test.YtenonidmgpmohaaGreatDoorKn
namespace Go.Proofs.YtenonidmgpmohaaGreatDoor
open Go.RowKit

theorem evC_get : ∀ (l : List (Int × Int)) (i : Nat) (e : Int × Int), l[i]? = some e → (evC l)[i * 2]? = some (.int .i64 e.1) ∧ (evC l)[i * 2 + 1]? = some (.int .i64 e.2)
  | [], _, _, h => by simp at h
  | a :: l, 0, e, h => by
    have : a = e := by simpa using h
    subst this
    exact ⟨rfl, rfl⟩
  | a :: l, i + 1, e, h => by
    have ih := evC_get l i e (by simpa using h)
    have e1 : evC (a :: l) = .int .i64 a.1 :: .int .i64 a.2 :: evC l := by simp [evC]
    rw [e1, show (i + 1) * 2 = i * 2 + 2 by omega, show i * 2 + 2 + 1 = i * 2 + 1 + 2 by omega]
    exact ih
theorem own_evs {w : World} {B : Nat} {v : Value} {L : List (Int × Int)} (h : w.ownsRow B 65 2 v L.length (evC L)) : ∃ (p : Option Addr) (cap : Nat), v = .slice p L.length cap ∧ ∀ (j : Nat) x, L[j]? = some x → ∃ g, p = some ⟨g, 0, none⟩ ∧ B ≤ g ∧ w.cell? ⟨g, j * 2, none⟩ = some (.int .i64 x.1) ∧ w.cell? ⟨g, j * 2 + 1, none⟩ = some (.int .i64 x.2) := by
  rcases h.2 with ⟨h1, h2⟩ | ⟨g, cap, cur, h1, h2, h3, h4, h5, h6, h7⟩
  · refine ⟨none, 0, by rw [h1, h2], fun j x hx => ?_⟩
    rw [List.length_eq_zero_iff.1 h2] at hx
    simp at hx
  · refine ⟨some ⟨g, 0, none⟩, cap, h1, fun j x hx => ⟨g, rfl, h2, ?_⟩⟩
    have key : ∀ k u, (evC L)[k]? = some u → w.cell? ⟨g, k, none⟩ = some u := fun k u h8 => by
      rw [← h7, List.getElem?_take] at h8
      split at h8
      · have h9 : cur[k]? = some u := by simpa using h8
        simp [World.cell?, h3, h9]
      · cases h8
    exact ⟨key _ _ (evC_get L j x hx).1, key _ _ (evC_get L j x hx).2⟩
end Go.Proofs.YtenonidmgpmohaaGreatDoor
