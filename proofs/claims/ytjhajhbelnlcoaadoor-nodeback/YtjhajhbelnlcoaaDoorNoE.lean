/-
  slices.Clone of rules; package node's New.
-/
import Derived.Test.YtjhajhbelnlcoaaDoorNoB
import Derived.Test.YtjhajhbelnlcoaaDoorKh
import Derived.Test.YtjhajhbelnlcoaaDoorKd
import Derived.OwnWalk
import Derived.Lib.SliceRun
namespace Go.Proofs.YtjhajhbelnlcoaaDoor
open Go.RowKit

theorem rul_of_own {w : World} {base : Nat} {v : Value} {l : List Rl} (h : w.ownsRow base 34 5 v l.length (cellsL l)) : ∃ p cap, v = .slice p l.length cap ∧ Rul w p l ∧ (l ≠ [] → ∀ a, p = some a → base ≤ a.block) := by
  obtain ⟨h1, h2⟩ := h
  rcases h2 with ⟨rfl, h0⟩ | ⟨g, cap, cur, rfl, q1, hh, q2, q3, q4, ht⟩
  · have : l = [] := List.eq_nil_of_length_eq_zero h0
    subst this
    exact ⟨none, 0, rfl, fun i r hr => by simp at hr, fun h => absurd rfl h⟩
  · refine ⟨some ⟨g, 0, none⟩, cap, rfl, fun i r hr => ?_, fun _ a e => by cases e; exact q1⟩
    have hi := (List.getElem?_eq_some_iff.1 hr).1
    have key : ∀ j u, j < 5 → (rlC r)[j]? = some u → w.cell? ⟨g, 0 + i * 5 + j, none⟩ = some u := fun j u hj hu => by
      have hz : (cellsL l)[i * 5 + j]? = some u := by rw [cellsL_get l i j hj, hr]; exact hu
      rw [← ht, List.getElem?_take, if_pos (by omega), Array.getElem?_toList] at hz
      rw [cell_of_row w g _ _ _ _ hh, Nat.zero_add]
      exact hz
    exact ⟨g, 0, rfl, key 0 _ (by omega) rfl, key 1 _ (by omega) rfl, key 2 _ (by omega) rfl, key 3 _ (by omega) rfl, key 4 _ (by omega) rfl⟩
set_option maxRecDepth 100000 in
set_option maxHeartbeats 2000000 in
theorem clone_any (v : Value) (l : List Rl) (w : World) (R : Sl w v l) (hl : l.length ≤ 1000) :
    Calls Tryd.prog 22 #[v] w fun e w' => (∃ p cap, e = .returned (.slice p l.length cap) ∧ Rul w' p l ∧ (l ≠ [] → ∀ a, p = some a → w.heap.size ≤ a.block)) ∧ Below w.heap.size w w' := by
  rcases R with ⟨rfl, rfl⟩ | ⟨a, cap, rfl, h1, h2, h3⟩
  · have he := Lib.run_eql_slice_nil (P := Tryd.prog) w 35 34 none 0 0 0 0 Tryd.underlying35
    go_enter Tryd.func22, Tryd.ntmps22
    go_wp2_with fail
    go_ret
    exact ⟨⟨none, 0, rfl, fun i r hr => by simp at hr, fun h => absurd rfl h⟩, Below.refl _ _⟩
  · obtain ⟨i0, hi, hz0, hz1, hz2⟩ := info_parts Tryd.infoRl
    have HR : Hid (Rul w (some a) l) := h3
    have he := Lib.run_eql_slice_nil (P := Tryd.prog) w 35 34 (some a) l.length cap 0 0 Tryd.underlying35
    clear h3
    go_enter Tryd.func22, Tryd.ntmps22
    go_wp2_with (at_builtin; refine wpList_append_own _ rfl _ _ 35 rfl w.heap.size 34 i0 _ 5 32 Tryd.underlying35 hi hz0 hz1 hz2 rfl (by decide) (.slice (some ⟨w.heap.size, 0, none⟩) 0 0) 0 [] rfl ?g0 a l.length cap (cellsL l) rfl (cellsL_len l) ?g1 (cellsL_one l) (by unfold maxLen; omega) (by omega) ?g2 ?_)
    case g0 => exact ⟨rfl, .inr ⟨w.heap.size, 0, #[], rfl, Nat.le_refl _, heap_alloc_new w _, Nat.le_refl _, by unfold maxLen; omega, rfl, rfl⟩⟩
    case g1 => exact (HR.out.keep (fun a v hc => tk (aB _ _) hc)).at
    case g2 => simp
    intro v' w1 hown hgrow _
    have HO : Hid (∃ p c, v' = .slice p l.length c ∧ Rul w1 p l ∧ (l ≠ [] → ∀ a, p = some a → w.heap.size ≤ a.block)) := rul_of_own (by simpa using hown)
    have HG : Hid (Below w.heap.size w w1) := ((Below.refl _ _).alloc (Nat.le_refl _) _).grown hgrow (by simp) (fun j hj => by simp [Value.ownBlock] at hj; omega)
    clear hown hgrow
    obtain ⟨p, c, rfl, _⟩ := HO.out
    go_wp2_with fail
    go_ret
    obtain ⟨p', c', e, q⟩ := HO.out
    cases e
    exact ⟨⟨p, c, rfl, q⟩, HG.out⟩
end Go.Proofs.YtjhajhbelnlcoaaDoor
