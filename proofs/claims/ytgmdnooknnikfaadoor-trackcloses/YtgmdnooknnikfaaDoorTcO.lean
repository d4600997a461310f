/-
  Numbers and bools that came in, opened.
-/
import Derived.Test.YtgmdnooknnikfaaDoorTcA
import Derived.ProofKit
import Derived.OpenShut
import Derived.Deep.Slices
namespace Go.Proofs.YtgmdnooknnikfaaDoor
open Go.ChangeShapes Go.WideShapes Go.ChangeAt Go.RowKit

theorem addr_n (b o j : Nat) : Addr.add ⟨b, o, none⟩ j = ⟨b, o + j, none⟩ := by
  unfold Addr.add
  by_cases h : j = 0
  · subst h; rfl
  · rw [if_neg h]
theorem no_spot {W : World} {b o q : Nat} {v : Value} (h : W.cell? ⟨b, o, some q⟩ = some v) : False := by
  unfold World.cell? at h
  split at h
  · simp at h
  · cases h
theorem Tryd.cI : Tryd.prog.cellsOf 3 = 1 := by kernel_rfl
theorem Tryd.cB : Tryd.prog.cellsOf 4 = 1 := by kernel_rfl
theorem open_rowIn {α : Type} [Inhabited α] {K : α → Value} {W : World} {a : Addr} {len cap : Nat} (h : ∀ i, i < len → ∃ x, W.cell? (a.add i) = some (K x)) : ∃ xs, RowIn K W (.slice (some a) len cap) xs := by
  obtain ⟨X, hX⟩ := Go.Deep.choose_lt (α := α) (n := len) (p := fun i x => W.cell? (a.add i) = some (K x)) h
  obtain ⟨b, o, sp⟩ := a
  refine ⟨(List.range len).map X, some ⟨b, o, sp⟩, cap, by simp, fun j x hx => ?_⟩
  rw [List.getElem?_map] at hx
  obtain ⟨i', hi', rfl⟩ := Option.map_eq_some_iff.1 hx
  obtain ⟨hlt, e⟩ := List.getElem?_eq_some_iff.1 hi'
  simp at hlt e
  subst e
  have h1 := hX j hlt
  have h0 := hX 0 (by omega)
  cases sp with
  | none => exact ⟨b, o, rfl, by rw [← addr_n]; exact h1⟩
  | some q => exact (no_spot h0).elim
set_option maxRecDepth 100000 in
theorem open_ints {H : Type} {enc : TypeId × Value → H} {W : World} {b0 : Nat} {v : Value} {d : DataW H} {p : List MemPlace} {sp : Nat → Bool}
    (hv : Value.okWide Tryd.prog W .any b0 22 v) (h : DataW.Trod enc Tryd.prog W 0 sp true 22 v d p) : ∃ xs, RowIn intK W v xs := by
  obtain ⟨a0, len0, cap0, rfl⟩ := okWide_slice Tryd.underlying22 hv
  obtain ⟨fuel, hf⟩ := h
  rcases Go.Deep.open_slice1 Tryd.underlying22 Tryd.cI hf with ⟨h0, _⟩ | ⟨a, len, cap, m, n, V, D, Pl, hcs, _, hlc, _, hm, _, hV⟩
  · have h0 : [Value.slice a0 len0 cap0] = [.slice none 0 0] := h0
    have h0 : Value.slice a0 len0 cap0 = .slice none 0 0 := by simpa using h0
    exact ⟨[], none, 0, h0, fun j x hx => by simp at hx⟩
  · have hcs : [Value.slice a0 len0 cap0] = [.slice (some a) len cap] := hcs
    have hcs : Value.slice a0 len0 cap0 = .slice (some a) len cap := by simpa using hcs
    rw [hcs]
    have hlm : len ≤ m := by rw [hm]; split <;> omega
    refine open_rowIn fun i hi => ?_
    obtain ⟨h1, h2⟩ := hV i (by omega)
    obtain ⟨x, e, _⟩ := DataW.trod_int Tryd.underlying3 h2
    have e : V i = .int .i64 x := by simpa using e
    exact ⟨x, by rw [h1, e]; rfl⟩
set_option maxRecDepth 100000 in
theorem open_bools {H : Type} {enc : TypeId × Value → H} {W : World} {b0 : Nat} {v : Value} {d : DataW H} {p : List MemPlace} {sp : Nat → Bool}
    (hv : Value.okWide Tryd.prog W .any b0 58 v) (h : DataW.Trod enc Tryd.prog W 0 sp true 58 v d p) : ∃ xs, RowIn boolK W v xs := by
  obtain ⟨a0, len0, cap0, rfl⟩ := okWide_slice Tryd.underlying58 hv
  obtain ⟨fuel, hf⟩ := h
  rcases Go.Deep.open_slice1 Tryd.underlying58 Tryd.cB hf with ⟨h0, _⟩ | ⟨a, len, cap, m, n, V, D, Pl, hcs, _, hlc, _, hm, _, hV⟩
  · have h0 : [Value.slice a0 len0 cap0] = [.slice none 0 0] := h0
    have h0 : Value.slice a0 len0 cap0 = .slice none 0 0 := by simpa using h0
    exact ⟨[], none, 0, h0, fun j x hx => by simp at hx⟩
  · have hcs : [Value.slice a0 len0 cap0] = [.slice (some a) len cap] := hcs
    have hcs : Value.slice a0 len0 cap0 = .slice (some a) len cap := by simpa using hcs
    rw [hcs]
    have hlm : len ≤ m := by rw [hm]; split <;> omega
    refine open_rowIn fun i hi => ?_
    obtain ⟨h1, h2⟩ := hV i (by omega)
    obtain ⟨x, e, _⟩ := DataW.trod_bool Tryd.underlying4 h2
    have e : V i = .bool x := by simpa using e
    exact ⟨x, by rw [h1, e]; rfl⟩
end Go.Proofs.YtgmdnooknnikfaaDoor
