/-
  Texts in one: IntO.
-/
import Derived.Test.YtgappikejbldlaaDoorKa
import Derived.ProofKit
import Derived.OpenShut
import Derived.Deep.Slices
import Derived.ChangeMaps5
namespace Go.Proofs.YtgappikejbldlaaDoor
open Go.ChangeShapes Go.WideShapes Go.ChangeAt Go.RowKit

/-- a slice of numbers that came in. -/
def IntsI (w : World) (v : Value) (xs : List Int) : Prop := ∃ (p : Option Addr) (cap : Nat), v = .slice p xs.length cap ∧ ∀ (i : Nat) x, xs[i]? = some x → ∃ b o, p = some ⟨b, o, none⟩ ∧ w.cell? ⟨b, o + i, none⟩ = some (.int .i64 x) ∧ -9223372036854775808 ≤ x ∧ x ≤ 9223372036854775807
theorem Tryd.ciI : Tryd.prog.cellsOf 3 = 1 := by kernel_rfl
theorem addr_addI (b o j : Nat) : Addr.add ⟨b, o, none⟩ j = ⟨b, o + j, none⟩ := by
  unfold Addr.add
  by_cases h : j = 0
  · subst h; rfl
  · rw [if_neg h]
set_option maxRecDepth 100000 in
theorem open_intsI {H : Type} {enc : TypeId × Value → H} {W : World} {b0 : Nat} {v : Value} {d : DataW H} {p : List MemPlace} {sp : Nat → Bool}
    (hv : Value.okWide Tryd.prog W .any b0 24 v) (h : DataW.Trod enc Tryd.prog W 0 sp true 24 v d p) : ∃ l, IntsI W v l := by
  obtain ⟨a0, len0, cap0, rfl⟩ := okWide_slice Tryd.underlying24 hv
  obtain ⟨fuel, hf⟩ := h
  rcases Go.Deep.open_slice Tryd.underlying24 hf with ⟨h0, _⟩ | ⟨a, len, cap, m, n, D, Pl, hcs, _, hlc, hmx, hm, _, hx⟩
  · have h0 : [Value.slice a0 len0 cap0] = [.slice none 0 0] := h0
    have h0 : Value.slice a0 len0 cap0 = .slice none 0 0 := by simpa using h0
    exact ⟨[], none, 0, h0, fun j x hx => by simp at hx⟩
  · have hcs : [Value.slice a0 len0 cap0] = [.slice (some a) len cap] := hcs
    have hcs : Value.slice a0 len0 cap0 = .slice (some a) len cap := by simpa using hcs
    rw [hcs]
    have hlm : len ≤ m := by rw [hm]; split <;> omega
    obtain ⟨R, hR⟩ := Go.Deep.choose_lt (α := Int) (n := len) (p := fun i x => W.cell? (a.add i) = some (.int .i64 x) ∧ -9223372036854775808 ≤ x ∧ x ≤ 9223372036854775807) (fun i hi => by
      obtain ⟨cs', h1, h2⟩ := hx i (by omega)
      rw [Tryd.ciI] at h1
      obtain ⟨y, e, _, k⟩ := DataW.trod_int Tryd.underlying3 h2
      subst e
      refine ⟨y, ?_, ?_⟩
      · unfold World.cells? at h1
        rw [if_pos (Nat.zero_le _)] at h1
        simp at h1
        obtain ⟨z, hz, e⟩ := Option.bind_eq_some_iff.1 h1
        simp at e
        subst e
        exact hz
      · simp only [Lit.wf, Bool.and_eq_true, decide_eq_true_eq] at k
        have e1 : IntKind.i64.min = -9223372036854775808 := by decide
        have e2 : IntKind.i64.max = 9223372036854775807 := by decide
        omega)
    refine ⟨(List.range len).map R, some a, cap, by simp, fun i r hr => ?_⟩
    rw [List.getElem?_map] at hr
    obtain ⟨i', hi', rfl⟩ := Option.map_eq_some_iff.1 hr
    obtain ⟨hlt, e⟩ := List.getElem?_eq_some_iff.1 hi'
    simp at hlt e
    subst e
    have hsp : a.spot = none := by
      have h0 := (hR 0 (by omega)).1
      have e : a.add 0 = a := rfl
      rw [e] at h0
      unfold World.cell? at h0
      split at h0
      · cases hs : a.spot with
        | none => rfl
        | some q => simp [hs] at h0
      · cases h0
    obtain ⟨b, o, sp'⟩ := a
    obtain rfl : sp' = none := hsp
    have := hR i hlt
    rw [addr_addI] at this
    exact ⟨b, o, rfl, this⟩
end Go.Proofs.YtgappikejbldlaaDoor
