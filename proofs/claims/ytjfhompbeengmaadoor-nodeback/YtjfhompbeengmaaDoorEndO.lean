/-
  Ends that came in: in memory, and opened.
-/
import Derived.Test.YtjfhompbeengmaaDoorGeO
namespace Go.Proofs.YtjfhompbeengmaaDoor
open Go.ChangeShapes Go.WideShapes Go.ChangeAt Go.RowKit

theorem mapM_len {α β : Type} {f : α → Option β} : ∀ {l : List α} {r : List β}, l.mapM f = some r → r.length = l.length
  | [], r, h => by simp at h; subst h; rfl
  | a :: l, r, h => by
    rw [List.mapM_cons] at h
    obtain ⟨y, hy, h⟩ := Option.bind_eq_some_iff.1 h
    obtain ⟨ys, hys, h⟩ := Option.bind_eq_some_iff.1 h
    obtain rfl := Option.some.inj h
    simp [mapM_len hys]
/-- a slice of ends that came in. -/
def EndsI (w : World) (v : Value) (l : List (Int × Int)) : Prop := ∃ (p : Option Addr) (cap : Nat), v = .slice p l.length cap ∧ ∀ (i : Nat) e, l[i]? = some e → ∃ b o, p = some ⟨b, o, none⟩ ∧ w.cell? ⟨b, o + i * 2, none⟩ = some (.int .i64 e.1) ∧ w.cell? ⟨b, o + i * 2 + 1, none⟩ = some (.int .i64 e.2)
set_option maxRecDepth 100000 in
theorem open_ends {H : Type} {enc : TypeId × Value → H} {W : World} {b0 : Nat} {v : Value} {d : DataW H} {p : List MemPlace} {sp : Nat → Bool}
    (hv : Value.okWide Tryd.prog W .any b0 22 v) (h : DataW.Trod enc Tryd.prog W 0 sp true 22 v d p) : ∃ l, EndsI W v l := by
  obtain ⟨a0, len0, cap0, rfl⟩ := okWide_slice Tryd.underlying22 hv
  obtain ⟨fuel, hf⟩ := h
  rcases Go.Deep.open_slice Tryd.underlying22 hf with ⟨h0, _⟩ | ⟨a, len, cap, m, n, D, Pl, hcs, _, hlc, hmx, hm, _, hx⟩
  · have h0 : [Value.slice a0 len0 cap0] = [.slice none 0 0] := h0
    have h0 : Value.slice a0 len0 cap0 = .slice none 0 0 := by simpa using h0
    exact ⟨[], none, 0, h0, fun j x hx => by simp at hx⟩
  · have hcs : [Value.slice a0 len0 cap0] = [.slice (some a) len cap] := hcs
    have hcs : Value.slice a0 len0 cap0 = .slice (some a) len cap := by simpa using hcs
    rw [hcs]
    have hlm : len ≤ m := by rw [hm]; split <;> omega
    obtain ⟨R, hR⟩ := Go.Deep.choose_lt (α := Int × Int) (n := len) (p := fun i r => W.cells? 0 (a.add (i * 2)) 2 = some [.int .i64 r.1, .int .i64 r.2]) (fun i hi => by
      obtain ⟨cs', h1, h2⟩ := hx i (by omega)
      rw [Tryd.tcEnd] at h1
      obtain ⟨c0, c1, rfl⟩ : ∃ c0 c1, cs' = [c0, c1] := by
        unfold World.cells? at h1
        rw [if_pos (Nat.zero_le _)] at h1
        have hl : cs'.length = 2 := by have := mapM_len h1; simpa using this
        match cs', hl with
        | [c0, c1], _ => exact ⟨c0, c1, rfl⟩
      obtain ⟨y1, y2, e1, e2⟩ := end_cells h2
      subst e1 e2
      exact ⟨(y1, y2), h1⟩)
    refine ⟨(List.range len).map R, some a, cap, by simp, fun i r hr => ?_⟩
    rw [List.getElem?_map] at hr
    obtain ⟨i', hi', rfl⟩ := Option.map_eq_some_iff.1 hr
    obtain ⟨hlt, e⟩ := List.getElem?_eq_some_iff.1 hi'
    simp at hlt e
    subst e
    have key : ∀ j k u, j < len → k < 2 → ([Value.int .i64 (R j).1, .int .i64 (R j).2])[k]? = some u → W.cell? ((a.add (j * 2)).add k) = some u := fun j k u hj hk hu => by
      have h1 := hR j hj
      unfold World.cells? at h1
      rw [if_pos (Nat.zero_le _)] at h1
      have := mapM_at h1 k k (by rw [List.getElem?_range hk])
      rw [this]; exact hu
    have hsp : a.spot = none := by
      have h0 := key 0 0 _ (by omega) (by omega) rfl
      have e : (a.add (0 * 2)).add 0 = a := rfl
      rw [e] at h0
      unfold World.cell? at h0
      split at h0
      · cases hs : a.spot with
        | none => rfl
        | some q => simp [hs] at h0
      · cases h0
    obtain ⟨b, o, sp'⟩ := a
    obtain rfl : sp' = none := hsp
    have k2 : ∀ k u, k < 2 → ([Value.int .i64 (R i).1, .int .i64 (R i).2])[k]? = some u → W.cell? ⟨b, o + i * 2 + k, none⟩ = some u := fun k u hk hu => by
      have := key i k u hlt hk hu
      rw [addr_add, addr_add] at this
      exact this
    exact ⟨b, o, rfl, k2 0 _ (by omega) rfl, k2 1 _ (by omega) rfl⟩
end Go.Proofs.YtjfhompbeengmaaDoor
