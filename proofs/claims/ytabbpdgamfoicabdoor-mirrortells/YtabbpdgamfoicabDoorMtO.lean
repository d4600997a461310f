/-
  Told cells and numbers that came in, opened.
-/
import Derived.Test.YtabbpdgamfoicabDoorMtA
import Derived.Test.YtabbpdgamfoicabDoorGeO
namespace Go.Proofs.YtabbpdgamfoicabDoor
open Go.ChangeShapes Go.WideShapes Go.ChangeAt Go.RowKit

theorem Tryd.tcCell : Tryd.prog.cellsOf 58 = 10 := by kernel_rfl
set_option maxRecDepth 100000 in
theorem cell_cells {H : Type} {enc : TypeId × Value → H} {W : World} {b0 : Nat} {sp : Nat → Bool} {held : Bool} {fuel : Nat} {cs : List Value} {x : DataW H × List MemPlace}
    (h : DataW.trod enc Tryd.prog W b0 sp held fuel 58 cs = some x) : ∃ a : Tc, cs = tcC a := by
  obtain ⟨xs, n, _, _, hlen, hxl, hf⟩ := DataW.trod_struct Tryd.underlying58 h
  rw [Tryd.tcCell] at hlen
  have hxl : xs.length = 3 := hxl
  match cs, hlen with
  | [c0, c1, c2, c3, c4, c5, c6, c7, c8, c9], _ =>
    have g0 : DataW.trod enc Tryd.prog W b0 sp held n 3 (([c0, c1, c2, c3, c4, c5, c6, c7, c8, c9].drop 0).take (Tryd.prog.cellsOf 3)) = xs[0]? := hf 0 _ rfl
    have g1 : DataW.trod enc Tryd.prog W b0 sp held n 3 (([c0, c1, c2, c3, c4, c5, c6, c7, c8, c9].drop 1).take (Tryd.prog.cellsOf 3)) = xs[1]? := hf 1 _ rfl
    have g2 : DataW.trod enc Tryd.prog W b0 sp held n 35 (([c0, c1, c2, c3, c4, c5, c6, c7, c8, c9].drop 2).take (Tryd.prog.cellsOf 35)) = xs[2]? := hf 2 _ rfl
    rw [Tryd.tcI] at g0 g1
    rw [Tryd.tcFlow] at g2
    rw [List.getElem?_eq_getElem (by omega)] at g0 g1 g2
    obtain ⟨y0, e0, _⟩ := DataW.trod_int Tryd.underlying3 g0
    obtain ⟨y1, e1, _⟩ := DataW.trod_int Tryd.underlying3 g1
    obtain ⟨y2, e2⟩ := flow_cells g2
    simp at e0 e1 e2
    obtain ⟨f0, f1, f2, f3, f4, f5, f6, f7⟩ := e2
    subst e0 e1 f0 f1 f2 f3 f4 f5 f6 f7
    exact ⟨⟨y0, { y2 with ve := y1 }⟩, rfl⟩
set_option maxRecDepth 100000 in
/-- a slice's cells as they are trodden. -/
theorem tcs_slice {H : Type} {enc : TypeId × Value → H} {W : World} {sp : Nat → Bool} {held : Bool} {fuel : Nat} {v : Value} {x : DataW H × List MemPlace}
    (hv : ∃ p n c, v = .slice p n c) (hf : DataW.trod enc Tryd.prog W 0 sp held fuel 61 [v] = some x) : ∃ l, TcsIn W v l := by
  obtain ⟨a0, len0, cap0, rfl⟩ := hv
  rcases Go.Deep.open_slice Tryd.underlying61 hf with ⟨h0, _⟩ | ⟨a, len, cap, m, n, D, Pl, hcs, _, hlc, hmx, hm, _, hx⟩
  · have h0 : [Value.slice a0 len0 cap0] = [.slice none 0 0] := h0
    have h0 : Value.slice a0 len0 cap0 = .slice none 0 0 := by simpa using h0
    exact ⟨[], none, 0, h0, fun j x hx => by simp at hx⟩
  · have hcs : [Value.slice a0 len0 cap0] = [.slice (some a) len cap] := hcs
    have hcs : Value.slice a0 len0 cap0 = .slice (some a) len cap := by simpa using hcs
    rw [hcs]
    have hlm : len ≤ m := by rw [hm]; split <;> omega
    obtain ⟨R, hR⟩ := Go.Deep.choose_lt (α := Tc) (n := len) (p := fun i r => W.cells? 0 (a.add (i * 10)) 10 = some (tcC r)) (fun i hi => by
      obtain ⟨cs', h1, h2⟩ := hx i (by omega)
      rw [Tryd.tcCell] at h1
      obtain ⟨r, rfl⟩ := cell_cells h2
      exact ⟨r, h1⟩)
    refine ⟨(List.range len).map R, some a, cap, by simp, fun i r hr => ?_⟩
    rw [List.getElem?_map] at hr
    obtain ⟨i', hi', rfl⟩ := Option.map_eq_some_iff.1 hr
    obtain ⟨hlt, e⟩ := List.getElem?_eq_some_iff.1 hi'
    simp at hlt e
    subst e
    have key : ∀ j k u, j < len → k < 10 → (tcC (R j))[k]? = some u → W.cell? ((a.add (j * 10)).add k) = some u := fun j k u hj hk hu => by
      have h1 := hR j hj
      unfold World.cells? at h1
      rw [if_pos (Nat.zero_le _)] at h1
      have := mapM_at h1 k k (by rw [List.getElem?_range hk])
      rw [this]; exact hu
    have hsp : a.spot = none := by
      have h0 := key 0 0 _ (by omega) (by omega) rfl
      have e : (a.add (0 * 10)).add 0 = a := rfl
      rw [e] at h0
      unfold World.cell? at h0
      split at h0
      · cases hs : a.spot with
        | none => rfl
        | some q => simp [hs] at h0
      · cases h0
    obtain ⟨b, o, sp'⟩ := a
    obtain rfl : sp' = none := hsp
    refine ⟨b, o, rfl, tcAt_of fun k u hk hu => ?_⟩
    have := key i k u hlt hk hu
    rw [addr_add, addr_add] at this
    exact this
set_option maxRecDepth 100000 in
theorem open_tcs {H : Type} {enc : TypeId × Value → H} {W : World} {b0 : Nat} {v : Value} {d : DataW H} {p : List MemPlace} {sp : Nat → Bool}
    (hv : Value.okWide Tryd.prog W .any b0 61 v) (h : DataW.Trod enc Tryd.prog W 0 sp true 61 v d p) : ∃ l, TcsIn W v l := by
  obtain ⟨a0, len0, cap0, rfl⟩ := okWide_slice Tryd.underlying61 hv
  obtain ⟨fuel, hf⟩ := h
  exact tcs_slice ⟨a0, len0, cap0, rfl⟩ hf
set_option maxRecDepth 100000 in
theorem open_ns {H : Type} {enc : TypeId × Value → H} {W : World} {b0 : Nat} {v : Value} {d : DataW H} {p : List MemPlace} {sp : Nat → Bool}
    (hv : Value.okWide Tryd.prog W .any b0 49 v) (h : DataW.Trod enc Tryd.prog W 0 sp true 49 v d p) : ∃ xs, IntsIn W v xs := by
  obtain ⟨a0, len0, cap0, rfl⟩ := okWide_slice Tryd.underlying49 hv
  obtain ⟨fuel, hf⟩ := h
  rcases Go.Deep.open_slice1 Tryd.underlying49 Tryd.tcI hf with ⟨h0, _⟩ | ⟨a, len, cap, m, n, V, D, Pl, hcs, _, hlc, _, hm, _, hV⟩
  · have h0 : [Value.slice a0 len0 cap0] = [.slice none 0 0] := h0
    have h0 : Value.slice a0 len0 cap0 = .slice none 0 0 := by simpa using h0
    exact ⟨[], none, 0, h0, fun j x hx => by simp at hx⟩
  · have hcs : [Value.slice a0 len0 cap0] = [.slice (some a) len cap] := hcs
    have hcs : Value.slice a0 len0 cap0 = .slice (some a) len cap := by simpa using hcs
    rw [hcs]
    have hlm : len ≤ m := by rw [hm]; split <;> omega
    obtain ⟨X, hX⟩ := Go.Deep.choose_lt (α := Int) (n := len) (p := fun i x => W.cell? (a.add i) = some (.int .i64 x)) (fun i hi => by
      obtain ⟨h1, h2⟩ := hV i (by omega)
      obtain ⟨x, e, _⟩ := DataW.trod_int Tryd.underlying3 h2
      have e : V i = .int .i64 x := by simpa using e
      exact ⟨x, by rw [h1, e]⟩)
    obtain ⟨b, o, sp'⟩ := a
    refine ⟨(List.range len).map X, some ⟨b, o, sp'⟩, cap, by simp, fun j x hx => ?_⟩
    rw [List.getElem?_map] at hx
    obtain ⟨i', hi', rfl⟩ := Option.map_eq_some_iff.1 hx
    obtain ⟨hlt, e⟩ := List.getElem?_eq_some_iff.1 hi'
    simp at hlt e
    subst e
    have h1 := hX j hlt
    have h0 := hX 0 (by omega)
    cases sp' with
    | none => exact ⟨b, o, rfl, by rw [← addr_add]; exact h1⟩
    | some q =>
      have h0 : W.cell? ⟨b, o, some q⟩ = _ := h0
      unfold World.cell? at h0
      split at h0
      · simp at h0
      · cases h0
end Go.Proofs.YtabbpdgamfoicabDoor
