/-
  Acts that came in, opened.
-/
import Derived.Test.YtifkbafdjkgnoaaDoorTbQ
import Derived.Test.YtifkbafdjkgnoaaDoorTbO
import Derived.Test.YtifkbafdjkgnoaaDoorGeO
import Derived.ChangeMaps5
namespace Go.Proofs.YtifkbafdjkgnoaaDoor
open Go.ChangeShapes Go.WideShapes Go.ChangeAt Go.RowKit


theorem Tryd.tcS : Tryd.prog.cellsOf 9 = 1 := by kernel_rfl
theorem Tryd.tcAct : Tryd.prog.cellsOf 38 = 10 := by kernel_rfl
set_option maxRecDepth 100000 in
theorem act_cells {H : Type} {enc : TypeId × Value → H} {W : World} {b0 : Nat} {sp : Nat → Bool} {held : Bool} {fuel : Nat} {cs : List Value} {x : DataW H × List MemPlace}
    (h : DataW.trod enc Tryd.prog W b0 sp held fuel 38 cs = some x) : ∃ a : Ac, cs = acC a := by
  obtain ⟨xs, n, _, _, hlen, hxl, hf⟩ := DataW.trod_struct Tryd.underlying38 h
  rw [Tryd.tcAct] at hlen
  have hxl : xs.length = 3 := hxl
  match cs, hlen with
  | [c0, c1, c2, c3, c4, c5, c6, c7, c8, c9], _ =>
    have g0 : DataW.trod enc Tryd.prog W b0 sp held n 9 (([c0, c1, c2, c3, c4, c5, c6, c7, c8, c9].drop 0).take (Tryd.prog.cellsOf 9)) = xs[0]? := hf 0 _ rfl
    have g1 : DataW.trod enc Tryd.prog W b0 sp held n 3 (([c0, c1, c2, c3, c4, c5, c6, c7, c8, c9].drop 1).take (Tryd.prog.cellsOf 3)) = xs[1]? := hf 1 _ rfl
    have g2 : DataW.trod enc Tryd.prog W b0 sp held n 36 (([c0, c1, c2, c3, c4, c5, c6, c7, c8, c9].drop 2).take (Tryd.prog.cellsOf 36)) = xs[2]? := hf 2 _ rfl
    rw [Tryd.tcS] at g0
    rw [Tryd.tcI] at g1
    rw [Tryd.tcFlow] at g2
    rw [List.getElem?_eq_getElem (by omega)] at g0 g1 g2
    obtain ⟨y0, e0, _⟩ := DataW.trod_string Tryd.underlying9 g0
    obtain ⟨y1, e1, _⟩ := DataW.trod_int Tryd.underlying3 g1
    obtain ⟨y2, e2⟩ := flow_cells g2
    simp at e0 e1 e2
    obtain ⟨f0, f1, f2, f3, f4, f5, f6, f7⟩ := e2
    subst e0 e1 f0 f1 f2 f3 f4 f5 f6 f7
    exact ⟨⟨y0, y1, y2⟩, rfl⟩
set_option maxRecDepth 100000 in
theorem open_acts {H : Type} {enc : TypeId × Value → H} {W : World} {b0 : Nat} {v : Value} {d : DataW H} {p : List MemPlace} {sp : Nat → Bool}
    (hv : Value.okWide Tryd.prog W .any b0 22 v) (h : DataW.Trod enc Tryd.prog W 0 sp true 22 v d p) : ∃ l, ActsIn W v l := by
  obtain ⟨a0, len0, cap0, rfl⟩ := okWide_slice Tryd.underlying22 hv
  obtain ⟨fuel, hf⟩ := h
  rcases Go.Deep.open_slice Tryd.underlying22 hf with ⟨h0, _⟩ | ⟨a, len, cap, m, n, D, Pl, hcs, _, hlc, hmx, hm, _, hx⟩
  · have h0 : [Value.slice a0 len0 cap0] = [.slice none 0 0] := h0
    have h0 : Value.slice a0 len0 cap0 = .slice none 0 0 := by simpa using h0
    exact ⟨[], none, 0, h0, fun j x hx => by simp at hx⟩
  · have hcs : [Value.slice a0 len0 cap0] = [.slice (some a) len cap] := hcs
    have hcs : Value.slice a0 len0 cap0 = .slice (some a) len cap := by simpa using hcs
    rw [hcs]
    have hlm : len ≤ m := by rw [hm]; split <;> omega
    obtain ⟨R, hR⟩ := Go.Deep.choose_lt (α := Ac) (n := len) (p := fun i r => W.cells? 0 (a.add (i * 10)) 10 = some (acC r)) (fun i hi => by
      obtain ⟨cs', h1, h2⟩ := hx i (by omega)
      rw [Tryd.tcAct] at h1
      obtain ⟨r, rfl⟩ := act_cells h2
      exact ⟨r, h1⟩)
    refine ⟨(List.range len).map R, some a, cap, by simp, fun i r hr => ?_⟩
    rw [List.getElem?_map] at hr
    obtain ⟨i', hi', rfl⟩ := Option.map_eq_some_iff.1 hr
    obtain ⟨hlt, e⟩ := List.getElem?_eq_some_iff.1 hi'
    simp at hlt e
    subst e
    have key : ∀ j k u, j < len → k < 10 → (acC (R j))[k]? = some u → W.cell? ((a.add (j * 10)).add k) = some u := fun j k u hj hk hu => by
      have h1 := hR j hj
      unfold World.cells? at h1
      rw [if_pos (Nat.zero_le _)] at h1
      have := mapM_at h1 k k (by rw [List.getElem?_range hk])
      rw [this]; exact hu
    have hsp : a.spot = none := by
      have h0 := key 0 0 _ (by omega) (by omega) rfl
      have e : (a.add (0 * 10)).add 0 = a := rfl
      rw [e] at h0
      unfold World.cell? at h0
      split at h0
      · cases hs : a.spot with
        | none => rfl
        | some q => simp [hs] at h0
      · cases h0
    obtain ⟨b, o, sp'⟩ := a
    obtain rfl : sp' = none := hsp
    refine ⟨b, o, rfl, ?_⟩
    have k2 : ∀ k u, k < 10 → (acC (R i))[k]? = some u → W.cell? ⟨b, o + i * 10 + k, none⟩ = some u := fun k u hk hu => by
      have := key i k u hlt hk hu
      rw [addr_add, addr_add] at this
      exact this
    exact ⟨k2 0 _ (by omega) rfl, k2 1 _ (by omega) rfl, k2 2 _ (by omega) rfl, k2 3 _ (by omega) rfl, k2 4 _ (by omega) rfl, k2 5 _ (by omega) rfl, k2 6 _ (by omega) rfl, k2 7 _ (by omega) rfl, k2 8 _ (by omega) rfl, k2 9 _ (by omega) rfl⟩
end Go.Proofs.YtifkbafdjkgnoaaDoor
