/-
  What is told at once, many of them, that came in, opened.
-/
import Derived.Test.YtabbpdgamfoicabDoorMlC
import Derived.Test.YtabbpdgamfoicabDoorMtO
namespace Go.Proofs.YtabbpdgamfoicabDoor
open Go.ChangeShapes Go.WideShapes Go.ChangeAt Go.RowKit

theorem Tryd.tcCells : Tryd.prog.cellsOf 61 = 1 := by kernel_rfl
theorem Tryd.tcTold : Tryd.prog.cellsOf 75 = 2 := by kernel_rfl
set_option maxRecDepth 100000 in
theorem tcS_of {H : Type} {enc : TypeId × Value → H} {W : World} {sp : Nat → Bool} {held : Bool} {fuel : Nat} {v : Value} {x : DataW H × List MemPlace}
    (hf : DataW.trod enc Tryd.prog W 0 sp held fuel 61 [v] = some x) : ∃ l, TcS W v l := by
  rcases Go.Deep.open_slice Tryd.underlying61 hf with ⟨h0, _⟩ | ⟨a, len, cap, m, n, D, Pl, hcs, _⟩
  · have h0 : v = .slice none 0 0 := by simpa using h0
    exact ⟨[], .inl ⟨h0, rfl⟩⟩
  · have hv : v = .slice (some a) len cap := by simpa using hcs
    obtain ⟨l, p, cp, e, R⟩ := tcs_slice ⟨_, _, _, hv⟩ hf
    rw [hv] at e
    obtain ⟨rfl, rfl, rfl⟩ := Value.slice.inj e
    exact ⟨l, .inr ⟨a, cap, hv, R⟩⟩
set_option maxRecDepth 100000 in
theorem told_cells {H : Type} {enc : TypeId × Value → H} {W : World} {sp : Nat → Bool} {held : Bool} {fuel : Nat} {cs : List Value} {x : DataW H × List MemPlace} (hlen : cs.length = 2)
    (h : DataW.trod enc Tryd.prog W 0 sp held fuel 75 cs = some x) : ∃ t : Td, cs = [.int .i64 t.lf, t.v] ∧ TcS W t.v t.l := by
  match cs, hlen with
  | [c0, c1], _ =>
    obtain ⟨z0, z1, n1, _, _, k0, k1⟩ := trod_struct2 Tryd.underlying75 h
    simp only [Tryd.tcI, Tryd.tcCells] at k0 k1
    obtain ⟨q0, f0, _⟩ := DataW.trod_int Tryd.underlying3 k0
    simp at f0
    obtain ⟨l, L⟩ := tcS_of (v := c1) (by simpa using k1)
    subst f0
    exact ⟨⟨q0, c1, l⟩, rfl, L⟩
set_option maxRecDepth 100000 in
theorem open_tds {H : Type} {enc : TypeId × Value → H} {W : World} {b0 : Nat} {v : Value} {d : DataW H} {p : List MemPlace} {sp : Nat → Bool}
    (hv : Value.okWide Tryd.prog W .any b0 71 v) (h : DataW.Trod enc Tryd.prog W 0 sp true 71 v d p) : ∃ ts, TdsIn W v ts := by
  obtain ⟨a0, len0, cap0, rfl⟩ := okWide_slice Tryd.underlying71 hv
  obtain ⟨fuel, hf⟩ := h
  rcases Go.Deep.open_slice Tryd.underlying71 hf with ⟨h0, _⟩ | ⟨a, len, cap, m, n, D, Pl, hcs, _, hlc, hmx, hm, _, hx⟩
  · have h0 : [Value.slice a0 len0 cap0] = [.slice none 0 0] := h0
    have h0 : Value.slice a0 len0 cap0 = .slice none 0 0 := by simpa using h0
    exact ⟨[], none, 0, h0, fun j x hx => by simp at hx⟩
  · have hcs : [Value.slice a0 len0 cap0] = [.slice (some a) len cap] := hcs
    have hcs : Value.slice a0 len0 cap0 = .slice (some a) len cap := by simpa using hcs
    rw [hcs]
    have hlm : len ≤ m := by rw [hm]; split <;> omega
    obtain ⟨R, hR⟩ := Go.Deep.choose_lt (α := Td) (n := len) (p := fun i t => W.cells? 0 (a.add (i * 2)) 2 = some [.int .i64 t.lf, t.v] ∧ TcS W t.v t.l) (fun i hi => by
      obtain ⟨cs', h1, h2⟩ := hx i (by omega)
      rw [Tryd.tcTold] at h1
      obtain ⟨_, hlen, _⟩ := World.cells?_some h1
      obtain ⟨r, rfl, hr⟩ := told_cells hlen h2
      exact ⟨r, h1, hr⟩)
    refine ⟨(List.range len).map R, some a, cap, by simp, fun i r hr => ?_⟩
    rw [List.getElem?_map] at hr
    obtain ⟨i', hi', rfl⟩ := Option.map_eq_some_iff.1 hr
    obtain ⟨hlt, e⟩ := List.getElem?_eq_some_iff.1 hi'
    simp at hlt e
    subst e
    have key : ∀ j k u, j < len → k < 2 → ([.int .i64 (R j).lf, (R j).v] : List Value)[k]? = some u → W.cell? ((a.add (j * 2)).add k) = some u := fun j k u hj hk hu => by
      have h1 := (hR j hj).1
      unfold World.cells? at h1
      rw [if_pos (Nat.zero_le _)] at h1
      have := mapM_at h1 k k (by rw [List.getElem?_range hk])
      rw [this]; exact hu
    have hsp : a.spot = none := by
      have h0 := key 0 0 _ (by omega) (by omega) rfl
      have e : (a.add (0 * 2)).add 0 = a := rfl
      rw [e] at h0
      unfold World.cell? at h0
      split at h0
      · cases hs : a.spot with
        | none => rfl
        | some q => simp [hs] at h0
      · cases h0
    obtain ⟨b, o, sp'⟩ := a
    obtain rfl : sp' = none := hsp
    refine ⟨b, o, rfl, ?_, ?_, (hR i hlt).2⟩
    · have := key i 0 _ hlt (by omega) rfl
      rw [addr_add, addr_add] at this
      exact this
    · have := key i 1 _ hlt (by omega) rfl
      rw [addr_add, addr_add] at this
      exact this
end Go.Proofs.YtabbpdgamfoicabDoor
