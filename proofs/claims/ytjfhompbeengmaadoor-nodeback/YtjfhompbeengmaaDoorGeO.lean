/-
  Ends and flows that came in, cell by cell.
-/
import Derived.Test.YtjfhompbeengmaaDoorKd
import Derived.Test.YtjfhompbeengmaaDoorTbO
import Derived.ChangeMaps5
namespace Go.Proofs.YtjfhompbeengmaaDoor
open Go.ChangeShapes Go.WideShapes Go.ChangeAt Go.RowKit

theorem Tryd.tcFlow : Tryd.prog.cellsOf 77 = 8 := by kernel_rfl
set_option maxRecDepth 100000 in
theorem end_cells {H : Type} {enc : TypeId × Value → H} {W : World} {b0 : Nat} {sp : Nat → Bool} {held : Bool} {fuel : Nat} {c0 c1 : Value} {x : DataW H × List MemPlace}
    (h : DataW.trod enc Tryd.prog W b0 sp held fuel 24 [c0, c1] = some x) : ∃ p q : Int, c0 = .int .i64 p ∧ c1 = .int .i64 q := by
  obtain ⟨z0, z1, n1, _, _, k0, k1⟩ := trod_struct2 Tryd.underlying24 h
  simp only [Tryd.tcI] at k0 k1
  obtain ⟨q0, f0, _⟩ := DataW.trod_int Tryd.underlying3 k0
  obtain ⟨q1, f1, _⟩ := DataW.trod_int Tryd.underlying3 k1
  simp at f0 f1
  exact ⟨q0, q1, f0, f1⟩
set_option maxRecDepth 100000 in
theorem flow_cells {H : Type} {enc : TypeId × Value → H} {W : World} {b0 : Nat} {sp : Nat → Bool} {held : Bool} {fuel : Nat} {cs : List Value} {x : DataW H × List MemPlace}
    (h : DataW.trod enc Tryd.prog W b0 sp held fuel 77 cs = some x) : ∃ c : Ce, cs = [.int .i64 c.pr, .int .i64 c.ia, .int .i64 c.ip, .int .i64 c.fa, .int .i64 c.fp, .int .i64 c.po, .int .i64 c.st, .int .i64 c.un] := by
  obtain ⟨xs, n, _, _, hlen, hxl, hf⟩ := DataW.trod_struct Tryd.underlying77 h
  rw [Tryd.tcFlow] at hlen
  have hxl : xs.length = 6 := hxl
  match cs, hlen with
  | [c0, c1, c2, c3, c4, c5, c6, c7], _ =>
    have g0 : DataW.trod enc Tryd.prog W b0 sp held n 3 (([c0, c1, c2, c3, c4, c5, c6, c7].drop 0).take (Tryd.prog.cellsOf 3)) = xs[0]? := hf 0 _ rfl
    have g1 : DataW.trod enc Tryd.prog W b0 sp held n 24 (([c0, c1, c2, c3, c4, c5, c6, c7].drop 1).take (Tryd.prog.cellsOf 24)) = xs[1]? := hf 1 _ rfl
    have g2 : DataW.trod enc Tryd.prog W b0 sp held n 24 (([c0, c1, c2, c3, c4, c5, c6, c7].drop 3).take (Tryd.prog.cellsOf 24)) = xs[2]? := hf 2 _ rfl
    have g3 : DataW.trod enc Tryd.prog W b0 sp held n 3 (([c0, c1, c2, c3, c4, c5, c6, c7].drop 5).take (Tryd.prog.cellsOf 3)) = xs[3]? := hf 3 _ rfl
    have g4 : DataW.trod enc Tryd.prog W b0 sp held n 3 (([c0, c1, c2, c3, c4, c5, c6, c7].drop 6).take (Tryd.prog.cellsOf 3)) = xs[4]? := hf 4 _ rfl
    have g5 : DataW.trod enc Tryd.prog W b0 sp held n 3 (([c0, c1, c2, c3, c4, c5, c6, c7].drop 7).take (Tryd.prog.cellsOf 3)) = xs[5]? := hf 5 _ rfl
    rw [Tryd.tcI] at g0 g3 g4 g5
    rw [Tryd.tcEnd] at g1 g2
    rw [List.getElem?_eq_getElem (by omega)] at g0 g1 g2 g3 g4 g5
    obtain ⟨y0, e0, _⟩ := DataW.trod_int Tryd.underlying3 g0
    obtain ⟨y1, y2, e1, e2⟩ := end_cells g1
    obtain ⟨y3, y4, e3, e4⟩ := end_cells g2
    obtain ⟨y5, e5, _⟩ := DataW.trod_int Tryd.underlying3 g3
    obtain ⟨y6, e6, _⟩ := DataW.trod_int Tryd.underlying3 g4
    obtain ⟨y7, e7, _⟩ := DataW.trod_int Tryd.underlying3 g5
    simp at e0 e5 e6 e7
    subst e0 e1 e2 e3 e4 e5 e6 e7
    exact ⟨⟨0, y0, y1, y2, y3, y4, y5, y6, y7⟩, rfl⟩
theorem mapM_at {α β : Type} {f : α → Option β} : ∀ {l : List α} {r : List β}, l.mapM f = some r → ∀ (i : Nat) x, l[i]? = some x → f x = r[i]?
  | [], r, h, i, x, hx => by simp at hx
  | a :: l, r, h, i, x, hx => by
    rw [List.mapM_cons] at h
    obtain ⟨y, hy, h⟩ := Option.bind_eq_some_iff.1 h
    obtain ⟨ys, hys, h⟩ := Option.bind_eq_some_iff.1 h
    obtain rfl := Option.some.inj h
    cases i with
    | zero => simp at hx; subst hx; simpa using hy
    | succ i => simp at hx; simpa using mapM_at hys i x hx
theorem addr_add (b o j : Nat) : Addr.add ⟨b, o, none⟩ j = ⟨b, o + j, none⟩ := by
  unfold Addr.add
  by_cases h : j = 0
  · subst h; rfl
  · rw [if_neg h]
end Go.Proofs.YtjfhompbeengmaaDoor
