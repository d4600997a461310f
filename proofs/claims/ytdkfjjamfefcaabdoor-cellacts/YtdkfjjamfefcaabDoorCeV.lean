/-
  Puts that came in: in memory, and opened.
-/
import Derived.Test.YtdkfjjamfefcaabDoorGeP
import Derived.ProofKit
import Derived.OpenShut
import Derived.Deep.Slices
import Derived.ChangeMaps5
namespace Go.Proofs.YtdkfjjamfefcaabDoor
open Go.ChangeShapes Go.WideShapes Go.ChangeAt Go.RowKit

/-- a put that a law's input names. -/
structure Pt where
  ep : Int
  li : Int
  cu : Int
  bo : Bool
  of' : Bool
instance : Inhabited Pt := ⟨⟨0, 0, 0, false, false⟩⟩
def ptC (a : Pt) : List Value := [.int .i64 a.ep, .int .i64 a.li, .int .i64 a.cu, .bool a.bo, .bool a.of']
structure PtAt (w : World) (b o : Nat) (a : Pt) : Prop where
  c0 : w.cell? ⟨b, o, none⟩ = some (.int .i64 a.ep)
  c1 : w.cell? ⟨b, o + 1, none⟩ = some (.int .i64 a.li)
  c2 : w.cell? ⟨b, o + 2, none⟩ = some (.int .i64 a.cu)
  c3 : w.cell? ⟨b, o + 3, none⟩ = some (.bool a.bo)
  c4 : w.cell? ⟨b, o + 4, none⟩ = some (.bool a.of')
theorem PtAt.below {w w' : World} {b o : Nat} {a : Pt} (h : PtAt w b o a) (hb : Below w.heap.size w w') : PtAt w' b o a := ⟨tk hb h.c0, tk hb h.c1, tk hb h.c2, tk hb h.c3, tk hb h.c4⟩
theorem ptAt_new (w : World) (a : Pt) (t : TypeId) : PtAt (w.alloc (.cells #[.int .i64 a.ep, .int .i64 a.li, .int .i64 a.cu, .bool a.bo, .bool a.of'] t)) w.heap.size 0 a :=
  ⟨(nw _ _ _ _).trans rfl, (nw _ _ _ _).trans rfl, (nw _ _ _ _).trans rfl, (nw _ _ _ _).trans rfl, (nw _ _ _ _).trans rfl⟩
def PutsIn (w : World) (v : Value) (l : List Pt) : Prop := ∃ (p : Option Addr) (cap : Nat), v = .slice p l.length cap ∧ ∀ (i : Nat) a, l[i]? = some a → ∃ b o, p = some ⟨b, o, none⟩ ∧ PtAt w b (o + i * 5) a ∧ a.cu ≤ 9223372036854775807
theorem Tryd.pcI : Tryd.prog.cellsOf 3 = 1 := by kernel_rfl
theorem Tryd.pcB : Tryd.prog.cellsOf 4 = 1 := by kernel_rfl
theorem Tryd.pcP : Tryd.prog.cellsOf 95 = 5 := by kernel_rfl
theorem mapM_at5 {α β : Type} {f : α → Option β} : ∀ {l : List α} {r : List β}, l.mapM f = some r → ∀ (i : Nat) x, l[i]? = some x → f x = r[i]?
  | [], r, h, i, x, hx => by simp at hx
  | a :: l, r, h, i, x, hx => by
    rw [List.mapM_cons] at h
    obtain ⟨y, hy, h⟩ := Option.bind_eq_some_iff.1 h
    obtain ⟨ys, hys, h⟩ := Option.bind_eq_some_iff.1 h
    obtain rfl := Option.some.inj h
    cases i with
    | zero => simp at hx; subst hx; simpa using hy
    | succ i => simp at hx; simpa using mapM_at5 hys i x hx
theorem addr_add5 (b o j : Nat) : Addr.add ⟨b, o, none⟩ j = ⟨b, o + j, none⟩ := by
  unfold Addr.add
  by_cases h : j = 0
  · subst h; rfl
  · rw [if_neg h]
set_option maxRecDepth 100000 in
theorem pt_cells {H : Type} {enc : TypeId × Value → H} {W : World} {b0 : Nat} {sp : Nat → Bool} {held : Bool} {fuel : Nat} {cs : List Value} {x : DataW H × List MemPlace}
    (h : DataW.trod enc Tryd.prog W b0 sp held fuel 95 cs = some x) : ∃ a : Pt, cs = ptC a ∧ a.cu ≤ 9223372036854775807 := by
  obtain ⟨xs, n, _, _, hlen, hxl, hf⟩ := DataW.trod_struct Tryd.underlying95 h
  rw [Tryd.pcP] at hlen
  have hxl : xs.length = 5 := hxl
  match cs, hlen with
  | [c0, c1, c2, c3, c4], _ =>
    have g0 : DataW.trod enc Tryd.prog W b0 sp held n 3 (([c0, c1, c2, c3, c4].drop 0).take (Tryd.prog.cellsOf 3)) = xs[0]? := hf 0 _ rfl
    have g1 : DataW.trod enc Tryd.prog W b0 sp held n 3 (([c0, c1, c2, c3, c4].drop 1).take (Tryd.prog.cellsOf 3)) = xs[1]? := hf 1 _ rfl
    have g2 : DataW.trod enc Tryd.prog W b0 sp held n 3 (([c0, c1, c2, c3, c4].drop 2).take (Tryd.prog.cellsOf 3)) = xs[2]? := hf 2 _ rfl
    have g3 : DataW.trod enc Tryd.prog W b0 sp held n 4 (([c0, c1, c2, c3, c4].drop 3).take (Tryd.prog.cellsOf 4)) = xs[3]? := hf 3 _ rfl
    have g4 : DataW.trod enc Tryd.prog W b0 sp held n 4 (([c0, c1, c2, c3, c4].drop 4).take (Tryd.prog.cellsOf 4)) = xs[4]? := hf 4 _ rfl
    rw [Tryd.pcI] at g0 g1 g2
    rw [Tryd.pcB] at g3 g4
    rw [List.getElem?_eq_getElem (by omega)] at g0 g1 g2 g3 g4
    obtain ⟨y0, e0, _⟩ := DataW.trod_int Tryd.underlying3 g0
    obtain ⟨y1, e1, _⟩ := DataW.trod_int Tryd.underlying3 g1
    obtain ⟨y2, e2, _, k2⟩ := DataW.trod_int Tryd.underlying3 g2
    obtain ⟨y3, e3, _⟩ := DataW.trod_bool Tryd.underlying4 g3
    obtain ⟨y4, e4, _⟩ := DataW.trod_bool Tryd.underlying4 g4
    simp at e0 e1 e2 e3 e4
    subst e0 e1 e2 e3 e4
    refine ⟨⟨y0, y1, y2, y3, y4⟩, rfl, ?_⟩
    simp only [Lit.wf, Bool.and_eq_true, decide_eq_true_eq] at k2
    have e2 : IntKind.i64.max = 9223372036854775807 := by decide
    show y2 ≤ _
    omega
set_option maxRecDepth 100000 in
theorem open_puts {H : Type} {enc : TypeId × Value → H} {W : World} {b0 : Nat} {v : Value} {d : DataW H} {p : List MemPlace} {sp : Nat → Bool}
    (hv : Value.okWide Tryd.prog W .any b0 88 v) (h : DataW.Trod enc Tryd.prog W 0 sp true 88 v d p) : ∃ l, PutsIn W v l := by
  obtain ⟨a0, len0, cap0, rfl⟩ := okWide_slice Tryd.underlying88 hv
  obtain ⟨fuel, hf⟩ := h
  rcases Go.Deep.open_slice Tryd.underlying88 hf with ⟨h0, _⟩ | ⟨a, len, cap, m, n, D, Pl, hcs, _, hlc, hmx, hm, _, hx⟩
  · have h0 : [Value.slice a0 len0 cap0] = [.slice none 0 0] := h0
    have h0 : Value.slice a0 len0 cap0 = .slice none 0 0 := by simpa using h0
    exact ⟨[], none, 0, h0, fun j x hx => by simp at hx⟩
  · have hcs : [Value.slice a0 len0 cap0] = [.slice (some a) len cap] := hcs
    have hcs : Value.slice a0 len0 cap0 = .slice (some a) len cap := by simpa using hcs
    rw [hcs]
    have hlm : len ≤ m := by rw [hm]; split <;> omega
    obtain ⟨R, hR⟩ := Go.Deep.choose_lt (α := Pt) (n := len) (p := fun i r => W.cells? 0 (a.add (i * 5)) 5 = some (ptC r) ∧ r.cu ≤ 9223372036854775807) (fun i hi => by
      obtain ⟨cs', h1, h2⟩ := hx i (by omega)
      rw [Tryd.pcP] at h1
      obtain ⟨r, rfl, hc⟩ := pt_cells h2
      exact ⟨r, h1, hc⟩)
    refine ⟨(List.range len).map R, some a, cap, by simp, fun i r hr => ?_⟩
    rw [List.getElem?_map] at hr
    obtain ⟨i', hi', rfl⟩ := Option.map_eq_some_iff.1 hr
    obtain ⟨hlt, e⟩ := List.getElem?_eq_some_iff.1 hi'
    simp at hlt e
    subst e
    have key : ∀ j k u, j < len → k < 5 → (ptC (R j))[k]? = some u → W.cell? ((a.add (j * 5)).add k) = some u := fun j k u hj hk hu => by
      have h1 := (hR j hj).1
      unfold World.cells? at h1
      rw [if_pos (Nat.zero_le _)] at h1
      have := mapM_at5 h1 k k (by rw [List.getElem?_range hk])
      rw [this]; exact hu
    have hsp : a.spot = none := by
      have h0 := key 0 0 _ (by omega) (by omega) rfl
      have e : (a.add (0 * 5)).add 0 = a := rfl
      rw [e] at h0
      unfold World.cell? at h0
      split at h0
      · cases hs : a.spot with
        | none => rfl
        | some q => simp [hs] at h0
      · cases h0
    obtain ⟨b, o, sp'⟩ := a
    obtain rfl : sp' = none := hsp
    refine ⟨b, o, rfl, ?_, (hR i hlt).2⟩
    have k2 : ∀ k u, k < 5 → (ptC (R i))[k]? = some u → W.cell? ⟨b, o + i * 5 + k, none⟩ = some u := fun k u hk hu => by
      have := key i k u hlt hk hu
      rw [addr_add5, addr_add5] at this
      exact this
    exact ⟨k2 0 _ (by omega) rfl, k2 1 _ (by omega) rfl, k2 2 _ (by omega) rfl, k2 3 _ (by omega) rfl, k2 4 _ (by omega) rfl⟩
end Go.Proofs.YtdkfjjamfefcaabDoor
