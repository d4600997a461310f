/-
  An end that came in, opened.
-/
import Derived.Test.YtjfhompbeengmaaDoorProg
import Derived.WalkKit
import Derived.ProofKit
import Derived.OpenShut
import Derived.Deep.Slices
namespace Go.Proofs.YtjfhompbeengmaaDoor
open Go.ChangeShapes Go.WideShapes Go.ChangeAt Go.RowKit

theorem Tryd.tcI : Tryd.prog.cellsOf 3 = 1 := by kernel_rfl
theorem Tryd.tcEnd : Tryd.prog.cellsOf 24 = 2 := by kernel_rfl
theorem array2 {cs : Array Value} (h : cs.size = 2) : ∃ c0 c1, cs = #[c0, c1] := by
  obtain ⟨l⟩ := cs
  match l, h with
  | [c0, c1], _ => exact ⟨c0, c1, rfl⟩
set_option maxRecDepth 100000 in
theorem open_end {H : Type} {enc : TypeId × Value → H} {W : World} {b0 : Nat} {v : Value} {d : DataW H} {p : List MemPlace} {sp : Nat → Bool}
    (hv : Value.okWide Tryd.prog W .any b0 24 v) (h : DataW.Trod enc Tryd.prog W 0 sp true 24 v d p) :
    ∃ a1 a2 : Int, v = .agg #[.int .i64 a1, .int .i64 a2] := by
  obtain ⟨cs, rfl, hsz⟩ := okWide_struct Tryd.underlying24 hv
  obtain ⟨c0, c1, rfl⟩ := array2 (hsz.trans Tryd.tcEnd)
  obtain ⟨fuel, hf⟩ := h
  obtain ⟨z0, z1, n1, hx1, _, k0, k1⟩ := trod_struct2 Tryd.underlying24 hf
  simp only [Tryd.tcI] at k0 k1
  obtain ⟨q0, f0, s0, _⟩ := DataW.trod_int Tryd.underlying3 k0
  obtain ⟨q1, f1, s1, _⟩ := DataW.trod_int Tryd.underlying3 k1
  simp [Value.cells] at f0 f1
  subst f0 f1
  exact ⟨_, _, rfl⟩
end Go.Proofs.YtjfhompbeengmaaDoor
