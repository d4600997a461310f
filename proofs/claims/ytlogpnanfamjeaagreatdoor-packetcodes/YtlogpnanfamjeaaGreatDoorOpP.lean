/-
  A packet that came in, opened: six numbers, no memory.
-/
import Derived.Test.YtlogpnanfamjeaaGreatDoorPkB
import Derived.ProofKit
import Derived.OpenShut
import Derived.Lib.SmallJoins
namespace Go.Proofs.YtlogpnanfamjeaaGreatDoor
open Go.ChangeShapes Go.WideShapes Go.ChangeAt Go.RowKit

theorem Tryz.cellsPk : Tryz.prog.cellsOf 25 = 6 := by kernel_rfl
theorem Tryz.cellsEnd : Tryz.prog.cellsOf 23 = 2 := by kernel_rfl
theorem Tryz.cellsI : Tryz.prog.cellsOf 3 = 1 := by kernel_rfl
theorem array6 {α : Type} {cs : Array α} (h : cs.size = 6) : ∃ c0 c1 c2 c3 c4 c5, cs = #[c0, c1, c2, c3, c4, c5] := by
  obtain ⟨l⟩ := cs
  match l, h with
  | [c0, c1, c2, c3, c4, c5], _ => exact ⟨c0, c1, c2, c3, c4, c5, rfl⟩
set_option maxRecDepth 100000 in
theorem open_pkt {H : Type} {enc : TypeId × Value → H} {W : World} {b0 : Nat} {v : Value} {d : DataW H} {p : List MemPlace} {sp : Nat → Bool}
    (hv : Value.okWide Tryz.prog W .any b0 25 v) (h : DataW.Trod enc Tryz.prog W 0 sp true 25 v d p) :
    ∃ a1 a2 a3 a4 a5 a6 : Int, v = pkt a1 a2 a3 a4 a5 a6 ∧ p = [] := by
  obtain ⟨cs, rfl, hsz⟩ := okWide_struct Tryz.underlying25 hv
  obtain ⟨c0, c1, c2, c3, c4, c5, rfl⟩ := array6 (hsz.trans Tryz.cellsPk)
  obtain ⟨fuel, hf⟩ := h
  obtain ⟨y0, y1, y2, y3, n, hx, _, h0, h1, h2, h3⟩ := Joins.trod_struct4 Tryz.underlying25 hf
  simp only [Tryz.cellsI, Tryz.cellsEnd] at h0 h1 h2 h3
  obtain ⟨x0, e0, r0, _⟩ := DataW.trod_int Tryz.underlying3 h0
  obtain ⟨x3, e3, r3, _⟩ := DataW.trod_int Tryz.underlying3 h3
  obtain ⟨z0, z1, n1, hx1, _, k0, k1⟩ := trod_struct2 Tryz.underlying23 h1
  obtain ⟨z2, z3, n2, hx2, _, k2, k3⟩ := trod_struct2 Tryz.underlying23 h2
  simp only [Tryz.cellsI] at k0 k1 k2 k3
  obtain ⟨q0, f0, s0, _⟩ := DataW.trod_int Tryz.underlying3 k0
  obtain ⟨q1, f1, s1, _⟩ := DataW.trod_int Tryz.underlying3 k1
  obtain ⟨q2, f2, s2, _⟩ := DataW.trod_int Tryz.underlying3 k2
  obtain ⟨q3, f3, s3, _⟩ := DataW.trod_int Tryz.underlying3 k3
  simp [Value.cells] at e0 e3 f0 f1 f2 f3
  subst e0 e3 f0 f1 f2 f3
  refine ⟨_, _, _, _, _, _, rfl, ?_⟩
  have := (Prod.mk.inj hx).2
  rw [this, hx1, hx2, r0, r3, s0, s1, s2, s3]
  rfl

end Go.Proofs.YtlogpnanfamjeaaGreatDoor
