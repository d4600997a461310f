/-
  '==' between two packets that are the same: true.
-/
import Derived.Test.YtlogpnanfamjeaaGreatDoorPkE
import Derived.DeepKeys
namespace Go.Proofs.YtlogpnanfamjeaaGreatDoor
open Go.RowKit
theorem eqK : Tryz.prog.keyTypeAt 5 25 = true := by kernel_rfl
theorem eqF (a b c d e f : Int) : Value.formed Tryz.prog 25 (pkt a b c d e f) = true := by kernel_rfl
theorem eqL (a b c d e f : Int) (ha : (Lit.int .i64 a).wf = true) (hb : (Lit.int .i64 b).wf = true) (hc : (Lit.int .i64 c).wf = true) (hd : (Lit.int .i64 d).wf = true) (he : (Lit.int .i64 e).wf = true) (hf : (Lit.int .i64 f).wf = true) : ∃ l, Tryz.prog.keyLits 5 25 (pkt a b c d e f).cells.toList = some l := by
  have k1 : ∀ (n : Nat) x, (Lit.int .i64 x).wf = true → Tryz.prog.keyLits (n + 1) 3 [.int .i64 x] = some [.int .i64 x] := fun n x hx => by
    unfold Program.keyLits; rw [Tryz.underlying3]; simp [hx]
  have c3 : Tryz.prog.cellsOf 3 = 1 := by kernel_rfl
  have c23 : Tryz.prog.cellsOf 23 = 2 := by kernel_rfl
  have c25 : Tryz.prog.cellsOf 25 = 6 := by kernel_rfl
  have k2 : ∀ (n : Nat) x y, (Lit.int .i64 x).wf = true → (Lit.int .i64 y).wf = true → Tryz.prog.keyLits (n + 2) 23 [.int .i64 x, .int .i64 y] = some [.int .i64 x, .int .i64 y] := fun n x y hx hy => by
    unfold Program.keyLits; rw [Tryz.underlying23]; simp [c23, c3, k1, hx, hy]
  refine ⟨[.int .i64 a, .int .i64 b, .int .i64 c, .int .i64 d, .int .i64 e, .int .i64 f], ?_⟩
  unfold Program.keyLits; rw [Tryz.underlying25]; simp [Value.cells, c25, c23, c3, k1, k2, ha, hb, hc, hd, he, hf]
theorem eql_pkt (a b c d e f : Int) (w : World) (ha : (Lit.int .i64 a).wf = true) (hb : (Lit.int .i64 b).wf = true) (hc : (Lit.int .i64 c).wf = true) (hd : (Lit.int .i64 d).wf = true) (he : (Lit.int .i64 e).wf = true) (hf : (Lit.int .i64 f).wf = true) : (binOp .eql 25 (pkt a b c d e f) (pkt a b c d e f)).run Tryz.prog w = .ok (.bool true) w := by
  obtain ⟨l, hl⟩ := eqL a b c d e f ha hb hc hd he hf
  obtain ⟨r, hr, hi⟩ := run_equalIn_deep (P := Tryz.prog) 9995 5 25 eqK w 5 5 _ _ _ _ (eqF a b c d e f) (eqF a b c d e f) hl hl
  have : r = true := hi.2 rfl
  subst this
  simp only [binOp]
  simp [Op.equal, Op.maxDepth]
  rw [show (10000 : Nat) = 9995 + 5 from rfl, hr]
  rfl
theorem wfi {n : Int} (h0 : -9223372036854775808 ≤ n) (h1 : n ≤ 9223372036854775807) : (Lit.int .i64 n).wf = true := by
  have e1 : IntKind.i64.min = -9223372036854775808 := by decide
  have e2 : IntKind.i64.max = 9223372036854775807 := by decide
  simp [Lit.wf, e1, e2]; omega
theorem eql_ok {pr a1 p1 a2 p2 fl : Int} (h : PkOk pr a1 p1 a2 p2 fl) (w : World) : (binOp .eql 25 (pkt pr a1 p1 a2 p2 fl) (pkt pr a1 p1 a2 p2 fl)).run Tryz.prog w = .ok (.bool true) w := by
  obtain ⟨h1, ⟨g1, g2, g3, g4⟩, ⟨g5, g6, g7, g8⟩, g9, g10⟩ := h
  exact eql_pkt _ _ _ _ _ _ w (wfi (by omega) (by omega)) (wfi (by omega) (by omega)) (wfi (by omega) (by omega)) (wfi (by omega) (by omega)) (wfi (by omega) (by omega)) (wfi (by omega) (by omega))
end Go.Proofs.YtlogpnanfamjeaaGreatDoor
