/-
  Packets held against each other.
-/
import Derived.Test.YtapdelipmibabaaDoorKh
import Derived.DeepKeys
namespace Go.Proofs.YtapdelipmibabaaDoor
open Go.RowKit
theorem eqK : Tryd.prog.keyTypeAt 5 27 = true := by kernel_rfl
theorem eqF (a b c d e f : Int) : Value.formed Tryd.prog 27 (pkt a b c d e f) = true := by kernel_rfl
theorem eqL (a b c d e f : Int) (ha : (Lit.int .i64 a).wf = true) (hb : (Lit.int .i64 b).wf = true) (hc : (Lit.int .i64 c).wf = true) (hd : (Lit.int .i64 d).wf = true) (he : (Lit.int .i64 e).wf = true) (hf : (Lit.int .i64 f).wf = true) : ∃ l, Tryd.prog.keyLits 5 27 (pkt a b c d e f).cells.toList = some l := by
  have k1 : ∀ (n : Nat) x, (Lit.int .i64 x).wf = true → Tryd.prog.keyLits (n + 1) 3 [.int .i64 x] = some [.int .i64 x] := fun n x hx => by
    unfold Program.keyLits; rw [Tryd.underlying3]; simp [hx]
  have c3 : Tryd.prog.cellsOf 3 = 1 := by kernel_rfl
  have c23 : Tryd.prog.cellsOf 23 = 2 := by kernel_rfl
  have c25 : Tryd.prog.cellsOf 27 = 6 := by kernel_rfl
  have k2 : ∀ (n : Nat) x y, (Lit.int .i64 x).wf = true → (Lit.int .i64 y).wf = true → Tryd.prog.keyLits (n + 2) 23 [.int .i64 x, .int .i64 y] = some [.int .i64 x, .int .i64 y] := fun n x y hx hy => by
    unfold Program.keyLits; rw [Tryd.underlying23]; simp [c23, c3, k1, hx, hy]
  refine ⟨[.int .i64 a, .int .i64 b, .int .i64 c, .int .i64 d, .int .i64 e, .int .i64 f], ?_⟩
  unfold Program.keyLits; rw [Tryd.underlying27]; simp [Value.cells, c25, c23, c3, k1, k2, ha, hb, hc, hd, he, hf]
theorem eql_pkt (a b c d e f : Int) (w : World) (ha : (Lit.int .i64 a).wf = true) (hb : (Lit.int .i64 b).wf = true) (hc : (Lit.int .i64 c).wf = true) (hd : (Lit.int .i64 d).wf = true) (he : (Lit.int .i64 e).wf = true) (hf : (Lit.int .i64 f).wf = true) : (binOp .eql 27 (pkt a b c d e f) (pkt a b c d e f)).run Tryd.prog w = .ok (.bool true) w := by
  obtain ⟨l, hl⟩ := eqL a b c d e f ha hb hc hd he hf
  obtain ⟨r, hr, hi⟩ := run_equalIn_deep (P := Tryd.prog) 9995 5 27 eqK w 5 5 _ _ _ _ (eqF a b c d e f) (eqF a b c d e f) hl hl
  have : r = true := hi.2 rfl
  subst this
  simp only [binOp]
  simp [Op.equal, Op.maxDepth]
  rw [show (10000 : Nat) = 9995 + 5 from rfl, hr]
  rfl
theorem wfi {n : Int} (h0 : -9223372036854775808 ≤ n) (h1 : n ≤ 9223372036854775807) : (Lit.int .i64 n).wf = true := by
  have e1 : IntKind.i64.min = -9223372036854775808 := by decide
  have e2 : IntKind.i64.max = 9223372036854775807 := by decide
  simp [Lit.wf, e1, e2]; omega
theorem neq_pkt (a b c d e f : Int) (w : World) (ha : (Lit.int .i64 a).wf = true) (hb : (Lit.int .i64 b).wf = true) (hc : (Lit.int .i64 c).wf = true) (hd : (Lit.int .i64 d).wf = true) (he : (Lit.int .i64 e).wf = true) (hf : (Lit.int .i64 f).wf = true) : (binOp .neq 27 (pkt a b c d e f) (pkt a b c d e f)).run Tryd.prog w = .ok (.bool false) w := by
  obtain ⟨l, hl⟩ := eqL a b c d e f ha hb hc hd he hf
  obtain ⟨r, hr, hi⟩ := run_equalIn_deep (P := Tryd.prog) 9995 5 27 eqK w 5 5 _ _ _ _ (eqF a b c d e f) (eqF a b c d e f) hl hl
  have : r = true := hi.2 rfl
  subst this
  simp only [binOp]
  simp [Op.equal, Op.maxDepth]
  rw [show (10000 : Nat) = 9995 + 5 from rfl, hr]
  rfl
end Go.Proofs.YtapdelipmibabaaDoor
