/-
  All but two blocks as it was.
-/
import Derived.Test.YtifkbafdjkgnoaaDoorGeP
namespace Go.Proofs.YtifkbafdjkgnoaaDoor
open Go.RowKit

theorem frozen_of_block {w w' : World} {a : Addr} (h : w'.heap[a.block]? = w.heap[a.block]?) : w'.frozen? a = w.frozen? a := by
  unfold World.frozen?; rw [h]
/-- all but two blocks is as it was. -/
structure Chg2 (m g : Nat) (w w' : World) : Prop where
  os : w'.os = w.os
  tape : w'.tape = w.tape
  output : w'.output = w.output
  size : w.heap.size ≤ w'.heap.size
  block : ∀ k, k < w.heap.size → k ≠ m → k ≠ g → w'.heap[k]? = w.heap[k]?
theorem Chg2.refl (m g : Nat) (w : World) : Chg2 m g w w := ⟨rfl, rfl, rfl, Nat.le_refl _, fun _ _ _ _ => rfl⟩
theorem Chg2.then {m g : Nat} {w v v' : World} (h : Chg2 m g w v) (k : Below v.heap.size v v') : Chg2 m g w v' :=
  ⟨k.os.trans h.os, k.tape.trans h.tape, k.output.trans h.output, Nat.le_trans h.size k.size, fun i hi h1 h2 => (k.block i (Nat.lt_of_lt_of_le hi h.size)).trans (h.block i hi h1 h2)⟩
theorem Chg2.on {m g b : Nat} {w v v' : World} (h : Chg2 m g w v) (k : Chg b v v') (hb : b = m ∨ b = g ∨ w.heap.size ≤ b) : Chg2 m g w v' :=
  ⟨k.os.trans h.os, k.tape.trans h.tape, k.output.trans h.output, Nat.le_trans h.size k.size, fun i hi h1 h2 => (k.block i (Nat.lt_of_lt_of_le hi h.size) (fun e => by
    rcases hb with rfl | rfl | hb
    · exact h1 e
    · exact h2 e
    · omega)).trans (h.block i hi h1 h2)⟩
theorem Chg2.keeps {m g : Nat} {w w' : World} (h : Chg2 m g w w') {a : Addr} {v : Value} (h1 : a.block ≠ m) (h2 : a.block ≠ g) (hc : w.cell? a = some v) : w'.cell? a = some v := by
  rw [World.cell?_of_block (w := w) (h.block a.block (tlt hc) h1 h2)]; exact hc
theorem Chg2.below {m g : Nat} {w0 w w' : World} (h : Below w0.heap.size w0 w) (k : Chg2 m g w w') (h1 : w0.heap.size ≤ m) (h2 : w0.heap.size ≤ g) : Below w0.heap.size w0 w' :=
  h.trans ⟨k.os, k.tape, k.output, k.size, fun i hi => k.block i (Nat.lt_of_lt_of_le hi h.size) (by omega) (by omega)⟩
theorem Chg2.trans {m g : Nat} {u v w : World} (h : Chg2 m g u v) (k : Chg2 m g v w) : Chg2 m g u w :=
  ⟨k.os.trans h.os, k.tape.trans h.tape, k.output.trans h.output, Nat.le_trans h.size k.size, fun i hi h1 h2 => (k.block i (Nat.lt_of_lt_of_le hi h.size) h1 h2).trans (h.block i hi h1 h2)⟩
theorem Chg2.of {m g : Nat} {w w' : World} (h : Below w.heap.size w w') : Chg2 m g w w' := (Chg2.refl m g w).then h
theorem chg_grown {b : Nat} {w w' : World} (h : w.grownBy w' (some b)) : Chg b w w' := ⟨h.os, h.tape, h.output, h.size, fun k hk hn => h.block k hk (by simpa using hn)⟩
end Go.Proofs.YtifkbafdjkgnoaaDoor
