/-
  The document's cell in memory; its bytes and the cell in a walk; write over it.
-/
import Derived.Test.YtdkfjjamfefcaabDoorCaD
import Derived.Test.YtdkfjjamfefcaabDoorCeQ
namespace Go.Proofs.YtdkfjjamfefcaabDoor
open Go.RowKit

/-- the document's cell in memory. -/
def RCe (w : World) (m n : Nat) (y : Nm) (dead : Bool) : Prop := w.heap[m]? = some (.cells #[.pointer (some ⟨n, 0, none⟩), .int .i64 y.n, .int .i64 y.e, .int .i64 y.l, .bool dead] 108 (0, 0))
theorem RCe.lt {w : World} {m n : Nat} {y : Nm} {d : Bool} (h : RCe w m n y d) : m < w.heap.size := by
  rcases Nat.lt_or_ge m w.heap.size with h1 | h1
  · exact h1
  · rw [RCe, Array.getElem?_eq_none h1] at h; cases h
theorem RCe.below {w w' : World} {m n : Nat} {y : Nm} {d : Bool} (h : RCe w m n y d) (hb : Below w.heap.size w w') : RCe w' m n y d := by unfold RCe; rw [hb.block m h.lt]; exact h
theorem RCe.chg {w w' : World} {m n b : Nat} {y : Nm} {d : Bool} (h : RCe w m n y d) (hb : Chg b w w') (hn : m ≠ b) : RCe w' m n y d := by unfold RCe; rw [hb.block m h.lt hn]; exact h
theorem RCe.chg2 {w w' : World} {m n b c : Nat} {y : Nm} {d : Bool} (h : RCe w m n y d) (hb : Chg2 b c w w') (h1 : m ≠ b) (h2 : m ≠ c) : RCe w' m n y d := by unfold RCe; rw [hb.block m h.lt h1 h2]; exact h
theorem RCe.c0 {w : World} {m n : Nat} {y : Nm} {d : Bool} (h : RCe w m n y d) : w.cell? ⟨m, 0, none⟩ = some (.pointer (some ⟨n, 0, none⟩)) := (cell_of_row w m _ _ _ _ h).trans rfl
theorem RCe.c1 {w : World} {m n : Nat} {y : Nm} {d : Bool} (h : RCe w m n y d) : w.cell? ⟨m, 1, none⟩ = some (.int .i64 y.n) := (cell_of_row w m _ _ _ _ h).trans rfl
theorem RCe.c2 {w : World} {m n : Nat} {y : Nm} {d : Bool} (h : RCe w m n y d) : w.cell? ⟨m, 2, none⟩ = some (.int .i64 y.e) := (cell_of_row w m _ _ _ _ h).trans rfl
theorem RCe.c3 {w : World} {m n : Nat} {y : Nm} {d : Bool} (h : RCe w m n y d) : w.cell? ⟨m, 3, none⟩ = some (.int .i64 y.l) := (cell_of_row w m _ _ _ _ h).trans rfl
theorem RCe.c4 {w : World} {m n : Nat} {y : Nm} {d : Bool} (h : RCe w m n y d) : w.cell? ⟨m, 4, none⟩ = some (.bool d) := (cell_of_row w m _ _ _ _ h).trans rfl
theorem RCe.fr {w : World} {m n : Nat} {y : Nm} {d : Bool} (h : RCe w m n y d) (i : Nat) : w.frozen? ⟨m, i, none⟩ = false := frozen_of_row w m i _ _ h
theorem RCe.kill {w : World} {m n : Nat} {y : Nm} {d : Bool} (h : RCe w m n y d) (v : Bool) : RCe (w.setCell ⟨m, 4, none⟩ (.bool v)) m n y v := by unfold RCe; rw [heap_setCell_same w m _ _ _ _ h]; rfl
theorem RCe.put {w : World} {m n : Nat} {y : Nm} {d : Bool} (h : RCe w m n y d) (x : Nm) : RCe (((w.setCell ⟨m, 1, none⟩ (.int .i64 x.n)).setCell ⟨m, 2, none⟩ (.int .i64 x.e)).setCell ⟨m, 3, none⟩ (.int .i64 x.l)) m n x d := by
  unfold RCe
  rw [heap_setCell_same _ m _ _ _ _ (heap_setCell_same _ m _ _ _ _ (heap_setCell_same w m _ _ _ _ h))]
  rfl
/-- the document's side in a walk: bytes at n, a cell at m; all else as it was in w0; 'lo': how low the count has sunk. -/
structure RS (w0 w : World) (n m : Nat) (s : By) (y : Nm) (d : Bool) (lo : Int) : Prop where
  r : ∃ lv, RBy w n s lv ∧ (s.cut = true → lv = s.left) ∧ lo ≤ lv ∧ lv ≤ 9223372036854775807
  c : RCe w m n y d
  ne : m ≠ n
  len : s.B.length = 64
  x : Chg2 n m w0 w
theorem RS.below {w0 w w' : World} {n m : Nat} {s : By} {y : Nm} {d : Bool} {lo : Int} (h : RS w0 w n m s y d lo) (hb : Below w.heap.size w w') : RS w0 w' n m s y d lo := by
  obtain ⟨⟨lv, r1, r2⟩, c, ne, len, x⟩ := h
  exact ⟨⟨lv, r1.below hb, r2⟩, c.below hb, ne, len, x.then hb⟩
theorem RS.drew {w0 w : World} {n m : Nat} {s : By} {y : Nm} {d : Bool} {lo : Int} (h : RS w0 w n m s y d lo) : RS w0 w.drew n m s y d lo := h.below (Below.refl _ _).drew
theorem RS.chg {w0 w w' : World} {n m g : Nat} {s : By} {y : Nm} {d : Bool} {lo : Int} (h : RS w0 w n m s y d lo) (hb : Chg g w w') (h1 : n ≠ g) (h2 : m ≠ g) (h3 : w0.heap.size ≤ g) : RS w0 w' n m s y d lo := by
  obtain ⟨⟨lv, r1, r2⟩, c, ne, len, x⟩ := h
  exact ⟨⟨lv, r1.chg hb h1, r2⟩, c.chg hb h2, ne, len, x.on hb (Or.inr (Or.inr h3))⟩
theorem RS.kill {w0 w : World} {n m : Nat} {s : By} {y : Nm} {d : Bool} {lo : Int} (h : RS w0 w n m s y d lo) (v : Bool) : RS w0 (w.setCell ⟨m, 4, none⟩ (.bool v)) n m s y v lo := by
  obtain ⟨⟨lv, r1, r2⟩, c, ne, len, x⟩ := h
  exact ⟨⟨lv, r1.chg (Chg.set m _ _ _) (fun e => ne e.symm), r2⟩, c.kill v, ne, len, x.on (Chg.set m _ _ _) (Or.inr (Or.inl rfl))⟩
theorem RS.put {w0 w : World} {n m : Nat} {s : By} {y : Nm} {d : Bool} {lo : Int} (h : RS w0 w n m s y d lo) (z : Nm) : RS w0 (((w.setCell ⟨m, 1, none⟩ (.int .i64 z.n)).setCell ⟨m, 2, none⟩ (.int .i64 z.e)).setCell ⟨m, 3, none⟩ (.int .i64 z.l)) n m s z d lo := by
  obtain ⟨⟨lv, r1, r2⟩, c, ne, len, x⟩ := h
  have k : Chg m w (((w.setCell ⟨m, 1, none⟩ (.int .i64 z.n)).setCell ⟨m, 2, none⟩ (.int .i64 z.e)).setCell ⟨m, 3, none⟩ (.int .i64 z.l)) := ((Chg.set m _ _ _).trans (Chg.set m _ _ _)).trans (Chg.set m _ _ _)
  exact ⟨⟨lv, r1.chg k (fun e => ne e.symm), r2⟩, c.put z, ne, len, x.on k (Or.inr (Or.inl rfl))⟩
theorem rwrite_rs {w0 w : World} {n m : Nat} {s : By} {y : Nm} {d : Bool} {lo : Int} (h : RS w0 w n m s y d lo) (p : Nat) (L : List UInt8) (hp : p + L.length ≤ 64) (hL : L ≠ []) (hlo : -1000000 ≤ lo) :
    Calls Tryd.prog 96 #[.pointer (some ⟨n, 0, none⟩), .int .i64 p, .string (stB L)] w fun e w' => e = .returned (.bool (wrs s (seqW p L)).2) ∧ RS w0 w' n m (wrs s (seqW p L)).1 y d (lo - L.length) := by
  obtain ⟨⟨lv, r1, r2, r3, r4⟩, c, ne, len, x⟩ := h
  refine (rwrite_any n p L s lv w r1 len hp hL r2 (by omega) r4).mono ?_
  rintro e w' ⟨rfl, ⟨lv', a1, a2, a3, a4⟩, k⟩
  exact ⟨rfl, ⟨lv', a1, a2, by omega, by omega⟩, c.chg k ne, ne, by rw [wrs_len]; exact len, x.on k (Or.inl rfl)⟩
theorem wrs_append : ∀ (l r : List (Nat × UInt8)) (s : By), wrs s (l ++ r) = if (wrs s l).2 = true then wrs (wrs s l).1 r else ((wrs s l).1, false)
  | [], r, s => rfl
  | (a, v) :: l, r, s => by
    show wrs s ((a, v) :: (l ++ r)) = _
    rw [wrs_cons, wrs_cons]
    cases s.ok
    · rfl
    · exact wrs_append l r _
theorem restW_two (s : By) (x : Nm) (p : Nat) : restW s x p 0 = if (wrs s (seqW p (img x))).2 = true then wrs (wrs s (seqW p (img x))).1 (seqW (p + 16) [165]) else ((wrs s (seqW p (img x))).1, false) := by
  unfold restW
  rw [Nat.add_zero, List.drop_zero, wrs_append]
  rfl
theorem putS_one (s : By) (x : Nm) (h : s.B.getD (20 * (x.n % 2) + 16) 0 ≠ 0) : putS s x = if (wrs s (seqW (20 * (x.n % 2) + 16) [0])).2 = true then restW (wrs s (seqW (20 * (x.n % 2) + 16) [0])).1 x (20 * (x.n % 2)) 0 else ((wrs s (seqW (20 * (x.n % 2) + 16) [0])).1, false) := by
  unfold putS putW preW restW
  rw [if_neg h, wrs_append]
  rfl
theorem putS_offp (s : By) (x : Nm) (h : s.on = false) : putS s x = (s, false) := by
  have hne : putW s.B x ≠ [] := fun e => by have := putW_len s.B x; rw [e] at this; simp at this
  unfold putS
  rw [wrs_eq, if_neg (by simp [h]), if_neg (by simp [h, hne])]
end Go.Proofs.YtdkfjjamfefcaabDoor
