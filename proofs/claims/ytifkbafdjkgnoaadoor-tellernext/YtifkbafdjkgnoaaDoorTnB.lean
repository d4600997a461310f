/-
  The document's teller: Next.
-/
import Derived.Test.YtifkbafdjkgnoaaDoorTnA
import Derived.Test.YtifkbafdjkgnoaaDoorTeA
import Derived.OwnWalk
namespace Go.Proofs.YtifkbafdjkgnoaaDoor
open Go.RowKit

/-- rows of these slots' cells from an address on. -/
theorem slCs_add (T : Tb) (s : Nat) : ∀ L : List Nat, slCs T (L ++ [s]) = slCs T L ++ slC T s
  | [] => by simp [slCs]
  | r :: L => by rw [List.cons_append, slCs, slCs, slCs_add T s L, List.append_assoc]
/-- a slice that owns the rows of these slots. -/
def OwnL (w : World) (base : Nat) (v : Value) (T : Tb) (L : List Nat) : Prop := w.ownsRow base 59 10 v L.length (slCs T L)
def RowL (w : World) (p : Option Addr) (T : Tb) (L : List Nat) : Prop := ∀ j s : Nat, L[j]? = some s → ∃ g, p = some ⟨g, 0, none⟩ ∧ ∀ k, k < 10 → w.cell? ⟨g, j * 10 + k, none⟩ = some (.int .i64 ((T s).get s k))
theorem OwnL.open {w : World} {base : Nat} {v : Value} {T : Tb} {L : List Nat} (h : OwnL w base v T L) : ∃ p cap, v = .slice p L.length cap ∧ RowL w p T L ∧ ∀ g, v.ownBlock = some g → base ≤ g := by
  have hlt : ∀ g, v.ownBlock = some g → base ≤ g := fun g hg => (World.ownsRow.lt h g hg).1
  obtain ⟨_, h2⟩ := h
  rcases h2 with ⟨rfl, h0⟩ | ⟨g, cap, cur, rfl, hg, hh, _, _, _, ht⟩
  · have : L = [] := List.length_eq_zero_iff.1 h0
    subst this
    exact ⟨none, 0, rfl, fun j s h => by simp at h, hlt⟩
  · refine ⟨_, cap, rfl, fun j s hj => ⟨g, rfl, fun k hk => ?_⟩, hlt⟩
    have hjl := (List.getElem?_eq_some_iff.1 hj).1
    have := slCs_at T L j s k hj hk
    rw [← ht, List.getElem?_take, if_pos (by omega), Array.getElem?_toList] at this
    rw [cell_of_row w g _ _ _ _ hh]
    exact this
theorem OwnL.below {w w' : World} {base : Nat} {v : Value} {T : Tb} {L : List Nat} (h : OwnL w base v T L) (hb : Below w.heap.size w w') : OwnL w' base v T L := by
  have hlt := fun g hg => (World.ownsRow.lt h g hg).2
  obtain ⟨h1, h2⟩ := h
  refine ⟨h1, ?_⟩
  rcases h2 with h2 | ⟨g, cap, cur, rfl, hg, hh, a, b, c, d⟩
  · exact .inl h2
  · exact .inr ⟨g, cap, cur, rfl, hg, by rw [hb.block g (hlt g rfl)]; exact hh, a, b, c, d⟩
theorem OwnL.chg {w w' : World} {base x : Nat} {v : Value} {T : Tb} {L : List Nat} (h : OwnL w base v T L) (hb : Chg x w w') (hx : x < base) : OwnL w' base v T L := by
  have hlt := fun g hg => (World.ownsRow.lt h g hg).2
  obtain ⟨h1, h2⟩ := h
  refine ⟨h1, ?_⟩
  rcases h2 with h2 | ⟨g, cap, cur, rfl, hg, hh, a, b, c, d⟩
  · exact .inl h2
  · exact .inr ⟨g, cap, cur, rfl, hg, by rw [hb.block g (hlt g rfl) (by omega)]; exact hh, a, b, c, d⟩
def takArr (L : List Nat) : Array Value := ((List.range 32).map fun k => .bool (decide (k ∈ L))).toArray
theorem takArr_size (L : List Nat) : (takArr L).size = 32 := by simp [takArr]
theorem takArr_at (L : List Nat) (k : Nat) (hk : k < 32) : (takArr L)[k]? = some (.bool (decide (k ∈ L))) := by
  simp only [takArr, List.getElem?_toArray, List.getElem?_map, List.getElem?_range hk, Option.map_some]
theorem takArr_put (L : List Nat) (s : Nat) (hs : s < 32) : (takArr L).setIfInBounds s (.bool true) = takArr (L ++ [s]) := by
  apply Array.ext_getElem?
  intro j
  rw [Array.getElem?_setIfInBounds, takArr_size]
  by_cases hj : j < 32
  · rw [takArr_at _ j hj, takArr_at _ j hj]
    by_cases e : s = j
    · subst e; rw [if_pos rfl, if_pos hj]; simp
    · rw [if_neg e]
      have : (j ∈ L ++ [s]) ↔ j ∈ L := by simp; intro h; exact (e h.symm).elim
      rw [decide_eq_decide.2 this]
  · rw [if_neg (by omega), Array.getElem?_eq_none (by rw [takArr_size]; omega), Array.getElem?_eq_none (by rw [takArr_size]; omega)]
/-- which slots are taken, in memory. -/
def TakA (w : World) (q : Nat) (L : List Nat) : Prop := ∃ ty, w.heap[q]? = some (.cells (takArr L) ty (0, 0))
theorem TakA.at' {w : World} {q : Nat} {L : List Nat} (a : TakA w q L) {k : Nat} (hk : k < 32) : w.cell? ⟨q, k, none⟩ = some (.bool (decide (k ∈ L))) := by
  obtain ⟨ty, e⟩ := a
  rw [cell_of_row w q _ _ _ _ e, takArr_at L k hk]
theorem TakA.fr {w : World} {q : Nat} {L : List Nat} (a : TakA w q L) (j : Nat) : w.frozen? ⟨q, j, none⟩ = false := by
  obtain ⟨ty, e⟩ := a
  exact frozen_of_row w q j _ _ e
theorem TakA.lt {w : World} {q : Nat} {L : List Nat} (a : TakA w q L) : q < w.heap.size := tlt (a.at' (k := 0) (by omega))
theorem TakA.chg {w w' : World} {q b : Nat} {L : List Nat} (a : TakA w q L) (hb : Chg b w w') (hn : q ≠ b) : TakA w' q L := by
  have hl := a.lt
  obtain ⟨ty, e⟩ := a
  exact ⟨ty, by rw [hb.block q hl hn]; exact e⟩
theorem TakA.below {w w' : World} {q : Nat} {L : List Nat} (a : TakA w q L) (hb : Below w.heap.size w w') : TakA w' q L := by
  have hl := a.lt
  obtain ⟨ty, e⟩ := a
  exact ⟨ty, by rw [hb.block q hl]; exact e⟩
theorem TakA.grown {w w' : World} {q : Nat} {L : List Nat} {o : Option Nat} (a : TakA w q L) (hb : w.grownBy w' o) (hn : some q ≠ o) : TakA w' q L := by
  have hl := a.lt
  obtain ⟨ty, e⟩ := a
  exact ⟨ty, by rw [hb.block q hl hn]; exact e⟩
theorem TakA.put {w : World} {q : Nat} {L : List Nat} (a : TakA w q L) {s : Nat} (hs : s < 32) : TakA (w.setCell ⟨q, s, none⟩ (.bool true)) q (L ++ [s]) := by
  obtain ⟨ty, e⟩ := a
  exact ⟨ty, by rw [heap_setCell_same w q _ _ _ _ e, takArr_put L s hs]⟩
theorem Tryd.infoBool : (Tryd.prog.info? 4).map (fun i => (i.zero, i.size, i.bytes)) = some (some (.bool false), 1, 1) := by kernel_rfl
theorem make_bools (w : World) : (Instr.makeSlice 87 (.int .i64 32) (.int .i64 32)).run Tryd.prog w = .ok (.slice (some ⟨w.heap.size, 0, none⟩) 32 32) (w.alloc (.cells (takArr []) 4)) := by
  obtain ⟨i0, hi, hz0, hz1, hz2⟩ := info_parts Tryd.infoBool
  have h := run_makeSlice (P := Tryd.prog) w 87 4 i0 (.bool false) Tryd.underlying87 hi hz0 .i64 .i64 32 32 (by omega) (by omega) (by rw [hz1]; decide) (by rw [hz2]; decide) (by omega)
  rw [hz1] at h
  have e : madeCells (Value.cells (.bool false)) (Int.toNat 32 * 1) = takArr [] := by kernel_rfl
  rw [e] at h
  exact h
/-- how the document's Next stands: the batch so far, the cursor. -/
structure Rn (w W : World) (y m h g cap q : Nat) (low : Int) (T : Tb) (D : To) (L : List Nat) (c : Nat) (v : Value) : Prop where
  t : RTab W m g cap low T
  r : RTel W y m h D c
  k : TakA W q L
  o : OwnL W (w.heap.size + 1) v T L
  x : Chg2 y h w W
  eq : q = w.heap.size
  ym : y < w.heap.size ∧ m < w.heap.size ∧ h < w.heap.size ∧ g < w.heap.size
  ne : m ≠ y ∧ m ≠ h ∧ g ≠ y ∧ g ≠ h
theorem Rn.below {w W W' : World} {y m h g cap q : Nat} {low : Int} {T : Tb} {D : To} {L : List Nat} {c : Nat} {v : Value} (f : Rn w W y m h g cap q low T D L c v) (hb : Below W.heap.size W W') : Rn w W' y m h g cap q low T D L c v :=
  ⟨f.t.below hb, f.r.below hb, f.k.below hb, f.o.below hb, f.x.then hb, f.eq, f.ym, f.ne⟩
/-- a row was appended. -/
theorem Rn.grown {w W W' : World} {y m h g cap q : Nat} {low : Int} {T : Tb} {D : To} {L L' : List Nat} {c : Nat} {v v' : Value} (f : Rn w W y m h g cap q low T D L c v) (hg : W.grownBy W' v.ownBlock) (ho : OwnL W' (w.heap.size + 1) v' T L') :
    RTab W' m g cap low T ∧ RTel W' y m h D c ∧ TakA W' q L ∧ OwnL W' (w.heap.size + 1) v' T L' ∧ Chg2 y h w W' := by
  have hlt : ∀ x, v.ownBlock = some x → w.heap.size + 1 ≤ x := fun x hx => (World.ownsRow.lt f.o x hx).1
  have hym := f.ym
  have heq := f.eq
  cases hv : v.ownBlock with
  | none =>
    rw [hv] at hg
    have hb : Below W.heap.size W W' := ⟨hg.os, hg.tape, hg.output, hg.size, fun k hk => hg.block k hk (by simp)⟩
    exact ⟨f.t.below hb, f.r.below hb, f.k.below hb, ho, f.x.then hb⟩
  | some z =>
    rw [hv] at hg
    have hz := hlt z hv
    have hc := chg_grown hg
    exact ⟨f.t.chg hc (by omega) (by omega), f.r.chg hc (by omega) (by omega), f.k.chg hc (by omega), ho, f.x.on hc (.inr (.inr (by omega)))⟩
theorem Rn.taken {w W : World} {y m h g cap q : Nat} {low : Int} {T : Tb} {D : To} {L L' : List Nat} {c : Nat} {v : Value} (t : RTab W m g cap low T) (r : RTel W y m h D c) (k : TakA W q L) (o : OwnL W (w.heap.size + 1) v T L') (x : Chg2 y h w W) (eq : q = w.heap.size) (ym : y < w.heap.size ∧ m < w.heap.size ∧ h < w.heap.size ∧ g < w.heap.size) (ne : m ≠ y ∧ m ≠ h ∧ g ≠ y ∧ g ≠ h) {s : Nat} (hs : s < 32) (e : L' = L ++ [s]) :
    Rn w (W.setCell ⟨q, s, none⟩ (.bool true)) y m h g cap q low T D L' c v := by
  have hc := Chg.set q s W (.bool true)
  subst e
  exact ⟨t.chg hc (by omega) (by omega), r.chg hc (by omega) (by omega), k.put hs, o.chg hc (by omega), x.on hc (.inr (.inr (by omega))), eq, ym, ne⟩
theorem Rn.cur {w W : World} {y m h g cap q : Nat} {low : Int} {T : Tb} {D : To} {L : List Nat} {c : Nat} {v : Value} (f : Rn w W y m h g cap q low T D L c v) {c' : Nat} (hc' : c' ≤ 32) : Rn w (W.setCell ⟨y, 2, none⟩ (.int .i64 c')) y m h g cap q low T D L c' v := by
  have hc := Chg.set y 2 W (.int .i64 c')
  have hym := f.ym
  have heq := f.eq
  exact ⟨f.t.chg hc f.ne.1 f.ne.2.2.1, f.r.cur hc', f.k.chg hc (by omega), f.o.chg hc (by omega), f.x.on hc (.inl rfl), f.eq, f.ym, f.ne⟩
theorem Rn.told {w W : World} {y m h g cap q : Nat} {low : Int} {T : Tb} {D : To} {L : List Nat} {c : Nat} {v : Value} (f : Rn w W y m h g cap q low T D L c v) {s : Nat} (hs : s < 32) (x : Int) : Rn w (W.setCell ⟨h, s, none⟩ (.int .i64 x)) y m h g cap q low T (fun k => if k = s then x else D k) L c v := by
  have hc := Chg.set h s W (.int .i64 x)
  have hym := f.ym
  have heq := f.eq
  exact ⟨f.t.chg hc f.ne.2.1 f.ne.2.2.2, f.r.put x hs, f.k.chg hc (by omega), f.o.chg hc (by omega), f.x.on hc (.inr (.inl rfl)), f.eq, f.ym, f.ne⟩
end Go.Proofs.YtifkbafdjkgnoaaDoor
