/-
  The document's teller: what was told in a list; NewTeller, Lag.
-/
import Derived.Test.YtifkbafdjkgnoaaDoorTeM
import Derived.Test.YtifkbafdjkgnoaaDoorTrA
import Derived.Test.YtifkbafdjkgnoaaDoorGeD
import Derived.Laws.MakeOwn
namespace Go.Proofs.YtifkbafdjkgnoaaDoor
open Go.RowKit

def toldArr (D : To) : Array Value := ((List.range 32).map fun k => .int .i64 (D k)).toArray
theorem toldArr_size (D : To) : (toldArr D).size = 32 := by simp [toldArr]
theorem toldArr_at (D : To) (k : Nat) (hk : k < 32) : (toldArr D)[k]? = some (.int .i64 (D k)) := by
  simp only [toldArr, List.getElem?_toArray, List.getElem?_map, List.getElem?_range hk, Option.map_some]
theorem toldArr_put (D : To) (s : Nat) (v : Int) (hs : s < 32) : (toldArr D).setIfInBounds s (.int .i64 v) = toldArr (fun k => if k = s then v else D k) := by
  apply Array.ext_getElem?
  intro j
  rw [Array.getElem?_setIfInBounds, toldArr_size]
  by_cases hj : j < 32
  · rw [toldArr_at _ j hj, toldArr_at _ j hj]
    by_cases e : s = j
    · subst e; rw [if_pos rfl, if_pos hj]; simp
    · rw [if_neg e]
      simp only [if_neg (fun e' : j = s => e e'.symm)]
  · rw [if_neg (by omega), Array.getElem?_eq_none (by rw [toldArr_size]; omega), Array.getElem?_eq_none (by rw [toldArr_size]; omega)]
/-- what was told, in memory. -/
def ToA (w : World) (h : Nat) (D : To) : Prop := ∃ ty, w.heap[h]? = some (.cells (toldArr D) ty (0, 0))
theorem ToA.at' {w : World} {h : Nat} {D : To} (a : ToA w h D) {k : Nat} (hk : k < 32) : w.cell? ⟨h, k, none⟩ = some (.int .i64 (D k)) := by
  obtain ⟨ty, e⟩ := a
  rw [cell_of_row w h _ _ _ _ e, toldArr_at D k hk]
theorem ToA.fr {w : World} {h : Nat} {D : To} (a : ToA w h D) (j : Nat) : w.frozen? ⟨h, j, none⟩ = false := by
  obtain ⟨ty, e⟩ := a
  exact frozen_of_row w h j _ _ e
theorem ToA.lt {w : World} {h : Nat} {D : To} (a : ToA w h D) : h < w.heap.size := tlt (a.at' (k := 0) (by omega))
theorem ToA.below {w w' : World} {h : Nat} {D : To} (a : ToA w h D) (hb : Below w.heap.size w w') : ToA w' h D := by
  have hl := a.lt
  obtain ⟨ty, e⟩ := a
  exact ⟨ty, by rw [hb.block h hl]; exact e⟩
theorem ToA.chg {w w' : World} {h b : Nat} {D : To} (a : ToA w h D) (hb : Chg b w w') (hn : h ≠ b) : ToA w' h D := by
  have hl := a.lt
  obtain ⟨ty, e⟩ := a
  exact ⟨ty, by rw [hb.block h hl hn]; exact e⟩
theorem ToA.put {w : World} {h : Nat} {D : To} (a : ToA w h D) {s : Nat} (v : Int) (hs : s < 32) : ToA (w.setCell ⟨h, s, none⟩ (.int .i64 v)) h (fun k => if k = s then v else D k) := by
  obtain ⟨ty, e⟩ := a
  exact ⟨ty, by rw [heap_setCell_same w h _ _ _ _ e, toldArr_put D s v hs]⟩
/-- the document's teller in memory. -/
structure RTel (w : World) (y m h : Nat) (D : To) (c : Nat) : Prop where
  c0 : w.cell? ⟨y, 0, none⟩ = some (.pointer (some ⟨m, 0, none⟩))
  c1 : w.cell? ⟨y, 1, none⟩ = some (.slice (some ⟨h, 0, none⟩) 32 32)
  c2 : w.cell? ⟨y, 2, none⟩ = some (.int .i64 c)
  f2 : w.frozen? ⟨y, 2, none⟩ = false
  a : ToA w h D
  ne : y ≠ h
  lt : c ≤ 32
theorem RTel.below {w w' : World} {y m h : Nat} {D : To} {c : Nat} (t : RTel w y m h D c) (hb : Below w.heap.size w w') : RTel w' y m h D c :=
  ⟨tk hb t.c0, tk hb t.c1, tk hb t.c2, (frozen_of_block (hb.block y (tlt t.c0))).trans t.f2, t.a.below hb, t.ne, t.lt⟩
theorem RTel.chg {w w' : World} {y m h b : Nat} {D : To} {c : Nat} (t : RTel w y m h D c) (hb : Chg b w w') (h1 : y ≠ b) (h2 : h ≠ b) : RTel w' y m h D c :=
  ⟨hb.keeps h1 t.c0, hb.keeps h1 t.c1, hb.keeps h1 t.c2, (frozen_of_block (hb.block y (tlt t.c0) h1)).trans t.f2, t.a.chg hb h2, t.ne, t.lt⟩
theorem RTel.cur {w : World} {y m h : Nat} {D : To} {c : Nat} (t : RTel w y m h D c) {c' : Nat} (hc : c' ≤ 32) : RTel (w.setCell ⟨y, 2, none⟩ (.int .i64 c')) y m h D c' where
  c0 := by rw [World.cell?_setCell_other _ _ _ _ (by simp)]; exact t.c0
  c1 := by rw [World.cell?_setCell_other _ _ _ _ (by simp)]; exact t.c1
  c2 := World.cell?_setCell_same' w _ _ (by rw [t.c2]; rfl)
  f2 := (World.frozen?_setCell _ _ _ _).trans t.f2
  a := t.a.chg (Chg.set y 2 w _) (fun e => t.ne e.symm)
  ne := t.ne
  lt := hc
theorem RTel.put {w : World} {y m h : Nat} {D : To} {c : Nat} (t : RTel w y m h D c) {s : Nat} (v : Int) (hs : s < 32) : RTel (w.setCell ⟨h, s, none⟩ (.int .i64 v)) y m h (fun k => if k = s then v else D k) c :=
  have hc := Chg.set h s w (.int .i64 v)
  ⟨hc.keeps t.ne t.c0, hc.keeps t.ne t.c1, hc.keeps t.ne t.c2, (frozen_of_block (hc.block y (tlt t.c0) t.ne)).trans t.f2, t.a.put v hs, t.ne, t.lt⟩
theorem told_zero : Array.replicate 32 (.int .i64 0) = toldArr (fun _ => 0) := by
  apply Array.ext_getElem?
  intro j
  by_cases hj : j < 32
  · rw [toldArr_at _ j hj, Array.getElem?_replicate, if_pos hj]
  · rw [Array.getElem?_eq_none (by simp; omega), Array.getElem?_eq_none (by rw [toldArr_size]; omega)]
theorem Tryd.infoInt : (Tryd.prog.info? 3).map (fun i => (i.zero, i.size, i.bytes)) = some (some (.int .i64 0), 1, 8) := by kernel_rfl
theorem make_ints (w : World) : (Instr.makeSlice 81 (.int .i64 32) (.int .i64 32)).run Tryd.prog w = .ok (.slice (some ⟨w.heap.size, 0, none⟩) 32 32) (w.alloc (.cells (toldArr fun _ => 0) 3)) := by
  obtain ⟨i0, hi, hz0, hz1, hz2⟩ := info_parts Tryd.infoInt
  have h := run_makeSlice (P := Tryd.prog) w 81 3 i0 (.int .i64 0) Tryd.underlying81 hi hz0 .i64 .i64 32 32 (by omega) (by omega) (by rw [hz1]; decide) (by rw [hz2]; decide) (by omega)
  rw [hz1] at h
  have e : madeCells (Value.cells (.int .i64 0)) (Int.toNat 32 * 1) = toldArr fun _ => 0 := by kernel_rfl
  rw [e] at h
  exact h
set_option maxRecDepth 100000 in
set_option maxHeartbeats 2000000 in
theorem rnew_any (m : Nat) (w : World) :
    Calls Tryd.prog 20 #[.pointer (some ⟨m, 0, none⟩)] w fun e w' => (∃ y h, e = .returned (.pointer (some ⟨y, 0, none⟩)) ∧ w.heap.size ≤ y ∧ w.heap.size ≤ h ∧ RTel w' y m h (fun _ => 0) 0) ∧ Below w.heap.size w w' := by
  have hmk := make_ints w
  go_enter Tryd.func20, Tryd.ntmps20
  go_wp2_with fail
  go_ret
  have hz : (w.alloc (.cells (toldArr fun _ => 0) 3)).heap.size = w.heap.size + 1 := by simp
  have n1 := nw (w.alloc (.cells (toldArr fun _ => 0) 3)) #[.pointer (some ⟨m, 0, none⟩), .slice (some ⟨w.heap.size, 0, none⟩) 32 32, .int .i64 0] 83
  rw [hz] at n1
  refine ⟨⟨w.heap.size + 1, w.heap.size, rfl, by omega, by omega, ⟨(n1 0).trans rfl, (n1 1).trans rfl, (n1 2).trans rfl, ?_, ToA.below ⟨_, heap_alloc_new w _⟩ (aB _ _), by omega, by omega⟩⟩, t2 (aB _ _) (aB _ _)⟩
  rw [← hz]
  exact frozen_of_row _ _ _ _ _ (heap_alloc_new _ _)
end Go.Proofs.YtifkbafdjkgnoaaDoor
