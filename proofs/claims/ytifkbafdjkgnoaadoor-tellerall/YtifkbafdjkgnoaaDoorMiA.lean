/-
  A mirror in memory: one block of 321 cells: its life, its slots; slots laid whole; cells that are told, in memory.
-/
import Derived.Test.YtifkbafdjkgnoaaDoorMiM
import Derived.Test.YtifkbafdjkgnoaaDoorGeB
import Derived.Laws.CopyRow
namespace Go.Proofs.YtifkbafdjkgnoaaDoor
open Go.RowKit

def Mir (w : World) (b : Nat) (life : Int) (T : Tb) : Prop := w.heap[b]? = some (.cells (tabArr life T) 68 (0, 0))
theorem Mir.life {w : World} {b : Nat} {life : Int} {T : Tb} (h : Mir w b life T) : w.cell? ⟨b, 0, none⟩ = some (.int .i64 life) := by
  rw [cell_of_row w b 0 _ _ _ h, tabArr_low]
theorem Mir.at' {w : World} {b : Nat} {life : Int} {T : Tb} (h : Mir w b life T) {i k : Nat} (hi : i < 32) (hk : k < 10) : w.cell? ⟨b, 1 + i * 10 + k, none⟩ = some (.int .i64 ((T i).get i k)) := by
  rw [cell_of_row w b _ _ _ _ h, tabArr_at life T i k hi hk]
theorem Mir.fr {w : World} {b : Nat} {life : Int} {T : Tb} (h : Mir w b life T) (j : Nat) : w.frozen? ⟨b, j, none⟩ = false := frozen_of_row w b j _ _ h
theorem Mir.lt {w : World} {b : Nat} {life : Int} {T : Tb} (h : Mir w b life T) : b < w.heap.size := by
  rcases Nat.lt_or_ge b w.heap.size with h1 | h1
  · exact h1
  · rw [Mir, Array.getElem?_eq_none h1] at h; cases h
theorem Mir.below {w w' : World} {b : Nat} {life : Int} {T : Tb} (h : Mir w b life T) (hb : Below w.heap.size w w') : Mir w' b life T := by
  unfold Mir; rw [hb.block b h.lt]; exact h
theorem Mir.chg {b c : Nat} {life : Int} {T : Tb} {w w' : World} (h : Mir w c life T) (k : Chg b w w') (hn : c ≠ b) : Mir w' c life T := by
  unfold Mir; rw [k.block c h.lt hn]; exact h
theorem Mir.put {w : World} {b : Nat} {life : Int} {T : Tb} (h : Mir w b life T) {i k : Nat} (x : Int) (hi : i < 32) (h1 : 1 ≤ k) (hk : k < 10) : Mir (w.setCell ⟨b, 1 + i * 10 + k, none⟩ (.int .i64 x)) b life (upd T i ((T i).put x k)) := by
  unfold Mir; rw [heap_setCell_same w b _ _ _ _ h, tabArr_put life T i k x hi h1 hk]
theorem tabArr_life (life x : Int) (T : Tb) : (tabArr life T).setIfInBounds 0 (.int .i64 x) = tabArr x T := by
  apply Array.ext_getElem?
  intro j
  rw [Array.getElem?_setIfInBounds, tabArr_size]
  by_cases hj : j < 321
  · by_cases h0 : j = 0
    · subst h0; rw [if_pos rfl, if_pos (by omega), tabArr_low]
    · rw [if_neg (by omega)]
      simp only [tabArr, List.getElem?_toArray, List.getElem?_map, List.getElem?_range hj, Option.map_some, if_neg h0]
  · rw [if_neg (by omega), Array.getElem?_eq_none (by rw [tabArr_size]; omega), Array.getElem?_eq_none (by rw [tabArr_size]; omega)]
theorem tabArr_slot (life : Int) (T : Tb) (i : Nat) (hi : i < 32) : (tabArr life T).setIfInBounds (1 + i * 10) (.int .i64 i) = tabArr life T := by
  apply Array.ext_getElem?
  intro j
  rw [Array.getElem?_setIfInBounds, tabArr_size]
  by_cases e : 1 + i * 10 = j
  · subst e
    have := tabArr_at life T i 0 hi (by omega)
    rw [if_pos rfl, if_pos (by omega)]
    exact this.symm
  · rw [if_neg e]
theorem Mir.putLife {w : World} {b : Nat} {life : Int} {T : Tb} (h : Mir w b life T) (x : Int) : Mir (w.setCell ⟨b, 0, none⟩ (.int .i64 x)) b x T := by
  unfold Mir; rw [heap_setCell_same w b _ _ _ _ h, tabArr_life]
theorem Mir.putSlot {w : World} {b : Nat} {life : Int} {T : Tb} (h : Mir w b life T) {i : Nat} (hi : i < 32) : Mir (w.setCell ⟨b, 1 + i * 10, none⟩ (.int .i64 i)) b life T := by
  unfold Mir; rw [heap_setCell_same w b _ _ _ _ h, tabArr_slot _ _ _ hi]
theorem mir_load {w : World} {b : Nat} {life : Int} {T : Tb} (h : Mir w b life T) : (Instr.loadAt 60 (.pointer (some ⟨b, 1, none⟩))).run Tryd.prog w = .ok (.agg (slotsArr T)) w := by
  have hl : (loadCells ⟨b, 1, none⟩ (slotsArr T).toList.length).run Tryd.prog w = .ok (slotsArr T).toList.toArray w :=
    run_loadCells_list (P := Tryd.prog) w ⟨b, 1, none⟩ (slotsArr T).toList (fun j v hv => by
      have hj : j < 320 := by
        have := (List.getElem?_eq_some_iff.1 hv).1
        rwa [Array.length_toList, slotsArr_size] at this
      rw [tadd, cell_of_row w b _ _ _ _ h, tabArr_slots life T j hj]
      simpa using hv)
  simp only [Array.length_toList, Array.toArray_toList, slotsArr_size] at hl
  have hagg : (isAgg 60).run Tryd.prog w = .ok true w := by
    unfold isAgg
    rw [Sem.run_bind, run_underlying Tryd.underlying60 w]
    rfl
  have hs : (sizeOf 60).run Tryd.prog w = .ok 320 w := by kernel_rfl
  simp only [Instr.loadAt, Instr.sureAddr, Sem.run_bind, Sem.run_pure, Result.andThen_ok, loadVar, hagg, hs, hl, if_true]
/-- slots laid whole into a block of 321 cells. -/
theorem lay_arr (cur : Array Value) (life : Int) (U : Tb) (h0 : cur[0]? = some (.int .i64 life)) (hs : cur.size = 321) : (cur.toList.take (1 + 0) ++ (slotsArr U).toList ++ cur.toList.drop (1 + 0 + (slotsArr U).toList.length)).toArray = tabArr life U := by
  apply Array.ext_getElem?
  intro j
  have hl : (slotsArr U).toList.length = 320 := by rw [Array.length_toList, slotsArr_size]
  have ht : (cur.toList.take (1 + 0)).length = 1 := by rw [List.length_take, Array.length_toList]; omega
  rw [List.getElem?_toArray]
  by_cases hj : j < 321
  · rw [List.getElem?_append_left (by rw [List.length_append, ht, hl]; omega)]
    by_cases hz : j = 0
    · subst hz
      rw [List.getElem?_append_left (by rw [ht]; omega), List.getElem?_take, if_pos (by omega), Array.getElem?_toList, h0, tabArr_low]
    · rw [List.getElem?_append_right (by rw [ht]; omega), ht, Array.getElem?_toList, ← tabArr_slots life U _ (by omega), show 1 + (j - 1) = j from by omega]
  · rw [Array.getElem?_eq_none (by rw [tabArr_size]; omega)]
    apply List.getElem?_eq_none
    rw [List.length_append, List.length_append, ht, hl, List.length_drop, Array.length_toList]
    omega
theorem mir_store {w : World} {b : Nat} {life : Int} {cur : Array Value} (U : Tb) (h : w.heap[b]? = some (.cells cur 68 (0, 0))) (h0 : cur[0]? = some (.int .i64 life)) (hsz : cur.size = 321) :
    (Instr.storeAt 60 (.pointer (some ⟨b, 1, none⟩)) (.agg (slotsArr U))).run Tryd.prog w = .ok () (w.setRow b (tabArr life U)) := by
  have hs : (sizeOf 60).run Tryd.prog w = .ok 320 w := by kernel_rfl
  have h1 := run_storeCells_at Tryd.prog b 1 68 (slotsArr U).toList 0 cur w h (by rw [Array.length_toList, slotsArr_size]; omega) (fun v hv => (Array.all_eq_true_iff_forall_mem.1 (slots_one U)) v (by simpa using hv))
  rw [lay_arr cur life U h0 hsz] at h1
  simp only [Instr.storeAt, Instr.sureAddr, Sem.run_bind, Sem.run_pure, Result.andThen_ok, storeVar, hs, Value.cells, slotsArr_size]
  simp
  exact h1
theorem setRow_mir {w : World} {b : Nat} {life : Int} {cur : Array Value} {t : TypeId} (U : Tb) (h : w.heap[b]? = some (.cells cur t (0, 0))) : (w.setRow b (tabArr life U)).heap[b]? = some (.cells (tabArr life U) t (0, 0)) := setRow_heap w b cur _ t _ h
theorem chg_setRow (w : World) (b : Nat) (cs : Array Value) : Chg b w (w.setRow b cs) :=
  ⟨rfl, rfl, rfl, by simp [World.setRow], fun k _ hn => by simp only [World.setRow]; rw [Array.getElem?_modify, if_neg (fun e => hn e.symm)]⟩
theorem wpList_store_at {P : Program} {ops : Array Oper} {rest : List Oper} {o : Oper} {a : Act} {w : World} {Q : Exit → Act → World → Prop} (hgd : o.guard = none) (ty : TypeId) (x y : Operand) (ho : o.op = .store ty x y)
    (u v : Value) (w' : World) (hx : a.eval x = u) (hy : a.eval y = v) (hl : (Instr.storeAt ty u v).run P w = .ok () w') (h : wpList P ops Q rest (a.put o.dst undef) w') : wpList P ops Q (o :: rest) a w :=
  wpList_plain hgd fun K hK => by
    unfold Oper.wp execOp
    simp only [ho, hx, hy, Sem.run_bind, hl, Result.andThen_ok, Sem.run_pure]
    exact hK _ _ h
/-- a told cell at a place. -/
structure TcAt (w : World) (b o : Nat) (x : Tc) : Prop where
  c0 : w.cell? ⟨b, o, none⟩ = some (.int .i64 x.sl)
  c1 : w.cell? ⟨b, o + 1, none⟩ = some (.int .i64 x.c.ve)
  c2 : w.cell? ⟨b, o + 2, none⟩ = some (.int .i64 x.c.pr)
  c3 : w.cell? ⟨b, o + 3, none⟩ = some (.int .i64 x.c.ia)
  c4 : w.cell? ⟨b, o + 4, none⟩ = some (.int .i64 x.c.ip)
  c5 : w.cell? ⟨b, o + 5, none⟩ = some (.int .i64 x.c.fa)
  c6 : w.cell? ⟨b, o + 6, none⟩ = some (.int .i64 x.c.fp)
  c7 : w.cell? ⟨b, o + 7, none⟩ = some (.int .i64 x.c.po)
  c8 : w.cell? ⟨b, o + 8, none⟩ = some (.int .i64 x.c.st)
  c9 : w.cell? ⟨b, o + 9, none⟩ = some (.int .i64 x.c.un)
theorem TcAt.below {w w' : World} {b o : Nat} {x : Tc} (h : TcAt w b o x) (hb : Below w.heap.size w w') : TcAt w' b o x :=
  ⟨tk hb h.c0, tk hb h.c1, tk hb h.c2, tk hb h.c3, tk hb h.c4, tk hb h.c5, tk hb h.c6, tk hb h.c7, tk hb h.c8, tk hb h.c9⟩
theorem TcAt.chg {w w' : World} {b o g : Nat} {x : Tc} (h : TcAt w b o x) (hb : Chg g w w') (hn : b ≠ g) : TcAt w' b o x :=
  ⟨hb.keeps hn h.c0, hb.keeps hn h.c1, hb.keeps hn h.c2, hb.keeps hn h.c3, hb.keeps hn h.c4, hb.keeps hn h.c5, hb.keeps hn h.c6, hb.keeps hn h.c7, hb.keeps hn h.c8, hb.keeps hn h.c9⟩
def tcC (x : Tc) : List Value := [.int .i64 x.sl, .int .i64 x.c.ve, .int .i64 x.c.pr, .int .i64 x.c.ia, .int .i64 x.c.ip, .int .i64 x.c.fa, .int .i64 x.c.fp, .int .i64 x.c.po, .int .i64 x.c.st, .int .i64 x.c.un]
def tcV (x : Tc) : Value := .agg #[.int .i64 x.sl, .int .i64 x.c.ve, .int .i64 x.c.pr, .int .i64 x.c.ia, .int .i64 x.c.ip, .int .i64 x.c.fa, .int .i64 x.c.fp, .int .i64 x.c.po, .int .i64 x.c.st, .int .i64 x.c.un]
theorem tcAt_of {w : World} {b o : Nat} {x : Tc} (h : ∀ k u, k < 10 → (tcC x)[k]? = some u → w.cell? ⟨b, o + k, none⟩ = some u) : TcAt w b o x :=
  ⟨h 0 _ (by omega) rfl, h 1 _ (by omega) rfl, h 2 _ (by omega) rfl, h 3 _ (by omega) rfl, h 4 _ (by omega) rfl, h 5 _ (by omega) rfl, h 6 _ (by omega) rfl, h 7 _ (by omega) rfl, h 8 _ (by omega) rfl, h 9 _ (by omega) rfl⟩
theorem tcAt_new (w : World) (x : Tc) (t : TypeId) : TcAt (w.alloc (.cells #[.int .i64 x.sl, .int .i64 x.c.ve, .int .i64 x.c.pr, .int .i64 x.c.ia, .int .i64 x.c.ip, .int .i64 x.c.fa, .int .i64 x.c.fp, .int .i64 x.c.po, .int .i64 x.c.st, .int .i64 x.c.un] t)) w.heap.size 0 x :=
  ⟨(nw _ _ _ _).trans rfl, (nw _ _ _ _).trans rfl, (nw _ _ _ _).trans rfl, (nw _ _ _ _).trans rfl, (nw _ _ _ _).trans rfl, (nw _ _ _ _).trans rfl, (nw _ _ _ _).trans rfl, (nw _ _ _ _).trans rfl, (nw _ _ _ _).trans rfl, (nw _ _ _ _).trans rfl⟩
/-- told cells from an address on. -/
def TcR (w : World) (p : Option Addr) (l : List Tc) : Prop := ∀ (i : Nat) x, l[i]? = some x → ∃ b o, p = some ⟨b, o, none⟩ ∧ TcAt w b (o + i * 10) x
theorem TcR.below {w w' : World} {p : Option Addr} {l : List Tc} (h : TcR w p l) (hb : Below w.heap.size w w') : TcR w' p l := fun i x hx => by
  obtain ⟨b, o, e, hc⟩ := h i x hx
  exact ⟨b, o, e, hc.below hb⟩
/-- and none of them lies in block g. -/
theorem TcR.chg {w w' : World} {g : Nat} {p : Option Addr} {l : List Tc} (h : TcR w p l) (hb : Chg g w w') (hn : ∀ b o, p = some ⟨b, o, none⟩ → b ≠ g) : TcR w' p l := fun i x hx => by
  obtain ⟨b, o, e, hc⟩ := h i x hx
  exact ⟨b, o, e, hc.chg hb (hn b o e)⟩
end Go.Proofs.YtifkbafdjkgnoaaDoor
