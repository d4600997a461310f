/-
  Texts in one: MiM MiA MiB MiF.
-/
import Derived.Test.YtjfhompbeengmaaDoorKd
import Derived.Laws.CopyRow
import Derived.OwnWalk
namespace Go.Proofs.YtjfhompbeengmaaDoor

/-- a cell that is told: its slot, and what it has. -/
structure Tc where
  sl : Int
  c : Ce
deriving DecidableEq
instance : Inhabited Tc := ⟨⟨0, noC⟩⟩
def okS (x : Tc) : Bool := decide (0 ≤ x.sl) && decide (x.sl < 32)
theorem okS_iff {x : Tc} : okS x = true ↔ 0 ≤ x.sl ∧ x.sl < 32 := by unfold okS; simp
def takeT (T : Tb) (x : Tc) : Tb := if (T x.sl.toNat).ve < x.c.ve then upd T x.sl.toNat x.c else T
def takeL (T : Tb) (l : List Tc) : Tb := l.foldl takeT T
/-- an error's number: 2: bound; 10: old. -/
def tellE (old life : Int) (l : List Tc) : Nat := if life < 1 ∨ 8 < l.length ∨ (l.any fun x => !okS x) = true then 2 else if life < old then 10 else 0
def tellLife (old life : Int) (l : List Tc) : Int := if tellE old life l = 0 then life else old
def tellT (old life : Int) (T : Tb) (l : List Tc) : Tb := if tellE old life l = 0 then takeL (if old < life then newT else T) l else T
/-- what a mirror has of what was told: of each slot the greatest version. -/
def Has (m : List Tc) (T : Tb) : Prop := ∀ j : Nat, (T j = noC ∧ ∀ x ∈ m, okS x = true → x.sl = j → x.c.ve ≤ 0) ∨ ∃ x ∈ m, okS x = true ∧ x.sl = j ∧ T j = x.c ∧ 0 < x.c.ve ∧ ∀ y ∈ m, okS y = true → y.sl = j → y.c.ve ≤ x.c.ve
theorem Has.nil : Has [] newT := fun j => .inl ⟨rfl, fun x hx => by simp at hx⟩
def one (T : Tb) (x : Tc) : Tb := if okS x = true then takeT T x else T
theorem Has.one {m : List Tc} {T : Tb} (h : Has m T) (x : Tc) : Has (m ++ [x]) (one T x) := fun j => by
  have hin : ∀ y, y ∈ m ++ [x] ↔ y ∈ m ∨ y = x := fun y => by simp
  unfold Go.Proofs.YtjfhompbeengmaaDoor.one takeT
  by_cases hok : okS x = true
  · rw [if_pos hok]
    obtain ⟨h0, h1⟩ := okS_iff.1 hok
    by_cases hj : x.sl = j
    · have hn : x.sl.toNat = j := by omega
      rw [hn]
      rcases h j with ⟨e, hle⟩ | ⟨y, hy, hyo, hys, e, hp, hle⟩
      · have e0 : (T j).ve = 0 := by rw [e]; rfl
        by_cases hlt : (T j).ve < x.c.ve
        · rw [if_pos hlt, upd_same]
          refine .inr ⟨x, (hin x).2 (.inr rfl), hok, hj, rfl, by omega, fun z hz hzo hzs => ?_⟩
          rcases (hin z).1 hz with hz | rfl
          · have := hle z hz hzo hzs; omega
          · omega
        · rw [if_neg hlt]
          refine .inl ⟨e, fun z hz hzo hzs => ?_⟩
          rcases (hin z).1 hz with hz | rfl
          · exact hle z hz hzo hzs
          · omega
      · by_cases hlt : (T j).ve < x.c.ve
        · rw [if_pos hlt, upd_same]
          rw [e] at hlt
          refine .inr ⟨x, (hin x).2 (.inr rfl), hok, hj, rfl, by omega, fun z hz hzo hzs => ?_⟩
          rcases (hin z).1 hz with hz | rfl
          · have := hle z hz hzo hzs; omega
          · omega
        · rw [if_neg hlt]
          rw [e] at hlt
          refine .inr ⟨y, (hin y).2 (.inl hy), hyo, hys, e, hp, fun z hz hzo hzs => ?_⟩
          rcases (hin z).1 hz with hz | rfl
          · exact hle z hz hzo hzs
          · omega
    · have hn : j ≠ x.sl.toNat := by omega
      have hT : (if (T x.sl.toNat).ve < x.c.ve then upd T x.sl.toNat x.c else T) j = T j := by
        split
        · exact upd_other _ _ hn
        · rfl
      rw [hT]
      rcases h j with ⟨e, hle⟩ | ⟨y, hy, hyo, hys, e, hp, hle⟩
      · refine .inl ⟨e, fun z hz hzo hzs => ?_⟩
        rcases (hin z).1 hz with hz | rfl
        · exact hle z hz hzo hzs
        · exact (hj hzs).elim
      · refine .inr ⟨y, (hin y).2 (.inl hy), hyo, hys, e, hp, fun z hz hzo hzs => ?_⟩
        rcases (hin z).1 hz with hz | rfl
        · exact hle z hz hzo hzs
        · exact (hj hzs).elim
  · rw [if_neg hok]
    rcases h j with ⟨e, hle⟩ | ⟨y, hy, hyo, hys, e, hp, hle⟩
    · refine .inl ⟨e, fun z hz hzo hzs => ?_⟩
      rcases (hin z).1 hz with hz | rfl
      · exact hle z hz hzo hzs
      · exact (hok hzo).elim
    · refine .inr ⟨y, (hin y).2 (.inl hy), hyo, hys, e, hp, fun z hz hzo hzs => ?_⟩
      rcases (hin z).1 hz with hz | rfl
      · exact hle z hz hzo hzs
      · exact (hok hzo).elim
theorem Has.same {m n : List Tc} {T U : Tb} (h : Has m T) (k : Has n U) (hmn : ∀ x, x ∈ m ↔ x ∈ n) (hd : ∀ x ∈ m, ∀ y ∈ m, x.sl = y.sl → x.c.ve = y.c.ve → x = y) : T = U := by
  funext j
  rcases h j with ⟨e, hle⟩ | ⟨x, hx, hxo, hxs, e, hp, hle⟩
  · rcases k j with ⟨e', _⟩ | ⟨y, hy, hyo, hys, e', hp', _⟩
    · rw [e, e']
    · have := hle y ((hmn y).2 hy) hyo hys; omega
  · rcases k j with ⟨e', hle'⟩ | ⟨y, hy, hyo, hys, e', hp', hle'⟩
    · have := hle' x ((hmn x).1 hx) hxo hxs; omega
    · have h1 := hle y ((hmn y).2 hy) hyo hys
      have h2 := hle' x ((hmn x).1 hx) hxo hxs
      obtain rfl := hd x hx y ((hmn y).2 hy) (by rw [hxs, hys]) (by omega)
      rw [e, e']
/-- of no two of one slot the versions are the same. -/
def TApart (l : List Tc) : Prop := ∀ (i k : Nat) x y, k < i → l[i]? = some x → l[k]? = some y → ¬ (x.sl = y.sl ∧ x.c.ve = y.c.ve)
theorem TApart.mem {l : List Tc} (h : TApart l) : ∀ x ∈ l, ∀ y ∈ l, x.sl = y.sl → x.c.ve = y.c.ve → x = y := fun x hx y hy e1 e2 => by
  obtain ⟨i, hi⟩ := List.getElem?_of_mem hx
  obtain ⟨k, hk⟩ := List.getElem?_of_mem hy
  rcases Nat.lt_trichotomy i k with hlt | rfl | hlt
  · exact (h k i y x hlt hk hi ⟨e1.symm, e2.symm⟩).elim
  · rw [hi] at hk; exact Option.some.inj hk
  · exact (h i k x y hlt hi hk ⟨e1, e2⟩).elim
/-- one cell told to a mirror of life 7, or of none. -/
theorem tell_one (old : Int) (T : Tb) (x : Tc) (h : old = 7 ∨ (old = 0 ∧ T = newT)) : tellT old 7 T [x] = one T x := by
  unfold tellT tellE one takeL
  by_cases hok : okS x = true
  · rw [if_pos hok]
    rcases h with rfl | ⟨rfl, rfl⟩ <;> simp [hok]
  · rw [if_neg hok]
    simp [hok]
theorem tell_life (old : Int) (T : Tb) (x : Tc) (h : old = 7 ∨ (old = 0 ∧ T = newT)) : tellLife old 7 [x] = 7 ∨ (tellLife old 7 [x] = 0 ∧ tellT old 7 T [x] = newT) := by
  by_cases hok : okS x = true
  · left
    unfold tellLife tellE
    rcases h with rfl | ⟨rfl, rfl⟩ <;> simp [hok]
  · have hE : tellE old 7 [x] = 2 := by unfold tellE; simp [hok]
    rcases h with rfl | ⟨rfl, rfl⟩
    · left; unfold tellLife; rw [hE]; rfl
    · right; unfold tellLife tellT; rw [hE]; exact ⟨rfl, rfl⟩
end Go.Proofs.YtjfhompbeengmaaDoor

namespace Go.Proofs.YtjfhompbeengmaaDoor
open Go.RowKit

def Mir (w : World) (b : Nat) (life : Int) (T : Tb) : Prop := w.heap[b]? = some (.cells (tabArr life T) 103 (0, 0))
theorem Mir.life {w : World} {b : Nat} {life : Int} {T : Tb} (h : Mir w b life T) : w.cell? ⟨b, 0, none⟩ = some (.int .i64 life) := by
  rw [cell_of_row w b 0 _ _ _ h, tabArr_low]
theorem Mir.at' {w : World} {b : Nat} {life : Int} {T : Tb} (h : Mir w b life T) {i k : Nat} (hi : i < 32) (hk : k < 10) : w.cell? ⟨b, 1 + i * 10 + k, none⟩ = some (.int .i64 ((T i).get i k)) := by
  rw [cell_of_row w b _ _ _ _ h, tabArr_at life T i k hi hk]
theorem Mir.fr {w : World} {b : Nat} {life : Int} {T : Tb} (h : Mir w b life T) (j : Nat) : w.frozen? ⟨b, j, none⟩ = false := frozen_of_row w b j _ _ h
theorem Mir.lt {w : World} {b : Nat} {life : Int} {T : Tb} (h : Mir w b life T) : b < w.heap.size := by
  rcases Nat.lt_or_ge b w.heap.size with h1 | h1
  · exact h1
  · rw [Mir, Array.getElem?_eq_none h1] at h; cases h
theorem Mir.below {w w' : World} {b : Nat} {life : Int} {T : Tb} (h : Mir w b life T) (hb : Below w.heap.size w w') : Mir w' b life T := by
  unfold Mir; rw [hb.block b h.lt]; exact h
theorem Mir.chg {b c : Nat} {life : Int} {T : Tb} {w w' : World} (h : Mir w c life T) (k : Chg b w w') (hn : c ≠ b) : Mir w' c life T := by
  unfold Mir; rw [k.block c h.lt hn]; exact h
theorem Mir.put {w : World} {b : Nat} {life : Int} {T : Tb} (h : Mir w b life T) {i k : Nat} (x : Int) (hi : i < 32) (h1 : 1 ≤ k) (hk : k < 10) : Mir (w.setCell ⟨b, 1 + i * 10 + k, none⟩ (.int .i64 x)) b life (upd T i ((T i).put x k)) := by
  unfold Mir; rw [heap_setCell_same w b _ _ _ _ h, tabArr_put life T i k x hi h1 hk]
theorem tabArr_life (life x : Int) (T : Tb) : (tabArr life T).setIfInBounds 0 (.int .i64 x) = tabArr x T := by
  apply Array.ext_getElem?
  intro j
  rw [Array.getElem?_setIfInBounds, tabArr_size]
  by_cases hj : j < 321
  · by_cases h0 : j = 0
    · subst h0; rw [if_pos rfl, if_pos (by omega), tabArr_low]
    · rw [if_neg (by omega)]
      simp only [tabArr, List.getElem?_toArray, List.getElem?_map, List.getElem?_range hj, Option.map_some, if_neg h0]
  · rw [if_neg (by omega), Array.getElem?_eq_none (by rw [tabArr_size]; omega), Array.getElem?_eq_none (by rw [tabArr_size]; omega)]
theorem tabArr_slot (life : Int) (T : Tb) (i : Nat) (hi : i < 32) : (tabArr life T).setIfInBounds (1 + i * 10) (.int .i64 i) = tabArr life T := by
  apply Array.ext_getElem?
  intro j
  rw [Array.getElem?_setIfInBounds, tabArr_size]
  by_cases e : 1 + i * 10 = j
  · subst e
    have := tabArr_at life T i 0 hi (by omega)
    rw [if_pos rfl, if_pos (by omega)]
    exact this.symm
  · rw [if_neg e]
theorem Mir.putLife {w : World} {b : Nat} {life : Int} {T : Tb} (h : Mir w b life T) (x : Int) : Mir (w.setCell ⟨b, 0, none⟩ (.int .i64 x)) b x T := by
  unfold Mir; rw [heap_setCell_same w b _ _ _ _ h, tabArr_life]
theorem Mir.putSlot {w : World} {b : Nat} {life : Int} {T : Tb} (h : Mir w b life T) {i : Nat} (hi : i < 32) : Mir (w.setCell ⟨b, 1 + i * 10, none⟩ (.int .i64 i)) b life T := by
  unfold Mir; rw [heap_setCell_same w b _ _ _ _ h, tabArr_slot _ _ _ hi]
theorem mir_load {w : World} {b : Nat} {life : Int} {T : Tb} (h : Mir w b life T) : (Instr.loadAt 87 (.pointer (some ⟨b, 1, none⟩))).run Tryd.prog w = .ok (.agg (slotsArr T)) w := by
  have hl : (loadCells ⟨b, 1, none⟩ (slotsArr T).toList.length).run Tryd.prog w = .ok (slotsArr T).toList.toArray w :=
    run_loadCells_list (P := Tryd.prog) w ⟨b, 1, none⟩ (slotsArr T).toList (fun j v hv => by
      have hj : j < 320 := by
        have := (List.getElem?_eq_some_iff.1 hv).1
        rwa [Array.length_toList, slotsArr_size] at this
      rw [tadd, cell_of_row w b _ _ _ _ h, tabArr_slots life T j hj]
      simpa using hv)
  simp only [Array.length_toList, Array.toArray_toList, slotsArr_size] at hl
  have hagg : (isAgg 87).run Tryd.prog w = .ok true w := by
    unfold isAgg
    rw [Sem.run_bind, run_underlying Tryd.underlying87 w]
    rfl
  have hs : (sizeOf 87).run Tryd.prog w = .ok 320 w := by kernel_rfl
  simp only [Instr.loadAt, Instr.sureAddr, Sem.run_bind, Sem.run_pure, Result.andThen_ok, loadVar, hagg, hs, hl, if_true]
/-- slots laid whole into a block of 321 cells. -/
theorem lay_arr (cur : Array Value) (life : Int) (U : Tb) (h0 : cur[0]? = some (.int .i64 life)) (hs : cur.size = 321) : (cur.toList.take (1 + 0) ++ (slotsArr U).toList ++ cur.toList.drop (1 + 0 + (slotsArr U).toList.length)).toArray = tabArr life U := by
  apply Array.ext_getElem?
  intro j
  have hl : (slotsArr U).toList.length = 320 := by rw [Array.length_toList, slotsArr_size]
  have ht : (cur.toList.take (1 + 0)).length = 1 := by rw [List.length_take, Array.length_toList]; omega
  rw [List.getElem?_toArray]
  by_cases hj : j < 321
  · rw [List.getElem?_append_left (by rw [List.length_append, ht, hl]; omega)]
    by_cases hz : j = 0
    · subst hz
      rw [List.getElem?_append_left (by rw [ht]; omega), List.getElem?_take, if_pos (by omega), Array.getElem?_toList, h0, tabArr_low]
    · rw [List.getElem?_append_right (by rw [ht]; omega), ht, Array.getElem?_toList, ← tabArr_slots life U _ (by omega), show 1 + (j - 1) = j from by omega]
  · rw [Array.getElem?_eq_none (by rw [tabArr_size]; omega)]
    apply List.getElem?_eq_none
    rw [List.length_append, List.length_append, ht, hl, List.length_drop, Array.length_toList]
    omega
theorem mir_store {w : World} {b : Nat} {life : Int} {cur : Array Value} (U : Tb) (h : w.heap[b]? = some (.cells cur 103 (0, 0))) (h0 : cur[0]? = some (.int .i64 life)) (hsz : cur.size = 321) :
    (Instr.storeAt 87 (.pointer (some ⟨b, 1, none⟩)) (.agg (slotsArr U))).run Tryd.prog w = .ok () (w.setRow b (tabArr life U)) := by
  have hs : (sizeOf 87).run Tryd.prog w = .ok 320 w := by kernel_rfl
  have h1 := run_storeCells_at Tryd.prog b 1 103 (slotsArr U).toList 0 cur w h (by rw [Array.length_toList, slotsArr_size]; omega) (fun v hv => (Array.all_eq_true_iff_forall_mem.1 (slots_one U)) v (by simpa using hv))
  rw [lay_arr cur life U h0 hsz] at h1
  simp only [Instr.storeAt, Instr.sureAddr, Sem.run_bind, Sem.run_pure, Result.andThen_ok, storeVar, hs, Value.cells, slotsArr_size]
  simp
  exact h1
theorem setRow_mir {w : World} {b : Nat} {life : Int} {cur : Array Value} {t : TypeId} (U : Tb) (h : w.heap[b]? = some (.cells cur t (0, 0))) : (w.setRow b (tabArr life U)).heap[b]? = some (.cells (tabArr life U) t (0, 0)) := setRow_heap w b cur _ t _ h
theorem chg_setRow (w : World) (b : Nat) (cs : Array Value) : Chg b w (w.setRow b cs) :=
  ⟨rfl, rfl, rfl, by simp [World.setRow], fun k _ hn => by simp only [World.setRow]; rw [Array.getElem?_modify, if_neg (fun e => hn e.symm)]⟩
theorem wpList_store_at {P : Program} {ops : Array Oper} {rest : List Oper} {o : Oper} {a : Act} {w : World} {Q : Exit → Act → World → Prop} (hgd : o.guard = none) (ty : TypeId) (x y : Operand) (ho : o.op = .store ty x y)
    (u v : Value) (w' : World) (hx : a.eval x = u) (hy : a.eval y = v) (hl : (Instr.storeAt ty u v).run P w = .ok () w') (h : wpList P ops Q rest (a.put o.dst undef) w') : wpList P ops Q (o :: rest) a w :=
  wpList_plain hgd fun K hK => by
    unfold Oper.wp execOp
    simp only [ho, hx, hy, Sem.run_bind, hl, Result.andThen_ok, Sem.run_pure]
    exact hK _ _ h
/-- a told cell at a place. -/
structure TcAt (w : World) (b o : Nat) (x : Tc) : Prop where
  c0 : w.cell? ⟨b, o, none⟩ = some (.int .i64 x.sl)
  c1 : w.cell? ⟨b, o + 1, none⟩ = some (.int .i64 x.c.ve)
  c2 : w.cell? ⟨b, o + 2, none⟩ = some (.int .i64 x.c.pr)
  c3 : w.cell? ⟨b, o + 3, none⟩ = some (.int .i64 x.c.ia)
  c4 : w.cell? ⟨b, o + 4, none⟩ = some (.int .i64 x.c.ip)
  c5 : w.cell? ⟨b, o + 5, none⟩ = some (.int .i64 x.c.fa)
  c6 : w.cell? ⟨b, o + 6, none⟩ = some (.int .i64 x.c.fp)
  c7 : w.cell? ⟨b, o + 7, none⟩ = some (.int .i64 x.c.po)
  c8 : w.cell? ⟨b, o + 8, none⟩ = some (.int .i64 x.c.st)
  c9 : w.cell? ⟨b, o + 9, none⟩ = some (.int .i64 x.c.un)
theorem TcAt.below {w w' : World} {b o : Nat} {x : Tc} (h : TcAt w b o x) (hb : Below w.heap.size w w') : TcAt w' b o x :=
  ⟨tk hb h.c0, tk hb h.c1, tk hb h.c2, tk hb h.c3, tk hb h.c4, tk hb h.c5, tk hb h.c6, tk hb h.c7, tk hb h.c8, tk hb h.c9⟩
theorem TcAt.chg {w w' : World} {b o g : Nat} {x : Tc} (h : TcAt w b o x) (hb : Chg g w w') (hn : b ≠ g) : TcAt w' b o x :=
  ⟨hb.keeps hn h.c0, hb.keeps hn h.c1, hb.keeps hn h.c2, hb.keeps hn h.c3, hb.keeps hn h.c4, hb.keeps hn h.c5, hb.keeps hn h.c6, hb.keeps hn h.c7, hb.keeps hn h.c8, hb.keeps hn h.c9⟩
def tcC (x : Tc) : List Value := [.int .i64 x.sl, .int .i64 x.c.ve, .int .i64 x.c.pr, .int .i64 x.c.ia, .int .i64 x.c.ip, .int .i64 x.c.fa, .int .i64 x.c.fp, .int .i64 x.c.po, .int .i64 x.c.st, .int .i64 x.c.un]
def tcV (x : Tc) : Value := .agg #[.int .i64 x.sl, .int .i64 x.c.ve, .int .i64 x.c.pr, .int .i64 x.c.ia, .int .i64 x.c.ip, .int .i64 x.c.fa, .int .i64 x.c.fp, .int .i64 x.c.po, .int .i64 x.c.st, .int .i64 x.c.un]
theorem tcAt_of {w : World} {b o : Nat} {x : Tc} (h : ∀ k u, k < 10 → (tcC x)[k]? = some u → w.cell? ⟨b, o + k, none⟩ = some u) : TcAt w b o x :=
  ⟨h 0 _ (by omega) rfl, h 1 _ (by omega) rfl, h 2 _ (by omega) rfl, h 3 _ (by omega) rfl, h 4 _ (by omega) rfl, h 5 _ (by omega) rfl, h 6 _ (by omega) rfl, h 7 _ (by omega) rfl, h 8 _ (by omega) rfl, h 9 _ (by omega) rfl⟩
theorem tcAt_new (w : World) (x : Tc) (t : TypeId) : TcAt (w.alloc (.cells #[.int .i64 x.sl, .int .i64 x.c.ve, .int .i64 x.c.pr, .int .i64 x.c.ia, .int .i64 x.c.ip, .int .i64 x.c.fa, .int .i64 x.c.fp, .int .i64 x.c.po, .int .i64 x.c.st, .int .i64 x.c.un] t)) w.heap.size 0 x :=
  ⟨(nw _ _ _ _).trans rfl, (nw _ _ _ _).trans rfl, (nw _ _ _ _).trans rfl, (nw _ _ _ _).trans rfl, (nw _ _ _ _).trans rfl, (nw _ _ _ _).trans rfl, (nw _ _ _ _).trans rfl, (nw _ _ _ _).trans rfl, (nw _ _ _ _).trans rfl, (nw _ _ _ _).trans rfl⟩
/-- told cells from an address on. -/
def TcR (w : World) (p : Option Addr) (l : List Tc) : Prop := ∀ (i : Nat) x, l[i]? = some x → ∃ b o, p = some ⟨b, o, none⟩ ∧ TcAt w b (o + i * 10) x
theorem TcR.below {w w' : World} {p : Option Addr} {l : List Tc} (h : TcR w p l) (hb : Below w.heap.size w w') : TcR w' p l := fun i x hx => by
  obtain ⟨b, o, e, hc⟩ := h i x hx
  exact ⟨b, o, e, hc.below hb⟩
/-- and none of them lies in block g. -/
theorem TcR.chg {w w' : World} {g : Nat} {p : Option Addr} {l : List Tc} (h : TcR w p l) (hb : Chg g w w') (hn : ∀ b o, p = some ⟨b, o, none⟩ → b ≠ g) : TcR w' p l := fun i x hx => by
  obtain ⟨b, o, e, hc⟩ := h i x hx
  exact ⟨b, o, e, hc.chg hb (hn b o e)⟩
end Go.Proofs.YtjfhompbeengmaaDoor

namespace Go.Proofs.YtjfhompbeengmaaDoor
open Go.RowKit

/-- slots while they get their numbers. -/
def blkArr (n : Nat) : Array Value := ((List.range 320).map fun j => .int .i64 (if j % 10 = 0 ∧ j / 10 < n then ((j / 10 : Nat) : Int) else 0)).toArray
theorem blkArr_size (n : Nat) : (blkArr n).size = 320 := by simp [blkArr]
theorem blkArr_at (n j : Nat) (h : j < 320) : (blkArr n)[j]? = some (.int .i64 (if j % 10 = 0 ∧ j / 10 < n then ((j / 10 : Nat) : Int) else 0)) := by
  simp only [blkArr, List.getElem?_toArray, List.getElem?_map, List.getElem?_range h, Option.map_some]
theorem blkArr_zero : Array.replicate 320 (.int .i64 0) = blkArr 0 := by
  apply Array.ext_getElem?
  intro j
  by_cases hj : j < 320
  · rw [blkArr_at 0 j hj, if_neg (by omega), Array.getElem?_replicate, if_pos hj]
  · rw [Array.getElem?_eq_none (by rw [Array.size_replicate]; omega), Array.getElem?_eq_none (by rw [blkArr_size]; omega)]
theorem blkArr_next (n : Nat) (hn : n < 32) : (blkArr n).setIfInBounds (n * 10) (.int .i64 n) = blkArr (n + 1) := by
  apply Array.ext_getElem?
  intro j
  rw [Array.getElem?_setIfInBounds, blkArr_size]
  by_cases hj : j < 320
  · rw [blkArr_at n j hj, blkArr_at (n + 1) j hj]
    by_cases he : n * 10 = j
    · subst he
      rw [if_pos rfl, if_pos (by omega), if_pos (by omega)]
      congr 3
      omega
    · rw [if_neg he]
      by_cases hc : j % 10 = 0 ∧ j / 10 < n
      · rw [if_pos hc, if_pos (by omega)]
      · rw [if_neg hc, if_neg (by omega)]
  · rw [if_neg (by omega), Array.getElem?_eq_none (by rw [blkArr_size]; omega), Array.getElem?_eq_none (by rw [blkArr_size]; omega)]
theorem blkArr_all : blkArr 32 = slotsArr newT := by
  apply Array.ext_getElem?
  intro j
  by_cases hj : j < 320
  · rw [blkArr_at 32 j hj]
    have a := slotsArr_at newT (j / 10) (j % 10) (by omega) (by omega)
    rw [show j / 10 * 10 + j % 10 = j from by omega] at a
    rw [a]
    refine congrArg (fun x => some (Value.int .i64 x)) ?_
    have hl : j % 10 = 0 ∨ j % 10 = 1 ∨ j % 10 = 2 ∨ j % 10 = 3 ∨ j % 10 = 4 ∨ j % 10 = 5 ∨ j % 10 = 6 ∨ j % 10 = 7 ∨ j % 10 = 8 ∨ j % 10 = 9 := by omega
    rcases hl with e | e | e | e | e | e | e | e | e | e <;> rw [e]
    · rw [if_pos ⟨rfl, by omega⟩]; rfl
    all_goals (rw [if_neg (by omega)]; rfl)
  · rw [Array.getElem?_eq_none (by rw [blkArr_size]; omega), Array.getElem?_eq_none (by rw [slotsArr_size]; omega)]
def BlkB (w : World) (b : Nat) (n : Nat) : Prop := w.heap[b]? = some (.cells (blkArr n) 87 (0, 0))
theorem BlkB.load {w : World} {b : Nat} (h : BlkB w b 32) : (Instr.loadAt 87 (.pointer (some ⟨b, 0, none⟩))).run Tryd.prog w = .ok (.agg (slotsArr newT)) w := by
  unfold BlkB at h
  rw [blkArr_all] at h
  simp only [Instr.loadAt, Instr.sureAddr, Sem.run_bind, Sem.run_pure, Result.andThen_ok, run_loadVar_row w b _ 87 _ _ _ h Tryd.underlying87 rfl (slots_info newT)]
set_option maxRecDepth 100000 in
set_option maxHeartbeats 2000000 in
theorem blank_any (w : World) : Calls Tryd.prog 39 #[] w fun e w' => e = .returned (.agg (slotsArr newT)) ∧ Below w.heap.size w w' := by
  have hz := zero_slots
  go_enter Tryd.func39, Tryd.ntmps39
  go_wp2_with fail
  have N0 : Hid (BlkB ((w.alloc (.cells (Array.replicate 320 (.int .i64 0)) 87)).alloc (.cells (Array.replicate 320 (.int .i64 0)) 87)) (w.heap.size + 1) 0) := by
    show BlkB _ _ _
    unfold BlkB
    rw [heap_alloc2_new, blkArr_zero]
  have N1 : Hid (((w.alloc (.cells (Array.replicate 320 (.int .i64 0)) 87)).alloc (.cells (Array.replicate 320 (.int .i64 0)) 87)).heap[w.heap.size]? = some (.cells (blkArr 0) 87 (0, 0))) := by
    show _ = _
    rw [heap_alloc_old _ _ (by simp), heap_alloc_new, blkArr_zero]
  have B0 : Hid (Below w.heap.size w ((w.alloc (.cells (Array.replicate 320 (.int .i64 0)) 87)).alloc (.cells (Array.replicate 320 (.int .i64 0)) 87))) := t2 (aB _ _) (aB _ _)
  generalize (w.alloc (.cells (Array.replicate 320 (.int .i64 0)) 87)).alloc (.cells (Array.replicate 320 (.int .i64 0)) 87) = w0 at *
  obtain ⟨Z, hZ⟩ : ∃ Z, Z = w.heap.size := ⟨_, rfl⟩
  have HZ : Hid (Z = w.heap.size) := hZ
  rw [← hZ] at N0 N1 ⊢
  clear hZ hz
  go_loopw [3] (fun t wr => ∃ j : Nat, j ≤ 32 ∧ t = .int .i64 j ∧ BlkB wr (Z + 1) j ∧ wr.heap[Z]? = some (.cells (blkArr 0) 87 (0, 0)) ∧ Below Z w wr) (fun t _ => 32 - (intOf t).toNat)
  case atStart => exact ⟨0, by omega, rfl, N0.out, N1.out, by rw [HZ.out]; exact B0.out⟩
  case round =>
    obtain ⟨j, hj, rfl, hnb, hn1, hbr⟩ := hrel
    have HN : Hid (BlkB wr (Z + 1) j) := hnb
    have H1 : Hid (wr.heap[Z]? = some (.cells (blkArr 0) 87 (0, 0))) := hn1
    have HB : Hid (Below Z w wr) := hbr
    clear hnb hn1 hbr
    by_cases hlt : j < 32
    · have hc : ∃ v, wr.cell? ⟨Z + 1, j * 10, none⟩ = some v := ⟨_, (cell_of_row wr (Z + 1) _ _ _ _ HN.out).trans (blkArr_at _ _ (by omega))⟩
      obtain ⟨v, hc⟩ := hc
      have hz := frozen_of_row wr (Z + 1) (j * 10) _ _ HN.out
      have i0 : (0 : Int) ≤ (j : Int) := by omega
      have i1 : (j : Int) < 32 := by omega
      go_wp2_with fail
      go_roundw
      case rel =>
        refine ⟨j + 1, by omega, by go_num, ?_, ?_, HB.out.setCell (by simp) _⟩
        · unfold BlkB
          rw [heap_setCell_same wr (Z + 1) _ _ _ _ HN.out, blkArr_next _ hlt]
        · rw [Below.heap_setCell _ _ _ _ (by simp)]; exact H1.out
      case measure => simp [intOf]; omega
    · obtain rfl : j = 32 := by omega
      have hld := HN.out.load
      go_wp2_with (first | refine wpList_load_at rfl 87 _ rfl _ _ rfl hld ?_ | refine wpList_store_row rfl 87 _ _ rfl Z (slotsArr newT) rfl rfl 87 _ H1.out (slots_info newT) (by rw [slotsArr_size, blkArr_size]) (slots_one newT) ?_)
      refine bodyPost_ret (results_cell_row rfl _ _ Z _ (slotsArr newT) _ _ rfl (setRow_heap _ _ _ _ _ _ H1.out) Tryd.underlying87 rfl (slots_info newT)) rfl ?_
      refine ⟨rfl, ?_⟩
      rw [← HZ.out]
      exact HB.out.trans ⟨rfl, rfl, rfl, by simp [World.setRow], fun k hk => by simp only [World.setRow]; rw [Array.getElem?_modify, if_neg (by omega)]⟩
theorem wpList_build_at {P : Program} {ops : Array Oper} {rest : List Oper} {o : Oper} {a : Act} {w : World} {Q : Exit → Act → World → Prop} (hg : o.guard = none) (t : TypeId) (parts : Array (Nat × Operand)) (ho : o.op = .build t parts)
    (cs : Array Value) (hf : P.built t (parts.map fun (i, x) => (i, a.eval x)).toList = some cs) (h : wpList P ops Q rest (a.put o.dst (.agg cs)) w) : wpList P ops Q (o :: rest) a w :=
  wpList_build hg t parts ho (by rw [hf]; rfl) (by rw [hf]; exact h)
set_option maxRecDepth 100000 in
theorem built_new : Tryd.prog.built 103 [(1, .agg (slotsArr newT))] = some (tabArr 0 newT) := by kernel_rfl
set_option maxRecDepth 100000 in
set_option maxHeartbeats 2000000 in
theorem mnew_any (w : World) : Calls Tryd.prog 24 #[] w fun e w' => (∃ b, e = .returned (.pointer (some ⟨b, 0, none⟩)) ∧ Mir w' b 0 newT ∧ w.heap.size ≤ b) ∧ Below w.heap.size w w' := by
  go_enter Tryd.func24, Tryd.ntmps24
  go_wp2_with fail
  refine (blank_any _).mono ?_
  rintro e w1 ⟨rfl, hb1⟩
  have B1 : Hid (Below w.heap.size w w1) := hb1
  clear hb1
  obtain ⟨cs, hcs⟩ : ∃ cs, cs = slotsArr newT := ⟨_, rfl⟩
  have HC : Hid (cs = slotsArr newT) := hcs
  have hbu : Tryd.prog.built 103 [(1, .agg cs)] = some (tabArr 0 newT) := by rw [hcs]; exact built_new
  rw [← hcs]
  clear hcs
  rename_i K hK
  refine hK _ _ ?_
  refine wpList_build_at rfl 103 _ rfl (tabArr 0 newT) (by simpa [Act.eval] using hbu) ?_
  clear hK hbu
  have hts := tabArr_size 0 newT
  have HA : Hid (∃ ta, ta = tabArr 0 newT) := ⟨_, rfl⟩
  obtain ⟨ta, hta⟩ := HA.out
  have HT : Hid (ta = tabArr 0 newT) := hta
  rw [← hta] at hts ⊢
  clear hta HA
  go_wp2_with fail
  go_ret
  refine ⟨⟨_, rfl, ?_, B1.out.size⟩, t2 B1.out (aB _ _)⟩
  rw [HT.out]
  exact heap_alloc_new _ _
end Go.Proofs.YtjfhompbeengmaaDoor

namespace Go.Proofs.YtjfhompbeengmaaDoor
open Go.RowKit

/-- the flows of the first n slots. -/
def flL (T : Tb) : Nat → List Ce
  | 0 => []
  | n + 1 => if (T n).pr = 0 then flL T n else flL T n ++ [T n]
theorem flL_len (T : Tb) : ∀ n, (flL T n).length ≤ n
  | 0 => Nat.le_refl _
  | n + 1 => by
    have := flL_len T n
    unfold flL
    split
    · omega
    · simp; omega
theorem flL_no {T : Tb} {n : Nat} (h : (T n).pr = 0) : flL T (n + 1) = flL T n := by rw [flL, if_pos h]
theorem flL_yes {T : Tb} {n : Nat} (h : (T n).pr ≠ 0) : flL T (n + 1) = flL T n ++ [T n] := by rw [flL, if_neg h]
/-- a flow's cells. -/
def flC (c : Ce) : List Value := [.int .i64 c.pr, .int .i64 c.ia, .int .i64 c.ip, .int .i64 c.fa, .int .i64 c.fp, .int .i64 c.po, .int .i64 c.st, .int .i64 c.un]
def flCs : List Ce → List Value
  | [] => []
  | c :: r => flC c ++ flCs r
theorem flCs_add : ∀ (xs : List Ce) (c : Ce), flCs (xs ++ [c]) = flCs xs ++ flC c
  | [], c => by simp [flCs]
  | a :: r, c => by simp [flCs, flCs_add r c]
theorem flCs_len : ∀ (xs : List Ce), (flCs xs).length = xs.length * 8
  | [] => rfl
  | a :: r => by simp [flCs, flCs_len r, flC]; omega
theorem flCs_at : ∀ (xs : List Ce) (i k : Nat) (c : Ce) (u : Value), xs[i]? = some c → (flC c)[k]? = some u → (flCs xs)[i * 8 + k]? = some u
  | [], i, k, c, u, h, _ => by simp at h
  | a :: r, 0, k, c, u, h, hk => by
    simp at h
    subst h
    have : k < (flC a).length := (List.getElem?_eq_some_iff.1 hk).1
    simp only [flCs]
    rw [List.getElem?_append_left (by omega), Nat.zero_mul, Nat.zero_add]
    exact hk
  | a :: r, i + 1, k, c, u, h, hk => by
    have hl : (flC a).length = 8 := rfl
    simp only [flCs]
    rw [List.getElem?_append_right (by omega), hl, show (i + 1) * 8 + k - 8 = i * 8 + k from by omega]
    exact flCs_at r i k c u (by simpa using h) hk
theorem Tryd.infoFlow : (Tryd.prog.info? 77).map (fun i => (i.zero, i.size, i.bytes)) = some (some (.agg #[.int .i64 0, .int .i64 0, .int .i64 0, .int .i64 0, .int .i64 0, .int .i64 0, .int .i64 0, .int .i64 0]), 8, 64) := by kernel_rfl
set_option maxRecDepth 100000 in
set_option maxHeartbeats 4000000 in
theorem mflows_any (b : Nat) (life : Int) (T : Tb) (w : World) (M : Mir w b life T) :
    Calls Tryd.prog 61 #[.pointer (some ⟨b, 0, none⟩)] w fun e w' => (∃ v, e = .returned v ∧ w'.ownsRow w.heap.size 77 8 v (flL T 32).length (flCs (flL T 32))) ∧ Below w.heap.size w w' := by
  obtain ⟨i0, hi, hz0, hz1, hz2⟩ := info_parts Tryd.infoFlow
  have hld := mir_load M
  have hix := fun (i : Nat) (hi : i < 32) (w : World) => arr_index T i hi w
  obtain ⟨ar, har⟩ : ∃ ar, ar = slotsArr T := ⟨_, rfl⟩
  rw [← har] at hld
  have HIX : Hid (∀ (i : Nat), i < 32 → ∀ (w : World), (Instr.index 87 (.agg ar) (.int .i64 i)).run Tryd.prog w = .ok (cellV i (T i)) w) := by
    show ∀ (i : Nat), _
    rw [har]; exact hix
  clear M har hix
  go_enter Tryd.func61, Tryd.ntmps61
  go_wp2_with (refine wpList_load_at rfl 87 _ rfl _ _ rfl hld ?_)
  clear hld
  go_loopw [3, 5, 10] (fun v _ t wr => ∃ j : Nat, j ≤ 32 ∧ t = .int .i64 j ∧ wr.ownsRow w.heap.size 77 8 v (flL T j).length (flCs (flL T j)) ∧ Below w.heap.size w wr) (fun _ _ t _ => 32 - (intOf t).toNat)
  case atStart => exact ⟨0, by omega, rfl, World.ownsRow_nil _ _ _ _, Below.refl _ _⟩
  case round =>
    obtain ⟨j, hj, rfl, hown, hbr⟩ := hrel
    have HO : Hid (wr.ownsRow w.heap.size 77 8 u3 (flL T j).length (flCs (flL T j))) := hown
    have HB : Hid (Below w.heap.size w wr) := hbr
    clear hown hbr
    by_cases hlt : j < 32
    · have hix := HIX.out j hlt
      obtain ⟨c, hc⟩ : ∃ c, c = T j := ⟨_, rfl⟩
      have HC : Hid (c = T j) := hc
      rw [← hc] at hix
      simp only [cellV] at hix
      clear hc
      have hle := flL_len T j
      by_cases hp : c.pr = 0
      · have HN : Hid (flL T (j + 1) = flL T j) := flL_no (by rw [← HC.out]; exact hp)
        go_wp2_with fail
        go_roundw
        case rel => exact ⟨j + 1, by omega, by go_num, by rw [HN.out]; exact HO.out.alloc _, HB.out.alloc HB.out.size _⟩
        case measure => simp [intOf]; omega
      · have HN : Hid (flL T (j + 1) = flL T j ++ [c]) := by show _ = _; rw [flL_yes (by rw [← HC.out]; exact hp), HC.out]
        have N1 : Hid (∀ u ∈ flC c, u.oneCell' = true) := fun u hu => by
          simp only [flC, List.mem_cons, List.not_mem_nil, or_false] at hu
          rcases hu with rfl | rfl | rfl | rfl | rfl | rfl | rfl | rfl <;> rfl
        go_wp2_with (at_builtin; refine wpList_append_own _ rfl _ _ 124 rfl w.heap.size 77 i0 _ 8 64 Tryd.underlying124 hi hz0 hz1 hz2 rfl (by decide) u3 (flL T j).length (flCs (flL T j)) rfl ((HO.out.alloc _).alloc _) ⟨wr.heap.size + 1, 0, none⟩ 1 1 (flC c) rfl rfl ?c1 N1.out ?c3 ?c4 ?c5 ?_)
        case c1 =>
          intro q u hu
          rw [tadd, Nat.zero_add, cell_of_row _ _ _ _ _ _ (heap_alloc2_new wr _ _)]
          simpa [flC] using hu
        case c3 => unfold maxLen; omega
        case c4 => omega
        case c5 => have := HB.out.size; simp; omega
        intro v5 w5 hO5 hg5 _
        have O5 : Hid (w5.ownsRow w.heap.size 77 8 v5 (flL T (j + 1)).length (flCs (flL T (j + 1)))) := by
          show w5.ownsRow _ _ _ _ _ _
          rw [HN.out, List.length_append, flCs_add]
          exact hO5
        have B5 : Hid (Below w.heap.size w w5) := ((HB.out.alloc HB.out.size _).alloc (by have := HB.out.size; simp; omega) _).grown hg5 (by have := HB.out.size; simp; omega) (fun q hq => (HO.out.lt _ hq).1)
        clear hO5 hg5 N1
        go_wp2_with fail
        go_roundw
        case rel => exact ⟨j + 1, by omega, by go_num, O5.out, B5.out⟩
        case measure => simp [intOf]; omega
    · obtain rfl : j = 32 := by omega
      go_wp2_with fail
      go_ret
      exact ⟨⟨_, rfl, HO.out⟩, HB.out⟩
end Go.Proofs.YtjfhompbeengmaaDoor
