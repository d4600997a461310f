/-
  Package teller's cell; what was told is looked up; a slot's cell in a block of its own.
-/
import Derived.Test.YtifkbafdjkgnoaaDoorTeA
import Derived.Test.YtifkbafdjkgnoaaDoorTbI
import Derived.Deep.QuietTactic
import Derived.BigQuiet
namespace Go.Proofs.YtifkbafdjkgnoaaDoor
open Go.RowKit Go.Maps

theorem lit_inj {H : Type} {a b : Int} (h : (DataW.lit (.int .i64 a) : DataW H) = .lit (.int .i64 b)) : a = b := by cases h; rfl
theorem ToldM.look {w : World} {M n : Nat} {D : To} (h : ToldM w M n D) {k : Nat} (hk : k < 32) : (Instr.lookup 63 (.map (some M)) (.int .i64 k) false).run Tryd.prog w = .ok (.int .i64 (D k)) w := by
  obtain ⟨d, h1, h2⟩ := h
  obtain ⟨c, hrun, hat, _⟩ := h1.lookup_int ikey Tryd.underlying63 Tryd.underlying3 (izero _) (keyOf_int_mk Tryd.underlying3 (wfI (x := k) (by omega) (by omega)))
  have e := (h2 k hk).symm.trans hat
  have e2 : D k = c := lit_inj e
  subst e2
  exact hrun
/-- a slot's cell in a block of its own. -/
structure TcB10 (w : World) (b : Nat) (T : Tb) (s : Nat) : Prop where
  c0 : w.cell? ⟨b, 0, none⟩ = some (.int .i64 s)
  c1 : w.cell? ⟨b, 1, none⟩ = some (.int .i64 (T s).ve)
  c2 : w.cell? ⟨b, 2, none⟩ = some (.int .i64 (T s).pr)
  c3 : w.cell? ⟨b, 3, none⟩ = some (.int .i64 (T s).ia)
  c4 : w.cell? ⟨b, 4, none⟩ = some (.int .i64 (T s).ip)
  c5 : w.cell? ⟨b, 5, none⟩ = some (.int .i64 (T s).fa)
  c6 : w.cell? ⟨b, 6, none⟩ = some (.int .i64 (T s).fp)
  c7 : w.cell? ⟨b, 7, none⟩ = some (.int .i64 (T s).po)
  c8 : w.cell? ⟨b, 8, none⟩ = some (.int .i64 (T s).st)
  c9 : w.cell? ⟨b, 9, none⟩ = some (.int .i64 (T s).un)
theorem TcB10.below {w w' : World} {b : Nat} {T : Tb} {s : Nat} (h : TcB10 w b T s) (hb : Below w.heap.size w w') : TcB10 w' b T s :=
  ⟨tk hb h.c0, tk hb h.c1, tk hb h.c2, tk hb h.c3, tk hb h.c4, tk hb h.c5, tk hb h.c6, tk hb h.c7, tk hb h.c8, tk hb h.c9⟩
theorem TcB10.chg {w w' : World} {b g : Nat} {T : Tb} {s : Nat} (h : TcB10 w b T s) (hb : Chg g w w') (hn : b ≠ g) : TcB10 w' b T s :=
  ⟨hb.keeps hn h.c0, hb.keeps hn h.c1, hb.keeps hn h.c2, hb.keeps hn h.c3, hb.keeps hn h.c4, hb.keeps hn h.c5, hb.keeps hn h.c6, hb.keeps hn h.c7, hb.keeps hn h.c8, hb.keeps hn h.c9⟩
theorem tcB10_new (w : World) (T : Tb) (s : Nat) : TcB10 (w.alloc (.cells #[.int .i64 s, .int .i64 (T s).ve, .int .i64 (T s).pr, .int .i64 (T s).ia, .int .i64 (T s).ip, .int .i64 (T s).fa, .int .i64 (T s).fp, .int .i64 (T s).po, .int .i64 (T s).st, .int .i64 (T s).un] 59)) w.heap.size T s :=
  ⟨(nw _ _ _ _).trans rfl, (nw _ _ _ _).trans rfl, (nw _ _ _ _).trans rfl, (nw _ _ _ _).trans rfl, (nw _ _ _ _).trans rfl, (nw _ _ _ _).trans rfl, (nw _ _ _ _).trans rfl, (nw _ _ _ _).trans rfl, (nw _ _ _ _).trans rfl, (nw _ _ _ _).trans rfl⟩
/-- a slot's cell is stored whole into a block of ten cells. -/
theorem ten_store {w : World} {V : Nat} {cs : Array Value} (T : Tb) (s : Nat) (h1 : w.heap[V]? = some (.cells cs 59 (0, 0))) (h2 : cs.size = 10) :
    ∃ w', (Instr.storeAt 59 (.pointer (some ⟨V, 0, none⟩)) (cellV s (T s))).run Tryd.prog w = .ok () w' ∧ TcB10 w' V T s ∧ Chg V w w' := by
  have hs : (sizeOf 59).run Tryd.prog w = .ok 10 w := by kernel_rfl
  have hst := run_storeCells_at Tryd.prog V 0 59 (slC T s) 0 cs w h1 (by rw [slC_len]; omega) (slC_one T s)
  have hle : 0 + (slC T s).length ≤ cs.size := by rw [slC_len]; omega
  have hh := setRow_heap w V cs (cs.toList.take 0 ++ slC T s ++ cs.toList.drop (0 + (slC T s).length)).toArray _ _ h1
  have hc : ∀ k, k < 10 → (w.setRow V (cs.toList.take 0 ++ slC T s ++ cs.toList.drop (0 + (slC T s).length)).toArray).cell? ⟨V, k, none⟩ = some (.int .i64 ((T s).get s k)) := fun k hk => by
    rw [cell_of_row _ V _ _ _ _ hh, patch_at _ _ _ hle, slC_len, if_pos (by omega), Nat.sub_zero, slC_at T s k hk]
  refine ⟨_, ?_, ⟨hc 0 (by omega), hc 1 (by omega), hc 2 (by omega), hc 3 (by omega), hc 4 (by omega), hc 5 (by omega), hc 6 (by omega), hc 7 (by omega), hc 8 (by omega), hc 9 (by omega)⟩, chg_row _ _ _⟩
  simp only [Instr.storeAt, Instr.sureAddr, Sem.run_bind, Sem.run_pure, Result.andThen_ok, storeVar, hs, Value.cells, cellV]
  simp
  simpa [slC] using hst
set_option maxRecDepth 100000 in
set_option maxHeartbeats 2000000 in
theorem tcell_any (X b : Nat) (low : Int) (T : Tb) (j : Nat) (w : World) (c0 : w.cell? ⟨X, 0, none⟩ = some (.pointer (some ⟨b, 0, none⟩))) (t : Tab w b low T) (hj : j < 32) :
    Calls Tryd.prog 52 #[.pointer (some ⟨X, 0, none⟩), .int .i64 j] w fun e w' => e = .returned (cellV j (T j)) ∧ Below w.heap.size w w' := by
  have HT : Hid (Tab w b low T) := t
  have hxl := tlt c0
  simp only at hxl
  clear t
  go_enter Tryd.func52, Tryd.ntmps52
  go_wp2_with fail
  have hV : (w.alloc (.cells #[.int .i64 0, .int .i64 0, .int .i64 0, .int .i64 0, .int .i64 0, .int .i64 0, .int .i64 0, .int .i64 0, .int .i64 0, .int .i64 0] 59)).heap[w.heap.size]? = some (.cells #[.int .i64 0, .int .i64 0, .int .i64 0, .int .i64 0, .int .i64 0, .int .i64 0, .int .i64 0, .int .i64 0, .int .i64 0, .int .i64 0] 59 (0, 0)) := heap_alloc_new _ _
  have B0 : Hid (Below w.heap.size w (w.alloc (.cells #[.int .i64 0, .int .i64 0, .int .i64 0, .int .i64 0, .int .i64 0, .int .i64 0, .int .i64 0, .int .i64 0, .int .i64 0, .int .i64 0] 59))) := aB _ _
  have hz : (w.alloc (.cells #[.int .i64 0, .int .i64 0, .int .i64 0, .int .i64 0, .int .i64 0, .int .i64 0, .int .i64 0, .int .i64 0, .int .i64 0, .int .i64 0] 59)).heap.size = w.heap.size + 1 := by simp
  generalize w.alloc (.cells #[.int .i64 0, .int .i64 0, .int .i64 0, .int .i64 0, .int .i64 0, .int .i64 0, .int .i64 0, .int .i64 0, .int .i64 0, .int .i64 0] 59) = w0 at *
  refine (get_ok b low T j w0 (HT.out.below B0.out) hj).mono ?_
  rintro e w1 ⟨rfl, hb1⟩
  have hb2 := hb1.alloc hb1.size (.cells #[.int .i64 j, .int .i64 (T j).ve, .int .i64 (T j).pr, .int .i64 (T j).ia, .int .i64 (T j).ip, .int .i64 (T j).fa, .int .i64 (T j).fp, .int .i64 (T j).po, .int .i64 (T j).st, .int .i64 (T j).un] 59)
  obtain ⟨w2, hst, ht2, hc2⟩ := ten_store T j ((hb2.block _ (by omega)).trans hV) rfl
  have B2 : Hid (Below w.heap.size w w2) := Chg.below (t2 B0.out hb2) hc2 (Nat.le_refl _)
  have c0 := ht2.c0
  have c1 := ht2.c1
  have c2 := ht2.c2
  have c3 := ht2.c3
  have c4 := ht2.c4
  have c5 := ht2.c5
  have c6 := ht2.c6
  have c7 := ht2.c7
  have c8 := ht2.c8
  have c9 := ht2.c9
  clear hb1 hb2 ht2 hc2 hV hz B0 HT
  unfold cellV at *

  go_wp2_with (refine wpList_store_eq rfl 59 _ _ rfl _ _ _ rfl rfl hst ?_)
  exact bodyPost_ret (v := cellV j (T j)) (by simp [results, Tryd.results52, go_sem, cellV, c0, c1, c2, c3, c4, c5, c6, c7, c8, c9]) rfl ⟨rfl, B2.out⟩
end Go.Proofs.YtifkbafdjkgnoaaDoor
