/-
  The document's table: a list of cells in memory; Empty, NewTable.
-/
import Derived.Test.YteiaamboijimnabDoorTbG
import Derived.Test.YteiaamboijimnabDoorTbK
import Derived.OwnWalk
namespace Go.Proofs.YteiaamboijimnabDoor
open Go.RowKit

/-- an array that begins with a table's slots. -/
def SlA (cs : Array Value) (T : Tb) : Prop := ∀ i k, i < 32 → k < 10 → cs[i * 10 + k]? = some (.int .i64 ((T i).get i k))
def Sl10 (w : World) (g : Nat) (T : Tb) : Prop := ∃ cs ty, w.heap[g]? = some (.cells cs ty (0, 0)) ∧ SlA cs T
theorem Sl10.at' {w : World} {g : Nat} {T : Tb} (h : Sl10 w g T) {i k : Nat} (hi : i < 32) (hk : k < 10) : w.cell? ⟨g, i * 10 + k, none⟩ = some (.int .i64 ((T i).get i k)) := by
  obtain ⟨cs, ty, h1, h2⟩ := h
  rw [cell_of_row w g _ _ _ _ h1, h2 i k hi hk]
theorem Sl10.fr {w : World} {g : Nat} {T : Tb} (h : Sl10 w g T) (j : Nat) : w.frozen? ⟨g, j, none⟩ = false := by
  obtain ⟨cs, ty, h1, _⟩ := h
  exact frozen_of_row w g j _ _ h1
theorem Sl10.lt {w : World} {g : Nat} {T : Tb} (h : Sl10 w g T) : g < w.heap.size := tlt (h.at' (i := 0) (k := 0) (by omega) (by omega))
theorem Sl10.below {w w' : World} {g : Nat} {T : Tb} (h : Sl10 w g T) (hb : Below w.heap.size w w') : Sl10 w' g T := by
  have hl := h.lt
  obtain ⟨cs, ty, h1, h2⟩ := h
  exact ⟨cs, ty, by rw [hb.block g hl]; exact h1, h2⟩
theorem Sl10.chg {w w' : World} {g b : Nat} {T : Tb} (h : Sl10 w g T) (hb : Chg b w w') (hn : g ≠ b) : Sl10 w' g T := by
  have hl := h.lt
  obtain ⟨cs, ty, h1, h2⟩ := h
  exact ⟨cs, ty, by rw [hb.block g hl hn]; exact h1, h2⟩
theorem Sl10.put {w : World} {g : Nat} {T : Tb} (h : Sl10 w g T) {i k : Nat} (x : Int) (hi : i < 32) (h1 : 1 ≤ k) (hk : k < 10) : Sl10 (w.setCell ⟨g, i * 10 + k, none⟩ (.int .i64 x)) g (upd T i ((T i).put x k)) := by
  obtain ⟨cs, ty, e1, e2⟩ := h
  refine ⟨_, ty, heap_setCell_same w g _ _ _ _ e1, fun a l ha hl => ?_⟩
  rw [Array.getElem?_setIfInBounds]
  have hsz : i * 10 + k < cs.size := (Array.getElem?_eq_some_iff.1 (e2 i k hi hk)).1
  by_cases e : a = i
  · subst e
    rw [upd_same, Ce.get_put _ _ _ _ _ h1 hk hl]
    by_cases e' : l = k
    · subst e'; rw [if_pos rfl, if_pos hsz, if_pos rfl]
    · rw [if_neg (by omega), if_neg e', e2 a l ha hl]
  · rw [if_neg (by omega), upd_other _ _ e, e2 a l ha hl]
theorem Sl10.slot {w : World} {g : Nat} {T : Tb} (h : Sl10 w g T) {i : Nat} (hi : i < 32) : Sl10 (w.setCell ⟨g, i * 10, none⟩ (.int .i64 i)) g T := by
  obtain ⟨cs, ty, e1, e2⟩ := h
  refine ⟨_, ty, heap_setCell_same w g _ _ _ _ e1, fun a l ha hl => ?_⟩
  rw [Array.getElem?_setIfInBounds]
  have hsz : i * 10 < cs.size := by have := (Array.getElem?_eq_some_iff.1 (e2 i 0 hi (by omega))).1; omega
  by_cases e : i * 10 = a * 10 + l
  · obtain rfl : a = i := by omega
    obtain rfl : l = 0 := by omega
    rw [if_pos e, if_pos hsz]
    rfl
  · rw [if_neg e, e2 a l ha hl]
theorem CellsB.sl {w : World} {Z : Nat} {T : Tb} (h : CellsB w Z T) : Sl10 w Z T := ⟨_, _, h, fun i k hi hk => slotsArr_at T i k hi hk⟩
/-- the document's table in memory. -/
structure RTab (w : World) (m g cap : Nat) (low : Int) (T : Tb) : Prop where
  c0 : w.cell? ⟨m, 0, none⟩ = some (.int .i64 low)
  c1 : w.cell? ⟨m, 1, none⟩ = some (.slice (some ⟨g, 0, none⟩) 32 cap)
  sl : Sl10 w g T
  ne : m ≠ g
theorem RTab.below {w w' : World} {m g cap : Nat} {low : Int} {T : Tb} (h : RTab w m g cap low T) (hb : Below w.heap.size w w') : RTab w' m g cap low T := ⟨tk hb h.c0, tk hb h.c1, h.sl.below hb, h.ne⟩
theorem RTab.chg {w w' : World} {m g cap b : Nat} {low : Int} {T : Tb} (h : RTab w m g cap low T) (hb : Chg b w w') (hm : m ≠ b) (hg : g ≠ b) : RTab w' m g cap low T := ⟨hb.keeps hm h.c0, hb.keeps hm h.c1, h.sl.chg hb hg, h.ne⟩
/-- the cells of n empty slots. -/
def emC : Nat → List Value
  | 0 => []
  | n + 1 => emC n ++ [.int .i64 n, .int .i64 0, .int .i64 0, .int .i64 0, .int .i64 0, .int .i64 0, .int .i64 0, .int .i64 0, .int .i64 0, .int .i64 0]
theorem emC_len : ∀ n, (emC n).length = n * 10
  | 0 => rfl
  | n + 1 => by simp only [emC, List.length_append, emC_len n, List.length_cons, List.length_nil]; omega
theorem emC_at : ∀ (n i k : Nat), i < n → k < 10 → (emC n)[i * 10 + k]? = some (.int .i64 (noC.get i k))
  | 0, i, k, h, _ => by omega
  | n + 1, i, k, h, hk => by
    by_cases e : i = n
    · subst e
      simp only [emC]
      rw [List.getElem?_append_right (by rw [emC_len]; omega), emC_len, show i * 10 + k - i * 10 = k from by omega]
      have hl : k = 0 ∨ k = 1 ∨ k = 2 ∨ k = 3 ∨ k = 4 ∨ k = 5 ∨ k = 6 ∨ k = 7 ∨ k = 8 ∨ k = 9 := by omega
      rcases hl with rfl | rfl | rfl | rfl | rfl | rfl | rfl | rfl | rfl | rfl <;> rfl
    · simp only [emC]
      rw [List.getElem?_append_left (by rw [emC_len]; omega)]
      exact emC_at n i k (by omega) hk
theorem Tryd.infoCell : (Tryd.prog.info? 58).map (fun i => (i.zero, i.size, i.bytes)) = some (some (.agg #[.int .i64 0, .int .i64 0, .int .i64 0, .int .i64 0, .int .i64 0, .int .i64 0, .int .i64 0, .int .i64 0, .int .i64 0, .int .i64 0]), 10, 80) := by kernel_rfl
theorem tadd (b o j : Nat) : Addr.add ⟨b, o, none⟩ j = ⟨b, o + j, none⟩ := by
  unfold Addr.add
  by_cases h : j = 0
  · subst h; rfl
  · rw [if_neg h]
set_option maxRecDepth 100000 in
set_option maxHeartbeats 2000000 in
theorem empty_any (w : World) :
    Calls Tryd.prog 28 #[] w fun e w' => (∃ g cap, e = .returned (.slice (some ⟨g, 0, none⟩) 32 cap) ∧ w.heap.size ≤ g ∧ Sl10 w' g newT) ∧ Below w.heap.size w w' := by
  obtain ⟨i0, hi, hz0, hz1, hz2⟩ := info_parts Tryd.infoCell
  go_enter Tryd.func28, Tryd.ntmps28
  go_wp2_with fail
  go_loopw [1, 2] (fun v t wr => ∃ j : Nat, j ≤ 32 ∧ t = .int .i64 j ∧ wr.ownsRow w.heap.size 58 10 v j (emC j) ∧ Below w.heap.size w wr) (fun _ t _ => 32 - (intOf t).toNat)
  case atStart => exact ⟨0, by omega, rfl, World.ownsRow_nil _ _ _ _, Below.refl _ _⟩
  case round =>
    obtain ⟨j, hj, rfl, hown, hbr⟩ := hrel
    have HO : Hid (wr.ownsRow w.heap.size 58 10 u1 j (emC j)) := hown
    have HB : Hid (Below w.heap.size w wr) := hbr
    clear hown hbr
    by_cases hlt : j < 32
    · have N4 : Hid (∀ q u, ([.int .i64 j, .int .i64 0, .int .i64 0, .int .i64 0, .int .i64 0, .int .i64 0, .int .i64 0, .int .i64 0, .int .i64 0, .int .i64 0] : List Value)[q]? = some u → (wr.alloc (.cells #[.int .i64 j, .int .i64 0, .int .i64 0, .int .i64 0, .int .i64 0, .int .i64 0, .int .i64 0, .int .i64 0, .int .i64 0, .int .i64 0] 58)).cell? (Addr.add ⟨wr.heap.size, 0, none⟩ q) = some u) := fun q u hu => by
        rw [tadd, Nat.zero_add, nw]; simpa using hu
      have N1 : Hid (∀ u ∈ ([.int .i64 j, .int .i64 0, .int .i64 0, .int .i64 0, .int .i64 0, .int .i64 0, .int .i64 0, .int .i64 0, .int .i64 0, .int .i64 0] : List Value), u.oneCell' = true) := fun u hu => by
        simp only [List.mem_cons, List.not_mem_nil, or_false] at hu
        rcases hu with rfl | rfl | rfl | rfl | rfl | rfl | rfl | rfl | rfl | rfl <;> rfl
      go_wp2_with (at_builtin; refine wpList_append_own _ rfl _ _ 61 rfl w.heap.size 58 i0 _ 10 80 Tryd.underlying61 hi hz0 hz1 hz2 rfl (by decide) u1 j (emC j) rfl (HO.out.alloc _) ⟨wr.heap.size, 0, none⟩ 1 1 _ rfl rfl N4.out N1.out (by unfold maxLen; omega) (by omega) (by have := HB.out.size; simp; omega) ?_)
      intro v5 w5 hO5 hg5 _
      have O5 : Hid (w5.ownsRow w.heap.size 58 10 v5 (j + 1) (emC (j + 1))) := hO5
      have B5 : Hid (Below w.heap.size w w5) := (HB.out.alloc HB.out.size _).grown hg5 (by have := HB.out.size; simp; omega) (fun q hq => (HO.out.lt _ hq).1)
      clear hO5 hg5 N4 N1
      go_wp2_with fail
      go_roundw
      case rel => exact ⟨j + 1, by omega, by go_num, O5.out, B5.out⟩
      case measure => simp [intOf]; omega
    · obtain rfl : j = 32 := by omega
      go_wp2_with fail
      go_ret
      refine ⟨?_, HB.out⟩
      obtain ⟨_, h2⟩ := HO.out
      rcases h2 with ⟨_, h0⟩ | ⟨g, cap, cur, rfl, hg, hh, _, _, _, ht⟩
      · cases h0
      · refine ⟨g, cap, rfl, hg, cur, _, hh, fun i k hi hk => ?_⟩
        have := emC_at 32 i k hi hk
        rw [← ht, List.getElem?_take, if_pos (by omega), Array.getElem?_toList] at this
        exact this
set_option maxRecDepth 100000 in
set_option maxHeartbeats 2000000 in
theorem newR_any (node : Nat) (w : World) (hn : node < 2) :
    Calls Tryd.prog 7 #[.int .i64 node] w fun e w' => (∃ m g cap, e = .returned (.pointer (some ⟨m, 0, none⟩)) ∧ w.heap.size ≤ m ∧ w.heap.size ≤ g ∧ RTab w' m g cap (2000 + node * 24) newT) ∧ Below w.heap.size w w' := by
  have hw1 : IntKind.i64.wrap ((node : Int) * 24) = (node : Int) * 24 := by rw [IntKind.wrap_i64]; omega
  have hw2 : IntKind.i64.wrap (2000 + (node : Int) * 24) = 2000 + (node : Int) * 24 := by rw [IntKind.wrap_i64]; omega
  go_enter Tryd.func7, Tryd.ntmps7
  go_wp2_with fail
  refine (empty_any _).mono ?_
  rintro e w1 ⟨⟨g, cap, rfl, hg, hs⟩, hb1⟩
  have HG : Hid (w.heap.size ≤ g) := hg
  have H1 : Hid (Sl10 w1 g newT) := hs
  have B1 : Hid (Below w.heap.size w w1) := hb1
  clear hg hs hb1
  go_wp2_with fail
  go_ret
  refine ⟨⟨w1.heap.size, g, cap, rfl, B1.out.size, HG.out, ?_⟩, t2 B1.out (aB _ _)⟩
  exact ⟨(nw _ _ _ _).trans rfl, (nw _ _ _ _).trans rfl, H1.out.below (aB _ _), fun e => by have := H1.out.lt; omega⟩
end Go.Proofs.YteiaamboijimnabDoor
