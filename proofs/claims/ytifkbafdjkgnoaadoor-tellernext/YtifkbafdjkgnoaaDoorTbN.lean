/-
  Package table's New.
-/
import Derived.Test.YtifkbafdjkgnoaaDoorTbE
namespace Go.Proofs.YtifkbafdjkgnoaaDoor
open Go.RowKit

set_option maxRecDepth 100000 in
set_option maxHeartbeats 2000000 in
theorem new_bad (node : Int) (s : Nat → Addr) (w : World) (S : Se4 w s) (h0 : node ≠ 0) (h1 : node ≠ 1) :
    Calls Tryd.prog 7 #[.int .i64 node] w fun e w' => e = .returned (.tuple #[.pointer none, terr s 2]) ∧ Below w.heap.size w w' := by
  have s1 := S.c1
  clear S
  have g0 : (node != 0) = true := bne_iff_ne.2 h0
  have g1 : (node != 1) = true := bne_iff_ne.2 h1
  go_enter Tryd.func7, Tryd.ntmps7
  go_wp2_with fail
  go_region
  go_wp2_with fail
  go_ret2
  exact ⟨rfl, (Below.refl _ _).drew⟩
/-- a table's block while its slots get their numbers. -/
def newArr (low : Int) (n : Nat) : Array Value := ((List.range 321).map fun j => if j = 0 then .int .i64 low else .int .i64 (if (j - 1) % 10 = 0 ∧ (j - 1) / 10 < n then (((j - 1) / 10 : Nat) : Int) else 0)).toArray
theorem newArr_size (low : Int) (n : Nat) : (newArr low n).size = 321 := by simp [newArr]
theorem newArr_at (low : Int) (n j : Nat) (h : j < 321) : (newArr low n)[j]? = some (if j = 0 then .int .i64 low else .int .i64 (if (j - 1) % 10 = 0 ∧ (j - 1) / 10 < n then (((j - 1) / 10 : Nat) : Int) else 0)) := by
  simp only [newArr, List.getElem?_toArray, List.getElem?_map, List.getElem?_range h, Option.map_some]
theorem zero_eq : Tryd.zeroCells62 = Array.replicate 321 (.int .i64 0) := by kernel_rfl
theorem newArr_zero (low : Int) : Tryd.zeroCells62.setIfInBounds 0 (.int .i64 low) = newArr low 0 := by
  rw [zero_eq]
  apply Array.ext_getElem?
  intro j
  rw [Array.getElem?_setIfInBounds, Array.size_replicate]
  by_cases hj : j < 321
  · rw [newArr_at low 0 j hj]
    by_cases h0 : j = 0
    · subst h0; rfl
    · rw [if_neg (by omega), if_neg h0, if_neg (by omega), Array.getElem?_replicate, if_pos hj]
  · rw [if_neg (by omega), Array.getElem?_eq_none (by rw [Array.size_replicate]; omega), Array.getElem?_eq_none (by rw [newArr_size]; omega)]
theorem newArr_next (low : Int) (n : Nat) (hn : n < 32) : (newArr low n).setIfInBounds (1 + n * 10) (.int .i64 n) = newArr low (n + 1) := by
  apply Array.ext_getElem?
  intro j
  rw [Array.getElem?_setIfInBounds, newArr_size]
  by_cases hj : j < 321
  · rw [newArr_at low n j hj, newArr_at low (n + 1) j hj]
    by_cases he : 1 + n * 10 = j
    · subst he
      rw [if_pos rfl, if_pos (by omega), if_neg (by omega), if_pos (by omega)]
      congr 3
      omega
    · rw [if_neg he]
      by_cases h0 : j = 0
      · rw [if_pos h0, if_pos h0]
      · rw [if_neg h0, if_neg h0]
        by_cases hc : (j - 1) % 10 = 0 ∧ (j - 1) / 10 < n
        · rw [if_pos hc, if_pos (by omega)]
        · rw [if_neg hc, if_neg (by omega)]
  · rw [if_neg (by omega), Array.getElem?_eq_none (by rw [newArr_size]; omega), Array.getElem?_eq_none (by rw [newArr_size]; omega)]
theorem newArr_all (low : Int) : newArr low 32 = tabArr low newT := by
  apply Array.ext_getElem?
  intro j
  by_cases hj : j < 321
  · rw [newArr_at low 32 j hj]
    by_cases h0 : j = 0
    · subst h0; rw [tabArr_low]; rfl
    · have a := tabArr_at low newT ((j - 1) / 10) ((j - 1) % 10) (by omega) (by omega)
      rw [show 1 + (j - 1) / 10 * 10 + (j - 1) % 10 = j from by omega] at a
      rw [a, if_neg h0]
      congr 2
      have hl : (j - 1) % 10 = 0 ∨ (j - 1) % 10 = 1 ∨ (j - 1) % 10 = 2 ∨ (j - 1) % 10 = 3 ∨ (j - 1) % 10 = 4 ∨ (j - 1) % 10 = 5 ∨ (j - 1) % 10 = 6 ∨ (j - 1) % 10 = 7 ∨ (j - 1) % 10 = 8 ∨ (j - 1) % 10 = 9 := by omega
      rcases hl with e | e | e | e | e | e | e | e | e | e <;> rw [e]
      · rw [if_pos ⟨rfl, by omega⟩]; rfl
      all_goals (rw [if_neg (by omega)]; rfl)
  · rw [Array.getElem?_eq_none (by rw [newArr_size]; omega), Array.getElem?_eq_none (by rw [tabArr_size]; omega)]
def NewB (w : World) (b : Nat) (low : Int) (n : Nat) : Prop := w.heap[b]? = some (.cells (newArr low n) 62 (0, 0))
set_option maxRecDepth 100000 in
set_option maxHeartbeats 2000000 in
theorem new_0 (w : World) :
    Calls Tryd.prog 7 #[.int .i64 0] w fun e w' => ∃ b, e = .returned (.tuple #[.pointer (some ⟨b, 0, none⟩), .nilIface]) ∧ Tab w' b 2000 newT ∧ w.heap.size ≤ b ∧ Below w.heap.size w w' := by
  go_enter Tryd.func7, Tryd.ntmps7
  go_wp2_with fail
  have N0 : Hid (NewB (w.alloc (.cells (Tryd.zeroCells62.setIfInBounds 0 (.int .i64 2000)) 62)) w.heap.size 2000 0) := by
    show NewB _ _ _ _
    unfold NewB
    rw [heap_alloc_new, newArr_zero]
  have B0 : Hid (Below w.heap.size w (w.alloc (.cells (Tryd.zeroCells62.setIfInBounds 0 (.int .i64 2000)) 62))) := (Below.refl _ _).alloc (Nat.le_refl _) _
  generalize w.alloc (.cells (Tryd.zeroCells62.setIfInBounds 0 (.int .i64 2000)) 62) = w0 at *
  generalize Tryd.zeroCells62.setIfInBounds 0 (.int .i64 2000) = zz at *
  obtain ⟨Z, hZ⟩ : ∃ Z, Z = w.heap.size := ⟨_, rfl⟩
  have HZ : Hid (Z = w.heap.size) := hZ
  rw [← hZ] at N0 ⊢
  clear hZ
  go_loopw [18] (fun t wr => ∃ j : Nat, j ≤ 32 ∧ t = .int .i64 j ∧ NewB wr Z 2000 j ∧ Below w.heap.size w wr) (fun t _ => 32 - (intOf t).toNat)
  case atStart => exact ⟨0, by omega, rfl, N0.out, B0.out⟩
  case round =>
    obtain ⟨j, hj, rfl, hnb, hbr⟩ := hrel
    have HN : Hid (NewB wr Z 2000 j) := hnb
    have HB : Hid (Below w.heap.size w wr) := hbr
    clear hnb hbr
    by_cases hlt : j < 32
    · have hc : ∃ v, wr.cell? ⟨Z, 1 + j * 10, none⟩ = some v := ⟨_, (cell_of_row wr Z _ _ _ _ HN.out).trans (newArr_at _ _ _ (by omega))⟩
      obtain ⟨v, hc⟩ := hc
      have hz := frozen_of_row wr Z (1 + j * 10) _ _ HN.out
      have i0 : (0 : Int) ≤ (j : Int) := by omega
      have i1 : (j : Int) < 32 := by omega
      go_wp2_with fail
      go_roundw
      case rel =>
        refine ⟨j + 1, by omega, by go_num, ?_, HB.out.setCell (by have := HZ.out; simp only; omega) _⟩
        unfold NewB
        rw [heap_setCell_same wr Z _ _ _ _ HN.out, newArr_next _ _ hlt]
      case measure => simp [intOf]; omega
    · obtain rfl : j = 32 := by omega
      go_wp2_with fail
      go_ret2
      refine ⟨Z, rfl, ?_, by have := HZ.out; omega, HB.out⟩
      have h := HN.out
      unfold NewB at h
      rw [newArr_all] at h
      exact h
set_option maxRecDepth 100000 in
set_option maxHeartbeats 2000000 in
theorem new_1 (w : World) :
    Calls Tryd.prog 7 #[.int .i64 1] w fun e w' => ∃ b, e = .returned (.tuple #[.pointer (some ⟨b, 0, none⟩), .nilIface]) ∧ Tab w' b 2024 newT ∧ w.heap.size ≤ b ∧ Below w.heap.size w w' := by
  go_enter Tryd.func7, Tryd.ntmps7
  go_wp2_with fail
  have N0 : Hid (NewB (w.alloc (.cells (Tryd.zeroCells62.setIfInBounds 0 (.int .i64 2024)) 62)) w.heap.size 2024 0) := by
    show NewB _ _ _ _
    unfold NewB
    rw [heap_alloc_new, newArr_zero]
  have B0 : Hid (Below w.heap.size w (w.alloc (.cells (Tryd.zeroCells62.setIfInBounds 0 (.int .i64 2024)) 62))) := (Below.refl _ _).alloc (Nat.le_refl _) _
  generalize w.alloc (.cells (Tryd.zeroCells62.setIfInBounds 0 (.int .i64 2024)) 62) = w0 at *
  generalize Tryd.zeroCells62.setIfInBounds 0 (.int .i64 2024) = zz at *
  obtain ⟨Z, hZ⟩ : ∃ Z, Z = w.heap.size := ⟨_, rfl⟩
  have HZ : Hid (Z = w.heap.size) := hZ
  rw [← hZ] at N0 ⊢
  clear hZ
  go_loopw [18] (fun t wr => ∃ j : Nat, j ≤ 32 ∧ t = .int .i64 j ∧ NewB wr Z 2024 j ∧ Below w.heap.size w wr) (fun t _ => 32 - (intOf t).toNat)
  case atStart => exact ⟨0, by omega, rfl, N0.out, B0.out⟩
  case round =>
    obtain ⟨j, hj, rfl, hnb, hbr⟩ := hrel
    have HN : Hid (NewB wr Z 2024 j) := hnb
    have HB : Hid (Below w.heap.size w wr) := hbr
    clear hnb hbr
    by_cases hlt : j < 32
    · have hc : ∃ v, wr.cell? ⟨Z, 1 + j * 10, none⟩ = some v := ⟨_, (cell_of_row wr Z _ _ _ _ HN.out).trans (newArr_at _ _ _ (by omega))⟩
      obtain ⟨v, hc⟩ := hc
      have hz := frozen_of_row wr Z (1 + j * 10) _ _ HN.out
      have i0 : (0 : Int) ≤ (j : Int) := by omega
      have i1 : (j : Int) < 32 := by omega
      go_wp2_with fail
      go_roundw
      case rel =>
        refine ⟨j + 1, by omega, by go_num, ?_, HB.out.setCell (by have := HZ.out; simp only; omega) _⟩
        unfold NewB
        rw [heap_setCell_same wr Z _ _ _ _ HN.out, newArr_next _ _ hlt]
      case measure => simp [intOf]; omega
    · obtain rfl : j = 32 := by omega
      go_wp2_with fail
      go_ret2
      refine ⟨Z, rfl, ?_, by have := HZ.out; omega, HB.out⟩
      have h := HN.out
      unfold NewB at h
      rw [newArr_all] at h
      exact h
theorem new_ok (node : Nat) (w : World) (h : node < 2) :
    Calls Tryd.prog 7 #[.int .i64 node] w fun e w' => ∃ b, e = .returned (.tuple #[.pointer (some ⟨b, 0, none⟩), .nilIface]) ∧ Tab w' b (2000 + node * 24) newT ∧ w.heap.size ≤ b ∧ Below w.heap.size w w' := by
  have hn : node = 0 ∨ node = 1 := by omega
  rcases hn with rfl | rfl
  · exact new_0 w
  · exact new_1 w
end Go.Proofs.YtifkbafdjkgnoaaDoor
