/-
  Package mirror's blank, New, Life, Cells, Same.
-/
import Derived.Test.YtifkbafdjkgnoaaDoorMiA
namespace Go.Proofs.YtifkbafdjkgnoaaDoor
open Go.RowKit

/-- slots while they get their numbers. -/
def blkArr (n : Nat) : Array Value := ((List.range 320).map fun j => .int .i64 (if j % 10 = 0 ∧ j / 10 < n then ((j / 10 : Nat) : Int) else 0)).toArray
theorem blkArr_size (n : Nat) : (blkArr n).size = 320 := by simp [blkArr]
theorem blkArr_at (n j : Nat) (h : j < 320) : (blkArr n)[j]? = some (.int .i64 (if j % 10 = 0 ∧ j / 10 < n then ((j / 10 : Nat) : Int) else 0)) := by
  simp only [blkArr, List.getElem?_toArray, List.getElem?_map, List.getElem?_range h, Option.map_some]
theorem blkArr_zero : Array.replicate 320 (.int .i64 0) = blkArr 0 := by
  apply Array.ext_getElem?
  intro j
  by_cases hj : j < 320
  · rw [blkArr_at 0 j hj, if_neg (by omega), Array.getElem?_replicate, if_pos hj]
  · rw [Array.getElem?_eq_none (by rw [Array.size_replicate]; omega), Array.getElem?_eq_none (by rw [blkArr_size]; omega)]
theorem blkArr_next (n : Nat) (hn : n < 32) : (blkArr n).setIfInBounds (n * 10) (.int .i64 n) = blkArr (n + 1) := by
  apply Array.ext_getElem?
  intro j
  rw [Array.getElem?_setIfInBounds, blkArr_size]
  by_cases hj : j < 320
  · rw [blkArr_at n j hj, blkArr_at (n + 1) j hj]
    by_cases he : n * 10 = j
    · subst he
      rw [if_pos rfl, if_pos (by omega), if_pos (by omega)]
      congr 3
      omega
    · rw [if_neg he]
      by_cases hc : j % 10 = 0 ∧ j / 10 < n
      · rw [if_pos hc, if_pos (by omega)]
      · rw [if_neg hc, if_neg (by omega)]
  · rw [if_neg (by omega), Array.getElem?_eq_none (by rw [blkArr_size]; omega), Array.getElem?_eq_none (by rw [blkArr_size]; omega)]
theorem blkArr_all : blkArr 32 = slotsArr newT := by
  apply Array.ext_getElem?
  intro j
  by_cases hj : j < 320
  · rw [blkArr_at 32 j hj]
    have a := slotsArr_at newT (j / 10) (j % 10) (by omega) (by omega)
    rw [show j / 10 * 10 + j % 10 = j from by omega] at a
    rw [a]
    refine congrArg (fun x => some (Value.int .i64 x)) ?_
    have hl : j % 10 = 0 ∨ j % 10 = 1 ∨ j % 10 = 2 ∨ j % 10 = 3 ∨ j % 10 = 4 ∨ j % 10 = 5 ∨ j % 10 = 6 ∨ j % 10 = 7 ∨ j % 10 = 8 ∨ j % 10 = 9 := by omega
    rcases hl with e | e | e | e | e | e | e | e | e | e <;> rw [e]
    · rw [if_pos ⟨rfl, by omega⟩]; rfl
    all_goals (rw [if_neg (by omega)]; rfl)
  · rw [Array.getElem?_eq_none (by rw [blkArr_size]; omega), Array.getElem?_eq_none (by rw [slotsArr_size]; omega)]
def BlkB (w : World) (b : Nat) (n : Nat) : Prop := w.heap[b]? = some (.cells (blkArr n) 60 (0, 0))
theorem BlkB.load {w : World} {b : Nat} (h : BlkB w b 32) : (Instr.loadAt 60 (.pointer (some ⟨b, 0, none⟩))).run Tryd.prog w = .ok (.agg (slotsArr newT)) w := by
  unfold BlkB at h
  rw [blkArr_all] at h
  simp only [Instr.loadAt, Instr.sureAddr, Sem.run_bind, Sem.run_pure, Result.andThen_ok, run_loadVar_row w b _ 60 _ _ _ h Tryd.underlying60 rfl (slots_info newT)]
set_option maxRecDepth 100000 in
set_option maxHeartbeats 2000000 in
theorem blank_any (w : World) : Calls Tryd.prog 27 #[] w fun e w' => e = .returned (.agg (slotsArr newT)) ∧ Below w.heap.size w w' := by
  have hz := zero_slots
  go_enter Tryd.func27, Tryd.ntmps27
  go_wp2_with fail
  have N0 : Hid (BlkB ((w.alloc (.cells (Array.replicate 320 (.int .i64 0)) 60)).alloc (.cells (Array.replicate 320 (.int .i64 0)) 60)) (w.heap.size + 1) 0) := by
    show BlkB _ _ _
    unfold BlkB
    rw [heap_alloc2_new, blkArr_zero]
  have N1 : Hid (((w.alloc (.cells (Array.replicate 320 (.int .i64 0)) 60)).alloc (.cells (Array.replicate 320 (.int .i64 0)) 60)).heap[w.heap.size]? = some (.cells (blkArr 0) 60 (0, 0))) := by
    show _ = _
    rw [heap_alloc_old _ _ (by simp), heap_alloc_new, blkArr_zero]
  have B0 : Hid (Below w.heap.size w ((w.alloc (.cells (Array.replicate 320 (.int .i64 0)) 60)).alloc (.cells (Array.replicate 320 (.int .i64 0)) 60))) := t2 (aB _ _) (aB _ _)
  generalize (w.alloc (.cells (Array.replicate 320 (.int .i64 0)) 60)).alloc (.cells (Array.replicate 320 (.int .i64 0)) 60) = w0 at *
  obtain ⟨Z, hZ⟩ : ∃ Z, Z = w.heap.size := ⟨_, rfl⟩
  have HZ : Hid (Z = w.heap.size) := hZ
  rw [← hZ] at N0 N1 ⊢
  clear hZ hz
  go_loopw [3] (fun t wr => ∃ j : Nat, j ≤ 32 ∧ t = .int .i64 j ∧ BlkB wr (Z + 1) j ∧ wr.heap[Z]? = some (.cells (blkArr 0) 60 (0, 0)) ∧ Below Z w wr) (fun t _ => 32 - (intOf t).toNat)
  case atStart => exact ⟨0, by omega, rfl, N0.out, N1.out, by rw [HZ.out]; exact B0.out⟩
  case round =>
    obtain ⟨j, hj, rfl, hnb, hn1, hbr⟩ := hrel
    have HN : Hid (BlkB wr (Z + 1) j) := hnb
    have H1 : Hid (wr.heap[Z]? = some (.cells (blkArr 0) 60 (0, 0))) := hn1
    have HB : Hid (Below Z w wr) := hbr
    clear hnb hn1 hbr
    by_cases hlt : j < 32
    · have hc : ∃ v, wr.cell? ⟨Z + 1, j * 10, none⟩ = some v := ⟨_, (cell_of_row wr (Z + 1) _ _ _ _ HN.out).trans (blkArr_at _ _ (by omega))⟩
      obtain ⟨v, hc⟩ := hc
      have hz := frozen_of_row wr (Z + 1) (j * 10) _ _ HN.out
      have i0 : (0 : Int) ≤ (j : Int) := by omega
      have i1 : (j : Int) < 32 := by omega
      go_wp2_with fail
      go_roundw
      case rel =>
        refine ⟨j + 1, by omega, by go_num, ?_, ?_, HB.out.setCell (by simp) _⟩
        · unfold BlkB
          rw [heap_setCell_same wr (Z + 1) _ _ _ _ HN.out, blkArr_next _ hlt]
        · rw [Below.heap_setCell _ _ _ _ (by simp)]; exact H1.out
      case measure => simp [intOf]; omega
    · obtain rfl : j = 32 := by omega
      have hld := HN.out.load
      go_wp2_with (first | refine wpList_load_at rfl 60 _ rfl _ _ rfl hld ?_ | refine wpList_store_row rfl 60 _ _ rfl Z (slotsArr newT) rfl rfl 60 _ H1.out (slots_info newT) (by rw [slotsArr_size, blkArr_size]) (slots_one newT) ?_)
      refine bodyPost_ret (results_cell_row rfl _ _ Z _ (slotsArr newT) _ _ rfl (setRow_heap _ _ _ _ _ _ H1.out) Tryd.underlying60 rfl (slots_info newT)) rfl ?_
      refine ⟨rfl, ?_⟩
      rw [← HZ.out]
      exact HB.out.trans ⟨rfl, rfl, rfl, by simp [World.setRow], fun k hk => by simp only [World.setRow]; rw [Array.getElem?_modify, if_neg (by omega)]⟩
theorem wpList_build_at {P : Program} {ops : Array Oper} {rest : List Oper} {o : Oper} {a : Act} {w : World} {Q : Exit → Act → World → Prop} (hg : o.guard = none) (t : TypeId) (parts : Array (Nat × Operand)) (ho : o.op = .build t parts)
    (cs : Array Value) (hf : P.built t (parts.map fun (i, x) => (i, a.eval x)).toList = some cs) (h : wpList P ops Q rest (a.put o.dst (.agg cs)) w) : wpList P ops Q (o :: rest) a w :=
  wpList_build hg t parts ho (by rw [hf]; rfl) (by rw [hf]; exact h)
set_option maxRecDepth 100000 in
theorem built_new : Tryd.prog.built 68 [(1, .agg (slotsArr newT))] = some (tabArr 0 newT) := by kernel_rfl
set_option maxRecDepth 100000 in
set_option maxHeartbeats 2000000 in
theorem mnew_any (w : World) : Calls Tryd.prog 9 #[] w fun e w' => (∃ b, e = .returned (.pointer (some ⟨b, 0, none⟩)) ∧ Mir w' b 0 newT ∧ w.heap.size ≤ b) ∧ Below w.heap.size w w' := by
  go_enter Tryd.func9, Tryd.ntmps9
  go_wp2_with fail
  refine (blank_any _).mono ?_
  rintro e w1 ⟨rfl, hb1⟩
  have B1 : Hid (Below w.heap.size w w1) := hb1
  clear hb1
  obtain ⟨cs, hcs⟩ : ∃ cs, cs = slotsArr newT := ⟨_, rfl⟩
  have HC : Hid (cs = slotsArr newT) := hcs
  have hbu : Tryd.prog.built 68 [(1, .agg cs)] = some (tabArr 0 newT) := by rw [hcs]; exact built_new
  rw [← hcs]
  clear hcs
  rename_i K hK
  refine hK _ _ ?_
  refine wpList_build_at rfl 68 _ rfl (tabArr 0 newT) (by simpa [Act.eval] using hbu) ?_
  clear hK hbu
  have hts := tabArr_size 0 newT
  have HA : Hid (∃ ta, ta = tabArr 0 newT) := ⟨_, rfl⟩
  obtain ⟨ta, hta⟩ := HA.out
  have HT : Hid (ta = tabArr 0 newT) := hta
  rw [← hta] at hts ⊢
  clear hta HA
  go_wp2_with fail
  go_ret
  refine ⟨⟨_, rfl, ?_, B1.out.size⟩, t2 B1.out (aB _ _)⟩
  rw [HT.out]
  exact heap_alloc_new _ _
end Go.Proofs.YtifkbafdjkgnoaaDoor
