/-
  Package cell's image: what stands ahead of the mark.
-/
import Derived.Test.YthmnmdikpccenacDoorCeT
namespace Go.Proofs.YthmnmdikpccenacDoor
open Go.RowKit

def nmV (x : Nm) : Value := .agg #[.int .i64 x.n, .int .i64 x.e, .int .i64 x.l]
def zero16 : List UInt8 := [0, 0, 0, 0, 0, 0, 0, 0, 0, 0, 0, 0, 0, 0, 0, 0]
theorem img_of (x : Nm) : layK (layK (layK (layK zero16 0 x.n 4) 4 x.e 4) 8 x.l 4) 12 (crc (body x)) 4 = img x := by
  simp [layK, zero16, img, body, w4]
theorem body_of (x : Nm) : (layK (layK (layK zero16 0 x.n 4) 4 x.e 4) 8 x.l 4).take 12 = body x := by
  simp [layK, zero16, body, w4]
theorem zero16_arr : arrV zero16 = #[.int .u8 0, .int .u8 0, .int .u8 0, .int .u8 0, .int .u8 0, .int .u8 0, .int .u8 0, .int .u8 0, .int .u8 0, .int .u8 0, .int .u8 0, .int .u8 0, .int .u8 0, .int .u8 0, .int .u8 0, .int .u8 0] := rfl
theorem three_at (a b c : Int) (w : World) : (Instr.index 137 (.agg #[.int .i64 a, .int .i64 b, .int .i64 c]) (.int .i64 0)).run Tryd.prog w = .ok (.int .i64 a) w ∧ (Instr.index 137 (.agg #[.int .i64 a, .int .i64 b, .int .i64 c]) (.int .i64 1)).run Tryd.prog w = .ok (.int .i64 b) w ∧ (Instr.index 137 (.agg #[.int .i64 a, .int .i64 b, .int .i64 c]) (.int .i64 2)).run Tryd.prog w = .ok (.int .i64 c) w := ⟨by kernel_rfl, by kernel_rfl, by kernel_rfl⟩
theorem rangeAt_take {w : World} {b o n : Nat} {cs : List Value} (h : w.rangeAt b o cs) : w.rangeAt b o (cs.take n) := fun j v hv => h j v (by
  rw [List.getElem?_take] at hv
  split at hv
  · exact hv
  · cases hv)
set_option maxRecDepth 100000 in
set_option maxHeartbeats 4000000 in
theorem image_any (x : Nm) (h1 : x.n < 4294967296) (h2 : x.e < 4294967296) (h3 : x.l < 4294967296) (w : World) :
    Calls Tryd.prog 54 #[nmV x] w fun e w' => e = .returned (.agg (arrV (img x))) ∧ Below w.heap.size w w' := by
  unfold nmV
  go_enter Tryd.func54, Tryd.ntmps54
  go_wp2_with fail
  obtain ⟨w0, hw0⟩ : ∃ w0, w0 = ((w.alloc (.cells #[.int .i64 x.n, .int .i64 x.e, .int .i64 x.l] 97)).alloc (.cells (arrV zero16) 116)).alloc (.cells (arrV zero16) 116) := ⟨_, rfl⟩
  have A0 : Hid (Arr w0 (w.heap.size + 1 + 1) zero16) := by
    refine ⟨?_, rfl⟩
    rw [hw0]
    have := heap_alloc_new ((w.alloc (.cells #[.int .i64 x.n, .int .i64 x.e, .int .i64 x.l] 97)).alloc (.cells (arrV zero16) 116)) (.cells (arrV zero16) 116)
    simpa using this
  have R0 : Hid (w0.heap[w.heap.size + 1]? = some (.cells (arrV zero16) 116 (0, 0))) := by
    show _ = _
    rw [hw0, heap_alloc_old _ _ (by simp)]
    have := heap_alloc_new (w.alloc (.cells #[.int .i64 x.n, .int .i64 x.e, .int .i64 x.l] 97)) (.cells (arrV zero16) 116)
    simpa using this
  have B0 : Hid (Below w.heap.size w w0) := by
    show Below _ _ _
    rw [hw0]; exact t2 (t2 (aB _ _) (aB _ _)) (aB _ _)
  rw [zero16_arr] at hw0
  rw [← hw0]
  clear hw0
  obtain ⟨Z, hZ⟩ : ∃ Z, Z = w.heap.size := ⟨_, rfl⟩
  have HZ : Hid (Z = w.heap.size) := hZ
  rw [← hZ] at A0 R0 ⊢
  clear hZ
  refine wp_loop_rounds 4 ?_
  rw [rounds_succ]
  have t0 := (three_at x.n x.e x.l w0).1
  go_wp2_with fail
  refine (clay_any zero16 (Z + 1 + 1) 0 x.n (by omega) h1 w0 A0.out).mono ?_
  rintro e w1 ⟨rfl, a1, c1⟩
  have A1 : Hid (Arr w1 (Z + 1 + 1) (layK zero16 0 x.n 4)) := a1
  have C1 : Hid (Chg (Z + 1 + 1) w0 w1) := c1
  clear a1 c1 t0
  have t1 := (three_at x.n x.e x.l w1).2.1
  go_wp2_with fail
  rw [rounds_succ]
  go_wp2_with fail
  refine (clay_any _ (Z + 1 + 1) 4 x.e (by omega) h2 w1 A1.out).mono ?_
  rintro e w2 ⟨rfl, a1, c1⟩
  have A2 : Hid (Arr w2 (Z + 1 + 1) (layK (layK zero16 0 x.n 4) 4 x.e 4)) := a1
  have C2 : Hid (Chg (Z + 1 + 1) w0 w2) := C1.out.trans c1
  clear a1 c1 t1 A1 C1
  have t2' := (three_at x.n x.e x.l w2).2.2
  go_wp2_with fail
  rw [rounds_succ]
  go_wp2_with fail
  refine (clay_any _ (Z + 1 + 1) 8 x.l (by omega) h3 w2 A2.out).mono ?_
  rintro e w3 ⟨rfl, a1, c1⟩
  have A3 : Hid (Arr w3 (Z + 1 + 1) (layK (layK (layK zero16 0 x.n 4) 4 x.e 4) 8 x.l 4)) := a1
  have C3 : Hid (Chg (Z + 1 + 1) w0 w3) := C2.out.trans c1
  clear a1 c1 t2' A2 C2
  have hld : (Instr.loadAt 142 (.pointer (some ⟨Z + 1 + 1, 0, none⟩))).run Tryd.prog w3 = .ok (.agg (arrV (body x))) w3 :=
    arrV_load (by rw [← body_of, List.map_take]; exact rangeAt_take (arrV_range A3.out.1)) Tryd.underlying142 rfl (by rw [body_len]; kernel_rfl)
  have hat := run_arrayAt (P := Tryd.prog) (w := w3) 142 5 12 (some ⟨Z + 1 + 1, 0, none⟩) 16 16 Tryd.underlying142 (by omega)
  go_wp2_with fail
  rw [rounds_succ]
  go_wp2_with (first | refine wpList_load_at rfl 142 _ rfl _ _ rfl hld ?_)
  clear hld hat
  refine (sum_any (body x) (body_len x) w3).mono ?_
  rintro e w4' ⟨rfl, hb4⟩
  have A4 : Hid (Arr w4' (Z + 1 + 1) (layK (layK (layK zero16 0 x.n 4) 4 x.e 4) 8 x.l 4)) := A3.out.below hb4
  have C4 : Hid (Chg (Z + 1 + 1) w0 w4') := C3.out.then hb4
  clear hb4 A3 C3
  have hcr := crc_lt (body x)
  obtain ⟨c, hc⟩ : ∃ c, c = crc (body x) := ⟨_, rfl⟩
  have HC : Hid (c = crc (body x)) := hc
  rw [← hc] at hcr ⊢
  clear hc
  go_wp2_with fail
  refine (clay_any _ (Z + 1 + 1) 12 c (by omega) hcr w4' A4.out).mono ?_
  rintro e w5 ⟨rfl, a1, c1⟩
  have A5 : Hid (Arr w5 (Z + 1 + 1) (img x)) := by
    rw [HC.out, img_of] at a1
    exact a1
  have C5 : Hid (Chg (Z + 1 + 1) w0 w5) := C4.out.trans c1
  clear a1 c1 A4 C4
  have R5 : Hid (w5.heap[Z + 1]? = some (.cells (arrV zero16) 116 (0, 0))) := by
    show _ = _
    rw [C5.out.block (Z + 1) (by have := A0.out.lt; omega) (by omega)]; exact R0.out
  have hld : (Instr.loadAt 116 (.pointer (some ⟨Z + 1 + 1, 0, none⟩))).run Tryd.prog w5 = .ok (.agg (arrV (img x))) w5 :=
    arrV_load (arrV_range A5.out.1) Tryd.underlying116 rfl (by rw [img_len]; kernel_rfl)
  have hin : (Tryd.prog.info? 116).map (·.size) = some (arrV (img x)).size := by rw [arrV_size, img_len]; kernel_rfl
  have HI : Hid ((Tryd.prog.info? 116).map (·.size) = some (arrV (img x)).size) := hin
  have HO : Hid ((arrV (img x)).all (·.oneCell') = true) := all_oneCell_toArray (fun v hv => by
    obtain ⟨y, _, rfl⟩ := List.mem_map.1 hv
    rfl)
  clear hin
  go_wp2_with (first | refine wpList_load_at rfl 116 _ rfl _ _ rfl hld ?_ | refine wpList_store_row rfl 116 _ _ rfl (Z + 1) (arrV (img x)) rfl rfl 116 _ R5.out HI.out rfl HO.out ?_)
  refine bodyPost_ret (results_cell_row rfl _ _ (Z + 1) _ (arrV (img x)) _ _ rfl (setRow_heap _ _ _ _ _ _ R5.out) Tryd.underlying116 rfl HI.out) rfl ?_
  refine ⟨rfl, ?_⟩
  have hb := Chg.below B0.out C5.out (by have := HZ.out; omega)
  refine hb.trans ⟨rfl, rfl, rfl, by simp [World.setRow], fun k hk => by simp only [World.setRow]; rw [Array.getElem?_modify, if_neg (by have := HZ.out; omega)]⟩
end Go.Proofs.YthmnmdikpccenacDoor
