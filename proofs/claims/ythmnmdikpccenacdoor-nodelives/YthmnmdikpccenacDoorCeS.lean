/-
  Package cell's sum.
-/
import Derived.Test.YthmnmdikpccenacDoorGeP
import Derived.Test.YthmnmdikpccenacDoorCeM
import Derived.Laws.BitsAllLaws
import Derived.Laws.Cover3
import Derived.Deep.MidRow
namespace Go.Proofs.YthmnmdikpccenacDoor
open Go.RowKit

def u8v (v : UInt8) : Value := .int .u8 v.toNat
def arrV (L : List UInt8) : Array Value := (L.map u8v).toArray
theorem arrV_size (L : List UInt8) : (arrV L).size = L.length := by simp [arrV]
theorem arrV_at (L : List UInt8) (i : Nat) (h : i < L.length) : (arrV L)[i]? = some (u8v L[i]) := by simp [arrV, h]
theorem arrV_range {w : World} {b : Nat} {t : TypeId} {fr : Nat × Nat} {L : List UInt8} (h : w.heap[b]? = some (.cells (arrV L) t fr)) : w.rangeAt b 0 (L.map u8v) := fun j v hv => by
  rw [Nat.zero_add, cell_of_row w b j _ _ _ h]
  simpa [arrV] using hv
theorem arrV_load {w : World} {b o : Nat} {L : List UInt8} {ty : TypeId} {d : TypeDesc} (h : w.rangeAt b o (L.map u8v)) (hu : Tryd.prog.underlying ty = some d) (hd : d.isRow = true) (hi : (Tryd.prog.info? ty).map (·.size) = some L.length) :
    (Instr.loadAt ty (.pointer (some ⟨b, o, none⟩))).run Tryd.prog w = .ok (.agg (arrV L)) w :=
  run_loadAt_mid w b o ty (L.map u8v) d h hu hd (by rw [List.length_map]; exact hi)
theorem arrV_index {n : Nat} {ty : TypeId} (hu : Tryd.prog.underlying ty = some (.array n 5)) (L : List UInt8) (i : Nat) (hl : L.length = n) (hi : i < L.length) (w : World) :
    (Instr.index ty (.agg (arrV L)) (.int .i64 i)).run Tryd.prog w = .ok (u8v L[i]) w := by
  have hs : (sizeOf 5).run Tryd.prog w = .ok 1 w := by kernel_rfl
  have hagg : (isAgg 5).run Tryd.prog w = .ok false w := by
    unfold isAgg
    rw [Sem.run_bind, run_underlying Tryd.underlying5 w]
    rfl
  have hc : (0 : Int) ≤ (i : Int) ∧ (i : Int) < (n : Nat) := by omega
  simp only [Instr.index, asIntOf, Sem.run_bind, Sem.run_pure, Result.andThen_ok, run_underlying hu w]
  rw [if_pos hc]
  simp only [Sem.run_bind, hs, Result.andThen_ok, part, hagg, Bool.false_eq_true, if_false, Int.toNat_natCast, Nat.mul_one, arrV_at L i hi, Sem.run_pure]
set_option maxRecDepth 100000 in
set_option maxHeartbeats 2000000 in
theorem sum_any (L : List UInt8) (h : L.length = 12) (w : World) :
    Calls Tryd.prog 73 #[.agg (arrV L)] w fun e w' => e = .returned (.int .u32 (crc L)) ∧ Below w.heap.size w w' := by
  have hld : (Instr.loadAt 142 (.pointer (some ⟨w.heap.size, 0, none⟩))).run Tryd.prog (w.alloc (.cells (arrV L) 142)) = .ok (.agg (arrV L)) (w.alloc (.cells (arrV L) 142)) :=
    arrV_load (arrV_range (heap_alloc_new w _)) Tryd.underlying142 rfl (by rw [h]; kernel_rfl)
  have HX : Hid (∀ k : Nat, (hk : k < L.length) → (Instr.index 142 (.agg (arrV L)) (.int .i64 k)).run Tryd.prog (w.alloc (.cells (arrV L) 142)) = .ok (u8v L[k]) (w.alloc (.cells (arrV L) 142))) := fun k hk => arrV_index Tryd.underlying142 L k h hk _
  have HB : Hid (Below w.heap.size w (w.alloc (.cells (arrV L) 142))) := aB _ _
  generalize arrV L = arr at *
  go_enter Tryd.func73, Tryd.ntmps73
  go_wp2_with (first | refine wpList_load_at rfl 142 _ rfl _ _ rfl hld ?_)
  generalize w.alloc (.cells arr 142) = w1 at *
  clear hld
  go_loop [3, 8] (fun r i => ∃ k : Nat, k ≤ 12 ∧ i = .int .i64 k ∧ r = .int .u32 (crcR (L.take k))) (fun _ i => 12 - (intOf i).toNat)
  case atStart => exact ⟨0, by omega, rfl, rfl⟩
  case round =>
    obtain ⟨k, hk, rfl, rfl⟩ := hrel
    by_cases hlt : k < 12
    · have hix := HX.out k (by omega)
      have hv := (L[k]'(by omega)).toNat_lt
      have hr := crcR_lt (L.take k)
      have HS : Hid (crcR (L.take (k + 1)) = crcByte (crcR (L.take k)) (L[k]'(by omega))) := by
        show _ = _
        rw [List.take_succ_eq_append_getElem (by omega), crcR_snoc]
      generalize L[k]'(by omega) = v at *
      generalize crcR (L.take k) = r at *
      unfold u8v at hix
      go_wp2_with fail
      rw [u32_xor_nat r v.toNat hr (by omega)]
      have hx := crcX_lt hr v
      have HQ : Hid (crcByte r v = crcBits 8 (r ^^^ v.toNat)) := rfl
      generalize r ^^^ v.toNat = q at *
      go_loop [3, 15] (fun r i => ∃ j : Nat, j ≤ 8 ∧ i = .int .i64 j ∧ r = .int .u32 (crcBits j q)) (fun _ i => 8 - (intOf i).toNat)
      case atStart => exact ⟨0, by omega, rfl, rfl⟩
      case round =>
        obtain ⟨j, hj, rfl, rfl⟩ := hrel
        have hq := crcBits_lt hx j
        have HN : Hid (crcBits (j + 1) q = crcBit (crcBits j q)) := rfl
        generalize hE : crcBits j q = z at *
        have HE : Hid (z = crcBits j q) := hE.symm
        clear hE
        by_cases hlj : j < 8
        · have ha : bits .and .u32 z 1 = ((z % 2 : Nat) : Int) := by
            have := u32_and_nat z 1 hq (by omega)
            rw [Nat.and_one_is_mod] at this
            exact this
          rcases Nat.mod_two_eq_zero_or_one z with h2 | h2
          · rw [h2] at ha
            go_wp2_with fail
            refine ⟨⟨j + 1, by omega, by go_num, ?_⟩, by simp [intOf]; omega⟩
            rw [HN.out, crcBit, if_neg (by omega), Int.natCast_ediv]
            rfl
          · rw [h2] at ha
            go_wp2_with fail
            refine ⟨⟨j + 1, by omega, by go_num, ?_⟩, by simp [intOf]; omega⟩
            have hxp := u32_xor_nat (z / 2) 3988292384 (by omega) (by omega)
            rw [Int.natCast_ediv] at hxp
            rw [HN.out, crcBit, if_pos h2]
            exact congrArg (Value.int .u32) hxp
        · have hj8 : j = 8 := by omega
          have HJ : Hid (j = 8) := hj8
          clear hj8
          have HZ : Hid (z = crcBits 8 q) := by rw [← HJ.out]; exact HE.out
          go_wp2_with fail
          refine ⟨⟨k + 1, by omega, by go_num, ?_⟩, by simp [intOf]; omega⟩
          rw [HS.out, HQ.out, HZ.out]
    · have HK : Hid (k = 12) := (show k = 12 by omega)
      have hr := crcR_lt L
      have HL : Hid (L.take k = L) := List.take_of_length_le (by omega)
      rw [HL.out]
      have HC : Hid (crc L = 4294967295 ^^^ crcR L) := rfl
      generalize crcR L = r at *
      have hxm : bits .xor .u32 IntKind.u32.max r = ((4294967295 ^^^ r : Nat) : Int) := u32_xor_nat 4294967295 r (by omega) hr
      go_wp2_with fail
      go_ret
      exact ⟨by rw [HC.out]; rfl, HB.out⟩
end Go.Proofs.YthmnmdikpccenacDoor
