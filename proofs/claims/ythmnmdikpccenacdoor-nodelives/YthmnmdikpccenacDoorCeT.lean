/-
  Package cell's take, lay, image.
-/
import Derived.Test.YthmnmdikpccenacDoorCeS
import Derived.Laws.BitsLemmas
namespace Go.Proofs.YthmnmdikpccenacDoor
open Go.RowKit

theorem or8 (a b : Nat) (ha : a < 4294967296) (hb : b < 256) : bits BinOp.or IntKind.i64 ((a : Int) * 256) (b : Int) = ((256 * a + b : Nat) : Int) := by
  have h := bits_join .i64 63 (by decide) (fun n h0 h1 => by rw [IntKind.wrap_i64]; omega) 8 ((a : Int) * 256) (b : Int) (by omega) (by omega) (by omega) (by omega) (by omega) (by omega)
  rw [h]; omega
theorem u8v_of (n m : Nat) (h : n % 256 = m % 256) : u8v (UInt8.ofNat n) = .int .u8 ((m % 256 : Nat) : Int) := by
  unfold u8v
  rw [byte_of, h]
theorem arrV_cell {w : World} {b : Nat} {t : TypeId} {fr : Nat × Nat} {L : List UInt8} (h : w.heap[b]? = some (.cells (arrV L) t fr)) (i : Nat) (hi : i < L.length) : w.cell? ⟨b, i, none⟩ = some (u8v L[i]) := by
  rw [cell_of_row w b i _ _ _ h, arrV_at L i hi]
set_option maxRecDepth 100000 in
set_option maxHeartbeats 2000000 in
theorem ctake_any (L : List UInt8) (h : L.length = 16) (p : Nat) (hp : p + 4 ≤ 16) (w : World) :
    Calls Tryd.prog 86 #[.agg (arrV L), .int .i64 p] w fun e w' => e = .returned (.int .i64 (beN L p 4)) ∧ Below w.heap.size w w' := by
  have HC : Hid (∀ i : Nat, (hi : i < L.length) → (w.alloc (.cells (arrV L) 116)).cell? ⟨w.heap.size, i, none⟩ = some (u8v L[i])) := fun i hi => arrV_cell (heap_alloc_new w _) i hi
  have HB : Hid (Below w.heap.size w (w.alloc (.cells (arrV L) 116))) := aB _ _
  generalize arrV L = arr at *
  go_enter Tryd.func86, Tryd.ntmps86
  go_wp2_with fail
  generalize w.alloc (.cells arr 116) = w1 at *
  go_loop [5, 7] (fun r i => ∃ k : Nat, k ≤ 4 ∧ i = .int .i64 k ∧ r = .int .i64 (beN L p k)) (fun _ i => 4 - (intOf i).toNat)
  case atStart => exact ⟨0, by omega, rfl, rfl⟩
  case round =>
    obtain ⟨k, hk, rfl, rfl⟩ := hrel
    by_cases hlt : k < 4
    · have hix := HC.out (p + k) (by omega)
      have hv := (L[p + k]'(by omega)).toNat_lt
      have hr := beN_lt L p k
      have hr2 : beN L p k < 4294967296 := by
        have : 256 ^ k ≤ 256 ^ 3 := Nat.pow_le_pow_right (by decide) (by omega)
        have e : (256 : Nat) ^ 3 = 16777216 := by decide
        omega
      have HS : Hid (beN L p (k + 1) = 256 * beN L p k + (L[p + k]'(by omega)).toNat) := by
        show _ = _
        rw [beN, List.getD_eq_getElem?_getD, List.getElem?_eq_getElem (by omega)]
        rfl
      generalize L[p + k]'(by omega) = v at *
      generalize beN L p k = r at *
      unfold u8v at hix
      clear hr
      go_wp2_with fail
      refine ⟨⟨k + 1, by omega, by go_num, ?_⟩, by simp [intOf]; omega⟩
      rw [HS.out, or8 _ _ hr2 hv]
    · have HK : Hid (k = 4) := (show k = 4 by omega)
      generalize hr : beN L p k = r at *
      have HR : Hid (r = beN L p 4) := by rw [← HK.out]; exact hr.symm
      clear hr
      go_wp2_with fail
      go_ret
      exact ⟨by rw [← HR.out]; rfl, HB.out⟩
/-- j bytes of a number laid from p on. -/
def layK (L : List UInt8) (p v : Nat) : Nat → List UInt8
  | 0 => L
  | j + 1 => (layK L p v j).set (p + j) (UInt8.ofNat (v / 256 ^ (3 - j)))
theorem layK_len (L : List UInt8) (p v : Nat) : ∀ j, (layK L p v j).length = L.length
  | 0 => rfl
  | j + 1 => by rw [layK, List.length_set, layK_len L p v j]
def Arr (w : World) (b : Nat) (L : List UInt8) : Prop := w.heap[b]? = some (.cells (arrV L) 116 (0, 0)) ∧ L.length = 16
theorem Arr.lt {w : World} {b : Nat} {L : List UInt8} (h : Arr w b L) : b < w.heap.size := by
  rcases Nat.lt_or_ge b w.heap.size with h1 | h1
  · exact h1
  · have := h.1; rw [Array.getElem?_eq_none h1] at this; cases this
theorem Arr.below {w w' : World} {b : Nat} {L : List UInt8} (h : Arr w b L) (hb : Below w.heap.size w w') : Arr w' b L := ⟨by rw [hb.block b h.lt]; exact h.1, h.2⟩
theorem arrV_set (L : List UInt8) (i : Nat) (v : UInt8) : (arrV L).setIfInBounds i (u8v v) = arrV (L.set i v) := by
  apply Array.ext_getElem?
  intro j
  simp only [arrV, Array.getElem?_setIfInBounds, List.getElem?_toArray, List.getElem?_map, List.getElem?_set, List.size_toArray, List.length_map]
  by_cases h : i = j
  · subst h
    by_cases h2 : i < L.length <;> simp [h2]
  · simp [h]
theorem Arr.set {w : World} {b : Nat} {L : List UInt8} (h : Arr w b L) (i : Nat) (v : UInt8) : Arr (w.setCell ⟨b, i, none⟩ (u8v v)) b (L.set i v) :=
  ⟨by rw [heap_setCell_same w b _ _ _ _ h.1, arrV_set], by rw [List.length_set]; exact h.2⟩
theorem Arr.drew {w : World} {b : Nat} {L : List UInt8} (h : Arr w b L) : Arr w.drew b L := h
set_option maxRecDepth 100000 in
set_option maxHeartbeats 4000000 in
theorem clay_any (L : List UInt8) (b p v : Nat) (hp : p + 4 ≤ 16) (hv : v < 4294967296) (w : World) (A : Arr w b L) :
    Calls Tryd.prog 72 #[.pointer (some ⟨b, 0, none⟩), .int .i64 p, .int .i64 v] w fun e w' => e = .returned (.tuple #[]) ∧ Arr w' b (layK L p v 4) ∧ Chg b w w' := by
  have HA : Hid (Arr w b L) := A
  clear A
  go_enter Tryd.func72, Tryd.ntmps72
  go_wp2_with fail
  go_loopw [7] (fun i wr => ∃ k : Nat, k ≤ 4 ∧ i = .int .i64 k ∧ Arr wr b (layK L p v k) ∧ Chg b w wr) (fun i _ => 4 - (intOf i).toNat)
  case atStart => exact ⟨0, by omega, rfl, HA.out, Chg.refl _ _⟩
  case round =>
    obtain ⟨k, hk, rfl, ha, hc⟩ := hrel
    have HR : Hid (Arr wr b (layK L p v k)) := ha
    have HC : Hid (Chg b w wr) := hc
    clear ha hc
    by_cases hlt : k < 4
    · have hcell := arrV_cell HR.out.1 (p + k) (by have := HR.out.2; omega)
      have hfz := frozen_of_row wr b (p + k) _ _ HR.out.1
      obtain ⟨x, hx⟩ : ∃ x, wr.cell? ⟨b, p + k, none⟩ = some x := ⟨_, hcell⟩
      clear hcell
      have HN : Hid (∀ y, layK L p v (k + 1) = (layK L p v k).set (p + k) y → Arr (wr.setCell ⟨b, p + k, none⟩ (u8v y)) b (layK L p v (k + 1))) := fun y hy => by rw [hy]; exact HR.out.set _ _
      have hj : k = 0 ∨ k = 1 ∨ k = 2 ∨ k = 3 := by omega
      rcases hj with rfl | rfl | rfl | rfl
      · rw [Nat.add_zero] at hx hfz
        have h3 := HN.out (UInt8.ofNat (v / 16777216)) rfl
        rw [u8v_of (v / 16777216) (v / 16777216) rfl, Nat.add_zero, show v / 16777216 % 256 = v / 16777216 from by omega, Int.natCast_ediv] at h3
        have H3 : Hid (Arr (wr.setCell ⟨b, p, none⟩ (.int .u8 (v / 16777216))) b (layK L p v 1)) := h3
        clear hlt hk h3
        go_wp2_with fail
        go_region
        go_wp2_with fail
        exact ⟨⟨1, by omega, rfl, H3.out.drew, (HC.out.trans (Chg.set b _ _ _)).then (Below.refl _ _).drew⟩, by simp [intOf]⟩
      · have h3 := HN.out (UInt8.ofNat (v / 65536)) rfl
        rw [u8v_of (v / 65536) (v / 65536) rfl, Int.natCast_emod, Int.natCast_ediv] at h3
        have H3 : Hid (Arr (wr.setCell ⟨b, p + 1, none⟩ (.int .u8 (v / 65536 % 256))) b (layK L p v 2)) := h3
        clear hlt hk h3
        go_wp2_with fail
        go_region
        go_wp2_with fail
        exact ⟨⟨2, by omega, rfl, H3.out.drew, (HC.out.trans (Chg.set b _ _ _)).then (Below.refl _ _).drew⟩, by simp [intOf]⟩
      · have h3 := HN.out (UInt8.ofNat (v / 256)) rfl
        rw [u8v_of (v / 256) (v / 256) rfl, Int.natCast_emod, Int.natCast_ediv] at h3
        have H3 : Hid (Arr (wr.setCell ⟨b, p + 2, none⟩ (.int .u8 (v / 256 % 256))) b (layK L p v 3)) := h3
        clear hlt hk h3
        go_wp2_with fail
        go_region
        go_wp2_with fail
        exact ⟨⟨3, by omega, rfl, H3.out.drew, (HC.out.trans (Chg.set b _ _ _)).then (Below.refl _ _).drew⟩, by simp [intOf]⟩
      · have h3 := HN.out (UInt8.ofNat v) (by rw [layK]; simp)
        rw [u8v_of v v rfl, Int.natCast_emod] at h3
        have H3 : Hid (Arr (wr.setCell ⟨b, p + 3, none⟩ (.int .u8 (v % 256))) b (layK L p v 4)) := h3
        clear hlt hk h3
        go_wp2_with fail
        go_region
        go_wp2_with fail
        exact ⟨⟨4, by omega, rfl, H3.out.drew, (HC.out.trans (Chg.set b _ _ _)).then (Below.refl _ _).drew⟩, by simp [intOf]⟩
    · have HK : Hid (k = 4) := (show k = 4 by omega)
      go_wp2_with fail
      go_end0
      exact ⟨rfl, by rw [← HK.out]; exact HR.out, HC.out⟩
end Go.Proofs.YthmnmdikpccenacDoor
