/-
  Bytes that stay, in memory; slotOf, write; a slot that is held.
-/
import Derived.Test.YthmnmdikpccenacDoorCeI
import Derived.Deep.RegionHeld3
import Derived.Deep.QuietTactic
import Derived.BigQuiet
namespace Go.Proofs.YthmnmdikpccenacDoor
open Go.RowKit

def byArr (s : By) : Array Value := (s.B.map u8v ++ ([.bool s.on, .bool s.cut, .int .i64 s.left] : List Value)).toArray
def Byt (w : World) (b : Nat) (s : By) : Prop := w.heap[b]? = some (.cells (byArr s) 62 (0, 0)) ∧ s.B.length = 64
theorem Byt.lt {w : World} {b : Nat} {s : By} (h : Byt w b s) : b < w.heap.size := by
  rcases Nat.lt_or_ge b w.heap.size with h1 | h1
  · exact h1
  · have := h.1; rw [Array.getElem?_eq_none h1] at this; cases this
theorem Byt.below {w w' : World} {b : Nat} {s : By} (h : Byt w b s) (hb : Below w.heap.size w w') : Byt w' b s := ⟨by rw [hb.block b h.lt]; exact h.1, h.2⟩
theorem Byt.chg {w w' : World} {b c : Nat} {s : By} (h : Byt w b s) (hb : Chg c w w') (hn : b ≠ c) : Byt w' b s := ⟨by rw [hb.block b h.lt hn]; exact h.1, h.2⟩
theorem Byt.drew {w : World} {b : Nat} {s : By} (h : Byt w b s) : Byt w.drew b s := h
theorem Byt.at' {w : World} {b : Nat} {s : By} (h : Byt w b s) (i : Nat) (hi : i < 64) : w.cell? ⟨b, i, none⟩ = some (u8v (s.B.getD i 0)) := by
  have hl := h.2
  rw [cell_of_row w b i _ _ _ h.1]
  simp only [byArr, List.getElem?_toArray]
  rw [List.getElem?_append_left (by simp; omega), List.getElem?_map, List.getD_eq_getElem?_getD, List.getElem?_eq_getElem (by omega)]
  rfl
theorem Byt.tail {w : World} {b : Nat} {s : By} (h : Byt w b s) (i : Nat) : w.cell? ⟨b, 64 + i, none⟩ = ([.bool s.on, .bool s.cut, .int .i64 s.left] : List Value)[i]? := by
  have hl := h.2
  rw [cell_of_row w b _ _ _ _ h.1]
  simp only [byArr, List.getElem?_toArray]
  rw [List.getElem?_append_right (by simp; omega), List.length_map, hl, Nat.add_sub_cancel_left]
theorem Byt.on {w : World} {b : Nat} {s : By} (h : Byt w b s) : w.cell? ⟨b, 64, none⟩ = some (.bool s.on) := h.tail 0
theorem Byt.cut {w : World} {b : Nat} {s : By} (h : Byt w b s) : w.cell? ⟨b, 65, none⟩ = some (.bool s.cut) := h.tail 1
theorem Byt.left {w : World} {b : Nat} {s : By} (h : Byt w b s) : w.cell? ⟨b, 66, none⟩ = some (.int .i64 s.left) := h.tail 2
theorem Byt.fr {w : World} {b : Nat} {s : By} (h : Byt w b s) (i : Nat) : w.frozen? ⟨b, i, none⟩ = false := frozen_of_row w b i _ _ h.1
theorem byArr_B (s : By) (hs : s.B.length = 64) (i : Nat) (hi : i < 64) (v : UInt8) : (byArr s).setIfInBounds i (u8v v) = byArr ⟨s.B.set i v, s.on, s.cut, s.left⟩ := by
  apply Array.ext'
  simp only [byArr, Array.toList_setIfInBounds]
  rw [List.set_append_left _ _ (by simp; omega), List.map_set]
theorem byArr_tail (s : By) (hs : s.B.length = 64) (i : Nat) (v : Value) : (byArr s).setIfInBounds (64 + i) v = (s.B.map u8v ++ ([.bool s.on, .bool s.cut, .int .i64 s.left] : List Value).set i v).toArray := by
  apply Array.ext'
  simp only [byArr, Array.toList_setIfInBounds]
  rw [List.set_append_right _ _ (by simp; omega), List.length_map, hs, Nat.add_sub_cancel_left]
theorem Byt.setB {w : World} {b : Nat} {s : By} (h : Byt w b s) (i : Nat) (hi : i < 64) (v : UInt8) : Byt (w.setCell ⟨b, i, none⟩ (u8v v)) b ⟨s.B.set i v, s.on, s.cut, s.left⟩ :=
  ⟨by rw [heap_setCell_same w b _ _ _ _ h.1, byArr_B s h.2 i hi], by simp [h.2]⟩
theorem Byt.setOn {w : World} {b : Nat} {s : By} (h : Byt w b s) (o : Bool) : Byt (w.setCell ⟨b, 64, none⟩ (.bool o)) b ⟨s.B, o, s.cut, s.left⟩ :=
  ⟨by rw [heap_setCell_same w b _ _ _ _ h.1, byArr_tail s h.2 0]; rfl, h.2⟩
theorem Byt.setCut {w : World} {b : Nat} {s : By} (h : Byt w b s) (o : Bool) : Byt (w.setCell ⟨b, 65, none⟩ (.bool o)) b ⟨s.B, s.on, o, s.left⟩ :=
  ⟨by rw [heap_setCell_same w b _ _ _ _ h.1, byArr_tail s h.2 1]; rfl, h.2⟩
theorem Byt.setLeft {w : World} {b : Nat} {s : By} (h : Byt w b s) (n : Nat) : Byt (w.setCell ⟨b, 66, none⟩ (.int .i64 n)) b ⟨s.B, s.on, s.cut, n⟩ :=
  ⟨by rw [heap_setCell_same w b _ _ _ _ h.1, byArr_tail s h.2 2]; rfl, h.2⟩
theorem Byt.range {w : World} {b : Nat} {s : By} (h : Byt w b s) (k : Nat) (hk : k < 2) : w.rangeAt b (20 * k) ((slotL s.B k).map u8v) := fun j v hv => by
  have hl := h.2
  rw [List.getElem?_map] at hv
  obtain ⟨u, hu, rfl⟩ := Option.map_eq_some_iff.1 hv
  unfold slotL at hu
  rw [List.getElem?_take] at hu
  split at hu
  · rename_i hj
    rw [List.getElem?_drop] at hu
    rw [h.at' _ (by omega), List.getD_eq_getElem?_getD, hu]
    rfl
  · cases hu
theorem slotL_len {B : List UInt8} (h : B.length = 64) (k : Nat) (hk : k < 2) : (slotL B k).length = 16 := by
  simp [slotL, h]; omega

theorem slotOf_any (n : Nat) (w : World) : Calls Tryd.prog 52 #[.int .i64 n] w fun e w' => e = .returned (.int .i64 ((n % 2 : Nat) : Int)) ∧ w' = w := by
  go_enter Tryd.func52, Tryd.ntmps52
  go_wp2_with fail
  go_ret
  exact ⟨by rw [Int.natCast_emod]; rfl, rfl⟩
theorem boff_any (b : Nat) (s : By) (w : World) (S : Byt w b s) : Calls Tryd.prog 71 #[.pointer (some ⟨b, 0, none⟩)] w fun e w' => e = .returned (.tuple #[]) ∧ Byt w' b s.off ∧ Chg b w w' := by
  have HS : Hid (Byt w b s) := S
  have h0 := S.on
  have f0 := S.fr 64
  clear S
  go_enter Tryd.func71, Tryd.ntmps71
  go_wp2_with fail
  go_end0
  exact ⟨rfl, HS.out.setOn false, Chg.set _ _ _ _⟩
set_option maxRecDepth 100000 in
set_option maxHeartbeats 2000000 in
theorem write_no (b p : Nat) (v : UInt8) (s : By) (w : World) (S : Byt w b s) (h : s.ok = false) :
    Calls Tryd.prog 53 #[.pointer (some ⟨b, 0, none⟩), .int .i64 p, u8v v] w fun e w' => e = .returned (.bool false) ∧ Byt w' b s.off ∧ Chg b w w' := by
  obtain ⟨B, on, cut, left⟩ := s
  have HS : Hid (Byt w b ⟨B, on, cut, left⟩) := S
  have h0 := S.on
  have h1 := S.cut
  have h2 := S.left
  clear S
  simp only [By.ok] at h h0 h1 h2
  by_cases hc : cut = true ∧ left = 0
  · obtain ⟨rfl, rfl⟩ := hc
    clear h
    go_enter Tryd.func53, Tryd.ntmps53
    go_wp2_with fail
    refine (boff_any b _ _ HS.out).mono ?_
    rintro e w1 ⟨rfl, s1, c1⟩
    have H1 : Hid (Byt w1 b ⟨B, false, true, 0⟩) := s1
    have C1 : Hid (Chg b w w1) := c1
    have g0 : w1.cell? ⟨b, 64, none⟩ = some (.bool false) := s1.on
    clear s1 c1 h0 h1 h2
    go_wp2_with fail
    go_ret
    exact ⟨rfl, H1.out, C1.out⟩
  · obtain rfl : on = false := by
      cases on
      · rfl
      · exfalso; apply hc
        simpa using h
    clear h
    have HE : Hid (Byt w b (By.off ⟨B, false, cut, left⟩)) := HS.out
    cases cut
    · clear hc
      go_enter Tryd.func53, Tryd.ntmps53
      go_wp2_with fail
      go_ret
      exact ⟨rfl, HE.out, Chg.refl _ _⟩
    · have hl : left ≠ 0 := fun e => hc ⟨rfl, e⟩
      have hz : ((left : Int) == 0) = false := beq_eq_false_iff_ne.2 (by omega)
      clear hc
      go_enter Tryd.func53, Tryd.ntmps53
      go_wp2_with fail
      go_ret
      exact ⟨rfl, HE.out, Chg.refl _ _⟩
set_option maxRecDepth 100000 in
set_option maxHeartbeats 2000000 in
theorem write_ok (b p : Nat) (hp : p < 64) (v : UInt8) (s : By) (w : World) (S : Byt w b s) (h : s.ok = true) (hL : s.left ≤ 9223372036854775807) :
    Calls Tryd.prog 53 #[.pointer (some ⟨b, 0, none⟩), .int .i64 p, u8v v] w fun e w' => e = .returned (.bool true) ∧ Byt w' b (s.wr p v) ∧ Chg b w w' := by
  obtain ⟨B, on, cut, left⟩ := s
  have HS : Hid (Byt w b ⟨B, on, cut, left⟩) := S
  have h0 := S.on
  have h1 := S.cut
  have h2 := S.left
  have h3 := S.at' p hp
  have f2 := S.fr 66
  have f3 := S.fr p
  have hb := S.lt
  clear S
  simp only [By.ok, Bool.and_eq_true] at h h0 h1 h2 hL
  obtain ⟨rfl, hz⟩ := h
  have HV : Hid (Value.int .u8 v.toNat = u8v v) := rfl
  generalize u8v (List.getD _ p 0) = old at *
  unfold u8v
  cases cut
  · clear hz
    go_enter Tryd.func53, Tryd.ntmps53
    go_wp2_with fail
    go_ret
    refine ⟨rfl, ?_, Chg.set _ _ _ _⟩
    rw [HV.out]
    exact HS.out.setB p hp v
  · have hl : left ≠ 0 := fun e => by subst e; simp at hz
    have hz : ((left : Int) == 0) = false := beq_eq_false_iff_ne.2 (by omega)
    have hpn : p ≠ 66 := by omega
    go_enter Tryd.func53, Tryd.ntmps53
    go_wp2_with fail
    go_ret
    refine ⟨rfl, ?_, (Chg.set _ _ _ _).trans (Chg.set _ _ _ _)⟩
    rw [HV.out, show (left : Int) - 1 = ((left - 1 : Nat) : Int) from by omega]
    exact (HS.out.setLeft (left - 1)).setB p hp v
end Go.Proofs.YthmnmdikpccenacDoor
