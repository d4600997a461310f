/-
  The document's cell: value, CRC, Body.
-/
import Derived.Test.YtdkfjjamfefcaabDoorRfY
import Derived.Test.YtdkfjjamfefcaabDoorCeM
import Derived.Laws.BitsAllLaws
import Derived.Laws.BitsLemmas
namespace Go.Proofs.YtdkfjjamfefcaabDoor
open Go.RowKit

/-- a text of these bytes. -/
def stB (L : List UInt8) : ByteArray := ⟨L.toArray⟩
theorem stB_size (L : List UInt8) : (stB L).size = L.length := rfl
theorem stB_data (L : List UInt8) : (stB L).data.toList = L := rfl
theorem stB_append (L M : List UInt8) : stB L ++ stB M = stB (L ++ M) := by apply ByteArray.ext; simp [stB, ByteArray.data_append]
theorem stB_at (L : List UInt8) (i : Nat) (h : i < (stB L).size) : (stB L)[i] = L[i]'h := rfl
theorem byte_mod (n : Nat) : UInt8.ofNat (n % 256) = UInt8.ofNat n := by
  apply UInt8.toNat_inj.1
  rw [byte_of, byte_of]
  omega
theorem wide_w4 (n : Nat) : wideL n 4 = w4 n := by
  rw [wideL_snoc, wideL_snoc, wideL_snoc, wideL_snoc]
  have e : ∀ m : Nat, UInt8.ofNat ((m : Int) % 256).toNat = UInt8.ofNat m := fun m => by
    rw [show ((m : Int) % 256).toNat = m % 256 from by omega, byte_mod]
  have e3 : ((n : Int) / 256 ^ 3) = ((n / 16777216 : Nat) : Int) := by omega
  have e2 : ((n : Int) / 256 ^ 2) = ((n / 65536 : Nat) : Int) := by omega
  have e1 : ((n : Int) / 256 ^ 1) = ((n / 256 : Nat) : Int) := by omega
  have e0 : ((n : Int) / 256 ^ 0) = ((n : Nat) : Int) := by omega
  rw [e3, e2, e1, e0, e, e, e, e]
  rfl
theorem wide4_any (n : Nat) (h : n < 4294967296) (w : World) : Calls Tryd.prog 108 #[.int .i64 n, .int .i64 4] w fun e w' => e = .returned (.string (stB (w4 n))) ∧ Below w.heap.size w w' := by
  have := wide_any n (by omega) (by omega) 4 (by omega) w
  rw [wide_w4] at this
  exact this
set_option maxRecDepth 100000 in
set_option maxHeartbeats 2000000 in
theorem value_any (L : List UInt8) (h : L.length = 4) (w : World) : Calls Tryd.prog 93 #[.string (stB L)] w fun e w' => e = .returned (.int .i64 (beN L 0 4)) ∧ w' = w := by
  have hs : (stB L).size = 4 := h
  have HX : Hid (∀ k : Nat, (hk : k < L.length) → beN L 0 (k + 1) = 256 * beN L 0 k + (L[k]'hk).toNat) := fun k hk => by
    rw [beN, Nat.zero_add, List.getD_eq_getElem?_getD, List.getElem?_eq_getElem hk]
    rfl
  have HI : Hid (∀ k : Nat, (hk : k < L.length) → (h2 : k < (stB L).size) → (stB L)[k]'h2 = L[k]'hk) := fun k hk h2 => rfl
  generalize stB L = S at *
  go_enter Tryd.func93, Tryd.ntmps93
  go_wp2_with fail
  go_loop [3, 4] (fun r i => ∃ k : Nat, k ≤ 4 ∧ i = .int .i64 k ∧ r = .int .i64 (beN L 0 k)) (fun _ i => 4 - (intOf i).toNat)
  case atStart => exact ⟨0, by omega, rfl, rfl⟩
  case round =>
    obtain ⟨k, hk, rfl, rfl⟩ := hrel
    by_cases hlt : k < 4
    · have hS : (k : Int) < (S.size : Int) := by omega
      have hS2 : k < S.size := by omega
      have HN := HX.out k (by omega)
      have HNI : Hid (beN L 0 (k + 1) = 256 * beN L 0 k + (L[k]'(by omega)).toNat) := HN
      have HK : Hid (S[k]'hS2 = L[k]'(by omega)) := HI.out k (by omega) hS2
      have hv := (S[k]'hS2).toNat_lt
      have hr := beN_lt L 0 k
      have hr2 : beN L 0 k < 16777216 := by
        have : 256 ^ k ≤ 256 ^ 3 := Nat.pow_le_pow_right (by decide) (by omega)
        have e : (256 : Nat) ^ 3 = 16777216 := by decide
        omega
      clear HN hr
      generalize beN L 0 k = r at *
      go_wp2_with fail
      refine ⟨⟨k + 1, by omega, by go_num, ?_⟩, by simp [intOf]; omega⟩
      rw [HNI.out, ← HK.out]
      go_num
    · have HK : Hid (k = 4) := (show k = 4 by omega)
      generalize hr : beN L 0 k = r at *
      have HR : Hid (r = beN L 0 4) := by rw [← HK.out]; exact hr.symm
      have hS : ¬ (k : Int) < (S.size : Int) := by omega
      clear hr
      go_wp2_with fail
      go_ret
      exact ⟨by rw [← HR.out]; rfl, rfl⟩
/-- one bit of the document's remainder. -/
def rbit (v k c : Nat) : Nat := if (c ^^^ (v / 2 ^ k)) % 2 = 1 then (c / 2) ^^^ 3988292384 else c / 2
def rbits (v c : Nat) : Nat → Nat
  | 0 => c
  | k + 1 => rbit v k (rbits v c k)
theorem rbits_eq (v c : Nat) : ∀ k, rbits v c k ^^^ (v / 2 ^ k) = crcBits k (c ^^^ v)
  | 0 => by simp [rbits, crcBits]
  | k + 1 => by
    have ih := rbits_eq v c k
    have hd : v / 2 ^ (k + 1) = v / 2 ^ k / 2 := by rw [Nat.pow_succ, Nat.div_div_eq_div_mul]
    unfold crcBits rbits rbit crcBit
    rw [← ih, hd]
    generalize rbits v c k = a
    generalize v / 2 ^ k = q
    have hx : (a ^^^ q) / 2 = a / 2 ^^^ q / 2 := by
      have e : ∀ x : Nat, x / 2 = x >>> 1 := fun x => (Nat.shiftRight_eq_div_pow x 1).symm
      rw [e, e, e, Nat.shiftRight_xor_distrib]
    split
    · rw [hx]
      rw [Nat.xor_assoc, Nat.xor_assoc, Nat.xor_comm (q / 2)]
    · rw [hx]
theorem rbits_byte (v : UInt8) (c : Nat) : rbits v.toNat c 8 = crcByte c v := by
  have h := rbits_eq v.toNat c 8
  have hv := v.toNat_lt
  rw [Nat.div_eq_of_lt (by omega), Nat.xor_zero] at h
  exact h
theorem rbit_lt {v k c : Nat} (h : c < 4294967296) : rbit v k c < 4294967296 := by
  unfold rbit
  split
  · exact Nat.xor_lt_two_pow (n := 32) (by omega) (by omega)
  · omega
theorem rbits_lt {v c : Nat} (h : c < 4294967296) : ∀ k, rbits v c k < 4294967296
  | 0 => h
  | k + 1 => rbit_lt (rbits_lt h k)
theorem i64_xor (a b : Nat) (ha : a < 4294967296) (hb : b < 4294967296) : bits .xor .i64 (a : Int) (b : Int) = ((a ^^^ b : Nat) : Int) := by
  have hx : a ^^^ b < 2 ^ 32 := Nat.xor_lt_two_pow (by omega) (by omega)
  have o : ∀ n : Nat, n < 4294967296 → (BitVec.ofInt 64 (n : Int)).toNat = n := fun n hn => by
    rw [BitVec.ofInt_natCast, BitVec.toNat_ofNat]; exact Nat.mod_eq_of_lt (by omega)
  show IntKind.i64.wrap ((BitVec.ofInt 64 (a : Int) ^^^ BitVec.ofInt 64 (b : Int)).toNat : Int) = _
  rw [BitVec.toNat_xor, o a ha, o b hb, IntKind.wrap_i64]
  omega
end Go.Proofs.YtdkfjjamfefcaabDoor
