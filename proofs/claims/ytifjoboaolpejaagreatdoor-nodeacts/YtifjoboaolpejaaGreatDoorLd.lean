/-
  Texts in one: RfY CaA CaB CaC CaD CaE CaF CaG CaO CaP.
-/
import Derived.Test.YtifjoboaolpejaaGreatDoorKa
import Derived.Laws.BytesArg
import Derived.Test.YtifjoboaolpejaaGreatDoorKb
import Derived.Laws.BitsAllLaws
import Derived.Laws.BitsLemmas
import Derived.Test.YtifjoboaolpejaaGreatDoorKc
import Derived.Deep.RegionHeld3
import Derived.Deep.DeepCutAuto
import Derived.Deep.CutRange
import Derived.Lib.BufferWrite
import Derived.Test.YtifjoboaolpejaaGreatDoorKv
namespace Go.Proofs.YtifjoboaolpejaaGreatDoor
open Go.RowKit

set_option maxRecDepth 100000 in
set_option maxHeartbeats 1000000 in
theorem byte_any (n : Int) (h0 : 0 ≤ n) (h1 : n ≤ 255) (w : World) : Calls Tryz.prog 70 #[.int .i64 n] w fun e w' => e = .returned (.string ⟨#[UInt8.ofNat n.toNat]⟩) ∧ Below w.heap.size w w' := by
  have hcv := run_convert_bytes_arg (P := Tryz.prog) (w.alloc (.cells #[.int .u8 (n % 256)] 5)) 72 5 Tryz.underlying72 Tryz.underlying5 w.heap.size 0 1 1 [n % 256] rfl (fun i hi => by
    obtain rfl : i = 0 := by omega
    simp) 9 Tryz.underlying9
  have hst : strOfNums [n % 256] = ⟨#[UInt8.ofNat n.toNat]⟩ := by
    rw [Int.emod_eq_of_lt h0 (by omega)]; rfl
  rw [hst] at hcv
  clear hst h0 h1
  go_enter Tryz.func70, Tryz.ntmps70
  go_wp2_with fail
  go_ret
  exact ⟨rfl, (Below.refl _ _).alloc (Nat.le_refl _) _⟩

/-- n's low bytes, the highest first. -/
def wideL (n : Int) : Nat → List UInt8
  | 0 => []
  | k + 1 => wideL (n / 256) k ++ [UInt8.ofNat (n % 256).toNat]
theorem wideL_snoc : ∀ (k : Nat) (n : Int), wideL n (k + 1) = UInt8.ofNat (n / 256 ^ k % 256).toNat :: wideL n k
  | 0, n => by simp [wideL]
  | k + 1, n => by
    rw [wideL, wideL_snoc k (n / 256), wideL]
    simp only [List.cons_append]
    rw [Int.ediv_ediv_of_nonneg (by omega), show (256 : Int) * 256 ^ k = 256 ^ (k + 1) from by rw [Int.pow_succ, Int.mul_comm]]
theorem wideL_len : ∀ (k : Nat) (n : Int), (wideL n k).length = k
  | 0, _ => rfl
  | k + 1, n => by simp [wideL, wideL_len k]

set_option maxHeartbeats 1000000 in
theorem wide_any (n : Int) (h0 : 0 ≤ n) (h1 : n < 4294967296) (m : Nat) (hm : m ≤ 8) (w : World) : Calls Tryz.prog 115 #[.int .i64 n, .int .i64 m] w fun e w' => e = .returned (.string ⟨(wideL n m).toArray⟩) ∧ Below w.heap.size w w' := by
  go_enter Tryz.func115, Tryz.ntmps115
  go_wp2_with fail
  go_loopw [0, 5, 6] (fun a o t wr => ∃ k : Nat, k ≤ m ∧ t = .int .i64 k ∧ a = .int .i64 (n / 256 ^ k) ∧ o = .string ⟨(wideL n k).toArray⟩ ∧ Below w.heap.size w wr) (fun _ _ t _ => m - (intOf t).toNat)
  case atStart => exact ⟨0, by omega, rfl, by simp, rfl, Below.refl _ _⟩
  case round =>
    obtain ⟨k, hk, rfl, rfl, rfl, hb⟩ := hrel
    have HB : Hid (Below w.heap.size w wr) := hb
    have hl := wideL_len k n
    have hs := wideL_snoc k n
    have HS : Hid (wideL n (k + 1) = UInt8.ofNat (n / 256 ^ k % 256).toNat :: wideL n k) := hs
    have hq : 0 ≤ n / 256 ^ k := Int.ediv_nonneg h0 (by exact Int.le_of_lt (Int.pow_pos (by omega)))
    have hq2 : n / 256 ^ k < 4294967296 := Int.lt_of_le_of_lt (Int.ediv_le_self _ h0) h1
    have hd : n / 256 ^ k / 256 = n / 256 ^ (k + 1) := by rw [Int.ediv_ediv_of_nonneg (by exact Int.le_of_lt (Int.pow_pos (by omega))), Int.pow_succ]
    have HD : Hid (n / 256 ^ k / 256 = n / 256 ^ (k + 1)) := hd
    clear hb hs hd
    generalize n / 256 ^ k = q at *
    generalize hLL : wideL n k = L at *
    have HLL : Hid (wideL n k = L) := hLL
    clear hLL
    have hl2 : L.length ≤ 8 := by omega
    clear hl
    by_cases hlt : k < m
    · go_wp2_with fail
      refine (byte_any _ (by omega) (by omega) _).mono ?_
      rintro e w1 ⟨rfl, hb1⟩
      have HB1 : Hid (Below w.heap.size w w1) := t2 HB.out hb1
      clear hb1
      go_wp2_with fail
      go_roundw
      case rel => exact ⟨k + 1, by omega, by go_num, by rw [← HD.out], congrArg Value.string (by rw [HS.out]; apply ByteArray.ext; simp [ByteArray.data_append]), HB1.out⟩
      case measure => simp [intOf]; omega
    · obtain rfl : k = m := by omega
      have HL : Hid (wideL n k = L) := HLL.out
      go_wp2_with fail
      go_ret
      refine ⟨?_, HB.out⟩
      rw [HL.out]
      rfl

end Go.Proofs.YtifjoboaolpejaaGreatDoor

namespace Go.Proofs.YtifjoboaolpejaaGreatDoor
open Go.RowKit

/-- a text of these bytes. -/
def stB (L : List UInt8) : ByteArray := ⟨L.toArray⟩
theorem stB_size (L : List UInt8) : (stB L).size = L.length := rfl
theorem stB_data (L : List UInt8) : (stB L).data.toList = L := rfl
theorem stB_append (L M : List UInt8) : stB L ++ stB M = stB (L ++ M) := by apply ByteArray.ext; simp [stB, ByteArray.data_append]
theorem stB_at (L : List UInt8) (i : Nat) (h : i < (stB L).size) : (stB L)[i] = L[i]'h := rfl
theorem byte_mod (n : Nat) : UInt8.ofNat (n % 256) = UInt8.ofNat n := by
  apply UInt8.toNat_inj.1
  rw [byte_of, byte_of]
  omega
theorem wide_w4 (n : Nat) : wideL n 4 = w4 n := by
  rw [wideL_snoc, wideL_snoc, wideL_snoc, wideL_snoc]
  have e : ∀ m : Nat, UInt8.ofNat ((m : Int) % 256).toNat = UInt8.ofNat m := fun m => by
    rw [show ((m : Int) % 256).toNat = m % 256 from by omega, byte_mod]
  have e3 : ((n : Int) / 256 ^ 3) = ((n / 16777216 : Nat) : Int) := by omega
  have e2 : ((n : Int) / 256 ^ 2) = ((n / 65536 : Nat) : Int) := by omega
  have e1 : ((n : Int) / 256 ^ 1) = ((n / 256 : Nat) : Int) := by omega
  have e0 : ((n : Int) / 256 ^ 0) = ((n : Nat) : Int) := by omega
  rw [e3, e2, e1, e0, e, e, e, e]
  rfl
theorem wide4_any (n : Nat) (h : n < 4294967296) (w : World) : Calls Tryz.prog 115 #[.int .i64 n, .int .i64 4] w fun e w' => e = .returned (.string (stB (w4 n))) ∧ Below w.heap.size w w' := by
  have := wide_any n (by omega) (by omega) 4 (by omega) w
  rw [wide_w4] at this
  exact this
set_option maxRecDepth 100000 in
set_option maxHeartbeats 2000000 in
theorem value_any (L : List UInt8) (h : L.length = 4) (w : World) : Calls Tryz.prog 68 #[.string (stB L)] w fun e w' => e = .returned (.int .i64 (beN L 0 4)) ∧ w' = w := by
  have hs : (stB L).size = 4 := h
  have HX : Hid (∀ k : Nat, (hk : k < L.length) → beN L 0 (k + 1) = 256 * beN L 0 k + (L[k]'hk).toNat) := fun k hk => by
    rw [beN, Nat.zero_add, List.getD_eq_getElem?_getD, List.getElem?_eq_getElem hk]
    rfl
  have HI : Hid (∀ k : Nat, (hk : k < L.length) → (h2 : k < (stB L).size) → (stB L)[k]'h2 = L[k]'hk) := fun k hk h2 => rfl
  generalize stB L = S at *
  go_enter Tryz.func68, Tryz.ntmps68
  go_wp2_with fail
  go_loop [3, 4] (fun r i => ∃ k : Nat, k ≤ 4 ∧ i = .int .i64 k ∧ r = .int .i64 (beN L 0 k)) (fun _ i => 4 - (intOf i).toNat)
  case atStart => exact ⟨0, by omega, rfl, rfl⟩
  case round =>
    obtain ⟨k, hk, rfl, rfl⟩ := hrel
    by_cases hlt : k < 4
    · have hS : (k : Int) < (S.size : Int) := by omega
      have hS2 : k < S.size := by omega
      have HN := HX.out k (by omega)
      have HNI : Hid (beN L 0 (k + 1) = 256 * beN L 0 k + (L[k]'(by omega)).toNat) := HN
      have HK : Hid (S[k]'hS2 = L[k]'(by omega)) := HI.out k (by omega) hS2
      have hv := (S[k]'hS2).toNat_lt
      have hr := beN_lt L 0 k
      have hr2 : beN L 0 k < 16777216 := by
        have : 256 ^ k ≤ 256 ^ 3 := Nat.pow_le_pow_right (by decide) (by omega)
        have e : (256 : Nat) ^ 3 = 16777216 := by decide
        omega
      clear HN hr
      generalize beN L 0 k = r at *
      go_wp2_with fail
      refine ⟨⟨k + 1, by omega, by go_num, ?_⟩, by simp [intOf]; omega⟩
      rw [HNI.out, ← HK.out]
      go_num
    · have HK : Hid (k = 4) := (show k = 4 by omega)
      generalize hr : beN L 0 k = r at *
      have HR : Hid (r = beN L 0 4) := by rw [← HK.out]; exact hr.symm
      have hS : ¬ (k : Int) < (S.size : Int) := by omega
      clear hr
      go_wp2_with fail
      go_ret
      exact ⟨by rw [← HR.out]; rfl, rfl⟩
/-- one bit of the document's remainder. -/
def rbit (v k c : Nat) : Nat := if (c ^^^ (v / 2 ^ k)) % 2 = 1 then (c / 2) ^^^ 3988292384 else c / 2
def rbits (v c : Nat) : Nat → Nat
  | 0 => c
  | k + 1 => rbit v k (rbits v c k)
theorem rbits_eq (v c : Nat) : ∀ k, rbits v c k ^^^ (v / 2 ^ k) = crcBits k (c ^^^ v)
  | 0 => by simp [rbits, crcBits]
  | k + 1 => by
    have ih := rbits_eq v c k
    have hd : v / 2 ^ (k + 1) = v / 2 ^ k / 2 := by rw [Nat.pow_succ, Nat.div_div_eq_div_mul]
    unfold crcBits rbits rbit crcBit
    rw [← ih, hd]
    generalize rbits v c k = a
    generalize v / 2 ^ k = q
    have hx : (a ^^^ q) / 2 = a / 2 ^^^ q / 2 := by
      have e : ∀ x : Nat, x / 2 = x >>> 1 := fun x => (Nat.shiftRight_eq_div_pow x 1).symm
      rw [e, e, e, Nat.shiftRight_xor_distrib]
    split
    · rw [hx]
      rw [Nat.xor_assoc, Nat.xor_assoc, Nat.xor_comm (q / 2)]
    · rw [hx]
theorem rbits_byte (v : UInt8) (c : Nat) : rbits v.toNat c 8 = crcByte c v := by
  have h := rbits_eq v.toNat c 8
  have hv := v.toNat_lt
  rw [Nat.div_eq_of_lt (by omega), Nat.xor_zero] at h
  exact h
theorem rbit_lt {v k c : Nat} (h : c < 4294967296) : rbit v k c < 4294967296 := by
  unfold rbit
  split
  · exact Nat.xor_lt_two_pow (n := 32) (by omega) (by omega)
  · omega
theorem rbits_lt {v c : Nat} (h : c < 4294967296) : ∀ k, rbits v c k < 4294967296
  | 0 => h
  | k + 1 => rbit_lt (rbits_lt h k)
theorem i64_xor (a b : Nat) (ha : a < 4294967296) (hb : b < 4294967296) : bits .xor .i64 (a : Int) (b : Int) = ((a ^^^ b : Nat) : Int) := by
  have hx : a ^^^ b < 2 ^ 32 := Nat.xor_lt_two_pow (by omega) (by omega)
  have o : ∀ n : Nat, n < 4294967296 → (BitVec.ofInt 64 (n : Int)).toNat = n := fun n hn => by
    rw [BitVec.ofInt_natCast, BitVec.toNat_ofNat]; exact Nat.mod_eq_of_lt (by omega)
  show IntKind.i64.wrap ((BitVec.ofInt 64 (a : Int) ^^^ BitVec.ofInt 64 (b : Int)).toNat : Int) = _
  rw [BitVec.toNat_xor, o a ha, o b hb, IntKind.wrap_i64]
  omega
end Go.Proofs.YtifjoboaolpejaaGreatDoor

namespace Go.Proofs.YtifjoboaolpejaaGreatDoor
open Go.RowKit

set_option maxRecDepth 100000 in
set_option maxHeartbeats 4000000 in
theorem rcrc_any (L : List UInt8) (h : L.length = 12) (w : World) : Calls Tryz.prog 116 #[.string (stB L)] w fun e w' => e = .returned (.int .i64 (crc L)) ∧ w' = w := by
  have hs : (stB L).size = 12 := h
  have HI : Hid (∀ k : Nat, (hk : k < L.length) → (h2 : k < (stB L).size) → (stB L)[k]'h2 = L[k]'hk) := fun k hk h2 => rfl
  generalize stB L = S at *
  go_enter Tryz.func116, Tryz.ntmps116
  go_wp2_with fail
  go_loop [3, 4] (fun r i => ∃ k : Nat, k ≤ 12 ∧ i = .int .i64 k ∧ r = .int .i64 (crcR (L.take k))) (fun _ i => 12 - (intOf i).toNat)
  case atStart => exact ⟨0, by omega, rfl, rfl⟩
  case round =>
    obtain ⟨k, hk, rfl, rfl⟩ := hrel
    by_cases hlt : k < 12
    · have hS : (k : Int) < (S.size : Int) := by omega
      have hS2 : k < S.size := by omega
      have HK : Hid (S[k]'hS2 = L[k]'(by omega)) := HI.out k (by omega) hS2
      have hr := crcR_lt (L.take k)
      have HS : Hid (crcR (L.take (k + 1)) = crcByte (crcR (L.take k)) (S[k]'hS2)) := by
        show _ = _
        rw [HK.out, List.take_succ_eq_append_getElem (by omega), crcR_snoc]
      generalize crcR (L.take k) = r at *
      obtain ⟨v, hve⟩ : ∃ v, S[k]'hS2 = v := ⟨_, rfl⟩
      have hv := v.toNat_lt
      rw [hve] at HS
      go_wp2_with fail
      go_loop [3, 5] (fun r' i => ∃ j : Nat, j ≤ 8 ∧ i = .int .i64 j ∧ r' = .int .i64 (rbits v.toNat r j)) (fun _ i => 8 - (intOf i).toNat)
      case atStart => exact ⟨0, by omega, rfl, rfl⟩
      case round =>
        obtain ⟨j, hj, rfl, rfl⟩ := hrel
        have hq := rbits_lt (v := v.toNat) hr j
        have HN0 : Hid (rbits v.toNat r (j + 1) = rbit v.toNat j (rbits v.toNat r j)) := rfl
        have HE : Hid (rbits v.toNat r j = rbits v.toNat r j) := rfl
        by_cases hlj : j < 8
        · generalize rbits v.toNat r j = z at *
          obtain ⟨d, hd⟩ : ∃ d, d = v.toNat / 2 ^ j := ⟨_, rfl⟩
          have hdl : d < 256 := by rw [hd]; exact Nat.lt_of_le_of_lt (Nat.div_le_self _ _) (by omega)
          obtain ⟨q, hqd⟩ : ∃ q, q = z ^^^ d := ⟨_, rfl⟩
          have hx : bits .xor .i64 (z : Int) (d : Int) = (q : Int) := by rw [hqd]; exact i64_xor z d hq (by omega)
          have HN : Hid (rbits v.toNat r (j + 1) = if q % 2 = 1 then (z / 2) ^^^ 3988292384 else z / 2) := by rw [HN0.out, hqd, hd]; exact rfl
          have HP : Hid (bits .xor .i64 ((z : Int) / 2) 3988292384 = (((z / 2) ^^^ 3988292384 : Nat) : Int)) := by
            have := i64_xor (z / 2) 3988292384 (by omega) (by omega)
            rw [Int.natCast_ediv] at this
            exact this
          have HD : Hid (d = v.toNat / 2 ^ j) := hd
          clear hd hqd HN0 HE
          have hjj : j = 0 ∨ j = 1 ∨ j = 2 ∨ j = 3 ∨ j = 4 ∨ j = 5 ∨ j = 6 ∨ j = 7 := by omega
          rcases hjj with rfl | rfl | rfl | rfl | rfl | rfl | rfl | rfl
          · have hdv : d = v.toNat := by rw [HD.out]; omega
            have hsh : (v.toNat : Int) = (d : Int) := by rw [hdv]
            clear hdv
            clear hlj hj
            rcases Nat.mod_two_eq_zero_or_one q with h2 | h2
            · have h3 : ((q : Int) % 2) = 0 := by omega
              go_wp2_with fail
              refine ⟨⟨1, by omega, rfl, ?_⟩, by simp [intOf]⟩
              rw [HN.out, if_neg (by omega), Int.natCast_ediv]
              rfl
            · have h3 : ((q : Int) % 2) = 1 := by omega
              go_wp2_with fail
              refine ⟨⟨1, by omega, rfl, ?_⟩, by simp [intOf]⟩
              rw [HN.out, if_pos h2]
              exact congrArg (Value.int .i64) HP.out
          · have hsh : ((v.toNat : Int) / 2) = (d : Int) := by rw [HD.out]; omega
            clear hlj hj
            rcases Nat.mod_two_eq_zero_or_one q with h2 | h2
            · have h3 : ((q : Int) % 2) = 0 := by omega
              go_wp2_with fail
              refine ⟨⟨2, by omega, rfl, ?_⟩, by simp [intOf]⟩
              rw [HN.out, if_neg (by omega), Int.natCast_ediv]
              rfl
            · have h3 : ((q : Int) % 2) = 1 := by omega
              go_wp2_with fail
              refine ⟨⟨2, by omega, rfl, ?_⟩, by simp [intOf]⟩
              rw [HN.out, if_pos h2]
              exact congrArg (Value.int .i64) HP.out
          · have hsh : ((v.toNat : Int) / 4) = (d : Int) := by rw [HD.out]; omega
            clear hlj hj
            rcases Nat.mod_two_eq_zero_or_one q with h2 | h2
            · have h3 : ((q : Int) % 2) = 0 := by omega
              go_wp2_with fail
              refine ⟨⟨3, by omega, rfl, ?_⟩, by simp [intOf]⟩
              rw [HN.out, if_neg (by omega), Int.natCast_ediv]
              rfl
            · have h3 : ((q : Int) % 2) = 1 := by omega
              go_wp2_with fail
              refine ⟨⟨3, by omega, rfl, ?_⟩, by simp [intOf]⟩
              rw [HN.out, if_pos h2]
              exact congrArg (Value.int .i64) HP.out
          · have hsh : ((v.toNat : Int) / 8) = (d : Int) := by rw [HD.out]; omega
            clear hlj hj
            rcases Nat.mod_two_eq_zero_or_one q with h2 | h2
            · have h3 : ((q : Int) % 2) = 0 := by omega
              go_wp2_with fail
              refine ⟨⟨4, by omega, rfl, ?_⟩, by simp [intOf]⟩
              rw [HN.out, if_neg (by omega), Int.natCast_ediv]
              rfl
            · have h3 : ((q : Int) % 2) = 1 := by omega
              go_wp2_with fail
              refine ⟨⟨4, by omega, rfl, ?_⟩, by simp [intOf]⟩
              rw [HN.out, if_pos h2]
              exact congrArg (Value.int .i64) HP.out
          · have hsh : ((v.toNat : Int) / 16) = (d : Int) := by rw [HD.out]; omega
            clear hlj hj
            rcases Nat.mod_two_eq_zero_or_one q with h2 | h2
            · have h3 : ((q : Int) % 2) = 0 := by omega
              go_wp2_with fail
              refine ⟨⟨5, by omega, rfl, ?_⟩, by simp [intOf]⟩
              rw [HN.out, if_neg (by omega), Int.natCast_ediv]
              rfl
            · have h3 : ((q : Int) % 2) = 1 := by omega
              go_wp2_with fail
              refine ⟨⟨5, by omega, rfl, ?_⟩, by simp [intOf]⟩
              rw [HN.out, if_pos h2]
              exact congrArg (Value.int .i64) HP.out
          · have hsh : ((v.toNat : Int) / 32) = (d : Int) := by rw [HD.out]; omega
            clear hlj hj
            rcases Nat.mod_two_eq_zero_or_one q with h2 | h2
            · have h3 : ((q : Int) % 2) = 0 := by omega
              go_wp2_with fail
              refine ⟨⟨6, by omega, rfl, ?_⟩, by simp [intOf]⟩
              rw [HN.out, if_neg (by omega), Int.natCast_ediv]
              rfl
            · have h3 : ((q : Int) % 2) = 1 := by omega
              go_wp2_with fail
              refine ⟨⟨6, by omega, rfl, ?_⟩, by simp [intOf]⟩
              rw [HN.out, if_pos h2]
              exact congrArg (Value.int .i64) HP.out
          · have hsh : ((v.toNat : Int) / 64) = (d : Int) := by rw [HD.out]; omega
            clear hlj hj
            rcases Nat.mod_two_eq_zero_or_one q with h2 | h2
            · have h3 : ((q : Int) % 2) = 0 := by omega
              go_wp2_with fail
              refine ⟨⟨7, by omega, rfl, ?_⟩, by simp [intOf]⟩
              rw [HN.out, if_neg (by omega), Int.natCast_ediv]
              rfl
            · have h3 : ((q : Int) % 2) = 1 := by omega
              go_wp2_with fail
              refine ⟨⟨7, by omega, rfl, ?_⟩, by simp [intOf]⟩
              rw [HN.out, if_pos h2]
              exact congrArg (Value.int .i64) HP.out
          · have hsh : ((v.toNat : Int) / 128) = (d : Int) := by rw [HD.out]; omega
            clear hlj hj
            rcases Nat.mod_two_eq_zero_or_one q with h2 | h2
            · have h3 : ((q : Int) % 2) = 0 := by omega
              go_wp2_with fail
              refine ⟨⟨8, by omega, rfl, ?_⟩, by simp [intOf]⟩
              rw [HN.out, if_neg (by omega), Int.natCast_ediv]
              rfl
            · have h3 : ((q : Int) % 2) = 1 := by omega
              go_wp2_with fail
              refine ⟨⟨8, by omega, rfl, ?_⟩, by simp [intOf]⟩
              rw [HN.out, if_pos h2]
              exact congrArg (Value.int .i64) HP.out
        · have HJ : Hid (j = 8) := (show j = 8 by omega)
          have HZ : Hid (rbits v.toNat r j = crcByte r v) := by
            show _ = _
            rw [HJ.out]; exact rbits_byte v r
          generalize rbits v.toNat r j = z at *
          go_wp2_with fail
          refine ⟨⟨k + 1, by omega, by go_num, ?_⟩, by simp [intOf]; omega⟩
          rw [HS.out, HZ.out]
    · have HL : Hid (L.take k = L) := List.take_of_length_le (by omega)
      rw [HL.out]
      have hr := crcR_lt L
      have HC : Hid (crc L = 4294967295 ^^^ crcR L) := rfl
      have hS : ¬ (k : Int) < (S.size : Int) := by omega
      generalize crcR L = r at *
      have hxm : bits .xor .i64 (r : Int) 4294967295 = ((4294967295 ^^^ r : Nat) : Int) := by
        rw [Nat.xor_comm]; exact i64_xor r 4294967295 hr (by omega)
      go_wp2_with fail
      go_ret
      exact ⟨by rw [HC.out]; rfl, rfl⟩
end Go.Proofs.YtifjoboaolpejaaGreatDoor

namespace Go.Proofs.YtifjoboaolpejaaGreatDoor
open Go.RowKit

set_option maxRecDepth 100000 in
set_option maxHeartbeats 4000000 in
theorem rbody_any (x : Nm) (h1 : x.n < 4294967296) (h2 : x.e < 4294967296) (h3 : x.l < 4294967296) (w : World) :
    Calls Tryz.prog 69 #[.int .i64 x.n, .int .i64 x.e, .int .i64 x.l] w fun e w' => e = .returned (.string (stB (img x))) ∧ Below w.heap.size w w' := by
  have z1 : (stB (w4 x.n)).size = 4 := rfl
  have z2 : (stB (w4 x.e)).size = 4 := rfl
  have z3 : (stB (w4 x.l)).size = 4 := rfl
  have z4 : (stB (w4 (crc (body x)))).size = 4 := rfl
  have zb : (stB (body x)).size = 12 := rfl
  have hb : stB (w4 x.n) ++ stB (w4 x.e) ++ stB (w4 x.l) = stB (body x) := by rw [stB_append, stB_append]; rfl
  have HB : Hid (stB (body x) ++ stB (w4 (crc (body x))) = stB (img x)) := by show _ = _; rw [stB_append]; rfl
  have W1 : Hid (∀ w, Calls Tryz.prog 115 #[.int .i64 x.n, .int .i64 4] w fun e w' => e = .returned (.string (stB (w4 x.n))) ∧ Below w.heap.size w w') := fun w => wide4_any x.n h1 w
  have W2 : Hid (∀ w, Calls Tryz.prog 115 #[.int .i64 x.e, .int .i64 4] w fun e w' => e = .returned (.string (stB (w4 x.e))) ∧ Below w.heap.size w w') := fun w => wide4_any x.e h2 w
  have W3 : Hid (∀ w, Calls Tryz.prog 115 #[.int .i64 x.l, .int .i64 4] w fun e w' => e = .returned (.string (stB (w4 x.l))) ∧ Below w.heap.size w w') := fun w => wide4_any x.l h3 w
  have WC : Hid (∀ w, Calls Tryz.prog 116 #[.string (stB (body x))] w fun e w' => e = .returned (.int .i64 (crc (body x))) ∧ w' = w) := fun w => rcrc_any (body x) (body_len x) w
  have W4 : Hid (∀ w, Calls Tryz.prog 115 #[.int .i64 (crc (body x)), .int .i64 4] w fun e w' => e = .returned (.string (stB (w4 (crc (body x))))) ∧ Below w.heap.size w w') := fun w => wide4_any _ (crc_lt _) w
  have hs1 : (stB (w4 x.n) ++ stB (w4 x.e)).size = 8 := by rw [stB_append]; rfl
  have hs2 : (stB (w4 x.n) ++ stB (w4 x.e) ++ stB (w4 x.l)).size = 12 := by rw [hb]; rfl
  generalize stB (w4 x.n) = a at *
  generalize stB (w4 x.e) = b at *
  generalize stB (w4 x.l) = c at *
  generalize stB (w4 (crc (body x))) = d at *
  go_enter Tryz.func69, Tryz.ntmps69
  go_wp2_with fail
  refine (W1.out _).mono ?_
  rintro e w1 ⟨rfl, hb1⟩
  have B1 : Hid (Below w.heap.size w w1) := hb1
  clear hb1
  go_wp2_with fail
  refine (W2.out _).mono ?_
  rintro e w2 ⟨rfl, hb2⟩
  have B2 : Hid (Below w.heap.size w w2) := t2 B1.out hb2
  clear hb2
  go_wp2_with fail
  refine (W3.out _).mono ?_
  rintro e w3 ⟨rfl, hb3⟩
  have B3 : Hid (Below w.heap.size w w3) := t2 B2.out hb3
  clear hb3
  go_wp2_with fail
  refine (WC.out _).mono ?_
  rintro e w4' ⟨rfl, hw4⟩
  obtain rfl := hw4.symm
  go_wp2_with fail
  refine (W4.out _).mono ?_
  rintro e w5 ⟨rfl, hb5⟩
  have B5 : Hid (Below w.heap.size w w5) := t2 B3.out hb5
  clear hb5
  go_wp2_with fail
  go_ret
  exact ⟨by rw [← HB.out]; rfl, B5.out⟩
/-- the document's bytes in memory. -/
def RBy (w : World) (n : Nat) (s : By) (lv : Int) : Prop := w.heap[n]? = some (.cells #[.string (stB s.B), .bool (!s.on), .int .i64 lv, .bool s.cut] 42 (0, 0))
theorem RBy.lt {w : World} {n : Nat} {s : By} {lv : Int} (h : RBy w n s lv) : n < w.heap.size := by
  rcases Nat.lt_or_ge n w.heap.size with h1 | h1
  · exact h1
  · rw [RBy, Array.getElem?_eq_none h1] at h; cases h
theorem RBy.below {w w' : World} {n : Nat} {s : By} {lv : Int} (h : RBy w n s lv) (hb : Below w.heap.size w w') : RBy w' n s lv := by unfold RBy; rw [hb.block n h.lt]; exact h
theorem RBy.chg {w w' : World} {n b : Nat} {s : By} {lv : Int} (h : RBy w n s lv) (hb : Chg b w w') (hn : n ≠ b) : RBy w' n s lv := by unfold RBy; rw [hb.block n h.lt hn]; exact h
theorem RBy.chg2 {w w' : World} {n b c : Nat} {s : By} {lv : Int} (h : RBy w n s lv) (hb : Chg2 b c w w') (h1 : n ≠ b) (h2 : n ≠ c) : RBy w' n s lv := by unfold RBy; rw [hb.block n h.lt h1 h2]; exact h
theorem RBy.c0 {w : World} {n : Nat} {s : By} {lv : Int} (h : RBy w n s lv) : w.cell? ⟨n, 0, none⟩ = some (.string (stB s.B)) := (cell_of_row w n _ _ _ _ h).trans rfl
theorem RBy.c1 {w : World} {n : Nat} {s : By} {lv : Int} (h : RBy w n s lv) : w.cell? ⟨n, 1, none⟩ = some (.bool (!s.on)) := (cell_of_row w n _ _ _ _ h).trans rfl
theorem RBy.c2 {w : World} {n : Nat} {s : By} {lv : Int} (h : RBy w n s lv) : w.cell? ⟨n, 2, none⟩ = some (.int .i64 lv) := (cell_of_row w n _ _ _ _ h).trans rfl
theorem RBy.c3 {w : World} {n : Nat} {s : By} {lv : Int} (h : RBy w n s lv) : w.cell? ⟨n, 3, none⟩ = some (.bool s.cut) := (cell_of_row w n _ _ _ _ h).trans rfl
theorem RBy.fr {w : World} {n : Nat} {s : By} {lv : Int} (h : RBy w n s lv) (i : Nat) : w.frozen? ⟨n, i, none⟩ = false := frozen_of_row w n i _ _ h
theorem RBy.s0 {w : World} {n : Nat} {s : By} {lv : Int} (h : RBy w n s lv) (L : List UInt8) : RBy (w.setCell ⟨n, 0, none⟩ (.string (stB L))) n ⟨L, s.on, s.cut, s.left⟩ lv := by unfold RBy; rw [heap_setCell_same w n _ _ _ _ h]; rfl
theorem RBy.s1 {w : World} {n : Nat} {s : By} {lv : Int} (h : RBy w n s lv) (o : Bool) : RBy (w.setCell ⟨n, 1, none⟩ (.bool (!o))) n ⟨s.B, o, s.cut, s.left⟩ lv := by unfold RBy; rw [heap_setCell_same w n _ _ _ _ h]; rfl
theorem RBy.s2 {w : World} {n : Nat} {s : By} {lv : Int} (h : RBy w n s lv) (m : Int) : RBy (w.setCell ⟨n, 2, none⟩ (.int .i64 m)) n s m := by unfold RBy; rw [heap_setCell_same w n _ _ _ _ h]; rfl
theorem RBy.s3 {w : World} {n : Nat} {s : By} {lv : Int} (h : RBy w n s lv) (c : Bool) : RBy (w.setCell ⟨n, 3, none⟩ (.bool c)) n ⟨s.B, s.on, c, s.left⟩ lv := by unfold RBy; rw [heap_setCell_same w n _ _ _ _ h]; rfl
theorem RBy.as {w : World} {n : Nat} {s t : By} {lv : Int} (h : RBy w n s lv) (h1 : s.B = t.B) (h2 : s.on = t.on) (h3 : s.cut = t.cut) : RBy w n t lv := by unfold RBy at *; rw [← h1, ← h2, ← h3]; exact h
def cutL (s : By) (m lv : Int) : Int := if cutE s m = 0 then m else lv
set_option maxRecDepth 100000 in
set_option maxHeartbeats 2000000 in
theorem rcut_any (n : Nat) (s : By) (lv m : Int) (w : World) (S : RBy w n s lv) : Calls Tryz.prog 49 #[.pointer (some ⟨n, 0, none⟩), .int .i64 m] w fun e w' => e = .returned (.int .i64 ((cutE s m : Nat) : Int)) ∧ RBy w' n (s.setCut m) (cutL s m lv) ∧ Chg n w w' := by
  have HS : Hid (RBy w n s lv) := S
  have c1 := S.c1
  have c2 := S.c2
  have c3 := S.c3
  have f := fun i => S.fr i
  clear S
  by_cases hn : m < 0
  · have HE : Hid (cutE s m = 2) := by unfold cutE; rw [if_pos hn]; exact rfl
    have HU : Hid (s.setCut m = s) := by unfold By.setCut; rw [HE.out]; exact rfl
    have HV : Hid (cutL s m lv = lv) := by unfold cutL; rw [HE.out]; exact rfl
    go_enter Tryz.func49, Tryz.ntmps49
    go_wp2_with fail
    go_ret
    exact ⟨by rw [HE.out]; rfl, by rw [HU.out, HV.out]; exact HS.out, Chg.refl _ _⟩
  · cases ho : s.on
    · have HE : Hid (cutE s m = 7) := by unfold cutE; rw [if_neg hn, ho]; exact rfl
      have HU : Hid (s.setCut m = s) := by unfold By.setCut; rw [HE.out]; exact rfl
      have HV : Hid (cutL s m lv = lv) := by unfold cutL; rw [HE.out]; exact rfl
      rw [ho] at c1
      go_enter Tryz.func49, Tryz.ntmps49
      go_wp2_with fail
      go_ret
      exact ⟨by rw [HE.out]; rfl, by rw [HU.out, HV.out]; exact HS.out, Chg.refl _ _⟩
    · have HE : Hid (cutE s m = 0) := by unfold cutE; rw [if_neg hn, ho]; exact rfl
      have HU : Hid (s.setCut m = ⟨s.B, s.on, true, m.toNat⟩) := by unfold By.setCut; rw [HE.out]; exact rfl
      rw [ho] at c1
      go_enter Tryz.func49, Tryz.ntmps49
      go_wp2_with fail
      go_ret
      refine ⟨by rw [HE.out]; rfl, ?_, (Chg.set _ _ _ _).trans (Chg.set _ _ _ _)⟩
      have HV : Hid (cutL s m lv = m) := by unfold cutL; rw [HE.out]; exact rfl
      rw [HU.out, HV.out]
      exact ((HS.out.s3 true).s2 m).as rfl rfl rfl
end Go.Proofs.YtifjoboaolpejaaGreatDoor

namespace Go.Proofs.YtifjoboaolpejaaGreatDoor
open Go.RowKit

theorem seqW_take : ∀ (L : List UInt8) (a j : Nat), (seqW a L).take j = seqW a (L.take j)
  | [], a, j => by simp [seqW]
  | v :: L, a, 0 => by simp [seqW]
  | v :: L, a, j + 1 => by simp [seqW, seqW_take L (a + 1) j]
def spl (B L : List UInt8) (p : Nat) : List UInt8 := B.take p ++ (L ++ B.drop (p + L.length))
theorem wrs_seq (s : By) (p : Nat) (L : List UInt8) (hL : L ≠ []) (hl : p + L.length ≤ s.B.length) : wrs s (seqW p L) =
    if s.on = true then (if s.cut = false ∨ L.length ≤ s.left then (⟨spl s.B L p, true, s.cut, if s.cut then s.left - L.length else s.left⟩, true) else (⟨spl s.B (L.take s.left) p, false, s.cut, 0⟩, false)) else (s, false) := by
  have hne : seqW p L ≠ [] := fun e => hL (List.length_eq_zero_iff.1 (by rw [← seqW_len L p, e]; rfl))
  rw [wrs_eq, seqW_len]
  by_cases ho : s.on = true
  · rw [if_pos ho]
    by_cases hc : s.cut = false ∨ L.length ≤ s.left
    · rw [if_pos ⟨ho, hc⟩, if_pos hc, app_seq _ _ _ hl]
      rfl
    · rw [if_neg (fun h => hc h.2), if_neg hc, if_pos (.inl ho), if_neg hne, seqW_take, app_seq _ _ _ (by rw [List.length_take]; omega)]
      rfl
  · rw [if_neg ho, if_neg (fun h => ho h.1), if_neg (by simp [ho, hne])]
theorem splice_eq (B L : List UInt8) (p n : Nat) (hn : n ≤ L.length) : (stB B).extract 0 p ++ (stB L).extract 0 n ++ (stB B).extract (p + n) B.length = stB (spl B (L.take n) p) := by
  apply ByteArray.ext
  apply Array.ext'
  simp [stB, spl, ByteArray.data_append, ByteArray.data_extract, hn, Nat.min_eq_left]
  exact List.take_of_length_le (by rw [List.length_drop]; exact Nat.le_refl _)
theorem RBy.drew {w : World} {n : Nat} {s : By} {lv : Int} (h : RBy w n s lv) : RBy w.drew n s lv := h
set_option maxRecDepth 100000 in
set_option maxHeartbeats 4000000 in
theorem rwrite_on (n p : Nat) (L : List UInt8) (s : By) (lv : Int) (w : World) (R : RBy w n s lv) (hB : s.B.length = 64) (hp : p + L.length ≤ 64) (h1 : s.on = true) (h2 : s.cut = false ∨ (L.length : Int) ≤ lv) (h3 : -9223372036854770000 ≤ lv) (h4 : lv ≤ 9223372036854775807) :
    Calls Tryz.prog 71 #[.pointer (some ⟨n, 0, none⟩), .int .i64 p, .string (stB L)] w fun e w' => e = .returned (.bool true) ∧ RBy w' n ⟨spl s.B L p, true, s.cut, s.left⟩ (lv - L.length) ∧ Chg n w w' := by
  have HR : Hid (RBy w n s lv) := R
  have hS : w.drew.cell? ⟨n, 0, none⟩ = some (.string (stB s.B)) ∧ w.drew.frozen? ⟨n, 0, none⟩ = false := ⟨R.c0, R.fr 0⟩
  have c1 := R.c1
  have c2 := R.c2
  have c3 := R.c3
  have f := fun i => R.fr i
  have HSP : Hid ((stB s.B).extract 0 p ++ (stB L).extract 0 L.length ++ (stB s.B).extract (p + L.length) 64 = stB (spl s.B L p)) := by
    have := splice_eq s.B L p L.length (Nat.le_refl _)
    rw [List.take_length, hB] at this
    exact this
  have zS : (stB s.B).size = 64 := hB
  have zV : (stB L).size = L.length := rfl
  rw [h1] at c1
  clear R
  generalize stB s.B = S at *
  generalize stB L = V at *
  generalize L.length = m at *
  have g1 : (p : Int) ≤ 64 := by omega
  have g2 : (p : Int) + (m : Int) ≤ 64 := by omega
  have hw : IntKind.i64.wrap ((p : Int) + (m : Int)) = (p : Int) + (m : Int) := by rw [IntKind.wrap_i64]; omega
  have g3 : (0 : Int) ≤ (p : Int) + (m : Int) := by omega
  have g4 : ((p : Int) + (m : Int)).toNat = p + m := by omega
  have g6 : ¬ 9223372036854775807 < min p 64 + m + (64 - (p + m)) := by omega
  have c0 := hS.1
  have f0 := hS.2
  clear hS
  have g5 : ¬ 9223372036854775807 < min p 64 + m := by omega
  cases hc : s.cut
  · rw [hc] at c3
    go_enter Tryz.func71, Tryz.ntmps71
    go_wp2_with fail
    go_region
    go_wp2_with fail
    go_ret
    refine ⟨rfl, ?_, ((Chg.set n _ _ _).trans (Chg.set n _ _ _)).then (Below.refl _ _).drew⟩
    rw [HSP.out]
    exact RBy.drew (((HR.out.s0 (spl s.B L p)).s2 (lv - m)).as rfl h1 hc)
  · rw [hc] at c3
    have h5 : ¬ lv < (m : Int) := by
      rcases h2 with h | h
      · rw [hc] at h; cases h
      · omega
    go_enter Tryz.func71, Tryz.ntmps71
    go_wp2_with fail
    go_region
    go_wp2_with fail
    go_ret
    refine ⟨rfl, ?_, ((Chg.set n _ _ _).trans (Chg.set n _ _ _)).then (Below.refl _ _).drew⟩
    rw [HSP.out]
    exact RBy.drew (((HR.out.s0 (spl s.B L p)).s2 (lv - m)).as rfl h1 hc)
set_option maxRecDepth 100000 in
set_option maxHeartbeats 4000000 in
theorem rwrite_cut (n p k : Nat) (L : List UInt8) (s : By) (w : World) (R : RBy w n s k) (hB : s.B.length = 64) (hp : p + L.length ≤ 64) (h1 : s.on = true) (h2 : s.cut = true) (h3 : k < L.length) :
    Calls Tryz.prog 71 #[.pointer (some ⟨n, 0, none⟩), .int .i64 p, .string (stB L)] w fun e w' => e = .returned (.bool false) ∧ RBy w' n ⟨spl s.B (L.take k) p, false, s.cut, 0⟩ 0 ∧ Chg n w w' := by
  have HR : Hid (RBy w n s k) := R
  have c0 := R.c0
  have c1 := R.c1
  have c2 := R.c2
  have c3 := R.c3
  have f := fun i => R.fr i
  have HSP : Hid ((stB s.B).extract 0 p ++ (stB L).extract 0 k ++ (stB s.B).extract (p + k) 64 = stB (spl s.B (L.take k) p)) := by
    have := splice_eq s.B L p k (by omega)
    rw [hB] at this
    exact this
  have zS : (stB s.B).size = 64 := hB
  have zV : (stB L).size = L.length := rfl
  rw [h1] at c1
  rw [h2] at c3
  clear R
  generalize stB s.B = S at *
  generalize stB L = V at *
  have g1 : (p : Int) ≤ 64 := by omega
  have g2 : (p : Int) + (k : Int) ≤ 64 := by omega
  have hw : IntKind.i64.wrap ((p : Int) + (k : Int)) = (p : Int) + (k : Int) := by rw [IntKind.wrap_i64]; omega
  have g3 : (0 : Int) ≤ (p : Int) + (k : Int) := by omega
  have g4 : ((p : Int) + (k : Int)).toNat = p + k := by omega
  have h5 : (k : Int) < (L.length : Int) := by omega
  have g8 : min k L.length = k := by omega
  have g5 : ¬ 9223372036854775807 < min p 64 + k := by omega
  have g6 : ¬ 9223372036854775807 < min p 64 + k + (64 - (p + k)) := by omega
  generalize L.length = m at *
  have g9 : ¬ (m : Int) < (k : Int) := by omega
  have g10 : (k : Int) ≤ (m : Int) := by omega
  go_enter Tryz.func71, Tryz.ntmps71
  go_wp2_with fail
  go_region
  go_wp2_with fail
  go_ret
  refine ⟨rfl, ?_, (((Chg.set n _ _ _).trans (Chg.set n _ _ _)).trans (Chg.set n _ _ _)).then (Below.refl _ _).drew⟩
  rw [HSP.out]
  exact RBy.drew ((((HR.out.s1 false).s0 (spl s.B (L.take k) p)).s2 0).as rfl rfl rfl)
set_option maxRecDepth 100000 in
set_option maxHeartbeats 4000000 in
theorem rwrite_off (n p : Nat) (L : List UInt8) (s : By) (lv : Int) (w : World) (R : RBy w n s lv) (hB : s.B.length = 64) (hp : p + L.length ≤ 64) (h1 : s.on = false) (h3 : -9223372036854770000 ≤ lv) (h4 : lv ≤ 9223372036854775807) :
    Calls Tryz.prog 71 #[.pointer (some ⟨n, 0, none⟩), .int .i64 p, .string (stB L)] w fun e w' => e = .returned (.bool false) ∧ RBy w' n s lv ∧ Chg n w w' := by
  have HR : Hid (RBy w n s lv) := R
  have c0 := R.c0
  have c1 := R.c1
  have c2 := R.c2
  have f := fun i => R.fr i
  have HSP : Hid ((stB s.B).extract 0 (max p 64) = stB s.B) := by
    show _ = _
    rw [show max p 64 = 64 from by omega]
    apply ByteArray.ext
    apply Array.ext'
    simp [stB, ByteArray.data_extract]
    exact List.take_of_length_le (by omega)
  have zS : (stB s.B).size = 64 := hB
  have zV : (stB L).size = L.length := rfl
  rw [h1] at c1
  clear R
  obtain ⟨S, hS⟩ : ∃ S, S = stB s.B := ⟨_, rfl⟩
  rw [← hS] at c0 HSP zS
  have HS : Hid (S = stB s.B) := hS
  clear hS
  generalize stB L = V at *
  have g1 : (p : Int) ≤ 64 := by omega
  have g5 : ¬ 9223372036854775807 < min p 64 := by omega
  have g6 : ¬ 9223372036854775807 < min p 64 + (64 - p) := by omega
  have hw : IntKind.i64.wrap (p : Int) = (p : Int) := by rw [IntKind.wrap_i64]; omega
  go_enter Tryz.func71, Tryz.ntmps71
  go_wp2_with fail
  go_region
  go_wp2_with fail
  go_ret
  refine ⟨rfl, ?_, ((Chg.set n _ _ _).trans (Chg.set n _ _ _)).then (Below.refl _ _).drew⟩
  rw [HSP.out, HS.out]
  exact RBy.drew ((HR.out.s0 s.B).s2 lv)
/-- what the document's write does is what writes one by one do. -/
theorem rwrite_any (n p : Nat) (L : List UInt8) (s : By) (lv : Int) (w : World) (R : RBy w n s lv) (hB : s.B.length = 64) (hp : p + L.length ≤ 64) (hL : L ≠ []) (hc : s.cut = true → lv = s.left) (h3 : -9223372036854770000 ≤ lv) (h4 : lv ≤ 9223372036854775807) :
    Calls Tryz.prog 71 #[.pointer (some ⟨n, 0, none⟩), .int .i64 p, .string (stB L)] w fun e w' => e = .returned (.bool (wrs s (seqW p L)).2) ∧ (∃ lv', RBy w' n (wrs s (seqW p L)).1 lv' ∧ ((wrs s (seqW p L)).1.cut = true → lv' = (wrs s (seqW p L)).1.left) ∧ lv - L.length ≤ lv' ∧ lv' ≤ lv) ∧ Chg n w w' := by
  rw [wrs_seq s p L hL (by omega)]
  by_cases h1 : s.on = true
  · rw [if_pos h1]
    by_cases h2 : s.cut = false ∨ L.length ≤ s.left
    · rw [if_pos h2]
      refine (rwrite_on n p L s lv w R hB hp h1 ?_ h3 h4).mono ?_
      · rcases h2 with h | h
        · exact .inl h
        · cases hcc : s.cut
          · exact .inl rfl
          · exact .inr (by rw [hc hcc]; omega)
      · rintro e w' ⟨rfl, r, c⟩
        refine ⟨rfl, ⟨_, r.as rfl rfl rfl, ?_, Int.le_refl _, by omega⟩, c⟩
        intro hcc
        have hcc : s.cut = true := hcc
        show lv - L.length = ((if s.cut = true then s.left - L.length else s.left : Nat) : Int)
        rcases h2 with h | h
        · rw [h] at hcc; cases hcc
        · rw [if_pos hcc, hc hcc]; omega
    · rw [if_neg h2]
      have hcc : s.cut = true := by
        cases h : s.cut
        · exact absurd (.inl h) h2
        · rfl
      have hlt : s.left < L.length := by
        rcases Nat.lt_or_ge s.left L.length with h | h
        · exact h
        · exact absurd (.inr h) h2
      rw [hc hcc] at R
      refine (rwrite_cut n p s.left L s w R hB hp h1 hcc hlt).mono ?_
      rintro e w' ⟨rfl, r, c⟩
      refine ⟨rfl, ⟨0, r, fun _ => rfl, ?_, ?_⟩, c⟩
      · rw [hc hcc]; omega
      · rw [hc hcc]; omega
  · rw [if_neg h1]
    refine (rwrite_off n p L s lv w R hB hp (by simpa using h1) h3 h4).mono ?_
    rintro e w' ⟨rfl, r, c⟩
    exact ⟨rfl, ⟨lv, r, hc, by omega, Int.le_refl _⟩, c⟩
end Go.Proofs.YtifjoboaolpejaaGreatDoor

namespace Go.Proofs.YtifjoboaolpejaaGreatDoor
open Go.RowKit

/-- the document's cell in memory. -/
def RCe (w : World) (m n : Nat) (y : Nm) (dead : Bool) : Prop := w.heap[m]? = some (.cells #[.pointer (some ⟨n, 0, none⟩), .int .i64 y.n, .int .i64 y.e, .int .i64 y.l, .bool dead] 94 (0, 0))
theorem RCe.lt {w : World} {m n : Nat} {y : Nm} {d : Bool} (h : RCe w m n y d) : m < w.heap.size := by
  rcases Nat.lt_or_ge m w.heap.size with h1 | h1
  · exact h1
  · rw [RCe, Array.getElem?_eq_none h1] at h; cases h
theorem RCe.below {w w' : World} {m n : Nat} {y : Nm} {d : Bool} (h : RCe w m n y d) (hb : Below w.heap.size w w') : RCe w' m n y d := by unfold RCe; rw [hb.block m h.lt]; exact h
theorem RCe.chg {w w' : World} {m n b : Nat} {y : Nm} {d : Bool} (h : RCe w m n y d) (hb : Chg b w w') (hn : m ≠ b) : RCe w' m n y d := by unfold RCe; rw [hb.block m h.lt hn]; exact h
theorem RCe.chg2 {w w' : World} {m n b c : Nat} {y : Nm} {d : Bool} (h : RCe w m n y d) (hb : Chg2 b c w w') (h1 : m ≠ b) (h2 : m ≠ c) : RCe w' m n y d := by unfold RCe; rw [hb.block m h.lt h1 h2]; exact h
theorem RCe.c0 {w : World} {m n : Nat} {y : Nm} {d : Bool} (h : RCe w m n y d) : w.cell? ⟨m, 0, none⟩ = some (.pointer (some ⟨n, 0, none⟩)) := (cell_of_row w m _ _ _ _ h).trans rfl
theorem RCe.c1 {w : World} {m n : Nat} {y : Nm} {d : Bool} (h : RCe w m n y d) : w.cell? ⟨m, 1, none⟩ = some (.int .i64 y.n) := (cell_of_row w m _ _ _ _ h).trans rfl
theorem RCe.c2 {w : World} {m n : Nat} {y : Nm} {d : Bool} (h : RCe w m n y d) : w.cell? ⟨m, 2, none⟩ = some (.int .i64 y.e) := (cell_of_row w m _ _ _ _ h).trans rfl
theorem RCe.c3 {w : World} {m n : Nat} {y : Nm} {d : Bool} (h : RCe w m n y d) : w.cell? ⟨m, 3, none⟩ = some (.int .i64 y.l) := (cell_of_row w m _ _ _ _ h).trans rfl
theorem RCe.c4 {w : World} {m n : Nat} {y : Nm} {d : Bool} (h : RCe w m n y d) : w.cell? ⟨m, 4, none⟩ = some (.bool d) := (cell_of_row w m _ _ _ _ h).trans rfl
theorem RCe.fr {w : World} {m n : Nat} {y : Nm} {d : Bool} (h : RCe w m n y d) (i : Nat) : w.frozen? ⟨m, i, none⟩ = false := frozen_of_row w m i _ _ h
theorem RCe.kill {w : World} {m n : Nat} {y : Nm} {d : Bool} (h : RCe w m n y d) (v : Bool) : RCe (w.setCell ⟨m, 4, none⟩ (.bool v)) m n y v := by unfold RCe; rw [heap_setCell_same w m _ _ _ _ h]; rfl
theorem RCe.put {w : World} {m n : Nat} {y : Nm} {d : Bool} (h : RCe w m n y d) (x : Nm) : RCe (((w.setCell ⟨m, 1, none⟩ (.int .i64 x.n)).setCell ⟨m, 2, none⟩ (.int .i64 x.e)).setCell ⟨m, 3, none⟩ (.int .i64 x.l)) m n x d := by
  unfold RCe
  rw [heap_setCell_same _ m _ _ _ _ (heap_setCell_same _ m _ _ _ _ (heap_setCell_same w m _ _ _ _ h))]
  rfl
/-- the document's side in a walk: bytes at n, a cell at m; all else as it was in w0; 'lo': how low the count has sunk. -/
structure RS (w0 w : World) (n m : Nat) (s : By) (y : Nm) (d : Bool) (lo : Int) : Prop where
  r : ∃ lv, RBy w n s lv ∧ (s.cut = true → lv = s.left) ∧ lo ≤ lv ∧ lv ≤ 9223372036854775807
  c : RCe w m n y d
  ne : m ≠ n
  len : s.B.length = 64
  x : Chg2 n m w0 w
theorem RS.below {w0 w w' : World} {n m : Nat} {s : By} {y : Nm} {d : Bool} {lo : Int} (h : RS w0 w n m s y d lo) (hb : Below w.heap.size w w') : RS w0 w' n m s y d lo := by
  obtain ⟨⟨lv, r1, r2⟩, c, ne, len, x⟩ := h
  exact ⟨⟨lv, r1.below hb, r2⟩, c.below hb, ne, len, x.then hb⟩
theorem RS.drew {w0 w : World} {n m : Nat} {s : By} {y : Nm} {d : Bool} {lo : Int} (h : RS w0 w n m s y d lo) : RS w0 w.drew n m s y d lo := h.below (Below.refl _ _).drew
theorem RS.chg {w0 w w' : World} {n m g : Nat} {s : By} {y : Nm} {d : Bool} {lo : Int} (h : RS w0 w n m s y d lo) (hb : Chg g w w') (h1 : n ≠ g) (h2 : m ≠ g) (h3 : w0.heap.size ≤ g) : RS w0 w' n m s y d lo := by
  obtain ⟨⟨lv, r1, r2⟩, c, ne, len, x⟩ := h
  exact ⟨⟨lv, r1.chg hb h1, r2⟩, c.chg hb h2, ne, len, x.on hb (Or.inr (Or.inr h3))⟩
theorem RS.kill {w0 w : World} {n m : Nat} {s : By} {y : Nm} {d : Bool} {lo : Int} (h : RS w0 w n m s y d lo) (v : Bool) : RS w0 (w.setCell ⟨m, 4, none⟩ (.bool v)) n m s y v lo := by
  obtain ⟨⟨lv, r1, r2⟩, c, ne, len, x⟩ := h
  exact ⟨⟨lv, r1.chg (Chg.set m _ _ _) (fun e => ne e.symm), r2⟩, c.kill v, ne, len, x.on (Chg.set m _ _ _) (Or.inr (Or.inl rfl))⟩
theorem RS.put {w0 w : World} {n m : Nat} {s : By} {y : Nm} {d : Bool} {lo : Int} (h : RS w0 w n m s y d lo) (z : Nm) : RS w0 (((w.setCell ⟨m, 1, none⟩ (.int .i64 z.n)).setCell ⟨m, 2, none⟩ (.int .i64 z.e)).setCell ⟨m, 3, none⟩ (.int .i64 z.l)) n m s z d lo := by
  obtain ⟨⟨lv, r1, r2⟩, c, ne, len, x⟩ := h
  have k : Chg m w (((w.setCell ⟨m, 1, none⟩ (.int .i64 z.n)).setCell ⟨m, 2, none⟩ (.int .i64 z.e)).setCell ⟨m, 3, none⟩ (.int .i64 z.l)) := ((Chg.set m _ _ _).trans (Chg.set m _ _ _)).trans (Chg.set m _ _ _)
  exact ⟨⟨lv, r1.chg k (fun e => ne e.symm), r2⟩, c.put z, ne, len, x.on k (Or.inr (Or.inl rfl))⟩
theorem rwrite_rs {w0 w : World} {n m : Nat} {s : By} {y : Nm} {d : Bool} {lo : Int} (h : RS w0 w n m s y d lo) (p : Nat) (L : List UInt8) (hp : p + L.length ≤ 64) (hL : L ≠ []) (hlo : -1000000000 ≤ lo) :
    Calls Tryz.prog 71 #[.pointer (some ⟨n, 0, none⟩), .int .i64 p, .string (stB L)] w fun e w' => e = .returned (.bool (wrs s (seqW p L)).2) ∧ RS w0 w' n m (wrs s (seqW p L)).1 y d (lo - L.length) := by
  obtain ⟨⟨lv, r1, r2, r3, r4⟩, c, ne, len, x⟩ := h
  refine (rwrite_any n p L s lv w r1 len hp hL r2 (by omega) r4).mono ?_
  rintro e w' ⟨rfl, ⟨lv', a1, a2, a3, a4⟩, k⟩
  exact ⟨rfl, ⟨lv', a1, a2, by omega, by omega⟩, c.chg k ne, ne, by rw [wrs_len]; exact len, x.on k (Or.inl rfl)⟩
theorem wrs_append : ∀ (l r : List (Nat × UInt8)) (s : By), wrs s (l ++ r) = if (wrs s l).2 = true then wrs (wrs s l).1 r else ((wrs s l).1, false)
  | [], r, s => rfl
  | (a, v) :: l, r, s => by
    show wrs s ((a, v) :: (l ++ r)) = _
    rw [wrs_cons, wrs_cons]
    cases s.ok
    · rfl
    · exact wrs_append l r _
theorem restW_two (s : By) (x : Nm) (p : Nat) : restW s x p 0 = if (wrs s (seqW p (img x))).2 = true then wrs (wrs s (seqW p (img x))).1 (seqW (p + 16) [165]) else ((wrs s (seqW p (img x))).1, false) := by
  unfold restW
  rw [Nat.add_zero, List.drop_zero, wrs_append]
  rfl
theorem putS_one (s : By) (x : Nm) (h : s.B.getD (20 * (x.n % 2) + 16) 0 ≠ 0) : putS s x = if (wrs s (seqW (20 * (x.n % 2) + 16) [0])).2 = true then restW (wrs s (seqW (20 * (x.n % 2) + 16) [0])).1 x (20 * (x.n % 2)) 0 else ((wrs s (seqW (20 * (x.n % 2) + 16) [0])).1, false) := by
  unfold putS putW preW restW
  rw [if_neg h, wrs_append]
  rfl
theorem putS_offp (s : By) (x : Nm) (h : s.on = false) : putS s x = (s, false) := by
  have hne : putW s.B x ≠ [] := fun e => by have := putW_len s.B x; rw [e] at this; simp at this
  unfold putS
  rw [wrs_eq, if_neg (by simp [h]), if_neg (by simp [h, hne])]
end Go.Proofs.YtifjoboaolpejaaGreatDoor

namespace Go.Proofs.YtifjoboaolpejaaGreatDoor
open Go.RowKit

theorem RS.mono {w0 w : World} {n m : Nat} {s : By} {y : Nm} {d : Bool} {lo lo' : Int} (h : RS w0 w n m s y d lo) (hl : lo' ≤ lo) : RS w0 w n m s y d lo' := by
  obtain ⟨⟨lv, r1, r2, r3, r4⟩, c, ne, len, x⟩ := h
  exact ⟨⟨lv, r1, r2, by omega, r4⟩, c, ne, len, x⟩
theorem byte0 (w : World) : Calls Tryz.prog 70 #[.int .i64 0] w fun e w' => e = .returned (.string (stB [0])) ∧ Below w.heap.size w w' := byte_any 0 (by decide) (by decide) w
theorem byte165 (w : World) : Calls Tryz.prog 70 #[.int .i64 165] w fun e w' => e = .returned (.string (stB [165])) ∧ Below w.heap.size w w' := byte_any 165 (by decide) (by decide) w
def retC (b : Bool) : Int := if b then 0 else 7
def retY (b : Bool) (x y : Nm) : Nm := if b then x else y
set_option maxRecDepth 100000 in
set_option maxHeartbeats 8000000 in
/-- Put behind all tests. -/
theorem rput_go {w0 w : World} {n m : Nat} {s : By} {y x : Nm} {lo : Int} (h : RS w0 w n m s y false lo) (ep li : Int) (hlo : -900000000 ≤ lo) (e1 : 0 ≤ ep) (e2 : ep ≤ 1073741824) (e3 : 0 ≤ li) (e4 : li ≤ 1073741824) (o1 : (y.e : Int) ≤ ep) (o2 : (y.l : Int) ≤ li) (hn : y.n < 4294967295) (hx : x = ⟨y.n + 1, ep.toNat, li.toNat⟩) :
    Calls Tryz.prog 36 #[.pointer (some ⟨m, 0, none⟩), .int .i64 ep, .int .i64 li] w fun e w' => e = .returned (.int .i64 (retC (putS s x).2)) ∧ RS w0 w' n m (putS s x).1 (retY (putS s x).2 x y) (!(putS s x).2) (lo - 20) := by
  obtain ⟨R, hR⟩ : ∃ R, R = putS s x := ⟨_, rfl⟩
  have hxn : x.n = y.n + 1 := by rw [hx]
  obtain ⟨p, hp⟩ : ∃ p, p = 20 * ((y.n + 1) % 2) := ⟨_, rfl⟩
  have R0 : Hid (s.on = false → R = (s, false)) := fun h => by rw [hR]; exact putS_offp s x h
  have R1 : Hid (s.B.getD (p + 16) 0 = 0 → R = restW s x p 0) := fun h => by rw [hR, hp, ← hxn]; exact putS_pre0 s x (by rw [hxn, ← hp]; exact h)
  have R2 : Hid (s.B.getD (p + 16) 0 ≠ 0 → R = if (wrs s (seqW (p + 16) [0])).2 = true then restW (wrs s (seqW (p + 16) [0])).1 x p 0 else ((wrs s (seqW (p + 16) [0])).1, false)) := fun h => by
    have := putS_one s x (by rw [hxn, ← hp]; exact h)
    rw [hxn, ← hp] at this
    rw [hR]; exact this
  have BO : Hid (∀ w, Calls Tryz.prog 69 #[.int .i64 ((y.n : Int) + 1), .int .i64 ep, .int .i64 li] w fun e w' => e = .returned (.string (stB (img x))) ∧ Below w.heap.size w w') := fun w => by
    have := rbody_any x (by omega) (by rw [hx]; show ep.toNat < _; omega) (by rw [hx]; show li.toNat < _; omega) w
    rw [hx] at this ⊢
    have a1 : ((ep.toNat : Nat) : Int) = ep := by omega
    have a2 : ((li.toNat : Nat) : Int) = li := by omega
    simp only [a1, a2] at this
    exact this
  have HXV : Hid ((x.n : Int) = (y.n : Int) + 1 ∧ (x.e : Int) = ep ∧ (x.l : Int) = li) := by
    rw [hx]; exact ⟨by simp, by show ((ep.toNat : Nat) : Int) = ep; omega, by show ((li.toNat : Nat) : Int) = li; omega⟩
  rw [← hR]
  have HRS : Hid (RS w0 w n m s y false lo) := h
  have HLO : Hid (-900000000 ≤ lo) := hlo
  have c0 := h.c.c0
  have c1 := h.c.c1
  have c2 := h.c.c2
  have c3 := h.c.c3
  have c4 := h.c.c4
  have cf := fun i => h.c.fr i
  have hmn := h.ne
  obtain ⟨lv, r1, _⟩ := h.r
  have b0 := r1.c0
  have b1 := r1.c1
  have zS : (stB s.B).size = 64 := h.len
  have hp64 : p + 17 ≤ 64 := by omega
  have HM : Hid (∀ q : p + 16 < (stB s.B).size, ((stB s.B)[p + 16]'q) = s.B.getD (p + 16) 0) := fun q => by
    rw [List.getD_eq_getElem?_getD, List.getElem?_eq_getElem (by exact q)]
    rfl
  have hpv : (((y.n : Int) + 1) % 2) * 20 = (p : Int) := by omega
  have g1 : ¬ ep < 0 := by omega
  have g2 : ¬ (1073741824 : Int) < ep := by omega
  have g3 : ¬ li < 0 := by omega
  have g4 : ¬ (1073741824 : Int) < li := by omega
  have g5 : ¬ ep < (y.e : Int) := by omega
  have g6 : ¬ li < (y.l : Int) := by omega
  have g7 : ¬ (4294967296 : Int) ≤ (y.n : Int) + 1 := by omega
  have g8 : (y.n : Int) ≤ 4294967296 := by omega
  clear h hlo e1 e2 e3 e4 o1 o2 hn hx hR hxn r1 hp
  go_enter Tryz.func36, Tryz.ntmps36
  go_upto_region 12 with fail
  clear g1 g2 g3 g4 g5 g6 g7 g8 hpv c1 c2 c3 c4
  obtain ⟨on, hon⟩ : ∃ on, s.on = on := ⟨_, rfl⟩
  have HON : Hid (s.on = on) := hon
  rw [hon] at b1 ⊢
  clear hon
  obtain ⟨M, hM⟩ : ∃ M, M = s.B.getD (p + 16) 0 := ⟨_, rfl⟩
  rw [← hM] at R1 R2 HM
  clear hM
  have ip : (p : Int) + 16 < 64 := by omega
  go_cut [73] (fun t wx => ∃ q : Bool, t = .bool q ∧ q = (on && !(M == 0)) ∧ wx = w)
  case first =>
    have hq : p + 16 < (stB s.B).size := by rw [zS]; omega
    have hMv := HM.out hq
    have HMV : Hid ((stB s.B)[p + 16]'hq = M) := hMv
    clear hMv
    generalize stB s.B = S at *
    have iS : (p : Int) + 16 < (S.size : Int) := by omega
    cases on
    · go_wp2_with fail
      go_meet
      case rel => exact ⟨_, rfl, rfl, rfl⟩
    · obtain ⟨u, hu⟩ : ∃ u, S[p + 16]'hq = u := ⟨_, rfl⟩
      have HU : Hid (u = M) := by show _ = _; rw [← hu]; exact HMV.out
      by_cases h0 : M = 0
      · have hu0 : u.toNat = 0 := by rw [HU.out, h0]; rfl
        have hm0 : ((u.toNat : Int) != 0) = false := by rw [hu0]; rfl
        go_wp2_with fail
        go_meet
        case rel => exact ⟨_, rfl, by rw [h0]; rfl, rfl⟩
      · have hm0 : ((u.toNat : Int) != 0) = true := by
          rw [bne_iff_ne, HU.out]
          intro e
          exact h0 (UInt8.toNat_inj.1 (by show _ = 0; omega))
        have HB0 : Hid ((M == 0) = false) := beq_eq_false_iff_ne.2 h0
        go_wp2_with fail
        go_meet
        case rel => exact ⟨_, rfl, by rw [HB0.out]; rfl, rfl⟩
  case rest =>
    obtain ⟨q, rfl, hq, rfl⟩ := hcut
    have HQ : Hid (q = (on && !(M == 0))) := hq
    clear hq
    go_upto_if 73 with fail
    go_cut [9] (fun t wx => ∃ (st : By) (ok : Bool), t = .bool ok ∧ RS w0 wx n m st y false (lo - 1) ∧ ((ok = true ∧ R = restW st x p 0) ∨ (ok = false ∧ R = (st, false))))
    case first =>
      cases q
      · go_wp2_with fail
        go_meet
        case rel =>
          refine ⟨s, on, rfl, HRS.out.mono (by omega), ?_⟩
          cases on
          · exact .inr ⟨rfl, R0.out HON.out⟩
          · refine .inl ⟨rfl, R1.out ?_⟩
            have := HQ.out
            simpa using this
      · have hmm : on = true ∧ M ≠ 0 := by
          have := HQ.out
          simpa using this
        obtain ⟨ho, h0⟩ := hmm
        have HB0 : Hid (M ≠ 0) := h0
        clear h0 ho
        · have hS : wc.drew.cell? ⟨m, 0, none⟩ = some (.pointer (some ⟨n, 0, none⟩)) := c0
          have hwr : IntKind.i64.wrap ((p : Int) + 16) = (p : Int) + 16 := by rw [IntKind.wrap_i64]; omega
          go_wp2_with fail
          go_region_held3 (fun w' => w'.cell? ⟨m, 0, none⟩ = some (.pointer (some ⟨n, 0, none⟩))) (first | assumption | exact RB2.out.c.c0 | exact RB1.out.c.c0)
            (first
          | (go_at_call 70; refine (byte0 _).mono ?_; rintro e v1 ⟨rfl, hb1⟩; have RB1 : Hid (RS w0 v1 n m s y false (lo)) := HRS.out.drew.below hb1; clear hb1)
          | (go_at_call 71; refine (rwrite_rs RB1.out (p + 16) [0] (by simp; omega) (by simp) (by have := HLO.out; omega)).mono ?_; rintro e v2 ⟨rfl, hr2⟩; have RB2 : Hid (RS w0 v2 n m (wrs s (seqW (p + 16) [0])).1 y false (lo - (([0]).length : Nat))) := hr2; clear hr2))
          have R3 : Hid (R = if (wrs s (seqW (p + 16) [0])).2 = true then restW (wrs s (seqW (p + 16) [0])).1 x p 0 else ((wrs s (seqW (p + 16) [0])).1, false)) := R2.out HB0.out
          generalize wrs s (seqW (p + 16) [0]) = P at *
          obtain ⟨st, ok⟩ := P
          go_wp2_with fail
          go_meet
          case rel =>
            refine ⟨st, ok, rfl, RB2.out, ?_⟩
            cases ok
            · exact .inr ⟨rfl, R3.out⟩
            · exact .inl ⟨rfl, R3.out⟩
    case rest =>
      obtain ⟨st, ok, rfl, hrs, hor⟩ := hcut
      have RS1 : Hid (RS w0 wc n m st y false (lo - 1)) := hrs
      have OR1 : Hid ((ok = true ∧ R = restW st x p 0) ∨ (ok = false ∧ R = (st, false))) := hor
      clear hrs hor HRS R0 R1 R2 HM c0 b0 b1 HON HQ zS
      go_upto_if 82 with fail
      go_cut [9] (fun t wx => ∃ (st : By) (ok : Bool), t = .bool ok ∧ RS w0 wx n m st y false (lo - 17) ∧ ((ok = true ∧ R = wrs st (seqW (p + 16) [165])) ∨ (ok = false ∧ R = (st, false))))
      case first =>
        cases ok
        · go_wp2_with fail
          go_meet
          case rel =>
            rcases OR1.out with ⟨h, _⟩ | ⟨_, h⟩
            · cases h
            · exact ⟨st, false, rfl, RS1.out.mono (by omega), .inr ⟨rfl, h⟩⟩
        · have hS : wc.drew.cell? ⟨m, 0, none⟩ = some (.pointer (some ⟨n, 0, none⟩)) := RS1.out.c.c0
          have hil : (img x).length = 16 := img_len x
          go_wp2_with fail
          go_region_held3 (fun w' => w'.cell? ⟨m, 0, none⟩ = some (.pointer (some ⟨n, 0, none⟩))) (first | assumption | exact RB2.out.c.c0 | exact RB1.out.c.c0)
            (first
            | (go_at_call 69; refine (BO.out _).mono ?_; rintro e v1 ⟨rfl, hb1⟩; have RB1 : Hid (RS w0 v1 n m st y false (lo - 1)) := RS1.out.drew.below hb1; clear hb1)
            | (go_at_call 71; refine (rwrite_rs RB1.out (p) (img x) (by omega) (fun e => by rw [e] at hil; simp at hil) (by have := HLO.out; omega)).mono ?_; rintro e v2 ⟨rfl, hr2⟩; have RB2 : Hid (RS w0 v2 n m (wrs st (seqW (p) (img x))).1 y false (lo - 1 - ((img x).length : Nat))) := hr2; clear hr2))
          have R3 : Hid (R = if (wrs st (seqW p (img x))).2 = true then wrs (wrs st (seqW p (img x))).1 (seqW (p + 16) [165]) else ((wrs st (seqW p (img x))).1, false)) := by
            rcases OR1.out with ⟨_, h⟩ | ⟨h, _⟩
            · rw [h]; exact restW_two st x p
            · cases h
          generalize wrs st (seqW p (img x)) = P at *
          obtain ⟨s2, ok2⟩ := P
          go_wp2_with fail
          go_meet
          case rel =>
            refine ⟨s2, ok2, rfl, RB2.out.mono (by rw [hil]; omega), ?_⟩
            cases ok2
            · exact .inr ⟨rfl, R3.out⟩
            · exact .inl ⟨rfl, R3.out⟩
      case rest =>
        obtain ⟨st, ok, rfl, hrs, hor⟩ := hcut
        have RS2 : Hid (RS w0 wc n m st y false (lo - 17)) := hrs
        have OR2 : Hid ((ok = true ∧ R = wrs st (seqW (p + 16) [165])) ∨ (ok = false ∧ R = (st, false))) := hor
        clear hrs hor RS1 OR1
        go_upto_if 93 with fail
        go_cut [9] (fun t wx => ∃ (st : By) (ok : Bool), t = .bool ok ∧ RS w0 wx n m st y false (lo - 20) ∧ R = (st, ok))
        case first =>
          cases ok
          · go_wp2_with fail
            go_meet
            case rel =>
              rcases OR2.out with ⟨h, _⟩ | ⟨_, h⟩
              · cases h
              · exact ⟨st, false, rfl, RS2.out.mono (by omega), h⟩
          · have hS : wc.drew.cell? ⟨m, 0, none⟩ = some (.pointer (some ⟨n, 0, none⟩)) := RS2.out.c.c0
            have hwr : IntKind.i64.wrap ((p : Int) + 16) = (p : Int) + 16 := by rw [IntKind.wrap_i64]; omega
            go_wp2_with fail
            go_region_held3 (fun w' => w'.cell? ⟨m, 0, none⟩ = some (.pointer (some ⟨n, 0, none⟩))) (first | assumption | exact RB2.out.c.c0 | exact RB1.out.c.c0)
              (first
            | (go_at_call 70; refine (byte165 _).mono ?_; rintro e v1 ⟨rfl, hb1⟩; have RB1 : Hid (RS w0 v1 n m st y false (lo - 17)) := RS2.out.drew.below hb1; clear hb1)
            | (go_at_call 71; refine (rwrite_rs RB1.out (p + 16) ([165]) (by simp; omega) (by simp) (by have := HLO.out; omega)).mono ?_; rintro e v2 ⟨rfl, hr2⟩; have RB2 : Hid (RS w0 v2 n m (wrs st (seqW (p + 16) ([165]))).1 y false (lo - 17 - (([165]).length : Nat))) := hr2; clear hr2))
            have R3 : Hid (R = wrs st (seqW (p + 16) [165])) := by
              rcases OR2.out with ⟨_, h⟩ | ⟨h, _⟩
              · exact h
              · cases h
            generalize wrs st (seqW (p + 16) [165]) = P at *
            obtain ⟨s2, ok2⟩ := P
            go_wp2_with fail
            go_meet
            case rel => exact ⟨s2, ok2, rfl, RB2.out.mono (by simp; omega), R3.out⟩
        case rest =>
          obtain ⟨st, ok, rfl, hrs, hR⟩ := hcut
          have RS3 : Hid (RS w0 wc n m st y false (lo - 20)) := hrs
          have HR3 : Hid (R = (st, ok)) := hR
          clear hrs hR RS2 OR2
          have c1 := RS3.out.c.c1
          have c2 := RS3.out.c.c2
          have c3 := RS3.out.c.c3
          have c4 := RS3.out.c.c4
          have cg := fun i => RS3.out.c.fr i
          cases ok
          · go_wp2_with fail
            go_ret
            rw [HR3.out]
            exact ⟨rfl, RS3.out.kill true⟩
          · go_wp2_with fail
            go_ret
            rw [HR3.out]
            refine ⟨rfl, ?_⟩
            have := RS3.out.put x
            rw [HXV.out.1, HXV.out.2.1, HXV.out.2.2] at this
            exact this
end Go.Proofs.YtifjoboaolpejaaGreatDoor

namespace Go.Proofs.YtifjoboaolpejaaGreatDoor
open Go.RowKit

set_option maxRecDepth 100000 in
set_option maxHeartbeats 8000000 in
theorem rput_any {w0 w : World} {n m : Nat} {s : By} {y : Nm} {d : Bool} {lo : Int} (h : RS w0 w n m s y d lo) (hy : newest s.B = y) (ep li : Int) (hlo : -900000000 ≤ lo) :
    Calls Tryz.prog 36 #[.pointer (some ⟨m, 0, none⟩), .int .i64 ep, .int .i64 li] w fun e w' => e = .returned (.int .i64 (((putE d s ep li).1 : Nat) : Int)) ∧ RS w0 w' n m (putE d s ep li).2.1 (newest (putE d s ep li).2.1.B) (putE d s ep li).2.2 (lo - 20) := by
  have HRS : Hid (RS w0 w n m s y d lo) := h
  have HY : Hid (newest s.B = y) := hy
  have c2 := h.c.c2
  have c3 := h.c.c3
  have c4 := h.c.c4
  have c1 := h.c.c1
  have hlt := newest_lt s.B
  rw [hy] at hlt
  obtain ⟨R, hR⟩ : ∃ R, R = putE d s ep li := ⟨_, rfl⟩
  have HR : Hid (R = putE d s ep li) := hR
  rw [← hR]
  clear hR
  cases d
  · by_cases h1 : badEp ep li = true
    · have HB : Hid (R = (2, s, false)) := by rw [HR.out]; unfold putE; rw [if_neg (by simp), if_pos h1]; exact rfl
      have fin : ∀ e : Ending, e = .returned (.int .i64 2) → e = .returned (.int .i64 ((R.1 : Nat) : Int)) ∧ RS w0 w n m R.2.1 (newest R.2.1.B) R.2.2 (lo - 20) := fun e he => by
        rw [HB.out]
        exact ⟨he, by show RS w0 w n m s (newest s.B) false _; rw [HY.out]; exact HRS.out.mono (by omega)⟩
      have HF : Hid (∀ e : Ending, e = .returned (.int .i64 2) → e = .returned (.int .i64 ((R.1 : Nat) : Int)) ∧ RS w0 w n m R.2.1 (newest R.2.1.B) R.2.2 (lo - 20)) := fin
      have hb : ep < 0 ∨ (¬ ep < 0 ∧ (1073741824 : Int) < ep) ∨ (¬ ep < 0 ∧ ¬ (1073741824 : Int) < ep ∧ li < 0) ∨ (¬ ep < 0 ∧ ¬ (1073741824 : Int) < ep ∧ ¬ li < 0 ∧ (1073741824 : Int) < li) := by
        unfold badEp isEp at h1
        simp at h1
        omega
      clear fin h1 hlo hlt hy h
      rcases hb with g1 | ⟨g1, g2⟩ | ⟨g1, g2, g3⟩ | ⟨g1, g2, g3, g4⟩
      all_goals
        go_enter Tryz.func36, Tryz.ntmps36
        go_wp2_with fail
        go_ret
        exact HF.out _ rfl
    · have hb : ¬ ep < 0 ∧ ¬ (1073741824 : Int) < ep ∧ ¬ li < 0 ∧ ¬ (1073741824 : Int) < li := by
        unfold badEp isEp at h1
        simp at h1
        omega
      have RB : R = if oldEp s ep li then (10, s, false) else if (newest s.B).n = 4294967295 then (6, s, false) else if (putS s (nextNm s ep li)).2 then (0, (putS s (nextNm s ep li)).1, false) else (7, (putS s (nextNm s ep li)).1, true) := by
        rw [HR.out]; unfold putE; rw [if_neg (by simp), if_neg h1]
      obtain ⟨g1, g2, g3, g4⟩ := hb
      by_cases h2 : oldEp s ep li = true
      · rw [if_pos h2] at RB
        have HF : Hid (∀ e : Ending, e = .returned (.int .i64 10) → e = .returned (.int .i64 ((R.1 : Nat) : Int)) ∧ RS w0 w n m R.2.1 (newest R.2.1.B) R.2.2 (lo - 20)) := fun e he => by
          rw [RB]
          exact ⟨he, by show RS w0 w n m s (newest s.B) false _; rw [HY.out]; exact HRS.out.mono (by omega)⟩
        have ho : ep < (y.e : Int) ∨ (¬ ep < (y.e : Int) ∧ li < (y.l : Int)) := by
          unfold oldEp at h2
          rw [hy] at h2
          simp at h2
          omega
        clear RB h1 h2 hlo hlt hy h
        rcases ho with g5 | ⟨g5, g6⟩
        all_goals
          go_enter Tryz.func36, Tryz.ntmps36
          go_wp2_with fail
          go_ret
          exact HF.out _ rfl
      · rw [if_neg h2, hy] at RB
        have ho : ¬ ep < (y.e : Int) ∧ ¬ li < (y.l : Int) := by
          unfold oldEp at h2
          rw [hy] at h2
          simp at h2
          omega
        obtain ⟨g5, g6⟩ := ho
        by_cases h3 : y.n = 4294967295
        · rw [if_pos h3] at RB
          have HF : Hid (∀ e : Ending, e = .returned (.int .i64 6) → e = .returned (.int .i64 ((R.1 : Nat) : Int)) ∧ RS w0 w n m R.2.1 (newest R.2.1.B) R.2.2 (lo - 20)) := fun e he => by
            rw [RB]
            exact ⟨he, by show RS w0 w n m s (newest s.B) false _; rw [HY.out]; exact HRS.out.mono (by omega)⟩
          rw [h3] at c1
          have c1 : w.cell? ⟨m, 1, none⟩ = some (.int .i64 4294967295) := c1
          clear RB h1 h2 hlo hlt hy h h3
          go_enter Tryz.func36, Tryz.ntmps36
          go_wp2_with fail
          go_ret
          exact HF.out _ rfl
        · rw [if_neg h3] at RB
          have hx : nextNm s ep li = ⟨y.n + 1, ep.toNat, li.toNat⟩ := by unfold nextNm; rw [hy]
          have hp := put_pair h.len (x := nextNm s ep li) rfl (by show (newest s.B).n + 1 < _; rw [hy]; omega) (by show ep.toNat < _; omega) (by show li.toNat < _; omega)
          refine (rput_go h ep li hlo (by omega) (by omega) (by omega) (by omega) (by omega) (by omega) (by omega) hx).mono ?_
          rintro e w' ⟨rfl, rs⟩
          cases hq : (putS s (nextNm s ep li)).2
          · rw [hq] at RB rs
            have RB : R = (7, (putS s (nextNm s ep li)).1, true) := RB
            rw [RB]
            refine ⟨by rfl, ?_⟩
            show RS w0 w' n m (putS s (nextNm s ep li)).1 (newest (putS s (nextNm s ep li)).1.B) true _
            rw [(hp.2 hq).1, hy]
            exact rs
          · rw [hq] at RB rs
            have RB : R = (0, (putS s (nextNm s ep li)).1, false) := RB
            rw [RB]
            refine ⟨by rfl, ?_⟩
            show RS w0 w' n m (putS s (nextNm s ep li)).1 (newest (putS s (nextNm s ep li)).1.B) false _
            rw [(hp.1 hq).1]
            exact rs
  · have HF : Hid (∀ e : Ending, e = .returned (.int .i64 7) → e = .returned (.int .i64 ((R.1 : Nat) : Int)) ∧ RS w0 w n m R.2.1 (newest R.2.1.B) R.2.2 (lo - 20)) := fun e he => by
      have RB : R = (7, s, true) := HR.out
      rw [RB]
      exact ⟨he, by show RS w0 w n m s (newest s.B) true _; rw [HY.out]; exact HRS.out.mono (by omega)⟩
    clear hlo hlt hy h
    go_enter Tryz.func36, Tryz.ntmps36
    go_wp2_with fail
    go_ret
    exact HF.out _ rfl
set_option maxRecDepth 100000 in
set_option maxHeartbeats 2000000 in
theorem all_any (b : Nat) (s : By) (w : World) (S : Byt w b s) : Calls Tryz.prog 16 #[.pointer (some ⟨b, 0, none⟩)] w fun e w' => e = .returned (.string (stB s.B)) ∧ w' = w := by
  have hcv := run_convert_bytes_arg (P := Tryz.prog) w 72 5 Tryz.underlying72 Tryz.underlying5 b 0 64 64 (s.B.map fun v => (v.toNat : Int)) (by rw [List.length_map]; exact S.2) (fun i hi => by
    rw [Nat.zero_add, S.at' i hi]
    unfold u8v
    rw [List.getD_eq_getElem?_getD, List.getD_eq_getElem?_getD, List.getElem?_map, List.getElem?_eq_getElem (by rw [S.2]; exact hi)]
    rfl) 9 Tryz.underlying9
  have hst : strOfNums (s.B.map fun v => (v.toNat : Int)) = stB s.B := by
    apply ByteArray.ext
    apply Array.ext'
    rw [strOfNums_data, List.map_map]
    show List.map _ s.B = s.B
    conv => rhs; rw [← List.map_id s.B]
    apply List.map_congr_left
    intro v _
    simp
  rw [hst] at hcv
  clear S hst
  go_enter Tryz.func16, Tryz.ntmps16
  go_wp2_with fail
  go_ret
  exact ⟨rfl, rfl⟩
end Go.Proofs.YtifjoboaolpejaaGreatDoor

namespace Go.Proofs.YtifjoboaolpejaaGreatDoor
open Go.RowKit Go.Lib

set_option maxRecDepth 100000 in
set_option maxHeartbeats 2000000 in
theorem lay_bad (b : Nat) (x : ByteArray) (se : Nat → Addr) (w : World) (E : Sents w se) (hx : x.size ≠ 64) :
    Calls Tryz.prog 7 #[.pointer (some ⟨b, 0, none⟩), .string x] w fun e w' => e = .returned (terr se 3) ∧ w' = w := by
  have hn : ((x.size : Int) != 64) = true := by rw [bne_iff_ne]; omega
  have c2 := E.c2
  clear E
  go_enter Tryz.func7, Tryz.ntmps7
  go_wp2_with fail
  go_ret
  exact ⟨rfl, rfl⟩
theorem byArr_lay (s : By) (hs : s.B.length = 64) (L : List UInt8) (hl : L.length = 64) : ((byArr s).toList.take 0 ++ byteCells (stB L).data.toList ++ (byArr s).toList.drop (0 + (stB L).size)).toArray = byArr ⟨L, s.on, s.cut, s.left⟩ := by
  apply Array.ext'
  simp only [byArr, stB, List.take_zero, List.nil_append, Nat.zero_add]
  have hz : (⟨L.toArray⟩ : ByteArray).size = 64 := hl
  rw [hz, List.drop_append_of_le_length (by rw [List.length_map]; omega), List.drop_of_length_le (by rw [List.length_map]; omega)]
  rfl
set_option maxRecDepth 100000 in
set_option maxHeartbeats 2000000 in
theorem lay_ok (b : Nat) (s : By) (L : List UInt8) (w : World) (S : Byt w b s) (hl : L.length = 64) :
    Calls Tryz.prog 7 #[.pointer (some ⟨b, 0, none⟩), .string (stB L)] w fun e w' => e = .returned .nilIface ∧ Byt w' b ⟨L, s.on, s.cut, s.left⟩ ∧ Chg b w w' := by
  have hcp := run_copy_row_string (P := Tryz.prog) w 72 9 3 5 b 0 64 64 (stB L) (byArr s) 71 Tryz.underlying72 (by kernel_rfl) S.1 (by rw [stB_size]; omega) (by rw [stB_size]; simp [byArr]; have := S.2; omega)
  rw [byArr_lay s S.2 L hl] at hcp
  have HS : Hid (Byt w b s) := S
  have HW : Hid (Byt (w.setRow b (byArr ⟨L, s.on, s.cut, s.left⟩)) b ⟨L, s.on, s.cut, s.left⟩) := ⟨setRow_heap _ _ _ _ _ _ S.1, hl⟩
  have HC : Hid (Chg b w (w.setRow b (byArr ⟨L, s.on, s.cut, s.left⟩))) := ⟨rfl, rfl, rfl, by simp [World.setRow], fun k _ hn => by simp only [World.setRow]; rw [Array.getElem?_modify, if_neg (fun e => hn e.symm)]⟩
  have zs : (stB L).size = 64 := hl
  generalize byArr ⟨L, s.on, s.cut, s.left⟩ = arr at *
  generalize stB L = V at *
  clear S
  go_enter Tryz.func7, Tryz.ntmps7
  go_wp2_with fail
  go_ret
  exact ⟨rfl, HW.out, HC.out⟩
/-- the seventeen bytes of a slot that are looked at. -/
def slotT (B : List UInt8) (k : Nat) : List UInt8 := (B.drop (20 * k)).take 17
theorem slotT_len {B : List UInt8} (h : B.length = 64) (k : Nat) (hk : k < 2) : (slotT B k).length = 17 := by simp [slotT, h]; omega
theorem slotT_split {B : List UInt8} (h : B.length = 64) (k : Nat) (hk : k < 2) : slotT B k = slotL B k ++ [slotM B k] := by
  unfold slotT slotL slotM
  rw [List.take_succ_eq_append_getElem (by rw [List.length_drop]; omega), List.getElem_drop, List.getD_eq_getElem?_getD, List.getElem?_eq_getElem (by omega)]
  rfl
theorem beN_piece (T : List UInt8) (a : Nat) : beN ((T.drop a).take 4) 0 4 = beN T a 4 := by
  have e : ∀ i, i < 4 → ((T.drop a).take 4).getD (0 + i) 0 = T.getD (a + i) 0 := fun i hi => by
    rw [Nat.zero_add, List.getD_eq_getElem?_getD, List.getD_eq_getElem?_getD, List.getElem?_take, if_pos hi, List.getElem?_drop]
  simp only [beN]
  rw [e 0 (by omega), e 1 (by omega), e 2 (by omega), e 3 (by omega)]
theorem beN_left (L : List UInt8) (v : UInt8) (a : Nat) (h : a + 4 ≤ L.length) : beN (L ++ [v]) a 4 = beN L a 4 := by
  have e : ∀ i, i < 4 → (L ++ [v]).getD (a + i) 0 = L.getD (a + i) 0 := fun i hi => by
    rw [List.getD_eq_getElem?_getD, List.getD_eq_getElem?_getD, List.getElem?_append_left (by omega)]
  simp only [beN]
  rw [e 0 (by omega), e 1 (by omega), e 2 (by omega), e 3 (by omega)]
theorem nm_T {B : List UInt8} (h : B.length = 64) (k : Nat) (hk : k < 2) : slotN B k = ⟨beN (slotT B k) 0 4, beN (slotT B k) 4 4, beN (slotT B k) 8 4⟩ := by
  have hl := slotL_len h k hk
  unfold slotN nmOf
  rw [slotT_split h k hk, beN_left _ _ _ (by omega), beN_left _ _ _ (by omega), beN_left _ _ _ (by omega)]
theorem ext_stB (T : List UInt8) (a b : Nat) : (stB T).extract a b = stB ((T.drop a).take (b - a)) := by
  apply ByteArray.ext
  apply Array.ext'
  simp [stB, ByteArray.data_extract]
theorem held_T {B : List UInt8} (h : B.length = 64) (k : Nat) (hk : k < 2) : isHeld B k = ((stB (img (slotN B k) ++ [165])).toList == (stB (slotT B k)).toList && decide (1 ≤ (slotN B k).n) && (slotN B k).n % 2 == k) := by
  have e : ((stB (img (slotN B k) ++ [165])).toList == (stB (slotT B k)).toList) = (slotM B k == 165 && slotL B k == img (slotN B k)) := by
    have e1 : ∀ L : List UInt8, (stB L).toList = L := fun L => by rw [ByteArray.toList_eq]; rfl
    rw [e1, e1, slotT_split h k hk, Bool.eq_iff_iff, beq_iff_eq, Bool.and_eq_true, beq_iff_eq, beq_iff_eq]
    constructor
    · intro he
      have := List.append_inj he (by rw [img_len, slotL_len h k hk])
      exact ⟨by simpa using this.2.symm, this.1.symm⟩
    · rintro ⟨a, b⟩
      rw [a, ← b]
  rw [e]
  rfl
theorem next_T {B : List UInt8} (k : Nat) (hk : k < 2) : newestK B (k + 1) = if isHeld B k = true ∧ ¬ (slotN B k).n < (newestK B k).n then slotN B k else newestK B k := by
  rw [newestK]
  by_cases hh : isHeld B k = true
  · have hs := held_spec hh
    have hne : (newestK B k).n ≠ (slotN B k).n := by
      have h01 : k = 0 ∨ k = 1 := by omega
      rcases h01 with rfl | rfl
      · show (0 : Nat) ≠ _; omega
      · have h0 := @held_spec B 0
        rw [newestK]
        split
        · rename_i h; have := h0 h.1; omega
        · show (0 : Nat) ≠ _; omega
    by_cases hl : (newestK B k).n < (slotN B k).n
    · rw [if_pos ⟨hh, hl⟩, if_pos ⟨hh, by omega⟩]
    · rw [if_neg (fun h => hl h.2), if_neg (fun h => hl (by have := h.2; omega))]
  · rw [if_neg (fun h => hh h.1), if_neg (fun h => hh h.1)]
end Go.Proofs.YtifjoboaolpejaaGreatDoor

namespace Go.Proofs.YtifjoboaolpejaaGreatDoor
open Go.RowKit

set_option maxRecDepth 100000 in
set_option maxHeartbeats 8000000 in
theorem ropen_any (n : Nat) (s : By) (lv : Int) (w : World) (R : RBy w n s lv) (hB : s.B.length = 64) :
    Calls Tryz.prog 35 #[.pointer (some ⟨n, 0, none⟩)] w fun e w' => (e = .returned (.pointer (some ⟨w.heap.size, 0, none⟩)) ∧ RCe w' w.heap.size n (newest s.B) false) ∧ Below w.heap.size w w' := by
  have HR : Hid (RBy w n s lv) := R
  have HL : Hid (s.B.length = 64) := hB
  clear R hB
  go_enter Tryz.func35, Tryz.ntmps35
  go_wp2_with fail
  obtain ⟨w1, hw1⟩ : ∃ w1, w1 = w.alloc (.cells #[.pointer (some ⟨n, 0, none⟩), .int .i64 0, .int .i64 0, .int .i64 0, .bool false] 94) := ⟨_, rfl⟩
  have C1 : Hid (RCe w1 w.heap.size n ⟨0, 0, 0⟩ false) := by rw [hw1]; exact heap_alloc_new w _
  have B1 : Hid (Below w.heap.size w w1) := by rw [hw1]; exact aB _ _
  rw [← hw1]
  clear hw1
  obtain ⟨Z, hZ⟩ : ∃ Z, Z = w.heap.size := ⟨_, rfl⟩
  have HZ : Hid (Z = w.heap.size) := hZ
  rw [← hZ] at C1 ⊢
  clear hZ
  go_loopw [4] (fun t wr => ∃ k : Nat, k ≤ 2 ∧ t = .int .i64 k ∧ RCe wr Z n (newestK s.B k) false ∧ Below Z w wr) (fun t _ => 2 - (intOf t).toNat)
  case atStart => exact ⟨0, by omega, rfl, C1.out, by rw [HZ.out]; exact B1.out⟩
  case round =>
    obtain ⟨k, hk, rfl, hc, hb⟩ := hrel
    have CR : Hid (RCe wr Z n (newestK s.B k) false) := hc
    have BR : Hid (Below Z w wr) := hb
    clear hc hb
    by_cases hlt : k < 2
    · have RR : Hid (RBy wr n s lv) := HR.out.below (by rw [← HZ.out]; exact BR.out)
      have b0 := RR.out.c0
      have zS : (stB s.B).size = 64 := HL.out
      obtain ⟨p, hp⟩ : ∃ p, p = 20 * k := ⟨_, rfl⟩
      have HT : Hid ((stB s.B).extract p (p + 17) = stB (slotT s.B k)) := by
        show _ = _
        rw [ext_stB, hp]
        unfold slotT
        rw [show 20 * k + 17 - 20 * k = 17 from by omega]
      have hpv : (20 : Int) * (k : Int) = (p : Int) := by omega
      have p1 : (p : Int) ≤ 20 := by omega
      have p2 : (p : Int) + 17 ≤ 64 := by omega
      have p3 : (p : Int) ≤ (p : Int) + 17 := by omega
      have p4 : ((p : Int) + 17).toNat = p + 17 := by omega
      have p5 : (0 : Int) ≤ (p : Int) + 17 := by omega
      have zT : (stB (slotT s.B k)).size = 17 := slotT_len HL.out k hlt
      have HV0 : Hid (∀ u, Calls Tryz.prog 68 #[.string ((stB (slotT s.B k)).extract 0 4)] u fun e w' => e = .returned (.int .i64 (slotN s.B k).n) ∧ w' = u) := fun u => by
        rw [ext_stB, nm_T HL.out k hlt]
        have := value_any ((slotT s.B k).drop 0 |>.take (4 - 0)) (by simp [slotT_len HL.out k hlt]) u
        rw [show 4 - 0 = 4 from rfl, beN_piece] at this
        exact this
      have HV1 : Hid (∀ u, Calls Tryz.prog 68 #[.string ((stB (slotT s.B k)).extract 4 8)] u fun e w' => e = .returned (.int .i64 (slotN s.B k).e) ∧ w' = u) := fun u => by
        rw [ext_stB, nm_T HL.out k hlt]
        have := value_any ((slotT s.B k).drop 4 |>.take (8 - 4)) (by simp [slotT_len HL.out k hlt]) u
        rw [show 8 - 4 = 4 from rfl, beN_piece] at this
        exact this
      have HV2 : Hid (∀ u, Calls Tryz.prog 68 #[.string ((stB (slotT s.B k)).extract 8 12)] u fun e w' => e = .returned (.int .i64 (slotN s.B k).l) ∧ w' = u) := fun u => by
        rw [ext_stB, nm_T HL.out k hlt]
        have := value_any ((slotT s.B k).drop 8 |>.take (12 - 8)) (by simp [slotT_len HL.out k hlt]) u
        rw [show 12 - 8 = 4 from rfl, beN_piece] at this
        exact this
      have hxl := slotN_lt s.B k
      have BO : Hid (∀ u, Calls Tryz.prog 69 #[.int .i64 (slotN s.B k).n, .int .i64 (slotN s.B k).e, .int .i64 (slotN s.B k).l] u fun e w' => e = .returned (.string (stB (img (slotN s.B k)))) ∧ Below u.heap.size u w') := fun u => rbody_any (slotN s.B k) hxl.1 hxl.2.1 hxl.2.2 u
      have HH : Hid (isHeld s.B k = ((stB (img (slotN s.B k)) ++ stB [165]).toList == (stB (slotT s.B k)).toList && decide (1 ≤ (slotN s.B k).n) && (slotN s.B k).n % 2 == k)) := by
        show _ = _
        rw [stB_append]; exact held_T HL.out k hlt
      have HN : Hid (newestK s.B (k + 1) = if isHeld s.B k = true ∧ ¬ (slotN s.B k).n < (newestK s.B k).n then slotN s.B k else newestK s.B k) := next_T k hlt
      have zI : (stB (img (slotN s.B k))).size = 16 := rfl
      generalize stB (slotT s.B k) = T at *
      generalize stB (img (slotN s.B k)) = I at *
      generalize stB s.B = S at *
      generalize slotN s.B k = x at *
      generalize newestK s.B k = y at *
      generalize isHeld s.B k = held at *
      have c1 := CR.out.c1
      have c2 := CR.out.c2
      have c3 := CR.out.c3
      have cf := fun i => CR.out.fr i
      clear hp hxl
      go_wp2_with fail
      rw [HT.out]
      refine (HV0.out _).mono ?_
      rintro e w' ⟨rfl, hw'⟩
      obtain rfl := hw'.symm
      clear HT b0 zS
      by_cases hgo : x.n < 1 ∨ x.n % 2 ≠ k ∨ x.n < y.n
      · have HNY : Hid (newestK s.B (k + 1) = y) := by
          show _ = _
          rw [HN.out, if_neg]
          rintro ⟨h1, h2⟩
          rw [HH.out] at h1
          simp at h1
          omega
        have hcs : (x.n : Int) < 1 ∨ (¬ (x.n : Int) < 1 ∧ ((x.n : Int) % 2 != (k : Int)) = true) ∨ (¬ (x.n : Int) < 1 ∧ ((x.n : Int) % 2 != (k : Int)) = false ∧ (x.n : Int) < (y.n : Int)) := by
          by_cases a : (x.n : Int) < 1
          · exact .inl a
          · by_cases c : (x.n : Int) % 2 = (k : Int)
            · exact .inr (.inr ⟨a, by simp [c], by omega⟩)
            · exact .inr (.inl ⟨a, by simp [c]⟩)
        clear hgo
        rcases hcs with g1 | ⟨g1, g2⟩ | ⟨g1, g2, g3⟩
        all_goals
          go_wp2_with fail
          exact ⟨⟨k + 1, by omega, by go_num, by rw [HNY.out]; exact CR.out, BR.out⟩, by simp [intOf]; omega⟩
      · have g1 : ¬ (x.n : Int) < 1 := by omega
        have g2 : ((x.n : Int) % 2 != (k : Int)) = false := by
          have : (x.n : Int) % 2 = (k : Int) := by omega
          simp [this]
        have g3 : ¬ (x.n : Int) < (y.n : Int) := by omega
        have HN2 : Hid (newestK s.B (k + 1) = if ((I ++ stB [165]).toList == T.toList) = true then x else y) := by
          show _ = _
          rw [HN.out, HH.out]
          have e1 : decide (1 ≤ x.n) = true := decide_eq_true (by omega)
          have e2 : (x.n % 2 == k) = true := beq_iff_eq.2 (by omega)
          have e3 : ¬ x.n < y.n := by omega
          rw [e1, e2, Bool.and_true, Bool.and_true]
          by_cases hd : ((I ++ stB [165]).toList == T.toList) = true
          · rw [if_pos ⟨hd, e3⟩, if_pos hd]
          · rw [if_neg (fun h => hd h.1), if_neg hd]
        clear hgo
        have z165 : (stB [165]).size = 1 := rfl
        have BY : Hid (∀ u, Calls Tryz.prog 70 #[.int .i64 165] u fun e w' => e = .returned (.string (stB [165])) ∧ Below u.heap.size u w') := byte165
        generalize stB [165] = V at *
        have hz : ¬ 9223372036854775807 < I.size + V.size := by omega
        generalize hD : ((I ++ V).toList == T.toList) = D at *
        have hS : Below wr.heap.size wr wr.drew := (Below.refl _ _).drew
        go_wp2_with fail
        go_region_held3 (fun w' => Below wr.heap.size wr w') (first | assumption | exact t2 (by assumption) (by assumption))
          (first
            | (go_at_call_of 68 (Value.string (T.extract 4 8)); refine (HV1.out _).mono ?_; rintro e v1 ⟨rfl, hv⟩; obtain rfl := hv.symm)
            | (go_at_call_of 68 (Value.string (T.extract 8 12)); refine (HV2.out _).mono ?_; rintro e v2 ⟨rfl, hv⟩; obtain rfl := hv.symm)
            | (go_at_call 69; refine (BO.out _).mono ?_; rintro e v3 ⟨rfl, hb3⟩; have hb3' := t2 hS hb3)
            | (go_at_call 70; refine (BY.out _).mono ?_; rintro e v4 ⟨rfl, hb4⟩; have hb4' := t2 hb3' hb4))
        have B4 : Hid (Below wr.heap.size wr v4) := hb4'
        have C4 : Hid (RCe v4 Z n y false) := CR.out.below B4.out
        have X4 : Hid (Below Z w v4) := BR.out.trans (B4.out.mono (by have := CR.out.lt; omega))
        clear hb3 hb3' hb4 hb4' hS c1 c2 c3 cf
        have c1 := C4.out.c1
        have c2 := C4.out.c2
        have c3 := C4.out.c3
        have cf := fun i => C4.out.fr i
        cases D
        · have HNY : Hid (newestK s.B (k + 1) = y) := HN2.out
          go_wp2_with fail
          exact ⟨⟨k + 1, by omega, by go_num, by rw [HNY.out]; exact C4.out, X4.out⟩, by simp [intOf]; omega⟩
        · have HNY : Hid (newestK s.B (k + 1) = x) := HN2.out
          go_wp2_with (first
            | (go_at_call_of 68 (Value.string (T.extract 4 8)); refine (HV1.out _).mono ?_; rintro e v1 ⟨rfl, hv⟩; obtain rfl := hv.symm)
            | (go_at_call_of 68 (Value.string (T.extract 8 12)); refine (HV2.out _).mono ?_; rintro e v2 ⟨rfl, hv⟩; obtain rfl := hv.symm))
          refine ⟨⟨k + 1, by omega, by go_num, ?_, ?_⟩, by simp [intOf]; omega⟩
          · rw [HNY.out]; exact C4.out.put x
          · exact ((X4.out.setCell (Nat.le_refl _) _).setCell (Nat.le_refl _) _).setCell (Nat.le_refl _) _
    · have HK : Hid (k = 2) := (show k = 2 by omega)
      go_wp2_with fail
      go_ret
      refine ⟨⟨by rw [← HZ.out]; rfl, ?_⟩, by rw [← HZ.out]; exact BR.out⟩
      rw [← HZ.out]
      have := CR.out
      rw [HK.out] at this
      exact this
end Go.Proofs.YtifjoboaolpejaaGreatDoor
