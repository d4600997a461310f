/-
  The document's answer: Byte, Wide.
-/
import Derived.Test.YtdkfjjamfefcaabDoorGeP
import Derived.Laws.BytesArg
namespace Go.Proofs.YtdkfjjamfefcaabDoor
open Go.RowKit

set_option maxRecDepth 100000 in
set_option maxHeartbeats 1000000 in
theorem byte_any (n : Int) (h0 : 0 ≤ n) (h1 : n ≤ 255) (w : World) : Calls Tryd.prog 95 #[.int .i64 n] w fun e w' => e = .returned (.string ⟨#[UInt8.ofNat n.toNat]⟩) ∧ Below w.heap.size w w' := by
  have hcv := run_convert_bytes_arg (P := Tryd.prog) (w.alloc (.cells #[.int .u8 (n % 256)] 5)) 99 5 Tryd.underlying99 Tryd.underlying5 w.heap.size 0 1 1 [n % 256] rfl (fun i hi => by
    obtain rfl : i = 0 := by omega
    simp) 9 Tryd.underlying9
  have hst : strOfNums [n % 256] = ⟨#[UInt8.ofNat n.toNat]⟩ := by
    rw [Int.emod_eq_of_lt h0 (by omega)]; rfl
  rw [hst] at hcv
  clear hst h0 h1
  go_enter Tryd.func95, Tryd.ntmps95
  go_wp2_with fail
  go_ret
  exact ⟨rfl, (Below.refl _ _).alloc (Nat.le_refl _) _⟩

/-- n's low bytes, the highest first. -/
def wideL (n : Int) : Nat → List UInt8
  | 0 => []
  | k + 1 => wideL (n / 256) k ++ [UInt8.ofNat (n % 256).toNat]
theorem wideL_snoc : ∀ (k : Nat) (n : Int), wideL n (k + 1) = UInt8.ofNat (n / 256 ^ k % 256).toNat :: wideL n k
  | 0, n => by simp [wideL]
  | k + 1, n => by
    rw [wideL, wideL_snoc k (n / 256), wideL]
    simp only [List.cons_append]
    rw [Int.ediv_ediv_of_nonneg (by omega), show (256 : Int) * 256 ^ k = 256 ^ (k + 1) from by rw [Int.pow_succ, Int.mul_comm]]
theorem wideL_len : ∀ (k : Nat) (n : Int), (wideL n k).length = k
  | 0, _ => rfl
  | k + 1, n => by simp [wideL, wideL_len k]

set_option maxHeartbeats 1000000 in
theorem wide_any (n : Int) (h0 : 0 ≤ n) (h1 : n < 4294967296) (m : Nat) (hm : m ≤ 8) (w : World) : Calls Tryd.prog 108 #[.int .i64 n, .int .i64 m] w fun e w' => e = .returned (.string ⟨(wideL n m).toArray⟩) ∧ Below w.heap.size w w' := by
  go_enter Tryd.func108, Tryd.ntmps108
  go_wp2_with fail
  go_loopw [0, 5, 6] (fun a o t wr => ∃ k : Nat, k ≤ m ∧ t = .int .i64 k ∧ a = .int .i64 (n / 256 ^ k) ∧ o = .string ⟨(wideL n k).toArray⟩ ∧ Below w.heap.size w wr) (fun _ _ t _ => m - (intOf t).toNat)
  case atStart => exact ⟨0, by omega, rfl, by simp, rfl, Below.refl _ _⟩
  case round =>
    obtain ⟨k, hk, rfl, rfl, rfl, hb⟩ := hrel
    have HB : Hid (Below w.heap.size w wr) := hb
    have hl := wideL_len k n
    have hs := wideL_snoc k n
    have HS : Hid (wideL n (k + 1) = UInt8.ofNat (n / 256 ^ k % 256).toNat :: wideL n k) := hs
    have hq : 0 ≤ n / 256 ^ k := Int.ediv_nonneg h0 (by exact Int.le_of_lt (Int.pow_pos (by omega)))
    have hq2 : n / 256 ^ k < 4294967296 := Int.lt_of_le_of_lt (Int.ediv_le_self _ h0) h1
    have hd : n / 256 ^ k / 256 = n / 256 ^ (k + 1) := by rw [Int.ediv_ediv_of_nonneg (by exact Int.le_of_lt (Int.pow_pos (by omega))), Int.pow_succ]
    have HD : Hid (n / 256 ^ k / 256 = n / 256 ^ (k + 1)) := hd
    clear hb hs hd
    generalize n / 256 ^ k = q at *
    generalize hLL : wideL n k = L at *
    have HLL : Hid (wideL n k = L) := hLL
    clear hLL
    have hl2 : L.length ≤ 8 := by omega
    clear hl
    by_cases hlt : k < m
    · go_wp2_with fail
      refine (byte_any _ (by omega) (by omega) _).mono ?_
      rintro e w1 ⟨rfl, hb1⟩
      have HB1 : Hid (Below w.heap.size w w1) := t2 HB.out hb1
      clear hb1
      go_wp2_with fail
      go_roundw
      case rel => exact ⟨k + 1, by omega, by go_num, by rw [← HD.out], congrArg Value.string (by rw [HS.out]; apply ByteArray.ext; simp [ByteArray.data_append]), HB1.out⟩
      case measure => simp [intOf]; omega
    · obtain rfl : k = m := by omega
      have HL : Hid (wideL n k = L) := HLL.out
      go_wp2_with fail
      go_ret
      refine ⟨?_, HB.out⟩
      rw [HL.out]
      rfl

end Go.Proofs.YtdkfjjamfefcaabDoor
