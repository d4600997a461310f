/-
  The document's answer: NumberOf.
-/
import Derived.Test.YtpmoamfhppmicaaGreatDoorProg
import Derived.WalkKit
import Derived.Below
namespace Go.Proofs.YtpmoamfhppmicaaGreatDoor
open Go.RowKit

/-- the number that digits make behind acc; -1: one of them is none. -/
def numFrom : Nat → List UInt8 → Int
  | acc, [] => acc
  | acc, c :: r => if 48 ≤ c.toNat ∧ c.toNat ≤ 57 then numFrom (10 * acc + (c.toNat - 48)) r else -1
def numOf (l : List UInt8) (most : Nat) : Int := if l.length < 1 ∨ most < l.length ∨ (1 < l.length ∧ l.getD 0 0 = 48) then -1 else numFrom 0 l
theorem bytes_len (x : ByteArray) : x.data.toList.length = x.size := Array.length_toList
theorem byte_at (x : ByteArray) (i : Nat) (h : i < x.size) : x.data.toList.getD i 0 = x[i] := by
  rw [List.getD_eq_getElem?_getD, List.getElem?_eq_getElem (by rw [bytes_len]; exact h)]; rfl

set_option maxRecDepth 100000 in
set_option maxHeartbeats 2000000 in
theorem numberOf_short (x : ByteArray) (most : Nat) (w : World) (h : x.size < 1 ∨ most < x.size) :
    Calls Tryz.prog 39 #[.string x, .int .i64 most] w fun e w' => e = .returned (.int .i64 (-1)) ∧ w' = w := by
  rcases h with h | h
  · have h1 : (x.size : Int) < 1 := by omega
    clear h
    go_enter Tryz.func39, Tryz.ntmps39
    go_wp2_with fail
    go_ret
    exact ⟨rfl, rfl⟩
  · have h1 : (most : Int) < (x.size : Int) := by omega
    have h2 : ¬ (x.size : Int) < 1 := by omega
    clear h
    go_enter Tryz.func39, Tryz.ntmps39
    go_wp2_with fail
    all_goals (go_ret; exact ⟨rfl, rfl⟩)
set_option maxRecDepth 100000 in
set_option maxHeartbeats 2000000 in
theorem numberOf_zero (x : ByteArray) (most : Nat) (w : World) (h : x.size ≤ most) (h1 : 1 < x.size) (hz : x[0].toNat = 48) :
    Calls Tryz.prog 39 #[.string x, .int .i64 most] w fun e w' => e = .returned (.int .i64 (-1)) ∧ w' = w := by
  have g1 : (1 : Int) < (x.size : Int) := by omega
  have g2 : ¬ (most : Int) < (x.size : Int) := by omega
  have g3 : ¬ (x.size : Int) < 1 := by omega
  have hz1 : ((x[0].toNat : Int) == 48) = true := beq_iff_eq.2 (by omega)
  clear h hz
  go_enter Tryz.func39, Tryz.ntmps39
  go_wp2_with fail
  go_ret
  exact ⟨rfl, rfl⟩

theorem num_pow (k : Nat) (h : k < 18) : 10 ^ k ≤ 100000000000000000 := by
  have : 10 ^ k ≤ 10 ^ 17 := Nat.pow_le_pow_right (by decide) (by omega)
  have e : (10 : Nat) ^ 17 = 100000000000000000 := by decide
  omega
set_option maxRecDepth 100000 in
set_option maxHeartbeats 4000000 in
theorem numberOf_one (x : ByteArray) (most : Nat) (w : World) (h : 1 ≤ most) (h1 : x.size = 1) :
    Calls Tryz.prog 39 #[.string x, .int .i64 most] w fun e w' => e = .returned (.int .i64 (numFrom 0 x.data.toList)) ∧ w' = w := by
  have g2 : ¬ (most : Int) < (x.size : Int) := by omega
  have g3 : ¬ (x.size : Int) < 1 := by omega
  have g4 : ¬ (1 : Int) < (x.size : Int) := by omega
  go_enter Tryz.func39, Tryz.ntmps39
  go_wp2_with fail
  go_loopw [5, 6] (fun a t wr => ∃ k : Nat, ∃ acc : Nat, k ≤ x.size ∧ acc < 10 ^ k ∧ t = .int .i64 k ∧ a = .int .i64 acc ∧ numFrom acc (x.data.toList.drop k) = numFrom 0 x.data.toList ∧ wr = w) (fun _ t _ => x.size - (intOf t).toNat)
  case atStart => exact ⟨0, 0, by omega, by decide, rfl, rfl, rfl, rfl⟩
  case round =>
    obtain ⟨k, acc, hk, hacc, rfl, rfl, hn, rfl⟩ := hrel
    have HN : Hid (numFrom acc (x.data.toList.drop k) = numFrom 0 x.data.toList) := hn
    clear hn
    by_cases hlt : k < x.size
    · have hd : x.data.toList.drop k = x[k] :: x.data.toList.drop (k + 1) := by
        rw [List.drop_eq_getElem_cons (by rw [bytes_len]; exact hlt)]; rfl
      have hb : x[k].toNat < 256 := x[k].toNat_lt
      have hp := num_pow k (by omega)
      have HP : Hid (acc < 10 ^ k) := hacc
      clear hacc
      rw [hd] at HN
      have HN : Hid ((if 48 ≤ x[k].toNat ∧ x[k].toNat ≤ 57 then numFrom (10 * acc + (x[k].toNat - 48)) (x.data.toList.drop (k + 1)) else -1) = numFrom 0 x.data.toList) := HN
      clear hd
      have ha : acc < 100000000000000000 := by have := HP.out; omega
      clear hp
      generalize hq : x[k].toNat = q at *
      by_cases hd1 : q < 48
      · go_wp2_with fail
        all_goals (go_ret; refine ⟨?_, rfl⟩; rw [← HN.out, if_neg (by omega)]; rfl)
      · by_cases hd2 : 57 < q
        · go_wp2_with fail
          all_goals (go_ret; refine ⟨?_, rfl⟩; rw [← HN.out, if_neg (by omega)]; rfl)
        · go_wp2_with fail
          refine ⟨⟨k + 1, 10 * acc + (q - 48), by omega, by rw [Nat.pow_succ]; have := HP.out; omega, by go_num, ?_, ?_, trivial⟩, by simp [intOf]; omega⟩
          · exact congrArg (Value.int .i64) (by omega)
          · rw [← HN.out, if_pos (by omega)]
    · obtain rfl : k = x.size := by omega
      go_wp2_with fail
      go_ret
      refine ⟨?_, rfl⟩
      rw [← HN.out, List.drop_of_length_le (by rw [bytes_len]; omega)]
      rfl
set_option maxRecDepth 100000 in
set_option maxHeartbeats 4000000 in
theorem numberOf_more (x : ByteArray) (most : Nat) (w : World) (h : x.size ≤ most) (h1 : 1 < x.size) (hz : x[0].toNat ≠ 48) (hm : most ≤ 18) :
    Calls Tryz.prog 39 #[.string x, .int .i64 most] w fun e w' => e = .returned (.int .i64 (numFrom 0 x.data.toList)) ∧ w' = w := by
  have g2 : ¬ (most : Int) < (x.size : Int) := by omega
  have g3 : ¬ (x.size : Int) < 1 := by omega
  have g4 : (1 : Int) < (x.size : Int) := by omega
  have hz1 : ((x[0].toNat : Int) == 48) = false := beq_eq_false_iff_ne.2 (by omega)
  clear hz
  go_enter Tryz.func39, Tryz.ntmps39
  go_wp2_with fail
  go_loopw [5, 6] (fun a t wr => ∃ k : Nat, ∃ acc : Nat, k ≤ x.size ∧ acc < 10 ^ k ∧ t = .int .i64 k ∧ a = .int .i64 acc ∧ numFrom acc (x.data.toList.drop k) = numFrom 0 x.data.toList ∧ wr = w) (fun _ t _ => x.size - (intOf t).toNat)
  case atStart => exact ⟨0, 0, by omega, by decide, rfl, rfl, rfl, rfl⟩
  case round =>
    obtain ⟨k, acc, hk, hacc, rfl, rfl, hn, rfl⟩ := hrel
    have HN : Hid (numFrom acc (x.data.toList.drop k) = numFrom 0 x.data.toList) := hn
    clear hn
    by_cases hlt : k < x.size
    · have hd : x.data.toList.drop k = x[k] :: x.data.toList.drop (k + 1) := by
        rw [List.drop_eq_getElem_cons (by rw [bytes_len]; exact hlt)]; rfl
      have hb : x[k].toNat < 256 := x[k].toNat_lt
      have hp := num_pow k (by omega)
      have HP : Hid (acc < 10 ^ k) := hacc
      clear hacc
      rw [hd] at HN
      have HN : Hid ((if 48 ≤ x[k].toNat ∧ x[k].toNat ≤ 57 then numFrom (10 * acc + (x[k].toNat - 48)) (x.data.toList.drop (k + 1)) else -1) = numFrom 0 x.data.toList) := HN
      clear hd
      have ha : acc < 100000000000000000 := by have := HP.out; omega
      clear hp
      generalize hq : x[k].toNat = q at *
      by_cases hd1 : q < 48
      · go_wp2_with fail
        all_goals (go_ret; refine ⟨?_, rfl⟩; rw [← HN.out, if_neg (by omega)]; rfl)
      · by_cases hd2 : 57 < q
        · go_wp2_with fail
          all_goals (go_ret; refine ⟨?_, rfl⟩; rw [← HN.out, if_neg (by omega)]; rfl)
        · go_wp2_with fail
          refine ⟨⟨k + 1, 10 * acc + (q - 48), by omega, by rw [Nat.pow_succ]; have := HP.out; omega, by go_num, ?_, ?_, trivial⟩, by simp [intOf]; omega⟩
          · exact congrArg (Value.int .i64) (by omega)
          · rw [← HN.out, if_pos (by omega)]
    · obtain rfl : k = x.size := by omega
      go_wp2_with fail
      go_ret
      refine ⟨?_, rfl⟩
      rw [← HN.out, List.drop_of_length_le (by rw [bytes_len]; omega)]
      rfl
/-- the document's NumberOf. -/
theorem numberOf_any (x : ByteArray) (most : Nat) (h1 : 1 ≤ most) (hm : most ≤ 18) (w : World) :
    Calls Tryz.prog 39 #[.string x, .int .i64 most] w fun e w' => e = .returned (.int .i64 (numOf x.data.toList most)) ∧ w' = w := by
  unfold numOf
  rw [bytes_len]
  by_cases c1 : x.size < 1 ∨ most < x.size
  · rw [if_pos (by omega)]; exact numberOf_short x most w c1
  · by_cases c2 : x.size = 1
    · rw [if_neg (by omega)]; exact numberOf_one x most w h1 c2
    · have hg := byte_at x 0 (by omega)
      by_cases c3 : x[0].toNat = 48
      · rw [if_pos (Or.inr (Or.inr ⟨by omega, by rw [hg]; exact UInt8.toNat_inj.1 c3⟩))]; exact numberOf_zero x most w (by omega) (by omega) c3
      · rw [if_neg (by
          rintro (h | h | ⟨_, h⟩)
          · omega
          · omega
          · rw [hg] at h; exact c3 (by rw [h]; rfl))]
        exact numberOf_more x most w (by omega) (by omega) c3 hm
end Go.Proofs.YtpmoamfhppmicaaGreatDoor
