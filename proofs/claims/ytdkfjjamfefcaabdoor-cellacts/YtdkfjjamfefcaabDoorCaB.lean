/-
  The document's cell: CRC, Body.
-/
import Derived.Test.YtdkfjjamfefcaabDoorCaA
namespace Go.Proofs.YtdkfjjamfefcaabDoor
open Go.RowKit

set_option maxRecDepth 100000 in
set_option maxHeartbeats 4000000 in
theorem rcrc_any (L : List UInt8) (h : L.length = 12) (w : World) : Calls Tryd.prog 109 #[.string (stB L)] w fun e w' => e = .returned (.int .i64 (crc L)) ∧ w' = w := by
  have hs : (stB L).size = 12 := h
  have HI : Hid (∀ k : Nat, (hk : k < L.length) → (h2 : k < (stB L).size) → (stB L)[k]'h2 = L[k]'hk) := fun k hk h2 => rfl
  generalize stB L = S at *
  go_enter Tryd.func109, Tryd.ntmps109
  go_wp2_with fail
  go_loop [3, 4] (fun r i => ∃ k : Nat, k ≤ 12 ∧ i = .int .i64 k ∧ r = .int .i64 (crcR (L.take k))) (fun _ i => 12 - (intOf i).toNat)
  case atStart => exact ⟨0, by omega, rfl, rfl⟩
  case round =>
    obtain ⟨k, hk, rfl, rfl⟩ := hrel
    by_cases hlt : k < 12
    · have hS : (k : Int) < (S.size : Int) := by omega
      have hS2 : k < S.size := by omega
      have HK : Hid (S[k]'hS2 = L[k]'(by omega)) := HI.out k (by omega) hS2
      have hr := crcR_lt (L.take k)
      have HS : Hid (crcR (L.take (k + 1)) = crcByte (crcR (L.take k)) (S[k]'hS2)) := by
        show _ = _
        rw [HK.out, List.take_succ_eq_append_getElem (by omega), crcR_snoc]
      generalize crcR (L.take k) = r at *
      obtain ⟨v, hve⟩ : ∃ v, S[k]'hS2 = v := ⟨_, rfl⟩
      have hv := v.toNat_lt
      rw [hve] at HS
      go_wp2_with fail
      go_loop [3, 5] (fun r' i => ∃ j : Nat, j ≤ 8 ∧ i = .int .i64 j ∧ r' = .int .i64 (rbits v.toNat r j)) (fun _ i => 8 - (intOf i).toNat)
      case atStart => exact ⟨0, by omega, rfl, rfl⟩
      case round =>
        obtain ⟨j, hj, rfl, rfl⟩ := hrel
        have hq := rbits_lt (v := v.toNat) hr j
        have HN0 : Hid (rbits v.toNat r (j + 1) = rbit v.toNat j (rbits v.toNat r j)) := rfl
        have HE : Hid (rbits v.toNat r j = rbits v.toNat r j) := rfl
        by_cases hlj : j < 8
        · generalize rbits v.toNat r j = z at *
          obtain ⟨d, hd⟩ : ∃ d, d = v.toNat / 2 ^ j := ⟨_, rfl⟩
          have hdl : d < 256 := by rw [hd]; exact Nat.lt_of_le_of_lt (Nat.div_le_self _ _) (by omega)
          obtain ⟨q, hqd⟩ : ∃ q, q = z ^^^ d := ⟨_, rfl⟩
          have hx : bits .xor .i64 (z : Int) (d : Int) = (q : Int) := by rw [hqd]; exact i64_xor z d hq (by omega)
          have HN : Hid (rbits v.toNat r (j + 1) = if q % 2 = 1 then (z / 2) ^^^ 3988292384 else z / 2) := by rw [HN0.out, hqd, hd]; exact rfl
          have HP : Hid (bits .xor .i64 ((z : Int) / 2) 3988292384 = (((z / 2) ^^^ 3988292384 : Nat) : Int)) := by
            have := i64_xor (z / 2) 3988292384 (by omega) (by omega)
            rw [Int.natCast_ediv] at this
            exact this
          have HD : Hid (d = v.toNat / 2 ^ j) := hd
          clear hd hqd HN0 HE
          have hjj : j = 0 ∨ j = 1 ∨ j = 2 ∨ j = 3 ∨ j = 4 ∨ j = 5 ∨ j = 6 ∨ j = 7 := by omega
          rcases hjj with rfl | rfl | rfl | rfl | rfl | rfl | rfl | rfl
          · have hdv : d = v.toNat := by rw [HD.out]; omega
            have hsh : (v.toNat : Int) = (d : Int) := by rw [hdv]
            clear hdv
            clear hlj hj
            rcases Nat.mod_two_eq_zero_or_one q with h2 | h2
            · have h3 : ((q : Int) % 2) = 0 := by omega
              go_wp2_with fail
              refine ⟨⟨1, by omega, rfl, ?_⟩, by simp [intOf]⟩
              rw [HN.out, if_neg (by omega), Int.natCast_ediv]
              rfl
            · have h3 : ((q : Int) % 2) = 1 := by omega
              go_wp2_with fail
              refine ⟨⟨1, by omega, rfl, ?_⟩, by simp [intOf]⟩
              rw [HN.out, if_pos h2]
              exact congrArg (Value.int .i64) HP.out
          · have hsh : ((v.toNat : Int) / 2) = (d : Int) := by rw [HD.out]; omega
            clear hlj hj
            rcases Nat.mod_two_eq_zero_or_one q with h2 | h2
            · have h3 : ((q : Int) % 2) = 0 := by omega
              go_wp2_with fail
              refine ⟨⟨2, by omega, rfl, ?_⟩, by simp [intOf]⟩
              rw [HN.out, if_neg (by omega), Int.natCast_ediv]
              rfl
            · have h3 : ((q : Int) % 2) = 1 := by omega
              go_wp2_with fail
              refine ⟨⟨2, by omega, rfl, ?_⟩, by simp [intOf]⟩
              rw [HN.out, if_pos h2]
              exact congrArg (Value.int .i64) HP.out
          · have hsh : ((v.toNat : Int) / 4) = (d : Int) := by rw [HD.out]; omega
            clear hlj hj
            rcases Nat.mod_two_eq_zero_or_one q with h2 | h2
            · have h3 : ((q : Int) % 2) = 0 := by omega
              go_wp2_with fail
              refine ⟨⟨3, by omega, rfl, ?_⟩, by simp [intOf]⟩
              rw [HN.out, if_neg (by omega), Int.natCast_ediv]
              rfl
            · have h3 : ((q : Int) % 2) = 1 := by omega
              go_wp2_with fail
              refine ⟨⟨3, by omega, rfl, ?_⟩, by simp [intOf]⟩
              rw [HN.out, if_pos h2]
              exact congrArg (Value.int .i64) HP.out
          · have hsh : ((v.toNat : Int) / 8) = (d : Int) := by rw [HD.out]; omega
            clear hlj hj
            rcases Nat.mod_two_eq_zero_or_one q with h2 | h2
            · have h3 : ((q : Int) % 2) = 0 := by omega
              go_wp2_with fail
              refine ⟨⟨4, by omega, rfl, ?_⟩, by simp [intOf]⟩
              rw [HN.out, if_neg (by omega), Int.natCast_ediv]
              rfl
            · have h3 : ((q : Int) % 2) = 1 := by omega
              go_wp2_with fail
              refine ⟨⟨4, by omega, rfl, ?_⟩, by simp [intOf]⟩
              rw [HN.out, if_pos h2]
              exact congrArg (Value.int .i64) HP.out
          · have hsh : ((v.toNat : Int) / 16) = (d : Int) := by rw [HD.out]; omega
            clear hlj hj
            rcases Nat.mod_two_eq_zero_or_one q with h2 | h2
            · have h3 : ((q : Int) % 2) = 0 := by omega
              go_wp2_with fail
              refine ⟨⟨5, by omega, rfl, ?_⟩, by simp [intOf]⟩
              rw [HN.out, if_neg (by omega), Int.natCast_ediv]
              rfl
            · have h3 : ((q : Int) % 2) = 1 := by omega
              go_wp2_with fail
              refine ⟨⟨5, by omega, rfl, ?_⟩, by simp [intOf]⟩
              rw [HN.out, if_pos h2]
              exact congrArg (Value.int .i64) HP.out
          · have hsh : ((v.toNat : Int) / 32) = (d : Int) := by rw [HD.out]; omega
            clear hlj hj
            rcases Nat.mod_two_eq_zero_or_one q with h2 | h2
            · have h3 : ((q : Int) % 2) = 0 := by omega
              go_wp2_with fail
              refine ⟨⟨6, by omega, rfl, ?_⟩, by simp [intOf]⟩
              rw [HN.out, if_neg (by omega), Int.natCast_ediv]
              rfl
            · have h3 : ((q : Int) % 2) = 1 := by omega
              go_wp2_with fail
              refine ⟨⟨6, by omega, rfl, ?_⟩, by simp [intOf]⟩
              rw [HN.out, if_pos h2]
              exact congrArg (Value.int .i64) HP.out
          · have hsh : ((v.toNat : Int) / 64) = (d : Int) := by rw [HD.out]; omega
            clear hlj hj
            rcases Nat.mod_two_eq_zero_or_one q with h2 | h2
            · have h3 : ((q : Int) % 2) = 0 := by omega
              go_wp2_with fail
              refine ⟨⟨7, by omega, rfl, ?_⟩, by simp [intOf]⟩
              rw [HN.out, if_neg (by omega), Int.natCast_ediv]
              rfl
            · have h3 : ((q : Int) % 2) = 1 := by omega
              go_wp2_with fail
              refine ⟨⟨7, by omega, rfl, ?_⟩, by simp [intOf]⟩
              rw [HN.out, if_pos h2]
              exact congrArg (Value.int .i64) HP.out
          · have hsh : ((v.toNat : Int) / 128) = (d : Int) := by rw [HD.out]; omega
            clear hlj hj
            rcases Nat.mod_two_eq_zero_or_one q with h2 | h2
            · have h3 : ((q : Int) % 2) = 0 := by omega
              go_wp2_with fail
              refine ⟨⟨8, by omega, rfl, ?_⟩, by simp [intOf]⟩
              rw [HN.out, if_neg (by omega), Int.natCast_ediv]
              rfl
            · have h3 : ((q : Int) % 2) = 1 := by omega
              go_wp2_with fail
              refine ⟨⟨8, by omega, rfl, ?_⟩, by simp [intOf]⟩
              rw [HN.out, if_pos h2]
              exact congrArg (Value.int .i64) HP.out
        · have HJ : Hid (j = 8) := (show j = 8 by omega)
          have HZ : Hid (rbits v.toNat r j = crcByte r v) := by
            show _ = _
            rw [HJ.out]; exact rbits_byte v r
          generalize rbits v.toNat r j = z at *
          go_wp2_with fail
          refine ⟨⟨k + 1, by omega, by go_num, ?_⟩, by simp [intOf]; omega⟩
          rw [HS.out, HZ.out]
    · have HL : Hid (L.take k = L) := List.take_of_length_le (by omega)
      rw [HL.out]
      have hr := crcR_lt L
      have HC : Hid (crc L = 4294967295 ^^^ crcR L) := rfl
      have hS : ¬ (k : Int) < (S.size : Int) := by omega
      generalize crcR L = r at *
      have hxm : bits .xor .i64 (r : Int) 4294967295 = ((4294967295 ^^^ r : Nat) : Int) := by
        rw [Nat.xor_comm]; exact i64_xor r 4294967295 hr (by omega)
      go_wp2_with fail
      go_ret
      exact ⟨by rw [HC.out]; rfl, rfl⟩
end Go.Proofs.YtdkfjjamfefcaabDoor
