/-
  The document's answer: Byte, below, Decimal.
-/
import Derived.Test.YtpmoamfhppmicaaGreatDoorLiA
namespace Go.Proofs.YtpmoamfhppmicaaGreatDoor
open Go.RowKit


set_option maxRecDepth 100000 in
set_option maxHeartbeats 1000000 in
theorem byte_any (n : Int) (h0 : 0 ≤ n) (h1 : n ≤ 255) (w : World) : Calls Tryz.prog 55 #[.int .i64 n] w fun e w' => e = .returned (.string ⟨#[UInt8.ofNat n.toNat]⟩) ∧ Below w.heap.size w w' := by
  have hcv := run_convert_bytes_arg (P := Tryz.prog) (w.alloc (.cells #[.int .u8 (n % 256)] 5)) 127 5 Tryz.underlying127 Tryz.underlying5 w.heap.size 0 1 1 [n % 256] rfl (fun i hi => by
    obtain rfl : i = 0 := by omega
    simp) 9 Tryz.underlying9
  have hst : strOfNums [n % 256] = ⟨#[UInt8.ofNat n.toNat]⟩ := by
    rw [Int.emod_eq_of_lt h0 (by omega)]; rfl
  rw [hst] at hcv
  clear hst h0 h1
  go_enter Tryz.func55, Tryz.ntmps55
  go_wp2_with fail
  go_ret
  exact ⟨rfl, (Below.refl _ _).alloc (Nat.le_refl _) _⟩

set_option maxRecDepth 100000 in
set_option maxHeartbeats 1000000 in
theorem below_any : ∀ (u : Nat) (_ : u < 100000000) (w : World), Calls Tryz.prog 38 #[.int .i64 (-(u : Int))] w fun e w' => e = .returned (.string ⟨(Lib.decDigits u).toArray⟩) ∧ Below w.heap.size w w' := by
  intro u
  induction u using Nat.strongRecOn with
  | _ u ih =>
    intro hu w
    have IH : Hid (∀ m, m < u → m < 100000000 → ∀ (w : World), Calls Tryz.prog 38 #[.int .i64 (-(m : Int))] w fun e w' => e = .returned (.string ⟨(Lib.decDigits m).toArray⟩) ∧ Below w.heap.size w w') := ih
    clear ih
    by_cases h : u < 10
    · have e : Lib.decDigits u = [UInt8.ofNat (48 + u)] := by rw [Lib.decDigits, dif_pos h]
      have HE : Hid (Lib.decDigits u = [UInt8.ofNat (48 + u)]) := e
      clear e
      go_enter Tryz.func38, Tryz.ntmps38
      go_wp2_with fail
      refine (byte_any _ (by omega) (by omega) _).mono ?_
      rintro e w1 ⟨rfl, hb1⟩
      have HB1 : Hid (Below w.heap.size w w1) := hb1
      clear hb1
      go_wp2_with fail
      go_ret
      refine ⟨?_, HB1.out⟩
      rw [HE.out]
      exact congrArg (fun x : Nat => Ending.returned (.string ⟨#[UInt8.ofNat x]⟩)) (by omega)
    · have e : Lib.decDigits u = Lib.decDigits (u / 10) ++ [UInt8.ofNat (48 + u % 10)] := by rw [Lib.decDigits, dif_neg h]
      have HE : Hid (Lib.decDigits u = Lib.decDigits (u / 10) ++ [UInt8.ofNat (48 + u % 10)]) := e
      have hl := dec_len 8 (u / 10) (by omega) (by omega)
      clear e
      go_enter Tryz.func38, Tryz.ntmps38
      go_wp2_with fail
      have hI := IH.out (u / 10) (by omega) (by omega) w
      rw [Int.natCast_ediv] at hI
      refine hI.mono ?_
      clear hI
      rintro e w1 ⟨rfl, hb1⟩
      have HB1 : Hid (Below w.heap.size w w1) := hb1
      clear hb1
      generalize hL : Lib.decDigits (u / 10) = L at *
      have HL : Hid (Lib.decDigits (u / 10) = L) := hL
      clear hL
      go_wp2_with fail
      refine (byte_any _ (by omega) (by omega) _).mono ?_
      rintro e w2 ⟨rfl, hb2⟩
      have HB2 : Hid (Below w.heap.size w w2) := below2 HB1.out hb2
      clear hb2
      go_wp2_with fail
      go_ret
      refine ⟨?_, HB2.out⟩
      rw [HE.out]
      exact congrArg (fun x : ByteArray => Ending.returned (.string x)) (by apply ByteArray.ext; simp [ByteArray.data_append])
set_option maxRecDepth 100000 in
theorem decimal_any (n : Int) (h0 : 0 ≤ n) (h1 : n < 100000000) (w : World) : Calls Tryz.prog 23 #[.int .i64 n] w fun e w' => e = .returned (.string ⟨(Lib.itoa n).toArray⟩) ∧ Below w.heap.size w w' := by
  obtain ⟨u, rfl⟩ := Int.eq_ofNat_of_zero_le h0
  have e : Lib.itoa (u : Int) = Lib.decDigits u := itoa_nn h0
  have hu : u < 100000000 := by omega
  rw [e]
  clear e h0 h1
  go_enter Tryz.func23, Tryz.ntmps23
  go_wp2_with fail
  refine (below_any u hu _).mono ?_
  rintro e w1 ⟨rfl, hb1⟩
  have HB1 : Hid (Below w.heap.size w w1) := hb1
  clear hb1
  go_wp2_with fail
  go_ret
  exact ⟨rfl, HB1.out⟩
end Go.Proofs.YtpmoamfhppmicaaGreatDoor
