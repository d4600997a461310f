/-
  The law PacketCodes: its helper 'read', and the law where the packet has an error.
-/
import Derived.Test.YtlogpnanfamjeaaGreatDoorMaA
import Derived.Test.YtlogpnanfamjeaaGreatDoorPkV
import Derived.Test.YtlogpnanfamjeaaGreatDoorCoded
namespace Go.Proofs.YtlogpnanfamjeaaGreatDoor
open Go.RowKit

theorem pkOk0 : PkOk 2 0 1 2 3 3 := ⟨.inr rfl, ⟨by omega, by omega, by omega, by omega⟩, ⟨by omega, by omega, by omega, by omega⟩, by omega, by omega⟩
theorem pText0 : pText 2 0 1 2 3 3 = [116, 99, 112, 32, 48, 58, 49, 32, 50, 58, 51, 32, 115, 121, 110, 43, 97, 99, 107] := by decide +kernel
set_option maxRecDepth 100000 in
set_option maxHeartbeats 2000000 in
theorem read_any (s : Nat → Addr) (w : World) (E : Env w s) : Calls Tryz.prog 5 #[] w fun e w' => e = .returned (.bool true) ∧ Below w.heap.size w w' := by
  have HE : Hid (Env w s) := E
  clear E
  have b1 : Hid (Below w.heap.size w (w.alloc (.cells #[.int .i64 2, .int .i64 0, .int .i64 1, .int .i64 2, .int .i64 3, .int .i64 3] 25))) := (Below.refl _ _).alloc (Nat.le_refl _) _
  go_enter Tryz.func5, Tryz.ntmps5
  go_wp2_with fail
  refine (text_ok 2 0 1 2 3 3 s _ (HE.out.below b1.out) pkOk0).mono ?_
  rintro e w1 ⟨rfl, hb1⟩
  obtain ⟨c0, c1, c2, c3, c4, c5⟩ := box6 hb1
  have HB1 : Hid (Below w.heap.size w w1) := below_all b1.out hb1
  rw [pText0]
  clear hb1
  go_wp2_with fail
  refine (check_ok 2 0 1 2 3 3 s _ (HE.out.s.below HB1.out) pkOk0.proto pkOk0.src pkOk0.dst pkOk0.lo pkOk0.hi).mono ?_
  rintro e w2 ⟨rfl, hb2⟩
  have HB2 : Hid (Below w.heap.size w w2) := below_all HB1.out hb2
  clear hb2
  unfold errV
  go_wp2_with fail
  go_ret
  exact ⟨rfl, HB2.out⟩

set_option maxRecDepth 100000 in
set_option maxHeartbeats 4000000 in
theorem codes_err (pr a1 p1 a2 p2 fl : Int) (k : Nat) (hk : k < 11) (h : pkErr pr a1 p1 a2 p2 fl = k + 1) (s : Nat → Addr) (w : World) (E : EnvL w s) :
    Calls Tryz.prog 3 #[pkt pr a1 p1 a2 p2 fl] w fun e w' => e = .returned (.bool true) ∧ Below w.heap.size w w' := by
  have HE : Hid (EnvL w s) := E
  have H : Hid (pkErr pr a1 p1 a2 p2 fl = k + 1) := h
  clear E h
  have hC : Hid (∀ W, Sents W s → Calls Tryz.prog 10 #[pkt pr a1 p1 a2 p2 fl] W fun e w' => e = .returned (errV s (k + 1)) ∧ Below W.heap.size W w') := fun W S => by
    have := check_any pr a1 p1 a2 p2 fl s W S
    rw [H.out] at this; exact this
  have b1 : Hid (Below w.heap.size w (w.alloc (.cells #[.int .i64 pr, .int .i64 a1, .int .i64 p1, .int .i64 a2, .int .i64 p2, .int .i64 fl] 25))) := (Below.refl _ _).alloc (Nat.le_refl _) _
  go_enter Tryz.func3, Tryz.ntmps3
  go_wp2_with fail
  refine (read_any s _ (HE.out.e.below b1.out)).mono ?_
  rintro e w1 ⟨rfl, hb1⟩
  have K1 : Hid (Pk w1 w.heap.size pr a1 p1 a2 p2 fl) := by
    obtain ⟨c0, c1, c2, c3, c4, c5⟩ := box6 hb1
    exact ⟨c0, c1, c2, c3, c4, c5⟩
  have HB1 : Hid (Below w.heap.size w w1) := below_all b1.out hb1
  clear hb1
  have c0 := K1.out.c0
  have c1 := K1.out.c1
  have c2 := K1.out.c2
  have c3 := K1.out.c3
  have c4 := K1.out.c4
  have c5 := K1.out.c5
  go_wp2_with fail
  refine (encode_err k pr a1 p1 a2 p2 fl s _ hC.out (HE.out.e.s.below HB1.out)).mono ?_
  rintro e w2 ⟨rfl, hb2⟩
  have K2 : Hid (Pk w2 w.heap.size pr a1 p1 a2 p2 fl) := K1.out.below hb2
  have HB2 : Hid (Below w.heap.size w w2) := below_all HB1.out hb2
  clear hb2 c0 c1 c2 c3 c4 c5
  have c0 := K2.out.c0
  have c1 := K2.out.c1
  have c2 := K2.out.c2
  have c3 := K2.out.c3
  have c4 := K2.out.c4
  have c5 := K2.out.c5
  go_wp2_with fail
  refine (text_err k pr a1 p1 a2 p2 fl s _ hC.out (HE.out.e.s.below HB2.out)).mono ?_
  rintro e w3 ⟨rfl, hb3⟩
  have K3 : Hid (Pk w3 w.heap.size pr a1 p1 a2 p2 fl) := K2.out.below hb3
  have HB3 : Hid (Below w.heap.size w w3) := below_all HB2.out hb3
  clear hb3 c0 c1 c2 c3 c4 c5
  have c0 := K3.out.c0
  have c1 := K3.out.c1
  have c2 := K3.out.c2
  have c3 := K3.out.c3
  have c4 := K3.out.c4
  have c5 := K3.out.c5
  go_wp2_with fail
  refine (perr_any pr a1 p1 a2 p2 fl _).mono ?_
  rintro e w4 ⟨rfl, hb4⟩
  rw [H.out]
  have K4 : Hid (Pk w4 w.heap.size pr a1 p1 a2 p2 fl) := K3.out.below hb4
  have HB4 : Hid (Below w.heap.size w w4) := below_all HB3.out hb4
  clear hb4 c0 c1 c2 c3 c4 c5
  have c0 := K4.out.c0
  have c1 := K4.out.c1
  have c2 := K4.out.c2
  have c3 := K4.out.c3
  have c4 := K4.out.c4
  have c5 := K4.out.c5
  rw [errV_pos]
  go_wp2_with fail
  refine (hC.out _ (HE.out.e.s.below HB4.out)).mono ?_
  rintro e w5 ⟨rfl, hb5⟩
  have HB5 : Hid (Below w.heap.size w w5) := below_all HB4.out hb5
  clear hb5 c0 c1 c2 c3 c4 c5
  rw [errV_pos]
  go_wp2_with fail
  refine (coded_sent k hk _ s _ (HE.out.e.s.below HB5.out)).mono ?_
  rintro e w6 ⟨rfl, hb6⟩
  have HB6 : Hid (Below w.heap.size w w6) := below_all HB5.out hb6
  clear hb6
  go_wp2_with fail
  refine (coded_sent k hk _ s _ (HE.out.e.s.below HB6.out)).mono ?_
  rintro e w7 ⟨rfl, hb7⟩
  have HB7 : Hid (Below w.heap.size w w7) := below_all HB6.out hb7
  clear hb7
  go_wp2_with fail
  refine (coded_sent k hk _ s _ (HE.out.e.s.below HB7.out)).mono ?_
  rintro e w8 ⟨rfl, hb8⟩
  have HB8 : Hid (Below w.heap.size w w8) := below_all HB7.out hb8
  clear hb8
  go_wp2_with fail
  go_ret
  exact ⟨rfl, HB8.out⟩
end Go.Proofs.YtlogpnanfamjeaaGreatDoor
