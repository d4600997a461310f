/-
  The law PacketCodes, where the packet has no error; and whatever the packet.
-/
import Derived.Test.YtlogpnanfamjeaaGreatDoorLwA
import Derived.Test.YtlogpnanfamjeaaGreatDoorRfC
import Derived.Test.YtlogpnanfamjeaaGreatDoorRfD
import Derived.Test.YtlogpnanfamjeaaGreatDoorEqP
namespace Go.Proofs.YtlogpnanfamjeaaGreatDoor
open Go.RowKit

theorem pText_len {pr a1 p1 a2 p2 fl : Int} (h : PkOk pr a1 p1 a2 p2 fl) : (pText pr a1 p1 a2 p2 fl).length ≤ 100 := by
  have l1 := endL_len h.src
  have l2 := endL_len h.dst
  have l3 := fText_len fl h.lo h.hi
  unfold pText
  split <;> split <;> simp <;> omega

set_option maxRecDepth 100000 in
set_option maxHeartbeats 4000000 in
theorem codes_ok (pr a1 p1 a2 p2 fl : Int) (h : PkOk pr a1 p1 a2 p2 fl) (s : Nat → Addr) (w : World) (E : EnvL w s) :
    Calls Tryz.prog 3 #[pkt pr a1 p1 a2 p2 fl] w fun e w' => e = .returned (.bool true) ∧ Below w.heap.size w w' := by
  have HE : Hid (EnvL w s) := E
  have H : Hid (PkOk pr a1 p1 a2 p2 fl) := h
  have HX : Hid ((⟨(pText pr a1 p1 a2 p2 fl).toArray⟩ : ByteArray).size ≤ 1000) := by
    have := pText_len h
    show (pText pr a1 p1 a2 p2 fl).toArray.size ≤ 1000
    simp; omega
  clear E h
  have b1 : Hid (Below w.heap.size w (w.alloc (.cells #[.int .i64 pr, .int .i64 a1, .int .i64 p1, .int .i64 a2, .int .i64 p2, .int .i64 fl] 25))) := (Below.refl _ _).alloc (Nat.le_refl _) _
  go_enter Tryz.func3, Tryz.ntmps3
  go_wp2_with fail
  refine (read_any s _ (HE.out.e.below b1.out)).mono ?_
  rintro e w1 ⟨rfl, hb1⟩
  have K1 : Hid (Pk w1 w.heap.size pr a1 p1 a2 p2 fl) := by
    obtain ⟨c0, c1, c2, c3, c4, c5⟩ := box6 hb1
    exact ⟨c0, c1, c2, c3, c4, c5⟩
  have HB1 : Hid (Below w.heap.size w w1) := below_all b1.out hb1
  clear hb1
  have c0 := K1.out.c0
  have c1 := K1.out.c1
  have c2 := K1.out.c2
  have c3 := K1.out.c3
  have c4 := K1.out.c4
  have c5 := K1.out.c5
  go_wp2_with fail
  refine (encode_ok pr a1 p1 a2 p2 fl s _ (HE.out.e.s.below HB1.out) H.out.proto H.out.src H.out.dst H.out.lo H.out.hi).mono ?_
  rintro e w2 ⟨rfl, hb2⟩
  have K2 : Hid (Pk w2 w.heap.size pr a1 p1 a2 p2 fl) := K1.out.below hb2
  have HB2 : Hid (Below w.heap.size w w2) := below_all HB1.out hb2
  clear hb2 c0 c1 c2 c3 c4 c5
  have c0 := K2.out.c0
  have c1 := K2.out.c1
  have c2 := K2.out.c2
  have c3 := K2.out.c3
  have c4 := K2.out.c4
  have c5 := K2.out.c5
  go_wp2_with fail
  refine (text_ok pr a1 p1 a2 p2 fl s _ (HE.out.e.below HB2.out) H.out).mono ?_
  rintro e w3 ⟨rfl, hb3⟩
  have K3 : Hid (Pk w3 w.heap.size pr a1 p1 a2 p2 fl) := K2.out.below hb3
  have HB3 : Hid (Below w.heap.size w w3) := below_all HB2.out hb3
  clear hb3 c0 c1 c2 c3 c4 c5
  have c0 := K3.out.c0
  have c1 := K3.out.c1
  have c2 := K3.out.c2
  have c3 := K3.out.c3
  have c4 := K3.out.c4
  have c5 := K3.out.c5
  go_wp2_with fail
  refine (perr_any pr a1 p1 a2 p2 fl _).mono ?_
  rintro e w4 ⟨rfl, hb4⟩
  have K4 : Hid (Pk w4 w.heap.size pr a1 p1 a2 p2 fl) := K3.out.below hb4
  have HB4 : Hid (Below w.heap.size w w4) := below_all HB3.out hb4
  clear hb4 c0 c1 c2 c3 c4 c5
  rw [pkErr_zero.2 H.out]
  have c0 := K4.out.c0
  have c1 := K4.out.c1
  have c2 := K4.out.c2
  have c3 := K4.out.c3
  have c4 := K4.out.c4
  have c5 := K4.out.c5
  go_wp2_with fail
  refine (check_ok pr a1 p1 a2 p2 fl s _ (HE.out.e.s.below HB4.out) H.out.proto H.out.src H.out.dst H.out.lo H.out.hi).mono ?_
  rintro e w5 ⟨rfl, hb5⟩
  have K5 : Hid (Pk w5 w.heap.size pr a1 p1 a2 p2 fl) := K4.out.below hb5
  have HB5 : Hid (Below w.heap.size w w5) := below_all HB4.out hb5
  clear hb5 c0 c1 c2 c3 c4 c5
  unfold errV
  go_wp2_with fail
  refine (coded_nil _ _).mono ?_
  rintro e w6 ⟨rfl, hw6⟩
  subst hw6
  go_wp2_with fail
  have hD := decode_any (pkS pr a1 p1 a2 p2 fl) (pkS_size _ _ _ _ _ _) s w6 (HE.out.e.s.below HB5.out) 0 (by
    obtain ⟨e0, e1, e2, e3, e4, e5⟩ := pkS_back H.out
    rw [e0, e1, e2, e3, e4, e5]; exact pkErr_zero.2 H.out)
  obtain ⟨e0, e1, e2, e3, e4, e5⟩ := pkS_back H.out
  rw [e0, e1, e2, e3, e4, e5, if_pos rfl] at hD
  clear e0 e1 e2 e3 e4 e5
  refine hD.mono ?_
  clear hD
  rintro e w7 ⟨rfl, hb7⟩
  have K7 : Hid (Pk w7 w.heap.size pr a1 p1 a2 p2 fl) := K5.out.below hb7
  have HB7 : Hid (Below w.heap.size w w7) := below_all HB5.out hb7
  have q7 : w.heap.size < w7.heap.size := block_lt K7.out.c0
  clear hb7
  unfold errV
  go_wp2_with fail
  have b8 : Hid (Below w7.heap.size w7 (w7.alloc (.cells #[.int .i64 pr, .int .i64 a1, .int .i64 p1, .int .i64 a2, .int .i64 p2, .int .i64 fl] 25))) := (Below.refl _ _).alloc (Nat.le_refl _) _
  refine (read_ok ⟨(pText pr a1 p1 a2 p2 fl).toArray⟩ HX.out pr a1 p1 a2 p2 fl s _ (HE.out.below (below_all HB7.out b8.out)) (parse_text H.out) H.out rfl).mono ?_
  rintro e w9 ⟨rfl, hb9⟩
  have X9 : Hid (Pk w9 w7.heap.size pr a1 p1 a2 p2 fl) := by
    obtain ⟨c0, c1, c2, c3, c4, c5⟩ := box6 hb9
    exact ⟨c0, c1, c2, c3, c4, c5⟩
  have K9 : Hid (Pk w9 w.heap.size pr a1 p1 a2 p2 fl) := (K7.out.below b8.out).below hb9
  have HB9 : Hid (Below w.heap.size w w9) := below_all (below_all HB7.out b8.out) hb9
  have q9 : Hid (w7.heap.size < w9.heap.size) := block_lt X9.out.c0
  clear hb9
  have b10 : Hid (Below w9.heap.size w9 (w9.alloc (.cells #[.int .i64 pr, .int .i64 a1, .int .i64 p1, .int .i64 a2, .int .i64 p2, .int .i64 fl] 25))) := (Below.refl _ _).alloc (Nat.le_refl _) _
  have k0 := (K9.out.below b10.out).c0
  have k1 := (K9.out.below b10.out).c1
  have k2 := (K9.out.below b10.out).c2
  have k3 := (K9.out.below b10.out).c3
  have k4 := (K9.out.below b10.out).c4
  have k5 := (K9.out.below b10.out).c5
  go_wp2_with fail
  have X10 : Hid (Pk (w9.alloc (.cells #[.int .i64 pr, .int .i64 a1, .int .i64 p1, .int .i64 a2, .int .i64 p2, .int .i64 fl] 25)) w7.heap.size pr a1 p1 a2 p2 fl) := X9.out.below b10.out
  have Y10 : Hid (Pk (w9.alloc (.cells #[.int .i64 pr, .int .i64 a1, .int .i64 p1, .int .i64 a2, .int .i64 p2, .int .i64 fl] 25)) w9.heap.size pr a1 p1 a2 p2 fl) := ⟨by simp, by simp, by simp, by simp, by simp, by simp⟩
  have K10 : Hid (Pk (w9.alloc (.cells #[.int .i64 pr, .int .i64 a1, .int .i64 p1, .int .i64 a2, .int .i64 p2, .int .i64 fl] 25)) w.heap.size pr a1 p1 a2 p2 fl) := K9.out.below b10.out
  have HB10 : Hid (Below w.heap.size w (w9.alloc (.cells #[.int .i64 pr, .int .i64 a1, .int .i64 p1, .int .i64 a2, .int .i64 p2, .int .i64 fl] 25))) := below_all HB9.out b10.out
  refine (pbytes_any pr a1 p1 a2 p2 fl H.out _).mono ?_
  rintro e w11 ⟨rfl, hb11⟩
  rw [← pkS_eq H.out]
  have X11 : Hid (Pk w11 w7.heap.size pr a1 p1 a2 p2 fl) := X10.out.below hb11
  have Y11 : Hid (Pk w11 w9.heap.size pr a1 p1 a2 p2 fl) := Y10.out.below hb11
  have K11 : Hid (Pk w11 w.heap.size pr a1 p1 a2 p2 fl) := K10.out.below hb11
  have HB11 : Hid (Below w.heap.size w w11) := below_all HB10.out hb11
  clear hb11 k0 k1 k2 k3 k4 k5 q7
  have k0 := K11.out.c0
  have k1 := K11.out.c1
  have k2 := K11.out.c2
  have k3 := K11.out.c3
  have k4 := K11.out.c4
  have k5 := K11.out.c5
  have sb := ba_eq (pkS pr a1 p1 a2 p2 fl)
  go_wp2_with fail
  refine (ptext_any pr a1 p1 a2 p2 fl H.out _).mono ?_
  rintro e w12 ⟨rfl, hb12⟩
  have X12 : Hid (Pk w12 w7.heap.size pr a1 p1 a2 p2 fl) := X11.out.below hb12
  have Y12 : Hid (Pk w12 w9.heap.size pr a1 p1 a2 p2 fl) := Y11.out.below hb12
  have K12 : Hid (Pk w12 w.heap.size pr a1 p1 a2 p2 fl) := K11.out.below hb12
  have HB12 : Hid (Below w.heap.size w w12) := below_all HB11.out hb12
  clear hb12 k0 k1 k2 k3 k4 k5 sb
  have k0 := K12.out.c0
  have k1 := K12.out.c1
  have k2 := K12.out.c2
  have k3 := K12.out.c3
  have k4 := K12.out.c4
  have k5 := K12.out.c5
  have x0 := X12.out.c0
  have x1 := X12.out.c1
  have x2 := X12.out.c2
  have x3 := X12.out.c3
  have x4 := X12.out.c4
  have x5 := X12.out.c5
  have y0 := Y12.out.c0
  have y1 := Y12.out.c1
  have y2 := Y12.out.c2
  have y3 := Y12.out.c3
  have y4 := Y12.out.c4
  have y5 := Y12.out.c5
  have eq := eql_ok H.out
  go_wp2_with fail
  go_ret
  exact ⟨rfl, HB12.out⟩
theorem codes_any (pr a1 p1 a2 p2 fl : Int) (s : Nat → Addr) (w : World) (E : EnvL w s) :
    Calls Tryz.prog 3 #[pkt pr a1 p1 a2 p2 fl] w fun e w' => e = .returned (.bool true) ∧ Below w.heap.size w w' := by
  cases hk : pkErr pr a1 p1 a2 p2 fl with
  | zero => exact codes_ok pr a1 p1 a2 p2 fl (pkErr_zero.1 hk) s w E
  | succ k =>
    refine codes_err pr a1 p1 a2 p2 fl k ?_ hk s w E
    unfold pkErr at hk
    split at hk
    · split at hk <;> omega
    · omega
end Go.Proofs.YtlogpnanfamjeaaGreatDoor
