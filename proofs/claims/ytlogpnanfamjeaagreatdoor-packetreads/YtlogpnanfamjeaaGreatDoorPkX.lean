/-
  Package packet's Text.
-/
import Derived.Test.YtlogpnanfamjeaaGreatDoorPkG
import Derived.Test.YtlogpnanfamjeaaGreatDoorPkC
import Derived.Test.YtlogpnanfamjeaaGreatDoorPkE
namespace Go.Proofs.YtlogpnanfamjeaaGreatDoor
open Go.RowKit

theorem drewN_below (w : World) (m : Nat) : Below w.heap.size w (w.drewN m) := ⟨rfl, rfl, rfl, Nat.le_refl _, fun _ _ => rfl⟩
theorem below_all {w a b : World} (h : Below w.heap.size w a) (k : Below a.heap.size a b) : Below w.heap.size w b := h.trans (k.mono h.size)

/-- what the listed variables give. -/
structure Env (w : World) (s : Nat → Addr) : Prop where
  s : Sents w s
  p : Pow w
  n : Nms w
theorem Env.below {w w' : World} {s : Nat → Addr} (E : Env w s) (h : Below w.heap.size w w') : Env w' s := ⟨E.s.below h, E.p.below h, E.n.below h⟩

def endL (a p : Int) : List UInt8 := Lib.itoa a ++ 58 :: Lib.itoa p
theorem endL_len {a p : Int} (h : okEnd a p) : (endL a p).length ≤ 15 := by
  have l1 := itoa_len h.1 (by have := h.2.1; omega)
  have l2 := itoa_len (show 0 ≤ p by have := h.2.2.1; omega) (by have := h.2.2.2; omega)
  simp [endL]; omega
/-- a packet's text. -/
def pText (pr a1 p1 a2 p2 fl : Int) : List UInt8 :=
  (if pr = 1 then [117, 100, 112] else [116, 99, 112]) ++ 32 :: (endL a1 p1 ++ 32 :: (endL a2 p2 ++ if pr = 2 then 32 :: fText fl else []))

set_option maxRecDepth 100000 in
set_option maxHeartbeats 4000000 in
theorem text_ok (pr a1 p1 a2 p2 fl : Int) (s : Nat → Addr) (w : World) (E : Env w s) (h : PkOk pr a1 p1 a2 p2 fl) :
    Calls Tryz.prog 7 #[pkt pr a1 p1 a2 p2 fl] w fun e w' => e = .returned (.tuple #[.string ⟨(pText pr a1 p1 a2 p2 fl).toArray⟩, .nilIface]) ∧ Below w.heap.size w w' := by
  have hE : Hid (Env w s) := E
  obtain ⟨h1, h2, h3, h4, h5⟩ := h
  have H1 : Hid ((pr = 1 ∧ fl = 0) ∨ pr = 2) := h1
  have H2 : Hid (okEnd a1 p1) := h2
  have H3 : Hid (okEnd a2 p2) := h3
  have H4 : Hid (0 ≤ fl) := h4
  have H5 : Hid (fl ≤ 15) := h5
  have l1 : (Lib.itoa a1 ++ 58 :: Lib.itoa p1).length ≤ 15 := endL_len h2
  have l2 : (Lib.itoa a2 ++ 58 :: Lib.itoa p2).length ≤ 15 := endL_len h3
  have l3 := fText_len fl h4 h5
  generalize he1 : Lib.itoa a1 ++ 58 :: Lib.itoa p1 = t1 at l1
  generalize he2 : Lib.itoa a2 ++ 58 :: Lib.itoa p2 = t2 at l2
  generalize he3 : fText fl = t3 at l3
  have HE1 : Hid (Lib.itoa a1 ++ 58 :: Lib.itoa p1 = t1) := he1
  have HE2 : Hid (Lib.itoa a2 ++ 58 :: Lib.itoa p2 = t2) := he2
  have HE3 : Hid (fText fl = t3) := he3
  clear E h1 h2 h3 h4 h5 he1 he2 he3
  go_enter Tryz.func7, Tryz.ntmps7
  go_wp2_with fail
  refine (check_ok _ _ _ _ _ _ s _ (hE.out.s.below ((Below.refl _ _).alloc (Nat.le_refl _) _)) H1.out H2.out H3.out H4.out H5.out).mono ?_
  rintro e w1 ⟨rfl, hb⟩
  have HK : Hid (Pk w1 w.heap.size pr a1 p1 a2 p2 fl) := by
    obtain ⟨c0, c1, c2, c3, c4, c5⟩ := box6 hb
    exact ⟨c0, c1, c2, c3, c4, c5⟩
  have HB : Hid (Below w.heap.size w w1) := ((Below.refl _ _).alloc (Nat.le_refl _) _).trans (hb.mono (by simp))
  clear hb
  unfold errV
  have i0 := Tryz.idx0
  have i1 := Tryz.idx1
  rcases H1.out with ⟨rfl, rfl⟩ | rfl
  · have k0 := HK.out.c0
    go_wp2_with fail
    refine (protoText_udp _).mono ?_
    rintro e w2 ⟨rfl, hw2⟩
    subst hw2
    go_wp2_with fail
    refine (ends_any _ _ _).mono ?_
    rintro e w3 ⟨rfl, hb3⟩
    have K3 : Hid (Pk w3 w.heap.size 1 a1 p1 a2 p2 0) := HK.out.below hb3
    have HB3 : Hid (Below w.heap.size w w3) := below_all HB.out hb3
    clear hb3 k0
    go_wp2_with fail
    refine wp_loop_rounds 3 ?_
    rw [rounds_succ]
    have k1 := K3.out.c1
    have k2 := K3.out.c2
    go_wp2_with fail
    refine (endText_any _ _ H2.out _ (hE.out.p.below HB3.out)).mono ?_
    rintro e w4 ⟨rfl, hb4⟩
    rw [HE1.out]
    have K4 : Hid (Pk w4 w.heap.size 1 a1 p1 a2 p2 0) := K3.out.below hb4
    have HB4 : Hid (Below w.heap.size w w4) := below_all HB3.out hb4
    clear hb4 k1 k2
    have k1 := K4.out.c3
    have k2 := K4.out.c4
    go_wp2_with fail
    rw [rounds_succ]
    go_wp2_with fail
    refine (endText_any _ _ H3.out _ (hE.out.p.below HB4.out)).mono ?_
    rintro e w5 ⟨rfl, hb5⟩
    rw [HE2.out]
    have K5 : Hid (Pk w5 w.heap.size 1 a1 p1 a2 p2 0) := K4.out.below hb5
    have HB5 : Hid (Below w.heap.size w w5) := below_all HB4.out hb5
    clear hb5 k1 k2
    have k0 := K5.out.c0
    go_wp2_with fail
    rw [rounds_succ]
    go_wp2_with fail
    go_ret2
    refine ⟨?_, HB5.out⟩
    exact congrArg (fun x : ByteArray => Ending.returned (.tuple #[.string x, .nilIface])) (by apply ByteArray.ext; simp [ByteArray.data_append, pText, endL, ← HE1.out, ← HE2.out])
  · have k0 := HK.out.c0
    go_wp2_with fail
    refine (protoText_tcp _).mono ?_
    rintro e w2 ⟨rfl, hw2⟩
    subst hw2
    go_wp2_with fail
    refine (ends_any _ _ _).mono ?_
    rintro e w3 ⟨rfl, hb3⟩
    have K3 : Hid (Pk w3 w.heap.size 2 a1 p1 a2 p2 fl) := HK.out.below hb3
    have HB3 : Hid (Below w.heap.size w w3) := below_all HB.out hb3
    clear hb3 k0
    go_wp2_with fail
    refine wp_loop_rounds 3 ?_
    rw [rounds_succ]
    have k1 := K3.out.c1
    have k2 := K3.out.c2
    go_wp2_with fail
    refine (endText_any _ _ H2.out _ (hE.out.p.below HB3.out)).mono ?_
    rintro e w4 ⟨rfl, hb4⟩
    rw [HE1.out]
    have K4 : Hid (Pk w4 w.heap.size 2 a1 p1 a2 p2 fl) := K3.out.below hb4
    have HB4 : Hid (Below w.heap.size w w4) := below_all HB3.out hb4
    clear hb4 k1 k2
    have k1 := K4.out.c3
    have k2 := K4.out.c4
    go_wp2_with fail
    rw [rounds_succ]
    go_wp2_with fail
    refine (endText_any _ _ H3.out _ (hE.out.p.below HB4.out)).mono ?_
    rintro e w5 ⟨rfl, hb5⟩
    rw [HE2.out]
    have K5 : Hid (Pk w5 w.heap.size 2 a1 p1 a2 p2 fl) := K4.out.below hb5
    have HB5 : Hid (Below w.heap.size w w5) := below_all HB4.out hb5
    clear hb5 k1 k2
    have k0 := K5.out.c0
    have k5 := K5.out.c5
    go_wp2_with fail
    rw [rounds_succ]
    go_wp2_with fail
    refine (flagsText_any _ H4.out H5.out _ (hE.out.n.below HB5.out)).mono ?_
    rintro e w6 ⟨rfl, hb6⟩
    rw [HE3.out]
    have HB6 : Hid (Below w.heap.size w w6) := below_all HB5.out hb6
    clear hb6 k0 k5
    go_wp2_with fail
    go_ret2
    refine ⟨?_, HB6.out⟩
    exact congrArg (fun x : ByteArray => Ending.returned (.tuple #[.string x, .nilIface])) (by apply ByteArray.ext; simp [ByteArray.data_append, pText, endL, ← HE1.out, ← HE2.out, ← HE3.out])
set_option maxRecDepth 100000 in
set_option maxHeartbeats 1000000 in
/-- Text of what Check refuses. -/
theorem text_err (k : Nat) (pr a1 p1 a2 p2 fl : Int) (s : Nat → Addr) (w : World) (hC : ∀ w, Sents w s → Calls Tryz.prog 10 #[pkt pr a1 p1 a2 p2 fl] w fun e w' => e = .returned (errV s (k + 1)) ∧ Below w.heap.size w w') (S : Sents w s) :
    Calls Tryz.prog 7 #[pkt pr a1 p1 a2 p2 fl] w fun e w' => e = .returned (.tuple #[.string ⟨#[]⟩, errV s (k + 1)]) ∧ Below w.heap.size w w' := by
  have HC : Hid (∀ w, Sents w s → Calls Tryz.prog 10 #[pkt pr a1 p1 a2 p2 fl] w fun e w' => e = .returned (errV s (k + 1)) ∧ Below w.heap.size w w') := hC
  have hS : Hid (Sents w s) := S
  clear S hC
  unfold errV
  go_enter Tryz.func7, Tryz.ntmps7
  go_wp2_with fail
  refine (HC.out _ (hS.out.below ((Below.refl _ _).alloc (Nat.le_refl _) _))).mono ?_
  rintro e w1 ⟨rfl, hb⟩
  have HB : Hid (Below w.heap.size w w1) := ((Below.refl _ _).alloc (Nat.le_refl _) _).trans (hb.mono (by simp))
  clear hb
  unfold errV
  go_wp2_with fail
  go_ret2
  exact ⟨rfl, HB.out⟩
end Go.Proofs.YtlogpnanfamjeaaGreatDoor
