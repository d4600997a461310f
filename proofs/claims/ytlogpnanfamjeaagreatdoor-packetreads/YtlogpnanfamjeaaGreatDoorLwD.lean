/-
  The law PacketReads, where the text is a packet's; and whatever the bytes and the text.
-/
import Derived.Test.YtlogpnanfamjeaaGreatDoorLwC
namespace Go.Proofs.YtlogpnanfamjeaaGreatDoor
open Go.RowKit

set_option maxRecDepth 100000 in
set_option maxHeartbeats 4000000 in
theorem reads_some (b t : ByteArray) (hb : b.size ≤ 200) (ht : t.size ≤ 200) (n0 n1 n2 n3 n4 n5 : Int) (q : Nat) (hq : q < 12) (s : Nat → Addr)
    (h1 : ∀ w : World, Sents w s → Calls Tryz.prog 11 #[.string b] w fun e w' => e = .returned (.tuple #[pkt n0 n1 n2 n3 n4 n5, errV s q]) ∧ Below w.heap.size w w')
    (h2 : ∀ w : World, Calls Tryz.prog 15 #[.string b] w fun e w' => e = .returned (.tuple #[pkt n0 n1 n2 n3 n4 n5, .int .i64 q]) ∧ Below w.heap.size w w')
    (h3 : ∀ w : World, (binOp .neq 25 (pkt n0 n1 n2 n3 n4 n5) (pkt n0 n1 n2 n3 n4 n5)).run Tryz.prog w = .ok (.bool false) w)
    (m0 m1 m2 m3 m4 m5 : Int) (h4 : rdR t = some (m0, m1, m2, m3, m4, m5)) (w : World) (E : EnvL w s) :
    Calls Tryz.prog 4 #[.string b, .string t] w fun e w' => e = .returned (.bool true) ∧ Below w.heap.size w w' := by
  have HE : Hid (EnvL w s) := E
  have H1 : Hid (∀ w : World, Sents w s → Calls Tryz.prog 11 #[.string b] w fun e w' => e = .returned (.tuple #[pkt n0 n1 n2 n3 n4 n5, errV s q]) ∧ Below w.heap.size w w') := h1
  have H2 : Hid (∀ w : World, Calls Tryz.prog 15 #[.string b] w fun e w' => e = .returned (.tuple #[pkt n0 n1 n2 n3 n4 n5, .int .i64 q]) ∧ Below w.heap.size w w') := h2
  have H3 : Hid (∀ w : World, (binOp .neq 25 (pkt n0 n1 n2 n3 n4 n5) (pkt n0 n1 n2 n3 n4 n5)).run Tryz.prog w = .ok (.bool false) w) := h3
  have H4 : Hid (rdR t = some (m0, m1, m2, m3, m4, m5)) := h4
  obtain ⟨ho, hte⟩ := rdR_back h4
  have HO : Hid (PkOk m0 m1 m2 m3 m4 m5) := ho
  have HTE : Hid (t = ⟨(pText m0 m1 m2 m3 m4 m5).toArray⟩) := hte
  clear ho hte
  have H5 : Hid (∀ w : World, Sents w s → Calls Tryz.prog 9 #[errV s q, .int .i64 q] w fun e w' => e = .returned (.bool true) ∧ Below w.heap.size w w') := fun w S => coded_own q hq s w S
  have HT : Hid (t.size ≤ 1000) := by show t.size ≤ 1000; omega
  have g1 : ¬ (200 : Int) < (b.size : Int) := by omega
  have g2 : ¬ (200 : Int) < (t.size : Int) := by omega
  clear E h1 h2 h3 h4 hq hb ht
  generalize errV s q = ev at *
  go_enter Tryz.func4, Tryz.ntmps4
  go_wp2_with fail
  refine (read_any s _ HE.out.e).mono ?_
  rintro e w1 ⟨rfl, hb1⟩
  have HB1 : Hid (Below w.heap.size w w1) := hb1
  clear hb1
  go_wp2_with fail
  refine (H1.out _ (HE.out.e.s.below HB1.out)).mono ?_
  rintro e w2 ⟨rfl, hb2⟩
  have HB2 : Hid (Below w.heap.size w w2) := below_all HB1.out hb2
  clear hb2
  go_wp2_with fail
  have b3 : Hid (Below w2.heap.size w2 (w2.alloc (.cells #[.int .i64 n0, .int .i64 n1, .int .i64 n2, .int .i64 n3, .int .i64 n4, .int .i64 n5] 25))) := (Below.refl _ _).alloc (Nat.le_refl _) _
  have HB2b : Hid (Below w.heap.size w (w2.alloc (.cells #[.int .i64 n0, .int .i64 n1, .int .i64 n2, .int .i64 n3, .int .i64 n4, .int .i64 n5] 25))) := below_all HB2.out b3.out
  refine (H2.out _).mono ?_
  rintro e w3 ⟨rfl, hb3⟩
  have R3 : Hid (Six w3 w2.heap.size (fun j => [n0, n1, n2, n3, n4, n5].getD j 0)) := (six_of w2 n0 n1 n2 n3 n4 n5 25).below hb3
  have HB3 : Hid (Below w.heap.size w w3) := below_all HB2b.out hb3
  clear hb3 b3 HB2b
  have hpb : Hid (w.heap.size ≤ w2.heap.size) := HB2.out.size
  have hpv : Hid (w2.heap.size < w3.heap.size) := block_lt (R3.out.c 0 (by omega))
  clear HB2
  generalize w2.heap.size = pb at *
  have R4 : Hid (Six (w3.alloc (.cells #[.int .i64 n0, .int .i64 n1, .int .i64 n2, .int .i64 n3, .int .i64 n4, .int .i64 n5] 25)) pb (fun j => [n0, n1, n2, n3, n4, n5].getD j 0)) := R3.out.below ((Below.refl _ _).alloc (Nat.le_refl _) _)
  have V4 : Hid (Six (w3.alloc (.cells #[.int .i64 n0, .int .i64 n1, .int .i64 n2, .int .i64 n3, .int .i64 n4, .int .i64 n5] 25)) w3.heap.size (fun j => [n0, n1, n2, n3, n4, n5].getD j 0)) := six_of w3 n0 n1 n2 n3 n4 n5 25
  have HB4 : Hid (Below w.heap.size w (w3.alloc (.cells #[.int .i64 n0, .int .i64 n1, .int .i64 n2, .int .i64 n3, .int .i64 n4, .int .i64 n5] 25))) := below_all HB3.out ((Below.refl _ _).alloc (Nat.le_refl _) _)
  go_wp2_with fail
  generalize w3.alloc (.cells #[.int .i64 n0, .int .i64 n1, .int .i64 n2, .int .i64 n3, .int .i64 n4, .int .i64 n5] 25) = W4 at *
  generalize w3.heap.size = vb at *
  refine (H5.out _ (HE.out.e.s.below HB4.out)).mono ?_
  rintro e w5 ⟨rfl, hb5⟩
  have R5 : Hid (Six w5 pb (fun j => [n0, n1, n2, n3, n4, n5].getD j 0)) := R4.out.below hb5
  have V5 : Hid (Six w5 vb (fun j => [n0, n1, n2, n3, n4, n5].getD j 0)) := V4.out.below hb5
  have HB5 : Hid (Below w.heap.size w w5) := below_all HB4.out hb5
  clear hb5 R4 V4 HB4 R3 HB3
  have p0 : w5.cell? ⟨pb, 0, none⟩ = some (.int .i64 n0) := R5.out.c 0 (by omega)
  have p1 : w5.cell? ⟨pb, 1, none⟩ = some (.int .i64 n1) := R5.out.c 1 (by omega)
  have p2 : w5.cell? ⟨pb, 2, none⟩ = some (.int .i64 n2) := R5.out.c 2 (by omega)
  have p3 : w5.cell? ⟨pb, 3, none⟩ = some (.int .i64 n3) := R5.out.c 3 (by omega)
  have p4 : w5.cell? ⟨pb, 4, none⟩ = some (.int .i64 n4) := R5.out.c 4 (by omega)
  have p5 : w5.cell? ⟨pb, 5, none⟩ = some (.int .i64 n5) := R5.out.c 5 (by omega)
  have v0 : w5.cell? ⟨vb, 0, none⟩ = some (.int .i64 n0) := V5.out.c 0 (by omega)
  have v1 : w5.cell? ⟨vb, 1, none⟩ = some (.int .i64 n1) := V5.out.c 1 (by omega)
  have v2 : w5.cell? ⟨vb, 2, none⟩ = some (.int .i64 n2) := V5.out.c 2 (by omega)
  have v3 : w5.cell? ⟨vb, 3, none⟩ = some (.int .i64 n3) := V5.out.c 3 (by omega)
  have v4 : w5.cell? ⟨vb, 4, none⟩ = some (.int .i64 n4) := V5.out.c 4 (by omega)
  have v5 : w5.cell? ⟨vb, 5, none⟩ = some (.int .i64 n5) := V5.out.c 5 (by omega)
  have neq := H3.out
  go_wp2_with fail
  clear p0 p1 p2 p3 p4 p5 v0 v1 v2 v3 v4 v5 neq
  refine (readL_some t HT.out s _ (HE.out.below HB5.out) m0 m1 m2 m3 m4 m5 H4.out).mono ?_
  rintro e w6 ⟨rfl, hb6⟩
  have R6 : Hid (Six w6 pb (fun j => [n0, n1, n2, n3, n4, n5].getD j 0)) := R5.out.below hb6
  have V6 : Hid (Six w6 vb (fun j => [n0, n1, n2, n3, n4, n5].getD j 0)) := V5.out.below hb6
  have HB6 : Hid (Below w.heap.size w w6) := below_all HB5.out hb6
  clear hb6 R5 V5
  have p0 : w6.cell? ⟨pb, 0, none⟩ = some (.int .i64 n0) := R6.out.c 0 (by omega)
  have p1 : w6.cell? ⟨pb, 1, none⟩ = some (.int .i64 n1) := R6.out.c 1 (by omega)
  have p2 : w6.cell? ⟨pb, 2, none⟩ = some (.int .i64 n2) := R6.out.c 2 (by omega)
  have p3 : w6.cell? ⟨pb, 3, none⟩ = some (.int .i64 n3) := R6.out.c 3 (by omega)
  have p4 : w6.cell? ⟨pb, 4, none⟩ = some (.int .i64 n4) := R6.out.c 4 (by omega)
  have p5 : w6.cell? ⟨pb, 5, none⟩ = some (.int .i64 n5) := R6.out.c 5 (by omega)
  have pf0 := R6.out.cf 0 (by omega)
  have pf1 := R6.out.cf 1 (by omega)
  have pf2 := R6.out.cf 2 (by omega)
  have pf3 := R6.out.cf 3 (by omega)
  have pf4 := R6.out.cf 4 (by omega)
  have pf5 := R6.out.cf 5 (by omega)
  go_wp2_with fail
  have R7 : Hid (Six ((((((w6.setCell ⟨pb, 0, none⟩ (.int .i64 m0)).setCell ⟨pb, 1, none⟩ (.int .i64 m1)).setCell ⟨pb, 2, none⟩ (.int .i64 m2)).setCell ⟨pb, 3, none⟩ (.int .i64 m3)).setCell ⟨pb, 4, none⟩ (.int .i64 m4)).setCell ⟨pb, 5, none⟩ (.int .i64 m5)) pb (fun j => [m0, m1, m2, m3, m4, m5].getD j 0)) := six_put R6.out m0 m1 m2 m3 m4 m5
  have V7 : Hid (Six ((((((w6.setCell ⟨pb, 0, none⟩ (.int .i64 m0)).setCell ⟨pb, 1, none⟩ (.int .i64 m1)).setCell ⟨pb, 2, none⟩ (.int .i64 m2)).setCell ⟨pb, 3, none⟩ (.int .i64 m3)).setCell ⟨pb, 4, none⟩ (.int .i64 m4)).setCell ⟨pb, 5, none⟩ (.int .i64 m5)) vb (fun j => [n0, n1, n2, n3, n4, n5].getD j 0)) := six_put_other V6.out (by have := hpv.out; omega) m0 m1 m2 m3 m4 m5
  have HB7 : Hid (Below w.heap.size w ((((((w6.setCell ⟨pb, 0, none⟩ (.int .i64 m0)).setCell ⟨pb, 1, none⟩ (.int .i64 m1)).setCell ⟨pb, 2, none⟩ (.int .i64 m2)).setCell ⟨pb, 3, none⟩ (.int .i64 m3)).setCell ⟨pb, 4, none⟩ (.int .i64 m4)).setCell ⟨pb, 5, none⟩ (.int .i64 m5))) := below_put HB6.out hpb.out m0 m1 m2 m3 m4 m5
  clear p0 p1 p2 p3 p4 p5 pf0 pf1 pf2 pf3 pf4 pf5 R6 V6
  generalize ((((((w6.setCell ⟨pb, 0, none⟩ (.int .i64 m0)).setCell ⟨pb, 1, none⟩ (.int .i64 m1)).setCell ⟨pb, 2, none⟩ (.int .i64 m2)).setCell ⟨pb, 3, none⟩ (.int .i64 m3)).setCell ⟨pb, 4, none⟩ (.int .i64 m4)).setCell ⟨pb, 5, none⟩ (.int .i64 m5)) = W7 at *
  have hP := pread_any t HT.out W7
  rw [H4.out] at hP
  refine hP.mono ?_
  clear hP
  rintro e w8 ⟨rfl, hb8⟩
  have R8 : Hid (Six w8 pb (fun j => [m0, m1, m2, m3, m4, m5].getD j 0)) := R7.out.below hb8
  have V8 : Hid (Six w8 vb (fun j => [n0, n1, n2, n3, n4, n5].getD j 0)) := V7.out.below hb8
  have HB8 : Hid (Below w.heap.size w w8) := below_all HB7.out hb8
  clear hb8 R7 V7
  have v0 : w8.cell? ⟨vb, 0, none⟩ = some (.int .i64 n0) := V8.out.c 0 (by omega)
  have v1 : w8.cell? ⟨vb, 1, none⟩ = some (.int .i64 n1) := V8.out.c 1 (by omega)
  have v2 : w8.cell? ⟨vb, 2, none⟩ = some (.int .i64 n2) := V8.out.c 2 (by omega)
  have v3 : w8.cell? ⟨vb, 3, none⟩ = some (.int .i64 n3) := V8.out.c 3 (by omega)
  have v4 : w8.cell? ⟨vb, 4, none⟩ = some (.int .i64 n4) := V8.out.c 4 (by omega)
  have v5 : w8.cell? ⟨vb, 5, none⟩ = some (.int .i64 n5) := V8.out.c 5 (by omega)
  have vf0 := V8.out.cf 0 (by omega)
  have vf1 := V8.out.cf 1 (by omega)
  have vf2 := V8.out.cf 2 (by omega)
  have vf3 := V8.out.cf 3 (by omega)
  have vf4 := V8.out.cf 4 (by omega)
  have vf5 := V8.out.cf 5 (by omega)
  have p0 : w8.cell? ⟨pb, 0, none⟩ = some (.int .i64 m0) := R8.out.c 0 (by omega)
  have p1 : w8.cell? ⟨pb, 1, none⟩ = some (.int .i64 m1) := R8.out.c 1 (by omega)
  have p2 : w8.cell? ⟨pb, 2, none⟩ = some (.int .i64 m2) := R8.out.c 2 (by omega)
  have p3 : w8.cell? ⟨pb, 3, none⟩ = some (.int .i64 m3) := R8.out.c 3 (by omega)
  have p4 : w8.cell? ⟨pb, 4, none⟩ = some (.int .i64 m4) := R8.out.c 4 (by omega)
  have p5 : w8.cell? ⟨pb, 5, none⟩ = some (.int .i64 m5) := R8.out.c 5 (by omega)
  have hne : pb < vb := hpv.out
  simp only [pktO, Option.isSome]
  go_wp2_with fail
  have R9 : Hid (Six ((((((w8.setCell ⟨vb, 0, none⟩ (.int .i64 m0)).setCell ⟨vb, 1, none⟩ (.int .i64 m1)).setCell ⟨vb, 2, none⟩ (.int .i64 m2)).setCell ⟨vb, 3, none⟩ (.int .i64 m3)).setCell ⟨vb, 4, none⟩ (.int .i64 m4)).setCell ⟨vb, 5, none⟩ (.int .i64 m5)) pb (fun j => [m0, m1, m2, m3, m4, m5].getD j 0)) := six_put_other R8.out (by have := hpv.out; omega) m0 m1 m2 m3 m4 m5
  have HB9 : Hid (Below w.heap.size w ((((((w8.setCell ⟨vb, 0, none⟩ (.int .i64 m0)).setCell ⟨vb, 1, none⟩ (.int .i64 m1)).setCell ⟨vb, 2, none⟩ (.int .i64 m2)).setCell ⟨vb, 3, none⟩ (.int .i64 m3)).setCell ⟨vb, 4, none⟩ (.int .i64 m4)).setCell ⟨vb, 5, none⟩ (.int .i64 m5))) := below_put HB8.out (by have := hpv.out; have := hpb.out; omega) m0 m1 m2 m3 m4 m5
  have V9 : Hid (Six ((((((w8.setCell ⟨vb, 0, none⟩ (.int .i64 m0)).setCell ⟨vb, 1, none⟩ (.int .i64 m1)).setCell ⟨vb, 2, none⟩ (.int .i64 m2)).setCell ⟨vb, 3, none⟩ (.int .i64 m3)).setCell ⟨vb, 4, none⟩ (.int .i64 m4)).setCell ⟨vb, 5, none⟩ (.int .i64 m5)) vb (fun j => [m0, m1, m2, m3, m4, m5].getD j 0)) := six_put V8.out m0 m1 m2 m3 m4 m5
  clear p0 p1 p2 p3 p4 p5 v0 v1 v2 v3 v4 v5 vf0 vf1 vf2 vf3 vf4 vf5 V8
  generalize ((((((w8.setCell ⟨vb, 0, none⟩ (.int .i64 m0)).setCell ⟨vb, 1, none⟩ (.int .i64 m1)).setCell ⟨vb, 2, none⟩ (.int .i64 m2)).setCell ⟨vb, 3, none⟩ (.int .i64 m3)).setCell ⟨vb, 4, none⟩ (.int .i64 m4)).setCell ⟨vb, 5, none⟩ (.int .i64 m5)) = W9 at *
  have p0 : W9.cell? ⟨pb, 0, none⟩ = some (.int .i64 m0) := R9.out.c 0 (by omega)
  have p1 : W9.cell? ⟨pb, 1, none⟩ = some (.int .i64 m1) := R9.out.c 1 (by omega)
  have p2 : W9.cell? ⟨pb, 2, none⟩ = some (.int .i64 m2) := R9.out.c 2 (by omega)
  have p3 : W9.cell? ⟨pb, 3, none⟩ = some (.int .i64 m3) := R9.out.c 3 (by omega)
  have p4 : W9.cell? ⟨pb, 4, none⟩ = some (.int .i64 m4) := R9.out.c 4 (by omega)
  have p5 : W9.cell? ⟨pb, 5, none⟩ = some (.int .i64 m5) := R9.out.c 5 (by omega)
  refine (text_ok m0 m1 m2 m3 m4 m5 s _ (HE.out.e.below HB9.out) HO.out).mono ?_
  rw [← HTE.out]
  rintro e w10 ⟨rfl, hb10⟩
  have R10 : Hid (Six w10 pb (fun j => [m0, m1, m2, m3, m4, m5].getD j 0)) := R9.out.below hb10
  have V10 : Hid (Six w10 vb (fun j => [m0, m1, m2, m3, m4, m5].getD j 0)) := V9.out.below hb10
  have HB10 : Hid (Below w.heap.size w w10) := below_all HB9.out hb10
  clear hb10 R9 V9 p0 p1 p2 p3 p4 p5
  have p0 : w10.cell? ⟨pb, 0, none⟩ = some (.int .i64 m0) := R10.out.c 0 (by omega)
  have p1 : w10.cell? ⟨pb, 1, none⟩ = some (.int .i64 m1) := R10.out.c 1 (by omega)
  have p2 : w10.cell? ⟨pb, 2, none⟩ = some (.int .i64 m2) := R10.out.c 2 (by omega)
  have p3 : w10.cell? ⟨pb, 3, none⟩ = some (.int .i64 m3) := R10.out.c 3 (by omega)
  have p4 : w10.cell? ⟨pb, 4, none⟩ = some (.int .i64 m4) := R10.out.c 4 (by omega)
  have p5 : w10.cell? ⟨pb, 5, none⟩ = some (.int .i64 m5) := R10.out.c 5 (by omega)
  have v0 : w10.cell? ⟨vb, 0, none⟩ = some (.int .i64 m0) := V10.out.c 0 (by omega)
  have v1 : w10.cell? ⟨vb, 1, none⟩ = some (.int .i64 m1) := V10.out.c 1 (by omega)
  have v2 : w10.cell? ⟨vb, 2, none⟩ = some (.int .i64 m2) := V10.out.c 2 (by omega)
  have v3 : w10.cell? ⟨vb, 3, none⟩ = some (.int .i64 m3) := V10.out.c 3 (by omega)
  have v4 : w10.cell? ⟨vb, 4, none⟩ = some (.int .i64 m4) := V10.out.c 4 (by omega)
  have v5 : w10.cell? ⟨vb, 5, none⟩ = some (.int .i64 m5) := V10.out.c 5 (by omega)
  have eq := eql_ok HO.out
  have sb := ba_eq t
  go_wp2_with fail
  go_ret
  exact ⟨rfl, HB10.out⟩
/-- THE LAW, whatever the bytes and the text. -/
theorem reads_any (b t : ByteArray) (s : Nat → Addr) (w : World) (E : EnvL w s) :
    Calls Tryz.prog 4 #[.string b, .string t] w fun e w' => e = .returned (.bool true) ∧ Below w.heap.size w w' := by
  by_cases h : 200 < b.size ∨ 200 < t.size
  · exact reads_long b t h s w E
  · obtain ⟨n0, n1, n2, n3, n4, n5, q, hq, h1, h2, h3⟩ := decode_both b s
    cases h4 : rdR t with
    | none => exact reads_none b t (by omega) (by omega) n0 n1 n2 n3 n4 n5 q hq s h1 h2 h3 h4 w E
    | some p =>
      obtain ⟨m0, m1, m2, m3, m4, m5⟩ := p
      exact reads_some b t (by omega) (by omega) n0 n1 n2 n3 n4 n5 q hq s h1 h2 h3 m0 m1 m2 m3 m4 m5 h4 w E
end Go.Proofs.YtlogpnanfamjeaaGreatDoor
