/-
  The law PacketReads: what is read of any bytes, and of any text, beside the document's answer.
-/
import Derived.Test.YtlogpnanfamjeaaGreatDoorLwA
import Derived.Test.YtlogpnanfamjeaaGreatDoorRfU
import Derived.Test.YtlogpnanfamjeaaGreatDoorRfQ
import Derived.Test.YtlogpnanfamjeaaGreatDoorEqP
import Derived.Test.YtlogpnanfamjeaaGreatDoorPkF
namespace Go.Proofs.YtlogpnanfamjeaaGreatDoor
open Go.RowKit

theorem neq_pkt (a b c d e f : Int) (w : World) (ha : (Lit.int .i64 a).wf = true) (hb : (Lit.int .i64 b).wf = true) (hc : (Lit.int .i64 c).wf = true) (hd : (Lit.int .i64 d).wf = true) (he : (Lit.int .i64 e).wf = true) (hf : (Lit.int .i64 f).wf = true) : (binOp .neq 25 (pkt a b c d e f) (pkt a b c d e f)).run Tryz.prog w = .ok (.bool false) w := by
  obtain ⟨l, hl⟩ := eqL a b c d e f ha hb hc hd he hf
  obtain ⟨r, hr, hi⟩ := run_equalIn_deep (P := Tryz.prog) 9995 5 25 eqK w 5 5 _ _ _ _ (eqF a b c d e f) (eqF a b c d e f) hl hl
  have : r = true := hi.2 rfl
  subst this
  simp only [binOp]
  simp [Op.equal, Op.maxDepth]
  rw [show (10000 : Nat) = 9995 + 5 from rfl, hr]
  rfl
theorem eql_zero (w : World) : (binOp .eql 25 (pkt 0 0 0 0 0 0) (pkt 0 0 0 0 0 0)).run Tryz.prog w = .ok (.bool true) w :=
  eql_pkt _ _ _ _ _ _ w (by decide) (by decide) (by decide) (by decide) (by decide) (by decide)
theorem neq_zero (w : World) : (binOp .neq 25 (pkt 0 0 0 0 0 0) (pkt 0 0 0 0 0 0)).run Tryz.prog w = .ok (.bool false) w :=
  neq_pkt _ _ _ _ _ _ w (by decide) (by decide) (by decide) (by decide) (by decide) (by decide)
theorem neq_ok {pr a1 p1 a2 p2 fl : Int} (h : PkOk pr a1 p1 a2 p2 fl) (w : World) : (binOp .neq 25 (pkt pr a1 p1 a2 p2 fl) (pkt pr a1 p1 a2 p2 fl)).run Tryz.prog w = .ok (.bool false) w := by
  obtain ⟨h1, ⟨g1, g2, g3, g4⟩, ⟨g5, g6, g7, g8⟩, g9, g10⟩ := h
  exact neq_pkt _ _ _ _ _ _ w (wfi (by omega) (by omega)) (wfi (by omega) (by omega)) (wfi (by omega) (by omega)) (wfi (by omega) (by omega)) (wfi (by omega) (by omega)) (wfi (by omega) (by omega))
/-- 'coded' of an error and its own number. -/
theorem coded_own (q : Nat) (hq : q < 12) (s : Nat → Addr) (w : World) (S : Sents w s) : Calls Tryz.prog 9 #[errV s q, .int .i64 q] w fun e w' => e = .returned (.bool true) ∧ Below w.heap.size w w' := by
  cases q with
  | zero => exact (coded_nil 0 w).mono fun e w' ⟨he, hw⟩ => ⟨he, by rw [hw]; exact Below.refl _ _⟩
  | succ k =>
    refine (coded_sent k (by omega) _ s w S).mono fun e w' ⟨he, hb⟩ => ⟨?_, hb⟩
    rw [he, show (((k + 1 : Nat) : Int) == (k : Int) + 1) = true from beq_iff_eq.2 (by omega)]
theorem pkErr_lt (pr a1 p1 a2 p2 fl : Int) : pkErr pr a1 p1 a2 p2 fl < 12 := by
  unfold pkErr
  split
  · split <;> omega
  · omega
/-- Decode and the document's PacketOf, of any bytes: the same packet, the same error. -/
theorem decode_both (x : ByteArray) (s : Nat → Addr) : ∃ n0 n1 n2 n3 n4 n5 : Int, ∃ q : Nat, q < 12 ∧
    (∀ w : World, Sents w s → Calls Tryz.prog 11 #[.string x] w fun e w' => e = .returned (.tuple #[pkt n0 n1 n2 n3 n4 n5, errV s q]) ∧ Below w.heap.size w w') ∧
    (∀ w : World, Calls Tryz.prog 15 #[.string x] w fun e w' => e = .returned (.tuple #[pkt n0 n1 n2 n3 n4 n5, .int .i64 q]) ∧ Below w.heap.size w w') ∧
    ∀ w : World, (binOp .neq 25 (pkt n0 n1 n2 n3 n4 n5) (pkt n0 n1 n2 n3 n4 n5)).run Tryz.prog w = .ok (.bool false) w := by
  by_cases hx : x.size = 14
  · have hd := fun w S => decode_any x hx s w S _ rfl
    have hp := fun w => pof_any x hx _ rfl w
    have hl := pkErr_lt (N x 0 1) (N x 1 4) (N x 5 2) (N x 7 4) (N x 11 2) (N x 13 1)
    by_cases h : pkErr (N x 0 1) (N x 1 4) (N x 5 2) (N x 7 4) (N x 11 2) (N x 13 1) = 0
    · rw [if_pos h] at hd hp
      exact ⟨_, _, _, _, _, _, _, hl, hd, hp, neq_ok (pkErr_zero.1 h)⟩
    · rw [if_neg h] at hd hp
      exact ⟨0, 0, 0, 0, 0, 0, _, hl, hd, hp, neq_zero⟩
  · exact ⟨0, 0, 0, 0, 0, 0, 1, by omega, fun w S => decode_len x hx s w S, fun w => pof_len x hx w, neq_zero⟩
/-- Read of a text that is no packet's. -/
theorem readL_none (x : ByteArray) (hx : x.size ≤ 1000) (s : Nat → Addr) (w : World) (E : EnvL w s) (h : rdR x = none) :
    Calls Tryz.prog 12 #[.string x] w fun e w' => e = .returned (.tuple #[pkt 0 0 0 0 0 0, errV s 1]) ∧ Below w.heap.size w w' := by
  cases hp : parseP x with
  | none => exact read_none x hx s w E hp
  | some p =>
    obtain ⟨pr, a1, p1, a2, p2, fl⟩ := p
    cases hk : pkErr pr a1 p1 a2 p2 fl with
    | succ k => exact read_err x hx pr a1 p1 a2 p2 fl k s w E hp hk
    | zero =>
      have ho := pkErr_zero.1 hk
      refine read_diff x hx pr a1 p1 a2 p2 fl s w E hp ho (fun e => ?_)
      rw [e, rdR_text ho] at h
      cases h
theorem readL_some (x : ByteArray) (hx : x.size ≤ 1000) (s : Nat → Addr) (w : World) (E : EnvL w s) (pr a1 p1 a2 p2 fl : Int) (h : rdR x = some (pr, a1, p1, a2, p2, fl)) :
    Calls Tryz.prog 12 #[.string x] w fun e w' => e = .returned (.tuple #[pkt pr a1 p1 a2 p2 fl, .nilIface]) ∧ Below w.heap.size w w' := by
  obtain ⟨ho, he⟩ := rdR_back h
  exact read_ok x hx pr a1 p1 a2 p2 fl s w E (by rw [he]; exact parse_text ho) ho he

set_option maxRecDepth 100000 in
set_option maxHeartbeats 4000000 in
theorem reads_long (b t : ByteArray) (h : 200 < b.size ∨ 200 < t.size) (s : Nat → Addr) (w : World) (E : EnvL w s) :
    Calls Tryz.prog 4 #[.string b, .string t] w fun e w' => e = .returned (.bool true) ∧ Below w.heap.size w w' := by
  have HE : Hid (EnvL w s) := E
  have H : Hid (200 < b.size ∨ 200 < t.size) := h
  clear E h
  go_enter Tryz.func4, Tryz.ntmps4
  go_wp2_with fail
  refine (read_any s _ HE.out.e).mono ?_
  rintro e w1 ⟨rfl, hb1⟩
  have HB1 : Hid (Below w.heap.size w w1) := hb1
  clear hb1
  by_cases h1 : 200 < b.size
  · have h2 : (200 : Int) < (b.size : Int) := by omega
    go_wp2_with fail
    go_ret
    exact ⟨rfl, HB1.out⟩
  · have h2 : ¬ (200 : Int) < (b.size : Int) := by omega
    have h3 : (200 : Int) < (t.size : Int) := by have := H.out; omega
    go_wp2_with fail
    go_ret
    exact ⟨rfl, HB1.out⟩
theorem six_of (w : World) (n0 n1 n2 n3 n4 n5 : Int) (t : TypeId) : Six (w.alloc (.cells #[.int .i64 n0, .int .i64 n1, .int .i64 n2, .int .i64 n3, .int .i64 n4, .int .i64 n5] t)) w.heap.size (fun j => [n0, n1, n2, n3, n4, n5].getD j 0) :=
  ⟨fun j hj => by
    rw [World.cell?_alloc_at _ _ _ _ rfl]
    match j, hj with
    | 0, _ | 1, _ | 2, _ | 3, _ | 4, _ | 5, _ => rfl,
   fun j hj => by rw [World.frozen?_alloc_at _ _ _ _ rfl]⟩
theorem six_put {w : World} {b : Nat} {f : Nat → Int} (h : Six w b f) (m0 m1 m2 m3 m4 m5 : Int) : Six ((((((w.setCell ⟨b, 0, none⟩ (.int .i64 m0)).setCell ⟨b, 1, none⟩ (.int .i64 m1)).setCell ⟨b, 2, none⟩ (.int .i64 m2)).setCell ⟨b, 3, none⟩ (.int .i64 m3)).setCell ⟨b, 4, none⟩ (.int .i64 m4)).setCell ⟨b, 5, none⟩ (.int .i64 m5)) b (fun j => [m0, m1, m2, m3, m4, m5].getD j 0) := by
  have k := (((((h.set (i := 0) (by omega) m0).set (i := 1) (by omega) m1).set (i := 2) (by omega) m2).set (i := 3) (by omega) m3).set (i := 4) (by omega) m4).set (i := 5) (by omega) m5
  refine ⟨fun j hj => ?_, k.cf⟩
  rw [k.c j hj]
  match j, hj with
  | 0, _ | 1, _ | 2, _ | 3, _ | 4, _ | 5, _ => rfl
theorem six_put_other {w : World} {b c : Nat} {f : Nat → Int} (h : Six w c f) (hn : b ≠ c) (m0 m1 m2 m3 m4 m5 : Int) : Six ((((((w.setCell ⟨b, 0, none⟩ (.int .i64 m0)).setCell ⟨b, 1, none⟩ (.int .i64 m1)).setCell ⟨b, 2, none⟩ (.int .i64 m2)).setCell ⟨b, 3, none⟩ (.int .i64 m3)).setCell ⟨b, 4, none⟩ (.int .i64 m4)).setCell ⟨b, 5, none⟩ (.int .i64 m5)) c f :=
  (((((h.other hn _).other hn _).other hn _).other hn _).other hn _).other hn _
theorem below_put {w0 w : World} {b : Nat} (h : Below w0.heap.size w0 w) (hn : w0.heap.size ≤ b) (m0 m1 m2 m3 m4 m5 : Int) : Below w0.heap.size w0 ((((((w.setCell ⟨b, 0, none⟩ (.int .i64 m0)).setCell ⟨b, 1, none⟩ (.int .i64 m1)).setCell ⟨b, 2, none⟩ (.int .i64 m2)).setCell ⟨b, 3, none⟩ (.int .i64 m3)).setCell ⟨b, 4, none⟩ (.int .i64 m4)).setCell ⟨b, 5, none⟩ (.int .i64 m5)) :=
  (((((h.setCell (by exact hn) _).setCell (by exact hn) _).setCell (by exact hn) _).setCell (by exact hn) _).setCell (by exact hn) _).setCell (by exact hn) _
set_option maxRecDepth 100000 in
set_option maxHeartbeats 4000000 in
theorem reads_none (b t : ByteArray) (hb : b.size ≤ 200) (ht : t.size ≤ 200) (n0 n1 n2 n3 n4 n5 : Int) (q : Nat) (hq : q < 12) (s : Nat → Addr)
    (h1 : ∀ w : World, Sents w s → Calls Tryz.prog 11 #[.string b] w fun e w' => e = .returned (.tuple #[pkt n0 n1 n2 n3 n4 n5, errV s q]) ∧ Below w.heap.size w w')
    (h2 : ∀ w : World, Calls Tryz.prog 15 #[.string b] w fun e w' => e = .returned (.tuple #[pkt n0 n1 n2 n3 n4 n5, .int .i64 q]) ∧ Below w.heap.size w w')
    (h3 : ∀ w : World, (binOp .neq 25 (pkt n0 n1 n2 n3 n4 n5) (pkt n0 n1 n2 n3 n4 n5)).run Tryz.prog w = .ok (.bool false) w)
    (h4 : rdR t = none) (w : World) (E : EnvL w s) :
    Calls Tryz.prog 4 #[.string b, .string t] w fun e w' => e = .returned (.bool true) ∧ Below w.heap.size w w' := by
  have HE : Hid (EnvL w s) := E
  have H1 : Hid (∀ w : World, Sents w s → Calls Tryz.prog 11 #[.string b] w fun e w' => e = .returned (.tuple #[pkt n0 n1 n2 n3 n4 n5, errV s q]) ∧ Below w.heap.size w w') := h1
  have H2 : Hid (∀ w : World, Calls Tryz.prog 15 #[.string b] w fun e w' => e = .returned (.tuple #[pkt n0 n1 n2 n3 n4 n5, .int .i64 q]) ∧ Below w.heap.size w w') := h2
  have H3 : Hid (∀ w : World, (binOp .neq 25 (pkt n0 n1 n2 n3 n4 n5) (pkt n0 n1 n2 n3 n4 n5)).run Tryz.prog w = .ok (.bool false) w) := h3
  have H4 : Hid (rdR t = none) := h4
  have H5 : Hid (∀ w : World, Sents w s → Calls Tryz.prog 9 #[errV s q, .int .i64 q] w fun e w' => e = .returned (.bool true) ∧ Below w.heap.size w w') := fun w S => coded_own q hq s w S
  have HT : Hid (t.size ≤ 1000) := by show t.size ≤ 1000; omega
  have g1 : ¬ (200 : Int) < (b.size : Int) := by omega
  have g2 : ¬ (200 : Int) < (t.size : Int) := by omega
  clear E h1 h2 h3 h4 hq hb ht
  generalize errV s q = ev at *
  go_enter Tryz.func4, Tryz.ntmps4
  go_wp2_with fail
  refine (read_any s _ HE.out.e).mono ?_
  rintro e w1 ⟨rfl, hb1⟩
  have HB1 : Hid (Below w.heap.size w w1) := hb1
  clear hb1
  go_wp2_with fail
  refine (H1.out _ (HE.out.e.s.below HB1.out)).mono ?_
  rintro e w2 ⟨rfl, hb2⟩
  have HB2 : Hid (Below w.heap.size w w2) := below_all HB1.out hb2
  clear hb2
  go_wp2_with fail
  have b3 : Hid (Below w2.heap.size w2 (w2.alloc (.cells #[.int .i64 n0, .int .i64 n1, .int .i64 n2, .int .i64 n3, .int .i64 n4, .int .i64 n5] 25))) := (Below.refl _ _).alloc (Nat.le_refl _) _
  have HB2b : Hid (Below w.heap.size w (w2.alloc (.cells #[.int .i64 n0, .int .i64 n1, .int .i64 n2, .int .i64 n3, .int .i64 n4, .int .i64 n5] 25))) := below_all HB2.out b3.out
  refine (H2.out _).mono ?_
  rintro e w3 ⟨rfl, hb3⟩
  have R3 : Hid (Six w3 w2.heap.size (fun j => [n0, n1, n2, n3, n4, n5].getD j 0)) := (six_of w2 n0 n1 n2 n3 n4 n5 25).below hb3
  have HB3 : Hid (Below w.heap.size w w3) := below_all HB2b.out hb3
  clear hb3 b3 HB2b
  have hpb : Hid (w.heap.size ≤ w2.heap.size) := HB2.out.size
  have hpv : Hid (w2.heap.size < w3.heap.size) := block_lt (R3.out.c 0 (by omega))
  clear HB2
  generalize w2.heap.size = pb at *
  have R4 : Hid (Six (w3.alloc (.cells #[.int .i64 n0, .int .i64 n1, .int .i64 n2, .int .i64 n3, .int .i64 n4, .int .i64 n5] 25)) pb (fun j => [n0, n1, n2, n3, n4, n5].getD j 0)) := R3.out.below ((Below.refl _ _).alloc (Nat.le_refl _) _)
  have V4 : Hid (Six (w3.alloc (.cells #[.int .i64 n0, .int .i64 n1, .int .i64 n2, .int .i64 n3, .int .i64 n4, .int .i64 n5] 25)) w3.heap.size (fun j => [n0, n1, n2, n3, n4, n5].getD j 0)) := six_of w3 n0 n1 n2 n3 n4 n5 25
  have HB4 : Hid (Below w.heap.size w (w3.alloc (.cells #[.int .i64 n0, .int .i64 n1, .int .i64 n2, .int .i64 n3, .int .i64 n4, .int .i64 n5] 25))) := below_all HB3.out ((Below.refl _ _).alloc (Nat.le_refl _) _)
  go_wp2_with fail
  generalize w3.alloc (.cells #[.int .i64 n0, .int .i64 n1, .int .i64 n2, .int .i64 n3, .int .i64 n4, .int .i64 n5] 25) = W4 at *
  generalize w3.heap.size = vb at *
  refine (H5.out _ (HE.out.e.s.below HB4.out)).mono ?_
  rintro e w5 ⟨rfl, hb5⟩
  have R5 : Hid (Six w5 pb (fun j => [n0, n1, n2, n3, n4, n5].getD j 0)) := R4.out.below hb5
  have V5 : Hid (Six w5 vb (fun j => [n0, n1, n2, n3, n4, n5].getD j 0)) := V4.out.below hb5
  have HB5 : Hid (Below w.heap.size w w5) := below_all HB4.out hb5
  clear hb5 R4 V4 HB4 R3 HB3
  have p0 : w5.cell? ⟨pb, 0, none⟩ = some (.int .i64 n0) := R5.out.c 0 (by omega)
  have p1 : w5.cell? ⟨pb, 1, none⟩ = some (.int .i64 n1) := R5.out.c 1 (by omega)
  have p2 : w5.cell? ⟨pb, 2, none⟩ = some (.int .i64 n2) := R5.out.c 2 (by omega)
  have p3 : w5.cell? ⟨pb, 3, none⟩ = some (.int .i64 n3) := R5.out.c 3 (by omega)
  have p4 : w5.cell? ⟨pb, 4, none⟩ = some (.int .i64 n4) := R5.out.c 4 (by omega)
  have p5 : w5.cell? ⟨pb, 5, none⟩ = some (.int .i64 n5) := R5.out.c 5 (by omega)
  have v0 : w5.cell? ⟨vb, 0, none⟩ = some (.int .i64 n0) := V5.out.c 0 (by omega)
  have v1 : w5.cell? ⟨vb, 1, none⟩ = some (.int .i64 n1) := V5.out.c 1 (by omega)
  have v2 : w5.cell? ⟨vb, 2, none⟩ = some (.int .i64 n2) := V5.out.c 2 (by omega)
  have v3 : w5.cell? ⟨vb, 3, none⟩ = some (.int .i64 n3) := V5.out.c 3 (by omega)
  have v4 : w5.cell? ⟨vb, 4, none⟩ = some (.int .i64 n4) := V5.out.c 4 (by omega)
  have v5 : w5.cell? ⟨vb, 5, none⟩ = some (.int .i64 n5) := V5.out.c 5 (by omega)
  have neq := H3.out
  go_wp2_with fail
  clear p0 p1 p2 p3 p4 p5 v0 v1 v2 v3 v4 v5 neq
  refine (readL_none t HT.out s _ (HE.out.below HB5.out) H4.out).mono ?_
  rintro e w6 ⟨rfl, hb6⟩
  have R6 : Hid (Six w6 pb (fun j => [n0, n1, n2, n3, n4, n5].getD j 0)) := R5.out.below hb6
  have V6 : Hid (Six w6 vb (fun j => [n0, n1, n2, n3, n4, n5].getD j 0)) := V5.out.below hb6
  have HB6 : Hid (Below w.heap.size w w6) := below_all HB5.out hb6
  clear hb6 R5 V5
  have p0 : w6.cell? ⟨pb, 0, none⟩ = some (.int .i64 n0) := R6.out.c 0 (by omega)
  have p1 : w6.cell? ⟨pb, 1, none⟩ = some (.int .i64 n1) := R6.out.c 1 (by omega)
  have p2 : w6.cell? ⟨pb, 2, none⟩ = some (.int .i64 n2) := R6.out.c 2 (by omega)
  have p3 : w6.cell? ⟨pb, 3, none⟩ = some (.int .i64 n3) := R6.out.c 3 (by omega)
  have p4 : w6.cell? ⟨pb, 4, none⟩ = some (.int .i64 n4) := R6.out.c 4 (by omega)
  have p5 : w6.cell? ⟨pb, 5, none⟩ = some (.int .i64 n5) := R6.out.c 5 (by omega)
  have pf0 := R6.out.cf 0 (by omega)
  have pf1 := R6.out.cf 1 (by omega)
  have pf2 := R6.out.cf 2 (by omega)
  have pf3 := R6.out.cf 3 (by omega)
  have pf4 := R6.out.cf 4 (by omega)
  have pf5 := R6.out.cf 5 (by omega)
  rw [errV_pos]
  go_wp2_with fail
  have R7 : Hid (Six ((((((w6.setCell ⟨pb, 0, none⟩ (.int .i64 0)).setCell ⟨pb, 1, none⟩ (.int .i64 0)).setCell ⟨pb, 2, none⟩ (.int .i64 0)).setCell ⟨pb, 3, none⟩ (.int .i64 0)).setCell ⟨pb, 4, none⟩ (.int .i64 0)).setCell ⟨pb, 5, none⟩ (.int .i64 0)) pb (fun j => [(0 : Int), 0, 0, 0, 0, 0].getD j 0)) := six_put R6.out 0 0 0 0 0 0
  have V7 : Hid (Six ((((((w6.setCell ⟨pb, 0, none⟩ (.int .i64 0)).setCell ⟨pb, 1, none⟩ (.int .i64 0)).setCell ⟨pb, 2, none⟩ (.int .i64 0)).setCell ⟨pb, 3, none⟩ (.int .i64 0)).setCell ⟨pb, 4, none⟩ (.int .i64 0)).setCell ⟨pb, 5, none⟩ (.int .i64 0)) vb (fun j => [n0, n1, n2, n3, n4, n5].getD j 0)) := six_put_other V6.out (by have := hpv.out; omega) 0 0 0 0 0 0
  have HB7 : Hid (Below w.heap.size w ((((((w6.setCell ⟨pb, 0, none⟩ (.int .i64 0)).setCell ⟨pb, 1, none⟩ (.int .i64 0)).setCell ⟨pb, 2, none⟩ (.int .i64 0)).setCell ⟨pb, 3, none⟩ (.int .i64 0)).setCell ⟨pb, 4, none⟩ (.int .i64 0)).setCell ⟨pb, 5, none⟩ (.int .i64 0))) := below_put HB6.out hpb.out 0 0 0 0 0 0
  clear p0 p1 p2 p3 p4 p5 pf0 pf1 pf2 pf3 pf4 pf5 R6 V6
  generalize ((((((w6.setCell ⟨pb, 0, none⟩ (.int .i64 0)).setCell ⟨pb, 1, none⟩ (.int .i64 0)).setCell ⟨pb, 2, none⟩ (.int .i64 0)).setCell ⟨pb, 3, none⟩ (.int .i64 0)).setCell ⟨pb, 4, none⟩ (.int .i64 0)).setCell ⟨pb, 5, none⟩ (.int .i64 0)) = W7 at *
  have hP := pread_any t HT.out W7
  rw [H4.out] at hP
  refine hP.mono ?_
  clear hP
  rintro e w8 ⟨rfl, hb8⟩
  have R8 : Hid (Six w8 pb (fun j => [(0 : Int), 0, 0, 0, 0, 0].getD j 0)) := R7.out.below hb8
  have V8 : Hid (Six w8 vb (fun j => [n0, n1, n2, n3, n4, n5].getD j 0)) := V7.out.below hb8
  have HB8 : Hid (Below w.heap.size w w8) := below_all HB7.out hb8
  clear hb8 R7 V7
  have v0 : w8.cell? ⟨vb, 0, none⟩ = some (.int .i64 n0) := V8.out.c 0 (by omega)
  have v1 : w8.cell? ⟨vb, 1, none⟩ = some (.int .i64 n1) := V8.out.c 1 (by omega)
  have v2 : w8.cell? ⟨vb, 2, none⟩ = some (.int .i64 n2) := V8.out.c 2 (by omega)
  have v3 : w8.cell? ⟨vb, 3, none⟩ = some (.int .i64 n3) := V8.out.c 3 (by omega)
  have v4 : w8.cell? ⟨vb, 4, none⟩ = some (.int .i64 n4) := V8.out.c 4 (by omega)
  have v5 : w8.cell? ⟨vb, 5, none⟩ = some (.int .i64 n5) := V8.out.c 5 (by omega)
  have vf0 := V8.out.cf 0 (by omega)
  have vf1 := V8.out.cf 1 (by omega)
  have vf2 := V8.out.cf 2 (by omega)
  have vf3 := V8.out.cf 3 (by omega)
  have vf4 := V8.out.cf 4 (by omega)
  have vf5 := V8.out.cf 5 (by omega)
  show _
  simp only [pktO, Option.isSome]
  go_wp2_with fail
  have R9 : Hid (Six ((((((w8.setCell ⟨vb, 0, none⟩ (.int .i64 0)).setCell ⟨vb, 1, none⟩ (.int .i64 0)).setCell ⟨vb, 2, none⟩ (.int .i64 0)).setCell ⟨vb, 3, none⟩ (.int .i64 0)).setCell ⟨vb, 4, none⟩ (.int .i64 0)).setCell ⟨vb, 5, none⟩ (.int .i64 0)) pb (fun j => [(0 : Int), 0, 0, 0, 0, 0].getD j 0)) := six_put_other R8.out (by have := hpv.out; omega) 0 0 0 0 0 0
  have HB9 : Hid (Below w.heap.size w ((((((w8.setCell ⟨vb, 0, none⟩ (.int .i64 0)).setCell ⟨vb, 1, none⟩ (.int .i64 0)).setCell ⟨vb, 2, none⟩ (.int .i64 0)).setCell ⟨vb, 3, none⟩ (.int .i64 0)).setCell ⟨vb, 4, none⟩ (.int .i64 0)).setCell ⟨vb, 5, none⟩ (.int .i64 0))) := below_put HB8.out (by have := hpv.out; have := hpb.out; omega) 0 0 0 0 0 0
  clear v0 v1 v2 v3 v4 v5 vf0 vf1 vf2 vf3 vf4 vf5 V8
  generalize ((((((w8.setCell ⟨vb, 0, none⟩ (.int .i64 0)).setCell ⟨vb, 1, none⟩ (.int .i64 0)).setCell ⟨vb, 2, none⟩ (.int .i64 0)).setCell ⟨vb, 3, none⟩ (.int .i64 0)).setCell ⟨vb, 4, none⟩ (.int .i64 0)).setCell ⟨vb, 5, none⟩ (.int .i64 0)) = W9 at *
  refine (coded_sent 0 (by omega) 1 s _ (HE.out.e.s.below HB9.out)).mono ?_
  rintro e w10 ⟨rfl, hb10⟩
  have R10 : Hid (Six w10 pb (fun j => [(0 : Int), 0, 0, 0, 0, 0].getD j 0)) := R9.out.below hb10
  have HB10 : Hid (Below w.heap.size w w10) := below_all HB9.out hb10
  clear hb10 R9
  have p0 : w10.cell? ⟨pb, 0, none⟩ = some (.int .i64 0) := R10.out.c 0 (by omega)
  have p1 : w10.cell? ⟨pb, 1, none⟩ = some (.int .i64 0) := R10.out.c 1 (by omega)
  have p2 : w10.cell? ⟨pb, 2, none⟩ = some (.int .i64 0) := R10.out.c 2 (by omega)
  have p3 : w10.cell? ⟨pb, 3, none⟩ = some (.int .i64 0) := R10.out.c 3 (by omega)
  have p4 : w10.cell? ⟨pb, 4, none⟩ = some (.int .i64 0) := R10.out.c 4 (by omega)
  have p5 : w10.cell? ⟨pb, 5, none⟩ = some (.int .i64 0) := R10.out.c 5 (by omega)
  have eq := eql_zero
  go_wp2_with fail
  go_ret
  exact ⟨rfl, HB10.out⟩
end Go.Proofs.YtlogpnanfamjeaaGreatDoor
