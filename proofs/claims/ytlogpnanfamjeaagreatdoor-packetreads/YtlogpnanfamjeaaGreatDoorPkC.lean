/-
  Package packet's putter and Encode.
-/
import Derived.Test.YtlogpnanfamjeaaGreatDoorPkB
import Derived.Test.YtlogpnanfamjeaaGreatDoorPkP
namespace Go.Proofs.YtlogpnanfamjeaaGreatDoor
open Go.RowKit

theorem putter_any (p : Option Addr) (w : World) : Calls Tryz.prog 17 #[.pointer p] w fun e w' =>
    e = .returned (.func (.func 33) #[] #[.pointer (some ⟨w.heap.size, 0, none⟩), .pointer (some ⟨w.heap.size + 1, 0, none⟩)]) ∧ w' = (w.alloc (.cells #[.pointer p] 46)).alloc (.cells #[.int .i64 0] 3) := by
  go_enter Tryz.func17, Tryz.ntmps17
  go_wp2
  go_ret
  exact ⟨rfl, rfl⟩

theorem But2.cell {x y : Nat} {w w' : World} (h : But2 x y w w') {a : Addr} (h1 : a.block ≠ x) (h2 : a.block ≠ y) : w'.cell? a = w.cell? a := World.cell?_of_block (w := w) (h.2.1 a.block h1 h2)
theorem But2.below {x y B : Nat} {w w' : World} (h : But2 x y w w') (h1 : B ≤ x) (h2 : B ≤ y) : Below B w w' := ⟨h.2.2.1, h.2.2.2.1, h.2.2.2.2, by rw [h.1]; exact Nat.le_refl _, fun k hk => h.2.1 k (by omega) (by omega)⟩
theorem below_frozen {w w' : World} (h : Below w.heap.size w w') {a : Addr} {v : Value} (hc : w.cell? a = some v) : w'.frozen? a = w.frozen? a := h.frozen (p := a) (block_lt hc)
theorem Buf.below {w w' : World} {arr pb pat k : Nat} {f : Nat → Int} (B : Buf w arr pb pat f k) (h : Below w.heap.size w w') : Buf w' arr pb pat f k where
  b := below_keeps h B.b
  at' := below_keeps h B.at'
  atf := by rw [below_frozen h B.at']; exact B.atf
  c := fun j hj => below_keeps h (B.c j hj)
  cf := fun j hj => by rw [below_frozen h (B.c j hj)]; exact B.cf j hj
  n1 := B.n1
  n2 := B.n2
  n3 := B.n3

/-- a packet's six cells. -/
structure Pk (w : World) (b : Nat) (pr a1 p1 a2 p2 fl : Int) : Prop where
  c0 : w.cell? ⟨b, 0, none⟩ = some (.int .i64 pr)
  c1 : w.cell? ⟨b, 1, none⟩ = some (.int .i64 a1)
  c2 : w.cell? ⟨b, 2, none⟩ = some (.int .i64 p1)
  c3 : w.cell? ⟨b, 3, none⟩ = some (.int .i64 a2)
  c4 : w.cell? ⟨b, 4, none⟩ = some (.int .i64 p2)
  c5 : w.cell? ⟨b, 5, none⟩ = some (.int .i64 fl)
theorem Pk.below {w w' : World} {b : Nat} {pr a1 p1 a2 p2 fl : Int} (k : Pk w b pr a1 p1 a2 p2 fl) (h : Below w.heap.size w w') : Pk w' b pr a1 p1 a2 p2 fl :=
  ⟨below_keeps h k.c0, below_keeps h k.c1, below_keeps h k.c2, below_keeps h k.c3, below_keeps h k.c4, below_keeps h k.c5⟩
theorem Pk.but2 {w w' : World} {b x y : Nat} {pr a1 p1 a2 p2 fl : Int} (k : Pk w b pr a1 p1 a2 p2 fl) (h : But2 x y w w') (h1 : b ≠ x) (h2 : b ≠ y) : Pk w' b pr a1 p1 a2 p2 fl :=
  ⟨(h.cell h1 h2).trans k.c0, (h.cell h1 h2).trans k.c1, (h.cell h1 h2).trans k.c2, (h.cell h1 h2).trans k.c3, (h.cell h1 h2).trans k.c4, (h.cell h1 h2).trans k.c5⟩
theorem buf_new (w : World) : Buf (((w.alloc (.cells #[.int .u8 0, .int .u8 0, .int .u8 0, .int .u8 0, .int .u8 0, .int .u8 0, .int .u8 0, .int .u8 0, .int .u8 0, .int .u8 0, .int .u8 0, .int .u8 0, .int .u8 0, .int .u8 0] 43)).alloc (.cells #[.pointer (some ⟨w.heap.size, 0, none⟩)] 46)).alloc (.cells #[.int .i64 0] 3)) w.heap.size (w.heap.size + 1) (w.heap.size + 1 + 1) (fun _ => 0) 0 where
  b := by rw [World.cell?_alloc_lt _ _ ⟨w.heap.size + 1, 0, none⟩ (by simp), World.cell?_alloc_at _ _ _ _ (by simp)]; rfl
  at' := by rw [World.cell?_alloc_at _ _ _ _ (by simp)]; rfl
  atf := by rw [World.frozen?_alloc_at _ _ _ _ (by simp)]
  c := fun j hj => by
    rw [World.cell?_alloc_lt _ _ ⟨w.heap.size, j, none⟩ (by simp; omega), World.cell?_alloc_lt _ _ ⟨w.heap.size, j, none⟩ (by simp), World.cell?_alloc_at _ _ _ _ rfl]
    match j, hj with
    | 0, _ | 1, _ | 2, _ | 3, _ | 4, _ | 5, _ | 6, _ | 7, _ | 8, _ | 9, _ | 10, _ | 11, _ | 12, _ | 13, _ => rfl
    | n + 14, h => exact absurd h (by omega)
  cf := fun j hj => by
    rw [World.frozen?_alloc_old _ _ ⟨w.heap.size, j, none⟩ (by simp; omega), World.frozen?_alloc_old _ _ ⟨w.heap.size, j, none⟩ (by simp), World.frozen?_alloc_at _ _ _ _ rfl]
  n1 := by omega
  n2 := by omega
  n3 := by omega

/-- the fourteen bytes of a packet, as numbers. -/
def pkN (pr a1 p1 a2 p2 fl : Int) : List Int := [pr % 256, a1 / 16777216 % 256, a1 / 65536 % 256, a1 / 256 % 256, a1 % 256, p1 / 256 % 256, p1 % 256, a2 / 16777216 % 256, a2 / 65536 % 256, a2 / 256 % 256, a2 % 256, p2 / 256 % 256, p2 % 256, fl % 256]
theorem pkN_at (pr a1 p1 a2 p2 fl : Int) (j : Nat) (h : j < 14) : putM (putM (putM (putM (putM (putM (fun _ => 0) 0 1 1 pr) 1 4 4 a1) 5 2 2 p1) 7 4 4 a2) 11 2 2 p2) 13 1 1 fl j = (pkN pr a1 p1 a2 p2 fl).getD j 0 := by
  match j, h with
  | 0, _ | 1, _ | 2, _ | 3, _ | 4, _ | 5, _ | 6, _ | 7, _ | 8, _ | 9, _ | 10, _ | 11, _ | 12, _ | 13, _ => simp [putM, pkN]
  | n + 14, h => exact absurd h (by omega)
def pkS (pr a1 p1 a2 p2 fl : Int) : ByteArray := strOfNums (pkN pr a1 p1 a2 p2 fl)

set_option maxRecDepth 100000 in
set_option maxHeartbeats 4000000 in
theorem encode_ok (pr a1 p1 a2 p2 fl : Int) (s : Nat → Addr) (w : World) (S : Sents w s) (h1 : (pr = 1 ∧ fl = 0) ∨ pr = 2) (h2 : okEnd a1 p1) (h3 : okEnd a2 p2) (h4 : 0 ≤ fl) (h5 : fl ≤ 15) :
    Calls Tryz.prog 6 #[pkt pr a1 p1 a2 p2 fl] w fun e w' => e = .returned (.tuple #[.string (pkS pr a1 p1 a2 p2 fl), .nilIface]) ∧ Below w.heap.size w w' := by
  have hS : Hid (Sents w s) := S
  have H1 : Hid ((pr = 1 ∧ fl = 0) ∨ pr = 2) := h1
  have H2 : Hid (okEnd a1 p1) := h2
  have H3 : Hid (okEnd a2 p2) := h3
  have H4 : Hid (0 ≤ fl) := h4
  have H5 : Hid (fl ≤ 15) := h5
  clear S h1 h2 h3 h4 h5
  go_enter Tryz.func6, Tryz.ntmps6
  go_wp2_with fail
  refine (check_ok _ _ _ _ _ _ s _ (hS.out.below ((Below.refl _ _).alloc (Nat.le_refl _) _)) H1.out H2.out H3.out H4.out H5.out).mono ?_
  rintro e w1 ⟨rfl, hb⟩
  have HK : Hid (Pk w1 w.heap.size pr a1 p1 a2 p2 fl) := by
    obtain ⟨c0, c1, c2, c3, c4, c5⟩ := box6 hb
    exact ⟨c0, c1, c2, c3, c4, c5⟩
  have HB : Hid (Below w.heap.size w w1) := ((Below.refl _ _).alloc (Nat.le_refl _) _).trans (hb.mono (by simp))
  have q0 : w.heap.size < w1.heap.size := by have := hb.size; simp at this; omega
  clear hb
  unfold errV
  go_wp2_with fail
  refine (putter_any _ _).mono ?_
  rintro e w2 ⟨rfl, hw2⟩
  have B2 : Hid (Buf w2 w1.heap.size (w1.heap.size + 1) (w1.heap.size + 1 + 1) (fun _ => 0) 0) := by
    have := buf_new w1
    rw [hw2]; exact this
  have HB2 : Hid (Below w1.heap.size w1 w2) := by rw [hw2]; exact (((Below.refl _ _).alloc (Nat.le_refl _) _).alloc (by simp) _).alloc (by simp; omega) _
  have z2 : Hid (w2.heap.size = w1.heap.size + 1 + 1 + 1) := by show _ = _; rw [hw2]; simp
  have K2 : Hid (Pk w2 w.heap.size pr a1 p1 a2 p2 fl) := HK.out.below HB2.out
  clear hw2
  have k0 := K2.out.c0
  simp only [World.size_alloc]
  go_wp2_with fail
  refine (put_any 1 _ 0 (by omega) (by omega) (by have := H1.out; omega) _ _ _ _ _ B2.out).mono ?_
  rintro e w3 ⟨rfl, hB3, hb3⟩
  have B3 : Hid (Buf w3 w1.heap.size (w1.heap.size + 1) (w1.heap.size + 1 + 1) (putM (fun _ => 0) 0 1 1 pr) 1) := hB3
  have K3 : Hid (Pk w3 w.heap.size pr a1 p1 a2 p2 fl) := K2.out.but2 hb3 (by omega) (by omega)
  have HB3 : Hid (Below w1.heap.size w1 w3) := HB2.out.trans (hb3.below (by omega) (by omega))
  clear hB3 hb3 k0
  go_wp2_with fail
  refine (ends_any _ _ _).mono ?_
  rintro e w4 ⟨rfl, hb4⟩
  have B4 : Hid (Buf w4 w1.heap.size (w1.heap.size + 1) (w1.heap.size + 1 + 1) (putM (fun _ => 0) 0 1 1 pr) 1) := B3.out.below hb4
  have K4 : Hid (Pk w4 w.heap.size pr a1 p1 a2 p2 fl) := K3.out.below hb4
  have HB4 : Hid (Below w1.heap.size w1 w4) := HB3.out.trans (hb4.mono (by have := HB3.out.size; omega))
  clear hb4
  have i0 := Tryz.idx0
  have i1 := Tryz.idx1
  go_wp2_with fail
  refine wp_loop_rounds 3 ?_
  rw [rounds_succ]
  have k4 := K4.out.c1
  go_wp2_with fail
  refine (put_any 4 _ 1 (by omega) (by omega) (by have := H2.out.1; omega) _ _ _ _ _ B4.out).mono ?_
  rintro e w5 ⟨rfl, hB5, hb5⟩
  have B5 : Hid (Buf w5 w1.heap.size (w1.heap.size + 1) (w1.heap.size + 1 + 1) (putM (putM (fun _ => 0) 0 1 1 pr) 1 4 4 a1) 5) := hB5
  have K5 : Hid (Pk w5 w.heap.size pr a1 p1 a2 p2 fl) := K4.out.but2 hb5 (by omega) (by omega)
  have HB5 : Hid (Below w1.heap.size w1 w5) := HB4.out.trans (hb5.below (by omega) (by omega))
  clear hB5 hb5 k4
  have k5 := K5.out.c2
  go_wp2_with fail
  refine (put_any 2 _ 5 (by omega) (by omega) (by have := H2.out.2.2.1; omega) _ _ _ _ _ B5.out).mono ?_
  rintro e w6 ⟨rfl, hB6, hb6⟩
  have B6 : Hid (Buf w6 w1.heap.size (w1.heap.size + 1) (w1.heap.size + 1 + 1) (putM (putM (putM (fun _ => 0) 0 1 1 pr) 1 4 4 a1) 5 2 2 p1) 7) := hB6
  have K6 : Hid (Pk w6 w.heap.size pr a1 p1 a2 p2 fl) := K5.out.but2 hb6 (by omega) (by omega)
  have HB6 : Hid (Below w1.heap.size w1 w6) := HB5.out.trans (hb6.below (by omega) (by omega))
  clear hB6 hb6 k5
  have k6 := K6.out.c3
  go_wp2_with fail
  rw [rounds_succ]
  go_wp2_with fail
  refine (put_any 4 _ 7 (by omega) (by omega) (by have := H3.out.1; omega) _ _ _ _ _ B6.out).mono ?_
  rintro e w7 ⟨rfl, hB7, hb7⟩
  have B7 : Hid (Buf w7 w1.heap.size (w1.heap.size + 1) (w1.heap.size + 1 + 1) (putM (putM (putM (putM (fun _ => 0) 0 1 1 pr) 1 4 4 a1) 5 2 2 p1) 7 4 4 a2) 11) := hB7
  have K7 : Hid (Pk w7 w.heap.size pr a1 p1 a2 p2 fl) := K6.out.but2 hb7 (by omega) (by omega)
  have HB7 : Hid (Below w1.heap.size w1 w7) := HB6.out.trans (hb7.below (by omega) (by omega))
  clear hB7 hb7 k6
  have k7 := K7.out.c4
  go_wp2_with fail
  refine (put_any 2 _ 11 (by omega) (by omega) (by have := H3.out.2.2.1; omega) _ _ _ _ _ B7.out).mono ?_
  rintro e w8 ⟨rfl, hB8, hb8⟩
  have B8 : Hid (Buf w8 w1.heap.size (w1.heap.size + 1) (w1.heap.size + 1 + 1) (putM (putM (putM (putM (putM (fun _ => 0) 0 1 1 pr) 1 4 4 a1) 5 2 2 p1) 7 4 4 a2) 11 2 2 p2) 13) := hB8
  have K8 : Hid (Pk w8 w.heap.size pr a1 p1 a2 p2 fl) := K7.out.but2 hb8 (by omega) (by omega)
  have HB8 : Hid (Below w1.heap.size w1 w8) := HB7.out.trans (hb8.below (by omega) (by omega))
  clear hB8 hb8 k7
  have k8 := K8.out.c5
  go_wp2_with fail
  rw [rounds_succ]
  go_wp2_with fail
  refine (put_any 1 _ 13 (by omega) (by omega) H4.out _ _ _ _ _ B8.out).mono ?_
  rintro e w9 ⟨rfl, hB9, hb9⟩
  have HB9 : Hid (Below w1.heap.size w1 w9) := HB8.out.trans (hb9.below (by omega) (by omega))
  have B9 : Hid (Buf w9 w1.heap.size (w1.heap.size + 1) (w1.heap.size + 1 + 1) (putM (putM (putM (putM (putM (putM (fun _ => 0) 0 1 1 pr) 1 4 4 a1) 5 2 2 p1) 7 4 4 a2) 11 2 2 p2) 13 1 1 fl) 14) := hB9
  clear hB9 hb9 k8
  have hcv := run_convert_bytes_arg (P := Tryz.prog) w9 51 5 Tryz.underlying51 Tryz.underlying5 w1.heap.size 0 14 14 (pkN pr a1 p1 a2 p2 fl) rfl (fun i hi => by
    rw [Nat.zero_add, B9.out.c i hi, pkN_at pr a1 p1 a2 p2 fl i hi]) 9 Tryz.underlying9
  go_wp2_with fail
  go_ret2
  exact ⟨rfl, HB.out.trans (HB9.out.mono (by omega))⟩
set_option maxRecDepth 100000 in
set_option maxHeartbeats 1000000 in
/-- Encode of what Check refuses. -/
theorem encode_err (k : Nat) (pr a1 p1 a2 p2 fl : Int) (s : Nat → Addr) (w : World) (hC : ∀ w, Sents w s → Calls Tryz.prog 10 #[pkt pr a1 p1 a2 p2 fl] w fun e w' => e = .returned (errV s (k + 1)) ∧ Below w.heap.size w w') (S : Sents w s) :
    Calls Tryz.prog 6 #[pkt pr a1 p1 a2 p2 fl] w fun e w' => e = .returned (.tuple #[.string ⟨#[]⟩, errV s (k + 1)]) ∧ Below w.heap.size w w' := by
  have HC : Hid (∀ w, Sents w s → Calls Tryz.prog 10 #[pkt pr a1 p1 a2 p2 fl] w fun e w' => e = .returned (errV s (k + 1)) ∧ Below w.heap.size w w') := hC
  have hS : Hid (Sents w s) := S
  clear S hC
  unfold errV
  go_enter Tryz.func6, Tryz.ntmps6
  go_wp2_with fail
  refine (HC.out _ (hS.out.below ((Below.refl _ _).alloc (Nat.le_refl _) _))).mono ?_
  rintro e w1 ⟨rfl, hb⟩
  have HB : Hid (Below w.heap.size w w1) := ((Below.refl _ _).alloc (Nat.le_refl _) _).trans (hb.mono (by simp))
  clear hb
  unfold errV
  go_wp2_with fail
  go_ret2
  exact ⟨rfl, HB.out⟩
end Go.Proofs.YtlogpnanfamjeaaGreatDoor
