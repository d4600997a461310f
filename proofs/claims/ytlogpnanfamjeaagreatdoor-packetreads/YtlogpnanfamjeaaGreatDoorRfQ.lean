/-
  The document's answer: PacketOf.
-/
import Derived.Test.YtlogpnanfamjeaaGreatDoorRfO
import Derived.Test.YtlogpnanfamjeaaGreatDoorRfE
namespace Go.Proofs.YtlogpnanfamjeaaGreatDoor
open Go.RowKit

theorem pof_len (x : ByteArray) (hx : x.size ≠ 14) (w : World) :
    Calls Tryz.prog 15 #[.string x] w fun e w' => e = .returned (.tuple #[pkt 0 0 0 0 0 0, .int .i64 1]) ∧ Below w.heap.size w w' := by
  have hn : ((x.size : Int) != 14) = true := by rw [bne_iff_ne]; omega
  go_enter Tryz.func15, Tryz.ntmps15
  go_wp2_with fail
  exact bodyPost_ret (v := .tuple #[pkt 0 0 0 0 0 0, .int .i64 1]) (by simp [results, Tryz.results15, go_sem]) rfl ⟨rfl, by
    repeat (first | exact Below.refl _ _ | refine Below.drew ?_ | refine Below.alloc ?_ (Nat.le_refl _) _ | refine Below.setCell ?_ (by exact Nat.le_refl _) _)⟩
set_option maxRecDepth 100000 in
set_option maxHeartbeats 4000000 in
theorem pof_core (x : ByteArray) (hx : x.size = 14) (k0 k1 k2 k3 k4 k5 : Nat) (hk : numsTo x 6 = [k0, k1, k2, k3, k4, k5]) (q : Nat) (hq : pkErr k0 k1 k2 k3 k4 k5 = q) (r : Value) (hr : (q = 0 ∧ r = pkt k0 k1 k2 k3 k4 k5) ∨ (0 < q ∧ r = pkt 0 0 0 0 0 0)) (w : World) :
    Calls Tryz.prog 15 #[.string x] w fun e w' => e = .returned (.tuple #[r, .int .i64 q]) ∧ Below w.heap.size w w' := by
  have hn : ((x.size : Int) != 14) = false := by rw [bne_eq_false_iff_eq]; omega
  have HX : Hid (x.size = 14) := hx
  have HQ : Hid (pkErr k0 k1 k2 k3 k4 k5 = q) := hq
  have HK : Hid (numsTo x 6 = [k0, k1, k2, k3, k4, k5]) := hk
  have HRV : Hid ((q = 0 ∧ r = pkt k0 k1 k2 k3 k4 k5) ∨ (0 < q ∧ r = pkt 0 0 0 0 0 0)) := hr
  clear hx hq hk hr
  have HS : Hid (∀ j, j < 6 → ((w.alloc (.cells #[.int .i64 0, .int .i64 0, .int .i64 0, .int .i64 0, .int .i64 0, .int .i64 0] 25)).alloc (.cells #[.int .i64 1, .int .i64 5, .int .i64 7, .int .i64 11, .int .i64 13, .int .i64 14] 3)).cell? ⟨w.heap.size + 1, j, none⟩ = some (intV (eL (j + 1)))) := by
    intro j hj
    rw [World.cell?_alloc_at _ _ _ _ (by simp)]
    match j, hj with
    | 0, _ | 1, _ | 2, _ | 3, _ | 4, _ | 5, _ => rfl
  have H0 : Hid (Six ((w.alloc (.cells #[.int .i64 0, .int .i64 0, .int .i64 0, .int .i64 0, .int .i64 0, .int .i64 0] 25)).alloc (.cells #[.int .i64 1, .int .i64 5, .int .i64 7, .int .i64 11, .int .i64 13, .int .i64 14] 3)) w.heap.size (fun _ => 0)) := (six_new w 25).below ((Below.refl _ _).alloc (Nat.le_refl _) _)
  have HB0 : Hid (Below w.heap.size w ((w.alloc (.cells #[.int .i64 0, .int .i64 0, .int .i64 0, .int .i64 0, .int .i64 0, .int .i64 0] 25)).alloc (.cells #[.int .i64 1, .int .i64 5, .int .i64 7, .int .i64 11, .int .i64 13, .int .i64 14] 3))) := below_all ((Below.refl _ _).alloc (Nat.le_refl _) _) ((Below.refl _ _).alloc (Nat.le_refl _) _)
  go_enter Tryz.func15, Tryz.ntmps15
  go_wp2_with fail
  generalize (w.alloc (.cells #[.int .i64 0, .int .i64 0, .int .i64 0, .int .i64 0, .int .i64 0, .int .i64 0] 25)).alloc (.cells #[.int .i64 1, .int .i64 5, .int .i64 7, .int .i64 11, .int .i64 13, .int .i64 14] 3) = w0 at *
  refine (numbers_any x HX.out _ _ HS.out).mono ?_
  rw [HK.out]
  rintro e w1 ⟨⟨g, cap, rfl, hcell⟩, hb1⟩
  have HB1 : Hid (Below w.heap.size w w1) := below_all HB0.out hb1
  have R1 : Hid (Six w1 w.heap.size (fun _ => 0)) := H0.out.below hb1
  have c0 : w1.cell? ⟨g, 0, none⟩ = some (.int .i64 k0) := hcell 0 _ rfl
  have c1 : w1.cell? ⟨g, 1, none⟩ = some (.int .i64 k1) := hcell 1 _ rfl
  have c2 : w1.cell? ⟨g, 2, none⟩ = some (.int .i64 k2) := hcell 2 _ rfl
  have c3 : w1.cell? ⟨g, 3, none⟩ = some (.int .i64 k3) := hcell 3 _ rfl
  have c4 : w1.cell? ⟨g, 4, none⟩ = some (.int .i64 k4) := hcell 4 _ rfl
  have c5 : w1.cell? ⟨g, 5, none⟩ = some (.int .i64 k5) := hcell 5 _ rfl
  clear hb1 hcell HS H0 HB0 HX
  go_wp2_with fail
  go_region_held3 (fun w' => w'.cell? ⟨g, 0, none⟩ = some (.int .i64 k0) ∧ w'.cell? ⟨g, 1, none⟩ = some (.int .i64 k1) ∧ w'.cell? ⟨g, 2, none⟩ = some (.int .i64 k2) ∧ w'.cell? ⟨g, 3, none⟩ = some (.int .i64 k3) ∧ w'.cell? ⟨g, 4, none⟩ = some (.int .i64 k4) ∧ w'.cell? ⟨g, 5, none⟩ = some (.int .i64 k5)) (go_keep) (fail)
  all_goals go_wp2_with fail
  have R2 : Hid (Six (w1.alloc (.cells #[.int .i64 k0, .int .i64 k1, .int .i64 k2, .int .i64 k3, .int .i64 k4, .int .i64 k5] 25)).drew w.heap.size (fun _ => 0)) := R1.out.below ((Below.refl _ _).alloc (Nat.le_refl _) _).drew
  have HB2 : Hid (Below w.heap.size w (w1.alloc (.cells #[.int .i64 k0, .int .i64 k1, .int .i64 k2, .int .i64 k3, .int .i64 k4, .int .i64 k5] 25)).drew) := below_all HB1.out ((Below.refl _ _).alloc (Nat.le_refl _) _).drew
  have P2 : Hid (Pk (w1.alloc (.cells #[.int .i64 k0, .int .i64 k1, .int .i64 k2, .int .i64 k3, .int .i64 k4, .int .i64 k5] 25)).drew w1.heap.size k0 k1 k2 k3 k4 k5) := by
    obtain ⟨c0, c1, c2, c3, c4, c5⟩ := box6 (w := w1) (v0 := .int .i64 k0) (v1 := .int .i64 k1) (v2 := .int .i64 k2) (v3 := .int .i64 k3) (v4 := .int .i64 k4) (v5 := .int .i64 k5) (t := 25) (Below.refl _ _).drew
    exact ⟨c0, c1, c2, c3, c4, c5⟩
  have hlt : w.heap.size < w1.heap.size := block_lt (R1.out.c 0 (by omega))
  clear R1 c0 c1 c2 c3 c4 c5
  generalize (w1.alloc (.cells #[.int .i64 k0, .int .i64 k1, .int .i64 k2, .int .i64 k3, .int .i64 k4, .int .i64 k5] 25)).drew = W at *
  generalize w1.heap.size = b2 at *
  refine (perr_any k0 k1 k2 k3 k4 k5 _).mono ?_
  rw [HQ.out]
  rintro e w2 ⟨rfl, hb2⟩
  have HB3 : Hid (Below w.heap.size w w2) := below_all HB2.out hb2
  have R3 : Six w2 w.heap.size (fun _ => 0) := R2.out.below hb2
  have P3 : Pk w2 b2 k0 k1 k2 k3 k4 k5 := P2.out.below hb2
  have r0 := R3.c 0 (by omega)
  have r1 := R3.c 1 (by omega)
  have r2 := R3.c 2 (by omega)
  have r3 := R3.c 3 (by omega)
  have r4 := R3.c 4 (by omega)
  have r5 := R3.c 5 (by omega)
  have f0 := R3.cf 0 (by omega)
  have f1 := R3.cf 1 (by omega)
  have f2 := R3.cf 2 (by omega)
  have f3 := R3.cf 3 (by omega)
  have f4 := R3.cf 4 (by omega)
  have f5 := R3.cf 5 (by omega)
  obtain ⟨p0, p1, p2, p3, p4, p5⟩ := P3
  clear hb2 R3
  rcases HRV.out with ⟨rfl, rfl⟩ | ⟨hpos, rfl⟩
  · go_wp2_with fail
    exact bodyPost_ret (v := .tuple #[pkt k0 k1 k2 k3 k4 k5, .int .i64 0]) (by simp [results, Tryz.results15, go_sem, r0, r1, r2, r3, r4, r5]) rfl ⟨rfl, by
      repeat (first | refine Below.setCell ?_ (by exact Nat.le_refl _) _ | refine Below.drew ?_ | exact HB3.out)⟩
  · have hpos2 : (0 : Int) < (q : Int) := by omega
    go_wp2_with fail
    exact bodyPost_ret (v := .tuple #[pkt 0 0 0 0 0 0, .int .i64 q]) (by simp [results, Tryz.results15, go_sem, r0, r1, r2, r3, r4, r5]) rfl ⟨rfl, by
      repeat (first | refine Below.setCell ?_ (by exact Nat.le_refl _) _ | refine Below.drew ?_ | exact HB3.out)⟩
theorem pof_any (x : ByteArray) (hx : x.size = 14) (q : Nat) (hq : pkErr (N x 0 1) (N x 1 4) (N x 5 2) (N x 7 4) (N x 11 2) (N x 13 1) = q) (w : World) :
    Calls Tryz.prog 15 #[.string x] w fun e w' => e = .returned (.tuple #[if q = 0 then pkt (N x 0 1) (N x 1 4) (N x 5 2) (N x 7 4) (N x 11 2) (N x 13 1) else pkt 0 0 0 0 0 0, .int .i64 q]) ∧ Below w.heap.size w w' :=
  pof_core x hx _ _ _ _ _ _ rfl q hq _ (by
    by_cases h : q = 0
    · exact Or.inl ⟨h, by rw [if_pos h]; rfl⟩
    · exact Or.inr ⟨by omega, by rw [if_neg h]⟩) w
end Go.Proofs.YtlogpnanfamjeaaGreatDoor
