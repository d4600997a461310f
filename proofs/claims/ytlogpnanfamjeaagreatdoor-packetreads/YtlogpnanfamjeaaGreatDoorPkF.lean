/-
  Package packet's Decode of fourteen bytes.
-/
import Derived.Test.YtlogpnanfamjeaaGreatDoorPkD
namespace Go.Proofs.YtlogpnanfamjeaaGreatDoor
open Go.RowKit

set_option maxRecDepth 100000 in
set_option maxHeartbeats 4000000 in
theorem decode_any (x : ByteArray) (hx : x.size = 14) (s : Nat → Addr) (w : World) (S : Sents w s) (q : Nat) (hq : pkErr (N x 0 1) (N x 1 4) (N x 5 2) (N x 7 4) (N x 11 2) (N x 13 1) = q) :
    Calls Tryz.prog 11 #[.string x] w fun e w' => e = .returned (.tuple #[if q = 0 then pkt (N x 0 1) (N x 1 4) (N x 5 2) (N x 7 4) (N x 11 2) (N x 13 1) else pkt 0 0 0 0 0 0, errV s q]) ∧ Below w.heap.size w w' := by
  have hS : Hid (Sents w s) := S
  have HX : Hid (x.size = 14) := hx
  have HQ : Hid (pkErr (N x 0 1) (N x 1 4) (N x 5 2) (N x 7 4) (N x 11 2) (N x 13 1) = q) := hq
  have hn : ((x.size : Int) != 14) = false := by rw [hx]; rfl
  clear S hx hq
  go_enter Tryz.func11, Tryz.ntmps11
  go_wp2_with fail
  refine (taker_any _ _).mono ?_
  rintro e w0 ⟨rfl, hw0⟩
  have D0 : Hid (Dec w w0 x (fun _ => 0) 0) := by
    have := dec_new x w 25 25 _ _ rfl rfl
    rw [hw0]; exact this
  clear hw0 hn
  simp only [World.size_alloc]
  go_wp2_with fail
  refine (take_any 1 0 (by omega) x (by have := HX.out; omega) (by have := HX.out; omega) _ _ _ D0.out.s).mono ?_
  rintro e w1 ⟨rfl, hs0, hb0⟩
  have D0a : Hid (Dec w w1 x (fun _ => 0) 1) := D0.out.but2 hb0 hs0
  have c0 := D0a.out.p.c 0 (by omega)
  have cf0 := D0a.out.p.cf 0 (by omega)
  clear hs0 hb0
  go_wp2_with fail
  have D0b : Hid (Dec w (w1.setCell ⟨w.heap.size + 1, 0, none⟩ (.int .i64 (N x 0 1))) x (upd (fun _ => 0) 0 (N x 0 1)) 1) := D0a.out.set (by omega) _
  clear c0 cf0
  generalize w1.setCell ⟨w.heap.size + 1, 0, none⟩ (.int .i64 (N x 0 1)) = w2 at *
  refine (ends_any _ _ _).mono ?_
  rintro e w2e ⟨rfl, hbe⟩
  have D0e : Hid (Dec w w2e x (upd (fun _ => 0) 0 (N x 0 1)) 1) := D0b.out.below hbe
  clear hbe
  have i0 := Tryz.idx0
  have i1 := Tryz.idx1
  go_wp2_with fail
  refine wp_loop_rounds 3 ?_
  rw [rounds_succ]
  go_wp2_with fail
  refine (take_any 4 1 (by omega) x (by have := HX.out; omega) (by have := HX.out; omega) _ _ _ D0e.out.s).mono ?_
  rintro e w3 ⟨rfl, hs1, hb1⟩
  have D1a : Hid (Dec w w3 x (upd (fun _ => 0) 0 (N x 0 1)) 5) := D0e.out.but2 hb1 hs1
  have c1 := D1a.out.p.c 1 (by omega)
  have cf1 := D1a.out.p.cf 1 (by omega)
  clear hs1 hb1
  go_wp2_with fail
  have D1b : Hid (Dec w (w3.setCell ⟨w.heap.size + 1, 1, none⟩ (.int .i64 (N x 1 4))) x (upd (upd (fun _ => 0) 0 (N x 0 1)) 1 (N x 1 4)) 5) := D1a.out.set (by omega) _
  clear c1 cf1
  generalize w3.setCell ⟨w.heap.size + 1, 1, none⟩ (.int .i64 (N x 1 4)) = w4 at *
  refine (take_any 2 5 (by omega) x (by have := HX.out; omega) (by have := HX.out; omega) _ _ _ D1b.out.s).mono ?_
  rintro e w5 ⟨rfl, hs2, hb2⟩
  have D2a : Hid (Dec w w5 x (upd (upd (fun _ => 0) 0 (N x 0 1)) 1 (N x 1 4)) 7) := D1b.out.but2 hb2 hs2
  have c2 := D2a.out.p.c 2 (by omega)
  have cf2 := D2a.out.p.cf 2 (by omega)
  clear hs2 hb2
  go_wp2_with fail
  have D2b : Hid (Dec w (w5.setCell ⟨w.heap.size + 1, 2, none⟩ (.int .i64 (N x 5 2))) x (upd (upd (upd (fun _ => 0) 0 (N x 0 1)) 1 (N x 1 4)) 2 (N x 5 2)) 7) := D2a.out.set (by omega) _
  clear c2 cf2
  generalize w5.setCell ⟨w.heap.size + 1, 2, none⟩ (.int .i64 (N x 5 2)) = w6 at *
  rw [rounds_succ]
  go_wp2_with fail
  refine (take_any 4 7 (by omega) x (by have := HX.out; omega) (by have := HX.out; omega) _ _ _ D2b.out.s).mono ?_
  rintro e w7 ⟨rfl, hs3, hb3⟩
  have D3a : Hid (Dec w w7 x (upd (upd (upd (fun _ => 0) 0 (N x 0 1)) 1 (N x 1 4)) 2 (N x 5 2)) 11) := D2b.out.but2 hb3 hs3
  have c3 := D3a.out.p.c 3 (by omega)
  have cf3 := D3a.out.p.cf 3 (by omega)
  clear hs3 hb3
  go_wp2_with fail
  have D3b : Hid (Dec w (w7.setCell ⟨w.heap.size + 1, 3, none⟩ (.int .i64 (N x 7 4))) x (upd (upd (upd (upd (fun _ => 0) 0 (N x 0 1)) 1 (N x 1 4)) 2 (N x 5 2)) 3 (N x 7 4)) 11) := D3a.out.set (by omega) _
  clear c3 cf3
  generalize w7.setCell ⟨w.heap.size + 1, 3, none⟩ (.int .i64 (N x 7 4)) = w8 at *
  refine (take_any 2 11 (by omega) x (by have := HX.out; omega) (by have := HX.out; omega) _ _ _ D3b.out.s).mono ?_
  rintro e w9 ⟨rfl, hs4, hb4⟩
  have D4a : Hid (Dec w w9 x (upd (upd (upd (upd (fun _ => 0) 0 (N x 0 1)) 1 (N x 1 4)) 2 (N x 5 2)) 3 (N x 7 4)) 13) := D3b.out.but2 hb4 hs4
  have c4 := D4a.out.p.c 4 (by omega)
  have cf4 := D4a.out.p.cf 4 (by omega)
  clear hs4 hb4
  go_wp2_with fail
  have D4b : Hid (Dec w (w9.setCell ⟨w.heap.size + 1, 4, none⟩ (.int .i64 (N x 11 2))) x (upd (upd (upd (upd (upd (fun _ => 0) 0 (N x 0 1)) 1 (N x 1 4)) 2 (N x 5 2)) 3 (N x 7 4)) 4 (N x 11 2)) 13) := D4a.out.set (by omega) _
  clear c4 cf4
  generalize w9.setCell ⟨w.heap.size + 1, 4, none⟩ (.int .i64 (N x 11 2)) = w10 at *
  rw [rounds_succ]
  go_wp2_with fail
  refine (take_any 1 13 (by omega) x (by have := HX.out; omega) (by have := HX.out; omega) _ _ _ D4b.out.s).mono ?_
  rintro e w11 ⟨rfl, hs5, hb5⟩
  have D5a : Hid (Dec w w11 x (upd (upd (upd (upd (upd (fun _ => 0) 0 (N x 0 1)) 1 (N x 1 4)) 2 (N x 5 2)) 3 (N x 7 4)) 4 (N x 11 2)) 14) := D4b.out.but2 hb5 hs5
  have c5 := D5a.out.p.c 5 (by omega)
  have cf5 := D5a.out.p.cf 5 (by omega)
  clear hs5 hb5
  have e0 : w11.cell? ⟨w.heap.size + 1, 0, none⟩ = some (.int .i64 (N x 0 1)) := D5a.out.p.c 0 (by omega)
  have e1 : w11.cell? ⟨w.heap.size + 1, 1, none⟩ = some (.int .i64 (N x 1 4)) := D5a.out.p.c 1 (by omega)
  have e2 : w11.cell? ⟨w.heap.size + 1, 2, none⟩ = some (.int .i64 (N x 5 2)) := D5a.out.p.c 2 (by omega)
  have e3 : w11.cell? ⟨w.heap.size + 1, 3, none⟩ = some (.int .i64 (N x 7 4)) := D5a.out.p.c 3 (by omega)
  have e4 : w11.cell? ⟨w.heap.size + 1, 4, none⟩ = some (.int .i64 (N x 11 2)) := D5a.out.p.c 4 (by omega)
  go_wp2_with fail
  have D5b : Hid (Dec w (w11.setCell ⟨w.heap.size + 1, 5, none⟩ (.int .i64 (N x 13 1))) x (upd (upd (upd (upd (upd (upd (fun _ => 0) 0 (N x 0 1)) 1 (N x 1 4)) 2 (N x 5 2)) 3 (N x 7 4)) 4 (N x 11 2)) 5 (N x 13 1)) 14) := D5a.out.set (by omega) _
  clear c5 cf5
  generalize w11.setCell ⟨w.heap.size + 1, 5, none⟩ (.int .i64 (N x 13 1)) = w12 at *
  refine (check_any _ _ _ _ _ _ s _ (hS.out.below D5b.out.b)).mono ?_
  rintro e w13 ⟨rfl, hb13⟩
  have D6 : Hid (Dec w w13 x (upd (upd (upd (upd (upd (upd (fun _ => 0) 0 (N x 0 1)) 1 (N x 1 4)) 2 (N x 5 2)) 3 (N x 7 4)) 4 (N x 11 2)) 5 (N x 13 1)) 14) := D5b.out.below hb13
  rw [HQ.out]
  clear hb13 e0 e1 e2 e3 e4
  have r0 : w13.cell? ⟨w.heap.size, 0, none⟩ = some (.int .i64 0) := D6.out.r.c 0 (by omega)
  have r1 : w13.cell? ⟨w.heap.size, 1, none⟩ = some (.int .i64 0) := D6.out.r.c 1 (by omega)
  have r2 : w13.cell? ⟨w.heap.size, 2, none⟩ = some (.int .i64 0) := D6.out.r.c 2 (by omega)
  have r3 : w13.cell? ⟨w.heap.size, 3, none⟩ = some (.int .i64 0) := D6.out.r.c 3 (by omega)
  have r4 : w13.cell? ⟨w.heap.size, 4, none⟩ = some (.int .i64 0) := D6.out.r.c 4 (by omega)
  have r5 : w13.cell? ⟨w.heap.size, 5, none⟩ = some (.int .i64 0) := D6.out.r.c 5 (by omega)
  have g0 := D6.out.r.cf 0 (by omega)
  have g1 := D6.out.r.cf 1 (by omega)
  have g2 := D6.out.r.cf 2 (by omega)
  have g3 := D6.out.r.cf 3 (by omega)
  have g4 := D6.out.r.cf 4 (by omega)
  have g5 := D6.out.r.cf 5 (by omega)
  cases q with
  | zero =>
    have e0 : w13.cell? ⟨w.heap.size + 1, 0, none⟩ = some (.int .i64 (N x 0 1)) := D6.out.p.c 0 (by omega)
    have e1 : w13.cell? ⟨w.heap.size + 1, 1, none⟩ = some (.int .i64 (N x 1 4)) := D6.out.p.c 1 (by omega)
    have e2 : w13.cell? ⟨w.heap.size + 1, 2, none⟩ = some (.int .i64 (N x 5 2)) := D6.out.p.c 2 (by omega)
    have e3 : w13.cell? ⟨w.heap.size + 1, 3, none⟩ = some (.int .i64 (N x 7 4)) := D6.out.p.c 3 (by omega)
    have e4 : w13.cell? ⟨w.heap.size + 1, 4, none⟩ = some (.int .i64 (N x 11 2)) := D6.out.p.c 4 (by omega)
    have e5 : w13.cell? ⟨w.heap.size + 1, 5, none⟩ = some (.int .i64 (N x 13 1)) := D6.out.p.c 5 (by omega)
    unfold errV
    go_wp2_with fail
    exact bodyPost_ret (v := .tuple #[pkt (N x 0 1) (N x 1 4) (N x 5 2) (N x 7 4) (N x 11 2) (N x 13 1), .nilIface]) (by simp [results, Tryz.results11, go_sem, r0, r1, r2, r3, r4, r5]) rfl ⟨rfl, (((((D6.out.b.setCell (Nat.le_refl _) _).setCell (Nat.le_refl _) _).setCell (Nat.le_refl _) _).setCell (Nat.le_refl _) _).setCell (Nat.le_refl _) _).setCell (Nat.le_refl _) _⟩
  | succ k =>
    unfold errV
    go_wp2_with fail
    exact bodyPost_ret (v := .tuple #[pkt 0 0 0 0 0 0, .iface 164 (.pointer (some (s k)))]) (by simp [results, Tryz.results11, go_sem, r0, r1, r2, r3, r4, r5]) rfl ⟨rfl, (((((D6.out.b.setCell (Nat.le_refl _) _).setCell (Nat.le_refl _) _).setCell (Nat.le_refl _) _).setCell (Nat.le_refl _) _).setCell (Nat.le_refl _) _).setCell (Nat.le_refl _) _⟩
end Go.Proofs.YtlogpnanfamjeaaGreatDoor
