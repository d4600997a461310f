/-
  Package cell's newest, there, Epoch, Life.
-/
import Derived.Test.YthmnmdikpccenacDoorCeH
import Derived.Test.YthmnmdikpccenacDoorCeG
import Derived.Test.YthmnmdikpccenacDoorCeP
namespace Go.Proofs.YthmnmdikpccenacDoor
open Go.RowKit

theorem hold_any (b k : Nat) (hk : k < 2) (s : By) (w : World) (S : Byt w b s) :
    Calls Tryd.prog 70 #[.pointer (some ⟨b, 0, none⟩), .int .i64 k] w fun e w' => (∃ x : Nm, e = .returned (.tuple #[nmV x, .bool (isHeld s.B k)]) ∧ (isHeld s.B k = true → x = slotN s.B k)) ∧ Below w.heap.size w w' := by
  have h : k = 0 ∨ k = 1 := by omega
  rcases h with rfl | rfl
  · exact hold_0 b s w S
  · exact hold_1 b s w S
/-- a round of newest. -/
theorem newestK_next (B : List UInt8) (k : Nat) : newestK B (k + 1) = if isHeld B k = true ∧ (newestK B k).n < (slotN B k).n then slotN B k else newestK B k := rfl
set_option maxRecDepth 100000 in
set_option maxHeartbeats 4000000 in
theorem newest_any (b : Nat) (s : By) (w : World) (S : Byt w b s) :
    Calls Tryd.prog 51 #[.pointer (some ⟨b, 0, none⟩)] w fun e w' => e = .returned (nmV (newest s.B)) ∧ Below w.heap.size w w' := by
  have HS : Hid (Byt w b s) := S
  clear S
  go_enter Tryd.func51, Tryd.ntmps51
  go_wp2_with fail
  have N0 : Hid (Num3 ((w.alloc (.cells #[.int .i64 0, .int .i64 0, .int .i64 0] 97)).alloc (.cells #[.int .i64 0, .int .i64 0, .int .i64 0] 97)) (w.heap.size + 1) 0 0 0) := heap_alloc2_new w _ _
  have R0 : Hid (Num3 ((w.alloc (.cells #[.int .i64 0, .int .i64 0, .int .i64 0] 97)).alloc (.cells #[.int .i64 0, .int .i64 0, .int .i64 0] 97)) w.heap.size 0 0 0) := by
    show Num3 _ _ _ _ _
    unfold Num3
    rw [heap_alloc_old _ _ (by simp), heap_alloc_new]
  have B0 : Hid (Below w.heap.size w ((w.alloc (.cells #[.int .i64 0, .int .i64 0, .int .i64 0] 97)).alloc (.cells #[.int .i64 0, .int .i64 0, .int .i64 0] 97))) := t2 (aB _ _) (aB _ _)
  generalize (w.alloc (.cells #[.int .i64 0, .int .i64 0, .int .i64 0] 97)).alloc (.cells #[.int .i64 0, .int .i64 0, .int .i64 0] 97) = w0 at *
  obtain ⟨Z, hZ⟩ : ∃ Z, Z = w.heap.size := ⟨_, rfl⟩
  have HZ : Hid (Z = w.heap.size) := hZ
  rw [← hZ] at N0 R0 ⊢
  clear hZ
  go_loopw [7] (fun t wr => ∃ k : Nat, k ≤ 2 ∧ t = .int .i64 k ∧ Num3 wr (Z + 1) (newestK s.B k).n (newestK s.B k).e (newestK s.B k).l ∧ Num3 wr Z 0 0 0 ∧ Below Z w wr) (fun t _ => 2 - (intOf t).toNat)
  case atStart => exact ⟨0, by omega, rfl, N0.out, R0.out, by rw [HZ.out]; exact B0.out⟩
  case round =>
    obtain ⟨k, hk, rfl, hn, hr, hb⟩ := hrel
    have HN : Hid (Num3 wr (Z + 1) (newestK s.B k).n (newestK s.B k).e (newestK s.B k).l) := hn
    have HR : Hid (Num3 wr Z 0 0 0) := hr
    have HB : Hid (Below Z w wr) := hb
    clear hn hr hb
    by_cases hlt : k < 2
    · go_wp2_with fail
      refine (hold_any b k hlt s wr (HS.out.below (by rw [← HZ.out]; exact HB.out))).mono ?_
      rintro e w1 ⟨⟨x, rfl, hx⟩, hb1⟩
      have HX : Hid (isHeld s.B k = true → x = slotN s.B k) := hx
      have N1 : Hid (Num3 w1 (Z + 1) (newestK s.B k).n (newestK s.B k).e (newestK s.B k).l) := HN.out.below hb1
      have R1 : Hid (Num3 w1 Z 0 0 0) := HR.out.below hb1
      have B1 : Hid (Below Z w w1) := HB.out.trans (hb1.mono (by have := HR.out.lt; omega))
      have HE : Hid (newestK s.B (k + 1) = if isHeld s.B k = true ∧ (newestK s.B k).n < (slotN s.B k).n then slotN s.B k else newestK s.B k) := newestK_next _ _
      clear hx hb1
      have hz1 := N1.out.lt
      have n0 := N1.out.c0
      have n1 := N1.out.c1
      have n2 := N1.out.c2
      have nf := fun i => N1.out.fr i
      unfold nmV
      generalize hh : isHeld s.B k = h at *
      generalize hy : newestK s.B k = y at *
      cases h
      · have HY : Hid (newestK s.B (k + 1) = y) := by show _ = _; rw [HE.out, if_neg (by simp)]
        go_wp2_with fail
        refine ⟨⟨k + 1, by omega, by go_num, ?_, ?_, ?_⟩, by simp [intOf]; omega⟩
        · rw [HY.out]; exact N1.out.below (aB _ _)
        · exact R1.out.below (aB _ _)
        · exact B1.out.alloc (by have := HR.out.lt; have := R1.out.lt; omega) _
      · obtain rfl := HX.out rfl
        by_cases hl : y.n < (slotN s.B k).n
        · have HY : Hid (newestK s.B (k + 1) = slotN s.B k) := by show _ = _; rw [HE.out, if_pos ⟨rfl, hl⟩]
          generalize slotN s.B k = x at *
          have hi : (y.n : Int) < (x.n : Int) := by omega
          go_wp2_with fail
          refine ⟨⟨k + 1, by omega, by go_num, ?_, ?_, ?_⟩, by simp [intOf]; omega⟩
          · rw [HY.out]; exact (N1.out.put _ _ _).below (aB _ _)
          · exact (R1.out.chg (((Chg.set (Z + 1) 0 _ _).trans (Chg.set (Z + 1) 1 _ _)).trans (Chg.set (Z + 1) 2 _ _)) (by omega)).below (aB _ _)
          · refine (((B1.out.setCell (by show Z ≤ Z + 1; omega) _).setCell (by show Z ≤ Z + 1; omega) _).setCell (by show Z ≤ Z + 1; omega) _).alloc ?_ _
            have := HR.out.lt; have := R1.out.lt; simp; omega
        · have HY : Hid (newestK s.B (k + 1) = y) := by show _ = _; rw [HE.out, if_neg (by simp [hl])]
          generalize slotN s.B k = x at *
          have hi : ¬ (y.n : Int) < (x.n : Int) := by omega
          go_wp2_with fail
          refine ⟨⟨k + 1, by omega, by go_num, ?_, ?_, ?_⟩, by simp [intOf]; omega⟩
          · rw [HY.out]; exact N1.out.below (aB _ _)
          · exact R1.out.below (aB _ _)
          · exact B1.out.alloc (by have := HR.out.lt; have := R1.out.lt; omega) _
    · have HK : Hid (k = 2) := (show k = 2 by omega)
      have r0 := HR.out.c0
      have r1 := HR.out.c1
      have r2 := HR.out.c2
      have rf := fun i => HR.out.fr i
      have n0 := HN.out.c0
      have n1 := HN.out.c1
      have n2 := HN.out.c2
      generalize hy : newestK s.B k = y at *
      have HY : Hid (newest s.B = y) := by
        show newestK s.B 2 = y
        rw [← HK.out]; exact hy
      clear hy
      go_wp2_with fail
      refine bodyPost_ret (v := nmV y) (by simp [results, Tryd.results51, go_sem, nmV, r0, r1, r2]) rfl ⟨by rw [HY.out], ?_⟩
      rw [← HZ.out]
      exact ((HB.out.setCell (Nat.le_refl _) _).setCell (Nat.le_refl _) _).setCell (Nat.le_refl _) _
/-- a cell in memory. -/
structure Cel (w : World) (c b : Nat) (off : Bool) : Prop where
  c0 : w.cell? ⟨c, 0, none⟩ = some (.pointer (some ⟨b, 0, none⟩))
  c1 : w.cell? ⟨c, 1, none⟩ = some (.bool off)
  f1 : w.frozen? ⟨c, 1, none⟩ = false
theorem Cel.lt {w : World} {c b : Nat} {off : Bool} (h : Cel w c b off) : c < w.heap.size := tlt h.c0
theorem Cel.below {w w' : World} {c b : Nat} {off : Bool} (h : Cel w c b off) (hb : Below w.heap.size w w') : Cel w' c b off := ⟨tk hb h.c0, tk hb h.c1, by rw [hb.frozen (p := ⟨c, 1, none⟩) h.lt]; exact h.f1⟩
theorem Cel.chg {w w' : World} {c b d : Nat} {off : Bool} (h : Cel w c b off) (hb : Chg d w w') (hn : c ≠ d) : Cel w' c b off := ⟨hb.keeps hn h.c0, hb.keeps hn h.c1, by rw [World.frozen?_of_block (w := w) (hb.block c h.lt hn)]; exact h.f1⟩
theorem Cel.kill {w : World} {c b : Nat} {off : Bool} (h : Cel w c b off) (v : Bool) : Cel (w.setCell ⟨c, 1, none⟩ (.bool v)) c b v := ⟨by rw [World.cell?_setCell_other _ _ _ _ (by simp)]; exact h.c0, World.cell?_setCell_same _ _ _ (u := .bool off) h.c1, by rw [World.frozen?_setCell]; exact h.f1⟩
set_option maxRecDepth 100000 in
set_option maxHeartbeats 2000000 in
theorem there_any (c b : Nat) (off : Bool) (s : By) (w : World) (C : Cel w c b off) (S : Byt w b s) :
    Calls Tryd.prog 36 #[.pointer (some ⟨c, 0, none⟩)] w fun e w' => e = .returned (nmV (newest s.B)) ∧ Below w.heap.size w w' := by
  have HS : Hid (Byt w b s) := S
  have HC : Hid (Cel w c b off) := C
  clear S C
  go_enter Tryd.func36, Tryd.ntmps36
  have N0 : Hid (Num3 (w.alloc (.cells #[.int .i64 0, .int .i64 0, .int .i64 0] 97)) w.heap.size 0 0 0) := heap_alloc_new w _
  have c0 := (HC.out.below (aB w (.cells #[.int .i64 0, .int .i64 0, .int .i64 0] 97))).c0
  go_wp2_with fail
  refine (newest_any b s _ (HS.out.below (aB _ _))).mono ?_
  rintro e w1 ⟨rfl, hb1⟩
  have N1 : Hid (Num3 w1 w.heap.size 0 0 0) := N0.out.below hb1
  have B1 : Hid (Below w.heap.size w w1) := t2 (aB _ _) hb1
  clear hb1 c0 N0
  have n0 := N1.out.c0
  have n1 := N1.out.c1
  have n2 := N1.out.c2
  have nf := fun i => N1.out.fr i
  obtain ⟨y, hy⟩ : ∃ y, newest s.B = y := ⟨_, rfl⟩
  have HY : Hid (newest s.B = y) := hy
  rw [hy]
  clear hy
  unfold nmV
  obtain ⟨Z, hZ⟩ : ∃ Z, Z = w.heap.size := ⟨_, rfl⟩
  rw [← hZ] at n0 n1 n2 nf ⊢
  have HZ : Hid (Z = w.heap.size) := hZ
  clear hZ
  go_wp2_with fail
  refine bodyPost_ret (v := nmV y) (by simp [results, Tryd.results36, go_sem, nmV, n0, n1, n2]) rfl ⟨by rw [HY.out], ?_⟩
  rw [HZ.out]
  exact ((B1.out.setCell (Nat.le_refl _) _).setCell (Nat.le_refl _) _).setCell (Nat.le_refl _) _
theorem nm_field (a b c : Int) (w : World) : (Instr.field 97 (.agg #[.int .i64 a, .int .i64 b, .int .i64 c]) 1).run Tryd.prog w = .ok (.int .i64 b) w ∧ (Instr.field 97 (.agg #[.int .i64 a, .int .i64 b, .int .i64 c]) 2).run Tryd.prog w = .ok (.int .i64 c) w := ⟨by kernel_rfl, by kernel_rfl⟩
set_option maxRecDepth 100000 in
set_option maxHeartbeats 2000000 in
theorem epoch_any (c b : Nat) (off : Bool) (s : By) (w : World) (C : Cel w c b off) (S : Byt w b s) :
    Calls Tryd.prog 21 #[.pointer (some ⟨c, 0, none⟩)] w fun e w' => e = .returned (.int .i64 (newest s.B).e) ∧ Below w.heap.size w w' := by
  have HT : Hid (Calls Tryd.prog 36 #[.pointer (some ⟨c, 0, none⟩)] w fun e w' => e = .returned (nmV (newest s.B)) ∧ Below w.heap.size w w') := there_any c b off s w C S
  clear C S
  generalize newest s.B = y at *
  unfold nmV at HT
  go_enter Tryd.func21, Tryd.ntmps21
  go_wp2_with fail
  refine HT.out.mono ?_
  rintro e w1 ⟨rfl, hb1⟩
  have B1 : Hid (Below w.heap.size w w1) := hb1
  clear hb1
  obtain ⟨f1, f2⟩ := nm_field y.n y.e y.l w1
  go_wp2_with fail
  go_ret
  exact ⟨rfl, B1.out⟩
set_option maxRecDepth 100000 in
set_option maxHeartbeats 2000000 in
theorem life_any (c b : Nat) (off : Bool) (s : By) (w : World) (C : Cel w c b off) (S : Byt w b s) :
    Calls Tryd.prog 22 #[.pointer (some ⟨c, 0, none⟩)] w fun e w' => e = .returned (.int .i64 (newest s.B).l) ∧ Below w.heap.size w w' := by
  have HT : Hid (Calls Tryd.prog 36 #[.pointer (some ⟨c, 0, none⟩)] w fun e w' => e = .returned (nmV (newest s.B)) ∧ Below w.heap.size w w') := there_any c b off s w C S
  clear C S
  generalize newest s.B = y at *
  unfold nmV at HT
  go_enter Tryd.func22, Tryd.ntmps22
  go_wp2_with fail
  refine HT.out.mono ?_
  rintro e w1 ⟨rfl, hb1⟩
  have B1 : Hid (Below w.heap.size w w1) := hb1
  clear hb1
  obtain ⟨f1, f2⟩ := nm_field y.n y.e y.l w1
  go_wp2_with fail
  go_ret
  exact ⟨rfl, B1.out⟩
end Go.Proofs.YthmnmdikpccenacDoor
