/-
  The document's bytes: Body, in memory, Cut, On.
-/
import Derived.Test.YtdkfjjamfefcaabDoorCaB
import Derived.Test.YtdkfjjamfefcaabDoorCeO
namespace Go.Proofs.YtdkfjjamfefcaabDoor
open Go.RowKit

set_option maxRecDepth 100000 in
set_option maxHeartbeats 4000000 in
theorem rbody_any (x : Nm) (h1 : x.n < 4294967296) (h2 : x.e < 4294967296) (h3 : x.l < 4294967296) (w : World) :
    Calls Tryd.prog 94 #[.int .i64 x.n, .int .i64 x.e, .int .i64 x.l] w fun e w' => e = .returned (.string (stB (img x))) ∧ Below w.heap.size w w' := by
  have z1 : (stB (w4 x.n)).size = 4 := rfl
  have z2 : (stB (w4 x.e)).size = 4 := rfl
  have z3 : (stB (w4 x.l)).size = 4 := rfl
  have z4 : (stB (w4 (crc (body x)))).size = 4 := rfl
  have zb : (stB (body x)).size = 12 := rfl
  have hb : stB (w4 x.n) ++ stB (w4 x.e) ++ stB (w4 x.l) = stB (body x) := by rw [stB_append, stB_append]; rfl
  have HB : Hid (stB (body x) ++ stB (w4 (crc (body x))) = stB (img x)) := by show _ = _; rw [stB_append]; rfl
  have W1 : Hid (∀ w, Calls Tryd.prog 108 #[.int .i64 x.n, .int .i64 4] w fun e w' => e = .returned (.string (stB (w4 x.n))) ∧ Below w.heap.size w w') := fun w => wide4_any x.n h1 w
  have W2 : Hid (∀ w, Calls Tryd.prog 108 #[.int .i64 x.e, .int .i64 4] w fun e w' => e = .returned (.string (stB (w4 x.e))) ∧ Below w.heap.size w w') := fun w => wide4_any x.e h2 w
  have W3 : Hid (∀ w, Calls Tryd.prog 108 #[.int .i64 x.l, .int .i64 4] w fun e w' => e = .returned (.string (stB (w4 x.l))) ∧ Below w.heap.size w w') := fun w => wide4_any x.l h3 w
  have WC : Hid (∀ w, Calls Tryd.prog 109 #[.string (stB (body x))] w fun e w' => e = .returned (.int .i64 (crc (body x))) ∧ w' = w) := fun w => rcrc_any (body x) (body_len x) w
  have W4 : Hid (∀ w, Calls Tryd.prog 108 #[.int .i64 (crc (body x)), .int .i64 4] w fun e w' => e = .returned (.string (stB (w4 (crc (body x))))) ∧ Below w.heap.size w w') := fun w => wide4_any _ (crc_lt _) w
  have hs1 : (stB (w4 x.n) ++ stB (w4 x.e)).size = 8 := by rw [stB_append]; rfl
  have hs2 : (stB (w4 x.n) ++ stB (w4 x.e) ++ stB (w4 x.l)).size = 12 := by rw [hb]; rfl
  generalize stB (w4 x.n) = a at *
  generalize stB (w4 x.e) = b at *
  generalize stB (w4 x.l) = c at *
  generalize stB (w4 (crc (body x))) = d at *
  go_enter Tryd.func94, Tryd.ntmps94
  go_wp2_with fail
  refine (W1.out _).mono ?_
  rintro e w1 ⟨rfl, hb1⟩
  have B1 : Hid (Below w.heap.size w w1) := hb1
  clear hb1
  go_wp2_with fail
  refine (W2.out _).mono ?_
  rintro e w2 ⟨rfl, hb2⟩
  have B2 : Hid (Below w.heap.size w w2) := t2 B1.out hb2
  clear hb2
  go_wp2_with fail
  refine (W3.out _).mono ?_
  rintro e w3 ⟨rfl, hb3⟩
  have B3 : Hid (Below w.heap.size w w3) := t2 B2.out hb3
  clear hb3
  go_wp2_with fail
  refine (WC.out _).mono ?_
  rintro e w4' ⟨rfl, hw4⟩
  obtain rfl := hw4.symm
  go_wp2_with fail
  refine (W4.out _).mono ?_
  rintro e w5 ⟨rfl, hb5⟩
  have B5 : Hid (Below w.heap.size w w5) := t2 B3.out hb5
  clear hb5
  go_wp2_with fail
  go_ret
  exact ⟨by rw [← HB.out]; rfl, B5.out⟩
/-- the document's bytes in memory. -/
def RBy (w : World) (n : Nat) (s : By) (lv : Int) : Prop := w.heap[n]? = some (.cells #[.string (stB s.B), .bool (!s.on), .int .i64 lv, .bool s.cut] 103 (0, 0))
theorem RBy.lt {w : World} {n : Nat} {s : By} {lv : Int} (h : RBy w n s lv) : n < w.heap.size := by
  rcases Nat.lt_or_ge n w.heap.size with h1 | h1
  · exact h1
  · rw [RBy, Array.getElem?_eq_none h1] at h; cases h
theorem RBy.below {w w' : World} {n : Nat} {s : By} {lv : Int} (h : RBy w n s lv) (hb : Below w.heap.size w w') : RBy w' n s lv := by unfold RBy; rw [hb.block n h.lt]; exact h
theorem RBy.chg {w w' : World} {n b : Nat} {s : By} {lv : Int} (h : RBy w n s lv) (hb : Chg b w w') (hn : n ≠ b) : RBy w' n s lv := by unfold RBy; rw [hb.block n h.lt hn]; exact h
theorem RBy.chg2 {w w' : World} {n b c : Nat} {s : By} {lv : Int} (h : RBy w n s lv) (hb : Chg2 b c w w') (h1 : n ≠ b) (h2 : n ≠ c) : RBy w' n s lv := by unfold RBy; rw [hb.block n h.lt h1 h2]; exact h
theorem RBy.c0 {w : World} {n : Nat} {s : By} {lv : Int} (h : RBy w n s lv) : w.cell? ⟨n, 0, none⟩ = some (.string (stB s.B)) := (cell_of_row w n _ _ _ _ h).trans rfl
theorem RBy.c1 {w : World} {n : Nat} {s : By} {lv : Int} (h : RBy w n s lv) : w.cell? ⟨n, 1, none⟩ = some (.bool (!s.on)) := (cell_of_row w n _ _ _ _ h).trans rfl
theorem RBy.c2 {w : World} {n : Nat} {s : By} {lv : Int} (h : RBy w n s lv) : w.cell? ⟨n, 2, none⟩ = some (.int .i64 lv) := (cell_of_row w n _ _ _ _ h).trans rfl
theorem RBy.c3 {w : World} {n : Nat} {s : By} {lv : Int} (h : RBy w n s lv) : w.cell? ⟨n, 3, none⟩ = some (.bool s.cut) := (cell_of_row w n _ _ _ _ h).trans rfl
theorem RBy.fr {w : World} {n : Nat} {s : By} {lv : Int} (h : RBy w n s lv) (i : Nat) : w.frozen? ⟨n, i, none⟩ = false := frozen_of_row w n i _ _ h
theorem RBy.s0 {w : World} {n : Nat} {s : By} {lv : Int} (h : RBy w n s lv) (L : List UInt8) : RBy (w.setCell ⟨n, 0, none⟩ (.string (stB L))) n ⟨L, s.on, s.cut, s.left⟩ lv := by unfold RBy; rw [heap_setCell_same w n _ _ _ _ h]; rfl
theorem RBy.s1 {w : World} {n : Nat} {s : By} {lv : Int} (h : RBy w n s lv) (o : Bool) : RBy (w.setCell ⟨n, 1, none⟩ (.bool (!o))) n ⟨s.B, o, s.cut, s.left⟩ lv := by unfold RBy; rw [heap_setCell_same w n _ _ _ _ h]; rfl
theorem RBy.s2 {w : World} {n : Nat} {s : By} {lv : Int} (h : RBy w n s lv) (m : Int) : RBy (w.setCell ⟨n, 2, none⟩ (.int .i64 m)) n s m := by unfold RBy; rw [heap_setCell_same w n _ _ _ _ h]; rfl
theorem RBy.s3 {w : World} {n : Nat} {s : By} {lv : Int} (h : RBy w n s lv) (c : Bool) : RBy (w.setCell ⟨n, 3, none⟩ (.bool c)) n ⟨s.B, s.on, c, s.left⟩ lv := by unfold RBy; rw [heap_setCell_same w n _ _ _ _ h]; rfl
theorem RBy.as {w : World} {n : Nat} {s t : By} {lv : Int} (h : RBy w n s lv) (h1 : s.B = t.B) (h2 : s.on = t.on) (h3 : s.cut = t.cut) : RBy w n t lv := by unfold RBy at *; rw [← h1, ← h2, ← h3]; exact h
theorem ron_any (n : Nat) (s : By) (lv : Int) (w : World) (S : RBy w n s lv) : Calls Tryd.prog 66 #[.pointer (some ⟨n, 0, none⟩)] w fun e w' => e = .returned (.tuple #[]) ∧ RBy w' n s.turnOn lv ∧ Chg n w w' := by
  have HS : Hid (RBy w n s lv) := S
  have c1 := S.c1
  have c3 := S.c3
  have f := fun i => S.fr i
  clear S
  go_enter Tryd.func66, Tryd.ntmps66
  go_wp2_with fail
  go_end0
  exact ⟨rfl, (HS.out.s1 true).s3 false, (Chg.set _ _ _ _).trans (Chg.set _ _ _ _)⟩
def cutL (s : By) (m lv : Int) : Int := if cutE s m = 0 then m else lv
set_option maxRecDepth 100000 in
set_option maxHeartbeats 2000000 in
theorem rcut_any (n : Nat) (s : By) (lv m : Int) (w : World) (S : RBy w n s lv) : Calls Tryd.prog 67 #[.pointer (some ⟨n, 0, none⟩), .int .i64 m] w fun e w' => e = .returned (.int .i64 ((cutE s m : Nat) : Int)) ∧ RBy w' n (s.setCut m) (cutL s m lv) ∧ Chg n w w' := by
  have HS : Hid (RBy w n s lv) := S
  have c1 := S.c1
  have c2 := S.c2
  have c3 := S.c3
  have f := fun i => S.fr i
  clear S
  by_cases hn : m < 0
  · have HE : Hid (cutE s m = 2) := by unfold cutE; rw [if_pos hn]; exact rfl
    have HU : Hid (s.setCut m = s) := by unfold By.setCut; rw [HE.out]; exact rfl
    have HV : Hid (cutL s m lv = lv) := by unfold cutL; rw [HE.out]; exact rfl
    go_enter Tryd.func67, Tryd.ntmps67
    go_wp2_with fail
    go_ret
    exact ⟨by rw [HE.out]; rfl, by rw [HU.out, HV.out]; exact HS.out, Chg.refl _ _⟩
  · cases ho : s.on
    · have HE : Hid (cutE s m = 7) := by unfold cutE; rw [if_neg hn, ho]; exact rfl
      have HU : Hid (s.setCut m = s) := by unfold By.setCut; rw [HE.out]; exact rfl
      have HV : Hid (cutL s m lv = lv) := by unfold cutL; rw [HE.out]; exact rfl
      rw [ho] at c1
      go_enter Tryd.func67, Tryd.ntmps67
      go_wp2_with fail
      go_ret
      exact ⟨by rw [HE.out]; rfl, by rw [HU.out, HV.out]; exact HS.out, Chg.refl _ _⟩
    · have HE : Hid (cutE s m = 0) := by unfold cutE; rw [if_neg hn, ho]; exact rfl
      have HU : Hid (s.setCut m = ⟨s.B, s.on, true, m.toNat⟩) := by unfold By.setCut; rw [HE.out]; exact rfl
      rw [ho] at c1
      go_enter Tryd.func67, Tryd.ntmps67
      go_wp2_with fail
      go_ret
      refine ⟨by rw [HE.out]; rfl, ?_, (Chg.set _ _ _ _).trans (Chg.set _ _ _ _)⟩
      have HV : Hid (cutL s m lv = m) := by unfold cutL; rw [HE.out]; exact rfl
      rw [HU.out, HV.out]
      exact ((HS.out.s3 true).s2 m).as rfl rfl rfl
end Go.Proofs.YtdkfjjamfefcaabDoor
