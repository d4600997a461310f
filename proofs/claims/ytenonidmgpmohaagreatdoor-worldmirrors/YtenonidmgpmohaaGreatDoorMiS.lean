/-
  Package mirror's Same (slices.Equal).
-/
import Derived.Test.YtenonidmgpmohaaGreatDoorKf
import Derived.OwnWalk
namespace Go.Proofs.YtenonidmgpmohaaGreatDoor
open Go.RowKit

set_option maxRecDepth 100000 in
set_option maxHeartbeats 4000000 in
theorem mequal_any (Z g ca cb : Nat) (T : Tb) (w : World) (A : Sl10 w Z T) (B : Sl10 w g T) :
    Calls Tryz.prog 36 #[.slice (some ⟨Z, 0, none⟩) 32 ca, .slice (some ⟨g, 0, none⟩) 32 cb] w fun e w' => e = .returned (.bool true) ∧ Below w.heap.size w w' := by
  have HA : Hid (Sl10 w Z T) := A
  have HB : Hid (Sl10 w g T) := B
  clear A B
  go_enter Tryz.func36, Tryz.ntmps36
  go_wp2_with fail
  go_loopw [13] (fun t wr => ∃ j : Nat, j ≤ 32 ∧ t = .int .i64 j ∧ Below w.heap.size w wr) (fun t _ => 32 - (intOf t).toNat)
  case atStart => exact ⟨0, by omega, rfl, Below.refl _ _⟩
  case round =>
    obtain ⟨j, hj, rfl, hbr⟩ := hrel
    have B1 : Hid (Below w.heap.size w wr) := hbr
    clear hbr
    by_cases hlt : j < 32
    · obtain ⟨c, hc⟩ : ∃ c, c = T j := ⟨_, rfl⟩
      have A1 := HA.out.below B1.out
      have A2 := HB.out.below B1.out
      have a0 := A1.at' (i := j) (k := 0) hlt (by omega)
      have b0 := A2.at' (i := j) (k := 0) hlt (by omega)
      have a1 := A1.at' (i := j) (k := 1) hlt (by omega)
      have b1 := A2.at' (i := j) (k := 1) hlt (by omega)
      have a2 := A1.at' (i := j) (k := 2) hlt (by omega)
      have b2 := A2.at' (i := j) (k := 2) hlt (by omega)
      have a3 := A1.at' (i := j) (k := 3) hlt (by omega)
      have b3 := A2.at' (i := j) (k := 3) hlt (by omega)
      have a4 := A1.at' (i := j) (k := 4) hlt (by omega)
      have b4 := A2.at' (i := j) (k := 4) hlt (by omega)
      have a5 := A1.at' (i := j) (k := 5) hlt (by omega)
      have b5 := A2.at' (i := j) (k := 5) hlt (by omega)
      have a6 := A1.at' (i := j) (k := 6) hlt (by omega)
      have b6 := A2.at' (i := j) (k := 6) hlt (by omega)
      have a7 := A1.at' (i := j) (k := 7) hlt (by omega)
      have b7 := A2.at' (i := j) (k := 7) hlt (by omega)
      have a8 := A1.at' (i := j) (k := 8) hlt (by omega)
      have b8 := A2.at' (i := j) (k := 8) hlt (by omega)
      have a9 := A1.at' (i := j) (k := 9) hlt (by omega)
      have b9 := A2.at' (i := j) (k := 9) hlt (by omega)
      rw [← hc] at a0 b0 a1 b1 a2 b2 a3 b3 a4 b4 a5 b5 a6 b6 a7 b7 a8 b8 a9 b9
      simp only [Ce.get, Nat.add_zero] at a0 b0 a1 b1 a2 b2 a3 b3 a4 b4 a5 b5 a6 b6 a7 b7 a8 b8 a9 b9
      have i0 : (0 : Int) ≤ (j : Int) := by omega
      have i1 : (j : Int) < 32 := by omega
      have hq : ∀ w : World, (binOp .neq 91 (.agg #[.int .i64 j, .int .i64 c.ve, .int .i64 c.pr, .int .i64 c.ia, .int .i64 c.ip, .int .i64 c.fa, .int .i64 c.fp, .int .i64 c.po, .int .i64 c.st, .int .i64 c.un]) (.agg #[.int .i64 j, .int .i64 c.ve, .int .i64 c.pr, .int .i64 c.ia, .int .i64 c.ip, .int .i64 c.fa, .int .i64 c.fp, .int .i64 c.po, .int .i64 c.st, .int .i64 c.un])).run Tryz.prog w = .ok (.bool false) w := neq_cell _ _
      have B2 : Hid (Below w.heap.size w wr.drew) := B1.out.drew
      clear hc A1 A2 HA HB
      go_wp2_with fail
      go_region
      all_goals
        go_wp2_with fail
        go_roundw
        case rel => exact ⟨j + 1, by omega, by go_num, B2.out⟩
        case measure => simp [intOf]; omega
    · have hlt' : ¬ (j : Int) < 32 := by omega
      go_wp2_with fail
      go_ret
      exact ⟨rfl, B1.out⟩
theorem msame_any (Z g ca cb : Nat) (T : Tb) (w : World) (A : Sl10 w Z T) (B : Sl10 w g T) :
    Calls Tryz.prog 14 #[.slice (some ⟨Z, 0, none⟩) 32 ca, .slice (some ⟨g, 0, none⟩) 32 cb] w fun e w' => e = .returned (.bool true) ∧ Below w.heap.size w w' := by
  have HA : Hid (Sl10 w Z T) := A
  have HB : Hid (Sl10 w g T) := B
  clear A B
  go_enter Tryz.func14, Tryz.ntmps14
  go_wp2_with fail
  refine (mequal_any Z g ca cb T _ HA.out HB.out).mono ?_
  rintro e w1 ⟨rfl, hb⟩
  have B1 : Hid (Below w.heap.size w w1) := hb
  clear hb
  go_wp2_with fail
  go_ret
  exact ⟨rfl, B1.out⟩
end Go.Proofs.YtenonidmgpmohaaGreatDoor
