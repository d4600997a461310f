/-
  Package mirror's Same of cells whose versions differ where they do.
-/
import Derived.Test.YtenonidmgpmohaaGreatDoorMiS
namespace Go.Proofs.YtenonidmgpmohaaGreatDoor
open Go.RowKit

theorem neq_ver (i : Int) (c d : Ce) (h : c.ve ≠ d.ve) (w : World) : (binOp .neq 91 (.agg #[.int .i64 i, .int .i64 c.ve, .int .i64 c.pr, .int .i64 c.ia, .int .i64 c.ip, .int .i64 c.fa, .int .i64 c.fp, .int .i64 c.po, .int .i64 c.st, .int .i64 c.un]) (.agg #[.int .i64 i, .int .i64 d.ve, .int .i64 d.pr, .int .i64 d.ia, .int .i64 d.ip, .int .i64 d.fa, .int .i64 d.fp, .int .i64 d.po, .int .i64 d.st, .int .i64 d.un])).run Tryz.prog w = .ok (.bool true) w := by
  rw [run_neq_struct, show (10000 : Nat) = 9999 + 1 from rfl, run_equalIn_agg w 9999 91 _ _ (by kernel_rfl) (by kernel_rfl)]
  have p0 : ∀ (c : Ce) (w : World), (part 3 #[.int .i64 i, .int .i64 c.ve, .int .i64 c.pr, .int .i64 c.ia, .int .i64 c.ip, .int .i64 c.fa, .int .i64 c.fp, .int .i64 c.po, .int .i64 c.st, .int .i64 c.un] 0).run Tryz.prog w = .ok (.int .i64 i) w := fun c w => partI _ _ _ rfl
  have p1 : ∀ (c : Ce) (w : World), (part 3 #[.int .i64 i, .int .i64 c.ve, .int .i64 c.pr, .int .i64 c.ia, .int .i64 c.ip, .int .i64 c.fa, .int .i64 c.fp, .int .i64 c.po, .int .i64 c.st, .int .i64 c.un] 1).run Tryz.prog w = .ok (.int .i64 c.ve) w := fun c w => partI _ _ _ rfl
  have n1 : ("Slot" : String) ≠ "_" := by decide
  have n2 : ("Version" : String) ≠ "_" := by decide
  have hq : ∀ w : World, (Op.equalIn (9998 + 1) 3 (.int .i64 c.ve) (.int .i64 d.ve)).run Tryz.prog w = .ok false w := fun w => by
    rw [run_equalIn_int w 9998 _ _ _ _ _ Tryz.underlying3]
    simp [h]
  have hi : ∀ w : World, (Op.equalIn (9998 + 1) 3 (.int .i64 i) (.int .i64 i)).run Tryz.prog w = .ok true w := fun w => eqI 9998 i w
  rw [show (9999 : Nat) = 9998 + 1 from rfl]
  simp only [Program.fieldsOf, Tryz.underlying91, Op.eqFields, Sem.run_bind, Sem.run_ite, ne_eq, n1, n2, not_false_eq_true, if_true, p0, p1, Result.andThen_ok, hi, hq, Bool.not_true, Bool.not_false, Bool.false_eq_true, if_false, Sem.run_pure]
/-- what Same answers. -/
def SamV (T U : Tb) (e : Ending) : Prop := ∃ b, e = .returned (.bool b) ∧ (b = true → ∀ j, j < 32 → T j = U j)
set_option maxRecDepth 100000 in
set_option maxHeartbeats 4000000 in
theorem mequal2_any (Z g ca cb : Nat) (T U : Tb) (w : World) (A : Sl10 w Z T) (B : Sl10 w g U) (hv : ∀ j, j < 32 → T j = U j ∨ (T j).ve ≠ (U j).ve) :
    Calls Tryz.prog 36 #[.slice (some ⟨Z, 0, none⟩) 32 ca, .slice (some ⟨g, 0, none⟩) 32 cb] w fun e w' => SamV T U e ∧ Below w.heap.size w w' := by
  have HA : Hid (Sl10 w Z T) := A
  have HB : Hid (Sl10 w g U) := B
  have HV : Hid (∀ j, j < 32 → T j = U j ∨ (T j).ve ≠ (U j).ve) := hv
  clear A B hv
  go_enter Tryz.func36, Tryz.ntmps36
  go_wp2_with fail
  go_loopw [13] (fun t wr => ∃ j : Nat, j ≤ 32 ∧ t = .int .i64 j ∧ (∀ k, k < j → T k = U k) ∧ Below w.heap.size w wr) (fun t _ => 32 - (intOf t).toNat)
  case atStart => exact ⟨0, by omega, rfl, fun k hk => by omega, Below.refl _ _⟩
  case round =>
    obtain ⟨j, hj, rfl, hall, hbr⟩ := hrel
    have B1 : Hid (Below w.heap.size w wr) := hbr
    have HAL : Hid (∀ k, k < j → T k = U k) := hall
    clear hbr hall
    by_cases hlt : j < 32
    · obtain ⟨c, hc⟩ : ∃ c, c = T j := ⟨_, rfl⟩
      obtain ⟨d, hd⟩ : ∃ d, d = U j := ⟨_, rfl⟩
      have A1 := HA.out.below B1.out
      have A2 := HB.out.below B1.out
      have a0 := A1.at' (i := j) (k := 0) hlt (by omega)
      have b0 := A2.at' (i := j) (k := 0) hlt (by omega)
      have a1 := A1.at' (i := j) (k := 1) hlt (by omega)
      have b1 := A2.at' (i := j) (k := 1) hlt (by omega)
      have a2 := A1.at' (i := j) (k := 2) hlt (by omega)
      have b2 := A2.at' (i := j) (k := 2) hlt (by omega)
      have a3 := A1.at' (i := j) (k := 3) hlt (by omega)
      have b3 := A2.at' (i := j) (k := 3) hlt (by omega)
      have a4 := A1.at' (i := j) (k := 4) hlt (by omega)
      have b4 := A2.at' (i := j) (k := 4) hlt (by omega)
      have a5 := A1.at' (i := j) (k := 5) hlt (by omega)
      have b5 := A2.at' (i := j) (k := 5) hlt (by omega)
      have a6 := A1.at' (i := j) (k := 6) hlt (by omega)
      have b6 := A2.at' (i := j) (k := 6) hlt (by omega)
      have a7 := A1.at' (i := j) (k := 7) hlt (by omega)
      have b7 := A2.at' (i := j) (k := 7) hlt (by omega)
      have a8 := A1.at' (i := j) (k := 8) hlt (by omega)
      have b8 := A2.at' (i := j) (k := 8) hlt (by omega)
      have a9 := A1.at' (i := j) (k := 9) hlt (by omega)
      have b9 := A2.at' (i := j) (k := 9) hlt (by omega)
      rw [← hc] at a0 a1 a2 a3 a4 a5 a6 a7 a8 a9
      rw [← hd] at b0 b1 b2 b3 b4 b5 b6 b7 b8 b9
      simp only [Ce.get, Nat.add_zero] at a0 b0 a1 b1 a2 b2 a3 b3 a4 b4 a5 b5 a6 b6 a7 b7 a8 b8 a9 b9
      have i0 : (0 : Int) ≤ (j : Int) := by omega
      have i1 : (j : Int) < 32 := by omega
      have B2 : Hid (Below w.heap.size w wr.drew) := B1.out.drew
      have HCD : Hid (c = T j ∧ d = U j) := ⟨hc, hd⟩
      have hcase := HV.out j hlt
      rw [← hc, ← hd] at hcase
      clear hc hd A1 A2 HA HB
      rcases hcase with rfl | hne
      · have hq := neq_cell (j : Int) c
        have HNX : Hid (∀ k, k < j + 1 → T k = U k) := fun k hk => by
          by_cases e : k = j
          · subst e; rw [← HCD.out.1, ← HCD.out.2]
          · exact HAL.out k (by omega)
        go_wp2_with fail
        go_region
        all_goals
          go_wp2_with fail
          go_roundw
          case rel => exact ⟨j + 1, by omega, by go_num, HNX.out, B2.out⟩
          case measure => simp [intOf]; omega
      · have hq := neq_ver (j : Int) c d hne
        clear hne
        go_wp2_with fail
        go_region
        all_goals
          go_wp2_with fail
          go_ret
          exact ⟨⟨false, rfl, fun e => by cases e⟩, B2.out⟩
    · have hlt' : ¬ (j : Int) < 32 := by omega
      have HAL2 : Hid (∀ k, k < 32 → T k = U k) := fun k hk => HAL.out k (by omega)
      go_wp2_with fail
      go_ret
      exact ⟨⟨true, rfl, fun _ => HAL2.out⟩, B1.out⟩
theorem msame2_any (Z g ca cb : Nat) (T U : Tb) (w : World) (A : Sl10 w Z T) (B : Sl10 w g U) (hv : ∀ j, j < 32 → T j = U j ∨ (T j).ve ≠ (U j).ve) :
    Calls Tryz.prog 14 #[.slice (some ⟨Z, 0, none⟩) 32 ca, .slice (some ⟨g, 0, none⟩) 32 cb] w fun e w' => SamV T U e ∧ Below w.heap.size w w' := by
  have HC := fun u (hb : Below w.heap.size w u) => mequal2_any Z g ca cb T U u (A.below hb) (B.below hb) hv
  have HCC : Hid (∀ u, Below w.heap.size w u → Calls Tryz.prog 36 #[.slice (some ⟨Z, 0, none⟩) 32 ca, .slice (some ⟨g, 0, none⟩) 32 cb] u fun e w' => SamV T U e ∧ Below u.heap.size u w') := HC
  clear HC A B hv
  go_enter Tryz.func14, Tryz.ntmps14
  go_wp2_with fail
  refine (HCC.out _ (Below.refl _ _)).mono ?_
  rintro e w1 ⟨⟨b, rfl, hb⟩, b1⟩
  have HB : Hid ((b = true → ∀ j, j < 32 → T j = U j) ∧ Below w.heap.size w w1) := ⟨hb, b1⟩
  clear hb b1
  go_wp2_with fail
  go_ret
  exact ⟨⟨b, rfl, HB.out.1⟩, HB.out.2⟩
end Go.Proofs.YtenonidmgpmohaaGreatDoor
