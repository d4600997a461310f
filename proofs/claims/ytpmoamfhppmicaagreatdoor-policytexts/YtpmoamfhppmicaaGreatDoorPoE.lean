/-
  Package policy's bit and line.
-/
import Derived.Test.YtpmoamfhppmicaaGreatDoorPoI
namespace Go.Proofs.YtpmoamfhppmicaaGreatDoor
open Go.RowKit

theorem bit_any (b : Bool) (n : Int) (h : (if b = true then 1 else 0) = n) (w : World) : Calls Tryz.prog 29 #[.bool b] w fun e w' => e = .returned (.int .i64 n) ∧ w' = w := by
  subst h
  cases b
  · go_enter Tryz.func29, Tryz.ntmps29
    go_wp2_with fail
    go_ret
    exact ⟨rfl, rfl⟩
  · go_enter Tryz.func29, Tryz.ntmps29
    go_wp2_with fail
    go_ret
    exact ⟨rfl, rfl⟩
def nmLen (i : Nat) : Nat := if i = 2 then 3 else 2
def nmW : Nat → Nat → List UInt8
  | 0, 0 => [100, 101, 110, 121]
  | 0, _ => [97, 108, 108, 111, 119]
  | 1, 0 => [105, 110]
  | 1, _ => [111, 117, 116]
  | _, 0 => [97, 110, 121]
  | _, 1 => [117, 100, 112]
  | _, _ => [116, 99, 112]
theorem nmW_len : ∀ i j, (nmW i j).length ≤ 5
  | 0, 0 => by simp [nmW]
  | 0, _ + 1 => by simp [nmW]
  | 1, 0 => by simp [nmW]
  | 1, _ + 1 => by simp [nmW]
  | _ + 2, 0 => by simp [nmW]
  | _ + 2, 1 => by simp [nmW]
  | _ + 2, _ + 2 => by simp [nmW]
/-- the words that lie in package policy's names. -/
def PNm (w : World) : Prop := ∀ i, i < 3 → ∃ b o k : Nat, w.cell? ⟨2, i, none⟩ = some (.slice (some ⟨b, o, none⟩) (nmLen i) k) ∧ ∀ j, j < nmLen i → w.cell? ⟨b, o + j, none⟩ = some (.string ⟨(nmW i j).toArray⟩)
theorem PNm.below {w w' : World} (N : PNm w) (h : Below w.heap.size w w') : PNm w' := fun i hi => by
  obtain ⟨b, o, k, h1, h2⟩ := N i hi
  exact ⟨b, o, k, Below.keeps h h1, fun j hj => Below.keeps h (h2 j hj)⟩
theorem Tryz.idx30 (x y z : Value) (w : World) : (Instr.index 70 (.agg #[x, y, z]) (.int .i64 0)).run Tryz.prog w = .ok x w := by kernel_rfl
theorem Tryz.idx31 (x y z : Value) (w : World) : (Instr.index 70 (.agg #[x, y, z]) (.int .i64 1)).run Tryz.prog w = .ok y w := by kernel_rfl
theorem Tryz.idx32 (x y z : Value) (w : World) : (Instr.index 70 (.agg #[x, y, z]) (.int .i64 2)).run Tryz.prog w = .ok z w := by kernel_rfl
theorem bl_drewN {B : Nat} {a w : World} (h : Below B a w) (q : Nat) : Below B a (w.drewN q) := ⟨h.os, h.tape, h.output, h.size, h.block⟩
/-- a rule's line. -/
def lineL (n0 n1 n2 : Nat) (lo tp : Int) : List UInt8 := nmW 0 n0 ++ 32 :: (nmW 1 n1 ++ 32 :: (nmW 2 n2 ++ 32 :: (Lib.itoa lo ++ 45 :: Lib.itoa tp)))
set_option maxRecDepth 100000 in
set_option maxHeartbeats 4000000 in
theorem line_at (al ou : Bool) (n0 n1 n2 : Nat) (h0 : (if al = true then 1 else 0) = (n0 : Int)) (h1 : (if ou = true then 1 else 0) = (n1 : Int)) (q0 : n0 < 2) (q1 : n1 < 2) (q2 : n2 < 3) (lo tp : Int) (l1 : 0 ≤ lo) (l2 : lo < 10000000) (l3 : 0 ≤ tp) (l4 : tp < 10000000) (w : World) (T : Pow w) (N : PNm w) :
    Calls Tryz.prog 16 #[.agg #[.bool al, .bool ou, .int .i64 n2, .int .i64 lo, .int .i64 tp]] w fun e w' => e = .returned (.string ⟨(lineL n0 n1 n2 lo tp).toArray⟩) ∧ Below w.heap.size w w' := by
  have HT : Hid (Pow w) := T
  have HN : Hid (PNm w) := N
  have H0 : Hid ((if al = true then 1 else 0) = (n0 : Int)) := h0
  have H1 : Hid ((if ou = true then 1 else 0) = (n1 : Int)) := h1
  clear T N h0 h1
  go_enter Tryz.func16, Tryz.ntmps16
  go_wp2_with fail
  have i0 := Tryz.idx30
  have i1 := Tryz.idx31
  have i2 := Tryz.idx32
  go_quiet (first
    | (go_at_call_of 29 (Value.bool al); exact Calls.quiet_of_same (bit_any al n0 H0.out _))
    | (go_at_call_of 29 (Value.bool ou); exact Calls.quiet_of_same (bit_any ou n1 H1.out _)))
  have B1 : Hid (Below w.heap.size w ((w.alloc (.cells #[.bool al, .bool ou, .int .i64 n2, .int .i64 lo, .int .i64 tp] 42)).drewN nq)) := bl_drewN ((Below.refl _ _).alloc (Nat.le_refl _) _) nq
  have e3 : ((w.alloc (.cells #[.bool al, .bool ou, .int .i64 n2, .int .i64 lo, .int .i64 tp] 42)).drewN nq).cell? ⟨w.heap.size, 3, none⟩ = some (.int .i64 lo) := by simp [go_sem]
  have e4 : ((w.alloc (.cells #[.bool al, .bool ou, .int .i64 n2, .int .i64 lo, .int .i64 tp] 42)).drewN nq).cell? ⟨w.heap.size, 4, none⟩ = some (.int .i64 tp) := by simp [go_sem]
  generalize (w.alloc (.cells #[.bool al, .bool ou, .int .i64 n2, .int .i64 lo, .int .i64 tp] 42)).drewN nq = W at *
  obtain ⟨b0, o0, k0, S0, D0⟩ := (HN.out.below B1.out) 0 (by omega)
  obtain ⟨b1, o1, k1, S1, D1⟩ := (HN.out.below B1.out) 1 (by omega)
  obtain ⟨b2, o2, k2, S2, D2⟩ := (HN.out.below B1.out) 2 (by omega)
  have d0 := D0 n0 (by simpa [nmLen] using q0)
  have d1 := D1 n1 (by simpa [nmLen] using q1)
  have d2 := D2 n2 (by simpa [nmLen] using q2)
  have s0 : W.cell? ⟨2, 0, none⟩ = some (.slice (some ⟨b0, o0, none⟩) 2 k0) := S0
  have s1 : W.cell? ⟨2, 1, none⟩ = some (.slice (some ⟨b1, o1, none⟩) 2 k1) := S1
  have s2 : W.cell? ⟨2, 2, none⟩ = some (.slice (some ⟨b2, o2, none⟩) 3 k2) := S2
  clear S0 S1 S2 D0 D1 D2
  have g0 := nmW_len 0 n0
  have g1 := nmW_len 1 n1
  have g2 := nmW_len 2 n2
  obtain ⟨x0, hx0⟩ : ∃ x, nmW 0 n0 = x := ⟨_, rfl⟩
  obtain ⟨x1, hx1⟩ : ∃ x, nmW 1 n1 = x := ⟨_, rfl⟩
  obtain ⟨x2, hx2⟩ : ∃ x, nmW 2 n2 = x := ⟨_, rfl⟩
  rw [hx0] at d0 g0
  rw [hx1] at d1 g1
  rw [hx2] at d2 g2
  have HX : Hid (nmW 0 n0 = x0 ∧ nmW 1 n1 = x1 ∧ nmW 2 n2 = x2) := ⟨hx0, hx1, hx2⟩
  clear hx0 hx1 hx2
  have r1 := itoa_len l1 l2
  have r2 := itoa_len l3 l4
  go_wp2_with fail
  refine wp_loop_rounds 4 ?_
  rw [rounds_succ]
  go_wp2_with fail
  rw [rounds_succ]
  go_wp2_with fail
  rw [rounds_succ]
  go_wp2_with fail
  rw [rounds_succ]
  go_wp2_with fail
  clear s0 s1 s2 d0 d1 d2 i0 i1 i2
  go_region_with (first
    | (go_at_call_of 30 (Value.int IntKind.i64 lo); refine (itoa_any lo (by omega) (by omega) _ ?_).mono ?_; exact HT.out.below B1.out.drew; rintro e w1 ⟨rfl, hb⟩;
        have f4 : w1.cell? ⟨w.heap.size, 4, none⟩ = some (.int .i64 tp) := Below.keeps hb e4; have HB1 : Hid (Below w.heap.size w w1) := B1.out.drew.trans (hb.mono B1.out.size); clear hb)
    | (go_at_call_of 30 (Value.int IntKind.i64 tp); refine (itoa_any tp (by omega) (by omega) _ ?_).mono ?_; exact HT.out.below HB1.out; rintro e w2 ⟨rfl, hb⟩; have HB2 : Hid (Below w.heap.size w w2) := HB1.out.trans (hb.mono HB1.out.size); clear hb))
  all_goals go_wp2_with fail
  all_goals go_ret
  all_goals refine ⟨?_, HB2.out⟩
  all_goals
    unfold lineL
    obtain ⟨hx0, hx1, hx2⟩ := HX.out
    rw [hx0, hx1, hx2]
    exact congrArg (fun x : ByteArray => Ending.returned (.string x)) (by apply ByteArray.ext; simp [ByteArray.data_append])
end Go.Proofs.YtpmoamfhppmicaaGreatDoor
