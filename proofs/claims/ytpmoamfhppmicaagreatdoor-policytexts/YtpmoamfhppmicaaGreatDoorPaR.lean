/-
  The document's answer: RulesFault, Bare, Fine.
-/
import Derived.Test.YtpmoamfhppmicaaGreatDoorPoD
namespace Go.Proofs.YtpmoamfhppmicaaGreatDoor
open Go.RowKit

def faultOf (l : List Rl) : Int × Int := if 20 < l.length then (2, -1) else match chkAt l 0 with | some i => (2, (i : Int)) | none => (0, -1)
theorem bare_any (c : Int) (w : World) : Calls Tryz.prog 17 #[.int .i64 c] w fun e w' => e = .returned (.agg #[.int .i64 c, .int .i64 (-1)]) ∧ Below w.heap.size w w' := by
  go_enter Tryz.func17, Tryz.ntmps17
  go_wp2_with fail
  exact bodyPost_ret (v := .agg #[.int .i64 c, .int .i64 (-1)]) (by simp [results, Tryz.results17, go_sem]) rfl ⟨rfl, (Below.refl _ _).alloc (Nat.le_refl _) _⟩
theorem fine_any (w : World) : Calls Tryz.prog 18 #[] w fun e w' => e = .returned (.agg #[.int .i64 0, .int .i64 (-1)]) ∧ Below w.heap.size w w' := by
  go_enter Tryz.func18, Tryz.ntmps18
  go_wp2_with fail
  exact bodyPost_ret (v := .agg #[.int .i64 0, .int .i64 (-1)]) (by simp [results, Tryz.results18, go_sem]) rfl ⟨rfl, (Below.refl _ _).alloc (Nat.le_refl _) _⟩
/-- the result's place: two numbers. -/
structure Rs (w wr : World) : Prop where
  c0 : wr.cell? ⟨w.heap.size, 0, none⟩ = some (.int .i64 0)
  c1 : wr.cell? ⟨w.heap.size, 1, none⟩ = some (.int .i64 0)
  f0 : wr.frozen? ⟨w.heap.size, 0, none⟩ = false
  f1 : wr.frozen? ⟨w.heap.size, 1, none⟩ = false
  b : Below w.heap.size w wr
theorem fr_keeps {w w' : World} (h : Below w.heap.size w w') {a : Addr} {v : Value} (hc : w.cell? a = some v) (hf : w.frozen? a = false) : w'.frozen? a = false := by
  rw [h.frozen (p := a) (cell_lt hc)]; exact hf
theorem Rs.below {w w1 w2 : World} (h : Rs w w1) (hb : Below w1.heap.size w1 w2) : Rs w w2 := ⟨Below.keeps hb h.c0, Below.keeps hb h.c1, fr_keeps hb h.c0 h.f0, fr_keeps hb h.c1 h.f1, below2 h.b hb⟩
theorem Rs.new (w : World) : Rs w (w.alloc (.cells #[.int .i64 0, .int .i64 0] 30)) :=
  ⟨by simp, by simp, by rw [World.frozen?_alloc_at _ _ _ _ rfl], by rw [World.frozen?_alloc_at _ _ _ _ rfl], (Below.refl _ _).alloc (Nat.le_refl _) _⟩
set_option maxRecDepth 100000 in
set_option maxHeartbeats 2000000 in
theorem rfault_big (p : Option Addr) (l : List Rl) (cap : Nat) (w : World) (R : Rul w p l) (hl : l.length ≤ 4000) :
    Calls Tryz.prog 8 #[.slice p l.length cap] w fun e w' => e = .returned (.agg #[.int .i64 (faultOf l).1, .int .i64 (faultOf l).2]) ∧ Below w.heap.size w w' := by
  have HR : Hid (Rul w p l) := R
  clear R
  by_cases hbig : 20 < l.length
  · have HF : Hid (faultOf l = (2, -1)) := by show _ = _; unfold faultOf; rw [if_pos hbig]
    go_enter Tryz.func8, Tryz.ntmps8
    go_wp2_with fail
    have R0 : Hid (Rs w (w.alloc (.cells #[.int .i64 0, .int .i64 0] 30))) := Rs.new w
    refine (bare_any 2 _).mono ?_
    rintro e w1 ⟨rfl, hb1⟩
    have R1 : Hid (Rs w w1) := R0.out.below hb1
    have c0 := R1.out.c0
    have c1 := R1.out.c1
    have f0 := R1.out.f0
    have f1 := R1.out.f1
    clear hb1
    go_wp2_with fail
    exact bodyPost_ret (v := .agg #[.int .i64 2, .int .i64 (-1)]) (by simp [results, Tryz.results8, go_sem, c0, c1]) rfl ⟨by rw [HF.out], by
      repeat (first | exact R1.out.b | refine Below.setCell ?_ (by exact Nat.le_refl _) _)⟩
  · have HF : Hid (faultOf l = match chkAt l 0 with | some i => (2, (i : Int)) | none => (0, -1)) := by show _ = _; unfold faultOf; rw [if_neg hbig]
    go_enter Tryz.func8, Tryz.ntmps8
    go_wp2_with fail
    have R0 : Hid (Rs w (w.alloc (.cells #[.int .i64 0, .int .i64 0] 30))) := Rs.new w
    go_loopw [3] (fun t wr => ∃ j : Nat, j ≤ l.length ∧ t = .int .i64 j ∧ chkAt (l.drop j) j = chkAt l 0 ∧ Rs w wr) (fun t _ => l.length - (intOf t).toNat)
    case atStart => exact ⟨0, Nat.zero_le _, rfl, rfl, R0.out⟩
    case round =>
      obtain ⟨j, hj, rfl, had, hrs⟩ := hrel
      have HA : Hid (chkAt (l.drop j) j = chkAt l 0) := had
      have RR : Hid (Rs w wr) := hrs
      clear had hrs
      by_cases hlt : j < l.length
      · have hr : l[j]? = some l[j] := List.getElem?_eq_getElem hlt
        generalize l[j] = r at hr
        obtain ⟨x, o, rfl, g0, g1, g2, g3, g4⟩ := HR.out j r hr
        have k0 := Below.keeps RR.out.b g0
        have k1 := Below.keeps RR.out.b g1
        have k2 := Below.keeps RR.out.b g2
        have k3 := Below.keeps RR.out.b g3
        have k4 := Below.keeps RR.out.b g4
        have HD : Hid (chkAt l 0 = if r.ok then chkAt (l.drop (j + 1)) (j + 1) else some j) := by show _ = _; rw [← HA.out]; exact chkAt_drop hr
        clear g0 g1 g2 g3 g4 hr
        obtain ⟨al, ro, rp, lo, tp⟩ := r
        simp only at k0 k1 k2 k3 k4
        have R1 : Hid (Rs w (wr.alloc (.cells #[.bool al, .bool ro, .int .i64 rp, .int .i64 lo, .int .i64 tp] 42))) := RR.out.below ((Below.refl _ _).alloc (Nat.le_refl _) _)
        have c0 := R1.out.c0
        have c1 := R1.out.c1
        have f0 := R1.out.f0
        have f1 := R1.out.f1
        go_wp2_with fail
        all_goals first
          | (refine ⟨⟨j + 1, by omega, by go_num, ?_, R1.out⟩, by simp [intOf]; omega⟩
             rw [HD.out, if_pos (show Rl.ok ⟨al, ro, rp, lo, tp⟩ by unfold Rl.ok; simp only; omega)])
          | (have hno : ¬ Rl.ok ⟨al, ro, rp, lo, tp⟩ := by unfold Rl.ok; simp only; omega
             have HC : Hid (chkAt l 0 = some j) := by show _ = _; rw [HD.out, if_neg hno]
             clear hno
             exact bodyPost_ret (v := .agg #[.int .i64 2, .int .i64 j]) (by simp [results, Tryz.results8, go_sem, c0, c1]) rfl ⟨by rw [HF.out, HC.out], by
               repeat (first | exact R1.out.b | refine Below.setCell ?_ (by exact Nat.le_refl _) _)⟩)
      · obtain rfl : j = l.length := by omega
        have hf : Hid (chkAt l 0 = none) := by show _ = _; rw [← HA.out, List.drop_length]; rfl
        go_wp2_with fail
        refine (fine_any _).mono ?_
        rintro e w1 ⟨rfl, hb1⟩
        have R1 : Hid (Rs w w1) := RR.out.below hb1
        have c0 := R1.out.c0
        have c1 := R1.out.c1
        have f0 := R1.out.f0
        have f1 := R1.out.f1
        clear hb1
        go_wp2_with fail
        exact bodyPost_ret (v := .agg #[.int .i64 0, .int .i64 (-1)]) (by simp [results, Tryz.results8, go_sem, c0, c1]) rfl ⟨by rw [HF.out, hf.out], by
          repeat (first | exact R1.out.b | refine Below.setCell ?_ (by exact Nat.le_refl _) _)⟩
theorem rfault_any (p : Option Addr) (l : List Rl) (cap : Nat) (w : World) (R : Rul w p l) (hl : l.length ≤ 1000) :
    Calls Tryz.prog 8 #[.slice p l.length cap] w fun e w' => e = .returned (.agg #[.int .i64 (faultOf l).1, .int .i64 (faultOf l).2]) ∧ Below w.heap.size w w' :=
  rfault_big p l cap w R (by omega)
end Go.Proofs.YtpmoamfhppmicaaGreatDoor
