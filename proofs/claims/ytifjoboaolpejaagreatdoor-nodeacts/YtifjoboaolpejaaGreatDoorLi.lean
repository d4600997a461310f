/-
  Texts in one: PoP PaR PaAd.
-/
import Derived.Test.YtifjoboaolpejaaGreatDoorKh
namespace Go.Proofs.YtifjoboaolpejaaGreatDoor
open Go.RowKit

theorem isEnd_ok (a p : Int) (w : World) (h : okEnd a p) : Calls Tryz.prog 120 #[.agg #[.int .i64 a, .int .i64 p]] w fun e w' => e = .returned (.bool true) ∧ Below w.heap.size w w' := by
  obtain ⟨g1, g2, g3, g4⟩ := h
  go_enter Tryz.func120, Tryz.ntmps120
  go_wp2_with fail
  go_ret
  exact ⟨rfl, (Below.refl _ _).alloc (Nat.le_refl _) _⟩
theorem isEnd_bad (a p : Int) (w : World) (h : badEnd a p) : Calls Tryz.prog 120 #[.agg #[.int .i64 a, .int .i64 p]] w fun e w' => e = .returned (.bool false) ∧ Below w.heap.size w w' := by
  by_cases g1 : 0 ≤ a
  · by_cases g2 : a ≤ 1048576
    · by_cases g3 : 1 ≤ p
      · have g4 : decide (p ≤ 65535) = false := by rcases h with h | h | h | h <;> simp <;> omega
        clear h
        go_enter Tryz.func120, Tryz.ntmps120
        go_wp2_with fail
        go_ret
        exact ⟨rfl, (Below.refl _ _).alloc (Nat.le_refl _) _⟩
      · clear h
        go_enter Tryz.func120, Tryz.ntmps120
        go_wp2_with fail
        go_ret
        exact ⟨rfl, (Below.refl _ _).alloc (Nat.le_refl _) _⟩
    · clear h
      go_enter Tryz.func120, Tryz.ntmps120
      go_wp2_with fail
      go_ret
      exact ⟨rfl, (Below.refl _ _).alloc (Nat.le_refl _) _⟩
  · clear h
    go_enter Tryz.func120, Tryz.ntmps120
    go_wp2_with fail
    go_ret
    exact ⟨rfl, (Below.refl _ _).alloc (Nat.le_refl _) _⟩

theorem isEnd_any (a p : Int) (b : Bool) (hb : endB a p = b) (w : World) : Calls Tryz.prog 120 #[.agg #[.int .i64 a, .int .i64 p]] w fun e w' => e = .returned (.bool b) ∧ Below w.heap.size w w' := by
  cases b
  · exact isEnd_bad a p w (endB_bad.1 hb)
  · exact isEnd_ok a p w (endB_ok.1 hb)

set_option maxRecDepth 100000 in
set_option maxHeartbeats 4000000 in
theorem perr_core (b1 b2 : Bool) (pr a1 p1 a2 p2 fl : Int) (w : World) (hs : endB a1 p1 = b1) (hd : endB a2 p2 = b2) (r : Int)
    (hr : ((pr != 1) = true ∧ (pr != 2) = true ∧ r = 2) ∨ ((pr = 1 ∨ pr = 2) ∧ b1 = false ∧ r = 2) ∨ ((pr = 1 ∨ pr = 2) ∧ b1 = true ∧ b2 = false ∧ r = 2) ∨ ((pr = 1 ∨ pr = 2) ∧ b1 = true ∧ b2 = true ∧ (fl < 0 ∨ 15 < fl) ∧ r = 2) ∨
      (pr = 1 ∧ b1 = true ∧ b2 = true ∧ 0 < fl ∧ fl ≤ 15 ∧ r = 3) ∨ (pr = 1 ∧ b1 = true ∧ b2 = true ∧ fl = 0 ∧ r = 0) ∨ (pr = 2 ∧ b1 = true ∧ b2 = true ∧ 0 ≤ fl ∧ fl ≤ 15 ∧ r = 0)) :
    Calls Tryz.prog 74 #[pkt pr a1 p1 a2 p2 fl] w fun e w' => e = .returned (.int .i64 r) ∧ Below w.heap.size w w' := by
  have HS : Hid (endB a1 p1 = b1) := hs
  have HD : Hid (endB a2 p2 = b2) := hd
  clear hs hd
  rcases hr with ⟨g1, g2, rfl⟩ | ⟨rfl | rfl, rfl, rfl⟩ | ⟨rfl | rfl, rfl, rfl, rfl⟩ | ⟨rfl | rfl, rfl, rfl, g | g, rfl⟩ | ⟨rfl, rfl, rfl, g1, g2, rfl⟩ | ⟨rfl, rfl, rfl, rfl, rfl⟩ | ⟨rfl, rfl, rfl, g1, g2, rfl⟩
  all_goals
    go_enter Tryz.func74, Tryz.ntmps74
    go_wp2_with fail
    refine (isEnd_any _ _ _ HS.out _).mono ?_
    rintro e w1 ⟨rfl, hb⟩
    obtain ⟨c0, c1, c2, c3, c4, c5⟩ := box6 hb
    have HB : Hid (Below w.heap.size w w1) := ((Below.refl _ _).alloc (Nat.le_refl _) _).trans (hb.mono (by simp))
    have HB1 : Hid (w.heap.size < w1.heap.size) := by have := hb.size; simp at this; exact this
    clear hb
    go_wp2_with fail
    refine (isEnd_any _ _ _ HD.out _).mono ?_
    rintro e w2 ⟨rfl, hb2⟩
    have d0 := Below.keeps hb2 c0
    have d5 := Below.keeps hb2 c5
    have HB2 : Hid (Below w.heap.size w w2) := HB.out.trans (hb2.mono HB.out.size)
    clear hb2 c0 c1 c2 c3 c4 c5
    go_wp2_with fail
    all_goals (go_ret; exact ⟨rfl, HB2.out⟩)
theorem perr_any (pr a1 p1 a2 p2 fl : Int) (w : World) :
    Calls Tryz.prog 74 #[pkt pr a1 p1 a2 p2 fl] w fun e w' => e = .returned (.int .i64 (pkErr pr a1 p1 a2 p2 fl)) ∧ Below w.heap.size w w' := by
  refine perr_core (endB a1 p1) (endB a2 p2) pr a1 p1 a2 p2 fl w rfl rfl _ ?_
  unfold pkErr
  simp only [bne_iff_ne]
  cases h1 : endB a1 p1 <;> cases h2 : endB a2 p2 <;> simp
  all_goals first | omega | (split <;> (try split) <;> omega)
end Go.Proofs.YtifjoboaolpejaaGreatDoor

namespace Go.Proofs.YtifjoboaolpejaaGreatDoor
open Go.RowKit

def faultOf (l : List Rl) : Int × Int := if 20 < l.length then (2, -1) else match chkAt l 0 with | some i => (2, (i : Int)) | none => (0, -1)
theorem bare_any (c : Int) (w : World) : Calls Tryz.prog 33 #[.int .i64 c] w fun e w' => e = .returned (.agg #[.int .i64 c, .int .i64 (-1)]) ∧ Below w.heap.size w w' := by
  go_enter Tryz.func33, Tryz.ntmps33
  go_wp2_with fail
  exact bodyPost_ret (v := .agg #[.int .i64 c, .int .i64 (-1)]) (by simp [results, Tryz.results33, go_sem]) rfl ⟨rfl, (Below.refl _ _).alloc (Nat.le_refl _) _⟩
theorem fine_any (w : World) : Calls Tryz.prog 34 #[] w fun e w' => e = .returned (.agg #[.int .i64 0, .int .i64 (-1)]) ∧ Below w.heap.size w w' := by
  go_enter Tryz.func34, Tryz.ntmps34
  go_wp2_with fail
  exact bodyPost_ret (v := .agg #[.int .i64 0, .int .i64 (-1)]) (by simp [results, Tryz.results34, go_sem]) rfl ⟨rfl, (Below.refl _ _).alloc (Nat.le_refl _) _⟩
/-- the result's place: two numbers. -/
structure Rs (w wr : World) : Prop where
  c0 : wr.cell? ⟨w.heap.size, 0, none⟩ = some (.int .i64 0)
  c1 : wr.cell? ⟨w.heap.size, 1, none⟩ = some (.int .i64 0)
  f0 : wr.frozen? ⟨w.heap.size, 0, none⟩ = false
  f1 : wr.frozen? ⟨w.heap.size, 1, none⟩ = false
  b : Below w.heap.size w wr
theorem fr_keeps {w w' : World} (h : Below w.heap.size w w') {a : Addr} {v : Value} (hc : w.cell? a = some v) (hf : w.frozen? a = false) : w'.frozen? a = false := by
  rw [h.frozen (p := a) (cell_lt hc)]; exact hf
theorem Rs.below {w w1 w2 : World} (h : Rs w w1) (hb : Below w1.heap.size w1 w2) : Rs w w2 := ⟨Below.keeps hb h.c0, Below.keeps hb h.c1, fr_keeps hb h.c0 h.f0, fr_keeps hb h.c1 h.f1, below2 h.b hb⟩
theorem Rs.new (w : World) : Rs w (w.alloc (.cells #[.int .i64 0, .int .i64 0] 37)) :=
  ⟨by simp, by simp, by rw [World.frozen?_alloc_at _ _ _ _ rfl], by rw [World.frozen?_alloc_at _ _ _ _ rfl], (Below.refl _ _).alloc (Nat.le_refl _) _⟩
set_option maxRecDepth 100000 in
set_option maxHeartbeats 2000000 in
theorem rfault_big (p : Option Addr) (l : List Rl) (cap : Nat) (w : World) (R : Rul w p l) (hl : l.length ≤ 4000) :
    Calls Tryz.prog 11 #[.slice p l.length cap] w fun e w' => e = .returned (.agg #[.int .i64 (faultOf l).1, .int .i64 (faultOf l).2]) ∧ Below w.heap.size w w' := by
  have HR : Hid (Rul w p l) := R
  clear R
  by_cases hbig : 20 < l.length
  · have HF : Hid (faultOf l = (2, -1)) := by show _ = _; unfold faultOf; rw [if_pos hbig]
    go_enter Tryz.func11, Tryz.ntmps11
    go_wp2_with fail
    have R0 : Hid (Rs w (w.alloc (.cells #[.int .i64 0, .int .i64 0] 37))) := Rs.new w
    refine (bare_any 2 _).mono ?_
    rintro e w1 ⟨rfl, hb1⟩
    have R1 : Hid (Rs w w1) := R0.out.below hb1
    have c0 := R1.out.c0
    have c1 := R1.out.c1
    have f0 := R1.out.f0
    have f1 := R1.out.f1
    clear hb1
    go_wp2_with fail
    exact bodyPost_ret (v := .agg #[.int .i64 2, .int .i64 (-1)]) (by simp [results, Tryz.results11, go_sem, c0, c1]) rfl ⟨by rw [HF.out], by
      repeat (first | exact R1.out.b | refine Below.setCell ?_ (by exact Nat.le_refl _) _)⟩
  · have HF : Hid (faultOf l = match chkAt l 0 with | some i => (2, (i : Int)) | none => (0, -1)) := by show _ = _; unfold faultOf; rw [if_neg hbig]
    go_enter Tryz.func11, Tryz.ntmps11
    go_wp2_with fail
    have R0 : Hid (Rs w (w.alloc (.cells #[.int .i64 0, .int .i64 0] 37))) := Rs.new w
    go_loopw [3] (fun t wr => ∃ j : Nat, j ≤ l.length ∧ t = .int .i64 j ∧ chkAt (l.drop j) j = chkAt l 0 ∧ Rs w wr) (fun t _ => l.length - (intOf t).toNat)
    case atStart => exact ⟨0, Nat.zero_le _, rfl, rfl, R0.out⟩
    case round =>
      obtain ⟨j, hj, rfl, had, hrs⟩ := hrel
      have HA : Hid (chkAt (l.drop j) j = chkAt l 0) := had
      have RR : Hid (Rs w wr) := hrs
      clear had hrs
      by_cases hlt : j < l.length
      · have hr : l[j]? = some l[j] := List.getElem?_eq_getElem hlt
        generalize l[j] = r at hr
        obtain ⟨x, o, rfl, g0, g1, g2, g3, g4⟩ := HR.out j r hr
        have k0 := Below.keeps RR.out.b g0
        have k1 := Below.keeps RR.out.b g1
        have k2 := Below.keeps RR.out.b g2
        have k3 := Below.keeps RR.out.b g3
        have k4 := Below.keeps RR.out.b g4
        have HD : Hid (chkAt l 0 = if r.ok then chkAt (l.drop (j + 1)) (j + 1) else some j) := by show _ = _; rw [← HA.out]; exact chkAt_drop hr
        clear g0 g1 g2 g3 g4 hr
        obtain ⟨al, ro, rp, lo, tp⟩ := r
        simp only at k0 k1 k2 k3 k4
        have R1 : Hid (Rs w (wr.alloc (.cells #[.bool al, .bool ro, .int .i64 rp, .int .i64 lo, .int .i64 tp] 83))) := RR.out.below ((Below.refl _ _).alloc (Nat.le_refl _) _)
        have c0 := R1.out.c0
        have c1 := R1.out.c1
        have f0 := R1.out.f0
        have f1 := R1.out.f1
        go_wp2_with fail
        all_goals first
          | (refine ⟨⟨j + 1, by omega, by go_num, ?_, R1.out⟩, by simp [intOf]; omega⟩
             rw [HD.out, if_pos (show Rl.ok ⟨al, ro, rp, lo, tp⟩ by unfold Rl.ok; simp only; omega)])
          | (have hno : ¬ Rl.ok ⟨al, ro, rp, lo, tp⟩ := by unfold Rl.ok; simp only; omega
             have HC : Hid (chkAt l 0 = some j) := by show _ = _; rw [HD.out, if_neg hno]
             clear hno
             exact bodyPost_ret (v := .agg #[.int .i64 2, .int .i64 j]) (by simp [results, Tryz.results11, go_sem, c0, c1]) rfl ⟨by rw [HF.out, HC.out], by
               repeat (first | exact R1.out.b | refine Below.setCell ?_ (by exact Nat.le_refl _) _)⟩)
      · obtain rfl : j = l.length := by omega
        have hf : Hid (chkAt l 0 = none) := by show _ = _; rw [← HA.out, List.drop_length]; rfl
        go_wp2_with fail
        refine (fine_any _).mono ?_
        rintro e w1 ⟨rfl, hb1⟩
        have R1 : Hid (Rs w w1) := RR.out.below hb1
        have c0 := R1.out.c0
        have c1 := R1.out.c1
        have f0 := R1.out.f0
        have f1 := R1.out.f1
        clear hb1
        go_wp2_with fail
        exact bodyPost_ret (v := .agg #[.int .i64 0, .int .i64 (-1)]) (by simp [results, Tryz.results11, go_sem, c0, c1]) rfl ⟨by rw [HF.out, hf.out], by
          repeat (first | exact R1.out.b | refine Below.setCell ?_ (by exact Nat.le_refl _) _)⟩
theorem rfault_any (p : Option Addr) (l : List Rl) (cap : Nat) (w : World) (R : Rul w p l) (hl : l.length ≤ 1000) :
    Calls Tryz.prog 11 #[.slice p l.length cap] w fun e w' => e = .returned (.agg #[.int .i64 (faultOf l).1, .int .i64 (faultOf l).2]) ∧ Below w.heap.size w w' :=
  rfault_big p l cap w R (by omega)
end Go.Proofs.YtifjoboaolpejaaGreatDoor

namespace Go.Proofs.YtifjoboaolpejaaGreatDoor
open Go.RowKit

set_option maxRecDepth 100000 in
set_option maxHeartbeats 2000000 in
theorem aof_any (p : Option Addr) (l : List Rl) (cap : Nat) (pr port : Int) (ou : Bool) (w : World) (R : Rul w p l) (hl : l.length ≤ 1000) :
    Calls Tryz.prog 77 #[.slice p l.length cap, .int .i64 pr, .int .i64 port, .bool ou] w fun e w' => e = .returned (.bool (adm l pr ou port)) ∧ Below w.heap.size w w' := by
  have HR : Hid (Rul w p l) := R
  clear R
  go_enter Tryz.func77, Tryz.ntmps77
  go_wp2_with fail
  go_loopw [9] (fun t wr => ∃ j : Nat, j ≤ l.length ∧ t = .int .i64 j ∧ adm (l.drop j) pr ou port = adm l pr ou port ∧ Below w.heap.size w wr) (fun t _ => l.length - (intOf t).toNat)
  case atStart => exact ⟨0, Nat.zero_le _, rfl, rfl, Below.refl _ _⟩
  case round =>
    obtain ⟨j, hj, rfl, had, hb⟩ := hrel
    have HA : Hid (adm (l.drop j) pr ou port = adm l pr ou port) := had
    have HB : Hid (Below w.heap.size w wr) := hb
    clear had hb
    by_cases hlt : j < l.length
    · have hr : l[j]? = some l[j] := List.getElem?_eq_getElem hlt
      generalize l[j] = r at hr
      obtain ⟨x, o, rfl, g0, g1, g2, g3, g4⟩ := HR.out j r hr
      have k0 := Below.keeps HB.out g0
      have k1 := Below.keeps HB.out g1
      have k2 := Below.keeps HB.out g2
      have k3 := Below.keeps HB.out g3
      have k4 := Below.keeps HB.out g4
      have HD : Hid (adm l pr ou port = if r.has pr ou port = true then r.al else adm (l.drop (j + 1)) pr ou port) := by rw [← HA.out]; exact adm_drop hr _ _ _
      clear g0 g1 g2 g3 g4 hr
      obtain ⟨al, ro, rp, lo, tp⟩ := r
      simp only at k0 k1 k2 k3 k4
      go_wp2_with fail
      all_goals first
        | (go_ret
           refine ⟨?_, HB.out.alloc HB.out.size _⟩
           rw [HD.out, if_pos (has_iff.2 ⟨by first | assumption | rfl, by simp only; first | omega | (have h1 : (rp != 0) = false ∨ (rp != pr) = false := (by assumption); simp only [bne_eq_false_iff_eq] at h1; omega), by simp only; omega, by simp only; omega⟩)]
           rfl)
        | (refine ⟨⟨j + 1, by omega, by go_num, ?_, HB.out.alloc HB.out.size _⟩, by simp [intOf]; omega⟩
           rw [HD.out, if_neg]
           rw [has_iff]
           rintro ⟨a1, a2, a3, a4⟩
           simp only at a1 a2 a3 a4
           first | omega | exact absurd a1 (by assumption) | (have h1 : (rp != 0) = true ∧ (rp != pr) = true := (by assumption); simp only [bne_iff_ne, ne_eq] at h1; omega))
    · obtain rfl : j = l.length := by omega
      have hf : Hid (adm l pr ou port = false) := by show _ = _; rw [← HA.out, List.drop_length]; rfl
      go_wp2_with fail
      go_ret
      refine ⟨?_, HB.out⟩
      rw [hf.out]
      rfl
end Go.Proofs.YtifjoboaolpejaaGreatDoor
