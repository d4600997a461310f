/-
  Package play's act.
-/
import Derived.Test.YtdghkkpncgljoaaGreatDoorPyB
import Derived.Test.YtdghkkpncgljoaaGreatDoorWoG
namespace Go.Proofs.YtdghkkpncgljoaaGreatDoor
open Go.RowKit

/-- what an act leaves. -/
def PacV (w0 w : World) (K : WK) (s : Nat → Addr) (t : Nat) (r : Nat × Wo) (e : Ending) (w' : World) : Prop := e = .returned (terr s r.1) ∧ ∃ K', Wd w0 w' K' r.2 (t + 10) ∧ Mv K K' w w'
theorem PacV.of {w0 w w' : World} {K K' : WK} {s : Nat → Addr} {t t' : Nat} {r : Nat × Wo} {e : Ending} {c : Nat} {V : Wo} (hr : r = (c, V)) (he : e = .returned (terr s c)) (h : Wd w0 w' K' V t') (ht : t' ≤ t + 10) (m : Mv K K' w w') : PacV w0 w K s t r e w' := by
  subst hr
  exact ⟨he, K', h.mono ht, m⟩
theorem pkI_pr (q : Int) : In6 (pkI q).pr := by
  show In6 (prQ q)
  unfold prQ
  split
  · exact In6.small (by omega) (by omega)
  · exact In6.small (by omega) (by omega)
set_option maxRecDepth 100000 in
set_option maxHeartbeats 1000000 in
theorem pact0 {w0 w : World} {K : WK} {W : Wo} {t i : Nat} {s : Nat → Addr} (S : SeM w0 s) (F : PyF w0) (h : Wd w0 w K W t) (hI : In i W) (hi : i ≤ 90000) (ht : t ≤ 2600) (hy : ∀ j, j < 2 → ∃ b, K.yk j = some b) (q : Int) (q0 : 0 ≤ q) (q1 : q ≤ 9223372036854775807) :
    Calls Tryz.prog 48 #[.pointer (some ⟨K.wb, 0, none⟩), .int .i64 q, .int .i64 0] w fun e w' => PacV w0 w K s t (pac W q 0) e w' := by
  have HS : Hid (SeM w0 s) := S
  have HF : Hid (PyF w) := ⟨fun j hj => tk h.bl (F.i j hj), fun j hj => tk h.bl (F.o j hj)⟩
  have HW : Hid (Wd w0 w K W t) := h
  have HI : Hid (In i W ∧ i ≤ 90000 ∧ t ≤ 2600) := ⟨hI, hi, ht⟩
  have HY : Hid (∀ j, j < 2 → ∃ b, K.yk j = some b) := hy
  have n0 : (0 : Int) ≤ q % 2 := by omega
  have n1 : q % 2 < 2 := by omega
  have d0 : (0 : Int) ≤ q / 2 := by omega
  have d1 : (0 : Int) ≤ q / 2 % 30 := by omega
  have d2 : q / 2 % 30 < 30 := by omega
  have HX : Hid (pac W q 0 = (W.flE (W.pk q), W.dlv (W.pk q))) := rfl
  clear S F h hI hi ht hy
  go_enter Tryz.func48, Tryz.ntmps48
  go_wp2_with fail
  refine (pick_any HW.out.wb HW.out.fl q q0 q1).mono ?_
  rintro e w2 ⟨rfl, hw⟩
  obtain rfl := hw.symm
  clear hw
  go_wp2_with fail
  refine (deliver_wd HS.out HW.out (W.pk q)).mono ?_
  rintro e w3 ⟨rfl, K3, wd3, m3⟩
  have R : Hid (PacV w0 w K s t (pac W q 0) (.returned (terr s (W.flE (W.pk q)))) w3) := PacV.of HX.out rfl wd3 (by omega) m3
  clear wd3 m3
  go_wp2_with fail
  go_ret
  exact R.out
set_option maxRecDepth 100000 in
set_option maxHeartbeats 1000000 in
theorem pact1 {w0 w : World} {K : WK} {W : Wo} {t i : Nat} {s : Nat → Addr} (S : SeM w0 s) (F : PyF w0) (h : Wd w0 w K W t) (hI : In i W) (hi : i ≤ 90000) (ht : t ≤ 2600) (hy : ∀ j, j < 2 → ∃ b, K.yk j = some b) (q : Int) (q0 : 0 ≤ q) (q1 : q ≤ 9223372036854775807) :
    Calls Tryz.prog 48 #[.pointer (some ⟨K.wb, 0, none⟩), .int .i64 q, .int .i64 1] w fun e w' => PacV w0 w K s t (pac W q 1) e w' := by
  have HS : Hid (SeM w0 s) := S
  have HF : Hid (PyF w) := ⟨fun j hj => tk h.bl (F.i j hj), fun j hj => tk h.bl (F.o j hj)⟩
  have HW : Hid (Wd w0 w K W t) := h
  have HI : Hid (In i W ∧ i ≤ 90000 ∧ t ≤ 2600) := ⟨hI, hi, ht⟩
  have HY : Hid (∀ j, j < 2 → ∃ b, K.yk j = some b) := hy
  have n0 : (0 : Int) ≤ q % 2 := by omega
  have n1 : q % 2 < 2 := by omega
  have d0 : (0 : Int) ≤ q / 2 := by omega
  have d1 : (0 : Int) ≤ q / 2 % 30 := by omega
  have d2 : q / 2 % 30 < 30 := by omega
  have HX : Hid (pac W q 1 = (W.flE (W.pk q), W.dlv (W.pk q))) := rfl
  clear S F h hI hi ht hy
  go_enter Tryz.func48, Tryz.ntmps48
  go_wp2_with fail
  refine (pick_any HW.out.wb HW.out.fl q q0 q1).mono ?_
  rintro e w2 ⟨rfl, hw⟩
  obtain rfl := hw.symm
  clear hw
  go_wp2_with fail
  refine (deliver_wd HS.out HW.out (W.pk q)).mono ?_
  rintro e w3 ⟨rfl, K3, wd3, m3⟩
  have R : Hid (PacV w0 w K s t (pac W q 1) (.returned (terr s (W.flE (W.pk q)))) w3) := PacV.of HX.out rfl wd3 (by omega) m3
  clear wd3 m3
  go_wp2_with fail
  go_ret
  exact R.out
set_option maxRecDepth 100000 in
set_option maxHeartbeats 1000000 in
theorem pact2 {w0 w : World} {K : WK} {W : Wo} {t i : Nat} {s : Nat → Addr} (S : SeM w0 s) (F : PyF w0) (h : Wd w0 w K W t) (hI : In i W) (hi : i ≤ 90000) (ht : t ≤ 2600) (hy : ∀ j, j < 2 → ∃ b, K.yk j = some b) (q : Int) (q0 : 0 ≤ q) (q1 : q ≤ 9223372036854775807) :
    Calls Tryz.prog 48 #[.pointer (some ⟨K.wb, 0, none⟩), .int .i64 q, .int .i64 2] w fun e w' => PacV w0 w K s t (pac W q 2) e w' := by
  have HS : Hid (SeM w0 s) := S
  have HF : Hid (PyF w) := ⟨fun j hj => tk h.bl (F.i j hj), fun j hj => tk h.bl (F.o j hj)⟩
  have HW : Hid (Wd w0 w K W t) := h
  have HI : Hid (In i W ∧ i ≤ 90000 ∧ t ≤ 2600) := ⟨hI, hi, ht⟩
  have HY : Hid (∀ j, j < 2 → ∃ b, K.yk j = some b) := hy
  have n0 : (0 : Int) ≤ q % 2 := by omega
  have n1 : q % 2 < 2 := by omega
  have d0 : (0 : Int) ≤ q / 2 := by omega
  have d1 : (0 : Int) ≤ q / 2 % 30 := by omega
  have d2 : q / 2 % 30 < 30 := by omega
  have HX : Hid (pac W q 2 = (W.flE (W.pk q), W.dlv (W.pk q))) := rfl
  clear S F h hI hi ht hy
  go_enter Tryz.func48, Tryz.ntmps48
  go_wp2_with fail
  refine (pick_any HW.out.wb HW.out.fl q q0 q1).mono ?_
  rintro e w2 ⟨rfl, hw⟩
  obtain rfl := hw.symm
  clear hw
  go_wp2_with fail
  refine (deliver_wd HS.out HW.out (W.pk q)).mono ?_
  rintro e w3 ⟨rfl, K3, wd3, m3⟩
  have R : Hid (PacV w0 w K s t (pac W q 2) (.returned (terr s (W.flE (W.pk q)))) w3) := PacV.of HX.out rfl wd3 (by omega) m3
  clear wd3 m3
  go_wp2_with fail
  go_ret
  exact R.out
set_option maxRecDepth 100000 in
set_option maxHeartbeats 1000000 in
theorem pact3 {w0 w : World} {K : WK} {W : Wo} {t i : Nat} {s : Nat → Addr} (S : SeM w0 s) (F : PyF w0) (h : Wd w0 w K W t) (hI : In i W) (hi : i ≤ 90000) (ht : t ≤ 2600) (hy : ∀ j, j < 2 → ∃ b, K.yk j = some b) (q : Int) (q0 : 0 ≤ q) (q1 : q ≤ 9223372036854775807) :
    Calls Tryz.prog 48 #[.pointer (some ⟨K.wb, 0, none⟩), .int .i64 q, .int .i64 3] w fun e w' => PacV w0 w K s t (pac W q 3) e w' := by
  have HS : Hid (SeM w0 s) := S
  have HF : Hid (PyF w) := ⟨fun j hj => tk h.bl (F.i j hj), fun j hj => tk h.bl (F.o j hj)⟩
  have HW : Hid (Wd w0 w K W t) := h
  have HI : Hid (In i W ∧ i ≤ 90000 ∧ t ≤ 2600) := ⟨hI, hi, ht⟩
  have HY : Hid (∀ j, j < 2 → ∃ b, K.yk j = some b) := hy
  have n0 : (0 : Int) ≤ q % 2 := by omega
  have n1 : q % 2 < 2 := by omega
  have d0 : (0 : Int) ≤ q / 2 := by omega
  have d1 : (0 : Int) ≤ q / 2 % 30 := by omega
  have d2 : q / 2 % 30 < 30 := by omega
  have HX : Hid (pac W q 3 = (W.flE (W.pk q), W.dropped (W.pk q))) := rfl
  clear S F h hI hi ht hy
  go_enter Tryz.func48, Tryz.ntmps48
  go_wp2_with fail
  refine (pick_any HW.out.wb HW.out.fl q q0 q1).mono ?_
  rintro e w2 ⟨rfl, hw⟩
  obtain rfl := hw.symm
  clear hw
  go_wp2_with fail
  refine (drop_wd HS.out HW.out (W.pk q)).mono ?_
  rintro e w3 ⟨rfl, K3, wd3, m3⟩
  have R : Hid (PacV w0 w K s t (pac W q 3) (.returned (terr s (W.flE (W.pk q)))) w3) := PacV.of HX.out rfl wd3 (by omega) m3
  clear wd3 m3
  go_wp2_with fail
  go_ret
  exact R.out
set_option maxRecDepth 100000 in
set_option maxHeartbeats 1000000 in
theorem pact4 {w0 w : World} {K : WK} {W : Wo} {t i : Nat} {s : Nat → Addr} (S : SeM w0 s) (F : PyF w0) (h : Wd w0 w K W t) (hI : In i W) (hi : i ≤ 90000) (ht : t ≤ 2600) (hy : ∀ j, j < 2 → ∃ b, K.yk j = some b) (q : Int) (q0 : 0 ≤ q) (q1 : q ≤ 9223372036854775807) :
    Calls Tryz.prog 48 #[.pointer (some ⟨K.wb, 0, none⟩), .int .i64 q, .int .i64 4] w fun e w' => PacV w0 w K s t (pac W q 4) e w' := by
  have HS : Hid (SeM w0 s) := S
  have HF : Hid (PyF w) := ⟨fun j hj => tk h.bl (F.i j hj), fun j hj => tk h.bl (F.o j hj)⟩
  have HW : Hid (Wd w0 w K W t) := h
  have HI : Hid (In i W ∧ i ≤ 90000 ∧ t ≤ 2600) := ⟨hI, hi, ht⟩
  have HY : Hid (∀ j, j < 2 → ∃ b, K.yk j = some b) := hy
  have n0 : (0 : Int) ≤ q % 2 := by omega
  have n1 : q % 2 < 2 := by omega
  have d0 : (0 : Int) ≤ q / 2 := by omega
  have d1 : (0 : Int) ≤ q / 2 % 30 := by omega
  have d2 : q / 2 % 30 < 30 := by omega
  have HX : Hid (pac W q 4 = (W.twE (W.pk q), W.twiced (W.pk q))) := rfl
  clear S F h hI hi ht hy
  go_enter Tryz.func48, Tryz.ntmps48
  go_wp2_with fail
  refine (pick_any HW.out.wb HW.out.fl q q0 q1).mono ?_
  rintro e w2 ⟨rfl, hw⟩
  obtain rfl := hw.symm
  clear hw
  go_wp2_with fail
  refine (twice_wd HS.out HW.out (W.pk q)).mono ?_
  rintro e w3 ⟨rfl, K3, wd3, m3⟩
  have R : Hid (PacV w0 w K s t (pac W q 4) (.returned (terr s (W.twE (W.pk q)))) w3) := PacV.of HX.out rfl wd3 (by omega) m3
  clear wd3 m3
  go_wp2_with fail
  go_ret
  exact R.out
set_option maxRecDepth 100000 in
set_option maxHeartbeats 1000000 in
theorem pact5 {w0 w : World} {K : WK} {W : Wo} {t i : Nat} {s : Nat → Addr} (S : SeM w0 s) (F : PyF w0) (h : Wd w0 w K W t) (hI : In i W) (hi : i ≤ 90000) (ht : t ≤ 2600) (hy : ∀ j, j < 2 → ∃ b, K.yk j = some b) (q : Int) (q0 : 0 ≤ q) (q1 : q ≤ 9223372036854775807) :
    Calls Tryz.prog 48 #[.pointer (some ⟨K.wb, 0, none⟩), .int .i64 q, .int .i64 5] w fun e w' => PacV w0 w K s t (pac W q 5) e w' := by
  have HS : Hid (SeM w0 s) := S
  have HF : Hid (PyF w) := ⟨fun j hj => tk h.bl (F.i j hj), fun j hj => tk h.bl (F.o j hj)⟩
  have HW : Hid (Wd w0 w K W t) := h
  have HI : Hid (In i W ∧ i ≤ 90000 ∧ t ≤ 2600) := ⟨hI, hi, ht⟩
  have HY : Hid (∀ j, j < 2 → ∃ b, K.yk j = some b) := hy
  have n0 : (0 : Int) ≤ q % 2 := by omega
  have n1 : q % 2 < 2 := by omega
  have d0 : (0 : Int) ≤ q / 2 := by omega
  have d1 : (0 : Int) ≤ q / 2 % 30 := by omega
  have d2 : q / 2 % 30 < 30 := by omega
  have HX : Hid (pac W q 5 = (W.tcE (q % 2), W.tcd (q % 2))) := rfl
  clear S F h hI hi ht hy
  go_enter Tryz.func48, Tryz.ntmps48
  go_wp2_with fail
  refine (tick_wd HS.out HW.out (by have := HI.out; omega) (q % 2) (fun j y _ hy => (HI.out.1.up j y hy).tkE (by have := HI.out; omega))).mono ?_
  rintro e w3 ⟨rfl, K3, wd3, m3⟩
  have R : Hid (PacV w0 w K s t (pac W q 5) (.returned (terr s (W.tcE (q % 2)))) w3) := PacV.of HX.out rfl wd3 (by omega) m3
  clear wd3 m3
  go_wp2_with fail
  go_ret
  exact R.out
set_option maxRecDepth 100000 in
set_option maxHeartbeats 1000000 in
theorem pact6 {w0 w : World} {K : WK} {W : Wo} {t i : Nat} {s : Nat → Addr} (S : SeM w0 s) (F : PyF w0) (h : Wd w0 w K W t) (hI : In i W) (hi : i ≤ 90000) (ht : t ≤ 2600) (hy : ∀ j, j < 2 → ∃ b, K.yk j = some b) (q : Int) (q0 : 0 ≤ q) (q1 : q ≤ 9223372036854775807) :
    Calls Tryz.prog 48 #[.pointer (some ⟨K.wb, 0, none⟩), .int .i64 q, .int .i64 6] w fun e w' => PacV w0 w K s t (pac W q 6) e w' := by
  have HS : Hid (SeM w0 s) := S
  have HF : Hid (PyF w) := ⟨fun j hj => tk h.bl (F.i j hj), fun j hj => tk h.bl (F.o j hj)⟩
  have HW : Hid (Wd w0 w K W t) := h
  have HI : Hid (In i W ∧ i ≤ 90000 ∧ t ≤ 2600) := ⟨hI, hi, ht⟩
  have HY : Hid (∀ j, j < 2 → ∃ b, K.yk j = some b) := hy
  have n0 : (0 : Int) ≤ q % 2 := by omega
  have n1 : q % 2 < 2 := by omega
  have d0 : (0 : Int) ≤ q / 2 := by omega
  have d1 : (0 : Int) ≤ q / 2 % 30 := by omega
  have d2 : q / 2 % 30 < 30 := by omega
  have HX : Hid (pac W q 6 = (W.tcE (q % 2), W.tcd (q % 2))) := rfl
  clear S F h hI hi ht hy
  go_enter Tryz.func48, Tryz.ntmps48
  go_wp2_with fail
  refine (tick_wd HS.out HW.out (by have := HI.out; omega) (q % 2) (fun j y _ hy => (HI.out.1.up j y hy).tkE (by have := HI.out; omega))).mono ?_
  rintro e w3 ⟨rfl, K3, wd3, m3⟩
  have R : Hid (PacV w0 w K s t (pac W q 6) (.returned (terr s (W.tcE (q % 2)))) w3) := PacV.of HX.out rfl wd3 (by omega) m3
  clear wd3 m3
  go_wp2_with fail
  go_ret
  exact R.out
set_option maxRecDepth 100000 in
set_option maxHeartbeats 1000000 in
theorem pact7 {w0 w : World} {K : WK} {W : Wo} {t i : Nat} {s : Nat → Addr} (S : SeM w0 s) (F : PyF w0) (h : Wd w0 w K W t) (hI : In i W) (hi : i ≤ 90000) (ht : t ≤ 2600) (hy : ∀ j, j < 2 → ∃ b, K.yk j = some b) (q : Int) (q0 : 0 ≤ q) (q1 : q ≤ 9223372036854775807) :
    Calls Tryz.prog 48 #[.pointer (some ⟨K.wb, 0, none⟩), .int .i64 q, .int .i64 7] w fun e w' => PacV w0 w K s t (pac W q 7) e w' := by
  have HS : Hid (SeM w0 s) := S
  have HF : Hid (PyF w) := ⟨fun j hj => tk h.bl (F.i j hj), fun j hj => tk h.bl (F.o j hj)⟩
  have HW : Hid (Wd w0 w K W t) := h
  have HI : Hid (In i W ∧ i ≤ 90000 ∧ t ≤ 2600) := ⟨hI, hi, ht⟩
  have HY : Hid (∀ j, j < 2 → ∃ b, K.yk j = some b) := hy
  have n0 : (0 : Int) ≤ q % 2 := by omega
  have n1 : q % 2 < 2 := by omega
  have d0 : (0 : Int) ≤ q / 2 := by omega
  have d1 : (0 : Int) ≤ q / 2 % 30 := by omega
  have d2 : q / 2 % 30 < 30 := by omega
  have HX : Hid (pac W q 7 = wt (q % 2) 10 W) := rfl
  clear S F h hI hi ht hy
  go_enter Tryz.func48, Tryz.ntmps48
  go_wp2_with fail
  refine (wait_wd HS.out HW.out HI.out.1 HI.out.2.1 HI.out.2.2 (q % 2)).mono ?_
  rintro e w3 ⟨rfl, K3, wd3, m3⟩
  have R : Hid (PacV w0 w K s t (pac W q 7) (.returned (terr s (wt (q % 2) 10 W).1)) w3) := PacV.of (c := (wt (q % 2) 10 W).1) (V := (wt (q % 2) 10 W).2) HX.out rfl wd3 (by omega) m3
  clear wd3 m3
  go_wp2_with fail
  go_ret
  exact R.out
set_option maxRecDepth 100000 in
set_option maxHeartbeats 1000000 in
theorem pact8 {w0 w : World} {K : WK} {W : Wo} {t i : Nat} {s : Nat → Addr} (S : SeM w0 s) (F : PyF w0) (h : Wd w0 w K W t) (hI : In i W) (hi : i ≤ 90000) (ht : t ≤ 2600) (hy : ∀ j, j < 2 → ∃ b, K.yk j = some b) (q : Int) (q0 : 0 ≤ q) (q1 : q ≤ 9223372036854775807) :
    Calls Tryz.prog 48 #[.pointer (some ⟨K.wb, 0, none⟩), .int .i64 q, .int .i64 8] w fun e w' => PacV w0 w K s t (pac W q 8) e w' := by
  have HS : Hid (SeM w0 s) := S
  have HF : Hid (PyF w) := ⟨fun j hj => tk h.bl (F.i j hj), fun j hj => tk h.bl (F.o j hj)⟩
  have HW : Hid (Wd w0 w K W t) := h
  have HI : Hid (In i W ∧ i ≤ 90000 ∧ t ≤ 2600) := ⟨hI, hi, ht⟩
  have HY : Hid (∀ j, j < 2 → ∃ b, K.yk j = some b) := hy
  have n0 : (0 : Int) ≤ q % 2 := by omega
  have n1 : q % 2 < 2 := by omega
  have d0 : (0 : Int) ≤ q / 2 := by omega
  have d1 : (0 : Int) ≤ q / 2 % 30 := by omega
  have d2 : q / 2 % 30 < 30 := by omega
  have HX : Hid (pac W q 8 = (W.inE (pkI q), W.ins (pkI q))) := rfl
  clear S F h hI hi ht hy
  go_enter Tryz.func48, Tryz.ntmps48
  go_wp2_with fail
  refine (fromInside_any q q0 q1 w HF.out).mono ?_
  rintro e w2 ⟨rfl, b2⟩
  have B2 : Hid (Below w.heap.size w w2) := b2
  have W2 : Hid (Wd w0 w2 K W t) := HW.out.below b2
  clear b2
  go_wp2_with fail
  refine (inside_wd HS.out W2.out (by have := HI.out; omega) (pkI q) (pkI_pr q)).mono ?_
  rintro e w3 ⟨rfl, wd3, m3⟩
  have R : Hid (∀ u, Below w3.heap.size w3 u → PacV w0 w K s t (pac W q 8) (.returned (terr s (W.inE (pkI q)))) u) := fun u hu => PacV.of HX.out rfl (wd3.below hu) (by omega) (((Mv.of B2.out).trans m3).then hu)
  clear wd3 m3
  generalize W.inP (pkI q) = x3
  obtain ⟨x0, x1, x2, x4, x5, x6⟩ := x3
  go_wp2_with fail
  go_ret
  exact R.out _ (aB _ _)
set_option maxRecDepth 100000 in
set_option maxHeartbeats 1000000 in
theorem pact9 {w0 w : World} {K : WK} {W : Wo} {t i : Nat} {s : Nat → Addr} (S : SeM w0 s) (F : PyF w0) (h : Wd w0 w K W t) (hI : In i W) (hi : i ≤ 90000) (ht : t ≤ 2600) (hy : ∀ j, j < 2 → ∃ b, K.yk j = some b) (q : Int) (q0 : 0 ≤ q) (q1 : q ≤ 9223372036854775807) :
    Calls Tryz.prog 48 #[.pointer (some ⟨K.wb, 0, none⟩), .int .i64 q, .int .i64 9] w fun e w' => PacV w0 w K s t (pac W q 9) e w' := by
  have HS : Hid (SeM w0 s) := S
  have HF : Hid (PyF w) := ⟨fun j hj => tk h.bl (F.i j hj), fun j hj => tk h.bl (F.o j hj)⟩
  have HW : Hid (Wd w0 w K W t) := h
  have HI : Hid (In i W ∧ i ≤ 90000 ∧ t ≤ 2600) := ⟨hI, hi, ht⟩
  have HY : Hid (∀ j, j < 2 → ∃ b, K.yk j = some b) := hy
  have n0 : (0 : Int) ≤ q % 2 := by omega
  have n1 : q % 2 < 2 := by omega
  have d0 : (0 : Int) ≤ q / 2 := by omega
  have d1 : (0 : Int) ≤ q / 2 % 30 := by omega
  have d2 : q / 2 % 30 < 30 := by omega
  have HX : Hid (pac W q 9 = (W.inE (pkI q), W.ins (pkI q))) := rfl
  clear S F h hI hi ht hy
  go_enter Tryz.func48, Tryz.ntmps48
  go_wp2_with fail
  refine (fromInside_any q q0 q1 w HF.out).mono ?_
  rintro e w2 ⟨rfl, b2⟩
  have B2 : Hid (Below w.heap.size w w2) := b2
  have W2 : Hid (Wd w0 w2 K W t) := HW.out.below b2
  clear b2
  go_wp2_with fail
  refine (inside_wd HS.out W2.out (by have := HI.out; omega) (pkI q) (pkI_pr q)).mono ?_
  rintro e w3 ⟨rfl, wd3, m3⟩
  have R : Hid (∀ u, Below w3.heap.size w3 u → PacV w0 w K s t (pac W q 9) (.returned (terr s (W.inE (pkI q)))) u) := fun u hu => PacV.of HX.out rfl (wd3.below hu) (by omega) (((Mv.of B2.out).trans m3).then hu)
  clear wd3 m3
  generalize W.inP (pkI q) = x3
  obtain ⟨x0, x1, x2, x4, x5, x6⟩ := x3
  go_wp2_with fail
  go_ret
  exact R.out _ (aB _ _)
set_option maxRecDepth 100000 in
set_option maxHeartbeats 1000000 in
theorem pact10 {w0 w : World} {K : WK} {W : Wo} {t i : Nat} {s : Nat → Addr} (S : SeM w0 s) (F : PyF w0) (h : Wd w0 w K W t) (hI : In i W) (hi : i ≤ 90000) (ht : t ≤ 2600) (hy : ∀ j, j < 2 → ∃ b, K.yk j = some b) (q : Int) (q0 : 0 ≤ q) (q1 : q ≤ 9223372036854775807) :
    Calls Tryz.prog 48 #[.pointer (some ⟨K.wb, 0, none⟩), .int .i64 q, .int .i64 10] w fun e w' => PacV w0 w K s t (pac W q 10) e w' := by
  have HS : Hid (SeM w0 s) := S
  have HF : Hid (PyF w) := ⟨fun j hj => tk h.bl (F.i j hj), fun j hj => tk h.bl (F.o j hj)⟩
  have HW : Hid (Wd w0 w K W t) := h
  have HI : Hid (In i W ∧ i ≤ 90000 ∧ t ≤ 2600) := ⟨hI, hi, ht⟩
  have HY : Hid (∀ j, j < 2 → ∃ b, K.yk j = some b) := hy
  have n0 : (0 : Int) ≤ q % 2 := by omega
  have n1 : q % 2 < 2 := by omega
  have d0 : (0 : Int) ≤ q / 2 := by omega
  have d1 : (0 : Int) ≤ q / 2 % 30 := by omega
  have d2 : q / 2 % 30 < 30 := by omega
  have HX : Hid (pac W q 10 = (W.otE (pkO q), W.ots (pkO q))) := rfl
  clear S F h hI hi ht hy
  go_enter Tryz.func48, Tryz.ntmps48
  go_wp2_with fail
  refine (fromOutside_any q q0 q1 w HF.out).mono ?_
  rintro e w2 ⟨rfl, b2⟩
  have B2 : Hid (Below w.heap.size w w2) := b2
  have W2 : Hid (Wd w0 w2 K W t) := HW.out.below b2
  clear b2
  go_wp2_with fail
  refine (outside_wd HS.out W2.out (by have := HI.out; omega) (pkO q)).mono ?_
  rintro e w3 ⟨rfl, wd3, m3⟩
  have R : Hid (∀ u, Below w3.heap.size w3 u → PacV w0 w K s t (pac W q 10) (.returned (terr s (W.otE (pkO q)))) u) := fun u hu => PacV.of HX.out rfl (wd3.below hu) (by omega) (((Mv.of B2.out).trans m3).then hu)
  clear wd3 m3
  generalize W.otP (pkO q) = x3
  obtain ⟨x0, x1, x2, x4, x5, x6⟩ := x3
  go_wp2_with fail
  go_ret
  exact R.out _ (aB _ _)
set_option maxRecDepth 100000 in
set_option maxHeartbeats 1000000 in
theorem pact11 {w0 w : World} {K : WK} {W : Wo} {t i : Nat} {s : Nat → Addr} (S : SeM w0 s) (F : PyF w0) (h : Wd w0 w K W t) (hI : In i W) (hi : i ≤ 90000) (ht : t ≤ 2600) (hy : ∀ j, j < 2 → ∃ b, K.yk j = some b) (q : Int) (q0 : 0 ≤ q) (q1 : q ≤ 9223372036854775807) :
    Calls Tryz.prog 48 #[.pointer (some ⟨K.wb, 0, none⟩), .int .i64 q, .int .i64 11] w fun e w' => PacV w0 w K s t (pac W q 11) e w' := by
  have HS : Hid (SeM w0 s) := S
  have HF : Hid (PyF w) := ⟨fun j hj => tk h.bl (F.i j hj), fun j hj => tk h.bl (F.o j hj)⟩
  have HW : Hid (Wd w0 w K W t) := h
  have HI : Hid (In i W ∧ i ≤ 90000 ∧ t ≤ 2600) := ⟨hI, hi, ht⟩
  have HY : Hid (∀ j, j < 2 → ∃ b, K.yk j = some b) := hy
  have n0 : (0 : Int) ≤ q % 2 := by omega
  have n1 : q % 2 < 2 := by omega
  have d0 : (0 : Int) ≤ q / 2 := by omega
  have d1 : (0 : Int) ≤ q / 2 % 30 := by omega
  have d2 : q / 2 % 30 < 30 := by omega
  have HX : Hid (pac W q 11 = (W.otE (pkO q), W.ots (pkO q))) := rfl
  clear S F h hI hi ht hy
  go_enter Tryz.func48, Tryz.ntmps48
  go_wp2_with fail
  refine (fromOutside_any q q0 q1 w HF.out).mono ?_
  rintro e w2 ⟨rfl, b2⟩
  have B2 : Hid (Below w.heap.size w w2) := b2
  have W2 : Hid (Wd w0 w2 K W t) := HW.out.below b2
  clear b2
  go_wp2_with fail
  refine (outside_wd HS.out W2.out (by have := HI.out; omega) (pkO q)).mono ?_
  rintro e w3 ⟨rfl, wd3, m3⟩
  have R : Hid (∀ u, Below w3.heap.size w3 u → PacV w0 w K s t (pac W q 11) (.returned (terr s (W.otE (pkO q)))) u) := fun u hu => PacV.of HX.out rfl (wd3.below hu) (by omega) (((Mv.of B2.out).trans m3).then hu)
  clear wd3 m3
  generalize W.otP (pkO q) = x3
  obtain ⟨x0, x1, x2, x4, x5, x6⟩ := x3
  go_wp2_with fail
  go_ret
  exact R.out _ (aB _ _)
set_option maxRecDepth 100000 in
set_option maxHeartbeats 1000000 in
theorem pact12 {w0 w : World} {K : WK} {W : Wo} {t i : Nat} {s : Nat → Addr} (S : SeM w0 s) (F : PyF w0) (h : Wd w0 w K W t) (hI : In i W) (hi : i ≤ 90000) (ht : t ≤ 2600) (hy : ∀ j, j < 2 → ∃ b, K.yk j = some b) (q : Int) (q0 : 0 ≤ q) (q1 : q ≤ 9223372036854775807) :
    Calls Tryz.prog 48 #[.pointer (some ⟨K.wb, 0, none⟩), .int .i64 q, .int .i64 12] w fun e w' => PacV w0 w K s t (pac W q 12) e w' := by
  have HS : Hid (SeM w0 s) := S
  have HF : Hid (PyF w) := ⟨fun j hj => tk h.bl (F.i j hj), fun j hj => tk h.bl (F.o j hj)⟩
  have HW : Hid (Wd w0 w K W t) := h
  have HI : Hid (In i W ∧ i ≤ 90000 ∧ t ≤ 2600) := ⟨hI, hi, ht⟩
  have HY : Hid (∀ j, j < 2 → ∃ b, K.yk j = some b) := hy
  have n0 : (0 : Int) ≤ q % 2 := by omega
  have n1 : q % 2 < 2 := by omega
  have d0 : (0 : Int) ≤ q / 2 := by omega
  have d1 : (0 : Int) ≤ q / 2 % 30 := by omega
  have d2 : q / 2 % 30 < 30 := by omega
  have HX : Hid (pac W q 12 = (W.upE (q % 2), W.downed (q % 2))) := rfl
  clear S F h hI hi ht hy
  go_enter Tryz.func48, Tryz.ntmps48
  go_wp2_with fail
  refine (down_wd HS.out HW.out (q % 2)).mono ?_
  rintro e w3 ⟨rfl, K3, wd3, m3⟩
  have R : Hid (PacV w0 w K s t (pac W q 12) (.returned (terr s (W.upE (q % 2)))) w3) := PacV.of HX.out rfl wd3 (by omega) m3
  clear wd3 m3
  go_wp2_with fail
  go_ret
  exact R.out
set_option maxRecDepth 100000 in
set_option maxHeartbeats 1000000 in
theorem pact13 {w0 w : World} {K : WK} {W : Wo} {t i : Nat} {s : Nat → Addr} (S : SeM w0 s) (F : PyF w0) (h : Wd w0 w K W t) (hI : In i W) (hi : i ≤ 90000) (ht : t ≤ 2600) (hy : ∀ j, j < 2 → ∃ b, K.yk j = some b) (q : Int) (q0 : 0 ≤ q) (q1 : q ≤ 9223372036854775807) :
    Calls Tryz.prog 48 #[.pointer (some ⟨K.wb, 0, none⟩), .int .i64 q, .int .i64 13] w fun e w' => PacV w0 w K s t (pac W q 13) e w' := by
  have HS : Hid (SeM w0 s) := S
  have HF : Hid (PyF w) := ⟨fun j hj => tk h.bl (F.i j hj), fun j hj => tk h.bl (F.o j hj)⟩
  have HW : Hid (Wd w0 w K W t) := h
  have HI : Hid (In i W ∧ i ≤ 90000 ∧ t ≤ 2600) := ⟨hI, hi, ht⟩
  have HY : Hid (∀ j, j < 2 → ∃ b, K.yk j = some b) := hy
  have n0 : (0 : Int) ≤ q % 2 := by omega
  have n1 : q % 2 < 2 := by omega
  have d0 : (0 : Int) ≤ q / 2 := by omega
  have d1 : (0 : Int) ≤ q / 2 % 30 := by omega
  have d2 : q / 2 % 30 < 30 := by omega
  have HX : Hid (pac W q 13 = (W.roE (q % 2), W.upped (q % 2))) := rfl
  clear S F h hI hi ht hy
  go_enter Tryz.func48, Tryz.ntmps48
  go_wp2_with fail
  refine (rup_wd HS.out HW.out (q % 2) (fun j ej hj hn => by obtain ⟨b, hb⟩ := HY.out j hj; exact ⟨b, hb, (HI.out.1.dn j hj hn).newOk (by have := HI.out; omega) hj HW.out.ro⟩)).mono ?_
  rintro e w3 ⟨rfl, K3, wd3, m3⟩
  have R : Hid (PacV w0 w K s t (pac W q 13) (.returned (terr s (W.roE (q % 2)))) w3) := PacV.of HX.out rfl wd3 (by omega) m3
  clear wd3 m3
  go_wp2_with fail
  go_ret
  exact R.out
set_option maxRecDepth 100000 in
set_option maxHeartbeats 1000000 in
theorem pact14 {w0 w : World} {K : WK} {W : Wo} {t i : Nat} {s : Nat → Addr} (S : SeM w0 s) (F : PyF w0) (h : Wd w0 w K W t) (hI : In i W) (hi : i ≤ 90000) (ht : t ≤ 2600) (hy : ∀ j, j < 2 → ∃ b, K.yk j = some b) (q : Int) (q0 : 0 ≤ q) (q1 : q ≤ 9223372036854775807) :
    Calls Tryz.prog 48 #[.pointer (some ⟨K.wb, 0, none⟩), .int .i64 q, .int .i64 14] w fun e w' => PacV w0 w K s t (pac W q 14) e w' := by
  have HS : Hid (SeM w0 s) := S
  have HF : Hid (PyF w) := ⟨fun j hj => tk h.bl (F.i j hj), fun j hj => tk h.bl (F.o j hj)⟩
  have HW : Hid (Wd w0 w K W t) := h
  have HI : Hid (In i W ∧ i ≤ 90000 ∧ t ≤ 2600) := ⟨hI, hi, ht⟩
  have HY : Hid (∀ j, j < 2 → ∃ b, K.yk j = some b) := hy
  have n0 : (0 : Int) ≤ q % 2 := by omega
  have n1 : q % 2 < 2 := by omega
  have d0 : (0 : Int) ≤ q / 2 := by omega
  have d1 : (0 : Int) ≤ q / 2 % 30 := by omega
  have d2 : q / 2 % 30 < 30 := by omega
  have HX : Hid (pac W q 14 = (W.ctE (q % 2) (q / 2 % 30), W.cutted (q % 2) (q / 2 % 30))) := rfl
  clear S F h hI hi ht hy
  go_enter Tryz.func48, Tryz.ntmps48
  go_wp2_with fail
  refine (cut_wd HS.out HW.out (q % 2) (q / 2 % 30) (by omega)).mono ?_
  rintro e w3 ⟨rfl, wd3, m3⟩
  have R : Hid (PacV w0 w K s t (pac W q 14) (.returned (terr s (W.ctE (q % 2) (q / 2 % 30)))) w3) := PacV.of HX.out rfl wd3 (by omega) m3
  clear wd3 m3
  go_wp2_with fail
  go_ret
  exact R.out
set_option maxRecDepth 100000 in
set_option maxHeartbeats 1000000 in
theorem pact15 {w0 w : World} {K : WK} {W : Wo} {t i : Nat} {s : Nat → Addr} (S : SeM w0 s) (F : PyF w0) (h : Wd w0 w K W t) (hI : In i W) (hi : i ≤ 90000) (ht : t ≤ 2600) (hy : ∀ j, j < 2 → ∃ b, K.yk j = some b) (q : Int) (q0 : 0 ≤ q) (q1 : q ≤ 9223372036854775807) :
    Calls Tryz.prog 48 #[.pointer (some ⟨K.wb, 0, none⟩), .int .i64 q, .int .i64 15] w fun e w' => PacV w0 w K s t (pac W q 15) e w' := by
  have HS : Hid (SeM w0 s) := S
  have HF : Hid (PyF w) := ⟨fun j hj => tk h.bl (F.i j hj), fun j hj => tk h.bl (F.o j hj)⟩
  have HW : Hid (Wd w0 w K W t) := h
  have HI : Hid (In i W ∧ i ≤ 90000 ∧ t ≤ 2600) := ⟨hI, hi, ht⟩
  have HY : Hid (∀ j, j < 2 → ∃ b, K.yk j = some b) := hy
  have n0 : (0 : Int) ≤ q % 2 := by omega
  have n1 : q % 2 < 2 := by omega
  have d0 : (0 : Int) ≤ q / 2 := by omega
  have d1 : (0 : Int) ≤ q / 2 % 30 := by omega
  have d2 : q / 2 % 30 < 30 := by omega
  have HX : Hid (pac W q 15 = (0, W)) := rfl
  clear S F h hI hi ht hy
  go_enter Tryz.func48, Tryz.ntmps48
  go_wp2_with fail
  go_ret
  exact PacV.of HX.out rfl HW.out (by omega) (Mv.of (Below.refl _ _))
theorem pact_any {w0 w : World} {K : WK} {W : Wo} {t i : Nat} {s : Nat → Addr} (S : SeM w0 s) (F : PyF w0) (h : Wd w0 w K W t) (hI : In i W) (hi : i ≤ 90000) (ht : t ≤ 2600) (hy : ∀ j, j < 2 → ∃ b, K.yk j = some b) (q : Int) (q0 : 0 ≤ q) (q1 : q ≤ 9223372036854775807) (k : Int) (k0 : 0 ≤ k) (k1 : k < 16) :
    Calls Tryz.prog 48 #[.pointer (some ⟨K.wb, 0, none⟩), .int .i64 q, .int .i64 k] w fun e w' => PacV w0 w K s t (pac W q k) e w' := by
  have hk : k = 0 ∨ k = 1 ∨ k = 2 ∨ k = 3 ∨ k = 4 ∨ k = 5 ∨ k = 6 ∨ k = 7 ∨ k = 8 ∨ k = 9 ∨ k = 10 ∨ k = 11 ∨ k = 12 ∨ k = 13 ∨ k = 14 ∨ k = 15 := by omega
  rcases hk with rfl | rfl | rfl | rfl | rfl | rfl | rfl | rfl | rfl | rfl | rfl | rfl | rfl | rfl | rfl | rfl
  · exact pact0 S F h hI hi ht hy q q0 q1
  · exact pact1 S F h hI hi ht hy q q0 q1
  · exact pact2 S F h hI hi ht hy q q0 q1
  · exact pact3 S F h hI hi ht hy q q0 q1
  · exact pact4 S F h hI hi ht hy q q0 q1
  · exact pact5 S F h hI hi ht hy q q0 q1
  · exact pact6 S F h hI hi ht hy q q0 q1
  · exact pact7 S F h hI hi ht hy q q0 q1
  · exact pact8 S F h hI hi ht hy q q0 q1
  · exact pact9 S F h hI hi ht hy q q0 q1
  · exact pact10 S F h hI hi ht hy q q0 q1
  · exact pact11 S F h hI hi ht hy q q0 q1
  · exact pact12 S F h hI hi ht hy q q0 q1
  · exact pact13 S F h hI hi ht hy q q0 q1
  · exact pact14 S F h hI hi ht hy q q0 q1
  · exact pact15 S F h hI hi ht hy q q0 q1
end Go.Proofs.YtdghkkpncgljoaaGreatDoor
