/-
  The document's table: Find and Back.
-/
import Derived.Test.YtifkbafdjkgnoaaDoorTrB
import Derived.Test.YtifkbafdjkgnoaaDoorTbH
namespace Go.Proofs.YtifkbafdjkgnoaaDoor
open Go.RowKit

/-- how the document's table answers a slot. -/
def foundI : Option Nat → Int
  | some k => k
  | none => -1
structure FaB (w : World) (Z : Nat) (fa fp : Int) : Prop where
  c0 : w.cell? ⟨Z, 0, none⟩ = some (.int .i64 fa)
  c1 : w.cell? ⟨Z, 1, none⟩ = some (.int .i64 fp)
theorem FaB.below {w w' : World} {Z : Nat} {fa fp : Int} (h : FaB w Z fa fp) (hb : Below w.heap.size w w') : FaB w' Z fa fp := ⟨tk hb h.c0, tk hb h.c1⟩
set_option maxRecDepth 100000 in
set_option maxHeartbeats 4000000 in
theorem findR_any (m g cap : Nat) (low : Int) (T : Tb) (pr ia ip fa fp : Int) (w : World) (t : RTab w m g cap low T) :
    Calls Tryd.prog 41 #[.pointer (some ⟨m, 0, none⟩), .int .i64 pr, .agg #[.int .i64 ia, .int .i64 ip], .agg #[.int .i64 fa, .int .i64 fp]] w fun e w' => e = .returned (.int .i64 (foundI (fst T (findQ pr ia ip fa fp)))) ∧ Below w.heap.size w w' := by
  have B0 : Hid (Below w.heap.size w ((w.alloc (.cells #[.int .i64 ia, .int .i64 ip] 34)).alloc (.cells #[.int .i64 fa, .int .i64 fp] 34))) := t2 (aB _ _) (aB _ _)
  have F0 : Hid (EnB ((w.alloc (.cells #[.int .i64 ia, .int .i64 ip] 34)).alloc (.cells #[.int .i64 fa, .int .i64 fp] 34)) w.heap.size ia ip fa fp) := enB_new w ia ip fa fp
  have R0 : Hid (RTab ((w.alloc (.cells #[.int .i64 ia, .int .i64 ip] 34)).alloc (.cells #[.int .i64 fa, .int .i64 fp] 34)) m g cap low T) := t.below (t2 (aB _ _) (aB _ _))
  clear t
  go_enter Tryd.func41, Tryd.ntmps41
  go_wp2_with fail
  generalize (w.alloc (.cells #[.int .i64 ia, .int .i64 ip] 34)).alloc (.cells #[.int .i64 fa, .int .i64 fp] 34) = w0 at *
  generalize hZ : w.heap.size = Z at F0 ⊢
  go_loopw [9] (fun t wr => ∃ j : Nat, j ≤ 32 ∧ t = .int .i64 j ∧ (∀ i, i < j → findQ pr ia ip fa fp (T i) = false) ∧ Below w0.heap.size w0 wr) (fun t _ => 32 - (intOf t).toNat)
  case atStart => exact ⟨0, by omega, rfl, fun i hi => by omega, Below.refl _ _⟩
  case round =>
    obtain ⟨j, hj, rfl, hno, hbr⟩ := hrel
    have HN : Hid (∀ i, i < j → findQ pr ia ip fa fp (T i) = false) := hno
    have HB : Hid (Below w0.heap.size w0 wr) := hbr
    have R1 := R0.out.below hbr
    have m1 := R1.c1
    by_cases hlt : j < 32
    · obtain ⟨c, hc⟩ : ∃ c, c = T j := ⟨_, rfl⟩
      have HCj : Hid (c = T j) := hc
      have a2 := R1.sl.at' (i := j) (k := 2) hlt (by omega)
      have a3 := R1.sl.at' (i := j) (k := 3) hlt (by omega)
      have a4 := R1.sl.at' (i := j) (k := 4) hlt (by omega)
      have a5 := R1.sl.at' (i := j) (k := 5) hlt (by omega)
      have a6 := R1.sl.at' (i := j) (k := 6) hlt (by omega)
      have a7 := R1.sl.at' (i := j) (k := 7) hlt (by omega)
      have a8 := R1.sl.at' (i := j) (k := 8) hlt (by omega)
      have a9 := R1.sl.at' (i := j) (k := 9) hlt (by omega)
      rw [← hc] at a2 a3 a4 a5 a6 a7 a8 a9
      simp only [Ce.get] at a2 a3 a4 a5 a6 a7 a8 a9
      have E1 := F0.out.below hbr
      have e0 := E1.c0
      have e1 := E1.c1
      have e2 := E1.c2
      have e3 := E1.c3
      have l0 : Z < wr.heap.size := tlt e0
      have l1 : Z + 1 < wr.heap.size := tlt e2
      have B2 : Hid (∀ o : Obj, Below w0.heap.size w0 (wr.alloc o)) := fun o => t2 hbr (aB _ _)
      clear hno hbr hc R1 E1
      have i0 : (0 : Int) ≤ (j : Int) := by omega
      have i1 : (j : Int) < 32 := by omega
      have q1 : ∀ w : World, (binOp .eql 34 (.agg #[.int .i64 c.ia, .int .i64 c.ip]) (.agg #[.int .i64 ia, .int .i64 ip])).run Tryd.prog w = .ok (.bool (c.ia == ia && c.ip == ip)) w := eql_end _ _ _ _
      have q2 : ∀ w : World, (binOp .eql 34 (.agg #[.int .i64 c.fa, .int .i64 c.fp]) (.agg #[.int .i64 fa, .int .i64 fp])).run Tryd.prog w = .ok (.bool (c.fa == fa && c.fp == fp)) w := eql_end _ _ _ _
      have HQ : Hid (findQ pr ia ip fa fp c = ((c.pr != 0) && ((c.pr == pr) && ((c.ia == ia && c.ip == ip) && (c.fa == fa && c.fp == fp))))) := rfl
      generalize (c.ia == ia && c.ip == ip) = b3 at q1 HQ
      generalize (c.fa == fa && c.fp == fp) = b4 at q2 HQ
      have HNx : Hid (findQ pr ia ip fa fp c = false → ∀ i, i < j + 1 → findQ pr ia ip fa fp (T i) = false) := fun hq i hi => by
        by_cases e : i = j
        · rw [e, ← HCj.out]; exact hq
        · exact HN.out i (by omega)
      rcases h1 : (c.pr != 0) with _ | _
      · rw [h1] at HQ
        go_wp2_with fail
        go_roundw
        case rel => exact ⟨j + 1, by omega, by go_num, HNx.out (by rw [HQ.out]; rfl), B2.out _⟩
        case measure => simp [intOf]; omega
      rcases h2 : (c.pr == pr) with _ | _
      · rw [h1, h2] at HQ
        go_wp2_with fail
        go_roundw
        case rel => exact ⟨j + 1, by omega, by go_num, HNx.out (by rw [HQ.out]; rfl), B2.out _⟩
        case measure => simp [intOf]; omega
      rw [h1, h2] at HQ
      cases b3
      · go_wp2_with fail
        go_roundw
        case rel => exact ⟨j + 1, by omega, by go_num, HNx.out (by rw [HQ.out]; rfl), B2.out _⟩
        case measure => simp [intOf]; omega
      cases b4
      · go_wp2_with fail
        go_roundw
        case rel => exact ⟨j + 1, by omega, by go_num, HNx.out (by rw [HQ.out]; rfl), B2.out _⟩
        case measure => simp [intOf]; omega
      · have HF : Hid (fst T (findQ pr ia ip fa fp) = some j) := fst_some.2 ⟨hlt, by rw [← HCj.out, HQ.out]; rfl, HN.out⟩
        go_wp2_with fail
        go_ret
        refine ⟨by rw [HF.out]; rfl, t2 B0.out (B2.out _)⟩
    · obtain rfl : j = 32 := by omega
      clear hno hbr R1
      go_wp2_with fail
      go_ret
      refine ⟨?_, t2 B0.out HB.out⟩
      rw [fst_none.2 HN.out]
      rfl
set_option maxRecDepth 100000 in
set_option maxHeartbeats 4000000 in
theorem backR_any (m g cap : Nat) (low : Int) (T : Tb) (pr po fa fp : Int) (w : World) (t : RTab w m g cap low T) :
    Calls Tryd.prog 42 #[.pointer (some ⟨m, 0, none⟩), .int .i64 pr, .int .i64 po, .agg #[.int .i64 fa, .int .i64 fp]] w fun e w' => e = .returned (.int .i64 (foundI (fst T (backQ pr po fa fp)))) ∧ Below w.heap.size w w' := by
  have B0 : Hid (Below w.heap.size w (w.alloc (.cells #[.int .i64 fa, .int .i64 fp] 34))) := aB _ _
  have F0 : Hid (FaB (w.alloc (.cells #[.int .i64 fa, .int .i64 fp] 34)) w.heap.size fa fp) := ⟨(nw _ _ _ _).trans rfl, (nw _ _ _ _).trans rfl⟩
  have R0 : Hid (RTab (w.alloc (.cells #[.int .i64 fa, .int .i64 fp] 34)) m g cap low T) := t.below (aB _ _)
  clear t
  go_enter Tryd.func42, Tryd.ntmps42
  go_wp2_with fail
  generalize w.alloc (.cells #[.int .i64 fa, .int .i64 fp] 34) = w0 at *
  generalize hZ : w.heap.size = Z at F0 ⊢
  go_loopw [9] (fun t wr => ∃ j : Nat, j ≤ 32 ∧ t = .int .i64 j ∧ (∀ i, i < j → backQ pr po fa fp (T i) = false) ∧ Below w0.heap.size w0 wr) (fun t _ => 32 - (intOf t).toNat)
  case atStart => exact ⟨0, by omega, rfl, fun i hi => by omega, Below.refl _ _⟩
  case round =>
    obtain ⟨j, hj, rfl, hno, hbr⟩ := hrel
    have HN : Hid (∀ i, i < j → backQ pr po fa fp (T i) = false) := hno
    have HB : Hid (Below w0.heap.size w0 wr) := hbr
    have R1 := R0.out.below hbr
    have m1 := R1.c1
    by_cases hlt : j < 32
    · obtain ⟨c, hc⟩ : ∃ c, c = T j := ⟨_, rfl⟩
      have HCj : Hid (c = T j) := hc
      have a2 := R1.sl.at' (i := j) (k := 2) hlt (by omega)
      have a3 := R1.sl.at' (i := j) (k := 3) hlt (by omega)
      have a4 := R1.sl.at' (i := j) (k := 4) hlt (by omega)
      have a5 := R1.sl.at' (i := j) (k := 5) hlt (by omega)
      have a6 := R1.sl.at' (i := j) (k := 6) hlt (by omega)
      have a7 := R1.sl.at' (i := j) (k := 7) hlt (by omega)
      have a8 := R1.sl.at' (i := j) (k := 8) hlt (by omega)
      have a9 := R1.sl.at' (i := j) (k := 9) hlt (by omega)
      rw [← hc] at a2 a3 a4 a5 a6 a7 a8 a9
      simp only [Ce.get] at a2 a3 a4 a5 a6 a7 a8 a9
      have E1 := F0.out.below hbr
      have e0 := E1.c0
      have e1 := E1.c1
      have l0 : Z < wr.heap.size := tlt e0
      have B2 : Hid (∀ o : Obj, Below w0.heap.size w0 (wr.alloc o)) := fun o => t2 hbr (aB _ _)
      clear hno hbr hc R1 E1
      have i0 : (0 : Int) ≤ (j : Int) := by omega
      have i1 : (j : Int) < 32 := by omega
      have q2 : ∀ w : World, (binOp .eql 34 (.agg #[.int .i64 c.fa, .int .i64 c.fp]) (.agg #[.int .i64 fa, .int .i64 fp])).run Tryd.prog w = .ok (.bool (c.fa == fa && c.fp == fp)) w := eql_end _ _ _ _
      have HQ : Hid (backQ pr po fa fp c = ((c.pr != 0) && ((c.pr == pr) && ((c.po == po) && (c.fa == fa && c.fp == fp))))) := rfl
      generalize (c.fa == fa && c.fp == fp) = b4 at q2 HQ
      have HNx : Hid (backQ pr po fa fp c = false → ∀ i, i < j + 1 → backQ pr po fa fp (T i) = false) := fun hq i hi => by
        by_cases e : i = j
        · rw [e, ← HCj.out]; exact hq
        · exact HN.out i (by omega)
      rcases h1 : (c.pr != 0) with _ | _
      · rw [h1] at HQ
        go_wp2_with fail
        go_roundw
        case rel => exact ⟨j + 1, by omega, by go_num, HNx.out (by rw [HQ.out]; rfl), B2.out _⟩
        case measure => simp [intOf]; omega
      rcases h2 : (c.pr == pr) with _ | _
      · rw [h1, h2] at HQ
        go_wp2_with fail
        go_roundw
        case rel => exact ⟨j + 1, by omega, by go_num, HNx.out (by rw [HQ.out]; rfl), B2.out _⟩
        case measure => simp [intOf]; omega
      rcases h3 : (c.po == po) with _ | _
      · rw [h1, h2, h3] at HQ
        go_wp2_with fail
        go_roundw
        case rel => exact ⟨j + 1, by omega, by go_num, HNx.out (by rw [HQ.out]; rfl), B2.out _⟩
        case measure => simp [intOf]; omega
      rw [h1, h2, h3] at HQ
      cases b4
      · go_wp2_with fail
        go_roundw
        case rel => exact ⟨j + 1, by omega, by go_num, HNx.out (by rw [HQ.out]; rfl), B2.out _⟩
        case measure => simp [intOf]; omega
      · have HF : Hid (fst T (backQ pr po fa fp) = some j) := fst_some.2 ⟨hlt, by rw [← HCj.out, HQ.out]; rfl, HN.out⟩
        go_wp2_with fail
        go_ret
        refine ⟨by rw [HF.out]; rfl, t2 B0.out (B2.out _)⟩
    · obtain rfl : j = 32 := by omega
      clear hno hbr R1
      go_wp2_with fail
      go_ret
      refine ⟨?_, t2 B0.out HB.out⟩
      rw [fst_none.2 HN.out]
      rfl
end Go.Proofs.YtifkbafdjkgnoaaDoor
