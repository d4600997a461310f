/-
  The document's table: FlowError, Drop, Set, lay.
-/
import Derived.Test.YtifkbafdjkgnoaaDoorTrC
namespace Go.Proofs.YtifkbafdjkgnoaaDoor
open Go.RowKit

set_option maxRecDepth 100000 in
set_option maxHeartbeats 2000000 in
theorem flowE_any (m g cap : Nat) (low : Int) (T : Tb) (k : Int) (w : World) (t : RTab w m g cap low T) :
    Calls Tryd.prog 44 #[.pointer (some ⟨m, 0, none⟩), .int .i64 k] w fun e w' => e = .returned (.int .i64 (slotE T k : Nat)) ∧ w' = w := by
  have m1 := t.c1
  by_cases hk : k < 0 ∨ 32 ≤ k
  · have he : Hid (slotE T k = 2) := by show _ = _; unfold slotE; rw [if_pos hk]
    clear t
    by_cases h0 : k < 0
    · clear hk
      go_enter Tryd.func44, Tryd.ntmps44
      go_wp2_with fail
      go_ret
      exact ⟨by rw [he.out]; rfl, rfl⟩
    · have h1 : 32 ≤ k := by omega
      clear hk
      go_enter Tryd.func44, Tryd.ntmps44
      go_wp2_with fail
      go_ret
      exact ⟨by rw [he.out]; rfl, rfl⟩
  · have h0 : ¬ k < 0 := by omega
    have h1 : ¬ 32 ≤ k := by omega
    obtain ⟨j, rfl⟩ : ∃ j : Nat, k = j := ⟨k.toNat, by omega⟩
    have hj : j < 32 := by omega
    have i0 : (0 : Int) ≤ (j : Int) := by omega
    have i1 : (j : Int) < 32 := by omega
    obtain ⟨c, hc⟩ : ∃ c, c = T j := ⟨_, rfl⟩
    have HE : Hid (slotE T (j : Int) = if c.pr = 0 then 4 else 0) := by
      show _ = _
      unfold slotE
      rw [if_neg hk, hc]
      rfl
    have a2 := t.sl.at' (i := j) (k := 2) hj (by omega)
    rw [← hc] at a2
    simp only [Ce.get] at a2
    clear hk hc t
    by_cases hp : c.pr = 0
    · have hpb : (c.pr == 0) = true := beq_iff_eq.2 hp
      rw [if_pos hp] at HE
      clear hp
      go_enter Tryd.func44, Tryd.ntmps44
      go_wp2_with fail
      go_ret
      exact ⟨by rw [HE.out]; rfl, rfl⟩
    · have hpb : (c.pr == 0) = false := beq_eq_false_iff_ne.2 hp
      rw [if_neg hp] at HE
      clear hp
      go_enter Tryd.func44, Tryd.ntmps44
      go_wp2_with fail
      go_ret
      exact ⟨by rw [HE.out]; rfl, rfl⟩
set_option maxRecDepth 100000 in
set_option maxHeartbeats 2000000 in
theorem dropR_any (m g cap : Nat) (low : Int) (T : Tb) (k : Int) (n : Nat) (w : World) (t : RTab w m g cap low T) (hv : Vers T n) (hn : n ≤ 1000000) :
    Calls Tryd.prog 23 #[.pointer (some ⟨m, 0, none⟩), .int .i64 k] w fun e w' => e = .returned (.int .i64 (slotE T k : Nat)) ∧ RTab w' m g cap low (dropT T k) ∧ Chg g w w' := by
  have HT : Hid (RTab w m g cap low T) := t
  have HV : Hid (Vers T n) := hv
  clear t hv
  go_enter Tryd.func23, Tryd.ntmps23
  go_wp2_with fail
  refine (flowE_any m g cap low T k _ HT.out).mono ?_
  rintro e w1 ⟨rfl, rfl⟩
  by_cases he : slotE T k = 0
  · have HE : Hid (slotE T k = 0) := he
    obtain ⟨h0, h1, _⟩ := slotE_ok he
    obtain ⟨j, rfl⟩ : ∃ j : Nat, k = j := ⟨k.toNat, by omega⟩
    have hj : j < 32 := by omega
    rw [he]
    clear he
    go_wp2_with fail
    have hve := HV.out j hj
    refine (change_any m g cap low T j noC _ HT.out hj hve.1 (by omega)).mono ?_
    rintro e w2 ⟨rfl, t2', c2⟩
    have T2 : Hid (RTab w2 m g cap low (dropT T j)) := by
      show RTab w2 m g cap low (dropT T j)
      unfold dropT
      rw [if_pos HE.out, Int.toNat_natCast]
      exact t2'
    have C2 : Hid (Chg g w1 w2) := c2
    clear t2' c2 hve
    go_wp2_with fail
    go_ret
    exact ⟨by rw [HE.out]; rfl, T2.out, C2.out⟩
  · have HE : Hid (slotE T k ≠ 0) := he
    obtain ⟨q, hq⟩ : ∃ q : Nat, slotE T k = q := ⟨_, rfl⟩
    rw [hq] at he ⊢
    have hq0 : ((q : Int) == 0) = false := beq_eq_false_iff_ne.2 (by omega)
    have HQ : Hid (slotE T k = q) := hq
    clear he hq
    go_wp2_with fail
    go_ret
    refine ⟨by rw [HQ.out]; rfl, ?_, Chg.refl _ _⟩
    unfold dropT
    rw [if_neg HE.out]
    exact HT.out
set_option maxRecDepth 100000 in
set_option maxHeartbeats 4000000 in
theorem setR_any (m g cap : Nat) (low : Int) (T : Tb) (k st un : Int) (n : Nat) (w : World) (t : RTab w m g cap low T) (hv : Vers T n) (hn : n ≤ 1000000) :
    Calls Tryd.prog 22 #[.pointer (some ⟨m, 0, none⟩), .int .i64 k, .int .i64 st, .int .i64 un] w fun e w' => e = .returned (.int .i64 (slotE T k : Nat)) ∧ RTab w' m g cap low (setT T k st un) ∧ Chg g w w' := by
  have HT : Hid (RTab w m g cap low T) := t
  have HV : Hid (Vers T n) := hv
  have m1 := t.c1
  clear t hv
  go_enter Tryd.func22, Tryd.ntmps22
  go_wp2_with fail
  refine (flowE_any m g cap low T k _ HT.out).mono ?_
  rintro e w1 ⟨rfl, rfl⟩
  by_cases he : slotE T k = 0
  · have HE : Hid (slotE T k = 0) := he
    obtain ⟨h0, h1, _⟩ := slotE_ok he
    obtain ⟨j, rfl⟩ : ∃ j : Nat, k = j := ⟨k.toNat, by omega⟩
    have hj : j < 32 := by omega
    rw [he]
    clear he
    obtain ⟨c, hc⟩ : ∃ c, c = T j := ⟨_, rfl⟩
    have HC : Hid (c = T j) := hc
    have a2 := HT.out.sl.at' (i := j) (k := 2) hj (by omega)
    have a3 := HT.out.sl.at' (i := j) (k := 3) hj (by omega)
    have a4 := HT.out.sl.at' (i := j) (k := 4) hj (by omega)
    have a5 := HT.out.sl.at' (i := j) (k := 5) hj (by omega)
    have a6 := HT.out.sl.at' (i := j) (k := 6) hj (by omega)
    have a7 := HT.out.sl.at' (i := j) (k := 7) hj (by omega)
    have a8 := HT.out.sl.at' (i := j) (k := 8) hj (by omega)
    have a9 := HT.out.sl.at' (i := j) (k := 9) hj (by omega)
    rw [← hc] at a2 a3 a4 a5 a6 a7 a8 a9
    simp only [Ce.get] at a2 a3 a4 a5 a6 a7 a8 a9
    clear hc
    go_wp2_with fail
    clear a2 a3 a4 a5 a6 a7 a8 a9 m1
    have hve := HV.out j hj
    refine (change_any m g cap low T j ⟨0, c.pr, c.ia, c.ip, c.fa, c.fp, c.po, st, un⟩ _ (HT.out.below (aB _ _)) hj hve.1 (by omega)).mono ?_
    rintro e w2 ⟨rfl, t2', c2⟩
    have T2 : Hid (RTab w2 m g cap low (setT T j st un)) := by
      show RTab w2 m g cap low (setT T j st un)
      unfold setT
      rw [if_pos HE.out, Int.toNat_natCast]
      rw [HC.out] at t2'
      exact t2'
    have C2 : Hid (Chg g w1 w2) := (Chg.of (aB _ _)).trans c2
    clear t2' c2 hve
    go_wp2_with fail
    go_ret
    exact ⟨by rw [HE.out]; rfl, T2.out, C2.out⟩
  · have HE : Hid (slotE T k ≠ 0) := he
    obtain ⟨q, hq⟩ : ∃ q : Nat, slotE T k = q := ⟨_, rfl⟩
    rw [hq] at he ⊢
    have hq0 : ((q : Int) == 0) = false := beq_eq_false_iff_ne.2 (by omega)
    have HQ : Hid (slotE T k = q) := hq
    clear he hq
    go_wp2_with fail
    go_ret
    refine ⟨by rw [HQ.out]; rfl, ?_, Chg.refl _ _⟩
    unfold setT
    rw [if_neg HE.out]
    exact HT.out
/-- what the document's lay makes. -/
def layRT (T : Tb) (c : Ce) : Nat × Nat × Tb :=
  match fst T freeQ with
  | none => (0, 6, T)
  | some k => (k, 0, layT T k c.pr c.ia c.ip c.fa c.fp c.po c.st c.un)
set_option maxRecDepth 100000 in
set_option maxHeartbeats 4000000 in
theorem layR_any (m g cap : Nat) (low : Int) (T : Tb) (c : Ce) (n : Nat) (w : World) (t : RTab w m g cap low T) (hv : Vers T n) (hn : n ≤ 1000000) :
    Calls Tryd.prog 43 #[.pointer (some ⟨m, 0, none⟩), flowV c] w fun e w' => e = .returned (.tuple #[.int .i64 ((layRT T c).1 : Nat), .int .i64 ((layRT T c).2.1 : Nat)]) ∧ RTab w' m g cap low (layRT T c).2.2 ∧ Chg g w w' := by
  have hF : flowV c = .agg #[.int .i64 c.pr, .int .i64 c.ia, .int .i64 c.ip, .int .i64 c.fa, .int .i64 c.fp, .int .i64 c.po, .int .i64 c.st, .int .i64 c.un] := rfl
  rw [hF]
  have B0 : Hid (Below w.heap.size w (w.alloc (.cells #[.int .i64 c.pr, .int .i64 c.ia, .int .i64 c.ip, .int .i64 c.fa, .int .i64 c.fp, .int .i64 c.po, .int .i64 c.st, .int .i64 c.un] 36))) := aB _ _
  have F0 : Hid (FlB (w.alloc (.cells #[.int .i64 c.pr, .int .i64 c.ia, .int .i64 c.ip, .int .i64 c.fa, .int .i64 c.fp, .int .i64 c.po, .int .i64 c.st, .int .i64 c.un] 36)) w.heap.size c) := flB_new w c
  have R0 : Hid (RTab (w.alloc (.cells #[.int .i64 c.pr, .int .i64 c.ia, .int .i64 c.ip, .int .i64 c.fa, .int .i64 c.fp, .int .i64 c.po, .int .i64 c.st, .int .i64 c.un] 36)) m g cap low T) := t.below (aB _ _)
  have HV : Hid (Vers T n) := hv
  clear t hF hv
  go_enter Tryd.func43, Tryd.ntmps43
  go_wp2_with fail
  generalize w.alloc (.cells #[.int .i64 c.pr, .int .i64 c.ia, .int .i64 c.ip, .int .i64 c.fa, .int .i64 c.fp, .int .i64 c.po, .int .i64 c.st, .int .i64 c.un] 36) = w0 at *
  generalize hZ : w.heap.size = Z at F0 ⊢
  go_loopw [6] (fun t wr => ∃ j : Nat, j ≤ 32 ∧ t = .int .i64 j ∧ (∀ i, i < j → freeQ (T i) = false) ∧ wr = w0) (fun t _ => 32 - (intOf t).toNat)
  case atStart => exact ⟨0, by omega, rfl, fun i hi => by omega, rfl⟩
  case round =>
    obtain ⟨j, hj, rfl, hno, rfl⟩ := hrel
    have HN : Hid (∀ i, i < j → freeQ (T i) = false) := hno
    have m1 := R0.out.c1
    clear hno
    by_cases hlt : j < 32
    · have a2 := R0.out.sl.at' (i := j) (k := 2) hlt (by omega)
      simp only [Ce.get] at a2
      have i0 : (0 : Int) ≤ (j : Int) := by omega
      have i1 : (j : Int) < 32 := by omega
      rcases hq : ((T j).pr == 0) with _ | _
      · have HN2 : Hid (∀ i, i < j + 1 → freeQ (T i) = false) := fun i hi => by
          by_cases e : i = j
          · rw [e]; exact hq
          · exact HN.out i (by omega)
        go_wp2_with fail
        go_roundw
        case rel => exact ⟨j + 1, by omega, by go_num, HN2.out, by first | trivial | rfl⟩
        case measure => simp [intOf]; omega
      · have HF : Hid (layRT T c = (j, 0, layT T j c.pr c.ia c.ip c.fa c.fp c.po c.st c.un)) := by
          show _ = _
          unfold layRT
          rw [fst_some.2 ⟨hlt, hq, HN.out⟩]
        have f0 := F0.out.c0
        have f1 := F0.out.c1
        have f2 := F0.out.c2
        have f3 := F0.out.c3
        have f4 := F0.out.c4
        have f5 := F0.out.c5
        have f6 := F0.out.c6
        have f7 := F0.out.c7
        go_wp2_with fail
        clear f0 f1 f2 f3 f4 f5 f6 f7 a2 m1 hq
        have hve := HV.out j hlt
        refine (change_any m g cap low T j c _ R0.out hlt hve.1 (by omega)).mono ?_
        rintro e w2 ⟨rfl, t2', c2⟩
        have T2 : Hid (RTab w2 m g cap low (layT T j c.pr c.ia c.ip c.fa c.fp c.po c.st c.un)) := t2'
        have C2 : Hid (Chg g w w2) := (Chg.of B0.out).trans c2
        clear t2' c2 hve
        go_wp2_with fail
        go_ret2
        rw [HF.out]
        exact ⟨rfl, T2.out, C2.out⟩
    · obtain rfl : j = 32 := by omega
      have HF : Hid (layRT T c = (0, 6, T)) := by
        show _ = _
        unfold layRT
        rw [fst_none.2 HN.out]
      go_wp2_with fail
      go_ret2
      rw [HF.out]
      exact ⟨rfl, R0.out, Chg.of B0.out⟩
end Go.Proofs.YtifkbafdjkgnoaaDoor
