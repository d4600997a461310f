/-
  Package teller's New; slices.ContainsFunc with the function of fill.
-/
import Derived.Test.YtifkbafdjkgnoaaDoorTeC
namespace Go.Proofs.YtifkbafdjkgnoaaDoor
open Go.RowKit Go.Maps

set_option maxRecDepth 100000 in
set_option maxHeartbeats 4000000 in
theorem tnew_any (b : Nat) (w : World) :
    Calls Tryd.prog 8 #[.pointer (some ⟨b, 0, none⟩)] w fun e w' => (∃ X M, e = .returned (.pointer (some ⟨X, 0, none⟩)) ∧ w.heap.size ≤ X ∧ w.heap.size ≤ M ∧ Tel w' X b M 0 (fun _ => 0) 0) ∧ Below w.heap.size w w' := by
  have hmm := @run_makeMap Tryd.prog
  go_enter Tryd.func8, Tryd.ntmps8
  go_wp2_with fail
  go_ret
  have hz : (w.alloc (.map #[] 0)).heap.size = w.heap.size + 1 := by simp
  have n1 := nw (w.alloc (.map #[] 0)) #[.pointer (some ⟨b, 0, none⟩), .map (some w.heap.size), .int .i64 0] 65
  rw [hz] at n1
  refine ⟨⟨w.heap.size + 1, w.heap.size, rfl, by omega, by omega, ⟨(n1 0).trans rfl, (n1 1).trans rfl, (n1 2).trans rfl, ?_, (told_new w).below (aB _ _), by omega, by omega⟩⟩, t2 (aB _ _) (aB _ _)⟩
  rw [← hz]
  exact frozen_of_row _ _ _ _ _ (heap_alloc_new _ _)
abbrev fillFn (V : Nat) : Value := .func (.func 53) #[] #[.pointer (some ⟨V, 0, none⟩)]
set_option maxRecDepth 100000 in
set_option maxHeartbeats 2000000 in
theorem fillF_any (V : Nat) (T : Tb) (r s : Nat) (w : World) (V0 : w.cell? ⟨V, 0, none⟩ = some (.int .i64 s)) :
    Calls Tryd.prog 53 #[.agg #[.int .i64 r, .int .i64 (T r).ve, .int .i64 (T r).pr, .int .i64 (T r).ia, .int .i64 (T r).ip, .int .i64 (T r).fa, .int .i64 (T r).fp, .int .i64 (T r).po, .int .i64 (T r).st, .int .i64 (T r).un], .pointer (some ⟨V, 0, none⟩)] w fun e w' => e = .returned (.bool (r == s)) ∧ Below w.heap.size w w' := by
  have hvl := tlt V0
  simp only at hvl
  go_enter Tryd.func53, Tryd.ntmps53
  go_wp2_with fail
  go_ret
  refine ⟨?_, aB _ _⟩
  have : ((r : Int) == (s : Int)) = (r == s) := by
    by_cases h : r = s
    · subst h; simp
    · rw [beq_eq_false_iff_ne.2 h, beq_eq_false_iff_ne.2 (by omega)]
  rw [← this]
  rfl
set_option maxRecDepth 100000 in
set_option maxHeartbeats 2000000 in
theorem findex_any (V Z : Nat) (T : Tb) (L : List Nat) (s : Nat) (w : World) (V0 : w.cell? ⟨V, 0, none⟩ = some (.int .i64 s)) (R : RowsB w Z T L) (hl : L.length ≤ 8) :
    Calls Tryd.prog 54 #[.slice (some ⟨Z, 0, none⟩) L.length 8, fillFn V] w fun e w' => (∃ k : Int, e = .returned (.int .i64 k) ∧ decide (k ≥ 0) = decide (s ∈ L)) ∧ Below w.heap.size w w' := by
  have HV : Hid (w.cell? ⟨V, 0, none⟩ = some (.int .i64 s)) := V0
  have HR : Hid (RowsB w Z T L) := R
  clear V0 R
  go_enter Tryd.func54, Tryd.ntmps54
  go_wp2_with fail
  go_loopw [8] (fun t wr => ∃ j : Nat, j ≤ L.length ∧ t = .int .i64 j ∧ ¬ s ∈ L.take j ∧ Below w.heap.size w wr) (fun t _ => L.length - (intOf t).toNat)
  case atStart => exact ⟨0, by omega, rfl, by simp, Below.refl _ _⟩
  case round =>
    obtain ⟨j, hj, rfl, hno, hbr⟩ := hrel
    have HN : Hid (¬ s ∈ L.take j) := hno
    have HB : Hid (Below w.heap.size w wr) := hbr
    clear hno hbr
    by_cases hlt : j < L.length
    · have i0 : (0 : Int) ≤ (j : Int) := by omega
      have i1 : (j : Int) < (L.length : Int) := by omega
      obtain ⟨r, hr⟩ : ∃ r, L[j]? = some r := ⟨_, List.getElem?_eq_getElem hlt⟩
      have HJ : Hid (L[j]? = some r) := hr
      have R1 := HR.out.below HB.out
      have c0 := R1.at' (k := 0) hr (by omega)
      have c1 := R1.at' (k := 1) hr (by omega)
      have c2 := R1.at' (k := 2) hr (by omega)
      have c3 := R1.at' (k := 3) hr (by omega)
      have c4 := R1.at' (k := 4) hr (by omega)
      have c5 := R1.at' (k := 5) hr (by omega)
      have c6 := R1.at' (k := 6) hr (by omega)
      have c7 := R1.at' (k := 7) hr (by omega)
      have c8 := R1.at' (k := 8) hr (by omega)
      have c9 := R1.at' (k := 9) hr (by omega)
      simp only [Ce.get, Nat.add_zero] at c0 c1 c2 c3 c4 c5 c6 c7 c8 c9
      clear R1 hr
      go_wp2_with fail
      refine (fillF_any V T r s _ (tk HB.out HV.out)).mono ?_
      rintro e w2 ⟨rfl, hb2⟩
      have HB2 : Hid (Below w.heap.size w w2) := t2 HB.out hb2
      clear hb2 c0 c1 c2 c3 c4 c5 c6 c7 c8 c9
      rcases hq : (r == s) with _ | _
      · have HN2 : Hid (¬ s ∈ L.take (j + 1)) := by
          show ¬ _
          rw [List.take_add_one, HJ.out, List.mem_append]
          rintro (h | h)
          · exact HN.out h
          · simp at h; subst h; simp at hq
        clear hq
        go_wp2_with fail
        go_roundw
        case rel => exact ⟨j + 1, by omega, by go_num, HN2.out, HB2.out⟩
        case measure => simp [intOf]; omega
      · have HF : Hid (s ∈ L) := by
          have e := eq_of_beq hq
          subst e
          exact List.mem_of_getElem? HJ.out
        clear hq
        go_wp2_with fail
        go_ret
        exact ⟨⟨_, rfl, by rw [decide_eq_true HF.out, decide_eq_true_iff]; omega⟩, HB2.out⟩
    · obtain rfl : j = L.length := by omega
      rw [List.take_length] at HN
      go_wp2_with fail
      go_ret
      exact ⟨⟨_, rfl, by rw [decide_eq_false HN.out]; rfl⟩, HB.out⟩
set_option maxRecDepth 100000 in
set_option maxHeartbeats 2000000 in
theorem fcontains_any (V Z : Nat) (T : Tb) (L : List Nat) (s : Nat) (w : World) (V0 : w.cell? ⟨V, 0, none⟩ = some (.int .i64 s)) (R : RowsB w Z T L) (hl : L.length ≤ 8) :
    Calls Tryd.prog 35 #[.slice (some ⟨Z, 0, none⟩) L.length 8, fillFn V] w fun e w' => e = .returned (.bool (decide (s ∈ L))) ∧ Below w.heap.size w w' := by
  have HV : Hid (w.cell? ⟨V, 0, none⟩ = some (.int .i64 s)) := V0
  have HR : Hid (RowsB w Z T L) := R
  clear V0 R
  go_enter Tryd.func35, Tryd.ntmps35
  go_wp2_with fail
  refine (findex_any V Z T L s _ HV.out HR.out hl).mono ?_
  rintro e w2 ⟨⟨k, rfl, hk⟩, hb2⟩
  have HB2 : Hid (Below w.heap.size w w2) := hb2
  have HK : Hid (decide (k ≥ 0) = decide (s ∈ L)) := hk
  clear hb2 hk
  go_wp2_with fail
  all_goals go_ret
  all_goals refine ⟨?_, HB2.out⟩
  all_goals rw [← HK.out]
  all_goals rfl
end Go.Proofs.YtifkbafdjkgnoaaDoor
