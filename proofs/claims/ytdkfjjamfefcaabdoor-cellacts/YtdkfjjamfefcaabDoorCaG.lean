/-
  The document's Put of a cell, whole; package cell's All and Lay.
-/
import Derived.Test.YtdkfjjamfefcaabDoorCaF
import Derived.Lib.BufferWrite
import Derived.Laws.BytesArg
namespace Go.Proofs.YtdkfjjamfefcaabDoor
open Go.RowKit

set_option maxRecDepth 100000 in
set_option maxHeartbeats 8000000 in
theorem rput_any {w0 w : World} {n m : Nat} {s : By} {y : Nm} {d : Bool} {lo : Int} (h : RS w0 w n m s y d lo) (hy : newest s.B = y) (ep li : Int) (hlo : -900000 ≤ lo) :
    Calls Tryd.prog 68 #[.pointer (some ⟨m, 0, none⟩), .int .i64 ep, .int .i64 li] w fun e w' => e = .returned (.int .i64 (((putE d s ep li).1 : Nat) : Int)) ∧ RS w0 w' n m (putE d s ep li).2.1 (newest (putE d s ep li).2.1.B) (putE d s ep li).2.2 (lo - 20) := by
  have HRS : Hid (RS w0 w n m s y d lo) := h
  have HY : Hid (newest s.B = y) := hy
  have c2 := h.c.c2
  have c3 := h.c.c3
  have c4 := h.c.c4
  have c1 := h.c.c1
  have hlt := newest_lt s.B
  rw [hy] at hlt
  obtain ⟨R, hR⟩ : ∃ R, R = putE d s ep li := ⟨_, rfl⟩
  have HR : Hid (R = putE d s ep li) := hR
  rw [← hR]
  clear hR
  cases d
  · by_cases h1 : badEp ep li = true
    · have HB : Hid (R = (2, s, false)) := by rw [HR.out]; unfold putE; rw [if_neg (by simp), if_pos h1]; exact rfl
      have fin : ∀ e : Ending, e = .returned (.int .i64 2) → e = .returned (.int .i64 ((R.1 : Nat) : Int)) ∧ RS w0 w n m R.2.1 (newest R.2.1.B) R.2.2 (lo - 20) := fun e he => by
        rw [HB.out]
        exact ⟨he, by show RS w0 w n m s (newest s.B) false _; rw [HY.out]; exact HRS.out.mono (by omega)⟩
      have HF : Hid (∀ e : Ending, e = .returned (.int .i64 2) → e = .returned (.int .i64 ((R.1 : Nat) : Int)) ∧ RS w0 w n m R.2.1 (newest R.2.1.B) R.2.2 (lo - 20)) := fin
      have hb : ep < 0 ∨ (¬ ep < 0 ∧ (1073741824 : Int) < ep) ∨ (¬ ep < 0 ∧ ¬ (1073741824 : Int) < ep ∧ li < 0) ∨ (¬ ep < 0 ∧ ¬ (1073741824 : Int) < ep ∧ ¬ li < 0 ∧ (1073741824 : Int) < li) := by
        unfold badEp isEp at h1
        simp at h1
        omega
      clear fin h1 hlo hlt hy h
      rcases hb with g1 | ⟨g1, g2⟩ | ⟨g1, g2, g3⟩ | ⟨g1, g2, g3, g4⟩
      all_goals
        go_enter Tryd.func68, Tryd.ntmps68
        go_wp2_with fail
        go_ret
        exact HF.out _ rfl
    · have hb : ¬ ep < 0 ∧ ¬ (1073741824 : Int) < ep ∧ ¬ li < 0 ∧ ¬ (1073741824 : Int) < li := by
        unfold badEp isEp at h1
        simp at h1
        omega
      have RB : R = if oldEp s ep li then (10, s, false) else if (newest s.B).n = 4294967295 then (6, s, false) else if (putS s (nextNm s ep li)).2 then (0, (putS s (nextNm s ep li)).1, false) else (7, (putS s (nextNm s ep li)).1, true) := by
        rw [HR.out]; unfold putE; rw [if_neg (by simp), if_neg h1]
      obtain ⟨g1, g2, g3, g4⟩ := hb
      by_cases h2 : oldEp s ep li = true
      · rw [if_pos h2] at RB
        have HF : Hid (∀ e : Ending, e = .returned (.int .i64 10) → e = .returned (.int .i64 ((R.1 : Nat) : Int)) ∧ RS w0 w n m R.2.1 (newest R.2.1.B) R.2.2 (lo - 20)) := fun e he => by
          rw [RB]
          exact ⟨he, by show RS w0 w n m s (newest s.B) false _; rw [HY.out]; exact HRS.out.mono (by omega)⟩
        have ho : ep < (y.e : Int) ∨ (¬ ep < (y.e : Int) ∧ li < (y.l : Int)) := by
          unfold oldEp at h2
          rw [hy] at h2
          simp at h2
          omega
        clear RB h1 h2 hlo hlt hy h
        rcases ho with g5 | ⟨g5, g6⟩
        all_goals
          go_enter Tryd.func68, Tryd.ntmps68
          go_wp2_with fail
          go_ret
          exact HF.out _ rfl
      · rw [if_neg h2, hy] at RB
        have ho : ¬ ep < (y.e : Int) ∧ ¬ li < (y.l : Int) := by
          unfold oldEp at h2
          rw [hy] at h2
          simp at h2
          omega
        obtain ⟨g5, g6⟩ := ho
        by_cases h3 : y.n = 4294967295
        · rw [if_pos h3] at RB
          have HF : Hid (∀ e : Ending, e = .returned (.int .i64 6) → e = .returned (.int .i64 ((R.1 : Nat) : Int)) ∧ RS w0 w n m R.2.1 (newest R.2.1.B) R.2.2 (lo - 20)) := fun e he => by
            rw [RB]
            exact ⟨he, by show RS w0 w n m s (newest s.B) false _; rw [HY.out]; exact HRS.out.mono (by omega)⟩
          rw [h3] at c1
          have c1 : w.cell? ⟨m, 1, none⟩ = some (.int .i64 4294967295) := c1
          clear RB h1 h2 hlo hlt hy h h3
          go_enter Tryd.func68, Tryd.ntmps68
          go_wp2_with fail
          go_ret
          exact HF.out _ rfl
        · rw [if_neg h3] at RB
          have hx : nextNm s ep li = ⟨y.n + 1, ep.toNat, li.toNat⟩ := by unfold nextNm; rw [hy]
          have hp := put_pair h.len (x := nextNm s ep li) rfl (by show (newest s.B).n + 1 < _; rw [hy]; omega) (by show ep.toNat < _; omega) (by show li.toNat < _; omega)
          refine (rput_go h ep li hlo (by omega) (by omega) (by omega) (by omega) (by omega) (by omega) (by omega) hx).mono ?_
          rintro e w' ⟨rfl, rs⟩
          cases hq : (putS s (nextNm s ep li)).2
          · rw [hq] at RB rs
            have RB : R = (7, (putS s (nextNm s ep li)).1, true) := RB
            rw [RB]
            refine ⟨by rfl, ?_⟩
            show RS w0 w' n m (putS s (nextNm s ep li)).1 (newest (putS s (nextNm s ep li)).1.B) true _
            rw [(hp.2 hq).1, hy]
            exact rs
          · rw [hq] at RB rs
            have RB : R = (0, (putS s (nextNm s ep li)).1, false) := RB
            rw [RB]
            refine ⟨by rfl, ?_⟩
            show RS w0 w' n m (putS s (nextNm s ep li)).1 (newest (putS s (nextNm s ep li)).1.B) false _
            rw [(hp.1 hq).1]
            exact rs
  · have HF : Hid (∀ e : Ending, e = .returned (.int .i64 7) → e = .returned (.int .i64 ((R.1 : Nat) : Int)) ∧ RS w0 w n m R.2.1 (newest R.2.1.B) R.2.2 (lo - 20)) := fun e he => by
      have RB : R = (7, s, true) := HR.out
      rw [RB]
      exact ⟨he, by show RS w0 w n m s (newest s.B) true _; rw [HY.out]; exact HRS.out.mono (by omega)⟩
    clear hlo hlt hy h
    go_enter Tryd.func68, Tryd.ntmps68
    go_wp2_with fail
    go_ret
    exact HF.out _ rfl
set_option maxRecDepth 100000 in
set_option maxHeartbeats 2000000 in
theorem all_any (b : Nat) (s : By) (w : World) (S : Byt w b s) : Calls Tryd.prog 62 #[.pointer (some ⟨b, 0, none⟩)] w fun e w' => e = .returned (.string (stB s.B)) ∧ w' = w := by
  have hcv := run_convert_bytes_arg (P := Tryd.prog) w 99 5 Tryd.underlying99 Tryd.underlying5 b 0 64 64 (s.B.map fun v => (v.toNat : Int)) (by rw [List.length_map]; exact S.2) (fun i hi => by
    rw [Nat.zero_add, S.at' i hi]
    unfold u8v
    rw [List.getD_eq_getElem?_getD, List.getD_eq_getElem?_getD, List.getElem?_map, List.getElem?_eq_getElem (by rw [S.2]; exact hi)]
    rfl) 9 Tryd.underlying9
  have hst : strOfNums (s.B.map fun v => (v.toNat : Int)) = stB s.B := by
    apply ByteArray.ext
    apply Array.ext'
    rw [strOfNums_data, List.map_map]
    show List.map _ s.B = s.B
    conv => rhs; rw [← List.map_id s.B]
    apply List.map_congr_left
    intro v _
    simp
  rw [hst] at hcv
  clear S hst
  go_enter Tryd.func62, Tryd.ntmps62
  go_wp2_with fail
  go_ret
  exact ⟨rfl, rfl⟩
end Go.Proofs.YtdkfjjamfefcaabDoor
