/-
  The document's teller: Lag.
-/
import Derived.Test.YtifkbafdjkgnoaaDoorTnA
namespace Go.Proofs.YtifkbafdjkgnoaaDoor
open Go.RowKit

set_option maxRecDepth 100000 in
set_option maxHeartbeats 4000000 in
theorem rlag_any (y m h g cap c : Nat) (low : Int) (T : Tb) (D : To) (w : World) (t : RTab w m g cap low T) (r : RTel w y m h D c) :
    Calls Tryd.prog 26 #[.pointer (some ⟨y, 0, none⟩)] w fun e w' => e = .returned (.int .i64 (newsL T D).length) ∧ Below w.heap.size w w' := by
  have HT : Hid (RTab w m g cap low T) := t
  have HR : Hid (RTel w y m h D c) := r
  clear t r
  go_enter Tryd.func26, Tryd.ntmps26
  go_wp2_with fail
  go_loopw [3, 4] (fun tn ti wr => ∃ i : Nat, i ≤ 32 ∧ ti = .int .i64 i ∧ tn = .int .i64 ((List.range i).filter fun s => (T s).ve != D s).length ∧ Below w.heap.size w wr) (fun _ ti _ => 32 - (intOf ti).toNat)
  case atStart => exact ⟨0, by omega, rfl, rfl, Below.refl _ _⟩
  case round =>
    obtain ⟨i, hi, rfl, rfl, hbr⟩ := hrel
    have HB : Hid (Below w.heap.size w wr) := hbr
    clear hbr
    have hle : ((List.range i).filter fun s => (T s).ve != D s).length ≤ i := by
      have := List.length_filter_le (fun s => (T s).ve != D s) (List.range i)
      simpa using this
    obtain ⟨n, hn⟩ : ∃ n, n = ((List.range i).filter fun s => (T s).ve != D s).length := ⟨_, rfl⟩
    have HN : Hid (n = ((List.range i).filter fun s => (T s).ve != D s).length) := hn
    rw [← hn] at hle ⊢
    clear hn
    by_cases hlt : i < 32
    · have i0 : (0 : Int) ≤ (i : Int) := by omega
      have i1 : (i : Int) < 32 := by omega
      have R1 := HR.out.below HB.out
      have T1 := HT.out.below HB.out
      have d0 := R1.c0
      have d1 := R1.c1
      have d2 := R1.a.at' hlt
      have m1 := T1.c1
      have s1 := T1.sl.at' (k := 1) hlt (by omega)
      simp only [Ce.get] at s1
      have HS : Hid (((List.range (i + 1)).filter fun s => (T s).ve != D s).length = n + if ((T i).ve != D i) = true then 1 else 0) := by
        show _ = _
        rw [List.range_succ, List.filter_append, List.length_append, ← HN.out]
        by_cases hq : ((T i).ve != D i) = true <;> simp [hq]
      clear R1 T1
      rcases hq : ((T i).ve != D i) with _ | _
      · go_wp2_with fail
        go_region
        all_goals
          go_wp2_with fail
          go_roundw
          case rel => exact ⟨i + 1, by omega, by go_num, by rw [HS.out, if_neg (by rw [hq]; simp)]; rfl, HB.out.drew⟩
          case measure => simp [intOf]; omega
      · go_wp2_with fail
        go_region
        all_goals
          go_wp2_with fail
          go_roundw
          case rel => exact ⟨i + 1, by omega, by go_num, by rw [HS.out, if_pos hq]; go_num, HB.out.drew⟩
          case measure => simp [intOf]; omega
    · obtain rfl : i = 32 := by omega
      go_wp2_with fail
      go_ret
      exact ⟨by rw [HN.out]; rfl, HB.out⟩
end Go.Proofs.YtifkbafdjkgnoaaDoor
