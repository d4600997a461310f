/-
  The document's Empty and SameCells.
-/
import Derived.Test.YtifkbafdjkgnoaaDoorGeB
namespace Go.Proofs.YtifkbafdjkgnoaaDoor
open Go.RowKit

set_option maxRecDepth 100000 in
set_option maxHeartbeats 2000000 in
theorem empty_any (w : World) :
    Calls Tryd.prog 40 #[] w fun e w' => (∃ g cap, e = .returned (.slice (some ⟨g, 0, none⟩) 32 cap) ∧ w.heap.size ≤ g ∧ Sl10 w' g newT) ∧ Below w.heap.size w w' := by
  obtain ⟨i0, hi, hz0, hz1, hz2⟩ := info_parts Tryd.infoCell
  go_enter Tryd.func40, Tryd.ntmps40
  go_wp2_with fail
  go_loopw [1, 2] (fun v t wr => ∃ j : Nat, j ≤ 32 ∧ t = .int .i64 j ∧ wr.ownsRow w.heap.size 59 10 v j (emC j) ∧ Below w.heap.size w wr) (fun _ t _ => 32 - (intOf t).toNat)
  case atStart => exact ⟨0, by omega, rfl, World.ownsRow_nil _ _ _ _, Below.refl _ _⟩
  case round =>
    obtain ⟨j, hj, rfl, hown, hbr⟩ := hrel
    have HO : Hid (wr.ownsRow w.heap.size 59 10 u1 j (emC j)) := hown
    have HB : Hid (Below w.heap.size w wr) := hbr
    clear hown hbr
    by_cases hlt : j < 32
    · have N4 : Hid (∀ q u, ([.int .i64 j, .int .i64 0, .int .i64 0, .int .i64 0, .int .i64 0, .int .i64 0, .int .i64 0, .int .i64 0, .int .i64 0, .int .i64 0] : List Value)[q]? = some u → (wr.alloc (.cells #[.int .i64 j, .int .i64 0, .int .i64 0, .int .i64 0, .int .i64 0, .int .i64 0, .int .i64 0, .int .i64 0, .int .i64 0, .int .i64 0] 59)).cell? (Addr.add ⟨wr.heap.size, 0, none⟩ q) = some u) := fun q u hu => by
        rw [tadd, Nat.zero_add, nw]; simpa using hu
      have N1 : Hid (∀ u ∈ ([.int .i64 j, .int .i64 0, .int .i64 0, .int .i64 0, .int .i64 0, .int .i64 0, .int .i64 0, .int .i64 0, .int .i64 0, .int .i64 0] : List Value), u.oneCell' = true) := fun u hu => by
        simp only [List.mem_cons, List.not_mem_nil, or_false] at hu
        rcases hu with rfl | rfl | rfl | rfl | rfl | rfl | rfl | rfl | rfl | rfl <;> rfl
      go_wp2_with (at_builtin; refine wpList_append_own _ rfl _ _ 43 rfl w.heap.size 59 i0 _ 10 80 Tryd.underlying43 hi hz0 hz1 hz2 rfl (by decide) u1 j (emC j) rfl (HO.out.alloc _) ⟨wr.heap.size, 0, none⟩ 1 1 _ rfl rfl N4.out N1.out (by unfold maxLen; omega) (by omega) (by have := HB.out.size; simp; omega) ?_)
      intro v5 w5 hO5 hg5 _
      have O5 : Hid (w5.ownsRow w.heap.size 59 10 v5 (j + 1) (emC (j + 1))) := hO5
      have B5 : Hid (Below w.heap.size w w5) := (HB.out.alloc HB.out.size _).grown hg5 (by have := HB.out.size; simp; omega) (fun q hq => (HO.out.lt _ hq).1)
      clear hO5 hg5 N4 N1
      go_wp2_with fail
      go_roundw
      case rel => exact ⟨j + 1, by omega, by go_num, O5.out, B5.out⟩
      case measure => simp [intOf]; omega
    · obtain rfl : j = 32 := by omega
      go_wp2_with fail
      go_ret
      refine ⟨?_, HB.out⟩
      obtain ⟨_, h2⟩ := HO.out
      rcases h2 with ⟨_, h0⟩ | ⟨g, cap, cur, rfl, hg, hh, _, _, _, ht⟩
      · cases h0
      · refine ⟨g, cap, rfl, hg, cur, _, hh, fun i k hi hk => ?_⟩
        have := emC_at 32 i k hi hk
        rw [← ht, List.getElem?_take, if_pos (by omega), Array.getElem?_toList] at this
        exact this

set_option maxRecDepth 100000 in
set_option maxHeartbeats 4000000 in
theorem sameC_any (Z g ca cb : Nat) (T : Tb) (w : World) (A : Sl10 w Z T) (B : Sl10 w g T) :
    Calls Tryd.prog 24 #[.slice (some ⟨Z, 0, none⟩) 32 ca, .slice (some ⟨g, 0, none⟩) 32 cb] w fun e w' => e = .returned (.bool true) ∧ Below w.heap.size w w' := by
  have HA : Hid (Sl10 w Z T) := A
  have HB : Hid (Sl10 w g T) := B
  clear A B
  go_enter Tryd.func24, Tryd.ntmps24
  go_wp2_with fail
  go_loopw [5] (fun t wr => ∃ j : Nat, j ≤ 32 ∧ t = .int .i64 j ∧ Below w.heap.size w wr) (fun t _ => 32 - (intOf t).toNat)
  case atStart => exact ⟨0, by omega, rfl, Below.refl _ _⟩
  case round =>
    obtain ⟨j, hj, rfl, hbr⟩ := hrel
    have B1 : Hid (Below w.heap.size w wr) := hbr
    clear hbr
    by_cases hlt : j < 32
    · obtain ⟨c, hc⟩ : ∃ c, c = T j := ⟨_, rfl⟩
      have A1 := HA.out.below B1.out
      have A2 := HB.out.below B1.out
      have a0 := A1.at' (i := j) (k := 0) hlt (by omega)
      have b0 := A2.at' (i := j) (k := 0) hlt (by omega)
      have a1 := A1.at' (i := j) (k := 1) hlt (by omega)
      have b1 := A2.at' (i := j) (k := 1) hlt (by omega)
      have a2 := A1.at' (i := j) (k := 2) hlt (by omega)
      have b2 := A2.at' (i := j) (k := 2) hlt (by omega)
      have a3 := A1.at' (i := j) (k := 3) hlt (by omega)
      have b3 := A2.at' (i := j) (k := 3) hlt (by omega)
      have a4 := A1.at' (i := j) (k := 4) hlt (by omega)
      have b4 := A2.at' (i := j) (k := 4) hlt (by omega)
      have a5 := A1.at' (i := j) (k := 5) hlt (by omega)
      have b5 := A2.at' (i := j) (k := 5) hlt (by omega)
      have a6 := A1.at' (i := j) (k := 6) hlt (by omega)
      have b6 := A2.at' (i := j) (k := 6) hlt (by omega)
      have a7 := A1.at' (i := j) (k := 7) hlt (by omega)
      have b7 := A2.at' (i := j) (k := 7) hlt (by omega)
      have a8 := A1.at' (i := j) (k := 8) hlt (by omega)
      have b8 := A2.at' (i := j) (k := 8) hlt (by omega)
      have a9 := A1.at' (i := j) (k := 9) hlt (by omega)
      have b9 := A2.at' (i := j) (k := 9) hlt (by omega)
      rw [← hc] at a0 b0 a1 b1 a2 b2 a3 b3 a4 b4 a5 b5 a6 b6 a7 b7 a8 b8 a9 b9
      simp only [Ce.get, Nat.add_zero] at a0 b0 a1 b1 a2 b2 a3 b3 a4 b4 a5 b5 a6 b6 a7 b7 a8 b8 a9 b9
      have i0 : (0 : Int) ≤ (j : Int) := by omega
      have i1 : (j : Int) < 32 := by omega
      have hq : ∀ w : World, (binOp .neq 59 (.agg #[.int .i64 j, .int .i64 c.ve, .int .i64 c.pr, .int .i64 c.ia, .int .i64 c.ip, .int .i64 c.fa, .int .i64 c.fp, .int .i64 c.po, .int .i64 c.st, .int .i64 c.un]) (.agg #[.int .i64 j, .int .i64 c.ve, .int .i64 c.pr, .int .i64 c.ia, .int .i64 c.ip, .int .i64 c.fa, .int .i64 c.fp, .int .i64 c.po, .int .i64 c.st, .int .i64 c.un])).run Tryd.prog w = .ok (.bool false) w := neq_cell _ _
      have B2 : Hid (Below w.heap.size w wr.drew) := B1.out.drew
      clear hc A1 A2 HA HB
      go_wp2_with fail
      go_region
      all_goals
        go_wp2_with fail
        go_roundw
        case rel => exact ⟨j + 1, by omega, by go_num, B2.out⟩
        case measure => simp [intOf]; omega
    · have hlt' : ¬ (j : Int) < 32 := by omega
      go_wp2_with fail
      go_ret
      exact ⟨rfl, B1.out⟩
end Go.Proofs.YtifkbafdjkgnoaaDoor
