/-
  Package table's Get.
-/
import Derived.Test.YtifkbafdjkgnoaaDoorTbE
namespace Go.Proofs.YtifkbafdjkgnoaaDoor
open Go.RowKit

set_option maxRecDepth 100000 in
set_option maxHeartbeats 2000000 in
theorem get_bad (b : Nat) (k : Int) (s : Nat → Addr) (w : World) (S : Se4 w s) (hk : k < 0 ∨ 32 ≤ k) :
    Calls Tryd.prog 56 #[.pointer (some ⟨b, 0, none⟩), .int .i64 k] w fun e w' => e = .returned (.tuple #[.agg #[.int .i64 0, .int .i64 0, .int .i64 0, .int .i64 0, .int .i64 0, .int .i64 0, .int .i64 0, .int .i64 0, .int .i64 0, .int .i64 0], terr s 2]) ∧ Below w.heap.size w w' := by
  have s1 := S.c1
  have hg : 0 < w.heap.size := tlt s1
  clear S
  have hd : (decide (0 ≤ k) && decide (k < 32)) = false := by
    rcases hk with h | h
    · rw [decide_eq_false (by omega)]; rfl
    · rw [decide_eq_false (p := k < 32) (by omega), Bool.and_false]
  go_enter Tryd.func56, Tryd.ntmps56
  go_wp2_with fail
  refine (isSlot_any k _).mono ?_
  rintro e w1 ⟨rfl, rfl⟩
  rw [hd]
  go_wp2_with fail
  go_region
  go_wp2_with fail
  exact bodyPost_ret (v := .tuple #[.agg #[.int .i64 0, .int .i64 0, .int .i64 0, .int .i64 0, .int .i64 0, .int .i64 0, .int .i64 0, .int .i64 0, .int .i64 0, .int .i64 0], terr s 2]) (by simp [results, Tryd.results56, go_sem, terr]) rfl ⟨rfl, ((Below.refl _ _).alloc (Nat.le_refl _) _).drew⟩
set_option maxRecDepth 100000 in
set_option maxHeartbeats 2000000 in
theorem get_ok (b : Nat) (low : Int) (T : Tb) (j : Nat) (w : World) (t : Tab w b low T) (hj : j < 32) :
    Calls Tryd.prog 56 #[.pointer (some ⟨b, 0, none⟩), .int .i64 j] w fun e w' => e = .returned (.tuple #[cellV j (T j), .nilIface]) ∧ Below w.heap.size w w' := by
  have HT : Hid (Tab w b low T) := t
  have hbl := t.lt
  clear t
  have h0 : (0 : Int) ≤ (j : Int) := by omega
  have h1 : (j : Int) < 32 := by omega
  have hd : (decide (0 ≤ (j : Int)) && decide ((j : Int) < 32)) = true := by rw [decide_eq_true h0, decide_eq_true h1]; rfl
  unfold cellV
  generalize hc : T j = c
  have z0 := HT.out.at' (k := 0) hj (by omega)
  have z1 := HT.out.at' (k := 1) hj (by omega)
  have a0 := HT.out.at' (k := 2) hj (by omega)
  have a1 := HT.out.at' (k := 3) hj (by omega)
  have a2 := HT.out.at' (k := 4) hj (by omega)
  have a3 := HT.out.at' (k := 5) hj (by omega)
  have a4 := HT.out.at' (k := 6) hj (by omega)
  have a5 := HT.out.at' (k := 7) hj (by omega)
  have a6 := HT.out.at' (k := 8) hj (by omega)
  have a7 := HT.out.at' (k := 9) hj (by omega)
  rw [hc] at z0 z1 a0 a1 a2 a3 a4 a5 a6 a7
  simp only [Ce.get, Nat.add_zero] at z0 z1 a0 a1 a2 a3 a4 a5 a6 a7
  clear hc
  go_enter Tryd.func56, Tryd.ntmps56
  go_wp2_with fail
  refine (isSlot_any j _).mono ?_
  rintro e w1 ⟨rfl, rfl⟩
  rw [hd]
  go_wp2_with fail
  exact bodyPost_ret (v := .tuple #[.agg #[.int .i64 j, .int .i64 c.ve, .int .i64 c.pr, .int .i64 c.ia, .int .i64 c.ip, .int .i64 c.fa, .int .i64 c.fp, .int .i64 c.po, .int .i64 c.st, .int .i64 c.un], .nilIface]) (by simp [results, Tryd.results56, go_sem]) rfl ⟨rfl, (Below.refl _ _).alloc (Nat.le_refl _) _⟩
end Go.Proofs.YtifkbafdjkgnoaaDoor
