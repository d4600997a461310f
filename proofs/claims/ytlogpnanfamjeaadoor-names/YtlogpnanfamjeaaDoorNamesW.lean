/-
  The walk of the law Names: it answers true, and writes nothing that was there. Condition: the laid variables ('Sents').
-/
import Derived.Test.YtlogpnanfamjeaaDoorCoded
import Derived.Deep.QuietTactic
import Derived.BigQuiet
namespace Go.Proofs.YtlogpnanfamjeaaDoor
open Go.RowKit

/-- SameInts of two rows of the same numbers. -/
theorem sameInts_true (n : Nat) (hn : n ≤ 1000) (b1 b2 : Nat) (z : Nat → Int) (w : World) (h1 : ∀ i, i < n → w.cell? ⟨b1, i, none⟩ = some (.int .i64 (z i))) (h2 : ∀ i, i < n → w.cell? ⟨b2, i, none⟩ = some (.int .i64 (z i))) :
    Calls Tryd.prog 4 #[.slice (some ⟨b1, 0, none⟩) n n, .slice (some ⟨b2, 0, none⟩) n n] w fun e w' => e = .returned (.bool true) ∧ ∃ m, w' = w.drewN m := by
  have H1 : Hid (∀ i, i < n → w.cell? ⟨b1, i, none⟩ = some (.int .i64 (z i))) := h1
  have H2 : Hid (∀ i, i < n → w.cell? ⟨b2, i, none⟩ = some (.int .i64 (z i))) := h2
  clear h1 h2
  go_enter Tryd.func4, Tryd.ntmps4
  go_wp2_with fail
  go_loopw [5] (fun t w' => ∃ j : Nat, j ≤ n ∧ t = .int .i64 j ∧ ∃ m, w' = w.drewN m) (fun t _ => n - (intOf t).toNat)
  case atStart => exact ⟨0, Nat.zero_le _, rfl, 0, rfl⟩
  case round =>
    obtain ⟨j, hj, rfl, m, rfl⟩ := hrel
    by_cases hlt : j < n
    · have g1 : w.cell? ⟨b1, j, none⟩ = some (.int .i64 (z j)) := H1.out j hlt
      have g2 : w.cell? ⟨b2, j, none⟩ = some (.int .i64 (z j)) := H2.out j hlt
      go_wp2_with fail
      go_quiet (fail)
      go_wp2
      go_roundw
      case rel => exact ⟨j + 1, by omega, by go_num, _, rfl⟩
      case measure => simp [intOf]; omega
    · go_wp2
      go_ret
      exact ⟨rfl, m, rfl⟩
theorem drewN_below (w : World) (m : Nat) : Below w.heap.size w (w.drewN m) := ⟨rfl, rfl, rfl, Nat.le_refl _, fun _ _ => rfl⟩
theorem below_all {w a b : World} (h : Below w.heap.size w a) (k : Below a.heap.size a b) : Below w.heap.size w b := h.trans (k.mono h.size)

abbrev limA : Array Value := #[.int .i64 1048576, .int .i64 65535, .int .i64 2000, .int .i64 24, .int .i64 32, .int .i64 20, .int .i64 3000, .int .i64 1099511627776, .int .i64 1073741824, .int .i64 8, .int .i64 3, .int .i64 9, .int .i64 64, .int .i64 200, .int .i64 1000, .int .i64 3000, .int .i64 100, .int .i64 16, .int .i64 1]
abbrev parA : Array Value := #[.int .i64 1, .int .i64 2, .int .i64 1, .int .i64 2, .int .i64 4, .int .i64 8, .int .i64 1, .int .i64 2, .int .i64 3]
def lim (i : Nat) : Int := [1048576, 65535, 2000, 24, 32, 20, 3000, 1099511627776, 1073741824, 8, 3, 9, 64, 200, 1000, 3000, 100, 16, 1].getD i 0
def par (i : Nat) : Int := [1, 2, 1, 2, 4, 8, 1, 2, 3].getD i 0
theorem limA_at (i : Nat) (h : i < 19) : limA[i]? = some (.int .i64 (lim i)) := by
  match i, h with
  | 0, _ => rfl
  | 1, _ => rfl
  | 2, _ => rfl
  | 3, _ => rfl
  | 4, _ => rfl
  | 5, _ => rfl
  | 6, _ => rfl
  | 7, _ => rfl
  | 8, _ => rfl
  | 9, _ => rfl
  | 10, _ => rfl
  | 11, _ => rfl
  | 12, _ => rfl
  | 13, _ => rfl
  | 14, _ => rfl
  | 15, _ => rfl
  | 16, _ => rfl
  | 17, _ => rfl
  | 18, _ => rfl
  | n + 19, h => exact absurd h (by omega)
theorem parA_at (i : Nat) (h : i < 9) : parA[i]? = some (.int .i64 (par i)) := by
  match i, h with
  | 0, _ => rfl
  | 1, _ => rfl
  | 2, _ => rfl
  | 3, _ => rfl
  | 4, _ => rfl
  | 5, _ => rfl
  | 6, _ => rfl
  | 7, _ => rfl
  | 8, _ => rfl
  | n + 9, h => exact absurd h (by omega)

theorem new_any (t : ByteArray) (w : World) : Calls Tryd.prog 7 #[.string t] w fun e w' => e = .returned (.iface 38 (.pointer (some ⟨w.heap.size, 0, none⟩))) ∧ w' = w.alloc (.cells #[.string t] 40) := by
  go_enter Tryd.func7, Tryd.ntmps7
  go_wp2
  go_ret
  exact ⟨rfl, rfl⟩

set_option maxHeartbeats 2000000 in
theorem names_walk (s : Nat → Addr) (w : World) (S : Sents w s) :
    Calls Tryd.prog 3 #[] w fun e w' => e = .returned (.bool true) ∧ Below w.heap.size w w' := by
  have hS : Hid (Sents w s) := S
  clear S
  go_enter Tryd.func3, Tryd.ntmps3
  go_wp2_with fail
  refine (sameInts_true 19 (by decide) w.heap.size (w.heap.size + 1) lim _ ?_ ?_).mono ?_
  · intro i hi
    rw [World.cell?_alloc_lt _ _ ⟨w.heap.size, i, none⟩ (by simp; omega), World.cell?_alloc_lt _ _ ⟨w.heap.size, i, none⟩ (by simp), World.cell?_alloc_at _ _ _ _ rfl]
    exact limA_at i hi
  · intro i hi
    rw [World.cell?_alloc_lt _ _ ⟨w.heap.size + 1, i, none⟩ (by simp), World.cell?_alloc_at _ _ _ _ (by simp)]
    exact limA_at i hi
  rintro e w1 ⟨rfl, m, rfl⟩
  go_wp2_with fail
  refine (sameInts_true 9 (by decide) (w.heap.size + 1 + 1) (w.heap.size + 1 + 1 + 1) par _ ?_ ?_).mono ?_
  · intro i hi
    rw [World.cell?_alloc_lt _ _ ⟨w.heap.size + 1 + 1, i, none⟩ (by simp [World.drewN])]
    exact (World.cell?_alloc_at _ _ _ _ (by simp)).trans (parA_at i hi)
  · intro i hi
    exact (World.cell?_alloc_at _ _ _ _ (by simp [World.drewN])).trans (parA_at i hi)
  rintro e w2 ⟨rfl, m1, hw⟩
  have HB : Hid (Below w.heap.size w w2) := by
    rw [hw]
    exact (((((((Below.refl _ _).alloc (Nat.le_refl _) _).alloc (by simp) _).alloc (by simp; omega) _).trans ((drewN_below _ m).mono (by simp; omega))).alloc (by simp [World.drewN]; omega) _).trans ((drewN_below _ m1).mono (by simp [World.drewN]; omega)))
  clear hw
  have S2 : Sents w2 s := hS.out.below HB.out
  have d0 := S2.c0
  have d1 := S2.c1
  have d2 := S2.c2
  have d3 := S2.c3
  have d4 := S2.c4
  have d5 := S2.c5
  have d6 := S2.c6
  have d7 := S2.c7
  have d8 := S2.c8
  have d9 := S2.c9
  have d10 := S2.c10
  have hS2 : Hid (Sents w2 s) := S2
  clear S2
  go_wp2_with fail
  clear d0 d1 d2 d3 d4 d5 d6 d7 d8 d9 d10
  have HC : Hid (∀ j : Nat, j < 11 → (w2.alloc (.cells (sentArr s) 25)).cell? ⟨w2.heap.size, j, none⟩ = some (.iface 38 (.pointer (some (s j))))) := sent_cell s w2
  have HB3 : Hid (Below w.heap.size w (w2.alloc (.cells (sentArr s) 25))) := HB.out.alloc HB.out.size _
  have hS3 : Hid (Sents (w2.alloc (.cells (sentArr s) 25)) s) := hS.out.below HB3.out
  go_loopw [5] (fun t w' => ∃ j : Nat, j ≤ 11 ∧ t = .int .i64 j ∧ Below (w2.alloc (.cells (sentArr s) 25)).heap.size (w2.alloc (.cells (sentArr s) 25)) w') (fun t _ => 11 - (intOf t).toNat)
  case atStart => exact ⟨0, Nat.zero_le _, rfl, Below.refl _ _⟩
  case round =>
    obtain ⟨j, hj, rfl, hb⟩ := hrel
    by_cases hlt : j < 11
    · have hc : wr.cell? ⟨w2.heap.size, j, none⟩ = some (.iface 38 (.pointer (some (s j)))) := below_keeps hb (HC.out j hlt)
      have HD : Hid (Below (w2.alloc (.cells (sentArr s) 25)).heap.size (w2.alloc (.cells (sentArr s) 25)) wr) := hb
      clear hb
      go_wp2_with fail
      refine (code_fault j hlt wr.heap.size 0 7 s _ ((hS3.out.below HD.out).below ((Below.refl _ _).alloc (Nat.le_refl _) _)) (by simp) (by simp)).mono ?_
      rintro e w6 ⟨rfl, hb6⟩
      have hb6' : Below wr.heap.size wr w6 := ((Below.refl _ _).alloc (Nat.le_refl _) _).trans (hb6.mono (by simp))
      have HE : Hid (Below (w2.alloc (.cells (sentArr s) 25)).heap.size (w2.alloc (.cells (sentArr s) 25)) w6) := below_all HD.out hb6'
      have hc6 := below_keeps hb6' hc
      clear hb6 hb6' hc
      go_wp2_with fail
      refine (coded_sent j hlt _ s _ (hS3.out.below HE.out)).mono ?_
      rintro e w7 ⟨rfl, hb7⟩
      have HF : Hid (Below (w2.alloc (.cells (sentArr s) 25)).heap.size (w2.alloc (.cells (sentArr s) 25)) w7) := below_all HE.out hb7
      clear hb7 hc6
      go_wp2_with fail
      go_roundw
      case rel => exact ⟨j + 1, by omega, by go_num, HF.out⟩
      case measure => simp [intOf]; omega
    · obtain rfl : j = 11 := by omega
      have HD : Hid (Below (w2.alloc (.cells (sentArr s) 25)).heap.size (w2.alloc (.cells (sentArr s) 25)) wr) := hb
      clear hb
      have hS5 : Hid (Sents wr s) := hS3.out.below HD.out
      go_wp2_with fail
      refine (new_any _ _).mono ?_
      rintro e w6 ⟨rfl, hw6⟩
      have hb6 : Below wr.heap.size wr w6 := by rw [hw6]; exact (Below.refl _ _).alloc (Nat.le_refl _) _
      have hx : w6.heap[wr.heap.size]? = some (.cells #[.string ⟨#[97, 110, 111, 116, 104, 101, 114, 32, 111, 110, 101]⟩] 40 (0, 0)) := by rw [hw6]; show (wr.heap.push _)[wr.heap.size]? = _; simp
      have HX : Hid (w6.heap[wr.heap.size]? = some (.cells #[.string ⟨#[97, 110, 111, 116, 104, 101, 114, 32, 111, 110, 101]⟩] 40 (0, 0))) := hx
      have HG : Hid (Below wr.heap.size wr w6) := hb6
      clear hx hb6 hw6
      go_wp2_with fail
      refine (code_other ⟨wr.heap.size, 0, none⟩ _ _ s _ (hS5.out.below HG.out) HX.out ?_).mono ?_
      · intro i hi he
        obtain ⟨c, t, hr⟩ := hS5.out.row i hi
        rw [← he] at hr
        simp at hr
      rintro e w7 ⟨rfl, hb7⟩
      have HH : Hid (Below wr.heap.size wr w7) := below_all HG.out hb7
      clear hb7
      go_wp2_with fail
      refine (coded_nil _ _).mono ?_
      rintro e w8 ⟨rfl, rfl⟩
      go_wp2_with fail
      go_ret
      exact ⟨rfl, below_all HB3.out (below_all HD.out HH.out)⟩
end Go.Proofs.YtlogpnanfamjeaaDoor
