/-
  Package packet's putter: the function that it makes writes a number's bytes behind what it has written, the highest first.
-/
import Derived.Test.YtlogpnanfamjeaaGreatDoorPkA
namespace Go.Proofs.YtlogpnanfamjeaaGreatDoor
open Go.RowKit

/-- what a put has made of the array: n bytes of v from place k on, the first m of them. -/
def putM (f : Nat → Int) (k n m : Nat) (v : Int) (j : Nat) : Int := if k ≤ j ∧ j < k + m then v / 256 ^ (n - 1 - (j - k)) % 256 else f j

structure Buf (w : World) (arr pb pat : Nat) (f : Nat → Int) (k : Nat) : Prop where
  b : w.cell? ⟨pb, 0, none⟩ = some (.pointer (some ⟨arr, 0, none⟩))
  at' : w.cell? ⟨pat, 0, none⟩ = some (.int .i64 k)
  atf : w.frozen? ⟨pat, 0, none⟩ = false
  c : ∀ j, j < 14 → w.cell? ⟨arr, j, none⟩ = some (.int .u8 (f j))
  cf : ∀ j, j < 14 → w.frozen? ⟨arr, j, none⟩ = false
  n1 : pb ≠ arr
  n2 : pb ≠ pat
  n3 : pat ≠ arr

/-- nothing has turned but the two blocks. -/
def But2 (x y : Nat) (w w' : World) : Prop := w'.heap.size = w.heap.size ∧ (∀ k, k ≠ x → k ≠ y → w'.heap[k]? = w.heap[k]?) ∧ w'.os = w.os ∧ w'.tape = w.tape ∧ w'.output = w.output

theorem Buf.step {wr : World} {arr pb pat q : Nat} {g : Nat → Int} (B : Buf wr arr pb pat g q) (hq : q < 14) (x : Int) :
    Buf ((wr.setCell ⟨arr, q, none⟩ (.int .u8 x)).setCell ⟨pat, 0, none⟩ (.int .i64 ((q : Int) + 1))).drew arr pb pat (fun j => if j = q then x else g j) (q + 1) where
  b := by
    show World.cell? (World.setCell _ _ _) _ = _
    rw [World.cell?_setCell_other _ _ _ _ (by have := B.n2; simp <;> omega), World.cell?_setCell_other _ _ _ _ (by have := B.n1; simp <;> omega)]; exact B.b
  at' := by
    show World.cell? (World.setCell _ _ _) _ = _
    rw [World.cell?_setCell_same _ _ _ (u := .int .i64 q) (by rw [World.cell?_setCell_other _ _ _ _ (by have := B.n3; simp <;> omega)]; exact B.at')]; simp
  atf := by
    show World.frozen? (World.setCell _ _ _) _ = _
    rw [World.frozen?_setCell, World.frozen?_setCell]; exact B.atf
  c := fun j hj => by
    show World.cell? (World.setCell _ _ _) _ = _
    rw [World.cell?_setCell_other _ _ _ _ (by have := B.n3; simp <;> omega)]
    by_cases e : j = q
    · subst e
      rw [World.cell?_setCell_same _ _ _ (u := .int .u8 (g j)) (B.c j hj)]; simp
    · rw [World.cell?_setCell_other _ _ _ _ (by simp <;> omega), B.c j hj]; simp [e]
  cf := fun j hj => by
    show World.frozen? (World.setCell _ _ _) _ = _
    rw [World.frozen?_setCell, World.frozen?_setCell]; exact B.cf j hj
  n1 := B.n1
  n2 := B.n2
  n3 := B.n3

theorem But2.step {w wr : World} {arr pat q : Nat} (h : But2 arr pat w wr) (x y : Value) :
    But2 arr pat w ((wr.setCell ⟨arr, q, none⟩ x).setCell ⟨pat, 0, none⟩ y).drew := by
  obtain ⟨h1, h2, h3, h4, h5⟩ := h
  refine ⟨?_, fun k e1 e2 => ?_, h3, h4, h5⟩
  · show (World.setCell (World.setCell _ _ _) _ _).heap.size = _
    simpa using h1
  · show (World.setCell (World.setCell _ _ _) _ _).heap[k]? = _
    rw [Below.heap_setCell _ _ _ _ e2, Below.heap_setCell _ _ _ _ e1]; exact h2 k e1 e2
theorem putM_zero (f : Nat → Int) (k n : Nat) (v : Int) : putM f k n 0 v = f := by
  funext j; unfold putM; rw [if_neg (by omega)]
theorem putM_succ (f : Nat → Int) (k n q : Nat) (v : Int) (h1 : k ≤ q) (h2 : q < k + n) :
    putM f k n (q + 1 - k) v = fun j => if j = q then v / 2 ^ (8 * (k + n - 1 - q)) % 256 else putM f k n (q - k) v j := by
  funext j
  unfold putM
  by_cases e : j = q
  · subst e
    have e2 : (2 : Int) ^ (8 * (k + n - 1 - j)) = 256 ^ (n - 1 - (j - k)) := by
      rw [Int.pow_mul, show k + n - 1 - j = n - 1 - (j - k) from by omega]; rfl
    rw [if_pos (by omega), if_pos rfl, e2]
  · rw [if_neg e]
    by_cases h : k ≤ j ∧ j < k + (q - k)
    · rw [if_pos h, if_pos (by omega)]
    · rw [if_neg h, if_neg (by omega)]

set_option maxHeartbeats 1000000 in
theorem put_any (n : Nat) (v : Int) (k : Nat) (hn : n ≤ 6) (hk : k + n ≤ 14) (_hv : 0 ≤ v) (arr pb pat : Nat) (f : Nat → Int) (w : World) (B : Buf w arr pb pat f k) :
    Calls Tryz.prog 33 #[.int .i64 v, .int .i64 n, .pointer (some ⟨pb, 0, none⟩), .pointer (some ⟨pat, 0, none⟩)] w fun e w' =>
      e = .returned (.tuple #[]) ∧ Buf w' arr pb pat (putM f k n n v) (k + n) ∧ But2 arr pat w w' := by
  have HB : Hid (Buf w arr pb pat f k) := B
  clear B
  go_enter Tryz.func33, Tryz.ntmps33
  go_wp2_with fail
  go_loopw [6] (fun t wr => ∃ q : Nat, k ≤ q ∧ q ≤ k + n ∧ t = .int .i64 ((k : Int) + n - 1 - q) ∧ Buf wr arr pb pat (putM f k n (q - k) v) q ∧ But2 arr pat w wr) (fun t _ => (intOf t + 1).toNat)
  case atStart => exact ⟨k, Nat.le_refl _, by omega, by go_num, by rw [Nat.sub_self, putM_zero]; exact HB.out, rfl, fun _ _ _ => rfl, rfl, rfl, rfl⟩
  case round =>
    obtain ⟨q, hq1, hq2, rfl, hB, hK⟩ := hrel
    by_cases hlt : q < k + n
    · have hb := hB.b
      have ha := hB.at'
      have haf := hB.atf
      have hc := hB.c q (by omega)
      have hcf := hB.cf q (by omega)
      have n1 := hB.n1
      have n2 := hB.n2
      have n3 := hB.n3
      have HBr : Hid (Buf wr arr pb pat (putM f k n (q - k) v) q) := hB
      have HKr : Hid (But2 arr pat w wr) := hK
      have hi : (q : Int) < 14 := by omega
      clear hB hK
      go_wp2_with fail
      go_region
      all_goals go_wp2_with fail
      all_goals
        refine ⟨⟨q + 1, by omega, by omega, by go_num, ?_, HKr.out.step _ _⟩, by simp [intOf]; omega⟩
        rw [putM_succ f k n q v hq1 hlt]
        exact HBr.out.step (by omega) _
    · have hqe : q = k + n := by omega
      subst hqe
      have HBr : Hid (Buf wr arr pb pat (putM f k n (k + n - k) v) (k + n)) := hB
      have HKr : Hid (But2 arr pat w wr) := hK
      clear hB hK
      go_wp2_with fail
      go_end0
      refine ⟨rfl, ?_, HKr.out⟩
      have := HBr.out
      rw [Nat.add_sub_cancel_left] at this
      exact this
end Go.Proofs.YtlogpnanfamjeaaGreatDoor
