/-
  Package play's packets.
-/
import Derived.Test.YtdghkkpncgljoaaGreatDoorKi
namespace Go.Proofs.YtdghkkpncgljoaaGreatDoor
open Go.RowKit

def flI (j : Nat) : Int := if j = 0 then 1 else if j = 1 then 2 else if j = 2 then 6 else 8
def flO (j : Nat) : Int := if j = 0 then 3 else if j = 1 then 2 else if j = 2 then 6 else 8
/-- the flags that a script numbers. -/
structure PyF (w : World) : Prop where
  i : ∀ j, j < 4 → w.cell? ⟨12, j, none⟩ = some (.int .i64 (flI j))
  o : ∀ j, j < 4 → w.cell? ⟨13, j, none⟩ = some (.int .i64 (flO j))
theorem PyF.below {w w' : World} (h : PyF w) (hb : Below w.heap.size w w') : PyF w' := ⟨fun j hj => tk hb (h.i j hj), fun j hj => tk hb (h.o j hj)⟩
def prQ (q : Int) : Int := if q % 2 = 0 then 1 else 2
def pkI (q : Int) : Pk := ⟨prQ q, 10 + q / 2 % 3, 100, 77, 80 + q / 6 % 2, if q % 2 = 0 then 0 else flI (q / 12 % 4).toNat⟩
def pkO (q : Int) : Pk := ⟨prQ q, 77, 80 + q / 2 % 2, 1, 2000 + q / 4 % 48, if q % 2 = 0 then 0 else flO (q / 4 % 4).toNat⟩
theorem proto_any (q : Int) (q0 : 0 ≤ q) (w : World) : Calls Tryz.prog 97 #[.int .i64 q] w fun e w' => e = .returned (.int .i64 (prQ q)) ∧ w' = w := by
  by_cases h : q % 2 = 0
  · have e : prQ q = 1 := if_pos h
    rw [e]
    clear e
    go_enter Tryz.func97, Tryz.ntmps97
    go_wp2_with fail
    go_ret
    exact ⟨rfl, rfl⟩
  · have e : prQ q = 2 := if_neg h
    rw [e]
    have h1 : (q % 2 == 0) = false := beq_eq_false_iff_ne.2 h
    clear e h
    go_enter Tryz.func97, Tryz.ntmps97
    go_wp2_with fail
    go_ret
    exact ⟨rfl, rfl⟩
theorem farEnd_any (q : Int) (q0 : 0 ≤ q) (w : World) : Calls Tryz.prog 98 #[.int .i64 q] w fun e w' => e = .returned (.agg #[.int .i64 77, .int .i64 (80 + q % 2)]) ∧ Below w.heap.size w w' := by
  have e2 : q % 2 < 2 := by omega
  have e3 : (0 : Int) ≤ q % 2 := by omega
  go_enter Tryz.func98, Tryz.ntmps98
  go_wp2_with fail
  exact bodyPost_ret (v := .agg #[.int .i64 77, .int .i64 (80 + q % 2)]) (by simp [results, Tryz.results98, go_sem]) rfl ⟨rfl, aB _ _⟩
set_option maxRecDepth 100000 in
set_option maxHeartbeats 1000000 in
theorem fromInside_any (q : Int) (q0 : 0 ≤ q) (q1 : q ≤ 9223372036854775807) (w : World) (F : PyF w) : Calls Tryz.prog 67 #[.int .i64 q] w fun e w' => e = .returned (pkI q).v ∧ Below w.heap.size w w' := by
  have HF : Hid (PyF w) := F
  clear F
  have a0 : (0 : Int) ≤ q / 2 := by omega
  have a1 : q / 2 % 3 < 3 := by omega
  have a2 : (0 : Int) ≤ q / 2 % 3 := by omega
  have a3 : (0 : Int) ≤ q / 6 := by omega
  have a4 : (0 : Int) ≤ q / 4 := by omega
  have a5 : (0 : Int) ≤ q / 4 % 48 := by omega
  have a6 : q / 4 % 48 < 48 := by omega
  go_enter Tryz.func67, Tryz.ntmps67
  go_wp2_with fail
  refine (proto_any q q0 _).mono ?_
  rintro e w2 ⟨rfl, rfl⟩
  go_wp2_with fail
  refine (farEnd_any (q / 6) (by omega) _).mono ?_
  rintro e w3 ⟨rfl, b3⟩
  have Z3 : Hid (PkZ w3 w.heap.size noP) := (PkZ.zero w).below b3
  have B3 : Hid (Below w.heap.size w w3) := t2 (aB _ _) b3
  clear b3
  obtain ⟨Q, hQe⟩ : ∃ Q, Q = w.heap.size := ⟨_, rfl⟩
  have HQE : Hid (w.heap.size ≤ Q) := (by omega : w.heap.size ≤ Q)
  rw [← hQe] at Z3 ⊢
  have hQ : Q < w3.heap.size := Z3.out.lt
  clear hQe
  by_cases hp : q % 2 = 0
  · have e1 : prQ q = 1 := if_pos hp
    have HpkI : Hid (pkI q = ⟨1, 10 + q / 2 % 3, 100, 77, 80 + q / 6 % 2, 0⟩) := by show pkI q = _; unfold pkI; rw [if_pos hp, e1]
    rw [e1]
    clear e1 hp
    obtain ⟨w5, hst, z5, c5⟩ := pkz_store (Z3.out.below (aB w3 (.cells #[.int .i64 1, .int .i64 (10 + q / 2 % 3), .int .i64 100, .int .i64 77, .int .i64 (80 + q / 6 % 2), .int .i64 0] 131))) ⟨1, 10 + q / 2 % 3, 100, 77, 80 + q / 6 % 2, 0⟩
    have Z5 : Hid (PkZ w5 Q ⟨1, 10 + q / 2 % 3, 100, 77, 80 + q / 6 % 2, 0⟩ ∧ Below w.heap.size w w5) := ⟨z5, Chg.below (t2 B3.out (aB _ _)) c5 HQE.out⟩
    clear z5 c5
    go_wp2_with (refine wpList_store_eq rfl 131 _ _ rfl _ _ _ rfl rfl hst ?_)
    clear hst
    have b := Z5.out.1.b
    exact bodyPost_ret (v := Pk.v ⟨1, 10 + q / 2 % 3, 100, 77, 80 + q / 6 % 2, 0⟩) (by simp [results, Tryz.results67, go_sem, b.c0, b.c1, b.c2, b.c3, b.c4, b.c5, Pk.v]) rfl ⟨by rw [HpkI.out], Z5.out.2⟩
  · have e1 : prQ q = 2 := if_neg hp
    have a7 : (0 : Int) ≤ q / 12 % 4 := by omega
    have a8 : q / 12 % 4 < 4 := by omega
    have a9 : (0 : Int) ≤ q / 12 := by omega
    obtain ⟨fl, hfl⟩ : ∃ fl, fl = flI (q / 12 % 4).toNat := ⟨_, rfl⟩
    have HpkI : Hid (pkI q = ⟨2, 10 + q / 2 % 3, 100, 77, 80 + q / 6 % 2, fl⟩) := by show pkI q = _; unfold pkI; rw [if_neg hp, e1, hfl]
    have g3 : w3.cell? ⟨12, (q / 12 % 4).toNat, none⟩ = some (.int .i64 fl) := by rw [hfl]; exact tk B3.out (HF.out.i _ (by omega))
    rw [e1]
    clear e1 hp hfl
    obtain ⟨w5, hst, z5, c5⟩ := pkz_store (Z3.out.below (aB w3 (.cells #[.int .i64 2, .int .i64 (10 + q / 2 % 3), .int .i64 100, .int .i64 77, .int .i64 (80 + q / 6 % 2), .int .i64 fl] 131))) ⟨2, 10 + q / 2 % 3, 100, 77, 80 + q / 6 % 2, fl⟩
    have Z5 : Hid (PkZ w5 Q ⟨2, 10 + q / 2 % 3, 100, 77, 80 + q / 6 % 2, fl⟩ ∧ Below w.heap.size w w5) := ⟨z5, Chg.below (t2 B3.out (aB _ _)) c5 HQE.out⟩
    clear z5 c5
    have hG : 12 < w3.heap.size := tlt g3
    go_wp2_with (refine wpList_store_eq rfl 131 _ _ rfl _ _ _ rfl rfl hst ?_)
    clear hst
    have b := Z5.out.1.b
    exact bodyPost_ret (v := Pk.v ⟨2, 10 + q / 2 % 3, 100, 77, 80 + q / 6 % 2, fl⟩) (by simp [results, Tryz.results67, go_sem, b.c0, b.c1, b.c2, b.c3, b.c4, b.c5, Pk.v]) rfl ⟨by rw [HpkI.out], Z5.out.2⟩
set_option maxRecDepth 100000 in
set_option maxHeartbeats 1000000 in
theorem fromOutside_any (q : Int) (q0 : 0 ≤ q) (q1 : q ≤ 9223372036854775807) (w : World) (F : PyF w) : Calls Tryz.prog 69 #[.int .i64 q] w fun e w' => e = .returned (pkO q).v ∧ Below w.heap.size w w' := by
  have HF : Hid (PyF w) := F
  clear F
  have a0 : (0 : Int) ≤ q / 2 := by omega
  have a1 : q / 2 % 3 < 3 := by omega
  have a2 : (0 : Int) ≤ q / 2 % 3 := by omega
  have a3 : (0 : Int) ≤ q / 6 := by omega
  have a4 : (0 : Int) ≤ q / 4 := by omega
  have a5 : (0 : Int) ≤ q / 4 % 48 := by omega
  have a6 : q / 4 % 48 < 48 := by omega
  go_enter Tryz.func69, Tryz.ntmps69
  go_wp2_with fail
  refine (proto_any q q0 _).mono ?_
  rintro e w2 ⟨rfl, rfl⟩
  go_wp2_with fail
  refine (farEnd_any (q / 2) (by omega) _).mono ?_
  rintro e w3 ⟨rfl, b3⟩
  have Z3 : Hid (PkZ w3 w.heap.size noP) := (PkZ.zero w).below b3
  have B3 : Hid (Below w.heap.size w w3) := t2 (aB _ _) b3
  clear b3
  obtain ⟨Q, hQe⟩ : ∃ Q, Q = w.heap.size := ⟨_, rfl⟩
  have HQE : Hid (w.heap.size ≤ Q) := (by omega : w.heap.size ≤ Q)
  rw [← hQe] at Z3 ⊢
  have hQ : Q < w3.heap.size := Z3.out.lt
  clear hQe
  by_cases hp : q % 2 = 0
  · have e1 : prQ q = 1 := if_pos hp
    have HpkO : Hid (pkO q = ⟨1, 77, 80 + q / 2 % 2, 1, 2000 + q / 4 % 48, 0⟩) := by show pkO q = _; unfold pkO; rw [if_pos hp, e1]
    rw [e1]
    clear e1 hp
    obtain ⟨w5, hst, z5, c5⟩ := pkz_store (Z3.out.below (aB w3 (.cells #[.int .i64 1, .int .i64 77, .int .i64 (80 + q / 2 % 2), .int .i64 1, .int .i64 (2000 + q / 4 % 48), .int .i64 0] 131))) ⟨1, 77, 80 + q / 2 % 2, 1, 2000 + q / 4 % 48, 0⟩
    have Z5 : Hid (PkZ w5 Q ⟨1, 77, 80 + q / 2 % 2, 1, 2000 + q / 4 % 48, 0⟩ ∧ Below w.heap.size w w5) := ⟨z5, Chg.below (t2 B3.out (aB _ _)) c5 HQE.out⟩
    clear z5 c5
    go_wp2_with (refine wpList_store_eq rfl 131 _ _ rfl _ _ _ rfl rfl hst ?_)
    clear hst
    have b := Z5.out.1.b
    exact bodyPost_ret (v := Pk.v ⟨1, 77, 80 + q / 2 % 2, 1, 2000 + q / 4 % 48, 0⟩) (by simp [results, Tryz.results69, go_sem, b.c0, b.c1, b.c2, b.c3, b.c4, b.c5, Pk.v]) rfl ⟨by rw [HpkO.out], Z5.out.2⟩
  · have e1 : prQ q = 2 := if_neg hp
    have a7 : (0 : Int) ≤ q / 4 % 4 := by omega
    have a8 : q / 4 % 4 < 4 := by omega
    have a9 : (0 : Int) ≤ q / 4 := by omega
    obtain ⟨fl, hfl⟩ : ∃ fl, fl = flO (q / 4 % 4).toNat := ⟨_, rfl⟩
    have HpkO : Hid (pkO q = ⟨2, 77, 80 + q / 2 % 2, 1, 2000 + q / 4 % 48, fl⟩) := by show pkO q = _; unfold pkO; rw [if_neg hp, e1, hfl]
    have g3 : w3.cell? ⟨13, (q / 4 % 4).toNat, none⟩ = some (.int .i64 fl) := by rw [hfl]; exact tk B3.out (HF.out.o _ (by omega))
    rw [e1]
    clear e1 hp hfl
    obtain ⟨w5, hst, z5, c5⟩ := pkz_store (Z3.out.below (aB w3 (.cells #[.int .i64 2, .int .i64 77, .int .i64 (80 + q / 2 % 2), .int .i64 1, .int .i64 (2000 + q / 4 % 48), .int .i64 fl] 131))) ⟨2, 77, 80 + q / 2 % 2, 1, 2000 + q / 4 % 48, fl⟩
    have Z5 : Hid (PkZ w5 Q ⟨2, 77, 80 + q / 2 % 2, 1, 2000 + q / 4 % 48, fl⟩ ∧ Below w.heap.size w w5) := ⟨z5, Chg.below (t2 B3.out (aB _ _)) c5 HQE.out⟩
    clear z5 c5
    have hG : 13 < w3.heap.size := tlt g3
    go_wp2_with (refine wpList_store_eq rfl 131 _ _ rfl _ _ _ rfl rfl hst ?_)
    clear hst
    have b := Z5.out.1.b
    exact bodyPost_ret (v := Pk.v ⟨2, 77, 80 + q / 2 % 2, 1, 2000 + q / 4 % 48, fl⟩) (by simp [results, Tryz.results69, go_sem, b.c0, b.c1, b.c2, b.c3, b.c4, b.c5, Pk.v]) rfl ⟨by rw [HpkO.out], Z5.out.2⟩
end Go.Proofs.YtdghkkpncgljoaaGreatDoor
